/- The reference's folded. -/
import Derived.Test.YtgkglielcbgpiaaR5
namespace Go.Proofs.Ytgkglielcbgpiaa
open Go.RowKit

theorem valD_add (f : Nat → Nat) (m : Nat) : ∀ n, valD f (m + n) = valD f m + 4294967296 ^ m * valD (fun i => f (i + m)) n
  | 0 => by simp [valD]
  | n + 1 => by
    rw [← Nat.add_assoc, valD, valD_add f m n, valD, Nat.mul_add, Nat.pow_add, Nat.add_comm n m, Nat.mul_assoc]
    omega
/-- the first eight digits' number -/
theorem val17 (f : Nat → Nat) : valD f 17 = valD f 8 + W4 * hiN f := by
  rw [show 17 = 8 + 9 from rfl, valD_add f 8 9, W4_pow]
  rfl
/-- what a round of folded reckons, digit by digit -/
structure FoI (f g : Nat → Nat) (k c : Nat) : Prop where
  lt : ∀ i, g i < 4294967296
  z : ∀ i, k ≤ i → g i = 0
  cl : c ≤ 39
  e : valD g k + 4294967296 ^ k * c = valD f (min k 8) + 38 * valD (fun i => f (i + 8)) k
theorem fo_start (f : Nat → Nat) : FoI f (fun _ => 0) 0 0 := ⟨fun _ => by show 0 < _; omega, fun _ _ => rfl, by omega, by simp [valD]⟩
theorem fo_step {f g : Nat → Nat} {k c : Nat} (h : FoI f g k c) (hk : k < 8) (hf : ∀ i, f i < 4294967296) :
    FoI f (upd g k ((c + f k + 38 * f (k + 8)) % 4294967296)) (k + 1) ((c + f k + 38 * f (k + 8)) / 4294967296) := by
  have h0 := hf k
  have h1 := hf (k + 8)
  have hc := h.cl
  refine ⟨upd_lt h.lt (Nat.mod_lt _ (by decide)), fun i hi => ?_, by omega, ?_⟩
  · unfold upd
    rw [if_neg (by omega)]
    exact h.z i (by omega)
  · have e := h.e
    rw [Nat.min_eq_left (by omega)] at e
    rw [valD_upd1, Nat.min_eq_left (by omega), valD, valD, Nat.pow_succ]
    have e2 : 4294967296 ^ k * ((c + f k + 38 * f (k + 8)) % 4294967296) + 4294967296 ^ k * 4294967296 * ((c + f k + 38 * f (k + 8)) / 4294967296) = 4294967296 ^ k * c + 4294967296 ^ k * f k + 38 * (4294967296 ^ k * f (k + 8)) := by
      rw [Nat.mul_assoc, ← Nat.mul_add, Nat.mod_add_div, Nat.mul_add, Nat.mul_add, Nat.mul_left_comm 38]
    omega
theorem fo_last {f g : Nat → Nat} {c : Nat} (h : FoI f g 8 c) (hf : ∀ i, f i < 4294967296) :
    FoI f (upd g 8 ((c + 38 * f 16) % 4294967296)) 9 ((c + 38 * f 16) / 4294967296) := by
  have h1 := hf 16
  have hc := h.cl
  refine ⟨upd_lt h.lt (Nat.mod_lt _ (by decide)), fun i hi => ?_, by omega, ?_⟩
  · unfold upd
    rw [if_neg (by omega)]
    exact h.z i (by omega)
  · have e := h.e
    rw [valD_upd1]
    show _ = valD f 8 + 38 * (valD (fun i => f (i + 8)) 8 + 4294967296 ^ 8 * f 16)
    have e1 : min 8 8 = 8 := rfl
    rw [e1] at e
    have e2 : 4294967296 ^ 8 * ((c + 38 * f 16) % 4294967296) + 4294967296 ^ 9 * ((c + 38 * f 16) / 4294967296) = 4294967296 ^ 8 * c + 38 * (4294967296 ^ 8 * f 16) := by
      rw [Nat.pow_succ 4294967296 8, Nat.mul_assoc, ← Nat.mul_add, Nat.mod_add_div, Nat.mul_add, Nat.mul_left_comm 38]
    omega
theorem fo_end {f g : Nat → Nat} {c : Nat} (h : FoI f g 9 c) : (∀ i, upd g 9 c i < 4294967296) ∧ valD (upd g 9 c) 17 = valD f 8 + 38 * hiN f := by
  have hc := h.cl
  refine ⟨upd_lt h.lt (by omega), ?_⟩
  rw [show 17 = 10 + 7 from rfl, valD_add _ 10 7, valD_zero (f := fun i => upd g 9 c (i + 10)) (fun i _ => by unfold upd; rw [if_neg (by omega)]; exact h.z _ (by omega)), Nat.mul_zero, Nat.add_zero]
  show valD (upd g 9 c) (9 + 1) = _
  rw [valD_upd1, h.e]
  rfl
theorem fo_mod (L H : Nat) : (L + 38 * H) % PP = (L + W4 * H) % PP := by
  have : L + W4 * H = (L + 38 * H) + PP * (2 * H) := by
    unfold W4 PP
    omega
  rw [this, Nat.add_mul_mod_self_left]
/-- the first k of them -/
def preF (f : Nat → Nat) (k : Nat) : Nat → Nat := fun i => if i < k then f i else 0
theorem upd_preF (f : Nat → Nat) (k i : Nat) : upd (preF f k) k (f k) i = preF f (k + 1) i := by
  unfold upd preF
  by_cases e : i = k
  · subst e; rw [if_pos rfl, if_pos (by omega)]
  · rw [if_neg e]
    by_cases h : i < k
    · rw [if_pos h, if_pos (by omega)]
    · rw [if_neg h, if_neg (by omega)]
/-- the number that block g holds in words -/
def readT (w : World) (g : Nat) : Nat := valD (fun i => match w.cell? ⟨g, i, none⟩ with | some (.int _ x) => x.toNat | _ => 0) 17
theorem readT_of {w : World} {g : Nat} {t : TypeId} {f : Nat → Nat} (h : Rw w g t .u64 17 f) : readT w g = valD f 17 := by
  unfold readT
  refine valD_ext fun i hi => ?_
  rw [h.cell hi]
  exact Int.toNat_natCast _

theorem E8z.one {w : World} {g h k : Nat} {v : Value} (e : E8z w h) (hn : h ≠ g) : E8z (w.setCell ⟨g, k, none⟩ v) h := by
  have q : ∀ i, (w.setCell ⟨g, k, none⟩ v).cell? ⟨h, i, none⟩ = w.cell? ⟨h, i, none⟩ := fun i => World.cell?_setCell_far w ⟨g, k, none⟩ ⟨h, i, none⟩ v (fun x => hn x.symm)
  have r : ∀ i, (w.setCell ⟨g, k, none⟩ v).frozen? ⟨h, i, none⟩ = w.frozen? ⟨h, i, none⟩ := fun i => World.frozen?_setCell ..
  exact ⟨(q _).trans e.c0, (q _).trans e.c1, (q _).trans e.c2, (q _).trans e.c3, (q _).trans e.c4, (q _).trans e.c5, (q _).trans e.c6, (q _).trans e.c7, (r _).trans e.f0, (r _).trans e.f1, (r _).trans e.f2, (r _).trans e.f3, (r _).trans e.f4, (r _).trans e.f5, (r _).trans e.f6, (r _).trans e.f7⟩
theorem E8z.row {w : World} {g h : Nat} {cs : Array Value} (e : E8z w h) (hn : h ≠ g) : E8z (w.setRow g cs) h := by
  have q : ∀ i, (w.setRow g cs).cell? ⟨h, i, none⟩ = w.cell? ⟨h, i, none⟩ := fun i => World.cell?_of_block (setRow_other w g h cs hn)
  have r : ∀ i, (w.setRow g cs).frozen? ⟨h, i, none⟩ = w.frozen? ⟨h, i, none⟩ := fun i => World.frozen?_of_block (setRow_other w g h cs hn)
  exact ⟨(q _).trans e.c0, (q _).trans e.c1, (q _).trans e.c2, (q _).trans e.c3, (q _).trans e.c4, (q _).trans e.c5, (q _).trans e.c6, (q _).trans e.c7, (r _).trans e.f0, (r _).trans e.f1, (r _).trans e.f2, (r _).trans e.f3, (r _).trans e.f4, (r _).trans e.f5, (r _).trans e.f6, (r _).trans e.f7⟩

set_option maxRecDepth 100000 in
set_option maxHeartbeats 4000000 in
theorem foldedE {f : Nat → Nat} {cs : Array Value} (hcs : cs = rowF .u64 17 f) (hf : ∀ i, f i < 4294967296) (w : World) : Calls Try.prog 48 #[.agg cs] w fun e w' => e = .returned (.agg #[.int .u32 (dig (valD f 17 % PP) 0 : Int), .int .u32 (dig (valD f 17 % PP) 1 : Int), .int .u32 (dig (valD f 17 % PP) 2 : Int), .int .u32 (dig (valD f 17 % PP) 3 : Int), .int .u32 (dig (valD f 17 % PP) 4 : Int), .int .u32 (dig (valD f 17 % PP) 5 : Int), .int .u32 (dig (valD f 17 % PP) 6 : Int), .int .u32 (dig (valD f 17 % PP) 7 : Int)]) ∧ Below w.heap.size w w' := by
  obtain ⟨N, hN⟩ : ∃ N, N = valD f 17 % PP := ⟨_, rfl⟩
  rw [← hN]
  have hA : Rw ((w.alloc (.cells cs 80)).alloc (.cells #[.int .u32 0, .int .u32 0, .int .u32 0, .int .u32 0, .int .u32 0, .int .u32 0, .int .u32 0, .int .u32 0] 34)) w.heap.size 80 .u64 17 f := (Rw.new w _ _ _ _ hcs).alloc _
  have hZ : E8z ((w.alloc (.cells cs 80)).alloc (.cells #[.int .u32 0, .int .u32 0, .int .u32 0, .int .u32 0, .int .u32 0, .int .u32 0, .int .u32 0, .int .u32 0] 34)) (w.heap.size + 1) := by
    have h := E8z.new (w.alloc (.cells cs 80))
    simpa using h
  have HA := Lib.hid hA; have HZ := Lib.hid hZ; have HF := Lib.hid hf; have HN := Lib.hid hN
  clear hA hZ hN hcs hf
  go_enter Try.func48, Try.ntmps48
  go_wp2_with fail
  go_loopw [] (fun wr => ∃ f : Nat → Nat, Hid ((∀ i, f i < 4294967296) ∧ valD f 17 % PP = N) ∧ Hid (Below w.heap.size w wr) ∧ Hid (Rw wr w.heap.size 80 .u64 17 f) ∧ Hid (E8z wr (w.heap.size + 1))) (fun wr => readT wr w.heap.size)
  case atStart => exact ⟨f, Lib.hid ⟨HF.out, HN.out.symm⟩, Lib.hid (((Below.refl _ _).alloc (Nat.le_refl _) _).alloc (by simp) _), HA, HZ⟩
  case round =>
    clear HA HZ HN HF
    obtain ⟨f, hf, hbe, hr, hz⟩ := hrel
    have y1 : w.heap.size + 1 < wr.heap.size := World.block_lt_of_cell? wr ⟨w.heap.size + 1, 0, none⟩ hz.out.c0
    have y0 : w.heap.size < wr.heap.size := by omega
    obtain ⟨cs, hcs⟩ : ∃ cs, cs = rowF .u64 17 f := ⟨_, rfl⟩
    have hrow : Hid (wr.heap[w.heap.size]? = some (.cells cs 80 (0, 0))) := by rw [hcs]; exact hr
    have hi : Hid ((Try.prog.info? 80).map (·.size) = some cs.size) := Lib.hid (by rw [hcs]; exact hi17)
    have C1 := Lib.hid (fun W => highE hcs W)
    have HCS := Lib.hid hcs
    clear hcs
    by_cases hp : 0 < hiN f
    · have hd : decide (0 < hiN f) = true := decide_eq_true hp
      rw [hd] at C1
      have HP := Lib.hid hp
      clear hp hd
      go_wp2_with (with_reducible refine wpList_load_row rfl 80 (.tmp 1) rfl (w.heap.size) rfl 80 cs (0, 0) _ hrow.out Try.underlying80 rfl hi.out ?_)
      with_reducible refine (C1.out _).mono ?_
      rintro e w1 ⟨rfl, hb1⟩
      have B1 := Lib.hid hb1
      obtain ⟨hc1, hf1⟩ := bcell hb1
      have zz1 := hb1.size
      try simp only [World.size_alloc] at zz1
      have z1_0 : w.heap.size + 1 < w1.heap.size := by omega
      have z1_1 : w.heap.size < w1.heap.size := by omega
      clear hb1 zz1
      have hG : Rw (w1.alloc (.cells #[.int .u64 0, .int .u64 0, .int .u64 0, .int .u64 0, .int .u64 0, .int .u64 0, .int .u64 0, .int .u64 0, .int .u64 0, .int .u64 0, .int .u64 0, .int .u64 0, .int .u64 0, .int .u64 0, .int .u64 0, .int .u64 0, .int .u64 0] 80)) w1.heap.size 80 .u64 17 (fun _ => 0) := Rw.new w1 80 .u64 17 (fun _ => 0) (cs := #[.int .u64 0, .int .u64 0, .int .u64 0, .int .u64 0, .int .u64 0, .int .u64 0, .int .u64 0, .int .u64 0, .int .u64 0, .int .u64 0, .int .u64 0, .int .u64 0, .int .u64 0, .int .u64 0, .int .u64 0, .int .u64 0, .int .u64 0]) rfl
      have hF : Rw (w1.alloc (.cells #[.int .u64 0, .int .u64 0, .int .u64 0, .int .u64 0, .int .u64 0, .int .u64 0, .int .u64 0, .int .u64 0, .int .u64 0, .int .u64 0, .int .u64 0, .int .u64 0, .int .u64 0, .int .u64 0, .int .u64 0, .int .u64 0, .int .u64 0] 80)) w.heap.size 80 .u64 17 f := (hr.out.below B1.out y0).alloc _
      have hZ : E8z (w1.alloc (.cells #[.int .u64 0, .int .u64 0, .int .u64 0, .int .u64 0, .int .u64 0, .int .u64 0, .int .u64 0, .int .u64 0, .int .u64 0, .int .u64 0, .int .u64 0, .int .u64 0, .int .u64 0, .int .u64 0, .int .u64 0, .int .u64 0, .int .u64 0] 80)) (w.heap.size + 1) := (hz.out.below B1.out y1).below ((Below.refl w1.heap.size _).alloc (Nat.le_refl _) _) (by omega)
      have hBe : Below w.heap.size w (w1.alloc (.cells #[.int .u64 0, .int .u64 0, .int .u64 0, .int .u64 0, .int .u64 0, .int .u64 0, .int .u64 0, .int .u64 0, .int .u64 0, .int .u64 0, .int .u64 0, .int .u64 0, .int .u64 0, .int .u64 0, .int .u64 0, .int .u64 0, .int .u64 0] 80)) := (hbe.out.trans (B1.out.mono (by omega))).alloc (by omega) _
      have HG := Lib.hid hG; have HF := Lib.hid hF; have HZ := Lib.hid hZ; have HBe := Lib.hid hBe
      clear hG hF hZ hBe
      go_wp2_with fail
      clear hc1 hf1
      obtain ⟨g3, hg3⟩ : ∃ g3, g3 = w1.heap.size := ⟨_, rfl⟩
      rw [← hg3] at HG ⊢
      have hg3a : w.heap.size + 1 < g3 := by omega
      have hwr : g3 ≥ wr.heap.size := by rw [hg3]; exact B1.out.size
      clear hg3
      go_loopw [4, 5] (fun c i wq => ∃ k c' : Nat, ∃ g : Nat → Nat, k ≤ 9 ∧ c = .int .u64 c' ∧ i = .int .i64 k ∧ Hid (FoI f g k c') ∧ Hid (Rw wq g3 80 .u64 17 g) ∧ Hid (Rw wq w.heap.size 80 .u64 17 f) ∧ Hid (E8z wq (w.heap.size + 1)) ∧ Hid (Below w.heap.size w wq)) (fun _ i _ => 9 - (intOf i).toNat)
      case atStart => exact ⟨0, 0, fun _ => 0, by omega, rfl, rfl, Lib.hid (fo_start f), HG, HF, HZ, HBe⟩
      case round =>
        clear HG HF HZ HBe
        obtain ⟨k, c, g, hk, rfl, rfl, hfo, hg, hff, hzz, hbb⟩ := hrel
        have k0 : (0 : Int) ≤ (k : Int) := Int.natCast_nonneg _
        have cl := hfo.out.cl
        by_cases h9 : k < 9
        · have q0 := hg.out.cell (j := k) (by omega)
          have qf := hg.out.frozen (j := k)
          have q1 := hff.out.cell (j := k + 8) (by omega)
          have b1 := hf.out.1 (k + 8)
          have k9 : (k : Int) < 9 := by omega
          by_cases h8 : k < 8
          · have q2 := hff.out.cell (j := k) (by omega)
            have b2 := hf.out.1 k
            have HST := Lib.hid (fo_step hfo.out h8 hf.out.1)
            obtain ⟨x, hx⟩ : ∃ x, x = f k := ⟨_, rfl⟩
            obtain ⟨y, hy⟩ : ∃ y, y = f (k + 8) := ⟨_, rfl⟩
            rw [← hx] at q2 b2 HST
            rw [← hy] at q1 b1 HST
            clear hx hy
            have k8 : (k : Int) < 8 := by omega
            obtain ⟨m, hm⟩ : ∃ m, m = c + x + 38 * y := ⟨_, rfl⟩
            rw [← hm] at HST
            have e1 : Hid (((c : Int) + (x : Int) + 38 * (y : Int)) % 4294967296 = ((m % 4294967296 : Nat) : Int)) := Lib.hid (by omega)
            have e2 : Hid (((c : Int) + (x : Int) + 38 * (y : Int)) / 4294967296 = ((m / 4294967296 : Nat) : Int)) := Lib.hid (by omega)
            clear hm
            go_wp2_with fail
            rw [e1.out, e2.out]
            go_roundw
            case rel =>
              exact ⟨k + 1, _, _, by omega, rfl, by go_num, HST, Lib.hid (hg.out.set k _), Lib.hid (hff.out.far (by omega)), Lib.hid (hzz.out.one (by omega)), Lib.hid (hbb.out.setCell (by show _ ≤ _; simp only; omega) _)⟩
            case measure => simp [intOf]; omega
          · obtain rfl : k = 8 := by omega
            have HST := Lib.hid (fo_last hfo.out hf.out.1)
            obtain ⟨y, hy⟩ : ∃ y, y = f 16 := ⟨_, rfl⟩
            replace q1 : wr.cell? ⟨w.heap.size, 16, none⟩ = some (.int .u64 (y : Int)) := by rw [hy]; exact q1
            replace b1 : y < 4294967296 := by rw [hy]; exact b1
            rw [← hy] at HST
            clear hy
            obtain ⟨m, hm⟩ : ∃ m, m = c + 38 * y := ⟨_, rfl⟩
            rw [← hm] at HST
            have e1 : Hid (((c : Int) + 38 * (y : Int)) % 4294967296 = ((m % 4294967296 : Nat) : Int)) := Lib.hid (by omega)
            have e2 : Hid (((c : Int) + 38 * (y : Int)) / 4294967296 = ((m / 4294967296 : Nat) : Int)) := Lib.hid (by omega)
            clear hm
            rw [show ((8 : Nat) : Int) = 8 from rfl]
            go_wp2_with fail
            rw [e1.out, e2.out]
            go_roundw
            case rel =>
              exact ⟨9, _, _, by omega, rfl, rfl, HST, Lib.hid (hg.out.set 8 _), Lib.hid (hff.out.far (by omega)), Lib.hid (hzz.out.one (by omega)), Lib.hid (hbb.out.setCell (by show _ ≤ _; simp only; omega) _)⟩
            case measure => simp [intOf]
        · obtain rfl : k = 9 := by omega
          have hen := fo_end hfo.out
          have q0 := hg.out.cell (j := 9) (by omega)
          have qf := hg.out.frozen (j := 9)
          obtain ⟨vs, hvs⟩ : ∃ vs, vs = rowF .u64 17 (upd g 9 c) := ⟨_, rfl⟩
          have h1' := hg.out.set 9 c
          have hrow2 : Hid ((wr.setCell ⟨g3, 9, none⟩ (.int .u64 (c : Int))).heap[g3]? = some (.cells vs 80 (0, 0))) := by rw [hvs]; exact Lib.hid h1'
          have hi2 : Hid ((Try.prog.info? 80).map (·.size) = some vs.size) := Lib.hid (by rw [hvs]; exact hi17)
          have ho2 : Hid (cs.size = vs.size) := Lib.hid (by rw [hvs, HCS.out, rowF_size, rowF_size])
          have hone : Hid (vs.all (·.oneCell') = true) := Lib.hid (by rw [hvs]; exact rowF_one _ _ _)
          have hff2 := hff.out.far (g' := g3) (i := 9) (v := .int .u64 (c : Int)) (by omega)
          have hold : Hid ((wr.setCell ⟨g3, 9, none⟩ (.int .u64 (c : Int))).heap[w.heap.size]? = some (.cells cs 80 (0, 0))) := by rw [HCS.out]; exact Lib.hid hff2
          have hzz2 := hzz.out.one (g := g3) (k := 9) (v := .int .u64 (c : Int)) (by omega)
          have hbb2 : Below w.heap.size w (wr.setCell ⟨g3, 9, none⟩ (.int .u64 (c : Int))) := hbb.out.setCell (by show _ ≤ _; simp only; omega) _
          obtain ⟨wz, hwz⟩ : ∃ wz, wz = wr.setCell ⟨g3, 9, none⟩ (.int .u64 (c : Int)) := ⟨_, rfl⟩
          rw [← hwz] at hrow2 hold hzz2 hbb2
          have hnew : Rw (wz.setRow w.heap.size vs) w.heap.size 80 .u64 17 (upd g 9 c) := by
            show _ = _
            rw [← hvs]
            exact setRow_heap wz w.heap.size _ _ _ _ hold.out
          have hval : Hid ((∀ i, upd g 9 c i < 4294967296) ∧ valD (upd g 9 c) 17 % PP = N) := Lib.hid ⟨hen.1, by rw [hen.2, fo_mod, ← val17, hf.out.2]⟩
          have hlt : Hid (valD (upd g 9 c) 17 < valD f 17) := Lib.hid (by
            rw [hen.2, val17]
            have h1 := HP.out
            have h2 : 39 ≤ W4 := by decide
            have h3 : 39 * hiN f ≤ W4 * hiN f := Nat.mul_le_mul_right _ h2
            omega)
          have HN := Lib.hid hnew; have HZ2 := Lib.hid (hzz2.row (g := w.heap.size) (cs := vs) (by omega)); have HB2 := Lib.hid (row_below hbb2 (Nat.le_refl _) hbb2.size (cs := vs)); have HWZ := Lib.hid hwz
          clear hnew hzz2 hbb2 hwz hen h1' hff2 hvs
          rw [show ((9 : Nat) : Int) = 9 from rfl]
          go_wp2_with (first
            | ((with_reducible refine wpList_load_row rfl 80 (.tmp 3) rfl g3 rfl 80 vs (0, 0) _ (by rw [← HWZ.out]; exact hrow2.out) Try.underlying80 rfl hi2.out ?_); rw [← HWZ.out])
            | (with_reducible refine wpList_store_row rfl 80 (.tmp 1) (.tmp 36) rfl (w.heap.size) vs rfl rfl 80 _ hold.out hi2.out ho2.out hone.out ?_))
          go_roundw
          case rel => exact ⟨_, _, _, _, _, _, _, _, _, _, _, _, _, _, _, _, _, _, _, _, _, _, _, _, _, _, _, _, _, _, _, _, ⟨upd g 9 c, hval, HB2, HN, HZ2⟩, rfl⟩
          case measure =>
            rw [readT_of HN.out, readT_of hr.out]
            exact hlt.out
    · have hd : decide (0 < hiN f) = false := decide_eq_false hp
      rw [hd] at C1
      have HP := Lib.hid hp
      clear hp hd
      go_wp2_with (with_reducible refine wpList_load_row rfl 80 (.tmp 1) rfl (w.heap.size) rfl 80 cs (0, 0) _ hrow.out Try.underlying80 rfl hi.out ?_)
      with_reducible refine (C1.out _).mono ?_
      rintro e w1 ⟨rfl, hb1⟩
      have B1 := Lib.hid hb1
      obtain ⟨hc1, hf1⟩ := bcell hb1
      have zz1 := hb1.size
      try simp only [World.size_alloc] at zz1
      have z1_0 : w.heap.size + 1 < w1.heap.size := by omega
      have z1_1 : w.heap.size < w1.heap.size := by omega
      clear hb1 zz1
      have hR : Rw (w1.alloc (.cells #[.int .u32 0, .int .u32 0, .int .u32 0, .int .u32 0, .int .u32 0, .int .u32 0, .int .u32 0, .int .u32 0] 34)) w1.heap.size 34 .u32 8 (preF f 0) := Rw.new w1 34 .u32 8 (preF f 0) (cs := #[.int .u32 0, .int .u32 0, .int .u32 0, .int .u32 0, .int .u32 0, .int .u32 0, .int .u32 0, .int .u32 0]) rfl
      have hF : Rw (w1.alloc (.cells #[.int .u32 0, .int .u32 0, .int .u32 0, .int .u32 0, .int .u32 0, .int .u32 0, .int .u32 0, .int .u32 0] 34)) w.heap.size 80 .u64 17 f := (hr.out.below B1.out y0).alloc _
      have hZ : E8z (w1.alloc (.cells #[.int .u32 0, .int .u32 0, .int .u32 0, .int .u32 0, .int .u32 0, .int .u32 0, .int .u32 0, .int .u32 0] 34)) (w.heap.size + 1) := (hz.out.below B1.out y1).below ((Below.refl w1.heap.size _).alloc (Nat.le_refl _) _) (by omega)
      have hBe : Below w.heap.size w (w1.alloc (.cells #[.int .u32 0, .int .u32 0, .int .u32 0, .int .u32 0, .int .u32 0, .int .u32 0, .int .u32 0, .int .u32 0] 34)) := (hbe.out.trans (B1.out.mono (by omega))).alloc (by omega) _
      have HG := Lib.hid hR; have HF := Lib.hid hF; have HZ := Lib.hid hZ; have HBe := Lib.hid hBe
      clear hR hF hZ hBe
      go_wp2_with fail
      clear hc1 hf1
      obtain ⟨g3, hg3⟩ : ∃ g3, g3 = w1.heap.size := ⟨_, rfl⟩
      rw [← hg3] at HG ⊢
      have hg3a : w.heap.size + 1 < g3 := by omega
      clear hg3
      have hV : Hid (valD f 8 < W4 ∧ valD f 8 % PP = N ∧ ∀ i, i < 8 → f i = dig (valD f 8) i) := Lib.hid ⟨by rw [W4_pow]; exact valD_lt hf.out.1 8, by
        rw [← hf.out.2, val17]
        have : hiN f = 0 := by have := HP.out; omega
        rw [this, Nat.mul_zero, Nat.add_zero], fun i hi => (dig_valD hf.out.1 hi).symm⟩
      go_loopw [7] (fun i wq => ∃ k : Nat, k ≤ 8 ∧ i = .int .i64 k ∧ Hid (Rw wq g3 34 .u32 8 (preF f k)) ∧ Hid (Rw wq w.heap.size 80 .u64 17 f) ∧ Hid (E8z wq (w.heap.size + 1)) ∧ Hid (Below w.heap.size w wq)) (fun i _ => 8 - (intOf i).toNat)
      case atStart => exact ⟨0, by omega, rfl, HG, HF, HZ, HBe⟩
      case round =>
        clear HG HF HZ HBe
        obtain ⟨k, hk, rfl, hg, hff, hzz, hbb⟩ := hrel
        have k0 : (0 : Int) ≤ (k : Int) := Int.natCast_nonneg _
        by_cases h8 : k < 8
        · have q0 := hg.out.cell (j := k) (by omega)
          have qf := hg.out.frozen (j := k)
          have q1 := hff.out.cell (j := k) (by omega)
          have b1 := hf.out.1 k
          have k8 : (k : Int) < 8 := by omega
          have HST := Lib.hid ((hg.out.set k (f k)).ext fun i _ => upd_preF f k i)
          obtain ⟨x, hx⟩ : ∃ x, x = f k := ⟨_, rfl⟩
          rw [← hx] at q1 b1 HST
          clear hx
          go_wp2_with fail
          go_roundw
          case rel =>
            exact ⟨k + 1, by omega, by go_num, HST, Lib.hid (hff.out.far (by omega)), Lib.hid (hzz.out.one (by omega)), Lib.hid (hbb.out.setCell (by show _ ≤ _; simp only; omega) _)⟩
          case measure => simp [intOf]; omega
        · obtain rfl : k = 8 := by omega
          obtain ⟨U, hU⟩ : ∃ U, U = valD f 8 := ⟨_, rfl⟩
          rw [← hU] at hV
          have CN := Lib.hid (fun W => rnormE hV.out.1 W)
          rw [hV.out.2.1] at CN
          have he := hg.out.ext (f' := dig U) (fun i hi => by unfold preF; rw [if_pos hi]; exact hV.out.2.2 i hi)
          have c0 := he.cell (j := 0) (by omega)
          have c1 := he.cell (j := 1) (by omega)
          have c2 := he.cell (j := 2) (by omega)
          have c3 := he.cell (j := 3) (by omega)
          have c4 := he.cell (j := 4) (by omega)
          have c5 := he.cell (j := 5) (by omega)
          have c6 := he.cell (j := 6) (by omega)
          have c7 := he.cell (j := 7) (by omega)
          have hlt3 := he.lt
          have x0 : w.heap.size + 1 < wr.heap.size := by omega
          have x1 : w.heap.size < wr.heap.size := by omega
          obtain ⟨d0, d1, d2, d3, d4, d5, d6, d7, k0, k1, k2, k3, k4, k5, k6, k7⟩ := hzz.out
          clear hU he
          go_wp2_with fail
          with_reducible refine (CN.out _).mono ?_
          rintro e w2 ⟨rfl, hb2⟩
          have B2 := Lib.hid hb2
          obtain ⟨hc2, hf2⟩ := bcell hb2
          have zz2 := hb2.size
          try simp only [World.size_alloc] at zz2
          have z2_0 : w.heap.size + 1 < w2.heap.size := by omega
          have z2_1 : w.heap.size < w2.heap.size := by omega
          clear hb2 zz2
          go_wp2_with fail
          refine bodyPost_ret (v := .agg #[.int .u32 (dig (N) 0 : Int), .int .u32 (dig (N) 1 : Int), .int .u32 (dig (N) 2 : Int), .int .u32 (dig (N) 3 : Int), .int .u32 (dig (N) 4 : Int), .int .u32 (dig (N) 5 : Int), .int .u32 (dig (N) 6 : Int), .int .u32 (dig (N) 7 : Int)]) (by simp [results, Try.results48, go_sem, *]) rfl ⟨rfl, ?_⟩
          exact set8_below (hbb.out.trans (B2.out.mono (by omega))) (Nat.le_succ _) N
end Go.Proofs.Ytgkglielcbgpiaa
