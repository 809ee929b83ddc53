/- Apart of the reference: lists in memory of their own are told to be apart. -/
import Derived.Test.YthgdficgjldobaaG6
import Derived.StillTailTactics
namespace Go.Proofs.Ythgdficgjldobaa
open Go.RowKit

/-- the lists' bytes when i of them are marked -/
def stA (Ls : Nat → List UInt8) (i r : Nat) : List UInt8 := if r < i then mkL r (Ls r).length else Ls r
theorem stA_len (Ls : Nat → List UInt8) (i r : Nat) : (stA Ls i r).length = (Ls r).length := by
  rw [stA]
  split
  · exact mkL_len _ _
  · rfl
theorem stA_self (Ls : Nat → List UInt8) (i : Nat) : stA Ls i i = Ls i := by rw [stA, if_neg (Nat.lt_irrefl i)]
theorem stA_next (Ls : Nat → List UInt8) (i : Nat) : stA Ls (i + 1) i = mkL i (Ls i).length := by rw [stA, if_pos (Nat.lt_succ_self i)]
theorem stA_other (Ls : Nat → List UInt8) {i r : Nat} (h : r ≠ i) : stA Ls (i + 1) r = stA Ls i r := by
  rw [stA, stA]
  by_cases h1 : r < i
  · rw [if_pos h1, if_pos (by omega)]
  · rw [if_neg h1, if_neg (by omega)]

theorem setCellGrown (w : World) (g i : Nat) (v : Value) : w.grownBy (w.setCell ⟨g, i, none⟩ v) (some g) :=
  ⟨rfl, rfl, rfl, by simp, fun k _ hne => Below.heap_setCell w ⟨g, i, none⟩ v k (fun e => hne (by rw [e]))⟩

/-- the lists and the first i of the grown ones -/
def SG (n : Nat) (us : Nat → Value) (len : Nat → Nat) (i : Nat) (xs : Nat → Value) : Nat → Value → Nat → Prop := fun r v m => (r < n ∧ v = us r ∧ m = len r) ∨ (r < i ∧ v = xs r ∧ m = len r + 16)
/-- the lists, the grown ones, and the first i of those that grew at once -/
def SH (n : Nat) (us : Nat → Value) (len : Nat → Nat) (xs : Nat → Value) (i : Nat) (ys : Nat → Value) : Nat → Value → Nat → Prop := fun r v m => SG n us len n xs r v m ∨ (r < i ∧ v = ys r ∧ m = len r + 40)
theorem ownCs {w : World} {B n : Nat} {e : TypeId} {v : Value} {xs : List Value} (h : w.ownsRow B e 1 v n xs) (hn : n = xs.length) : Cs w w.heap.size v xs := by
  subst hn
  obtain ⟨_, h2⟩ := h
  rcases h2 with ⟨rfl, hn⟩ | ⟨g, cap, cur, rfl, hg, hh, hnc, hcm, hsz, htk⟩
  · have : xs = [] := List.eq_nil_of_length_eq_zero hn
    subst this
    exact ⟨none, 0, rfl, Nat.le_refl _, Nat.zero_le _, fun h => absurd h (by simp)⟩
  · refine ⟨_, _, rfl, hnc, hcm, fun _ => ⟨g, 0, rfl, (Array.getElem?_eq_some_iff.1 hh).1, fun j hj => ?_⟩⟩
    rw [Nat.zero_add, cell_of_row w g j cur _ _ hh]
    have h1 : (cur.toList.take (xs.length * 1))[j]? = xs[j]? := by rw [htk]
    rw [List.getElem?_take, if_pos (by omega)] at h1
    simpa [hj] using h1
theorem own_mark {w : World} {B r m n c j : Nat} {A : Option Addr} (h : Own w B (.slice A n c) (mkL r m)) (hj : j < m) : ∃ b, A = some ⟨b, 0, none⟩ ∧ w.cell? ⟨b, j, none⟩ = some (.int .u8 ((markA r j).toNat : Int)) := by
  obtain ⟨g, e, _, _, hc, _⟩ := h.at_ (j := j) (by rw [mkL_len]; exact hj)
  rw [mkL_at] at hc
  exact ⟨g, e, hc⟩
/-- the new bytes after p marks -/
def manyL (i n p : Nat) : List UInt8 := (List.range p).map (fun j => markA i (n + j)) ++ List.replicate (40 - p) 0
theorem manyL_len (i n : Nat) {p : Nat} (h : p ≤ 40) : (manyL i n p).length = 40 := by
  simp only [manyL, List.length_append, List.length_map, List.length_range, List.length_replicate]; omega
theorem manyL_set (i n : Nat) {p : Nat} (h : p < 40) : (manyL i n p).set p (markA i (n + p)) = manyL i n (p + 1) := by
  have e : (40 - p) = (40 - (p + 1)) + 1 := by omega
  have hl : ((List.range p).map (fun j => markA i (n + j))).length = p := by simp
  rw [manyL, e, List.replicate_succ, List.set_append_right _ _ (by omega), hl, Nat.sub_self, List.set_cons_zero, manyL, List.range_succ, List.map_append]
  simp
theorem manyL_end (i n : Nat) : manyL i n 40 = (List.range 40).map fun j => markA i (n + j) := by simp [manyL]
theorem slices_info : (Try.prog.info? 28).map (fun i => (i.zero, i.size, i.bytes)) = some (some (.slice none 0 0), 1, 24) := by kernel_rfl
theorem map_range_upd (xs : Nat → Value) (i : Nat) (g : Value) : (List.range i).map xs ++ [g] = (List.range (i + 1)).map (fun r => if r = i then g else xs r) := by
  rw [List.range_succ, List.map_append, List.map_singleton, if_pos rfl]
  congr 1
  apply List.map_congr_left
  intro r hr
  rw [if_neg (by have := List.mem_range.1 hr; omega)]
set_option maxRecDepth 100000 in
set_option maxHeartbeats 4000000 in
theorem apart_any {n : Nat} {us : Nat → Value} {Ls : Nat → List UInt8} {bl off c : Nat} {w : World} {B : Nat} (hB : B ≤ w.heap.size) (hn : n ≤ 1048576) (hl : ∀ r, r < n → (Ls r).length ≤ 140737488355000)
    (hcell : ∀ r, r < n → w.cell? ⟨bl, off + r, none⟩ = some (us r)) (hown : ∀ r, r < n → Own w B (us r) (Ls r)) (hbl : ∀ r, r < n → (us r).ownBlock ≠ some bl) (hblt : bl < w.heap.size)
    (hdis : ∀ r s, r < n → s < n → r ≠ s → (us r).ownBlock = none ∨ (us r).ownBlock ≠ (us s).ownBlock) (hc : n ≤ c) (hcm : c ≤ maxLen) :
    Calls Try.prog 33 #[.slice (some ⟨bl, off, none⟩) n c] w fun e w' => e = .returned (.bool true) ∧ Below B w w' := by
  have HL := Lib.hid hl; have HC := Lib.hid hcell; have HO := Lib.hid hown; have HBL := Lib.hid hbl; have HD := Lib.hid hdis
  unfold maxLen at hcm
  clear hl hcell hown hbl hdis
  go_enter Try.func33, Try.ntmps33
  go_wp2_with fail
  go_loopw [3] (fun i wr => ∃ k : Nat, k ≤ n ∧ i = .int .i64 k ∧ Hid (∀ r, r < n → Own wr B (us r) (stA Ls k r)) ∧ Hid (∀ r, r < n → wr.cell? ⟨bl, off + r, none⟩ = some (us r)) ∧ Hid (Below B w wr) ∧ Hid (w.heap.size ≤ wr.heap.size)) (fun i _ => n - (intOf i).toNat)
  case atStart => exact ⟨0, Nat.zero_le _, rfl, Lib.hid (fun r h => by rw [stA, if_neg (Nat.not_lt_zero r)]; exact HO.out r h), HC, Lib.hid (Below.refl _ _), Lib.hid (Nat.le_refl _)⟩
  case round =>
    obtain ⟨k, hk, rfl, ho1, hc1, hb1, hz1⟩ := hrel
    obtain ⟨wo, hwo⟩ : ∃ wo : World, wo = wr := ⟨_, rfl⟩
    rw [← hwo] at ho1 hc1 hb1 hz1
    by_cases hlt : k < n
    · obtain ⟨A, cA, eA⟩ := (ho1.out k hlt).shape
      rw [stA_len] at eA
      obtain ⟨N, hN⟩ : ∃ N, N = (Ls k).length := ⟨_, rfl⟩
      have hNl : N ≤ 140737488355000 := by rw [hN]; exact HL.out k hlt
      rw [← hN] at eA
      have HN := Lib.hid hN; have HE := Lib.hid eA
      clear hN eA
      go_wp2_with fail
      go_loopw [4] (fun j wr => ∃ p : Nat, p ≤ N ∧ j = .int .i64 p ∧ Hid (Own wr B (us k) (rowM k p (Ls k))) ∧ Hid (∀ r, r < n → r ≠ k → Own wr B (us r) (stA Ls k r)) ∧ Hid (∀ r, r < n → wr.cell? ⟨bl, off + r, none⟩ = some (us r)) ∧ Hid (Below B w wr) ∧ Hid (w.heap.size ≤ wr.heap.size)) (fun j _ => N - (intOf j).toNat)
      case atStart => exact ⟨0, Nat.zero_le _, rfl, Lib.hid (by have h := ho1.out k hlt; rw [stA_self] at h; rw [rowM_zero, ← hwo]; exact h), Lib.hid (fun r h _ => by rw [← hwo]; exact ho1.out r h), Lib.hid (by rw [← hwo]; exact hc1.out), Lib.hid (by rw [← hwo]; exact hb1.out), Lib.hid (by rw [← hwo]; exact hz1.out)⟩
      case round =>
        obtain ⟨p, hp, rfl, hop, hoth, hc2, hb2, hz2⟩ := hrel
        clear ho1 hc1 hb1 hz1
        have hck : wr.cell? ⟨bl, off + k, none⟩ = some (.slice A N cA) := by rw [← HE.out]; exact hc2.out k hlt
        by_cases hlp : p < N
        · have hop2 := hop.out
          rw [HE.out] at hop2
          obtain ⟨g', rfl, hg1, hg2, hcell0, hfrz, hset⟩ := hop2.at_ (j := p) (by rw [rowM_len k (by rw [← HN.out]; exact hp), ← HN.out]; exact hlp)
          obtain ⟨y, hcell⟩ : ∃ y : Int, wr.cell? ⟨g', p, none⟩ = some (.int .u8 y) := ⟨_, hcell0⟩
          have hset2 := hset (markA k p)
          rw [rowM_set k (by rw [← HN.out]; exact hlp)] at hset2
          have hgr : ∀ x, wr.grownBy (wr.setCell ⟨g', p, none⟩ x) (some g') := fun x => setCellGrown wr g' p x
          have cm := (mark_any k p (by omega) (by omega) wr.drew).mono (fun _ _ h => (⟨h.1, h.2.symm⟩ : _ ∧ _ = wr.drew))
          obtain ⟨mv, hmv⟩ : ∃ mv, mv = markA k p := ⟨_, rfl⟩
          rw [← hmv] at cm hset2
          have CM := Lib.hid cm; have HSET := Lib.hid hset2; have HGR := Lib.hid hgr
          clear hcell0 hset hset2 hop2 hop cm hgr hmv
          go_wp2_with fail
          go_still_tail 9, (by kernel_rfl)
          still_call CM.out
          (repeat still_step)
          (try refine wpStill_nil ?_)
          show wpList _ _ _ _ _ wr.drew
          clear CM
          go_wp2
          have eb : (us k).ownBlock = some g' := by rw [HE.out]; rfl
          refine ⟨⟨p + 1, by omega, by go_num, Lib.hid (by rw [HE.out]; exact HSET.out.drewN 1), Lib.hid (fun r hr hne => ((hoth.out r hr hne).kept (HGR.out _) (by
            rcases HD.out r k hr hlt hne with h | h
            · exact .inl h
            · right; rw [← eb]; exact h)).drewN 1), Lib.hid (fun r hr => (HGR.out _).cell (hc2.out r hr) (fun e => HBL.out k hlt (by rw [eb]; exact e.symm))), Lib.hid (hb2.out.setCell hg1 _).drew, Lib.hid (by simp only [World.size_drew, World.size_setCell]; exact hz2.out)⟩, by simp [intOf]; omega⟩
        · obtain rfl : p = N := by omega
          have hrow : Own wr B (us k) (mkL k (Ls k).length) := by
            have h := hop.out
            rw [HN.out, rowM_end] at h
            exact h
          have HR1 : Hid (∀ r, r < n → Own wr B (us r) (stA Ls (k + 1) r)) := Lib.hid (fun r hr => by
            by_cases e : r = k
            · subst e
              rw [stA_next]
              exact hrow
            · rw [stA_other Ls e]
              exact hoth.out r hr e)
          clear hrow hop hoth
          go_wp2
          go_roundw
          case rel => exact ⟨k + 1, by omega, by go_num, HR1, hc2, hb2, hz2⟩
          case measure => simp [intOf]; omega
    · obtain rfl : k = n := by omega
      subst hwo
      obtain ⟨len, hlen⟩ : ∃ len : Nat → Nat, len = fun r => (Ls r).length := ⟨_, rfl⟩
      have HLE : Hid (∀ r, r < k → len r ≤ 140737488355000) := Lib.hid (fun r hr => by rw [hlen]; exact HL.out r hr)
      have HF : Hid (Fam wo B bl (SG k us len 0 (fun _ => .slice none 0 0))) := Lib.hid ⟨by
        rintro r v m (⟨hr, rfl, rfl⟩ | ⟨hr, _⟩)
        · have h := ho1.out r hr
          rw [stA, if_pos hr] at h
          rw [hlen]
          exact h
        · omega, by
        rintro r v m s v' m' (⟨hr, rfl, rfl⟩ | ⟨hr, _⟩) (⟨hs, rfl, rfl⟩ | ⟨hs, _⟩) hne
        · exact HD.out r s hr hs hne
        · omega
        · omega
        · omega, by
        rintro r v m (⟨hr, rfl, rfl⟩ | ⟨hr, _⟩)
        · exact HBL.out r hr
        · omega⟩
      clear ho1 hlen HO HC
      go_wp2_with fail
      go_loopw [5, 6] (fun gr i wr => ∃ (q : Nat) (xs : Nat → Value), q ≤ k ∧ i = .int .i64 q ∧ Hid (Fam wr B bl (SG k us len q xs)) ∧ Hid (wr.ownsRow w.heap.size 28 1 gr q ((List.range q).map xs)) ∧ Hid (∀ r, r < k → wr.cell? ⟨bl, off + r, none⟩ = some (us r)) ∧ Hid (Below B w wr) ∧ Hid (w.heap.size ≤ wr.heap.size)) (fun _ i _ => k - (intOf i).toNat)
      case atStart => exact ⟨0, _, Nat.zero_le _, rfl, HF, Lib.hid (World.ownsRow_nil _ _ _ _), hc1, hb1, hz1⟩
      case round =>
        obtain ⟨q, xs, hq, rfl, hf2, hg2, hc2, hb2, hz2⟩ := hrel
        clear HF hc1 hb1 hz1
        obtain ⟨w2, hw2⟩ : ∃ w2 : World, w2 = wr := ⟨_, rfl⟩
        rw [← hw2] at hf2 hg2 hc2 hb2 hz2
        by_cases hlt : q < k
        · obtain ⟨N, hN⟩ : ∃ N, N = len q := ⟨_, rfl⟩
          have hNl : N ≤ 140737488355000 := by rw [hN]; exact HLE.out q hlt
          obtain ⟨A, cA, eA⟩ := (hf2.out.own q (us q) (len q) (.inl ⟨hlt, rfl, rfl⟩)).shape
          rw [mkL_len, ← hN] at eA
          have HN := Lib.hid hN; have HE := Lib.hid eA
          have hck : wr.cell? ⟨bl, off + q, none⟩ = some (.slice A N cA) := by rw [← eA, ← hw2]; exact hc2.out q hlt
          have hF3 : Hid (Fam wr B bl (With (SG k us len q xs) q (.slice A N cA) (N + 0))) := Lib.hid (by
            rw [← hw2]
            refine hf2.out.sub ?_
            rintro r v m (h | ⟨rfl, rfl, rfl⟩)
            · exact h
            · exact .inl ⟨hlt, eA.symm, hN⟩)
          rw [hw2] at hg2 hc2 hb2 hz2
          clear hN eA hf2
          subst hw2
          go_wp2_with fail
          clear hck
          go_loopw [7, 8] (fun g j wr => ∃ p : Nat, p ≤ 16 ∧ j = .int .i64 p ∧ Hid (Fam wr B bl (With (SG k us len q xs) q g (N + p))) ∧ Hid (wr.ownsRow w.heap.size 28 1 u5 q ((List.range q).map xs)) ∧ Hid (∀ r, r < k → wr.cell? ⟨bl, off + r, none⟩ = some (us r)) ∧ Hid (Below B w wr) ∧ Hid (w.heap.size ≤ wr.heap.size)) (fun _ j _ => 16 - (intOf j).toNat)
          case atStart => exact ⟨0, Nat.zero_le _, rfl, hF3, hg2, hc2, hb2, hz2⟩
          case round =>
            obtain ⟨p, hp, rfl, hf3, hg3, hc3, hb3, hz3⟩ := hrel
            clear hF3 hg2 hc2 hb2 hz2
            by_cases hlp : p < 16
            · have hck : wr.cell? ⟨bl, off + q, none⟩ = some (.slice A N cA) := by rw [← HE.out]; exact hc3.out q hlt
              have cm := mark_any q (N + p) (by omega) (by omega) wr
              rw [show ((N + p : Nat) : Int) = (N : Int) + (p : Int) by omega] at cm
              obtain ⟨mv, hmv⟩ : ∃ mv, mv = markA q (N + p) := ⟨_, rfl⟩
              rw [← hmv] at cm
              have CM := Lib.hid cm
              have hF4 : Hid (Fam (wr.alloc (.cells #[.int .u8 (mv.toNat : Int)] 5)) B bl (With (SG k us len q xs) q u7 (N + p))) := Lib.hid (hf3.out.alloc _)
              have hbs : Hid (Bs (wr.alloc (.cells #[.int .u8 (mv.toNat : Int)] 5)) (wr.heap.size + 1) (.slice (some ⟨wr.heap.size, 0, none⟩) 1 1) [mv]) := Lib.hid (Bs.one wr mv)
              have hmm : Hid ([mv] = (List.range 1).map fun k => markA q (N + p + k)) := Lib.hid (by rw [hmv]; rfl)
              have hBw : Hid (B ≤ (wr.alloc (.cells #[.int .u8 (mv.toNat : Int)] 5)).heap.size) := Lib.hid (by rw [World.size_alloc]; have := hz3.out; omega)
              have hblw : Hid (bl < (wr.alloc (.cells #[.int .u8 (mv.toNat : Int)] 5)).heap.size) := Lib.hid (by rw [World.size_alloc]; have := hz3.out; omega)
              have hsm : Hid (N + p + 1 ≤ 140737488355328) := Lib.hid (by omega)
              clear cm hmv
              go_wp2_with (first
                | (go_at_call 44; with_reducible refine (CM.out).mono ?_; rintro e4 w4 ⟨rfl, rfl⟩)
                | (at_builtin; refine wpList_fam rfl (.tmp 54) (.tmp 64) rfl hF4.out rfl (.inr ⟨rfl, rfl, rfl⟩) rfl hbs.out hmm.out hsm.out hBw.out hblw.out ?_))
              intro v5 w5 hf5 hg5
              have ow7 : Own (wr.alloc (.cells #[.int .u8 (mv.toNat : Int)] 5)) B u7 (mkL q (N + p)) := hF4.out.own _ _ _ (.inr ⟨rfl, rfl, rfl⟩)
              have off7 : u7.ownBlock ≠ some bl := hF4.out.off _ _ _ (.inr ⟨rfl, rfl, rfl⟩)
              have hf6 : Hid (Fam w5 B bl (With (SG k us len q xs) q v5 (N + (p + 1)))) := Lib.hid (hf5.sub (by
                rintro r v m (h | ⟨rfl, rfl, h⟩)
                · exact .inl (.inl h)
                · exact .inr ⟨rfl, rfl, by omega⟩))
              have hg6 : Hid (w5.ownsRow w.heap.size 28 1 u5 q ((List.range q).map xs)) := Lib.hid (World.ownsRow.kept (World.ownsRow.alloc hg3.out _) hg5 (own_apart ow7 (World.ownsRow.alloc hg3.out _) (by decide)))
              have hc6 : Hid (∀ r, r < k → w5.cell? ⟨bl, off + r, none⟩ = some (us r)) := Lib.hid (fun r hr => hg5.cell ((((Below.refl wr.heap.size wr).alloc (Nat.le_refl _) _).cell (p := ⟨bl, off + r, none⟩) (by have := hz3.out; show bl < _; omega)).trans (hc3.out r hr)) (fun e => off7 e.symm))
              have hb6 : Hid (Below B w w5) := Lib.hid ((hb3.out.alloc (by have := hz3.out; omega) _).grown hg5 hBw.out (fun j hj => (own_lt ow7 hj).1))
              have hz6 : Hid (w.heap.size ≤ w5.heap.size) := Lib.hid (by have h1 := hg5.size; rw [World.size_alloc] at h1; have := hz3.out; omega)
              clear hf5 hg5 ow7 off7 hf3 hg3 hc3 hb3 hz3 hck CM hF4 hbs hmm hBw hblw hsm
              go_wp2
              go_roundw
              case rel => exact ⟨p + 1, by omega, by go_num, hf6, hg6, hc6, hb6, hz6⟩
              case measure => simp [intOf]; omega
            · obtain rfl : p = 16 := by omega
              have ow7 : Own wr B u7 (mkL q (N + 16)) := hf3.out.own _ _ _ (.inr ⟨rfl, rfl, rfl⟩)
              obtain ⟨A7, c7, e7⟩ := ow7.shape
              rw [mkL_len] at e7
              subst e7
              have hone : Hid (∀ y ∈ [Value.slice A7 (N + 16) c7], y.oneCell' = true) := Lib.hid (by
                intro y hy
                obtain rfl := List.mem_singleton.1 hy
                rfl)
              have hR : Hid ((wr.alloc (.cells #[(.slice A7 (N + 16) c7)] 28)).ownsRow w.heap.size 28 1 u5 q ((List.range q).map xs)) := Lib.hid (World.ownsRow.alloc hg3.out _)
              have hcs : Hid (Cs (wr.alloc (.cells #[(.slice A7 (N + 16) c7)] 28)) (wr.heap.size + 1) (.slice (some ⟨wr.heap.size, 0, none⟩) 1 1) [(.slice A7 (N + 16) c7)]) := Lib.hid (Cs.one wr _ (Value.slice A7 (N + 16) c7))
              have hzz : Hid (w.heap.size ≤ (wr.alloc (.cells #[(.slice A7 (N + 16) c7)] 28)).heap.size) := Lib.hid (by rw [World.size_alloc]; have := hz3.out; omega)
              have hss : Hid (q + [Value.slice A7 (N + 16) c7].length ≤ 2199023255552) := Lib.hid (by rw [List.length_singleton]; omega)
              clear ow7
              go_wp2_with (at_builtin; refine wpList_appG rfl (.tmp 66) (.tmp 68) rfl Try.underlying41 slices_info rfl (by omega) rfl hR.out rfl hcs.out hone.out hss.out hzz.out ?_)
              intro v6 w6 ho6 hg6 _
              have hf6 : Hid (Fam w6 B bl (SG k us len (q + 1) (fun r => if r = q then (Value.slice A7 (N + 16) c7) else xs r))) := Lib.hid (((hf3.out.alloc (.cells #[(.slice A7 (N + 16) c7)] 28)).kept hg6 (fun r v m hs => own_apart hR.out ((hf3.out.alloc _).own r v m hs) (by decide))).sub (by
                rintro r v m (⟨hr, h1, h2⟩ | ⟨hr, h1, h2⟩)
                · exact .inl (.inl ⟨hr, h1, h2⟩)
                · replace h1 : v = if r = q then (Value.slice A7 (N + 16) c7) else xs r := h1
                  by_cases e : r = q
                  · subst e
                    rw [if_pos rfl] at h1
                    exact .inr ⟨rfl, h1, by rw [h2, HN.out]⟩
                  · rw [if_neg e] at h1
                    exact .inl (.inr ⟨by omega, h1, h2⟩)))
              have ho7 : Hid (w6.ownsRow w.heap.size 28 1 v6 (q + 1) ((List.range (q + 1)).map (fun r => if r = q then (Value.slice A7 (N + 16) c7) else xs r))) := Lib.hid (by rw [← map_range_upd]; exact ho6)
              have hlt6 : ∀ j, u5.ownBlock = some j → w.heap.size ≤ j := fun j hj => (World.ownsRow.lt hR.out j hj).1
              have hc6 : Hid (∀ r, r < k → w6.cell? ⟨bl, off + r, none⟩ = some (us r)) := Lib.hid (fun r hr => hg6.cell ((((Below.refl wr.heap.size wr).alloc (Nat.le_refl _) _).cell (p := ⟨bl, off + r, none⟩) (by have := hz3.out; show bl < _; omega)).trans (hc3.out r hr)) (fun e => by have := hlt6 bl e.symm; omega))
              have hb6 : Hid (Below B w w6) := Lib.hid ((hb3.out.alloc (by have := hz3.out; omega) _).grown hg6 (by have := hzz.out; omega) (fun j hj => by have := hlt6 j hj; omega))
              have hz6 : Hid (w.heap.size ≤ w6.heap.size) := Lib.hid (by have h1 := hg6.size; have := hzz.out; omega)
              clear ho6 hg6 hlt6 hf3 hg3 hc3 hb3 hz3 hone hR hcs hzz hss
              go_wp2
              go_roundw
              case rel => exact ⟨q + 1, _, by omega, by go_num, hf6, ho7, hc6, hb6, hz6⟩
              case measure => simp [intOf]; omega
        · obtain rfl : q = k := by omega
          subst hw2
          have HF : Hid (Fam w2 B bl (SH q us len xs 0 (fun _ => .slice none 0 0))) := Lib.hid (hf2.out.sub (by
            rintro r v m (h | ⟨h, _⟩)
            · exact h
            · omega))
          have HGG : Hid (w2.ownsRow w.heap.size 28 1 u5 (q + 0) ((List.range q).map xs ++ (List.range 0).map (fun _ => Value.slice none 0 0))) := Lib.hid (by simpa using hg2.out)
          have hmk := run_make_row' (P := Try.prog) 28 5 (.int .u8 0) 1 Try.underlying28 u8info rfl .i64 .i64 40 (by omega) (by omega)
          obtain ⟨MK, hMK⟩ : ∃ MK, MK = madeCells #[Value.int .u8 0] 40 := ⟨_, rfl⟩
          rw [← hMK] at hmk
          have hmk : ∀ W, (Instr.makeSlice 28 (.int .i64 40) (.int .i64 40)).run Try.prog W = .ok (.slice (some ⟨W.heap.size, 0, none⟩) 40 40) (W.alloc (.cells MK 5)) := hmk
          have HMK : Hid (MK = ((List.replicate 40 (0 : UInt8)).map vb).toArray) := Lib.hid (by
            rw [hMK]
            apply Array.toList_inj.1
            rw [toList_madeCells_one]
            simp [vb])
          clear hf2 hg2 hMK
          go_wp2_with fail
          go_loopw [5, 9] (fun gr i wr => ∃ (p : Nat) (ys : Nat → Value), p ≤ q ∧ i = .int .i64 p ∧ Hid (Fam wr B bl (SH q us len xs p ys)) ∧ Hid (wr.ownsRow w.heap.size 28 1 gr (q + p) ((List.range q).map xs ++ (List.range p).map ys)) ∧ Hid (∀ r, r < q → wr.cell? ⟨bl, off + r, none⟩ = some (us r)) ∧ Hid (Below B w wr) ∧ Hid (w.heap.size ≤ wr.heap.size)) (fun _ i _ => q - (intOf i).toNat)
          case atStart => exact ⟨0, _, Nat.zero_le _, rfl, HF, HGG, hc2, hb2, hz2⟩
          case round =>
            obtain ⟨s, ys, hs, rfl, hf3, hg3, hc3, hb3, hz3⟩ := hrel
            clear HF HGG hc2 hb2 hz2
            obtain ⟨w3, hw3⟩ : ∃ w3 : World, w3 = wr := ⟨_, rfl⟩
            rw [← hw3] at hf3 hg3 hc3 hb3 hz3
            by_cases hlt : s < q
            · obtain ⟨N, hN⟩ : ∃ N, N = len s := ⟨_, rfl⟩
              have hNl : N ≤ 140737488355000 := by rw [hN]; exact HLE.out s hlt
              have hS : SH q us len xs s ys s (us s) (len s) := .inl (.inl ⟨hlt, rfl, rfl⟩)
              obtain ⟨A, cA, eA⟩ := (hf3.out.own s (us s) (len s) hS).shape
              rw [mkL_len, ← hN] at eA
              have HN := Lib.hid hN; have HE := Lib.hid eA
              have HSS : Hid (SH q us len xs s ys s (.slice A N cA) N) := Lib.hid (by rw [← eA, hN]; exact hS)
              obtain ⟨W, hW⟩ : ∃ W, W = w3.alloc (.cells MK 5) := ⟨_, rfl⟩
              have hWs : W.heap.size = w3.heap.size + 1 := by rw [hW]; simp
              have hmrow : Hid (Own W w.heap.size (.slice (some ⟨w3.heap.size, 0, none⟩) 40 40) (manyL s N 0)) := Lib.hid (by
                have h := Own.of_cells (w := W) (B := w.heap.size) (g := w3.heap.size) (l := manyL s N 0) (cs := (manyL s N 0).map vb) (by rw [hW, heap_alloc_new, HMK.out]; simp [manyL]) hz3.out (by rw [manyL_len s N (by omega)]; unfold maxLen; omega) rfl
                rw [manyL_len s N (by omega)] at h
                exact h)
              have hfm : Hid (∀ r v m, SH q us len xs s ys r v m → v.ownBlock = none ∨ v.ownBlock ≠ some w3.heap.size) := Lib.hid (fun r v m h => .inr (fun e => by have := (own_lt (hf3.out.own r v m h) e).2; omega))
              have hgm : Hid (u5.ownBlock = none ∨ u5.ownBlock ≠ some w3.heap.size) := Lib.hid (.inr (fun e => by have := (World.ownsRow.lt hg3.out _ e).2; omega))
              have hF4 : Hid (Fam W B bl (SH q us len xs s ys)) := Lib.hid (by rw [hW]; exact hf3.out.alloc _)
              have hG4 : Hid (W.ownsRow w.heap.size 28 1 u5 (q + s) ((List.range q).map xs ++ (List.range s).map ys)) := Lib.hid (by rw [hW]; exact World.ownsRow.alloc hg3.out _)
              have hblt3 : bl < w3.heap.size := by have := hz3.out; omega
              have hC4 : Hid (∀ r, r < q → W.cell? ⟨bl, off + r, none⟩ = some (us r)) := Lib.hid (fun r hr => by rw [hW]; exact (((Below.refl w3.heap.size w3).alloc (Nat.le_refl _) _).cell (p := ⟨bl, off + r, none⟩) hblt3).trans (hc3.out r hr))
              have hB4 : Hid (Below B w W) := Lib.hid (by rw [hW]; exact hb3.out.alloc (by have := hz3.out; omega) _)
              have hZ3 : Hid (w.heap.size ≤ w3.heap.size) := hz3
              clear hN eA hS hf3 hg3 hc3 hb3 hz3
              rw [← hw3]
              clear hw3
              go_wp2_with fail
              rw [← hW]
              clear hmk hW
              go_loopw [11] (fun j wr => ∃ p : Nat, p ≤ 40 ∧ j = .int .i64 p ∧ Hid (Own wr w.heap.size (.slice (some ⟨w3.heap.size, 0, none⟩) 40 40) (manyL s N p)) ∧ Hid (Fam wr B bl (SH q us len xs s ys)) ∧ Hid (wr.ownsRow w.heap.size 28 1 u5 (q + s) ((List.range q).map xs ++ (List.range s).map ys)) ∧ Hid (∀ r, r < q → wr.cell? ⟨bl, off + r, none⟩ = some (us r)) ∧ Hid (Below B w wr) ∧ Hid (wr.heap.size = w3.heap.size + 1)) (fun j _ => 40 - (intOf j).toNat)
              case atStart => exact ⟨0, Nat.zero_le _, rfl, hmrow, hF4, hG4, hC4, hB4, Lib.hid hWs⟩
              case round =>
                obtain ⟨p, hp, rfl, hm5, hf5, hg5, hc5, hb5, hz5⟩ := hrel
                clear hmrow hF4 hG4 hC4 hB4
                have hck : wr.cell? ⟨bl, off + s, none⟩ = some (.slice A N cA) := by rw [← HE.out]; exact hc5.out s hlt
                by_cases hlp : p < 40
                · obtain ⟨g', hg', _, _, hcell0, hfrz, hset⟩ := hm5.out.at_ (j := p) (by rw [manyL_len s N hp]; exact hlp)
                  obtain ⟨y, hcell⟩ : ∃ y : Int, wr.cell? ⟨g', p, none⟩ = some (.int .u8 y) := ⟨_, hcell0⟩
                  simp only [Option.some.injEq, Addr.mk.injEq] at hg'
                  obtain ⟨rfl, _⟩ := hg'
                  have cm := mark_any s (N + p) (by omega) (by omega) wr
                  rw [show ((N + p : Nat) : Int) = (N : Int) + (p : Int) by omega] at cm
                  have hset2 := hset (markA s (N + p))
                  rw [manyL_set s N hlp] at hset2
                  obtain ⟨mv, hmv⟩ : ∃ mv, mv = markA s (N + p) := ⟨_, rfl⟩
                  rw [← hmv] at cm hset2
                  have CM := Lib.hid cm
                  have HSET := Lib.hid hset2
                  have hgr := setCellGrown wr w3.heap.size p (.int .u8 (mv.toNat : Int))
                  have HF6 : Hid (Fam (wr.setCell ⟨w3.heap.size, p, none⟩ (.int .u8 (mv.toNat : Int))) B bl (SH q us len xs s ys)) := Lib.hid (hf5.out.kept hgr hfm.out)
                  have HG6 : Hid ((wr.setCell ⟨w3.heap.size, p, none⟩ (.int .u8 (mv.toNat : Int))).ownsRow w.heap.size 28 1 u5 (q + s) ((List.range q).map xs ++ (List.range s).map ys)) := Lib.hid (World.ownsRow.kept hg5.out hgr hgm.out)
                  have HC6 : Hid (∀ r, r < q → (wr.setCell ⟨w3.heap.size, p, none⟩ (.int .u8 (mv.toNat : Int))).cell? ⟨bl, off + r, none⟩ = some (us r)) := Lib.hid (fun r hr => hgr.cell (hc5.out r hr) (fun e => by simp only [Option.some.injEq] at e; omega))
                  have HB6 : Hid (Below B w (wr.setCell ⟨w3.heap.size, p, none⟩ (.int .u8 (mv.toNat : Int)))) := Lib.hid (hb5.out.setCell (by show B ≤ w3.heap.size; have := hZ3.out; omega) _)
                  have HZ6 : Hid ((wr.setCell ⟨w3.heap.size, p, none⟩ (.int .u8 (mv.toNat : Int))).heap.size = w3.heap.size + 1) := Lib.hid (by rw [World.size_setCell]; exact hz5.out)
                  clear hcell0 hset hset2 cm hmv hgr hm5 hf5 hg5 hc5 hb5 hz5
                  go_wp2_with (go_at_call 44; with_reducible refine (CM.out).mono ?_; rintro e4 w4 ⟨rfl, rfl⟩)
                  go_roundw
                  case rel => exact ⟨p + 1, by omega, by go_num, HSET, HF6, HG6, HC6, HB6, HZ6⟩
                  case measure => simp [intOf]; omega
                · obtain rfl : p = 40 := by omega
                  have hbs : Hid (Bs wr wr.heap.size (.slice (some ⟨w3.heap.size, 0, none⟩) 40 40) (manyL s N 40)) := Lib.hid hm5.out.bs
                  have hme : Hid (manyL s N 40 = (List.range 40).map fun j => markA s (N + j)) := Lib.hid (manyL_end s N)
                  have hBw : Hid (B ≤ wr.heap.size) := Lib.hid (by have := hz5.out; have := hZ3.out; omega)
                  have hblw : Hid (bl < wr.heap.size) := Lib.hid (by have := hz5.out; omega)
                  have hsm : Hid (N + 40 ≤ 140737488355328) := Lib.hid (by omega)
                  clear hm5
                  go_wp2_with (at_builtin; refine wpList_fam rfl (.tmp 97) (.tmp 98) rfl hf5.out rfl HSS.out rfl hbs.out hme.out hsm.out hBw.out hblw.out ?_)
                  intro v6 w6 hf6 hg6
                  have ow6 : Own w6 B v6 (mkL s (N + 40)) := hf6.own _ _ _ (.inr ⟨rfl, rfl, rfl⟩)
                  obtain ⟨A6, c6, e6⟩ := ow6.shape
                  rw [mkL_len] at e6
                  subst e6
                  have owA : Own wr B (.slice A N cA) (mkL s N) := hf5.out.own _ _ _ HSS.out
                  have offA := hf5.out.off _ _ _ HSS.out
                  have hR6 : w6.ownsRow w.heap.size 28 1 u5 (q + s) ((List.range q).map xs ++ (List.range s).map ys) := World.ownsRow.kept hg5.out hg6 (own_apart owA hg5.out (by decide))
                  have hC6 : ∀ r, r < q → w6.cell? ⟨bl, off + r, none⟩ = some (us r) := fun r hr => hg6.cell (hc5.out r hr) (fun e => offA e.symm)
                  have hB6 : Below B w w6 := hb5.out.grown hg6 hBw.out (fun j hj => (own_lt owA hj).1)
                  have hz6 : w.heap.size ≤ w6.heap.size := by have h1 := hg6.size; have := hz5.out; have := hZ3.out; omega
                  have HF6 := Lib.hid hf6; have HC6 := Lib.hid hC6; have HB6 := Lib.hid hB6; have HZ6 := Lib.hid hz6
                  have hone : Hid (∀ y ∈ [Value.slice A6 (N + 40) c6], y.oneCell' = true) := Lib.hid (by
                    intro y hy
                    obtain rfl := List.mem_singleton.1 hy
                    rfl)
                  have hR : Hid ((w6.alloc (.cells #[.slice A6 (N + 40) c6] 28)).ownsRow w.heap.size 28 1 u5 (q + s) ((List.range q).map xs ++ (List.range s).map ys)) := Lib.hid (World.ownsRow.alloc hR6 _)
                  have hcs : Hid (Cs (w6.alloc (.cells #[.slice A6 (N + 40) c6] 28)) (w6.heap.size + 1) (.slice (some ⟨w6.heap.size, 0, none⟩) 1 1) [.slice A6 (N + 40) c6]) := Lib.hid (Cs.one w6 _ _)
                  have hzz : Hid (w.heap.size ≤ (w6.alloc (.cells #[.slice A6 (N + 40) c6] 28)).heap.size) := Lib.hid (by rw [World.size_alloc]; omega)
                  have hss : Hid (q + s + [Value.slice A6 (N + 40) c6].length ≤ 2199023255552) := Lib.hid (by rw [List.length_singleton]; omega)
                  clear hf6 hC6 hB6 hg6 ow6 owA offA hR6 hf5 hg5 hc5 hb5 hbs hme hsm
                  go_wp2_with (at_builtin; refine wpList_appG rfl (.tmp 93) (.tmp 100) rfl Try.underlying41 slices_info rfl (by omega) rfl hR.out rfl hcs.out hone.out hss.out hzz.out ?_)
                  intro v7 w7 ho7 hg7 _
                  have hf7 : Hid (Fam w7 B bl (SH q us len xs (s + 1) (fun r => if r = s then Value.slice A6 (N + 40) c6 else ys r))) := Lib.hid (((HF6.out.alloc (.cells #[.slice A6 (N + 40) c6] 28)).kept hg7 (fun r v m hs => own_apart hR.out ((HF6.out.alloc _).own r v m hs) (by decide))).sub (by
                    rintro r v m (h | ⟨hr, h1, h2⟩)
                    · exact .inl (.inl h)
                    · replace h1 : v = if r = s then Value.slice A6 (N + 40) c6 else ys r := h1
                      by_cases e : r = s
                      · subst e
                        rw [if_pos rfl] at h1
                        exact .inr ⟨rfl, h1, by rw [h2, HN.out]⟩
                      · rw [if_neg e] at h1
                        exact .inl (.inr ⟨by omega, h1, h2⟩)))
                  have ho8 : Hid (w7.ownsRow w.heap.size 28 1 v7 (q + (s + 1)) ((List.range q).map xs ++ (List.range (s + 1)).map (fun r => if r = s then Value.slice A6 (N + 40) c6 else ys r))) := Lib.hid (by rw [← map_range_upd, ← Nat.add_assoc]; exact ho7)
                  have hlt7 : ∀ j, u5.ownBlock = some j → w.heap.size ≤ j := fun j hj => (World.ownsRow.lt hR.out j hj).1
                  have hc7 : Hid (∀ r, r < q → w7.cell? ⟨bl, off + r, none⟩ = some (us r)) := Lib.hid (fun r hr => hg7.cell ((((Below.refl w6.heap.size w6).alloc (Nat.le_refl _) _).cell (p := ⟨bl, off + r, none⟩) (by have := HZ6.out; show bl < _; omega)).trans (HC6.out r hr)) (fun e => by have := hlt7 bl e.symm; omega))
                  have hb7 : Hid (Below B w w7) := Lib.hid ((HB6.out.alloc (by omega) _).grown hg7 (by have := hzz.out; omega) (fun j hj => by have := hlt7 j hj; omega))
                  have hz7 : Hid (w.heap.size ≤ w7.heap.size) := Lib.hid (by have h1 := hg7.size; have := hzz.out; omega)
                  clear ho7 hg7 hlt7 hone hR hcs hzz hss HF6 HC6 HB6 HZ6
                  go_wp2
                  go_roundw
                  case rel => exact ⟨s + 1, _, by omega, by go_num, hf7, ho8, hc7, hb7, hz7⟩
                  case measure => simp [intOf]; omega
            · obtain rfl : s = q := by omega
              subst hw3
              have HCS := Lib.hid (ownCs hg3.out (by simp))
              have HG : Hid (∀ t (h : t < ((List.range s).map xs ++ (List.range s).map ys).length), ∃ m, m ≤ 140737488355328 ∧ Own w3 B ((List.range s).map xs ++ (List.range s).map ys)[t] (mkL (t % s) m)) := Lib.hid (by
                intro t ht
                have ht2 : t < s + s := by simpa using ht
                by_cases h1 : t < s
                · refine ⟨len t + 16, by have := HLE.out t h1; omega, ?_⟩
                  rw [List.getElem_append_left (by simpa using h1), List.getElem_map, List.getElem_range, Nat.mod_eq_of_lt h1]
                  exact hf3.out.own t (xs t) _ (.inl (.inr ⟨h1, rfl, rfl⟩))
                · refine ⟨len (t - s) + 40, by have := HLE.out (t - s) (by omega); omega, ?_⟩
                  rw [List.getElem_append_right (by simp; omega), List.getElem_map, List.getElem_range, Nat.mod_eq_sub_mod (by omega), Nat.mod_eq_of_lt (by omega)]
                  simp only [List.length_map, List.length_range]
                  exact hf3.out.own (t - s) (ys (t - s)) _ (.inr ⟨by omega, rfl, rfl⟩))
              have HU : Hid (∀ r, r < s → Own w3 B (us r) (mkL r (len r))) := Lib.hid (fun r hr => hf3.out.own r (us r) _ (.inl (.inl ⟨hr, rfl, rfl⟩)))
              obtain ⟨ZS, hZS⟩ : ∃ ZS, ZS = (List.range s).map xs ++ (List.range s).map ys := ⟨_, rfl⟩
              obtain ⟨T, hT⟩ : ∃ T, T = s + s := ⟨_, rfl⟩
              have hZl : ZS.length = T := by rw [hZS, hT]; simp
              rw [← hZS] at HCS HG
              obtain ⟨AG, cG, eG, hG1, hG2, hG3⟩ := HCS.out
              have HG3 := Lib.hid hG3
              unfold maxLen at hG2
              rw [hZl] at eG hG1
              subst eG
              have HZL := Lib.hid hZl
              have HTT := Lib.hid hT
              clear hT
              clear hf3 hg3 hG3 hZS HMK hZl
              go_wp2_with fail
              go_loopw [12] (fun i wr => ∃ p : Nat, p ≤ T ∧ i = .int .i64 p ∧ Drew w3 wr) (fun i _ => T - (intOf i).toNat)
              case atStart => exact ⟨0, Nat.zero_le _, rfl, Drew.refl _⟩
              case round =>
                obtain ⟨p, hp, rfl, m, rfl⟩ := hrel
                by_cases hlp : p < T
                · obtain ⟨gg, og, rfl, _, hgc⟩ := HG3.out (by rw [HZL.out]; omega)
                  have hgp := hgc p (by rw [HZL.out]; exact hlp)
                  obtain ⟨mm, hmm, how⟩ := HG.out p (by rw [HZL.out]; exact hlp)
                  obtain ⟨A, cA, eA⟩ := how.shape
                  rw [mkL_len] at eA
                  rw [eA] at hgp how
                  obtain ⟨r, hr⟩ : ∃ r, r = p % s := ⟨_, rfl⟩
                  have hrs : r < s := by rw [hr]; exact Nat.mod_lt _ (by have h := HTT.out; omega)
                  have hmod : (p : Int) % (s : Int) = (r : Int) := by rw [hr]; exact (Int.natCast_emod p s).symm
                  have hmodt : (p : Int).tmod (s : Int) = (r : Int) := by rw [Int.tmod_eq_emod_of_nonneg (Int.natCast_nonneg p)]; exact hmod
                  have hs0 : (s : Int) ≠ 0 := by omega
                  rw [← hr] at how
                  have HOW := Lib.hid how
                  have HM := Lib.hid (And.intro hmod hmodt)
                  clear hgc eA hr how hmod hmodt
                  go_wp2_with fail
                  go_loopw [13] (fun i wr => ∃ j : Nat, j ≤ mm ∧ i = .int .i64 j ∧ Drew w3 wr) (fun i _ => mm - (intOf i).toNat)
                  case atStart => exact ⟨0, Nat.zero_le _, rfl, (Drew.refl _).drewN _⟩
                  case round =>
                    obtain ⟨j, hj, rfl, hdr⟩ := hrel
                    have hgp2 := hdr.cell hgp
                    have HDR := Lib.hid hdr
                    have HGP := Lib.hid hgp
                    clear hgp hdr
                    by_cases hlj : j < mm
                    · obtain ⟨b1, rfl, hcj0⟩ := own_mark HOW.out hlj
                      have hcj1 := HDR.out.cell hcj0
                      obtain ⟨mv, hmv⟩ : ∃ mv, mv = markA r j := ⟨_, rfl⟩
                      have CM := Lib.hid ((mark_any r j (by omega) (by omega) wr.drew).mono (fun _ _ h => (⟨h.1, h.2.symm⟩ : _ ∧ _ = wr.drew)))
                      rw [← hmv] at hcj1 CM
                      have HCJ := Lib.hid hcj1
                      clear hmv hcj0 hcj1
                      go_wp2_with fail
                      obtain ⟨hmod, hmodt⟩ := HM.out
                      have hcj := HCJ.out
                      have hs1 : s ≠ 0 := by omega
                      have hs2 : ((s : Int) == 0) = false := by rw [beq_eq_false_iff_ne]; exact hs0
                      have hs3 : decide ((s : Int) = 0) = false := decide_eq_false hs0
                      go_still_tail 13, (by kernel_rfl)
                      still_call CM.out
                      (repeat still_step)
                      (try refine wpStill_nil ?_)
                      show wpList _ _ _ _ _ wr.drew
                      clear hmod hmodt CM
                      have HDR1 : Drew w3 wr.drew := HDR.out.drewN 1
                      go_wp2_with fail
                      go_roundw
                      case rel => exact ⟨j + 1, by omega, by go_num, HDR1⟩
                      case measure => simp [intOf]; omega
                    · have HDR2 := HDR.out
                      obtain ⟨m2, rfl⟩ := HDR2
                      go_wp2
                      go_roundw
                      case rel => exact ⟨p + 1, by omega, by go_num, (Drew.refl _).drewN _⟩
                      case measure => simp [intOf]; omega
                · obtain rfl : p = T := by omega
                  have HB9 : Hid (Below B w w3) := hb3
                  clear HG3 HG HCS
                  go_wp2_with fail
                  go_loopw [14] (fun i wr => ∃ p : Nat, p ≤ s ∧ i = .int .i64 p ∧ Drew w3 wr) (fun i _ => s - (intOf i).toNat)
                  case atStart => exact ⟨0, Nat.zero_le _, rfl, (Drew.refl _).drewN _⟩
                  case round =>
                    obtain ⟨p, hp, rfl, m, rfl⟩ := hrel
                    by_cases hlp : p < s
                    · have hgp : w3.cell? ⟨bl, off + p, none⟩ = some (us p) := hc3.out p hlp
                      have how := HU.out p hlp
                      obtain ⟨mm, hmm⟩ : ∃ mm, mm = len p := ⟨_, rfl⟩
                      have hml : mm ≤ 140737488355000 := by rw [hmm]; exact HLE.out p hlp
                      rw [← hmm] at how
                      obtain ⟨A, cA, eA⟩ := how.shape
                      rw [mkL_len] at eA
                      rw [eA] at hgp how
                      have HOW := Lib.hid how
                      clear eA how hmm
                      go_wp2_with fail
                      go_loopw [15] (fun i wr => ∃ j : Nat, j ≤ mm ∧ i = .int .i64 j ∧ Drew w3 wr) (fun i _ => mm - (intOf i).toNat)
                      case atStart => exact ⟨0, Nat.zero_le _, rfl, (Drew.refl _).drewN _⟩
                      case round =>
                        obtain ⟨j, hj, rfl, hdr⟩ := hrel
                        have hgp2 := hdr.cell hgp
                        have HDR := Lib.hid hdr
                        have HGP := Lib.hid hgp
                        clear hgp hdr
                        by_cases hlj : j < mm
                        · obtain ⟨b1, rfl, hcj0⟩ := own_mark HOW.out hlj
                          have hcj1 := HDR.out.cell hcj0
                          obtain ⟨mv, hmv⟩ : ∃ mv, mv = markA p j := ⟨_, rfl⟩
                          have CM := Lib.hid ((mark_any p j (by omega) (by omega) wr.drew).mono (fun _ _ h => (⟨h.1, h.2.symm⟩ : _ ∧ _ = wr.drew)))
                          rw [← hmv] at hcj1 CM
                          have HCJ := Lib.hid hcj1
                          clear hmv hcj0 hcj1
                          go_wp2_with fail
                          have hcj := HCJ.out
                          go_still_tail 10, (by kernel_rfl)
                          still_call CM.out
                          (repeat still_step)
                          (try refine wpStill_nil ?_)
                          show wpList _ _ _ _ _ wr.drew
                          clear CM
                          have HDR1 : Drew w3 wr.drew := HDR.out.drewN 1
                          go_wp2_with fail
                          go_roundw
                          case rel => exact ⟨j + 1, by omega, by go_num, HDR1⟩
                          case measure => simp [intOf]; omega
                        · have HDR2 := HDR.out
                          obtain ⟨m2, rfl⟩ := HDR2
                          go_wp2
                          go_roundw
                          case rel => exact ⟨p + 1, by omega, by go_num, (Drew.refl _).drewN _⟩
                          case measure => simp [intOf]; omega
                    · go_wp2
                      go_ret
                      exact ⟨rfl, below_drewN HB9.out m⟩
end Go.Proofs.Ythgdficgjldobaa
