/- field's Bytes. -/
import Derived.Test.YtgkglielcbgpiaaF6
import Derived.Test.YtgkglielcbgpiaaArr
namespace Go.Proofs.Ytgkglielcbgpiaa
open Go.RowKit

/-- block g is a row of bytes -/
def Bw (w : World) (g : Nat) (t : TypeId) (l : List UInt8) : Prop := w.heap[g]? = some (.cells (l.map vb).toArray t (0, 0))
theorem Bw.at_ {w : World} {g : Nat} {t : TypeId} {l : List UInt8} (h : Bw w g t l) {j : Nat} (hj : j < l.length) :
    w.cell? ⟨g, j, none⟩ = some (.int .u8 (l[j].toNat : Int)) ∧ w.frozen? ⟨g, j, none⟩ = false ∧ ∀ x : UInt8, Bw (w.setCell ⟨g, j, none⟩ (.int .u8 (x.toNat : Int))) g t (l.set j x) := by
  refine ⟨?_, frozen_of_row w g j _ _ h, fun x => ?_⟩
  · rw [cell_of_row w g j _ _ _ h]
    simp [hj, vb]
  · unfold Bw
    rw [heap_setCell_same w g j _ _ _ h, List.map_set]
    simp [vb]
theorem Bw.lt {w : World} {g : Nat} {t : TypeId} {l : List UInt8} (h : Bw w g t l) : g < w.heap.size := (Array.getElem?_eq_some_iff.1 h).1
theorem Bw.below {w w' : World} {B g : Nat} {t : TypeId} {l : List UInt8} (h : Bw w g t l) (hb : Below B w w') (hB : g < B) : Bw w' g t l := (hb.block g hB).trans h
theorem one_bytes (l : List UInt8) : ((l.map vb).toArray).all (·.oneCell') = true := by
  rw [Array.all_eq_true_iff_forall_mem]
  intro u hu
  rw [List.mem_toArray] at hu
  exact vb_one _ u hu
theorem setCell_grown (w : World) (g i : Nat) (v : Value) : w.grownBy (w.setCell ⟨g, i, none⟩ v) (some g) :=
  ⟨rfl, rfl, rfl, by simp [World.setCell], fun k _ hk => Below.heap_setCell _ _ _ _ (fun e => hk (by rw [e]))⟩
/-- n noughts -/
def zs (n : Nat) : List UInt8 := List.replicate n 0
/-- the bytes of a number, the least first -/
def leB (N k : Nat) : UInt8 := UInt8.ofNat (N / 256 ^ k)
def leBytes (N k : Nat) : List UInt8 := (List.range k).map (leB N)
theorem leBytes_len (N k : Nat) : (leBytes N k).length = k := by simp [leBytes]
theorem leBytes_succ (N k : Nat) : leBytes N (k + 1) = leBytes N k ++ [leB N k] := by simp [leBytes, List.range_succ]
/-- .. of 32, the first k written -/
def fillB (N k : Nat) : List UInt8 := leBytes N k ++ zs (32 - k)
theorem fillB_len (N k : Nat) (hk : k ≤ 32) : (fillB N k).length = 32 := by simp [fillB, leBytes_len, zs]; omega
theorem fillB_set (N k : Nat) (hk : k < 32) : (fillB N k).set k (leB N k) = fillB N (k + 1) := by
  have e : 32 - k = (32 - (k + 1)) + 1 := by omega
  unfold fillB zs
  rw [List.set_append_right _ _ (by rw [leBytes_len]; exact Nat.le_refl _), leBytes_len, Nat.sub_self, e, List.replicate_succ, List.set_cons_zero, leBytes_succ, List.append_assoc]
  rfl
theorem fillB_all (N : Nat) : fillB N 32 = leBytes N 32 := by simp [fillB, zs]
/-- a limb of a number -/
def limb (N j : Nat) : Nat := N / 18446744073709551616 ^ j % 18446744073709551616
theorem limb_byte (N k : Nat) : limb N (k / 8) / 2 ^ (8 * (k % 8)) % 256 = (leB N k).toNat := by
  unfold limb leB
  rw [UInt8.toNat_ofNat']
  have e : (18446744073709551616 : Nat) = 2 ^ 64 := rfl
  have e2 : (256 : Nat) = 2 ^ 8 := rfl
  rw [e, e2, ← Nat.pow_mul, ← Nat.pow_mul]
  have hr : 8 * (k % 8) + 8 ≤ 64 := by omega
  have hk : 8 * k = 64 * (k / 8) + 8 * (k % 8) := by omega
  have e3 : (2 : Nat) ^ 64 = 2 ^ (8 * (k % 8)) * 2 ^ (64 - 8 * (k % 8)) := by rw [← Nat.pow_add]; congr 1; omega
  rw [hk, e3, Nat.mod_mul_right_div_self, Nat.mod_mod_of_dvd _ (Nat.pow_dvd_pow 2 (by omega)), Nat.div_div_eq_div_mul, ← Nat.pow_add]
theorem limb_byteI (N k : Nat) : (limb N (k / 8) : Int) / 2 ^ (8 * (k % 8)) % 256 = ((leB N k).toNat : Int) := by
  rw [← limb_byte, Int.natCast_emod, Int.natCast_ediv, Int.natCast_pow]
  rfl
theorem limbs_of (N : Nat) : limb N 0 = l0 N ∧ limb N 1 = l1 N ∧ limb N 2 = l2 N ∧ limb N 3 = l3 N := by
  unfold limb l0 l1 l2 l3
  refine ⟨by rw [Nat.pow_zero, Nat.div_one], by rw [Nat.pow_one], ?_, ?_⟩
  · rw [Nat.div_div_eq_div_mul]
  · rw [Nat.div_div_eq_div_mul, Nat.div_div_eq_div_mul]
theorem Ec.limb {w : World} {g V : Nat} (h : Ec w g V) (j : Nat) (hj : j < 4) : w.cell? ⟨g, j, none⟩ = some (.int .u64 (limb V j : Int)) := by
  obtain ⟨e0, e1, e2, e3⟩ := limbs_of V
  rcases (by omega : j = 0 ∨ j = 1 ∨ j = 2 ∨ j = 3) with rfl | rfl | rfl | rfl
  · rw [e0]; exact h.c0
  · rw [e1]; exact h.c1
  · rw [e2]; exact h.c2
  · rw [e3]; exact h.c3

theorem Ec.one {w : World} {g h V k : Nat} {v : Value} (e : Ec w h V) (hn : h ≠ g) : Ec (w.setCell ⟨g, k, none⟩ v) h V :=
  ⟨(World.cell?_setCell_far w ⟨g, k, none⟩ ⟨h, 0, none⟩ v (fun x => hn x.symm)).trans e.c0, (World.cell?_setCell_far w ⟨g, k, none⟩ ⟨h, 1, none⟩ v (fun x => hn x.symm)).trans e.c1, (World.cell?_setCell_far w ⟨g, k, none⟩ ⟨h, 2, none⟩ v (fun x => hn x.symm)).trans e.c2, (World.cell?_setCell_far w ⟨g, k, none⟩ ⟨h, 3, none⟩ v (fun x => hn x.symm)).trans e.c3,
   (World.frozen?_setCell ..).trans e.f0, (World.frozen?_setCell ..).trans e.f1, (World.frozen?_setCell ..).trans e.f2, (World.frozen?_setCell ..).trans e.f3⟩

set_option maxRecDepth 100000 in
set_option maxHeartbeats 4000000 in
theorem bytesE {V : Nat} (hV : V < W4) (w : World) : Calls Try.prog 57 #[.agg #[.int .u64 (l0 (V) : Int), .int .u64 (l1 (V) : Int), .int .u64 (l2 (V) : Int), .int .u64 (l3 (V) : Int)]] w fun e w' => e = .returned (.agg ((leBytes (V % PP) 32).map vb).toArray) ∧ Below w.heap.size w w' := by
  have C1 := Lib.hid (fun W => normE hV W)
  obtain ⟨N, hN⟩ : ∃ N, N = V % PP := ⟨_, rfl⟩
  rw [← hN] at C1 ⊢
  obtain ⟨us, hus⟩ : ∃ us : Array Value, us = ((leBytes N 32).map vb).toArray := ⟨_, rfl⟩
  rw [← hus]
  have HUS := Lib.hid hus
  clear hus
  have hzs : zs 32 = fillB N 0 := by simp [fillB, leBytes]
  clear hV hN
  go_enter Try.func57, Try.ntmps57
  go_wp2_with fail
  with_reducible refine (C1.out _).mono ?_
  rintro e w1 ⟨rfl, hb1⟩
  have B1 := Lib.hid hb1
  obtain ⟨hc1, hf1⟩ := bcell hb1
  have zz1 := hb1.size
  try simp only [World.size_alloc] at zz1
  have z1_0 : w.heap.size + 1 < w1.heap.size := by omega
  have z1_1 : w.heap.size < w1.heap.size := by omega
  clear hb1 zz1
  have hZ1 : ((w1.alloc (.cells #[.int .u64 (l0 (N) : Int), .int .u64 (l1 (N) : Int), .int .u64 (l2 (N) : Int), .int .u64 (l3 (N) : Int)] 26)).alloc (.cells #[.int .u8 0, .int .u8 0, .int .u8 0, .int .u8 0, .int .u8 0, .int .u8 0, .int .u8 0, .int .u8 0, .int .u8 0, .int .u8 0, .int .u8 0, .int .u8 0, .int .u8 0, .int .u8 0, .int .u8 0, .int .u8 0, .int .u8 0, .int .u8 0, .int .u8 0, .int .u8 0, .int .u8 0, .int .u8 0, .int .u8 0, .int .u8 0, .int .u8 0, .int .u8 0, .int .u8 0, .int .u8 0, .int .u8 0, .int .u8 0, .int .u8 0, .int .u8 0] 50)).heap[w.heap.size + 1]? = some (.cells #[.int .u8 0, .int .u8 0, .int .u8 0, .int .u8 0, .int .u8 0, .int .u8 0, .int .u8 0, .int .u8 0, .int .u8 0, .int .u8 0, .int .u8 0, .int .u8 0, .int .u8 0, .int .u8 0, .int .u8 0, .int .u8 0, .int .u8 0, .int .u8 0, .int .u8 0, .int .u8 0, .int .u8 0, .int .u8 0, .int .u8 0, .int .u8 0, .int .u8 0, .int .u8 0, .int .u8 0, .int .u8 0, .int .u8 0, .int .u8 0, .int .u8 0, .int .u8 0] 50 (0, 0)) := by
    refine (heap_alloc_old _ _ (by simp; omega)).trans ((heap_alloc_old _ _ (by omega)).trans ((B1.out.block _ (by simp)).trans (heap_alloc2_new w _ _)))
  have hE1 : Ec ((w1.alloc (.cells #[.int .u64 (l0 (N) : Int), .int .u64 (l1 (N) : Int), .int .u64 (l2 (N) : Int), .int .u64 (l3 (N) : Int)] 26)).alloc (.cells #[.int .u8 0, .int .u8 0, .int .u8 0, .int .u8 0, .int .u8 0, .int .u8 0, .int .u8 0, .int .u8 0, .int .u8 0, .int .u8 0, .int .u8 0, .int .u8 0, .int .u8 0, .int .u8 0, .int .u8 0, .int .u8 0, .int .u8 0, .int .u8 0, .int .u8 0, .int .u8 0, .int .u8 0, .int .u8 0, .int .u8 0, .int .u8 0, .int .u8 0, .int .u8 0, .int .u8 0, .int .u8 0, .int .u8 0, .int .u8 0, .int .u8 0, .int .u8 0] 50)) w1.heap.size N := by
    constructor <;> simp [go_sem]
  have hB1 : Bw ((w1.alloc (.cells #[.int .u64 (l0 (N) : Int), .int .u64 (l1 (N) : Int), .int .u64 (l2 (N) : Int), .int .u64 (l3 (N) : Int)] 26)).alloc (.cells #[.int .u8 0, .int .u8 0, .int .u8 0, .int .u8 0, .int .u8 0, .int .u8 0, .int .u8 0, .int .u8 0, .int .u8 0, .int .u8 0, .int .u8 0, .int .u8 0, .int .u8 0, .int .u8 0, .int .u8 0, .int .u8 0, .int .u8 0, .int .u8 0, .int .u8 0, .int .u8 0, .int .u8 0, .int .u8 0, .int .u8 0, .int .u8 0, .int .u8 0, .int .u8 0, .int .u8 0, .int .u8 0, .int .u8 0, .int .u8 0, .int .u8 0, .int .u8 0] 50)) (w1.heap.size + 1) 50 (fillB N 0) := by
    rw [← hzs]
    exact heap_alloc2_new w1 _ _
  have hBe : Below w.heap.size w ((w1.alloc (.cells #[.int .u64 (l0 (N) : Int), .int .u64 (l1 (N) : Int), .int .u64 (l2 (N) : Int), .int .u64 (l3 (N) : Int)] 26)).alloc (.cells #[.int .u8 0, .int .u8 0, .int .u8 0, .int .u8 0, .int .u8 0, .int .u8 0, .int .u8 0, .int .u8 0, .int .u8 0, .int .u8 0, .int .u8 0, .int .u8 0, .int .u8 0, .int .u8 0, .int .u8 0, .int .u8 0, .int .u8 0, .int .u8 0, .int .u8 0, .int .u8 0, .int .u8 0, .int .u8 0, .int .u8 0, .int .u8 0, .int .u8 0, .int .u8 0, .int .u8 0, .int .u8 0, .int .u8 0, .int .u8 0, .int .u8 0, .int .u8 0] 50)) := by
    have b1 := B1.out
    simp only [World.size_alloc] at b1
    exact ((((Below.refl w.heap.size w).alloc (Nat.le_refl _) _).alloc (by simp) _).trans (b1.mono (by omega)) |>.alloc (by omega) _).alloc (by simp; omega) _
  have HZ1 := Lib.hid hZ1; have HE1 := Lib.hid hE1; have HB1 := Lib.hid hB1; have HBe := Lib.hid hBe
  clear hZ1 hE1 hB1 hBe hzs
  go_wp2_with fail
  clear hc1 hf1
  go_loopw [8] (fun i wr => ∃ k : Nat, k ≤ 32 ∧ i = .int .i64 k ∧ Hid (Below w.heap.size w wr) ∧ Hid (Ec wr w1.heap.size N) ∧ Hid (Bw wr (w1.heap.size + 1) 50 (fillB N k)) ∧ Hid (wr.heap[w.heap.size + 1]? = some (.cells #[.int .u8 0, .int .u8 0, .int .u8 0, .int .u8 0, .int .u8 0, .int .u8 0, .int .u8 0, .int .u8 0, .int .u8 0, .int .u8 0, .int .u8 0, .int .u8 0, .int .u8 0, .int .u8 0, .int .u8 0, .int .u8 0, .int .u8 0, .int .u8 0, .int .u8 0, .int .u8 0, .int .u8 0, .int .u8 0, .int .u8 0, .int .u8 0, .int .u8 0, .int .u8 0, .int .u8 0, .int .u8 0, .int .u8 0, .int .u8 0, .int .u8 0, .int .u8 0] 50 (0, 0)))) (fun i _ => 32 - (intOf i).toNat)
  case atStart => exact ⟨0, Nat.zero_le _, rfl, HBe, HE1, HB1, HZ1⟩
  case round =>
    obtain ⟨k, hk, rfl, hbe, hec, hbw, hres⟩ := hrel
    clear HB1 HE1 HZ1 HBe
    by_cases hlt : k < 32
    · obtain ⟨q1, q2, q3⟩ := hbw.out.at_ (j := k) (by rw [fillB_len _ _ hk]; exact hlt)
      have hl := hec.out.limb (k / 8) (by omega)
      have k0 : (0 : Int) ≤ (k : Int) := Int.natCast_nonneg _
      have k64 : (k : Int) < 32 := by omega
      have HV := Lib.hid (limb_byteI N k)
      have hnew := q3 (leB N k)
      rw [fillB_set N k hlt] at hnew
      have HN := Lib.hid hnew
      have hgr : ∀ v, Hid (wr.grownBy (wr.setCell ⟨w1.heap.size + 1, k, none⟩ v) (some (w1.heap.size + 1))) := fun v => Lib.hid (setCell_grown wr (w1.heap.size + 1) k v)
      have hb2 : Hid (∀ v, Below w.heap.size w (wr.setCell ⟨w1.heap.size + 1, k, none⟩ v)) := Lib.hid (fun v => hbe.out.grown (hgr v).out hbe.out.size (fun i hi => by simp only [Option.some.injEq] at hi; omega))
      have rs2 : Hid (∀ v, (wr.setCell ⟨w1.heap.size + 1, k, none⟩ v).heap[w.heap.size + 1]? = some (.cells #[.int .u8 0, .int .u8 0, .int .u8 0, .int .u8 0, .int .u8 0, .int .u8 0, .int .u8 0, .int .u8 0, .int .u8 0, .int .u8 0, .int .u8 0, .int .u8 0, .int .u8 0, .int .u8 0, .int .u8 0, .int .u8 0, .int .u8 0, .int .u8 0, .int .u8 0, .int .u8 0, .int .u8 0, .int .u8 0, .int .u8 0, .int .u8 0, .int .u8 0, .int .u8 0, .int .u8 0, .int .u8 0, .int .u8 0, .int .u8 0, .int .u8 0, .int .u8 0] 50 (0, 0))) := Lib.hid (fun v => ((hgr v).out.block _ (Array.getElem?_eq_some_iff.1 hres.out).1 (by simp; omega)).trans hres.out)
      have he2 : Hid (∀ v, Ec (wr.setCell ⟨w1.heap.size + 1, k, none⟩ v) w1.heap.size N) := Lib.hid (fun v => hec.out.one (by omega))
      clear hnew q3 hgr
      go_wp2_with fail
      rw [HV.out]
      go_roundw
      case rel => exact ⟨k + 1, by omega, by go_num, hb2.out _, he2.out _, HN, rs2.out _⟩
      case measure => simp [intOf]; omega
    · obtain rfl : k = 32 := by omega
      have haw : Hid (wr.heap[w1.heap.size + 1]? = some (.cells us 50 (0, 0))) := by
        rw [HUS.out, ← fillB_all]
        exact hbw
      have husz : us.size = 32 := by rw [HUS.out]; simp [leBytes_len]
      have hone : Hid (us.all (·.oneCell') = true) := by rw [HUS.out]; exact one_bytes _
      have hi : Hid ((Try.prog.info? 50).map (·.size) = some us.size) := by rw [husz]; show _ = _; kernel_rfl
      have ho : Hid ((#[.int .u8 0, .int .u8 0, .int .u8 0, .int .u8 0, .int .u8 0, .int .u8 0, .int .u8 0, .int .u8 0, .int .u8 0, .int .u8 0, .int .u8 0, .int .u8 0, .int .u8 0, .int .u8 0, .int .u8 0, .int .u8 0, .int .u8 0, .int .u8 0, .int .u8 0, .int .u8 0, .int .u8 0, .int .u8 0, .int .u8 0, .int .u8 0, .int .u8 0, .int .u8 0, .int .u8 0, .int .u8 0, .int .u8 0, .int .u8 0, .int .u8 0, .int .u8 0] : Array Value).size = us.size) := by rw [husz]; show _ = _; rfl
      have hbe3 : Below w.heap.size w (wr.setRow (w.heap.size + 1) us) := hbe.out.grown (row := some (w.heap.size + 1)) ⟨rfl, rfl, rfl, by simp, fun j _ hj => setRow_other wr (w.heap.size + 1) j _ (fun e => hj (by rw [e]))⟩ hbe.out.size (fun j hj => by simp only [Option.some.injEq] at hj; omega)
      clear husz hbw hbe
      go_wp2_with (first
        | (with_reducible refine wpList_load_row rfl 50 (.tmp 4) rfl (w1.heap.size + 1) rfl 50 us (0, 0) _ haw.out Try.underlying50 rfl hi.out ?_)
        | (with_reducible refine wpList_store_row rfl 50 (.tmp 2) (.tmp 23) rfl (w.heap.size + 1) us rfl rfl 50 _ hres.out hi.out ho.out hone.out ?_))
      (try simp only [Exit.inBlock, Exit.then])
      refine bodyPost_ret (results_cell_row rfl _ _ (w.heap.size + 1) 50 us (0, 0) _ rfl (setRow_heap wr (w.heap.size + 1) _ _ _ _ hres.out) Try.underlying50 rfl hi.out) rfl ?_
      exact ⟨rfl, hbe3⟩
end Go.Proofs.Ytgkglielcbgpiaa
