/- The fixed fact of layer 6. -/
import Derived.Test.YtgkglielcbgpiaaV8
namespace Go.Proofs.Ytgkglielcbgpiaa
open Go.RowKit

def kRfc : List UInt8 := [165, 70, 227, 107, 240, 82, 124, 157, 59, 22, 21, 75, 130, 70, 94, 221, 98, 20, 76, 10, 193, 252, 90, 24, 80, 106, 34, 68, 186, 68, 154, 196]
def uRfc : List UInt8 := [230, 219, 104, 103, 88, 48, 48, 219, 53, 148, 193, 164, 36, 177, 95, 124, 114, 102, 36, 236, 38, 179, 53, 59, 16, 169, 3, 166, 208, 171, 28, 76]
theorem rfcQ : multQ kRfc uRfc = 37325765543539916631701301279660700968428932651319597985674090122993663859395 := by
  unfold multQ
  rw [invP_rpO]
  decide +kernel
theorem mulL_of {k u : List UInt8} {q : Nat} (h : multQ k u = q) (h0 : q ≠ 0) (hk : k.length = 32) (hu : u.length = 32) : mulL k u = leBytes q 32 ∧ mulC k u = 0 := by
  have hc : k.length = 32 ∧ u.length = 32 := ⟨hk, hu⟩
  constructor
  · unfold mulL multL
    rw [if_pos hc, h, if_neg h0]
  · unfold mulC multC
    rw [if_pos hc, h, if_neg h0]
theorem rfc_le : (leBytes 37325765543539916631701301279660700968428932651319597985674090122993663859395 32).getD 0 0 = 195 ∧ (leBytes 37325765543539916631701301279660700968428932651319597985674090122993663859395 32).getD 1 0 = 218 ∧ (leBytes 37325765543539916631701301279660700968428932651319597985674090122993663859395 32).getD 31 0 = 82 := by decide +kernel
theorem rfc_ex : ∃ L, L = mulL kRfc uRfc ∧ L.length = 32 ∧ L.getD 0 0 = 195 ∧ L.getD 1 0 = 218 ∧ L.getD 31 0 = 82 ∧ mulC kRfc uRfc = 0 := by
  obtain ⟨h1, h2⟩ := mulL_of rfcQ (by decide) rfl rfl
  exact ⟨_, rfl, mulL_len _ _, by rw [h1]; exact rfc_le.1, by rw [h1]; exact rfc_le.2.1, by rw [h1]; exact rfc_le.2.2, h2⟩
theorem kArr : (kRfc.map vb).toArray = #[.int .u8 165, .int .u8 70, .int .u8 227, .int .u8 107, .int .u8 240, .int .u8 82, .int .u8 124, .int .u8 157, .int .u8 59, .int .u8 22, .int .u8 21, .int .u8 75, .int .u8 130, .int .u8 70, .int .u8 94, .int .u8 221, .int .u8 98, .int .u8 20, .int .u8 76, .int .u8 10, .int .u8 193, .int .u8 252, .int .u8 90, .int .u8 24, .int .u8 80, .int .u8 106, .int .u8 34, .int .u8 68, .int .u8 186, .int .u8 68, .int .u8 154, .int .u8 196] := by kernel_rfl
theorem uArr : (uRfc.map vb).toArray = #[.int .u8 230, .int .u8 219, .int .u8 104, .int .u8 103, .int .u8 88, .int .u8 48, .int .u8 48, .int .u8 219, .int .u8 53, .int .u8 148, .int .u8 193, .int .u8 164, .int .u8 36, .int .u8 177, .int .u8 95, .int .u8 124, .int .u8 114, .int .u8 102, .int .u8 36, .int .u8 236, .int .u8 38, .int .u8 179, .int .u8 53, .int .u8 59, .int .u8 16, .int .u8 169, .int .u8 3, .int .u8 166, .int .u8 208, .int .u8 171, .int .u8 28, .int .u8 76] := by kernel_rfl
set_option maxRecDepth 100000 in
set_option maxHeartbeats 4000000 in
theorem awake06_any (w : World) : Calls Try.prog 29 #[] w fun e w' => e = .returned (.bool true) ∧ Below w.heap.size w w' := by
  obtain ⟨rfcL, hR, hRl, r0, r1, r31, hRc⟩ := rfc_ex
  obtain ⟨W0, hW0⟩ : ∃ W0, W0 = (w.alloc (.cells (kRfc.map vb).toArray 5)).alloc (.cells (uRfc.map vb).toArray 5) := ⟨_, rfl⟩
  have hb0 : Below w.heap.size w W0 := by rw [hW0]; exact ((Below.refl _ _).alloc (Nat.le_refl _) _).alloc (by simp) _
  have hk : Bs W0 W0.heap.size (.slice (some ⟨w.heap.size, 0, none⟩) 32 32) kRfc := by
    rw [hW0]
    have h := (Bs.lit w kRfc (by decide)).alloc (by simp) (.cells (uRfc.map vb).toArray 5)
    exact h.more (by simp)
  have hu : Bs W0 W0.heap.size (.slice (some ⟨w.heap.size + 1, 0, none⟩) 32 32) uRfc := by
    rw [hW0]
    have h := Bs.lit (w.alloc (.cells (kRfc.map vb).toArray 5)) uRfc (by decide)
    simp only [World.size_alloc] at h
    exact h.more (by simp)
  have C1 := mult_any hk hu
  rw [hRc, ← hR] at C1
  have hW0' := hW0
  rw [kArr, uArr] at hW0'
  obtain ⟨us, hus⟩ : ∃ us, us = (rfcL.map vb).toArray := ⟨_, rfl⟩
  have C2 : Hid (Calls Try.prog 33 #[.slice (some ⟨w.heap.size, 0, none⟩) 32 32, .slice (some ⟨w.heap.size + 1, 0, none⟩) 32 32] W0 fun e w' => e = .returned (.tuple #[.agg us, .int .i64 0]) ∧ Below W0.heap.size W0 w') := Lib.hid (by rw [hus]; exact C1)
  have hi : Hid ((Try.prog.info? 50).map (·.size) = some us.size) := Lib.hid (by rw [hus]; simp only [List.size_toArray, List.length_map, hRl]; kernel_rfl)
  have ho : Hid (us.all (·.oneCell') = true) := Lib.hid (by rw [hus]; exact one_bytes _)
  have hz : Hid ((#[.int .u8 0, .int .u8 0, .int .u8 0, .int .u8 0, .int .u8 0, .int .u8 0, .int .u8 0, .int .u8 0, .int .u8 0, .int .u8 0, .int .u8 0, .int .u8 0, .int .u8 0, .int .u8 0, .int .u8 0, .int .u8 0, .int .u8 0, .int .u8 0, .int .u8 0, .int .u8 0, .int .u8 0, .int .u8 0, .int .u8 0, .int .u8 0, .int .u8 0, .int .u8 0, .int .u8 0, .int .u8 0, .int .u8 0, .int .u8 0, .int .u8 0, .int .u8 0] : Array Value).size = us.size) := Lib.hid (by rw [hus]; simp only [List.size_toArray, List.length_map, hRl]; rfl)
  have HB0 := Lib.hid hb0; have HW0 := Lib.hid hW0'; have HUS := Lib.hid hus; have HRL := Lib.hid hRl; have HR0 := Lib.hid r0; have HR1 := Lib.hid r1; have HR31 := Lib.hid r31
  clear hb0 hk hu C1 hW0 hW0' hus hR hRl r0 r1 r31 hRc
  go_enter Try.func29, Try.ntmps29
  go_upto_region 3 with fail
  rw [show _ = W0 from HW0.out.symm]
  clear HW0
  go_wp2_with fail
  with_reducible refine (C2.out).mono ?_
  rintro e1 v1 ⟨rfl, hb1⟩
  have hz2 := heap_alloc_new v1 (.cells #[.int .u8 0, .int .u8 0, .int .u8 0, .int .u8 0, .int .u8 0, .int .u8 0, .int .u8 0, .int .u8 0, .int .u8 0, .int .u8 0, .int .u8 0, .int .u8 0, .int .u8 0, .int .u8 0, .int .u8 0, .int .u8 0, .int .u8 0, .int .u8 0, .int .u8 0, .int .u8 0, .int .u8 0, .int .u8 0, .int .u8 0, .int .u8 0, .int .u8 0, .int .u8 0, .int .u8 0, .int .u8 0, .int .u8 0, .int .u8 0, .int .u8 0, .int .u8 0] 50)
  have HZ2 := Lib.hid hz2
  clear hz2
  go_upto_region 4 with (first | (with_reducible refine wpList_store_row rfl 50 (.tmp 3) (.tmp 11) rfl (v1.heap.size) us rfl rfl 50 _ HZ2.out hi.out hz.out ho.out ?_) | fail)
  rw [World.setRow_alloc_new]
  obtain ⟨W2, hW2⟩ : ∃ W2, W2 = v1.alloc (.cells us 50) := ⟨_, rfl⟩
  obtain ⟨g3, hg3⟩ : ∃ g3, g3 = v1.heap.size := ⟨_, rfl⟩
  have hr : W2.heap[g3]? = some (.cells (rfcL.map vb).toArray 50 (0, 0)) := by rw [hW2, hg3, HUS.out]; exact heap_alloc_new _ _
  have hRl := HRL.out
  have gd : ∀ j (hj : j < rfcL.length), rfcL[j] = rfcL.getD j 0 := fun j hj => by simp [hj]
  have c0 : W2.cell? ⟨g3, 0, none⟩ = some (.int .u8 195) := by rw [cell_of_row _ _ _ _ _ _ hr]; simp only [List.getElem?_toArray, List.getElem?_map]; rw [List.getElem?_eq_getElem (by rw [hRl]; decide), gd, HR0.out]; rfl
  have c1 : W2.cell? ⟨g3, 1, none⟩ = some (.int .u8 218) := by rw [cell_of_row _ _ _ _ _ _ hr]; simp only [List.getElem?_toArray, List.getElem?_map]; rw [List.getElem?_eq_getElem (by rw [hRl]; decide), gd, HR1.out]; rfl
  have c31 : W2.cell? ⟨g3, 31, none⟩ = some (.int .u8 82) := by rw [cell_of_row _ _ _ _ _ _ hr]; simp only [List.getElem?_toArray, List.getElem?_map]; rw [List.getElem?_eq_getElem (by rw [hRl]; decide), gd, HR31.out]; rfl
  have HB2 : Hid (Below w.heap.size w W2) := Lib.hid (by rw [hW2]; exact (HB0.out.trans (hb1.mono HB0.out.size)).alloc (Nat.le_trans HB0.out.size hb1.size) _)
  rw [← hW2, ← hg3]
  clear hr hRl gd HR0 HR1 HR31 HRL hW2 hg3 hb1 HZ2 C2 hi ho hz HB0 HUS
  go_wp2
  go_ret
  exact ⟨rfl, HB2.out⟩
end Go.Proofs.Ytgkglielcbgpiaa
