/- sha's Sum and the reference's. -/
import Derived.Test.YtifgigpflfdmfaaSum
import Derived.Test.YtifgigpflfdmfaaCopyB
namespace Go.Proofs.Ytifgigpflfdmfaa
open Go.RowKit

set_option maxRecDepth 8000 in
set_option maxHeartbeats 1600000 in
theorem shaSum_any {w : World} {B : Nat} {ls : List (List UInt8)} {v : Value} (hr : Rs w B v ls) (hB : B ≤ w.heap.size) (hlen : ls.flatten.length ≤ 1152921504606846000) :
    Calls Try.prog 64 #[v] w fun e w' => e = .returned (arr32 (sumL ls.flatten)) ∧ Below w.heap.size w w' := by
  have hb0 : Below w.heap.size w (w.alloc (.cells #[.int .u8 0, .int .u8 0, .int .u8 0, .int .u8 0, .int .u8 0, .int .u8 0, .int .u8 0, .int .u8 0, .int .u8 0, .int .u8 0, .int .u8 0, .int .u8 0, .int .u8 0, .int .u8 0, .int .u8 0, .int .u8 0, .int .u8 0, .int .u8 0, .int .u8 0, .int .u8 0, .int .u8 0, .int .u8 0, .int .u8 0, .int .u8 0, .int .u8 0, .int .u8 0, .int .u8 0, .int .u8 0, .int .u8 0, .int .u8 0, .int .u8 0, .int .u8 0] 29)) := (Below.refl _ _).alloc (Nat.le_refl _) _
  have CN := new_any (w := w.alloc (.cells #[.int .u8 0, .int .u8 0, .int .u8 0, .int .u8 0, .int .u8 0, .int .u8 0, .int .u8 0, .int .u8 0, .int .u8 0, .int .u8 0, .int .u8 0, .int .u8 0, .int .u8 0, .int .u8 0, .int .u8 0, .int .u8 0, .int .u8 0, .int .u8 0, .int .u8 0, .int .u8 0, .int .u8 0, .int .u8 0, .int .u8 0, .int .u8 0, .int .u8 0, .int .u8 0, .int .u8 0, .int .u8 0, .int .u8 0, .int .u8 0, .int .u8 0, .int .u8 0] 29)) ((hr.below hb0 hB).more (by simp; omega)) (by omega)
  have hs0 : (w.alloc (.cells #[.int .u8 0, .int .u8 0, .int .u8 0, .int .u8 0, .int .u8 0, .int .u8 0, .int .u8 0, .int .u8 0, .int .u8 0, .int .u8 0, .int .u8 0, .int .u8 0, .int .u8 0, .int .u8 0, .int .u8 0, .int .u8 0, .int .u8 0, .int .u8 0, .int .u8 0, .int .u8 0, .int .u8 0, .int .u8 0, .int .u8 0, .int .u8 0, .int .u8 0, .int .u8 0, .int .u8 0, .int .u8 0, .int .u8 0, .int .u8 0, .int .u8 0, .int .u8 0] 29)).heap.size = w.heap.size + 1 := by simp
  rw [hs0] at CN
  have HB0 := Lib.hid hb0; have HCN := Lib.hid CN; have HS0 := Lib.hid hs0
  have hres : Hid ((w.alloc (.cells #[.int .u8 0, .int .u8 0, .int .u8 0, .int .u8 0, .int .u8 0, .int .u8 0, .int .u8 0, .int .u8 0, .int .u8 0, .int .u8 0, .int .u8 0, .int .u8 0, .int .u8 0, .int .u8 0, .int .u8 0, .int .u8 0, .int .u8 0, .int .u8 0, .int .u8 0, .int .u8 0, .int .u8 0, .int .u8 0, .int .u8 0, .int .u8 0, .int .u8 0, .int .u8 0, .int .u8 0, .int .u8 0, .int .u8 0, .int .u8 0, .int .u8 0, .int .u8 0] 29)).heap[w.heap.size]? = some (.cells #[.int .u8 0, .int .u8 0, .int .u8 0, .int .u8 0, .int .u8 0, .int .u8 0, .int .u8 0, .int .u8 0, .int .u8 0, .int .u8 0, .int .u8 0, .int .u8 0, .int .u8 0, .int .u8 0, .int .u8 0, .int .u8 0, .int .u8 0, .int .u8 0, .int .u8 0, .int .u8 0, .int .u8 0, .int .u8 0, .int .u8 0, .int .u8 0, .int .u8 0, .int .u8 0, .int .u8 0, .int .u8 0, .int .u8 0, .int .u8 0, .int .u8 0, .int .u8 0] 29 (0, 0))) := heap_alloc_new w _
  obtain ⟨cs, hcs⟩ : ∃ cs, cs = ((sumL ls.flatten).map vb).toArray := ⟨_, rfl⟩
  have hcz : cs.size = 32 := by rw [hcs]; simp [sumL_len]
  have hi : Hid ((Try.prog.info? 29).map (·.size) = some cs.size) := by rw [hcz]; show _ = _; kernel_rfl
  have ho : Hid ((#[.int .u8 0, .int .u8 0, .int .u8 0, .int .u8 0, .int .u8 0, .int .u8 0, .int .u8 0, .int .u8 0, .int .u8 0, .int .u8 0, .int .u8 0, .int .u8 0, .int .u8 0, .int .u8 0, .int .u8 0, .int .u8 0, .int .u8 0, .int .u8 0, .int .u8 0, .int .u8 0, .int .u8 0, .int .u8 0, .int .u8 0, .int .u8 0, .int .u8 0, .int .u8 0, .int .u8 0, .int .u8 0, .int .u8 0, .int .u8 0, .int .u8 0, .int .u8 0] : Array Value).size = cs.size) := by rw [hcz]; show _ = _; rfl
  have hone : Hid (cs.all (·.oneCell') = true) := by
    rw [hcs]
    show _ = _
    rw [Array.all_eq_true_iff_forall_mem]
    intro u hu
    rw [List.mem_toArray] at hu
    exact vb_one _ u hu
  have HCS := Lib.hid hcs
  clear hb0 CN hr hcs hcz hs0
  go_enter Try.func64, Try.ntmps64
  go_wp2_with fail
  refine (HCN.out).mono ?_
  rintro e1 w1 ⟨rfl, h1, hb1⟩
  have CS := sum_any h1 hlen
  have HSS : Hid (Calls Try.prog 67 #[.pointer (some ⟨w.heap.size + 1, 0, none⟩)] w1 fun e w' => e = .returned (.agg cs) ∧ Below w1.heap.size w1 w') := by rw [HCS.out]; exact CS
  have hres1 : Hid (w1.heap[w.heap.size]? = some (.cells #[.int .u8 0, .int .u8 0, .int .u8 0, .int .u8 0, .int .u8 0, .int .u8 0, .int .u8 0, .int .u8 0, .int .u8 0, .int .u8 0, .int .u8 0, .int .u8 0, .int .u8 0, .int .u8 0, .int .u8 0, .int .u8 0, .int .u8 0, .int .u8 0, .int .u8 0, .int .u8 0, .int .u8 0, .int .u8 0, .int .u8 0, .int .u8 0, .int .u8 0, .int .u8 0, .int .u8 0, .int .u8 0, .int .u8 0, .int .u8 0, .int .u8 0, .int .u8 0] 29 (0, 0))) := Lib.hid ((hb1.block _ (by simp)).trans hres.out)
  have HB1 := Lib.hid (HB0.out.trans (hb1.mono (by omega)))
  have hl1 : w.heap.size < w1.heap.size := (Array.getElem?_eq_some_iff.1 hres1.out).1
  clear CS h1 hb1
  go_wp2_with fail
  refine (HSS.out).mono ?_
  rintro e2 w2 ⟨rfl, hb2⟩
  have hres2 : Hid (w2.heap[w.heap.size]? = some (.cells #[.int .u8 0, .int .u8 0, .int .u8 0, .int .u8 0, .int .u8 0, .int .u8 0, .int .u8 0, .int .u8 0, .int .u8 0, .int .u8 0, .int .u8 0, .int .u8 0, .int .u8 0, .int .u8 0, .int .u8 0, .int .u8 0, .int .u8 0, .int .u8 0, .int .u8 0, .int .u8 0, .int .u8 0, .int .u8 0, .int .u8 0, .int .u8 0, .int .u8 0, .int .u8 0, .int .u8 0, .int .u8 0, .int .u8 0, .int .u8 0, .int .u8 0, .int .u8 0] 29 (0, 0))) := Lib.hid ((hb2.block _ hl1).trans hres1.out)
  have hb3 := HB1.out.trans (hb2.mono HB1.out.size)
  have hbe3 : Below w.heap.size w (w2.setRow w.heap.size cs) := hb3.grown (row := some w.heap.size) ⟨rfl, rfl, rfl, by simp, fun j _ hj => setRow_other w2 w.heap.size j _ (fun e => hj (by rw [e]))⟩ hb3.size (fun j hj => by simp only [Option.some.injEq] at hj; omega)
  have HBE3 := Lib.hid hbe3
  clear hb2 hb3 hbe3
  go_wp2_with (with_reducible refine wpList_store_row rfl 29 (.tmp 2) (.tmp 5) rfl w.heap.size cs rfl rfl 29 _ hres2.out hi.out ho.out hone.out ?_)
  (try simp only [Exit.inBlock, Exit.then])
  refine bodyPost_ret (results_cell_row rfl _ _ w.heap.size 29 cs (0, 0) _ rfl (setRow_heap w2 w.heap.size _ _ _ _ hres2.out) Try.underlying29 rfl hi.out) rfl ?_
  exact ⟨by rw [HCS.out]; rfl, HBE3.out⟩

def rowB (st : List UInt32) (k : Nat) : Array Value := (((outL st).take k ++ zs (32 - k)).map vb).toArray
theorem outL_at (S : List UInt32) : ∀ j, j < 4 * S.length → (outL S).getD j 0 = (wordB4 (S.getD (j / 4) 0)).getD (j % 4) 0 := by
  induction S with
  | nil => intro j h; simp at h
  | cons x S ih =>
    intro j h
    have h1 : outL (x :: S) = wordB4 x ++ outL S := rfl
    rw [h1]
    by_cases hj : j < 4
    · have e1 : j / 4 = 0 := by omega
      have e2 : j % 4 = j := by omega
      rw [e1, e2]
      have hl : j < (wordB4 x).length := by rw [wordB4_len]; exact hj
      simp [List.getElem?_append_left hl]
    · have h2 := ih (j - 4) (by simp at h; omega)
      have e1 : j / 4 = (j - 4) / 4 + 1 := by omega
      have e2 : j % 4 = (j - 4) % 4 := by omega
      rw [e1, e2, List.getD_cons_succ, ← h2]
      simp only [List.getD_eq_getElem?_getD]
      rw [List.getElem?_append_right (by rw [wordB4_len]; omega), wordB4_len]
theorem wordB4_at (x : UInt32) (m : Nat) (h : m < 4) : (((wordB4 x).getD m 0).toNat : Int) = (x.toNat : Int) / 2 ^ (24 - 8 * m) % 256 := by
  have h1 : ((2 : Int) ^ (24 - 8 * m)) = ((2 ^ (24 - 8 * m) : Nat) : Int) := by norm_cast
  have h2 : (wordB4 x).getD m 0 = UInt8.ofNat (x.toNat / 256 ^ idx 2 4 m) := by simp [wordB4, putL, h]
  rw [h2, h1, UInt8.toNat_ofNat', ← Int.natCast_ediv, show (256 : Int) = ((256 : Nat) : Int) from rfl, ← Int.natCast_emod]
  have h3 : 256 ^ idx 2 4 m = 2 ^ (24 - 8 * m) := by
    rcases (by omega : m = 0 ∨ m = 1 ∨ m = 2 ∨ m = 3) with rfl | rfl | rfl | rfl <;> rfl
  rw [h3]
theorem rowB_at (S : List UInt32) (h8 : S.length = 8) (j : Nat) (hj : j < 32) : (rowB S j)[j]? = some (.int .u8 0) := by
  have h1 : (((outL S).take j).map vb).length = j := by rw [List.length_map, List.length_take, outL_len]; omega
  rw [rowB, List.getElem?_toArray, List.map_append, List.getElem?_append_right (by omega), h1, Nat.sub_self, show 32 - j = (31 - j) + 1 by omega]
  rfl
theorem rowB_set (S : List UInt32) (h8 : S.length = 8) (j : Nat) (hj : j < 32) : (rowB S j).setIfInBounds j (vb ((outL S).getD j 0)) = rowB S (j + 1) := by
  have h1 : (((outL S).take j).map vb).length = j := by rw [List.length_map, List.length_take, outL_len]; omega
  have hl : j < (outL S).length := by rw [outL_len]; omega
  rw [rowB, rowB, List.map_append, List.setIfInBounds_toArray, List.set_append_right _ _ (by omega), h1, Nat.sub_self, show 32 - j = (31 - j) + 1 by omega, show 32 - (j + 1) = 31 - j by omega, List.take_succ_eq_append_getElem hl]
  have hg : (outL S).getD j 0 = (outL S)[j] := by rw [List.getD_eq_getElem?_getD, List.getElem?_eq_getElem hl, Option.getD_some]
  rw [hg]
  simp only [zs, List.replicate_succ, List.map_cons, List.set_cons_zero, List.map_append, List.append_assoc, List.cons_append, List.nil_append]
set_option maxRecDepth 100000 in
set_option maxHeartbeats 3200000 in
theorem refSum_any {w : World} {B : Nat} {L : List UInt8} {v : Value} (hb : Bs w B v L) (hB : B ≤ w.heap.size) (hlen : L.length ≤ 140737488355128) :
    Calls Try.prog 70 #[v] w fun e w' => e = .returned (arr32 (sumL L)) ∧ Below w.heap.size w w' := by
  obtain ⟨A, c, hv⟩ := hb.shape
  subst hv
  have hb0 : Below w.heap.size w (w.alloc (.cells #[.int .u8 0, .int .u8 0, .int .u8 0, .int .u8 0, .int .u8 0, .int .u8 0, .int .u8 0, .int .u8 0, .int .u8 0, .int .u8 0, .int .u8 0, .int .u8 0, .int .u8 0, .int .u8 0, .int .u8 0, .int .u8 0, .int .u8 0, .int .u8 0, .int .u8 0, .int .u8 0, .int .u8 0, .int .u8 0, .int .u8 0, .int .u8 0, .int .u8 0, .int .u8 0, .int .u8 0, .int .u8 0, .int .u8 0, .int .u8 0, .int .u8 0, .int .u8 0] 29)) := (Below.refl _ _).alloc (Nat.le_refl _) _
  have C1 := copy_any (w := w.alloc (.cells #[.int .u8 0, .int .u8 0, .int .u8 0, .int .u8 0, .int .u8 0, .int .u8 0, .int .u8 0, .int .u8 0, .int .u8 0, .int .u8 0, .int .u8 0, .int .u8 0, .int .u8 0, .int .u8 0, .int .u8 0, .int .u8 0, .int .u8 0, .int .u8 0, .int .u8 0, .int .u8 0, .int .u8 0, .int .u8 0, .int .u8 0, .int .u8 0, .int .u8 0, .int .u8 0, .int .u8 0, .int .u8 0, .int .u8 0, .int .u8 0, .int .u8 0, .int .u8 0] 29)) (hb.below hb0 hB) (by simp; omega) (by omega)
  have HB0 := Lib.hid hb0; have HC1 := Lib.hid C1
  have hres : Hid ((w.alloc (.cells #[.int .u8 0, .int .u8 0, .int .u8 0, .int .u8 0, .int .u8 0, .int .u8 0, .int .u8 0, .int .u8 0, .int .u8 0, .int .u8 0, .int .u8 0, .int .u8 0, .int .u8 0, .int .u8 0, .int .u8 0, .int .u8 0, .int .u8 0, .int .u8 0, .int .u8 0, .int .u8 0, .int .u8 0, .int .u8 0, .int .u8 0, .int .u8 0, .int .u8 0, .int .u8 0, .int .u8 0, .int .u8 0, .int .u8 0, .int .u8 0, .int .u8 0, .int .u8 0] 29)).heap[w.heap.size]? = some (.cells #[.int .u8 0, .int .u8 0, .int .u8 0, .int .u8 0, .int .u8 0, .int .u8 0, .int .u8 0, .int .u8 0, .int .u8 0, .int .u8 0, .int .u8 0, .int .u8 0, .int .u8 0, .int .u8 0, .int .u8 0, .int .u8 0, .int .u8 0, .int .u8 0, .int .u8 0, .int .u8 0, .int .u8 0, .int .u8 0, .int .u8 0, .int .u8 0, .int .u8 0, .int .u8 0, .int .u8 0, .int .u8 0, .int .u8 0, .int .u8 0, .int .u8 0, .int .u8 0] 29 (0, 0))) := heap_alloc_new w _
  have hs0 : Hid ((w.alloc (.cells #[.int .u8 0, .int .u8 0, .int .u8 0, .int .u8 0, .int .u8 0, .int .u8 0, .int .u8 0, .int .u8 0, .int .u8 0, .int .u8 0, .int .u8 0, .int .u8 0, .int .u8 0, .int .u8 0, .int .u8 0, .int .u8 0, .int .u8 0, .int .u8 0, .int .u8 0, .int .u8 0, .int .u8 0, .int .u8 0, .int .u8 0, .int .u8 0, .int .u8 0, .int .u8 0, .int .u8 0, .int .u8 0, .int .u8 0, .int .u8 0, .int .u8 0, .int .u8 0] 29)).heap.size = w.heap.size + 1) := by show _ = _; simp
  clear hb0 C1 hb
  go_enter Try.func70, Try.ntmps70
  go_wp2_with fail
  refine (HC1.out).mono ?_
  rintro e1 w1 ⟨u1, rfl, hu1, hb1⟩
  obtain ⟨A1, c1, rfl⟩ := hu1.shape
  have HU1 := Lib.hid hu1; have HB1 := Lib.hid hb1
  have CP := refpadding_any L.length (by omega) w1
  have HCP := Lib.hid CP
  clear hu1 hb1 CP
  go_wp2_with fail
  refine (HCP.out).mono ?_
  rintro e2 w2 ⟨u2, rfl, hu2, hb2⟩
  obtain ⟨A2, c2, rfl⟩ := hu2.shape
  have hu1' : Own w2 (w.heap.size + 1) (.slice A1 L.length c1) L := by
    have h := HU1.out.below hb2 (Nat.le_refl _)
    rw [hs0.out] at h
    exact h
  have HU1' := Lib.hid hu1'; have HU2 := Lib.hid hu2; have HB2 := Lib.hid hb2
  have hsz2 : w.heap.size + 1 ≤ w2.heap.size := by have h1 := HB1.out.size; have h2 := HB2.out.size; rw [hs0.out] at h1; omega
  have hpl : (padS L.length).length ≤ 72 := by rw [padS_len]; have := padZ_lt L.length; omega
  clear hu1' hu2 hb2
  go_wp2_with (with_reducible refine wpList_app rfl (.tmp 9) (.tmp 12) rfl rfl HU1'.out rfl HU2.out.bs ?_ ?_ ?_)
  · omega
  · exact hsz2
  · intro v3 w3' hv3 hg3 _
    obtain ⟨M, hM⟩ : ∃ M, M = L ++ padS L.length := ⟨_, rfl⟩
    have hMl : M.length = L.length + (padS L.length).length := by rw [hM, List.length_append]
    rw [← hM] at hv3
    obtain ⟨A3, c3, rfl⟩ := hv3.shape
    have HN : Hid (M.length = 64 * (M.length / 64)) := by show _ = _; have := padS_whole L.length; rw [← hMl] at this; omega
    have hMle : M.length ≤ 140737488355328 := by omega
    have hlow3 : w.heap.size < w3'.heap.size := by have := hg3.size; omega
    have hB3 : Below (w.heap.size + 1) (w.alloc (.cells #[.int .u8 0, .int .u8 0, .int .u8 0, .int .u8 0, .int .u8 0, .int .u8 0, .int .u8 0, .int .u8 0, .int .u8 0, .int .u8 0, .int .u8 0, .int .u8 0, .int .u8 0, .int .u8 0, .int .u8 0, .int .u8 0, .int .u8 0, .int .u8 0, .int .u8 0, .int .u8 0, .int .u8 0, .int .u8 0, .int .u8 0, .int .u8 0, .int .u8 0, .int .u8 0, .int .u8 0, .int .u8 0, .int .u8 0, .int .u8 0, .int .u8 0, .int .u8 0] 29)) w3' := by
      have h1 := HB1.out
      rw [hs0.out] at h1
      exact ((h1.trans (HB2.out.mono (by have := h1.size; rw [hs0.out] at this; omega))).grown hg3 hsz2 (fun j hj => HU1'.out.lt j hj |>.1))
    have hres3 : w3'.heap[w.heap.size]? = some (.cells #[.int .u8 0, .int .u8 0, .int .u8 0, .int .u8 0, .int .u8 0, .int .u8 0, .int .u8 0, .int .u8 0, .int .u8 0, .int .u8 0, .int .u8 0, .int .u8 0, .int .u8 0, .int .u8 0, .int .u8 0, .int .u8 0, .int .u8 0, .int .u8 0, .int .u8 0, .int .u8 0, .int .u8 0, .int .u8 0, .int .u8 0, .int .u8 0, .int .u8 0, .int .u8 0, .int .u8 0, .int .u8 0, .int .u8 0, .int .u8 0, .int .u8 0, .int .u8 0] 29 (0, 0)) := (hB3.block _ (by omega)).trans hres.out
    have hbe3 : Below w.heap.size w w3' := HB0.out.trans (hB3.mono (by omega))
    have C3 : Hid (∀ W, Calls Try.prog 86 #[] W fun ex w' => ex = .returned (.agg #[.int .u32 1779033703, .int .u32 3144134277, .int .u32 1013904242, .int .u32 2773480762, .int .u32 1359893119, .int .u32 2600822924, .int .u32 528734635, .int .u32 1541459225]) ∧ Below W.heap.size W w') := fun W => first_any W
    have HV3 := Lib.hid hv3; have HRES3 := Lib.hid hres3; have HBE3 := Lib.hid hbe3; have HM := Lib.hid hM; have HML := Lib.hid hMl
    clear hv3 hres3 hbe3 hM hMl hg3 hB3
    go_wp2_with fail
    refine (C3.out _).mono ?_
    rintro e4 w4 ⟨rfl, hb4⟩
    have hb4a : Below w3'.heap.size w3' (w4.alloc (.cells #[.int .u32 1779033703, .int .u32 3144134277, .int .u32 1013904242, .int .u32 2773480762, .int .u32 1359893119, .int .u32 2600822924, .int .u32 528734635, .int .u32 1541459225] 36)) := hb4.alloc hb4.size _
    have hws : Hid (Ws (w4.alloc (.cells #[.int .u32 1779033703, .int .u32 3144134277, .int .u32 1013904242, .int .u32 2773480762, .int .u32 1359893119, .int .u32 2600822924, .int .u32 528734635, .int .u32 1541459225] 36)) w4.heap.size 36 (blocksL M 0)) := heap_alloc_new w4 _
    have hres4 : Hid ((w4.alloc (.cells #[.int .u32 1779033703, .int .u32 3144134277, .int .u32 1013904242, .int .u32 2773480762, .int .u32 1359893119, .int .u32 2600822924, .int .u32 528734635, .int .u32 1541459225] 36)).heap[w.heap.size]? = some (.cells #[.int .u8 0, .int .u8 0, .int .u8 0, .int .u8 0, .int .u8 0, .int .u8 0, .int .u8 0, .int .u8 0, .int .u8 0, .int .u8 0, .int .u8 0, .int .u8 0, .int .u8 0, .int .u8 0, .int .u8 0, .int .u8 0, .int .u8 0, .int .u8 0, .int .u8 0, .int .u8 0, .int .u8 0, .int .u8 0, .int .u8 0, .int .u8 0, .int .u8 0, .int .u8 0, .int .u8 0, .int .u8 0, .int .u8 0, .int .u8 0, .int .u8 0, .int .u8 0] 29 (0, 0))) := Lib.hid ((hb4a.block _ hlow3).trans HRES3.out)
    have hown4 : Hid (Own (w4.alloc (.cells #[.int .u32 1779033703, .int .u32 3144134277, .int .u32 1013904242, .int .u32 2773480762, .int .u32 1359893119, .int .u32 2600822924, .int .u32 528734635, .int .u32 1541459225] 36)) (w.heap.size + 1) (.slice A3 M.length c3) M) := Lib.hid (HV3.out.below hb4a (Nat.le_refl _))
    have HB4 : Hid (Below w.heap.size w (w4.alloc (.cells #[.int .u32 1779033703, .int .u32 3144134277, .int .u32 1013904242, .int .u32 2773480762, .int .u32 1359893119, .int .u32 2600822924, .int .u32 528734635, .int .u32 1541459225] 36))) := Lib.hid (HBE3.out.trans (hb4a.mono HBE3.out.size))
    have hlow4 : w.heap.size < w4.heap.size := Nat.lt_of_lt_of_le hlow3 hb4.size
    clear hb4 hb4a
    go_wp2_with fail
    go_loopw [5] (fun i wr => ∃ k i' : Nat, k ≤ M.length / 64 ∧ i' = 64 * k ∧ i = .int .i64 i' ∧ Hid (Below w.heap.size w wr) ∧ Hid (wr.heap[w.heap.size]? = some (.cells #[.int .u8 0, .int .u8 0, .int .u8 0, .int .u8 0, .int .u8 0, .int .u8 0, .int .u8 0, .int .u8 0, .int .u8 0, .int .u8 0, .int .u8 0, .int .u8 0, .int .u8 0, .int .u8 0, .int .u8 0, .int .u8 0, .int .u8 0, .int .u8 0, .int .u8 0, .int .u8 0, .int .u8 0, .int .u8 0, .int .u8 0, .int .u8 0, .int .u8 0, .int .u8 0, .int .u8 0, .int .u8 0, .int .u8 0, .int .u8 0, .int .u8 0, .int .u8 0] 29 (0, 0))) ∧ Hid (Ws wr w4.heap.size 36 (blocksL M k)) ∧ Hid (Own wr (w.heap.size + 1) (.slice A3 M.length c3) M)) (fun i _ => M.length - (intOf i).toNat)
    case atStart => exact ⟨0, 0, Nat.zero_le _, rfl, rfl, HB4, hres4, hws, hown4⟩
    case round =>
      obtain ⟨k, i, hk, hik, rfl, hbe, hres', hws', hown⟩ := hrel
      clear HB4 hres4 hws hown4
      by_cases hlt : k < M.length / 64
      · have hi64 : i + 64 ≤ M.length := by have := HN.out; omega
        obtain ⟨x0, x1, x2, x3, x4, x5, x6, x7, hx⟩ := words8 (blocksL_len M k)
        obtain ⟨y0, y1, y2, y3, y4, y5, y6, y7, hy⟩ := words8 (blocksL_len M (k + 1))
        have hrow : Hid (wr.heap[w4.heap.size]? = some (.cells #[.int .u32 (x0.toNat : Int), .int .u32 (x1.toNat : Int), .int .u32 (x2.toNat : Int), .int .u32 (x3.toNat : Int), .int .u32 (x4.toNat : Int), .int .u32 (x5.toNat : Int), .int .u32 (x6.toNat : Int), .int .u32 (x7.toNat : Int)] 36 (0, 0))) := by
          have h := hws'.out
          rw [hx] at h
          exact h
        obtain ⟨D, hD, hcut⟩ := (hown.out.bs).piece (lo := i) (hi := i + 64) (by omega) hi64
        rw [Nat.add_sub_cancel_left] at hD hcut
        have hpc : ((M.drop i).take 64).length = 64 := by simp; omega
        have hcut2 : ∀ W, (Instr.slice 22 (.slice A3 M.length c3) (some (.int .i64 (i : Int))) (some (.int .i64 ((i : Int) + 64))) none).run Try.prog W = .ok (.slice D 64 (c3 - i)) W := hcut
        clear hcut
        have CC : Hid (Calls Try.prog 87 #[.agg #[.int .u32 (x0.toNat : Int), .int .u32 (x1.toNat : Int), .int .u32 (x2.toNat : Int), .int .u32 (x3.toNat : Int), .int .u32 (x4.toNat : Int), .int .u32 (x5.toNat : Int), .int .u32 (x6.toNat : Int), .int .u32 (x7.toNat : Int)], .slice D 64 (c3 - i)] wr.drew fun ex w' => ex = .returned (.agg #[.int .u32 (y0.toNat : Int), .int .u32 (y1.toNat : Int), .int .u32 (y2.toNat : Int), .int .u32 (y3.toNat : Int), .int .u32 (y4.toNat : Int), .int .u32 (y5.toNat : Int), .int .u32 (y6.toNat : Int), .int .u32 (y7.toNat : Int)]) ∧ Below wr.heap.size wr w') := by
          show Calls _ _ _ _ _
          have h := refCompress_any x0 x1 x2 x3 x4 x5 x6 x7 (w := wr.drew) (l := (M.drop i).take 64) hD hpc
          rw [show compL [x0, x1, x2, x3, x4, x5, x6, x7] ((M.drop i).take 64) = [y0, y1, y2, y3, y4, y5, y6, y7] by rw [← hy, blocksL, hx, hik]] at h
          exact h.mono fun _ _ hh => ⟨hh.1, ⟨hh.2.os, hh.2.tape, hh.2.output, hh.2.size, hh.2.block⟩⟩
        have HX := Lib.hid hx; have HY := Lib.hid hy; have HIK := Lib.hid hik
        have hgl : w4.heap.size < wr.heap.size := (Array.getElem?_eq_some_iff.1 hrow.out).1
        have i0 : (0 : Int) ≤ (i : Int) := Int.natCast_nonneg _
        have i1 : (i : Int) + 64 ≤ (M.length : Int) := by omega
        have iw : IntKind.i64.wrap ((i : Int) + 64) = (i : Int) + 64 := by rw [IntKind.wrap_i64]; omega
        have r0' : wr.drew.cell? ⟨w4.heap.size, 0, none⟩ = some (.int .u32 (x0.toNat : Int)) := by
          show wr.cell? _ = _
          rw [cell_of_row _ _ 0 _ _ _ hrow.out]; rfl
        have r1' : wr.drew.cell? ⟨w4.heap.size, 1, none⟩ = some (.int .u32 (x1.toNat : Int)) := by
          show wr.cell? _ = _
          rw [cell_of_row _ _ 1 _ _ _ hrow.out]; rfl
        have r2' : wr.drew.cell? ⟨w4.heap.size, 2, none⟩ = some (.int .u32 (x2.toNat : Int)) := by
          show wr.cell? _ = _
          rw [cell_of_row _ _ 2 _ _ _ hrow.out]; rfl
        have r3' : wr.drew.cell? ⟨w4.heap.size, 3, none⟩ = some (.int .u32 (x3.toNat : Int)) := by
          show wr.cell? _ = _
          rw [cell_of_row _ _ 3 _ _ _ hrow.out]; rfl
        have r4' : wr.drew.cell? ⟨w4.heap.size, 4, none⟩ = some (.int .u32 (x4.toNat : Int)) := by
          show wr.cell? _ = _
          rw [cell_of_row _ _ 4 _ _ _ hrow.out]; rfl
        have r5' : wr.drew.cell? ⟨w4.heap.size, 5, none⟩ = some (.int .u32 (x5.toNat : Int)) := by
          show wr.cell? _ = _
          rw [cell_of_row _ _ 5 _ _ _ hrow.out]; rfl
        have r6' : wr.drew.cell? ⟨w4.heap.size, 6, none⟩ = some (.int .u32 (x6.toNat : Int)) := by
          show wr.cell? _ = _
          rw [cell_of_row _ _ 6 _ _ _ hrow.out]; rfl
        have r7' : wr.drew.cell? ⟨w4.heap.size, 7, none⟩ = some (.int .u32 (x7.toNat : Int)) := by
          show wr.cell? _ = _
          rw [cell_of_row _ _ 7 _ _ _ hrow.out]; rfl
        clear hx hy hik hD hpc hws'
        go_wp2_with fail
        go_region_with (go_at_call 87; refine (CC.out).mono ?_; rintro ex6 w6 ⟨rfl, hb6⟩; have hr6 := (hb6.block _ hgl).trans hrow.out; have z0 : w6.cell? ⟨w4.heap.size, 0, none⟩ = some (.int .u32 (x0.toNat : Int)) := (by rw [cell_of_row _ _ 0 _ _ _ hr6]; rfl); have f0 := frozen_of_row w6 w4.heap.size 0 _ _ hr6; have z1 : w6.cell? ⟨w4.heap.size, 1, none⟩ = some (.int .u32 (x1.toNat : Int)) := (by rw [cell_of_row _ _ 1 _ _ _ hr6]; rfl); have f1 := frozen_of_row w6 w4.heap.size 1 _ _ hr6; have z2 : w6.cell? ⟨w4.heap.size, 2, none⟩ = some (.int .u32 (x2.toNat : Int)) := (by rw [cell_of_row _ _ 2 _ _ _ hr6]; rfl); have f2 := frozen_of_row w6 w4.heap.size 2 _ _ hr6; have z3 : w6.cell? ⟨w4.heap.size, 3, none⟩ = some (.int .u32 (x3.toNat : Int)) := (by rw [cell_of_row _ _ 3 _ _ _ hr6]; rfl); have f3 := frozen_of_row w6 w4.heap.size 3 _ _ hr6; have z4 : w6.cell? ⟨w4.heap.size, 4, none⟩ = some (.int .u32 (x4.toNat : Int)) := (by rw [cell_of_row _ _ 4 _ _ _ hr6]; rfl); have f4 := frozen_of_row w6 w4.heap.size 4 _ _ hr6; have z5 : w6.cell? ⟨w4.heap.size, 5, none⟩ = some (.int .u32 (x5.toNat : Int)) := (by rw [cell_of_row _ _ 5 _ _ _ hr6]; rfl); have f5 := frozen_of_row w6 w4.heap.size 5 _ _ hr6; have z6 : w6.cell? ⟨w4.heap.size, 6, none⟩ = some (.int .u32 (x6.toNat : Int)) := (by rw [cell_of_row _ _ 6 _ _ _ hr6]; rfl); have f6 := frozen_of_row w6 w4.heap.size 6 _ _ hr6; have z7 : w6.cell? ⟨w4.heap.size, 7, none⟩ = some (.int .u32 (x7.toNat : Int)) := (by rw [cell_of_row _ _ 7 _ _ _ hr6]; rfl); have f7 := frozen_of_row w6 w4.heap.size 7 _ _ hr6)
        all_goals
          have hset := setCells_whole (vs := [.int .u32 (y0.toNat : Int), .int .u32 (y1.toNat : Int), .int .u32 (y2.toNat : Int), .int .u32 (y3.toNat : Int), .int .u32 (y4.toNat : Int), .int .u32 (y5.toNat : Int), .int .u32 (y6.toNat : Int), .int .u32 (y7.toNat : Int)]) hr6 rfl
          have hws6 : Hid (Ws (w6.setCells w4.heap.size 0 [.int .u32 (y0.toNat : Int), .int .u32 (y1.toNat : Int), .int .u32 (y2.toNat : Int), .int .u32 (y3.toNat : Int), .int .u32 (y4.toNat : Int), .int .u32 (y5.toNat : Int), .int .u32 (y6.toNat : Int), .int .u32 (y7.toNat : Int)]) w4.heap.size 36 (blocksL M (k + 1))) := by rw [HY.out]; exact hset
          have hgr := setCells_grown w4.heap.size [.int .u32 (y0.toNat : Int), .int .u32 (y1.toNat : Int), .int .u32 (y2.toNat : Int), .int .u32 (y3.toNat : Int), .int .u32 (y4.toNat : Int), .int .u32 (y5.toNat : Int), .int .u32 (y6.toNat : Int), .int .u32 (y7.toNat : Int)] 0 w6
          have hb6' : Below w.heap.size w w6 := hbe.out.trans (hb6.mono hbe.out.size)
          have HB6 : Hid (Below w.heap.size w (w6.setCells w4.heap.size 0 [.int .u32 (y0.toNat : Int), .int .u32 (y1.toNat : Int), .int .u32 (y2.toNat : Int), .int .u32 (y3.toNat : Int), .int .u32 (y4.toNat : Int), .int .u32 (y5.toNat : Int), .int .u32 (y6.toNat : Int), .int .u32 (y7.toNat : Int)])) := Lib.hid (hb6'.grown hgr hb6'.size (fun j hj => by simp only [Option.some.injEq] at hj; omega))
          have hres6 : Hid ((w6.setCells w4.heap.size 0 [.int .u32 (y0.toNat : Int), .int .u32 (y1.toNat : Int), .int .u32 (y2.toNat : Int), .int .u32 (y3.toNat : Int), .int .u32 (y4.toNat : Int), .int .u32 (y5.toNat : Int), .int .u32 (y6.toNat : Int), .int .u32 (y7.toNat : Int)]).heap[w.heap.size]? = some (.cells #[.int .u8 0, .int .u8 0, .int .u8 0, .int .u8 0, .int .u8 0, .int .u8 0, .int .u8 0, .int .u8 0, .int .u8 0, .int .u8 0, .int .u8 0, .int .u8 0, .int .u8 0, .int .u8 0, .int .u8 0, .int .u8 0, .int .u8 0, .int .u8 0, .int .u8 0, .int .u8 0, .int .u8 0, .int .u8 0, .int .u8 0, .int .u8 0, .int .u8 0, .int .u8 0, .int .u8 0, .int .u8 0, .int .u8 0, .int .u8 0, .int .u8 0, .int .u8 0] 29 (0, 0))) := Lib.hid ((hgr.block _ (by have := hb6'.size; have := hb6.size; omega) (by simp; omega)).trans ((hb6.block _ (by omega)).trans hres'.out))
          have hown6 : Hid (Own (w6.setCells w4.heap.size 0 [.int .u32 (y0.toNat : Int), .int .u32 (y1.toNat : Int), .int .u32 (y2.toNat : Int), .int .u32 (y3.toNat : Int), .int .u32 (y4.toNat : Int), .int .u32 (y5.toNat : Int), .int .u32 (y6.toNat : Int), .int .u32 (y7.toNat : Int)]) (w.heap.size + 1) (.slice A3 M.length c3) M) := Lib.hid ((hown.out.below hb6 (Nat.le_refl _)).kept hgr (by
            right
            rcases hown.out.2 with ⟨hv, _⟩ | ⟨g, cap, cur, hv, _, hh, _⟩
            · rw [hv]; simp [Value.ownBlock]
            · rw [hv]
              simp only [Value.ownBlock, ne_eq, Option.some.injEq]
              rintro rfl
              rw [hrow.out] at hh
              simp only [Option.some.injEq, Obj.cells.injEq] at hh
              exact absurd hh.2.1 (by decide)))
          clear hset hgr hb6' hb6 hr6 hrow hres' hown hbe z0 f0 z1 f1 z2 f2 z3 f3 z4 f4 z5 f5 z6 f6 z7 f7
          go_wp2_with fail
          go_roundw
          case rel => exact ⟨k + 1, i + 64, by omega, by rw [HIK.out]; omega, by go_num, HB6, hres6, hws6, hown6⟩
          case measure => simp [intOf]; omega
      · obtain rfl : k = M.length / 64 := by omega
        obtain rfl : i = M.length := by have := HN.out; omega
        clear hik hlt
        obtain ⟨S, hS⟩ : ∃ S, S = blocksL M (M.length / 64) := ⟨_, rfl⟩
        have hS8 : S.length = 8 := by rw [hS]; exact blocksL_len _ _
        have hsum : Hid (sumL L = outL S) := by
          show _ = _
          rw [sumL, ← HM.out, ← HML.out, hS]
        rw [← hS] at hws'
        have hgl : w4.heap.size < wr.heap.size := (Array.getElem?_eq_some_iff.1 hws'.out).1
        have HS8 := Lib.hid hS8
        have hba : Below wr.heap.size wr (wr.alloc (.cells #[.int .u8 0, .int .u8 0, .int .u8 0, .int .u8 0, .int .u8 0, .int .u8 0, .int .u8 0, .int .u8 0, .int .u8 0, .int .u8 0, .int .u8 0, .int .u8 0, .int .u8 0, .int .u8 0, .int .u8 0, .int .u8 0, .int .u8 0, .int .u8 0, .int .u8 0, .int .u8 0, .int .u8 0, .int .u8 0, .int .u8 0, .int .u8 0, .int .u8 0, .int .u8 0, .int .u8 0, .int .u8 0, .int .u8 0, .int .u8 0, .int .u8 0, .int .u8 0] 29)) := (Below.refl _ _).alloc (Nat.le_refl _) _
        have hb5 : Hid (Below w.heap.size w (wr.alloc (.cells #[.int .u8 0, .int .u8 0, .int .u8 0, .int .u8 0, .int .u8 0, .int .u8 0, .int .u8 0, .int .u8 0, .int .u8 0, .int .u8 0, .int .u8 0, .int .u8 0, .int .u8 0, .int .u8 0, .int .u8 0, .int .u8 0, .int .u8 0, .int .u8 0, .int .u8 0, .int .u8 0, .int .u8 0, .int .u8 0, .int .u8 0, .int .u8 0, .int .u8 0, .int .u8 0, .int .u8 0, .int .u8 0, .int .u8 0, .int .u8 0, .int .u8 0, .int .u8 0] 29))) := Lib.hid (hbe.out.trans (hba.mono hbe.out.size))
        have hres5 : Hid ((wr.alloc (.cells #[.int .u8 0, .int .u8 0, .int .u8 0, .int .u8 0, .int .u8 0, .int .u8 0, .int .u8 0, .int .u8 0, .int .u8 0, .int .u8 0, .int .u8 0, .int .u8 0, .int .u8 0, .int .u8 0, .int .u8 0, .int .u8 0, .int .u8 0, .int .u8 0, .int .u8 0, .int .u8 0, .int .u8 0, .int .u8 0, .int .u8 0, .int .u8 0, .int .u8 0, .int .u8 0, .int .u8 0, .int .u8 0, .int .u8 0, .int .u8 0, .int .u8 0, .int .u8 0] 29)).heap[w.heap.size]? = some (.cells #[.int .u8 0, .int .u8 0, .int .u8 0, .int .u8 0, .int .u8 0, .int .u8 0, .int .u8 0, .int .u8 0, .int .u8 0, .int .u8 0, .int .u8 0, .int .u8 0, .int .u8 0, .int .u8 0, .int .u8 0, .int .u8 0, .int .u8 0, .int .u8 0, .int .u8 0, .int .u8 0, .int .u8 0, .int .u8 0, .int .u8 0, .int .u8 0, .int .u8 0, .int .u8 0, .int .u8 0, .int .u8 0, .int .u8 0, .int .u8 0, .int .u8 0, .int .u8 0] 29 (0, 0))) := Lib.hid ((hba.block _ (by omega)).trans hres'.out)
        have hws5 : Hid (Ws (wr.alloc (.cells #[.int .u8 0, .int .u8 0, .int .u8 0, .int .u8 0, .int .u8 0, .int .u8 0, .int .u8 0, .int .u8 0, .int .u8 0, .int .u8 0, .int .u8 0, .int .u8 0, .int .u8 0, .int .u8 0, .int .u8 0, .int .u8 0, .int .u8 0, .int .u8 0, .int .u8 0, .int .u8 0, .int .u8 0, .int .u8 0, .int .u8 0, .int .u8 0, .int .u8 0, .int .u8 0, .int .u8 0, .int .u8 0, .int .u8 0, .int .u8 0, .int .u8 0, .int .u8 0] 29)) w4.heap.size 36 S) := Lib.hid ((hba.block _ hgl).trans hws'.out)
        have hout5 : Hid ((wr.alloc (.cells #[.int .u8 0, .int .u8 0, .int .u8 0, .int .u8 0, .int .u8 0, .int .u8 0, .int .u8 0, .int .u8 0, .int .u8 0, .int .u8 0, .int .u8 0, .int .u8 0, .int .u8 0, .int .u8 0, .int .u8 0, .int .u8 0, .int .u8 0, .int .u8 0, .int .u8 0, .int .u8 0, .int .u8 0, .int .u8 0, .int .u8 0, .int .u8 0, .int .u8 0, .int .u8 0, .int .u8 0, .int .u8 0, .int .u8 0, .int .u8 0, .int .u8 0, .int .u8 0] 29)).heap[wr.heap.size]? = some (.cells (rowB S 0) 29 (0, 0))) := heap_alloc_new wr _
        obtain ⟨G, hG⟩ : ∃ G, G = wr.heap.size := ⟨_, rfl⟩
        have hGl : w4.heap.size < G ∧ w.heap.size < G := by omega
        clear hS hS8 hws' hba hbe hres' hown
        go_wp2_with fail
        rw [← hG]
        rw [← hG] at hout5
        have HGG := Lib.hid hG
        clear hG hgl
        go_loopw [7] (fun i wr => ∃ j : Nat, j ≤ 32 ∧ i = .int .i64 j ∧ Hid (Below w.heap.size w wr) ∧ Hid (wr.heap[w.heap.size]? = some (.cells #[.int .u8 0, .int .u8 0, .int .u8 0, .int .u8 0, .int .u8 0, .int .u8 0, .int .u8 0, .int .u8 0, .int .u8 0, .int .u8 0, .int .u8 0, .int .u8 0, .int .u8 0, .int .u8 0, .int .u8 0, .int .u8 0, .int .u8 0, .int .u8 0, .int .u8 0, .int .u8 0, .int .u8 0, .int .u8 0, .int .u8 0, .int .u8 0, .int .u8 0, .int .u8 0, .int .u8 0, .int .u8 0, .int .u8 0, .int .u8 0, .int .u8 0, .int .u8 0] 29 (0, 0))) ∧ Hid (Ws wr w4.heap.size 36 S) ∧ Hid (wr.heap[G]? = some (.cells (rowB S j) 29 (0, 0)))) (fun i _ => 32 - (intOf i).toNat)
        case atStart => exact ⟨0, Nat.zero_le _, rfl, hb5, hres5, hws5, hout5⟩
        case round =>
          obtain ⟨j, hj, rfl, hbe, hres, hws, hout⟩ := hrel
          clear hb5 hres5 hws5 hout5
          by_cases hlt : j < 32
          · obtain ⟨q, hq⟩ : ∃ q, q = j / 4 := ⟨_, rfl⟩
            obtain ⟨m, hm⟩ : ∃ m, m = j % 4 := ⟨_, rfl⟩
            have hq8 : q < S.length := by rw [HS8.out]; omega
            obtain ⟨x, hx⟩ : ∃ x, x = S[q] := ⟨_, rfl⟩
            have hc := (hws.out.at_ hq8).1
            rw [← hx] at hc
            have hqi : (j : Int) / 4 = (q : Int) := by omega
            have hmi : (j : Int) % 4 = (m : Int) := by omega
            have q0 : (0 : Int) ≤ (q : Int) := Int.natCast_nonneg _
            have q8 : (q : Int) < 8 := by omega
            have m0 : (0 : Int) ≤ (m : Int) := Int.natCast_nonneg _
            have m4 : (m : Int) < 4 := by omega
            have j0 : (0 : Int) ≤ (j : Int) := Int.natCast_nonneg _
            have j32 : (j : Int) < 32 := by omega
            have HX := Lib.hid hx; have HQ := Lib.hid hq; have HMM := Lib.hid hm
            have hGc : wr.cell? ⟨G, j, none⟩ = some (.int .u8 0) := by
              rw [cell_of_row wr G j _ _ _ hout.out]
              exact rowB_at S HS8.out j hlt
            have hval : Hid ((x.toNat : Int) / 2 ^ (24 - 8 * m) % 256 = (((outL S).getD j 0).toNat : Int)) := by
              show _ = _
              rw [outL_at S j (by rw [HS8.out]; omega), ← hq, ← hm, wordB4_at _ m (by omega)]
              simp [hx, hq8]
            have hset : Hid ((wr.setCell ⟨G, j, none⟩ (.int .u8 (((outL S).getD j 0).toNat : Int))).heap[G]? = some (.cells (rowB S (j + 1)) 29 (0, 0))) := by
              show _ = _
              rw [heap_setCell_same wr G j _ _ _ hout.out, ← rowB_set S HS8.out j hlt]
              rfl
            have hgr : ∀ v, Hid (wr.grownBy (wr.setCell ⟨G, j, none⟩ v) (some G)) := fun v => Lib.hid (setCell_grown wr G j v)
            have hb2 : Hid (∀ v, Below w.heap.size w (wr.setCell ⟨G, j, none⟩ v)) := Lib.hid (fun v => hbe.out.grown (hgr v).out hbe.out.size (fun i hi => by simp only [Option.some.injEq] at hi; omega))
            have ws2 : Hid (∀ v, Ws (wr.setCell ⟨G, j, none⟩ v) w4.heap.size 36 S) := Lib.hid (fun v => hws.out.grown (hgr v).out (by simp; omega))
            have rs2 : Hid (∀ v, (wr.setCell ⟨G, j, none⟩ v).heap[w.heap.size]? = some (.cells #[.int .u8 0, .int .u8 0, .int .u8 0, .int .u8 0, .int .u8 0, .int .u8 0, .int .u8 0, .int .u8 0, .int .u8 0, .int .u8 0, .int .u8 0, .int .u8 0, .int .u8 0, .int .u8 0, .int .u8 0, .int .u8 0, .int .u8 0, .int .u8 0, .int .u8 0, .int .u8 0, .int .u8 0, .int .u8 0, .int .u8 0, .int .u8 0, .int .u8 0, .int .u8 0, .int .u8 0, .int .u8 0, .int .u8 0, .int .u8 0, .int .u8 0, .int .u8 0] 29 (0, 0))) := Lib.hid (fun v => ((hgr v).out.block _ (Array.getElem?_eq_some_iff.1 hres.out).1 (by simp; omega)).trans hres.out)
            have hGf : wr.frozen? ⟨G, j, none⟩ = false := frozen_of_row wr G j _ _ hout.out
            clear hx hq hm hgr
            go_wp2_with fail
            go_roundw
            case rel => exact ⟨j + 1, by omega, by go_num, hb2.out _, rs2.out _, ws2.out _, by rw [hval.out]; exact hset⟩
            case measure => simp [intOf]; omega
          · obtain rfl : j = 32 := by omega
            obtain ⟨cs, hcs⟩ : ∃ cs, cs = rowB S 32 := ⟨_, rfl⟩
            have hcv : Hid (Value.agg cs = arr32 (sumL L)) := by
              show _ = _
              rw [hcs, hsum.out, arr32, rowB, List.take_of_length_le (by rw [outL_len, HS8.out]; omega)]
              simp [zs]
            have hcz : cs.size = 32 := by rw [hcs, rowB]; simp [outL_len, zs, HS8.out]
            have hi : Hid ((Try.prog.info? 29).map (·.size) = some cs.size) := by rw [hcz]; show _ = _; kernel_rfl
            have ho : Hid ((#[.int .u8 0, .int .u8 0, .int .u8 0, .int .u8 0, .int .u8 0, .int .u8 0, .int .u8 0, .int .u8 0, .int .u8 0, .int .u8 0, .int .u8 0, .int .u8 0, .int .u8 0, .int .u8 0, .int .u8 0, .int .u8 0, .int .u8 0, .int .u8 0, .int .u8 0, .int .u8 0, .int .u8 0, .int .u8 0, .int .u8 0, .int .u8 0, .int .u8 0, .int .u8 0, .int .u8 0, .int .u8 0, .int .u8 0, .int .u8 0, .int .u8 0, .int .u8 0] : Array Value).size = cs.size) := by rw [hcz]; show _ = _; rfl
            have hone : Hid (cs.all (·.oneCell') = true) := by
              rw [hcs, rowB]
              show _ = _
              rw [Array.all_eq_true_iff_forall_mem]
              intro u hu
              rw [List.mem_toArray] at hu
              exact vb_one _ u hu
            rw [← hcs] at hout
            have hbe3 : Below w.heap.size w (wr.setRow w.heap.size cs) := hbe.out.grown (row := some w.heap.size) ⟨rfl, rfl, rfl, by simp, fun j _ hj => setRow_other wr w.heap.size j _ (fun e => hj (by rw [e]))⟩ hbe.out.size (fun j hj => by simp only [Option.some.injEq] at hj; omega)
            have HBE3 := Lib.hid hbe3
            clear hcs hcz hbe hbe3
            go_wp2_with (first
              | (with_reducible refine wpList_load_row rfl 29 (.tmp 6) rfl G rfl 29 cs (0, 0) _ hout.out Try.underlying29 rfl hi.out ?_)
              | (with_reducible refine wpList_store_row rfl 29 (.tmp 2) (.tmp 44) rfl w.heap.size cs rfl rfl 29 _ hres.out hi.out ho.out hone.out ?_))
            (try simp only [Exit.inBlock, Exit.then])
            refine bodyPost_ret (results_cell_row rfl _ _ w.heap.size 29 cs (0, 0) _ rfl (setRow_heap wr w.heap.size _ _ _ _ hres.out) Try.underlying29 rfl hi.out) rfl ?_
            exact ⟨by rw [hcv.out], HBE3.out⟩
end Go.Proofs.Ytifgigpflfdmfaa
