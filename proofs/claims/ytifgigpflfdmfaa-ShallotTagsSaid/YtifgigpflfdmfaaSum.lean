/- Twin and Sum of a hash. -/
import Derived.Test.YtifgigpflfdmfaaHash2
import Derived.Test.YtifgigpflfdmfaaShaPadB
namespace Go.Proofs.Ytifgigpflfdmfaa
open Go.RowKit

def wordB4 (x : UInt32) : List UInt8 := putL 2 4 x.toNat
/-- the words as bytes -/
def outL (st : List UInt32) : List UInt8 := (st.map wordB4).flatten
/-- SHA-256 -/
def sumL (L : List UInt8) : List UInt8 := outL (blocksL (L ++ padS L.length) ((L.length + (padS L.length).length) / 64))
theorem wordB4_len (x : UInt32) : (wordB4 x).length = 4 := putL_length _ _ _
theorem outL_len (st : List UInt32) : (outL st).length = 4 * st.length := by
  induction st with
  | nil => rfl
  | cons x st ih => simp only [outL, List.map_cons, List.flatten_cons, List.length_append, wordB4_len, List.length_cons] at ih ⊢; omega
theorem sumL_len (L : List UInt8) : (sumL L).length = 32 := by rw [sumL, outL_len, blocksL_len]
theorem padS_len (n : Nat) : (padS n).length = padZ n + 9 := by simp [padS, zs, putL_length]
theorem padS_whole (n : Nat) : (n + (padS n).length) % 64 = 0 := by rw [padS_len, padZ]; omega
def arr32 (l : List UInt8) : Value := .agg (l.map vb).toArray
theorem Own.apart {w : World} {B g : Nat} {v : Value} {l : List UInt8} (h : Own w B v l) (hB : g < B) : v.ownBlock ≠ some g := by
  rcases h.2 with ⟨rfl, _⟩ | ⟨g', cap, cur, rfl, hg, _⟩
  · simp [Value.ownBlock]
  · simp only [Value.ownBlock, ne_eq, Option.some.injEq]; omega
theorem cellsH_len {st : List UInt32} {rest : List UInt8} {n : Nat} {ex : List Value} (h8 : st.length = 8) (h64 : rest.length = 64) : (cellsH st rest n ex).length = 73 + ex.length := by
  simp [cellsH, h8, h64]; omega

set_option maxRecDepth 8000 in
set_option maxHeartbeats 1600000 in
theorem twin_any {w : World} {g : Nat} {T : TypeId} {ex : List Value} {L : List UInt8} (h : Hashed w g T ex L) :
    Calls Try.prog 81 #[.pointer (some ⟨g, 0, none⟩)] w fun e w' => e = .returned (.pointer (some ⟨w.heap.size, 0, none⟩)) ∧ Hashed w' w.heap.size 39 [] L ∧ Below w.heap.size w w' ∧ w'.heap.size = w.heap.size + 1 := by
  obtain ⟨st, rest, H, HO⟩ := h
  obtain ⟨cs, hcs⟩ : ∃ cs, cs = cellsH st rest L.length [] := ⟨_, rfl⟩
  have hlen : cs.length = 73 := by rw [hcs, cellsH_len H.ls H.lr]; rfl
  have hrange : w.rangeAt g 0 cs := by
    intro j v hv
    rw [Nat.zero_add, cell_of_row w g j _ _ _ H.row]
    have hj := (List.getElem?_eq_some_iff.1 hv).1
    rw [hcs, cellsH] at hv
    rw [List.getElem?_toArray, cellsH, show st.map vw ++ (rest.map vb ++ (.int .i64 (L.length : Int) :: ex)) = (st.map vw ++ (rest.map vb ++ [.int .i64 (L.length : Int)])) ++ ex by simp, List.getElem?_append_left (by rw [hlen] at hj; simp [H.ls, H.lr]; omega)]
    exact hv
  have hi : Hid ((Try.prog.info? 39).map (·.size) = some cs.length) := by rw [hlen]; show _ = _; kernel_rfl
  have hsz : cs.toArray.size = 73 := by simpa using hlen
  have hi2 : Hid ((Try.prog.info? 39).map (·.size) = some cs.toArray.size) := by rw [hsz]; show _ = _; kernel_rfl
  have ho : Hid ((Try.zeroCells39 : Array Value).size = cs.toArray.size) := by rw [hsz]; show _ = _; rfl
  have hone : Hid (cs.toArray.all (·.oneCell') = true) := by
    show _ = _
    rw [Array.all_eq_true_iff_forall_mem]
    intro u hu
    rw [hcs] at hu
    simp only [cellsH, List.mem_toArray, List.mem_append, List.mem_map, List.mem_cons, List.not_mem_nil, or_false] at hu
    rcases hu with ⟨x, _, rfl⟩ | ⟨x, _, rfl⟩ | rfl <;> rfl
  have hrow : Hid ((w.alloc (.cells Try.zeroCells39 39)).heap[w.heap.size]? = some (.cells Try.zeroCells39 39 (0, 0))) := heap_alloc_new w _
  have hfin : Hid (Hashed ((w.alloc (.cells Try.zeroCells39 39)).setRow w.heap.size cs.toArray) w.heap.size 39 [] L) := by
    refine ⟨st, rest, ⟨?_, H.ls, H.lr⟩, HO⟩
    rw [← hcs]
    exact setRow_heap (w.alloc _) w.heap.size _ _ _ _ hrow.out
  have hbel : Hid (Below w.heap.size w ((w.alloc (.cells Try.zeroCells39 39)).setRow w.heap.size cs.toArray)) := Lib.hid ((Below.refl w.heap.size w).grown ((grew_row w _ _)) (Nat.le_refl _) (by simp))
  have HRA := Lib.hid hrange
  clear hcs hlen hsz hrange H HO
  go_enter Try.func81, Try.ntmps81
  go_wp2_with (first
    | (with_reducible refine wpList_load_mid rfl 39 (.tmp 5) rfl g 0 rfl cs _ HRA.out Try.underlying39 rfl hi.out ?_)
    | (with_reducible refine wpList_store_row rfl 39 (.tmp 3) (.tmp 6) rfl w.heap.size cs.toArray rfl rfl 39 _ hrow.out hi2.out ho.out hone.out ?_))
  go_ret
  exact ⟨rfl, hfin.out, hbel.out, by simp⟩

theorem arr32u : Try.prog.underlying 29 = some (.array (Try.prog.arrayLen 29) (Try.prog.elem 29)) := by kernel_rfl
theorem len32 : Try.prog.arrayLen 29 = 32 := by kernel_rfl
theorem elem32 : Try.prog.elem 29 = 5 := by kernel_rfl
theorem cut_arr32 {g o r : Nat} (h : r < 32) (W : World) : (Instr.sliceAt 29 (.pointer (some ⟨g, o, none⟩)) (some (.int .i64 (r : Int))) none none).run Try.prog W = .ok (.slice (some ⟨g, o + r, none⟩) (32 - r) (32 - r)) W := by
  rw [run_sliceAt_array_l _ _ _ arr32u _ _ (by omega) (by rw [len32]; omega), elem32, u8sizeOf, len32]
  simp only [Result.andThen, slicedAt, Int.toNat_natCast, Nat.mul_one, Addr.add_lit]
  rw [if_neg (by omega)]
def rowO (st : List UInt32) (k : Nat) : Array Value := ((outL (st.take k) ++ zs (32 - 4 * k)).map vb).toArray
theorem rowO_succ (st : List UInt32) (k : Nat) (hk : k < st.length) (h8 : st.length = 8) : splice (rowO st k).toList (4 * k) ((wordB4 (st.getD k 0)).map vb) = (rowO st (k + 1)).toList := by
  have h1 : (outL (st.take k)).length = 4 * k := by rw [outL_len, List.length_take]; omega
  have h2 : outL (st.take (k + 1)) = outL (st.take k) ++ wordB4 (st.getD k 0) := by
    rw [outL, outL, List.take_succ_eq_append_getElem hk, List.map_append, List.flatten_append]
    simp [List.getD_eq_getElem?_getD, hk]
  have h3 : zs (32 - 4 * k) = zs 4 ++ zs (32 - 4 * (k + 1)) := by
    simp only [zs, List.replicate_append_replicate]
    congr 1
    omega
  have h4 : ((outL (st.take k)).map vb).length = 4 * k := by rw [List.length_map, h1]
  show splice ((outL (st.take k) ++ zs (32 - 4 * k)).map vb) (4 * k) _ = (outL (st.take (k + 1)) ++ zs (32 - 4 * (k + 1))).map vb
  have h5 := splice_end ((outL (st.take k)).map vb) ((zs 4 ++ zs (32 - 4 * (k + 1))).map vb) ((wordB4 (st.getD k 0)).map vb)
  rw [h4] at h5
  rw [h2, h3, List.map_append, h5]
  simp [wordB4_len, zs]
theorem index8 (x0 x1 x2 x3 x4 x5 x6 x7 : UInt32) (k : Nat) (hk : k < 8) (W : World) : (Instr.index 36 (.agg #[.int .u32 (x0.toNat : Int), .int .u32 (x1.toNat : Int), .int .u32 (x2.toNat : Int), .int .u32 (x3.toNat : Int), .int .u32 (x4.toNat : Int), .int .u32 (x5.toNat : Int), .int .u32 (x6.toNat : Int), .int .u32 (x7.toNat : Int)]) (.int .i64 (k : Int))).run Try.prog W = .ok (.int .u32 (([x0, x1, x2, x3, x4, x5, x6, x7].getD k 0).toNat : Int)) W := by
  rcases (by omega : k = 0 ∨ k = 1 ∨ k = 2 ∨ k = 3 ∨ k = 4 ∨ k = 5 ∨ k = 6 ∨ k = 7) with rfl | rfl | rfl | rfl | rfl | rfl | rfl | rfl <;> kernel_rfl
theorem write_one {w2 : World} {g B : Nat} {T : TypeId} {ex : List Value} {L P : List UInt8} {v : Value} (h : Hashed w2 g T ex L) (hv : Bs w2 B v P) (hB : B ≤ w2.heap.size) (ha : 0 < P.length → v.ownBlock ≠ some g) (hlen : L.length + P.length ≤ 1152921504606846975) :
    Calls Try.prog 13 #[.pointer (some ⟨g, 0, none⟩), .slice (some ⟨w2.heap.size, 0, none⟩) 1 1] (w2.alloc (.cells #[v] 22)) fun e w' => e = .returned (.pointer (some ⟨g, 0, none⟩)) ∧ Hashed w' g T ex (L ++ P) ∧ w2.grownBy w' (some g) := by
  have hb : Below w2.heap.size w2 (w2.alloc (.cells #[v] 22)) := (Below.refl _ _).alloc (Nat.le_refl _) _
  have hr : Rg (w2.alloc (.cells #[v] 22)) g (.slice (some ⟨w2.heap.size, 0, none⟩) 1 1) [P] := by
    refine ⟨_, 1, rfl, Nat.le_refl _, by unfold maxLen; omega, fun _ => ⟨w2.heap.size, 0, rfl, by have := h.lt; omega, fun j hj => ?_⟩⟩
    obtain rfl : j = 0 := by simpa using hj
    exact ⟨v, B, by rw [Nat.zero_add]; exact cell_new w2 v _, hv.alloc hB _, ha⟩
  refine (write_any (h.below hb h.lt) hr (by simpa using hlen)).mono fun e w' hh => ⟨hh.1, ?_, ?_⟩
  · have := hh.2.1; simpa using this
  · exact (grown_of_below hb (some g)).trans hh.2.2

def SumMid (w : World) (g : Nat) (M : List UInt8) (wx : World) : Prop :=
  Below w.heap.size w wx ∧ wx.heap[w.heap.size]? = some (.cells #[.int .u8 0, .int .u8 0, .int .u8 0, .int .u8 0, .int .u8 0, .int .u8 0, .int .u8 0, .int .u8 0, .int .u8 0, .int .u8 0, .int .u8 0, .int .u8 0, .int .u8 0, .int .u8 0, .int .u8 0, .int .u8 0, .int .u8 0, .int .u8 0, .int .u8 0, .int .u8 0, .int .u8 0, .int .u8 0, .int .u8 0, .int .u8 0, .int .u8 0, .int .u8 0, .int .u8 0, .int .u8 0, .int .u8 0, .int .u8 0, .int .u8 0, .int .u8 0] 29 (0, 0)) ∧ Hashed wx g 39 [] M
set_option maxRecDepth 8000 in
set_option maxHeartbeats 3200000 in
theorem sum_any {w : World} {g : Nat} {T : TypeId} {ex : List Value} {L : List UInt8} (h : Hashed w g T ex L) (hlen : L.length ≤ 1152921504606846000) :
    Calls Try.prog 67 #[.pointer (some ⟨g, 0, none⟩)] w fun e w' => e = .returned (arr32 (sumL L)) ∧ Below w.heap.size w w' := by
  have hb0 : Below w.heap.size w (w.alloc (.cells #[.int .u8 0, .int .u8 0, .int .u8 0, .int .u8 0, .int .u8 0, .int .u8 0, .int .u8 0, .int .u8 0, .int .u8 0, .int .u8 0, .int .u8 0, .int .u8 0, .int .u8 0, .int .u8 0, .int .u8 0, .int .u8 0, .int .u8 0, .int .u8 0, .int .u8 0, .int .u8 0, .int .u8 0, .int .u8 0, .int .u8 0, .int .u8 0, .int .u8 0, .int .u8 0, .int .u8 0, .int .u8 0, .int .u8 0, .int .u8 0, .int .u8 0, .int .u8 0] 29)) := (Below.refl _ _).alloc (Nat.le_refl _) _
  have h0 := h.below hb0 h.lt
  obtain ⟨w0, hw0⟩ : ∃ w0, w0 = w.alloc (.cells #[.int .u8 0, .int .u8 0, .int .u8 0, .int .u8 0, .int .u8 0, .int .u8 0, .int .u8 0, .int .u8 0, .int .u8 0, .int .u8 0, .int .u8 0, .int .u8 0, .int .u8 0, .int .u8 0, .int .u8 0, .int .u8 0, .int .u8 0, .int .u8 0, .int .u8 0, .int .u8 0, .int .u8 0, .int .u8 0, .int .u8 0, .int .u8 0, .int .u8 0, .int .u8 0, .int .u8 0, .int .u8 0, .int .u8 0, .int .u8 0, .int .u8 0, .int .u8 0] 29) := ⟨_, rfl⟩
  have hs0 : w0.heap.size = w.heap.size + 1 := by rw [hw0]; simp
  have hres : w0.heap[w.heap.size]? = some (.cells #[.int .u8 0, .int .u8 0, .int .u8 0, .int .u8 0, .int .u8 0, .int .u8 0, .int .u8 0, .int .u8 0, .int .u8 0, .int .u8 0, .int .u8 0, .int .u8 0, .int .u8 0, .int .u8 0, .int .u8 0, .int .u8 0, .int .u8 0, .int .u8 0, .int .u8 0, .int .u8 0, .int .u8 0, .int .u8 0, .int .u8 0, .int .u8 0, .int .u8 0, .int .u8 0, .int .u8 0, .int .u8 0, .int .u8 0, .int .u8 0, .int .u8 0, .int .u8 0] 29 (0, 0)) := by rw [hw0]; exact heap_alloc_new w _
  go_enter Try.func67, Try.ntmps67
  go_wp2_with fail
  rw [← hw0]
  rw [← hw0] at h0 hb0
  have HS0 := Lib.hid hs0; have HB0 := Lib.hid hb0; have HRES := Lib.hid hres
  clear hw0 hs0 hb0 hres h
  go_upto_region 1 with fail
  go_cut [3] (fun s3 wx => s3 = .pointer (some ⟨w0.heap.size, 0, none⟩) ∧ SumMid w w0.heap.size (L ++ padS L.length) wx)
  case first =>
   obtain ⟨st, rest, H, HO⟩ := h0
   have d72 : w0.drew.cell? ⟨g, 72, none⟩ = some (.int .i64 (L.length : Int)) := H.size.1
   have hgl : g < w0.heap.size := H.lt
   have CT := twin_any (w := w0.drew) ⟨st, rest, H.drew, HO⟩
   have HCT := Lib.hid CT
   have CP := fun W => padding_any L.length (by omega) W
   have HCP := Lib.hid CP
   clear CT CP
   go_region_with (first
     | (go_at_call 81; refine (HCT.out).mono ?_; rintro e1 w1 ⟨rfl, ht1, hb1, hs1⟩; have e72 := (hb1.cell (p := ⟨g, 72, none⟩) hgl).trans d72)
     | (go_at_call 82; refine (HCP.out _).mono ?_; rintro e2 w2 ⟨v2, rfl, hv2, hb2⟩; obtain ⟨Ap, cp, rfl⟩ := hv2.shape)
     | (go_at_call 13; refine (write_one (ht1.below hb2 ht1.lt) hv2.bs (Nat.le_refl _) (fun _ => hv2.apart ht1.lt) (by rw [padS_len]; have := padZ_lt L.length; omega)).mono ?_; rintro e3 w3 ⟨rfl, h3, hg3⟩)
     | fail)
   all_goals
     have hb3 : Below w.heap.size w w3 := ((HB0.out.drew.trans (hb1.mono HB0.out.size)).trans (hb2.mono (Nat.le_trans HB0.out.size hb1.size))).grown hg3 (Nat.le_trans (Nat.le_trans HB0.out.size hb1.size) hb2.size) (fun j hj => by simp only [Option.some.injEq] at hj; subst hj; exact HB0.out.size)
     have hres3 : Hid (w3.heap[w.heap.size]? = some (.cells #[.int .u8 0, .int .u8 0, .int .u8 0, .int .u8 0, .int .u8 0, .int .u8 0, .int .u8 0, .int .u8 0, .int .u8 0, .int .u8 0, .int .u8 0, .int .u8 0, .int .u8 0, .int .u8 0, .int .u8 0, .int .u8 0, .int .u8 0, .int .u8 0, .int .u8 0, .int .u8 0, .int .u8 0, .int .u8 0, .int .u8 0, .int .u8 0, .int .u8 0, .int .u8 0, .int .u8 0, .int .u8 0, .int .u8 0, .int .u8 0, .int .u8 0, .int .u8 0] 29 (0, 0))) := by
       have hlt0 : w.heap.size < w0.heap.size := by have := HS0.out; omega
       have hlt1 : w.heap.size < w1.heap.size := Nat.lt_of_lt_of_le hlt0 hb1.size
       exact Lib.hid ((hg3.block _ (Nat.lt_of_lt_of_le hlt1 hb2.size) (by have : w0.drew.heap.size = w0.heap.size := rfl; simp only [ne_eq, Option.some.injEq]; omega)).trans ((hb2.block _ hlt1).trans ((hb1.block _ hlt0).trans HRES.out)))
     go_wp2_with fail
     go_meet
     exact ⟨rfl, hb3, hres3.out, h3⟩
  case rest =>
    clear h0 HB0 HRES
    obtain ⟨rfl, hmid⟩ := hcut
    obtain ⟨hb3, hres3', h3⟩ := hmid
    have hres3 := Lib.hid hres3'
    clear hres3'
    obtain ⟨w3, rfl⟩ : ∃ w3, w3 = wc := ⟨_, rfl⟩
    obtain ⟨M, hM⟩ : ∃ M, M = L ++ padS L.length := ⟨_, rfl⟩
    have hMl : M.length = L.length + (padS L.length).length := by rw [hM, List.length_append]
    rw [← hM] at h3
    obtain ⟨st3, rest3, H3, HO3⟩ := h3
    have hbz : Below w3.heap.size w3 (w3.alloc (.cells #[.int .u8 0, .int .u8 0, .int .u8 0, .int .u8 0, .int .u8 0, .int .u8 0, .int .u8 0, .int .u8 0, .int .u8 0, .int .u8 0, .int .u8 0, .int .u8 0, .int .u8 0, .int .u8 0, .int .u8 0, .int .u8 0, .int .u8 0, .int .u8 0, .int .u8 0, .int .u8 0, .int .u8 0, .int .u8 0, .int .u8 0, .int .u8 0, .int .u8 0, .int .u8 0, .int .u8 0, .int .u8 0, .int .u8 0, .int .u8 0, .int .u8 0, .int .u8 0] 29)) := (Below.refl _ _).alloc (Nat.le_refl _) _
    have CC := chain_any (H3.below hbz H3.lt) (by rw [hMl, padS_len]; have := padZ_lt L.length; omega)
    rw [HO3.chain] at CC
    obtain ⟨x0, x1, x2, x3, x4, x5, x6, x7, hx⟩ := words8 (blocksL_len M (M.length / 64))
    rw [hx] at CC
    have HCC : Hid (Calls Try.prog 65 #[.pointer (some ⟨w0.heap.size, 0, none⟩)] (w3.alloc (.cells #[.int .u8 0, .int .u8 0, .int .u8 0, .int .u8 0, .int .u8 0, .int .u8 0, .int .u8 0, .int .u8 0, .int .u8 0, .int .u8 0, .int .u8 0, .int .u8 0, .int .u8 0, .int .u8 0, .int .u8 0, .int .u8 0, .int .u8 0, .int .u8 0, .int .u8 0, .int .u8 0, .int .u8 0, .int .u8 0, .int .u8 0, .int .u8 0, .int .u8 0, .int .u8 0, .int .u8 0, .int .u8 0, .int .u8 0, .int .u8 0, .int .u8 0, .int .u8 0] 29)) fun e w' => e = .returned (.agg #[.int .u32 (x0.toNat : Int), .int .u32 (x1.toNat : Int), .int .u32 (x2.toNat : Int), .int .u32 (x3.toNat : Int), .int .u32 (x4.toNat : Int), .int .u32 (x5.toNat : Int), .int .u32 (x6.toNat : Int), .int .u32 (x7.toNat : Int)]) ∧ Below (w3.alloc (.cells #[.int .u8 0, .int .u8 0, .int .u8 0, .int .u8 0, .int .u8 0, .int .u8 0, .int .u8 0, .int .u8 0, .int .u8 0, .int .u8 0, .int .u8 0, .int .u8 0, .int .u8 0, .int .u8 0, .int .u8 0, .int .u8 0, .int .u8 0, .int .u8 0, .int .u8 0, .int .u8 0, .int .u8 0, .int .u8 0, .int .u8 0, .int .u8 0, .int .u8 0, .int .u8 0, .int .u8 0, .int .u8 0, .int .u8 0, .int .u8 0, .int .u8 0, .int .u8 0] 29)).heap.size (w3.alloc (.cells #[.int .u8 0, .int .u8 0, .int .u8 0, .int .u8 0, .int .u8 0, .int .u8 0, .int .u8 0, .int .u8 0, .int .u8 0, .int .u8 0, .int .u8 0, .int .u8 0, .int .u8 0, .int .u8 0, .int .u8 0, .int .u8 0, .int .u8 0, .int .u8 0, .int .u8 0, .int .u8 0, .int .u8 0, .int .u8 0, .int .u8 0, .int .u8 0, .int .u8 0, .int .u8 0, .int .u8 0, .int .u8 0, .int .u8 0, .int .u8 0, .int .u8 0, .int .u8 0] 29)) w') := CC
    have hsum : Hid (sumL L = outL [x0, x1, x2, x3, x4, x5, x6, x7]) := by
      show _ = _
      rw [sumL, ← hM, ← hMl, hx]
    have hout : Hid ((w3.alloc (.cells #[.int .u8 0, .int .u8 0, .int .u8 0, .int .u8 0, .int .u8 0, .int .u8 0, .int .u8 0, .int .u8 0, .int .u8 0, .int .u8 0, .int .u8 0, .int .u8 0, .int .u8 0, .int .u8 0, .int .u8 0, .int .u8 0, .int .u8 0, .int .u8 0, .int .u8 0, .int .u8 0, .int .u8 0, .int .u8 0, .int .u8 0, .int .u8 0, .int .u8 0, .int .u8 0, .int .u8 0, .int .u8 0, .int .u8 0, .int .u8 0, .int .u8 0, .int .u8 0] 29)).heap[w3.heap.size]? = some (.cells (rowO [x0, x1, x2, x3, x4, x5, x6, x7] 0) 29 (0, 0))) := heap_alloc_new w3 _
    have hb3z : Below w.heap.size w (w3.alloc (.cells #[.int .u8 0, .int .u8 0, .int .u8 0, .int .u8 0, .int .u8 0, .int .u8 0, .int .u8 0, .int .u8 0, .int .u8 0, .int .u8 0, .int .u8 0, .int .u8 0, .int .u8 0, .int .u8 0, .int .u8 0, .int .u8 0, .int .u8 0, .int .u8 0, .int .u8 0, .int .u8 0, .int .u8 0, .int .u8 0, .int .u8 0, .int .u8 0, .int .u8 0, .int .u8 0, .int .u8 0, .int .u8 0, .int .u8 0, .int .u8 0, .int .u8 0, .int .u8 0] 29)) := hb3.alloc hb3.size _
    have hlt3 : w.heap.size < w3.heap.size := (Array.getElem?_eq_some_iff.1 hres3.out).1
    have HB3 := Lib.hid hb3z
    clear CC hx hM hMl HO3 H3 hbz hb3 hb3z
    go_wp2_with fail
    refine (HCC.out).mono ?_
    rintro e4 w4 ⟨rfl, hb4⟩
    have hres4 : Hid (w4.heap[w.heap.size]? = some (.cells #[.int .u8 0, .int .u8 0, .int .u8 0, .int .u8 0, .int .u8 0, .int .u8 0, .int .u8 0, .int .u8 0, .int .u8 0, .int .u8 0, .int .u8 0, .int .u8 0, .int .u8 0, .int .u8 0, .int .u8 0, .int .u8 0, .int .u8 0, .int .u8 0, .int .u8 0, .int .u8 0, .int .u8 0, .int .u8 0, .int .u8 0, .int .u8 0, .int .u8 0, .int .u8 0, .int .u8 0, .int .u8 0, .int .u8 0, .int .u8 0, .int .u8 0, .int .u8 0] 29 (0, 0))) := Lib.hid ((hb4.block _ (by simp; omega)).trans ((heap_alloc_old _ _ hlt3).trans hres3.out))
    have hout4 : Hid (w4.heap[w3.heap.size]? = some (.cells (rowO [x0, x1, x2, x3, x4, x5, x6, x7] 0) 29 (0, 0))) := Lib.hid ((hb4.block _ (by simp)).trans hout.out)
    have HB4 := Lib.hid (HB3.out.trans (hb4.mono HB3.out.size))
    clear hb4 hres3 hout HB3
    go_wp2_with fail
    go_loopw [20] (fun i wr => ∃ k : Nat, k ≤ 8 ∧ i = .int .i64 k ∧ Hid (Below w.heap.size w wr) ∧ Hid (wr.heap[w.heap.size]? = some (.cells #[.int .u8 0, .int .u8 0, .int .u8 0, .int .u8 0, .int .u8 0, .int .u8 0, .int .u8 0, .int .u8 0, .int .u8 0, .int .u8 0, .int .u8 0, .int .u8 0, .int .u8 0, .int .u8 0, .int .u8 0, .int .u8 0, .int .u8 0, .int .u8 0, .int .u8 0, .int .u8 0, .int .u8 0, .int .u8 0, .int .u8 0, .int .u8 0, .int .u8 0, .int .u8 0, .int .u8 0, .int .u8 0, .int .u8 0, .int .u8 0, .int .u8 0, .int .u8 0] 29 (0, 0))) ∧ Hid (wr.heap[w3.heap.size]? = some (.cells (rowO [x0, x1, x2, x3, x4, x5, x6, x7] k) 29 (0, 0)))) (fun i _ => 8 - (intOf i).toNat)
    case atStart => exact ⟨0, Nat.zero_le _, rfl, HB4, hres4, hout4⟩
    case round =>
      obtain ⟨k, hk, rfl, hbe, hres, hout⟩ := hrel
      clear HB4 hres4 hout4
      by_cases hlt : k < 8
      · obtain ⟨x, hx⟩ : ∃ x, x = [x0, x1, x2, x3, x4, x5, x6, x7].getD k 0 := ⟨_, rfl⟩
        have hidx : ∀ W, (Instr.index 36 (.agg #[.int .u32 (x0.toNat : Int), .int .u32 (x1.toNat : Int), .int .u32 (x2.toNat : Int), .int .u32 (x3.toNat : Int), .int .u32 (x4.toNat : Int), .int .u32 (x5.toNat : Int), .int .u32 (x6.toNat : Int), .int .u32 (x7.toNat : Int)]) (.int .i64 (k : Int))).run Try.prog W = .ok (.int .u32 (x.toNat : Int)) W := by
          intro W
          rw [hx]
          exact index8 x0 x1 x2 x3 x4 x5 x6 x7 k hlt W
        have CP : Hid (∀ W, Calls Try.prog 83 #[.int .i64 2, .int .i64 4, .int .u64 (x.toNat : Int)] W fun e w' => ∃ v, e = .returned (.tuple #[v, .int .i64 0]) ∧ Own w' W.heap.size v (wordB4 x) ∧ Below W.heap.size W w') := Lib.hid (fun W => put_big 4 x.toNat (by omega) (by omega) (by
          have := x.toNat_lt
          rw [bne_eq_false_iff_eq]
          have h2 : (2 : Int) ^ (8 * 4) = 4294967296 := by decide
          rw [h2]
          omega) W)
        have hstep := rowO_succ [x0, x1, x2, x3, x4, x5, x6, x7] k (by simpa using hlt) rfl
        rw [← hx] at hstep
        have HST := Lib.hid hstep
        have k0 : (0 : Int) ≤ (k : Int) := Int.natCast_nonneg _
        have k8 : (k : Int) < 8 := by omega
        have hw64 : IntKind.u64.wrap (x.toNat : Int) = (x.toNat : Int) := by
          have := x.toNat_lt
          rw [IntKind.wrap_u64]; omega
        clear hx hstep
        go_wp2_with fail
        with_reducible refine (CP.out _).mono ?_
        rintro e5 w5 ⟨v5, rfl, hv5, hb5⟩
        obtain ⟨A5, c5, rfl⟩ := hv5.shape
        rw [wordB4_len]
        have hres5 := (hb5.block _ (Array.getElem?_eq_some_iff.1 hres.out).1).trans hres.out
        have hout5 := (hb5.block _ (Array.getElem?_eq_some_iff.1 hout.out).1).trans hout.out
        have HB5 := hbe.out.trans (hb5.mono hbe.out.size)
        have cutO : ∀ W, (Instr.sliceAt 29 (.pointer (some ⟨w3.heap.size, 0, none⟩)) (some (.int .i64 (4 * (k : Int)))) none none).run Try.prog W = .ok (.slice (some ⟨w3.heap.size, 4 * k, none⟩) (32 - 4 * k) (32 - 4 * k)) W := fun W => by
          have h := cut_arr32 (g := w3.heap.size) (o := 0) (r := 4 * k) (by omega) W
          rw [Nat.zero_add, Int.natCast_mul] at h
          exact h
        obtain ⟨b5, o5, hA5, hcell5⟩ : ∃ b5 o5, A5 = some ⟨b5, o5, none⟩ ∧ ∀ j (h : j < (wordB4 x).length), w5.cell? ⟨b5, o5 + j, none⟩ = some (.int .u8 ((wordB4 x)[j].toNat : Int)) := by
          obtain ⟨A', c', hv, _, _, h3⟩ := hv5.bs
          simp only [Value.slice.injEq] at hv
          obtain ⟨rfl, _, _⟩ := hv
          obtain ⟨b5, o5, rfl, _, hc⟩ := h3 (by rw [wordB4_len]; omega)
          exact ⟨b5, o5, rfl, hc⟩
        subst hA5
        obtain ⟨X, hX⟩ : ∃ X, X = (wordB4 x).map vb := ⟨_, rfl⟩
        have hXl : X.length = 4 := by rw [hX, List.length_map, wordB4_len]
        have hsrc : Hid (0 < X.length → ∀ (j : Nat) (v : Value), X[j]? = some v → w5.cell? ⟨b5, o5 + j, none⟩ = some v) := by
          show _ → _
          intro _ j v hv
          rw [hX, List.getElem?_map] at hv
          obtain ⟨z, hz, rfl⟩ := Option.map_eq_some_iff.1 hv
          obtain ⟨hj, rfl⟩ := List.getElem?_eq_some_iff.1 hz
          exact hcell5 j hj
        have hX1 : Hid (∀ v ∈ X, v.oneCell' = true) := by rw [hX]; exact vb_one _
        obtain ⟨cur, hcur⟩ : ∃ cur, cur = (rowO [x0, x1, x2, x3, x4, x5, x6, x7] k).toList := ⟨_, rfl⟩
        have hcurl : cur.length = 32 := by
          rw [hcur, rowO]
          simp [outL_len, zs]
          omega
        have hout5' : Hid (w5.heap[w3.heap.size]? = some (.cells cur.toArray 29 (0, 0))) := by
          rw [hcur, Array.toArray_toList]; exact hout5
        have hfin : Hid ((splice cur (4 * k) X).toArray = rowO [x0, x1, x2, x3, x4, x5, x6, x7] (k + 1)) := by
          show _ = _
          rw [hX, hcur, HST.out, Array.toArray_toList]
        have HRES5 := Lib.hid hres5; have HBE5 := Lib.hid HB5; have HXL := Lib.hid hXl; have HCL := Lib.hid hcurl
        have k32 : 4 * (k : Int) ≤ 32 := by omega
        clear hres5 hout5 HB5 hX hXl hcur hcurl hcell5 hv5 hb5 hbe hres hout
        go_wp2_with (with_reducible refine wpList_copy_splice rfl (.tmp 32) (.tmp 33) 22 22 rfl 5 Try.underlying22 u8size _ _ _ _ _ _ rfl rfl w3.heap.size (4 * k) _ 29 hout5'.out X ?_ ?_ ?_ ?_ w3.heap.size w5 (Below.refl _ _) (Nat.le_refl _) ?_)
        · rw [HXL.out]; exact (Nat.min_eq_left (by omega)).symm
        · exact hsrc.out
        · rw [HXL.out, HCL.out]; omega
        · exact hX1.out
        · intro w6 hrow6 hb6
          have hlt5 : w.heap.size < w3.heap.size := hlt3
          have hres6 : Hid (w6.heap[w.heap.size]? = some (.cells #[.int .u8 0, .int .u8 0, .int .u8 0, .int .u8 0, .int .u8 0, .int .u8 0, .int .u8 0, .int .u8 0, .int .u8 0, .int .u8 0, .int .u8 0, .int .u8 0, .int .u8 0, .int .u8 0, .int .u8 0, .int .u8 0, .int .u8 0, .int .u8 0, .int .u8 0, .int .u8 0, .int .u8 0, .int .u8 0, .int .u8 0, .int .u8 0, .int .u8 0, .int .u8 0, .int .u8 0, .int .u8 0, .int .u8 0, .int .u8 0, .int .u8 0, .int .u8 0] 29 (0, 0))) := Lib.hid ((hb6.block _ hlt5).trans HRES5.out)
          have hout6 : Hid (w6.heap[w3.heap.size]? = some (.cells (rowO [x0, x1, x2, x3, x4, x5, x6, x7] (k + 1)) 29 (0, 0))) := by rw [← hfin.out]; exact hrow6
          have HB6 : Hid (Below w.heap.size w w6) := Lib.hid (HBE5.out.trans (hb6.mono (by omega)))
          clear hrow6 hb6
          go_wp2
          go_roundw
          case rel => exact ⟨k + 1, by omega, by go_num, HB6, hres6, hout6⟩
          case measure => simp [intOf]; omega
      · obtain rfl : k = 8 := by omega
        obtain ⟨cs, hcs⟩ : ∃ cs, cs = rowO [x0, x1, x2, x3, x4, x5, x6, x7] 8 := ⟨_, rfl⟩
        have hcv : Hid (Value.agg cs = arr32 (sumL L)) := by
          show _ = _
          rw [hcs, hsum.out, arr32, rowO]
          simp [zs]
        have hcz : cs.size = 32 := by rw [hcs, rowO]; simp [outL_len, zs]
        have hi : Hid ((Try.prog.info? 29).map (·.size) = some cs.size) := by rw [hcz]; show _ = _; kernel_rfl
        have ho : Hid ((#[.int .u8 0, .int .u8 0, .int .u8 0, .int .u8 0, .int .u8 0, .int .u8 0, .int .u8 0, .int .u8 0, .int .u8 0, .int .u8 0, .int .u8 0, .int .u8 0, .int .u8 0, .int .u8 0, .int .u8 0, .int .u8 0, .int .u8 0, .int .u8 0, .int .u8 0, .int .u8 0, .int .u8 0, .int .u8 0, .int .u8 0, .int .u8 0, .int .u8 0, .int .u8 0, .int .u8 0, .int .u8 0, .int .u8 0, .int .u8 0, .int .u8 0, .int .u8 0] : Array Value).size = cs.size) := by rw [hcz]; show _ = _; rfl
        have hone : Hid (cs.all (·.oneCell') = true) := by
          rw [hcs, rowO]
          show _ = _
          rw [Array.all_eq_true_iff_forall_mem]
          intro u hu
          rw [List.mem_toArray] at hu
          exact vb_one _ u hu
        rw [← hcs] at hout
        have hbe3 : Below w.heap.size w (wr.setRow w.heap.size cs) := hbe.out.grown (row := some w.heap.size) ⟨rfl, rfl, rfl, by simp, fun j _ hj => setRow_other wr w.heap.size j _ (fun e => hj (by rw [e]))⟩ hbe.out.size (fun j hj => by simp only [Option.some.injEq] at hj; omega)
        have HBE3 := Lib.hid hbe3
        clear hcs hcz hbe hbe3
        go_wp2_with (first
          | (with_reducible refine wpList_load_row rfl 29 (.tmp 4) rfl w3.heap.size rfl 29 cs (0, 0) _ hout.out Try.underlying29 rfl hi.out ?_)
          | (with_reducible refine wpList_store_row rfl 29 (.tmp 2) (.tmp 36) rfl w.heap.size cs rfl rfl 29 _ hres.out hi.out ho.out hone.out ?_))
        (try simp only [Exit.inBlock, Exit.then])
        refine bodyPost_ret (results_cell_row rfl _ _ w.heap.size 29 cs (0, 0) _ rfl (setRow_heap wr w.heap.size _ _ _ _ hres.out) Try.underlying29 rfl hi.out) rfl ?_
        exact ⟨by rw [hcv.out], HBE3.out⟩
end Go.Proofs.Ytifgigpflfdmfaa
