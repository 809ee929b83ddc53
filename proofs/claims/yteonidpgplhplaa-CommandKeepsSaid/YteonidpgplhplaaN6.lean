/- Tell. -/
import Derived.Test.YteonidpgplhplaaN5
import Derived.Deep.WholeRow
import Derived.Laws.Tables
namespace Go.Proofs.Yteonidpgplhplaa
open Go.RowKit

theorem cmd_info : (Try.prog.info? 26).map (fun i => (i.zero, i.size, i.bytes)) = some (some (.agg (Cm.mk 0 0 0 0 (List.replicate 16 0)).cs.toArray), 20, 32) := by kernel_rfl
theorem told_info : (Try.prog.info? 55).map (fun i => (i.zero, i.size, i.bytes)) = some (some (.agg (Cm.mk 0 0 0 0 (List.replicate 16 0)).cs.toArray), 20, 32) := by kernel_rfl
theorem mkTold (n : Nat) (hn : n ≤ 4398046511104) : ∃ MK : Array Value, MK.size = n * 20 ∧ ∀ W, (Instr.makeSlice 56 (.int .i64 (n : Int)) (.int .i64 (n : Int))).run Try.prog W = .ok (.slice (some ⟨W.heap.size, 0, none⟩) n n) (W.alloc (.cells MK 55)) := by
  obtain ⟨i, hi, hz0, hz1, hz2⟩ := info3 told_info
  refine ⟨_, ?_, fun W => run_make (P := Try.prog) W 56 55 i _ Try.underlying56 hi hz0 .i64 .i64 n n (by omega) (Int.le_refl _) (by rw [hz2]; omega) (by omega)⟩
  rw [size_madeCells, hz1, Int.toNat_natCast]
/-- cells that a new block has -/
theorem there_new (w : World) (MK : Array Value) (t : TypeId) (n : Nat) (h : MK.size = n) : (w.alloc (.cells MK t)).there w.heap.size 0 n := fun j hj => by
  have hh := heap_alloc_new w (.cells MK t)
  refine ⟨?_, frozen_of_row _ _ _ _ _ hh⟩
  rw [cell_of_row _ _ (0 + j) _ _ (0, 0) hh, Array.getElem?_eq_getElem (by omega)]
  rfl

theorem cs_one (c : Cm) : ∀ v ∈ c.cs, v.oneCell' = true := by
  intro v hv
  simp only [Cm.cs, List.mem_append, List.mem_cons, List.not_mem_nil, or_false] at hv
  rcases hv with (rfl | rfl | rfl | rfl) | hv
  · rfl
  · rfl
  · rfl
  · rfl
  · exact vb_one _ _ hv
theorem fold_cmd {c : Cm} (h : c.ok) : List.foldl (fun (cs : Array Value) (x : Value × Nat) => cs.setIfInBounds x.snd x.fst) #[Value.int .u8 0, Value.int .u8 0, Value.int .u32 0, Value.int .u64 0, Value.int .u8 0, Value.int .u8 0, Value.int .u8 0, Value.int .u8 0, Value.int .u8 0, Value.int .u8 0, Value.int .u8 0, Value.int .u8 0, Value.int .u8 0, Value.int .u8 0, Value.int .u8 0, Value.int .u8 0, Value.int .u8 0, Value.int .u8 0, Value.int .u8 0, Value.int .u8 0] c.cs.zipIdx = c.cs.toArray := by
  obtain ⟨x0, x1, x2, x3, x4, x5, x6, x7, x8, x9, x10, x11, x12, x13, x14, x15, hx, e⟩ := cmd_cells c h
  rw [Cm.cs, hx]
  show _ = _
  kernel_rfl
theorem below_setC {B b : Nat} {a : World} (hb : B ≤ b) : ∀ (vs : List Value) (o : Nat) (w : World), Below B a w → Below B a (w.setCells b o vs)
  | [], _, _, h => h
  | v :: r, o, w, h => by rw [World.setCells]; exact below_setC hb r (o + 1) _ (h.setCell (p := ⟨b, o, none⟩) hb v)
theorem size_setC (b : Nat) : ∀ (vs : List Value) (o : Nat) (w : World), (w.setCells b o vs).heap.size = w.heap.size
  | [], _, _ => rfl
  | v :: r, o, w => by rw [World.setCells, size_setC b r (o + 1)]; simp
/-- the first k commands lie one behind the other in block g -/
def RowC (w : World) (g : Nat) (cs : List Cm) (k : Nat) : Prop := ∀ j (h : j < cs.length), j < k → w.rangeAt g (j * 20) cs[j].cs
theorem RowC.below {w w' : World} {B g k : Nat} {cs : List Cm} (h : RowC w g cs k) (hb : Below B w w') (hg : g < B) : RowC w' g cs k := fun j hj hk => range_below (h j hj hk) hb hg

set_option maxRecDepth 100000 in
set_option maxHeartbeats 4000000 in
theorem tell_any {cs : List Cm} {v : Value} {w : World} {B : Nat} (hv : Gs w B v 20 (cs.map Cm.cs)) (hok : ∀ c ∈ cs, c.ok) (hB : B ≤ w.heap.size) (hn : cs.length ≤ 4398046511104) :
    Calls Try.prog 23 #[v] w fun e w' => ∃ g, e = .returned (.slice (some ⟨g, 0, none⟩) cs.length cs.length) ∧ w.heap.size ≤ g ∧ g < w'.heap.size ∧ RowC w' g cs cs.length ∧ Below w.heap.size w w' := by
  obtain ⟨A, c, rfl⟩ := hv.shape
  obtain ⟨n, hnn⟩ : ∃ n, n = cs.length := ⟨_, rfl⟩
  rw [List.length_map, ← hnn] at hv ⊢
  rw [← hnn] at hn
  obtain ⟨MK, hms, hmk⟩ := mkTold n hn
  have HT0 := Lib.hid (there_new w MK 55 (n * 20) hms)
  have HB0 := Lib.hid ((Below.refl w.heap.size w).alloc (Nat.le_refl _) (.cells MK 55))
  have HZ0 : w.heap.size < (w.alloc (.cells MK 55)).heap.size := by simp
  have HV := Lib.hid hv; have HOK := Lib.hid hok; have HNN := Lib.hid hnn
  obtain ⟨ZC, hzc⟩ : ∃ ZC : Array Value, ZC = (Cm.mk 0 0 0 0 (List.replicate 16 0)).cs.toArray := ⟨_, rfl⟩
  have hzv : ∀ W, (zeroValue 26).run Try.prog W = .ok (.agg ZC) W := by
    obtain ⟨i, hi, hz0, _⟩ := info3 cmd_info
    intro W
    rw [hzc]
    simp [zeroValue, typeInfo, hi, hz0]
  have HZS : Hid (ZC.size = 20) := Lib.hid (by rw [hzc]; rfl)
  clear hv hok hnn hms hzc
  go_enter Try.func23, Try.ntmps23
  go_wp2_with fail
  clear hmk
  generalize w.alloc (.cells MK 55) = W1 at HT0 HB0 HZ0 ⊢
  go_loopw [11] (fun i wr => ∃ k : Nat, k ≤ n ∧ i = .int .i64 k ∧ Hid (wr.there w.heap.size 0 (n * 20)) ∧ Hid (RowC wr w.heap.size cs k) ∧ Hid (Below w.heap.size w wr) ∧ Hid (w.heap.size < wr.heap.size)) (fun i _ => n - (intOf i).toNat)
  case atStart => exact ⟨0, Nat.zero_le _, rfl, HT0, Lib.hid (fun j _ h => absurd h (by omega)), HB0, Lib.hid HZ0⟩
  case round =>
    obtain ⟨k, hk, rfl, hth, hdone, hbe, hzr⟩ := hrel
    clear HT0 HB0 HZ0
    by_cases hlt : k < n
    · have hkl : k < cs.length := by rw [← HNN.out]; exact hlt
      obtain ⟨x, hx⟩ : ∃ x, x = cs[k] := ⟨_, rfl⟩
      have hxo : x.ok := by rw [hx]; exact HOK.out _ (List.getElem_mem hkl)
      obtain ⟨b, off, rfl, hbB, hrg⟩ := HV.out.at_ (k := k) (by rw [List.length_map]; exact hkl)
      rw [List.getElem_map, ← hx] at hrg
      have hrg2 := range_below hrg hbe.out (by omega)
      have hxl := Cm.len hxo
      have h1c := cs_one x
      have hfo := fold_cmd hxo
      obtain ⟨CS, hCS⟩ : ∃ CS, CS = x.cs := ⟨_, rfl⟩
      rw [← hCS] at hrg2 hxl h1c hfo
      have HONE := Lib.hid h1c; have HCS := Lib.hid hCS
      have HRG := Lib.hid hrg2; have HX := Lib.hid hx
      have u26 := Try.underlying26
      have i26 : (Try.prog.info? 26).map (·.size) = some CS.length := by rw [hxl]; kernel_rfl
      have HI := Lib.hid i26
      clear hrg hrg2 hCS hx i26 h1c
      have hz : Hid ((wr.alloc (.cells ZC 26)).heap[wr.heap.size]? = some (.cells ZC 26 (0, 0))) := Lib.hid (heap_alloc_new wr _)
      have hi : Hid ((Try.prog.info? 26).map (·.size) = some CS.toArray.size) := Lib.hid (by rw [List.size_toArray]; exact HI.out)
      have hi2 : Hid ((Try.prog.info? 55).map (·.size) = some CS.toArray.size) := Lib.hid (by rw [List.size_toArray, hxl]; kernel_rfl)
      have ho : Hid (ZC.size = CS.toArray.size) := Lib.hid (by rw [HZS.out, List.size_toArray, hxl])
      have hone : Hid (CS.toArray.all (·.oneCell') = true) := Lib.hid (all_oneCell_toArray HONE.out)
      have HXL := Lib.hid hxl
      have HRN := Lib.hid (range_new wr CS 26)
      have hbl := (Below.refl wr.heap.size wr).alloc (Nat.le_refl _) (.cells CS.toArray 26)
      have HTH : Hid ((wr.alloc (.cells CS.toArray 26)).there w.heap.size 0 (n * 20)) := Lib.hid (fun j hj => ⟨by
        obtain ⟨u, hu⟩ := Option.isSome_iff_exists.1 (hth.out j hj).1
        rw [(hbl.cell (p := ⟨w.heap.size, 0 + j, none⟩) hzr.out).trans hu]
        rfl, by
        rw [World.frozen?_alloc_past _ _ _ hzr.out]; exact (hth.out j hj).2⟩)
      have HD := Lib.hid (hdone.out.below hbl hzr.out)
      have HB := Lib.hid (hbe.out.alloc (Nat.le_of_lt hzr.out) (.cells CS.toArray 26))
      have hzr' := hzr.out
      have HZ : Hid (w.heap.size < (wr.alloc (.cells CS.toArray 26)).heap.size) := Lib.hid (by simp; omega)
      have hth4 : Hid ((wr.alloc (.cells CS.toArray 26)).there w.heap.size (k * 20) CS.toArray.size) := Lib.hid (fun j hj => by
        have h := HTH.out (k * 20 + j) (by rw [List.size_toArray, HXL.out] at hj; have : (k + 1) * 20 ≤ n * 20 := Nat.mul_le_mul_right _ hlt; omega)
        rw [Nat.zero_add] at h
        exact h)
      have HTH5 := Lib.hid (World.there_setCells (show (wr.alloc (.cells CS.toArray 26)).there w.heap.size 0 (n * 20) from HTH.out) w.heap.size (k * 20) CS)
      have HD5 : Hid (RowC ((wr.alloc (.cells CS.toArray 26)).setCells w.heap.size (k * 20) CS) w.heap.size cs (k + 1)) := Lib.hid (by
        intro j hj hjk
        rcases Nat.lt_or_ge j k with h | h
        · refine World.rangeAt_setCells_apart (HD.out j hj h) _ _ _ (.inr (.inl ?_))
          rw [Cm.len (HOK.out _ (List.getElem_mem hj))]
          have : (j + 1) * 20 ≤ k * 20 := Nat.mul_le_mul_right _ h
          omega
        · obtain rfl : j = k := by omega
          rw [← HX.out, ← HCS.out]
          exact World.rangeAt_setCells_same _ _ _ _ (by rw [← List.size_toArray]; exact hth4.out))
      have HB5 := Lib.hid (below_setC (Nat.le_refl _) CS (k * 20) _ HB.out)
      have HZ5 : Hid (w.heap.size < ((wr.alloc (.cells CS.toArray 26)).setCells w.heap.size (k * 20) CS).heap.size) := Lib.hid (by rw [size_setC]; exact HZ.out)
      clear hbl hth hdone hbe
      go_wp2_with (first
        | (with_reducible refine wpList_load_mid rfl 26 (.tmp 14) rfl b (off + k * 20) rfl CS _ HRG.out u26 rfl HI.out ?_)
        | ((with_reducible refine wpList_store_row rfl 26 (.tmp 5) (.tmp 15) rfl wr.heap.size CS.toArray rfl rfl 26 _ hz.out hi.out ho.out hone.out ?_); rw [World.setRow_alloc_new])
        | (with_reducible refine wpList_load_mid rfl 26 (.tmp 5) rfl wr.heap.size 0 rfl CS _ HRN.out u26 rfl HI.out ?_)
        | (with_reducible refine wpList_store_mid rfl 55 (.tmp 20) (.tmp 19) rfl w.heap.size (k * 20) CS.toArray rfl rfl hth4.out hi2.out hone.out ?_))
      go_roundw
      case rel => exact ⟨k + 1, by omega, by go_num, HTH5, HD5, HB5, HZ5⟩
      case measure => simp [intOf]; omega
    · obtain rfl : k = n := by omega
      have hz := hzr.out
      go_wp2
      go_ret
      exact ⟨_, rfl, Nat.le_refl _, hz, hdone.out, hbe.out⟩
end Go.Proofs.Yteonidpgplhplaa
