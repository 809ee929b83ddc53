/- sha's Compress; the law ShaBlocks, walked. -/
import Derived.Test.YtpjfmlhchgbijaaShaAwake
import Derived.Deep.DeepCutAuto
namespace Go.Proofs.Ytpjfmlhchgbijaa
open Go.RowKit

set_option maxRecDepth 100000 in
set_option maxHeartbeats 1600000 in
theorem shaCompress_size (x0 x1 x2 x3 x4 x5 x6 x7 : UInt32) {l : List UInt8} {v : Value} {w : World} {B : Nat} (hb : Bs w B v l) (hl : l.length ≠ 64) :
    Calls Try.prog 23 #[.agg #[.int .u32 (x0.toNat : Int), .int .u32 (x1.toNat : Int), .int .u32 (x2.toNat : Int), .int .u32 (x3.toNat : Int), .int .u32 (x4.toNat : Int), .int .u32 (x5.toNat : Int), .int .u32 (x6.toNat : Int), .int .u32 (x7.toNat : Int)], v] w fun e w' => e = .returned (.tuple #[.agg #[.int .u32 0, .int .u32 0, .int .u32 0, .int .u32 0, .int .u32 0, .int .u32 0, .int .u32 0, .int .u32 0], .int .i64 2]) ∧ Below w.heap.size w w' := by
  obtain ⟨A, c, rfl⟩ := hb.shape
  have hne : ((l.length : Int) != 64) = true := by rw [bne_iff_ne]; omega
  have hbt : Try.prog.built 39 [] = some #[.int .u32 0, .int .u32 0, .int .u32 0, .int .u32 0, .int .u32 0, .int .u32 0, .int .u32 0, .int .u32 0] := by kernel_rfl
  clear hb hl
  go_enter Try.func23, Try.ntmps23
  go_wp2
  (try simp only [Exit.inBlock, Exit.then])
  refine bodyPost_ret (v := .tuple #[.agg #[.int .u32 0, .int .u32 0, .int .u32 0, .int .u32 0, .int .u32 0, .int .u32 0, .int .u32 0, .int .u32 0], .int .i64 2]) ?_ rfl ⟨rfl, ((Below.refl _ _).alloc (Nat.le_refl _) _).alloc (by simp) _⟩
  simp [results, Try.results23, go_sem]
set_option maxRecDepth 100000 in
set_option maxHeartbeats 1600000 in
theorem shaCompress_ok (x0 x1 x2 x3 x4 x5 x6 x7 y0 y1 y2 y3 y4 y5 y6 y7 : UInt32) {l : List UInt8} {v : Value} {w : World} {B : Nat} (hb : Bs w B v l) (hB : B ≤ w.heap.size) (hl : l.length = 64) (hy : compL [x0, x1, x2, x3, x4, x5, x6, x7] l = [y0, y1, y2, y3, y4, y5, y6, y7]) :
    Calls Try.prog 23 #[.agg #[.int .u32 (x0.toNat : Int), .int .u32 (x1.toNat : Int), .int .u32 (x2.toNat : Int), .int .u32 (x3.toNat : Int), .int .u32 (x4.toNat : Int), .int .u32 (x5.toNat : Int), .int .u32 (x6.toNat : Int), .int .u32 (x7.toNat : Int)], v] w fun e w' => e = .returned (.tuple #[.agg #[.int .u32 (y0.toNat : Int), .int .u32 (y1.toNat : Int), .int .u32 (y2.toNat : Int), .int .u32 (y3.toNat : Int), .int .u32 (y4.toNat : Int), .int .u32 (y5.toNat : Int), .int .u32 (y6.toNat : Int), .int .u32 (y7.toNat : Int)], .int .i64 0]) ∧ Below w.heap.size w w' := by
  obtain ⟨A, c, hv⟩ := hb.shape
  rw [hl] at hv
  subst hv
  have hb0 : Below w.heap.size w ((w.alloc (.cells #[.int .u32 (x0.toNat : Int), .int .u32 (x1.toNat : Int), .int .u32 (x2.toNat : Int), .int .u32 (x3.toNat : Int), .int .u32 (x4.toNat : Int), .int .u32 (x5.toNat : Int), .int .u32 (x6.toNat : Int), .int .u32 (x7.toNat : Int)] 39)).alloc (.cells #[.int .u32 0, .int .u32 0, .int .u32 0, .int .u32 0, .int .u32 0, .int .u32 0, .int .u32 0, .int .u32 0] 39)) := ((Below.refl _ _).alloc (Nat.le_refl _) _).alloc (by simp) _
  have CC := compress_any x0 x1 x2 x3 x4 x5 x6 x7 (w := (w.alloc (.cells #[.int .u32 (x0.toNat : Int), .int .u32 (x1.toNat : Int), .int .u32 (x2.toNat : Int), .int .u32 (x3.toNat : Int), .int .u32 (x4.toNat : Int), .int .u32 (x5.toNat : Int), .int .u32 (x6.toNat : Int), .int .u32 (x7.toNat : Int)] 39)).alloc (.cells #[.int .u32 0, .int .u32 0, .int .u32 0, .int .u32 0, .int .u32 0, .int .u32 0, .int .u32 0, .int .u32 0] 39)) (l := l) ((hb.below hb0 hB).more (Nat.le_trans hB hb0.size)) hl
  rw [hy] at CC
  obtain ⟨cs, hcs⟩ : ∃ cs : Array Value, cs = #[.int .u32 (y0.toNat : Int), .int .u32 (y1.toNat : Int), .int .u32 (y2.toNat : Int), .int .u32 (y3.toNat : Int), .int .u32 (y4.toNat : Int), .int .u32 (y5.toNat : Int), .int .u32 (y6.toNat : Int), .int .u32 (y7.toNat : Int)] := ⟨_, rfl⟩
  have HCC : Hid (Calls Try.prog 50 #[.agg #[.int .u32 (x0.toNat : Int), .int .u32 (x1.toNat : Int), .int .u32 (x2.toNat : Int), .int .u32 (x3.toNat : Int), .int .u32 (x4.toNat : Int), .int .u32 (x5.toNat : Int), .int .u32 (x6.toNat : Int), .int .u32 (x7.toNat : Int)], .slice A 64 c] ((w.alloc (.cells #[.int .u32 (x0.toNat : Int), .int .u32 (x1.toNat : Int), .int .u32 (x2.toNat : Int), .int .u32 (x3.toNat : Int), .int .u32 (x4.toNat : Int), .int .u32 (x5.toNat : Int), .int .u32 (x6.toNat : Int), .int .u32 (x7.toNat : Int)] 39)).alloc (.cells #[.int .u32 0, .int .u32 0, .int .u32 0, .int .u32 0, .int .u32 0, .int .u32 0, .int .u32 0, .int .u32 0] 39)) fun e w' => e = .returned (.agg cs) ∧ Below ((w.alloc (.cells #[.int .u32 (x0.toNat : Int), .int .u32 (x1.toNat : Int), .int .u32 (x2.toNat : Int), .int .u32 (x3.toNat : Int), .int .u32 (x4.toNat : Int), .int .u32 (x5.toNat : Int), .int .u32 (x6.toNat : Int), .int .u32 (x7.toNat : Int)] 39)).alloc (.cells #[.int .u32 0, .int .u32 0, .int .u32 0, .int .u32 0, .int .u32 0, .int .u32 0, .int .u32 0, .int .u32 0] 39)).heap.size ((w.alloc (.cells #[.int .u32 (x0.toNat : Int), .int .u32 (x1.toNat : Int), .int .u32 (x2.toNat : Int), .int .u32 (x3.toNat : Int), .int .u32 (x4.toNat : Int), .int .u32 (x5.toNat : Int), .int .u32 (x6.toNat : Int), .int .u32 (x7.toNat : Int)] 39)).alloc (.cells #[.int .u32 0, .int .u32 0, .int .u32 0, .int .u32 0, .int .u32 0, .int .u32 0, .int .u32 0, .int .u32 0] 39)) w') := by rw [hcs]; exact CC
  have hrow : Hid (((w.alloc (.cells #[.int .u32 (x0.toNat : Int), .int .u32 (x1.toNat : Int), .int .u32 (x2.toNat : Int), .int .u32 (x3.toNat : Int), .int .u32 (x4.toNat : Int), .int .u32 (x5.toNat : Int), .int .u32 (x6.toNat : Int), .int .u32 (x7.toNat : Int)] 39)).alloc (.cells #[.int .u32 0, .int .u32 0, .int .u32 0, .int .u32 0, .int .u32 0, .int .u32 0, .int .u32 0, .int .u32 0] 39)).heap[w.heap.size + 1]? = some (.cells #[.int .u32 0, .int .u32 0, .int .u32 0, .int .u32 0, .int .u32 0, .int .u32 0, .int .u32 0, .int .u32 0] 39 (0, 0))) := heap_alloc2_new w _ _
  have HB0 := Lib.hid hb0
  have hi : Hid ((Try.prog.info? 39).map (·.size) = some cs.size) := by rw [hcs]; show _ = _; kernel_rfl
  have ho : Hid ((#[.int .u32 0, .int .u32 0, .int .u32 0, .int .u32 0, .int .u32 0, .int .u32 0, .int .u32 0, .int .u32 0] : Array Value).size = cs.size) := by rw [hcs]; show _ = _; rfl
  have hone : Hid (cs.all (·.oneCell') = true) := by rw [hcs]; exact one_words [y0, y1, y2, y3, y4, y5, y6, y7]
  have HCS := Lib.hid hcs
  clear hb0 CC hb hl hy hcs
  go_enter Try.func23, Try.ntmps23
  go_wp2_with fail
  refine (HCC.out).mono ?_
  rintro e w1 ⟨rfl, hb1⟩
  have hrow1 : w1.heap[w.heap.size + 1]? = some (.cells #[.int .u32 0, .int .u32 0, .int .u32 0, .int .u32 0, .int .u32 0, .int .u32 0, .int .u32 0, .int .u32 0] 39 (0, 0)) := (hb1.block _ (by simp)).trans hrow.out
  have HR1 := Lib.hid hrow1
  have hbe := (HB0.out.trans (hb1.mono HB0.out.size))
  have hbe3 : Below w.heap.size w (w1.setRow (w.heap.size + 1) cs) := hbe.grown (row := some (w.heap.size + 1)) ⟨rfl, rfl, rfl, by simp, fun j _ hj => setRow_other w1 (w.heap.size + 1) j _ (fun e => hj (by rw [e]))⟩ hbe.size (fun j hj => by simp only [Option.some.injEq] at hj; omega)
  have HBE := Lib.hid hbe3
  have hrow3 : Hid ((w1.setRow (w.heap.size + 1) cs).heap[w.heap.size + 1]? = some (.cells cs 39 (0, 0))) := Lib.hid (setRow_heap w1 _ _ _ _ _ hrow1)
  clear hb1 hrow1 hbe hbe3
  go_wp2_with (with_reducible refine wpList_store_row rfl 39 (.tmp 4) (.tmp 12) rfl (w.heap.size + 1) cs rfl rfl 39 _ HR1.out hi.out ho.out hone.out ?_)
  (try simp only [Exit.inBlock, Exit.then])
  refine bodyPost_ret (v := .tuple #[.agg cs, .int .i64 0]) ?_ rfl ⟨by rw [HCS.out], HBE.out⟩
  have hl := run_loadVar_row (P := Try.prog) (w1.setRow (w.heap.size + 1) cs) (w.heap.size + 1) 39 39 cs (0, 0) _ hrow3.out u32arr rfl hi.out
  simp [results, Try.results23, asAddr, hl]
theorem eq_words8 (x0 x1 x2 x3 x4 x5 x6 x7 : UInt32) (W : World) : (Op.equalIn 10000 39 (.agg #[.int .u32 (x0.toNat : Int), .int .u32 (x1.toNat : Int), .int .u32 (x2.toNat : Int), .int .u32 (x3.toNat : Int), .int .u32 (x4.toNat : Int), .int .u32 (x5.toNat : Int), .int .u32 (x6.toNat : Int), .int .u32 (x7.toNat : Int)]) (.agg #[.int .u32 (x0.toNat : Int), .int .u32 (x1.toNat : Int), .int .u32 (x2.toNat : Int), .int .u32 (x3.toNat : Int), .int .u32 (x4.toNat : Int), .int .u32 (x5.toNat : Int), .int .u32 (x6.toNat : Int), .int .u32 (x7.toNat : Int)])).run Try.prog W = .ok true W := by
  obtain ⟨i, hi⟩ : ∃ i, Try.prog.info? 38 = some i := Option.isSome_iff_exists.1 (by kernel_rfl)
  have h := run_eq_arr (P := Try.prog) (k := .u32) W u32arr hi (by kernel_rfl) (by kernel_rfl) Try.underlying38 ([(x0.toNat : Int), (x1.toNat : Int), (x2.toNat : Int), (x3.toNat : Int), (x4.toNat : Int), (x5.toNat : Int), (x6.toNat : Int), (x7.toNat : Int)]) ([(x0.toNat : Int), (x1.toNat : Int), (x2.toNat : Int), (x3.toNat : Int), (x4.toNat : Int), (x5.toNat : Int), (x6.toNat : Int), (x7.toNat : Int)]) rfl rfl 9998
  simpa using h

/-- behind one call of sha's Compress -/
def MidB (w : World) (st N : List UInt32) (e : Int) (s7 s8 : Value) (wx : World) : Prop :=
  ∃ g7, s7 = .pointer (some ⟨g7, 0, none⟩) ∧ s8 = .int .i64 e ∧ Below w.heap.size w wx ∧ Ws wx w.heap.size 39 st ∧ Ws wx g7 39 N ∧ w.heap.size < g7
theorem MidB.drew {w : World} {st N : List UInt32} {e : Int} {s7 s8 : Value} {wx : World} (h : MidB w st N e s7 s8 wx) : MidB w st N e s7 s8 wx.drew := by
  obtain ⟨g, h1, h2, h3, h4, h5, h6⟩ := h
  exact ⟨g, h1, h2, h3.drew, h4, h5, h6⟩
theorem midC' {w w3 : World} {st N : List UInt32} {L : List Value} {e : Int} (hL : N.map vw = L) (hb : Below w.heap.size w w3) (hws : Ws w3 w.heap.size 39 st) : MidB w st N e (.pointer (some ⟨w3.heap.size, 0, none⟩)) (.int .i64 e) (w3.alloc (.cells L.toArray 39)) := by
  subst hL
  have hl : w.heap.size < w3.heap.size := (Array.getElem?_eq_some_iff.1 hws).1
  exact ⟨_, rfl, rfl, hb.alloc hb.size _, (heap_alloc_old _ _ hl).trans hws, heap_alloc_new w3 _, hl⟩
theorem midS' {w w3 : World} {st N : List UInt32} {L : List Value} {e : Int} {g : Nat} {cs : Array Value} (hL : N.map vw = L) (hb : Below w.heap.size w w3) (hws : Ws w3 w.heap.size 39 st) (hz : w3.heap[g]? = some (.cells cs 39 (0, 0))) (hl : cs.size = L.length) (hg : w.heap.size < g) :
    MidB w st N e (.pointer (some ⟨g, 0, none⟩)) (.int .i64 e) (w3.setCells g 0 L) := by
  subst hL
  have hgr := setCells_grown g (N.map vw) 0 w3
  exact ⟨_, rfl, rfl, hb.grown hgr hb.size (fun j hj => by simp only [Option.some.injEq] at hj; omega), Ws.grown hws hgr (by simp; omega), setCells_whole hz (by simpa using hl), hg⟩
theorem midC {w w3 : World} {st N : List UInt32} {e : Int} (hb : Below w.heap.size w w3) (hws : Ws w3 w.heap.size 39 st) : MidB w st N e (.pointer (some ⟨w3.heap.size, 0, none⟩)) (.int .i64 e) (w3.alloc (.cells (N.map vw).toArray 39)) := by
  have hl : w.heap.size < w3.heap.size := (Array.getElem?_eq_some_iff.1 hws).1
  exact ⟨_, rfl, rfl, hb.alloc hb.size _, (heap_alloc_old _ _ hl).trans hws, heap_alloc_new w3 _, hl⟩
theorem midS {w w3 : World} {st N : List UInt32} {e : Int} {g : Nat} {cs : Array Value} (hb : Below w.heap.size w w3) (hws : Ws w3 w.heap.size 39 st) (hz : w3.heap[g]? = some (.cells cs 39 (0, 0))) (hl : cs.size = N.length) (hg : w.heap.size < g) :
    MidB w st N e (.pointer (some ⟨g, 0, none⟩)) (.int .i64 e) (w3.setCells g 0 (N.map vw)) := by
  have hgr := setCells_grown g (N.map vw) 0 w3
  exact ⟨_, rfl, rfl, hb.grown hgr hb.size (fun j hj => by simp only [Option.some.injEq] at hj; omega), Ws.grown hws hgr (by simp; omega), setCells_whole hz (by simpa using hl), hg⟩
set_option maxRecDepth 100000 in
set_option maxHeartbeats 6400000 in
theorem shablocks_walk (s0 s1 s2 s3 s4 s5 s6 s7 : UInt32) {ls : List (List UInt8)} {v : Value} {w : World} (hr : Rs w w.heap.size v ls) (hl : ∀ l ∈ ls, l.length ≤ 140737488351232) :
    Calls Try.prog 6 #[.agg #[.int .u32 (s0.toNat : Int), .int .u32 (s1.toNat : Int), .int .u32 (s2.toNat : Int), .int .u32 (s3.toNat : Int), .int .u32 (s4.toNat : Int), .int .u32 (s5.toNat : Int), .int .u32 (s6.toNat : Int), .int .u32 (s7.toNat : Int)], v] w fun e w' => e = .returned (.bool true) ∧ Below w.heap.size w w' := by
  have hr0 := hr
  obtain ⟨A, c, rfl, hc1, hc2, hcell⟩ := hr0
  have HC := Lib.hid hcell; have HR := Lib.hid hr; have HLL := Lib.hid hl
  unfold maxLen at hc2
  have hb0 : Below w.heap.size w (w.alloc (.cells #[.int .u32 (s0.toNat : Int), .int .u32 (s1.toNat : Int), .int .u32 (s2.toNat : Int), .int .u32 (s3.toNat : Int), .int .u32 (s4.toNat : Int), .int .u32 (s5.toNat : Int), .int .u32 (s6.toNat : Int), .int .u32 (s7.toNat : Int)] 39)) := (Below.refl _ _).alloc (Nat.le_refl _) _
  have CA := awake2_any (w.alloc (.cells #[.int .u32 (s0.toNat : Int), .int .u32 (s1.toNat : Int), .int .u32 (s2.toNat : Int), .int .u32 (s3.toNat : Int), .int .u32 (s4.toNat : Int), .int .u32 (s5.toNat : Int), .int .u32 (s6.toNat : Int), .int .u32 (s7.toNat : Int)] 39))
  have hrow : Hid (Ws (w.alloc (.cells #[.int .u32 (s0.toNat : Int), .int .u32 (s1.toNat : Int), .int .u32 (s2.toNat : Int), .int .u32 (s3.toNat : Int), .int .u32 (s4.toNat : Int), .int .u32 (s5.toNat : Int), .int .u32 (s6.toNat : Int), .int .u32 (s7.toNat : Int)] 39)) w.heap.size 39 [s0, s1, s2, s3, s4, s5, s6, s7]) := heap_alloc_new w _
  have HB0 := Lib.hid hb0; have HCA := Lib.hid CA
  clear hcell hr hl hb0 CA
  go_enter Try.func6, Try.ntmps6
  go_wp2_with fail
  refine (HCA.out).mono ?_
  rintro e1 w1 ⟨rfl, hb1⟩
  have hws1 : Hid (Ws w1 w.heap.size 39 [s0, s1, s2, s3, s4, s5, s6, s7]) := Lib.hid ((hb1.block _ (by simp)).trans hrow.out)
  have HB1 := Lib.hid (HB0.out.trans (hb1.mono HB0.out.size))
  clear hb1 hrow HB0
  go_wp2_with fail
  go_loopw [14] (fun i wr => ∃ (k : Nat) (x0 x1 x2 x3 x4 x5 x6 x7 : UInt32), k ≤ ls.length ∧ i = .int .i64 k ∧ Hid (Below w.heap.size w wr) ∧ Hid (Ws wr w.heap.size 39 [x0, x1, x2, x3, x4, x5, x6, x7])) (fun i _ => ls.length - (intOf i).toNat)
  case atStart => exact ⟨0, s0, s1, s2, s3, s4, s5, s6, s7, Nat.zero_le _, rfl, HB1, hws1⟩
  case round =>
    obtain ⟨k, x0, x1, x2, x3, x4, x5, x6, x7, hk, rfl, hbe, hws⟩ := hrel
    clear HB1 hws1
    by_cases hlt : k < ls.length
    · obtain ⟨b, off, rfl, hbB, hcc⟩ := HC.out (by omega)
      obtain ⟨u, hu0, hbs0⟩ := hcc k hlt
      have hu : wr.cell? ⟨b, off + k, none⟩ = some u := (hbe.out.cell (p := ⟨b, off + k, none⟩) hbB).trans hu0
      have hbs := hbs0.below hbe.out (Nat.le_refl _)
      obtain ⟨l, hl⟩ : ∃ l, l = ls[k] := ⟨_, rfl⟩
      rw [← hl] at hbs hbs0
      have hll : l.length ≤ 140737488351232 := by rw [hl]; exact HLL.out _ (List.getElem_mem hlt)
      obtain ⟨Au, cu, rfl⟩ := hbs0.shape
      have hgl : w.heap.size < wr.heap.size := (Array.getElem?_eq_some_iff.1 hws.out).1
      obtain ⟨Xs, hXs⟩ : ∃ Xs : List Value, Xs = [x0, x1, x2, x3, x4, x5, x6, x7].map vw := ⟨_, rfl⟩
      have hXl : Xs.length = 8 := by rw [hXs]; rfl
      have C0 := Lib.hid (copy_any (w := wr.drew) hbs (by exact hbe.out.size) (by omega))
      have hbA : Below wr.heap.size wr (wr.alloc (.cells #[.int .u32 0, .int .u32 0, .int .u32 0, .int .u32 0, .int .u32 0, .int .u32 0, .int .u32 0, .int .u32 0] 39)) := (Below.refl _ _).alloc (Nat.le_refl _) _
      have C1 := Lib.hid (copy_any (w := (wr.alloc (.cells #[.int .u32 0, .int .u32 0, .int .u32 0, .int .u32 0, .int .u32 0, .int .u32 0, .int .u32 0, .int .u32 0] 39)).drew) (hbs.below hbA.drew hbe.out.size) (by have := hbe.out.size; have := hbA.size; show _ ≤ (wr.alloc _).heap.size; omega) (by omega))
      have hzA : (wr.alloc (.cells #[.int .u32 0, .int .u32 0, .int .u32 0, .int .u32 0, .int .u32 0, .int .u32 0, .int .u32 0, .int .u32 0] 39)).heap[wr.heap.size]? = some (.cells #[.int .u32 0, .int .u32 0, .int .u32 0, .int .u32 0, .int .u32 0, .int .u32 0, .int .u32 0, .int .u32 0] 39 (0, 0)) := heap_alloc_new wr _
      have HBS0 := Lib.hid hbs0; have HBA := Lib.hid hbA; have HZA := Lib.hid hzA
      have HSA : Hid ((wr.alloc (.cells #[.int .u32 0, .int .u32 0, .int .u32 0, .int .u32 0, .int .u32 0, .int .u32 0, .int .u32 0, .int .u32 0] 39)).heap.size = wr.heap.size + 1) := by show _ = _; simp
      obtain ⟨N, e, hN8, hcmp, hres⟩ : ∃ (N : List UInt32) (e : Int), N.length = 8 ∧ (∀ (W : World) (u : Value) (B : Nat), Bs W B u l → B ≤ W.heap.size → Calls Try.prog 23 #[.agg Xs.toArray, u] W fun e' w' => e' = .returned (.tuple #[.agg (N.map vw).toArray, .int .i64 e]) ∧ Below W.heap.size W w') ∧
          ((l.length ≠ 64 ∧ e = 2 ∧ N = zw 8) ∨ (l.length = 64 ∧ e = 0 ∧ N = compL [x0, x1, x2, x3, x4, x5, x6, x7] l)) := by
        rw [hXs]
        by_cases h64 : l.length = 64
        · obtain ⟨y0, y1, y2, y3, y4, y5, y6, y7, hy⟩ := words8 (compL_len (s := [x0, x1, x2, x3, x4, x5, x6, x7]) rfl l)
          refine ⟨[y0, y1, y2, y3, y4, y5, y6, y7], 0, rfl, fun W u B h hB => shaCompress_ok x0 x1 x2 x3 x4 x5 x6 x7 y0 y1 y2 y3 y4 y5 y6 y7 h hB h64 hy, .inr ⟨h64, rfl, hy.symm⟩⟩
        · exact ⟨zw 8, 2, rfl, fun W u B h hB => shaCompress_size x0 x1 x2 x3 x4 x5 x6 x7 h h64, .inl ⟨h64, rfl, rfl⟩⟩
      obtain ⟨Ns, hNs⟩ : ∃ Ns : List Value, Ns = N.map vw := ⟨_, rfl⟩
      have hNl : Ns.length = 8 := by rw [hNs, List.length_map, hN8]
      have hN1 : Hid (∀ v ∈ Ns, v.oneCell' = true) := by
        rw [hNs]
        show ∀ v ∈ _, _
        intro u hu
        obtain ⟨x, _, rfl⟩ := List.mem_map.1 hu
        rfl
      rw [← hNs] at hcmp
      have HRES := Lib.hid hres; have HXS := Lib.hid hXs; have HNS := Lib.hid hNs; have HNL := Lib.hid hNl; have HXL := Lib.hid hXl; have HN8 := Lib.hid hN8
      obtain ⟨u0, u1, u2, u3, u4, u5, u6, u7, hu8⟩ : ∃ u0 u1 u2 u3 u4 u5 u6 u7, Xs = [u0, u1, u2, u3, u4, u5, u6, u7] := ⟨_, _, _, _, _, _, _, _, hXs⟩
      obtain ⟨d0, d1, d2, d3, d4, d5, d6, d7, hv8⟩ : ∃ d0 d1 d2 d3 d4 d5 d6 d7 : Int, Ns = [.int .u32 d0, .int .u32 d1, .int .u32 d2, .int .u32 d3, .int .u32 d4, .int .u32 d5, .int .u32 d6, .int .u32 d7] := by
        obtain ⟨n0, n1, n2, n3, n4, n5, n6, n7, rfl⟩ := words8 hN8
        exact ⟨_, _, _, _, _, _, _, _, hNs⟩
      have hrg : Hid (∀ W : World, Ws W w.heap.size 39 [x0, x1, x2, x3, x4, x5, x6, x7] → W.cell? ⟨w.heap.size, 0, none⟩ = some u0 ∧ W.cell? ⟨w.heap.size, 1, none⟩ = some u1 ∧ W.cell? ⟨w.heap.size, 2, none⟩ = some u2 ∧ W.cell? ⟨w.heap.size, 3, none⟩ = some u3 ∧ W.cell? ⟨w.heap.size, 4, none⟩ = some u4 ∧ W.cell? ⟨w.heap.size, 5, none⟩ = some u5 ∧ W.cell? ⟨w.heap.size, 6, none⟩ = some u6 ∧ W.cell? ⟨w.heap.size, 7, none⟩ = some u7) := by
        show ∀ W, _ → _
        intro W h
        have hr' : W.rangeAt w.heap.size 0 Xs := by
          intro j v hv
          rw [Nat.zero_add, cell_of_row W w.heap.size j _ _ _ h, ← hXs]
          simpa using hv
        rw [hu8] at hr'
        exact ⟨hr' 0 _ rfl, hr' 1 _ rfl, hr' 2 _ rfl, hr' 3 _ rfl, hr' 4 _ rfl, hr' 5 _ rfl, hr' 6 _ rfl, hr' 7 _ rfl⟩
      rw [hu8, hv8] at hcmp
      have HUX := Lib.hid hu8; have HVN := Lib.hid hv8
      have HCMP := Lib.hid hcmp
      clear hl hbs hbs0 hcc hu0 hbA hzA hcmp hres hXs hNs hNl hXl hN8 hu8 hv8
      have r0 := hrg.out wr.drew hws.out
      have rb := hrg.out (wr.alloc (.cells #[.int .u32 0, .int .u32 0, .int .u32 0, .int .u32 0, .int .u32 0, .int .u32 0, .int .u32 0, .int .u32 0] 39)).drew ((heap_alloc_old wr _ hgl).trans hws.out)
      go_upto_region 6 with fail
      go_cut [7, 8] (fun s7 s8 wx => MidB w [x0, x1, x2, x3, x4, x5, x6, x7] N e s7 s8 wx)
      case first =>
        have hi8 : (Try.prog.info? 39).map (·.size) = some 8 := by kernel_rfl
        go_wp2_with fail
        go_region_held3 (fun W => W.cell? ⟨w.heap.size, 0, none⟩ = some u0 ∧ W.cell? ⟨w.heap.size, 1, none⟩ = some u1 ∧ W.cell? ⟨w.heap.size, 2, none⟩ = some u2 ∧ W.cell? ⟨w.heap.size, 3, none⟩ = some u3 ∧ W.cell? ⟨w.heap.size, 4, none⟩ = some u4 ∧ W.cell? ⟨w.heap.size, 5, none⟩ = some u5 ∧ W.cell? ⟨w.heap.size, 6, none⟩ = some u6 ∧ W.cell? ⟨w.heap.size, 7, none⟩ = some u7) (first | with_reducible exact r0 | with_reducible exact rk2 | with_reducible exact rka2 | with_reducible exact rk | with_reducible exact rka | with_reducible exact rkd | with_reducible exact rks | with_reducible exact rb)
          (first
          | (go_at_call 24; (first
              | ((with_reducible refine (C0.out).mono ?_); rintro e2 w2 ⟨u2, rfl, hu2, hb2⟩; obtain ⟨A2, c2, rfl⟩ := hu2.shape; have hws2 : Ws w2 w.heap.size 39 [x0, x1, x2, x3, x4, x5, x6, x7] := (hb2.block _ hgl).trans hws.out; have hbw2 : Below w.heap.size w w2 := hbe.out.drew.trans (hb2.mono hbe.out.size); have rk2 := hrg.out w2 hws2; have rka2 := hrg.out (w2.alloc (.cells #[.int .u32 0, .int .u32 0, .int .u32 0, .int .u32 0, .int .u32 0, .int .u32 0, .int .u32 0, .int .u32 0] 39)) ((heap_alloc_old _ _ (Array.getElem?_eq_some_iff.1 hws2).1).trans hws2))
              | ((with_reducible refine (C1.out).mono ?_); rintro e2 w2 ⟨u2, rfl, hu2, hb2⟩; obtain ⟨A2, c2, rfl⟩ := hu2.shape; have hlA : wr.heap.size < (wr.alloc (.cells #[.int .u32 0, .int .u32 0, .int .u32 0, .int .u32 0, .int .u32 0, .int .u32 0, .int .u32 0, .int .u32 0] 39)).heap.size := (by rw [HSA.out]; omega); have hz2 : w2.heap[wr.heap.size]? = some (.cells #[.int .u32 0, .int .u32 0, .int .u32 0, .int .u32 0, .int .u32 0, .int .u32 0, .int .u32 0, .int .u32 0] 39 (0, 0)) := (hb2.block _ hlA).trans HZA.out; have hws2 : Ws w2 w.heap.size 39 [x0, x1, x2, x3, x4, x5, x6, x7] := (hb2.block _ (Nat.lt_trans hgl hlA)).trans ((heap_alloc_old wr _ hgl).trans hws.out); have hbw2 : Below w.heap.size w w2 := (hbe.out.trans (HBA.out.mono hbe.out.size)).drew.trans (hb2.mono (Nat.le_of_lt (Nat.lt_trans hgl hlA))); have hl2 : wr.heap.size < w2.heap.size := (Array.getElem?_eq_some_iff.1 hz2).1; have rk2 := hrg.out w2 hws2; have rka2 := hrg.out (w2.alloc (.cells #[.int .u32 0, .int .u32 0, .int .u32 0, .int .u32 0, .int .u32 0, .int .u32 0, .int .u32 0, .int .u32 0] 39)) ((heap_alloc_old _ _ (Array.getElem?_eq_some_iff.1 hws2).1).trans hws2))))
          | (go_at_call 23; have hbA2 : Below w2.heap.size w2 (w2.alloc (.cells #[.int .u32 0, .int .u32 0, .int .u32 0, .int .u32 0, .int .u32 0, .int .u32 0, .int .u32 0, .int .u32 0] 39)) := (Below.refl _ _).alloc (Nat.le_refl _) _; (with_reducible refine (HCMP.out _ _ _ (hu2.bs.below hbA2 (Nat.le_refl _)) hbA2.size).mono ?_); rintro e3 w3 ⟨rfl, hb3⟩; have hgl2 : w.heap.size < w2.heap.size := (Array.getElem?_eq_some_iff.1 hws2).1; have hgs2 : w2.heap.size < (w2.alloc (.cells #[.int .u32 0, .int .u32 0, .int .u32 0, .int .u32 0, .int .u32 0, .int .u32 0, .int .u32 0, .int .u32 0] 39)).heap.size := (by simp); have hws3 : Ws w3 w.heap.size 39 [x0, x1, x2, x3, x4, x5, x6, x7] := (hb3.block _ (Nat.lt_of_lt_of_le hgl2 hbA2.size)).trans ((heap_alloc_old w2 _ hgl2).trans hws2); have hbwA := hbw2.trans (hbA2.mono hbw2.size); have hbw3 : Below w.heap.size w w3 := hbwA.trans (hb3.mono hbwA.size); have rk := hrg.out w3 hws3; have rka := hrg.out (w3.alloc (.cells #[.int .u32 0, .int .u32 0, .int .u32 0, .int .u32 0, .int .u32 0, .int .u32 0, .int .u32 0, .int .u32 0] 39)) ((heap_alloc_old _ _ (Array.getElem?_eq_some_iff.1 hws3).1).trans hws3); have rkd := hrg.out (w3.alloc (.cells #[.int .u32 d0, .int .u32 d1, .int .u32 d2, .int .u32 d3, .int .u32 d4, .int .u32 d5, .int .u32 d6, .int .u32 d7] 39)) ((heap_alloc_old _ _ (Array.getElem?_eq_some_iff.1 hws3).1).trans hws3); have hz3 : w3.heap[w2.heap.size]? = some (.cells #[.int .u32 0, .int .u32 0, .int .u32 0, .int .u32 0, .int .u32 0, .int .u32 0, .int .u32 0, .int .u32 0] 39 (0, 0)) := (hb3.block _ hgs2).trans (heap_alloc_new w2 _); have zz0 : w3.cell? ⟨w2.heap.size, 0, none⟩ = some (.int .u32 0) := (by rw [cell_of_row _ _ 0 _ _ _ hz3]; rfl); have ff0 := frozen_of_row w3 w2.heap.size 0 _ _ hz3; have zz1 : w3.cell? ⟨w2.heap.size, 1, none⟩ = some (.int .u32 0) := (by rw [cell_of_row _ _ 1 _ _ _ hz3]; rfl); have ff1 := frozen_of_row w3 w2.heap.size 1 _ _ hz3; have zz2 : w3.cell? ⟨w2.heap.size, 2, none⟩ = some (.int .u32 0) := (by rw [cell_of_row _ _ 2 _ _ _ hz3]; rfl); have ff2 := frozen_of_row w3 w2.heap.size 2 _ _ hz3; have zz3 : w3.cell? ⟨w2.heap.size, 3, none⟩ = some (.int .u32 0) := (by rw [cell_of_row _ _ 3 _ _ _ hz3]; rfl); have ff3 := frozen_of_row w3 w2.heap.size 3 _ _ hz3; have zz4 : w3.cell? ⟨w2.heap.size, 4, none⟩ = some (.int .u32 0) := (by rw [cell_of_row _ _ 4 _ _ _ hz3]; rfl); have ff4 := frozen_of_row w3 w2.heap.size 4 _ _ hz3; have zz5 : w3.cell? ⟨w2.heap.size, 5, none⟩ = some (.int .u32 0) := (by rw [cell_of_row _ _ 5 _ _ _ hz3]; rfl); have ff5 := frozen_of_row w3 w2.heap.size 5 _ _ hz3; have zz6 : w3.cell? ⟨w2.heap.size, 6, none⟩ = some (.int .u32 0) := (by rw [cell_of_row _ _ 6 _ _ _ hz3]; rfl); have ff6 := frozen_of_row w3 w2.heap.size 6 _ _ hz3; have zz7 : w3.cell? ⟨w2.heap.size, 7, none⟩ = some (.int .u32 0) := (by rw [cell_of_row _ _ 7 _ _ _ hz3]; rfl); have ff7 := frozen_of_row w3 w2.heap.size 7 _ _ hz3; have hnest : w3.setCells w2.heap.size 0 [.int .u32 d0, .int .u32 d1, .int .u32 d2, .int .u32 d3, .int .u32 d4, .int .u32 d5, .int .u32 d6, .int .u32 d7] = ((((((((w3.setCell ⟨w2.heap.size, 0, none⟩ (.int .u32 d0)).setCell ⟨w2.heap.size, 1, none⟩ (.int .u32 d1)).setCell ⟨w2.heap.size, 2, none⟩ (.int .u32 d2)).setCell ⟨w2.heap.size, 3, none⟩ (.int .u32 d3)).setCell ⟨w2.heap.size, 4, none⟩ (.int .u32 d4)).setCell ⟨w2.heap.size, 5, none⟩ (.int .u32 d5)).setCell ⟨w2.heap.size, 6, none⟩ (.int .u32 d6)).setCell ⟨w2.heap.size, 7, none⟩ (.int .u32 d7)) := rfl; have rks := hrg.out ((((((((w3.setCell ⟨w2.heap.size, 0, none⟩ (.int .u32 d0)).setCell ⟨w2.heap.size, 1, none⟩ (.int .u32 d1)).setCell ⟨w2.heap.size, 2, none⟩ (.int .u32 d2)).setCell ⟨w2.heap.size, 3, none⟩ (.int .u32 d3)).setCell ⟨w2.heap.size, 4, none⟩ (.int .u32 d4)).setCell ⟨w2.heap.size, 5, none⟩ (.int .u32 d5)).setCell ⟨w2.heap.size, 6, none⟩ (.int .u32 d6)).setCell ⟨w2.heap.size, 7, none⟩ (.int .u32 d7)) (hnest ▸ Ws.grown hws3 (setCells_grown w2.heap.size [.int .u32 d0, .int .u32 d1, .int .u32 d2, .int .u32 d3, .int .u32 d4, .int .u32 d5, .int .u32 d6, .int .u32 d7] 0 w3) (by simp; omega)))
          | (go_at_call 23; (with_reducible refine (HCMP.out _ _ _ hu2.bs (Nat.le_refl _)).mono ?_); rintro e3 w3 ⟨rfl, hb3⟩; have hws3 : Ws w3 w.heap.size 39 [x0, x1, x2, x3, x4, x5, x6, x7] := (hb3.block _ ((Array.getElem?_eq_some_iff.1 hws2).1)).trans hws2; have hbw3 : Below w.heap.size w w3 := hbw2.trans (hb3.mono hbw2.size); have rk := hrg.out w3 hws3; have rka := hrg.out (w3.alloc (.cells #[.int .u32 0, .int .u32 0, .int .u32 0, .int .u32 0, .int .u32 0, .int .u32 0, .int .u32 0, .int .u32 0] 39)) ((heap_alloc_old _ _ (Array.getElem?_eq_some_iff.1 hws3).1).trans hws3); have rkd := hrg.out (w3.alloc (.cells #[.int .u32 d0, .int .u32 d1, .int .u32 d2, .int .u32 d3, .int .u32 d4, .int .u32 d5, .int .u32 d6, .int .u32 d7] 39)) ((heap_alloc_old _ _ (Array.getElem?_eq_some_iff.1 hws3).1).trans hws3); (first | (have hz3 : w3.heap[wr.heap.size]? = some (.cells #[.int .u32 0, .int .u32 0, .int .u32 0, .int .u32 0, .int .u32 0, .int .u32 0, .int .u32 0, .int .u32 0] 39 (0, 0)) := (hb3.block _ (Nat.lt_of_lt_of_le hl2 (Nat.le_refl _))).trans hz2; have zz0 : w3.cell? ⟨wr.heap.size, 0, none⟩ = some (.int .u32 0) := (by rw [cell_of_row _ _ 0 _ _ _ hz3]; rfl); have ff0 := frozen_of_row w3 wr.heap.size 0 _ _ hz3; have zz1 : w3.cell? ⟨wr.heap.size, 1, none⟩ = some (.int .u32 0) := (by rw [cell_of_row _ _ 1 _ _ _ hz3]; rfl); have ff1 := frozen_of_row w3 wr.heap.size 1 _ _ hz3; have zz2 : w3.cell? ⟨wr.heap.size, 2, none⟩ = some (.int .u32 0) := (by rw [cell_of_row _ _ 2 _ _ _ hz3]; rfl); have ff2 := frozen_of_row w3 wr.heap.size 2 _ _ hz3; have zz3 : w3.cell? ⟨wr.heap.size, 3, none⟩ = some (.int .u32 0) := (by rw [cell_of_row _ _ 3 _ _ _ hz3]; rfl); have ff3 := frozen_of_row w3 wr.heap.size 3 _ _ hz3; have zz4 : w3.cell? ⟨wr.heap.size, 4, none⟩ = some (.int .u32 0) := (by rw [cell_of_row _ _ 4 _ _ _ hz3]; rfl); have ff4 := frozen_of_row w3 wr.heap.size 4 _ _ hz3; have zz5 : w3.cell? ⟨wr.heap.size, 5, none⟩ = some (.int .u32 0) := (by rw [cell_of_row _ _ 5 _ _ _ hz3]; rfl); have ff5 := frozen_of_row w3 wr.heap.size 5 _ _ hz3; have zz6 : w3.cell? ⟨wr.heap.size, 6, none⟩ = some (.int .u32 0) := (by rw [cell_of_row _ _ 6 _ _ _ hz3]; rfl); have ff6 := frozen_of_row w3 wr.heap.size 6 _ _ hz3; have zz7 : w3.cell? ⟨wr.heap.size, 7, none⟩ = some (.int .u32 0) := (by rw [cell_of_row _ _ 7 _ _ _ hz3]; rfl); have ff7 := frozen_of_row w3 wr.heap.size 7 _ _ hz3; have hnest : w3.setCells wr.heap.size 0 [.int .u32 d0, .int .u32 d1, .int .u32 d2, .int .u32 d3, .int .u32 d4, .int .u32 d5, .int .u32 d6, .int .u32 d7] = ((((((((w3.setCell ⟨wr.heap.size, 0, none⟩ (.int .u32 d0)).setCell ⟨wr.heap.size, 1, none⟩ (.int .u32 d1)).setCell ⟨wr.heap.size, 2, none⟩ (.int .u32 d2)).setCell ⟨wr.heap.size, 3, none⟩ (.int .u32 d3)).setCell ⟨wr.heap.size, 4, none⟩ (.int .u32 d4)).setCell ⟨wr.heap.size, 5, none⟩ (.int .u32 d5)).setCell ⟨wr.heap.size, 6, none⟩ (.int .u32 d6)).setCell ⟨wr.heap.size, 7, none⟩ (.int .u32 d7)) := rfl; have rks := hrg.out ((((((((w3.setCell ⟨wr.heap.size, 0, none⟩ (.int .u32 d0)).setCell ⟨wr.heap.size, 1, none⟩ (.int .u32 d1)).setCell ⟨wr.heap.size, 2, none⟩ (.int .u32 d2)).setCell ⟨wr.heap.size, 3, none⟩ (.int .u32 d3)).setCell ⟨wr.heap.size, 4, none⟩ (.int .u32 d4)).setCell ⟨wr.heap.size, 5, none⟩ (.int .u32 d5)).setCell ⟨wr.heap.size, 6, none⟩ (.int .u32 d6)).setCell ⟨wr.heap.size, 7, none⟩ (.int .u32 d7)) (hnest ▸ Ws.grown hws3 (setCells_grown wr.heap.size [.int .u32 d0, .int .u32 d1, .int .u32 d2, .int .u32 d3, .int .u32 d4, .int .u32 d5, .int .u32 d6, .int .u32 d7] 0 w3) (by simp; omega))) | (have hz3 : (w3.alloc (.cells #[.int .u32 0, .int .u32 0, .int .u32 0, .int .u32 0, .int .u32 0, .int .u32 0, .int .u32 0, .int .u32 0] 39)).heap[w3.heap.size]? = some (.cells #[.int .u32 0, .int .u32 0, .int .u32 0, .int .u32 0, .int .u32 0, .int .u32 0, .int .u32 0, .int .u32 0] 39 (0, 0)) := heap_alloc_new w3 _; have zz0 : (w3.alloc (.cells #[.int .u32 0, .int .u32 0, .int .u32 0, .int .u32 0, .int .u32 0, .int .u32 0, .int .u32 0, .int .u32 0] 39)).cell? ⟨w3.heap.size, 0, none⟩ = some (.int .u32 0) := (by rw [cell_of_row _ _ 0 _ _ _ hz3]; rfl); have ff0 := frozen_of_row (w3.alloc (.cells #[.int .u32 0, .int .u32 0, .int .u32 0, .int .u32 0, .int .u32 0, .int .u32 0, .int .u32 0, .int .u32 0] 39)) w3.heap.size 0 _ _ hz3; have zz1 : (w3.alloc (.cells #[.int .u32 0, .int .u32 0, .int .u32 0, .int .u32 0, .int .u32 0, .int .u32 0, .int .u32 0, .int .u32 0] 39)).cell? ⟨w3.heap.size, 1, none⟩ = some (.int .u32 0) := (by rw [cell_of_row _ _ 1 _ _ _ hz3]; rfl); have ff1 := frozen_of_row (w3.alloc (.cells #[.int .u32 0, .int .u32 0, .int .u32 0, .int .u32 0, .int .u32 0, .int .u32 0, .int .u32 0, .int .u32 0] 39)) w3.heap.size 1 _ _ hz3; have zz2 : (w3.alloc (.cells #[.int .u32 0, .int .u32 0, .int .u32 0, .int .u32 0, .int .u32 0, .int .u32 0, .int .u32 0, .int .u32 0] 39)).cell? ⟨w3.heap.size, 2, none⟩ = some (.int .u32 0) := (by rw [cell_of_row _ _ 2 _ _ _ hz3]; rfl); have ff2 := frozen_of_row (w3.alloc (.cells #[.int .u32 0, .int .u32 0, .int .u32 0, .int .u32 0, .int .u32 0, .int .u32 0, .int .u32 0, .int .u32 0] 39)) w3.heap.size 2 _ _ hz3; have zz3 : (w3.alloc (.cells #[.int .u32 0, .int .u32 0, .int .u32 0, .int .u32 0, .int .u32 0, .int .u32 0, .int .u32 0, .int .u32 0] 39)).cell? ⟨w3.heap.size, 3, none⟩ = some (.int .u32 0) := (by rw [cell_of_row _ _ 3 _ _ _ hz3]; rfl); have ff3 := frozen_of_row (w3.alloc (.cells #[.int .u32 0, .int .u32 0, .int .u32 0, .int .u32 0, .int .u32 0, .int .u32 0, .int .u32 0, .int .u32 0] 39)) w3.heap.size 3 _ _ hz3; have zz4 : (w3.alloc (.cells #[.int .u32 0, .int .u32 0, .int .u32 0, .int .u32 0, .int .u32 0, .int .u32 0, .int .u32 0, .int .u32 0] 39)).cell? ⟨w3.heap.size, 4, none⟩ = some (.int .u32 0) := (by rw [cell_of_row _ _ 4 _ _ _ hz3]; rfl); have ff4 := frozen_of_row (w3.alloc (.cells #[.int .u32 0, .int .u32 0, .int .u32 0, .int .u32 0, .int .u32 0, .int .u32 0, .int .u32 0, .int .u32 0] 39)) w3.heap.size 4 _ _ hz3; have zz5 : (w3.alloc (.cells #[.int .u32 0, .int .u32 0, .int .u32 0, .int .u32 0, .int .u32 0, .int .u32 0, .int .u32 0, .int .u32 0] 39)).cell? ⟨w3.heap.size, 5, none⟩ = some (.int .u32 0) := (by rw [cell_of_row _ _ 5 _ _ _ hz3]; rfl); have ff5 := frozen_of_row (w3.alloc (.cells #[.int .u32 0, .int .u32 0, .int .u32 0, .int .u32 0, .int .u32 0, .int .u32 0, .int .u32 0, .int .u32 0] 39)) w3.heap.size 5 _ _ hz3; have zz6 : (w3.alloc (.cells #[.int .u32 0, .int .u32 0, .int .u32 0, .int .u32 0, .int .u32 0, .int .u32 0, .int .u32 0, .int .u32 0] 39)).cell? ⟨w3.heap.size, 6, none⟩ = some (.int .u32 0) := (by rw [cell_of_row _ _ 6 _ _ _ hz3]; rfl); have ff6 := frozen_of_row (w3.alloc (.cells #[.int .u32 0, .int .u32 0, .int .u32 0, .int .u32 0, .int .u32 0, .int .u32 0, .int .u32 0, .int .u32 0] 39)) w3.heap.size 6 _ _ hz3; have zz7 : (w3.alloc (.cells #[.int .u32 0, .int .u32 0, .int .u32 0, .int .u32 0, .int .u32 0, .int .u32 0, .int .u32 0, .int .u32 0] 39)).cell? ⟨w3.heap.size, 7, none⟩ = some (.int .u32 0) := (by rw [cell_of_row _ _ 7 _ _ _ hz3]; rfl); have ff7 := frozen_of_row (w3.alloc (.cells #[.int .u32 0, .int .u32 0, .int .u32 0, .int .u32 0, .int .u32 0, .int .u32 0, .int .u32 0, .int .u32 0] 39)) w3.heap.size 7 _ _ hz3))))
        all_goals
          (try clear r0); (try clear rb); (try clear rk); (try clear rka); (try clear rk2); (try clear rka2); (try clear rkd); (try clear rks); (try clear zz0); (try clear zz1); (try clear zz2); (try clear zz3); (try clear zz4); (try clear zz5); (try clear zz6); (try clear zz7); (try clear ff0); (try clear ff1); (try clear ff2); (try clear ff3); (try clear ff4); (try clear ff5); (try clear ff6); (try clear ff7)
          go_step; go_step; go_meet
          have hLL : N.map vw = [.int .u32 d0, .int .u32 d1, .int .u32 d2, .int .u32 d3, .int .u32 d4, .int .u32 d5, .int .u32 d6, .int .u32 d7] := HNS.out.symm.trans HVN.out
          first
            | (rw [← hnest]; with_reducible exact midS' hLL hbw3 hws3 hz3 rfl (by first | exact hgl | exact hgl2))
            | with_reducible exact midC' hLL hbw3 hws3
      case rest =>
        obtain ⟨g7, rfl, rfl, hb7, hws7, hn7, hl7⟩ := hcut
        have hn8' := HN8.out
        clear r0 rb C0 C1 HCMP HUX HVN HNS HXS HNL HXL HN8 hN1 hrg HBA HZA HSA
        obtain ⟨n0, n1, n2, n3, n4, n5, n6, n7, rfl⟩ := words8 hn8'
        clear hn8'
        rcases HRES.out with ⟨h64, rfl, hz⟩ | ⟨h64, rfl, hy⟩
        · have hne : ((l.length : Int) != 64) = true := by rw [bne_iff_ne]; omega
          simp only [zw, List.replicate, List.cons.injEq, and_true] at hz
          obtain ⟨rfl, rfl, rfl, rfl, rfl, rfl, rfl, rfl⟩ := hz
          have EQ := eq_words8 0 0 0 0 0 0 0 0
          have EQ0 : ∀ W, (Op.equalIn 10000 39 (.agg #[.int .u32 0, .int .u32 0, .int .u32 0, .int .u32 0, .int .u32 0, .int .u32 0, .int .u32 0, .int .u32 0]) (.agg #[.int .u32 0, .int .u32 0, .int .u32 0, .int .u32 0, .int .u32 0, .int .u32 0, .int .u32 0, .int .u32 0])).run Try.prog W = .ok true W := EQ
          have HB7 := Lib.hid hb7; have HW7 := Lib.hid hws7
          have p0 : wc.cell? ⟨g7, 0, none⟩ = some (.int .u32 0) := (hn7.at_ (j := 0) (by simp)).1
          have p1 : wc.cell? ⟨g7, 1, none⟩ = some (.int .u32 0) := (hn7.at_ (j := 1) (by simp)).1
          have p2 : wc.cell? ⟨g7, 2, none⟩ = some (.int .u32 0) := (hn7.at_ (j := 2) (by simp)).1
          have p3 : wc.cell? ⟨g7, 3, none⟩ = some (.int .u32 0) := (hn7.at_ (j := 3) (by simp)).1
          have p4 : wc.cell? ⟨g7, 4, none⟩ = some (.int .u32 0) := (hn7.at_ (j := 4) (by simp)).1
          have p5 : wc.cell? ⟨g7, 5, none⟩ = some (.int .u32 0) := (hn7.at_ (j := 5) (by simp)).1
          have p6 : wc.cell? ⟨g7, 6, none⟩ = some (.int .u32 0) := (hn7.at_ (j := 6) (by simp)).1
          have p7 : wc.cell? ⟨g7, 7, none⟩ = some (.int .u32 0) := (hn7.at_ (j := 7) (by simp)).1
          clear EQ hn7 hb7 hws7 HRES
          go_wp2_with fail
          go_roundw
          case rel => exact ⟨k + 1, x0, x1, x2, x3, x4, x5, x6, x7, by omega, by go_num, HB7, HW7⟩
          case measure => simp [intOf]; omega
        · have hne : ((l.length : Int) != 64) = false := by rw [bne_eq_false_iff_eq]; omega
          have CR := refCompress_any x0 x1 x2 x3 x4 x5 x6 x7 (w := wc) ((HBS0.out.below hb7 (Nat.le_refl _)).more hb7.size) h64
          rw [← hy, h64] at CR
          have HCR : Hid (Calls Try.prog 25 #[.agg #[.int .u32 (x0.toNat : Int), .int .u32 (x1.toNat : Int), .int .u32 (x2.toNat : Int), .int .u32 (x3.toNat : Int), .int .u32 (x4.toNat : Int), .int .u32 (x5.toNat : Int), .int .u32 (x6.toNat : Int), .int .u32 (x7.toNat : Int)], .slice Au 64 cu] wc fun ex w' => ex = .returned (.agg #[.int .u32 (n0.toNat : Int), .int .u32 (n1.toNat : Int), .int .u32 (n2.toNat : Int), .int .u32 (n3.toNat : Int), .int .u32 (n4.toNat : Int), .int .u32 (n5.toNat : Int), .int .u32 (n6.toNat : Int), .int .u32 (n7.toNat : Int)]) ∧ Below wc.heap.size wc w') := CR
          have EQ := eq_words8 n0 n1 n2 n3 n4 n5 n6 n7
          have hgl7 : w.heap.size < wc.heap.size ∧ g7 < wc.heap.size := ⟨(Array.getElem?_eq_some_iff.1 hws7).1, (Array.getElem?_eq_some_iff.1 hn7).1⟩
          have HB7 := Lib.hid hb7; have HW7 := Lib.hid hws7; have HN7 := Lib.hid hn7
          have q0' : wc.cell? ⟨w.heap.size, 0, none⟩ = some (.int .u32 (x0.toNat : Int)) := (hws7.at_ (j := 0) (by simp)).1
          have q1' : wc.cell? ⟨w.heap.size, 1, none⟩ = some (.int .u32 (x1.toNat : Int)) := (hws7.at_ (j := 1) (by simp)).1
          have q2' : wc.cell? ⟨w.heap.size, 2, none⟩ = some (.int .u32 (x2.toNat : Int)) := (hws7.at_ (j := 2) (by simp)).1
          have q3' : wc.cell? ⟨w.heap.size, 3, none⟩ = some (.int .u32 (x3.toNat : Int)) := (hws7.at_ (j := 3) (by simp)).1
          have q4' : wc.cell? ⟨w.heap.size, 4, none⟩ = some (.int .u32 (x4.toNat : Int)) := (hws7.at_ (j := 4) (by simp)).1
          have q5' : wc.cell? ⟨w.heap.size, 5, none⟩ = some (.int .u32 (x5.toNat : Int)) := (hws7.at_ (j := 5) (by simp)).1
          have q6' : wc.cell? ⟨w.heap.size, 6, none⟩ = some (.int .u32 (x6.toNat : Int)) := (hws7.at_ (j := 6) (by simp)).1
          have q7' : wc.cell? ⟨w.heap.size, 7, none⟩ = some (.int .u32 (x7.toNat : Int)) := (hws7.at_ (j := 7) (by simp)).1
          clear CR hn7 hb7 hws7 HRES hy
          go_wp2_with fail
          with_reducible refine (HCR.out).mono ?_
          rintro e8 w8 ⟨rfl, hb8⟩
          have hws8 : Ws w8 w.heap.size 39 [x0, x1, x2, x3, x4, x5, x6, x7] := (hb8.block _ hgl7.1).trans HW7.out
          have hn8 : Ws w8 g7 39 [n0, n1, n2, n3, n4, n5, n6, n7] := (hb8.block _ hgl7.2).trans HN7.out
          have hl8 : w.heap.size < w8.heap.size := Nat.lt_of_lt_of_le hgl7.1 hb8.size
          have hg8 : g7 < w8.heap.size := Nat.lt_of_lt_of_le hgl7.2 hb8.size
          have hbw8 : Below w.heap.size w w8 := HB7.out.trans (hb8.mono HB7.out.size)
          have hwsA : w8.heap[w.heap.size]? = some (.cells #[.int .u32 (x0.toNat : Int), .int .u32 (x1.toNat : Int), .int .u32 (x2.toNat : Int), .int .u32 (x3.toNat : Int), .int .u32 (x4.toNat : Int), .int .u32 (x5.toNat : Int), .int .u32 (x6.toNat : Int), .int .u32 (x7.toNat : Int)] 39 (0, 0)) := hws8
          have hS := setCells_whole (vs := [.int .u32 (n0.toNat : Int), .int .u32 (n1.toNat : Int), .int .u32 (n2.toNat : Int), .int .u32 (n3.toNat : Int), .int .u32 (n4.toNat : Int), .int .u32 (n5.toNat : Int), .int .u32 (n6.toNat : Int), .int .u32 (n7.toNat : Int)]) hwsA rfl
          have hgr := setCells_grown w.heap.size [.int .u32 (n0.toNat : Int), .int .u32 (n1.toNat : Int), .int .u32 (n2.toNat : Int), .int .u32 (n3.toNat : Int), .int .u32 (n4.toNat : Int), .int .u32 (n5.toNat : Int), .int .u32 (n6.toNat : Int), .int .u32 (n7.toNat : Int)] 0 w8
          have hbx := hbw8.grown hgr hbw8.size (fun j hj => by simp only [Option.some.injEq] at hj; omega)
          have hnest : w8.setCells w.heap.size 0 [.int .u32 (n0.toNat : Int), .int .u32 (n1.toNat : Int), .int .u32 (n2.toNat : Int), .int .u32 (n3.toNat : Int), .int .u32 (n4.toNat : Int), .int .u32 (n5.toNat : Int), .int .u32 (n6.toNat : Int), .int .u32 (n7.toNat : Int)] = ((((((((w8.setCell ⟨w.heap.size, 0, none⟩ (.int .u32 (n0.toNat : Int))).setCell ⟨w.heap.size, 1, none⟩ (.int .u32 (n1.toNat : Int))).setCell ⟨w.heap.size, 2, none⟩ (.int .u32 (n2.toNat : Int))).setCell ⟨w.heap.size, 3, none⟩ (.int .u32 (n3.toNat : Int))).setCell ⟨w.heap.size, 4, none⟩ (.int .u32 (n4.toNat : Int))).setCell ⟨w.heap.size, 5, none⟩ (.int .u32 (n5.toNat : Int))).setCell ⟨w.heap.size, 6, none⟩ (.int .u32 (n6.toNat : Int))).setCell ⟨w.heap.size, 7, none⟩ (.int .u32 (n7.toNat : Int))) := rfl
          rw [hnest] at hS hbx
          have HB9 := Lib.hid (hbx.alloc hbx.size (.cells #[.int .u32 (n0.toNat : Int), .int .u32 (n1.toNat : Int), .int .u32 (n2.toNat : Int), .int .u32 (n3.toNat : Int), .int .u32 (n4.toNat : Int), .int .u32 (n5.toNat : Int), .int .u32 (n6.toNat : Int), .int .u32 (n7.toNat : Int)] 39))
          have HW9 : Hid (Ws (((((((((w8.setCell ⟨w.heap.size, 0, none⟩ (.int .u32 (n0.toNat : Int))).setCell ⟨w.heap.size, 1, none⟩ (.int .u32 (n1.toNat : Int))).setCell ⟨w.heap.size, 2, none⟩ (.int .u32 (n2.toNat : Int))).setCell ⟨w.heap.size, 3, none⟩ (.int .u32 (n3.toNat : Int))).setCell ⟨w.heap.size, 4, none⟩ (.int .u32 (n4.toNat : Int))).setCell ⟨w.heap.size, 5, none⟩ (.int .u32 (n5.toNat : Int))).setCell ⟨w.heap.size, 6, none⟩ (.int .u32 (n6.toNat : Int))).setCell ⟨w.heap.size, 7, none⟩ (.int .u32 (n7.toNat : Int))).alloc (.cells #[.int .u32 (n0.toNat : Int), .int .u32 (n1.toNat : Int), .int .u32 (n2.toNat : Int), .int .u32 (n3.toNat : Int), .int .u32 (n4.toNat : Int), .int .u32 (n5.toNat : Int), .int .u32 (n6.toNat : Int), .int .u32 (n7.toNat : Int)] 39)) w.heap.size 39 [n0, n1, n2, n3, n4, n5, n6, n7]) := Lib.hid ((heap_alloc_old _ _ (Array.getElem?_eq_some_iff.1 hS).1).trans hS)
          have p0 : w8.cell? ⟨g7, 0, none⟩ = some (.int .u32 (n0.toNat : Int)) := (hn8.at_ (j := 0) (by simp)).1
          have p1 : w8.cell? ⟨g7, 1, none⟩ = some (.int .u32 (n1.toNat : Int)) := (hn8.at_ (j := 1) (by simp)).1
          have p2 : w8.cell? ⟨g7, 2, none⟩ = some (.int .u32 (n2.toNat : Int)) := (hn8.at_ (j := 2) (by simp)).1
          have p3 : w8.cell? ⟨g7, 3, none⟩ = some (.int .u32 (n3.toNat : Int)) := (hn8.at_ (j := 3) (by simp)).1
          have p4 : w8.cell? ⟨g7, 4, none⟩ = some (.int .u32 (n4.toNat : Int)) := (hn8.at_ (j := 4) (by simp)).1
          have p5 : w8.cell? ⟨g7, 5, none⟩ = some (.int .u32 (n5.toNat : Int)) := (hn8.at_ (j := 5) (by simp)).1
          have p6 : w8.cell? ⟨g7, 6, none⟩ = some (.int .u32 (n6.toNat : Int)) := (hn8.at_ (j := 6) (by simp)).1
          have p7 : w8.cell? ⟨g7, 7, none⟩ = some (.int .u32 (n7.toNat : Int)) := (hn8.at_ (j := 7) (by simp)).1
          have r0 : w8.cell? ⟨w.heap.size, 0, none⟩ = some (.int .u32 (x0.toNat : Int)) := (hws8.at_ (j := 0) (by simp)).1
          have s0' : w8.frozen? ⟨w.heap.size, 0, none⟩ = false := (hws8.at_ (j := 0) (by simp)).2.1
          have r1 : w8.cell? ⟨w.heap.size, 1, none⟩ = some (.int .u32 (x1.toNat : Int)) := (hws8.at_ (j := 1) (by simp)).1
          have s1' : w8.frozen? ⟨w.heap.size, 1, none⟩ = false := (hws8.at_ (j := 1) (by simp)).2.1
          have r2 : w8.cell? ⟨w.heap.size, 2, none⟩ = some (.int .u32 (x2.toNat : Int)) := (hws8.at_ (j := 2) (by simp)).1
          have s2' : w8.frozen? ⟨w.heap.size, 2, none⟩ = false := (hws8.at_ (j := 2) (by simp)).2.1
          have r3 : w8.cell? ⟨w.heap.size, 3, none⟩ = some (.int .u32 (x3.toNat : Int)) := (hws8.at_ (j := 3) (by simp)).1
          have s3' : w8.frozen? ⟨w.heap.size, 3, none⟩ = false := (hws8.at_ (j := 3) (by simp)).2.1
          have r4 : w8.cell? ⟨w.heap.size, 4, none⟩ = some (.int .u32 (x4.toNat : Int)) := (hws8.at_ (j := 4) (by simp)).1
          have s4' : w8.frozen? ⟨w.heap.size, 4, none⟩ = false := (hws8.at_ (j := 4) (by simp)).2.1
          have r5 : w8.cell? ⟨w.heap.size, 5, none⟩ = some (.int .u32 (x5.toNat : Int)) := (hws8.at_ (j := 5) (by simp)).1
          have s5' : w8.frozen? ⟨w.heap.size, 5, none⟩ = false := (hws8.at_ (j := 5) (by simp)).2.1
          have r6 : w8.cell? ⟨w.heap.size, 6, none⟩ = some (.int .u32 (x6.toNat : Int)) := (hws8.at_ (j := 6) (by simp)).1
          have s6' : w8.frozen? ⟨w.heap.size, 6, none⟩ = false := (hws8.at_ (j := 6) (by simp)).2.1
          have r7 : w8.cell? ⟨w.heap.size, 7, none⟩ = some (.int .u32 (x7.toNat : Int)) := (hws8.at_ (j := 7) (by simp)).1
          have s7' : w8.frozen? ⟨w.heap.size, 7, none⟩ = false := (hws8.at_ (j := 7) (by simp)).2.1
          clear hnest hbx hS hgr hwsA hbw8 hn8 hws8 hb8
          go_wp2_with fail
          go_roundw
          case rel =>
            refine ⟨k + 1, n0, n1, n2, n3, n4, n5, n6, n7, by omega, by go_num, ?_, ?_⟩
            · with_reducible exact HB9
            · with_reducible exact HW9
          case measure => simp [intOf]; omega
    · go_wp2
      go_ret
      exact ⟨rfl, hbe.out⟩
end Go.Proofs.Ytpjfmlhchgbijaa
