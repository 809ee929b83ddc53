/- A part is written to a hash. -/
import Derived.Test.YtifgigpflfdmfaaHashL
namespace Go.Proofs.Ytifgigpflfdmfaa
open Go.RowKit

theorem step_copy_own {P : Program} {ops : Array Oper} {o : Oper} {a : Act} {w : World} {K : Act → World → Prop} {Q : Exit → Act → World → Prop} {E : Prop} (hgd : o.guard = none) (d s : Operand) (dT sT : TypeId)
    (ho : o.op = .call { callee := .builtin .copy, args := #[d, s], argTypes := #[dT, sT] }) (elem : TypeId) (hu : P.underlying dT = some (.slice elem)) (hsz : (P.info? elem).map (·.size) = some 1)
    (g off dLen dCap : Nat) (ad : Addr) (sLen sCap : Nat) (hd : a.eval d = .slice (some ⟨g, off, none⟩) dLen dCap) (hs : a.eval s = .slice (some ad) sLen sCap)
    (cur : List Value) (t : TypeId) (hg : w.heap[g]? = some (.cells cur.toArray t (0, 0))) (cs : List Value) (hn : cs.length = Nat.min sLen dLen)
    (hsrc : ∀ j v, cs[j]? = some v → w.cell? (ad.add j) = some v) (hfit : off + cs.length ≤ cur.length) (h1 : ∀ v ∈ cs, v.oneCell' = true)
    (h : ∀ w', Hid (w'.heap[g]? = some (.cells (splice cur off cs).toArray t (0, 0))) → Hid (w.grownBy w' (some g)) → w'.heap.size = w.heap.size → K (a.put o.dst (goInt cs.length)) w') :
    if Region.wanted o (yielded ops a.tmps) = true then Oper.wp P o a w K Q else E := by
  have hw : Region.wanted o (yielded ops a.tmps) = true := by simp [Region.wanted, hgd]
  rw [if_pos hw]
  have hrun := run_copy_row (P := P) w dT sT o.type elem g off dLen dCap ad sLen sCap cur.toArray t cs hu hsz hg hn hsrc (by simpa using hfit) h1
  unfold Oper.wp
  simp [execOp, ho, resolve, invoke, builtin, hd, hs, hrun, Result.andThen]
  refine h _ ?_ ?_ (by simp)
  · show _ = _
    simpa [splice] using setRow_heap w g _ _ t _ hg
  · exact ⟨rfl, rfl, rfl, by simp, fun j _ hj => setRow_other w g j _ (fun e => hj (by rw [e]))⟩
theorem splice_rest (st : List UInt32) (rest Q : List UInt8) (n : Nat) (ex : List Value) (r : Nat) (hs : st.length = 8) (hr : r + Q.length ≤ rest.length) :
    splice (cellsH st rest n ex) (8 + r) (Q.map vb) = cellsH st (layR rest Q r) n ex := by
  have h8 : (st.map vw).length = 8 := by simpa using hs
  have e1 : (cellsH st rest n ex).take (8 + r) = st.map vw ++ (rest.take r).map vb := by
    rw [cellsH, List.take_append, h8, List.take_of_length_le (by omega), Nat.add_sub_cancel_left, List.take_append_of_le_length (by simp; omega), List.map_take]
  have e2 : (cellsH st rest n ex).drop (8 + r + Q.length) = (rest.drop (r + Q.length)).map vb ++ (.int .i64 (n : Int) :: ex) := by
    rw [cellsH, List.drop_append, h8, List.drop_of_length_le (by omega), List.nil_append, show 8 + r + Q.length - 8 = r + Q.length by omega, List.drop_append_of_le_length (by simp; omega), List.map_drop]
  rw [splice, List.length_map, e1, e2, cellsH, layR]
  simp
theorem setCells_midT {g : Nat} {t : TypeId} (z : List Value) : ∀ (vs p r : List Value) (w : World), r.length = vs.length → w.heap[g]? = some (.cells (p ++ (r ++ z)).toArray t (0, 0)) →
    (w.setCells g p.length vs).heap[g]? = some (.cells (p ++ (vs ++ z)).toArray t (0, 0))
  | [], p, r, w, hl, h => by
    obtain rfl : r = [] := List.eq_nil_of_length_eq_zero hl
    exact h
  | v :: vs, p, [], w, hl, h => by simp at hl
  | v :: vs, p, x :: r, w, hl, h => by
    have h1 := heap_setCell_same w g p.length _ _ v h
    have h2 : ((p ++ (x :: r ++ z)).toArray.setIfInBounds p.length v) = ((p ++ [v]) ++ (r ++ z)).toArray := by simp
    rw [h2] at h1
    have h3 := setCells_midT z vs (p ++ [v]) r _ (by simpa using hl) h1
    simpa [World.setCells] using h3
theorem Hat.setState {w : World} {g : Nat} {T : TypeId} {ex : List Value} {st : List UInt32} {rest : List UInt8} {n : Nat} (h : Hat w g T ex st rest n) (st' : List UInt32) (hl : st'.length = 8) :
    Hat (w.setCells g 0 (st'.map vw)) g T ex st' rest n :=
  ⟨setCells_midT (rest.map vb ++ (.int .i64 (n : Int) :: ex)) (st'.map vw) [] (st.map vw) w (by simp [hl, h.ls]) h.row, hl, h.lr⟩
/-- a hash in memory that was written L -/
def Hashed (w : World) (g : Nat) (T : TypeId) (ex : List Value) (L : List UInt8) : Prop := ∃ st rest, Hat w g T ex st rest L.length ∧ HashOf L st rest
theorem Hashed.lt {w : World} {g : Nat} {T : TypeId} {ex : List Value} {L : List UInt8} (h : Hashed w g T ex L) : g < w.heap.size := by
  obtain ⟨_, _, h, _⟩ := h
  exact h.lt
theorem Hashed.below {w w' : World} {B g : Nat} {T : TypeId} {ex : List Value} {L : List UInt8} (h : Hashed w g T ex L) (hb : Below B w w') (hB : g < B) : Hashed w' g T ex L := by
  obtain ⟨st, rest, h1, h2⟩ := h
  exact ⟨st, rest, h1.below hb hB, h2⟩
theorem Hashed.grown {w w' : World} {r : Option Nat} {g : Nat} {T : TypeId} {ex : List Value} {L : List UInt8} (h : Hashed w g T ex L) (hb : w.grownBy w' r) (hr : r ≠ some g) : Hashed w' g T ex L := by
  obtain ⟨st, rest, h1, h2⟩ := h
  exact ⟨st, rest, h1.grown hb hr, h2⟩
theorem grown_of_below {w w' : World} (hb : Below w.heap.size w w') (r : Option Nat) : w.grownBy w' r := ⟨hb.os, hb.tape, hb.output, hb.size, fun k hk _ => hb.block k hk⟩
theorem modT (n : Nat) : (n : Int).tmod 64 = ((n % 64 : Nat) : Int) := by
  rw [Int.tmod_eq_emod_of_nonneg (Int.natCast_nonneg n)]
  exact (Int.natCast_emod n 64).symm

theorem arr64 : Try.prog.underlying 37 = some (.array (Try.prog.arrayLen 37) (Try.prog.elem 37)) := by kernel_rfl
theorem len64 : Try.prog.arrayLen 37 = 64 := by kernel_rfl
theorem elem64 : Try.prog.elem 37 = 5 := by kernel_rfl
/-- x[r:] of an array of 64 bytes in a field -/
theorem cut_arr {g o r : Nat} (h : r < 64) (W : World) : (Instr.sliceAt 37 (.pointer (some ⟨g, o, none⟩)) (some (.int .i64 (r : Int))) none none).run Try.prog W = .ok (.slice (some ⟨g, o + r, none⟩) (64 - r) (64 - r)) W := by
  rw [run_sliceAt_array_l _ _ _ arr64 _ _ (by omega) (by rw [len64]; omega), elem64, u8sizeOf, len64]
  simp only [Result.andThen, slicedAt, Int.toNat_natCast, Nat.mul_one, Addr.add_lit]
  rw [if_neg (by omega)]
/-- x[:] -/
theorem cut_arr_all {g o : Nat} (W : World) : (Instr.sliceAt 37 (.pointer (some ⟨g, o, none⟩)) none none none).run Try.prog W = .ok (.slice (some ⟨g, o, none⟩) 64 64) W := by
  rw [run_sliceAt_array_all _ _ _ arr64, elem64, u8sizeOf, len64]
  simp [Result.andThen, slicedAt, Addr.add_lit]

set_option maxRecDepth 8000 in
set_option maxHeartbeats 3200000 in
theorem add_any {w : World} {g B : Nat} {T : TypeId} {ex : List Value} {L P : List UInt8} {v : Value} (h : Hashed w g T ex L) (hb : Bs w B v P) (hap : 0 < P.length → v.ownBlock ≠ some g) (hlen : L.length + P.length ≤ 1152921504606846975) :
    Calls Try.prog 46 #[.pointer (some ⟨g, 0, none⟩), v] w fun e w' => e = .returned (.tuple #[]) ∧ Hashed w' g T ex (L ++ P) ∧ w.grownBy w' (some g) := by
  obtain ⟨A, c, rfl, hc1, hc2, hcell⟩ := hb
  have HCELL := Lib.hid hcell
  have HAP := Lib.hid hap
  unfold maxLen at hc2
  clear hcell hap
  go_enter Try.func46, Try.ntmps46
  go_wp2_with fail
  go_loopw [1] (fun t1 wr => ∃ (k : Nat) (D : Option Addr), k ≤ P.length ∧ t1 = .slice D (P.length - k) (c - k) ∧ Hid (k < P.length → D = A.map (·.add k)) ∧ Hid (Hashed wr g T ex (L ++ P.take k)) ∧ Hid (w.grownBy wr (some g))) (fun t1 _ => match t1 with | .slice _ n _ => n | _ => 0)
  case atStart => exact ⟨0, A, Nat.zero_le _, by simp, Lib.hid (fun _ => by cases A <;> simp [Addr.add]), by rw [List.take_zero, List.append_nil]; exact Lib.hid h, Lib.hid (World.grownBy.refl _ _)⟩
  case round =>
    obtain ⟨k, D, hk, rfl, hD, hH, hG⟩ := hrel
    clear h
    by_cases hlt : k < P.length
    · obtain ⟨b, off, rfl, _, hcc⟩ := HCELL.out (by omega)
      have hbg : b ≠ g := fun e => HAP.out (by omega) (by simp [Value.ownBlock, e])
      have hD' := hD.out hlt
      simp only [Option.map_some, Addr.add_lit] at hD'
      subst hD'
      obtain ⟨st, rest, H, HO⟩ := hH.out
      obtain ⟨L', hL'⟩ : ∃ L', L' = L ++ P.take k := ⟨_, rfl⟩
      have hn : (L ++ P.take k).length = L.length + k := by simp; omega
      rw [hn] at H
      obtain ⟨n, hnn⟩ : ∃ n, n = L.length + k := ⟨_, rfl⟩
      rw [← hnn] at H
      obtain ⟨r, hr⟩ : ∃ r, r = n % 64 := ⟨_, rfl⟩
      obtain ⟨m, hm⟩ : ∃ m, m = Nat.min (P.length - k) (64 - r) := ⟨_, rfl⟩
      have hmle : m ≤ P.length - k ∧ m ≤ 64 - r ∧ 0 < m ∧ r < 64 ∧ (m = P.length - k ∨ m = 64 - r) := by
        have : r < 64 := by omega
        rcases Nat.le_total (P.length - k) (64 - r) with h' | h'
        · rw [show Nat.min (P.length - k) (64 - r) = P.length - k from Nat.min_eq_left h'] at hm; omega
        · rw [show Nat.min (P.length - k) (64 - r) = 64 - r from Nat.min_eq_right h'] at hm; omega
      obtain ⟨x0, x1, x2, x3, x4, x5, x6, x7, hch⟩ := words8 (chainL_len (n := n) H.ls)
      have CH : Calls Try.prog 65 #[.pointer (some ⟨g, 0, none⟩)] wr fun e w' => e = .returned (.agg #[.int .u32 (x0.toNat : Int), .int .u32 (x1.toNat : Int), .int .u32 (x2.toNat : Int), .int .u32 (x3.toNat : Int), .int .u32 (x4.toNat : Int), .int .u32 (x5.toNat : Int), .int .u32 (x6.toNat : Int), .int .u32 (x7.toNat : Int)]) ∧ Below wr.heap.size wr w' := by
        have h := chain_any H (by omega)
        rw [hch] at h
        exact h
      have HCH := Lib.hid CH
      clear CH
      have HCHN := Lib.hid hch; have HN := Lib.hid hn; have HNN := Lib.hid hnn; have HR := Lib.hid hr; have HM := Lib.hid hm; have HL := Lib.hid hL'
      clear hch hn hnn hr hm hL' hD hH
      have hd0 : decide (0 < P.length - k) = true := by simp; omega
      go_wp2_with fail
      refine (HCH.out).mono ?_
      rintro e w1 ⟨rfl, hb1⟩
      have hb2 : Below wr.heap.size wr (w1.alloc (.cells #[.int .u32 (x0.toNat : Int), .int .u32 (x1.toNat : Int), .int .u32 (x2.toNat : Int), .int .u32 (x3.toNat : Int), .int .u32 (x4.toNat : Int), .int .u32 (x5.toNat : Int), .int .u32 (x6.toNat : Int), .int .u32 (x7.toNat : Int)] 36)) := hb1.alloc hb1.size _
      have H2 := H.below hb2 H.lt
      have hrow : (w1.alloc (.cells #[.int .u32 (x0.toNat : Int), .int .u32 (x1.toNat : Int), .int .u32 (x2.toNat : Int), .int .u32 (x3.toNat : Int), .int .u32 (x4.toNat : Int), .int .u32 (x5.toNat : Int), .int .u32 (x6.toNat : Int), .int .u32 (x7.toNat : Int)] 36)).heap[w1.heap.size]? = some (.cells #[.int .u32 (x0.toNat : Int), .int .u32 (x1.toNat : Int), .int .u32 (x2.toNat : Int), .int .u32 (x3.toNat : Int), .int .u32 (x4.toNat : Int), .int .u32 (x5.toNat : Int), .int .u32 (x6.toNat : Int), .int .u32 (x7.toNat : Int)] 36 (0, 0)) := heap_alloc_new w1 _
      have hg1 : g < w1.heap.size := Nat.lt_of_lt_of_le H.lt hb1.size
      obtain ⟨W2, hW2⟩ : ∃ W2, W2 = w1.alloc (.cells #[.int .u32 (x0.toNat : Int), .int .u32 (x1.toNat : Int), .int .u32 (x2.toNat : Int), .int .u32 (x3.toNat : Int), .int .u32 (x4.toNat : Int), .int .u32 (x5.toNat : Int), .int .u32 (x6.toNat : Int), .int .u32 (x7.toNat : Int)] 36) := ⟨_, rfl⟩
      go_wp2_with fail
      rw [← hW2]
      rw [← hW2] at hb2 H2 hrow
      clear hW2
      have d72 : W2.drew.cell? ⟨g, 72, none⟩ = some (.int .i64 (n : Int)) := H2.size.1
      have hmod : (n : Int).tmod 64 = (r : Int) := by rw [HR.out]; exact modT n
      have r0 : (0 : Int) ≤ (r : Int) := Int.natCast_nonneg _
      have r1 : (r : Int) < 64 := by omega
      have cutA : ∀ W, (Instr.sliceAt 37 (.pointer (some ⟨g, 8, none⟩)) (some (.int .i64 (r : Int))) none none).run Try.prog W = .ok (.slice (some ⟨g, 8 + r, none⟩) (64 - r) (64 - r)) W := fun W => cut_arr (by omega) W
      obtain ⟨Qb, hQb⟩ : ∃ Qb, Qb = (P.drop k).take m := ⟨_, rfl⟩
      have hQl : Qb.length = m := by rw [hQb]; simp; omega
      have hsrc : Hid (∀ j v, (Qb.map vb)[j]? = some v → W2.drew.cell? ((⟨b, off + k, none⟩ : Addr).add j) = some v) := by
        show ∀ j v, _ → _
        intro j v hv
        rw [List.getElem?_map] at hv
        obtain ⟨z, hz, rfl⟩ := Option.map_eq_some_iff.1 hv
        obtain ⟨hj, hz2⟩ := List.getElem?_eq_some_iff.1 hz
        rw [hQl] at hj
        have hz3 : z = P[k + j] := by rw [← hz2]; simp [hQb]
        have h1 := hcc (k + j) (by omega)
        have h2 := hG.out.cell h1 (by simpa using hbg)
        have h3 := (hb2.cell (p := ⟨b, off + (k + j), none⟩) (World.block_lt_of_cell? wr _ h2)).trans h2
        rw [add_none, Nat.add_assoc, hz3]
        exact h3
      have HQ := Lib.hid hQb; have HQL := Lib.hid hQl
      clear hQb hQl
      go_region_law (refine step_copy_own rfl (.tmp 19) (.tmp 20) 22 22 rfl 5 Try.underlying22 u8size g (8 + r) (64 - r) (64 - r) ⟨b, off + k, none⟩ (P.length - k) (c - k) rfl rfl (cellsH st rest n ex) T H2.row (Qb.map vb) (by rw [List.length_map, HQL.out]; exact HM.out) hsrc.out (by simp [cellsH, H.ls, H.lr, HQL.out]; omega) (vb_one _) ?_; intro w4 hg4 hgr4 hsz4)
      rw [HQL.out]
      have H4 : Hat w4 g T ex st (layR rest Qb r) n := by
        refine ⟨?_, H.ls, ?_⟩
        · rw [← splice_rest st rest Qb n ex r H.ls (by rw [HQL.out, H.lr]; omega)]
          exact hg4.out
        · rw [layR_len (by rw [HQL.out, H.lr]; omega)]; exact H.lr
      have e72 := H4.size.1
      have f72 := H4.size.2
      obtain ⟨D2, hD2, hcut⟩ := cut_l (A := some ⟨b, off + k, none⟩) (n := P.length - k) (c := c - k) (l := m) hmle.1 (by omega)
      have n0 : (0 : Int) ≤ (n : Int) := Int.natCast_nonneg _
      have m0 : (0 : Int) ≤ (m : Int) := Int.natCast_nonneg _
      have n1 : (n : Int) ≤ 1152921504606846975 := by rw [HNN.out]; omega
      have m1 : (m : Int) ≤ 64 := by omega
      have H5 : Hat (w4.setCell ⟨g, 72, none⟩ (.int .i64 ((n : Int) + (m : Int)))) g T ex st (layR rest Qb r) (n + m) := by
        refine ⟨?_, H4.ls, H4.lr⟩
        rw [heap_setCell_same w4 g 72 _ _ _ H4.row]
        congr 2
        have h8 : (st.map vw).length = 8 := by simpa using H4.ls
        have h64 : ((layR rest Qb r).map vb).length = 64 := by simpa using H4.lr
        have hset : (cellsH st (layR rest Qb r) n ex).set 72 (.int .i64 ((n : Int) + (m : Int))) = cellsH st (layR rest Qb r) (n + m) ex := by
          rw [cellsH, List.set_append_right _ _ (by omega), h8, List.set_append_right _ _ (by omega), h64]
          simp [cellsH]
        rw [← hset]
        simp
      have HD2 := Lib.hid hD2
      clear hD2 d72 hmod cutA
      have hbk : Hid (∀ w', w4.grownBy w' (some g) → w.grownBy w' (some g)) := Lib.hid (fun w' hw' => (((hG.out.trans (grown_of_below hb2 (some g))).trans ⟨hgr4.out.os, hgr4.out.tape, hgr4.out.output, hgr4.out.size, hgr4.out.block⟩).trans hw'))
      have hHO : HashOf L' st rest := by rw [HL.out]; exact HO
      have hL'n : L'.length = n := by rw [HL.out, HNN.out]; exact HN.out
      have htake : L ++ P.take (k + m) = L' ++ Qb := by
        rw [HL.out, HQ.out, List.append_assoc, ← List.take_add]
      have hmeas : (P.length - k - m) < P.length - k := by omega
      have hsub : P.length - k - m = P.length - (k + m) ∧ c - k - m = c - (k + m) := by omega
      have hDD : Hid (k + m < P.length → D2 = (some ⟨b, off, none⟩ : Option Addr).map (·.add (k + m))) := by
        show _ → _
        intro hkm
        rw [HD2.out (by omega)]
        simp [Addr.add_lit, Nat.add_assoc]
      have HTK := Lib.hid htake; have HSU := Lib.hid hsub
      clear htake hsub
      by_cases hful : r + m = 64
      · have hq : (((n : Int) + (m : Int)) % 64 == 0) = true := by
          rw [beq_iff_eq]
          have := HR.out
          omega
        obtain ⟨W5, hW5⟩ : ∃ W5, W5 = w4.setCell ⟨g, 72, none⟩ (.int .i64 ((n : Int) + (m : Int))) := ⟨_, rfl⟩
        have hrow5 : (w4.setCell ⟨g, 72, none⟩ (.int .i64 ((n : Int) + (m : Int)))).heap[w1.heap.size]? = some (.cells #[.int .u32 (x0.toNat : Int), .int .u32 (x1.toNat : Int), .int .u32 (x2.toNat : Int), .int .u32 (x3.toNat : Int), .int .u32 (x4.toNat : Int), .int .u32 (x5.toNat : Int), .int .u32 (x6.toNat : Int), .int .u32 (x7.toNat : Int)] 36 (0, 0)) :=
          (Below.heap_setCell w4 ⟨g, 72, none⟩ _ w1.heap.size (by show w1.heap.size ≠ g; omega)).trans ((hgr4.out.block w1.heap.size (Array.getElem?_eq_some_iff.1 hrow).1 (by simp; omega)).trans hrow)
        have hg5 : w4.grownBy (w4.setCell ⟨g, 72, none⟩ (.int .i64 ((n : Int) + (m : Int)))) (some g) := setCell_grown _ _ _ _
        go_wp2_with fail
        rw [← hW5]
        rw [← hW5] at H5 hrow5 hg5
        clear hW5
        have r0' : W5.drew.cell? ⟨w1.heap.size, 0, none⟩ = some (.int .u32 (x0.toNat : Int)) := by
          show W5.cell? _ = _
          rw [cell_of_row _ _ 0 _ _ _ hrow5]; rfl
        have r1' : W5.drew.cell? ⟨w1.heap.size, 1, none⟩ = some (.int .u32 (x1.toNat : Int)) := by
          show W5.cell? _ = _
          rw [cell_of_row _ _ 1 _ _ _ hrow5]; rfl
        have r2' : W5.drew.cell? ⟨w1.heap.size, 2, none⟩ = some (.int .u32 (x2.toNat : Int)) := by
          show W5.cell? _ = _
          rw [cell_of_row _ _ 2 _ _ _ hrow5]; rfl
        have r3' : W5.drew.cell? ⟨w1.heap.size, 3, none⟩ = some (.int .u32 (x3.toNat : Int)) := by
          show W5.cell? _ = _
          rw [cell_of_row _ _ 3 _ _ _ hrow5]; rfl
        have r4' : W5.drew.cell? ⟨w1.heap.size, 4, none⟩ = some (.int .u32 (x4.toNat : Int)) := by
          show W5.cell? _ = _
          rw [cell_of_row _ _ 4 _ _ _ hrow5]; rfl
        have r5' : W5.drew.cell? ⟨w1.heap.size, 5, none⟩ = some (.int .u32 (x5.toNat : Int)) := by
          show W5.cell? _ = _
          rw [cell_of_row _ _ 5 _ _ _ hrow5]; rfl
        have r6' : W5.drew.cell? ⟨w1.heap.size, 6, none⟩ = some (.int .u32 (x6.toNat : Int)) := by
          show W5.cell? _ = _
          rw [cell_of_row _ _ 6 _ _ _ hrow5]; rfl
        have r7' : W5.drew.cell? ⟨w1.heap.size, 7, none⟩ = some (.int .u32 (x7.toNat : Int)) := by
          show W5.cell? _ = _
          rw [cell_of_row _ _ 7 _ _ _ hrow5]; rfl
        have cutB : ∀ W, (Instr.sliceAt 37 (.pointer (some ⟨g, 8, none⟩)) none none none).run Try.prog W = .ok (.slice (some ⟨g, 8, none⟩) 64 64) W := fun W => cut_arr_all W
        obtain ⟨y0, y1, y2, y3, y4, y5, y6, y7, hy⟩ := words8 (compL_len (s := [x0, x1, x2, x3, x4, x5, x6, x7]) rfl (layR rest Qb r))
        have CC : Hid (Calls Try.prog 66 #[.agg #[.int .u32 (x0.toNat : Int), .int .u32 (x1.toNat : Int), .int .u32 (x2.toNat : Int), .int .u32 (x3.toNat : Int), .int .u32 (x4.toNat : Int), .int .u32 (x5.toNat : Int), .int .u32 (x6.toNat : Int), .int .u32 (x7.toNat : Int)], .slice (some ⟨g, 8, none⟩) 64 64] W5.drew fun ex w' => ex = .returned (.agg #[.int .u32 (y0.toNat : Int), .int .u32 (y1.toNat : Int), .int .u32 (y2.toNat : Int), .int .u32 (y3.toNat : Int), .int .u32 (y4.toNat : Int), .int .u32 (y5.toNat : Int), .int .u32 (y6.toNat : Int), .int .u32 (y7.toNat : Int)]) ∧ Below W5.heap.size W5 w') := by
          show Calls _ _ _ _ _
          have h := compress_any x0 x1 x2 x3 x4 x5 x6 x7 (w := W5.drew) (l := layR rest Qb r) H5.drew.bs H5.lr
          rw [hy] at h
          exact h.mono fun _ _ hh => ⟨hh.1, ⟨hh.2.os, hh.2.tape, hh.2.output, hh.2.size, hh.2.block⟩⟩
        have hHOf := hHO.full (Q := Qb) H.lr (by rw [hL'n, HQL.out, ← HR.out]; exact hful)
        rw [hL'n, ← HR.out, HCHN.out, hy] at hHOf
        have HY := Lib.hid hHOf
        have hg5lt : g < W5.heap.size := H5.lt
        clear hy hHOf hHO H4 H2 H HO hrow hgr4 e72 f72
        go_region_with (go_at_call 66; refine (CC.out).mono ?_; rintro ex6 w6 ⟨rfl, hb6⟩; have H6 := H5.below hb6 hg5lt; have z0 := (H6.word (j := 0) (by omega)).1; have f0 := (H6.word (j := 0) (by omega)).2; have z1 := (H6.word (j := 1) (by omega)).1; have f1 := (H6.word (j := 1) (by omega)).2; have z2 := (H6.word (j := 2) (by omega)).1; have f2 := (H6.word (j := 2) (by omega)).2; have z3 := (H6.word (j := 3) (by omega)).1; have f3 := (H6.word (j := 3) (by omega)).2; have z4 := (H6.word (j := 4) (by omega)).1; have f4 := (H6.word (j := 4) (by omega)).2; have z5 := (H6.word (j := 5) (by omega)).1; have f5 := (H6.word (j := 5) (by omega)).2; have z6 := (H6.word (j := 6) (by omega)).1; have f6 := (H6.word (j := 6) (by omega)).2; have z7 := (H6.word (j := 7) (by omega)).1; have f7 := (H6.word (j := 7) (by omega)).2)
        all_goals
          have hS := H6.setState [y0, y1, y2, y3, y4, y5, y6, y7] rfl
          have hnew : Hashed (w6.setCells g 0 [.int .u32 (y0.toNat : Int), .int .u32 (y1.toNat : Int), .int .u32 (y2.toNat : Int), .int .u32 (y3.toNat : Int), .int .u32 (y4.toNat : Int), .int .u32 (y5.toNat : Int), .int .u32 (y6.toNat : Int), .int .u32 (y7.toNat : Int)]) g T ex (L' ++ Qb) := ⟨_, _, by rw [List.length_append, hL'n, HQL.out]; exact hS, HY.out⟩
          have HNEW := Lib.hid hnew
          have hgF : Hid (w.grownBy (w6.setCells g 0 [.int .u32 (y0.toNat : Int), .int .u32 (y1.toNat : Int), .int .u32 (y2.toNat : Int), .int .u32 (y3.toNat : Int), .int .u32 (y4.toNat : Int), .int .u32 (y5.toNat : Int), .int .u32 (y6.toNat : Int), .int .u32 (y7.toNat : Int)]) (some g)) := Lib.hid (hbk.out _ ((hg5.trans (grown_of_below hb6 (some g))).trans (setCells_grown g _ 0 w6)))
          clear hnew hS H6 hb6 z0 f0 z1 f1 z2 f2 z3 f3 z4 f4 z5 f5 z6 f6 z7 f7
          go_wp2_with fail
          go_roundw
          case rel => exact ⟨k + m, D2, by omega, by rw [← HSU.out.1, ← HSU.out.2], hDD, by rw [HTK.out]; exact HNEW, hgF⟩
          case measure => exact hmeas
      · have hq : (((n : Int) + (m : Int)) % 64 == 0) = false := by
          rw [beq_eq_false_iff_ne]
          have := HR.out
          omega
        have hnew : Hashed (w4.setCell ⟨g, 72, none⟩ (.int .i64 ((n : Int) + (m : Int)))) g T ex (L' ++ Qb) := by
          refine ⟨st, layR rest Qb r, ?_, ?_⟩
          · rw [List.length_append, hL'n, HQL.out]; exact H5
          · have h := hHO.more (Q := Qb) H.lr (by rw [hL'n, HQL.out, ← HR.out]; omega)
            rw [hL'n, ← HR.out] at h
            exact h
        have HNEW := Lib.hid hnew
        clear hnew hHO hL'n H5 H4 H2 H HO hrow hgr4
        go_wp2_with fail
        go_roundw
        case rel => exact ⟨k + m, D2, by omega, by rw [← HSU.out.1, ← HSU.out.2], hDD, by rw [HTK.out]; exact HNEW, Lib.hid (hbk.out _ (setCell_grown _ _ _ _))⟩
        case measure => exact hmeas
    · have hkk : k = P.length := by omega
      have hd0 : decide (0 < P.length - k) = false := by simp; omega
      have hfin : Hid (Hashed wr g T ex (L ++ P)) := by
        have h := hH.out
        rw [hkk, List.take_of_length_le (Nat.le_refl _)] at h
        exact h
      clear hH hkk
      go_wp2
      go_end0
      exact ⟨rfl, hfin.out, hG.out⟩
end Go.Proofs.Ytifgigpflfdmfaa
