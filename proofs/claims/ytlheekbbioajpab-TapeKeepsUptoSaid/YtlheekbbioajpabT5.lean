/- The clock's remove and Due. -/
import Derived.Test.YtlheekbbioajpabT4
namespace Go.Proofs.Ytlheekbbioajpab
open Go.RowKit

theorem tcut_lh {g o l n : Nat} (hl : l ≤ n) (h : n ≤ 64) : ∃ A, (l < n → A = ⟨g, o + l * 2, none⟩) ∧ ∀ W, (Instr.sliceAt 49 (.pointer (some ⟨g, o, none⟩)) (some (.int .i64 (l : Int))) (some (.int .i64 (n : Int))) none).run Try.prog W = .ok (.slice (some A) (n - l) (64 - l)) W := by
  refine ⟨if 64 = l then ⟨g, o, none⟩ else ⟨g, o + l * 2, none⟩, fun hlt => if_neg (by omega), fun W => ?_⟩
  rw [run_sliceAt_array_lh _ _ _ tarr _ _ _ _ (by omega) (by omega) (by rw [tlen]; omega), telem, tsizeOf, tlen]
  simp [Result.andThen, slicedAt, Addr.add_lit]
theorem tsl : Try.prog.underlying 101 = some (.slice 48) := by kernel_rfl
theorem tsz : (Try.prog.info? 48).map (·.size) = some 2 := by kernel_rfl

/-- copy(d, s) of elements of two cells -/
theorem run_copy2 {P : Program} (w : World) (dT sT ty elem : TypeId) (g o dLen dCap : Nat) (dA : Addr) (a : Addr) (sLen sCap : Nat) (cur : List Value) (t : TypeId) (cs : List Value)
    (hu : P.underlying dT = some (.slice elem)) (hs : (P.info? elem).map (·.size) = some 2)
    (hg : w.heap[g]? = some (.cells cur.toArray t (0, 0))) (hn : cs.length = Nat.min sLen dLen * 2) (hd : 0 < cs.length → dA = ⟨g, o, none⟩)
    (hsrc : ∀ j v, cs[j]? = some v → w.cell? (a.add j) = some v) (hfit : o + cs.length ≤ cur.length) (h1 : ∀ v ∈ cs, v.oneCell' = true) :
    ∃ w', (Builtin.copy_ #[dT, sT] ty #[.slice (some dA) dLen dCap, .slice (some a) sLen sCap]).run P w = .ok (goInt (Nat.min sLen dLen)) w' ∧
      w'.heap[g]? = some (.cells (splice cur o cs).toArray t (0, 0)) ∧ w.grownBy w' (some g) := by
  have hl := run_loadCells_list (P := P) w a cs hsrc
  cases hq : P.info? elem with
  | none => simp [hq] at hs
  | some i =>
    have hi : i.size = 2 := by simpa [hq] using hs
    by_cases h0 : cs.length = 0
    · obtain rfl : cs = [] := List.eq_nil_of_length_eq_zero h0
      have hm : Nat.min sLen dLen = 0 := by simp only [List.length_nil] at hn; omega
      refine ⟨w, ?_, by simpa [splice] using hg, World.grownBy.refl w _⟩
      simp [Builtin.copy_, run_underlying hu, Builtin.lenOf, Builtin.firstCells, sizeOf, typeInfo, hq, hm, storeCells, loadCells, loadCellsFrom]
    · obtain rfl := hd (by omega)
      have hst := run_storeCells_at P g o t cs 0 cur.toArray w hg (by simpa using hfit) h1
      refine ⟨w.setRow g (splice cur o cs).toArray, ?_, setRow_heap w g cur.toArray _ t _ hg, ⟨rfl, rfl, rfl, by simp [World.setRow], fun k hk hne => setRow_other w g k _ (fun e => hne (by rw [e]))⟩⟩
      simp [Builtin.copy_, run_underlying hu, Builtin.lenOf, Builtin.firstCells, sizeOf, typeInfo, hq, hi, ← hn, hl, hst, splice]
theorem wpList_copy2 {P : Program} {w : World} {ops : Array Oper} {rest : List Oper} {o : Oper} {a : Act} {Q : Exit → Act → World → Prop} (hgd : o.guard = none) (d s : Operand) (dT sT : TypeId)
    (ho : o.op = .call { callee := .builtin .copy, args := #[d, s], argTypes := #[dT, sT] }) (elem : TypeId) (hu : P.underlying dT = some (.slice elem)) (hsz : (P.info? elem).map (·.size) = some 2)
    (dA sA : Addr) (dLen dCap sLen sCap : Nat) (hd : a.eval d = .slice (some dA) dLen dCap) (hs : a.eval s = .slice (some sA) sLen sCap)
    (g off : Nat) (cur : List Value) (t : TypeId) (hg : w.heap[g]? = some (.cells cur.toArray t (0, 0))) (cs : List Value) (hn : cs.length = Nat.min sLen dLen * 2)
    (hpos : 0 < cs.length → dA = ⟨g, off, none⟩) (hsrc : ∀ j v, cs[j]? = some v → w.cell? (sA.add j) = some v)
    (hfit : off + cs.length ≤ cur.length) (h1 : ∀ v ∈ cs, v.oneCell' = true)
    (h : ∀ w', w'.heap[g]? = some (.cells (splice cur off cs).toArray t (0, 0)) → w.grownBy w' (some g) → wpList P ops Q rest (a.put o.dst (goInt (Nat.min sLen dLen))) w') :
    wpList P ops Q (o :: rest) a w := by
  refine wpList_plain hgd fun K hK => ?_
  obtain ⟨w', hrun, h2, h3⟩ := run_copy2 (P := P) w dT sT o.type elem g off dLen dCap dA sA sLen sCap cur t cs hu hsz hg hn hpos hsrc hfit h1
  unfold Oper.wp
  simp [execOp, ho, resolve, invoke, builtin, hd, hs, hrun, Result.andThen]
  exact hK _ _ (h w' h2 h3)

theorem flat2_take : ∀ (xs : List (Value × Value)) (i : Nat), flat2 (xs.take i) = (flat2 xs).take (i * 2)
  | [], i => by simp [flat2]
  | (a, b) :: r, 0 => by simp [flat2]
  | (a, b) :: r, i + 1 => by
    have e : (i + 1) * 2 = i * 2 + 1 + 1 := by omega
    rw [List.take_succ_cons, flat2, flat2_take r i, e]
    rfl
theorem flat2_drop : ∀ (xs : List (Value × Value)) (i : Nat), flat2 (xs.drop i) = (flat2 xs).drop (i * 2)
  | [], i => by simp [flat2]
  | (a, b) :: r, 0 => by simp [flat2]
  | (a, b) :: r, i + 1 => by
    have e : (i + 1) * 2 = i * 2 + 1 + 1 := by omega
    rw [List.drop_succ_cons, flat2_drop r i, e]
    rfl
theorem tv_erase (ts : List (Int × Int)) (i : Nat) : tv (ts.eraseIdx i) = (tv ts).take i ++ (tv ts).drop (i + 1) := by
  rw [List.eraseIdx_eq_take_drop_succ]
  simp [tv]
/-- a timer taken out: what the cells are behind it -/
theorem Clk.erase {w w1 : World} {g o i m : Nat} {T : TypeId} {cs src : List Value} {now : Int} {ts : List (Int × Int)} (h : Clk w g T o cs now ts) (hi : i < ts.length) (hn : m + 1 = ts.length) (hsrc : src = (cs.drop (o + 1 + (i + 1) * 2)).take ((m - i) * 2))
    (h1 : w1.heap[g]? = some (.cells (splice cs (o + 1 + i * 2) src).toArray T (0, 0))) (hg : w.grownBy w1 (some g)) :
    ClkOut w g T o cs now (ts.eraseIdx i) (((w1.setCell ⟨g, o + 129, none⟩ (.int .i64 (m : Int))).setCell ⟨g, o + 1 + m * 2, none⟩ (.int .i64 0)).setCell ⟨g, o + 1 + m * 2 + 1, none⟩ (.int .i64 0)).drew := by
  have hr := h.room
  have hl := h.len
  have hlen : src.length = (m - i) * 2 := by rw [hsrc, List.length_take, List.length_drop]; omega
  have hsl : (splice cs (o + 1 + i * 2) src).length = cs.length := length_splice _ _ _ (by omega)
  have hat : ∀ j, j < i * 2 ∨ m * 2 ≤ j → (splice cs (o + 1 + i * 2) src)[o + 1 + j]? = cs[o + 1 + j]? := by
    intro j hj
    unfold splice
    rcases hj with hj | hj
    · rw [List.getElem?_append_left (by rw [List.length_take]; omega), List.getElem?_take, if_pos (by omega)]
    · rw [List.getElem?_append_right (by rw [List.length_take]; omega), List.getElem?_append_right (by rw [List.length_take, hlen]; omega), List.getElem?_drop, List.length_take]
      congr 1
      omega
  have hmid : ∀ j, i * 2 ≤ j → j < m * 2 → (splice cs (o + 1 + i * 2) src)[o + 1 + j]? = cs[o + 1 + (j + 2)]? := by
    intro j hj hj2
    unfold splice
    rw [List.getElem?_append_right (by rw [List.length_take]; omega), List.getElem?_append_left (by rw [List.length_take, hlen]; omega), hsrc, List.getElem?_take, if_pos (by rw [List.length_take]; omega), List.getElem?_drop, List.length_take]
    congr 1
    omega
  have hout : ∀ j, j < o + 1 ∨ o + 129 ≤ j → (splice cs (o + 1 + i * 2) src)[j]? = cs[j]? := by
    intro j hj
    rcases hj with hj | hj
    · unfold splice
      rw [List.getElem?_append_left (by rw [List.length_take]; omega), List.getElem?_take, if_pos (by omega)]
    · have := hat (j - (o + 1)) (.inr (by omega))
      rwa [show o + 1 + (j - (o + 1)) = j by omega] at this
  have hel : (ts.eraseIdx i).length = m := by rw [List.length_eraseIdx, if_pos hi]; omega
  refine ⟨_, ⟨heap_set (heap_set (heap_set h1 _ _) _ _) _ _, by simp only [List.length_set, hsl]; exact hr, by rw [hel]; omega, ?_, ?_, ?_, ?_⟩, by simp only [List.length_set, hsl], ?_, grew_trans (grew_trans (grew_trans (grew_trans hg (set_grew _ _ _ _)) (set_grew _ _ _ _)) (set_grew _ _ _ _)) (drew_grew1 _ _)⟩
  · rw [List.getElem?_set_ne (by omega), List.getElem?_set_ne (by omega), List.getElem?_set_ne (by omega), hout o (by omega)]
    exact h.now
  · rw [List.getElem?_set_ne (by omega), List.getElem?_set_ne (by omega), List.getElem?_set_self (by rw [hsl]; omega), hel]
  · intro j hj
    rw [hel] at hj
    rw [List.getElem?_set_ne (by omega), List.getElem?_set_ne (by omega), List.getElem?_set_ne (by omega), tv_erase, flat2_append, flat2_take, flat2_drop]
    rcases Nat.lt_or_ge j (i * 2) with hlt | hge
    · rw [hat j (.inl hlt), h.tim j (by omega), List.getElem?_append_left (by rw [List.length_take, flat2_len, tv_len]; omega), List.getElem?_take, if_pos hlt]
    · rw [hmid j hge hj, h.tim (j + 2) (by omega), List.getElem?_append_right (by rw [List.length_take, flat2_len, tv_len]; omega), List.getElem?_drop, List.length_take, flat2_len, tv_len]
      congr 1
      omega
  · intro j hj
    by_cases e1 : o + 1 + m * 2 + 1 = o + 1 + j
    · rw [e1, List.getElem?_set_self (by simp only [List.length_set, hsl]; omega)]
      exact ⟨_, rfl⟩
    · rw [List.getElem?_set_ne e1]
      by_cases e2 : o + 1 + m * 2 = o + 1 + j
      · rw [e2, List.getElem?_set_self (by simp only [List.length_set, hsl]; omega)]
        exact ⟨_, rfl⟩
      · rw [List.getElem?_set_ne e2, List.getElem?_set_ne (by omega)]
        by_cases e3 : i * 2 ≤ j ∧ j < m * 2
        · rw [hmid j e3.1 e3.2]
          exact h.int (j + 2) (by omega)
        · rw [hat j (by omega)]
          exact h.int j hj
  · intro j hj
    rw [List.getElem?_set_ne (by omega), List.getElem?_set_ne (by omega), List.getElem?_set_ne (by omega), hout j (by omega)]

set_option maxRecDepth 100000 in
set_option maxHeartbeats 4000000 in
theorem remove_any {w : World} {g o i : Nat} {T : TypeId} {cs : List Value} {now : Int} {ts : List (Int × Int)} (h : Clk w g T o cs now ts) (hi : i < ts.length) :
    Calls Try.prog 39 #[.pointer (some ⟨g, o, none⟩), .int .i64 (i : Int)] w fun e w' => e = .returned (.tuple #[]) ∧ ClkOut w g T o cs now (ts.eraseIdx i) w' := by
  have hl := h.len
  have hr := h.room
  obtain ⟨m, hn⟩ : ∃ m, m + 1 = ts.length := ⟨ts.length - 1, by omega⟩
  have c0 : w.cell? ⟨g, o + 129, none⟩ = some (.int .i64 ((m : Int) + 1)) := by
    have := h.cell h.cnt
    rw [← hn] at this
    simpa using this
  have hin : i < m + 1 := by omega
  have hn64 : m + 1 ≤ 64 := by omega
  obtain ⟨D, hD, hcut⟩ := tcut_lh (g := g) (o := o + 1) (l := i) (n := m + 1) (by omega) hn64
  obtain ⟨E, hE, hcut2⟩ := tcut_lh (g := g) (o := o + 1) (l := i + 1) (n := m + 1) (by omega) hn64
  have ei : ((i + 1 : Nat) : Int) = (i : Int) + 1 := by omega
  have em : ((m + 1 : Nat) : Int) = (m : Int) + 1 := by omega
  rw [ei, em] at hcut2
  rw [em] at hcut
  have en : m + 1 - (i + 1) = m - i := by omega
  rw [en] at hcut2
  clear ei em en
  obtain rfl := hD hin
  clear hD
  obtain ⟨src, hsrc⟩ : ∃ src, src = (cs.drop (o + 1 + (i + 1) * 2)).take ((m - i) * 2) := ⟨_, rfl⟩
  have hlen : src.length = (m - i) * 2 := by rw [hsrc, List.length_take, List.length_drop]; omega
  have HLEN := Lib.hid hlen
  have HE := Lib.hid hE
  have HSR := Lib.hid hsrc
  have hone : ∀ v ∈ src, v.oneCell' = true := by
    intro v hv
    obtain ⟨j, hj, rfl⟩ := List.getElem_of_mem hv
    have hj2 : j < (m - i) * 2 := by omega
    obtain ⟨z, hz⟩ := h.int ((i + 1) * 2 + j) (by omega)
    have e : src[j]? = some (.int .i64 z) := by
      rw [hsrc, List.getElem?_take, if_pos hj2, List.getElem?_drop, ← hz]
      congr 1
      omega
    rw [List.getElem?_eq_getElem hj] at e
    rw [Option.some.inj e]
    rfl
  have HONE := Lib.hid hone
  have hcells : ∀ j v, src[j]? = some v → w.cell? (E.add j) = some v := by
    intro j v hv
    obtain ⟨hj, _⟩ := List.getElem?_eq_some_iff.1 hv
    obtain rfl := hE (by omega)
    rw [add_none]
    refine h.cell ?_
    rw [hsrc, List.getElem?_take, if_pos (by omega), List.getElem?_drop] at hv
    exact hv
  have HCELLS := Lib.hid hcells
  have HH := Lib.hid h
  have HN := Lib.hid hn
  have hi' : i < ts.length := hi
  have HI := Lib.hid hi'
  have w1 : IntKind.i64.wrap ((i : Int) + 1) = (i : Int) + 1 := by rw [IntKind.wrap_i64]; omega
  clear hlen hE hsrc hone hcells h hn hi hi' hl
  have hhp : w.drew.heap[g]? = some (.cells cs.toArray T (0, 0)) := HH.out.heap
  have hmin : Nat.min (m - i) (m + 1 - i) = m - i := Nat.min_eq_left (by omega)
  have HMIN := Lib.hid hmin
  have HHP := Lib.hid hhp
  clear hhp hmin
  go_enter Try.func39, Try.ntmps39
  go_wp2_with fail
  go_still_tail 19, (by kernel_rfl)
  show wpList _ _ _ _ _ w.drew
  with_reducible refine wpList_copy2 rfl (.tmp 12) (.tmp 22) 101 101 rfl 48 tsl tsz _ _ _ _ _ _ rfl rfl g (o + 1 + i * 2) cs T HHP.out src ?_ ?_ ?_ ?_ ?_ ?_
  · rw [HMIN.out]; exact HLEN.out
  · exact fun _ => rfl
  · exact HCELLS.out
  · have := HLEN.out; omega
  · exact HONE.out
  intro w' hp' hg'
  have hout := HH.out.erase HI.out HN.out HSR.out hp' (grew_trans (drew_grew1 w _) hg')
  have HO := Lib.hid hout
  have HP := Lib.hid hp'
  have hsl : (splice cs (o + 1 + i * 2) src).length = cs.length := length_splice _ _ _ (by have := HLEN.out; omega)
  have k0 : w'.cell? ⟨g, o + 129, none⟩ = some (.int .i64 ((m : Int) + 1)) := by
    rw [cell_of_row w' g _ _ _ _ hp']
    have e : (splice cs (o + 1 + i * 2) src)[o + 129]? = cs[o + 129]? := by
      unfold splice
      have := HLEN.out
      rw [List.getElem?_append_right (by rw [List.length_take]; omega), List.getElem?_append_right (by rw [List.length_take]; omega), List.getElem?_drop, List.length_take]
      congr 1
      omega
    have e2 := HH.out.cnt
    rw [← HN.out] at e2
    simpa [e] using e2
  have k1 : ∃ z : Value, w'.cell? ⟨g, o + 1 + m * 2, none⟩ = some z := ⟨_, by
    rw [cell_of_row w' g _ _ _ _ hp', List.getElem?_toArray, List.getElem?_eq_getElem (by rw [hsl]; omega)]⟩
  have k2 : ∃ z : Value, w'.cell? ⟨g, o + 1 + m * 2 + 1, none⟩ = some z := ⟨_, by
    rw [cell_of_row w' g _ _ _ _ hp', List.getElem?_toArray, List.getElem?_eq_getElem (by rw [hsl]; omega)]⟩
  obtain ⟨z1, k1⟩ := k1
  obtain ⟨z2, k2⟩ := k2
  have f0 : w'.frozen? ⟨g, o + 129, none⟩ = false := frozen_of_row w' g _ _ _ hp'
  have f1 : w'.frozen? ⟨g, o + 1 + m * 2, none⟩ = false := frozen_of_row w' g _ _ _ hp'
  have f2 : w'.frozen? ⟨g, o + 1 + m * 2 + 1, none⟩ = false := frozen_of_row w' g _ _ _ hp'
  have HSL := Lib.hid hsl
  clear hsl hp' hg' hout c0 hcut hcut2 w1
  have s0 : (w'.setCell ⟨g, o + 129, none⟩ (.int .i64 (m : Int))).cell? ⟨g, o + 129, none⟩ = some (.int .i64 (m : Int)) := by
    rw [cell_of_row _ g _ _ _ _ (heap_set HP.out _ _), List.getElem?_toArray, List.getElem?_set_self (by have := HSL.out; omega)]
  have s1 : (w'.setCell ⟨g, o + 129, none⟩ (.int .i64 (m : Int))).cell? ⟨g, o + 1 + m * 2, none⟩ = some z1 := by
    rw [← k1, cell_of_row _ g _ _ _ _ (heap_set HP.out _ _), cell_of_row _ g _ _ _ _ HP.out, List.getElem?_toArray, List.getElem?_toArray, List.getElem?_set_ne (by omega)]
  have s2 : (w'.setCell ⟨g, o + 129, none⟩ (.int .i64 (m : Int))).cell? ⟨g, o + 1 + m * 2 + 1, none⟩ = some z2 := by
    rw [← k2, cell_of_row _ g _ _ _ _ (heap_set HP.out _ _), cell_of_row _ g _ _ _ _ HP.out, List.getElem?_toArray, List.getElem?_toArray, List.getElem?_set_ne (by omega)]
  have t1 : (w'.setCell ⟨g, o + 129, none⟩ (.int .i64 (m : Int))).frozen? ⟨g, o + 1 + m * 2, none⟩ = false := frozen_of_row _ g _ _ _ (heap_set HP.out _ _)
  have t2 : (w'.setCell ⟨g, o + 129, none⟩ (.int .i64 (m : Int))).frozen? ⟨g, o + 1 + m * 2 + 1, none⟩ = false := frozen_of_row _ g _ _ _ (heap_set HP.out _ _)
  have S0 := Lib.hid s0; have S1 := Lib.hid s1; have S2 := Lib.hid s2; have T1 := Lib.hid t1; have T2 := Lib.hid t2
  clear s0 s1 s2 t1 t2 k1 k2 f1 f2
  go_wp2_with fail
  generalize w'.setCell ⟨g, o + 129, none⟩ (.int .i64 (m : Int)) = W1 at HO S0 S1 S2 T1 T2 ⊢
  have s0 := S0.out; have s1 := S1.out; have s2 := S2.out; have t1 := T1.out; have t2 := T2.out
  have hm64 : (m : Int) < 64 := by omega
  have hm0 : (0 : Int) ≤ (m : Int) := by omega
  go_still_tail 9, (by kernel_rfl)
  go_wp2
  go_end0
  exact ⟨rfl, HO.out⟩
end Go.Proofs.Ytlheekbbioajpab
