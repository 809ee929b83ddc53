/- Slices of pairs; append and copy of them; the cells of a clock. -/
import Derived.Test.YtlheekbbioajpabCursorT
namespace Go.Proofs.Ytlheekbbioajpab
open Go.RowKit

/-- the cells of a list of pairs -/
def flat2 : List (Value × Value) → List Value
  | [] => []
  | (a, b) :: r => a :: b :: flat2 r
theorem flat2_len : ∀ xs, (flat2 xs).length = xs.length * 2
  | [] => rfl
  | (a, b) :: r => by simp only [flat2, List.length_cons, flat2_len r]; omega
theorem flat2_append : ∀ xs ys, flat2 (xs ++ ys) = flat2 xs ++ flat2 ys
  | [], _ => rfl
  | (a, b) :: r, ys => by simp only [List.cons_append, flat2, flat2_append r ys]
theorem flat2_at0 : ∀ (xs : List (Value × Value)) (j : Nat) (h : j < xs.length), (flat2 xs)[j * 2]? = some xs[j].1
  | (a, b) :: r, 0, _ => rfl
  | (a, b) :: r, j + 1, h => by
    have := flat2_at0 r j (by simpa using h)
    have e : (j + 1) * 2 = j * 2 + 1 + 1 := by omega
    rw [e]
    simpa [flat2] using this
theorem flat2_at1 : ∀ (xs : List (Value × Value)) (j : Nat) (h : j < xs.length), (flat2 xs)[j * 2 + 1]? = some xs[j].2
  | (a, b) :: r, 0, _ => rfl
  | (a, b) :: r, j + 1, h => by
    have := flat2_at1 r j (by simpa using h)
    have e : (j + 1) * 2 + 1 = j * 2 + 1 + 1 + 1 := by omega
    rw [e]
    simpa [flat2] using this
theorem flat2_split {xs : List (Value × Value)} {i : Nat} {y : Value} (h : (flat2 xs)[i]? = some y) : ∃ j, ∃ hj : j < xs.length, (i = j * 2 ∧ y = xs[j].1) ∨ (i = j * 2 + 1 ∧ y = xs[j].2) := by
  obtain ⟨hi, rfl⟩ := List.getElem?_eq_some_iff.1 h
  rw [flat2_len] at hi
  have hj : i / 2 < xs.length := by omega
  refine ⟨i / 2, hj, ?_⟩
  rcases Nat.mod_two_eq_zero_or_one i with e | e
  · left
    have e1 : i = i / 2 * 2 := by omega
    refine ⟨e1, ?_⟩
    have := flat2_at0 xs (i / 2) hj
    rw [← e1] at this
    exact Option.some.inj (h.symm.trans this)
  · right
    have e1 : i = i / 2 * 2 + 1 := by omega
    refine ⟨e1, ?_⟩
    have := flat2_at1 xs (i / 2) hj
    rw [← e1] at this
    exact Option.some.inj (h.symm.trans this)

/-- v is a slice that reads as the pairs xs, in a block of which S holds -/
def P2 (w : World) (S : Nat → Prop) (v : Value) (xs : List (Value × Value)) : Prop :=
  ∃ A c, v = .slice A xs.length c ∧ xs.length ≤ c ∧ c ≤ maxLen ∧
    (0 < xs.length → ∃ b off, A = some ⟨b, off, none⟩ ∧ b < w.heap.size ∧ S b ∧ ∀ j (h : j < xs.length), w.cell? ⟨b, off + j * 2, none⟩ = some xs[j].1 ∧ w.cell? ⟨b, off + j * 2 + 1, none⟩ = some xs[j].2)
theorem P2.nil (w : World) (S : Nat → Prop) : P2 w S (.slice none 0 0) [] := ⟨none, 0, rfl, Nat.le_refl _, Nat.zero_le _, fun h => absurd h (by simp)⟩
theorem P2.grown {w w' : World} {S : Nat → Prop} {v : Value} {xs : List (Value × Value)} {r : Option Nat} (h : P2 w S v xs) (hg : w.grownBy w' r) (hr : ∀ b, S b → r ≠ some b) : P2 w' S v xs := by
  obtain ⟨A, c, rfl, h1, h2, h3⟩ := h
  refine ⟨A, c, rfl, h1, h2, fun hp => ?_⟩
  obtain ⟨b, off, rfl, hlt, hS, hc⟩ := h3 hp
  refine ⟨b, off, rfl, Nat.lt_of_lt_of_le hlt hg.size, hS, fun j hj => ?_⟩
  have e := hg.block b hlt (fun e => hr b hS e.symm)
  obtain ⟨k0, k1⟩ := hc j hj
  exact ⟨by rw [← k0]; simp only [World.cell?, e], by rw [← k1]; simp only [World.cell?, e]⟩
theorem P2.below {w w' : World} {S : Nat → Prop} {v : Value} {xs : List (Value × Value)} (h : P2 w S v xs) {B : Nat} (hb : Below B w w') (hB : w.heap.size ≤ B) : P2 w' S v xs :=
  h.grown (Below.grew hb hB none) (by simp)
theorem P2.mono {w : World} {S S' : Nat → Prop} {v : Value} {xs : List (Value × Value)} (h : P2 w S v xs) (hS : ∀ b, S b → S' b) : P2 w S' v xs := by
  obtain ⟨A, c, rfl, h1, h2, h3⟩ := h
  refine ⟨A, c, rfl, h1, h2, fun hp => ?_⟩
  obtain ⟨b, off, rfl, hlt, hb, hc⟩ := h3 hp
  exact ⟨b, off, rfl, hlt, hS b hb, hc⟩
theorem P2.shape {w : World} {S : Nat → Prop} {v : Value} {xs : List (Value × Value)} (h : P2 w S v xs) : ∃ A c, v = .slice A xs.length c := by
  obtain ⟨A, c, hv, _⟩ := h
  exact ⟨A, c, hv⟩
theorem P2.one (w : World) (e : TypeId) (a b : Value) : P2 (w.alloc (.cells #[a, b] e)) (fun b => b = w.heap.size) (.slice (some ⟨w.heap.size, 0, none⟩) 1 1) [(a, b)] :=
  ⟨_, 1, rfl, Nat.le_refl _, by unfold maxLen; omega, fun _ => ⟨_, 0, rfl, by simp, rfl, fun j hj => by
    obtain rfl : j = 0 := by simpa using hj
    rw [cell_of_row _ _ _ #[a, b] e (0, 0) (heap_alloc_new w _), cell_of_row _ _ _ #[a, b] e (0, 0) (heap_alloc_new w _)]
    exact ⟨rfl, rfl⟩⟩⟩
theorem P2.al {w : World} {S : Nat → Prop} {v : Value} {xs : List (Value × Value)} (h : P2 w S v xs) (o : Obj) : P2 (w.alloc o) S v xs := h.below ((Below.refl _ w).alloc (Nat.le_refl _) o) (Nat.le_refl _)
theorem P2.dr {w : World} {S : Nat → Prop} {v : Value} {xs : List (Value × Value)} (h : P2 w S v xs) : P2 w.drew S v xs := h

def One2 (xs : List (Value × Value)) : Prop := ∀ p ∈ xs, p.1.oneCell' = true ∧ p.2.oneCell' = true
theorem One2.flat : ∀ {xs : List (Value × Value)}, One2 xs → ∀ u ∈ flat2 xs, u.oneCell' = true
  | [], _, u, hu => absurd hu (by simp [flat2])
  | (a, b) :: r, h, u, hu => by
    rcases List.mem_cons.1 hu with rfl | hu
    · exact (h (_, b) (by simp)).1
    · rcases List.mem_cons.1 hu with rfl | hu
      · exact (h (a, _) (by simp)).2
      · exact One2.flat (xs := r) (fun p hp => h p (List.mem_cons_of_mem _ hp)) u hu
theorem One2.append {xs ys : List (Value × Value)} (h : One2 xs) (k : One2 ys) : One2 (xs ++ ys) := fun p hp => (List.mem_append.1 hp).elim (h p) (k p)
/-- v is a slice of pairs of the call's own -/
def Own2 (w : World) (B : Nat) (e : TypeId) (v : Value) (xs : List (Value × Value)) : Prop := w.ownsRow B e 2 v xs.length (flat2 xs)
theorem Own2.nil (w : World) (B : Nat) (e : TypeId) : Own2 w B e (.slice none 0 0) [] := World.ownsRow_nil w B _ _
theorem Own2.empty (w : World) (B : Nat) (e : TypeId) (hB : B ≤ w.heap.size) : Own2 (w.alloc (.cells #[] e)) B e (.slice (some ⟨w.heap.size, 0, none⟩) 0 0) [] := World.ownsRow_made w #[] 0 hB (Nat.zero_le _) rfl
theorem Own2.p2 {w : World} {B : Nat} {e : TypeId} {v : Value} {xs : List (Value × Value)} (h : Own2 w B e v xs) : P2 w (fun b => B ≤ b) v xs := by
  obtain ⟨_, h2⟩ := h
  rcases h2 with ⟨rfl, hn⟩ | ⟨g, cap, cur, rfl, hg, hh, hnc, hcm, hsz, htk⟩
  · have : xs = [] := List.eq_nil_of_length_eq_zero hn
    subst this
    exact P2.nil _ _
  · refine ⟨_, _, rfl, hnc, hcm, fun _ => ⟨g, 0, rfl, (Array.getElem?_eq_some_iff.1 hh).1, hg, fun j hj => ⟨?_, ?_⟩⟩⟩
    · rw [Nat.zero_add, cell_of_row w g _ cur _ _ hh]
      have h1 : (cur.toList.take (xs.length * 2))[j * 2]? = some xs[j].1 := by rw [htk]; exact flat2_at0 xs j hj
      rw [List.getElem?_take, if_pos (by omega)] at h1
      simpa using h1
    · rw [Nat.zero_add, cell_of_row w g _ cur _ _ hh]
      have h1 : (cur.toList.take (xs.length * 2))[j * 2 + 1]? = some xs[j].2 := by rw [htk]; exact flat2_at1 xs j hj
      rw [List.getElem?_take, if_pos (by omega)] at h1
      simpa using h1
theorem Own2.alloc {w : World} {B : Nat} {e : TypeId} {v : Value} {xs : List (Value × Value)} (h : Own2 w B e v xs) (o : Obj) : Own2 (w.alloc o) B e v xs := World.ownsRow.alloc h o
theorem Own2.lt {w : World} {B : Nat} {e : TypeId} {v : Value} {xs : List (Value × Value)} (h : Own2 w B e v xs) : ∀ k, v.ownBlock = some k → B ≤ k := fun k hk => (World.ownsRow.lt h k hk).1
theorem Own2.shape {w : World} {B : Nat} {e : TypeId} {v : Value} {xs : List (Value × Value)} (h : Own2 w B e v xs) : ∃ A c, v = .slice A xs.length c := h.p2.shape
theorem info_parts2 {P : Program} {e : TypeId} {z : Value} {s b : Nat} (h : (P.info? e).map (fun i => (i.zero, i.size, i.bytes)) = some (some z, s, b)) : ∃ i, P.info? e = some i ∧ i.zero = some z ∧ i.size = s ∧ i.bytes = b := by
  cases hq : P.info? e with
  | none => simp [hq] at h
  | some i => simp [hq] at h; exact ⟨i, rfl, h.1, h.2.1, h.2.2⟩

/-- append(v, u...) of pairs: v the call's own, u whatever -/
theorem run_app2 {w : World} {t e ty : TypeId} (ht : Try.prog.underlying t = some (.slice e)) {z : Value}
    (hinfo : (Try.prog.info? e).map (fun i => (i.zero, i.size, i.bytes)) = some (some z, 2, 16)) (hz : z.cells.size = 2)
    {B : Nat} {S : Nat → Prop} {v u : Value} {xs ms : List (Value × Value)} (hown : Own2 w B e v xs) (hb : P2 w S u ms) (hone : One2 ms) (hsum : xs.length + ms.length ≤ 8796093022207) (hB : B ≤ w.heap.size) :
    ∃ v' w', (Builtin.append_ #[t, t] ty #[v, u]).run Try.prog w = .ok v' w' ∧ Own2 w' B e v' (xs ++ ms) ∧ w.grownBy w' v.ownBlock ∧ (v'.ownBlock = v.ownBlock ∨ v'.ownBlock = some w.heap.size) := by
  obtain ⟨i, hi, hz0, hz1, hz2⟩ := info_parts2 hinfo
  obtain ⟨A, c, rfl, h1, h2, h3⟩ := hb
  by_cases hm : ms.length = 0
  · obtain rfl : ms = [] := List.eq_nil_of_length_eq_zero hm
    refine ⟨v, w, ?_, by simpa using hown, World.grownBy.refl w _, .inl rfl⟩
    rcases hown.2 with ⟨rfl, _⟩ | ⟨g, cap, cur, rfl, _, _, hnc, _⟩
    · cases A <;> simp [Builtin.append_, run_underlying ht, sizeOf, typeInfo, hi, Builtin.lenOf, Builtin.firstCells, loadCells, loadCellsFrom]
    · cases A <;> simp [Builtin.append_, run_underlying ht, sizeOf, typeInfo, hi, Builtin.lenOf, Builtin.firstCells, hnc, storeCells, loadCells, loadCellsFrom]
  · obtain ⟨b, off, rfl, _, _, hc⟩ := h3 (by omega)
    obtain ⟨v', w', hrun, g1, g2, _, g3⟩ := run_append_own_at (P := Try.prog) w B t ty e i z 2 16 ht hi hz0 hz1 hz2 hz (by omega) v xs.length (flat2 xs) hown
      ⟨b, off, none⟩ ms.length c (flat2 ms) (by simp [flat2_len]) (fun j y hy => by
        rw [add_none]
        obtain ⟨k, hk, ⟨rfl, rfl⟩ | ⟨rfl, rfl⟩⟩ := flat2_split hy
        · exact (hc k hk).1
        · rw [← Nat.add_assoc]; exact (hc k hk).2) hone.flat (by unfold maxLen; omega) (by omega) hB
    refine ⟨v', w', hrun, ?_, g2, g3⟩
    unfold Own2
    rw [flat2_append, List.length_append]
    exact g1
theorem wpList_app2 {w : World} {ops : Array Oper} {rest : List Oper} {o : Oper} {a : Act} {Q : Exit → Act → World → Prop} (hgd : o.guard = none) (s x : Operand) {t e : TypeId}
    (ho : o.op = .call { callee := .builtin .append, args := #[s, x], argTypes := #[t, t] }) (ht : Try.prog.underlying t = some (.slice e)) {z : Value}
    (hinfo : (Try.prog.info? e).map (fun i => (i.zero, i.size, i.bytes)) = some (some z, 2, 16)) (hz : z.cells.size = 2)
    {B : Nat} {S : Nat → Prop} {v u : Value} {xs ms : List (Value × Value)} (hs : a.eval s = v) (hown : Own2 w B e v xs) (hx : a.eval x = u) (hb : P2 w S u ms) (hone : One2 ms) (hsum : xs.length + ms.length ≤ 8796093022207) (hB : B ≤ w.heap.size)
    (h : ∀ v' w', Own2 w' B e v' (xs ++ ms) → w.grownBy w' v.ownBlock → Below B w w' → wpList Try.prog ops Q rest (a.put o.dst v') w') : wpList Try.prog ops Q (o :: rest) a w := by
  refine wpList_plain hgd fun K hK => ?_
  obtain ⟨v', w', hrun, g1, g2, _⟩ := run_app2 (ty := o.type) ht hinfo hz hown hb hone hsum hB
  unfold Oper.wp execOp
  simp only [ho, resolve, invoke, builtin, Sem.run_bind, Sem.run_pure, Result.andThen_ok, List.map_toArray, List.map_cons, List.map_nil, hs, hx, hrun]
  exact hK _ _ (h v' w' g1 g2 ((Below.refl _ _).grown g2 hB hown.lt))
/-- .. as a step of a region that draws its order -/
theorem step_app2 {w : World} {ops : Array Oper} {o : Oper} {a : Act} {K : Act → World → Prop} {Q : Exit → Act → World → Prop} {E : Prop} (hgd : o.guard = none) (s x : Operand) {t e : TypeId}
    (ho : o.op = .call { callee := .builtin .append, args := #[s, x], argTypes := #[t, t] }) (ht : Try.prog.underlying t = some (.slice e)) {z : Value}
    (hinfo : (Try.prog.info? e).map (fun i => (i.zero, i.size, i.bytes)) = some (some z, 2, 16)) (hz : z.cells.size = 2)
    {B : Nat} {S : Nat → Prop} {v u : Value} {xs ms : List (Value × Value)} (hs : a.eval s = v) (hown : Own2 w B e v xs) (hx : a.eval x = u) (hb : P2 w S u ms) (hone : One2 ms) (hsum : xs.length + ms.length ≤ 8796093022207) (hB : B ≤ w.heap.size)
    (h : ∀ v' w', Own2 w' B e v' (xs ++ ms) → w.grownBy w' v.ownBlock → Below B w w' → K (a.put o.dst v') w') :
    if Region.wanted o (yielded ops a.tmps) = true then Oper.wp Try.prog o a w K Q else E := by
  have hw : Region.wanted o (yielded ops a.tmps) = true := by simp [Region.wanted, hgd]
  rw [if_pos hw]
  obtain ⟨v', w', hrun, g1, g2, _⟩ := run_app2 (ty := o.type) ht hinfo hz hown hb hone hsum hB
  unfold Oper.wp execOp
  simp only [ho, resolve, invoke, builtin, Sem.run_bind, Sem.run_pure, Result.andThen_ok, List.map_toArray, List.map_cons, List.map_nil, hs, hx, hrun]
  exact h v' w' g1 g2 ((Below.refl _ _).grown g2 hB hown.lt)
/-- a pair in a block of its own beside the slice that is appended to -/
theorem pair_b {W w3 : World} {a b : Value} {e : TypeId} {o : Obj} {n c : Nat} (hg : ((W.alloc (.cells #[a, b] e)).alloc o).grownBy w3 (Value.slice (some ⟨W.heap.size + 1, 0, none⟩) n c).ownBlock) :
    P2 w3 (fun _ => True) (.slice (some ⟨W.heap.size, 0, none⟩) 1 1) [(a, b)] :=
  (((P2.one W e a b).al o).grown hg (fun k hk => by subst hk; simp [Value.ownBlock])).mono (fun _ _ => trivial)
theorem pair_c {W w3 : World} {a b : Value} {e : TypeId} {o : Obj} {n c : Nat} (hg : ((W.alloc o).alloc (.cells #[a, b] e)).grownBy w3 (Value.slice (some ⟨W.heap.size, 0, none⟩) n c).ownBlock) :
    P2 w3 (fun _ => True) (.slice (some ⟨W.heap.size + 1, 0, none⟩) 1 1) [(a, b)] := by
  have h := P2.one (W.alloc o) e a b
  have h2 := (h.grown hg (fun k hk => by subst hk; simp [Value.ownBlock])).mono (S' := fun _ => True) (fun _ _ => trivial)
  simpa using h2
theorem pair_d (w : World) (e : TypeId) (a b : Value) : P2 (w.alloc (.cells #[a, b] e)) (fun _ => True) (.slice (some ⟨w.heap.size, 0, none⟩) 1 1) [(a, b)] := (P2.one w e a b).mono (fun _ _ => trivial)
theorem two_below {w w' : World} {B b : Nat} {x : Obj} (hb : Below B w w') (hB : b < B) (h : w.heap[b]? = some x) : w'.heap[b]? = some x := (hb.block b hB).trans h
end Go.Proofs.Ytlheekbbioajpab
