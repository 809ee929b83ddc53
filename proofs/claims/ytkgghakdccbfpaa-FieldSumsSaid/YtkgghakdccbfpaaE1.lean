/- A slice of elements of the call's own; the law's list. -/
import Derived.Test.YtkgghakdccbfpaaF15
namespace Go.Proofs.Ytkgghakdccbfpaa
open Go.RowKit

def esV (x : Nat) : List Value := [.int .u64 (limb x 0 : Int), .int .u64 (limb x 1 : Int), .int .u64 (limb x 2 : Int), .int .u64 (limb x 3 : Int)]
def esL : List Nat → List Value
  | [] => []
  | x :: xs => esV x ++ esL xs
theorem esL_snoc (xs : List Nat) (x : Nat) : esL (xs ++ [x]) = esL xs ++ esV x := by
  induction xs with
  | nil => simp [esL]
  | cons y ys ih => rw [List.cons_append, esL, ih, esL, List.append_assoc]
theorem esL_len (xs : List Nat) : (esL xs).length = xs.length * 4 := by
  induction xs with
  | nil => rfl
  | cons y ys ih => rw [esL, List.length_append, ih, List.length_cons]; simp [esV]; omega
theorem esV_at {x i : Nat} (hi : i < 4) : (esV x)[i]? = some (.int .u64 (limb x i : Int)) := by
  rcases (by omega : i = 0 ∨ i = 1 ∨ i = 2 ∨ i = 3) with rfl | rfl | rfl | rfl <;> rfl
theorem esL_at : ∀ (xs : List Nat) (j i : Nat) (hj : j < xs.length), i < 4 → (esL xs)[j * 4 + i]? = some (.int .u64 (limb xs[j] i : Int))
  | x :: xs, 0, i, _, hi => by
    rw [esL, Nat.zero_mul, Nat.zero_add, List.getElem?_append_left (by simpa [esV] using hi)]
    exact esV_at hi
  | x :: xs, j + 1, i, hj, hi => by
    have h := esL_at xs j i (by simpa using hj) hi
    rw [esL, List.getElem?_append_right (by simp [esV]; omega)]
    have e : (j + 1) * 4 + i - (esV x).length = j * 4 + i := by simp [esV]; omega
    rw [e, h]
    rfl
/-- a slice of elements of the call's own -/
def OwnEs (w : World) (B : Nat) (v : Value) (xs : List Nat) : Prop := w.ownsRow B 32 4 v xs.length (esL xs) ∧ ∀ x ∈ xs, x < W4
theorem OwnEs.nil (w : World) (B : Nat) : OwnEs w B (.slice none 0 0) [] := ⟨World.ownsRow_nil w B _ _, by simp⟩
theorem OwnEs.es {w : World} {B : Nat} {v : Value} {xs : List Nat} (h : OwnEs w B v xs) : Es w w.heap.size v xs := by
  obtain ⟨⟨_, h2⟩, hw⟩ := h
  rcases h2 with ⟨rfl, hn⟩ | ⟨g, cap, cur, rfl, hg, hh, hnc, hcm, hsz, htk⟩
  · have : xs = [] := List.eq_nil_of_length_eq_zero hn
    subst this
    exact ⟨none, 0, rfl, Nat.le_refl _, Nat.zero_le _, fun h => absurd h (by simp)⟩
  · refine ⟨_, _, rfl, hnc, hcm, fun _ => ⟨g, 0, rfl, (Array.getElem?_eq_some_iff.1 hh).1, fun j hj => ⟨hw _ (List.getElem_mem hj), fun i hi => ?_⟩⟩⟩
    rw [Nat.zero_add, cell_of_row w g (j * 4 + i) cur _ _ hh]
    have h1 : (cur.toList.take (xs.length * 4))[j * 4 + i]? = some (.int .u64 (limb xs[j] i : Int)) := by rw [htk]; exact esL_at xs j i hj hi
    rw [List.getElem?_take, if_pos (by omega)] at h1
    simpa using h1
theorem OwnEs.alloc {w : World} {B : Nat} {v : Value} {xs : List Nat} (h : OwnEs w B v xs) (o : Obj) : OwnEs (w.alloc o) B v xs := ⟨World.ownsRow.alloc h.1 o, h.2⟩
theorem OwnEs.lt {w : World} {B : Nat} {v : Value} {xs : List Nat} (h : OwnEs w B v xs) : ∀ k, v.ownBlock = some k → B ≤ k := fun k hk => (h.1.lt k hk).1
theorem elem_info : (Try.prog.info? 32).map (fun i => (i.zero, i.size, i.bytes)) = some (some (.agg #[.int .u64 0, .int .u64 0, .int .u64 0, .int .u64 0]), 4, 32) := by kernel_rfl
theorem info_parts4 {P : Program} {e : TypeId} {z : Value} {s b : Nat} (h : (P.info? e).map (fun i => (i.zero, i.size, i.bytes)) = some (some z, s, b)) : ∃ i, P.info? e = some i ∧ i.zero = some z ∧ i.size = s ∧ i.bytes = b := by
  cases hq : P.info? e with
  | none => simp [hq] at h
  | some i => simp [hq] at h; exact ⟨i, rfl, h.1, h.2.1, h.2.2⟩

/-- append(v, an element) -/
theorem wpList_appE {w : World} {ops : Array Oper} {rest : List Oper} {o : Oper} {a : Act} {Q : Exit → Act → World → Prop} (hgd : o.guard = none) (s x : Operand)
    (ho : o.op = .call { callee := .builtin .append, args := #[s, x], argTypes := #[51, 51] })
    {B g V c : Nat} {v : Value} {xs : List Nat} (hs : a.eval s = v) (hown : OwnEs w B v xs) (hx : a.eval x = .slice (some ⟨g, 0, none⟩) 1 c) (hc : Ec w g V) (hV : V < W4) (hsum : xs.length + 1 ≤ 4398046511104) (hB : B ≤ w.heap.size)
    (h : ∀ v' w', OwnEs w' B v' (xs ++ [V]) → w.grownBy w' v.ownBlock → wpList Try.prog ops Q rest (a.put o.dst v') w') : wpList Try.prog ops Q (o :: rest) a w := by
  obtain ⟨i, hi, hz0, hz1, hz2⟩ := info_parts4 elem_info
  refine wpList_plain hgd fun K hK => ?_
  obtain ⟨v', w', hrun, g1, g2, _, g3⟩ := run_append_own_at (P := Try.prog) w B 51 o.type 32 i _ 4 32 Try.underlying51 hi hz0 hz1 hz2 rfl (by omega) v xs.length (esL xs) hown.1
    ⟨g, 0, none⟩ 1 c (esV V) (by simp [esV]) (fun j y hy => by
      obtain ⟨hj, rfl⟩ := List.getElem?_eq_some_iff.1 hy
      have hj4 : j < 4 := by simpa [esV] using hj
      rw [add_none, Nat.zero_add, hc.limb j hj4, ← esV_at hj4, List.getElem?_eq_getElem hj]) (fun u hu => by
      simp only [esV, List.mem_cons, List.not_mem_nil, or_false] at hu
      rcases hu with rfl | rfl | rfl | rfl <;> rfl) (by unfold maxLen; omega) (by omega) hB
  unfold Oper.wp execOp
  simp only [ho, resolve, invoke, builtin, Sem.run_bind, Sem.run_pure, Result.andThen_ok, List.map_toArray, List.map_cons, List.map_nil, hs, hx, hrun]
  refine hK _ _ (h v' w' ⟨?_, ?_⟩ g2)
  · rw [esL_snoc, List.length_append]
    exact g1
  · intro y hy
    rcases List.mem_append.1 hy with hy | hy
    · exact hown.2 y hy
    · obtain rfl : y = V := by simpa using hy
      exact hV
end Go.Proofs.Ytkgghakdccbfpaa
