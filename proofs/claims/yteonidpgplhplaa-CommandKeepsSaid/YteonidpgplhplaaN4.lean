/- Slices of structs of s cells each: to be read, and of the call's own; append. -/
import Derived.Test.YteonidpgplhplaaN1
namespace Go.Proofs.Yteonidpgplhplaa
open Go.RowKit

/-- v reads as the structs xs, of s cells each, below block B -/
def Gs (w : World) (B : Nat) (v : Value) (s : Nat) (xs : List (List Value)) : Prop :=
  ∃ A c, v = .slice A xs.length c ∧ xs.length ≤ c ∧ c ≤ maxLen ∧ (∀ x ∈ xs, x.length = s) ∧
    (0 < xs.length → ∃ b off, A = some ⟨b, off, none⟩ ∧ b < B ∧ ∀ j (h : j < xs.length), w.rangeAt b (off + j * s) xs[j])
theorem Gs.below {w w' : World} {B B' s : Nat} {v : Value} {xs : List (List Value)} (h : Gs w B v s xs) (hb : Below B' w w') (hB : B ≤ B') : Gs w' B v s xs := by
  obtain ⟨A, c, h1, h2, h3, h4, h5⟩ := h
  refine ⟨A, c, h1, h2, h3, h4, fun hp => ?_⟩
  obtain ⟨b, off, e, hlt, hc⟩ := h5 hp
  exact ⟨b, off, e, hlt, fun j hj => range_below (hc j hj) hb (by omega)⟩
theorem Gs.more {w : World} {B B' s : Nat} {v : Value} {xs : List (List Value)} (h : Gs w B v s xs) (hB : B ≤ B') : Gs w B' v s xs := by
  obtain ⟨A, c, h1, h2, h3, h4, h5⟩ := h
  refine ⟨A, c, h1, h2, h3, h4, fun hp => ?_⟩
  obtain ⟨b, off, e, hlt, hc⟩ := h5 hp
  exact ⟨b, off, e, by omega, hc⟩
theorem Gs.shape {w : World} {B s : Nat} {v : Value} {xs : List (List Value)} (h : Gs w B v s xs) : ∃ A c, v = .slice A xs.length c := by
  obtain ⟨A, c, h, _⟩ := h
  exact ⟨A, c, h⟩
theorem Gs.at_ {w : World} {B s n c k : Nat} {A : Option Addr} {xs : List (List Value)} (h : Gs w B (.slice A n c) s xs) (hk : k < xs.length) : ∃ b off, A = some ⟨b, off, none⟩ ∧ b < B ∧ w.rangeAt b (off + k * s) xs[k] := by
  obtain ⟨A', c', hv, _, _, _, h5⟩ := h
  simp only [Value.slice.injEq] at hv
  obtain ⟨rfl, _, _⟩ := hv
  obtain ⟨b, off, e, hlt, hc⟩ := h5 (by omega)
  exact ⟨b, off, e, hlt, hc k hk⟩
theorem Gs.nil (w : World) (B s : Nat) : Gs w B (.slice none 0 0) s [] := ⟨none, 0, rfl, Nat.le_refl _, Nat.zero_le _, by simp, fun h => absurd h (by simp)⟩
/-- a slice of structs of the call's own -/
def OwnGs (w : World) (B : Nat) (e : TypeId) (v : Value) (s : Nat) (xs : List (List Value)) : Prop :=
  w.ownsRow B e s v xs.length xs.flatten ∧ ∀ x ∈ xs, x.length = s ∧ ∀ u ∈ x, u.oneCell' = true
theorem flatten_len {s : Nat} : ∀ {xs : List (List Value)}, (∀ x ∈ xs, x.length = s) → xs.flatten.length = xs.length * s
  | [], _ => by simp
  | x :: xs, h => by
    rw [List.flatten_cons, List.length_append, flatten_len (fun y hy => h y (List.mem_cons_of_mem _ hy)), h x (by simp), List.length_cons, Nat.succ_mul]
    omega
theorem flatten_at {s : Nat} : ∀ {xs : List (List Value)} (_ : ∀ x ∈ xs, x.length = s) (j i : Nat) (hj : j < xs.length), i < s → xs.flatten[j * s + i]? = xs[j][i]?
  | x :: xs, h, 0, i, _, hi => by
    rw [List.flatten_cons, Nat.zero_mul, Nat.zero_add, List.getElem?_append_left (by rw [h x (by simp)]; exact hi)]
    rfl
  | x :: xs, h, j + 1, i, hj, hi => by
    have hx := h x (by simp)
    have ih := flatten_at (fun y hy => h y (List.mem_cons_of_mem _ hy)) j i (by simpa using hj) hi
    rw [List.flatten_cons, List.getElem?_append_right (by rw [hx, Nat.succ_mul]; omega)]
    have e : (j + 1) * s + i - x.length = j * s + i := by rw [hx, Nat.succ_mul]; omega
    rw [e, ih]
    rfl
theorem OwnGs.nil (w : World) (B : Nat) (e : TypeId) (s : Nat) : OwnGs w B e (.slice none 0 0) s [] := ⟨World.ownsRow_nil w B _ _, by simp⟩
theorem OwnGs.empty (w : World) (B : Nat) (e : TypeId) (s : Nat) (hB : B ≤ w.heap.size) : OwnGs (w.alloc (.cells #[] e)) B e (.slice (some ⟨w.heap.size, 0, none⟩) 0 0) s [] :=
  ⟨⟨by simp, .inr ⟨w.heap.size, 0, #[], rfl, hB, heap_alloc_new w _, Nat.le_refl _, Nat.zero_le _, by simp, by simp⟩⟩, by simp⟩
theorem OwnGs.gs {w : World} {B s : Nat} {e : TypeId} {v : Value} {xs : List (List Value)} (h : OwnGs w B e v s xs) : Gs w w.heap.size v s xs := by
  obtain ⟨⟨_, h2⟩, hw⟩ := h
  rcases h2 with ⟨rfl, hn⟩ | ⟨g, cap, cur, rfl, hg, hh, hnc, hcm, hsz, htk⟩
  · have : xs = [] := List.eq_nil_of_length_eq_zero hn
    subst this
    exact Gs.nil _ _ _
  · refine ⟨_, _, rfl, hnc, hcm, fun x hx => (hw x hx).1, fun _ => ⟨g, 0, rfl, (Array.getElem?_eq_some_iff.1 hh).1, fun j hj i v hv => ?_⟩⟩
    have hi : i < s := by rw [← (hw _ (List.getElem_mem hj)).1]; exact (List.getElem?_eq_some_iff.1 hv).1
    rw [Nat.zero_add, cell_of_row w g (j * s + i) cur _ _ hh]
    have hlt : j * s + i < xs.length * s := by
      have : (j + 1) * s ≤ xs.length * s := Nat.mul_le_mul_right _ hj
      rw [Nat.succ_mul] at this
      omega
    have h1 : (cur.toList.take (xs.length * s))[j * s + i]? = some v := by rw [htk, flatten_at (fun x hx => (hw x hx).1) j i hj hi]; exact hv
    rw [List.getElem?_take, if_pos hlt] at h1
    simpa using h1
theorem OwnGs.lt {w : World} {B s : Nat} {e : TypeId} {v : Value} {xs : List (List Value)} (h : OwnGs w B e v s xs) : ∀ k, v.ownBlock = some k → B ≤ k := fun k hk => (h.1.lt k hk).1
theorem OwnGs.shape {w : World} {B s : Nat} {e : TypeId} {v : Value} {xs : List (List Value)} (h : OwnGs w B e v s xs) : ∃ A c, v = .slice A xs.length c := h.gs.shape
theorem OwnGs.alloc {w : World} {B s : Nat} {e : TypeId} {v : Value} {xs : List (List Value)} (h : OwnGs w B e v s xs) (o : Obj) : OwnGs (w.alloc o) B e v s xs := ⟨World.ownsRow.alloc h.1 o, h.2⟩
theorem OwnGs.below {w w' : World} {B s : Nat} {e : TypeId} {v : Value} {xs : List (List Value)} (h : OwnGs w B e v s xs) {B' : Nat} (hb : Below B' w w') (hB : w.heap.size ≤ B') : OwnGs w' B e v s xs :=
  ⟨World.ownsRow.kept h.1 (row := none) ⟨hb.os, hb.tape, hb.output, hb.size, fun k hk _ => hb.block k (by omega)⟩ (by
    cases hq : v.ownBlock with
    | none => exact .inl rfl
    | some j => exact .inr (by simp)), h.2⟩
theorem info3 {P : Program} {e : TypeId} {z : Value} {s b : Nat} (h : (P.info? e).map (fun i => (i.zero, i.size, i.bytes)) = some (some z, s, b)) : ∃ i, P.info? e = some i ∧ i.zero = some z ∧ i.size = s ∧ i.bytes = b := by
  cases hq : P.info? e with
  | none => simp [hq] at h
  | some i => simp [hq] at h; exact ⟨i, rfl, h.1, h.2.1, h.2.2⟩
theorem run_appG {w : World} {t e ty : TypeId} {z : Value} {s y B B' : Nat} {v u : Value} {xs ms : List (List Value)} (ht : Try.prog.underlying t = some (.slice e)) (hinfo : (Try.prog.info? e).map (fun i => (i.zero, i.size, i.bytes)) = some (some z, s, y)) (hz : z.cells.size = s) (hs : 0 < s)
    (hown : OwnGs w B e v s xs) (hb : Gs w B' u s ms) (hone : ∀ x ∈ ms, ∀ u ∈ x, u.oneCell' = true) (hsum : (xs.length + ms.length) * y ≤ 140737488355328) (h63 : xs.length + ms.length ≤ maxLen) (hB : B ≤ w.heap.size) :
    ∃ v' w', (Builtin.append_ #[t, t] ty #[v, u]).run Try.prog w = .ok v' w' ∧ OwnGs w' B e v' s (xs ++ ms) ∧ w.grownBy w' v.ownBlock := by
  obtain ⟨i, hi, hz0, hz1, hz2⟩ := info3 hinfo
  obtain ⟨A, c, rfl, h1, h2, hl, h3⟩ := hb
  by_cases hm : ms.length = 0
  · obtain rfl : ms = [] := List.eq_nil_of_length_eq_zero hm
    refine ⟨v, w, ?_, by simpa using hown, World.grownBy.refl w _⟩
    rcases hown.1.2 with ⟨rfl, _⟩ | ⟨g, cap, cur, rfl, _, _, hnc, _⟩
    · cases A <;> simp [Builtin.append_, run_underlying ht, sizeOf, typeInfo, hi, Builtin.lenOf, Builtin.firstCells, loadCells, loadCellsFrom]
    · cases A <;> simp [Builtin.append_, run_underlying ht, sizeOf, typeInfo, hi, Builtin.lenOf, Builtin.firstCells, hnc, storeCells, loadCells, loadCellsFrom]
  · obtain ⟨b, off, rfl, _, hc⟩ := h3 (by omega)
    obtain ⟨v', w', hrun, g1, g2, _, g3⟩ := run_append_own_at (P := Try.prog) w B t ty e i z s y ht hi hz0 hz1 hz2 hz hs v xs.length xs.flatten hown.1
      ⟨b, off, none⟩ ms.length c ms.flatten (flatten_len hl) (fun j x hx => by
        have hj : j < ms.flatten.length := (List.getElem?_eq_some_iff.1 hx).1
        rw [flatten_len hl] at hj
        have hq : j / s < ms.length := Nat.div_lt_of_lt_mul (by rw [Nat.mul_comm]; exact hj)
        have hr : j % s < s := Nat.mod_lt _ hs
        have e : j = j / s * s + j % s := by rw [Nat.mul_comm]; exact (Nat.div_add_mod j s).symm
        rw [e, flatten_at hl _ _ hq hr] at hx
        have := hc _ hq _ _ hx
        rw [add_none, e, ← Nat.add_assoc]
        exact this) (fun x hx => by
        obtain ⟨l, hl', hxl⟩ := List.mem_flatten.1 hx
        exact hone l hl' x hxl) h63 hsum hB
    refine ⟨v', w', hrun, ⟨?_, fun x hx => ?_⟩, g2⟩
    · rw [List.length_append, List.flatten_append]; exact g1
    · rcases List.mem_append.1 hx with h | h
      · exact hown.2 x h
      · exact ⟨hl x h, hone x h⟩
theorem wpList_appGs {w : World} {ops : Array Oper} {rest : List Oper} {o : Oper} {a : Act} {Q : Exit → Act → World → Prop} (hgd : o.guard = none) (s x : Operand) {t e : TypeId}
    (ho : o.op = .call { callee := .builtin .append, args := #[s, x], argTypes := #[t, t] }) (ht : Try.prog.underlying t = some (.slice e)) {z : Value} {sz y : Nat}
    (hinfo : (Try.prog.info? e).map (fun i => (i.zero, i.size, i.bytes)) = some (some z, sz, y)) (hz : z.cells.size = sz) (hs0 : 0 < sz)
    {B B' : Nat} {v u : Value} {xs ms : List (List Value)} (hs : a.eval s = v) (hown : OwnGs w B e v sz xs) (hx : a.eval x = u) (hb : Gs w B' u sz ms) (hone : ∀ x ∈ ms, ∀ u ∈ x, u.oneCell' = true)
    (hsum : (xs.length + ms.length) * y ≤ 140737488355328) (h63 : xs.length + ms.length ≤ maxLen) (hB : B ≤ w.heap.size)
    (h : ∀ v' w', OwnGs w' B e v' sz (xs ++ ms) → w.grownBy w' v.ownBlock → Below B w w' → wpList Try.prog ops Q rest (a.put o.dst v') w') : wpList Try.prog ops Q (o :: rest) a w := by
  refine wpList_plain hgd fun K hK => ?_
  obtain ⟨v', w', hrun, g1, g2⟩ := run_appG (ty := o.type) ht hinfo hz hs0 hown hb hone hsum h63 hB
  unfold Oper.wp execOp
  simp only [ho, resolve, invoke, builtin, Sem.run_bind, Sem.run_pure, Result.andThen_ok, List.map_toArray, List.map_cons, List.map_nil, hs, hx, hrun]
  exact hK _ _ (h v' w' g1 g2 ((Below.refl _ _).grown g2 hB hown.lt))
end Go.Proofs.Yteonidpgplhplaa
