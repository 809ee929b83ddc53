/- An array of words or bytes that comes in by value, read as data. -/
import Derived.Test.YtgkglielcbgpiaaOpenB
import Derived.WideKeyArr2
namespace Go.Proofs.Ytgkglielcbgpiaa
open Go.ChangeShapes Go.WideShapes Go.RowKit

section
variable {H : Type} {enc : TypeId × Value → H} {P : Program} {k e : TypeId} {n : Nat} {q : IntKind} {W : World} {base : Nat} {sp : Nat → Bool} {held : Bool}

theorem mapM_cells (he : P.underlying e = some (.int q)) {m : Nat} {cs : List Value} : ∀ (L : List Nat) (xs : List (DataW H × List MemPlace)),
    L.mapM (fun i => DataW.trod enc P W base sp held m e ((cs.drop (i * 1)).take 1)) = some xs → ∀ i ∈ L, ∃ a, cs[i]? = some (.int q a) ∧ (Lit.int q a).wf = true
  | [], _, _ => by simp
  | i :: L, xs, h => by
    rw [List.mapM_cons] at h
    simp only [bind, Option.bind_eq_some_iff, pure, Option.some.injEq] at h
    obtain ⟨y, hy, ys, hys, rfl⟩ := h
    have ih := mapM_cells he L ys hys
    obtain ⟨a, ea, _, wa⟩ := DataW.trod_int he hy
    intro j hj
    rcases List.mem_cons.1 hj with rfl | hj
    · refine ⟨a, ?_, wa⟩
      have h1 : ((cs.drop (j * 1)).take 1)[0]? = some (.int q a) := by rw [ea]; rfl
      rw [List.getElem?_take, if_pos (by omega), List.getElem?_drop] at h1
      simpa using h1
    · exact ih j hj
theorem open_cells (A : WideMaps.ArrKey P k e n) (he : P.underlying e = some (.int q)) {r : Reach} {b0 : Nat} {v : Value} {d : DataW H} {ps : List MemPlace} (hv : Value.okWide P W r b0 k v) (hd : DataW.Trod enc P W base sp held k v d ps) :
    ∃ l : List Int, v = .agg (l.map (Value.int q)).toArray ∧ l.length = n ∧ ∀ x ∈ l, (Lit.int q x).wf = true := by
  obtain ⟨xs, rfl, hn⟩ := WideMaps.okWide_arr A hv
  obtain ⟨fuel, hf⟩ := hd
  cases fuel with
  | zero => simp [DataW.trod] at hf
  | succ m =>
    rw [DataW.trod_step] at hf
    unfold DataW.trodStep at hf
    simp only [A.hu, Value.cells] at hf
    rw [if_pos (by rw [A.size]; simpa using hn)] at hf
    simp only [Option.map_eq_some_iff] at hf
    obtain ⟨ys, hy, _⟩ := hf
    rw [A.one] at hy
    have hc := mapM_cells he _ ys hy
    refine ⟨xs.toList.map (fun v => match v with | .int _ a => a | _ => 0), ?_, by simpa using hn, ?_⟩
    · congr 1
      apply Array.ext'
      simp only [List.map_map]
      apply List.ext_getElem?
      intro i
      by_cases hi : i < n
      · obtain ⟨a, ha, _⟩ := hc i (by simpa using hi)
        simp [ha]
      · have h1 : xs[i]? = none := Array.getElem?_eq_none (by omega)
        simp [h1]
    · intro x hx
      obtain ⟨v, hv, rfl⟩ := List.mem_map.1 hx
      obtain ⟨i, hi, rfl⟩ := List.mem_iff_getElem.1 hv
      obtain ⟨a, ha, wa⟩ := hc i (by simp at hi; simpa [hn] using hi)
      rw [List.getElem?_eq_getElem hi, Option.some.injEq] at ha
      rw [ha]
      exact wa
end
theorem words_of : ∀ l : List Int, (∀ x ∈ l, (Lit.int .u32 x).wf = true) → ∃ l' : List UInt32, l = l'.map (fun x => (x.toNat : Int))
  | [], _ => ⟨[], rfl⟩
  | x :: l, h => by
    obtain ⟨l', hl⟩ := words_of l (fun y hy => h y (by simp [hy]))
    have hx : 0 ≤ x ∧ x ≤ 4294967295 := by simpa [Lit.wf, IntKind.min, IntKind.max, IntKind.signed, IntKind.bits] using h x (by simp)
    refine ⟨UInt32.ofNat x.toNat :: l', ?_⟩
    rw [hl, List.map_cons, UInt32.toNat_ofNat']
    congr 1
    omega
theorem open_words {H : Type} {enc : TypeId × Value → H} {P : Program} {k e : TypeId} {n : Nat} {W : World} {base : Nat} {sp : Nat → Bool} {held : Bool} (A : WideMaps.ArrKey P k e n) (he : P.underlying e = some (.int .u32)) {r : Reach} {b0 : Nat} {v : Value} {d : DataW H} {ps : List MemPlace}
    (hv : Value.okWide P W r b0 k v) (hd : DataW.Trod enc P W base sp held k v d ps) :
    ∃ l : List UInt32, v = .agg (l.map fun x => Value.int .u32 (x.toNat : Int)).toArray ∧ l.length = n := by
  obtain ⟨l, rfl, hn, hw⟩ := open_cells A he hv hd
  obtain ⟨l', rfl⟩ := words_of l hw
  exact ⟨l', by rw [List.map_map]; rfl, by simpa using hn⟩
end Go.Proofs.Ytgkglielcbgpiaa
