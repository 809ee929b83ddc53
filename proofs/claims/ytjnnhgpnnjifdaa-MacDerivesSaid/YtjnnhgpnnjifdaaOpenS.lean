/- A []string that came in. -/
import Derived.Test.YtjnnhgpnnjifdaaOpenB
import Derived.Deep.Strs
namespace Go.Proofs.Ytjnnhgpnnjifdaa
open Go.RowKit Go.ChangeShapes Go.WideShapes

section
variable {H : Type} {enc : TypeId × Value → H}
theorem mem_bulkAll {l : List (DataW H)} {d : DataW H} (h : d ∈ l) : Rows.uptoBulk d ≤ Rows.uptoBulkAll l := by
  induction l with
  | nil => cases h
  | cons x r ih =>
    simp only [Rows.uptoBulkAll]
    rcases List.mem_cons.1 h with rfl | h
    · omega
    · have := ih h
      omega
set_option maxRecDepth 100000 in
theorem open_strings {W : World} {r : Reach} {b0 : Nat} {v : Value} {d : DataW H} {p : List MemPlace} (hv : Value.okWide Try.prog W r b0 37 v)
    (h : DataW.Trod enc Try.prog W 0 (fun _ => true) true 37 v d p) :
    ∃ ss : List ByteArray, Cs W W.heap.size v (ss.map Value.string) ∧ SizedAs d ss.length ∧ (∀ s ∈ ss, s.size ≤ Rows.uptoBulk d) ∧ ∀ N, (∀ n ∈ d.weights Try.prog 37, n ≤ N) → ∀ s ∈ ss, s.size ≤ N := by
  obtain ⟨a, len, cap, rfl⟩ := okWide_slice Try.underlying37 hv
  obtain ⟨fuel, hf⟩ := h
  rcases Go.Deep.open_strs Try.underlying37 Try.underlying9 (by kernel_rfl) hf with ⟨hcs, _⟩ | ⟨x, l, c, m, Sx, hcs, _, hl, hm, hmm, hx, hel⟩
  · simp [Value.cells] at hcs
    obtain ⟨rfl, rfl, rfl⟩ := hcs
    exact ⟨[], ⟨none, 0, rfl, Nat.le_refl _, Nat.zero_le _, fun h => absurd h (by simp)⟩, .inl rfl, by simp, by simp⟩
  · simp [Value.cells] at hcs
    obtain ⟨rfl, rfl, rfl⟩ := hcs
    simp only [if_true] at hmm
    simp only [Prod.mk.injEq] at hx
    refine ⟨(List.range len).map Sx, ⟨some x, cap, by simp, by simpa using hl, hm, fun hp => ?_⟩, .inr ⟨_, _, hx.1, by simp⟩, fun s hs => ?_, fun N hN s hs => ?_⟩
    · have hp' : 0 < len := by simpa using hp
      obtain ⟨b, off, sp⟩ := x
      have h0 := (hel 0 (by omega)).1
      have hsp : sp = none := by simpa [Addr.add] using World.cell?_spot h0
      subst hsp
      refine ⟨b, off, rfl, World.block_lt_of_cell? W ⟨b, off, none⟩ (by simpa [Addr.add] using h0), fun j hj => ?_⟩
      have hj' : j < len := by simpa using hj
      have h1 := (hel j (by omega)).1
      rw [add_none] at h1
      rw [h1]
      simp
    · obtain ⟨j, hj, rfl⟩ := List.mem_map.1 hs
      have hm := mem_bulkAll (List.mem_map.2 ⟨j, hj, rfl⟩ : DataW.lit (H := H) (.string (Sx j).data.toList) ∈ (List.range len).map fun i => DataW.lit (.string (Sx i).data.toList))
      rw [string_bulk] at hm
      rw [hx.1]
      simp only [Rows.uptoBulk]
      have e : (Sx j).data.toList.length = (Sx j).size := by simp
      omega
    · obtain ⟨j, hj, rfl⟩ := List.mem_map.1 hs
      rw [hx.1] at hN
      simp only [DataW.weights, Try.underlying37, List.mem_cons, List.mem_append] at hN
      have h4 := hN (Sx j).data.toList.length (.inr (.inl (mem_weightsAll (d := DataW.lit (H := H) (.string (Sx j).data.toList)) (List.mem_map.2 ⟨j, hj, rfl⟩) (by simp [DataW.weights]))))
      have e : (Sx j).data.toList.length = (Sx j).size := by simp
      omega
theorem reach_strings {d : DataW H} {ss : List ByteArray} (h : ∀ N, (∀ n ∈ d.weights Try.prog 37, n ≤ N) → ∀ s ∈ ss, s.size ≤ N) {ts : List TypeId} {ds : List (DataW H)}
    (hsz : (DataW.weightsEach Try.prog ts ds).all (· ≤ reachBytes) = true) {j : Nat} (ht : ts[j]? = some 37) (hd : ds[j]? = some d) : ∀ s ∈ ss, s.size ≤ 140737488351232 :=
  h 140737488351232 fun n hn => by
    have := List.all_eq_true.1 hsz _ (DataW.weights_mem_each ht hd n hn)
    exact of_decide_eq_true this
end
end Go.Proofs.Ytjnnhgpnnjifdaa
