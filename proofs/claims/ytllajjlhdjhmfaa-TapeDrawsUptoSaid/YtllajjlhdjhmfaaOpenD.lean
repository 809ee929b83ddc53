/- Slices of slices of ints. -/
import Derived.Test.YtllajjlhdjhmfaaOpen
import Derived.Test.YtllajjlhdjhmfaaT18
namespace Go.Proofs.Ytllajjlhdjhmfaa
open Go.RowKit Go.ChangeShapes Go.WideShapes

section
variable {H : Type} {enc : TypeId × Value → H}
set_option maxRecDepth 100000 in
theorem open_iss {W : World} {r : Reach} {b0 : Nat} {v : Value} {d : DataW H} {p : List MemPlace} (hv : Value.okWide Try.prog W r b0 23 v)
    (h : DataW.Trod enc Try.prog W 0 (fun _ => true) true 23 v d p) :
    ∃ xss, Iss W W.heap.size v xss ∧ xss.length + xss.flatten.length ≤ Rows.uptoBulk d := by
  obtain ⟨a, len, cap, rfl⟩ := okWide_slice Try.underlying23 hv
  obtain ⟨fuel, hf⟩ := h
  rcases Go.Deep.open_int_rows Try.underlying23 Try.underlying34 Try.underlying3 (by kernel_rfl) (by kernel_rfl) hf with ⟨hcs, _⟩ | ⟨x, l, c, A, L, C, Z, hcs, _, hl, hm, hx, hr⟩
  · simp [Value.cells] at hcs
    obtain ⟨rfl, rfl, rfl⟩ := hcs
    exact ⟨[], ⟨none, 0, rfl, Nat.le_refl _, Nat.zero_le _, fun h => absurd h (by simp)⟩, Nat.zero_le _⟩
  · simp [Value.cells] at hcs
    obtain ⟨rfl, rfl, rfl⟩ := hcs
    simp only [Prod.mk.injEq] at hx
    have hlen : ∀ r, r < cap → ((Z r).take (L r)).length = L r := by
      intro r hrc
      obtain ⟨_, h1, _, h3, _⟩ := hr r hrc
      simp; omega
    refine ⟨(List.range len).map fun r => (Z r).take (L r), ⟨some x, cap, by simp, by simpa using hl, hm, fun hp => ?_⟩, ?_⟩
    · have hp' : 0 < len := by simpa using hp
      obtain ⟨b, off, sp⟩ := x
      have h0 := (hr 0 (by omega)).1
      have hsp : sp = none := by simpa [Addr.add] using World.cell?_spot h0
      subst hsp
      refine ⟨b, off, rfl, World.block_lt_of_cell? W ⟨b, off, none⟩ (by simpa [Addr.add] using h0), fun j hj => ?_⟩
      have hj' : j < len := by simpa using hj
      obtain ⟨hc1, hLC, hCm, hZC, hwf, hnone, hsome⟩ := hr j (by omega)
      rw [add_none] at hc1
      have e1 : ((List.range len).map fun r => (Z r).take (L r))[j] = (Z j).take (L j) := by simp
      refine ⟨_, hc1, ?_⟩
      rw [e1]
      have hlj := hlen j (by omega)
      refine ⟨A j, C j, by rw [hlj], by omega, hCm, fun hq => ?_⟩
      rcases hA : A j with _ | a'
      · have := hnone hA
        omega
      · obtain ⟨_, hcells⟩ := hsome a' hA
        obtain ⟨b', off', sp'⟩ := a'
        have h0' := hcells 0 (by omega)
        have hsp' : sp' = none := by simpa [Addr.add] using World.cell?_spot h0'
        subst hsp'
        refine ⟨b', off', rfl, World.block_lt_of_cell? W ⟨b', off', none⟩ (by simpa [Addr.add] using h0'), fun i hi => ?_⟩
        have hiZ : i < (Z j).length := by omega
        have h2 := hcells i (by omega)
        rw [add_none] at h2
        rw [h2]
        refine ⟨?_, hwf _ (List.mem_of_mem_take (List.getElem_mem hi))⟩
        simp [hiZ]
    · rw [hx.1]
      have h1 := bulkAll_range (fun r => Go.Deep.intRow (H := H) .i64 (A r) (L r) (Z r)) L len (fun r hrl => by
        obtain ⟨_, hLC, _, hZC, _, hnone, _⟩ := hr r (by omega)
        rcases hA : A r with _ | a'
        · have := hnone hA
          simp [Go.Deep.intRow, Rows.uptoBulk]
          omega
        · have h2 := length_le (H := H) (lits .i64 ((Z r).take (L r)))
          have h3 : (lits (H := H) .i64 ((Z r).take (L r))).length = L r := by simp [lits]; omega
          simp only [Go.Deep.intRow, Rows.uptoBulk]
          omega)
      have h2 : ((List.range len).map fun r => (Z r).take (L r)).flatten.length = ((List.range len).map L).sum := by
        rw [List.length_flatten, List.map_map]
        congr 1
        apply List.map_congr_left
        intro r hrl
        exact hlen r (by have := List.mem_range.1 hrl; omega)
      simp only [Rows.uptoBulk]
      rw [h2]
      simp only [List.length_map, List.length_range]
      omega
theorem mem_len {xss : List (List Int)} {zs : List Int} (h : zs ∈ xss) : zs.length ≤ xss.flatten.length := by
  induction xss with
  | nil => simp at h
  | cons x r ih =>
    rw [List.flatten_cons, List.length_append]
    rcases List.mem_cons.1 h with rfl | h
    · omega
    · have := ih h; omega
end
end Go.Proofs.Ytllajjlhdjhmfaa
