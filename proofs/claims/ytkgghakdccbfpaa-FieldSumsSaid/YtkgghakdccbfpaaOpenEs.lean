/- A slice of elements that comes in, read as data. -/
import Derived.Test.YtkgghakdccbfpaaOpenEl
import Derived.Test.YtkgghakdccbfpaaF11
import Derived.Deep.Slices
import Derived.Deep.Fields
import Derived.Deep.Matrix
namespace Go.Proofs.Ytkgghakdccbfpaa
open Go.ChangeShapes Go.WideShapes Go.RowKit

theorem trod_cells {H : Type} {enc : TypeId × Value → H} {P : Program} {k e : TypeId} {n : Nat} {q : IntKind} {W : World} {base : Nat} {sp : Nat → Bool} {held : Bool} (A : WideMaps.ArrKey P k e n) (he : P.underlying e = some (.int q)) {fuel : Nat} {cs : List Value} {y : DataW H × List MemPlace}
    (hf : DataW.trod enc P W base sp held fuel k cs = some y) : ∀ i, i < n → ∃ a, cs[i]? = some (.int q a) ∧ (Lit.int q a).wf = true := by
  cases fuel with
  | zero => simp [DataW.trod] at hf
  | succ m =>
    rw [DataW.trod_step] at hf
    unfold DataW.trodStep at hf
    simp only [A.hu] at hf
    split at hf
    · simp only [Option.map_eq_some_iff] at hf
      obtain ⟨ys, hy, _⟩ := hf
      rw [A.one] at hy
      have hc := mapM_cells he _ ys hy
      exact fun i hi => hc i (by simpa using hi)
    · exact absurd hf (by simp)

set_option maxRecDepth 100000 in
set_option maxHeartbeats 4000000 in
theorem open_es {H : Type} {enc : TypeId × Value → H} {W : World} {t k e : TypeId} {v : Value} {d : DataW H} {p : List MemPlace} (ht : Try.prog.underlying t = some (.slice k)) (A : WideMaps.ArrKey Try.prog k e 4) (he : Try.prog.underlying e = some (.int .u64)) (hC : Try.prog.cellsOf k = 4)
    {r : Reach} {b0 : Nat} (hv : Value.okWide Try.prog W r b0 t v) (h : DataW.Trod enc Try.prog W 0 (fun _ => true) true t v d p) :
    ∃ xs, Es W W.heap.size v xs ∧ SizedAs d xs.length := by
  obtain ⟨a, len, cap, rfl⟩ := okWide_slice ht hv
  obtain ⟨fuel, hf⟩ := h
  rcases Go.Deep.open_slice ht hf with ⟨hcs, _⟩ | ⟨x, l, c, m, n, D, Pl, hcs, _, hl, hm, hmm, hx, hel⟩
  · simp [Value.cells] at hcs
    obtain ⟨rfl, rfl, rfl⟩ := hcs
    exact ⟨[], ⟨none, 0, rfl, Nat.le_refl _, Nat.zero_le _, fun h => absurd h (by simp)⟩, .inl rfl⟩
  · simp [Value.cells] at hcs
    obtain ⟨rfl, rfl, rfl⟩ := hcs
    simp only [if_true] at hmm
    have hmm' := hmm.symm
    subst hmm'
    have each : ∀ i, i < len → ∃ V : Nat, V < W4 ∧ ∀ j, j < 4 → W.cell? (x.add (i * 4 + j)) = some (.int .u64 (limb V j : Int)) := by
      intro i hi
      obtain ⟨cs', hc, ht'⟩ := hel i (by omega)
      rw [hC] at hc
      obtain ⟨_, hcl, hat⟩ := World.cells?_some hc
      have one := trod_cells A he ht'
      obtain ⟨z0, g0, w0⟩ := one 0 (by omega)
      obtain ⟨z1, g1, w1⟩ := one 1 (by omega)
      obtain ⟨z2, g2, w2⟩ := one 2 (by omega)
      obtain ⟨z3, g3, w3⟩ := one 3 (by omega)
      obtain ⟨n0, rfl, h0⟩ := nat_of w0
      obtain ⟨n1, rfl, h1⟩ := nat_of w1
      obtain ⟨n2, rfl, h2⟩ := nat_of w2
      obtain ⟨n3, rfl, h3⟩ := nat_of w3
      obtain ⟨e0, e1, e2, e3⟩ := lof ⟨h0, h1, h2, h3⟩
      obtain ⟨q0, q1, q2, q3⟩ := limbs_of (v4 n0 n1 n2 n3)
      refine ⟨v4 n0 n1 n2 n3, v4_lt ⟨h0, h1, h2, h3⟩, fun j hj => ?_⟩
      have e := hat j (by omega)
      rw [Go.Deep.add_add] at e
      rcases (by omega : j = 0 ∨ j = 1 ∨ j = 2 ∨ j = 3) with rfl | rfl | rfl | rfl
      · rw [q0, e0, e, g0]
      · rw [q1, e1, e, g1]
      · rw [q2, e2, e, g2]
      · rw [q3, e3, e, g3]
    obtain ⟨Z, hZ⟩ := Go.Deep.choose_lt each
    simp only [Prod.mk.injEq] at hx
    refine ⟨(List.range len).map Z, ⟨some x, cap, by simp, by simpa using hl, hm, fun hp => ?_⟩, .inr ⟨_, _, hx.1, by simp⟩⟩
    have hp' : 0 < len := by simpa using hp
    obtain ⟨b, off, sp⟩ := x
    have h0 := (hZ 0 hp').2 0 (by omega)
    rw [Nat.zero_mul, Nat.zero_add] at h0
    have hsp : sp = none := by simpa [Addr.add] using World.cell?_spot h0
    subst hsp
    refine ⟨b, off, rfl, World.block_lt_of_cell? W ⟨b, off, none⟩ (by simpa [Addr.add] using h0), fun j hj => ?_⟩
    have hj' : j < len := by simpa using hj
    obtain ⟨hlj, hzj⟩ := hZ j hj'
    have e1 : ((List.range len).map Z)[j] = Z j := by simp
    rw [e1]
    refine ⟨hlj, fun i hi => ?_⟩
    have h1 := hzj i hi
    rw [add_none, ← Nat.add_assoc] at h1
    exact h1
end Go.Proofs.Ytkgghakdccbfpaa
