/- Slices of structs of integers of several kinds; []uint64. -/
import Derived.Test.YtllajjlhdjhmfaaOpen
import Derived.Test.YtllajjlhdjhmfaaT15
namespace Go.Proofs.Ytllajjlhdjhmfaa
open Go.RowKit Go.ChangeShapes Go.WideShapes

/-- v is a slice of structs of f integers, the one at place i of kind kd i -/
def Sk (w : World) (B : Nat) (v : Value) (f : Nat) (kd : Nat → IntKind) (xs : List (List Int)) : Prop :=
  ∃ A c, v = .slice A xs.length c ∧ xs.length ≤ c ∧ c ≤ maxLen ∧
    (0 < xs.length → ∃ b off, A = some ⟨b, off, none⟩ ∧ b < B ∧ ∀ j (h : j < xs.length), xs[j].length = f ∧ ∀ i (hi : i < xs[j].length), w.cell? ⟨b, off + j * f + i, none⟩ = some (.int (kd i) xs[j][i]) ∧ (Lit.int (kd i) xs[j][i]).wf = true)
section
variable {H : Type} {enc : TypeId × Value → H}
set_option maxRecDepth 100000 in
theorem open_sk {W : World} {t e : TypeId} {fs : Array Field} {v : Value} {d : DataW H} {p : List MemPlace} (ht : Try.prog.underlying t = some (.slice e)) (he : Try.prog.underlying e = some (.struct fs))
    (hone : Go.Deep.oneCellFields Try.prog fs = true) (hpos : 0 < fs.size) (hC : Try.prog.cellsOf e = fs.size) (kd : Nat → IntKind) (hall : ∀ (j : Nat) (f : Field), fs[j]? = some f → Try.prog.underlying f.type = some (.int (kd j))) {r : Reach} {b0 : Nat} (hv : Value.okWide Try.prog W r b0 t v)
    (h : DataW.Trod enc Try.prog W 0 (fun _ => true) true t v d p) :
    ∃ xs, Sk W W.heap.size v fs.size kd xs ∧ SizedAs d xs.length := by
  obtain ⟨a, len, cap, rfl⟩ := okWide_slice ht hv
  obtain ⟨fuel, hf⟩ := h
  rcases Go.Deep.open_slice ht hf with ⟨hcs, _⟩ | ⟨x, l, c, m, n, D, Pl, hcs, _, hl, hm, hmm, hx, hel⟩
  · simp [Value.cells] at hcs
    obtain ⟨rfl, rfl, rfl⟩ := hcs
    exact ⟨[], ⟨none, 0, rfl, Nat.le_refl _, Nat.zero_le _, fun h => absurd h (by simp)⟩, .inl rfl⟩
  · simp [Value.cells] at hcs
    obtain ⟨rfl, rfl, rfl⟩ := hcs
    simp only [if_true] at hmm
    have hmm' := hmm.symm
    subst hmm'
    -- each element: its integers
    have each : ∀ i, i < len → ∃ z : List Int, z.length = fs.size ∧ ∀ k (hk : k < z.length), W.cell? (x.add (i * fs.size + k)) = some (.int (kd k) z[k]) ∧ (Lit.int (kd k) z[k]).wf = true := by
      intro i hi
      obtain ⟨cs', hc, ht'⟩ := hel i (by omega)
      rw [hC] at hc
      obtain ⟨_, hcl, hat⟩ := World.cells?_some hc
      obtain ⟨ys, n', _, _, _, hyl, hfld⟩ := DataW.trod_struct he ht'
      have one : ∀ k, k < fs.size → ∃ z : Int, cs'[k]? = some (.int (kd k) z) ∧ (Lit.int (kd k) z).wf = true := by
        intro k hk
        obtain ⟨f, hfk⟩ : ∃ f, fs[k]? = some f := ⟨fs[k], by simp [hk]⟩
        obtain ⟨ho, hk1⟩ := Go.Deep.hone_of hone k f hfk
        have h1 := hfld k f hfk
        rw [ho, hk1] at h1
        have hys : ys[k]? = some (ys[k]'(by omega)) := List.getElem?_eq_getElem (by omega)
        rw [hys] at h1
        obtain ⟨z, hz, _, hw⟩ := DataW.trod_int (hall k f hfk) h1
        refine ⟨z, ?_, hw⟩
        have h2 : (List.take 1 (List.drop k cs'))[0]? = some (.int (kd k) z) := by rw [hz]; rfl
        simpa [List.getElem?_take] using h2
      obtain ⟨Z, hZ⟩ := Go.Deep.choose_lt one
      refine ⟨(List.range fs.size).map Z, by simp, fun k hk => ?_⟩
      have hk' : k < fs.size := by simpa using hk
      have e1 := hat k hk'
      rw [(hZ k hk').1] at e1
      refine ⟨?_, by simpa using (hZ k hk').2⟩
      rw [← Go.Deep.add_add, e1]
      simp
    obtain ⟨Z, hZ⟩ := Go.Deep.choose_lt each
    simp only [Prod.mk.injEq] at hx
    refine ⟨(List.range len).map Z, ⟨some x, cap, by simp, by simpa using hl, hm, fun hp => ?_⟩, .inr ⟨_, _, hx.1, by simp⟩⟩
    have hp' : 0 < len := by simpa using hp
    obtain ⟨b, off, sp⟩ := x
    obtain ⟨hl0, hz0⟩ := hZ 0 hp'
    have h0 := (hz0 0 (by omega)).1
    rw [Nat.zero_mul, Nat.zero_add] at h0
    have hsp : sp = none := by simpa [Addr.add] using World.cell?_spot h0
    subst hsp
    refine ⟨b, off, rfl, World.block_lt_of_cell? W ⟨b, off, none⟩ (by simpa [Addr.add] using h0), fun j hj => ?_⟩
    have hj' : j < len := by simpa using hj
    obtain ⟨hlj, hzj⟩ := hZ j hj'
    have e1 : ((List.range len).map Z)[j] = Z j := by simp
    rw [e1]
    refine ⟨hlj, fun i hi => ?_⟩
    have h1 := hzj i hi
    rw [add_none, ← Nat.add_assoc] at h1
    exact h1
theorem open_us {W : World} {r : Reach} {b0 : Nat} {v : Value} {d : DataW H} {p : List MemPlace} (hv : Value.okWide Try.prog W r b0 68 v)
    (h : DataW.Trod enc Try.prog W 0 (fun _ => true) true 68 v d p) :
    ∃ l : List Int, Cs W W.heap.size v (l.map (Value.int .u64)) ∧ SizedAs d l.length := by
  obtain ⟨a, len, cap, rfl⟩ := okWide_slice Try.underlying68 hv
  obtain ⟨fuel, hf⟩ := h
  rcases open_ints Try.underlying68 Try.underlying74 (by kernel_rfl) hf with ⟨hcs, hx⟩ | ⟨x, l, c, zs, hcs, _, hl, hm, hz, hx, hcell, hwz⟩
  · simp [Value.cells] at hcs
    obtain ⟨rfl, rfl, rfl⟩ := hcs
    exact ⟨[], ⟨none, 0, rfl, Nat.le_refl _, Nat.zero_le _, fun h => absurd h (by simp)⟩, .inl rfl⟩
  · simp [Value.cells] at hcs
    obtain ⟨rfl, rfl, rfl⟩ := hcs
    simp only [if_true] at hz
    have hlen : (zs.take len).length = len := by simp; omega
    simp only [Prod.mk.injEq] at hx
    refine ⟨zs.take len, ⟨some x, cap, by rw [List.length_map, hlen], by rw [List.length_map]; omega, hm, fun hp => ?_⟩, .inr ⟨_, _, hx.1, by rw [hlen]; simp [lits]; omega⟩⟩
    obtain ⟨b, off, sp⟩ := x
    rw [List.length_map] at hp
    have h0 := hcell 0 (by omega)
    have hsp : sp = none := by simpa [Addr.add] using World.cell?_spot h0
    subst hsp
    refine ⟨b, off, rfl, ?_, fun j hj => ?_⟩
    · exact World.block_lt_of_cell? W ⟨b, off, none⟩ (by simpa [Addr.add] using h0)
    · rw [List.length_map] at hj
      have hj' : j < zs.length := by omega
      have := hcell j hj'
      rw [add_none] at this
      rw [this]
      simp [hj']

/-- the first two integers of a row -/
def pr2 (z : List Int) : Int × Int := (z.getD 0 0, z.getD 1 0)
theorem open_acks {W : World} {t e : TypeId} {f0 f1 : Field} {v : Value} {d : DataW H} {p : List MemPlace} (ht : Try.prog.underlying t = some (.slice e)) (he : Try.prog.underlying e = some (.struct #[f0, f1]))
    (hone : Go.Deep.oneCellFields Try.prog #[f0, f1] = true) (hC : Try.prog.cellsOf e = 2) (h0 : Try.prog.underlying f0.type = some (.int .i64)) (h1 : Try.prog.underlying f1.type = some (.int .u64)) {r : Reach} {b0 : Nat} (hv : Value.okWide Try.prog W r b0 t v)
    (h : DataW.Trod enc Try.prog W 0 (fun _ => true) true t v d p) :
    ∃ xs : List (Int × Int), P2 W (fun b => b < W.heap.size) v (av xs) ∧ SizedAs d xs.length := by
  obtain ⟨xs, ⟨A, c, hvv, g1, g2, g3⟩, hs⟩ := open_sk ht he hone (by simp) hC (fun j => if j = 0 then .i64 else .u64) (fun j f hj => by
    rcases j with _ | _ | j
    · simp at hj; subst hj; exact h0
    · simp at hj; subst hj; exact h1
    · simp at hj) hv h
  refine ⟨xs.map pr2, ⟨A, c, by rw [av_len, List.length_map]; exact hvv, by rw [av_len, List.length_map]; exact g1, g2, fun hp => ?_⟩, by simpa using hs⟩
  rw [av_len, List.length_map] at hp
  obtain ⟨b, off, rfl, hlt, hc⟩ := g3 hp
  refine ⟨b, off, rfl, hlt, hlt, fun j hj => ?_⟩
  have hjm := hj
  rw [av_len] at hjm
  rw [av_len, List.length_map] at hj
  obtain ⟨hl, hcc⟩ := hc j hj
  have hl2 : (xs[j]'hj).length = 2 := hl
  have q0 : 0 < (xs[j]'hj).length := by rw [hl2]; exact Nat.zero_lt_succ _
  have q1 : 1 < (xs[j]'hj).length := by rw [hl2]; exact Nat.lt_succ_self _
  have e0 := (hcc 0 q0).1
  have e1 := (hcc 1 q1).1
  rw [av_at]
  have p0 : ((xs.map pr2)[j]'hjm).1 = (xs[j]'hj)[0]'q0 := by
    rw [List.getElem_map]
    show (xs[j]'hj).getD 0 0 = _
    rw [List.getD_eq_getElem?_getD, List.getElem?_eq_getElem q0]
    rfl
  have p1 : ((xs.map pr2)[j]'hjm).2 = (xs[j]'hj)[1]'q1 := by
    rw [List.getElem_map]
    show (xs[j]'hj).getD 1 0 = _
    rw [List.getD_eq_getElem?_getD, List.getElem?_eq_getElem q1]
    rfl
  rw [p0, p1]
  exact ⟨e0, e1⟩
end
end Go.Proofs.Ytllajjlhdjhmfaa
