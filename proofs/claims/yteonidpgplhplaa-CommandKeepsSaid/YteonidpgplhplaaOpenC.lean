/- Commands that come in, read as data. -/
import Derived.Test.YteonidpgplhplaaOpenArr
import Derived.Test.YteonidpgplhplaaN4
namespace Go.Proofs.Yteonidpgplhplaa
open Go.ChangeShapes Go.WideShapes Go.RowKit

section
variable {H : Type} {enc : TypeId × Value → H}
set_option maxRecDepth 100000
theorem trod_cells {P : Program} {k e : TypeId} {n : Nat} {q : IntKind} {W : World} {base : Nat} {sp : Nat → Bool} {held : Bool} (A : WideMaps.ArrKey P k e n) (he : P.underlying e = some (.int q)) {fuel : Nat} {cs : List Value} {y : DataW H × List MemPlace}
    (hf : DataW.trod enc P W base sp held fuel k cs = some y) : cs.length = n ∧ ∀ i, i < n → ∃ a, cs[i]? = some (.int q a) ∧ (Lit.int q a).wf = true := by
  cases fuel with
  | zero => simp [DataW.trod] at hf
  | succ m =>
    rw [DataW.trod_step] at hf
    unfold DataW.trodStep at hf
    simp only [A.hu] at hf
    split at hf
    · rename_i hl
      simp only [Option.map_eq_some_iff] at hf
      obtain ⟨ys, hy, _⟩ := hf
      rw [A.one] at hy
      have hc := mapM_cells he _ ys hy
      exact ⟨by rw [hl, A.size], fun i hi => hc i (by simpa using hi)⟩
    · exact absurd hf (by simp)
theorem nat8 {x : Int} (h : (Lit.int .u8 x).wf = true) : ∃ n : Nat, x = (n : Int) ∧ n < 256 := by
  have h2 : 0 ≤ x ∧ x ≤ 255 := by simpa [Lit.wf, IntKind.min, IntKind.max, IntKind.signed, IntKind.bits] using h
  exact ⟨x.toNat, by omega, by omega⟩
theorem nat32 {x : Int} (h : (Lit.int .u32 x).wf = true) : ∃ n : Nat, x = (n : Int) ∧ n < 4294967296 := by
  have h2 : 0 ≤ x ∧ x ≤ 4294967295 := by simpa [Lit.wf, IntKind.min, IntKind.max, IntKind.signed, IntKind.bits] using h
  exact ⟨x.toNat, by omega, by omega⟩
theorem nat64 {x : Int} (h : (Lit.int .u64 x).wf = true) : ∃ n : Nat, x = (n : Int) ∧ n < 18446744073709551616 := by
  have := u64_bounds h
  exact ⟨x.toNat, by omega, by omega⟩
/-- bytes by their cells -/
theorem bytes_of {cs : List Value} {n : Nat} (hl : cs.length = n) (h : ∀ i, i < n → ∃ a, cs[i]? = some (.int .u8 a) ∧ (Lit.int .u8 a).wf = true) : ∃ l : List UInt8, l.length = n ∧ cs = l.map vb := by
  refine ⟨cs.map (fun v => match v with | .int _ a => UInt8.ofNat a.toNat | _ => 0), by simpa using hl, ?_⟩
  rw [List.map_map]
  apply List.ext_getElem?
  intro i
  rw [List.getElem?_map]
  by_cases hi : i < n
  · obtain ⟨a, ha, hw⟩ := h i hi
    rw [ha]
    simp only [Option.map_some, Function.comp, vb]
    rw [u8_back hw]
  · rw [List.getElem?_eq_none (by omega)]
    rfl
theorem trod_cmd {W : World} {base : Nat} {sp : Nat → Bool} {held : Bool} {fuel : Nat} {cs : List Value} {x : DataW H × List MemPlace} (h : DataW.trod enc Try.prog W base sp held fuel 26 cs = some x) : ∃ c : Cm, c.ok ∧ cs = c.cs := by
  obtain ⟨xs, n, _, _, hl, hxl, hf⟩ := DataW.trod_struct Try.underlying26 h
  have hl20 : cs.length = 20 := by rw [hl]; kernel_rfl
  have c8 : Try.prog.cellsOf 5 = 1 := by kernel_rfl
  have c32 : Try.prog.cellsOf 22 = 1 := by kernel_rfl
  have c64 : Try.prog.cellsOf 23 = 1 := by kernel_rfl
  have cm : Try.prog.cellsOf 24 = 16 := by kernel_rfl
  have hx5 : xs.length = 5 := hxl
  have f0 : DataW.trod enc Try.prog W base sp held n 5 ((cs.drop 0).take (Try.prog.cellsOf 5)) = xs[0]? := hf 0 _ rfl
  rw [c8, List.getElem?_eq_getElem (by omega)] at f0
  have f1 : DataW.trod enc Try.prog W base sp held n 5 ((cs.drop 1).take (Try.prog.cellsOf 5)) = xs[1]? := hf 1 _ rfl
  rw [c8, List.getElem?_eq_getElem (by omega)] at f1
  have f2 : DataW.trod enc Try.prog W base sp held n 22 ((cs.drop 2).take (Try.prog.cellsOf 22)) = xs[2]? := hf 2 _ rfl
  rw [c32, List.getElem?_eq_getElem (by omega)] at f2
  have f3 : DataW.trod enc Try.prog W base sp held n 23 ((cs.drop 3).take (Try.prog.cellsOf 23)) = xs[3]? := hf 3 _ rfl
  rw [c64, List.getElem?_eq_getElem (by omega)] at f3
  have f4 : DataW.trod enc Try.prog W base sp held n 24 ((cs.drop 4).take (Try.prog.cellsOf 24)) = xs[4]? := hf 4 _ rfl
  rw [cm, List.getElem?_eq_getElem (by omega)] at f4
  obtain ⟨k, e0, _, w0⟩ := DataW.trod_int Try.underlying5 f0
  obtain ⟨f, e1, _, w1⟩ := DataW.trod_int Try.underlying5 f1
  obtain ⟨d, e2, _, w2⟩ := DataW.trod_int Try.underlying22 f2
  obtain ⟨n', e3, _, w3⟩ := DataW.trod_int Try.underlying23 f3
  obtain ⟨hml, hm⟩ := trod_cells (n := 16) ⟨Try.underlying24, by kernel_rfl, by kernel_rfl, by kernel_rfl⟩ Try.underlying5 f4
  obtain ⟨m, hm16, em⟩ := bytes_of hml hm
  obtain ⟨k, rfl, hk⟩ := nat8 w0
  obtain ⟨f, rfl, hff⟩ := nat8 w1
  obtain ⟨d, rfl, hd⟩ := nat32 w2
  obtain ⟨n', rfl, hn⟩ := nat64 w3
  refine ⟨⟨k, f, d, n', m⟩, ⟨hk, hff, hd, hn, hm16⟩, ?_⟩
  have hcat : cs = (cs.drop 0).take 1 ++ ((cs.drop 1).take 1 ++ ((cs.drop 2).take 1 ++ ((cs.drop 3).take 1 ++ (cs.drop 4).take 16))) := by
    have e4 : (cs.drop 4).take 16 = cs.drop 4 := List.take_of_length_le (by rw [List.length_drop]; omega)
    rw [e4]
    match cs, hl20 with
    | a :: b :: c :: d :: r, _ => rfl
  rw [hcat, e0, e1, e2, e3, em]
  rfl
theorem open_cmd {W : World} {base : Nat} {sp : Nat → Bool} {held : Bool} {r : Reach} {b0 : Nat} {v : Value} {d : DataW H} {ps : List MemPlace} (hv : Value.okWide Try.prog W r b0 26 v) (hd : DataW.Trod enc Try.prog W base sp held 26 v d ps) :
    ∃ c : Cm, c.ok ∧ v = .agg c.cs.toArray := by
  obtain ⟨cs, rfl, _⟩ := okWide_struct Try.underlying26 hv
  obtain ⟨fuel, hf⟩ := hd
  obtain ⟨c, hc, e⟩ := trod_cmd hf
  refine ⟨c, hc, ?_⟩
  rw [← e]
  simp [Value.cells]
theorem open_cmds {W : World} {v : Value} {d : DataW H} {p : List MemPlace} {r : Reach} {b0 : Nat} (hv : Value.okWide Try.prog W r b0 45 v) (h : DataW.Trod enc Try.prog W 0 (fun _ => true) true 45 v d p) :
    ∃ cs : List Cm, Gs W W.heap.size v 20 (cs.map Cm.cs) ∧ (∀ c ∈ cs, c.ok) ∧ SizedAs d cs.length := by
  obtain ⟨a, len, cap, rfl⟩ := okWide_slice Try.underlying45 hv
  obtain ⟨fuel, hf⟩ := h
  rcases Go.Deep.open_slice Try.underlying45 hf with ⟨hcs, _⟩ | ⟨x, l, c, m, n, D, Pl, hcs, _, hl, hm, hmm, hx, hel⟩
  · simp [Value.cells] at hcs
    obtain ⟨rfl, rfl, rfl⟩ := hcs
    exact ⟨[], Gs.nil _ _ _, by simp, .inl rfl⟩
  · simp [Value.cells] at hcs
    obtain ⟨rfl, rfl, rfl⟩ := hcs
    simp only [if_true] at hmm
    have hmm' := hmm.symm
    subst hmm'
    have hC : Try.prog.cellsOf 26 = 20 := by kernel_rfl
    have each : ∀ i, i < len → ∃ z : Cm, z.ok ∧ ∀ j u, z.cs[j]? = some u → W.cell? (x.add (i * 20 + j)) = some u := by
      intro i hi
      obtain ⟨cs', hc, ht'⟩ := hel i (by omega)
      rw [hC] at hc
      obtain ⟨_, hcl, hat⟩ := World.cells?_some hc
      obtain ⟨z, hz, rfl⟩ := trod_cmd ht'
      refine ⟨z, hz, fun j u hu => ?_⟩
      have hj : j < 20 := by rw [← Cm.len hz]; exact (List.getElem?_eq_some_iff.1 hu).1
      have e := hat j hj
      rw [Go.Deep.add_add] at e
      rw [e, hu]
    haveI : Inhabited Cm := ⟨⟨0, 0, 0, 0, []⟩⟩
    obtain ⟨Z, hZ⟩ := Go.Deep.choose_lt each
    simp only [Prod.mk.injEq] at hx
    refine ⟨(List.range len).map Z, ⟨some x, cap, by simp, by simpa using hl, hm, ?_, fun hp => ?_⟩, ?_, .inr ⟨_, _, hx.1, by simp⟩⟩
    · intro y hy
      simp only [List.map_map, List.mem_map, List.mem_range] at hy
      obtain ⟨j, hj, rfl⟩ := hy
      exact Cm.len (hZ j hj).1
    · have hp' : 0 < len := by simpa using hp
      obtain ⟨b, off, sp⟩ := x
      have h0 := (hZ 0 hp').2 0 _ rfl
      rw [Nat.zero_mul, Nat.zero_add] at h0
      have hsp : sp = none := by simpa [Addr.add] using World.cell?_spot h0
      subst hsp
      refine ⟨b, off, rfl, World.block_lt_of_cell? W ⟨b, off, none⟩ (by simpa [Addr.add] using h0), fun j hj => ?_⟩
      have hj' : j < len := by simpa using hj
      have e1 : (((List.range len).map Z).map Cm.cs)[j] = (Z j).cs := by simp
      rw [e1]
      intro i u hu
      have h1 := (hZ j hj').2 i u hu
      rw [add_none, ← Nat.add_assoc] at h1
      exact h1
    · intro y hy
      simp only [List.mem_map, List.mem_range] at hy
      obtain ⟨j, hj, rfl⟩ := hy
      exact (hZ j hj).1
end
end Go.Proofs.Yteonidpgplhplaa
