/- curve's rung: closed facts, contracts of its calls. -/
import Derived.Test.YtgkglielcbgpiaaK1
import Derived.Test.YtgkglielcbgpiaaMO3
namespace Go.Proofs.Ytgkglielcbgpiaa
open Go.RowKit

set_option maxRecDepth 100000
theorem fieldR0 (b : Nat) (W : World) : (Instr.fieldAt 29 (.pointer (some ⟨b, 0, none⟩)) 0).run Try.prog W = .ok (.pointer (some ⟨b, 0, none⟩)) W := by kernel_rfl
theorem fieldR1 (b : Nat) (W : World) : (Instr.fieldAt 29 (.pointer (some ⟨b, 0, none⟩)) 1).run Try.prog W = .ok (.pointer (some ⟨b, 4, none⟩)) W := by kernel_rfl
theorem allocEl (W : World) : (Instr.alloc 26 true (.tuple #[])).run Try.prog W = .ok (.pointer (some ⟨W.heap.size, 0, none⟩)) (W.alloc (.cells ([.int .u64 0, .int .u64 0, .int .u64 0, .int .u64 0] : List Value).toArray 26)) := by kernel_rfl
theorem allocRt (W : World) : (Instr.alloc 29 true (.tuple #[])).run Try.prog W = .ok (.pointer (some ⟨W.heap.size, 0, none⟩)) (W.alloc (.cells ([.int .u64 0, .int .u64 0, .int .u64 0, .int .u64 0, .int .u64 0, .int .u64 0, .int .u64 0, .int .u64 0] : List Value).toArray 29)) := by kernel_rfl
theorem bsEl2 (A B : Nat) (W : World) : (Instr.buildSlice 86 2 #[(0, .agg #[.int .u64 (l0 (A) : Int), .int .u64 (l1 (A) : Int), .int .u64 (l2 (A) : Int), .int .u64 (l3 (A) : Int)]), (1, .agg #[.int .u64 (l0 (B) : Int), .int .u64 (l1 (B) : Int), .int .u64 (l2 (B) : Int), .int .u64 (l3 (B) : Int)])]).run Try.prog W = .ok (.slice (some ⟨W.heap.size, 0, none⟩) 2 2) (W.alloc (.cells ([.int .u64 (l0 (A) : Int), .int .u64 (l1 (A) : Int), .int .u64 (l2 (A) : Int), .int .u64 (l3 (A) : Int), .int .u64 (l0 (B) : Int), .int .u64 (l1 (B) : Int), .int .u64 (l2 (B) : Int), .int .u64 (l3 (B) : Int)] : List Value).toArray 26)) := by kernel_rfl
theorem buildRt (A B : Nat) (W : World) : (Instr.build 29 #[(0, .agg #[.int .u64 (l0 (A) : Int), .int .u64 (l1 (A) : Int), .int .u64 (l2 (A) : Int), .int .u64 (l3 (A) : Int)]), (1, .agg #[.int .u64 (l0 (B) : Int), .int .u64 (l1 (B) : Int), .int .u64 (l2 (B) : Int), .int .u64 (l3 (B) : Int)])]).run Try.prog W = .ok (.agg #[.int .u64 (l0 (A) : Int), .int .u64 (l1 (A) : Int), .int .u64 (l2 (A) : Int), .int .u64 (l3 (A) : Int), .int .u64 (l0 (B) : Int), .int .u64 (l1 (B) : Int), .int .u64 (l2 (B) : Int), .int .u64 (l3 (B) : Int)]) W := by kernel_rfl
theorem results_cell2 {P : Program} {fn : Func} {p q : Tmp} {ty ty2 : TypeId} (h : fn.results = #[.cell p ty, .cell q ty2]) (tmps : Array Value) (w : World) (g g2 : Nat) (t t2 : TypeId) (fr fr2 : Nat × Nat) (cs ds : Array Value) {d d2 : TypeDesc}
    (hp : tmps.getD p undef = .pointer (some ⟨g, 0, none⟩)) (hq : tmps.getD q undef = .pointer (some ⟨g2, 0, none⟩)) (hg : w.heap[g]? = some (.cells cs t fr)) (hg2 : w.heap[g2]? = some (.cells ds t2 fr2))
    (hu : P.underlying ty = some d) (hd : (match d with | .struct _ | .array _ _ => true | _ => false) = true) (hu2 : P.underlying ty2 = some d2) (hd2 : (match d2 with | .struct _ | .array _ _ => true | _ => false) = true) (hi : (P.info? ty).map (·.size) = some cs.size) (hi2 : (P.info? ty2).map (·.size) = some ds.size) :
    (results fn tmps).run P w = .ok (.tuple #[.agg cs, .agg ds]) w := by
  have hp' : tmps[p]?.getD undef = .pointer (some ⟨g, 0, none⟩) := by simpa using hp
  have hq' : tmps[q]?.getD undef = .pointer (some ⟨g2, 0, none⟩) := by simpa using hq
  simp [results, h, hp', hq', asAddr, run_loadVar_row w g t ty cs fr d hg hu hd hi, run_loadVar_row w g2 t2 ty2 ds fr2 d2 hg2 hu2 hd2 hi2]
theorem undEl : Try.prog.underlying 26 = some (.array 4 24) := by kernel_rfl
/-- an operation that yields is taken first, its slot written out -/
theorem takeD {P : Program} {ops : Array Oper} {Q : Exit → Act → World → Prop} {md : Region.Mode} {S : World → Prop} {i : Nat} {oi : Oper} {d : Option Nat} {v : Value} {fuel : Nat} {listed : Array Bool} {a : Act} {w : World} (hi : ops[i]? = some oi) (hd : oi.dst = d)
    (hs : Region.noSelect ops = true) (hf : Region.free md ops listed i = true) (hr : (Region.ready md ops listed).contains i = true)
    (hQ : ∀ c a w, Q (.panic c) (a.put d v) w → Q (.panic c) a w) (hy : YieldsIf P ops S oi v a) (hS : S w)
    (h : wpAnyH P md ops Q S fuel (listed.setIfInBounds i true) (a.put d v) w) : wpAnyH P md ops Q S (fuel + 1) listed a w := by
  subst hd
  exact wpAnyH_take hi hs hf hr hQ hy hS h
theorem sumK {A B V : Nat} {W : World} {g : Nat} (hA : A < W4) (hB : B < W4) (e : V = sumP [A, B]) (h : RowL W g [.int .u64 (l0 (A) : Int), .int .u64 (l1 (A) : Int), .int .u64 (l2 (A) : Int), .int .u64 (l3 (A) : Int), .int .u64 (l0 (B) : Int), .int .u64 (l1 (B) : Int), .int .u64 (l2 (B) : Int), .int .u64 (l3 (B) : Int)] 26) : Calls Try.prog 21 #[.slice (some ⟨g, 0, none⟩) 2 2] W fun e w' => e = .returned (.agg #[.int .u64 (l0 (V) : Int), .int .u64 (l1 (V) : Int), .int .u64 (l2 (V) : Int), .int .u64 (l3 (V) : Int)]) ∧ Below W.heap.size W w' := by subst e; exact sumE (es_two hA hB h)
theorem prodK {A B V : Nat} {W : World} {g : Nat} (hA : A < W4) (hB : B < W4) (e : V = prodP [A, B]) (h : RowL W g [.int .u64 (l0 (A) : Int), .int .u64 (l1 (A) : Int), .int .u64 (l2 (A) : Int), .int .u64 (l3 (A) : Int), .int .u64 (l0 (B) : Int), .int .u64 (l1 (B) : Int), .int .u64 (l2 (B) : Int), .int .u64 (l3 (B) : Int)] 26) : Calls Try.prog 22 #[.slice (some ⟨g, 0, none⟩) 2 2] W fun e w' => e = .returned (.agg #[.int .u64 (l0 (V) : Int), .int .u64 (l1 (V) : Int), .int .u64 (l2 (V) : Int), .int .u64 (l3 (V) : Int)]) ∧ Below W.heap.size W w' := by subst e; exact prodE (es_two hA hB h)
theorem subK {A B V : Nat} {W : World} (hA : A < W4) (hB : B < W4) (e : V = subN A B) : Calls Try.prog 23 #[.agg #[.int .u64 (l0 (A) : Int), .int .u64 (l1 (A) : Int), .int .u64 (l2 (A) : Int), .int .u64 (l3 (A) : Int)], .agg #[.int .u64 (l0 (B) : Int), .int .u64 (l1 (B) : Int), .int .u64 (l2 (B) : Int), .int .u64 (l3 (B) : Int)]] W fun e w' => e = .returned (.agg #[.int .u64 (l0 (V) : Int), .int .u64 (l1 (V) : Int), .int .u64 (l2 (V) : Int), .int .u64 (l3 (V) : Int)]) ∧ Below W.heap.size W w' := by subst e; exact subE hA hB W
theorem sqK {A V : Nat} {W : World} (hA : A < W4) (e : V = A * A % PP) : Calls Try.prog 25 #[.agg #[.int .u64 (l0 (A) : Int), .int .u64 (l1 (A) : Int), .int .u64 (l2 (A) : Int), .int .u64 (l3 (A) : Int)]] W fun e w' => e = .returned (.agg #[.int .u64 (l0 (V) : Int), .int .u64 (l1 (V) : Int), .int .u64 (l2 (V) : Int), .int .u64 (l3 (V) : Int)]) ∧ Below W.heap.size W w' := by subst e; exact squareE hA W
theorem ofK (W : World) : Calls Try.prog 12 #[.int .u64 121665] W fun e w' => e = .returned (.agg #[.int .u64 (l0 (121665) : Int), .int .u64 (l1 (121665) : Int), .int .u64 (l2 (121665) : Int), .int .u64 (l3 (121665) : Int)]) ∧ Below W.heap.size W w' := ofE 121665 (by omega) W
theorem sumP_lt4 (xs : List Nat) : sumP xs < W4 := Nat.lt_trans (sumP_lt _) PP_lt
theorem foldP_lt : ∀ (xs : List Nat) (s : Nat), s < PP → xs.foldl mulP s < PP
  | [], _, h => h
  | _ :: xs, _, _ => foldP_lt xs _ (Nat.mod_lt _ (by decide))
theorem prodP_lt4 (xs : List Nat) : prodP xs < W4 := Nat.lt_trans (foldP_lt xs _ (Nat.mod_lt _ (by decide))) PP_lt
theorem list13 (l : List Value) (h : l.length = 13) : ∃ v0 v1 v2 v3 v4 v5 v6 v7 v8 v9 v10 v11 v12, l = [v0, v1, v2, v3, v4, v5, v6, v7, v8, v9, v10, v11, v12] := by
  match l, h with
  | [v0, v1, v2, v3, v4, v5, v6, v7, v8, v9, v10, v11, v12], _ => exact ⟨_, _, _, _, _, _, _, _, _, _, _, _, _, rfl⟩

theorem list10 (l : List Value) (h : l.length = 10) : ∃ v0 v1 v2 v3 v4 v5 v6 v7 v8 v9, l = [v0, v1, v2, v3, v4, v5, v6, v7, v8, v9] := by
  match l, h with
  | [v0, v1, v2, v3, v4, v5, v6, v7, v8, v9], _ => exact ⟨_, _, _, _, _, _, _, _, _, _, rfl⟩

theorem list6 (l : List Value) (h : l.length = 6) : ∃ v0 v1 v2 v3 v4 v5, l = [v0, v1, v2, v3, v4, v5] := by
  match l, h with
  | [v0, v1, v2, v3, v4, v5], _ => exact ⟨_, _, _, _, _, _, rfl⟩

theorem list16 (l : List Value) (h : l.length = 16) : ∃ v0 v1 v2 v3 v4 v5 v6 v7 v8 v9 v10 v11 v12 v13 v14 v15, l = [v0, v1, v2, v3, v4, v5, v6, v7, v8, v9, v10, v11, v12, v13, v14, v15] := by
  match l, h with
  | [v0, v1, v2, v3, v4, v5, v6, v7, v8, v9, v10, v11, v12, v13, v14, v15], _ => exact ⟨_, _, _, _, _, _, _, _, _, _, _, _, _, _, _, _, rfl⟩

theorem list14 (l : List Value) (h : l.length = 14) : ∃ v0 v1 v2 v3 v4 v5 v6 v7 v8 v9 v10 v11 v12 v13, l = [v0, v1, v2, v3, v4, v5, v6, v7, v8, v9, v10, v11, v12, v13] := by
  match l, h with
  | [v0, v1, v2, v3, v4, v5, v6, v7, v8, v9, v10, v11, v12, v13], _ => exact ⟨_, _, _, _, _, _, _, _, _, _, _, _, _, _, rfl⟩

theorem list4 (l : List Value) (h : l.length = 4) : ∃ v0 v1 v2 v3, l = [v0, v1, v2, v3] := by
  match l, h with
  | [v0, v1, v2, v3], _ => exact ⟨_, _, _, _, rfl⟩

theorem list2 (l : List Value) (h : l.length = 2) : ∃ v0 v1, l = [v0, v1] := by
  match l, h with
  | [v0, v1], _ => exact ⟨_, _, rfl⟩
theorem Act.eval_const (a : Act) (v : Value) : a.eval (.const v) = v := rfl
def rungN (x A B C D : Nat) : Nat × Nat × Nat × Nat :=
  let a := sumP [A, B]; let b := subN A B; let c := sumP [C, D]; let d := subN C D
  let da := prodP [d, a]; let cb := prodP [c, b]; let aa := a * a % PP; let bb := b * b % PP
  let e := subN aa bb
  (prodP [aa, bb], prodP [e, sumP [aa, prodP [121665, e]]], (sumP [da, cb] * sumP [da, cb]) % PP, prodP [x, (subN da cb * subN da cb) % PP])
end Go.Proofs.Ytgkglielcbgpiaa
