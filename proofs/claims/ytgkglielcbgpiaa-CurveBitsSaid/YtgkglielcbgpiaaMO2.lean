/- The operations of such a region, one by one. -/
import Derived.Test.YtgkglielcbgpiaaMO
import Derived.Deep.MidRow
import Derived.Laws.Tables
namespace Go.Proofs.Ytgkglielcbgpiaa
open Go.RowKit

theorem memE {l : List Nat} {j : Nat} (h : l.contains j = true) : j ∈ l := by simpa using h
theorem notE {l : List Nat} {j : Nat} (h : l.contains j = false) : j ∉ l := by simpa using h
section
variable {P : Program} {ops : Array Oper} {Q : Exit → Act → World → Prop} {i : Nat} {o : Oper} {a : Act} {w : World} {Φ : Nat → Value → World → Prop} {fr : List Nat}
/-- what a step is to show -/
def StepG (P : Program) (ops : Array Oper) (Q : Exit → Act → World → Prop) (i : Nat) (a : Act) (w : World) (Φ : Nat → Value → World → Prop) (fr : List Nat) : Prop :=
  ∃ o, ops[i]? = some o ∧ Region.wanted o (yielded ops a.tmps) = true ∧ o.wp P a w (fun a' w' => ∃ v, a' = a.put o.dst v ∧ Below w.heap.size w w' ∧ Φ i v w' ∧ (i ∈ fr → ∃ g, v = .pointer (some ⟨g, 0, none⟩) ∧ w.heap.size ≤ g ∧ g < w'.heap.size)) Q
theorem st_K {v : Value} {w' : World} (hb : Below w.heap.size w w') (hv : Φ i v w') (hf : i ∉ fr) :
    ∃ u, a.put o.dst v = a.put o.dst u ∧ Below w.heap.size w w' ∧ Φ i u w' ∧ (i ∈ fr → ∃ g, u = .pointer (some ⟨g, 0, none⟩) ∧ w.heap.size ≤ g ∧ g < w'.heap.size) := ⟨v, rfl, hb, hv, fun h => absurd h hf⟩
theorem st_field (ho : ops[i]? = some o) (hg : Region.wanted o (yielded ops a.tmps) = true) (s : TypeId) (x : Operand) (f : Nat) (hop : o.op = .fieldAddr s x f) {u v : Value} (hx : a.eval x = u) (hr : ∀ W, (Instr.fieldAt s u f).run P W = .ok v W) (hv : Φ i v w) (hf : i ∉ fr) : StepG P ops Q i a w Φ fr := by
  refine ⟨o, ho, hg, ?_⟩
  unfold Oper.wp execOp
  simp only [hop, hx, Sem.run_bind, hr, Result.andThen_ok, Sem.run_pure]
  exact st_K (Below.refl _ _) hv hf
theorem st_load (ho : ops[i]? = some o) (hg : Region.wanted o (yielded ops a.tmps) = true) (T : TypeId) (x : Operand) (hop : o.op = .load T x) {b k : Nat} (hx : a.eval x = .pointer (some ⟨b, k, none⟩)) (cs : List Value) (d : TypeDesc) (hc : w.rangeAt b k cs)
    (hu : P.underlying T = some d) (hd : d.isRow = true) (hi : (P.info? T).map (·.size) = some cs.length) (hv : Φ i (.agg cs.toArray) w) (hf : i ∉ fr) : StepG P ops Q i a w Φ fr :=
  ⟨o, ho, hg, wp_load_mid T x hop b k hx cs d hc hu hd hi (st_K (Below.refl _ _) hv hf)⟩
theorem st_load1 (ho : ops[i]? = some o) (hg : Region.wanted o (yielded ops a.tmps) = true) (T : TypeId) (x : Operand) (hop : o.op = .load T x) {u v : Value} (hx : a.eval x = u) (hr : (Instr.loadAt T u).run P w = .ok v w) (hv : Φ i v w) (hf : i ∉ fr) : StepG P ops Q i a w Φ fr := by
  refine ⟨o, ho, hg, ?_⟩
  unfold Oper.wp execOp
  simp only [hop, hx, Sem.run_bind, hr, Result.andThen_ok, Sem.run_pure]
  exact st_K (Below.refl _ _) hv hf
theorem st_alloc (ho : ops[i]? = some o) (hg : Region.wanted o (yielded ops a.tmps) = true) (T : TypeId) (hop : o.op = .alloc T) {cells : Array Value} (hr : ∀ W : World, (Instr.alloc T true (.tuple #[])).run P W = .ok (.pointer (some ⟨W.heap.size, 0, none⟩)) (W.alloc (.cells cells T)))
    (hv : Φ i (.pointer (some ⟨w.heap.size, 0, none⟩)) (w.alloc (.cells cells T))) : StepG P ops Q i a w Φ fr := by
  refine ⟨o, ho, hg, ?_⟩
  unfold Oper.wp execOp
  simp only [hop, Sem.run_bind, hr, Result.andThen_ok, Sem.run_pure]
  exact ⟨_, rfl, (Below.refl _ _).alloc (Nat.le_refl _) _, hv, fun _ => ⟨_, rfl, Nat.le_refl _, by simp⟩⟩
theorem st_bs (ho : ops[i]? = some o) (hg : Region.wanted o (yielded ops a.tmps) = true) (t e : TypeId) (len : Nat) (parts : Array (Nat × Operand)) (hop : o.op = .buildSlice t len parts) {ps : Array (Nat × Value)} (hp : (parts.map fun (i, x) => (i, a.eval x)) = ps) {cells : Array Value}
    (hr : ∀ W : World, (Instr.buildSlice t len ps).run P W = .ok (.slice (some ⟨W.heap.size, 0, none⟩) len len) (W.alloc (.cells cells e)))
    (hv : Φ i (.slice (some ⟨w.heap.size, 0, none⟩) len len) (w.alloc (.cells cells e))) (hf : i ∉ fr) : StepG P ops Q i a w Φ fr := by
  refine ⟨o, ho, hg, ?_⟩
  unfold Oper.wp execOp
  simp only [hop, hp, Sem.run_bind, hr, Result.andThen_ok, Sem.run_pure]
  exact st_K ((Below.refl _ _).alloc (Nat.le_refl _) _) hv hf
theorem st_build (ho : ops[i]? = some o) (hg : Region.wanted o (yielded ops a.tmps) = true) (t : TypeId) (parts : Array (Nat × Operand)) (hop : o.op = .build t parts) {ps : Array (Nat × Value)} (hp : (parts.map fun (i, x) => (i, a.eval x)) = ps) {v : Value}
    (hr : ∀ W : World, (Instr.build t ps).run P W = .ok v W) (hv : Φ i v w) (hf : i ∉ fr) : StepG P ops Q i a w Φ fr := by
  refine ⟨o, ho, hg, ?_⟩
  unfold Oper.wp execOp
  simp only [hop, hp, Sem.run_bind, hr, Result.andThen_ok, Sem.run_pure]
  exact st_K (Below.refl _ _) hv hf
theorem st_move (ho : ops[i]? = some o) (hg : Region.wanted o (yielded ops a.tmps) = true) (x : Operand) (hop : o.op = .move x ∨ o.op = .assign x) {v : Value} (hx : a.eval x = v) (hv : Φ i v w) (hf : i ∉ fr) : StepG P ops Q i a w Φ fr := by
  refine ⟨o, ho, hg, ?_⟩
  unfold Oper.wp execOp
  rcases hop with hop | hop
  · simp only [hop, hx, Sem.run_pure]
    exact st_K (Below.refl _ _) hv hf
  · simp only [hop, hx, Sem.run_pure]
    exact st_K (Below.refl _ _) hv hf
theorem st_extract (ho : ops[i]? = some o) (hg : Region.wanted o (yielded ops a.tmps) = true) (x : Operand) (k : Nat) (hop : o.op = .extract x k) {u v : Value} (hx : a.eval x = u) (hr : ∀ W, (Instr.extract u k).run P W = .ok v W) (hv : Φ i v w) (hf : i ∉ fr) : StepG P ops Q i a w Φ fr := by
  refine ⟨o, ho, hg, ?_⟩
  unfold Oper.wp execOp
  simp only [hop, hx, Sem.run_bind, hr, Result.andThen_ok, Sem.run_pure]
  exact st_K (Below.refl _ _) hv hf
theorem st_call (ho : ops[i]? = some o) (hg : Region.wanted o (yielded ops a.tmps) = true) {f : FuncId} {xs : Array Operand} {ts : Array TypeId} (hop : o.op = .call { callee := .value (.func f), args := xs, argTypes := ts }) {args : Array Value} (hx : xs.map a.eval = args)
    (hen : ∀ W, (callFunc f args).run P W = .ok (.enter f args) W) (hc : Calls P f args w fun e w' => ∃ v, e = .returned v ∧ Below w.heap.size w w' ∧ Φ i v w') (hf : i ∉ fr) : StepG P ops Q i a w Φ fr :=
  step_fn hf ho hg hop hx hen hc
theorem st_pick (ho : ops[i]? = some o) (hg : Region.wanted o (yielded ops a.tmps) = true) (c x y : Operand) (hop : o.op = .pick c x y) {b : Bool} {v : Value} (hc : a.eval c = .bool b) (hx : (if b then a.eval x else a.eval y) = v) (hv : Φ i v w) (hf : i ∉ fr) : StepG P ops Q i a w Φ fr := by
  refine ⟨o, ho, hg, ?_⟩
  unfold Oper.wp execOp
  simp only [hop, hc, asBool, Sem.run_bind, Sem.run_pure, Result.andThen_ok]
  rw [hx]
  exact st_K (Below.refl _ _) hv hf
theorem st_bin (ho : ops[i]? = some o) (hg : Region.wanted o (yielded ops a.tmps) = true) (op : BinOp) (t t2 : TypeId) (x y : Operand) (hop : o.op = .binOp op t x y t2) {u u2 v : Value} (hx : a.eval x = u) (hy : a.eval y = u2)
    (hr : ∀ W, (do eqGuard op t x y u u2; binOp op t u u2 : Sem Value).run P W = .ok v W) (hv : Φ i v w) (hf : i ∉ fr) : StepG P ops Q i a w Φ fr := by
  refine ⟨o, ho, hg, ?_⟩
  unfold Oper.wp execOp
  have h := hr w
  rw [Sem.run_bind] at h
  simp only [hop, hx, hy, Sem.run_bind, h, Result.andThen_ok, Sem.run_pure]
  exact st_K (Below.refl _ _) hv hf
theorem st_un (ho : ops[i]? = some o) (hg : Region.wanted o (yielded ops a.tmps) = true) (op : UnOp) (t : TypeId) (x : Operand) (hop : o.op = .unOp op t x) {u v : Value} (hx : a.eval x = u) (hr : ∀ W, (Op.unary op u).run P W = .ok v W) (hv : Φ i v w) (hf : i ∉ fr) : StepG P ops Q i a w Φ fr := by
  refine ⟨o, ho, hg, ?_⟩
  unfold Oper.wp execOp
  simp only [hop, hx, Sem.run_bind, hr, Result.andThen_ok, Sem.run_pure]
  exact st_K (Below.refl _ _) hv hf
/-- a store into a block, once all the others are done -/
theorem tail_store {k fuel : Nat} {listed : Array Bool} (hr : Region.ready .any ops listed = [k]) (ho : ops[k]? = some o) (hg : o.guard = none) (hdst : o.dst = none) (ty : TypeId) (x y : Operand) (hop : o.op = .store ty x y)
    (g : Nat) (cells : Array Value) (hx : a.eval x = .pointer (some ⟨g, 0, none⟩)) (hy : a.eval y = .agg cells) (t : TypeId) (old : Array Value) (hgr : w.heap[g]? = some (.cells old t (0, 0))) (hi : (P.info? ty).map (·.size) = some cells.size)
    (hold : old.size = cells.size) (h1 : cells.all (·.oneCell') = true) (h : wpAny P .any ops Q fuel (listed.setIfInBounds k true) a (w.setRow g cells)) : wpAny P .any ops Q (fuel + 1) listed a w := by
  refine wpAny_one hr ho hg (wp_store_row ty x y hop g cells hx hy t old hgr hi hold h1 ?_)
  rw [hdst]
  exact h
end
section
variable {P : Program} {ops : Array Oper} {Q : Exit → Act → World → Prop}
theorem tail_assign {o : Oper} {a : Act} {w : World} {k fuel : Nat} {listed : Array Bool} (hr : Region.ready .any ops listed = [k]) (ho : ops[k]? = some o) (hg : o.guard = none) (x : Operand) (hop : o.op = .move x ∨ o.op = .assign x) {v : Value} (hx : a.eval x = v) (d : Nat) (hd : o.dst = some d)
    (h : wpAny P .any ops Q fuel (listed.setIfInBounds k true) (a.put (some d) v) w) : wpAny P .any ops Q (fuel + 1) listed a w := by
  rw [← hd] at h
  refine wpAny_one hr ho hg ?_
  unfold Oper.wp execOp
  rcases hop with hop | hop
  · simp only [hop, hx, Sem.run_pure]; exact h
  · simp only [hop, hx, Sem.run_pure]; exact h
def upTo (n k : Nat) : Array Bool := Array.replicate k true ++ Array.replicate (n - k) false
theorem upTo_get (n k i : Nat) (hk : k ≤ n) : (upTo n k).getD i false = decide (i < k) := by
  unfold upTo
  by_cases h : i < k
  · simp [Array.getElem?_append, h]
  · by_cases h2 : i < n
    · simp [Array.getElem?_append, h, show i - k < n - k by omega]
    · simp [Array.getElem?_append, h, show ¬ i - k < n - k by omega]
theorem upTo_set {n k : Nat} (h : k < n) : (upTo n k).setIfInBounds k true = upTo n (k + 1) := by
  apply Array.ext
  · simp [upTo]; omega
  · intro i h1 h2
    have e1 : i < n := by simp [upTo] at h1; omega
    by_cases hi : i = k
    · subst hi; simp [upTo, Array.getElem_append]
    · by_cases hlt : i < k
      · simp [upTo, Array.getElem_append, Array.getElem_setIfInBounds, Ne.symm hi, hlt, show i < k + 1 by omega]
      · have h3 : ((upTo n k).setIfInBounds k true)[i] = (upTo n k)[i]'(by simp [upTo]; omega) := Array.getElem_setIfInBounds_ne _ (Ne.symm hi)
        rw [h3]
        simp [upTo, Array.getElem_append, hlt, show ¬ i < k + 1 by omega]
/-- what holds in every order holds in the order of the text -/
theorem wpOps_of_any (hlow : lowB ops ops.size = true) : ∀ (r k : Nat) (a : Act) (w : World), k + r = ops.size → wpAny P .any ops Q r (upTo ops.size k) a w → wpOps P ops Q (List.range' k r) a w
  | 0, k, a, w, hk, h => h.2
  | r + 1, k, a, w, hk, h => by
    have hk' : k < ops.size := by omega
    have hmem : k ∈ Region.ready .any ops (upTo ops.size k) := by
      rw [mem_ready]
      refine ⟨?_, ops[k], by simp [hk'], fun e he hb => ?_⟩
      · rw [getD_tf (by simp [upTo]; omega), upTo_get _ _ _ (by omega)]; simp
      · have h1 := List.all_eq_true.1 (List.all_eq_true.1 hlow k (List.mem_range.2 hk')) e.on (depsOf_spec (by simp [hk']) e he hb)
        rw [upTo_get _ _ _ (by omega)]
        exact h1
    have h2 := h.2 k hmem
    rw [upTo_set hk'] at h2
    rw [show List.range' k (r + 1) = k :: List.range' (k + 1) r from rfl, wpOps_cons]
    exact wpOp_mono (fun a w => wpOps_of_any hlow r (k + 1) a w (by omega)) h2
/-- a region in the order of the text -/
theorem wp_region_seq {id : Nat} (m : Nat) (ds : List Nat) (Φ : Nat → Value → World → Prop) (fr : List Nat) (hfr : (fr.all fun i => decide (i < m)) = true) {a0 : Act} {w : World} (hall : lowB ops ops.size = true) (hmn : decide (m ≤ ops.size) = true) (hds : (ops.toList.take m).map (·.dst) = ds.map some) (hnd : decide ds.Nodup = true) (hin : (ds.all fun d => decide (d < a0.tmps.size)) = true)
    (hlow : lowB ops m = true) (hclose : closeB ops m = true)
    (hΦ : ∀ i v w w', Φ i v w → Below w.heap.size w w' → Φ i v w')
    (hstep : ∀ i, i < m → StepAt P ops Q ds a0 w Φ fr i)
    (hend : ∀ vs : List Value, vs.length = m → ∀ w', Below w.heap.size w w' → (∀ (i : Nat) (v : Value), vs[i]? = some v → Φ i v w') → (∀ i ∈ fr, ∀ j ∈ fr, i ≠ j → vs[i]? ≠ vs[j]?) →
      wpAny P .any ops Q (ops.size - m) (Array.replicate m true ++ Array.replicate (ops.size - m) false) (puts a0 (ds.zip vs)) w') :
    (Code.region id ops false).wp P Q a0 w := by
  have hm' : m ≤ ops.size := of_decide_eq_true hmn
  refine wp_region ?_
  have h := wpAny_mono (P := P) (Q := Q) (w0 := w) (fun i hi => of_decide_eq_true (List.all_eq_true.1 hfr i hi)) hm' hds (of_decide_eq_true hnd) (fun d hd => of_decide_eq_true (List.all_eq_true.1 hin d hd)) hlow hclose hΦ hstep
    hend m (Array.replicate ops.size false) a0 w
    ⟨by simp, Below.refl _ _, fun i _ => by by_cases h : i < ops.size <;> simp [h], fun i hi => by exfalso; revert hi; by_cases h : i < ops.size <;> simp [h], fun _ _ => rfl, rfl, rfl, fun i d _ hi => by exfalso; revert hi; by_cases h : i < ops.size <;> simp [h],
      fun i _ d _ hi => by exfalso; revert hi; by_cases h : i < ops.size <;> simp [h], fun i _ j _ _ d e _ _ hi => by exfalso; revert hi; by_cases h : i < ops.size <;> simp [h]⟩ (left_none _ _)
  rw [show m + (ops.size - m) = ops.size by omega] at h
  have h2 := wpOps_of_any hall ops.size 0 a0 w (by omega) (by unfold upTo; simpa using h)
  rw [← List.range_eq_range'] at h2
  exact h2
end
section
variable {P : Program} {ops : Array Oper} {Q : Exit → Act → World → Prop}
theorem left_upTo {n p : Nat} (hp : p ≤ n) : ∀ m, m ≤ n → left (upTo n p) m = m - p
  | 0, _ => by simp [left]
  | m + 1, h => by
    rw [left, left_upTo hp m (by omega), upTo_get _ _ _ hp]
    by_cases hm : m < p
    · simp [hm]; omega
    · simp [hm]; omega
/-- the first p operations are taken; those up to m follow in any order -/
theorem wpAnyH_pre {S : World → Prop} (hS : ∀ w w', S w → Below w.heap.size w w' → S w') (p m : Nat) (ds : List Nat) (Φ : Nat → Value → World → Prop) (fr : List Nat) (hfr : (fr.all fun i => decide (i < m) && decide (p ≤ i)) = true) {a : Act} {w : World} {listed : Array Bool} (hl : listed = upTo ops.size p) (hSw : S w)
    (hpm : decide (p ≤ m) = true) (hmn : decide (m ≤ ops.size) = true) (hds : (ops.toList.take m).map (·.dst) = ds.map some) (hnd : decide ds.Nodup = true) (hin : (ds.all fun d => decide (d < a.tmps.size)) = true)
    (hlow : lowB ops m = true) (hclose : closeB ops m (List.range p) = true)
    (hΦ : ∀ i v w w', Φ i v w → Below w.heap.size w w' → Φ i v w')
    (hval : ∀ i d, i < p → ds[i]? = some d → ∃ v, a.tmps[d]? = some v ∧ Φ i v w)
    (hstep : ∀ i, i < m → StepAt P ops Q ds a w Φ fr i)
    (hend : ∀ vs : List Value, vs.length = m → ∀ w', Below w.heap.size w w' → (∀ (i : Nat) (v : Value), vs[i]? = some v → Φ i v w') → (∀ i ∈ fr, ∀ j ∈ fr, i ≠ j → vs[i]? ≠ vs[j]?) → S w' →
      wpAnyH P .any ops Q S (ops.size - m) (Array.replicate m true ++ Array.replicate (ops.size - m) false) (puts a (ds.zip vs)) w') :
    wpAnyH P .any ops Q S (ops.size - p) listed a w := by
  subst hl
  have hpm' : p ≤ m := of_decide_eq_true hpm
  have hm' : m ≤ ops.size := of_decide_eq_true hmn
  have hfr' : ∀ i ∈ fr, i < m ∧ p ≤ i := fun i hi => by
    have h := List.all_eq_true.1 hfr i hi
    simp only [Bool.and_eq_true, decide_eq_true_eq] at h
    exact h
  have hg : ∀ i, (upTo ops.size p).getD i false = true → i < p := fun i hi => by
    rw [upTo_get _ _ _ (by omega)] at hi
    exact of_decide_eq_true hi
  have h := wpAnyH_mono (P := P) (Q := Q) (S := S) hS (List.range p) (w0 := w) (fun i hi => (hfr' i hi).1) hm' hds (of_decide_eq_true hnd) (fun d hd => of_decide_eq_true (List.all_eq_true.1 hin d hd)) hlow hclose hΦ hstep hend (m - p) (upTo ops.size p) a w
    ⟨by simp [upTo]; omega, Below.refl _ _, fun i hi => by rw [upTo_get _ _ _ (by omega)]; simp; omega, fun i hi j hj => by
        have h1 := hg i hi
        have h2 := of_decide_eq_true (List.all_eq_true.1 (List.all_eq_true.1 hlow i (List.mem_range.2 (by omega))) j hj)
        rw [upTo_get _ _ _ (by omega)]
        exact decide_eq_true (by omega), fun _ _ => rfl, rfl, rfl, fun i d hd hi => hval i d (hg i hi) hd,
      fun i hi d _ hl => by have := hg i hl; have := (hfr' i hi).2; omega, fun i hi j _ _ d e _ _ hl _ => by have := hg i hl; have := (hfr' i hi).2; omega⟩
    (fun j hj => by rw [upTo_get _ _ _ (by omega)]; exact decide_eq_true (List.mem_range.1 hj)) hSw (left_upTo (by omega) m hm')
  rwa [show m - p + (ops.size - m) = ops.size - p by omega] at h
theorem tail_storeH {S : World → Prop} {o : Oper} {a : Act} {w : World} {k fuel : Nat} {listed : Array Bool} (hr : Region.ready .any ops listed = [k]) (ho : ops[k]? = some o) (hg : o.guard = none) (hdst : o.dst = none) (ty : TypeId) (x y : Operand) (hop : o.op = .store ty x y)
    (g : Nat) (cells : Array Value) (hx : a.eval x = .pointer (some ⟨g, 0, none⟩)) (hy : a.eval y = .agg cells) (t : TypeId) (old : Array Value) (hgr : w.heap[g]? = some (.cells old t (0, 0))) (hi : (P.info? ty).map (·.size) = some cells.size)
    (hold : old.size = cells.size) (h1 : cells.all (·.oneCell') = true) (hS : S (w.setRow g cells)) (h : wpAnyH P .any ops Q S fuel (listed.setIfInBounds k true) a (w.setRow g cells)) : wpAnyH P .any ops Q S (fuel + 1) listed a w := by
  refine wpAnyH_all hr (by simp) fun i him => ?_
  obtain rfl : i = k := by simpa using him
  unfold wpOp
  rw [ho]
  have hw : Region.wanted o (yielded ops a.tmps) = true := by simp [Region.wanted, hg]
  simp only [hw, if_true]
  refine .inl (wp_store_row ty x y hop g cells hx hy t old hgr hi hold h1 ?_)
  rw [hdst]
  exact ⟨hS, h⟩
end
end Go.Proofs.Ytgkglielcbgpiaa
