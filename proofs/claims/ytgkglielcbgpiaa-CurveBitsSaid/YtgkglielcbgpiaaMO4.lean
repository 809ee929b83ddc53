/- A region of loads and of stores one behind the other: whatever the order, each load reads what was there. -/
import Derived.Test.YtgkglielcbgpiaaMO3
namespace Go.Proofs.Ytgkglielcbgpiaa
open Go.RowKit

section
variable {P : Program} {ops : Array Oper} {Q : Exit → Act → World → Prop}
/-- so many loads are done, and the first s stores -/
structure SwSt (ops : Array Oper) (p : Nat) (ds : List Nat) (vs : List Value) (a0 : Act) (Ws : Nat → World) (listed : Array Bool) (s : Nat) (a : Act) (w : World) : Prop where
  size : listed.size = ops.size
  world : w = Ws s
  stores : ∀ j, p + j < ops.size → listed.getD (p + j) false = decide (j < s)
  down : ∀ i, listed.getD i false = true → ∀ j ∈ depsOf ops i, listed.getD j false = true
  stay : ∀ t, t ∉ ds → a.tmps[t]? = a0.tmps[t]?
  tsz : a.tmps.size = a0.tmps.size
  defers : a.defers = a0.defers
  val : ∀ (i d : Nat) (v : Value), ds[i]? = some d → vs[i]? = some v → listed.getD i false = true → a.tmps[d]? = some v
def chainB (ops : Array Oper) (p : Nat) : Bool := (List.range ops.size).all fun k => decide (k ≤ p) || (depsOf ops k).contains (k - 1)
def SwLoad (P : Program) (ops : Array Oper) (Q : Exit → Act → World → Prop) (a0 : Act) (ds : List Nat) (Ws : Nat → World) (v : Value) (i s : Nat) : Prop :=
  ∀ a, (∀ t, t ∉ ds → a.tmps[t]? = a0.tmps[t]?) → ∃ o, ops[i]? = some o ∧ o.guard = none ∧ ∀ K : Act → World → Prop, K (a.put o.dst v) (Ws s) → o.wp P a (Ws s) K Q
def SwStore (P : Program) (ops : Array Oper) (Q : Exit → Act → World → Prop) (a0 : Act) (ds : List Nat) (vs : List Value) (Ws : Nat → World) (k s : Nat) : Prop :=
  ∀ a, (∀ t, t ∉ ds → a.tmps[t]? = a0.tmps[t]?) → (∀ (i d : Nat) (v : Value), i ∈ depsOf ops k → ds[i]? = some d → vs[i]? = some v → a.tmps[d]? = some v) →
    ∃ o, ops[k]? = some o ∧ o.guard = none ∧ o.dst = none ∧ ∀ K : Act → World → Prop, K a (Ws (s + 1)) → o.wp P a (Ws s) K Q
theorem wpAny_swap {p : Nat} {ds : List Nat} {vs : List Value} {a0 : Act} {Ws : Nat → World} (hp : p ≤ ops.size) (hds : (ops.toList.take p).map (·.dst) = ds.map some) (hvs : vs.length = ds.length) (hnd : ds.Nodup) (hin : ∀ d ∈ ds, d < a0.tmps.size)
    (hlow : lowB ops ops.size = true) (hchain : chainB ops p = true)
    (hload : ∀ i v s, vs[i]? = some v → p + s ≤ ops.size → (∀ j, j < s → i ∉ depsOf ops (p + j)) → SwLoad P ops Q a0 ds Ws v i s)
    (hstore : ∀ s, p + s < ops.size → SwStore P ops Q a0 ds vs Ws (p + s) s)
    (hend : Q .normal (puts a0 (ds.zip vs)) (Ws (ops.size - p))) :
    ∀ (r : Nat) (listed : Array Bool) (s : Nat) (a : Act) (w : World), SwSt ops p ds vs a0 Ws listed s a w → p + s ≤ ops.size → left listed ops.size = r → wpAny P .any ops Q r listed a w := by
  have hlen : ds.length = p := by
    have := congrArg List.length hds
    simp at this
    omega
  have hdst : ∀ (i : Nat) (o : Oper) (d : Nat), i < p → ops[i]? = some o → ds[i]? = some d → o.dst = some d := by
    intro i o d hi ho hd
    have h1 := congrArg (fun l => l[i]?) hds
    simp only [List.getElem?_map, List.getElem?_take, hi, if_true, Array.getElem?_toList, ho, hd, Option.map_some, Option.some.injEq] at h1
    exact h1
  have hfin : ∀ (listed : Array Bool) (s : Nat) (a : Act) (w : World), SwSt ops p ds vs a0 Ws listed s a w → p + s ≤ ops.size → (∀ i, i < ops.size → listed.getD i false = true) → Q .normal a w := by
    intro listed s a w h hs hall
    have es : s = ops.size - p := by
      by_cases he : p + s < ops.size
      · have h1 := h.stores s he
        rw [hall _ he] at h1
        simp at h1
      · omega
    have ea : a = puts a0 (ds.zip vs) := by
      have hz : ds.zip vs = ds.map fun d => (d, a.tmps.getD d undef) := by
        apply List.ext_getElem?
        intro i
        rw [List.getElem?_map]
        by_cases hi : i < p
        · have h1 : i < ds.length := by omega
          have h2 : i < vs.length := by omega
          have h3 := h.val i ds[i] vs[i] (by simp [h1]) (by simp [h2]) (hall i (by omega))
          simp [List.getElem?_zip_eq_some, h1, h2, h3]
        · rw [List.getElem?_eq_none (by simp; omega), List.getElem?_eq_none (by omega)]
          rfl
      have e1 : a.tmps = (puts a0 (ds.zip vs)).tmps := by
        rw [hz]
        apply Array.ext_getElem?
        intro t
        rw [puts_get (fun d => a.tmps.getD d undef)]
        by_cases ht : t ∈ ds
        · rw [if_pos ht]
          have h1 := hin t ht
          have h2 : t < a.tmps.size := by rw [h.tsz]; exact h1
          simp [h1, h2]
        · rw [if_neg ht]
          exact h.stay t ht
      have e2 := (puts_defers (ds.zip vs) a0).trans h.defers.symm
      cases a
      generalize puts a0 (ds.zip vs) = b at e1 e2
      cases b
      simp only at e1 e2
      rw [e1, e2]
    rw [h.world, ea, es]
    exact hend
  have hready : ∀ (listed : Array Bool), listed.size = ops.size → (∃ i, i < ops.size ∧ listed.getD i false = false ∧ ∀ j, j < i → listed.getD j false = true) → Region.ready .any ops listed ≠ [] := by
    intro listed hsz ⟨i, hi, h0, hj⟩ hr
    have hmem : i ∈ Region.ready .any ops listed := by
      rw [mem_ready]
      refine ⟨by rw [getD_tf (by rw [hsz]; exact hi)]; exact h0, ops[i], by simp [hi], fun e he hb => hj _ ?_⟩
      exact of_decide_eq_true (List.all_eq_true.1 (List.all_eq_true.1 hlow i (List.mem_range.2 hi)) e.on (depsOf_spec (by simp [hi]) e he hb))
    rw [hr] at hmem
    cases hmem
  intro r
  induction r with
  | zero =>
    intro listed s a w h hs hl
    have hall := left_zero hl
    refine ⟨?_, hfin listed s a w h hs hall⟩
    cases hq : Region.ready .any ops listed with
    | nil => rfl
    | cons i l =>
      have hi : i ∈ Region.ready .any ops listed := by rw [hq]; simp
      obtain ⟨hun, o, ho, _⟩ := mem_ready.1 hi
      have hio : i < ops.size := (Array.getElem?_eq_some_iff.1 ho).1
      rw [getD_tf (by rw [h.size]; exact hio), hall i hio] at hun
      cases hun
  | succ r ih =>
    intro listed s a w h hs hl
    refine ⟨fun hr => absurd hr (hready listed h.size (left_pos (by omega))), fun i hi => ?_⟩
    obtain ⟨hun, o, ho, hall⟩ := mem_ready.1 hi
    have hio : i < ops.size := (Array.getElem?_eq_some_iff.1 ho).1
    have hil : i < listed.size := by rw [h.size]; exact hio
    rw [getD_tf hil] at hun
    have hdep : ∀ j ∈ depsOf ops i, listed.getD j false = true := by
      intro j hj
      obtain ⟨e, he, hb, rfl⟩ := depsOf_of ho hj
      exact hall e he hb
    have hdown : ∀ k, (listed.setIfInBounds i true).getD k false = true → ∀ j ∈ depsOf ops k, (listed.setIfInBounds i true).getD j false = true := by
      intro k hk j hj
      by_cases hki : k = i
      · subst hki; exact getD_set_true (hdep j hj)
      · rw [getD_set_ne false (Ne.symm hki)] at hk
        exact getD_set_true (h.down k hk j hj)
    have hleft : left (listed.setIfInBounds i true) ops.size = r := by have := left_set hil hun hio; omega
    unfold wpOp
    rw [ho]
    by_cases hip : i < p
    · obtain ⟨d, hd⟩ : ∃ d, ds[i]? = some d := ⟨ds[i]'(by omega), by simp [show i < ds.length by omega]⟩
      obtain ⟨v, hv⟩ : ∃ v, vs[i]? = some v := ⟨vs[i]'(by omega), by simp [show i < vs.length by omega]⟩
      have hno : ∀ j, j < s → i ∉ depsOf ops (p + j) := by
        intro j hj hm
        have h1 := h.stores j (by omega)
        rw [decide_eq_true hj] at h1
        have h2 := h.down _ h1 i hm
        rw [hun] at h2
        cases h2
      obtain ⟨o', ho', hg, hwp⟩ := hload i v s hv hs hno a h.stay
      rw [ho] at ho'
      obtain rfl : o = o' := by simpa using ho'
      have hw : Region.wanted o (yielded ops a.tmps) = true := wanted_no hg
      simp only [hw, if_true]
      have hdo := hdst i o d hip ho hd
      rw [h.world]
      refine .inl (hwp _ (ih _ s _ _ ⟨by simp [h.size], rfl, ?_, hdown, ?_, ?_, ?_, ?_⟩ hs hleft))
      · intro j hj
        rw [getD_set_ne false (by omega)]
        exact h.stores j hj
      · intro t ht
        have hne : d ≠ t := fun e => ht (e ▸ List.mem_of_getElem? hd)
        rw [← h.stay t ht, hdo]
        simp only [Act.put]
        rw [Array.getElem?_setIfInBounds_ne hne]
      · rw [hdo]; simp [Act.put, h.tsz]
      · rw [hdo]; exact h.defers
      · intro k d' v' hd' hv' hk
        by_cases hki : k = i
        · subst hki
          rw [hd] at hd'
          rw [hv] at hv'
          obtain rfl : d = d' := by simpa using hd'
          obtain rfl : v = v' := by simpa using hv'
          have hdt : d < a.tmps.size := by rw [h.tsz]; exact hin d (List.mem_of_getElem? hd)
          rw [hdo]
          simp [Act.put, hdt]
        · rw [getD_set_ne false (Ne.symm hki)] at hk
          have hu := h.val k d' v' hd' hv' hk
          have hne : d ≠ d' := by
            intro e
            subst e
            obtain ⟨h1, h2⟩ := List.getElem?_eq_some_iff.1 hd
            obtain ⟨h3, h4⟩ := List.getElem?_eq_some_iff.1 hd'
            exact hki ((List.getElem_inj hnd).1 (h4.trans h2.symm))
          rw [hdo, ← hu]
          simp only [Act.put]
          rw [Array.getElem?_setIfInBounds_ne hne]
    · have his : i = p + s := by
        have h1 := h.stores (i - p) (by omega)
        rw [show p + (i - p) = i by omega, hun] at h1
        have h2 : s ≤ i - p := by simpa using h1.symm
        by_cases he : i - p = s
        · omega
        · exfalso
          have h3 := List.all_eq_true.1 hchain i (List.mem_range.2 hio)
          simp only [show ¬ i ≤ p by omega, decide_false, Bool.false_or] at h3
          have h4 := hdep (i - 1) (by simpa using h3)
          have h5 := h.stores (i - 1 - p) (by omega)
          rw [show p + (i - 1 - p) = i - 1 by omega, h4] at h5
          have h6 : i - 1 - p < s := of_decide_eq_true h5.symm
          omega
      obtain ⟨o', ho', hg, hno, hwp⟩ := hstore s (by omega) a h.stay (fun k d v hk hd hv => h.val k d v hd hv (hdep k (by rw [his]; exact hk)))
      rw [← his, ho] at ho'
      obtain rfl : o = o' := by simpa using ho'
      have hw : Region.wanted o (yielded ops a.tmps) = true := wanted_no hg
      simp only [hw, if_true]
      rw [h.world]
      refine .inl (hwp _ (ih _ (s + 1) _ _ ⟨by simp [h.size], rfl, ?_, hdown, h.stay, h.tsz, h.defers, ?_⟩ (by omega) hleft))
      · intro j hj
        by_cases hjs : j = s
        · subst hjs
          rw [← his]
          simp [hil]
        · rw [getD_set_ne false (by omega), h.stores j hj]
          exact decide_eq_decide.2 (by omega)
      · intro k d' v' hd' hv' hk
        have hkp : k < p := by rw [← hlen]; exact (List.getElem?_eq_some_iff.1 hd').1
        rw [getD_set_ne false (by omega)] at hk
        exact h.val k d' v' hd' hv' hk
theorem wp_region_swap {id : Nat} (p : Nat) (ds : List Nat) (vs : List Value) (Ws : Nat → World) {a0 : Act} {w : World} (hm : P.follows .mixedOrders = true) (hW : Ws 0 = w.drew) (hp : decide (p ≤ ops.size) = true) (hds : (ops.toList.take p).map (·.dst) = ds.map some) (hvs : vs.length = ds.length) (hnd : decide ds.Nodup = true) (hin : (ds.all fun d => decide (d < a0.tmps.size)) = true)
    (hlow : lowB ops ops.size = true) (hchain : chainB ops p = true)
    (hload : ∀ i v s, vs[i]? = some v → p + s ≤ ops.size → (∀ j, j < s → i ∉ depsOf ops (p + j)) → SwLoad P ops Q a0 ds Ws v i s)
    (hstore : ∀ s, p + s < ops.size → SwStore P ops Q a0 ds vs Ws (p + s) s)
    (hend : Q .normal (puts a0 (ds.zip vs)) (Ws (ops.size - p))) : (Code.region id ops true).wp P Q a0 w := by
  have hp' : p ≤ ops.size := of_decide_eq_true hp
  refine wp_region_any hm ?_
  have hf : ∀ i, (Array.replicate ops.size false).getD i false = false := fun i => by by_cases h : i < ops.size <;> simp [h]
  exact wpAny_swap (P := P) (Q := Q) hp' hds hvs (of_decide_eq_true hnd) (fun d hd => of_decide_eq_true (List.all_eq_true.1 hin d hd)) hlow hchain hload hstore hend ops.size (Array.replicate ops.size false) 0 a0 _
    ⟨by simp, hW.symm, (fun j _ => by rw [hf]; simp), (fun i hi => by rw [hf] at hi; cases hi), fun _ _ => rfl, rfl, rfl, (fun i d v _ _ hi => by rw [hf] at hi; cases hi)⟩ (by omega) (left_none _ _)
end
section
variable {P : Program} {ops : Array Oper} {Q : Exit → Act → World → Prop}
theorem seq_cons {i : Nat} {rest : List Nat} {a : Act} {w : World} (h : wpOp P ops Q i (wpOps P ops Q rest) a w) : wpOps P ops Q (i :: rest) a w := by rw [wpOps_cons]; exact h
theorem seq_end {a : Act} {w : World} (h : Q .normal a w) : wpOps P ops Q [] a w := h
theorem op_val {o : Oper} {a : Act} {w w' : World} {k : Nat} {K : Act → World → Prop} (ho : ops[k]? = some o) (hg : o.guard = none) {v : Value} (hr : (execOp a.eval o).run P w = .ok (.value v) w') (d : Nat) (hd : o.dst = some d)
    (h : K (a.put (some d) v) w') : wpOp P ops Q k K a w := by
  rw [← hd] at h
  unfold wpOp
  rw [ho]
  simp only [wanted_no hg, if_true]
  refine .inl ?_
  unfold Oper.wp
  rw [hr]
  exact h
theorem op_assign {o : Oper} {a : Act} {w : World} {k : Nat} {K : Act → World → Prop} (ho : ops[k]? = some o) (hg : o.guard = none) (x : Operand) (hop : o.op = .move x ∨ o.op = .assign x) {v : Value} (hx : a.eval x = v) (d : Nat) (hd : o.dst = some d)
    (h : K (a.put (some d) v) w) : wpOp P ops Q k K a w := by
  rw [← hd] at h
  unfold wpOp
  rw [ho]
  simp only [wanted_no hg, if_true]
  refine .inl ?_
  unfold Oper.wp execOp
  rcases hop with hop | hop
  · simp only [hop, hx, Sem.run_pure]; exact h
  · simp only [hop, hx, Sem.run_pure]; exact h
theorem op_store {o : Oper} {a : Act} {w : World} {k : Nat} {K : Act → World → Prop} (ho : ops[k]? = some o) (hg : o.guard = none) (hdst : o.dst = none) (ty : TypeId) (x y : Operand) (hop : o.op = .store ty x y)
    (g : Nat) (cells : Array Value) (hx : a.eval x = .pointer (some ⟨g, 0, none⟩)) (hy : a.eval y = .agg cells) (t : TypeId) (old : Array Value) (hgr : w.heap[g]? = some (.cells old t (0, 0))) (hi : (P.info? ty).map (·.size) = some cells.size)
    (hold : old.size = cells.size) (h1 : cells.all (·.oneCell') = true) (h : K a (w.setRow g cells)) : wpOp P ops Q k K a w := by
  unfold wpOp
  rw [ho]
  simp only [wanted_no hg, if_true]
  refine .inl (wp_store_row ty x y hop g cells hx hy t old hgr hi hold h1 ?_)
  rw [hdst]
  exact h
end
end Go.Proofs.Ytgkglielcbgpiaa
