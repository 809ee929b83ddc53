/- A region that draws its order, whose operations only add to memory: whatever the order, each operation is shown once. -/
import Derived.Test.YtgkglielcbgpiaaLib
import Derived.Deep.RegionHeld
namespace Go.Proofs.Ytgkglielcbgpiaa
open Go.RowKit

section
variable {P : Program} {ops : Array Oper} {Q : Exit → Act → World → Prop}

/-- those that an operation waits for -/
def depsOf (ops : Array Oper) (i : Nat) : List Nat := match ops[i]? with
  | some o => (o.after.toList.filter fun e => Region.binds .any e).map (·.on)
  | none => []
theorem depsOf_spec {i : Nat} {o : Oper} (ho : ops[i]? = some o) (e : Edge) (he : e ∈ o.after) (hb : Region.binds .any e = true) : e.on ∈ depsOf ops i := by
  unfold depsOf
  rw [ho]
  exact List.mem_map.2 ⟨e, List.mem_filter.2 ⟨by simpa using he, hb⟩, rfl⟩
theorem depsOf_of {i j : Nat} {o : Oper} (ho : ops[i]? = some o) (h : j ∈ depsOf ops i) : ∃ e ∈ o.after, Region.binds .any e = true ∧ e.on = j := by
  unfold depsOf at h
  rw [ho] at h
  obtain ⟨e, he, rfl⟩ := List.mem_map.1 h
  obtain ⟨h1, h2⟩ := List.mem_filter.1 he
  exact ⟨e, by simpa using h1, h2, rfl⟩
/-- by waiting for others, k waits for j -/
def cov (ops : Array Oper) : Nat → Nat → Nat → Bool
  | 0, _, _ => false
  | f + 1, k, j => (depsOf ops k).any fun d => d == j || cov ops f d j
def lowB (ops : Array Oper) (m : Nat) : Bool := (List.range m).all fun i => (depsOf ops i).all fun j => decide (j < i)
def closeB (ops : Array Oper) (m : Nat) (L0 : List Nat := []) : Bool := (List.range ops.size).all fun k => decide (k < m) || (List.range m).all fun j => L0.contains j || cov ops 5 k j
/-- one operation, in any state in which those that it waits for are done: it adds to memory, and its value keeps its word -/
def StepAt (P : Program) (ops : Array Oper) (Q : Exit → Act → World → Prop) (ds : List Nat) (a0 : Act) (w0 : World) (Φ : Nat → Value → World → Prop) (fr : List Nat) (i : Nat) : Prop :=
  ∀ a w, Below w0.heap.size w0 w → (∀ t, t ∉ ds → a.tmps[t]? = a0.tmps[t]?) → (∀ j ∈ depsOf ops i, ∀ d, ds[j]? = some d → ∃ v, a.tmps[d]? = some v ∧ Φ j v w) →
    ∃ o, ops[i]? = some o ∧ Region.wanted o (yielded ops a.tmps) = true ∧ o.wp P a w (fun a' w' => ∃ v, a' = a.put o.dst v ∧ Below w.heap.size w w' ∧ Φ i v w' ∧ (i ∈ fr → ∃ g, v = .pointer (some ⟨g, 0, none⟩) ∧ w.heap.size ≤ g ∧ g < w'.heap.size)) Q
structure MoSt (ops : Array Oper) (m : Nat) (ds : List Nat) (a0 : Act) (w0 : World) (Φ : Nat → Value → World → Prop) (fr : List Nat) (listed : Array Bool) (a : Act) (w : World) : Prop where
  size : listed.size = ops.size
  below : Below w0.heap.size w0 w
  tail : ∀ i, m ≤ i → listed.getD i false = false
  down : ∀ i, listed.getD i false = true → ∀ j ∈ depsOf ops i, listed.getD j false = true
  stay : ∀ t, t ∉ ds → a.tmps[t]? = a0.tmps[t]?
  tsz : a.tmps.size = a0.tmps.size
  defers : a.defers = a0.defers
  val : ∀ (i d : Nat), ds[i]? = some d → listed.getD i false = true → ∃ v, a.tmps[d]? = some v ∧ Φ i v w
  frs : ∀ i ∈ fr, ∀ d, ds[i]? = some d → listed.getD i false = true → ∃ g, a.tmps[d]? = some (.pointer (some ⟨g, 0, none⟩)) ∧ g < w.heap.size
  ne : ∀ i ∈ fr, ∀ j ∈ fr, i ≠ j → ∀ d e, ds[i]? = some d → ds[j]? = some e → listed.getD i false = true → listed.getD j false = true → a.tmps[d]? ≠ a.tmps[e]?
def puts (a : Act) : List (Nat × Value) → Act
  | [] => a
  | p :: l => puts (a.put (some p.1) p.2) l
theorem puts_defers : ∀ (l : List (Nat × Value)) (a : Act), (puts a l).defers = a.defers
  | [], _ => rfl
  | p :: l, a => by rw [puts, puts_defers l]; rfl
theorem puts_get (f : Nat → Value) : ∀ (ds : List Nat) (a : Act) (t : Nat), (puts a (ds.map fun d => (d, f d))).tmps[t]? = if t ∈ ds then (a.tmps[t]?).map (fun _ => f t) else a.tmps[t]?
  | [], _, _ => by simp [puts]
  | d :: ds, a, t => by
    rw [List.map_cons, puts, puts_get f ds]
    simp only [Act.put, Array.getElem?_setIfInBounds, List.mem_cons]
    by_cases h : t = d
    · subst h
      by_cases h2 : t ∈ ds
      · by_cases h3 : t < a.tmps.size
        · simp [h2, h3]
        · simp [h2, h3]
      · by_cases h3 : t < a.tmps.size
        · simp [h2, h3]
        · simp [h2, h3]
    · by_cases h2 : t ∈ ds
      · simp [h2, h, Ne.symm h]
      · simp [h2, h, Ne.symm h]
theorem cov_spec {m : Nat} {ds : List Nat} {a0 a : Act} {w0 w : World} {Φ : Nat → Value → World → Prop} {fr : List Nat} {listed : Array Bool} (h : MoSt ops m ds a0 w0 Φ fr listed a w) : ∀ (f k j : Nat), (∀ d ∈ depsOf ops k, listed.getD d false = true) → cov ops f k j = true → listed.getD j false = true
  | 0, _, _, _, hc => by simp [cov] at hc
  | f + 1, k, j, hd, hc => by
    simp only [cov, List.any_eq_true, Bool.or_eq_true, beq_iff_eq] at hc
    obtain ⟨d, hdm, h1 | h1⟩ := hc
    · subst h1; exact hd d hdm
    · exact cov_spec h f d j (h.down d (hd d hdm)) h1
theorem zip_self (f : Nat → Value) : ∀ ds : List Nat, (ds.map fun d => (d, f d)) = ds.zip (ds.map f)
  | [] => rfl
  | d :: ds => by simp [zip_self f ds]
/-- how many of the first m are not done yet -/
def left (listed : Array Bool) : Nat → Nat
  | 0 => 0
  | m + 1 => left listed m + if listed.getD m false then 0 else 1
theorem left_same {l l' : Array Bool} : ∀ {m : Nat}, (∀ i, i < m → l.getD i false = l'.getD i false) → left l m = left l' m
  | 0, _ => rfl
  | m + 1, h => by rw [left, left, left_same (m := m) fun i hi => h i (by omega), h m (by omega)]
theorem left_set {l : Array Bool} {i : Nat} (hi : i < l.size) (h0 : l.getD i false = false) : ∀ {m : Nat}, i < m → left (l.setIfInBounds i true) m + 1 = left l m
  | 0, h => by omega
  | m + 1, h => by
    by_cases him : i = m
    · subst him
      have e1 : (l.setIfInBounds i true).getD i false = true := by simp [hi]
      have e2 : left (l.setIfInBounds i true) i = left l i := left_same fun j hj => by simp [Array.getElem?_setIfInBounds_ne (show i ≠ j by omega)]
      rw [left, left, e1, e2, h0]
      simp
    · have e1 : (l.setIfInBounds i true).getD m false = l.getD m false := by simp [Array.getElem?_setIfInBounds_ne him]
      have := left_set hi h0 (m := m) (by omega)
      rw [left, left, e1]
      omega
theorem left_zero {l : Array Bool} : ∀ {m : Nat}, left l m = 0 → ∀ i, i < m → l.getD i false = true
  | 0, _, i, hi => by omega
  | m + 1, h, i, hi => by
    rw [left] at h
    by_cases him : i = m
    · subst him
      cases hg : l.getD i false
      · rw [hg] at h; simp at h
      · rfl
    · exact left_zero (m := m) (Nat.add_eq_zero_iff.1 h).1 i (by omega)
theorem left_pos {l : Array Bool} : ∀ {m : Nat}, 0 < left l m → ∃ i, i < m ∧ l.getD i false = false ∧ ∀ j, j < i → l.getD j false = true
  | 0, h => by simp [left] at h
  | m + 1, h => by
    by_cases h0 : left l m = 0
    · rw [left, h0] at h
      refine ⟨m, Nat.lt_succ_self m, ?_, fun j hj => left_zero h0 j hj⟩
      cases hg : l.getD m false
      · rfl
      · rw [hg] at h; simp at h
    · obtain ⟨i, hi, h1, h2⟩ := left_pos (m := m) (Nat.pos_of_ne_zero h0)
      exact ⟨i, Nat.lt_succ_of_lt hi, h1, h2⟩
theorem left_none (n m : Nat) : left (Array.replicate n false) m = m := by
  induction m with
  | zero => rfl
  | succ m ih =>
    rw [left, ih]
    have : (Array.replicate n false).getD m false = false := by
      by_cases h : m < n
      · simp [h]
      · simp [h]
    rw [this]
    simp
theorem getD_tf {l : Array Bool} {i : Nat} (h : i < l.size) : l.getD i true = l.getD i false := by simp [h]

theorem wpAnyH_mono {S : World → Prop} (hS : ∀ w w', S w → Below w.heap.size w w' → S w') (L0 : List Nat) {m : Nat} {ds : List Nat} {Φ : Nat → Value → World → Prop} {fr : List Nat} (hfr : ∀ i ∈ fr, i < m) {a0 : Act} {w0 : World} (hmn : m ≤ ops.size) (hds : (ops.toList.take m).map (·.dst) = ds.map some) (hnd : ds.Nodup) (hin : ∀ d ∈ ds, d < a0.tmps.size)
    (hlow : lowB ops m = true) (hclose : closeB ops m L0 = true)
    (hΦ : ∀ i v w w', Φ i v w → Below w.heap.size w w' → Φ i v w')
    (hstep : ∀ i, i < m → StepAt P ops Q ds a0 w0 Φ fr i)
    (hend : ∀ vs : List Value, vs.length = m → ∀ w, Below w0.heap.size w0 w → (∀ (i : Nat) (v : Value), vs[i]? = some v → Φ i v w) → (∀ i ∈ fr, ∀ j ∈ fr, i ≠ j → vs[i]? ≠ vs[j]?) → S w →
      wpAnyH P .any ops Q S (ops.size - m) (Array.replicate m true ++ Array.replicate (ops.size - m) false) (puts a0 (ds.zip vs)) w) :
    ∀ (r : Nat) (listed : Array Bool) (a : Act) (w : World), MoSt ops m ds a0 w0 Φ fr listed a w → (∀ j ∈ L0, listed.getD j false = true) → S w → left listed m = r → wpAnyH P .any ops Q S (r + (ops.size - m)) listed a w := by
  have hlen : ds.length = m := by
    have := congrArg List.length hds
    simp at this
    omega
  have hdst : ∀ (i : Nat) (o : Oper) (d : Nat), i < m → ops[i]? = some o → ds[i]? = some d → o.dst = some d := by
    intro i o d hi ho hd
    have h1 := congrArg (fun l => l[i]?) hds
    simp only [List.getElem?_map, List.getElem?_take, hi, if_true, Array.getElem?_toList, ho, hd, Option.map_some, Option.some.injEq] at h1
    exact h1
  intro r
  induction r with
  | zero =>
    intro listed a w h hpre hSw hl
    have hall := left_zero hl
    have el : listed = Array.replicate m true ++ Array.replicate (ops.size - m) false := by
      apply Array.ext
      · simp [h.size]; omega
      · intro i h1 h2
        by_cases him : i < m
        · have := hall i him
          simp [h1] at this
          rw [this]
          simp [Array.getElem_append, him]
        · have := h.tail i (by omega)
          simp [h1] at this
          rw [this]
          simp [Array.getElem_append, him]
    let f : Nat → Value := fun d => a.tmps.getD d undef
    have ea : a = puts a0 (ds.map fun d => (d, f d)) := by
      have e1 : a.tmps = (puts a0 (ds.map fun d => (d, f d))).tmps := by
        apply Array.ext_getElem?
        intro t
        rw [puts_get]
        by_cases ht : t ∈ ds
        · rw [if_pos ht]
          have h1 := hin t ht
          have h2 : t < a.tmps.size := by rw [h.tsz]; exact h1
          simp [h1, h2, f]
        · rw [if_neg ht]
          exact h.stay t ht
      have e2 := (puts_defers (ds.map fun d => (d, f d)) a0).trans h.defers.symm
      cases a
      generalize puts a0 (ds.map fun d => (d, f d)) = b at e1 e2
      cases b
      simp only at e1 e2
      rw [e1, e2]
    have ez : (ds.map fun d => (d, f d)) = ds.zip (ds.map f) := by
      exact zip_self f ds
    rw [ez] at ea
    rw [Nat.zero_add, el, ea]
    have hval : ∀ (i d : Nat), ds[i]? = some d → (ds.map f)[i]? = a.tmps[d]? := by
      intro i d hd
      have hi : i < m := by rw [← hlen]; exact (List.getElem?_eq_some_iff.1 hd).1
      obtain ⟨v, hv1, _⟩ := h.val i d hd (hall i hi)
      rw [List.getElem?_map, hd, hv1]
      simp [f, hv1]
    refine hend (ds.map f) (by simpa using hlen) w h.below (fun i v hv => ?_) (fun i hi j hj hij => ?_) hSw
    rotate_left
    · have him := hfr i hi
      have hjm := hfr j hj
      obtain ⟨d, hd⟩ : ∃ d, ds[i]? = some d := ⟨ds[i]'(by omega), by simp [show i < ds.length by omega]⟩
      obtain ⟨e, he⟩ : ∃ e, ds[j]? = some e := ⟨ds[j]'(by omega), by simp [show j < ds.length by omega]⟩
      rw [hval i d hd, hval j e he]
      exact h.ne i hi j hj hij d e hd he (hall i him) (hall j hjm)
    rw [List.getElem?_map] at hv
    obtain ⟨d, hd, rfl⟩ := Option.map_eq_some_iff.1 hv
    have hi : i < m := by rw [← hlen]; exact (List.getElem?_eq_some_iff.1 hd).1
    obtain ⟨v, hv1, hv2⟩ := h.val i d hd (hall i hi)
    have e3 : f d = v := by simp [f, hv1]
    rw [e3]
    exact hv2
  | succ r ih =>
    intro listed a w h hpre hSw hl
    rw [Nat.succ_add]
    refine ⟨fun hr => ?_, fun i hi => ?_⟩
    · obtain ⟨i, him, h0, hj⟩ := left_pos (show 0 < left listed m by omega)
      exfalso
      have hio : i < ops.size := by omega
      have hmem : i ∈ Region.ready .any ops listed := by
        rw [mem_ready]
        refine ⟨by rw [getD_tf (by rw [h.size]; exact hio)]; exact h0, ops[i], by simp [hio], fun e he hb => hj _ ?_⟩
        have h1 := List.all_eq_true.1 (List.all_eq_true.1 hlow i (List.mem_range.2 him)) e.on (depsOf_spec (by simp [hio]) e he hb)
        exact of_decide_eq_true h1
      rw [hr] at hmem
      cases hmem
    · obtain ⟨hun, o, ho, hall⟩ := mem_ready.1 hi
      have hio : i < ops.size := (Array.getElem?_eq_some_iff.1 ho).1
      have hil : i < listed.size := by rw [h.size]; exact hio
      rw [getD_tf hil] at hun
      have hdep : ∀ j ∈ depsOf ops i, listed.getD j false = true := by
        intro j hj
        obtain ⟨e, he, hb, rfl⟩ := depsOf_of ho hj
        exact hall e he hb
      have him : i < m := by
        refine Decidable.byContradiction fun hge => ?_
        have h1 := List.all_eq_true.1 hclose i (List.mem_range.2 hio)
        simp only [hge, decide_false, Bool.false_or] at h1
        have h2 : ∀ j, j < m → listed.getD j false = true := fun j hj => by
          have h3 := List.all_eq_true.1 h1 j (List.mem_range.2 hj)
          simp only [Bool.or_eq_true] at h3
          rcases h3 with h3 | h3
          · exact hpre j (by simpa using h3)
          · exact cov_spec h 5 i j hdep h3
        obtain ⟨j, hjm, h0, _⟩ := left_pos (show 0 < left listed m by omega)
        rw [h2 j hjm] at h0
        cases h0
      obtain ⟨d, hd⟩ : ∃ d, ds[i]? = some d := ⟨ds[i]'(by omega), by simp [show i < ds.length by omega]⟩
      obtain ⟨o', ho', hg, hwp⟩ := hstep i him a w h.below h.stay (fun j hj d hd => h.val j d hd (hdep j hj))
      rw [ho] at ho'
      obtain rfl : o = o' := by simpa using ho'
      have hdo := hdst i o d him ho hd
      unfold wpOp
      rw [ho]
      simp only [hg, if_true]
      refine .inl (Oper.wp_mono (fun a' w' hk => ?_) hwp)
      obtain ⟨v, rfl, hb, hv, hfresh⟩ := hk
      have hput : ∀ (k d' : Nat), ds[k]? = some d' → k ≠ i → (a.put o.dst v).tmps[d']? = a.tmps[d']? := by
        intro k d' hd' hki
        have hne : d ≠ d' := by
          intro e
          subst e
          obtain ⟨h1, h2⟩ := List.getElem?_eq_some_iff.1 hd
          obtain ⟨h3, h4⟩ := List.getElem?_eq_some_iff.1 hd'
          exact hki ((List.getElem_inj hnd).1 (h4.trans h2.symm))
        rw [hdo]
        simp only [Act.put]
        rw [Array.getElem?_setIfInBounds_ne hne]
      have hself : (a.put o.dst v).tmps[d]? = some v := by
        have hdt : d < a.tmps.size := by rw [h.tsz]; exact hin d (List.mem_of_getElem? hd)
        rw [hdo]
        simp [Act.put, hdt]
      have hold : ∀ k, k ≠ i → (listed.setIfInBounds i true).getD k false = true → listed.getD k false = true := by
        intro k hki hk
        rw [getD_set_ne false (Ne.symm hki)] at hk
        exact hk
      have hdt : d < a.tmps.size := by rw [h.tsz]; exact hin d (List.mem_of_getElem? hd)
      refine ⟨hS _ _ hSw hb, ?_⟩
      refine ih _ _ _ ⟨?_, ?_, ?_, ?_, ?_, ?_, ?_, ?_, ?_, ?_⟩ (fun j hj => getD_set_true (hpre j hj)) (hS _ _ hSw hb) ?_
      · simp [h.size]
      · exact h.below.trans (hb.mono h.below.size)
      · intro k hk
        have hne : i ≠ k := by omega
        rw [getD_set_ne false hne]
        exact h.tail k hk
      · intro k hk j hj
        by_cases hki : k = i
        · subst hki; exact getD_set_true (hdep j hj)
        · have hk' : listed.getD k false = true := by
            rw [getD_set_ne false (Ne.symm hki)] at hk
            exact hk
          exact getD_set_true (h.down k hk' j hj)
      · intro t ht
        have hne : d ≠ t := fun e => ht (e ▸ List.mem_of_getElem? hd)
        rw [← h.stay t ht, hdo]
        simp only [Act.put]
        rw [Array.getElem?_setIfInBounds_ne hne]
      · rw [hdo]; simp [Act.put, h.tsz]
      · rw [hdo]; exact h.defers
      · intro k d' hd' hk
        by_cases hki : k = i
        · subst hki
          rw [hd] at hd'
          obtain rfl : d = d' := by simpa using hd'
          refine ⟨v, ?_, hv⟩
          rw [hdo]
          simp [Act.put, hdt]
        · have hk' : listed.getD k false = true := by
            rw [getD_set_ne false (Ne.symm hki)] at hk
            exact hk
          obtain ⟨u, hu1, hu2⟩ := h.val k d' hd' hk'
          have hne : d ≠ d' := by
            intro e
            subst e
            obtain ⟨h1, h2⟩ := List.getElem?_eq_some_iff.1 hd
            obtain ⟨h3, h4⟩ := List.getElem?_eq_some_iff.1 hd'
            exact hki ((List.getElem_inj hnd).1 (h4.trans h2.symm))
          refine ⟨u, ?_, hΦ _ _ _ _ hu2 hb⟩
          rw [hdo, ← hu1]
          simp only [Act.put]
          rw [Array.getElem?_setIfInBounds_ne hne]
      · intro k hk d' hd' hlk
        by_cases hki : k = i
        · subst hki
          rw [hd] at hd'
          obtain rfl : d = d' := by simpa using hd'
          obtain ⟨g, rfl, _, h2⟩ := hfresh hk
          exact ⟨g, hself, h2⟩
        · obtain ⟨g, h1, h2⟩ := h.frs k hk d' hd' (hold k hki hlk)
          exact ⟨g, by rw [hput k d' hd' hki]; exact h1, Nat.lt_of_lt_of_le h2 hb.size⟩
      · intro k hk j hj hkj d' e' hd' he' hlk hlj
        by_cases hki : k = i
        · subst hki
          rw [hd] at hd'
          obtain rfl : d = d' := by simpa using hd'
          obtain ⟨g, rfl, h1, _⟩ := hfresh hk
          obtain ⟨g', h3, h4⟩ := h.frs j hj e' he' (hold j (Ne.symm hkj) hlj)
          rw [hself, hput j e' he' (Ne.symm hkj), h3]
          intro e
          simp only [Option.some.injEq, Value.pointer.injEq, Addr.mk.injEq] at e
          omega
        · by_cases hji : j = i
          · subst hji
            rw [hd] at he'
            obtain rfl : d = e' := by simpa using he'
            obtain ⟨g, rfl, h1, _⟩ := hfresh hj
            obtain ⟨g', h3, h4⟩ := h.frs k hk d' hd' (hold k hki hlk)
            rw [hself, hput k d' hd' hki, h3]
            intro e
            simp only [Option.some.injEq, Value.pointer.injEq, Addr.mk.injEq] at e
            omega
          · rw [hput k d' hd' hki, hput j e' he' hji]
            exact h.ne k hk j hj hkj d' e' hd' he' (hold k hki hlk) (hold j hji hlj)
      · have := left_set hil hun him
        omega
theorem held_true : ∀ (fuel : Nat) (listed : Array Bool) (a : Act) (w : World), wpAny P .any ops Q fuel listed a w → wpAnyH P .any ops Q (fun _ => True) fuel listed a w
  | 0, _, _, _, h => h
  | fuel + 1, _, _, _, h => ⟨h.1, fun i hi => wpOp_mono (fun a' w' h' => ⟨trivial, held_true fuel _ a' w' h'⟩) (h.2 i hi)⟩
theorem wpAny_mono {m : Nat} {ds : List Nat} {Φ : Nat → Value → World → Prop} {fr : List Nat} (hfr : ∀ i ∈ fr, i < m) {a0 : Act} {w0 : World} (hmn : m ≤ ops.size) (hds : (ops.toList.take m).map (·.dst) = ds.map some) (hnd : ds.Nodup) (hin : ∀ d ∈ ds, d < a0.tmps.size)
    (hlow : lowB ops m = true) (hclose : closeB ops m = true)
    (hΦ : ∀ i v w w', Φ i v w → Below w.heap.size w w' → Φ i v w')
    (hstep : ∀ i, i < m → StepAt P ops Q ds a0 w0 Φ fr i)
    (hend : ∀ vs : List Value, vs.length = m → ∀ w, Below w0.heap.size w0 w → (∀ (i : Nat) (v : Value), vs[i]? = some v → Φ i v w) → (∀ i ∈ fr, ∀ j ∈ fr, i ≠ j → vs[i]? ≠ vs[j]?) →
      wpAny P .any ops Q (ops.size - m) (Array.replicate m true ++ Array.replicate (ops.size - m) false) (puts a0 (ds.zip vs)) w) :
    ∀ (r : Nat) (listed : Array Bool) (a : Act) (w : World), MoSt ops m ds a0 w0 Φ fr listed a w → left listed m = r → wpAny P .any ops Q (r + (ops.size - m)) listed a w :=
  fun r listed a w h hl => wpAny_of_held _ _ _ _ (wpAnyH_mono (S := fun _ => True) (fun _ _ _ _ => trivial) [] hfr hmn hds hnd hin hlow hclose hΦ hstep (fun vs h1 w h2 h3 h4 _ => held_true _ _ _ _ (hend vs h1 w h2 h3 h4)) r listed a w h (fun j hj => by cases hj) trivial hl)
/-- the whole region -/
theorem wp_region_mono {id : Nat} (m : Nat) (ds : List Nat) (Φ : Nat → Value → World → Prop) (fr : List Nat) (hfr : (fr.all fun i => decide (i < m)) = true) {a0 : Act} {w : World} (hm : P.follows .mixedOrders = true) (hmn : decide (m ≤ ops.size) = true) (hds : (ops.toList.take m).map (·.dst) = ds.map some) (hnd : decide ds.Nodup = true) (hin : (ds.all fun d => decide (d < a0.tmps.size)) = true)
    (hlow : lowB ops m = true) (hclose : closeB ops m = true)
    (hΦ : ∀ i v w w', Φ i v w → Below w.heap.size w w' → Φ i v w')
    (hstep : ∀ i, i < m → StepAt P ops Q ds a0 w.drew Φ fr i)
    (hend : ∀ vs : List Value, vs.length = m → ∀ w', Below w.heap.size w w' → (∀ (i : Nat) (v : Value), vs[i]? = some v → Φ i v w') → (∀ i ∈ fr, ∀ j ∈ fr, i ≠ j → vs[i]? ≠ vs[j]?) →
      wpAny P .any ops Q (ops.size - m) (Array.replicate m true ++ Array.replicate (ops.size - m) false) (puts a0 (ds.zip vs)) w') :
    (Code.region id ops true).wp P Q a0 w := by
  have hm' : m ≤ ops.size := of_decide_eq_true hmn
  refine wp_region_any hm ?_
  have h := wpAny_mono (P := P) (Q := Q) (w0 := w.drew) (fun i hi => of_decide_eq_true (List.all_eq_true.1 hfr i hi)) hm' hds (of_decide_eq_true hnd) (fun d hd => of_decide_eq_true (List.all_eq_true.1 hin d hd)) hlow hclose hΦ hstep
    (fun vs hl w' hb hv hf => hend vs hl w' ⟨hb.os, hb.tape, hb.output, hb.size, hb.block⟩ hv hf) m (Array.replicate ops.size false) a0 w.drew
    ⟨by simp, Below.refl _ _, fun i _ => by by_cases h : i < ops.size <;> simp [h], fun i hi => by exfalso; revert hi; by_cases h : i < ops.size <;> simp [h], fun _ _ => rfl, rfl, rfl, fun i d _ hi => by exfalso; revert hi; by_cases h : i < ops.size <;> simp [h],
      fun i _ d _ hi => by exfalso; revert hi; by_cases h : i < ops.size <;> simp [h], fun i _ j _ _ d e _ _ hi => by exfalso; revert hi; by_cases h : i < ops.size <;> simp [h]⟩ (left_none _ _)
  rwa [show m + (ops.size - m) = ops.size by omega] at h
theorem eval_of {a : Act} {t : Nat} {v : Value} (h : a.tmps[t]? = some v) : a.eval (.tmp t) = v := by simp [Act.eval, h]
theorem wanted_no {o : Oper} {f : Nat → Option Bool} (h : o.guard = none) : Region.wanted o f = true := by simp [Region.wanted, h]
theorem wanted_yes {o : Oper} {a : Act} {j d : Nat} {oj : Oper} {b : Bool} (h : o.guard = some (j, b)) (hj : ops[j]? = some oj) (hd : oj.dst = some d) (hv : a.tmps[d]? = some (.bool b)) : Region.wanted o (yielded ops a.tmps) = true := by
  simp [Region.wanted, h, yielded, hj, hd, hv]
/-- an operation that answers at once -/
theorem step_val {i : Nat} {o : Oper} {a : Act} {w w' : World} {v : Value} {Φ : Nat → Value → World → Prop} {fr : List Nat} (ho : ops[i]? = some o) (hg : Region.wanted o (yielded ops a.tmps) = true) (hr : (execOp a.eval o).run P w = .ok (.value v) w') (hb : Below w.heap.size w w') (hv : Φ i v w') (hf : i ∈ fr → ∃ g, v = .pointer (some ⟨g, 0, none⟩) ∧ w.heap.size ≤ g ∧ g < w'.heap.size) :
    ∃ o, ops[i]? = some o ∧ Region.wanted o (yielded ops a.tmps) = true ∧ o.wp P a w (fun a' w' => ∃ v, a' = a.put o.dst v ∧ Below w.heap.size w w' ∧ Φ i v w' ∧ (i ∈ fr → ∃ g, v = .pointer (some ⟨g, 0, none⟩) ∧ w.heap.size ≤ g ∧ g < w'.heap.size)) Q := by
  refine ⟨o, ho, hg, ?_⟩
  unfold Oper.wp
  rw [hr]
  exact ⟨v, rfl, hb, hv, hf⟩
/-- a call -/
theorem step_fn {i : Nat} {o : Oper} {a : Act} {w : World} {f : FuncId} {xs : Array Operand} {ts : Array TypeId} {args : Array Value} {Φ : Nat → Value → World → Prop} {fr : List Nat} (hf : i ∉ fr) (ho : ops[i]? = some o) (hg : Region.wanted o (yielded ops a.tmps) = true) (hop : o.op = .call { callee := .value (.func f), args := xs, argTypes := ts }) (hx : xs.map a.eval = args)
    (hen : ∀ W, (callFunc f args).run P W = .ok (.enter f args) W) (hc : Calls P f args w fun e w' => ∃ v, e = .returned v ∧ Below w.heap.size w w' ∧ Φ i v w') :
    ∃ o, ops[i]? = some o ∧ Region.wanted o (yielded ops a.tmps) = true ∧ o.wp P a w (fun a' w' => ∃ v, a' = a.put o.dst v ∧ Below w.heap.size w w' ∧ Φ i v w' ∧ (i ∈ fr → ∃ g, v = .pointer (some ⟨g, 0, none⟩) ∧ w.heap.size ≤ g ∧ g < w'.heap.size)) Q := by
  refine ⟨o, ho, hg, ?_⟩
  unfold Oper.wp execOp
  have hr : ((execOp a.eval o).run P w) = .ok (.enter f args) w := by
    unfold execOp
    simp [hop, resolve, Deferred.ofValue, invoke, hx, Act.eval, hen]
  unfold execOp at hr
  rw [hr, Oper.upon_enter]
  refine Calls.mono hc ?_
  rintro e w' ⟨v, rfl, hb, hv⟩
  exact ⟨v, rfl, hb, hv, fun h => absurd h hf⟩
/-- what is left behind them, one after the other -/
theorem wpAny_one {k fuel : Nat} {o : Oper} {listed : Array Bool} {a : Act} {w : World} (hr : Region.ready .any ops listed = [k]) (ho : ops[k]? = some o) (hg : o.guard = none)
    (h : o.wp P a w (wpAny P .any ops Q fuel (listed.setIfInBounds k true)) Q) : wpAny P .any ops Q (fuel + 1) listed a w := by
  refine wpAny_all hr (by simp) fun i hi => ?_
  obtain rfl : i = k := by simpa using hi
  unfold wpOp
  rw [ho]
  have hw : Region.wanted o (yielded ops a.tmps) = true := by simp [Region.wanted, hg]
  simp only [hw, if_true]
  exact .inl h
end
end Go.Proofs.Ytgkglielcbgpiaa
