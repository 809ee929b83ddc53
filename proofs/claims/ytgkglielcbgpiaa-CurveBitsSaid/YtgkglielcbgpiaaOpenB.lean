/- From the form's own readings of arguments to the words for memory. -/
import Derived.Test.YtgkglielcbgpiaaLib
import Derived.Deep.Slices
import Derived.Deep.Fields
import Derived.Deep.Matrix
import Derived.SizedLaws
namespace Go.Proofs.Ytgkglielcbgpiaa
open Go.RowKit Go.ChangeShapes Go.WideShapes

section
variable {H : Type} {enc : TypeId × Value → H}
theorem one_le (d : DataW H) : 1 ≤ Rows.uptoBulk d := by cases d <;> (try rename_i l; cases l) <;> simp [Rows.uptoBulk]
theorem length_le (l : List (DataW H)) : l.length ≤ Rows.uptoBulkAll l := by
  induction l with
  | nil => simp [Rows.uptoBulkAll]
  | cons x r ih => have := one_le x; simp only [Rows.uptoBulkAll, List.length_cons]; omega
theorem bulk_le {l : List (DataW H)} (hk : Rows.uptoSmall H l = true) : Rows.uptoBulkAll l ≤ 1048576 := of_decide_eq_true hk

set_option maxRecDepth 100000
def u8s (zs : List Int) : List UInt8 := zs.map fun z => UInt8.ofNat z.toNat
theorem u8_back {z : Int} (h : (Lit.int .u8 z).wf = true) : ((UInt8.ofNat z.toNat).toNat : Int) = z := by
  have hx : 0 ≤ z ∧ z ≤ 255 := by simpa [Lit.wf, IntKind.min, IntKind.max, IntKind.signed, IntKind.bits] using h
  rw [UInt8.toNat_ofNat']
  omega
/-- what the datum tells of the length -/
def SizedAs (d : DataW H) (n : Nat) : Prop := n = 0 ∨ ∃ elems spare, d = .slice elems spare ∧ elems.length = n
theorem SizedAs.bulk {d : DataW H} {n : Nat} (h : SizedAs d n) : n ≤ Rows.uptoBulk d := by
  rcases h with rfl | ⟨elems, spare, rfl, rfl⟩
  · exact Nat.zero_le _
  · have h1 := length_le elems
    simp only [Rows.uptoBulk]
    omega
theorem SizedAs.reach {d : DataW H} {n : Nat} (h : SizedAs d n) {ts : List TypeId} {ds : List (DataW H)} (hsz : (DataW.weightsEach Try.prog ts ds).all (· ≤ reachBytes) = true) {j : Nat} {t e : TypeId} (ht : ts[j]? = some t) (hd : ds[j]? = some d)
    (hu : Try.prog.underlying t = some (.slice e)) : n * Try.prog.bytesOf e ≤ reachBytes := by
  rcases h with rfl | ⟨elems, spare, rfl, rfl⟩
  · simp
  · have := sized_slice hsz ht hd hu
    rw [Nat.add_mul] at this
    omega
theorem bytes8 : Try.prog.bytesOf 5 = 1 := by kernel_rfl
theorem reach_bs {d : DataW H} {n : Nat} (h : SizedAs d n) {ts : List TypeId} {ds : List (DataW H)} (hsz : (DataW.weightsEach Try.prog ts ds).all (· ≤ reachBytes) = true) {j : Nat} (ht : ts[j]? = some 47) (hd : ds[j]? = some d) : n ≤ 140737488351232 := by
  have := h.reach hsz ht hd Try.underlying47
  rw [bytes8] at this
  simp only [reachBytes] at this
  omega
theorem open_bs {W : World} {r : Reach} {b0 : Nat} {v : Value} {d : DataW H} {p : List MemPlace} (hv : Value.okWide Try.prog W r b0 47 v)
    (h : DataW.Trod enc Try.prog W 0 (fun _ => true) true 47 v d p) :
    ∃ l, Bs W W.heap.size v l ∧ SizedAs d l.length := by
  obtain ⟨a, len, cap, rfl⟩ := okWide_slice Try.underlying47 hv
  obtain ⟨fuel, hf⟩ := h
  rcases open_ints Try.underlying47 Try.underlying5 (by kernel_rfl) hf with ⟨hcs, hx⟩ | ⟨x, l, c, zs, hcs, _, hl, hm, hz, hx, hcell, hwz⟩
  · simp [Value.cells] at hcs
    obtain ⟨rfl, rfl, rfl⟩ := hcs
    exact ⟨[], Bs.nil _ _, .inl rfl⟩
  · simp [Value.cells] at hcs
    obtain ⟨rfl, rfl, rfl⟩ := hcs
    simp only [if_true] at hz
    have hlen : (u8s (zs.take len)).length = len := by simp [u8s]; omega
    simp only [Prod.mk.injEq] at hx
    refine ⟨u8s (zs.take len), ⟨some x, cap, by rw [hlen], by omega, hm, fun hp => ?_⟩, .inr ⟨_, _, hx.1, by rw [hlen]; simp [lits]; omega⟩⟩
    obtain ⟨b, off, sp⟩ := x
    have h0 := hcell 0 (by omega)
    have hsp : sp = none := by simpa [Addr.add] using World.cell?_spot h0
    subst hsp
    refine ⟨b, off, rfl, ?_, fun j hj => ?_⟩
    · exact World.block_lt_of_cell? W ⟨b, off, none⟩ (by simpa [Addr.add] using h0)
    · have hj' : j < zs.length := by omega
      have := hcell j hj'
      rw [add_none] at this
      rw [this]
      have e : (u8s (zs.take len))[j] = UInt8.ofNat (zs[j]).toNat := by simp [u8s]
      rw [e, u8_back (hwz _ (List.getElem_mem hj'))]
      simp [hj']
theorem open_ss {W : World} {t e : TypeId} {fs : Array Field} {v : Value} {d : DataW H} {p : List MemPlace} (ht : Try.prog.underlying t = some (.slice e)) (he : Try.prog.underlying e = some (.struct fs))
    (hone : Go.Deep.oneCellFields Try.prog fs = true) (hpos : 0 < fs.size) (hC : Try.prog.cellsOf e = fs.size) (hall : ∀ (j : Nat) (f : Field), fs[j]? = some f → Try.prog.underlying f.type = some (.int .i64)) {r : Reach} {b0 : Nat} (hv : Value.okWide Try.prog W r b0 t v)
    (h : DataW.Trod enc Try.prog W 0 (fun _ => true) true t v d p) :
    ∃ xs, Ss W W.heap.size v fs.size xs ∧ SizedAs d xs.length := by
  obtain ⟨a, len, cap, rfl⟩ := okWide_slice ht hv
  obtain ⟨fuel, hf⟩ := h
  rcases Go.Deep.open_slice ht hf with ⟨hcs, _⟩ | ⟨x, l, c, m, n, D, Pl, hcs, _, hl, hm, hmm, hx, hel⟩
  · simp [Value.cells] at hcs
    obtain ⟨rfl, rfl, rfl⟩ := hcs
    exact ⟨[], ⟨none, 0, rfl, Nat.le_refl _, Nat.zero_le _, fun h => absurd h (by simp)⟩, .inl rfl⟩
  · simp [Value.cells] at hcs
    obtain ⟨rfl, rfl, rfl⟩ := hcs
    simp only [if_true] at hmm
    have hmm' := hmm.symm
    subst hmm'
    -- each element: its integers
    have each : ∀ i, i < len → ∃ z : List Int, z.length = fs.size ∧ ∀ k (hk : k < z.length), W.cell? (x.add (i * fs.size + k)) = some (.int .i64 z[k]) ∧ (Lit.int .i64 z[k]).wf = true := by
      intro i hi
      obtain ⟨cs', hc, ht'⟩ := hel i (by omega)
      rw [hC] at hc
      obtain ⟨_, hcl, hat⟩ := World.cells?_some hc
      obtain ⟨ys, n', _, _, _, hyl, hfld⟩ := DataW.trod_struct he ht'
      have one : ∀ k, k < fs.size → ∃ z : Int, cs'[k]? = some (.int .i64 z) ∧ (Lit.int .i64 z).wf = true := by
        intro k hk
        obtain ⟨f, hfk⟩ : ∃ f, fs[k]? = some f := ⟨fs[k], by simp [hk]⟩
        obtain ⟨ho, hk1⟩ := Go.Deep.hone_of hone k f hfk
        have h1 := hfld k f hfk
        rw [ho, hk1] at h1
        have hys : ys[k]? = some (ys[k]'(by omega)) := List.getElem?_eq_getElem (by omega)
        rw [hys] at h1
        obtain ⟨z, hz, _, hw⟩ := DataW.trod_int (hall k f hfk) h1
        refine ⟨z, ?_, hw⟩
        have h2 : (List.take 1 (List.drop k cs'))[0]? = some (.int .i64 z) := by rw [hz]; rfl
        simpa [List.getElem?_take] using h2
      obtain ⟨Z, hZ⟩ := Go.Deep.choose_lt one
      refine ⟨(List.range fs.size).map Z, by simp, fun k hk => ?_⟩
      have hk' : k < fs.size := by simpa using hk
      have e1 := hat k hk'
      rw [(hZ k hk').1] at e1
      refine ⟨?_, by simpa using (hZ k hk').2⟩
      rw [← Go.Deep.add_add, e1]
      simp
    obtain ⟨Z, hZ⟩ := Go.Deep.choose_lt each
    simp only [Prod.mk.injEq] at hx
    refine ⟨(List.range len).map Z, ⟨some x, cap, by simp, by simpa using hl, hm, fun hp => ?_⟩, .inr ⟨_, _, hx.1, by simp⟩⟩
    have hp' : 0 < len := by simpa using hp
    obtain ⟨b, off, sp⟩ := x
    obtain ⟨hl0, hz0⟩ := hZ 0 hp'
    have h0 := (hz0 0 (by omega)).1
    rw [Nat.zero_mul, Nat.zero_add] at h0
    have hsp : sp = none := by simpa [Addr.add] using World.cell?_spot h0
    subst hsp
    refine ⟨b, off, rfl, World.block_lt_of_cell? W ⟨b, off, none⟩ (by simpa [Addr.add] using h0), fun j hj => ?_⟩
    have hj' : j < len := by simpa using hj
    obtain ⟨hlj, hzj⟩ := hZ j hj'
    have e1 : ((List.range len).map Z)[j] = Z j := by simp
    rw [e1]
    refine ⟨hlj, fun i hi => ?_⟩
    have h1 := hzj i hi
    rw [add_none, ← Nat.add_assoc] at h1
    exact h1
theorem bulkAll_range (f : Nat → DataW H) (g : Nat → Nat) (n : Nat) (h : ∀ r, r < n → g r + 1 ≤ Rows.uptoBulk (f r)) : n + ((List.range n).map g).sum ≤ Rows.uptoBulkAll ((List.range n).map f) := by
  induction n with
  | zero => simp
  | succ n ih =>
    have h1 := ih fun r hr => h r (by omega)
    have h2 := h n (by omega)
    have app : ∀ (l : List (DataW H)) (x : DataW H), Rows.uptoBulkAll (l ++ [x]) = Rows.uptoBulkAll l + Rows.uptoBulk x := by
      intro l x
      induction l with
      | nil => simp [Rows.uptoBulkAll]
      | cons y l ih => simp only [List.cons_append, Rows.uptoBulkAll, ih]; omega
    rw [List.range_succ, List.map_append, List.map_append, List.map_singleton, List.map_singleton, app, List.sum_append]
    simp only [List.sum_cons, List.sum_nil]
    omega
theorem mem_weightsAll {e : TypeId} {l : List (DataW H)} {d : DataW H} {n : Nat} (hd : d ∈ l) (hn : n ∈ d.weights Try.prog e) : n ∈ DataW.weightsAll Try.prog e l := by
  induction l with
  | nil => cases hd
  | cons x r ih =>
    simp only [DataW.weightsAll, List.mem_append]
    rcases List.mem_cons.1 hd with rfl | h
    · exact .inl hn
    · exact .inr (ih h)
theorem bytes24 : Try.prog.bytesOf 47 = 24 := by kernel_rfl
theorem reach_rs {d : DataW H} {ls : List (List UInt8)} (h : ∀ N, (∀ n ∈ d.weights Try.prog 60, n ≤ N) → ls.length * 24 ≤ N ∧ ∀ l ∈ ls, l.length ≤ N) {ts : List TypeId} {ds : List (DataW H)}
    (hsz : (DataW.weightsEach Try.prog ts ds).all (· ≤ reachBytes) = true) {j : Nat} (ht : ts[j]? = some 60) (hd : ds[j]? = some d) : ls.length * 24 ≤ 140737488351232 ∧ ∀ l ∈ ls, l.length ≤ 140737488351232 :=
  h 140737488351232 fun n hn => by
    have := List.all_eq_true.1 hsz _ (DataW.weights_mem_each ht hd n hn)
    exact of_decide_eq_true this
theorem open_rs {W : World} {r : Reach} {b0 : Nat} {v : Value} {d : DataW H} {p : List MemPlace} (hv : Value.okWide Try.prog W r b0 60 v)
    (h : DataW.Trod enc Try.prog W 0 (fun _ => true) true 60 v d p) :
    ∃ ls, Rs W W.heap.size v ls ∧ ls.length + ls.flatten.length ≤ Rows.uptoBulk d ∧ ∀ N, (∀ n ∈ d.weights Try.prog 60, n ≤ N) → ls.length * 24 ≤ N ∧ ∀ l ∈ ls, l.length ≤ N := by
  obtain ⟨a, len, cap, rfl⟩ := okWide_slice Try.underlying60 hv
  obtain ⟨fuel, hf⟩ := h
  rcases Go.Deep.open_int_rows Try.underlying60 Try.underlying47 Try.underlying5 (by kernel_rfl) (by kernel_rfl) hf with ⟨hcs, _⟩ | ⟨x, l, c, A, L, C, Z, hcs, _, hl, hm, hx, hr⟩
  · simp [Value.cells] at hcs
    obtain ⟨rfl, rfl, rfl⟩ := hcs
    exact ⟨[], Rs.nil _ _, Nat.zero_le _, fun N _ => ⟨by simp, by simp⟩⟩
  · simp [Value.cells] at hcs
    obtain ⟨rfl, rfl, rfl⟩ := hcs
    simp only [Prod.mk.injEq] at hx
    have hlen : ∀ r, r < cap → (u8s ((Z r).take (L r))).length = L r := by
      intro r hrc
      obtain ⟨_, h1, _, h3, _⟩ := hr r hrc
      simp [u8s]; omega
    refine ⟨(List.range len).map fun r => u8s ((Z r).take (L r)), ⟨some x, cap, by simp, by simpa using hl, hm, fun hp => ?_⟩, ?_, ?_⟩
    · have hp' : 0 < len := by simpa using hp
      obtain ⟨b, off, sp⟩ := x
      have h0 := (hr 0 (by omega)).1
      have hsp : sp = none := by simpa [Addr.add] using World.cell?_spot h0
      subst hsp
      refine ⟨b, off, rfl, World.block_lt_of_cell? W ⟨b, off, none⟩ (by simpa [Addr.add] using h0), fun j hj => ?_⟩
      have hj' : j < len := by simpa using hj
      obtain ⟨hc1, hLC, hCm, hZC, hwf, hnone, hsome⟩ := hr j (by omega)
      rw [add_none] at hc1
      have e1 : ((List.range len).map fun r => u8s ((Z r).take (L r)))[j] = u8s ((Z j).take (L j)) := by simp
      refine ⟨_, hc1, ?_⟩
      rw [e1]
      have hlj := hlen j (by omega)
      refine ⟨A j, C j, by rw [hlj], by omega, hCm, fun hq => ?_⟩
      rcases hA : A j with _ | a'
      · have := hnone hA
        omega
      · obtain ⟨_, hcells⟩ := hsome a' hA
        obtain ⟨b', off', sp'⟩ := a'
        have h0' := hcells 0 (by omega)
        have hsp' : sp' = none := by simpa [Addr.add] using World.cell?_spot h0'
        subst hsp'
        refine ⟨b', off', rfl, World.block_lt_of_cell? W ⟨b', off', none⟩ (by simpa [Addr.add] using h0'), fun i hi => ?_⟩
        have hiZ : i < (Z j).length := by omega
        have h2 := hcells i (by omega)
        rw [add_none] at h2
        rw [h2]
        have e : (u8s ((Z j).take (L j)))[i] = UInt8.ofNat ((Z j)[i]).toNat := by simp [u8s]
        rw [e, u8_back (hwf _ (List.getElem_mem hiZ))]
        simp [hiZ]
    · rw [hx.1]
      have h1 := bulkAll_range (fun r => Go.Deep.intRow (H := H) .u8 (A r) (L r) (Z r)) L len (fun r hrl => by
        obtain ⟨_, hLC, _, hZC, _, hnone, _⟩ := hr r (by omega)
        rcases hA : A r with _ | a'
        · have := hnone hA
          simp [Go.Deep.intRow, Rows.uptoBulk]
          omega
        · have h2 := length_le (H := H) (lits .u8 ((Z r).take (L r)))
          have h3 : (lits (H := H) .u8 ((Z r).take (L r))).length = L r := by simp [lits]; omega
          simp only [Go.Deep.intRow, Rows.uptoBulk]
          omega)
      have h2 : ((List.range len).map fun r => u8s ((Z r).take (L r))).flatten.length = ((List.range len).map L).sum := by
        rw [List.length_flatten, List.map_map]
        congr 1
        apply List.map_congr_left
        intro r hrl
        exact hlen r (by have := List.mem_range.1 hrl; omega)
      simp only [Rows.uptoBulk]
      rw [h2]
      simp only [List.length_map, List.length_range]
      omega
    · intro N hN
      rw [hx.1] at hN
      simp only [DataW.weights, Try.underlying60, List.mem_cons, List.mem_append] at hN
      refine ⟨?_, fun l hl' => ?_⟩
      · have h3 := hN _ (.inl rfl)
        rw [bytes24, List.length_map, List.length_range, Nat.add_mul] at h3
        simp only [List.length_map, List.length_range]
        omega
      · obtain ⟨r, hrl, rfl⟩ := List.mem_map.1 hl'
        have hr1 : r < len := List.mem_range.1 hrl
        obtain ⟨_, hLC, _, hZC, _, hnone, _⟩ := hr r (by omega)
        rw [hlen r (by omega)]
        rcases hA : A r with _ | a'
        · have := hnone hA
          omega
        · have h4 := hN ((Z r).length * Try.prog.bytesOf 5) (.inr (.inl (mem_weightsAll (d := Go.Deep.intRow (H := H) .u8 (A r) (L r) (Z r)) (List.mem_map.2 ⟨r, hrl, rfl⟩) (by
            have e1 : (lits (H := H) .u8 ((Z r).take (L r))).length + (lits (H := H) .u8 ((Z r).drop (L r))).length = (Z r).length := by simp [lits]; omega
            simp only [Go.Deep.intRow, hA, DataW.weights, Try.underlying47, e1]
            exact List.mem_cons_self))))
          rw [bytes8] at h4
          omega
theorem len_flatten {ls : List (List UInt8)} {l : List UInt8} (h : l ∈ ls) : l.length ≤ ls.flatten.length := by
  induction ls with
  | nil => cases h
  | cons x r ih =>
    rcases List.mem_cons.1 h with rfl | h
    · simp
    · have := ih h
      simp only [List.flatten_cons, List.length_append]
      omega
theorem string_bulk (bytes : List UInt8) : Rows.uptoBulk (DataW.lit (H := H) (.string bytes)) = bytes.length + 1 := by simp [Rows.uptoBulk]
end
end Go.Proofs.Ytgkglielcbgpiaa
