/- NewFeed without acknowledgements. -/
import Derived.Test.YtlheekbbioajpabT14
import Derived.Test.YtlheekbbioajpabT17
namespace Go.Proofs.Ytlheekbbioajpab
open Go.RowKit
set_option maxRecDepth 100000

/-- an operation that yields is taken first, its slot written out -/
theorem takeD {P : Program} {ops : Array Oper} {Q : Exit → Act → World → Prop} {md : Region.Mode} {S : World → Prop} {i : Nat} {oi : Oper} {d : Option Nat} {v : Value} {fuel : Nat} {listed : Array Bool} {a : Act} {w : World} (hi : ops[i]? = some oi) (hd : oi.dst = d)
    (hs : Region.noSelect ops = true) (hf : Region.free md ops listed i = true) (hr : (Region.ready md ops listed).contains i = true)
    (hQ : ∀ c a w, Q (.panic c) (a.put d v) w → Q (.panic c) a w) (hy : YieldsIf P ops S oi v a) (hS : S w)
    (h : wpAnyH P md ops Q S fuel (listed.setIfInBounds i true) (a.put d v) w) : wpAnyH P md ops Q S (fuel + 1) listed a w := by
  subst hd
  exact wpAnyH_take hi hs hf hr hQ hy hS h


theorem zero_agg {P : Program} {T : TypeId} {n : Nat} (h : (P.info? T).map (fun i => i.zero.map (fun z => match z with | .agg a => a.size | _ => 0)) = some (some n)) (hn : 0 < n) : ∃ Z : Array Value, (∀ W, (zeroValue T).run P W = .ok (.agg Z) W) ∧ Z.size = n := by
  cases hi : P.info? T with
  | none => simp [hi] at h
  | some i =>
    simp only [hi, Option.map_some, Option.some.injEq] at h
    cases hq : i.zero with
    | none => simp [hq] at h
    | some z =>
      rw [hq] at h
      cases z <;> simp at h <;> try omega
      rename_i a
      exact ⟨a, fun W => by simp [zeroValue, typeInfo, hi, hq], h⟩

theorem cell_alloc_old {w : World} {o : Obj} {b i : Nat} {x : Option Value} (h : w.cell? ⟨b, i, none⟩ = x) (hb : b < w.heap.size) : (w.alloc o).cell? ⟨b, i, none⟩ = x := by
  rw [← h]
  simp only [World.cell?, heap_alloc_old w o hb]
theorem two_first {Z : Array Value} {x y : Value} (h0 : Z[0]? = some x) (h1 : Z[1]? = some y) : Z = (x :: y :: Z.toList.drop 2).toArray := by
  obtain ⟨l⟩ := Z
  match l, h0, h1 with
  | [], h0, _ => simp at h0
  | [_], _, h1 => simp at h1
  | a :: b :: r, h0, h1 =>
    simp only [List.getElem?_toArray, List.getElem?_cons_zero, List.getElem?_cons_succ, Option.some.injEq] at h0 h1
    subst h0; subst h1
    rfl
theorem newfeed_any {l : List UInt8} {v : Value} {w : World} {B : Nat} (hb : Bs w B v l) (hB : B ≤ w.heap.size) (hl : l.length ≤ 1048576) :
    Calls Try.prog 33 #[v, .slice none 0 0] w fun e w' => ∃ g ex, e = .returned (.tuple #[.pointer (some ⟨g, 0, none⟩), .int .i64 0]) ∧ Cur w' w.heap.size w'.heap.size g 89 ex l 0 ∧ Below w.heap.size w w' := by
  have C1 := newacks_any (P2.nil w (fun _ => True)) (xs := []) (by simp)
  have he : ackE [] = 0 := by decide
  have hd : decide ((1048576 : Int) < (l.length : Int)) = false := by simp; omega
  have C1 := Lib.hid C1
  have HBv := Lib.hid hb
  obtain ⟨A, c, rfl⟩ := hb.shape
  clear hb
  go_enter Try.func33, Try.ntmps33
  go_wp2_with fail
  refine (C1.out).mono ?_
  rintro e1 w1 ⟨va, rfl, hp1, hb1⟩
  rw [he]
  have hz1 := hb1.size
  obtain ⟨Aa, ca, hva⟩ := hp1.shape
  obtain ⟨na, hna⟩ : ∃ na, na = (av (keptA [])).length := ⟨_, rfl⟩
  rw [← hna] at hva
  subst hva
  clear hna
  have HB1 := Lib.hid hb1
  clear hp1 hb1 C1
  have HBA := Lib.hid (HB1.out.alloc hz1 (.cells #[.slice Aa na ca] 71))
  have BXa : (w1.alloc (.cells #[.slice Aa na ca] 71)).cell? ⟨w1.heap.size, 0, none⟩ = some (.slice Aa na ca) := cell_new w1 _ _
  have hsa : (w1.alloc (.cells #[.slice Aa na ca] 71)).heap.size = w1.heap.size + 1 := by simp
  go_wp2_with fail
  obtain ⟨bx, hbx⟩ : ∃ bx, bx = w1.heap.size := ⟨_, rfl⟩
  rw [← hbx] at BXa ⊢
  have hbl : bx < (w1.alloc (.cells #[.slice Aa na ca] 71)).drew.heap.size := by rw [World.size_drew, hsa]; omega
  have BX : Hid ((w1.alloc (.cells #[.slice Aa na ca] 71)).drew.cell? ⟨bx, 0, none⟩ = some (.slice Aa na ca)) := Lib.hid BXa
  have HBD : Hid (Below w.heap.size w (w1.alloc (.cells #[.slice Aa na ca] 71)).drew) := Lib.hid (below_drewN HBA.out 1)
  generalize w1.alloc (.cells #[.slice Aa na ca] 71) = w2 at hbl BX HBD ⊢
  have C2 := Lib.hid (newtape_any (HBv.out.below HBD.out (by omega)) (Nat.le_trans hB HBD.out.size) (by omega))
  obtain ⟨ZF, hzf, hzs⟩ := zero_agg (P := Try.prog) (T := 89) (n := 133) (by kernel_rfl) (by decide)
  clear BXa hsa hbx HBA
  refine wp_region_held_drew (S := fun w' => w'.cell? ⟨bx, 0, none⟩ = some (.slice Aa na ca)) (by kernel_rfl) ?_ (fun hHeld => ?_)
  · exact BX.out
  refine takeD (i := 0) (oi := _) (d := some 19) (v := ?_) rfl (by kernel_rfl) (by kernel_rfl) (by kernel_rfl) (by kernel_rfl) (fun _ _ _ h => h) (Or.inl ⟨by kernel_rfl, ?_⟩) (by assumption) ?_
  rotate_left
  focus (intro w' hSw; (try dsimp only at hSw); go_simp <;> with_reducible rfl)
  try simp only [Act.put, List.setIfInBounds_toArray, List.set_cons_zero, List.set_cons_succ]
  refine takeD (i := 4) (oi := _) (d := some 23) (v := ?_) rfl (by kernel_rfl) (by kernel_rfl) (by kernel_rfl) (by kernel_rfl) (fun _ _ _ h => h) (Or.inl ⟨by kernel_rfl, ?_⟩) (by assumption) ?_
  rotate_left
  focus (intro w' hSw; (try dsimp only at hSw); go_simp <;> with_reducible rfl)
  try simp only [Act.put, List.setIfInBounds_toArray, List.set_cons_zero, List.set_cons_succ]
  refine wpAnyH_ready (rs := [1]) (by kernel_rfl) (by simp) ?_
  refine AllReadyH.cons (o := _) rfl (fun K hK => ?_) AllReadyH.nil
  go_simp
  with_reducible refine (C2.out).mono ?_
  rintro e3 w3 ⟨gt, rfl, hcu, hb3⟩
  obtain ⟨A1, c1, h1, h2, h3, h4, h5, h6⟩ := hcu
  obtain ⟨k0, k1⟩ := two_cells h6
  have k1' : w3.cell? ⟨gt, 1, none⟩ = some (.int .i64 0) := k1
  have hz3 := hb3.size
  have HB3 := Lib.hid hb3
  have O3 := Lib.hid h4
  have BX3 := (hb3.cell (p := ⟨bx, 0, none⟩) hbl).trans BX.out
  clear k1 h6 hb3 C2
  refine hK.out _ _ ?_ (fun hHeld => ?_)
  · exact BX3
  clear hK K
  try simp only [Act.put, List.setIfInBounds_toArray, List.set_cons_zero, List.set_cons_succ]
  refine takeD (i := 2) (oi := _) (d := some 21) (v := ?_) rfl (by kernel_rfl) (by kernel_rfl) (by kernel_rfl) (by kernel_rfl) (fun _ _ _ h => h) (Or.inl ⟨by kernel_rfl, ?_⟩) (by assumption) ?_
  rotate_left
  focus (intro w' hSw; (try dsimp only at hSw); go_simp <;> with_reducible rfl)
  try simp only [Act.put, List.setIfInBounds_toArray, List.set_cons_zero, List.set_cons_succ]
  refine wpAnyH_ready (rs := [3]) (by kernel_rfl) (by simp) ?_
  refine AllReadyH.cons (o := _) rfl (fun K hK => ?_) AllReadyH.nil
  go_simp
  refine hK.out _ _ ?_ (fun hHeld => ?_)
  · exact BX3
  clear hK K
  try simp only [Act.put, List.setIfInBounds_toArray, List.set_cons_zero, List.set_cons_succ]
  refine takeD (i := 5) (oi := _) (d := some 24) (v := ?_) rfl (by kernel_rfl) (by kernel_rfl) (by kernel_rfl) (by kernel_rfl) (fun _ _ _ h => h) (Or.inl ⟨by kernel_rfl, ?_⟩) (by assumption) ?_
  rotate_left
  focus (intro w' hSw; (try dsimp only at hSw); go_simp <;> with_reducible rfl)
  try simp only [Act.put, List.setIfInBounds_toArray, List.set_cons_zero, List.set_cons_succ]
  refine wpAnyH_ready (rs := [6]) (by kernel_rfl) (by simp) ?_
  refine AllReadyH.cons (o := _) rfl (fun K hK => ?_) AllReadyH.nil
  go_simp
  refine hK.out _ _ ?_ (fun hHeld => ?_)
  · exact (cell_alloc_old BX3 (by omega))
  clear hK K
  try simp only [Act.put, List.setIfInBounds_toArray, List.set_cons_zero, List.set_cons_succ]
  refine takeD (i := 7) (oi := _) (d := some 4) (v := ?_) rfl (by kernel_rfl) (by kernel_rfl) (by kernel_rfl) (by kernel_rfl) (fun _ _ _ h => h) (Or.inl ⟨by kernel_rfl, ?_⟩) (by assumption) ?_
  rotate_left
  focus (intro w' hSw; (try dsimp only at hSw); go_simp <;> with_reducible rfl)
  try simp only [Act.put, List.setIfInBounds_toArray, List.set_cons_zero, List.set_cons_succ]
  refine takeD (i := 8) (oi := _) (d := some 5) (v := ?_) rfl (by kernel_rfl) (by kernel_rfl) (by kernel_rfl) (by kernel_rfl) (fun _ _ _ h => h) (Or.inl ⟨by kernel_rfl, ?_⟩) (by assumption) ?_
  rotate_left
  focus (intro w' hSw; (try dsimp only at hSw); go_simp <;> with_reducible rfl)
  try simp only [Act.put, List.setIfInBounds_toArray, List.set_cons_zero, List.set_cons_succ]
  refine wpAnyH_done (by kernel_rfl) ?_ _
  obtain ⟨ZA, hZA⟩ : ∃ ZA, ZA = ((ZF.setIfInBounds 0 (.slice A1 l.length c1)).setIfInBounds 1 (.int .i64 0)).setIfInBounds 132 (.slice Aa na ca) := ⟨_, rfl⟩
  rw [← hZA]
  have e0 : ZA[0]? = some (.slice A1 l.length c1) := by rw [hZA]; simp [hzs]
  have e1 : ZA[1]? = some (.int .i64 0) := by rw [hZA]; simp [hzs]
  have hwz : w.heap.size ≤ w3.heap.size := Nat.le_trans HBD.out.size hz3
  have hcur : Cur (w3.alloc (.cells ZA 89)) w.heap.size (w3.alloc (.cells ZA 89)).heap.size w3.heap.size 89 (ZA.toList.drop 2) l 0 := by
    refine ⟨A1, c1, hwz, by simp, Nat.le_refl _, (h4.more HBD.out.size).alloc _, fun j hj => ?_, ?_⟩
    · have := (h5 j hj).1
      refine ⟨by rw [World.size_alloc]; omega, by omega⟩
    · rw [heap_alloc_new w3 _, two_first e0 e1]
      rfl
  have HCUR := Lib.hid hcur
  have HBF := Lib.hid ((HBD.out.trans (HB3.out.mono HBD.out.size)).alloc hwz (.cells ZA 89))
  clear hHeld hcur e0 e1 hZA BX3 h4 h5
  go_wp2
  go_ret2
  exact ⟨_, _, rfl, HCUR.out, HBF.out⟩
end Go.Proofs.Ytlheekbbioajpab
