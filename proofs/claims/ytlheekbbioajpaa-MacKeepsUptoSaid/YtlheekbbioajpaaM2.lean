/- MacKeeps, walked. -/
import Derived.Test.YtlheekbbioajpaaM1
import Derived.Test.YtlheekbbioajpaaX8
import Derived.Test.YtlheekbbioajpaaX6
import Derived.Test.YtlheekbbioajpaaDXM
import Derived.Test.YtlheekbbioajpaaEqualsT
import Derived.Deep.MidRow
import Derived.Deep.WholeRow
namespace Go.Proofs.Ytlheekbbioajpaa
open Go.RowKit

/-- an operation that yields is taken first, its slot written out -/
theorem takeD {P : Program} {ops : Array Oper} {Q : Exit → Act → World → Prop} {md : Region.Mode} {S : World → Prop} {i : Nat} {oi : Oper} {d : Option Nat} {v : Value} {fuel : Nat} {listed : Array Bool} {a : Act} {w : World} (hi : ops[i]? = some oi) (hd : oi.dst = d)
    (hs : Region.noSelect ops = true) (hf : Region.free md ops listed i = true) (hr : (Region.ready md ops listed).contains i = true)
    (hQ : ∀ c a w, Q (.panic c) (a.put d v) w → Q (.panic c) a w) (hy : YieldsIf P ops S oi v a) (hS : S w)
    (h : wpAnyH P md ops Q S fuel (listed.setIfInBounds i true) (a.put d v) w) : wpAnyH P md ops Q S (fuel + 1) listed a w := by
  subst hd
  exact wpAnyH_take hi hs hf hr hQ hy hS h

theorem World.rangeAt_of_new (w : World) (cs : List Value) (t : TypeId) : (w.alloc (.cells cs.toArray t)).rangeAt w.heap.size 0 cs := fun j v hv => by
  rw [cell_of_row _ _ (0 + j) _ _ (0, 0) (heap_alloc_new w _)]
  simpa using hv
theorem range_below {w w' : World} {B g o : Nat} {cs : List Value} (h : w.rangeAt g o cs) (hb : Below B w w') (hB : g < B) : w'.rangeAt g o cs := fun j v hv => (hb.cell (p := ⟨g, o + j, none⟩) hB).trans (h j v hv)
theorem OwnRs.keptBelow {w w' : World} {B : Nat} {v : Value} {ls : List (List UInt8)} {r : Option Nat} (h : OwnRs w B v ls) (hg : w.grownBy w' r) (hr : ∀ j, r = some j → j < B) : OwnRs w' B v ls := by
  have hne : ∀ (n : Nat) (e : TypeId) (x : Value) (xs : List Value), w.ownsRow B e 1 x n xs → x.ownBlock = none ∨ x.ownBlock ≠ r := by
    intro n e x xs hx
    cases hv : x.ownBlock with
    | none => exact .inl rfl
    | some j =>
      refine .inr (fun e => ?_)
      have h1 := (hx.lt j hv).1
      have h2 := hr j e.symm
      omega
  obtain ⟨xs, ho, hx, he⟩ := h
  exact ⟨xs, ho.kept hg (hne _ _ _ _ ho), hx, fun j h h' => (he j h h').kept hg (hne _ _ _ _ (he j h h'))⟩
theorem equals_same {ls : List (List UInt8)} {va vb : Value} {w : World} {B1 B2 : Nat} (ha : Rs w B1 va ls) (hb : Rs w B2 vb ls) :
    Calls Try.prog 29 #[va, vb] w fun e w' => e = .returned (.bool true) ∧ Drew w w' := by
  have C := equals_any ha hb
  rw [decide_eq_true rfl] at C
  exact C
theorem Dv.rs {w : World} {R B n : Nat} {v : Value} {ps : List (Value × List UInt8)} {ls : List (List UInt8)} (h : Dv w R B v n ps) (hR : B ≤ R) (hp : ps.map (·.2) = ls) : Rs w w.heap.size v ls := by
  rw [← hp]; exact (h.ownRs hR).rs
theorem Dv.upper {w : World} {R B n : Nat} {v : Value} {ps : List (Value × List UInt8)} (h : Dv w R B v n ps) : ∀ p ∈ ps, ∀ j, p.1.ownBlock = some j → j < w.heap.size := fun p hp j hj => (ownLt (h.acc.own p hp) hj).2
theorem mem_of_map {ps : List (Value × List UInt8)} {ls : List (List UInt8)} (h : ps.map (·.2) = ls) {p : Value × List UInt8} (hp : p ∈ ps) : p.2 ∈ ls := by
  rw [← h]; exact List.mem_map_of_mem hp
theorem k_check {a b : List UInt8} {u v : Value} {w : World} (ha : Bs w w.heap.size u a) (hb : Bs w w.heap.size v b) (hla : a.length ≤ 1048576) (hlb : b.length ≤ 1048576) :
    Calls Try.prog 28 #[u, v, .slice (some ⟨w.heap.size, 0, none⟩) 2 2] (w.alloc (.cells #[v, u] 22)) fun e w' => (∃ c, e = .returned (.bool c)) ∧ Below w.heap.size w w' := by
  have C := check_any ((ha.alloc (Nat.le_refl _) (.cells #[v, u] 22)).more (Nat.le_succ _)) ((hb.alloc (Nat.le_refl _) (.cells #[v, u] 22)).more (Nat.le_succ _)) (rs2 hb ha) (by simp) (by omega) (by simp; omega)
  exact C.mono fun e w' ⟨h1, h2⟩ => ⟨⟨_, h1⟩, alloc_below h2⟩
theorem Cs.two (w : World) (e : TypeId) (x y : Value) : Cs (w.alloc (.cells #[x, y] e)) (w.heap.size + 1) (.slice (some ⟨w.heap.size, 0, none⟩) 2 2) [x, y] :=
  ⟨_, 2, rfl, Nat.le_refl _, by unfold maxLen; omega, fun _ => ⟨_, 0, rfl, by omega, fun j hj => by
    rw [Nat.zero_add, cell_of_row _ _ j #[x, y] e (0, 0) (heap_alloc_new w _)]
    match j, hj with
    | 0, _ => rfl
    | 1, _ => rfl⟩⟩
theorem k_derive {a : List UInt8} {u : Value} {w : World} (ha : Bs w w.heap.size u a) (hla : a.length ≤ 1048576) :
    Calls Try.prog 16 #[u, .slice (some ⟨w.heap.size, 0, none⟩) 2 2] (w.alloc (.cells #[.string ⟨#[97]⟩, .string ⟨#[98]⟩] 9)) fun e w' => (∃ g, e = .returned (.slice (some ⟨g, 0, none⟩) 2 2)) ∧ Below w.heap.size w w' := by
  have C := derive_any (ss := [⟨#[97]⟩, ⟨#[98]⟩]) ((ha.alloc (Nat.le_refl _) (.cells #[.string ⟨#[97]⟩, .string ⟨#[98]⟩] 9)).more (Nat.le_succ _)) (Cs.two w 9 _ _) (by simp) (by omega) (by decide) (by decide)
  exact C.mono fun e w' ⟨g, h1, _, _, _, h2⟩ => ⟨⟨g, h1⟩, alloc_below h2⟩

set_option maxRecDepth 100000 in
set_option maxHeartbeats 4000000 in
theorem mackeeps_walk {a b : List UInt8} {u v : Value} {w : World} (ha : Bs w w.heap.size u a) (hb : Bs w w.heap.size v b) (hla : a.length ≤ 1048576) (hlb : b.length ≤ 1048576) :
    Calls Try.prog 6 #[u, v] w fun e w' => e = .returned (.bool true) ∧ Below w.heap.size w w' := by
  have CA := Lib.hid (awake3_any w)
  obtain ⟨AA, cA, rfl⟩ := ha.shape
  obtain ⟨AB, cB, rfl⟩ := hb.shape
  have HA := Lib.hid ha; have HBB := Lib.hid hb
  clear ha hb
  go_enter Try.func6, Try.ntmps6
  go_wp2_with fail
  with_reducible refine (CA.out).mono ?_
  rintro e0 w0 ⟨rfl, hb0⟩
  have hz0 := hb0.size
  have HB0 := Lib.hid hb0
  have C1 := Lib.hid (spare_any (HA.out.below hb0 (Nat.le_refl _)) hz0 (by omega))
  clear hb0 CA
  go_wp2_with fail
  with_reducible refine (C1.out).mono ?_
  rintro e1 w1 ⟨gX, rfl, hgx, hox, hb1⟩
  have hz1 := hb1.size
  have hb01 := HB0.out.trans (hb1.mono hz0)
  have HX1 := Lib.hid hox
  have hgx1 : gX < w1.heap.size := (own_lt hox (k := gX) rfl).2
  have C2 := Lib.hid (spare_any (HBB.out.below hb01 (Nat.le_refl _)) (by omega) (by omega))
  have HB1 := Lib.hid hb01
  clear hox hb1 hb01 C1 HB0
  go_wp2_with fail
  with_reducible refine (C2.out).mono ?_
  rintro e2 w2 ⟨gY, rfl, hgy, hoy, hb2⟩
  have K2 : Hid (KX w gX gY a b w2) := Lib.hid ⟨HB1.out.trans (hb2.mono (by omega)), (HX1.out.below hb2 (Nat.le_refl _)).more (by omega), hoy.more (by omega)⟩
  have hxy : gX < gY := by omega
  have hgy2 : gY < w2.heap.size := K2.out.ltY
  have hgxw : w.heap.size ≤ gX := by omega
  have h02 : w.heap.size ≤ w2.heap.size := by omega
  obtain ⟨n, hn⟩ : ∃ n : Nat, n = 40 := ⟨_, rfl⟩
  obtain ⟨m, hm⟩ : ∃ m : Nat, m = 32 := ⟨_, rfl⟩
  have HN := Lib.hid hn; have HMM := Lib.hid hm
  have C3 := Lib.hid (lists_any hn hm K2.out.bx K2.out.by_ hla hlb)
  obtain ⟨CL, hCL⟩ : ∃ CL, CL = listsM n m a b := ⟨_, rfl⟩
  have HCL := Lib.hid hCL
  have hcl1 : CL.length ≤ 4 := by rw [hCL]; exact Nat.le_refl _
  have HCB : Hid (∀ l ∈ CL, l.length ≤ 88) := Lib.hid (by rw [hCL]; intro l hl; have := listsM_le n m a b l hl; omega)
  obtain ⟨SS, hSS⟩ : ∃ SS, SS = (tagL a b).map vb := ⟨_, rfl⟩
  have hS : arr32 (tagL a b) = .agg SS.toArray := by rw [hSS]; rfl
  have hSl : SS.length = 32 := by rw [hSS, List.length_map, tagL_len]
  have EQS : ∀ W, (Op.equalIn 10000 34 (.agg SS.toArray) (.agg SS.toArray)).run Try.prog W = .ok true W := fun W => by rw [← hS]; exact eq_arr32 _ (tagL_len _ _) W
  have HS := Lib.hid hS
  have hone : Hid (SS.toArray.all (·.oneCell') = true) := Lib.hid (all_oneCell_toArray (by rw [hSS]; exact vb_one _))
  have hi32 : Hid ((Try.prog.info? 34).map (·.size) = some SS.toArray.size) := Lib.hid (by rw [List.size_toArray, hSl]; kernel_rfl)
  have I32 : Hid ((Try.prog.info? 34).map (·.size) = some SS.length) := Lib.hid (by rw [hSl]; kernel_rfl)
  have ho32 : Hid ((#[.int .u8 0, .int .u8 0, .int .u8 0, .int .u8 0, .int .u8 0, .int .u8 0, .int .u8 0, .int .u8 0, .int .u8 0, .int .u8 0, .int .u8 0, .int .u8 0, .int .u8 0, .int .u8 0, .int .u8 0, .int .u8 0, .int .u8 0, .int .u8 0, .int .u8 0, .int .u8 0, .int .u8 0, .int .u8 0, .int .u8 0, .int .u8 0, .int .u8 0, .int .u8 0, .int .u8 0, .int .u8 0, .int .u8 0, .int .u8 0, .int .u8 0, .int .u8 0] : Array Value).size = SS.toArray.size) := Lib.hid (by show 32 = _; rw [List.size_toArray, hSl])
  clear hoy hb2 C2 HX1 HB1 hSS hS hSl hn hm
  rw [← hCL] at C3
  clear hCL
  -- one
  go_wp2_with fail
  with_reducible refine (C3.out).mono ?_
  rintro e3 w3 ⟨r1, p1, rfl, hd3, hp1, hb3⟩
  have hz3 := hb3.size
  obtain ⟨A1, c1, rfl⟩ := hd3.shape
  have HP1 := Lib.hid hp1
  have K3 := Lib.hid (K2.out.below hb3)
  have D3 := Lib.hid hd3
  have U1 := Lib.hid hd3.upper
  have C4 := Lib.hid (copies_any (hd3.rs (Nat.le_refl _) hp1) (Nat.le_refl _) (by omega) (fun l hl => by have := HCB.out l hl; omega))
  clear hd3 hp1 hb3 C3 K2
  -- want
  go_wp2_with fail
  with_reducible refine (C4.out).mono ?_
  rintro e4 w4 ⟨wa, rfl, how, hb4⟩
  have hz4 := hb4.size
  obtain ⟨Aw, cw, rfl⟩ := how.shape
  have K4 := Lib.hid (K3.out.below hb4)
  have D4 := Lib.hid (D3.out.below hb4)
  have W4 := Lib.hid how
  have C5 := Lib.hid (newTagger_any K4.out.bx (Nat.le_refl _) (by omega))
  clear how hb4 C4 K3 D3
  -- t
  go_wp2_with fail
  with_reducible refine (C5.out).mono ?_
  rintro e5 w5 ⟨g, rfl, hgw, hh5, hb5⟩
  have hz5 := hb5.size
  have hg5 := hh5.lt
  have CW := Lib.hid (write_one hh5 (K4.out.below hb5).by_ (Nat.le_refl _) (fun _ => by simp [Value.ownBlock]; omega) (by rw [innerL_len]; omega))
  have HB5 := Lib.hid hb5
  clear hh5 hb5 C5
  go_wp2_with fail
  with_reducible refine (CW.out).mono ?_
  rintro e6 w6 ⟨rfl, hh6, hg6⟩
  have hz6 := hg6.size
  have hb46 := HB5.out.grown hg6 hz5 (fun j hj => by simp only [Option.some.injEq] at hj; omega)
  have K6 := Lib.hid (K4.out.below hb46)
  have D6 := Lib.hid (D4.out.below hb46)
  have W6 := Lib.hid (W4.out.below hb46 (Nat.le_refl _))
  have HH6 := Lib.hid hh6
  have hil : (innerL a ++ b).length ≤ 1152921504606846000 := by rw [List.length_append, innerL_len]; omega
  have CS := taggerSum_any hh6 (outerL_len a) hil
  rw [tagger_tag, HS.out] at CS
  have CS := Lib.hid CS
  clear hh6 hg6 hb46 CW HB5 K4 D4 W4
  go_wp2_with fail
  with_reducible refine (CS.out).mono ?_
  rintro e7 w7 ⟨rfl, hb7⟩
  have hz7 := hb7.size
  have hb8 := hb7.trans (((Below.refl w7.heap.size w7).alloc (Nat.le_refl _) (.cells SS.toArray 34)).mono hz7)
  have K8 := Lib.hid (K6.out.below hb8)
  have D8 := Lib.hid (D6.out.below hb8)
  have W8 := Lib.hid (W6.out.below hb8 (Nat.le_refl _))
  have HH8 := Lib.hid (HH6.out.below hb8 HH6.out.lt)
  have R8 := Lib.hid (World.rangeAt_of_new w7 SS 34)
  have hz32 : Hid ((w7.alloc (.cells #[.int .u8 0, .int .u8 0, .int .u8 0, .int .u8 0, .int .u8 0, .int .u8 0, .int .u8 0, .int .u8 0, .int .u8 0, .int .u8 0, .int .u8 0, .int .u8 0, .int .u8 0, .int .u8 0, .int .u8 0, .int .u8 0, .int .u8 0, .int .u8 0, .int .u8 0, .int .u8 0, .int .u8 0, .int .u8 0, .int .u8 0, .int .u8 0, .int .u8 0, .int .u8 0, .int .u8 0, .int .u8 0, .int .u8 0, .int .u8 0, .int .u8 0, .int .u8 0] 34)).heap[w7.heap.size]? = some (.cells #[.int .u8 0, .int .u8 0, .int .u8 0, .int .u8 0, .int .u8 0, .int .u8 0, .int .u8 0, .int .u8 0, .int .u8 0, .int .u8 0, .int .u8 0, .int .u8 0, .int .u8 0, .int .u8 0, .int .u8 0, .int .u8 0, .int .u8 0, .int .u8 0, .int .u8 0, .int .u8 0, .int .u8 0, .int .u8 0, .int .u8 0, .int .u8 0, .int .u8 0, .int .u8 0, .int .u8 0, .int .u8 0, .int .u8 0, .int .u8 0, .int .u8 0, .int .u8 0] 34 (0, 0))) := Lib.hid (heap_alloc_new w7 _)
  have hs8 : w7.heap.size < (w7.alloc (.cells SS.toArray 34)).heap.size := by simp
  clear hb7 hb8 CS K6 D6 W6 HH6
  go_upto_region 10 with ((with_reducible refine wpList_store_row rfl 34 (.tmp 12) (.tmp 41) rfl w7.heap.size SS.toArray rfl rfl 34 _ hz32.out hi32.out ho32.out hone.out ?_); rw [World.setRow_alloc_new])
  obtain ⟨o1, ho1⟩ : ∃ o1, o1 = w7.heap.size := ⟨_, rfl⟩
  rw [← ho1] at hs8 R8 ⊢
  generalize w7.alloc (.cells SS.toArray 34) = w8 at K8 D8 W8 HH8 R8 hs8 ⊢
  have hg8 := HH8.out.lt
  have ho1w : w3.heap.size ≤ o1 := by omega
  have C9 := Lib.hid (k_check K8.out.bx K8.out.by_ hla hlb)
  clear ho1 hz32
  go_wp2_with fail
  with_reducible refine (C9.out).mono ?_
  rintro e9 w9 ⟨⟨cc, rfl⟩, hb9⟩
  have hz9 := hb9.size
  have C10 := Lib.hid (k_derive (K8.out.below hb9).bx hla)
  have HB9 := Lib.hid hb9
  clear hb9 C9
  go_wp2_with fail
  with_reducible refine (C10.out).mono ?_
  rintro e10 w10 ⟨⟨gd, rfl⟩, hb10⟩
  have hz10 := hb10.size
  have hb810 := HB9.out.trans (hb10.mono hz9)
  have K10 := Lib.hid (K8.out.below hb810)
  have D10 := Lib.hid (D8.out.below hb810)
  have W10 := Lib.hid (W8.out.below hb810 (Nat.le_refl _))
  have HH10 := Lib.hid (HH8.out.below hb810 hg8)
  have R10 := Lib.hid (range_below R8.out hb810 hs8)
  have C11 := lists_any HN.out HMM.out K10.out.bx K10.out.by_ hla hlb
  rw [← HCL.out] at C11
  have C11 := Lib.hid C11
  clear hb10 hb810 C10 HB9 K8 D8 W8 HH8 R8
  go_wp2_with fail
  with_reducible refine (C11.out).mono ?_
  rintro e11 w11 ⟨r0, p0, rfl, hd11, hp11, hb11⟩
  have hz11 := hb11.size
  obtain ⟨A0, c0, rfl⟩ := hd11.shape
  have C12 := Lib.hid (equals_same (hd11.rs (Nat.le_refl _) hp11) (W10.out.below hb11 (Nat.le_refl _)).rs)
  have HB11 := Lib.hid hb11
  clear hd11 hp11 hb11 C11
  go_wp2_with fail
  with_reducible refine (C12.out).mono ?_
  rintro e12 w12 ⟨rfl, hr12⟩
  have hb12 := HB11.out.trans ((hr12.below w11.heap.size).mono hz11)
  have hz12 := hb12.size
  have K12 := Lib.hid (K10.out.below hb12)
  have C13 := Lib.hid (kept_any K12.out.X.bs (HA.out.below K12.out.bel (Nat.le_refl _)) (by omega))
  have HB12 := Lib.hid hb12
  clear hr12 hb12 C12 HB11
  go_wp2_with fail
  with_reducible refine (C13.out).mono ?_
  rintro e13 w13 ⟨rfl, hr13⟩
  have hb13 := hr13.below w12.heap.size
  have hz13 := hb13.size
  have K13 := Lib.hid (K12.out.below hb13)
  have C14 := Lib.hid (kept_any K13.out.Y.bs (HBB.out.below K13.out.bel (Nat.le_refl _)) (by omega))
  have HB13 := Lib.hid (HB12.out.trans (hb13.mono hz12))
  clear hr13 hb13 C13 K12 HB12
  go_wp2_with fail
  with_reducible refine (C14.out).mono ?_
  rintro e14 w14 ⟨rfl, hr14⟩
  have hb14 := HB13.out.trans ((hr14.below w13.heap.size).mono (by omega))
  have hz14 := hb14.size
  have K14 := Lib.hid (K10.out.below hb14)
  have D14 := Lib.hid (D10.out.below hb14)
  have W14 := Lib.hid (W10.out.below hb14 (Nat.le_refl _))
  have HH14 := Lib.hid (HH10.out.below hb14 HH10.out.lt)
  have R14 := Lib.hid (range_below R10.out hb14 (by omega))
  have C15 := Lib.hid (over_pre (n := a.length) K14.out.X (by rw [fullS_len]; omega) (by rw [fullS_len]; omega))
  clear hr14 hb14 C14 K13 HB13 K10 D10 W10 HH10 R10
  go_wp2_with fail
  with_reducible refine (C15.out).mono ?_
  rintro e15 w15 ⟨rfl, ⟨lx, hlx, ho15⟩, hg15⟩
  rw [fullS_len] at hlx
  have hz15 := hg15.size
  have HLX : Hid (lx.length = a.length + 40) := Lib.hid hlx
  have HB15 := Lib.hid (K14.out.bel.grown hg15 K14.out.bel.size (fun j hj => by simp only [Option.some.injEq] at hj; omega))
  have hy15 := K14.out.Y.kept hg15 (.inr (by simp [Value.ownBlock]; omega))
  have lt15 : ∀ j, (some gX : Option Nat) = some j → j < w2.heap.size := fun j hj => by simp only [Option.some.injEq] at hj; omega
  have D15 := Lib.hid (D14.out.kept hg15 (fun j hj => ⟨lt15 j hj, fun e => by have := (D14.out.lt e).1; have := lt15 j hj; omega⟩))
  have W15 := Lib.hid (W14.out.keptBelow hg15 (fun j hj => by have := lt15 j hj; omega))
  have HH15 := Lib.hid (HH14.out.grown hg15 (fun e => by simp only [Option.some.injEq] at e; omega))
  have R15 := Lib.hid (range_grown R14.out hg15 (by omega))
  have HX15 := Lib.hid ho15
  have C16 := Lib.hid (over_pre (n := b.length) hy15 (by rw [fullS_len]; omega) (by rw [fullS_len]; omega))
  clear hg15 hy15 lt15 ho15 C15 K14 D14 W14 HH14 R14 hlx
  go_wp2_with fail
  with_reducible refine (C16.out).mono ?_
  rintro e16 w16 ⟨rfl, ⟨ly, hly, ho16⟩, hg16⟩
  rw [fullS_len] at hly
  have hz16 := hg16.size
  have HLY : Hid (ly.length = b.length + 40) := Lib.hid hly
  have HB16 := Lib.hid (HB15.out.grown hg16 HB15.out.size (fun j hj => by simp only [Option.some.injEq] at hj; omega))
  have lt16 : ∀ j, (some gY : Option Nat) = some j → j < w2.heap.size := fun j hj => by simp only [Option.some.injEq] at hj; omega
  have D16 := Lib.hid (D15.out.kept hg16 (fun j hj => ⟨lt16 j hj, fun e => by have := (D15.out.lt e).1; have := lt16 j hj; omega⟩))
  have W16 := Lib.hid (W15.out.keptBelow hg16 (fun j hj => by have := lt16 j hj; omega))
  have HH16 := Lib.hid (HH15.out.grown hg16 (fun e => by simp only [Option.some.injEq] at e; omega))
  have R16 := Lib.hid (range_grown R15.out hg16 (by omega))
  have HX16 := Lib.hid (HX15.out.kept hg16 (.inr (by simp [Value.ownBlock]; omega)))
  have HY16 := Lib.hid ho16
  have C17 := Lib.hid (copy_any (HA.out.below HB16.out (Nat.le_refl _)) HB16.out.size (by omega))
  clear hg16 lt16 ho16 C16 D15 W15 HH15 R15 HX15 HB15 hly
  go_wp2_with fail
  with_reducible refine (C17.out).mono ?_
  rintro e17 w17 ⟨x17, rfl, ho17, hb17⟩
  have hz17 := hb17.size
  obtain ⟨A17, c17, rfl⟩ := ho17.shape
  have HO17 := Lib.hid ho17
  have HB17 := Lib.hid hb17
  have h0_17 := HB16.out.trans (hb17.mono HB16.out.size)
  have C18 := Lib.hid (copy_any (HBB.out.below h0_17 (Nat.le_refl _)) h0_17.size (by omega))
  clear ho17 hb17 C17 h0_17
  go_wp2_with fail
  with_reducible refine (C18.out).mono ?_
  rintro e18 w18 ⟨y18, rfl, ho18, hb18⟩
  have hz18 := hb18.size
  obtain ⟨A18, c18, rfl⟩ := ho18.shape
  have HB18 := Lib.hid (HB17.out.trans (hb18.mono hz17))
  have C19 := lists_any HN.out HMM.out ((HO17.out.below hb18 (Nat.le_refl _)).bs) ho18.bs hla hlb
  rw [← HCL.out] at C19
  have C19 := Lib.hid C19
  clear ho18 hb18 C18 HB17 HO17
  go_wp2_with fail
  with_reducible refine (C19.out).mono ?_
  rintro e19 w19 ⟨r2, p2, rfl, hd19, hp2, hb19⟩
  have hz19 := hb19.size
  obtain ⟨A2, c2, rfl⟩ := hd19.shape
  have hb1619 := HB18.out.trans (hb19.mono (by omega))
  have HP2 := Lib.hid hp2
  have E19 := Lib.hid hd19
  have U2 := Lib.hid hd19.upper
  have D19 := Lib.hid (D16.out.below hb1619)
  have W19 := Lib.hid (W16.out.below hb1619 (Nat.le_refl _))
  have HH19 := HH16.out.below hb1619 HH16.out.lt
  have R19 := Lib.hid (range_below R16.out hb1619 (by omega))
  have HX19 := Lib.hid (HX16.out.below hb1619 (Nat.le_refl _))
  have HY19 := Lib.hid (HY16.out.below hb1619 (Nat.le_refl _))
  have HB19 := Lib.hid (HB16.out.trans (hb1619.mono HB16.out.size))
  have hs19 : o1 < w19.heap.size := by omega
  have U1b : Hid (∀ p ∈ p1, ∀ j, p.1.ownBlock = some j → j < w18.heap.size) := Lib.hid (fun p hp j hj => by have := U1.out p hp j hj; omega)
  have HBd := Lib.hid ((Below.refl w19.heap.size w19).drew)
  have CQ := taggerSum_any (HH19.below HBd.out HH19.lt) (outerL_len a) hil
  rw [tagger_tag, HS.out] at CQ
  have CQ := Lib.hid CQ
  have u32 := Try.underlying34
  have i32 := I32.out
  have h1819 : w18.heap.size ≤ w19.heap.size := hz19
  clear hd19 hp2 hb19 hb1619 C19 HB18 D16 W16 HH16 HH19 R16 HX16 HY16 HB16 U1
  go_wp2_with fail
  refine wp_region_held_drew (S := fun w' => w'.rangeAt o1 0 SS) (by kernel_rfl) ?_ (fun hHeld => ?_)
  · exact (World.rangeAt_drew w19 o1 0 SS).2 R19.out
  refine takeD (i := 0) (oi := _) (d := some 83) (v := ?_) rfl (by kernel_rfl) (by kernel_rfl) (by kernel_rfl) (by kernel_rfl) (fun _ _ _ h => h) (Or.inl ⟨by kernel_rfl, ?_⟩) (by assumption) ?_
  rotate_left
  focus (intro w' hSw; (try dsimp only at hSw); go_simp <;> with_reducible rfl)
  try simp only [Act.put, List.setIfInBounds_toArray, List.set_cons_zero, List.set_cons_succ]
  refine takeD (i := 2) (oi := _) (d := some 85) (v := _) rfl (by kernel_rfl) (by kernel_rfl) (by kernel_rfl) (by kernel_rfl) (fun _ _ _ h => h) (yieldsIf_load_mid (by kernel_rfl) _ _ rfl _ _ rfl SS _ (fun w' h => h) u32 rfl i32) (by assumption) ?_
  try simp only [Act.put, List.setIfInBounds_toArray, List.set_cons_zero, List.set_cons_succ]
  refine wpAnyH_ready (rs := [1]) (by kernel_rfl) (by simp) ?_
  refine AllReadyH.cons (o := _) rfl (fun K hK => ?_) AllReadyH.nil
  go_simp
  with_reducible refine (CQ.out).mono ?_
  rintro e20 w20 ⟨rfl, hb20⟩
  have hz20 := hb20.size
  have HB20 := Lib.hid (HBd.out.trans (hb20.mono (by rw [World.size_drew]; exact Nat.le_refl _)))
  have R20 := Lib.hid (range_below R19.out HB20.out hs19)
  have CT := refTag_any (HA.out.below (HB19.out.trans (HB20.out.mono HB19.out.size)) (Nat.le_refl _)) (HB19.out.trans (HB20.out.mono HB19.out.size)).size (HBB.out.below (HB19.out.trans (HB20.out.mono HB19.out.size)) (Nat.le_refl _)) (HB19.out.trans (HB20.out.mono HB19.out.size)).size (by omega) (by omega)
  rw [HS.out] at CT
  have CT := Lib.hid CT
  clear hb20 CQ
  refine hK.out _ _ ?_ (fun hHeld => ?_)
  · exact R20.out
  clear hK K
  try simp only [Act.put, List.setIfInBounds_toArray, List.set_cons_zero, List.set_cons_succ]
  refine takeD (i := 3) (oi := _) (d := some 86) (v := ?_) rfl (by kernel_rfl) (by kernel_rfl) (by kernel_rfl) (by kernel_rfl) (fun _ _ _ h => h) (Or.inl ⟨by kernel_rfl, ?_⟩) (by assumption) ?_
  rotate_left
  focus (intro w' hSw; (try dsimp only at hSw); go_simp <;> with_reducible rfl)
  try simp only [Act.put, List.setIfInBounds_toArray, List.set_cons_zero, List.set_cons_succ]
  refine takeD (i := 4) (oi := _) (d := some 87) (v := ?_) rfl (by kernel_rfl) (by kernel_rfl) (by kernel_rfl) (by kernel_rfl) (fun _ _ _ h => h) (Or.inl ⟨by kernel_rfl, ?_⟩) (by assumption) ?_
  rotate_left
  focus (intro w' hSw; (try dsimp only at hSw); go_simp <;> with_reducible rfl)
  try simp only [Act.put, List.setIfInBounds_toArray, List.set_cons_zero, List.set_cons_succ]
  refine takeD (i := 5) (oi := _) (d := some 88) (v := _) rfl (by kernel_rfl) (by kernel_rfl) (by kernel_rfl) (by kernel_rfl) (fun _ _ _ h => h) (yieldsIf_load_mid (by kernel_rfl) _ _ rfl _ _ rfl SS _ (fun w' h => h) u32 rfl i32) (by assumption) ?_
  try simp only [Act.put, List.setIfInBounds_toArray, List.set_cons_zero, List.set_cons_succ]
  refine takeD (i := 6) (oi := _) (d := some 89) (v := ?_) rfl (by kernel_rfl) (by kernel_rfl) (by kernel_rfl) (by kernel_rfl) (fun _ _ _ h => h) (Or.inl ⟨by kernel_rfl, ?_⟩) (by assumption) ?_
  rotate_left
  focus (intro w' hSw; (try dsimp only at hSw); go_simp <;> with_reducible rfl)
  try simp only [Act.put, List.setIfInBounds_toArray, List.set_cons_zero, List.set_cons_succ]
  refine takeD (i := 7) (oi := _) (d := some 90) (v := ?_) rfl (by kernel_rfl) (by kernel_rfl) (by kernel_rfl) (by kernel_rfl) (fun _ _ _ h => h) (Or.inl ⟨by kernel_rfl, ?_⟩) (by assumption) ?_
  rotate_left
  focus (intro w' hSw; (try dsimp only at hSw); go_simp <;> with_reducible rfl)
  try simp only [Act.put, List.setIfInBounds_toArray, List.set_cons_zero, List.set_cons_succ]
  refine wpAnyH_ready (rs := [8]) (by kernel_rfl) (by simp) ?_
  refine AllReadyH.cons (o := _) rfl (fun K hK => ?_) AllReadyH.nil
  go_simp
  with_reducible refine (CT.out).mono ?_
  rintro e21 w21 ⟨rfl, hb21⟩
  have hz21 := hb21.size
  have HB21 := Lib.hid (HB20.out.trans (hb21.mono HB20.out.size))
  have R21 := Lib.hid (range_below R19.out HB21.out hs19)
  have CE := Lib.hid (equals_same ((D19.out.below HB21.out).rs (Nat.le_refl _) HP1.out) (W19.out.below HB21.out (Nat.le_refl _)).rs)
  clear hb21 CT
  refine hK.out _ _ ?_ (fun hHeld => ?_)
  · exact R21.out
  clear hK K
  try simp only [Act.put, List.setIfInBounds_toArray, List.set_cons_zero, List.set_cons_succ]
  refine takeD (i := 9) (oi := _) (d := some 92) (v := ?_) rfl (by kernel_rfl) (by kernel_rfl) (by kernel_rfl) (by kernel_rfl) (fun _ _ _ h => h) (Or.inl ⟨by kernel_rfl, ?_⟩) (by assumption) ?_
  rotate_left
  focus (intro w' hSw; (try dsimp only at hSw); go_simp <;> with_reducible rfl)
  try simp only [Act.put, List.setIfInBounds_toArray, List.set_cons_zero, List.set_cons_succ]
  refine takeD (i := 10) (oi := _) (d := some 93) (v := ?_) rfl (by kernel_rfl) (by kernel_rfl) (by kernel_rfl) (by kernel_rfl) (fun _ _ _ h => h) (Or.inl ⟨by kernel_rfl, ?_⟩) (by assumption) ?_
  rotate_left
  focus (intro w' hSw; (try dsimp only at hSw); go_simp <;> with_reducible rfl)
  try simp only [Act.put, List.setIfInBounds_toArray, List.set_cons_zero, List.set_cons_succ]
  refine takeD (i := 11) (oi := _) (d := some 94) (v := ?_) rfl (by kernel_rfl) (by kernel_rfl) (by kernel_rfl) (by kernel_rfl) (fun _ _ _ h => h) (Or.inl ⟨by kernel_rfl, ?_⟩) (by assumption) ?_
  rotate_left
  focus (intro w' hSw; (try dsimp only at hSw); go_simp <;> with_reducible rfl)
  try simp only [Act.put, List.setIfInBounds_toArray, List.set_cons_zero, List.set_cons_succ]
  refine takeD (i := 12) (oi := _) (d := some 95) (v := ?_) rfl (by kernel_rfl) (by kernel_rfl) (by kernel_rfl) (by kernel_rfl) (fun _ _ _ h => h) (Or.inl ⟨by kernel_rfl, ?_⟩) (by assumption) ?_
  rotate_left
  focus (intro w' hSw; (try dsimp only at hSw); go_simp <;> with_reducible rfl)
  try simp only [Act.put, List.setIfInBounds_toArray, List.set_cons_zero, List.set_cons_succ]
  refine takeD (i := 13) (oi := _) (d := some 96) (v := ?_) rfl (by kernel_rfl) (by kernel_rfl) (by kernel_rfl) (by kernel_rfl) (fun _ _ _ h => h) (Or.inl ⟨by kernel_rfl, ?_⟩) (by assumption) ?_
  rotate_left
  focus (intro w' hSw; (try dsimp only at hSw); go_simp <;> with_reducible rfl)
  try simp only [Act.put, List.setIfInBounds_toArray, List.set_cons_zero, List.set_cons_succ]
  refine wpAnyH_ready (rs := [14]) (by kernel_rfl) (by simp) ?_
  refine AllReadyH.cons (o := _) rfl (fun K hK => ?_) AllReadyH.nil
  go_simp
  with_reducible refine (CE.out).mono ?_
  rintro e22 w22 ⟨rfl, hr22⟩
  have hb22 := hr22.below w21.heap.size
  have hz22 := hb22.size
  have HB22 := Lib.hid (HB21.out.trans (hb22.mono HB21.out.size))
  have R22 := Lib.hid (range_below R19.out HB22.out hs19)
  have CE2 := Lib.hid (equals_same ((E19.out.below HB22.out).rs (Nat.le_refl _) HP2.out) (W19.out.below HB22.out (Nat.le_refl _)).rs)
  clear hb22 hr22 CE
  refine hK.out _ _ ?_ (fun hHeld => ?_)
  · exact R22.out
  clear hK K
  try simp only [Act.put, List.setIfInBounds_toArray, List.set_cons_zero, List.set_cons_succ]
  refine takeD (i := 15) (oi := _) (d := some 98) (v := ?_) rfl (by kernel_rfl) (by kernel_rfl) (by kernel_rfl) (by kernel_rfl) (fun _ _ _ h => h) (Or.inl ⟨by kernel_rfl, ?_⟩) (by assumption) ?_
  rotate_left
  focus (intro w' hSw; (try dsimp only at hSw); go_simp <;> with_reducible rfl)
  try simp only [Act.put, List.setIfInBounds_toArray, List.set_cons_zero, List.set_cons_succ]
  refine takeD (i := 16) (oi := _) (d := some 99) (v := ?_) rfl (by kernel_rfl) (by kernel_rfl) (by kernel_rfl) (by kernel_rfl) (fun _ _ _ h => h) (Or.inl ⟨by kernel_rfl, ?_⟩) (by assumption) ?_
  rotate_left
  focus (intro w' hSw; (try dsimp only at hSw); go_simp <;> with_reducible rfl)
  try simp only [Act.put, List.setIfInBounds_toArray, List.set_cons_zero, List.set_cons_succ]
  refine takeD (i := 17) (oi := _) (d := some 100) (v := ?_) rfl (by kernel_rfl) (by kernel_rfl) (by kernel_rfl) (by kernel_rfl) (fun _ _ _ h => h) (Or.inl ⟨by kernel_rfl, ?_⟩) (by assumption) ?_
  rotate_left
  focus (intro w' hSw; (try dsimp only at hSw); go_simp <;> with_reducible rfl)
  try simp only [Act.put, List.setIfInBounds_toArray, List.set_cons_zero, List.set_cons_succ]
  refine takeD (i := 18) (oi := _) (d := some 101) (v := ?_) rfl (by kernel_rfl) (by kernel_rfl) (by kernel_rfl) (by kernel_rfl) (fun _ _ _ h => h) (Or.inl ⟨by kernel_rfl, ?_⟩) (by assumption) ?_
  rotate_left
  focus (intro w' hSw; (try dsimp only at hSw); go_simp <;> with_reducible rfl)
  try simp only [Act.put, List.setIfInBounds_toArray, List.set_cons_zero, List.set_cons_succ]
  refine takeD (i := 19) (oi := _) (d := some 102) (v := ?_) rfl (by kernel_rfl) (by kernel_rfl) (by kernel_rfl) (by kernel_rfl) (fun _ _ _ h => h) (Or.inl ⟨by kernel_rfl, ?_⟩) (by assumption) ?_
  rotate_left
  focus (intro w' hSw; (try dsimp only at hSw); go_simp <;> with_reducible rfl)
  try simp only [Act.put, List.setIfInBounds_toArray, List.set_cons_zero, List.set_cons_succ]
  refine wpAnyH_ready (rs := [20]) (by kernel_rfl) (by simp) ?_
  refine AllReadyH.cons (o := _) rfl (fun K hK => ?_) AllReadyH.nil
  go_simp
  with_reducible refine (CE2.out).mono ?_
  rintro e23 w23 ⟨rfl, hr23⟩
  have hb23 := hr23.below w22.heap.size
  have hz23 := hb23.size
  have HB23 := Lib.hid (HB22.out.trans (hb23.mono HB22.out.size))
  have R23 := Lib.hid (range_below R19.out HB23.out hs19)
  clear hb23 hr23 CE2
  refine hK.out _ _ ?_ (fun hHeld => ?_)
  · exact R23.out
  clear hK K
  try simp only [Act.put, List.setIfInBounds_toArray, List.set_cons_zero, List.set_cons_succ]
  refine takeD (i := 21) (oi := _) (d := some 104) (v := ?_) rfl (by kernel_rfl) (by kernel_rfl) (by kernel_rfl) (by kernel_rfl) (fun _ _ _ h => h) (Or.inl ⟨by kernel_rfl, ?_⟩) (by assumption) ?_
  rotate_left
  focus (intro w' hSw; (try dsimp only at hSw); go_simp <;> with_reducible rfl)
  try simp only [Act.put, List.setIfInBounds_toArray, List.set_cons_zero, List.set_cons_succ]
  refine takeD (i := 22) (oi := _) (d := some 105) (v := ?_) rfl (by kernel_rfl) (by kernel_rfl) (by kernel_rfl) (by kernel_rfl) (fun _ _ _ h => h) (Or.inl ⟨by kernel_rfl, ?_⟩) (by assumption) ?_
  rotate_left
  focus (intro w' hSw; (try dsimp only at hSw); go_simp <;> with_reducible rfl)
  try simp only [Act.put, List.setIfInBounds_toArray, List.set_cons_zero, List.set_cons_succ]
  refine wpAnyH_done (by kernel_rfl) ?_ _
  clear R19 R20 R21 R22 R23 u32 i32 hHeld HBd HB20 HB21 HB22 EQS
  have hb1923 := HB23.out
  have hX23 := HX19.out.below hb1923 (Nat.le_refl _)
  have hY23 := HY19.out.below hb1923 (Nat.le_refl _)
  have al : Below w23.heap.size w23 (w23.alloc (.cells #[.slice (some ⟨gX, 0, none⟩) (a.length + 40) (a.length + 40), .slice (some ⟨gY, 0, none⟩) (b.length + 40) (b.length + 40)] 22)) := (Below.refl _ _).alloc (Nat.le_refl _) _
  have accXY : Acc w23 w.heap.size [(.slice (some ⟨gX, 0, none⟩) (a.length + 40) (a.length + 40), lx), (.slice (some ⟨gY, 0, none⟩) (b.length + 40) (b.length + 40), ly)] := by
    refine ⟨fun p hp => ?_, List.pairwise_cons.2 ⟨fun p hp => ?_, List.pairwise_singleton _ _⟩⟩
    · simp only [List.mem_cons, List.not_mem_nil, or_false] at hp
      rcases hp with rfl | rfl
      · exact hX23
      · exact hY23
    · simp only [List.mem_cons, List.not_mem_nil, or_false] at hp
      subst hp
      intro j hj hk
      simp only [Value.ownBlock, Option.some.injEq] at hj hk
      omega
  have uXY : ∀ p ∈ [((.slice (some ⟨gX, 0, none⟩) (a.length + 40) (a.length + 40) : Value), lx), (.slice (some ⟨gY, 0, none⟩) (b.length + 40) (b.length + 40), ly)], ∀ j, p.1.ownBlock = some j → j < w2.heap.size := by
    intro p hp j hj
    simp only [List.mem_cons, List.not_mem_nil, or_false] at hp
    rcases hp with rfl | rfl
    all_goals
      simp only [Value.ownBlock, Option.some.injEq] at hj
      omega
  obtain ⟨XY, hXY⟩ : ∃ XY, XY = [((.slice (some ⟨gX, 0, none⟩) (a.length + 40) (a.length + 40) : Value), lx), (.slice (some ⟨gY, 0, none⟩) (b.length + 40) (b.length + 40), ly)] := ⟨_, rfl⟩
  have L23 : Dv (w23.alloc (.cells #[.slice (some ⟨gX, 0, none⟩) (a.length + 40) (a.length + 40), .slice (some ⟨gY, 0, none⟩) (b.length + 40) (b.length + 40)] 22)) w23.heap.size w.heap.size (.slice (some ⟨w23.heap.size, 0, none⟩) 2 2) 2 XY := by
    rw [hXY]
    exact Dv.lit accXY rfl (by unfold maxLen; omega)
  have LXY : Hid (∀ p ∈ XY, p.2.length ≤ 3000000) := Lib.hid (by
    rw [hXY]
    intro p hp
    simp only [List.mem_cons, List.not_mem_nil, or_false] at hp
    rcases hp with rfl | rfl
    · show lx.length ≤ _; rw [HLX.out]; omega
    · show ly.length ≤ _; rw [HLY.out]; omega)
  rw [← hXY] at uXY
  have hB23 := HB19.out.trans (hb1923.mono HB19.out.size)
  have BA := Lib.hid (hB23.trans (al.mono hB23.size))
  have h0_23 : w.heap.size ≤ w23.heap.size := hB23.size
  have D23 := (D19.out.below hb1923).below al
  have E23 := (E19.out.below hb1923).below al
  have u1lt : ∀ p ∈ XY ++ p1, ∀ j, p.1.ownBlock = some j → j < w18.heap.size := by
    intro p hp j hj
    rcases List.mem_append.1 hp with hp | hp
    · have := uXY p hp j hj; omega
    · exact U1b.out p hp j hj
  have AC1 := Lib.hid (L23.acc.app D23.acc uXY h02)
  have HD23 := Lib.hid D23; have HE23 := Lib.hid E23; have HL23 := Lib.hid L23
  have V1 := Lib.hid u1lt
  have LT2 : Hid (∀ j, (Value.slice A2 4 c2).ownBlock = some j → j < w23.heap.size) := Lib.hid (fun j hj => ((E19.out.below hb1923).lt hj).2)
  clear hb1923 al hX23 hY23 accXY uXY L23 D23 E23 u1lt hXY hB23 HB23 D19 E19 HX19 HY19 W19
  go_wp2_with (at_builtin; with_reducible refine wpList_appD rfl (.tmp 108) (.tmp 109) rfl rfl HL23.out.row rfl HD23.out.row (by omega) AC1.out (by omega) (by simp) ?_)
  intro r24 w24 hd24 hg24
  have hz24 := hg24.size
  have D24 : Dv w24 w23.heap.size w.heap.size r24 6 (XY ++ p1) := hd24
  obtain ⟨A24, c24, rfl⟩ := D24.shape
  have E24 := HE23.out.rowGrown HL23.out hg24 LT2.out
  have BB := Lib.hid (BA.out.grown hg24 BA.out.size (fun j hj => by simp only [Value.ownBlock, Option.some.injEq] at hj; omega))
  have AC2 := Lib.hid (D24.acc.app E24.acc V1.out (by omega))
  have HD24 := Lib.hid D24; have HE24 := Lib.hid E24
  clear hd24 hg24 D24 E24 HL23 HD23 HE23 AC1 BA
  go_wp2_with (at_builtin; with_reducible refine wpList_appD rfl (.tmp 110) (.tmp 111) rfl rfl HD24.out.row rfl HE24.out.row (by omega) AC2.out (by omega) (by simp at hz24 ⊢; omega) ?_)
  intro r25 w25 hd25 hg25
  have hz25 := hg25.size
  have D25 : Dv w25 w23.heap.size w.heap.size r25 10 ((XY ++ p1) ++ p2) := by rw [List.append_assoc]; exact hd25
  have BD := Lib.hid (BB.out.grown hg25 BB.out.size (fun j hj => by have := (HD24.out.lt hj).1; omega))
  have CAP := Lib.hid (D25.apart (by omega) BD.out.size (by omega) (by
    intro p hp
    rcases List.mem_append.1 hp with hp | hp
    · rcases List.mem_append.1 hp with hp | hp
      · have := LXY.out p hp; omega
      · have := HCB.out _ (mem_of_map HP1.out hp); omega
    · have := HCB.out _ (mem_of_map HP2.out hp); omega))
  clear hd25 hg25 D25 HD24 HE24 AC2 BB
  go_wp2_with fail
  with_reducible refine (CAP.out).mono ?_
  rintro e26 w26 ⟨rfl, hb26⟩
  go_wp2
  go_ret
  exact ⟨rfl, BD.out.trans hb26⟩
end Go.Proofs.Ytlheekbbioajpaa
