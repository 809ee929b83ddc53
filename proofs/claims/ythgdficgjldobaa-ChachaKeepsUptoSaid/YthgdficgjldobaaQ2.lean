/- The lists of the law of chacha, walked. -/
import Derived.Test.YthgdficgjldobaaQ1
namespace Go.Proofs.Ythgdficgjldobaa
open Go.RowKit

set_option maxRecDepth 100000 in
set_option maxHeartbeats 4000000 in
theorem lists_any {a b : List UInt8} {u v : Value} {w : World} {N : Nat} (hN : N = (listsC a b).length) (ha : Bs w w.heap.size u a) (hb : Bs w w.heap.size v b) (hla : a.length ≤ 1048576) (hlb : b.length ≤ 1048576) :
    Calls Try.prog 30 #[u, v] w fun e w' => ∃ r ps, e = .returned r ∧ Dv w' w.heap.size w.heap.size r N ps ∧ ps.map (·.2) = listsC a b ∧ Below w.heap.size w w' := by
  obtain ⟨AA, cA, rfl⟩ := ha.shape
  obtain ⟨AB, cB, rfl⟩ := hb.shape
  have HA := Lib.hid ha; have HBB := Lib.hid hb
  have C1 := a_str ha hla
  obtain ⟨XA, hXA⟩ : ∃ XA, XA = strE a 70 := ⟨_, rfl⟩
  obtain ⟨XB, hXB⟩ : ∃ XB, XB = trnE a (b ++ b) := ⟨_, rfl⟩
  obtain ⟨XC, hXC⟩ : ∃ XC, XC = trnE a b := ⟨_, rfl⟩
  rw [← hXA] at C1
  have C1 := Lib.hid C1
  have HXA := Lib.hid hXA; have HXB := Lib.hid hXB; have HXC := Lib.hid hXC
  have HN := Lib.hid hN
  clear ha hb hXA hXB hXC hN
  go_enter Try.func30, Try.ntmps30
  go_wp2_with fail
  with_reducible refine (C1.out).mono ?_
  rintro e1 w1 ⟨x, z1, rfl, ho1, hb1⟩
  have hz1 := hb1.size
  obtain ⟨Ax, cx, rfl⟩ := ho1.shape
  have A1 := Lib.hid ((Acc.nil w w.heap.size).push hb1 ho1 (Nat.le_refl _) (Nat.le_refl _))
  have B1 := Lib.hid hb1
  have hb1v := HBB.out.up hb1
  have hal1 := (Below.refl w1.heap.size w1).alloc (Nat.le_refl _) (.cells #[.slice AB b.length cB, .slice AB b.length cB] 28)
  have C2 := a_trn (ls := [b, b]) hal1 ((HA.out.up hb1).up hal1) (by have h := rs2 hb1v hb1v; simp only [World.size_alloc]; exact h) hla
  rw [show [b, b].flatten = b ++ b by simp, ← HXB.out] at C2
  have C2 := Lib.hid C2
  clear ho1 hb1 C1 hb1v hal1
  go_wp2_with fail
  with_reducible refine (C2.out).mono ?_
  rintro e2 w2 ⟨y, z2, rfl, ho2, hb2⟩
  have hz2 := hb2.size
  obtain ⟨Ay, cy, rfl⟩ := ho2.shape
  have A2 := Lib.hid (A1.out.push hb2 ho2 (Nat.le_refl _) hz1)
  have B2 := Lib.hid (B1.out.trans (hb2.mono hz1))
  have hb2v := HBB.out.up B2.out
  have hal2 := (Below.refl w2.heap.size w2).alloc (Nat.le_refl _) (.cells #[.slice AB b.length cB] 28)
  have C3 := a_trn (ls := [b]) hal2 ((HA.out.up B2.out).up hal2) (by have h := rs1 hb2v; simp only [World.size_alloc]; exact h) hla
  rw [show [b].flatten = b by simp, ← HXC.out] at C3
  have C3 := Lib.hid C3
  clear ho2 hb2 C2 A1 B1 hb2v hal2
  go_wp2_with fail
  with_reducible refine (C3.out).mono ?_
  rintro e3 w3 ⟨s, z3, rfl, ho3, hb3⟩
  have hz3 := hb3.size
  obtain ⟨As, cs, rfl⟩ := ho3.shape
  have a3 := A2.out.push hb3 ho3 (Nat.le_refl _) (by omega)
  have B3 := Lib.hid (B2.out.trans (hb3.mono (by omega)))
  have al3 : Below w3.heap.size w3 (w3.alloc (.cells #[.slice Ax XA.length cx, .slice Ay XB.length cy, .slice As XC.length cs] 28)) := (Below.refl _ _).alloc (Nat.le_refl _) _
  have L3 : Hid (Dv (w3.alloc (.cells #[.slice Ax XA.length cx, .slice Ay XB.length cy, .slice As XC.length cs] 28)) w3.heap.size w.heap.size (.slice (some ⟨w3.heap.size, 0, none⟩) 3 3) 3 [(.slice Ax XA.length cx, XA), (.slice Ay XB.length cy, XB), (.slice As XC.length cs, XC)]) := Lib.hid (Dv.lit a3 rfl (by unfold maxLen; omega))
  have B4 := Lib.hid (B3.out.trans (al3.mono (by omega)))
  have hk4 := HA.out.up B4.out
  have h03 : w.heap.size ≤ w3.heap.size := by omega
  by_cases h32 : a.length = 32
  · have CN := Lib.hid (new_ok hk4 (Nat.le_refl _) h32)
    have H32 := Lib.hid h32
    clear ho3 hb3 C3 A2 B2 a3 al3 hk4 h32
    go_wp2_with fail
    with_reducible refine (CN.out).mono ?_
    rintro e5 w5 ⟨rfl, hf5, hb5⟩
    have hz5 := hb5.size
    obtain ⟨PS, hPS⟩ : ∃ PS : List (Value × List UInt8), PS = [(.slice Ax XA.length cx, XA), (.slice Ay XB.length cy, XB), (.slice As XC.length cs, XC)] := ⟨_, rfl⟩
    have hps : ∀ p ∈ PS, ∀ j, p.1.ownBlock = some j → j < (w3.alloc (.cells #[.slice Ax XA.length cx, .slice Ay XB.length cy, .slice As XC.length cs] 28)).heap.size := by rw [hPS]; exact fun p hp j hj => (ownLt (L3.out.acc.own p hp) hj).2
    have D5 : Dv w5 w3.heap.size w.heap.size (.slice (some ⟨w3.heap.size, 0, none⟩) 3 3) 3 PS := by rw [hPS]; exact L3.out.below hb5
    have B5 := Lib.hid (B4.out.trans (hb5.mono B4.out.size))
    obtain ⟨g, hg⟩ : ∃ g, g = (w3.alloc (.cells #[.slice Ax XA.length cx, .slice Ay XB.length cy, .slice As XC.length cs] 28)).heap.size := ⟨_, rfl⟩
    have hg1 : w3.heap.size < g := by rw [hg]; simp
    rw [← hg] at hf5 hps hz5 ⊢
    have hgl := hf5.lt
    have cx' := next_ok hf5 (n := 5) (by omega)
    rw [show ((5 : Nat) : Int) = 5 from rfl] at cx'
    have CX := Lib.hid cx'
    have D5 := Lib.hid D5
    have HPS := Lib.hid hPS; have HPL := Lib.hid hps
    clear hb5 hf5 CN hg hPS hps L3 B4 cx'
    go_wp2_with fail
    with_reducible refine (CX.out).mono ?_
    rintro e6 w6 ⟨p, rfl, ho6, hf6, hg6⟩
    obtain ⟨Ap', cp, rfl⟩ := ho6.shape
    rw [strL_len] at ho6 ⊢
    have hz6 := hg6.size
    have D6 := Lib.hid (D5.out.keptNe hg6 (fun j hj e => by simp only [Value.ownBlock, Option.some.injEq] at hj e; omega) (fun q hq j hj => by have := HPL.out q hq j hj; simp only [ne_eq, Option.some.injEq]; omega))
    have B6 := Lib.hid (B5.out.grown hg6 B5.out.size (fun j hj => by simp only [Option.some.injEq] at hj; omega))
    have hv6 := HBB.out.up B6.out
    have hal6 := (Below.refl w6.heap.size w6).alloc (Nat.le_refl _) (.cells #[.slice AB b.length cB] 28)
    have hlt6 : ∀ j, (Value.slice Ap' 5 cp).ownBlock = some j → w5.heap.size ≤ j ∧ j < w6.heap.size := fun j hj => ownLt ho6 hj
    have CF := a_ft (ls := [b]) (hf6.below hal6 hf6.lt) (by omega) (by have h := rs1 hv6; simp only [World.size_alloc]; exact h)
    rw [show [b].flatten = b by simp, show 0 + 5 = 5 from rfl] at CF
    obtain ⟨XF, hXF⟩ : ∃ XF, XF = trnF a 5 b := ⟨_, rfl⟩
    rw [← hXF] at CF
    have CF := Lib.hid CF
    have HXF := Lib.hid hXF
    have HO6 := Lib.hid ho6
    have HAL6 := Lib.hid hal6
    have HL6 := Lib.hid hlt6
    clear ho6 hf6 hg6 CX D5 B5 hv6 hal6 hlt6 hXF
    go_wp2_with fail
    with_reducible refine (CF.out).mono ?_
    rintro e7 w7 ⟨q, z7, rfl, ho7, hg7⟩
    obtain ⟨Aq, cq, rfl⟩ := ho7.shape
    have hz7 := hg7.size
    have hza : (w6.alloc (.cells #[.slice AB b.length cB] 28)).heap.size = w6.heap.size + 1 := by simp
    rw [hza] at hz7
    have D7 := (D6.out.below HAL6.out).keptNe hg7 (fun j hj e => by simp only [Value.ownBlock, Option.some.injEq] at hj e; omega) (fun q hq j hj => by have := HPL.out q hq j hj; simp only [ne_eq, Option.some.injEq]; omega)
    have B7 := (B6.out.trans (HAL6.out.mono B6.out.size)).grown hg7 (by rw [hza]; have := B6.out.size; omega) (fun j hj => by simp only [Option.some.injEq] at hj; omega)
    have op7 : Own w7 w5.heap.size (.slice Ap' 5 cp) (strL a 0 5) := (HO6.out.below HAL6.out (Nat.le_refl _)).kept hg7 (by
      cases hv : (Value.slice Ap' 5 cp).ownBlock with
      | none => exact .inl rfl
      | some j => have := (HL6.out j hv).1; exact .inr (by simp only [ne_eq, Option.some.injEq]; omega))
    have acc7 : Acc w7 w5.heap.size [(.slice Ap' 5 cp, strL a 0 5), (.slice Aq XF.length cq, XF)] := by
      refine ⟨fun p hp => ?_, List.pairwise_cons.2 ⟨fun p hp => ?_, List.pairwise_singleton _ _⟩⟩
      · simp only [List.mem_cons, List.not_mem_nil, or_false] at hp
        rcases hp with rfl | rfl
        · exact op7
        · exact ho7.more (by rw [hza]; omega)
      · simp only [List.mem_cons, List.not_mem_nil, or_false] at hp
        subst hp
        intro j hj hk
        have h1 := (HL6.out j hj).2
        have h2 := (ownLt ho7 hk).1
        rw [hza] at h2
        omega
    have al8 : Below w7.heap.size w7 (w7.alloc (.cells #[.slice Ap' 5 cp, .slice Aq XF.length cq] 28)) := (Below.refl _ _).alloc (Nat.le_refl _) _
    have L8 : Dv (w7.alloc (.cells #[.slice Ap' 5 cp, .slice Aq XF.length cq] 28)) w7.heap.size w5.heap.size (.slice (some ⟨w7.heap.size, 0, none⟩) 2 2) 2 [(.slice Ap' 5 cp, strL a 0 5), (.slice Aq XF.length cq, XF)] := Dv.lit acc7 rfl (by unfold maxLen; omega)
    have D8 := Lib.hid (D7.below al8)
    have B8 := Lib.hid (B7.trans (al8.mono B7.size))
    have hAC := D8.out.acc.app L8.acc (fun p hp j hj => by have := HPL.out p hp j hj; omega) (by omega)
    have AC8 := Lib.hid hAC
    have L8 := Lib.hid L8
    have hz8 : (w7.alloc (.cells #[.slice Ap' 5 cp, .slice Aq XF.length cq] 28)).heap.size = w7.heap.size + 1 := by simp
    have HZ8 := Lib.hid hz8
    clear ho7 hg7 D7 B7 op7 acc7 al8 hAC CF D6 B6 HAL6 HO6 HL6 hza hz8
    go_wp2_with (at_builtin; with_reducible refine wpList_appD rfl (.tmp 65) (.tmp 68) rfl rfl D8.out.row rfl L8.out.row (by omega) AC8.out (by omega) (by rw [HZ8.out]; omega) ?_)
    intro r9 w9 hd9 hg9
    have B9 := Lib.hid (B8.out.grown hg9 B8.out.size (fun j hj => by simp only [Value.ownBlock, Option.some.injEq] at hj; omega))
    have D9 : Hid (Dv w9 w3.heap.size w.heap.size r9 5 (PS ++ [(.slice Ap' 5 cp, strL a 0 5), (.slice Aq XF.length cq, XF)])) := Lib.hid hd9
    have HL : Hid (listsC a b = [XA, XB, XC, strL a 0 5, XF]) := Lib.hid (by rw [listsC, if_pos H32.out, HXA.out, HXB.out, HXC.out, HXF.out]; rfl)
    clear hd9 hg9 D8 B8 AC8 L8
    have hN5 : N = 5 := by rw [HN.out, HL.out]; rfl
    go_wp2
    go_ret
    subst hN5
    exact ⟨_, _, rfl, D9.out.more h03 (Nat.le_refl _), by rw [HL.out, HPS.out]; rfl, B9.out⟩
  · have CN := Lib.hid (new_no hk4 h32 (by omega))
    have HL : Hid (listsC a b = [XA, XB, XC]) := Lib.hid (by rw [listsC, if_neg h32, HXA.out, HXB.out, HXC.out]; rfl)
    clear ho3 hb3 C3 A2 B2 a3 al3 hk4 h32
    go_wp2_with fail
    with_reducible refine (CN.out).mono ?_
    rintro e5 w5 ⟨rfl, rfl⟩
    clear CN
    have hN3 : N = 3 := by rw [HN.out, HL.out]; rfl
    go_wp2
    go_ret
    subst hN3
    exact ⟨_, _, rfl, L3.out.more h03 (Nat.le_refl _), by rw [HL.out]; rfl, B4.out⟩
end Go.Proofs.Ythgdficgjldobaa
