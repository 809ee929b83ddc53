/- ShaFlows, walked. -/
import Derived.Test.YtajhpebefehciaaS1
import Derived.Test.YtajhpebefehciaaShaAwake
import Derived.Test.YtajhpebefehciaaOverT
import Derived.Deep.MidRow
import Derived.Deep.WholeRow
namespace Go.Proofs.Ytajhpebefehciaa
open Go.RowKit

/-- an operation that yields is taken first, its slot written out -/
theorem takeD {P : Program} {ops : Array Oper} {Q : Exit → Act → World → Prop} {md : Region.Mode} {S : World → Prop} {i : Nat} {oi : Oper} {d : Option Nat} {v : Value} {fuel : Nat} {listed : Array Bool} {a : Act} {w : World} (hi : ops[i]? = some oi) (hd : oi.dst = d)
    (hs : Region.noSelect ops = true) (hf : Region.free md ops listed i = true) (hr : (Region.ready md ops listed).contains i = true)
    (hQ : ∀ c a w, Q (.panic c) (a.put d v) w → Q (.panic c) a w) (hy : YieldsIf P ops S oi v a) (hS : S w)
    (h : wpAnyH P md ops Q S fuel (listed.setIfInBounds i true) (a.put d v) w) : wpAnyH P md ops Q S (fuel + 1) listed a w := by
  subst hd
  exact wpAnyH_take hi hs hf hr hQ hy hS h

theorem undrew1 {W w' : World} (h : Below W.drew.heap.size W.drew w') : Below W.heap.size W w' := by
  rw [World.size_drew] at h
  exact ((Below.refl W.heap.size W).drew).trans h
theorem range_below {w w' : World} {B g o : Nat} {cs : List Value} (h : w.rangeAt g o cs) (hb : Below B w w') (hB : g < B) : w'.rangeAt g o cs := fun j v hv => (hb.cell (p := ⟨g, o + j, none⟩) hB).trans (h j v hv)
theorem World.rangeAt_of_new (w : World) (cs : List Value) (t : TypeId) : (w.alloc (.cells cs.toArray t)).rangeAt w.heap.size 0 cs := fun j v hv => by
  rw [cell_of_row _ _ (0 + j) _ _ (0, 0) (heap_alloc_new w _)]
  simpa using hv
theorem Rs.at_ {w : World} {B n c k : Nat} {A : Option Addr} {ls : List (List UInt8)} (h : Rs w B (.slice A n c) ls) (hk : k < ls.length) : ∃ b off u, A = some ⟨b, off, none⟩ ∧ b < B ∧ w.cell? ⟨b, off + k, none⟩ = some u ∧ Bs w B u ls[k] := by
  obtain ⟨A', c', hv, _, _, h3⟩ := h
  simp only [Value.slice.injEq] at hv
  obtain ⟨rfl, _, _⟩ := hv
  obtain ⟨b, off, e, hlt, hc⟩ := h3 (by omega)
  obtain ⟨u, hu, hb⟩ := hc k hk
  exact ⟨b, off, u, e, hlt, hu, hb⟩

set_option maxRecDepth 100000 in
theorem hashCells : Try.zeroCells38 = (cellsH (List.replicate 8 0) (List.replicate 64 0) 0 []).toArray := by
  show _ = _
  kernel_rfl

set_option maxRecDepth 100000 in
set_option maxHeartbeats 4000000 in
theorem flows_walk {ls : List (List UInt8)} {tw : List UInt8} {u v : Value} {w : World} (hr : Rs w w.heap.size u ls) (ht : Bs w w.heap.size v tw) (hn : ls.length ≤ 1048576) (hf : ls.flatten.length ≤ 1048576) (hl : ∀ l ∈ ls, l.length ≤ 1048576) (htl : tw.length ≤ 1048576) :
    Calls Try.prog 4 #[u, v] w fun e w' => e = .returned (.bool true) ∧ Below w.heap.size w w' := by
  have CA := Lib.hid (awake2_any w)
  obtain ⟨F, hF⟩ : ∃ F, F = ls.flatten := ⟨_, rfl⟩
  rw [← hF] at hf
  have HF := Lib.hid hF
  obtain ⟨AR, cR, hRe, hr1, hr2, hr3⟩ := hr
  have HR : Hid (Rs w w.heap.size u ls) := Lib.hid ⟨AR, cR, hRe, hr1, hr2, hr3⟩
  subst hRe
  obtain ⟨AT, cT, rfl⟩ := ht.shape
  have HT := Lib.hid ht; have HL := Lib.hid hl
  obtain ⟨S0, hS0⟩ : ∃ S0, arr32 (sumL []) = .agg S0 := ⟨_, rfl⟩
  have EQ0 : ∀ W, (Op.equalIn 10000 40 (.agg S0) (.agg S0)).run Try.prog W = .ok true W := fun W => by rw [← hS0]; exact eq_arr32 _ (sumL_len _) W
  have HS0 := Lib.hid hS0
  clear hF hl hr3 ht hS0
  go_enter Try.func4, Try.ntmps4
  go_wp2_with fail
  with_reducible refine (CA.out).mono ?_
  rintro e0 w0 ⟨rfl, hb0⟩
  have HB0 := Lib.hid (hb0.alloc hb0.size (.cells Try.zeroCells38 38))
  have hh0 : Hashed (w0.alloc (.cells Try.zeroCells38 38)) w0.heap.size 38 [] [] := by rw [hashCells]; exact hashed_zero w0 38 []
  have C1 : Hid (Calls Try.prog 20 #[.pointer (some ⟨w0.heap.size, 0, none⟩)] (w0.alloc (.cells Try.zeroCells38 38)) fun e w' => e = .returned (.int .i64 0) ∧ (w0.alloc (.cells Try.zeroCells38 38)) = w') := Lib.hid (len_any hh0)
  have C2 := sum_any hh0 (by simp)
  rw [HS0.out] at C2
  have HC2 := Lib.hid C2
  clear hb0 hh0 C2 CA
  go_upto_region 4 with fail
  generalize w0.alloc (.cells Try.zeroCells38 38) = W0 at HB0 C1 HC2 ⊢
  go_wp2_with fail
  with_reducible refine (C1.out).mono ?_
  rintro e1 w1 ⟨rfl, rfl⟩
  go_wp2_with fail
  with_reducible refine (HC2.out).mono ?_
  rintro e2 w2 ⟨rfl, hb2⟩
  have HB2 := Lib.hid (HB0.out.trans (hb2.mono HB0.out.size))
  have C3 := refSum_any (Bs.nil w2 w2.heap.size) (Nat.le_refl _) (by simp)
  rw [HS0.out] at C3
  have HC3 := Lib.hid C3
  clear hb2 C3 HB0 C1 HC2
  go_wp2_with fail
  with_reducible refine (HC3.out).mono ?_
  rintro e3 w3 ⟨rfl, hb3⟩
  have HB3 := Lib.hid (HB2.out.trans (hb3.mono HB2.out.size))
  have C4 := Lib.hid (new_any (Rs.nil w3 w3.heap.size) (by simp))
  clear hb3 HB2 HC3
  go_wp2_with fail
  with_reducible refine (C4.out).mono ?_
  rintro e4 w4 ⟨rfl, hh4, hb4⟩
  obtain ⟨g, hg⟩ : ∃ g, g = w3.heap.size := ⟨_, rfl⟩
  rw [← hg] at hh4 ⊢
  have hgw : w.heap.size ≤ g := by rw [hg]; exact HB3.out.size
  have hg4 : g < w4.heap.size := hh4.lt
  have HB4 := Lib.hid (HB3.out.trans (hb4.mono HB3.out.size))
  have HH4 := Lib.hid hh4
  have hz4 := HB4.out.size
  clear hh4 hb4 hg HB3 C4 EQ0
  go_wp2_with fail
  go_loopw [7, 27] (fun al i wr => ∃ k : Nat, k ≤ ls.length ∧ i = .int .i64 k ∧ Hid (Own wr w4.heap.size al ((ls.take k).flatten)) ∧ Hid (Hashed wr g 38 [] ((ls.take k).flatten)) ∧ Hid (Below w.heap.size w wr) ∧ Hid (w4.heap.size ≤ wr.heap.size)) (fun _ i _ => ls.length - (intOf i).toNat)
  case atStart => exact ⟨0, Nat.zero_le _, rfl, Lib.hid (Own.nil _ _), HH4, HB4, Lib.hid (Nat.le_refl _)⟩
  case round =>
    obtain ⟨k, hk, rfl, hown, hhash, hbe, hsz⟩ := hrel
    by_cases hlt : k < ls.length
    · obtain ⟨b, off, up, rfl, hbB, hcell, hpb⟩ := HR.out.at_ hlt
      obtain ⟨P, hP⟩ : ∃ P, P = ls[k] := ⟨_, rfl⟩
      rw [← hP] at hpb
      have hPl : P.length ≤ 1048576 := by rw [hP]; exact HL.out _ (List.getElem_mem hlt)
      obtain ⟨L, hLk⟩ : ∃ L, L = (ls.take k).flatten := ⟨_, rfl⟩
      have hLP : L ++ P = (ls.take (k + 1)).flatten := by rw [hLk, hP, List.take_succ_eq_append_getElem hlt, List.flatten_append]; simp
      have hLPl : L.length + P.length ≤ 1048576 := by
        have h1 : (ls.take (k + 1)).flatten.length ≤ ls.flatten.length := by
          have e := congrArg List.length (congrArg List.flatten (List.take_append_drop (k + 1) ls))
          rw [List.flatten_append, List.length_append] at e
          omega
        rw [← hLP, List.length_append] at h1
        rw [HF.out] at hf
        omega
      rw [← hLk] at hown hhash
      have hcell2 := (hbe.out.cell (p := ⟨b, off + k, none⟩) hbB).trans hcell
      obtain ⟨AP, cP, rfl⟩ := hpb.shape
      have hpb2 := hpb.below hbe.out (Nat.le_refl _)
      obtain ⟨AL, cL, rfl⟩ := hown.out.shape
      have CC := Lib.hid (copy_any (hpb2) hbe.out.size (by omega))
      have HPB := Lib.hid hpb; have HLP := Lib.hid hLP
      have HLL : Hid (∀ j, (Value.slice AL L.length cL).ownBlock = some j → j < wr.heap.size) := Lib.hid (fun j hj => (World.ownsRow.lt hown.out j hj).2)
      have hgr : g < wr.heap.size := by have := hsz.out; omega
      have hzr := hsz.out
      clear hP hLk hLP hcell hpb hpb2
      go_wp2_with fail
      with_reducible refine (CC.out).mono ?_
      rintro e5 w5 ⟨u5, rfl, ho5, hb5⟩
      obtain ⟨A5, c5, rfl⟩ := ho5.shape
      have hg5 := hb5.size
      have HO5 := Lib.hid ho5
      have hne5 : (Value.slice A5 P.length c5).ownBlock = none ∨ (Value.slice A5 P.length c5).ownBlock ≠ some g := by
        cases hq : (Value.slice A5 P.length c5).ownBlock with
        | none => exact .inl rfl
        | some j =>
          right
          intro e
          have h1 := (World.ownsRow.lt ho5 j hq).1
          simp only [Option.some.injEq] at e
          omega
      have CW := Lib.hid (write_one (hhash.out.below hb5 hgr) ho5.bs (Nat.le_refl _) (fun _ => by rcases hne5 with h | h; (rw [h]; simp); exact h) (by omega))
      have HB5 := Lib.hid (hbe.out.trans (hb5.mono hbe.out.size))
      have HAL5 := Lib.hid (hown.out.below hb5 (Nat.le_refl _))
      have HNE := Lib.hid hne5
      clear CC ho5 hb5 hne5 hhash hown hbe
      go_wp2_with fail
      with_reducible refine (CW.out).mono ?_
      rintro e6 w6 ⟨rfl, hh6, hg6⟩
      have hz6 := hg6.size
      have HB6 := Lib.hid (HB5.out.grown hg6 HB5.out.size (fun j hj => by simp only [Option.some.injEq] at hj; omega))
      have hneL : (Value.slice AL L.length cL).ownBlock = none ∨ (Value.slice AL L.length cL).ownBlock ≠ some g := by
        cases hq : (Value.slice AL L.length cL).ownBlock with
        | none => exact .inl rfl
        | some j =>
          right
          intro e
          have h1 := (World.ownsRow.lt HAL5.out j hq).1
          simp only [Option.some.injEq] at e
          omega
      have HAL6 := Lib.hid (HAL5.out.kept hg6 hneL)
      have ho6 := HO5.out.kept hg6 HNE.out
      have HH6 := Lib.hid hh6
      have CO := Lib.hid (over_any ho6 (by omega))
      have hdis : (Value.slice AL L.length cL).ownBlock = none ∨ (Value.slice AL L.length cL).ownBlock ≠ (Value.slice A5 P.length c5).ownBlock := by
        cases hq : (Value.slice AL L.length cL).ownBlock with
        | none => exact .inl rfl
        | some j =>
          right
          intro e
          have h1 := (World.ownsRow.lt HO5.out j e.symm).1
          have h2 := HLL.out j hq
          omega
      have HDIS := Lib.hid hdis
      clear CW hh6 hg6 hneL ho6 hdis HB5
      go_wp2_with fail
      with_reducible refine (CO.out).mono ?_
      rintro e7 w7 ⟨rfl, _, hg7⟩
      have hz7 := hg7.size
      have hb7 : Below w.heap.size w w7 := HB6.out.grown hg7 HB6.out.size (fun j hj => by have h1 := (World.ownsRow.lt HO5.out j hj).1; omega)
      have HB7 := Lib.hid hb7
      have HH7 := Lib.hid (HH6.out.grown hg7 (fun e => by rcases HNE.out with h | h; (rw [h] at e; cases e); exact h e))
      have HAL7 := Lib.hid (HAL6.out.kept hg7 HDIS.out)
      have HP7 := Lib.hid (HPB.out.below hb7 (Nat.le_refl _))
      have h7 : Hid (L.length + P.length ≤ 140737488355328) := Lib.hid (by omega)
      have h47 : Hid (w4.heap.size ≤ w7.heap.size) := Lib.hid (by omega)
      have hlt7 : ∀ j, (Value.slice AL L.length cL).ownBlock = some j → w4.heap.size ≤ j := fun j hj => (World.ownsRow.lt HAL7.out j hj).1
      have HLT7 := Lib.hid hlt7
      clear hg7 hb7 CO HO5 HNE HAL5 HAL6 HH6 HB6 HDIS hlt7
      go_wp2_with (at_builtin; with_reducible refine wpList_app rfl (.tmp 40) (.tmp 41) rfl rfl HAL7.out rfl HP7.out h7.out h47.out ?_)
      intro v8 w8 ho8 hg8 _
      have hz8 := hg8.size
      have HB8 := Lib.hid (HB7.out.grown hg8 HB7.out.size (fun j hj => by have h1 := HLT7.out j hj; omega))
      have hh8 := HH7.out.grown hg8 (fun e => by have h1 := HLT7.out g e; omega)
      obtain ⟨M, hM⟩ : ∃ M, M = L ++ P := ⟨_, rfl⟩
      have hMl : M.length ≤ 1048576 := by rw [hM, List.length_append]; omega
      rw [← hM] at ho8 hh8 HLP
      obtain ⟨A8, c8, rfl⟩ := ho8.shape
      have HO8 := Lib.hid ho8; have HH8 := Lib.hid hh8
      have C9 := Lib.hid (len_any hh8)
      obtain ⟨m, hm⟩ : ∃ m, m = k % 4 := ⟨_, rfl⟩
      have hmi : (k : Int) % 4 = (m : Int) := by omega
      have hmt : (k : Int).tmod 4 = (m : Int) := by rw [Int.tmod_eq_emod_of_nonneg (by omega)]; exact hmi
      clear ho8 hh8 hg8 hM HLT7 h7 h47 HP7 HAL7 HH7 HB7 HPB hm
      go_wp2_with fail
      with_reducible refine (C9.out).mono ?_
      rintro e9 w9 ⟨rfl, rfl⟩
      go_wp2_with fail
      with_reducible refine (C9.out).mono ?_
      rintro e10 w10 ⟨rfl, rfl⟩
      by_cases hm0 : m = 0
      · subst hm0
        obtain ⟨SM, hSM⟩ : ∃ SM, arr32 (sumL M) = .agg SM := ⟨_, rfl⟩
        have EQM : ∀ W, (Op.equalIn 10000 40 (.agg SM) (.agg SM)).run Try.prog W = .ok true W := fun W => by rw [← hSM]; exact eq_arr32 _ (sumL_len _) W
        have C11 := sum_any HH8.out (by omega)
        rw [hSM] at C11
        have HC11 := Lib.hid C11; have HSM := Lib.hid hSM
        clear C11 hSM
        go_wp2_with fail
        with_reducible refine (HC11.out).mono ?_
        rintro e11 w11 ⟨rfl, hb11⟩
        have C12 := refSum_any (HO8.out.bs.below hb11 (Nat.le_refl _)) hb11.size (by omega)
        rw [HSM.out] at C12
        have HC12 := Lib.hid C12
        have hz11 := hb11.size
        have HB11 := Lib.hid (HB8.out.trans (hb11.mono HB8.out.size))
        have HH11 := Lib.hid (HH8.out.below hb11 (by omega))
        have HO11 := Lib.hid (HO8.out.below hb11 (Nat.le_refl _))
        clear C12 hb11 HB8 HH8 HO8 HC11
        go_wp2_with fail
        with_reducible refine (HC12.out).mono ?_
        rintro e12 w12 ⟨rfl, hb12⟩
        have hz12 := hb12.size
        have HB12 := Lib.hid (HB11.out.trans (hb12.mono HB11.out.size))
        have HH12 := Lib.hid (HH11.out.below hb12 (by omega))
        have HO12 := Lib.hid (HO11.out.below hb12 (Nat.le_refl _))
        clear hb12 HB11 HH11 HO11 HC12
        go_wp2_with fail
        go_roundw
        case rel => exact ⟨k + 1, by omega, by go_num, by rw [← HLP.out]; exact HO12, by rw [← HLP.out]; exact HH12, HB12, Lib.hid (by omega)⟩
        case measure => simp [intOf]; omega
      · have hmn : ((m : Int) == 0) = false := by simp; omega
        go_wp2_with fail
        go_roundw
        case rel => exact ⟨k + 1, by omega, by go_num, by rw [← HLP.out]; exact HO8, by rw [← HLP.out]; exact HH8, HB8, Lib.hid (by omega)⟩
        case measure => simp [intOf]; omega
    · obtain rfl : k = ls.length := by omega
      rw [List.take_length, ← HF.out] at hown hhash
      obtain ⟨AL, cL, rfl⟩ := hown.out.shape
      have hgr : g < wr.heap.size := by have := hsz.out; omega
      have HO := hown; have HH := hhash; have HB := hbe
      have C13 := Lib.hid (twin_any hhash.out)
      clear hown hhash hbe
      go_wp2_with fail
      with_reducible refine (C13.out).mono ?_
      rintro e13 w13 ⟨rfl, ht13, hb13, hs13⟩
      obtain ⟨gt, hgt⟩ : ∃ gt, gt = wr.heap.size := ⟨_, rfl⟩
      rw [← hgt] at ht13 ⊢
      have HB13 := Lib.hid (HB.out.trans (hb13.mono HB.out.size))
      have HH13 := Lib.hid (HH.out.below hb13 hgr)
      have HO13 := Lib.hid (HO.out.below hb13 (Nat.le_refl _))
      have HT13 := Lib.hid ht13
      have hltA : ∀ j, (Value.slice AL F.length cL).ownBlock = some j → j < gt := fun j hj => by have := (World.ownsRow.lt HO.out j hj).2; omega
      have HLTA := Lib.hid hltA
      have hgg : g < gt := by omega
      have hgt13 : gt < w13.heap.size := ht13.lt
      have C14 := Lib.hid (copy_any (HT.out.below HB13.out (Nat.le_refl _)) HB13.out.size (by omega))
      clear ht13 hb13 hgt C13 HB HH HO hltA
      go_wp2_with fail
      with_reducible refine (C14.out).mono ?_
      rintro e14 w14 ⟨u14, rfl, ho14, hb14⟩
      obtain ⟨A14, c14, rfl⟩ := ho14.shape
      have hz14 := hb14.size
      have HB14 := Lib.hid (HB13.out.trans (hb14.mono HB13.out.size))
      have HH14 := Lib.hid (HH13.out.below hb14 (by omega))
      have HO14 := Lib.hid (HO13.out.below hb14 (Nat.le_refl _))
      have HT14 := Lib.hid (HT13.out.below hb14 hgt13)
      have hone : Bs (w14.alloc (.cells #[.int .u8 1] 5)) (w14.heap.size + 1) (.slice (some ⟨w14.heap.size, 0, none⟩) 1 1) [1] := Bs.one w14 1
      have hal : Below w14.heap.size w14 (w14.alloc (.cells #[.int .u8 1] 5)) := (Below.refl _ _).alloc (Nat.le_refl _) _
      have hs14 : (w14.alloc (.cells #[.int .u8 1] 5)).heap.size = w14.heap.size + 1 := by simp
      have hrg := Rg.lit (w := w14.alloc (.cells #[.int .u8 1] 5)) (g := gt) [.slice A14 tw.length c14, .slice (some ⟨w14.heap.size, 0, none⟩) 1 1] [tw, [1]] rfl (by unfold maxLen; simp) (by rw [hs14]; omega) (by
        intro j h h'
        match j, h, h' with
        | 0, _, _ => exact ⟨(ho14.bs.below hal (Nat.le_refl _)).more (by rw [hs14]; omega), fun _ e => by have h1 := (World.ownsRow.lt ho14 gt e).1; omega⟩
        | 1, _, _ => exact ⟨hone.more (by rw [hs14]; exact Nat.le_refl _), fun _ e => by simp [Value.ownBlock] at e; omega⟩)
      have hal2 : Below w14.heap.size w14 ((w14.alloc (.cells #[.int .u8 1] 5)).alloc (.cells #[.slice A14 tw.length c14, .slice (some ⟨w14.heap.size, 0, none⟩) 1 1] 22)) := hal.alloc (by rw [hs14]; omega) _
      have C15 := write_any (HT14.out.below hal2 (by omega)) hrg (by simp; omega)
      rw [hs14, show [tw, [1]].length = 2 from rfl, show [tw, [1]].flatten = tw ++ [1] by simp] at C15
      have HC15 := Lib.hid C15
      have HBA := Lib.hid (HB14.out.trans (hal2.mono HB14.out.size))
      have HHA := Lib.hid (HH14.out.below hal2 (by omega))
      have HOA := Lib.hid (HO14.out.below hal2 (Nat.le_refl _))
      have hzA : w14.heap.size ≤ ((w14.alloc (.cells #[.int .u8 1] 5)).alloc (.cells #[.slice A14 tw.length c14, .slice (some ⟨w14.heap.size, 0, none⟩) 1 1] 22)).heap.size := hal2.size
      clear ho14 hb14 hone hal hs14 hrg hal2 C15 C14 HB13 HH13 HO13 HT13 HB14 HH14 HO14 HT14
      go_wp2_with fail
      with_reducible refine (HC15.out).mono ?_
      rintro e16 w16 ⟨rfl, ht16, hg16⟩
      have hz16 := hg16.size
      have HT16 := Lib.hid ht16
      have HB16 := Lib.hid (HBA.out.grown hg16 HBA.out.size (fun j hj => by simp only [Option.some.injEq] at hj; omega))
      have HH16 := Lib.hid (HHA.out.grown hg16 (fun e => by simp only [Option.some.injEq] at e; omega))
      have HO16 := Lib.hid (HOA.out.kept hg16 (by
        cases hq : (Value.slice AL F.length cL).ownBlock with
        | none => exact .inl rfl
        | some j =>
          right
          intro e
          simp only [Option.some.injEq] at e
          have := HLTA.out j hq
          omega))
      have hFm : F.length ≤ 1152921504606846000 := by omega
      obtain ⟨SF, hSF⟩ : ∃ SF, SF = (sumL F).map vb := ⟨_, rfl⟩
      have hS : arr32 (sumL F) = .agg SF.toArray := by rw [hSF]; rfl
      have hSl : SF.length = 32 := by rw [hSF, List.length_map, sumL_len]
      have EQF : ∀ W, (Op.equalIn 10000 40 (.agg SF.toArray) (.agg SF.toArray)).run Try.prog W = .ok true W := fun W => by rw [← hS]; exact eq_arr32 _ (sumL_len _) W
      have HS := Lib.hid hS
      have C17 := refSum_any HO16.out.bs (Nat.le_refl _) (by omega)
      rw [HS.out] at C17
      have HC17 := Lib.hid C17
      have hone : Hid (SF.toArray.all (·.oneCell') = true) := Lib.hid (all_oneCell_toArray (by rw [hSF]; exact vb_one _))
      have hi32 : Hid ((Try.prog.info? 40).map (·.size) = some SF.toArray.size) := Lib.hid (by rw [List.size_toArray, hSl]; kernel_rfl)
      have I32 : Hid ((Try.prog.info? 40).map (·.size) = some SF.length) := Lib.hid (by rw [hSl]; kernel_rfl)
      have ho32 : Hid ((#[.int .u8 0, .int .u8 0, .int .u8 0, .int .u8 0, .int .u8 0, .int .u8 0, .int .u8 0, .int .u8 0, .int .u8 0, .int .u8 0, .int .u8 0, .int .u8 0, .int .u8 0, .int .u8 0, .int .u8 0, .int .u8 0, .int .u8 0, .int .u8 0, .int .u8 0, .int .u8 0, .int .u8 0, .int .u8 0, .int .u8 0, .int .u8 0, .int .u8 0, .int .u8 0, .int .u8 0, .int .u8 0, .int .u8 0, .int .u8 0, .int .u8 0, .int .u8 0] : Array Value).size = SF.toArray.size) := Lib.hid (by show 32 = _; rw [List.size_toArray, hSl])
      have hg16' : g < w16.heap.size := HH16.out.lt
      have hgt16 : gt < w16.heap.size := HT16.out.lt
      clear hSF hS hSl C17 ht16 hg16 HC15 HBA HHA HOA
      go_wp2_with fail
      with_reducible refine (HC17.out).mono ?_
      rintro e17 w17 ⟨rfl, hb17⟩
      have hz17 := hb17.size
      have hal17 : Below w17.heap.size w17 (w17.alloc (.cells SF.toArray 40)) := (Below.refl _ _).alloc (Nat.le_refl _) _
      have hb18 := hb17.trans (hal17.mono hb17.size)
      have HB20 := Lib.hid (HB16.out.trans (hb18.mono HB16.out.size))
      have HH20 := Lib.hid (HH16.out.below hb18 hg16')
      have HT20 := Lib.hid (HT16.out.below hb18 hgt16)
      have HA20 := Lib.hid (HO16.out.below hb18 (Nat.le_refl _))
      have HQ20' := Lib.hid (World.rangeAt_of_new w17 SF 40)
      have hz32 : Hid ((w17.alloc (.cells #[.int .u8 0, .int .u8 0, .int .u8 0, .int .u8 0, .int .u8 0, .int .u8 0, .int .u8 0, .int .u8 0, .int .u8 0, .int .u8 0, .int .u8 0, .int .u8 0, .int .u8 0, .int .u8 0, .int .u8 0, .int .u8 0, .int .u8 0, .int .u8 0, .int .u8 0, .int .u8 0, .int .u8 0, .int .u8 0, .int .u8 0, .int .u8 0, .int .u8 0, .int .u8 0, .int .u8 0, .int .u8 0, .int .u8 0, .int .u8 0, .int .u8 0, .int .u8 0] 40)).heap[w17.heap.size]? = some (.cells #[.int .u8 0, .int .u8 0, .int .u8 0, .int .u8 0, .int .u8 0, .int .u8 0, .int .u8 0, .int .u8 0, .int .u8 0, .int .u8 0, .int .u8 0, .int .u8 0, .int .u8 0, .int .u8 0, .int .u8 0, .int .u8 0, .int .u8 0, .int .u8 0, .int .u8 0, .int .u8 0, .int .u8 0, .int .u8 0, .int .u8 0, .int .u8 0, .int .u8 0, .int .u8 0, .int .u8 0, .int .u8 0, .int .u8 0, .int .u8 0, .int .u8 0, .int .u8 0] 40 (0, 0))) := Lib.hid (heap_alloc_new w17 _)
      have hz18 : w17.heap.size < (w17.alloc (.cells SF.toArray 40)).heap.size := by simp
      clear hb17 hb18 hal17 HC17 HB16 HH16 HT16 HO16
      go_upto_region 21 with ((with_reducible refine wpList_store_row rfl 40 (.tmp 13) (.tmp 81) rfl w17.heap.size SF.toArray rfl rfl 40 _ hz32.out hi32.out ho32.out hone.out ?_); rw [World.setRow_alloc_new])
      obtain ⟨q, hq⟩ : ∃ q, q = w17.heap.size := ⟨_, rfl⟩
      have HQ20 : Hid ((w17.alloc (.cells SF.toArray 40)).drew.rangeAt q 0 SF) := Lib.hid (by rw [hq]; exact HQ20'.out)
      rw [← hq] at hz18 ⊢
      generalize w17.alloc (.cells SF.toArray 40) = w20 at HB20 HH20 HT20 HA20 HQ20 hz18 ⊢
      have hq20 := hz18
      have HQ20b := Lib.hid ((World.rangeAt_drew w20 q 0 SF).1 HQ20.out)
      have hg20 : g < w20.heap.size := HH20.out.lt
      have hgt20 : gt < w20.heap.size := HT20.out.lt
      have D1 : Hid (Calls Try.prog 21 #[.pointer (some ⟨g, 0, none⟩)] w20.drew fun e w' => e = .returned (.agg SF.toArray) ∧ Below w20.heap.size w20 w') := Lib.hid (by
        rw [← HS.out]
        exact (sum_any (w := w20.drew) (HH20.out.below ((Below.refl w20.heap.size w20).drew) hg20) hFm).mono (fun e w' ⟨h1, h2⟩ => ⟨h1, undrew1 h2⟩))
      have u32 := Try.underlying40
      have i32 := I32.out
      clear hq hz32 HQ20' hz18
      go_wp2_with fail
      refine wp_region_held_drew (S := fun w' => w'.rangeAt q 0 SF) (by kernel_rfl) ?_ (fun hHeld => ?_)
      · exact HQ20.out
      refine takeD (i := 0) (oi := _) (d := some 82) (v := ?_) rfl (by kernel_rfl) (by kernel_rfl) (by kernel_rfl) (by kernel_rfl) (fun _ _ _ h => h) (Or.inl ⟨by kernel_rfl, ?_⟩) (by assumption) ?_
      rotate_left
      focus (intro w' hSw; (try dsimp only at hSw); go_simp <;> with_reducible rfl)
      try simp only [Act.put, List.setIfInBounds_toArray, List.set_cons_zero, List.set_cons_succ]
      refine takeD (i := 2) (oi := _) (d := some 84) (v := _) rfl (by kernel_rfl) (by kernel_rfl) (by kernel_rfl) (by kernel_rfl) (fun _ _ _ h => h) (yieldsIf_load_mid (by kernel_rfl) _ _ rfl _ _ rfl SF _ (fun w' h => h) u32 rfl i32) (by assumption) ?_
      try simp only [Act.put, List.setIfInBounds_toArray, List.set_cons_zero, List.set_cons_succ]
      refine wpAnyH_ready (rs := [1]) (by kernel_rfl) (by simp) ?_
      refine AllReadyH.cons (o := _) rfl (fun K hK => ?_) AllReadyH.nil
      go_simp
      with_reducible refine (D1.out).mono ?_
      rintro e21 w21 ⟨rfl, hb21⟩
      have HB21 := Lib.hid (HB20.out.trans (hb21.mono HB20.out.size))
      have HH21 := Lib.hid (HH20.out.below hb21 hg20)
      have HT21 := Lib.hid (HT20.out.below hb21 hgt20)
      have HA21 := Lib.hid (HA20.out.below hb21 (Nat.le_refl _))
      have HQ21 := Lib.hid (range_below HQ20b.out hb21 hq20)
      have hz21 := hb21.size
      have D2 := sum_any HH21.out hFm
      rw [HS.out] at D2
      have D2 := Lib.hid D2
      clear hb21
      refine hK.out _ _ ?_ (fun hHeld => ?_)
      · exact HQ21.out
      clear hK K
      try simp only [Act.put, List.setIfInBounds_toArray, List.set_cons_zero, List.set_cons_succ]
      refine takeD (i := 3) (oi := _) (d := some 85) (v := ?_) rfl (by kernel_rfl) (by kernel_rfl) (by kernel_rfl) (by kernel_rfl) (fun _ _ _ h => h) (Or.inl ⟨by kernel_rfl, ?_⟩) (by assumption) ?_
      rotate_left
      focus (intro w' hSw; (try dsimp only at hSw); go_simp <;> with_reducible rfl)
      try simp only [Act.put, List.setIfInBounds_toArray, List.set_cons_zero, List.set_cons_succ]
      refine takeD (i := 4) (oi := _) (d := some 86) (v := ?_) rfl (by kernel_rfl) (by kernel_rfl) (by kernel_rfl) (by kernel_rfl) (fun _ _ _ h => h) (Or.inl ⟨by kernel_rfl, ?_⟩) (by assumption) ?_
      rotate_left
      focus (intro w' hSw; (try dsimp only at hSw); go_simp <;> with_reducible rfl)
      try simp only [Act.put, List.setIfInBounds_toArray, List.set_cons_zero, List.set_cons_succ]
      refine takeD (i := 5) (oi := _) (d := some 87) (v := ?_) rfl (by kernel_rfl) (by kernel_rfl) (by kernel_rfl) (by kernel_rfl) (fun _ _ _ h => h) (Or.inl ⟨by kernel_rfl, ?_⟩) (by assumption) ?_
      rotate_left
      focus (intro w' hSw; (try dsimp only at hSw); go_simp <;> with_reducible rfl)
      try simp only [Act.put, List.setIfInBounds_toArray, List.set_cons_zero, List.set_cons_succ]
      refine takeD (i := 7) (oi := _) (d := some 89) (v := _) rfl (by kernel_rfl) (by kernel_rfl) (by kernel_rfl) (by kernel_rfl) (fun _ _ _ h => h) (yieldsIf_load_mid (by kernel_rfl) _ _ rfl _ _ rfl SF _ (fun w' h => h) u32 rfl i32) (by assumption) ?_
      try simp only [Act.put, List.setIfInBounds_toArray, List.set_cons_zero, List.set_cons_succ]
      refine wpAnyH_ready (rs := [6]) (by kernel_rfl) (by simp) ?_
      refine AllReadyH.cons (o := _) rfl (fun K hK => ?_) AllReadyH.nil
      go_simp
      with_reducible refine (D2.out).mono ?_
      rintro e22 w22 ⟨rfl, hb22⟩
      have HB22 := Lib.hid (HB21.out.trans (hb22.mono HB21.out.size))
      have HH22 := Lib.hid (HH21.out.below hb22 (by omega))
      have HT22 := Lib.hid (HT21.out.below hb22 (by omega))
      have HA22 := Lib.hid (HA21.out.below hb22 (Nat.le_refl _))
      have HQ22 := Lib.hid (range_below HQ21.out hb22 (by omega))
      have hz22 := hb22.size
      have D3 := Lib.hid (len_any HH22.out)
      clear hb22
      refine hK.out _ _ ?_ (fun hHeld => ?_)
      · exact HQ22.out
      clear hK K
      try simp only [Act.put, List.setIfInBounds_toArray, List.set_cons_zero, List.set_cons_succ]
      refine takeD (i := 8) (oi := _) (d := some 90) (v := ?_) rfl (by kernel_rfl) (by kernel_rfl) (by kernel_rfl) (by kernel_rfl) (fun _ _ _ h => h) (Or.inl ⟨by kernel_rfl, ?_⟩) (by assumption) ?_
      rotate_left
      focus (intro w' hSw; (try dsimp only at hSw); go_simp <;> with_reducible rfl)
      try simp only [Act.put, List.setIfInBounds_toArray, List.set_cons_zero, List.set_cons_succ]
      refine takeD (i := 9) (oi := _) (d := some 91) (v := ?_) rfl (by kernel_rfl) (by kernel_rfl) (by kernel_rfl) (by kernel_rfl) (fun _ _ _ h => h) (Or.inl ⟨by kernel_rfl, ?_⟩) (by assumption) ?_
      rotate_left
      focus (intro w' hSw; (try dsimp only at hSw); go_simp <;> with_reducible rfl)
      try simp only [Act.put, List.setIfInBounds_toArray, List.set_cons_zero, List.set_cons_succ]
      refine takeD (i := 10) (oi := _) (d := some 92) (v := ?_) rfl (by kernel_rfl) (by kernel_rfl) (by kernel_rfl) (by kernel_rfl) (fun _ _ _ h => h) (Or.inl ⟨by kernel_rfl, ?_⟩) (by assumption) ?_
      rotate_left
      focus (intro w' hSw; (try dsimp only at hSw); go_simp <;> with_reducible rfl)
      try simp only [Act.put, List.setIfInBounds_toArray, List.set_cons_zero, List.set_cons_succ]
      refine takeD (i := 11) (oi := _) (d := some 93) (v := ?_) rfl (by kernel_rfl) (by kernel_rfl) (by kernel_rfl) (by kernel_rfl) (fun _ _ _ h => h) (Or.inl ⟨by kernel_rfl, ?_⟩) (by assumption) ?_
      rotate_left
      focus (intro w' hSw; (try dsimp only at hSw); go_simp <;> with_reducible rfl)
      try simp only [Act.put, List.setIfInBounds_toArray, List.set_cons_zero, List.set_cons_succ]
      refine takeD (i := 13) (oi := _) (d := some 95) (v := ?_) rfl (by kernel_rfl) (by kernel_rfl) (by kernel_rfl) (by kernel_rfl) (fun _ _ _ h => h) (Or.inl ⟨by kernel_rfl, ?_⟩) (by assumption) ?_
      rotate_left
      focus (intro w' hSw; (try dsimp only at hSw); go_simp <;> with_reducible rfl)
      try simp only [Act.put, List.setIfInBounds_toArray, List.set_cons_zero, List.set_cons_succ]
      refine takeD (i := 14) (oi := _) (d := some 96) (v := ?_) rfl (by kernel_rfl) (by kernel_rfl) (by kernel_rfl) (by kernel_rfl) (fun _ _ _ h => h) (Or.inl ⟨by kernel_rfl, ?_⟩) (by assumption) ?_
      rotate_left
      focus (intro w' hSw; (try dsimp only at hSw); go_simp <;> with_reducible rfl)
      try simp only [Act.put, List.setIfInBounds_toArray, List.set_cons_zero, List.set_cons_succ]
      refine wpAnyH_ready (rs := [12]) (by kernel_rfl) (by simp) ?_
      refine AllReadyH.cons (o := _) rfl (fun K hK => ?_) AllReadyH.nil
      go_simp
      with_reducible refine (D3.out).mono ?_
      rintro e23 w23 ⟨rfl, rfl⟩
      have D4 := Lib.hid (copies_any (HR.out.below HB22.out (Nat.le_refl _)) HB22.out.size (by omega) (fun l hl => by have := HL.out l hl; omega))
      refine hK.out _ _ ?_ (fun hHeld => ?_)
      · exact HQ22.out
      clear hK K
      try simp only [Act.put, List.setIfInBounds_toArray, List.set_cons_zero, List.set_cons_succ]
      refine takeD (i := 15) (oi := _) (d := some 97) (v := ?_) rfl (by kernel_rfl) (by kernel_rfl) (by kernel_rfl) (by kernel_rfl) (fun _ _ _ h => h) (Or.inl ⟨by kernel_rfl, ?_⟩) (by assumption) ?_
      rotate_left
      focus (intro w' hSw; (try dsimp only at hSw); go_simp <;> with_reducible rfl)
      try simp only [Act.put, List.setIfInBounds_toArray, List.set_cons_zero, List.set_cons_succ]
      refine takeD (i := 16) (oi := _) (d := some 98) (v := ?_) rfl (by kernel_rfl) (by kernel_rfl) (by kernel_rfl) (by kernel_rfl) (fun _ _ _ h => h) (Or.inl ⟨by kernel_rfl, ?_⟩) (by assumption) ?_
      rotate_left
      focus (intro w' hSw; (try dsimp only at hSw); go_simp <;> with_reducible rfl)
      try simp only [Act.put, List.setIfInBounds_toArray, List.set_cons_zero, List.set_cons_succ]
      refine takeD (i := 17) (oi := _) (d := some 99) (v := ?_) rfl (by kernel_rfl) (by kernel_rfl) (by kernel_rfl) (by kernel_rfl) (fun _ _ _ h => h) (Or.inl ⟨by kernel_rfl, ?_⟩) (by assumption) ?_
      rotate_left
      focus (intro w' hSw; (try dsimp only at hSw); go_simp <;> with_reducible rfl)
      try simp only [Act.put, List.setIfInBounds_toArray, List.set_cons_zero, List.set_cons_succ]
      refine takeD (i := 18) (oi := _) (d := some 100) (v := ?_) rfl (by kernel_rfl) (by kernel_rfl) (by kernel_rfl) (by kernel_rfl) (fun _ _ _ h => h) (Or.inl ⟨by kernel_rfl, ?_⟩) (by assumption) ?_
      rotate_left
      focus (intro w' hSw; (try dsimp only at hSw); go_simp <;> with_reducible rfl)
      try simp only [Act.put, List.setIfInBounds_toArray, List.set_cons_zero, List.set_cons_succ]
      refine takeD (i := 22) (oi := _) (d := some 104) (v := _) rfl (by kernel_rfl) (by kernel_rfl) (by kernel_rfl) (by kernel_rfl) (fun _ _ _ h => h) (yieldsIf_load_mid (by kernel_rfl) _ _ rfl _ _ rfl SF _ (fun w' h => h) u32 rfl i32) (by assumption) ?_
      try simp only [Act.put, List.setIfInBounds_toArray, List.set_cons_zero, List.set_cons_succ]
      refine wpAnyH_ready (rs := [19]) (by kernel_rfl) (by simp) ?_
      refine AllReadyH.cons (o := _) rfl (fun K hK => ?_) AllReadyH.nil
      go_simp
      with_reducible refine (D4.out).mono ?_
      rintro e24 w24 ⟨u24, rfl, ho24, hb24⟩
      obtain ⟨A24, c24, rfl⟩ := ho24.shape
      have HB24 := Lib.hid (HB22.out.trans (hb24.mono HB22.out.size))
      have HT24 := Lib.hid (HT22.out.below hb24 (by omega))
      have HA24 := Lib.hid (HA22.out.below hb24 (Nat.le_refl _))
      have HQ24 := Lib.hid (range_below HQ22.out hb24 (by omega))
      have hz24 := hb24.size
      have D5 := new_any ho24.rs (by rw [← HF.out]; omega)
      rw [← HF.out] at D5
      have D5 := Lib.hid D5
      clear ho24 hb24
      refine hK.out _ _ ?_ (fun hHeld => ?_)
      · exact HQ24.out
      clear hK K
      try simp only [Act.put, List.setIfInBounds_toArray, List.set_cons_zero, List.set_cons_succ]
      refine wpAnyH_ready (rs := [20]) (by kernel_rfl) (by simp) ?_
      refine AllReadyH.cons (o := _) rfl (fun K hK => ?_) AllReadyH.nil
      go_simp
      with_reducible refine (D5.out).mono ?_
      rintro e25 w25 ⟨rfl, hh25, hb25⟩
      have HB25 := Lib.hid (HB24.out.trans (hb25.mono HB24.out.size))
      have HT25 := Lib.hid (HT24.out.below hb25 (by omega))
      have HA25 := Lib.hid (HA24.out.below hb25 (Nat.le_refl _))
      have HQ25 := Lib.hid (range_below HQ24.out hb25 (by omega))
      have hz25 := hb25.size
      have D6 := sum_any hh25 hFm
      rw [HS.out] at D6
      have D6 := Lib.hid D6
      clear hh25 hb25
      refine hK.out _ _ ?_ (fun hHeld => ?_)
      · exact HQ25.out
      clear hK K
      try simp only [Act.put, List.setIfInBounds_toArray, List.set_cons_zero, List.set_cons_succ]
      refine wpAnyH_ready (rs := [21]) (by kernel_rfl) (by simp) ?_
      refine AllReadyH.cons (o := _) rfl (fun K hK => ?_) AllReadyH.nil
      go_simp
      with_reducible refine (D6.out).mono ?_
      rintro e26 w26 ⟨rfl, hb26⟩
      have HB26 := Lib.hid (HB25.out.trans (hb26.mono HB25.out.size))
      have HT26 := Lib.hid (HT25.out.below hb26 (by omega))
      have HA26 := Lib.hid (HA25.out.below hb26 (Nat.le_refl _))
      have HQ26 := Lib.hid (range_below HQ25.out hb26 (by omega))
      have hz26 := hb26.size
      clear hb26
      refine hK.out _ _ ?_ (fun hHeld => ?_)
      · exact HQ26.out
      clear hK K
      try simp only [Act.put, List.setIfInBounds_toArray, List.set_cons_zero, List.set_cons_succ]
      refine takeD (i := 23) (oi := _) (d := some 105) (v := ?_) rfl (by kernel_rfl) (by kernel_rfl) (by kernel_rfl) (by kernel_rfl) (fun _ _ _ h => h) (Or.inl ⟨by kernel_rfl, ?_⟩) (by assumption) ?_
      rotate_left
      focus (intro w' hSw; (try dsimp only at hSw); go_simp <;> with_reducible rfl)
      try simp only [Act.put, List.setIfInBounds_toArray, List.set_cons_zero, List.set_cons_succ]
      refine takeD (i := 24) (oi := _) (d := some 106) (v := ?_) rfl (by kernel_rfl) (by kernel_rfl) (by kernel_rfl) (by kernel_rfl) (fun _ _ _ h => h) (Or.inl ⟨by kernel_rfl, ?_⟩) (by assumption) ?_
      rotate_left
      focus (intro w' hSw; (try dsimp only at hSw); go_simp <;> with_reducible rfl)
      try simp only [Act.put, List.setIfInBounds_toArray, List.set_cons_zero, List.set_cons_succ]
      refine wpAnyH_done (by kernel_rfl) ?_ _
      have C27 := Lib.hid (copy_any HA26.out.bs (Nat.le_refl _) (by omega))
      have hgt26 : gt < w26.heap.size := HT26.out.lt
      clear HA26 HQ26
      go_wp2_with fail
      with_reducible refine (C27.out).mono ?_
      rintro e27 w27 ⟨u27, rfl, ho27, hb27⟩
      obtain ⟨A27, c27, rfl⟩ := ho27.shape
      have hz27 := hb27.size
      have HB27 := Lib.hid (HB26.out.trans (hb27.mono HB26.out.size))
      have HT27 := Lib.hid (HT26.out.below hb27 hgt26)
      have HO27 := Lib.hid ho27
      have HTW := Lib.hid (HT.out.below HB27.out (Nat.le_refl _))
      have h1 : Hid (F.length + tw.length ≤ 140737488355328) := Lib.hid (by omega)
      have h2 : Hid (w26.heap.size ≤ w27.heap.size) := Lib.hid hz27
      clear ho27 hb27 C27 HB26 HT26
      go_wp2_with (at_builtin; with_reducible refine wpList_app rfl (.tmp 108) (.tmp 109) rfl rfl HO27.out rfl HTW.out h1.out h2.out ?_)
      intro v28 w28 ho28 hg28 _
      have hlt28 : ∀ j, (Value.slice A27 F.length c27).ownBlock = some j → w26.heap.size ≤ j := fun j hj => (World.ownsRow.lt HO27.out j hj).1
      have hz28 := hg28.size
      have HB28 := HB27.out.grown hg28 HB27.out.size (fun j hj => by have h3 := hlt28 j hj; have h4 := HB20.out.size; omega)
      have HT28 := HT27.out.grown hg28 (fun e => by have h3 := hlt28 gt e; omega)
      obtain ⟨N, hN⟩ : ∃ N, N = F ++ tw := ⟨_, rfl⟩
      have hNl : N.length ≤ 2097152 := by rw [hN, List.length_append]; omega
      rw [← hN] at ho28
      obtain ⟨A28, c28, rfl⟩ := ho28.shape
      have hal28 : Below w28.heap.size w28 (w28.alloc (.cells #[.int .u8 1] 5)) := (Below.refl _ _).alloc (Nat.le_refl _) _
      have HO28 := Lib.hid (ho28.alloc (.cells #[.int .u8 1] 5))
      have HB28' := Lib.hid (HB28.trans (hal28.mono HB28.size))
      have HT28' := Lib.hid (HT28.below hal28 (by omega))
      have H1 : Hid (Bs (w28.alloc (.cells #[.int .u8 1] 5)) (w28.heap.size + 1) (.slice (some ⟨w28.heap.size, 0, none⟩) 1 1) [1]) := Lib.hid (Bs.one w28 1)
      have h5 : Hid (N.length + ([1] : List UInt8).length ≤ 140737488355328) := Lib.hid (by simp; omega)
      have h6 : Hid (w26.heap.size ≤ (w28.alloc (.cells #[.int .u8 1] 5)).heap.size) := Lib.hid (by simp; omega)
      have hz29 : w28.heap.size ≤ (w28.alloc (.cells #[.int .u8 1] 5)).heap.size := by simp
      have HNN := Lib.hid hN
      clear ho28 hg28 hlt28 HB28 HT28 hal28 hN h1 h2 HO27 HTW HB27 HT27
      go_wp2_with (at_builtin; with_reducible refine wpList_app rfl (.tmp 110) (.tmp 111) rfl rfl HO28.out rfl H1.out h5.out h6.out ?_)
      intro v29 w29 ho29 hg29 _
      have hlt29 : ∀ j, (Value.slice A28 N.length c28).ownBlock = some j → w26.heap.size ≤ j := fun j hj => (World.ownsRow.lt HO28.out j hj).1
      have hz30 := hg29.size
      have HB29 := Lib.hid (HB28'.out.grown hg29 HB28'.out.size (fun j hj => by have h3 := hlt29 j hj; have h4 := HB20.out.size; omega))
      have ht29 := HT28'.out.grown hg29 (fun e => by have h3 := hlt29 gt e; omega)
      obtain ⟨Q, hQ⟩ : ∃ Q, Q = F ++ (tw ++ [1]) := ⟨_, rfl⟩
      have hQ2 : N ++ [1] = Q := by rw [HNN.out, hQ, List.append_assoc]
      have hQl : Q.length ≤ 2097153 := by rw [← hQ2, List.length_append]; simp; omega
      rw [hQ2] at ho29
      rw [← hQ] at ht29
      obtain ⟨A29, c29, rfl⟩ := ho29.shape
      have HO29 := Lib.hid ho29; have HT29 := Lib.hid ht29
      obtain ⟨SQ, hSQ⟩ : ∃ SQ, arr32 (sumL Q) = .agg SQ := ⟨_, rfl⟩
      have EQQ : ∀ W, (Op.equalIn 10000 40 (.agg SQ) (.agg SQ)).run Try.prog W = .ok true W := fun W => by rw [← hSQ]; exact eq_arr32 _ (sumL_len _) W
      have C30 := sum_any ht29 (by omega)
      rw [hSQ] at C30
      have HC30 := Lib.hid C30; have HSQ := Lib.hid hSQ
      have hgt29 : gt < w29.heap.size := ht29.lt
      clear ho29 hg29 hlt29 ht29 hQ hQ2 hSQ C30 HO28 HB28' HT28' H1
      go_wp2_with fail
      with_reducible refine (HC30.out).mono ?_
      rintro e30 w30 ⟨rfl, hb30⟩
      have C31 := refSum_any (HO29.out.bs.below hb30 (Nat.le_refl _)) hb30.size (by omega)
      rw [HSQ.out] at C31
      have HC31 := Lib.hid C31
      have HB30 := Lib.hid (HB29.out.trans (hb30.mono HB29.out.size))
      have HT30 := Lib.hid (HT29.out.below hb30 hgt29)
      have hgt30 : gt < w30.heap.size := HT30.out.lt
      clear C31 hb30 HB29 HT29 HO29 HC30
      go_wp2_with fail
      with_reducible refine (HC31.out).mono ?_
      rintro e31 w31 ⟨rfl, hb31⟩
      have HB31 := Lib.hid (HB30.out.trans (hb31.mono HB30.out.size))
      have C32 := Lib.hid (len_any (HT30.out.below hb31 hgt30))
      clear hb31 HB30 HT30 HC31
      go_wp2_with fail
      with_reducible refine (C32.out).mono ?_
      rintro e32 w32 ⟨rfl, rfl⟩
      go_wp2
      go_ret
      exact ⟨rfl, HB31.out⟩
end Go.Proofs.Ytajhpebefehciaa
