/- The law CodecCursors, walked: a cursor hands out the bytes in order, each once, and a refused call takes nothing. -/
import Derived.Test.YtpimklpkjinhiaaOver
namespace Go.Proofs.Ytpimklpkjinhiaa
open Go.RowKit

theorem alloc_grew (w : World) (o : Obj) (r : Option Nat) : w.grownBy (w.alloc o) r := ⟨rfl, rfl, rfl, by simp, fun k hk _ => heap_alloc_old w o hk⟩
theorem drew_grew {w w' : World} (h : Drew w w') (r : Option Nat) : w.grownBy w' r := by
  obtain ⟨n, rfl⟩ := h
  exact ⟨rfl, rfl, rfl, Nat.le_refl _, fun _ _ _ => rfl⟩

theorem Own.shapeL {w : World} {B n : Nat} {v : Value} {l : List UInt8} (h : Own w B v l) (hn : l.length = n) : ∃ A c, v = .slice A n c := by
  subst hn
  exact h.shape
theorem Has.of_grew {w w' : World} {g : Nat} {r : Option Nat} (h : Has w g) (hg : w.grownBy w' r) : Has w' g := Nat.lt_of_lt_of_le h hg.size

set_option maxRecDepth 20000 in
set_option maxHeartbeats 3200000 in
theorem cursors_walk {l : List UInt8} {xs : List (List Int)} {v u : Value} {w : World} (hb : Bs w w.heap.size v l) (hl : l.length ≤ 140737488355328) (hx : Ss w w.heap.size u 2 xs) :
    Calls Try.prog 11 #[v, u] w fun e w' => e = .returned (.bool true) ∧ Below w.heap.size w w' := by
  have q0 : Bs (w.alloc (.cells #[.int .u8 1, .int .u8 2, .int .u8 3] 5)) (w.heap.size + 1) (.slice (some ⟨w.heap.size, 0, none⟩) 3 3) [1, 2, 3] := Bs.lit w [1, 2, 3] (by unfold maxLen; simp)
  have c0 := newcursor_any q0 (by simp) (by simp)
  have C0 := Lib.hid c0
  have hb0 : Below w.heap.size w (w.alloc (.cells #[.int .u8 1, .int .u8 2, .int .u8 3] 5)) := (Below.refl _ _).alloc (Nat.le_refl _) _
  obtain ⟨A, c, rfl, h1, h2, h3⟩ := hx
  have H3 := Lib.hid h3; clear h3
  obtain ⟨Ab, cb, rfl⟩ := hb.shape
  have HB := Lib.hid hb; clear hb
  unfold maxLen at h2
  clear q0 c0
  go_enter Try.func11, Try.ntmps11
  go_wp2_with fail
  refine (C0.out).mono ?_
  rintro e w1 ⟨g1, rfl, hcu1, hbb1⟩
  have hb1 := hb0.trans (hbb1.mono hb0.size)
  have hz1 := hb1.size
  have c1 := take_ok (N := 2) hcu1 (by simp) (by simp)
  have C1 := Lib.hid c1
  have HCU1 := Lib.hid hcu1
  clear c1 hcu1 hbb1 hb0 C0
  go_wp2_with fail
  refine (C1.out).mono ?_
  rintro e w2 ⟨u2, rfl, ho2, hcu2, hgr2⟩
  have hb2 : Below w.heap.size w w2 := hb1.grown hgr2 hz1 (fun k hk => by
    obtain ⟨_, _, _, h, _⟩ := HCU1.out.cells
    simp only [Option.some.injEq] at hk
    subst hk
    simp at h
    omega)
  have hz2 := hb2.size
  have p2 : Bs (w2.alloc (.cells #[.int .u8 1, .int .u8 2] 5)) (w2.heap.size + 1) (.slice (some ⟨w2.heap.size, 0, none⟩) 2 2) [1, 2] := Bs.lit w2 [1, 2] (by unfold maxLen; simp)
  have c2 := told_any (x := 0) (y := 0) (ho2.bs.alloc (Nat.le_refl _) (.cells #[.int .u8 1, .int .u8 2] 5)) p2
  rw [show (decide ((List.take 2 (List.drop 0 ([1, 2, 3] : List UInt8))) = [1, 2]) && ((0 : Int) == 0)) = true by decide] at c2
  have C2 := Lib.hid c2
  have hcu2' := hcu2.below ((Below.refl _ w2).alloc (Nat.le_refl _) (.cells #[.int .u8 1, .int .u8 2] 5)) (Nat.le_refl _)
  have HCU2 := Lib.hid hcu2'
  have hb2' := hb2.alloc hz2 (.cells #[.int .u8 1, .int .u8 2] 5)
  clear c2 p2 hcu2 hcu2' hgr2 C1 HCU1 hb1 hz1 ho2
  go_wp2_with fail
  refine (C2.out).mono ?_
  rintro e w3 ⟨rfl, hd3⟩
  have hb3 := hb2'.trans (hd3.below _)
  have hz3 := hb3.size
  have c3 := left_any (HCU2.out.grown (drew_grew hd3 none) (by simp)) (by simp) (by simp)
  rw [show ((([1, 2, 3] : List UInt8).length : Int) - ((0 + 2 : Nat) : Int)) = 1 by simp] at c3
  have C3 := Lib.hid c3
  clear c3 hb2' hd3 C2 HCU2 hb2 hz2
  go_wp2_with fail
  refine (C3.out).mono ?_
  rintro e w4 ⟨rfl, hd4⟩
  have hb4 := hb3.trans (hd4.below _)
  have hz4 := hb4.size
  have hzc : Cur (w4.alloc (.cells #[.slice none 0 0, .int .i64 0] 71)) 0 (w4.heap.size + 1) w4.heap.size [] 0 := ⟨none, 0, by simp, by simp, by simp, Own.nil _ _, by simp [Value.ownBlock], heap_alloc_new w4 _⟩
  have c4 := left_any hzc (by simp) (by simp)
  rw [show ((([] : List UInt8).length : Int) - ((0 : Nat) : Int)) = 0 by simp] at c4
  have C4 := Lib.hid c4
  have HZC := Lib.hid hzc
  have hb4' := hb4.alloc hz4 (.cells #[.slice none 0 0, .int .i64 0] 71)
  clear c4 hzc hd4 hb3 hz3 C3
  go_wp2_with fail
  refine (C4.out).mono ?_
  rintro e w5 ⟨rfl, hd5⟩
  have hb5 := hb4'.trans (hd5.below _)
  have c5 := done_any (HZC.out.grown (drew_grew hd5 none) (by simp))
  have C5 := Lib.hid c5
  clear c5 hd5 hb4 hb4' hz4 C4 HZC
  go_wp2_with fail
  refine (C5.out).mono ?_
  rintro e w6 ⟨rfl, rfl⟩
  have hz5 := hb5.size
  have c6 := copy_any (HB.out.below hb5 (Nat.le_refl _)) hz5 hl
  have C6 := Lib.hid c6
  clear c6 C5
  go_wp2_with fail
  refine (C6.out).mono ?_
  rintro e w7 ⟨u7, rfl, ho7, hbb7⟩
  have hb7 := hb5.trans (hbb7.mono hz5)
  have hz7 := hb7.size
  have c7 := newcursor_any ho7.bs (Nat.le_refl _) (by omega)
  have C7 := Lib.hid c7
  have HO7 := Lib.hid ho7
  obtain ⟨A7, c7, rfl⟩ := ho7.shape
  clear c7 C6 hbb7 ho7
  go_wp2_with fail
  refine (C7.out).mono ?_
  rintro e w8 ⟨g, rfl, hcu8, hbb8⟩
  have hb8 := hb7.trans (hbb8.mono hz7)
  have hz8 := hb8.size
  have ho8 := HO7.out.below hbb8 (Nat.le_refl _)
  have c8 := over_any ho8 (by omega)
  have C8 := Lib.hid c8
  have HO8 := Lib.hid ho8
  have HCU8 := Lib.hid hcu8
  have hlt8 : Hid (∀ j, (Value.slice A7 l.length c7).ownBlock = some j → j < w7.heap.size) := fun j hj => (HO7.out.lt_size j hj).2
  clear c8 C7 hbb8 ho8 hcu8
  go_wp2_with fail
  refine (C8.out).mono ?_
  rintro e w9 ⟨rfl, _, hgr9⟩
  have hb9 : Below w.heap.size w w9 := hb8.grown hgr9 hz8 (fun k hk => by have := (HO8.out.lt_size k hk).1; omega)
  have hcu9 := ((HCU8.out.grown hgr9 (fun j hj => .inl (hlt8.out j hj))).more (B' := w.heap.size) hz7)
  obtain ⟨E, hE⟩ : ∃ E, E = w8.heap.size := ⟨_, rfl⟩
  rw [← hE] at hcu9
  have HCU9 := Lib.hid hcu9
  clear hE hcu9 hgr9 HCU8 hlt8 HO8 HO7 C8 hb8 hz8 hb7 hz7 hb5 hz5
  go_wp2_with fail
  go_loopw [10, 50] (fun a i wr => ∃ k t : Nat, k ≤ xs.length ∧ t ≤ l.length ∧ i = .int .i64 k ∧ a = .int .i64 t ∧ Below w.heap.size w wr ∧ Hid (Cur wr w.heap.size E g l t)) (fun _ i _ => xs.length - (intOf i).toNat)
  case atStart => exact ⟨0, 0, Nat.zero_le _, Nat.zero_le _, rfl, rfl, hb9, HCU9⟩
  case round =>
    obtain ⟨k, t, hk, ht, rfl, rfl, hbel, hcur⟩ := hrel
    have hcur0 := hcur
    clear hb9 HCU9
    by_cases hlt : k < xs.length
    · obtain ⟨b, off, rfl, hbB, hc⟩ := H3.out (by omega)
      obtain ⟨hf, hcc⟩ := hc k hlt
      obtain ⟨o, m, hxk⟩ : ∃ o m, xs[k] = [o, m] := by
        match hxk : xs[k], hf with
        | [o, m], _ => exact ⟨o, m, rfl⟩
      simp only [hxk] at hcc
      have g0 := (hbel.cell (p := ⟨b, off + k * 2 + 0, none⟩) (by show b < _; omega)).trans (hcc 0 (by simp)).1
      have g1 := (hbel.cell (p := ⟨b, off + k * 2 + 1, none⟩) (by show b < _; omega)).trans (hcc 1 (by simp)).1
      simp at g0 g1
      have hm := i64_bounds (hcc 1 (by simp)).2
      simp at hm
      clear hc hcc hxk hf
      have hz := hbel.size
      have hbW : Below w.heap.size w (wr.alloc (.cells #[.int .i64 o, .int .i64 m] 74)) := hbel.alloc hz _
      have d0 : (wr.alloc (.cells #[.int .i64 o, .int .i64 m] 74)).cell? ⟨wr.heap.size, 0, none⟩ = some (.int .i64 o) := by simp
      have d1 : (wr.alloc (.cells #[.int .i64 o, .int .i64 m] 74)).cell? ⟨wr.heap.size, 1, none⟩ = some (.int .i64 m) := by simp
      have hcuW := hcur.out.grown (alloc_grew wr (.cells #[.int .i64 o, .int .i64 m] 74) none) (by simp)
      have hgs : w.heap.size ≤ g ∧ g < wr.heap.size := by
        obtain ⟨_, _, _, h, h', _⟩ := hcur.out.cells
        exact ⟨h, h'⟩
      have HAS : Has (wr.alloc (.cells #[.int .i64 o, .int .i64 m] 74)) wr.heap.size := Has.new wr _
      have HCU := Lib.hid hcuW
      by_cases ho : o = 0
      · subst ho
        clear hcur
        by_cases hneg : m < 0
        · have ct := Lib.hid (take_neg (w := wr.alloc (.cells #[.int .i64 0, .int .i64 m] 74)) (g := g) hneg)
          have cq := told_any (x := 1) (y := 1) (Bs.nil (wr.alloc (.cells #[.int .i64 0, .int .i64 m] 74)) 0) (Bs.nil _ 0)
          rw [show (decide (([] : List UInt8) = []) && ((1 : Int) == 1)) = true by decide] at cq
          have CQ := Lib.hid cq
          clear cq hcuW
          go_wp2_with fail
          refine (ct.out).mono ?_
          rintro e w2 ⟨rfl, rfl⟩
          clear ct
          go_wp2_with fail
          refine (CQ.out).mono ?_
          rintro e w3 ⟨rfl, hd3⟩
          have HCU3 := Lib.hid (HCU.out.grown (drew_grew hd3 none) (by simp))
          have hb3 := hbW.trans (hd3.below _)
          clear CQ HCU hd3 d0 d1 HAS hgs hcur0 hbW hneg
          have cd := done_any HCU3.out
          have cl := left_any HCU3.out ht (by omega)
          have CD := Lib.hid cd; have CL := Lib.hid cl
          clear cd cl
          go_wp2_with fail
          refine (CD.out).mono ?_
          rintro e w5 ⟨rfl, rfl⟩
          go_wp2_with fail
          refine (CL.out).mono ?_
          rintro e w6 ⟨rfl, hd6⟩
          have HF := Lib.hid (HCU3.out.grown (drew_grew hd6 none) (by simp))
          have hbF := hb3.trans (hd6.below _)
          clear CD CL
          go_wp2
          go_roundw
          case rel => exact ⟨k + 1, t, by omega, ht, by go_num, rfl, hbF, HF⟩
          case measure => simp [intOf]; omega
        · obtain ⟨M, rfl⟩ := Int.eq_ofNat_of_zero_le (show 0 ≤ m by omega)
          have hnn : decide ((M : Int) < 0) = false := by simp
          by_cases hfit : t + M ≤ l.length
          · have hle : decide ((l.length : Int) - (t : Int) < (M : Int)) = false := by simp; omega
            have ct := Lib.hid (take_ok (N := M) hcuW (by omega) hfit)
            have hbig : Hid (∀ j, some g = some j → j < wr.heap.size) := fun j hj => by simp only [Option.some.injEq] at hj; omega
            clear hcuW HCU
            go_wp2_with fail
            refine (ct.out).mono ?_
            rintro e w2 ⟨u2, rfl, ho2, hcu2, hgr2⟩
            have hb2 : Below w.heap.size w w2 := hbW.grown hgr2 hbW.size (fun k hk => by simp only [Option.some.injEq] at hk; omega)
            have n1 := grown_cell hgr2 HAS (by simp only [ne_eq, Option.some.injEq]; omega) d1
            obtain ⟨D, hbD, hrun⟩ := Bs.piece (lo := t) (hi := t + M) (HB.out.below hb2 (Nat.le_refl _)) (by omega) (by omega)
            rw [show t + M - t = M by omega] at hbD hrun
            have hPl : (List.take M (List.drop t l)).length = M := by simp; omega
            obtain ⟨P, hP⟩ : ∃ P, List.take M (List.drop t l) = P := ⟨_, rfl⟩
            rw [hP] at hPl hbD ho2
            clear hP
            have HPL := Lib.hid hPl
            have hrun' : ∀ W : World, (Instr.slice 24 (.slice Ab l.length cb) (some (.int .i64 (t : Int))) (some (.int .i64 ((t : Int) + (M : Int)))) none).run Try.prog W = .ok (.slice D M (cb - t)) W := hrun
            have cq := told_any (x := 0) (y := 0) ho2.bs hbD
            rw [show (decide (P = P) && ((0 : Int) == 0)) = true by simp] at cq
            have CQ := Lib.hid cq
            have HO2 := Lib.hid ho2; have HCU2 := Lib.hid hcu2
            have hE : E ≤ (wr.alloc (.cells #[.int .i64 0, .int .i64 (M : Int)] 74)).heap.size := by
              obtain ⟨_, _, _, _, h, _⟩ := hcur0.out
              simp; omega
            have HEE := Lib.hid hE
            obtain ⟨A2, c2, rfl⟩ := ho2.shapeL hPl
            clear cq hrun hbD ho2 hcu2 ct d0 d1 hE hPl
            go_wp2_with fail
            refine (CQ.out).mono ?_
            rintro e w3 ⟨rfl, hd3⟩
            have m1 := grown_cell (drew_grew hd3 none) (HAS.of_grew hgr2) (by simp) n1
            have ho3 := HO2.out.grown (drew_grew hd3 none) (by simp)
            have co := over_any ho3 (by rw [HPL.out]; omega)
            have CO := Lib.hid co
            have HO3 := Lib.hid ho3
            have HCU3 := Lib.hid (HCU2.out.grown (drew_grew hd3 none) (by simp))
            have hb3 := hb2.trans (hd3.below _)
            have hz3 := hb3.size
            have HAS3 : Has w3 wr.heap.size := (HAS.of_grew hgr2).of_grew (drew_grew hd3 none)
            clear co ho3 HO2 HCU2 hd3 CQ hrun' n1 hb2
            go_wp2_with fail
            refine (CO.out).mono ?_
            rintro e w4 ⟨rfl, _, hgr4⟩
            have hlow : Hid (∀ j, (Value.slice A2 M c2).ownBlock = some j → (wr.alloc (.cells #[.int .i64 0, .int .i64 (M : Int)] 74)).heap.size ≤ j) := fun j hj => (HO3.out.lt_size j hj).1
            have k1 := grown_cell hgr4 HAS3 (fun e => by have := hlow.out _ e.symm; have : wr.heap.size < (wr.alloc (.cells #[.int .i64 0, .int .i64 (M : Int)] 74)).heap.size := HAS; omega) m1
            have HCU4 := Lib.hid (HCU3.out.grown hgr4 (fun j hj => .inr (Nat.le_trans HEE.out (hlow.out j hj))))
            have hb4 : Below w.heap.size w w4 := hb3.grown hgr4 hz3 (fun j hj => Nat.le_trans hbW.size (hlow.out j hj))
            clear hgr4 hlow HCU3 CO HO3 m1 hgr2
            have cd := done_any HCU4.out
            have cl := left_any HCU4.out hfit (by omega)
            rw [Int.natCast_add] at cd cl
            have CD := Lib.hid cd; have CL := Lib.hid cl
            clear cd cl
            go_wp2_with fail
            refine (CD.out).mono ?_
            rintro e w5 ⟨rfl, rfl⟩
            go_wp2_with fail
            refine (CL.out).mono ?_
            rintro e w6 ⟨rfl, hd6⟩
            have HF := Lib.hid (HCU4.out.grown (drew_grew hd6 none) (by simp))
            have hbF := hb4.trans (hd6.below _)
            clear CD CL
            go_wp2
            go_roundw
            case rel => exact ⟨k + 1, (t + M), by omega, hfit, by go_num, rfl, hbF, HF⟩
            case measure => simp [intOf]; omega
          · have hle : decide ((l.length : Int) - (t : Int) < (M : Int)) = true := by simp; omega
            have ct := Lib.hid (take_size (N := M) hcuW ht (by omega) (by omega))
            clear hcuW
            go_wp2_with fail
            refine (ct.out).mono ?_
            rintro e w2 ⟨rfl, hd2⟩
            have n1 := grown_cell (drew_grew hd2 none) HAS (by simp) d1
            have hb2 := hbW.trans (hd2.below _)
            have HCU2 := Lib.hid (HCU.out.grown (drew_grew hd2 none) (by simp))
            have cq := told_any (x := 2) (y := 2) (Bs.nil w2 0) (Bs.nil _ 0)
            rw [show (decide (([] : List UInt8) = []) && ((2 : Int) == 2)) = true by decide] at cq
            have CQ := Lib.hid cq
            clear cq ct hd2 HCU d0 d1
            go_wp2_with fail
            refine (CQ.out).mono ?_
            rintro e w3 ⟨rfl, hd3⟩
            have HCU3 := Lib.hid (HCU2.out.grown (drew_grew hd3 none) (by simp))
            have hb3 := hb2.trans (hd3.below _)
            clear CQ HCU2 hd3 n1
            have cd := done_any HCU3.out
            have cl := left_any HCU3.out ht (by omega)
            have CD := Lib.hid cd; have CL := Lib.hid cl
            clear cd cl
            go_wp2_with fail
            refine (CD.out).mono ?_
            rintro e w5 ⟨rfl, rfl⟩
            go_wp2_with fail
            refine (CL.out).mono ?_
            rintro e w6 ⟨rfl, hd6⟩
            have HF := Lib.hid (HCU3.out.grown (drew_grew hd6 none) (by simp))
            have hbF := hb3.trans (hd6.below _)
            clear CD CL
            go_wp2
            go_roundw
            case rel => exact ⟨k + 1, t, by omega, ht, by go_num, rfl, hbF, HF⟩
            case measure => simp [intOf]; omega
      · have ho' : (o == 0) = false := by rw [beq_eq_false_iff_ne]; exact ho
        have cn := number_any (o := o) (m := m) hcuW ht (by omega)
        have cg := fun W (h : Below w.heap.size w W) => refget_all (o := o) (k := m) (a := (t : Int)) (HB.out.below h (Nat.le_refl _)) (by omega)
        have hK : numK o m l t = t ∧ ¬ (getR o m t l).2 = 0 ∨ ∃ M : Nat, m = M ∧ numK o m l t = t + M ∧ (getR o m t l).2 = 0 ∧ M ≤ 8 ∧ t + M ≤ l.length := by
          unfold numK
          by_cases h : (getR o m t l).2 = 0
          · have hr := getR_ok h
            exact .inr ⟨m.toNat, by omega, by rw [if_pos h], h, by omega, by omega⟩
          · exact .inl ⟨if_neg h, h⟩
        obtain ⟨⟨x, y⟩, hx⟩ : ∃ p, getR o m t l = p := ⟨_, rfl⟩
        obtain ⟨K, hKe⟩ : ∃ K, numK o m l t = K := ⟨_, rfl⟩
        rw [hx, hKe] at cn hK
        rw [hx] at cg
        simp only at cn cg hK
        have CN := Lib.hid cn; have CG := Lib.hid cg
        clear cn cg hx hKe hcuW ho hcur
        go_wp2_with fail
        refine (CN.out).mono ?_
        rintro e w2 ⟨rfl, hcu2, hgr2⟩
        have hb2 : Below w.heap.size w w2 := hbW.grown hgr2 hbW.size (fun k hk => by simp only [Option.some.injEq] at hk; omega)
        have n0 := grown_cell hgr2 HAS (by simp only [ne_eq, Option.some.injEq]; omega) d0
        have n1 := grown_cell hgr2 HAS (by simp only [ne_eq, Option.some.injEq]; omega) d1
        have HCU2 := Lib.hid hcu2
        have HG2 := Lib.hid (CG.out w2 hb2)
        clear hgr2 hcu2 CN CG d0 d1
        go_wp2_with fail
        refine (HG2.out).mono ?_
        rintro e w3 ⟨rfl, rfl⟩
        clear HG2
        have hxx : (x != x) = false := by simp
        have hyy : (y != y) = false := by simp
        rcases hK with ⟨rfl, hy⟩ | ⟨M, rfl, rfl, rfl, hM, htM⟩
        · have hy' : (y == 0) = false := by rw [beq_eq_false_iff_ne]; exact hy
          have cd := done_any HCU2.out
          have cl := left_any HCU2.out ht (by omega)
          have CD := Lib.hid cd; have CL := Lib.hid cl
          clear cd cl
          go_wp2_with fail
          refine (CD.out).mono ?_
          rintro e w5 ⟨rfl, rfl⟩
          go_wp2_with fail
          refine (CL.out).mono ?_
          rintro e w6 ⟨rfl, hd6⟩
          have HF := Lib.hid (HCU2.out.grown (drew_grew hd6 none) (by simp))
          have hbF := hb2.trans (hd6.below _)
          clear CD CL
          go_wp2
          go_roundw
          case rel => exact ⟨k + 1, K, by omega, ht, by go_num, rfl, hbF, HF⟩
          case measure => simp [intOf]; omega
        · have cd := done_any HCU2.out
          have cl := left_any HCU2.out htM (by omega)
          rw [Int.natCast_add] at cd cl
          have CD := Lib.hid cd; have CL := Lib.hid cl
          clear cd cl
          go_wp2_with fail
          refine (CD.out).mono ?_
          rintro e w5 ⟨rfl, rfl⟩
          go_wp2_with fail
          refine (CL.out).mono ?_
          rintro e w6 ⟨rfl, hd6⟩
          have HF := Lib.hid (HCU2.out.grown (drew_grew hd6 none) (by simp))
          have hbF := hb2.trans (hd6.below _)
          clear CD CL
          go_wp2
          go_roundw
          case rel => exact ⟨k + 1, (t + M), by omega, htM, by go_num, rfl, hbF, HF⟩
          case measure => simp [intOf]; omega
    · go_wp2
      go_ret
      exact ⟨rfl, hbel⟩
end Go.Proofs.Ytpimklpkjinhiaa
