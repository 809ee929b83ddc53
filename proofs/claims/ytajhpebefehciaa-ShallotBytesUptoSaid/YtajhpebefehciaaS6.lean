/- ShallotBytes, walked. -/
import Derived.Test.YtajhpebefehciaaS5
import Derived.Test.YtajhpebefehciaaUnhexS
namespace Go.Proofs.Ytajhpebefehciaa
open Go.RowKit

theorem take_more {L : List UInt8} {p N : Nat} : L.take p ++ (L.drop p).take N = L.take (p + N) := by
  rw [List.take_add]
theorem own_ge {w : World} {B g : Nat} {v : Value} {l : List UInt8} (h : Own w B v l) (hg : g < B) : v.ownBlock ≠ some g := fun e => by have := (own_lt h e).1; omega
theorem intsKept {w w' : World} {B : Nat} {v : Value} {xs : List Int} {r : Option Nat} (h : OwnIs w B v xs) (hg : w.grownBy w' r) (hr : v.ownBlock = none ∨ v.ownBlock ≠ r) : OwnIs w' B v xs := ⟨World.ownsRow.kept h.1 hg hr, h.2⟩
theorem intsBlock {w : World} {B g : Nat} {v : Value} {xs : List Int} (h : OwnIs w B v xs) (hg : g < B) : v.ownBlock = none ∨ v.ownBlock ≠ some g := .inr (fun e => by have := (World.ownsRow.lt h.1 g e).1; omega)

set_option maxRecDepth 100000 in
set_option maxHeartbeats 4000000 in
theorem bytes_walk {ls : List (List UInt8)} {xs : List Int} {u v : Value} {w : World} (hr : Rs w w.heap.size u ls) (hx : Is w w.heap.size v xs) (hf : ls.flatten.length ≤ 1048576) (hxl : xs.length ≤ 9223372036854775807) :
    Calls Try.prog 9 #[u, v] w fun e w' => e = .returned (.bool true) ∧ Below w.heap.size w w' := by
  obtain ⟨L, hL⟩ : ∃ L, L = ls.flatten := ⟨_, rfl⟩
  rw [← hL] at hf
  obtain ⟨AR, cR, hRe, hr1, hr2, hr3⟩ := hr
  have HR : Hid (Rs w w.heap.size u ls) := Lib.hid ⟨AR, cR, hRe, hr1, hr2, hr3⟩
  subst hRe
  obtain ⟨AX, cX, rfl⟩ := hx.shape
  have HX := Lib.hid hx; have HL := Lib.hid hL
  obtain ⟨SL, hSL⟩ : ∃ SL, SL = (sumL L).map vb := ⟨_, rfl⟩
  have hS : arr32 (sumL L) = .agg SL.toArray := by rw [hSL]; rfl
  have hSl : SL.length = 32 := by rw [hSL, List.length_map, sumL_len]
  have EQS : ∀ W, (Op.equalIn 10000 40 (.agg SL.toArray) (.agg SL.toArray)).run Try.prog W = .ok true W := fun W => by rw [← hS]; exact eq_arr32 _ (sumL_len _) W
  have HS := Lib.hid hS
  have hone : Hid (SL.toArray.all (·.oneCell') = true) := Lib.hid (all_oneCell_toArray (by rw [hSL]; exact vb_one _))
  have hi32 : Hid ((Try.prog.info? 40).map (·.size) = some SL.toArray.size) := Lib.hid (by rw [List.size_toArray, hSl]; kernel_rfl)
  have I32 : Hid ((Try.prog.info? 40).map (·.size) = some SL.length) := Lib.hid (by rw [hSl]; kernel_rfl)
  have ho32 : Hid ((#[.int .u8 0, .int .u8 0, .int .u8 0, .int .u8 0, .int .u8 0, .int .u8 0, .int .u8 0, .int .u8 0, .int .u8 0, .int .u8 0, .int .u8 0, .int .u8 0, .int .u8 0, .int .u8 0, .int .u8 0, .int .u8 0, .int .u8 0, .int .u8 0, .int .u8 0, .int .u8 0, .int .u8 0, .int .u8 0, .int .u8 0, .int .u8 0, .int .u8 0, .int .u8 0, .int .u8 0, .int .u8 0, .int .u8 0, .int .u8 0, .int .u8 0, .int .u8 0] : Array Value).size = SL.toArray.size) := Lib.hid (by show 32 = _; rw [List.size_toArray, hSl])
  obtain ⟨SA, hSA⟩ : ∃ SA, SA = (sumL [97, 98, 99]).map vb := ⟨_, rfl⟩
  have hSAl : SA.length = 32 := by rw [hSA, List.length_map, sumL_len]
  have HSA : Hid (arr32 (sumL [97, 98, 99]) = .agg SA.toArray) := Lib.hid (by rw [hSA]; rfl)
  have honeA : Hid (SA.toArray.all (·.oneCell') = true) := Lib.hid (all_oneCell_toArray (by rw [hSA]; exact vb_one _))
  have hi32A : Hid ((Try.prog.info? 40).map (·.size) = some SA.toArray.size) := Lib.hid (by rw [List.size_toArray, hSAl]; kernel_rfl)
  have ho32A : Hid ((#[.int .u8 0, .int .u8 0, .int .u8 0, .int .u8 0, .int .u8 0, .int .u8 0, .int .u8 0, .int .u8 0, .int .u8 0, .int .u8 0, .int .u8 0, .int .u8 0, .int .u8 0, .int .u8 0, .int .u8 0, .int .u8 0, .int .u8 0, .int .u8 0, .int .u8 0, .int .u8 0, .int .u8 0, .int .u8 0, .int .u8 0, .int .u8 0, .int .u8 0, .int .u8 0, .int .u8 0, .int .u8 0, .int .u8 0, .int .u8 0, .int .u8 0, .int .u8 0] : Array Value).size = SA.toArray.size) := Lib.hid (by show 32 = _; rw [List.size_toArray, hSAl])
  have atA : ∀ j (x : UInt8), j < 32 → (sumL [97, 98, 99]).getD j 0 = x → SA.toArray[j]? = some (.int .u8 (x.toNat : Int)) := by
    intro j x hj hx
    have hl : j < (sumL [97, 98, 99]).length := by rw [sumL_len]; exact hj
    rw [hSA, ← hx]
    simp [vb, hl]
  have A0 := Lib.hid (atA 0 _ (by omega) sum_abc.1)
  have A31 := Lib.hid (atA 31 _ (by omega) sum_abc.2.2.2)
  have hb0 : Below w.heap.size w (w.alloc (.cells #[.int .u8 97, .int .u8 98, .int .u8 99] 5 (3, 4))) := (Below.refl _ _).alloc (Nat.le_refl _) _
  have ba : Bs (w.alloc (.cells #[.int .u8 97, .int .u8 98, .int .u8 99] 5 (3, 4))) (w.alloc (.cells #[.int .u8 97, .int .u8 98, .int .u8 99] 5 (3, 4))).heap.size (.slice (some ⟨w.heap.size, 0, none⟩) 3 3) [97, 98, 99] :=
    (Bs.litF w [97, 98, 99] (3, 4) (by unfold maxLen; simp)).more (by simp)
  obtain ⟨w0, hw0⟩ : ∃ w0, w0 = w.alloc (.cells #[.int .u8 97, .int .u8 98, .int .u8 99] 5 (3, 4)) := ⟨_, rfl⟩
  have kc : (convert 22 22 (.slice (some ⟨w.heap.size, 0, none⟩) 3 3)).run Try.prog (w.alloc (.cells #[.int .u8 97, .int .u8 98, .int .u8 99] 5)) = .ok (.slice (some ⟨w.heap.size, 0, none⟩) 3 3) w0 := by rw [hw0]; exact Lib.run_convert_bytes_const (P := Try.prog) w 22 5 #[.int .u8 97, .int .u8 98, .int .u8 99] 3 3 Try.underlying22 Try.underlying5
  rw [← hw0] at hb0 ba
  have hra := Rs.lit w0 [.slice (some ⟨w.heap.size, 0, none⟩) 3 3] [[97, 98, 99]] rfl (by unfold maxLen; simp) (by
    intro j h h'
    match j, h, h' with
    | 0, _, _ => exact ba)
  have CA := shaSum_any hra (by simp) (by simp)
  rw [show [[97, 98, 99]].flatten = ([97, 98, 99] : List UInt8) from rfl, HSA.out] at CA
  have CA : Hid (Calls Try.prog 29 #[.slice (some ⟨w0.heap.size, 0, none⟩) 1 1] (w0.alloc (.cells #[.slice (some ⟨w.heap.size, 0, none⟩) 3 3] 22)) fun e w' => e = .returned (.agg SA.toArray) ∧ Below w0.heap.size w0 w') := Lib.hid (CA.mono fun e w' ⟨h1, h2⟩ => ⟨h1, ((Below.refl _ _).alloc (Nat.le_refl _) _).trans (h2.mono (by simp))⟩)
  have HB0 := Lib.hid hb0
  clear hw0 hb0 ba hra atA hSAl hSl hSA hSL hL hr3 hx hS
  go_enter Try.func9, Try.ntmps9
  go_wp2_with fail
  with_reducible refine (CA.out).mono ?_
  rintro e1 w1 ⟨rfl, hb1⟩
  have hb01 := HB0.out.trans (hb1.mono HB0.out.size)
  have HB2 := Lib.hid (hb01.alloc hb01.size (.cells SA.toArray 40))
  have hz32 : Hid ((w1.alloc (.cells #[.int .u8 0, .int .u8 0, .int .u8 0, .int .u8 0, .int .u8 0, .int .u8 0, .int .u8 0, .int .u8 0, .int .u8 0, .int .u8 0, .int .u8 0, .int .u8 0, .int .u8 0, .int .u8 0, .int .u8 0, .int .u8 0, .int .u8 0, .int .u8 0, .int .u8 0, .int .u8 0, .int .u8 0, .int .u8 0, .int .u8 0, .int .u8 0, .int .u8 0, .int .u8 0, .int .u8 0, .int .u8 0, .int .u8 0, .int .u8 0, .int .u8 0, .int .u8 0] 40)).heap[w1.heap.size]? = some (.cells #[.int .u8 0, .int .u8 0, .int .u8 0, .int .u8 0, .int .u8 0, .int .u8 0, .int .u8 0, .int .u8 0, .int .u8 0, .int .u8 0, .int .u8 0, .int .u8 0, .int .u8 0, .int .u8 0, .int .u8 0, .int .u8 0, .int .u8 0, .int .u8 0, .int .u8 0, .int .u8 0, .int .u8 0, .int .u8 0, .int .u8 0, .int .u8 0, .int .u8 0, .int .u8 0, .int .u8 0, .int .u8 0, .int .u8 0, .int .u8 0, .int .u8 0, .int .u8 0] 40 (0, 0))) := Lib.hid (heap_alloc_new w1 _)
  have c0 : (w1.alloc (.cells SA.toArray 40)).cell? ⟨w1.heap.size, 0, none⟩ = some (.int .u8 186) := by rw [cell_of_row _ _ 0 _ _ (0, 0) (heap_alloc_new w1 _)]; exact A0.out
  have c31 : (w1.alloc (.cells SA.toArray 40)).cell? ⟨w1.heap.size, 31, none⟩ = some (.int .u8 173) := by rw [cell_of_row _ _ 31 _ _ (0, 0) (heap_alloc_new w1 _)]; exact A31.out
  clear hb1 hb01 CA HB0 kc
  go_upto_region 2 with ((with_reducible refine wpList_store_row rfl 40 (.tmp 5) (.tmp 20) rfl w1.heap.size SA.toArray rfl rfl 40 _ hz32.out hi32A.out ho32A.out honeA.out ?_); rw [World.setRow_alloc_new])
  obtain ⟨o0, ho0⟩ : ∃ o0, o0 = w1.heap.size := ⟨_, rfl⟩
  rw [← ho0] at c0 c31 ⊢
  generalize w1.alloc (.cells SA.toArray 40) = w2 at HB2 c0 c31 ⊢
  clear ho0 hz32
  have hz2 := HB2.out.size
  have C3 := Lib.hid (join_any (HR.out.below HB2.out (Nat.le_refl _)) hz2 (by rw [← HL.out]; omega))
  go_wp2_with fail
  with_reducible refine (C3.out).mono ?_
  rintro e3 w3 ⟨v3, rfl, ho3, hb3⟩
  rw [← HL.out] at ho3
  obtain ⟨A3, c3, rfl⟩ := ho3.shape
  have hz3 := hb3.size
  have HB3 := Lib.hid (HB2.out.trans (hb3.mono hz2))
  have HA3 := Lib.hid ho3
  have hr4 := Rs.lit w3 [.slice A3 L.length c3] [L] rfl (by unfold maxLen; simp) (by
    intro j h h'
    match j, h, h' with
    | 0, _, _ => exact ho3.bs)
  have C4 := shaSum_any hr4 (by simp) (by simp; omega)
  rw [show [L].flatten = L by simp, HS.out] at C4
  have C4 : Hid (Calls Try.prog 29 #[.slice (some ⟨w3.heap.size, 0, none⟩) 1 1] (w3.alloc (.cells #[.slice A3 L.length c3] 22)) fun e w' => e = .returned (.agg SL.toArray) ∧ Below w3.heap.size w3 w') := Lib.hid (C4.mono fun e w' ⟨h1, h2⟩ => ⟨h1, ((Below.refl _ _).alloc (Nat.le_refl _) _).trans (h2.mono (by simp))⟩)
  clear ho3 hb3 hr4 C3 HB2 c0 c31
  go_wp2_with fail
  with_reducible refine (C4.out).mono ?_
  rintro e4 w4 ⟨rfl, hb4⟩
  have hal4 : Below w4.heap.size w4 (w4.alloc (.cells SL.toArray 40)) := (Below.refl _ _).alloc (Nat.le_refl _) _
  have hb5 := hb4.trans (hal4.mono hb4.size)
  have HB5 := Lib.hid (HB3.out.trans (hb5.mono HB3.out.size))
  have HA5 := Lib.hid (HA3.out.below hb5 (Nat.le_refl _))
  have R5 := Lib.hid (World.rangeAt_of_new w4 SL 40)
  have hz32 : Hid ((w4.alloc (.cells #[.int .u8 0, .int .u8 0, .int .u8 0, .int .u8 0, .int .u8 0, .int .u8 0, .int .u8 0, .int .u8 0, .int .u8 0, .int .u8 0, .int .u8 0, .int .u8 0, .int .u8 0, .int .u8 0, .int .u8 0, .int .u8 0, .int .u8 0, .int .u8 0, .int .u8 0, .int .u8 0, .int .u8 0, .int .u8 0, .int .u8 0, .int .u8 0, .int .u8 0, .int .u8 0, .int .u8 0, .int .u8 0, .int .u8 0, .int .u8 0, .int .u8 0, .int .u8 0] 40)).heap[w4.heap.size]? = some (.cells #[.int .u8 0, .int .u8 0, .int .u8 0, .int .u8 0, .int .u8 0, .int .u8 0, .int .u8 0, .int .u8 0, .int .u8 0, .int .u8 0, .int .u8 0, .int .u8 0, .int .u8 0, .int .u8 0, .int .u8 0, .int .u8 0, .int .u8 0, .int .u8 0, .int .u8 0, .int .u8 0, .int .u8 0, .int .u8 0, .int .u8 0, .int .u8 0, .int .u8 0, .int .u8 0, .int .u8 0, .int .u8 0, .int .u8 0, .int .u8 0, .int .u8 0, .int .u8 0] 40 (0, 0))) := Lib.hid (heap_alloc_new w4 _)
  have hs5 : w4.heap.size < (w4.alloc (.cells SL.toArray 40)).heap.size := by simp
  have hz4 := hb4.size
  clear hb4 hal4 hb5 C4 HB3 HA3
  go_upto_region 6 with ((with_reducible refine wpList_store_row rfl 40 (.tmp 7) (.tmp 33) rfl w4.heap.size SL.toArray rfl rfl 40 _ hz32.out hi32.out ho32.out hone.out ?_); rw [World.setRow_alloc_new])
  obtain ⟨o1, ho1⟩ : ∃ o1, o1 = w4.heap.size := ⟨_, rfl⟩
  rw [← ho1] at hs5 R5 ⊢
  generalize w4.alloc (.cells SL.toArray 40) = w5 at HB5 HA5 R5 hs5 ⊢
  have ho1w : w.heap.size ≤ o1 := by omega
  clear hz32 ho1
  have C5 := Lib.hid (hex_any HA5.out.bs (Nat.le_refl _) (by omega))
  go_wp2_with fail
  with_reducible refine (C5.out).mono ?_
  rintro e5 w5b ⟨rfl, hb5⟩
  obtain ⟨uE, uR⟩ := unhex_hex L
  have C6 := unhex_all (hexL L) (by rw [hexL_len]; omega) w5b
  rw [uE, uR] at C6
  have C6 := Lib.hid C6
  have hz5 := hb5.size
  have HB5b := Lib.hid (HB5.out.trans (hb5.mono HB5.out.size))
  have HA5b := Lib.hid (HA5.out.below hb5 (Nat.le_refl _))
  have R5b := Lib.hid (range_below R5.out hb5 hs5)
  clear hb5 uE uR C5 HB5 HA5 R5
  obtain ⟨hs, hhs⟩ : ∃ hs, hs = bstr (hexL L) := ⟨_, rfl⟩
  rw [← hhs] at C6 ⊢
  clear hhs
  go_wp2_with fail
  with_reducible refine (C6.out).mono ?_
  rintro e6 w6 ⟨v6, rfl, ho6, hb6⟩
  obtain ⟨A6, c6, rfl⟩ := ho6.shape
  have hz6 := hb6.size
  have HB6d := Lib.hid ((HB5b.out.trans (hb6.mono HB5b.out.size)).drew)
  have HA6d : Hid (Own w6.drew w2.heap.size (.slice A3 L.length c3) L) := Lib.hid ((HA5b.out.below hb6 (Nat.le_refl _)).drewN 1)
  have R6d := Lib.hid ((World.rangeAt_drew w6 o1 0 SL).2 (range_below R5b.out hb6 (by omega)))
  have b6 : Own w6.drew w5b.heap.size (.slice A6 L.length c6) L := ho6.drewN 1
  have C7 := Lib.hid (same_any b6.bs HA6d.out.bs)
  clear b6
  have C8 := shaSum_any (HR.out.below HB6d.out (Nat.le_refl _)) HB6d.out.size (by rw [← HL.out]; omega)
  rw [← HL.out, HS.out] at C8
  have C8 := Lib.hid C8
  have hl6 : o1 < w6.drew.heap.size := by rw [World.size_drew]; omega
  have u32 := Try.underlying40
  have i32 := I32.out
  have hw6 : w6.drew.heap.size = w6.heap.size := World.size_drew w6
  clear ho6 hb6 C6 HB5b HA5b R5b
  go_wp2_with fail
  refine wp_region_held_drew (S := fun w' => w'.rangeAt o1 0 SL) (by kernel_rfl) ?_ (fun hHeld => ?_)
  · exact R6d.out
  refine takeD (i := 0) (oi := _) (d := some 40) (v := ?_) rfl (by kernel_rfl) (by kernel_rfl) (by kernel_rfl) (by kernel_rfl) (fun _ _ _ h => h) (Or.inl ⟨by kernel_rfl, ?_⟩) (by assumption) ?_
  rotate_left
  focus (intro w' hSw; (try dsimp only at hSw); go_simp <;> with_reducible rfl)
  try simp only [Act.put, List.setIfInBounds_toArray, List.set_cons_zero, List.set_cons_succ]
  refine takeD (i := 1) (oi := _) (d := some 41) (v := ?_) rfl (by kernel_rfl) (by kernel_rfl) (by kernel_rfl) (by kernel_rfl) (fun _ _ _ h => h) (Or.inl ⟨by kernel_rfl, ?_⟩) (by assumption) ?_
  rotate_left
  focus (intro w' hSw; (try dsimp only at hSw); go_simp <;> with_reducible rfl)
  try simp only [Act.put, List.setIfInBounds_toArray, List.set_cons_zero, List.set_cons_succ]
  refine takeD (i := 2) (oi := _) (d := some 42) (v := ?_) rfl (by kernel_rfl) (by kernel_rfl) (by kernel_rfl) (by kernel_rfl) (fun _ _ _ h => h) (Or.inl ⟨by kernel_rfl, ?_⟩) (by assumption) ?_
  rotate_left
  focus (intro w' hSw; (try dsimp only at hSw); go_simp <;> with_reducible rfl)
  try simp only [Act.put, List.setIfInBounds_toArray, List.set_cons_zero, List.set_cons_succ]
  refine takeD (i := 3) (oi := _) (d := some 43) (v := ?_) rfl (by kernel_rfl) (by kernel_rfl) (by kernel_rfl) (by kernel_rfl) (fun _ _ _ h => h) (Or.inl ⟨by kernel_rfl, ?_⟩) (by assumption) ?_
  rotate_left
  focus (intro w' hSw; (try dsimp only at hSw); go_simp <;> with_reducible rfl)
  try simp only [Act.put, List.setIfInBounds_toArray, List.set_cons_zero, List.set_cons_succ]
  refine takeD (i := 4) (oi := _) (d := some 44) (v := ?_) rfl (by kernel_rfl) (by kernel_rfl) (by kernel_rfl) (by kernel_rfl) (fun _ _ _ h => h) (Or.inl ⟨by kernel_rfl, ?_⟩) (by assumption) ?_
  rotate_left
  focus (intro w' hSw; (try dsimp only at hSw); go_simp <;> with_reducible rfl)
  try simp only [Act.put, List.setIfInBounds_toArray, List.set_cons_zero, List.set_cons_succ]
  refine wpAnyH_ready (rs := [5]) (by kernel_rfl) (by simp) ?_
  refine AllReadyH.cons (o := _) rfl (fun K hK => ?_) AllReadyH.nil
  go_simp
  with_reducible refine (C7.out).mono ?_
  rintro e7 w7 ⟨rfl, rfl⟩
  refine hK.out _ _ ?_ (fun hHeld => ?_)
  · exact R6d.out
  clear hK K
  try simp only [Act.put, List.setIfInBounds_toArray, List.set_cons_zero, List.set_cons_succ]
  refine takeD (i := 6) (oi := _) (d := some 46) (v := ?_) rfl (by kernel_rfl) (by kernel_rfl) (by kernel_rfl) (by kernel_rfl) (fun _ _ _ h => h) (Or.inl ⟨by kernel_rfl, ?_⟩) (by assumption) ?_
  rotate_left
  focus (intro w' hSw; (try dsimp only at hSw); go_simp <;> with_reducible rfl)
  try simp only [Act.put, List.setIfInBounds_toArray, List.set_cons_zero, List.set_cons_succ]
  refine takeD (i := 7) (oi := _) (d := some 47) (v := ?_) rfl (by kernel_rfl) (by kernel_rfl) (by kernel_rfl) (by kernel_rfl) (fun _ _ _ h => h) (Or.inl ⟨by kernel_rfl, ?_⟩) (by assumption) ?_
  rotate_left
  focus (intro w' hSw; (try dsimp only at hSw); go_simp <;> with_reducible rfl)
  try simp only [Act.put, List.setIfInBounds_toArray, List.set_cons_zero, List.set_cons_succ]
  refine takeD (i := 8) (oi := _) (d := some 48) (v := ?_) rfl (by kernel_rfl) (by kernel_rfl) (by kernel_rfl) (by kernel_rfl) (fun _ _ _ h => h) (Or.inl ⟨by kernel_rfl, ?_⟩) (by assumption) ?_
  rotate_left
  focus (intro w' hSw; (try dsimp only at hSw); go_simp <;> with_reducible rfl)
  try simp only [Act.put, List.setIfInBounds_toArray, List.set_cons_zero, List.set_cons_succ]
  refine takeD (i := 9) (oi := _) (d := some 49) (v := ?_) rfl (by kernel_rfl) (by kernel_rfl) (by kernel_rfl) (by kernel_rfl) (fun _ _ _ h => h) (Or.inl ⟨by kernel_rfl, ?_⟩) (by assumption) ?_
  rotate_left
  focus (intro w' hSw; (try dsimp only at hSw); go_simp <;> with_reducible rfl)
  try simp only [Act.put, List.setIfInBounds_toArray, List.set_cons_zero, List.set_cons_succ]
  refine takeD (i := 11) (oi := _) (d := some 51) (v := _) rfl (by kernel_rfl) (by kernel_rfl) (by kernel_rfl) (by kernel_rfl) (fun _ _ _ h => h) (yieldsIf_load_mid (by kernel_rfl) _ _ rfl _ _ rfl SL _ (fun w' h => h) u32 rfl i32) (by assumption) ?_
  try simp only [Act.put, List.setIfInBounds_toArray, List.set_cons_zero, List.set_cons_succ]
  refine wpAnyH_ready (rs := [10]) (by kernel_rfl) (by simp) ?_
  refine AllReadyH.cons (o := _) rfl (fun K hK => ?_) AllReadyH.nil
  go_simp
  with_reducible refine (C8.out).mono ?_
  rintro e8 w8 ⟨rfl, hb8⟩
  have HB8 := Lib.hid (HB6d.out.trans (hb8.mono HB6d.out.size))
  have HA8 := Lib.hid (HA6d.out.below hb8 (Nat.le_refl _))
  have R8 := Lib.hid (range_below R6d.out hb8 hl6)
  have hz8 := hb8.size
  clear hb8
  refine hK.out _ _ ?_ (fun hHeld => ?_)
  · exact R8.out
  clear hK K
  try simp only [Act.put, List.setIfInBounds_toArray, List.set_cons_zero, List.set_cons_succ]
  refine takeD (i := 12) (oi := _) (d := some 52) (v := ?_) rfl (by kernel_rfl) (by kernel_rfl) (by kernel_rfl) (by kernel_rfl) (fun _ _ _ h => h) (Or.inl ⟨by kernel_rfl, ?_⟩) (by assumption) ?_
  rotate_left
  focus (intro w' hSw; (try dsimp only at hSw); go_simp <;> with_reducible rfl)
  try simp only [Act.put, List.setIfInBounds_toArray, List.set_cons_zero, List.set_cons_succ]
  refine takeD (i := 13) (oi := _) (d := some 53) (v := ?_) rfl (by kernel_rfl) (by kernel_rfl) (by kernel_rfl) (by kernel_rfl) (fun _ _ _ h => h) (Or.inl ⟨by kernel_rfl, ?_⟩) (by assumption) ?_
  rotate_left
  focus (intro w' hSw; (try dsimp only at hSw); go_simp <;> with_reducible rfl)
  try simp only [Act.put, List.setIfInBounds_toArray, List.set_cons_zero, List.set_cons_succ]
  refine wpAnyH_done (by kernel_rfl) ?_ _
  clear R6d HB6d HA6d C7 C8 u32 i32 hHeld
  have C9 := Lib.hid (newcursor_any HA8.out.bs (Nat.le_refl _) (by omega))
  go_wp2_with fail
  with_reducible refine (C9.out).mono ?_
  rintro e9 w9 ⟨g1, rfl, hc9, hb9⟩
  have hz9 := hb9.size
  obtain ⟨E9, hE9⟩ : ∃ E9, E9 = w9.heap.size := ⟨_, rfl⟩
  rw [← hE9] at hc9
  obtain ⟨hg1a, hg1b⟩ : w8.heap.size ≤ g1 ∧ g1 < E9 := by obtain ⟨_, _, h1, h2, _⟩ := hc9; exact ⟨h1, h2⟩
  have hE9b : E9 ≤ w9.heap.size := by rw [hE9]; exact Nat.le_refl _
  have HC9 := Lib.hid hc9
  have HB9 := Lib.hid (HB8.out.trans (hb9.mono HB8.out.size))
  have R9 := Lib.hid (range_below R8.out hb9 (by omega))
  have C10 := Lib.hid (new_any (Rs.nil w9 w9.heap.size) (by simp))
  have ho1g : o1 < g1 := by omega
  clear hc9 hb9 hE9 C9 HB8 R8 HA8
  go_wp2_with fail
  with_reducible refine (C10.out).mono ?_
  rintro e10 w10 ⟨rfl, hh10, hb10⟩
  have hz10 := hb10.size
  obtain ⟨g2, hg2⟩ : ∃ g2, g2 = w9.heap.size := ⟨_, rfl⟩
  rw [← hg2] at hh10 ⊢
  have hg12 : g1 < g2 := by omega
  have hE2 : E9 ≤ g2 := by omega
  have hg2l : g2 < w10.heap.size := hh10.lt
  have HC10 := Lib.hid (HC9.out.grown (grown_of_below hb10 none) (by simp))
  have HB10 := Lib.hid (HB9.out.trans (hb10.mono HB9.out.size))
  have R10 := Lib.hid (range_below R9.out hb10 (by omega))
  have HH10 := Lib.hid hh10
  have C11 := Lib.hid (few_any (HX.out.below HB10.out (Nat.le_refl _)) HB10.out.size hxl)
  clear hh10 hb10 hg2 C10 HC9 HB9 R9
  go_wp2_with fail
  with_reducible refine (C11.out).mono ?_
  rintro e11 w11 ⟨v11, rfl, ho11, hb11⟩
  obtain ⟨ps, hps⟩ : ∃ ps, ps = xs.take 40 := ⟨_, rfl⟩
  rw [← hps] at ho11
  have hpsl : ps.length ≤ 40 := by rw [hps, List.length_take]; omega
  obtain ⟨A11, c11, rfl⟩ := ho11.shape
  have hz11 := hb11.size
  have HC11 := Lib.hid (HC10.out.grown (grown_of_below hb11 none) (by simp))
  have HB11 := Lib.hid (HB10.out.trans (hb11.mono HB10.out.size))
  have R11 := Lib.hid (range_below R10.out hb11 (by omega))
  have HH11 : Hid (Hashed w11 g2 38 [] (L.take 0)) := Lib.hid (HH10.out.below hb11 hg2l)
  have HP11 := Lib.hid ho11
  obtain ⟨n, hn⟩ : ∃ n, n = ps.length := ⟨_, rfl⟩
  rw [← hn] at hpsl ⊢
  have HN := Lib.hid hn
  have hz11w : w10.heap.size ≤ w11.heap.size := hz11
  clear ho11 hb11 hps hn C11 HC10 HB10 R10 HH10
  go_wp2_with fail
  go_loopw [60, 13, 14, 15] (fun i _ _ _ wr => ∃ k p : Nat, k ≤ n ∧ p ≤ L.length ∧ i = .int .i64 k ∧ Hid (Cur wr w8.heap.size E9 g1 75 [] L p) ∧ Hid (Hashed wr g2 38 [] (L.take p)) ∧ Hid (OwnIs wr w10.heap.size (.slice A11 n c11) ps) ∧ Hid (wr.rangeAt o1 0 SL) ∧ Hid (Below w.heap.size w wr) ∧ Hid (w11.heap.size ≤ wr.heap.size)) (fun i _ _ _ _ => n - (intOf i).toNat)
  case atStart => exact ⟨0, 0, Nat.zero_le _, Nat.zero_le _, rfl, HC11, HH11, by rw [HN.out]; exact HP11, R11, HB11, Lib.hid (Nat.le_refl _)⟩
  case round =>
    obtain ⟨k, p, hk, hp, rfl, hc, hh, hi, hrr, hbe, hsz⟩ := hrel
    have hzr := hsz.out
    by_cases hlt : k < n
    · obtain ⟨A', c', hv, _, _, h3⟩ := hi.out.is
      simp only [Value.slice.injEq] at hv
      obtain ⟨rfl, hq, rfl⟩ := hv
      clear hq
      obtain ⟨b, off, rfl, hbB, hcell⟩ := h3 (by rw [← HN.out]; omega)
      obtain ⟨z, hz⟩ : ∃ z, z = ps[k]'(by rw [← HN.out]; exact hlt) := ⟨_, rfl⟩
      obtain ⟨hck, hwf⟩ := hcell k (by rw [← HN.out]; exact hlt)
      rw [← hz] at hck hwf
      have hzb := i64_bounds hwf
      have hki : (k : Int) < (n : Int) := by omega
      clear h3 hcell hz hwf
      rcases Int.lt_or_le z 0 with hneg | hnn
      · have d1 : decide (z < 0) = true := decide_eq_true hneg
        have d2 : decide (0 ≤ z) = false := decide_eq_false (by omega)
        have d3 : ((0 : Int) == z) = false := by rw [beq_eq_false_iff_ne]; omega
        have C12 := Lib.hid ((take_neg (w := wr) (g := g1) hneg).mono (fun _ _ h => (⟨h.1, h.2.symm⟩ : _ ∧ wr = _)))
        have CW := Lib.hid (write_one hh.out (Bs.nil wr wr.heap.size) (Nat.le_refl _) (fun h => absurd h (by simp)) (by simp; omega))
        go_wp2_with fail
        with_reducible refine (C12.out).mono ?_
        rintro e12 w12 ⟨rfl, rfl⟩
        go_wp2_with fail
        with_reducible refine (CW.out).mono ?_
        rintro e13 w13 ⟨rfl, hh13, hg13⟩
        have hz13 := hg13.size
        rw [List.append_nil] at hh13
        have r1 := Lib.hid (hc.out.grown hg13 (fun j hj => by simp only [Option.some.injEq] at hj; omega))
        have r2 := Lib.hid hh13
        have r3 := Lib.hid (intsKept hi.out hg13 (intsBlock hi.out hg2l))
        have r4 := Lib.hid (range_grown hrr.out hg13 (by omega))
        have r5 := Lib.hid (hbe.out.grown hg13 hbe.out.size (fun j hj => by simp only [Option.some.injEq] at hj; omega))
        clear hg13 hh13 C12 CW
        go_wp2
        go_roundw
        case rel => exact ⟨k + 1, p, by omega, hp, by go_num, r1, r2, r3, r4, r5, Lib.hid (by omega)⟩
        case measure => simp [intOf]; omega
      · obtain ⟨N, rfl⟩ := Int.eq_ofNat_of_zero_le hnn
        have d1 : decide ((N : Int) < 0) = false := decide_eq_false (by omega)
        have d2 : decide (0 ≤ (N : Int)) = true := decide_eq_true hnn
        by_cases hN : p + N ≤ L.length
        · have C12 := Lib.hid (take_ok hc.out (by omega) hN)
          obtain ⟨P, hP⟩ : ∃ P, P = (L.drop p).take N := ⟨_, rfl⟩
          have hPl : P.length = N := by rw [hP, List.length_take, List.length_drop]; omega
          rw [← hP] at C12
          have HPN : Hid (L.take p ++ P = L.take (p + N)) := Lib.hid (by rw [hP]; exact take_more)
          have HPL := Lib.hid hPl
          have hPb : P.length ≤ 1048576 := by omega
          clear hP hPl
          go_wp2_with fail
          with_reducible refine (C12.out).mono ?_
          rintro e12 w12 ⟨v12, rfl, ho12, hc12, hg12⟩
          obtain ⟨A12, c12, rfl⟩ := ho12.shape
          have hz12 := hg12.size
          have s1 := Lib.hid hc12
          have s2 := hh.out.grown hg12 (fun e => by simp only [Option.some.injEq] at e; omega)
          have s3 := Lib.hid (intsKept hi.out hg12 (intsBlock hi.out (by omega)))
          have s4 := Lib.hid (range_grown hrr.out hg12 (by omega))
          have s5 := Lib.hid (hbe.out.grown hg12 hbe.out.size (fun j hj => by simp only [Option.some.injEq] at hj; omega))
          have CW := write_one s2 ho12.bs (Nat.le_refl _) (fun _ => own_ge ho12 (by omega)) (by rw [List.length_take]; omega)
          rw [HPN.out] at CW
          have CW := Lib.hid CW
          have d4 : (((P.length : Nat) : Int) == (N : Int)) = true := by rw [HPL.out]; simp
          clear hc12 hg12 ho12 s2 C12 hc hh hi hrr hbe
          go_wp2_with fail
          with_reducible refine (CW.out).mono ?_
          rintro e13 w13 ⟨rfl, hh13, hg13⟩
          have hz13 := hg13.size
          have r1 := Lib.hid (s1.out.grown hg13 (fun j hj => by simp only [Option.some.injEq] at hj; omega))
          have r2 := Lib.hid hh13
          have r3 := Lib.hid (intsKept s3.out hg13 (intsBlock s3.out hg2l))
          have r4 := Lib.hid (range_grown s4.out hg13 (by omega))
          have r5 := Lib.hid (s5.out.grown hg13 s5.out.size (fun j hj => by simp only [Option.some.injEq] at hj; omega))
          clear hg13 hh13 CW s1 s3 s4 s5
          go_wp2
          go_roundw
          case rel => exact ⟨k + 1, p + N, by omega, hN, by go_num, r1, r2, r3, r4, r5, Lib.hid (by omega)⟩
          case measure => simp [intOf]; omega
        · have d3 : ((0 : Int) == (N : Int)) = false := by rw [beq_eq_false_iff_ne]; omega
          have C12 := Lib.hid (take_size (N := N) hc.out hp (by omega) (by omega))
          go_wp2_with fail
          with_reducible refine (C12.out).mono ?_
          rintro e12 w12 ⟨rfl, m, rfl⟩
          have hb12 : Below wr.heap.size wr (wr.drewN m) := below_drewN (Below.refl _ _) m
          have s1 := hc.out.grown (grown_of_below hb12 none) (by simp)
          have s2 := hh.out.below hb12 hh.out.lt
          have s3 := hi.out.below hb12 (Nat.le_refl _)
          have s4 := range_below hrr.out hb12 (by omega)
          have s5 := hbe.out.trans (hb12.mono hbe.out.size)
          have S1 := Lib.hid s1; have S3 := Lib.hid s3; have S4 := Lib.hid s4; have S5 := Lib.hid s5
          have CW := Lib.hid (write_one s2 (Bs.nil (wr.drewN m) (wr.drewN m).heap.size) (Nat.le_refl _) (fun h => absurd h (by simp)) (by simp; omega))
          have hz12 := hb12.size
          clear hb12 s1 s2 s3 s4 s5 C12 hc hh hi hrr hbe
          generalize wr.drewN m = w12 at S1 S3 S4 S5 CW hz12 ⊢
          go_wp2_with fail
          with_reducible refine (CW.out).mono ?_
          rintro e13 w13 ⟨rfl, hh13, hg13⟩
          have hz13 := hg13.size
          rw [List.append_nil] at hh13
          have r1 := Lib.hid (S1.out.grown hg13 (fun j hj => by simp only [Option.some.injEq] at hj; omega))
          have r2 := Lib.hid hh13
          have r3 := Lib.hid (intsKept S3.out hg13 (intsBlock S3.out hg2l))
          have r4 := Lib.hid (range_grown S4.out hg13 (by omega))
          have r5 := Lib.hid (S5.out.grown hg13 S5.out.size (fun j hj => by simp only [Option.some.injEq] at hj; omega))
          clear hg13 hh13 CW S1 S3 S4 S5
          go_wp2
          go_roundw
          case rel => exact ⟨k + 1, p, by omega, hp, by go_num, r1, r2, r3, r4, r5, Lib.hid (by omega)⟩
          case measure => simp [intOf]; omega
    · obtain rfl : k = n := by omega
      have HC := hc; have HH := hh; have HRR := hrr; have HBE := hbe
      obtain ⟨N, hN⟩ : ∃ N, L.length = p + N := ⟨L.length - p, by omega⟩
      have hNe : (L.length : Int) - (p : Int) = (N : Int) := by omega
      have C15 := left_any hc.out hp (by omega)
      rw [hNe] at C15
      have C15 := Lib.hid C15
      have HNN := Lib.hid hN
      have HTL0 : L.take p ++ (L.drop p).take N = L := by
        rw [take_more, ← hN, List.take_length]
      clear hc hh hrr hbe hi hN hNe
      go_wp2_with fail
      with_reducible refine (C15.out).mono ?_
      rintro e15 w15 ⟨rfl, m15, rfl⟩
      have hb15 : Below wr.heap.size wr (wr.drewN m15) := below_drewN (Below.refl _ _) m15
      have C16 := take_ok (N := N) (HC.out.grown (grown_of_below hb15 none) (by simp)) (by omega) (by rw [HNN.out]; exact Nat.le_refl _)
      obtain ⟨P, hP⟩ : ∃ P, P = (L.drop p).take N := ⟨_, rfl⟩
      have hPl : P.length ≤ 1048576 := by rw [hP, List.length_take, List.length_drop]; omega
      rw [← hP] at C16 HTL0
      rw [← HNN.out] at C16
      have HTL := Lib.hid HTL0
      have C16 := Lib.hid C16
      have HH15 := Lib.hid (HH.out.below hb15 HH.out.lt)
      have R15 := Lib.hid (range_below HRR.out hb15 (by omega))
      have HB15 := Lib.hid (HBE.out.trans (hb15.mono HBE.out.size))
      have hz15 := hb15.size
      clear hb15 hP C15 HC HH HRR HBE HTL0
      generalize wr.drewN m15 = w15 at C16 HH15 R15 HB15 hz15 ⊢
      go_wp2_with fail
      with_reducible refine (C16.out).mono ?_
      rintro e16 w16 ⟨v16, rfl, ho16, hc16, hg16⟩
      obtain ⟨A16, c16, rfl⟩ := ho16.shape
      have hz16 := hg16.size
      have HH16 := Lib.hid (HH15.out.grown hg16 (fun e => by simp only [Option.some.injEq] at e; omega))
      have R16 := Lib.hid (range_grown R15.out hg16 (by omega))
      have HB16 := Lib.hid (HB15.out.grown hg16 HB15.out.size (fun j hj => by simp only [Option.some.injEq] at hj; omega))
      have C17 := left_any hc16 (Nat.le_refl _) (by omega)
      rw [Int.sub_self] at C17
      have C17 := Lib.hid C17
      have HC16 := Lib.hid hc16
      have HO16 := Lib.hid ho16
      have hlg : ∀ j, (Value.slice A16 P.length c16).ownBlock = some j → w15.heap.size ≤ j := fun j hj => (own_lt ho16 hj).1
      have HLG := Lib.hid hlg
      clear ho16 hc16 hg16 hlg C16 HH15 R15 HB15
      go_wp2_with fail
      with_reducible refine (C17.out).mono ?_
      rintro e17 w17 ⟨rfl, m17, rfl⟩
      have hb17 : Below w16.heap.size w16 (w16.drewN m17) := below_drewN (Below.refl _ _) m17
      have C18 := Lib.hid ((done_any (HC16.out.grown (grown_of_below hb17 none) (by simp))).mono (fun _ _ h => (⟨h.1, h.2.symm⟩ : _ ∧ w16.drewN m17 = _)))
      have HH17 := Lib.hid (HH16.out.below hb17 HH16.out.lt)
      have R17 := Lib.hid (range_below R16.out hb17 (by omega))
      have HB17 := Lib.hid (HB16.out.trans (hb17.mono HB16.out.size))
      have HO17 := Lib.hid (HO16.out.below hb17 (Nat.le_refl _))
      have hz17 := hb17.size
      clear hb17 C17 HC16 HH16 R16 HB16 HO16
      generalize w16.drewN m17 = w17 at C18 HH17 R17 HB17 HO17 hz17 ⊢
      go_wp2_with fail
      with_reducible refine (C18.out).mono ?_
      rintro e18 w18 ⟨rfl, rfl⟩
      have HB20d := Lib.hid HB17.out.drew
      have R20d := Lib.hid ((World.rangeAt_drew w17 o1 0 SL).2 R17.out)
      have R20b := Lib.hid (range_below R20d.out ((Below.refl w17.drew.heap.size w17.drew).alloc (Nat.le_refl _) (.cells #[.slice A16 P.length c16] 22)) (by rw [World.size_drew]; omega))
      have hh20 : Hashed w17.drew g2 38 [] (L.take p) := HH17.out.below ((Below.refl w17.heap.size w17).drew) HH17.out.lt
      have ho20 : Own w17.drew w15.heap.size (.slice A16 P.length c16) P := HO17.out.drewN 1
      have C21 : Hid (Calls Try.prog 24 #[.pointer (some ⟨g2, 0, none⟩), .slice (some ⟨w17.heap.size, 0, none⟩) 1 1] (w17.alloc (.cells #[.slice A16 P.length c16] 22)).drew fun e w' => e = .returned (.pointer (some ⟨g2, 0, none⟩)) ∧ Hashed w' g2 38 [] (L.take p ++ P) ∧ w17.drew.grownBy w' (some g2)) := Lib.hid (write_one hh20 ho20.bs (Nat.le_refl _) (fun _ e => by have := HLG.out _ e; omega) (by rw [List.length_take]; omega))
      have hw17 : w17.drew.heap.size = w17.heap.size := World.size_drew w17
      have u32 := Try.underlying40
      have i32 := I32.out
      clear hh20 ho20 C18 HH17 R17 HB17 HO17 HLG
      go_wp2_with fail
      refine wp_region_held_drew (S := fun w' => w'.rangeAt o1 0 SL) (by kernel_rfl) ?_ (fun hHeld => ?_)
      · exact R20d.out
      refine takeD (i := 0) (oi := _) (d := some 118) (v := ?_) rfl (by kernel_rfl) (by kernel_rfl) (by kernel_rfl) (by kernel_rfl) (fun _ _ _ h => h) (Or.inl ⟨by kernel_rfl, ?_⟩) (by assumption) ?_
      rotate_left
      focus (intro w' hSw; (try dsimp only at hSw); go_simp <;> with_reducible rfl)
      try simp only [Act.put, List.setIfInBounds_toArray, List.set_cons_zero, List.set_cons_succ]
      refine takeD (i := 1) (oi := _) (d := some 119) (v := ?_) rfl (by kernel_rfl) (by kernel_rfl) (by kernel_rfl) (by kernel_rfl) (fun _ _ _ h => h) (Or.inl ⟨by kernel_rfl, ?_⟩) (by assumption) ?_
      rotate_left
      focus (intro w' hSw; (try dsimp only at hSw); go_simp <;> with_reducible rfl)
      try simp only [Act.put, List.setIfInBounds_toArray, List.set_cons_zero, List.set_cons_succ]
      refine takeD (i := 5) (oi := _) (d := some 123) (v := _) rfl (by kernel_rfl) (by kernel_rfl) (by kernel_rfl) (by kernel_rfl) (fun _ _ _ h => h) (yieldsIf_load_mid (by kernel_rfl) _ _ rfl _ _ rfl SL _ (fun w' h => h) u32 rfl i32) (by assumption) ?_
      try simp only [Act.put, List.setIfInBounds_toArray, List.set_cons_zero, List.set_cons_succ]
      refine wpAnyH_ready (rs := [2]) (by kernel_rfl) (by simp) ?_
      refine AllReadyH.cons (o := _) rfl (fun K hK => ?_) AllReadyH.nil
      go_simp
      refine hK.out _ _ ?_ (fun hHeld => ?_)
      · exact R20b.out
      clear hK K
      try simp only [Act.put, List.setIfInBounds_toArray, List.set_cons_zero, List.set_cons_succ]
      refine wpAnyH_ready (rs := [3]) (by kernel_rfl) (by simp) ?_
      refine AllReadyH.cons (o := _) rfl (fun K hK => ?_) AllReadyH.nil
      go_simp
      with_reducible refine (C21.out).mono ?_
      rintro e21 w21 ⟨rfl, hh21, hg21⟩
      have hz21 := hg21.size
      have HB21 := Lib.hid (HB20d.out.grown hg21 HB20d.out.size (fun j hj => by simp only [Option.some.injEq] at hj; omega))
      have R21 := Lib.hid (range_grown R20d.out hg21 (by omega))
      rw [HTL.out] at hh21
      have HH21 := Lib.hid hh21
      have C22 := sum_any hh21 (by omega)
      rw [HS.out] at C22
      have C22 := Lib.hid C22
      have hg21l := hh21.lt
      clear hh21 hg21 C21
      refine hK.out _ _ ?_ (fun hHeld => ?_)
      · exact R21.out
      clear hK K
      try simp only [Act.put, List.setIfInBounds_toArray, List.set_cons_zero, List.set_cons_succ]
      refine wpAnyH_ready (rs := [4]) (by kernel_rfl) (by simp) ?_
      refine AllReadyH.cons (o := _) rfl (fun K hK => ?_) AllReadyH.nil
      go_simp
      with_reducible refine (C22.out).mono ?_
      rintro e22 w22 ⟨rfl, hb22⟩
      have HB22 := Lib.hid (HB21.out.trans (hb22.mono HB21.out.size))
      have R22 := Lib.hid (range_below R21.out hb22 (by omega))
      have C23 := Lib.hid (len_any (HH21.out.below hb22 hg21l))
      clear hb22 C22
      refine hK.out _ _ ?_ (fun hHeld => ?_)
      · exact R22.out
      clear hK K
      try simp only [Act.put, List.setIfInBounds_toArray, List.set_cons_zero, List.set_cons_succ]
      refine takeD (i := 6) (oi := _) (d := some 124) (v := ?_) rfl (by kernel_rfl) (by kernel_rfl) (by kernel_rfl) (by kernel_rfl) (fun _ _ _ h => h) (Or.inl ⟨by kernel_rfl, ?_⟩) (by assumption) ?_
      rotate_left
      focus (intro w' hSw; (try dsimp only at hSw); go_simp <;> with_reducible rfl)
      try simp only [Act.put, List.setIfInBounds_toArray, List.set_cons_zero, List.set_cons_succ]
      refine takeD (i := 7) (oi := _) (d := some 125) (v := ?_) rfl (by kernel_rfl) (by kernel_rfl) (by kernel_rfl) (by kernel_rfl) (fun _ _ _ h => h) (Or.inl ⟨by kernel_rfl, ?_⟩) (by assumption) ?_
      rotate_left
      focus (intro w' hSw; (try dsimp only at hSw); go_simp <;> with_reducible rfl)
      try simp only [Act.put, List.setIfInBounds_toArray, List.set_cons_zero, List.set_cons_succ]
      refine takeD (i := 8) (oi := _) (d := some 126) (v := ?_) rfl (by kernel_rfl) (by kernel_rfl) (by kernel_rfl) (by kernel_rfl) (fun _ _ _ h => h) (Or.inl ⟨by kernel_rfl, ?_⟩) (by assumption) ?_
      rotate_left
      focus (intro w' hSw; (try dsimp only at hSw); go_simp <;> with_reducible rfl)
      try simp only [Act.put, List.setIfInBounds_toArray, List.set_cons_zero, List.set_cons_succ]
      refine takeD (i := 10) (oi := _) (d := some 128) (v := ?_) rfl (by kernel_rfl) (by kernel_rfl) (by kernel_rfl) (by kernel_rfl) (fun _ _ _ h => h) (Or.inl ⟨by kernel_rfl, ?_⟩) (by assumption) ?_
      rotate_left
      focus (intro w' hSw; (try dsimp only at hSw); go_simp <;> with_reducible rfl)
      try simp only [Act.put, List.setIfInBounds_toArray, List.set_cons_zero, List.set_cons_succ]
      refine takeD (i := 11) (oi := _) (d := some 129) (v := ?_) rfl (by kernel_rfl) (by kernel_rfl) (by kernel_rfl) (by kernel_rfl) (fun _ _ _ h => h) (Or.inl ⟨by kernel_rfl, ?_⟩) (by assumption) ?_
      rotate_left
      focus (intro w' hSw; (try dsimp only at hSw); go_simp <;> with_reducible rfl)
      try simp only [Act.put, List.setIfInBounds_toArray, List.set_cons_zero, List.set_cons_succ]
      refine wpAnyH_ready (rs := [9]) (by kernel_rfl) (by simp) ?_
      refine AllReadyH.cons (o := _) rfl (fun K hK => ?_) AllReadyH.nil
      go_simp
      with_reducible refine (C23.out).mono ?_
      rintro e23 w23 ⟨rfl, rfl⟩
      refine hK.out _ _ ?_ (fun hHeld => ?_)
      · exact R22.out
      clear hK K
      try simp only [Act.put, List.setIfInBounds_toArray, List.set_cons_zero, List.set_cons_succ]
      refine takeD (i := 12) (oi := _) (d := some 130) (v := ?_) rfl (by kernel_rfl) (by kernel_rfl) (by kernel_rfl) (by kernel_rfl) (fun _ _ _ h => h) (Or.inl ⟨by kernel_rfl, ?_⟩) (by assumption) ?_
      rotate_left
      focus (intro w' hSw; (try dsimp only at hSw); go_simp <;> with_reducible rfl)
      try simp only [Act.put, List.setIfInBounds_toArray, List.set_cons_zero, List.set_cons_succ]
      refine takeD (i := 13) (oi := _) (d := some 131) (v := ?_) rfl (by kernel_rfl) (by kernel_rfl) (by kernel_rfl) (by kernel_rfl) (fun _ _ _ h => h) (Or.inl ⟨by kernel_rfl, ?_⟩) (by assumption) ?_
      rotate_left
      focus (intro w' hSw; (try dsimp only at hSw); go_simp <;> with_reducible rfl)
      try simp only [Act.put, List.setIfInBounds_toArray, List.set_cons_zero, List.set_cons_succ]
      refine takeD (i := 14) (oi := _) (d := some 4) (v := ?_) rfl (by kernel_rfl) (by kernel_rfl) (by kernel_rfl) (by kernel_rfl) (fun _ _ _ h => h) (Or.inl ⟨by kernel_rfl, ?_⟩) (by assumption) ?_
      rotate_left
      focus (intro w' hSw; (try dsimp only at hSw); go_simp <;> with_reducible rfl)
      try simp only [Act.put, List.setIfInBounds_toArray, List.set_cons_zero, List.set_cons_succ]
      refine wpAnyH_done (by kernel_rfl) ?_ _
      go_wp2
      go_ret
      exact ⟨rfl, HB22.out⟩
end Go.Proofs.Ytajhpebefehciaa
