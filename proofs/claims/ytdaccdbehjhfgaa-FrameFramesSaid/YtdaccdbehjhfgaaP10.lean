/- FrameFrames, walked. -/
import Derived.Test.YtdaccdbehjhfgaaP9
namespace Go.Proofs.Ytdaccdbehjhfgaa
open Go.RowKit

theorem Bs.up {w w' : World} {v : Value} {l : List UInt8} (h : Bs w w.heap.size v l) (hb : Below w.heap.size w w') : Bs w' w'.heap.size v l := (h.below hb (Nat.le_refl _)).more hb.size
theorem row_up {w w' : World} {g : Nat} {o : Obj} (h : w.heap[g]? = some o) (hb : Below w.heap.size w w') : w'.heap[g]? = some o := (hb.block g (Array.getElem?_eq_some_iff.1 h).1).trans h
theorem up_trans {w a b : World} (h : Below w.heap.size w a) (hb : Below a.heap.size a b) : Below w.heap.size w b := h.trans (hb.mono h.size)
set_option maxRecDepth 100000 in
set_option maxHeartbeats 4000000 in
theorem frames_walk {k id c : Nat} {i n : Int} {A : Option Addr} {d : List UInt8} {w : World} (hd : Bs w w.heap.size (.slice A d.length c) d) (hid : id < 18446744073709551616) (hl : d.length ≤ 140737488351232) :
    Calls Try.prog 3 #[.agg #[.int .u8 (k : Int), .int .u64 (id : Int), .int .i64 i, .int .i64 n, .slice A d.length c]] w fun e w' => e = .returned (.bool true) ∧ Below w.heap.size w w' := by
  obtain ⟨m, hm⟩ : ∃ m, m = d.length := ⟨_, rfl⟩
  obtain ⟨x, hx⟩ : ∃ x, x = chk k id i n d.length := ⟨_, rfl⟩
  obtain ⟨F, hF⟩ : ∃ F, F = frmI k id i n d := ⟨_, rfl⟩
  have HF : Hid (∀ (A : Option Addr) (c : Nat) (W : World), Bs W W.heap.size (.slice A m c) d → Calls Try.prog 14 #[.agg #[.int .u8 (k : Int), .int .u64 (id : Int), .int .i64 i, .int .i64 n, .slice A m c]] W fun e w' => ∃ A2 c2, e = .returned (.tuple #[.slice A2 F.length c2, .int .i64 x]) ∧ Bs w' w'.heap.size (.slice A2 F.length c2) F ∧ Below W.heap.size W w') := Lib.hid (fun A c W h => by
    rw [hm] at h ⊢
    rw [hx, hF]
    exact (frameI h (Nat.le_refl _) hid (by omega)).mono fun e w' ⟨A2, c2, h1, h2, h3⟩ => ⟨A2, c2, h1, h2.bs, h3⟩)
  have HG : Hid (∀ (A : Option Addr) (c : Nat) (W : World), Bs W W.heap.size (.slice A m c) d → Calls Try.prog 15 #[.agg #[.int .u8 (k : Int), .int .u64 (id : Int), .int .i64 i, .int .i64 n, .slice A m c]] W fun e w' => ∃ A2 c2, e = .returned (.tuple #[.slice A2 F.length c2, .int .i64 x]) ∧ Bs w' w'.heap.size (.slice A2 F.length c2) F ∧ Below W.heap.size W w') := Lib.hid (fun A c W h => by
    rw [hm] at h ⊢
    rw [hx, hF]
    exact (refframeI h (Nat.le_refl _) hid (by omega)).mono fun e w' ⟨A2, c2, h1, h2, h3⟩ => ⟨A2, c2, h1, h2.bs, h3⟩)
  have HC : Hid (∀ (A : Option Addr) (c : Nat) (W : World), Calls Try.prog 11 #[.agg #[.int .u8 (k : Int), .int .u64 (id : Int), .int .i64 i, .int .i64 n, .slice A m c]] W fun e w' => e = .returned (.int .i64 x) ∧ Below W.heap.size W w') := Lib.hid (fun A c W => by rw [hx, hm]; exact check_any (by omega) W)
  have HD : Hid (∀ (A : Option Addr) (c : Nat) (W : World), Calls Try.prog 13 #[.agg #[.int .u8 (k : Int), .int .u64 (id : Int), .int .i64 i, .int .i64 n, .slice A m c]] W fun e w' => e = .returned (.int .i64 x) ∧ Below W.heap.size W w') := Lib.hid (fun A c W => by rw [hx, hm]; exact refcheck_any (by omega) W)
  have HT : Hid (∀ (A : Option Addr) (c : Nat) (W : World), Bs W W.heap.size (.slice A m c) d → Calls Try.prog 12 #[.agg #[.int .u8 (k : Int), .int .u64 (id : Int), .int .i64 i, .int .i64 n, .slice A m c]] W fun e w' => ∃ A2 c2, e = .returned (.agg #[.int .u8 (k : Int), .int .u64 (id : Int), .int .i64 i, .int .i64 n, .slice A2 m c2]) ∧ Bs w' w'.heap.size (.slice A2 m c2) d ∧ Below W.heap.size W w') := Lib.hid (fun A c W h => by
    rw [hm] at h ⊢
    exact (twin_any h (Nat.le_refl _) (by omega)).mono fun e w' ⟨A2, c2, h1, h2, h3⟩ => ⟨A2, c2, h1, h2.bs, h3⟩)
  have HP : Hid (x = 0 → ∀ (u : Value) (W : World), Bs W W.heap.size u F → Calls Try.prog 17 #[u] W fun e w' => ∃ A2 c2, e = .returned (.tuple #[.agg #[.int .u8 (k : Int), .int .u64 (id : Int), .int .i64 i, .int .i64 n, .slice A2 m c2], .int .i64 0]) ∧ Bs w' w'.heap.size (.slice A2 m c2) d ∧ Below W.heap.size W w') := Lib.hid (fun h0 u W h => by
    rw [hF] at h
    rw [hx] at h0
    rw [hm]
    exact (parseI h0 hid h).mono fun e w' ⟨A2, c2, h1, h2, h3⟩ => ⟨A2, c2, h1, h2.bs, h3⟩)
  have HS : Hid (∀ (A A2 : Option Addr) (c c2 : Nat) (W : World), Bs W W.heap.size (.slice A m c) d → Bs W W.heap.size (.slice A2 m c2) d → Calls Try.prog 18 #[.agg #[.int .u8 (k : Int), .int .u64 (id : Int), .int .i64 i, .int .i64 n, .slice A m c], .agg #[.int .u8 (k : Int), .int .u64 (id : Int), .int .i64 i, .int .i64 n, .slice A2 m c2]] W fun e w' => e = .returned (.bool true) ∧ Below W.heap.size W w') := Lib.hid (fun A A2 c c2 W h1 h2 => by rw [hm] at h1 h2 ⊢; exact samepart_same h1 (Nat.le_refl _) h2 (Nat.le_refl _))
  have C0 := fun W => Lib.hid (awake11_any W)
  rw [← hm] at hd ⊢
  clear hm hx hF hl hid
  obtain ⟨W0, hW0⟩ : ∃ W0, W0 = w.alloc (.cells #[.int .u8 (k : Int), .int .u64 (id : Int), .int .i64 i, .int .i64 n, .slice A m c] 25) := ⟨_, rfl⟩
  have hb0 : Below w.heap.size w W0 := by rw [hW0]; exact (Below.refl w.heap.size w).alloc (Nat.le_refl _) _
  have hr0 : W0.heap[w.heap.size]? = some (.cells #[.int .u8 (k : Int), .int .u64 (id : Int), .int .i64 i, .int .i64 n, .slice A m c] 25 (0, 0)) := by rw [hW0]; exact heap_alloc_new w _
  have HB := Lib.hid hb0; have HR := Lib.hid hr0; have HX := Lib.hid (hd.up hb0); have HW0 := Lib.hid hW0
  clear hb0 hr0 hd hW0
  go_enter Try.func3, Try.ntmps3
  go_upto_region 1 with fail
  rw [← HW0.out]
  clear HW0
  have r0 := cell_of_row _ _ 0 _ _ _ HR.out
  have r1 := cell_of_row _ _ 1 _ _ _ HR.out
  have r2 := cell_of_row _ _ 2 _ _ _ HR.out
  have r3 := cell_of_row _ _ 3 _ _ _ HR.out
  have r4 := cell_of_row _ _ 4 _ _ _ HR.out
  simp at r0 r1 r2 r3 r4
  have hlt := (Array.getElem?_eq_some_iff.1 HR.out).1
  go_region_held3 (fun w' => w'.cell? ⟨w.heap.size, 0, none⟩ = some (.int .u8 (k : Int)) ∧ w'.cell? ⟨w.heap.size, 1, none⟩ = some (.int .u64 (id : Int)) ∧ w'.cell? ⟨w.heap.size, 2, none⟩ = some (.int .i64 i) ∧ w'.cell? ⟨w.heap.size, 3, none⟩ = some (.int .i64 n) ∧ w'.cell? ⟨w.heap.size, 4, none⟩ = some (.slice A m c)) (go_simp)
    (first
      | (go_at_call 10; (with_reducible refine ((C0 _).out).mono ?_); rintro e1 w1 ⟨rfl, hb1⟩; replace hb1 := undrew hb1; have HB1 := Lib.hid (up_trans HB.out hb1); have HR1 := Lib.hid (row_up HR.out hb1); have HX1 := Lib.hid (HX.out.up hb1); have hlt := Nat.lt_of_lt_of_le hlt hb1.size; obtain ⟨hc, hf⟩ := bcell hb1; clear hb1)
      | (go_at_call 12; (with_reducible refine (HT.out _ _ _ HX1.out).mono ?_); rintro e2 w2 ⟨A2, c2, rfl, ho2, hb2⟩; have HB2 := Lib.hid (up_trans HB1.out hb2); have HR2 := Lib.hid (row_up HR1.out hb2); have HX2 := Lib.hid (HX1.out.up hb2); have hlt := Nat.lt_of_lt_of_le hlt hb2.size; obtain ⟨hc, hf⟩ := bcell hb2; clear hb2 ho2)
      | (go_at_call 11; (with_reducible refine (HC.out _ _ _).mono ?_); rintro e3 w3 ⟨rfl, hb3⟩; have HB3 := Lib.hid (up_trans HB2.out hb3); have HR3 := Lib.hid (row_up HR2.out hb3); have HX3 := Lib.hid (HX2.out.up hb3); have hlt := Nat.lt_of_lt_of_le hlt hb3.size; obtain ⟨hc, hf⟩ := bcell hb3; clear hb3)
      | (go_at_call 13; (with_reducible refine (HD.out _ _ _).mono ?_); rintro e4 w4 ⟨rfl, hb4⟩; have HB4 := Lib.hid (up_trans HB3.out hb4); have HR4 := Lib.hid (row_up HR3.out hb4); have HX4 := Lib.hid (HX3.out.up hb4); have hlt := Nat.lt_of_lt_of_le hlt hb4.size; obtain ⟨hc, hf⟩ := bcell hb4; clear hb4)
      | fail)
  clear r0 r1 r2 r3 r4 hc hf HB HB1 HB2 HB3 HR HR1 HR2 HR3 HX HX1 HX2 HX3 HC HD C0
  have r0 := cell_of_row _ _ 0 _ _ _ HR4.out
  have r1 := cell_of_row _ _ 1 _ _ _ HR4.out
  have r2 := cell_of_row _ _ 2 _ _ _ HR4.out
  have r3 := cell_of_row _ _ 3 _ _ _ HR4.out
  have r4 := cell_of_row _ _ 4 _ _ _ HR4.out
  simp at r0 r1 r2 r3 r4
  have C5 := Lib.hid (HT.out A c w4 HX4.out)
  go_wp2_with fail
  with_reducible refine (C5.out).mono ?_
  rintro e5 w5 ⟨A5, c5, rfl, ho5, hb5⟩
  have HB5 := Lib.hid (up_trans HB4.out hb5); have HR5 := Lib.hid (row_up HR4.out hb5); have HX5 := Lib.hid (HX4.out.up hb5)
  have hlt := Nat.lt_of_lt_of_le hlt hb5.size
  have C6 := Lib.hid (HF.out A5 c5 w5 ho5)
  clear hb5 ho5 HB4 HR4 HX4 C5 r0 r1 r2 r3 r4 HT
  go_wp2_with fail
  with_reducible refine (C6.out).mono ?_
  rintro e6 w6 ⟨A6, c6, rfl, ho6, hb6⟩
  have HB6 := Lib.hid (up_trans HB5.out hb6); have HR6 := Lib.hid (row_up HR5.out hb6); have HX6 := Lib.hid (HX5.out.up hb6); have HF6 := Lib.hid ho6
  have hlt := Nat.lt_of_lt_of_le hlt hb6.size
  have C7 := Lib.hid (HG.out A c w6 HX6.out)
  clear hb6 ho6 HB5 HR5 HX5 C6 HF
  have r0 := cell_of_row _ _ 0 _ _ _ HR6.out
  have r1 := cell_of_row _ _ 1 _ _ _ HR6.out
  have r2 := cell_of_row _ _ 2 _ _ _ HR6.out
  have r3 := cell_of_row _ _ 3 _ _ _ HR6.out
  have r4 := cell_of_row _ _ 4 _ _ _ HR6.out
  simp at r0 r1 r2 r3 r4
  go_wp2_with fail
  with_reducible refine (C7.out).mono ?_
  rintro e7 w7 ⟨A7, c7, rfl, ho7, hb7⟩
  have HB7 := Lib.hid (up_trans HB6.out hb7); have HR7 := Lib.hid (row_up HR6.out hb7); have HX7 := Lib.hid (HX6.out.up hb7); have HF7 := Lib.hid (HF6.out.up hb7)
  have hlt := Nat.lt_of_lt_of_le hlt hb7.size
  have C8 := Lib.hid (equal_same HF7.out ho7)
  clear hb7 ho7 HB6 HR6 HX6 HF6 C7 HG r0 r1 r2 r3 r4
  go_wp2_with fail
  with_reducible refine (C8.out).mono ?_
  rintro e8 w8 ⟨rfl, hd8⟩
  have hb8 := hd8.below w7.heap.size
  have HB8 := Lib.hid (up_trans HB7.out hb8); have HR8 := Lib.hid (row_up HR7.out hb8); have HX8 := Lib.hid (HX7.out.up hb8); have HF8 := Lib.hid (HF7.out.up hb8)
  have hlt := Nat.lt_of_lt_of_le hlt hb8.size
  clear hb8 hd8 HB7 HR7 HX7 HF7 C8
  by_cases hx0 : x = 0
  · have C9 := Lib.hid (HP.out hx0 _ w8 HF8.out)
    subst hx0
    go_wp2_with fail
    with_reducible refine (C9.out).mono ?_
    rintro e9 w9 ⟨A9, c9, rfl, ho9, hb9⟩
    obtain ⟨W9, hW9⟩ : ∃ W9, W9 = w9.alloc (.cells #[.int .u8 (k : Int), .int .u64 (id : Int), .int .i64 i, .int .i64 n, .slice A9 m c9] 25) := ⟨_, rfl⟩
    have hal9 : Below w9.heap.size w9 W9 := by rw [hW9]; exact (Below.refl _ _).alloc (Nat.le_refl _) _
    have hr9 : W9.heap[w9.heap.size]? = some (.cells #[.int .u8 (k : Int), .int .u64 (id : Int), .int .i64 i, .int .i64 n, .slice A9 m c9] 25 (0, 0)) := by rw [hW9]; exact heap_alloc_new w9 _
    have hb9' : Below w8.heap.size w8 W9 := up_trans hb9 hal9
    have HB9 := Lib.hid (up_trans HB8.out hb9'); have HR9 := Lib.hid (row_up HR8.out hb9'); have HX9 := Lib.hid (HX8.out.up hb9')
    have hlt := Nat.lt_of_lt_of_le hlt hb9'.size
    have C10 := Lib.hid (HS.out A9 A c9 c W9 (ho9.up hal9) HX9.out)
    obtain ⟨g, hg⟩ : ∃ g, g = w9.heap.size := ⟨_, rfl⟩
    rw [← hg] at hr9
    have HS9 := Lib.hid hr9; have HW9 := Lib.hid hW9; have HG9 := Lib.hid hg
    have hlg : g < W9.heap.size := (Array.getElem?_eq_some_iff.1 hr9).1
    clear hal9 hr9 hb9 hb9' ho9 hW9 hg HB8 HR8 HX8 HF8 C9 HP
    go_upto_region 10 with fail
    rw [← HW9.out, ← HG9.out]
    clear HW9 HG9
    have r0 := cell_of_row _ _ 0 _ _ _ HR9.out
    have r1 := cell_of_row _ _ 1 _ _ _ HR9.out
    have r2 := cell_of_row _ _ 2 _ _ _ HR9.out
    have r3 := cell_of_row _ _ 3 _ _ _ HR9.out
    have r4 := cell_of_row _ _ 4 _ _ _ HR9.out
    have s0 := cell_of_row _ _ 0 _ _ _ HS9.out
    have s1 := cell_of_row _ _ 1 _ _ _ HS9.out
    have s2 := cell_of_row _ _ 2 _ _ _ HS9.out
    have s3 := cell_of_row _ _ 3 _ _ _ HS9.out
    have s4 := cell_of_row _ _ 4 _ _ _ HS9.out
    simp at r0 r1 r2 r3 r4 s0 s1 s2 s3 s4
    go_wp2_with fail
    with_reducible refine (C10.out).mono ?_
    rintro e10 w10 ⟨rfl, hb10⟩
    have HB10 := Lib.hid (up_trans HB9.out hb10)
    clear hb10 C10 HB9 HR9 HS9 r0 r1 r2 r3 r4 s0 s1 s2 s3 s4
    go_wp2
    go_ret
    exact ⟨rfl, HB10.out⟩
  · have hx0' : (x != 0) = true := by simpa using hx0
    go_wp2
    go_ret
    exact ⟨rfl, HB8.out⟩
end Go.Proofs.Ytdaccdbehjhfgaa
