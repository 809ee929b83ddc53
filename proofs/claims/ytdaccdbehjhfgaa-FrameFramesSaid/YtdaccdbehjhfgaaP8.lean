/- The fixed fact of layer 11; FrameParses, walked. -/
import Derived.Test.YtdaccdbehjhfgaaP7
namespace Go.Proofs.Ytdaccdbehjhfgaa
open Go.RowKit

set_option maxRecDepth 100000 in
set_option maxHeartbeats 4000000 in
theorem count451 (w : World) : Calls Try.prog 23 #[.int .i64 451] w fun e w' => e = .returned (.tuple #[.int .i64 2, .int .i64 0]) ∧ w = w' := by
  go_enter Try.func23, Try.ntmps23
  go_wp2
  go_ret2
  exact ⟨rfl, rfl⟩
def pAw : Pt := ⟨1, 258, 0, 1, [9]⟩
theorem aw_chk : pAw.chk = 0 := by decide +kernel
theorem aw_len : pAw.frm.length = 480 := by decide +kernel
theorem aw_bytes : pAw.frm.getD 16 0 = 1 ∧ pAw.frm.getD 18 0 = 1 ∧ pAw.frm.getD 26 0 = 1 ∧ pAw.frm.getD 27 0 = 2 ∧ pAw.frm.getD 29 0 = 1 ∧ pAw.frm.getD 30 0 = 9 := by decide +kernel
set_option maxRecDepth 100000 in
set_option maxHeartbeats 4000000 in
theorem awake11_any (w : World) : Calls Try.prog 10 #[] w fun e w' => e = .returned (.bool true) ∧ Below w.heap.size w w' := by
  have h1 := frame_any (p := pAw) (c := 1) (A := some ⟨w.heap.size, 0, none⟩) (w := w.alloc (.cells #[.int .u8 9] 5)) (B := w.heap.size + 1) (Bs.one w 9) (by simp) (by decide) (by decide)
  rw [aw_chk] at h1
  obtain ⟨F, hF⟩ : ∃ F, F = pAw.frm := ⟨_, rfl⟩
  have hl : F.length = 480 := by rw [hF]; exact aw_len
  obtain ⟨b16, b18, b26, b27, b29, b30⟩ := aw_bytes
  rw [← hF] at h1 b16 b18 b26 b27 b29 b30
  rw [hl] at h1
  have C1 : Hid (Calls Try.prog 14 #[.agg #[.int .u8 1, .int .u64 258, .int .i64 0, .int .i64 1, .slice (some ⟨w.heap.size, 0, none⟩) 1 1]] (w.alloc (.cells #[.int .u8 9] 5)) fun e w' => ∃ A2 c2, e = .returned (.tuple #[.slice A2 480 c2, .int .i64 0]) ∧ Bs w' w'.heap.size (.slice A2 480 c2) F ∧ Below w.heap.size w w') := Lib.hid (h1.mono (by
    rintro e w' ⟨A2, c2, rfl, ho, hb⟩
    exact ⟨A2, c2, rfl, ho.bs, ((Below.refl _ _).alloc (Nat.le_refl _) _).trans (hb.mono (by simp))⟩))
  have C2 := fun W => Lib.hid (count451 W)
  clear h1 hF
  go_enter Try.func10, Try.ntmps10
  go_wp2_with fail
  with_reducible refine (C1.out).mono ?_
  rintro e1 w1 ⟨A1, c1, rfl, hb1, hbe⟩
  obtain ⟨b, off, rfl, hbl, k16⟩ := hb1.cell (k := 16) (by omega)
  have hcell : ∀ j, j < 480 → w1.cell? ⟨b, off + j, none⟩ = some (.int .u8 ((F.getD j 0).toNat : Int)) := fun j hj => by
    obtain ⟨b', off', e', _, h⟩ := hb1.cell (k := j) (by omega)
    simp only [Option.some.injEq, Addr.mk.injEq] at e'
    obtain ⟨rfl, rfl, _⟩ := e'
    exact h
  have q16 : w1.cell? ⟨b, off + 16, none⟩ = some (.int .u8 1) := by rw [hcell 16 (by decide), b16]; rfl
  have q18 : w1.cell? ⟨b, off + 18, none⟩ = some (.int .u8 1) := by rw [hcell 18 (by decide), b18]; rfl
  have q26 : w1.cell? ⟨b, off + 26, none⟩ = some (.int .u8 1) := by rw [hcell 26 (by decide), b26]; rfl
  have q27 : w1.cell? ⟨b, off + 27, none⟩ = some (.int .u8 2) := by rw [hcell 27 (by decide), b27]; rfl
  have q29 : w1.cell? ⟨b, off + 29, none⟩ = some (.int .u8 1) := by rw [hcell 29 (by decide), b29]; rfl
  have q30 : w1.cell? ⟨b, off + 30, none⟩ = some (.int .u8 9) := by rw [hcell 30 (by decide), b30]; rfl
  have HBE := Lib.hid hbe
  clear hcell k16 b16 b18 b26 b27 b29 b30 hl hb1 hbe C1
  go_wp2_with fail
  with_reducible refine ((C2 _).out).mono ?_
  rintro e2 w2 ⟨rfl, hw2⟩
  subst hw2
  clear C2
  go_wp2
  go_ret
  exact ⟨rfl, HBE.out⟩
theorem eP_zero {l : List UInt8} (h : eP l = 0) : parP l = rdP l ∧ (rdP l).chk = 0 ∧ (rdP l).frm = l := by
  refine ⟨by unfold parP; rw [if_pos h], ?_⟩
  unfold eP at h
  by_cases h1 : l.length ≠ 480
  · rw [if_pos h1] at h; exact absurd h (by decide)
  rw [if_neg h1] at h
  by_cases h2 : l.take 16 ≠ zs 16
  · rw [if_pos h2] at h; exact absurd h (by decide)
  rw [if_neg h2] at h
  by_cases h3 : (rdP l).chk = 1
  · rw [if_pos h3] at h; exact absurd h (by decide)
  rw [if_neg h3] at h
  by_cases h4 : (rdP l).frm = l
  · refine ⟨?_, h4⟩
    by_cases h5 : (rdP l).chk = 0
    · exact h5
    · rw [Pt.frm, if_neg h5] at h4
      rw [← h4] at h1
      simp at h1
  · rw [if_neg h4] at h; exact absurd h (by decide)
theorem parP_id (l : List UInt8) : (parP l).id < 18446744073709551616 ∧ (parP l).d.length ≤ 450 := by
  unfold parP
  split
  · exact ⟨getP_lt 2 8 l 20 8, cutD_le _ _⟩
  · exact ⟨by decide, by decide⟩
set_option maxRecDepth 100000 in
set_option maxHeartbeats 4000000 in
theorem parses_walk {l : List UInt8} {v : Value} {w : World} (hb : Bs w w.heap.size v l) (hl : l.length ≤ 140737488355328) :
    Calls Try.prog 4 #[v] w fun e w' => e = .returned (.bool true) ∧ Below w.heap.size w w' := by
  obtain ⟨A, c, rfl⟩ := hb.shape
  obtain ⟨P, hP⟩ : ∃ P, P = parP l := ⟨_, rfl⟩
  obtain ⟨x, hx⟩ : ∃ x, x = eP l := ⟨_, rfl⟩
  obtain ⟨hid, hdl⟩ := parP_id l
  rw [← hP] at hid hdl
  have C0 := Lib.hid (awake11_any w)
  have h3 : ∀ (u : Value) (W : World), Bs W W.heap.size u l → Calls Try.prog 17 #[u] W fun e w' => ∃ A c, e = .returned (.tuple #[P.agg A c, .int .i64 x]) ∧ Own w' W.heap.size (.slice A P.d.length c) P.d ∧ Below W.heap.size W w' := fun u W hu => by rw [hP, hx]; exact parse_any hu (Nat.le_refl _) (by omega)
  have h4 : ∀ (u : Value) (W : World), Bs W W.heap.size u l → Calls Try.prog 20 #[u] W fun e w' => ∃ A c, e = .returned (.tuple #[P.agg A c, .int .i64 x]) ∧ Own w' W.heap.size (.slice A P.d.length c) P.d ∧ Below W.heap.size W w' := fun u W hu => by rw [hP, hx]; exact refparse_any hu (Nat.le_refl _) (by omega)
  have h5 : x = 0 → ∀ (A : Option Addr) (c : Nat) (W : World), Bs W W.heap.size (.slice A P.d.length c) P.d → Calls Try.prog 14 #[P.agg A c] W fun e w' => ∃ A2 c2, e = .returned (.tuple #[.slice A2 l.length c2, .int .i64 0]) ∧ Own w' W.heap.size (.slice A2 l.length c2) l ∧ Below W.heap.size W w' := fun h0 A c W hd => by
    obtain ⟨e1, e2, e3⟩ := eP_zero (l := l) (by rw [← hx]; exact h0)
    have h := frame_any hd (Nat.le_refl _) hid (by omega)
    rw [hP, e1, e2, e3] at h
    rw [hP, e1]
    exact h
  clear hP hx
  obtain ⟨k, id, i, n, d⟩ := P
  obtain ⟨m, hm⟩ : ∃ m, m = d.length := ⟨_, rfl⟩
  have HML := Lib.hid hm
  have H3 : Hid (∀ (u : Value) (W : World), Bs W W.heap.size u l → Calls Try.prog 17 #[u] W fun e w' => ∃ A c, e = .returned (.tuple #[.agg #[.int .u8 (k : Int), .int .u64 (id : Int), .int .i64 (i : Int), .int .i64 (n : Int), .slice A m c], .int .i64 x]) ∧ Own w' W.heap.size (.slice A m c) d ∧ Below W.heap.size W w') := Lib.hid (by rw [hm]; exact h3)
  have H4 : Hid (∀ (u : Value) (W : World), Bs W W.heap.size u l → Calls Try.prog 20 #[u] W fun e w' => ∃ A c, e = .returned (.tuple #[.agg #[.int .u8 (k : Int), .int .u64 (id : Int), .int .i64 (i : Int), .int .i64 (n : Int), .slice A m c], .int .i64 x]) ∧ Own w' W.heap.size (.slice A m c) d ∧ Below W.heap.size W w') := Lib.hid (by rw [hm]; exact h4)
  have H5 : Hid (x = 0 → ∀ (A : Option Addr) (c : Nat) (W : World), Bs W W.heap.size (.slice A m c) d → Calls Try.prog 14 #[.agg #[.int .u8 (k : Int), .int .u64 (id : Int), .int .i64 (i : Int), .int .i64 (n : Int), .slice A m c]] W fun e w' => ∃ A2 c2, e = .returned (.tuple #[.slice A2 l.length c2, .int .i64 0]) ∧ Own w' W.heap.size (.slice A2 l.length c2) l ∧ Below W.heap.size W w') := Lib.hid (by rw [hm]; exact h5)
  have H6 : Hid (∀ (A A2 : Option Addr) (c c2 : Nat) (W : World), Bs W W.heap.size (.slice A m c) d → Bs W W.heap.size (.slice A2 m c2) d → Calls Try.prog 18 #[.agg #[.int .u8 (k : Int), .int .u64 (id : Int), .int .i64 (i : Int), .int .i64 (n : Int), .slice A m c], .agg #[.int .u8 (k : Int), .int .u64 (id : Int), .int .i64 (i : Int), .int .i64 (n : Int), .slice A2 m c2]] W fun e w' => e = .returned (.bool true) ∧ Below W.heap.size W w') := Lib.hid (fun A A2 c c2 W h1 h2 => by rw [hm] at h1 h2 ⊢; exact samepart_same h1 (Nat.le_refl _) h2 (Nat.le_refl _))
  have HB := Lib.hid hb
  clear h3 h4 h5 hm hid hdl hb
  go_enter Try.func4, Try.ntmps4
  go_wp2_with fail
  with_reducible refine (C0.out).mono ?_
  rintro e0 w0 ⟨rfl, hb0⟩
  have HB0 := Lib.hid hb0
  have HL0 := Lib.hid ((HB.out.below hb0 (Nat.le_refl _)).more hb0.size)
  have C1 := Lib.hid (copy_any HL0.out (Nat.le_refl _) hl)
  clear hb0 C0
  go_wp2_with fail
  with_reducible refine (C1.out).mono ?_
  rintro e1 w1 ⟨u1, rfl, ho1, hb1⟩
  have HB1 := Lib.hid (HB0.out.trans (hb1.mono HB0.out.size))
  have HL1 := Lib.hid ((HL0.out.below hb1 (Nat.le_refl _)).more hb1.size)
  have C2 := Lib.hid (H3.out u1 w1 ho1.bs)
  clear ho1 hb1 C1 H3
  go_wp2_with fail
  with_reducible refine (C2.out).mono ?_
  rintro e2 w2 ⟨A2, c2, rfl, ho2, hb2⟩
  obtain ⟨W2, hW2⟩ : ∃ W2, W2 = w2.alloc (.cells #[.int .u8 (k : Int), .int .u64 (id : Int), .int .i64 (i : Int), .int .i64 (n : Int), .slice A2 m c2] 25) := ⟨_, rfl⟩
  have hal2 : Below w2.heap.size w2 W2 := by rw [hW2]; exact (Below.refl _ _).alloc (Nat.le_refl _) _
  have hr2 : W2.heap[w2.heap.size]? = some (.cells #[.int .u8 (k : Int), .int .u64 (id : Int), .int .i64 (i : Int), .int .i64 (n : Int), .slice A2 m c2] 25 (0, 0)) := by rw [hW2]; exact heap_alloc_new w2 _
  have hb2' : Below w1.heap.size w1 W2 := hb2.trans (hal2.mono hb2.size)
  have HB2 := Lib.hid (HB1.out.trans (hb2'.mono HB1.out.size))
  have HL2 := Lib.hid ((HL1.out.below hb2' (Nat.le_refl _)).more hb2'.size)
  have HO2 := Lib.hid ((ho2.bs.below hal2 (Nat.le_refl _)).more hal2.size)
  obtain ⟨pa, hpa⟩ : ∃ pa, pa = w2.heap.size := ⟨_, rfl⟩
  rw [← hpa] at hr2
  have HR2 := Lib.hid hr2; have HW2 := Lib.hid hW2; have HPA := Lib.hid hpa
  have C3 := Lib.hid (H4.out (.slice A l.length c) W2 HL2.out)
  clear hal2 hr2 hb2 hb2' ho2 hW2 hpa C2 H4 HB1 HL1
  go_upto_region 4 with fail
  rw [← HW2.out, ← HPA.out]
  clear HW2 HPA
  go_wp2_with fail
  with_reducible refine (C3.out).mono ?_
  rintro e3 w3 ⟨A3, c3, rfl, ho3, hb3⟩
  obtain ⟨W3, hW3⟩ : ∃ W3, W3 = w3.alloc (.cells #[.int .u8 (k : Int), .int .u64 (id : Int), .int .i64 (i : Int), .int .i64 (n : Int), .slice A3 m c3] 25) := ⟨_, rfl⟩
  have hal3 : Below w3.heap.size w3 W3 := by rw [hW3]; exact (Below.refl _ _).alloc (Nat.le_refl _) _
  have hr3 : W3.heap[w3.heap.size]? = some (.cells #[.int .u8 (k : Int), .int .u64 (id : Int), .int .i64 (i : Int), .int .i64 (n : Int), .slice A3 m c3] 25 (0, 0)) := by rw [hW3]; exact heap_alloc_new w3 _
  have hb3' : Below W2.heap.size W2 W3 := hb3.trans (hal3.mono hb3.size)
  have hr23 := (hb3'.block pa (Array.getElem?_eq_some_iff.1 HR2.out).1).trans HR2.out
  have HB3 := Lib.hid (HB2.out.trans (hb3'.mono HB2.out.size))
  have HL3 := Lib.hid ((HL2.out.below hb3' (Nat.le_refl _)).more hb3'.size)
  have HO23 := Lib.hid ((HO2.out.below hb3' (Nat.le_refl _)).more hb3'.size)
  have HO3 := Lib.hid ((ho3.bs.below hal3 (Nat.le_refl _)).more hal3.size)
  obtain ⟨pc, hpc⟩ : ∃ pc, pc = w3.heap.size := ⟨_, rfl⟩
  rw [← hpc] at hr3
  have HR3 := Lib.hid hr3; have HR23 := Lib.hid hr23; have HW3 := Lib.hid hW3; have HPC := Lib.hid hpc
  have C4 := Lib.hid (H6.out A2 A3 c2 c3 W3 HO23.out HO3.out)
  clear hal3 hr3 hb3 hb3' hr23 ho3 hW3 hpc C3 H6 HB2 HL2 HO2 HR2
  go_upto_region 5 with fail
  rw [← HW3.out, ← HPC.out]
  clear HW3 HPC
  have ra := HR23.out
  have rc := HR3.out
  have s0 := cell_of_row _ _ 0 _ _ _ ra
  have s1 := cell_of_row _ _ 1 _ _ _ ra
  have s2 := cell_of_row _ _ 2 _ _ _ ra
  have s3 := cell_of_row _ _ 3 _ _ _ ra
  have s4 := cell_of_row _ _ 4 _ _ _ ra
  have r0 := cell_of_row _ _ 0 _ _ _ rc
  have r1 := cell_of_row _ _ 1 _ _ _ rc
  have r2 := cell_of_row _ _ 2 _ _ _ rc
  have r3 := cell_of_row _ _ 3 _ _ _ rc
  have r4 := cell_of_row _ _ 4 _ _ _ rc
  simp at s0 s1 s2 s3 s4 r0 r1 r2 r3 r4
  clear ra rc
  go_wp2_with fail
  with_reducible refine (C4.out).mono ?_
  rintro e4 w4 ⟨rfl, hb4⟩
  have hr4 := (hb4.block pa (Array.getElem?_eq_some_iff.1 HR23.out).1).trans HR23.out
  have HB4 := Lib.hid (HB3.out.trans (hb4.mono HB3.out.size))
  have HL4 := Lib.hid ((HL3.out.below hb4 (Nat.le_refl _)).more hb4.size)
  have HO4 := Lib.hid ((HO23.out.below hb4 (Nat.le_refl _)).more hb4.size)
  clear s0 s1 s2 s3 s4 r0 r1 r2 r3 r4 C4 hb4 HR23 HR3 HB3 HL3 HO23 HO3
  by_cases hx0 : x = 0
  · have C5 := Lib.hid (H5.out hx0 A2 c2 w4 HO4.out)
    subst hx0
    have s0 := cell_of_row _ _ 0 _ _ _ hr4
    have s1 := cell_of_row _ _ 1 _ _ _ hr4
    have s2 := cell_of_row _ _ 2 _ _ _ hr4
    have s3 := cell_of_row _ _ 3 _ _ _ hr4
    have s4 := cell_of_row _ _ 4 _ _ _ hr4
    simp at s0 s1 s2 s3 s4
    clear hr4 H5
    go_wp2_with fail
    with_reducible refine (C5.out).mono ?_
    rintro e5 w5 ⟨A5, c5, rfl, ho5, hb5⟩
    have HB5 := Lib.hid (HB4.out.trans (hb5.mono HB4.out.size))
    have C6 := equal_any ho5.bs (HL4.out.below hb5 (Nat.le_refl _))
    rw [decide_eq_true (rfl : l = l)] at C6
    have C6 := Lib.hid C6
    clear s0 s1 s2 s3 s4 C5 ho5 hb5 HB4 HL4 HO4
    go_wp2_with fail
    with_reducible refine (C6.out).mono ?_
    rintro e6 w6 ⟨rfl, hd6⟩
    have HB6 := Lib.hid (HB5.out.trans (hd6.below _))
    clear hd6 C6
    go_wp2
    go_ret
    exact ⟨rfl, HB6.out⟩
  · clear hr4 H5
    go_wp2
    go_ret
    exact ⟨rfl, HB4.out⟩
end Go.Proofs.Ytdaccdbehjhfgaa
