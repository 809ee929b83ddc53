/- The calls of the law of codec: what they hand out lies apart. -/
import Derived.Test.YtajhpebefehciaaCutD
import Derived.Test.YtajhpebefehciaaXorS
import Derived.Test.YtajhpebefehciaaUnhexS
import Derived.Test.YtajhpebefehciaaCursorT
namespace Go.Proofs.Ytajhpebefehciaa
open Go.RowKit

theorem cutsL_two (a : List UInt8) : cutsL a [0, (a.length : Int)] 2 = [[], a] := by
  simp [cutsL, pieceL, preI, List.range_succ]
theorem xorR_two (a b : List UInt8) : (xorR [a, b]).length ≤ a.length := by unfold xorR; split <;> simp
theorem padR_five (a : List UInt8) : (padR a ((a.length : Int) + 5)).length ≤ a.length + 5 := by
  unfold padR; split
  · simp [zs_len]; omega
  · simp
/-- what the law's calls hand out -/
def callsL (a b : List UInt8) : List (List UInt8) := [a ++ b, a, xorR [a, b], a, padR a ((a.length : Int) + 5), b, [], a]
theorem perm8 {α : Type} (x u q t j k : α) (pc : List α) : (((((([x] ++ pc) ++ [u]) ++ [q]) ++ [t]) ++ [j]) ++ [k]).Perm ([j, k, x, u, q, t] ++ pc) := by
  have e : (((((([x] ++ pc) ++ [u]) ++ [q]) ++ [t]) ++ [j]) ++ [k]) = ([x] ++ (pc ++ [u, q, t])) ++ [j, k] := by simp
  rw [e]
  exact List.perm_append_comm.trans (List.Perm.append_left [j, k] (List.Perm.append_left [x] List.perm_append_comm))
theorem Is.two (w : World) (x y : Int) (hx : (Lit.int .i64 x).wf = true) (hy : (Lit.int .i64 y).wf = true) : Is (w.alloc (.cells #[.int .i64 x, .int .i64 y] 3)) (w.heap.size + 1) (.slice (some ⟨w.heap.size, 0, none⟩) 2 2) [x, y] :=
  ⟨_, _, rfl, Nat.le_refl _, by unfold maxLen; simp, fun _ => ⟨_, 0, rfl, by omega, fun j hj => ⟨by
    rw [Nat.zero_add, cell_of_row _ _ j _ 3 (0, 0) (heap_alloc_new w _)]
    match j, hj with
    | 0, _ => rfl
    | 1, _ => rfl, by
    match j, hj with
    | 0, _ => exact hx
    | 1, _ => exact hy⟩⟩⟩
theorem alloc_below {w w' : World} {o : Obj} (h : Below (w.alloc o).heap.size (w.alloc o) w') : Below w.heap.size w w' := ((Below.refl _ _).alloc (Nat.le_refl _) o).trans (h.mono (by simp))
theorem k_xor {a b : List UInt8} {u v : Value} {w : World} (ha : Bs w w.heap.size u a) (hb : Bs w w.heap.size v b) (hla : a.length ≤ 1048576) (hlb : b.length ≤ 1048576) :
    Calls Try.prog 54 #[.slice (some ⟨w.heap.size, 0, none⟩) 2 2] (w.alloc (.cells #[u, v] 22)) fun e w' => ∃ r, e = .returned (.tuple #[r, .int .i64 (xorE [a, b])]) ∧ Own w' w.heap.size r (xorR [a, b]) ∧ Below w.heap.size w w' := by
  have hr := Rs.lit w [u, v] [a, b] rfl (by unfold maxLen; simp) (by
    intro j h h'
    match j, h, h' with
    | 0, _, _ => exact ha
    | 1, _, _ => exact hb)
  have C := xor_all hr (by simp) (by simp; omega)
  exact C.mono fun e w' ⟨r, h1, h2, h3⟩ => ⟨r, h1, h2.more (by simp), alloc_below h3⟩
theorem k_join2 {a b : List UInt8} {u v : Value} {w : World} (ha : Bs w w.heap.size u a) (hb : Bs w w.heap.size v b) (hla : a.length ≤ 1048576) (hlb : b.length ≤ 1048576) :
    Calls Try.prog 44 #[.slice (some ⟨w.heap.size, 0, none⟩) 2 2] (w.alloc (.cells #[u, v] 22)) fun e w' => ∃ r, e = .returned r ∧ Own w' w.heap.size r (a ++ b) ∧ Below w.heap.size w w' := by
  have hr := Rs.lit w [u, v] [a, b] rfl (by unfold maxLen; simp) (by
    intro j h h'
    match j, h, h' with
    | 0, _, _ => exact ha
    | 1, _, _ => exact hb)
  have C := join_any hr (by simp) (by simp; omega)
  rw [show [a, b].flatten = a ++ b by simp] at C
  exact C.mono fun e w' ⟨r, h1, h2, h3⟩ => ⟨r, h1, h2.more (by simp), alloc_below h3⟩
theorem k_join1 {a : List UInt8} {u : Value} {w : World} (ha : Bs w w.heap.size u a) (hla : a.length ≤ 1048576) :
    Calls Try.prog 44 #[.slice (some ⟨w.heap.size, 0, none⟩) 1 1] (w.alloc (.cells #[u] 22)) fun e w' => ∃ r, e = .returned r ∧ Own w' w.heap.size r a ∧ Below w.heap.size w w' := by
  have hr := Rs.lit w [u] [a] rfl (by unfold maxLen; simp) (by
    intro j h h'
    match j, h, h' with
    | 0, _, _ => exact ha)
  have C := join_any hr (by simp) (by simp; omega)
  rw [show [a].flatten = a by simp] at C
  exact C.mono fun e w' ⟨r, h1, h2, h3⟩ => ⟨r, h1, h2.more (by simp), alloc_below h3⟩
theorem k_cut {a : List UInt8} {u : Value} {w : World} (ha : Bs w w.heap.size u a) (hla : a.length ≤ 1048576) :
    Calls Try.prog 55 #[u, .slice (some ⟨w.heap.size, 0, none⟩) 2 2] (w.alloc (.cells #[.int .i64 0, .int .i64 (a.length : Int)] 3)) fun e w' => ∃ r ps, e = .returned (.tuple #[r, .int .i64 0]) ∧ Dv w' w.heap.size w.heap.size r 2 ps ∧ ps.map (·.2) = [[], a] ∧ Below w.heap.size w w' := by
  have hi := Is.two w 0 (a.length : Int) (by decide) (by simp [Lit.wf, IntKind.min, IntKind.max, IntKind.signed, IntKind.bits]; omega)
  have C := cut_dv hi (by simp) (by simp) (ha.alloc (Nat.le_refl _) _) (by simp) (by omega) (by simp) (by simp)
  exact C.mono fun e w' ⟨r, ps, h1, h2, h3, h4⟩ => ⟨r, ps, h1, h2.more (by simp) (by simp), by rw [h3]; exact cutsL_two a, alloc_below h4⟩

set_option maxRecDepth 100000 in
set_option maxHeartbeats 4000000 in
theorem calls_any {a b : List UInt8} {u v : Value} {w : World} (ha : Bs w w.heap.size u a) (hb : Bs w w.heap.size v b) (hla : a.length ≤ 1048576) (hlb : b.length ≤ 1048576) :
    Calls Try.prog 12 #[u, v] w fun e w' => ∃ r ps, e = .returned r ∧ Dv w' w.heap.size w.heap.size r 8 ps ∧ ps.map (·.2) = callsL a b ∧ Below w.heap.size w w' := by
  obtain ⟨AA, cA, rfl⟩ := ha.shape
  obtain ⟨AB, cB, rfl⟩ := hb.shape
  have HA := Lib.hid ha; have HBB := Lib.hid hb
  have C1 := Lib.hid (k_xor ha hb hla hlb)
  clear ha hb
  go_enter Try.func12, Try.ntmps12
  go_wp2_with fail
  with_reducible refine (C1.out).mono ?_
  rintro e1 w1 ⟨x, rfl, ho1, hb1⟩
  have hz1 := hb1.size
  obtain ⟨XR, hXR⟩ : ∃ XR, XR = xorR [a, b] := ⟨_, rfl⟩
  obtain ⟨XE, hXE⟩ : ∃ XE, XE = xorE [a, b] := ⟨_, rfl⟩
  rw [← hXR] at ho1
  rw [← hXE]
  have HXR := Lib.hid hXR
  obtain ⟨Ax, cx, rfl⟩ := ho1.shape
  clear hXR hXE
  have A1 := Lib.hid ((Acc.nil w w.heap.size).push hb1 ho1 (Nat.le_refl _) (Nat.le_refl _))
  have B1 := Lib.hid hb1
  have C2 := Lib.hid (k_cut (HA.out.below hb1 (Nat.le_refl _) |>.more hz1) hla)
  clear ho1 hb1 C1
  go_wp2_with fail
  with_reducible refine (C2.out).mono ?_
  rintro e2 w2 ⟨p, pc, rfl, hd2, hpc, hb2⟩
  have hz2 := hb2.size
  have A2 := Lib.hid (A1.out.pushes hb2 hd2.acc (Nat.le_refl _) hz1)
  have B2 := Lib.hid (B1.out.trans (hb2.mono hz1))
  have D2 := Lib.hid hd2; have HPC := Lib.hid hpc
  have C3 := Lib.hid (hex_any (HA.out.below B2.out (Nat.le_refl _)) B2.out.size (by omega))
  clear hd2 hb2 hpc C2 A1 B1
  go_wp2_with fail
  with_reducible refine (C3.out).mono ?_
  rintro e3 w3 ⟨rfl, hb3⟩
  have hz3 := hb3.size
  have C4 := unhex_all (hexL a) (by rw [hexL_len]; omega) w3
  rw [(unhex_hex a).1, (unhex_hex a).2] at C4
  obtain ⟨HS, hHS⟩ : ∃ HS, HS = bstr (hexL a) := ⟨_, rfl⟩
  rw [← hHS] at C4 ⊢
  have C4 := Lib.hid C4
  have B3 := Lib.hid hb3
  clear hb3 C3 hHS
  go_wp2_with fail
  with_reducible refine (C4.out).mono ?_
  rintro e4 w4 ⟨uh, rfl, ho4, hb4⟩
  have hz4 := hb4.size
  obtain ⟨Au, cu, rfl⟩ := ho4.shape
  have hb24 := B3.out.trans (hb4.mono hz3)
  have A4 := Lib.hid (A2.out.push hb24 ho4 hz3 (by omega))
  have B4 := Lib.hid (B2.out.trans (hb24.mono (by omega)))
  have D4 := Lib.hid (D2.out.below hb24)
  obtain ⟨PE, hPE⟩ : ∃ PE, PE = padE a ((a.length : Int) + 5) := ⟨_, rfl⟩
  obtain ⟨PR, hPR⟩ : ∃ PR, PR = padR a ((a.length : Int) + 5) := ⟨_, rfl⟩
  have C5 := pad_all (n := (a.length : Int) + 5) (HA.out.below B4.out (Nat.le_refl _)) B4.out.size
  rw [← hPE, ← hPR] at C5
  have C5 := Lib.hid C5
  have HPR := Lib.hid hPR
  clear ho4 hb4 hb24 C4 A2 B2 B3 D2 hPE hPR
  go_wp2_with fail
  with_reducible refine (C5.out).mono ?_
  rintro e5 w5 ⟨q, rfl, ho5, hb5⟩
  have hz5 := hb5.size
  obtain ⟨Aq, cq, rfl⟩ := ho5.shape
  have A5 := Lib.hid (A4.out.push hb5 ho5 (Nat.le_refl _) (by omega))
  have B5 := Lib.hid (B4.out.trans (hb5.mono (by omega)))
  have D5 := Lib.hid (D4.out.below hb5)
  have C6 := Lib.hid (newcursor_any (HBB.out.below B5.out (Nat.le_refl _)) B5.out.size (by omega))
  clear ho5 hb5 C5 A4 B4 D4
  go_wp2_with fail
  with_reducible refine (C6.out).mono ?_
  rintro e6 w6 ⟨gc, rfl, hc6, hb6⟩
  have hz6 := hb6.size
  have C7 := take_ok (N := b.length) hc6 (by omega) (by omega)
  rw [List.drop_zero, List.take_length] at C7
  have C7 := Lib.hid C7
  have hgc : w5.heap.size ≤ gc := by obtain ⟨_, _, h, _⟩ := hc6; exact h
  have B6 := Lib.hid hb6
  clear hc6 hb6 C6
  go_wp2_with fail
  with_reducible refine (C7.out).mono ?_
  rintro e7 w7 ⟨t, rfl, ho7, _, hg7⟩
  have hz7 := hg7.size
  obtain ⟨At, ct, rfl⟩ := ho7.shape
  have hb57 := B6.out.grown hg7 hz6 (fun j hj => by simp only [Option.some.injEq] at hj; omega)
  have A7 := Lib.hid (A5.out.push hb57 ho7 hz6 (by omega))
  have B7 := Lib.hid (B5.out.trans (hb57.mono (by omega)))
  have D7 := Lib.hid (D5.out.below hb57)
  have C8 := Lib.hid (k_join2 ((HA.out.below B7.out (Nat.le_refl _)).more B7.out.size) ((HBB.out.below B7.out (Nat.le_refl _)).more B7.out.size) hla hlb)
  clear ho7 hg7 hb57 C7 A5 B5 D5 B6
  go_wp2_with fail
  with_reducible refine (C8.out).mono ?_
  rintro e8 w8 ⟨j1, rfl, ho8, hb8⟩
  have hz8 := hb8.size
  obtain ⟨M, hM⟩ : ∃ M, M = a ++ b := ⟨_, rfl⟩
  rw [← hM] at ho8
  have HM := Lib.hid hM
  obtain ⟨Aj, cj, rfl⟩ := ho8.shape
  have A8 := Lib.hid (A7.out.push hb8 ho8 (Nat.le_refl _) (by omega))
  have B8 := Lib.hid (B7.out.trans (hb8.mono (by omega)))
  have D8 := Lib.hid (D7.out.below hb8)
  have C9 := Lib.hid (k_join1 ((HA.out.below B8.out (Nat.le_refl _)).more B8.out.size) hla)
  clear ho8 hb8 C8 A7 B7 D7 hM
  go_wp2_with fail
  with_reducible refine (C9.out).mono ?_
  rintro e9 w9 ⟨j2, rfl, ho9, hb9⟩
  have hz9 := hb9.size
  obtain ⟨Ak, ck, rfl⟩ := ho9.shape
  have a9 := (A8.out.push hb9 ho9 (Nat.le_refl _) (by omega)).perm (perm8 _ _ _ _ _ _ pc)
  have al9 : Below w9.heap.size w9 (w9.alloc (.cells #[.slice Aj M.length cj, .slice Ak a.length ck, .slice Ax XR.length cx, .slice Au a.length cu, .slice Aq PR.length cq, .slice At b.length ct] 22)) := (Below.refl _ _).alloc (Nat.le_refl _) _
  have A9 := Lib.hid (a9.below al9)
  have L9 : Hid ((w9.alloc (.cells #[.slice Aj M.length cj, .slice Ak a.length ck, .slice Ax XR.length cx, .slice Au a.length cu, .slice Aq PR.length cq, .slice At b.length ct] 22)).ownsRow w9.heap.size 22 1 (.slice (some ⟨w9.heap.size, 0, none⟩) 6 6) 6 ([(.slice Aj M.length cj, M), (.slice Ak a.length ck, a), (.slice Ax XR.length cx, XR), (.slice Au a.length cu, a), (.slice Aq PR.length cq, PR), (.slice At b.length ct, b)].map (·.1))) := Lib.hid (Dv.lit (n := 6) (ps := [(.slice Aj M.length cj, M), (.slice Ak a.length ck, a), (.slice Ax XR.length cx, XR), (.slice Au a.length cu, a), (.slice Aq PR.length cq, PR), (.slice At b.length ct, b)]) (B := w.heap.size) ⟨fun p hp => a9.own p (List.mem_append_left _ hp), (List.pairwise_append.1 a9.dis).1⟩ rfl (by unfold maxLen; omega)).row
  have B9 := Lib.hid ((B8.out.trans (hb9.mono (by omega))).trans (al9.mono (by omega)))
  have D9 := Lib.hid ((D8.out.below hb9).below al9)
  clear ho9 hb9 C9 A8 B8 D8 a9 al9
  go_wp2_with (at_builtin; with_reducible refine wpList_appD rfl (.tmp 65) (.tmp 66) rfl rfl L9.out rfl D9.out.row (by omega) A9.out (by omega) (by simp) ?_)
  intro r wf hdv hgf
  have BF := Lib.hid (B9.out.grown hgf B9.out.size (fun j hj => by simp only [Value.ownBlock, Option.some.injEq] at hj; omega))
  have HD := Lib.hid (hdv.more (R' := w.heap.size) (by omega) (Nat.le_refl _))
  clear hdv hgf
  go_wp2
  go_ret
  refine ⟨_, _, rfl, HD.out, ?_, BF.out⟩
  show [M, a, XR, a, PR, b] ++ pc.map (·.2) = _
  rw [HPC.out, HXR.out, HPR.out, HM.out]
  rfl
end Go.Proofs.Ytajhpebefehciaa
