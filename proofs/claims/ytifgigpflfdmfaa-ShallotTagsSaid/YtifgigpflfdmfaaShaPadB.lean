/- (the padding alone) Padding of SHA-256: the reference's and sha's. -/
import Derived.Test.YtifgigpflfdmfaaRefPut
import Derived.Test.YtifgigpflfdmfaaJoin
import Derived.Test.YtifgigpflfdmfaaEqual
namespace Go.Proofs.Ytifgigpflfdmfaa
open Go.RowKit

def zs (m : Nat) : List UInt8 := List.replicate m 0
theorem zs_len (m : Nat) : (zs m).length = m := by simp [zs]
def lenV : Value → Nat
  | .slice _ n _ => n
  | _ => 0
theorem Own.shapeN {w : World} {B n : Nat} {v : Value} {l : List UInt8} (h : Own w B v l) (hn : l.length = n) : ∃ A c, v = .slice A n c := by
  subst hn
  obtain ⟨A, c, hv, _⟩ := h.bs
  exact ⟨A, c, hv⟩

/-- how many noughts stand in the padding of n bytes -/
def padZ (n : Nat) : Nat := (64 - (n + 9) % 64) % 64
def padS (n : Nat) : List UInt8 := 128 :: (zs (padZ n) ++ putL 2 8 (n * 8))
theorem padZ_lt (n : Nat) : padZ n < 64 := Nat.mod_lt _ (by decide)

theorem fits8 (n : Nat) (hn : n ≤ 1152921504606846975) : (((n * 8 : Nat) : Int) / 2 ^ (8 * 8) != 0) = false := by
  rw [bne_eq_false_iff_eq]; omega
theorem refput8 (n : Nat) (hn : n ≤ 1152921504606846975) (w : World) :
    Calls Try.prog 90 #[.int .i64 2, .int .i64 8, .int .u64 ((n : Int) * 8)] w fun e w' => ∃ v, e = .returned (.tuple #[v, .int .i64 0]) ∧ Own w' w.heap.size v (putL 2 8 (n * 8)) ∧ Below w.heap.size w w' := by
  have h := refput_big_ok 8 (n * 8) (by omega) (by omega) (by omega) (fits8 n hn) w
  rw [Int.natCast_mul] at h
  exact h
theorem put8 (n : Nat) (hn : n ≤ 1152921504606846975) (w : World) :
    Calls Try.prog 83 #[.int .i64 2, .int .i64 8, .int .u64 (8 * (n : Int))] w fun e w' => ∃ v, e = .returned (.tuple #[v, .int .i64 0]) ∧ Own w' w.heap.size v (putL 2 8 (n * 8)) ∧ Below w.heap.size w w' := by
  have h := put_big 8 (n * 8) (by omega) (by omega) (fits8 n hn) w
  rw [Int.natCast_mul, Int.mul_comm] at h
  exact h

set_option maxHeartbeats 800000 in
theorem refpadding_any (n : Nat) (hn : n ≤ 1152921504606846975) (w : World) :
    Calls Try.prog 85 #[.int .i64 n] w fun e w' => ∃ v, e = .returned v ∧ Own w' w.heap.size v (padS n) ∧ Below w.heap.size w w' := by
  have q0 : Own (w.alloc (.cells #[.int .u8 128] 5)) w.heap.size (.slice (some ⟨w.heap.size, 0, none⟩) 1 1) (128 :: zs 0) :=
    Own.of_cells (l := [128]) (heap_alloc_new w _) (Nat.le_refl _) (by unfold maxLen; simp) rfl
  have Q0 := Lib.hid q0
  have hb0 : Below w.heap.size w (w.alloc (.cells #[.int .u8 128] 5)) := (Below.refl _ _).alloc (Nat.le_refl _) _
  have hZ := padZ_lt n
  obtain ⟨Z, hZe⟩ : ∃ Z, padZ n = Z := ⟨_, rfl⟩
  have hZd : Z = (64 - (n + 9) % 64) % 64 := by rw [← hZe]; rfl
  rw [hZe] at hZ
  have HZ := Lib.hid hZe; have HZD := Lib.hid hZd
  clear q0 hZe hZd
  go_enter Try.func85, Try.ntmps85
  go_wp2
  go_loopw [3] (fun b wr => ∃ k : Nat, k ≤ Z ∧ Below w.heap.size w wr ∧ Hid (Own wr w.heap.size b (128 :: zs k))) (fun b _ => 65 - lenV b)
  case atStart => exact ⟨0, Nat.zero_le _, hb0, Q0⟩
  case round =>
    obtain ⟨k, hk, hbel, hown⟩ := hrel
    clear Q0 hb0
    obtain ⟨As, cs, rfl⟩ := hown.out.shapeN (n := k + 1) (by simp [zs_len])
    by_cases hlt : k < Z
    · have g : (((n : Int) + ((k + 1 : Nat) : Int) + 8) % 64 == 0) = false := by
        rw [beq_eq_false_iff_ne]
        have := HZD.out
        omega
      have hsz := hbel.size
      have ha1 : Own (wr.alloc (.cells #[.int .u8 0] 5)) w.heap.size (.slice As (k + 1) cs) (128 :: zs k) := hown.out.alloc _
      have ha2 : Bs (wr.alloc (.cells #[.int .u8 0] 5)) (wr.heap.size + 1) (.slice (some ⟨wr.heap.size, 0, none⟩) 1 1) [0] := Bs.lit wr [0] (by unfold maxLen; simp)
      have HA1 := Lib.hid ha1; have HA2 := Lib.hid ha2; clear ha1 ha2
      go_wp2_with (at_builtin; refine wpList_app rfl (.tmp 14) (.tmp 15) rfl rfl HA1.out rfl HA2.out (by simp [zs_len]; omega) (by simp; omega) ?_)
      intro v' w3 hown3 hg3 _
      have hb3 : Below w.heap.size w w3 := grown_below (hbel.alloc hsz _) hg3 (by simp; omega) HA1.out
      have hl3 : (128 :: zs k) ++ [0] = 128 :: zs (k + 1) := by simp [zs, List.replicate_succ']
      have hown3 : Own w3 w.heap.size v' (128 :: zs (k + 1)) := by rw [← hl3]; exact hown3
      have HO3 := Lib.hid hown3
      obtain ⟨A3, c3, rfl⟩ := hown3.shapeN (n := k + 2) (by simp [zs_len])
      clear hown3 hg3 HA1 HA2 hown hl3
      go_wp2
      go_roundw
      case rel => exact ⟨k + 1, by omega, hb3, HO3⟩
      case measure => simp [lenV]; omega
    · obtain rfl : k = Z := by omega
      have g : (((n : Int) + ((k + 1 : Nat) : Int) + 8) % 64 == 0) = true := by
        rw [beq_iff_eq]
        have := HZD.out
        omega
      have hsz := hbel.size
      have c8 : Hid (Calls Try.prog 90 #[.int .i64 2, .int .i64 8, .int .u64 ((n : Int) * 8)] wr fun e w' => ∃ v, e = .returned (.tuple #[v, .int .i64 0]) ∧ Own w' wr.heap.size v (putL 2 8 (n * 8)) ∧ Below wr.heap.size wr w') := refput8 n hn wr
      go_wp2_with fail
      refine (c8.out).mono ?_
      rintro e w4 ⟨v4, rfl, ho4, hbb4⟩
      have hb4 := hbel.trans (hbb4.mono hsz)
      have hz4 := hb4.size
      have ho1 := hown.out.below hbb4 (Nat.le_refl _)
      have HO1 := Lib.hid ho1; have HB4 := Lib.hid ho4.bs
      have hp4 : (putL 2 8 (n * 8)).length = 8 := putL_length _ _ _
      have HP4 := Lib.hid hp4
      obtain ⟨A4, c4, rfl⟩ := ho4.shapeN hp4
      clear ho1 ho4 hp4 hbb4 hown c8
      go_wp2_with (at_builtin; refine wpList_app rfl (.tmp 24) (.tmp 25) rfl rfl HO1.out rfl HB4.out (by rw [HP4.out]; simp [zs_len]; omega) (by omega) ?_)
      intro v5 w5 ho5 hg5 _
      have hb5 : Below w.heap.size w w5 := grown_below hb4 hg5 (by omega) HO1.out
      have hS : (128 :: zs k) ++ putL 2 8 (n * 8) = padS n := by rw [padS, HZ.out]; rfl
      have ho5 : Own w5 w.heap.size v5 (padS n) := by rw [← hS]; exact ho5
      have HO5 := Lib.hid ho5
      clear ho5 hS hg5
      go_wp2
      go_ret
      exact ⟨_, rfl, HO5.out, hb5⟩
set_option maxHeartbeats 800000 in
theorem padding_any (n : Nat) (hn : n ≤ 1152921504606846975) (w : World) :
    Calls Try.prog 82 #[.int .i64 n] w fun e w' => ∃ v, e = .returned v ∧ Own w' w.heap.size v (padS n) ∧ Below w.heap.size w w' := by
  have c8 : Hid (Calls Try.prog 83 #[.int .i64 2, .int .i64 8, .int .u64 (8 * (n : Int))] w fun e w' => ∃ v, e = .returned (.tuple #[v, .int .i64 0]) ∧ Own w' w.heap.size v (putL 2 8 (n * 8)) ∧ Below w.heap.size w w') := put8 n hn w
  have hZ := padZ_lt n
  have hE : ((64 - ((n : Int) + 1 + 8) % 64) % 64) = ((padZ n : Nat) : Int) := by unfold padZ; omega
  obtain ⟨Z, hZe⟩ : ∃ Z, padZ n = Z := ⟨_, rfl⟩
  rw [hZe] at hZ hE
  have HZ := Lib.hid hZe; have HE := Lib.hid hE
  clear hZe hE
  go_enter Try.func82, Try.ntmps82
  go_wp2_with fail
  rw [HE.out]
  refine (c8.out).mono ?_
  rintro e w4 ⟨v4, rfl, ho4, hb4⟩
  have hmk := run_make_row' (P := Try.prog) 22 5 (.int .u8 0) 1 Try.underlying22 u8info rfl .i64 .i64 Z (by omega) (by omega)
  have hz4 := hb4.size
  have b1 : Bs (w4.alloc (.cells #[.int .u8 128] 5)) (w4.heap.size + 1) (.slice (some ⟨w4.heap.size, 0, none⟩) 1 1) [128] := Bs.lit w4 [128] (by unfold maxLen; simp)
  have b2 : Bs ((w4.alloc (.cells #[.int .u8 128] 5)).alloc (.cells (madeCells #[Value.int .u8 0] Z) 5)) (w4.heap.size + 2) (.slice (some ⟨w4.heap.size + 1, 0, none⟩) Z Z) (zs Z) := by
    have hr := World.rowIs_made (w4.alloc (.cells #[.int .u8 128] 5)) (.int .u8 0) Z 5
    have h := (Own.of_row (l := zs Z) (hr.congr fun j hj => by simp [zs, hj, vb]) (Nat.le_refl _) (by unfold maxLen; omega) (zs_len Z)).bs
    have e : ((w4.alloc (.cells #[.int .u8 128] 5)).alloc (.cells (madeCells #[Value.int .u8 0] Z) 5)).heap.size = w4.heap.size + 2 := by simp
    have e' : (w4.alloc (.cells #[.int .u8 128] 5)).heap.size = w4.heap.size + 1 := by simp
    rw [e, e'] at h
    exact h
  have b1' := b1.alloc (by simp) (.cells (madeCells #[Value.int .u8 0] Z) 5)
  have b3' := (ho4.bs.alloc (Nat.le_refl _) (.cells #[.int .u8 128] 5)).alloc (by simp) (.cells (madeCells #[Value.int .u8 0] Z) 5)
  have hp4 : (putL 2 8 (n * 8)).length = 8 := putL_length _ _ _
  obtain ⟨A4, c4, rfl⟩ := ho4.shapeN hp4
  have hr : Rs (((w4.alloc (.cells #[.int .u8 128] 5)).alloc (.cells (madeCells #[Value.int .u8 0] Z) 5)).alloc (.cells #[.slice (some ⟨w4.heap.size, 0, none⟩) 1 1, .slice (some ⟨w4.heap.size + 1, 0, none⟩) Z Z, .slice A4 8 c4] 22)) (w4.heap.size + 1 + 1 + 1) (.slice (some ⟨w4.heap.size + 1 + 1, 0, none⟩) 3 3) [[128], zs Z, putL 2 8 (n * 8)] := by
    have hsz : ((w4.alloc (.cells #[.int .u8 128] 5)).alloc (.cells (madeCells #[Value.int .u8 0] Z) 5)).heap.size = w4.heap.size + 1 + 1 := by simp
    have hr := Rs.lit ((w4.alloc (.cells #[.int .u8 128] 5)).alloc (.cells (madeCells #[Value.int .u8 0] Z) 5)) [.slice (some ⟨w4.heap.size, 0, none⟩) 1 1, .slice (some ⟨w4.heap.size + 1, 0, none⟩) Z Z, .slice A4 8 c4] [[128], zs Z, putL 2 8 (n * 8)] rfl (by unfold maxLen; simp) (fun j h h' => by
      rcases j with _ | _ | _ | j
      · exact b1'.more (by simp)
      · exact b2.more (by simp)
      · exact b3'.more (by simp; omega)
      · exact absurd h (by simp))
    rw [hsz] at hr
    exact hr
  have c9 := join_any hr (by simp) (by simp [zs_len, hp4]; omega)
  have hS : ([[128], zs Z, putL 2 8 (n * 8)] : List (List UInt8)).flatten = padS n := by simp [padS, HZ.out]
  rw [hS] at c9
  have C9 := Lib.hid c9
  have hb9 : Below w.heap.size w (((w4.alloc (.cells #[.int .u8 128] 5)).alloc (.cells (madeCells #[Value.int .u8 0] Z) 5)).alloc (.cells [.slice (some ⟨w4.heap.size, 0, none⟩) 1 1, .slice (some ⟨w4.heap.size + 1, 0, none⟩) Z Z, .slice A4 8 c4].toArray 22)) := ((hb4.alloc hz4 _).alloc (by simp; omega) _).alloc (by simp; omega) _
  clear c9 hr b3' b1' b2 b1 hS hp4 ho4 c8 HE
  go_wp2_with fail
  refine (C9.out).mono ?_
  rintro e w10 ⟨v10, rfl, ho10, hbb10⟩
  have hb10 := hb9.trans (hbb10.mono hb9.size)
  have ho10 := ho10.more hb9.size
  clear hbb10 C9 hb9
  go_wp2
  go_ret
  exact ⟨_, rfl, ho10, hb10⟩
end Go.Proofs.Ytifgigpflfdmfaa
