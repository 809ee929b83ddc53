/- The law CodecGets, walked: every number that is read out of bytes is the one that stands there, or the call says why there is none. -/
import Derived.Test.YtpimklpkjinhiaaAwake
import Derived.Deep.RegionHeld3
namespace Go.Proofs.Ytpimklpkjinhiaa
open Go.RowKit

set_option maxHeartbeats 400000 in
theorem gets_walk {l : List UInt8} {xs : List (List Int)} {v u : Value} {w : World} (hb : Bs w w.heap.size v l) (hl : l.length ≤ 140737488355328) (hx : Ss w w.heap.size u 3 xs) :
    Calls Try.prog 4 #[v, u] w fun e w' => e = .returned (.bool true) ∧ Below w.heap.size w w' := by
  have q0 : Bs (w.alloc (.cells #[.int .u8 9, .int .u8 2, .int .u8 1] 5)) (w.heap.size + 1) (.slice (some ⟨w.heap.size, 0, none⟩) 3 3) [9, 2, 1] := Bs.lit w [9, 2, 1] (by unfold maxLen; simp)
  have c0 : Calls Try.prog 17 #[.int .i64 1, .slice (some ⟨w.heap.size, 0, none⟩) 3 3, .int .i64 1, .int .i64 2] (w.alloc (.cells #[.int .u8 9, .int .u8 2, .int .u8 1] 5)) fun e w' => e = .returned (.tuple #[.int .u64 258, .int .i64 0]) ∧ (w.alloc (.cells #[.int .u8 9, .int .u8 2, .int .u8 1] 5)) = w' := get_ok (o := 1) (K := 2) (a := 1) (by decide) q0 (by simp)
  have C0 := Lib.hid c0; clear c0 q0
  obtain ⟨A, c, rfl, h1, h2, h3⟩ := hx
  have H3 := Lib.hid h3; clear h3
  obtain ⟨Ab, cb, rfl⟩ := hb.shape
  have HB := Lib.hid hb; clear hb
  unfold maxLen at h2
  have hbel0 : Below w.heap.size w (w.alloc (.cells #[.int .u8 9, .int .u8 2, .int .u8 1] 5)) := (Below.refl _ _).alloc (Nat.le_refl _) _
  go_enter Try.func4, Try.ntmps4
  go_wp2_with fail
  refine (C0.out).mono ?_
  rintro e w1 ⟨rfl, rfl⟩
  go_wp2_with fail
  go_loopw [26] (fun i wr => ∃ k : Nat, k ≤ xs.length ∧ i = .int .i64 k ∧ Below w.heap.size w wr) (fun i _ => xs.length - (intOf i).toNat)
  case atStart => exact ⟨0, Nat.zero_le _, rfl, hbel0⟩
  case round =>
    obtain ⟨k, hk, rfl, hbel⟩ := hrel
    by_cases hlt : k < xs.length
    · obtain ⟨b, off, rfl, hbB, hc⟩ := H3.out (by omega)
      obtain ⟨hf, hcc⟩ := hc k hlt
      obtain ⟨o, a, m, hxk⟩ : ∃ o a m, xs[k] = [o, a, m] := by
        match hxk : xs[k], hf with
        | [o, a, m], _ => exact ⟨o, a, m, rfl⟩
      simp only [hxk] at hcc
      have g0 := (hbel.cell (p := ⟨b, off + k * 3 + 0, none⟩) (by show b < _; omega)).trans (hcc 0 (by simp)).1
      have g1 := (hbel.cell (p := ⟨b, off + k * 3 + 1, none⟩) (by show b < _; omega)).trans (hcc 1 (by simp)).1
      have g2 := (hbel.cell (p := ⟨b, off + k * 3 + 2, none⟩) (by show b < _; omega)).trans (hcc 2 (by simp)).1
      simp at g0 g1 g2
      have ha : a ≤ 9223372036854775807 := by
        have h := (hcc 1 (by simp)).2
        have hx : -9223372036854775808 ≤ a ∧ a ≤ 9223372036854775807 := by simpa [Lit.wf, IntKind.min, IntKind.max, IntKind.signed, IntKind.bits] using h
        omega
      clear hc hcc hxk hf
      have hbW : Below w.heap.size w (wr.alloc (.cells #[.int .i64 o, .int .i64 a, .int .i64 m] 36)) := hbel.alloc hbel.size _
      have c0 : (wr.alloc (.cells #[.int .i64 o, .int .i64 a, .int .i64 m] 36)).drew.cell? ⟨wr.heap.size, 0, none⟩ = some (.int .i64 o) := by simp
      have c1 : (wr.alloc (.cells #[.int .i64 o, .int .i64 a, .int .i64 m] 36)).drew.cell? ⟨wr.heap.size, 1, none⟩ = some (.int .i64 a) := by simp
      have c2 : (wr.alloc (.cells #[.int .i64 o, .int .i64 a, .int .i64 m] 36)).drew.cell? ⟨wr.heap.size, 2, none⟩ = some (.int .i64 m) := by simp
      obtain ⟨x, hx⟩ : ∃ x, getR o m a l = x := ⟨_, rfl⟩
      have HX := Lib.hid hx; clear hx
      have hsz : wr.heap.size < (wr.alloc (.cells #[.int .i64 o, .int .i64 a, .int .i64 m] 36)).heap.size := by simp
      have HW := Lib.hid hbW.drew; have HZ : Has (wr.alloc (.cells #[.int .i64 o, .int .i64 a, .int .i64 m] 36)).drew wr.heap.size := hsz
      clear hbW hsz
      go_wp2_with fail
      go_region_held3 (fun w' => w'.cell? ⟨wr.heap.size, 0, none⟩ = some (.int .i64 o) ∧ w'.cell? ⟨wr.heap.size, 1, none⟩ = some (.int .i64 a) ∧ w'.cell? ⟨wr.heap.size, 2, none⟩ = some (.int .i64 m) ∧ Hid (Below w.heap.size w w') ∧ Has w' wr.heap.size)
        (first | exact ⟨c0, c1, c2, HW, HZ⟩ | exact ⟨n0, n1, n2, HW2, HZ2⟩ | exact ⟨by assumption, by assumption, by assumption, by assumption, by assumption⟩)
        (first
          | (go_at_call 18; refine (copy_any (l := l) (B := w.heap.size) ?_ ?_ hl).mono ?_; exact bs_of HW HB.out; exact size_of HW; rintro e w2 ⟨u2, rfl, ho2, hb2⟩; have n0 : w2.cell? ⟨wr.heap.size, 0, none⟩ = some (.int .i64 o) := Has.cell HZ hb2 c0; have n1 : w2.cell? ⟨wr.heap.size, 1, none⟩ = some (.int .i64 a) := Has.cell HZ hb2 c1; have n2 : w2.cell? ⟨wr.heap.size, 2, none⟩ = some (.int .i64 m) := Has.cell HZ hb2 c2; have HZ2 : Has w2 wr.heap.size := Has.below HZ hb2; have HW2 : Hid (Below w.heap.size w w2) := hid_trans HW hb2)
          | (go_at_call 17; refine (get_all ho2.bs (by omega)).mono ?_; rintro e w3 ⟨rfl, rfl⟩; rw [HX.out]))
      have hbq : Bs w2 w.heap.size (.slice Ab l.length cb) l := bs_of HW2 HB.out
      have HQ := Lib.hid hbq; clear hbq hb2 ho2 hbel
      go_wp2_with fail
      refine (refget_all HQ.out (by omega)).mono ?_
      rintro e w3 ⟨rfl, rfl⟩
      rw [HX.out]
      go_wp2
      go_roundw
      case rel => exact ⟨k + 1, by omega, by go_num, HW2.out⟩
      case measure => simp [intOf]; omega
    · go_wp2
      go_ret
      exact ⟨rfl, hbel⟩
end Go.Proofs.Ytpimklpkjinhiaa
