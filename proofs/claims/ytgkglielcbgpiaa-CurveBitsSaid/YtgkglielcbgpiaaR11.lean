/- The reference's Inv. -/
import Derived.Test.YtgkglielcbgpiaaR10
namespace Go.Proofs.Ytgkglielcbgpiaa
open Go.RowKit

/-- p - 2 as bytes -/
def eInv : List UInt8 := [235, 255, 255, 255, 255, 255, 255, 255, 255, 255, 255, 255, 255, 255, 255, 255, 255, 255, 255, 255, 255, 255, 255, 255, 255, 255, 255, 255, 255, 255, 255, 127]
/-- the inverse: the power p - 2 -/
def invP (V : Nat) : Nat := V ^ numL eInv % PP
theorem numL_eInv : numL eInv = PP - 2 := by decide +kernel

theorem E8.one {w : World} {g h V k : Nat} {v : Value} (e : E8 w h V) (hn : h ≠ g) : E8 (w.setCell ⟨g, k, none⟩ v) h V := by
  have q : ∀ i, (w.setCell ⟨g, k, none⟩ v).cell? ⟨h, i, none⟩ = w.cell? ⟨h, i, none⟩ := fun i => World.cell?_setCell_far w ⟨g, k, none⟩ ⟨h, i, none⟩ v (fun x => hn x.symm)
  have r : ∀ i, (w.setCell ⟨g, k, none⟩ v).frozen? ⟨h, i, none⟩ = w.frozen? ⟨h, i, none⟩ := fun i => World.frozen?_setCell ..
  exact ⟨(q _).trans e.c0, (q _).trans e.c1, (q _).trans e.c2, (q _).trans e.c3, (q _).trans e.c4, (q _).trans e.c5, (q _).trans e.c6, (q _).trans e.c7, (r _).trans e.f0, (r _).trans e.f1, (r _).trans e.f2, (r _).trans e.f3, (r _).trans e.f4, (r _).trans e.f5, (r _).trans e.f6, (r _).trans e.f7⟩

set_option maxRecDepth 100000 in
set_option maxHeartbeats 4000000 in
theorem rinvE {V : Nat} (hV : V < W4) (w : World) : Calls Try.prog 17 #[.agg #[.int .u32 (dig (V) 0 : Int), .int .u32 (dig (V) 1 : Int), .int .u32 (dig (V) 2 : Int), .int .u32 (dig (V) 3 : Int), .int .u32 (dig (V) 4 : Int), .int .u32 (dig (V) 5 : Int), .int .u32 (dig (V) 6 : Int), .int .u32 (dig (V) 7 : Int)]] w fun e w' => e = .returned (.agg #[.int .u32 (dig (invP V) 0 : Int), .int .u32 (dig (invP V) 1 : Int), .int .u32 (dig (invP V) 2 : Int), .int .u32 (dig (invP V) 3 : Int), .int .u32 (dig (invP V) 4 : Int), .int .u32 (dig (invP V) 5 : Int), .int .u32 (dig (invP V) 6 : Int), .int .u32 (dig (invP V) 7 : Int)]) ∧ Below w.heap.size w w' := by
  have HV := Lib.hid hV
  obtain ⟨N, hN⟩ : ∃ N, N = invP V := ⟨_, rfl⟩
  rw [← hN]
  have HN := Lib.hid hN
  obtain ⟨i0, hi0, hz0, hz1, hz2⟩ := info_parts u8info
  have hmk : ∀ W : World, (Instr.makeSlice 47 (.int .i64 32) (.int .i64 32)).run Try.prog W = .ok (.slice (some ⟨W.heap.size, 0, none⟩) 32 32) (W.alloc (.cells ((List.replicate 32 (0 : UInt8)).map vb).toArray 5)) := fun W => by
    have h := run_makeSlice (P := Try.prog) (w := W) 47 5 i0 (.int .u8 0) Try.underlying47 hi0 hz0 .i64 .i64 32 32 (by omega) (by omega) (by rw [hz1]; decide) (by rw [hz2]; decide) (by omega)
    rw [hz1] at h
    have e : madeCells (Value.int .u8 0).cells ((32 : Int).toNat * 1) = ((List.replicate 32 (0 : UInt8)).map vb).toArray := by kernel_rfl
    rw [e] at h
    exact h
  have hcp : Hid (∀ (l : List UInt8) (W : World), l.length = 32 → numL l = numL eInv → Bs W W.heap.size (.slice (some ⟨w.heap.size + 1 + 1, 0, none⟩) 32 32) l → Calls Try.prog 49 #[.agg #[.int .u32 (dig (V) 0 : Int), .int .u32 (dig (V) 1 : Int), .int .u32 (dig (V) 2 : Int), .int .u32 (dig (V) 3 : Int), .int .u32 (dig (V) 4 : Int), .int .u32 (dig (V) 5 : Int), .int .u32 (dig (V) 6 : Int), .int .u32 (dig (V) 7 : Int)], .slice (some ⟨w.heap.size + 1 + 1, 0, none⟩) 32 32] W fun e w' => e = .returned (.agg #[.int .u32 (dig (N) 0 : Int), .int .u32 (dig (N) 1 : Int), .int .u32 (dig (N) 2 : Int), .int .u32 (dig (N) 3 : Int), .int .u32 (dig (N) 4 : Int), .int .u32 (dig (N) 5 : Int), .int .u32 (dig (N) 6 : Int), .int .u32 (dig (N) 7 : Int)]) ∧ Below W.heap.size W w') := Lib.hid (fun l W hl he hb => by
    have h := rpowE hV (by omega) hb
    rw [he] at h
    rw [hN]
    exact h)
  obtain ⟨z, hz⟩ : ∃ z, z = ((List.replicate 32 (0 : UInt8)).map vb).toArray := ⟨_, rfl⟩
  rw [← hz] at hmk
  have a1 : E8z (((w.alloc (.cells #[.int .u32 (dig (V) 0 : Int), .int .u32 (dig (V) 1 : Int), .int .u32 (dig (V) 2 : Int), .int .u32 (dig (V) 3 : Int), .int .u32 (dig (V) 4 : Int), .int .u32 (dig (V) 5 : Int), .int .u32 (dig (V) 6 : Int), .int .u32 (dig (V) 7 : Int)] 34)).alloc (.cells #[.int .u32 0, .int .u32 0, .int .u32 0, .int .u32 0, .int .u32 0, .int .u32 0, .int .u32 0, .int .u32 0] 34)).alloc (.cells z 5)) (w.heap.size + 1) := by
    have h := (E8z.new (w.alloc (.cells #[.int .u32 (dig (V) 0 : Int), .int .u32 (dig (V) 1 : Int), .int .u32 (dig (V) 2 : Int), .int .u32 (dig (V) 3 : Int), .int .u32 (dig (V) 4 : Int), .int .u32 (dig (V) 5 : Int), .int .u32 (dig (V) 6 : Int), .int .u32 (dig (V) 7 : Int)] 34))).below ((Below.refl _ _).alloc (Nat.le_refl _) (.cells z 5)) (by simp)
    simpa using h
  have a0 : E8 (((w.alloc (.cells #[.int .u32 (dig (V) 0 : Int), .int .u32 (dig (V) 1 : Int), .int .u32 (dig (V) 2 : Int), .int .u32 (dig (V) 3 : Int), .int .u32 (dig (V) 4 : Int), .int .u32 (dig (V) 5 : Int), .int .u32 (dig (V) 6 : Int), .int .u32 (dig (V) 7 : Int)] 34)).alloc (.cells #[.int .u32 0, .int .u32 0, .int .u32 0, .int .u32 0, .int .u32 0, .int .u32 0, .int .u32 0, .int .u32 0] 34)).alloc (.cells z 5)) w.heap.size V := ((E8.new w V).below ((Below.refl _ _).alloc (Nat.le_refl _) _) (by simp)).below ((Below.refl _ _).alloc (Nat.le_refl _) _) (by simp; omega)
  have a2 : Bw (((w.alloc (.cells #[.int .u32 (dig (V) 0 : Int), .int .u32 (dig (V) 1 : Int), .int .u32 (dig (V) 2 : Int), .int .u32 (dig (V) 3 : Int), .int .u32 (dig (V) 4 : Int), .int .u32 (dig (V) 5 : Int), .int .u32 (dig (V) 6 : Int), .int .u32 (dig (V) 7 : Int)] 34)).alloc (.cells #[.int .u32 0, .int .u32 0, .int .u32 0, .int .u32 0, .int .u32 0, .int .u32 0, .int .u32 0, .int .u32 0] 34)).alloc (.cells z 5)) (w.heap.size + 1 + 1) 5 (List.replicate 0 255 ++ List.replicate 32 0) := by
    rw [hz]
    have h := heap_alloc_new ((w.alloc (.cells #[.int .u32 (dig (V) 0 : Int), .int .u32 (dig (V) 1 : Int), .int .u32 (dig (V) 2 : Int), .int .u32 (dig (V) 3 : Int), .int .u32 (dig (V) 4 : Int), .int .u32 (dig (V) 5 : Int), .int .u32 (dig (V) 6 : Int), .int .u32 (dig (V) 7 : Int)] 34)).alloc (.cells #[.int .u32 0, .int .u32 0, .int .u32 0, .int .u32 0, .int .u32 0, .int .u32 0, .int .u32 0, .int .u32 0] 34)) (.cells ((List.replicate 32 (0 : UInt8)).map vb).toArray 5)
    simpa [Bw] using h
  have hBe : Below w.heap.size w (((w.alloc (.cells #[.int .u32 (dig (V) 0 : Int), .int .u32 (dig (V) 1 : Int), .int .u32 (dig (V) 2 : Int), .int .u32 (dig (V) 3 : Int), .int .u32 (dig (V) 4 : Int), .int .u32 (dig (V) 5 : Int), .int .u32 (dig (V) 6 : Int), .int .u32 (dig (V) 7 : Int)] 34)).alloc (.cells #[.int .u32 0, .int .u32 0, .int .u32 0, .int .u32 0, .int .u32 0, .int .u32 0, .int .u32 0, .int .u32 0] 34)).alloc (.cells z 5)) := (((Below.refl _ _).alloc (Nat.le_refl _) _).alloc (by simp) _).alloc (by simp; omega) _
  have A0 := Lib.hid a0; have A1 := Lib.hid a1; have A2 := Lib.hid a2; have HBe := Lib.hid hBe
  clear hV hN a0 a1 a2 hBe hz hi0 hz0 hz1 hz2
  go_enter Try.func17, Try.ntmps17
  go_wp2_with fail
  go_loopw [4] (fun i wr => ∃ k : Nat, k ≤ 32 ∧ i = .int .i64 k ∧ Hid (E8 wr w.heap.size V) ∧ Hid (E8z wr (w.heap.size + 1)) ∧ Hid (Bw wr (w.heap.size + 1 + 1) 5 (List.replicate k 255 ++ List.replicate (32 - k) 0)) ∧ Hid (Below w.heap.size w wr)) (fun i _ => 32 - (intOf i).toNat)
  case atStart => exact ⟨0, Nat.zero_le _, rfl, A0, A1, A2, HBe⟩
  case round =>
    clear A0 A1 A2 HBe
    obtain ⟨k, hk, rfl, ha, hz, hr, hbe⟩ := hrel
    have kn : (0 : Int) ≤ (k : Int) := Int.natCast_nonneg _
    by_cases hlt : k < 32
    · have hlen : (List.replicate k (255 : UInt8) ++ List.replicate (32 - k) 0).length = 32 := by simp; omega
      obtain ⟨q1, q2, q3⟩ := hr.out.at_ (j := k) (by rw [hlen]; exact hlt)
      have hn := q3 255
      have hse : (List.replicate k (255 : UInt8) ++ List.replicate (32 - k) 0).set k 255 = List.replicate (k + 1) 255 ++ List.replicate (32 - (k + 1)) 0 := by
        rw [List.set_append_right _ _ (by simp), List.length_replicate, Nat.sub_self, show 32 - k = (32 - (k + 1)) + 1 by omega, List.replicate_succ, List.set_cons_zero, List.replicate_succ', List.append_assoc]
        rfl
      rw [hse] at hn
      have HN2 := Lib.hid hn
      have k32 : (k : Int) < 32 := by omega
      clear q3 hn hse
      go_wp2_with fail
      go_roundw
      case rel => exact ⟨k + 1, by omega, by go_num, Lib.hid (ha.out.one (by omega)), Lib.hid (hz.out.one (by omega)), HN2, Lib.hid (hbe.out.setCell (by show _ ≤ _; simp only; omega) _)⟩
      case measure => simp [intOf]; omega
    · obtain rfl : k = 32 := by omega
      have hb1 : Bw wr (w.heap.size + 1 + 1) 5 (List.replicate 32 255) := hr.out
      obtain ⟨q1, q2, q3⟩ := hb1.at_ (j := 0) (by simp)
      have hb2 := q3 235
      obtain ⟨p1, p2, p3⟩ := hb2.at_ (j := 31) (by simp)
      have hb3 := p3 127
      have hq : ((List.replicate 32 (255 : UInt8)).set 0 235).set 31 127 = eInv := by decide
      rw [hq] at hb3
      have he : ∀ W, ((W : World).setCell ⟨w.heap.size + 1 + 1, 0, none⟩ (.int .u8 235)).setCell ⟨w.heap.size + 1 + 1, 31, none⟩ (.int .u8 127) = (W.setCell ⟨w.heap.size + 1 + 1, 0, none⟩ (.int .u8 ((235 : UInt8).toNat : Int))).setCell ⟨w.heap.size + 1 + 1, 31, none⟩ (.int .u8 ((127 : UInt8).toNat : Int)) := fun _ => rfl
      have p0 : wr.cell? ⟨w.heap.size + 1 + 1, 31, none⟩ = some (.int .u8 255) := by
        obtain ⟨r1, _, _⟩ := hb1.at_ (j := 31) (by simp)
        simpa using r1
      have p00 : wr.cell? ⟨w.heap.size + 1 + 1, 0, none⟩ = some (.int .u8 255) := by simpa using q1
      have pf : ∀ j, wr.frozen? ⟨w.heap.size + 1 + 1, j, none⟩ = false := fun j => frozen_of_row wr _ j _ _ hb1
      have ha2 := (ha.out.one (g := w.heap.size + 1 + 1) (k := 0) (v := .int .u8 235) (by omega)).one (g := w.heap.size + 1 + 1) (k := 31) (v := .int .u8 127) (by omega)
      have hz2 := (hz.out.one (g := w.heap.size + 1 + 1) (k := 0) (v := .int .u8 235) (by omega)).one (g := w.heap.size + 1 + 1) (k := 31) (v := .int .u8 127) (by omega)
      have hbb : Below w.heap.size w ((wr.setCell ⟨w.heap.size + 1 + 1, 0, none⟩ (.int .u8 235)).setCell ⟨w.heap.size + 1 + 1, 31, none⟩ (.int .u8 127)) := (hbe.out.setCell (by show _ ≤ _; simp only; omega) _).setCell (by show _ ≤ _; simp only; omega) _
      rw [← he] at hb3
      obtain ⟨W1, hW1⟩ : ∃ W1, W1 = (wr.setCell ⟨w.heap.size + 1 + 1, 0, none⟩ (.int .u8 235)).setCell ⟨w.heap.size + 1 + 1, 31, none⟩ (.int .u8 127) := ⟨_, rfl⟩
      rw [← hW1] at ha2 hz2 hbb hb3
      have C1 := Lib.hid (hcp.out eInv W1 rfl rfl ⟨_, _, rfl, by decide, by decide, fun _ => ⟨w.heap.size + 1 + 1, 0, rfl, hb3.lt, fun j hj => by rw [Nat.zero_add]; exact (hb3.at_ hj).1⟩⟩)
      have x2 : w.heap.size + 1 + 1 < W1.heap.size := hb3.lt
      have x1 : w.heap.size + 1 < W1.heap.size := by omega
      have x0 : w.heap.size < W1.heap.size := by omega
      have HA2 := Lib.hid ha2; have HZ2 := Lib.hid hz2; have HBB := Lib.hid hbb; have HW1 := Lib.hid hW1
      obtain ⟨c0, c1, c2, c3, c4, c5, c6, c7, f0, f1, f2, f3, f4, f5, f6, f7⟩ := ha.out
      clear hb1 q1 q2 q3 hb2 p1 p2 p3 hb3 he hq ha2 hz2 hbb hW1
      rw [show ((32 : Nat) : Int) = 32 from rfl]
      go_wp2_with fail
      rw [← HW1.out]
      with_reducible refine (C1.out).mono ?_
      rintro e w1 ⟨rfl, hb1⟩
      have B1 := Lib.hid hb1
      obtain ⟨hc1, hf1⟩ := bcell hb1
      have zz1 := hb1.size
      try simp only [World.size_alloc] at zz1
      have z1_0 : w.heap.size + 1 < w1.heap.size := by omega
      have z1_1 : w.heap.size < w1.heap.size := by omega
      clear hb1 zz1
      clear hc1 hf1
      obtain ⟨d0, d1, d2, d3, d4, d5, d6, d7, k0, k1, k2, k3, k4, k5, k6, k7⟩ := HZ2.out.below B1.out x1
      go_wp2_with fail
      refine bodyPost_ret (v := .agg #[.int .u32 (dig (N) 0 : Int), .int .u32 (dig (N) 1 : Int), .int .u32 (dig (N) 2 : Int), .int .u32 (dig (N) 3 : Int), .int .u32 (dig (N) 4 : Int), .int .u32 (dig (N) 5 : Int), .int .u32 (dig (N) 6 : Int), .int .u32 (dig (N) 7 : Int)]) (by simp [results, Try.results17, go_sem, *]) rfl ⟨rfl, ?_⟩
      exact set8_below (HBB.out.trans (B1.out.mono (by omega))) (g := w.heap.size + 1) (by omega) N
end Go.Proofs.Ytgkglielcbgpiaa
