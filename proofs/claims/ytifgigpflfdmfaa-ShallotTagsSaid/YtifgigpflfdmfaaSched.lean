/- The words of all rounds, as sha reckons them. -/
import Derived.Test.YtifgigpflfdmfaaRound
import Derived.Test.YtifgigpflfdmfaaGetC
namespace Go.Proofs.Ytifgigpflfdmfaa
open Go.RowKit

/-- block g holds the words l, as an array of type t -/
def Ws (w : World) (g : Nat) (t : TypeId) (l : List UInt32) : Prop := w.heap[g]? = some (.cells (l.map vw).toArray t (0, 0))
theorem Ws.at_ {w : World} {g : Nat} {t : TypeId} {l : List UInt32} (h : Ws w g t l) {j : Nat} (hj : j < l.length) :
    w.cell? ⟨g, j, none⟩ = some (.int .u32 (l[j].toNat : Int)) ∧ w.frozen? ⟨g, j, none⟩ = false ∧ ∀ x : UInt32, Ws (w.setCell ⟨g, j, none⟩ (.int .u32 (x.toNat : Int))) g t (l.set j x) := by
  refine ⟨?_, frozen_of_row w g j _ _ h, fun x => ?_⟩
  · rw [cell_of_row w g j _ _ _ h]
    simp [hj, vw]
  · unfold Ws
    rw [heap_setCell_same w g j _ _ _ h, List.map_set]
    simp [vw]
theorem Ws.grown {w w' : World} {g : Nat} {t : TypeId} {l : List UInt32} {r : Option Nat} (h : Ws w g t l) (hg : w.grownBy w' r) (hr : r ≠ some g) : Ws w' g t l :=
  (hg.block g (Array.getElem?_eq_some_iff.1 h).1 (fun e => hr e.symm)).trans h

/-- the words of a block, and those that follow from them -/
def wordB (l : List UInt8) (t : Nat) : UInt32 := UInt32.ofNat (getP 2 4 l (4 * t) 4)
def shrw (x : UInt32) (n : Nat) : UInt32 := UInt32.ofNat (x.toNat / 2 ^ n)
def small0 (x : UInt32) : UInt32 := rotr x 7 ^^^ rotr x 18 ^^^ shrw x 3
def small1 (x : UInt32) : UInt32 := rotr x 17 ^^^ rotr x 19 ^^^ shrw x 10
def growW (s : List UInt32) (k : Nat) : UInt32 := small1 (s.getD (k + 14) 0) + s.getD (k + 9) 0 + small0 (s.getD (k + 1) 0) + s.getD k 0
def schedL (l : List UInt8) : Nat → List UInt32
  | 0 => (List.range 16).map (wordB l)
  | k + 1 => schedL l k ++ [growW (schedL l k) k]
theorem schedL_len (l : List UInt8) (k : Nat) : (schedL l k).length = k + 16 := by
  induction k with
  | zero => simp [schedL]
  | succ k ih =>
    have h : (schedL l (k + 1)).length = (schedL l k).length + 1 := by simp [schedL]
    omega
def zw (n : Nat) : List UInt32 := List.replicate n 0
theorem w_shr (x : UInt32) (n : Nat) : (x.toNat : Int) / ((2 ^ n : Nat) : Int) = ((shrw x n).toNat : Int) := by
  rw [shrw, UInt32.toNat_ofNat', Nat.mod_eq_of_lt (Nat.lt_of_le_of_lt (Nat.div_le_self _ _) x.toNat_lt)]
  exact (Int.natCast_ediv _ _).symm
theorem w_shr10 (x : UInt32) : (x.toNat : Int) / 1024 = ((shrw x 10).toNat : Int) := w_shr x 10
theorem w_shr3 (x : UInt32) : (x.toNat : Int) / 8 = ((shrw x 3).toNat : Int) := w_shr x 3
theorem w_addm (a b : UInt32) : ((a.toNat : Int) + (b.toNat : Int)) % 4294967296 = ((a + b).toNat : Int) := by
  rw [← w_add, IntKind.wrap_u32']
theorem set_mid {p : List UInt32} {x : UInt32} {n : Nat} {y : UInt32} : (p ++ y :: zw n).set p.length x = (p ++ [x]) ++ zw n := by
  simp
theorem zw_succ (n : Nat) : zw (n + 1) = 0 :: zw n := rfl

set_option maxRecDepth 4000 in
set_option maxHeartbeats 6400000 in
theorem schedule_any {l : List UInt8} {v : Value} {w : World} (hb : Bs w w.heap.size v l) (hl : l.length = 64) :
    Calls Try.prog 78 #[v] w fun ex w' => ex = .returned (agg (schedL l 48)) ∧ Below w.heap.size w w' := by
  obtain ⟨A, c, hv⟩ : ∃ A c, v = .slice A 64 c := by
    obtain ⟨A, c, hv, _⟩ := hb
    rw [hl] at hv
    exact ⟨A, c, hv⟩
  subst hv
  have HB := Lib.hid hb; have HL := Lib.hid hl
  clear hb hl
  obtain ⟨Z, hZ⟩ : ∃ Z : Array Value, Z = #[.int .u32 0, .int .u32 0, .int .u32 0, .int .u32 0, .int .u32 0, .int .u32 0, .int .u32 0, .int .u32 0, .int .u32 0, .int .u32 0, .int .u32 0, .int .u32 0, .int .u32 0, .int .u32 0, .int .u32 0, .int .u32 0, .int .u32 0, .int .u32 0, .int .u32 0, .int .u32 0, .int .u32 0, .int .u32 0, .int .u32 0, .int .u32 0, .int .u32 0, .int .u32 0, .int .u32 0, .int .u32 0, .int .u32 0, .int .u32 0, .int .u32 0, .int .u32 0, .int .u32 0, .int .u32 0, .int .u32 0, .int .u32 0, .int .u32 0, .int .u32 0, .int .u32 0, .int .u32 0, .int .u32 0, .int .u32 0, .int .u32 0, .int .u32 0, .int .u32 0, .int .u32 0, .int .u32 0, .int .u32 0, .int .u32 0, .int .u32 0, .int .u32 0, .int .u32 0, .int .u32 0, .int .u32 0, .int .u32 0, .int .u32 0, .int .u32 0, .int .u32 0, .int .u32 0, .int .u32 0, .int .u32 0, .int .u32 0, .int .u32 0, .int .u32 0] := ⟨_, rfl⟩
  have hZ2 : Z = ((zw 64).map vw).toArray := by rw [hZ]; rfl
  have hw1 : Ws ((w.alloc (.cells Z 106)).alloc (.cells Z 106)) (w.heap.size + 1) 106 (zw 64) := by
    unfold Ws
    rw [← hZ2]
    exact heap_alloc2_new w _ _
  have hw0 : Ws ((w.alloc (.cells Z 106)).alloc (.cells Z 106)) w.heap.size 106 (zw 64) := by
    unfold Ws
    rw [← hZ2, heap_alloc_old _ _ (by simp)]
    exact heap_alloc_new w _
  have hbel : Below w.heap.size w ((w.alloc (.cells Z 106)).alloc (.cells Z 106)) := ((Below.refl _ _).alloc (Nat.le_refl _) _).alloc (by simp) _
  rw [hZ] at hw1 hw0 hbel
  have HW1 := Lib.hid hw1; have HW0 := Lib.hid hw0; have HBE := Lib.hid hbel
  clear hw1 hw0 hbel hZ hZ2
  go_enter Try.func78, Try.ntmps78
  go_wp2_with fail
  go_loopw [10] (fun i wr => ∃ k : Nat, k ≤ 16 ∧ i = .int .i64 k ∧ Hid (Below w.heap.size w wr) ∧ Hid (Ws wr (w.heap.size + 1) 106 ((List.range k).map (wordB l) ++ zw (64 - k))) ∧ Hid (Ws wr w.heap.size 106 (zw 64))) (fun i _ => 16 - (intOf i).toNat)
  case atStart => exact ⟨0, Nat.zero_le _, rfl, HBE, HW1, HW0⟩
  case round =>
    obtain ⟨k, hk, rfl, hbe, hw1, hw0⟩ := hrel
    clear HBE HW1 HW0
    by_cases hlt : k < 16
    · have cg : Hid (∀ W, Below w.heap.size w W → Calls Try.prog 91 #[.int .i64 2, .slice A 64 c, .int .i64 (4 * (k : Int)), .int .i64 4] W fun e w' => e = .returned (.tuple #[.int .u64 (getP 2 4 l (4 * k) 4 : Nat), .int .i64 0]) ∧ W = w') := by
        refine Lib.hid (fun W hW => ?_)
        have h := get_big (K := 4) (a := 4 * k) (w := W) (by omega) (by omega) (HB.out.below hW (Nat.le_refl _)) (by rw [HL.out]; omega)
        rw [Int.natCast_mul] at h
        exact h
      obtain ⟨N, hN⟩ : ∃ N : Nat, N = getP 2 4 l (4 * k) 4 := ⟨_, rfl⟩
      rw [← hN] at cg
      have hwrap : Hid ((N : Int) % 4294967296 = ((wordB l k).toNat : Int)) := by
        show _ = _
        rw [wordB, ← hN, UInt32.toNat_ofNat']
        omega
      clear hN
      obtain ⟨_, hf1, hset⟩ := hw1.out.at_ (j := k) (by simp [zw]; omega)
      have hlen : ((List.range k).map (wordB l)).length = k := by simp
      have hstep : ((List.range k).map (wordB l) ++ zw (64 - k)).set k (wordB l k) = (List.range (k + 1)).map (wordB l) ++ zw (64 - (k + 1)) := by
        rw [show 64 - k = (64 - (k + 1)) + 1 by omega, zw_succ]
        have h := set_mid (p := (List.range k).map (wordB l)) (x := wordB l k) (n := 64 - (k + 1)) (y := 0)
        rw [hlen] at h
        rw [h, List.range_succ, List.map_append]
        rfl
      have hset2 := hset (wordB l k)
      rw [hstep] at hset2
      have HS := Lib.hid hset2
      have hw02 : Hid (∀ u, Ws (wr.setCell ⟨w.heap.size + 1, k, none⟩ u) w.heap.size 106 (zw 64)) := Lib.hid (fun u => (Below.heap_setCell wr ⟨w.heap.size + 1, k, none⟩ u w.heap.size (by simp)).trans hw0.out)
      have hbe2 : Hid (∀ u, Below w.heap.size w (wr.setCell ⟨w.heap.size + 1, k, none⟩ u)) := Lib.hid (fun u => hbe.out.setCell (by simp) u)
      obtain ⟨x0, hx0⟩ : ∃ x0 : UInt32, wr.cell? ⟨w.heap.size + 1, k, none⟩ = some (.int .u32 (x0.toNat : Int)) := ⟨_, (hw1.out.at_ (j := k) (by simp [zw]; omega)).1⟩
      clear hset hset2 hstep hlen hw1 hw0
      have CG := Lib.hid (cg.out wr hbe.out)
      clear cg
      go_wp2_with fail
      refine (CG.out).mono ?_
      rintro e w2 ⟨rfl, rfl⟩
      go_wp2
      go_roundw
      case rel => exact ⟨k + 1, by omega, by go_num, hbe2.out _, by rw [hwrap.out]; exact HS, hw02.out _⟩
      case measure => simp [intOf]; omega
    · have hw1' : Hid (Ws wr (w.heap.size + 1) 106 (schedL l 0 ++ zw 48)) := by
        obtain rfl : k = 16 := by omega
        exact hw1
      have hge : decide ((k : Int) < 16) = false := by simp; omega
      obtain ⟨kk, hkk⟩ : ∃ kk : Int, kk = (k : Int) := ⟨_, rfl⟩
      rw [← hkk]
      rw [← hkk] at hge
      clear hw1 hkk hlt hk
      go_wp2_with fail
      go_loopw [7, 8, 9] (fun i _ _ wr => ∃ k : Nat, k ≤ 48 ∧ i = .int .i64 ((k : Int) + 16) ∧ Hid (Below w.heap.size w wr) ∧ Hid (Ws wr (w.heap.size + 1) 106 (schedL l k ++ zw (48 - k))) ∧ Hid (Ws wr w.heap.size 106 (zw 64))) (fun i _ _ _ => 64 - (intOf i).toNat)
      case atStart => exact ⟨0, Nat.zero_le _, rfl, hbe, hw1', hw0⟩
      case round =>
        obtain ⟨k, hk, rfl, hbe, hw1, hw0⟩ := hrel
        clear hw1'
        by_cases hlt : k < 48
        · have hlen := schedL_len l k
          have hall : (schedL l k ++ zw (48 - k)).length = 64 := by simp [zw, hlen]; omega
          have cell : ∀ j, j < k + 16 → ∃ x : UInt32, x = (schedL l k).getD j 0 ∧ wr.cell? ⟨w.heap.size + 1, j, none⟩ = some (.int .u32 (x.toNat : Int)) := by
            intro j hj
            refine ⟨_, rfl, ?_⟩
            rw [(hw1.out.at_ (j := j) (by omega)).1]
            simp [List.getElem_append_left, hlen, hj]
          obtain ⟨x1, hx1, d1⟩ := cell (k + 1) (by omega)
          obtain ⟨x14, hx14, d14⟩ := cell (k + 14) (by omega)
          obtain ⟨x9, hx9, d9⟩ := cell (k + 9) (by omega)
          obtain ⟨x0, hx0, d0⟩ := cell k (by omega)
          obtain ⟨hjunk, hf1, hset⟩ := hw1.out.at_ (j := k + 16) (by omega)
          obtain ⟨xo, d16⟩ : ∃ xo : Int, wr.cell? ⟨w.heap.size + 1, k + 16, none⟩ = some (.int .u32 xo) := ⟨_, hjunk⟩
          clear hjunk
          have hfin := hset (growW (schedL l k) k)
          have hstep : (schedL l k ++ zw (48 - k)).set (k + 16) (growW (schedL l k) k) = schedL l (k + 1) ++ zw (48 - (k + 1)) := by
            have h := set_mid (p := schedL l k) (x := growW (schedL l k) k) (n := 48 - (k + 1)) (y := 0)
            rw [hlen] at h
            rw [show 48 - k = (48 - (k + 1)) + 1 by omega, zw_succ, h]
            rfl
          rw [hstep] at hfin
          have hgrow : growW (schedL l k) k = small1 x14 + x9 + small0 x1 + x0 := by rw [growW, ← hx1, ← hx14, ← hx9, ← hx0]
          rw [hgrow] at hfin
          have HF := Lib.hid hfin
          have hbe2 : Hid (∀ u, Below w.heap.size w (wr.setCell ⟨w.heap.size + 1, k + 16, none⟩ u)) := Lib.hid (fun u => hbe.out.setCell (by simp) u)
          have hw02 : Hid (∀ u, Ws (wr.setCell ⟨w.heap.size + 1, k + 16, none⟩ u) w.heap.size 106 (zw 64)) := Lib.hid (fun u => (Below.heap_setCell wr ⟨w.heap.size + 1, k + 16, none⟩ u w.heap.size (by simp)).trans hw0.out)
          have L7 : Hid (∀ W, Calls Try.prog 92 #[.int .u32 (x1.toNat : Int), .int .i64 7] W fun e' w' => e' = .returned (.int .u32 ((rotr x1 7).toNat : Int)) ∧ w' = W) := fun W => right_l x1 7 (by decide) W
          have L18 : Hid (∀ W, Calls Try.prog 92 #[.int .u32 (x1.toNat : Int), .int .i64 18] W fun e' w' => e' = .returned (.int .u32 ((rotr x1 18).toNat : Int)) ∧ w' = W) := fun W => right_l x1 18 (by decide) W
          have L17 : Hid (∀ W, Calls Try.prog 92 #[.int .u32 (x14.toNat : Int), .int .i64 17] W fun e' w' => e' = .returned (.int .u32 ((rotr x14 17).toNat : Int)) ∧ w' = W) := fun W => right_l x14 17 (by decide) W
          have L19 : Hid (∀ W, Calls Try.prog 92 #[.int .u32 (x14.toNat : Int), .int .i64 19] W fun e' w' => e' = .returned (.int .u32 ((rotr x14 19).toNat : Int)) ∧ w' = W) := fun W => right_l x14 19 (by decide) W
          clear hset hfin hstep hgrow hx0 hx1 hx9 hx14 cell hall hlen hw1 hw0 hbe
          have k0 : (0 : Int) ≤ (k : Int) := Int.natCast_nonneg _
          have k1 : (k : Int) < 48 := by omega
          have k64 : (k : Int) < 64 := by omega
          have jkw : IntKind.i64.wrap (k : Int) = (k : Int) := by rw [IntKind.wrap_i64]; omega
          have i15 : IntKind.i64.wrap ((k : Int) + 16 - 15) = (k : Int) + 1 := by rw [IntKind.wrap_i64]; omega
          have i2 : IntKind.i64.wrap ((k : Int) + 16 - 2) = (k : Int) + 14 := by rw [IntKind.wrap_i64]; omega
          have j1a : (0 : Int) ≤ (k : Int) + 1 := by omega
          have j1b : (k : Int) + 1 < 64 := by omega
          have j1t : ((k : Int) + 1).toNat = k + 1 := by omega
          have j1w : IntKind.i64.wrap ((k : Int) + 1) = (k : Int) + 1 := by rw [IntKind.wrap_i64]; omega
          have j14a : (0 : Int) ≤ (k : Int) + 14 := by omega
          have j14b : (k : Int) + 14 < 64 := by omega
          have j14t : ((k : Int) + 14).toNat = k + 14 := by omega
          have j14w : IntKind.i64.wrap ((k : Int) + 14) = (k : Int) + 14 := by rw [IntKind.wrap_i64]; omega
          have j9a : (0 : Int) ≤ (k : Int) + 9 := by omega
          have j9b : (k : Int) + 9 < 64 := by omega
          have j9t : ((k : Int) + 9).toNat = k + 9 := by omega
          have j9w : IntKind.i64.wrap ((k : Int) + 9) = (k : Int) + 9 := by rw [IntKind.wrap_i64]; omega
          have i7 : IntKind.i64.wrap ((k : Int) + 16 - 7) = (k : Int) + 9 := by rw [IntKind.wrap_i64]; omega
          have i16 : IntKind.i64.wrap ((k : Int) + 16 - 16) = (k : Int) := by rw [IntKind.wrap_i64]; omega
          have e1 : wr.drew.cell? ⟨w.heap.size + 1, k + 1, none⟩ = some (.int .u32 (x1.toNat : Int)) := d1
          have e14 : wr.drew.drew.cell? ⟨w.heap.size + 1, k + 14, none⟩ = some (.int .u32 (x14.toNat : Int)) := d14
          go_wp2_with fail
          go_region_held3 (fun w' => w'.cell? ⟨w.heap.size + 1, k + 1, none⟩ = some (.int .u32 (x1.toNat : Int))) (exact e1)
            (first | (go_at_call 92; (first | with_reducible refine (L7.out _).mono ?_ | with_reducible refine (L18.out _).mono ?_); rintro e' w' ⟨rfl, rfl⟩) | fail)
          go_wp2_with fail
          go_region_held3 (fun w' => w'.cell? ⟨w.heap.size + 1, k + 14, none⟩ = some (.int .u32 (x14.toNat : Int))) (exact e14)
            (first | (go_at_call 92; (first | with_reducible refine (L17.out _).mono ?_ | with_reducible refine (L19.out _).mono ?_); rintro e' w' ⟨rfl, rfl⟩) | fail)
          have w1 : IntKind.i64.wrap ((k : Int) + 16) = (k : Int) + 16 := by rw [IntKind.wrap_i64]; omega
          have j16a : (0 : Int) ≤ (k : Int) + 16 := by omega
          have j16b : (k : Int) + 16 < 64 := by omega
          have j16t : ((k : Int) + 16).toNat = k + 16 := by omega
          have f9 : wr.drew.drew.drew.cell? ⟨w.heap.size + 1, k + 9, none⟩ = some (.int .u32 (x9.toNat : Int)) := d9
          have f0 : wr.drew.drew.drew.cell? ⟨w.heap.size + 1, k, none⟩ = some (.int .u32 (x0.toNat : Int)) := d0
          have f16 : wr.drew.drew.drew.cell? ⟨w.heap.size + 1, k + 16, none⟩ = some (.int .u32 xo) := d16
          have ff : wr.drew.drew.drew.frozen? ⟨w.heap.size + 1, k + 16, none⟩ = false := hf1
          go_wp2_with fail
          go_region_with fail
          all_goals
            go_wp2
            go_roundw
            case rel => exact ⟨k + 1, by omega, by go_num, Lib.hid ((((hbe2.out _).drew).drew).drew), by simp only [w_shr10, w_shr3, w_xor, w_addm]; exact HF.out, Lib.hid (hw02.out _)⟩
            case measure =>
              show 64 - ((k : Int) + 16 + 1).toNat < 64 - ((k : Int) + 16).toNat
              omega
        · obtain rfl : k = 48 := by omega
          have hz : Hid (Ws wr (w.heap.size + 1) 106 (schedL l 48)) := by
            have h := hw1.out
            rw [show (48 - 48 : Nat) = 0 from rfl, show zw 0 = [] from rfl, List.append_nil] at h
            exact Lib.hid h
          clear hw1
          obtain ⟨cs, hcs⟩ : ∃ cs : Array Value, cs = ((schedL l 48).map vw).toArray := ⟨_, rfl⟩
          obtain ⟨zs, hzs⟩ : ∃ zs : Array Value, zs = ((zw 64).map vw).toArray := ⟨_, rfl⟩
          have hcz : cs.size = 64 := by rw [hcs]; simp [schedL_len]
          have hzz : zs.size = 64 := by rw [hzs]; simp [zw]
          have hone : cs.all (·.oneCell') = true := by
            rw [hcs, Array.all_eq_true_iff_forall_mem]
            intro u hu
            simp only [List.mem_toArray, List.mem_map] at hu
            obtain ⟨x, _, rfl⟩ := hu
            rfl
          have h1 : Hid (wr.heap[w.heap.size + 1]? = some (.cells cs 106 (0, 0))) := by rw [hcs]; exact hz
          have h0 : Hid (wr.heap[w.heap.size]? = some (.cells zs 106 (0, 0))) := by rw [hzs]; exact hw0
          have hi : Hid ((Try.prog.info? 106).map (·.size) = some cs.size) := by rw [hcz]; show _ = _; kernel_rfl
          have ho : Hid (zs.size = cs.size) := by show _ = _; rw [hcz, hzz]
          have HONE := Lib.hid hone
          have hbe3 : Below w.heap.size w (wr.setRow w.heap.size cs) := hbe.out.grown (row := some w.heap.size) ⟨rfl, rfl, rfl, by simp, fun j _ hj => setRow_other wr w.heap.size j _ (fun e => hj (by rw [e]))⟩ hbe.out.size (fun j hj => by simp only [Option.some.injEq] at hj; omega)
          have HCS := Lib.hid hcs
          have hge2 : decide ((48 : Int) + 16 < 64) = false := by decide
          clear hcs hzs hcz hzz hone hz hw0 hbe
          go_wp2_with (first
            | (with_reducible refine wpList_load_row rfl 106 (.tmp 3) rfl (w.heap.size + 1) rfl 106 cs (0, 0) _ h1.out Try.underlying106 rfl hi.out ?_)
            | (with_reducible refine wpList_store_row rfl 106 (.tmp 2) (.tmp 78) rfl w.heap.size cs rfl rfl 106 zs h0.out hi.out ho.out HONE.out ?_))
          (try simp only [Exit.inBlock, Exit.then])
          refine bodyPost_ret (results_cell_row rfl _ _ w.heap.size 106 cs (0, 0) _ rfl (setRow_heap wr w.heap.size zs _ _ _ h0.out) Try.underlying106 rfl hi.out) rfl ?_
          exact ⟨by rw [HCS.out]; rfl, hbe3⟩
end Go.Proofs.Ytifgigpflfdmfaa
