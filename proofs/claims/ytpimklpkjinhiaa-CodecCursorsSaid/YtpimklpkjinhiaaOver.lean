/- Cursors' numbers; bytes that are turned in place. -/
import Derived.Test.YtpimklpkjinhiaaCursor
namespace Go.Proofs.Ytpimklpkjinhiaa
open Go.RowKit

theorem getR_ok {o k a : Int} {l : List UInt8} (h : (getR o k a l).2 = 0) : 1 ≤ k ∧ k ≤ 8 ∧ 0 ≤ a ∧ a + k ≤ (l.length : Int) := by
  unfold getR at h
  split at h
  · rename_i hs
    simp only [Bool.and_eq_true, decide_eq_true_eq] at hs
    have h1 := (shape_iff.1 hs.1).2
    split at h
    · rename_i h2
      exact ⟨h1.1, h1.2, hs.2, h2⟩
    · simp at h
  · simp at h

/-- how far a cursor stands behind a call of Number -/
def numK (o m : Int) (l : List UInt8) (k : Nat) : Nat := if (getR o m k l).2 = 0 then k + m.toNat else k

set_option maxHeartbeats 800000 in
theorem number_any {l : List UInt8} {w : World} {B E g k : Nat} {o m : Int} (h : Cur w B E g l k) (hk : k ≤ l.length) (hl : l.length ≤ 281474976710656) :
    Calls Try.prog 43 #[.pointer (some ⟨g, 0, none⟩), .int .i64 o, .int .i64 m] w fun e w' => e = .returned (.tuple #[.int .u64 (getR o m k l).1, .int .i64 (getR o m k l).2]) ∧ Cur w' B E g l (numK o m l k) ∧ w.grownBy w' (some g) := by
  obtain ⟨A, c, ho, hgB, hgl, hc0, hc1, hfr, hset⟩ := h.cells
  have HCUR := Lib.hid h
  have c1 : Hid (∀ W, Drew w W → Calls Try.prog 17 #[.int .i64 o, .slice A l.length c, .int .i64 (k : Int), .int .i64 m] W fun e w' => e = .returned (.tuple #[.int .u64 (getR o m k l).1, .int .i64 (getR o m k l).2]) ∧ W = w') :=
    Lib.hid (fun W ⟨n, hn⟩ => by subst hn; exact get_all (w := w.drewN n) (ho.bs.drewN n) (by omega))
  have hnk : (getR o m k l).2 = 0 → numK o m l k = k + m.toNat ∧ 1 ≤ m ∧ m ≤ 8 := fun h => ⟨if_pos h, (getR_ok h).1, (getR_ok h).2.1⟩
  have hnk2 : ¬ (getR o m k l).2 = 0 → numK o m l k = k := fun h => if_neg h
  obtain ⟨K, hK⟩ : ∃ K, numK o m l k = K := ⟨_, rfl⟩
  rw [hK] at hnk hnk2
  obtain ⟨⟨x, y⟩, hx⟩ : ∃ p, getR o m k l = p := ⟨_, rfl⟩
  rw [hx] at c1 hnk hnk2
  simp only at hnk hnk2
  rw [hx, hK]
  clear hx hK ho h
  have d0 : w.drew.cell? ⟨g, 0, none⟩ = some (.slice A l.length c) := hc0
  have d1 : w.drew.cell? ⟨g, 1, none⟩ = some (.int .i64 (k : Int)) := hc1
  by_cases hy : y = 0
  · subst hy
    obtain ⟨rfl, hm1, hm2⟩ := hnk rfl
    clear hnk hnk2
    have hfin : Cur (w.setCell ⟨g, 1, none⟩ (.int .i64 ((k : Int) + m))).drew B E g l (k + m.toNat) := by
      have := hset (k + m.toNat)
      rw [show ((k + m.toNat : Nat) : Int) = (k : Int) + m by omega] at this
      exact this.grown ⟨rfl, rfl, rfl, Nat.le_refl _, fun _ _ _ => rfl⟩ (r := none) (by simp)
    have HFIN := Lib.hid hfin
    have hbF : w.grownBy (w.setCell ⟨g, 1, none⟩ (.int .i64 ((k : Int) + m))).drew (some g) := ⟨rfl, rfl, rfl, by simp, fun j hj hne => Below.heap_setCell w ⟨g, 1, none⟩ _ j (fun e => hne (by rw [e]))⟩
    clear hset hfin HCUR
    go_enter Try.func43, Try.ntmps43
    go_wp2_with fail
    go_region_held3 (fun w' => w'.cell? ⟨g, 0, none⟩ = some (.slice A l.length c) ∧ w'.cell? ⟨g, 1, none⟩ = some (.int .i64 (k : Int))) (exact ⟨d0, d1⟩)
      (first | (go_at_call 17; refine (c1.out _ ⟨1, rfl⟩).mono ?_; rintro e w2 ⟨rfl, rfl⟩) | fail)
    go_wp2
    go_ret2
    exact ⟨rfl, HFIN.out, hbF⟩
  · rw [hnk2 hy]
    have hy' : (y == 0) = false := by rw [beq_eq_false_iff_ne]; exact hy
    clear hnk hset
    go_enter Try.func43, Try.ntmps43
    go_wp2_with fail
    go_region_held3 (fun w' => w'.cell? ⟨g, 0, none⟩ = some (.slice A l.length c) ∧ w'.cell? ⟨g, 1, none⟩ = some (.int .i64 (k : Int))) (exact ⟨d0, d1⟩)
      (first | (go_at_call 17; refine (c1.out _ ⟨1, rfl⟩).mono ?_; rintro e w2 ⟨rfl, rfl⟩) | fail)
    go_wp2
    go_ret2
    exact ⟨rfl, HCUR.out.grown (r := none) ⟨rfl, rfl, rfl, Nat.le_refl _, fun _ _ _ => rfl⟩ (by simp), ⟨rfl, rfl, rfl, Nat.le_refl _, fun _ _ _ => rfl⟩⟩

/-- bytes of the call's own, turned in place: what they are behind it does not matter -/
theorem over_any {l : List UInt8} {v : Value} {w : World} {B : Nat} (h : Own w B v l) (hl : l.length ≤ 281474976710656) :
    Calls Try.prog 42 #[v] w fun e w' => e = .returned (.tuple #[]) ∧ (∃ l', l'.length = l.length ∧ Own w' B v l') ∧ w.grownBy w' v.ownBlock := by
  obtain ⟨A, c, rfl⟩ := h.shape
  obtain ⟨n, hn⟩ : ∃ n, l.length = n := ⟨_, rfl⟩
  rw [hn] at h hl ⊢
  have HH := Lib.hid h
  have HN := Lib.hid hn
  clear h hn
  go_enter Try.func42, Try.ntmps42
  go_wp2
  go_loopw [2] (fun i wr => ∃ k : Nat, k ≤ n ∧ i = .int .i64 k ∧ Hid (∃ l', l'.length = n ∧ Own wr B (.slice A n c) l') ∧ Hid (w.grownBy wr (Value.slice A n c).ownBlock)) (fun i _ => n - (intOf i).toNat)
  case atStart => exact ⟨0, Nat.zero_le _, rfl, ⟨l, HN.out, HH.out⟩, World.grownBy.refl w _⟩
  case round =>
    obtain ⟨k, hk, rfl, hown, hgr⟩ := hrel
    by_cases hlt : k < n
    · obtain ⟨l', hl', ho⟩ := hown.out
      obtain ⟨g, rfl, _, hg2, hcell, hfrz, hset⟩ := ho.at_ (j := k) (by omega)
      obtain ⟨x, hx⟩ : ∃ x : UInt8, x = l'[k]'(by omega) := ⟨_, rfl⟩
      rw [← hx] at hcell
      have hxv : bits .xor .u8 (x.toNat : Int) 90 = ((x ^^^ 90).toNat : Int) := xor_val x 90
      have HXV := Lib.hid hxv
      have hfin : ∃ l', l'.length = n ∧ Own (wr.setCell ⟨g, k, none⟩ (.int .u8 ((x ^^^ 90).toNat : Int))) B (.slice (some ⟨g, 0, none⟩) n c) l' := ⟨l'.set k (x ^^^ 90), by simpa using hl', hset _⟩
      have HFIN := Lib.hid hfin
      have hgr2 : ∀ u, w.grownBy (wr.setCell ⟨g, k, none⟩ u) (some g) := fun u => ⟨hgr.out.os, hgr.out.tape, hgr.out.output, by have := hgr.out.size; simpa using this, fun j hj hne => (Below.heap_setCell wr ⟨g, k, none⟩ _ j (fun e => hne (by rw [e]))).trans (hgr.out.block j hj hne)⟩
      have HG2 := Lib.hid hgr2
      clear hset hx hfin hgr2 ho hown hgr hxv
      go_wp2
      go_roundw
      case rel => exact ⟨k + 1, by omega, by go_num, by rw [HXV.out]; exact HFIN.out, HG2.out _⟩
      case measure => simp [intOf]; omega
    · go_wp2
      go_end0
      exact ⟨rfl, hown.out, hgr.out⟩
end Go.Proofs.Ytpimklpkjinhiaa
