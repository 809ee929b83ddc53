/- Bytes that are turned in place. -/
import Derived.Test.YthgdficgjldobaaCopyB
import Derived.Laws.BitsAllLaws
namespace Go.Proofs.Ythgdficgjldobaa
open Go.RowKit

theorem xor_val (a b : UInt8) : bits .xor .u8 (a.toNat : Int) (b.toNat : Int) = ((a ^^^ b).toNat : Int) := by
  rw [u8_xor_nat _ _ a.toNat_lt b.toNat_lt, UInt8.toNat_xor]

/-- bytes of the call's own, turned in place: what they are behind it does not matter -/
theorem over_any {l : List UInt8} {v : Value} {w : World} {B : Nat} (h : Own w B v l) (hl : l.length ≤ 281474976710656) :
    Calls Try.prog 24 #[v] w fun e w' => e = .returned (.tuple #[]) ∧ (∃ l', l'.length = l.length ∧ Own w' B v l') ∧ w.grownBy w' v.ownBlock := by
  obtain ⟨A, c, rfl⟩ := h.shape
  obtain ⟨n, hn⟩ : ∃ n, l.length = n := ⟨_, rfl⟩
  rw [hn] at h hl ⊢
  have HH := Lib.hid h
  have HN := Lib.hid hn
  clear h hn
  go_enter Try.func24, Try.ntmps24
  go_wp2
  go_loopw [2] (fun i wr => ∃ k : Nat, k ≤ n ∧ i = .int .i64 k ∧ Hid (∃ l', l'.length = n ∧ Own wr B (.slice A n c) l') ∧ Hid (w.grownBy wr (Value.slice A n c).ownBlock)) (fun i _ => n - (intOf i).toNat)
  case atStart => exact ⟨0, Nat.zero_le _, rfl, ⟨l, HN.out, HH.out⟩, World.grownBy.refl w _⟩
  case round =>
    obtain ⟨k, hk, rfl, hown, hgr⟩ := hrel
    by_cases hlt : k < n
    · obtain ⟨l', hl', ho⟩ := hown.out
      obtain ⟨g, rfl, _, hg2, hcell, hfrz, hset⟩ := ho.at_ (j := k) (by omega)
      obtain ⟨x, hx⟩ : ∃ x : UInt8, x = l'[k]'(by omega) := ⟨_, rfl⟩
      rw [← hx] at hcell
      have hxv : bits .xor .u8 (x.toNat : Int) 90 = ((x ^^^ 90).toNat : Int) := xor_val x 90
      have HXV := Lib.hid hxv
      have hfin : ∃ l', l'.length = n ∧ Own (wr.setCell ⟨g, k, none⟩ (.int .u8 ((x ^^^ 90).toNat : Int))) B (.slice (some ⟨g, 0, none⟩) n c) l' := ⟨l'.set k (x ^^^ 90), by simpa using hl', hset _⟩
      have HFIN := Lib.hid hfin
      have hgr2 : ∀ u, w.grownBy (wr.setCell ⟨g, k, none⟩ u) (some g) := fun u => ⟨hgr.out.os, hgr.out.tape, hgr.out.output, by have := hgr.out.size; simpa using this, fun j hj hne => (Below.heap_setCell wr ⟨g, k, none⟩ _ j (fun e => hne (by rw [e]))).trans (hgr.out.block j hj hne)⟩
      have HG2 := Lib.hid hgr2
      clear hset hx hfin hgr2 ho hown hgr hxv
      go_wp2
      go_roundw
      case rel => exact ⟨k + 1, by omega, by go_num, by rw [HXV.out]; exact HFIN.out, HG2.out _⟩
      case measure => simp [intOf]; omega
    · go_wp2
      go_end0
      exact ⟨rfl, hown.out, hgr.out⟩
end Go.Proofs.Ythgdficgjldobaa
