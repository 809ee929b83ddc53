/- Over of a spare slice. -/
import Derived.Test.YtajhpebefehciaaG8
import Derived.Test.YtajhpebefehciaaOverT
namespace Go.Proofs.Ytajhpebefehciaa
open Go.RowKit

/-- a slice's bytes are turned in place, whatever lies behind it in its room: what they are behind it does not matter -/
theorem over_pre {L : List UInt8} {g n m c : Nat} {w : World} {B : Nat} (h : Own w B (.slice (some ⟨g, 0, none⟩) m c) L) (hn : n ≤ L.length) (hl : L.length ≤ 281474976710656) :
    Calls Try.prog 16 #[.slice (some ⟨g, 0, none⟩) n c] w fun e w' => e = .returned (.tuple #[]) ∧ (∃ l', l'.length = L.length ∧ Own w' B (.slice (some ⟨g, 0, none⟩) m c) l') ∧ w.grownBy w' (some g) := by
  obtain ⟨M, hM⟩ : ∃ M, L.length = M := ⟨_, rfl⟩
  rw [hM] at hn hl ⊢
  have HH := Lib.hid h
  have HM := Lib.hid hM
  clear h hM
  go_enter Try.func16, Try.ntmps16
  go_wp2
  go_loopw [2] (fun i wr => ∃ k : Nat, k ≤ n ∧ i = .int .i64 k ∧ Hid (∃ l', l'.length = M ∧ Own wr B (.slice (some ⟨g, 0, none⟩) m c) l') ∧ Hid (w.grownBy wr (some g))) (fun i _ => n - (intOf i).toNat)
  case atStart => exact ⟨0, Nat.zero_le _, rfl, ⟨L, HM.out, HH.out⟩, World.grownBy.refl w _⟩
  case round =>
    obtain ⟨k, hk, rfl, hown, hgr⟩ := hrel
    by_cases hlt : k < n
    · obtain ⟨l', hl', ho⟩ := hown.out
      obtain ⟨g', hg', _, hg2, hcell, hfrz, hset⟩ := ho.at_ (j := k) (by omega)
      simp only [Option.some.injEq, Addr.mk.injEq, and_true] at hg'
      subst hg'
      obtain ⟨x, hx⟩ : ∃ x : UInt8, x = l'[k]'(by omega) := ⟨_, rfl⟩
      rw [← hx] at hcell
      have hxv : bits .xor .u8 (x.toNat : Int) 90 = ((x ^^^ 90).toNat : Int) := xor_val x 90
      have HXV := Lib.hid hxv
      have hfin : ∃ l', l'.length = M ∧ Own (wr.setCell ⟨g, k, none⟩ (.int .u8 ((x ^^^ 90).toNat : Int))) B (.slice (some ⟨g, 0, none⟩) m c) l' := ⟨l'.set k (x ^^^ 90), by simpa using hl', hset _⟩
      have HFIN := Lib.hid hfin
      have hgr2 : ∀ u, w.grownBy (wr.setCell ⟨g, k, none⟩ u) (some g) := fun u => ⟨hgr.out.os, hgr.out.tape, hgr.out.output, by have := hgr.out.size; simpa using this, fun j hj hne => (Below.heap_setCell wr ⟨g, k, none⟩ _ j (fun e => hne (by rw [e]))).trans (hgr.out.block j hj hne)⟩
      have HG2 := Lib.hid hgr2
      clear hset hx hfin hgr2 ho hown hgr hxv
      go_wp2
      go_roundw
      case rel => exact ⟨k + 1, by omega, by go_num, by rw [HXV.out]; exact HFIN.out, HG2.out _⟩
      case measure => simp [intOf]; omega
    · go_wp2
      go_end0
      exact ⟨rfl, hown.out, hgr.out⟩

end Go.Proofs.Ytajhpebefehciaa
