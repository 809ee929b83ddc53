/- Two copies with room behind them; bytes turned in place. -/
import Derived.Test.YthgdficgjldobaaOverC
import Derived.Test.YthgdficgjldobaaD2
import Derived.Laws.BitsAllLaws
namespace Go.Proofs.Ythgdficgjldobaa
open Go.RowKit

/-- a slice's bytes are turned in place, whatever lies behind it in its room: what they are behind it does not matter -/
theorem over_pre {L : List UInt8} {g n m c : Nat} {w : World} {B : Nat} (h : Own w B (.slice (some ⟨g, 0, none⟩) m c) L) (hn : n ≤ L.length) (hl : L.length ≤ 281474976710656) :
    Calls Try.prog 24 #[.slice (some ⟨g, 0, none⟩) n c] w fun e w' => e = .returned (.tuple #[]) ∧ (∃ l', l'.length = L.length ∧ Own w' B (.slice (some ⟨g, 0, none⟩) m c) l') ∧ w.grownBy w' (some g) := by
  obtain ⟨M, hM⟩ : ∃ M, L.length = M := ⟨_, rfl⟩
  rw [hM] at hn hl ⊢
  have HH := Lib.hid h
  have HM := Lib.hid hM
  clear h hM
  go_enter Try.func24, Try.ntmps24
  go_wp2
  go_loopw [2] (fun i wr => ∃ k : Nat, k ≤ n ∧ i = .int .i64 k ∧ Hid (∃ l', l'.length = M ∧ Own wr B (.slice (some ⟨g, 0, none⟩) m c) l') ∧ Hid (w.grownBy wr (some g))) (fun i _ => n - (intOf i).toNat)
  case atStart => exact ⟨0, Nat.zero_le _, rfl, ⟨L, HM.out, HH.out⟩, World.grownBy.refl w _⟩
  case round =>
    obtain ⟨k, hk, rfl, hown, hgr⟩ := hrel
    by_cases hlt : k < n
    · obtain ⟨l', hl', ho⟩ := hown.out
      obtain ⟨g', hg', _, hg2, hcell, hfrz, hset⟩ := ho.at_ (j := k) (by omega)
      simp only [Option.some.injEq, Addr.mk.injEq, and_true] at hg'
      subst hg'
      obtain ⟨x, hx⟩ : ∃ x : UInt8, x = l'[k]'(by omega) := ⟨_, rfl⟩
      rw [← hx] at hcell
      have hxv : bits .xor .u8 (x.toNat : Int) 90 = ((x ^^^ 90).toNat : Int) := xor_val x 90
      have HXV := Lib.hid hxv
      have hfin : ∃ l', l'.length = M ∧ Own (wr.setCell ⟨g, k, none⟩ (.int .u8 ((x ^^^ 90).toNat : Int))) B (.slice (some ⟨g, 0, none⟩) m c) l' := ⟨l'.set k (x ^^^ 90), by simpa using hl', hset _⟩
      have HFIN := Lib.hid hfin
      have hgr2 : ∀ u, w.grownBy (wr.setCell ⟨g, k, none⟩ u) (some g) := fun u => ⟨hgr.out.os, hgr.out.tape, hgr.out.output, by have := hgr.out.size; simpa using this, fun j hj hne => (Below.heap_setCell wr ⟨g, k, none⟩ _ j (fun e => hne (by rw [e]))).trans (hgr.out.block j hj hne)⟩
      have HG2 := Lib.hid hgr2
      clear hset hx hfin hgr2 ho hown hgr hxv
      go_wp2
      go_roundw
      case rel => exact ⟨k + 1, by omega, by go_num, by rw [HXV.out]; exact HFIN.out, HG2.out _⟩
      case measure => simp [intOf]; omega
    · go_wp2
      go_end0
      exact ⟨rfl, hown.out, hgr.out⟩


/-- two copies with room behind them, and what came in -/
structure KX (w0 : World) (gX gY : Nat) (a b : List UInt8) (w : World) : Prop where
  bel : Below w0.heap.size w0 w
  X : Own w w0.heap.size (.slice (some ⟨gX, 0, none⟩) (a.length + 40) (a.length + 40)) (fullS a)
  Y : Own w w0.heap.size (.slice (some ⟨gY, 0, none⟩) (b.length + 40) (b.length + 40)) (fullS b)
theorem KX.ltX {w0 : World} {gX gY : Nat} {a b : List UInt8} {w : World} (k : KX w0 gX gY a b w) : gX < w.heap.size := (own_lt k.X (k := gX) rfl).2
theorem KX.ltY {w0 : World} {gX gY : Nat} {a b : List UInt8} {w : World} (k : KX w0 gX gY a b w) : gY < w.heap.size := (own_lt k.Y (k := gY) rfl).2
theorem KX.below {w0 : World} {gX gY : Nat} {a b : List UInt8} {w w' : World} (k : KX w0 gX gY a b w) (hb : Below w.heap.size w w') : KX w0 gX gY a b w' :=
  ⟨k.bel.trans (hb.mono k.bel.size), k.X.below hb (Nat.le_refl _), k.Y.below hb (Nat.le_refl _)⟩
theorem KX.alloc {w0 : World} {gX gY : Nat} {a b : List UInt8} {w : World} (k : KX w0 gX gY a b w) (o : Obj) : KX w0 gX gY a b (w.alloc o) := k.below ((Below.refl _ _).alloc (Nat.le_refl _) o)
theorem KX.grown {w0 : World} {gX gY g : Nat} {a b : List UInt8} {w w' : World} (k : KX w0 gX gY a b w) (hg : w.grownBy w' (some g)) (h0 : w0.heap.size ≤ g) (hx : gX ≠ g) (hy : gY ≠ g) : KX w0 gX gY a b w' :=
  ⟨k.bel.grown hg k.bel.size (fun j hj => by simp only [Option.some.injEq] at hj; omega), k.X.kept hg (.inr (by simpa [Value.ownBlock] using hx)), k.Y.kept hg (.inr (by simpa [Value.ownBlock] using hy))⟩
theorem KX.bx {w0 : World} {gX gY : Nat} {a b : List UInt8} {w : World} (k : KX w0 gX gY a b w) : Bs w w.heap.size (.slice (some ⟨gX, 0, none⟩) a.length (a.length + 40)) a := by
  have h := (k.X.pre (n := a.length) (by rw [fullS_len]; omega)).bs
  rwa [fullS_take] at h
theorem KX.by_ {w0 : World} {gX gY : Nat} {a b : List UInt8} {w : World} (k : KX w0 gX gY a b w) : Bs w w.heap.size (.slice (some ⟨gY, 0, none⟩) b.length (b.length + 40)) b := by
  have h := (k.Y.pre (n := b.length) (by rw [fullS_len]; omega)).bs
  rwa [fullS_take] at h
end Go.Proofs.Ythgdficgjldobaa
