/- Over of a spare slice; Apart of a listed row. -/
import Derived.Test.YtmkmhipndenfaaaG5
import Derived.Test.YtmkmhipndenfaaaOverT
namespace Go.Proofs.Ytmkmhipndenfaaa
open Go.RowKit

/-- the beginning of an own slice, with the same room -/
theorem Own.pre {w : World} {B g m n c : Nat} {L : List UInt8} (h : Own w B (.slice (some ⟨g, 0, none⟩) m c) L) (hn : n ≤ L.length) : Own w B (.slice (some ⟨g, 0, none⟩) n c) (L.take n) := by
  obtain ⟨h1, h2⟩ := h
  rcases h2 with ⟨hv, _⟩ | ⟨g', cap, cur, hv, hg, hh, hnc, hcm, hsz, htk⟩
  · simp at hv
  · simp only [Value.slice.injEq, Option.some.injEq, Addr.mk.injEq, and_true] at hv
    obtain ⟨rfl, rfl, rfl⟩ := hv
    have hl : (L.take n).length = n := by rw [List.length_take]; omega
    refine ⟨by simp, .inr ⟨g, c, cur, by rw [hl], hg, hh, by omega, hcm, hsz, ?_⟩⟩
    rw [hl, List.map_take, ← htk, List.take_take]
    congr 1
    omega

/-- a slice's bytes are turned in place, whatever lies behind it in its room: what they are behind it does not matter -/
theorem over_pre {L : List UInt8} {g n m c : Nat} {w : World} {B : Nat} (h : Own w B (.slice (some ⟨g, 0, none⟩) m c) L) (hn : n ≤ L.length) (hl : L.length ≤ 281474976710656) :
    Calls Try.prog 14 #[.slice (some ⟨g, 0, none⟩) n c] w fun e w' => e = .returned (.tuple #[]) ∧ (∃ l', l'.length = L.length ∧ Own w' B (.slice (some ⟨g, 0, none⟩) m c) l') ∧ w.grownBy w' (some g) := by
  obtain ⟨M, hM⟩ : ∃ M, L.length = M := ⟨_, rfl⟩
  rw [hM] at hn hl ⊢
  have HH := Lib.hid h
  have HM := Lib.hid hM
  clear h hM
  go_enter Try.func14, Try.ntmps14
  go_wp2
  go_loopw [2] (fun i wr => ∃ k : Nat, k ≤ n ∧ i = .int .i64 k ∧ Hid (∃ l', l'.length = M ∧ Own wr B (.slice (some ⟨g, 0, none⟩) m c) l') ∧ Hid (w.grownBy wr (some g))) (fun i _ => n - (intOf i).toNat)
  case atStart => exact ⟨0, Nat.zero_le _, rfl, ⟨L, HM.out, HH.out⟩, World.grownBy.refl w _⟩
  case round =>
    obtain ⟨k, hk, rfl, hown, hgr⟩ := hrel
    by_cases hlt : k < n
    · obtain ⟨l', hl', ho⟩ := hown.out
      obtain ⟨g', hg', _, hg2, hcell, hfrz, hset⟩ := ho.at_ (j := k) (by omega)
      simp only [Option.some.injEq, Addr.mk.injEq, and_true] at hg'
      subst hg'
      obtain ⟨x, hx⟩ : ∃ x : UInt8, x = l'[k]'(by omega) := ⟨_, rfl⟩
      rw [← hx] at hcell
      have hxv : bits .xor .u8 (x.toNat : Int) 90 = ((x ^^^ 90).toNat : Int) := xor_val x 90
      have HXV := Lib.hid hxv
      have hfin : ∃ l', l'.length = M ∧ Own (wr.setCell ⟨g, k, none⟩ (.int .u8 ((x ^^^ 90).toNat : Int))) B (.slice (some ⟨g, 0, none⟩) m c) l' := ⟨l'.set k (x ^^^ 90), by simpa using hl', hset _⟩
      have HFIN := Lib.hid hfin
      have hgr2 : ∀ u, w.grownBy (wr.setCell ⟨g, k, none⟩ u) (some g) := fun u => ⟨hgr.out.os, hgr.out.tape, hgr.out.output, by have := hgr.out.size; simpa using this, fun j hj hne => (Below.heap_setCell wr ⟨g, k, none⟩ _ j (fun e => hne (by rw [e]))).trans (hgr.out.block j hj hne)⟩
      have HG2 := Lib.hid hgr2
      clear hset hx hfin hgr2 ho hown hgr hxv
      go_wp2
      go_roundw
      case rel => exact ⟨k + 1, by omega, by go_num, by rw [HXV.out]; exact HFIN.out, HG2.out _⟩
      case measure => simp [intOf]; omega
    · go_wp2
      go_end0
      exact ⟨rfl, hown.out, hgr.out⟩

/-- Apart of a listed row of slices -/
theorem apart_list {ps : List (Value × List UInt8)} {bl c n : Nat} {w : World} {B : Nat} (hn : ps.length = n) (hB : B ≤ w.heap.size) (hn2 : n ≤ 1048576) (hl : ∀ p ∈ ps, p.2.length ≤ 140737488355000)
    (hcell : ∀ r (h : r < ps.length), w.cell? ⟨bl, r, none⟩ = some ps[r].1) (hown : ∀ p ∈ ps, Own w B p.1 p.2) (hbl : ∀ p ∈ ps, p.1.ownBlock ≠ some bl) (hblt : bl < w.heap.size)
    (hdis : ps.Pairwise (fun p q => p.1.ownBlock = none ∨ p.1.ownBlock ≠ q.1.ownBlock)) (hc : n ≤ c) (hcm : c ≤ maxLen) :
    Calls Try.prog 16 #[.slice (some ⟨bl, 0, none⟩) n c] w fun e w' => e = .returned (.bool true) ∧ Below B w w' := by
  subst hn
  have hd : ∀ r (h : r < ps.length), ps.getD r (.slice none 0 0, []) = ps[r] := fun r h => by simp [h]
  have hp := List.pairwise_iff_getElem.1 hdis
  refine apart_any (us := fun r => (ps.getD r (.slice none 0 0, [])).1) (Ls := fun r => (ps.getD r (.slice none 0 0, [])).2) (off := 0) hB hn2 (fun r h => ?_) (fun r h => ?_) (fun r h => ?_) (fun r h => ?_) hblt (fun r s h h2 hne => ?_) hc hcm
  · show (ps.getD r _).2.length ≤ _
    rw [hd r h]; exact hl _ (List.getElem_mem h)
  · show _ = some (ps.getD r _).1
    rw [hd r h, Nat.zero_add]; exact hcell r h
  · show Own w B (ps.getD r _).1 (ps.getD r _).2
    rw [hd r h]; exact hown _ (List.getElem_mem h)
  · show (ps.getD r _).1.ownBlock ≠ _
    rw [hd r h]; exact hbl _ (List.getElem_mem h)
  · show (ps.getD r _).1.ownBlock = none ∨ (ps.getD r _).1.ownBlock ≠ (ps.getD s _).1.ownBlock
    rw [hd r h, hd s h2]
    rcases Nat.lt_or_gt_of_ne hne with h3 | h3
    · exact hp r s h h2 h3
    · rcases hp s r h2 h h3 with h4 | h4
      · by_cases h5 : ps[r].1.ownBlock = none
        · exact .inl h5
        · exact .inr (by rw [h4]; exact h5)
      · exact .inr (fun e => h4 e.symm)
/-- slices of the call's own below a block and above it lie apart -/
theorem own_block_ne {w w' : World} {B B' : Nat} {v u : Value} {l k : List UInt8} (h : Own w B v l) (h' : Own w' B' u k) (hb : w.heap.size ≤ B') : v.ownBlock = none ∨ v.ownBlock ≠ u.ownBlock := by
  cases hv : v.ownBlock with
  | none => exact .inl rfl
  | some j =>
    refine .inr (fun e => ?_)
    have h1 := (own_lt h hv).2
    have h2 := (own_lt h' e.symm).1
    omega
theorem own_block_new {w : World} {B bl : Nat} {v : Value} {l : List UInt8} (h : Own w B v l) (hb : w.heap.size ≤ bl) : v.ownBlock ≠ some bl := fun e => by have := (own_lt h e).2; omega
end Go.Proofs.Ytmkmhipndenfaaa
