/- Apart of a listed row; slices of the call's own. -/
import Derived.Test.YthgdficgjldobaaG5
namespace Go.Proofs.Ythgdficgjldobaa
open Go.RowKit

/-- the beginning of an own slice, with the same room -/
theorem Own.pre {w : World} {B g m n c : Nat} {L : List UInt8} (h : Own w B (.slice (some ⟨g, 0, none⟩) m c) L) (hn : n ≤ L.length) : Own w B (.slice (some ⟨g, 0, none⟩) n c) (L.take n) := by
  obtain ⟨h1, h2⟩ := h
  rcases h2 with ⟨hv, _⟩ | ⟨g', cap, cur, hv, hg, hh, hnc, hcm, hsz, htk⟩
  · simp at hv
  · simp only [Value.slice.injEq, Option.some.injEq, Addr.mk.injEq, and_true] at hv
    obtain ⟨rfl, rfl, rfl⟩ := hv
    have hl : (L.take n).length = n := by rw [List.length_take]; omega
    refine ⟨by simp, .inr ⟨g, c, cur, by rw [hl], hg, hh, by omega, hcm, hsz, ?_⟩⟩
    rw [hl, List.map_take, ← htk, List.take_take]
    congr 1
    omega

/-- Apart of a listed row of slices -/
theorem apart_list {ps : List (Value × List UInt8)} {bl c n : Nat} {w : World} {B : Nat} (hn : ps.length = n) (hB : B ≤ w.heap.size) (hn2 : n ≤ 1048576) (hl : ∀ p ∈ ps, p.2.length ≤ 140737488355000)
    (hcell : ∀ r (h : r < ps.length), w.cell? ⟨bl, r, none⟩ = some ps[r].1) (hown : ∀ p ∈ ps, Own w B p.1 p.2) (hbl : ∀ p ∈ ps, p.1.ownBlock ≠ some bl) (hblt : bl < w.heap.size)
    (hdis : ps.Pairwise (fun p q => p.1.ownBlock = none ∨ p.1.ownBlock ≠ q.1.ownBlock)) (hc : n ≤ c) (hcm : c ≤ maxLen) :
    Calls Try.prog 33 #[.slice (some ⟨bl, 0, none⟩) n c] w fun e w' => e = .returned (.bool true) ∧ Below B w w' := by
  subst hn
  have hd : ∀ r (h : r < ps.length), ps.getD r (.slice none 0 0, []) = ps[r] := fun r h => by simp [h]
  have hp := List.pairwise_iff_getElem.1 hdis
  refine apart_any (us := fun r => (ps.getD r (.slice none 0 0, [])).1) (Ls := fun r => (ps.getD r (.slice none 0 0, [])).2) (off := 0) hB hn2 (fun r h => ?_) (fun r h => ?_) (fun r h => ?_) (fun r h => ?_) hblt (fun r s h h2 hne => ?_) hc hcm
  · show (ps.getD r _).2.length ≤ _
    rw [hd r h]; exact hl _ (List.getElem_mem h)
  · show _ = some (ps.getD r _).1
    rw [hd r h, Nat.zero_add]; exact hcell r h
  · show Own w B (ps.getD r _).1 (ps.getD r _).2
    rw [hd r h]; exact hown _ (List.getElem_mem h)
  · show (ps.getD r _).1.ownBlock ≠ _
    rw [hd r h]; exact hbl _ (List.getElem_mem h)
  · show (ps.getD r _).1.ownBlock = none ∨ (ps.getD r _).1.ownBlock ≠ (ps.getD s _).1.ownBlock
    rw [hd r h, hd s h2]
    rcases Nat.lt_or_gt_of_ne hne with h3 | h3
    · exact hp r s h h2 h3
    · rcases hp s r h2 h h3 with h4 | h4
      · by_cases h5 : ps[r].1.ownBlock = none
        · exact .inl h5
        · exact .inr (by rw [h4]; exact h5)
      · exact .inr (fun e => h4 e.symm)
/-- slices of the call's own below a block and above it lie apart -/
theorem own_block_ne {w w' : World} {B B' : Nat} {v u : Value} {l k : List UInt8} (h : Own w B v l) (h' : Own w' B' u k) (hb : w.heap.size ≤ B') : v.ownBlock = none ∨ v.ownBlock ≠ u.ownBlock := by
  cases hv : v.ownBlock with
  | none => exact .inl rfl
  | some j =>
    refine .inr (fun e => ?_)
    have h1 := (own_lt h hv).2
    have h2 := (own_lt h' e.symm).1
    omega
theorem own_block_new {w : World} {B bl : Nat} {v : Value} {l : List UInt8} (h : Own w B v l) (hb : w.heap.size ≤ bl) : v.ownBlock ≠ some bl := fun e => by have := (own_lt h e).2; omega
theorem range_grown {w w' : World} {b o g : Nat} {cs : List Value} (h : ∀ j v, cs[j]? = some v → w.cell? ⟨b, o + j, none⟩ = some v) (hg : w.grownBy w' (some g)) (hne : b ≠ g) : ∀ j v, cs[j]? = some v → w'.cell? ⟨b, o + j, none⟩ = some v := fun j v hv => hg.cell (h j v hv) (fun e => hne (by simpa using e))
theorem blk_ne {v u : Value} {N M : Nat} (hv : ∀ j, v.ownBlock = some j → j < N) (hu : ∀ j, u.ownBlock = some j → M ≤ j) (h : N ≤ M) : v.ownBlock = none ∨ v.ownBlock ≠ u.ownBlock := by
  cases hq : v.ownBlock with
  | none => exact .inl rfl
  | some j =>
    refine .inr (fun e => ?_)
    have h1 := hv j hq
    have h2 := hu j e.symm
    omega
/-- one copy with room behind it, and what came in -/
structure K1 (w0 : World) (gX : Nat) (a : List UInt8) (w : World) : Prop where
  bel : Below w0.heap.size w0 w
  X : Own w w0.heap.size (.slice (some ⟨gX, 0, none⟩) (a.length + 40) (a.length + 40)) (fullS a)
theorem K1.ltX {w0 : World} {gX : Nat} {a : List UInt8} {w : World} (k : K1 w0 gX a w) : gX < w.heap.size := (own_lt k.X (k := gX) rfl).2
theorem K1.geX {w0 : World} {gX : Nat} {a : List UInt8} {w : World} (k : K1 w0 gX a w) : w0.heap.size ≤ gX := (own_lt k.X (k := gX) rfl).1
theorem K1.below {w0 : World} {gX : Nat} {a : List UInt8} {w w' : World} (k : K1 w0 gX a w) (hb : Below w.heap.size w w') : K1 w0 gX a w' :=
  ⟨k.bel.trans (hb.mono k.bel.size), k.X.below hb (Nat.le_refl _)⟩
theorem K1.alloc {w0 : World} {gX : Nat} {a : List UInt8} {w : World} (k : K1 w0 gX a w) (o : Obj) : K1 w0 gX a (w.alloc o) := k.below ((Below.refl _ _).alloc (Nat.le_refl _) o)
theorem K1.grown {w0 : World} {gX g : Nat} {a : List UInt8} {w w' : World} (k : K1 w0 gX a w) (hg : w.grownBy w' (some g)) (h0 : w0.heap.size ≤ g) (hx : gX ≠ g) : K1 w0 gX a w' :=
  ⟨k.bel.grown hg k.bel.size (fun j hj => by simp only [Option.some.injEq] at hj; omega), k.X.kept hg (.inr (by simpa [Value.ownBlock] using hx))⟩
theorem K1.bx {w0 : World} {gX : Nat} {a : List UInt8} {w : World} (k : K1 w0 gX a w) : Bs w w.heap.size (.slice (some ⟨gX, 0, none⟩) a.length (a.length + 40)) a := by
  have h := (k.X.pre (n := a.length) (by rw [fullS_len]; omega)).bs
  rwa [fullS_take] at h
/-- Apart of a new row of slices -/
theorem apart_new {ps : List (Value × List UInt8)} {w : World} {B n : Nat} (hn : ps.length = n) (hB : B ≤ w.heap.size) (hn2 : n ≤ 1048576) (hl : ∀ p ∈ ps, p.2.length ≤ 140737488355000)
    (hown : ∀ p ∈ ps, Own w B p.1 p.2) (hdis : ps.Pairwise (fun p q => p.1.ownBlock = none ∨ p.1.ownBlock ≠ q.1.ownBlock)) :
    Calls Try.prog 33 #[.slice (some ⟨w.heap.size, 0, none⟩) n n] (w.alloc (.cells (ps.map (·.1)).toArray 28)) fun e w' => e = .returned (.bool true) ∧ Below B w w' := by
  have C := apart_list (bl := w.heap.size) (c := n) (w := w.alloc (.cells (ps.map (·.1)).toArray 28)) hn (by rw [World.size_alloc]; omega) hn2 hl (fun r h => by
    rw [cell_of_row _ _ r _ _ (0, 0) (heap_alloc_new w _)]
    simp [h]) (fun p hp => (hown p hp).alloc _) (fun p hp => own_block_new (hown p hp) (Nat.le_refl _)) (by rw [World.size_alloc]; omega) hdis (Nat.le_refl _) (by unfold maxLen; omega)
  exact C.mono fun e w' ⟨h1, h2⟩ => ⟨h1, ((Below.refl B w).alloc hB _).trans h2⟩
end Go.Proofs.Ythgdficgjldobaa
