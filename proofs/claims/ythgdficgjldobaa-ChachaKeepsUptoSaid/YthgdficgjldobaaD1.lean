/- Rows of slices of bytes that lie apart: one by one, listed, appended. -/
import Derived.Test.YthgdficgjldobaaLib
namespace Go.Proofs.Ythgdficgjldobaa
open Go.RowKit

/-- the two lie in different blocks -/
def Ap (p q : Value × List UInt8) : Prop := ∀ j, p.1.ownBlock = some j → q.1.ownBlock ≠ some j
theorem Ap.symm {p q : Value × List UInt8} (h : Ap p q) : Ap q p := fun j hq hp => h j hp hq
theorem Ap.or {p q : Value × List UInt8} (h : Ap p q) : p.1.ownBlock = none ∨ p.1.ownBlock ≠ q.1.ownBlock := by
  cases hp : p.1.ownBlock with
  | none => exact .inl rfl
  | some j => exact .inr (fun e => h j hp e.symm)
theorem ownLt {w : World} {B : Nat} {v : Value} {l : List UInt8} (h : Own w B v l) {k : Nat} (hk : v.ownBlock = some k) : B ≤ k ∧ k < w.heap.size := World.ownsRow.lt h k hk
/-- slices of the call's own, each in a block of its own -/
structure Acc (w : World) (B : Nat) (ps : List (Value × List UInt8)) : Prop where
  own : ∀ p ∈ ps, Own w B p.1 p.2
  dis : ps.Pairwise Ap
theorem Acc.nil (w : World) (B : Nat) : Acc w B [] := ⟨by simp, List.Pairwise.nil⟩
theorem Acc.below {w w' : World} {B : Nat} {ps : List (Value × List UInt8)} (h : Acc w B ps) (hb : Below w.heap.size w w') : Acc w' B ps := ⟨fun p hp => (h.own p hp).below hb (Nat.le_refl _), h.dis⟩
theorem Acc.alloc {w : World} {B : Nat} {ps : List (Value × List UInt8)} (h : Acc w B ps) (o : Obj) : Acc (w.alloc o) B ps := h.below ((Below.refl _ _).alloc (Nat.le_refl _) o)
theorem Acc.drewN {w : World} {B : Nat} {ps : List (Value × List UInt8)} (h : Acc w B ps) (n : Nat) : Acc (w.drewN n) B ps := h.below (below_drewN (Below.refl _ _) n)
theorem Acc.more {w : World} {B B' : Nat} {ps : List (Value × List UInt8)} (h : Acc w B ps) (hB : B' ≤ B) : Acc w B' ps := ⟨fun p hp => (h.own p hp).more hB, h.dis⟩
theorem Acc.kept {w w' : World} {B : Nat} {ps : List (Value × List UInt8)} {r : Option Nat} (h : Acc w B ps) (hg : w.grownBy w' r) (hr : ∀ j, r = some j → j < B) : Acc w' B ps :=
  ⟨fun p hp => (h.own p hp).kept hg (by
    cases hv : p.1.ownBlock with
    | none => exact .inl rfl
    | some j =>
      refine .inr (fun e => ?_)
      have h1 := (ownLt (h.own p hp) hv).1
      have h2 := hr j e.symm
      omega), h.dis⟩
theorem Acc.perm {w : World} {B : Nat} {ps qs : List (Value × List UInt8)} (h : Acc w B ps) (hp : ps.Perm qs) : Acc w B qs := ⟨fun p hq => h.own p (hp.mem_iff.2 hq), (hp.pairwise_iff (fun h => h.symm)).1 h.dis⟩
theorem Acc.app {w : World} {B N : Nat} {ps qs : List (Value × List UInt8)} (h : Acc w B ps) (k : Acc w N qs) (hu : ∀ p ∈ ps, ∀ j, p.1.ownBlock = some j → j < N) (hB : B ≤ N) : Acc w B (ps ++ qs) := by
  refine ⟨fun p hp => ?_, List.pairwise_append.2 ⟨h.dis, k.dis, fun p hp q hq j hj hk => ?_⟩⟩
  · rcases List.mem_append.1 hp with hp | hp
    · exact h.own p hp
    · exact (k.own p hp).more hB
  · have h1 := hu p hp j hj
    have h2 := (ownLt (k.own q hq) hk).1
    omega
/-- one more, made later -/
theorem Acc.push {w w' : World} {B N : Nat} {ps : List (Value × List UInt8)} {v : Value} {l : List UInt8} (h : Acc w B ps) (hb : Below w.heap.size w w') (ho : Own w' N v l) (hN : w.heap.size ≤ N) (hB : B ≤ N) : Acc w' B (ps ++ [(v, l)]) := by
  refine (h.below hb).app ⟨fun p hp => ?_, List.pairwise_singleton _ _⟩ (fun p hp j hj => ?_) hB
  · obtain rfl : p = (v, l) := by simpa using hp
    exact ho
  · have := (ownLt (h.own p hp) hj).2
    omega
/-- more, made later -/
theorem Acc.pushes {w w' : World} {B N : Nat} {ps qs : List (Value × List UInt8)} (h : Acc w B ps) (hb : Below w.heap.size w w') (ho : Acc w' N qs) (hN : w.heap.size ≤ N) (hB : B ≤ N) : Acc w' B (ps ++ qs) :=
  (h.below hb).app ho (fun p hp j hj => by
    have := (ownLt (h.own p hp) hj).2
    omega) hB

/-- v is a slice whose row lies at block R or behind it and whose places are slices of bytes apart -/
structure Dv (w : World) (R B : Nat) (v : Value) (n : Nat) (ps : List (Value × List UInt8)) : Prop where
  row : w.ownsRow R 28 1 v n (ps.map (·.1))
  acc : Acc w B ps
theorem Dv.len {w : World} {R B n : Nat} {v : Value} {ps : List (Value × List UInt8)} (h : Dv w R B v n ps) : ps.length = n := by have := h.row.1; simpa using this
theorem Dv.lt {w : World} {R B n : Nat} {v : Value} {ps : List (Value × List UInt8)} (h : Dv w R B v n ps) {k : Nat} (hk : v.ownBlock = some k) : R ≤ k ∧ k < w.heap.size := h.row.lt k hk
theorem Dv.shape {w : World} {R B n : Nat} {v : Value} {ps : List (Value × List UInt8)} (h : Dv w R B v n ps) : ∃ A c, v = .slice A n c := by
  rcases h.row.2 with ⟨rfl, rfl⟩ | ⟨g, cap, cur, rfl, _⟩
  · exact ⟨_, _, rfl⟩
  · exact ⟨_, _, rfl⟩
theorem Dv.kept {w w' : World} {R B n : Nat} {v : Value} {ps : List (Value × List UInt8)} {r : Option Nat} (h : Dv w R B v n ps) (hg : w.grownBy w' r) (hr : ∀ j, r = some j → j < B ∧ v.ownBlock ≠ some j) : Dv w' R B v n ps :=
  ⟨h.row.kept hg (by
    cases hv : v.ownBlock with
    | none => exact .inl rfl
    | some j => exact .inr (fun e => (hr j e.symm).2 hv)), h.acc.kept hg (fun j hj => (hr j hj).1)⟩
theorem Dv.below {w w' : World} {R B n : Nat} {v : Value} {ps : List (Value × List UInt8)} (h : Dv w R B v n ps) (hb : Below w.heap.size w w') : Dv w' R B v n ps := by
  refine ⟨?_, h.acc.below hb⟩
  obtain ⟨h1, h2⟩ := h.row
  refine ⟨h1, ?_⟩
  rcases h2 with h2 | ⟨g, cap, cur, hv, hg, hh, r⟩
  · exact .inl h2
  · exact .inr ⟨g, cap, cur, hv, hg, (hb.block g ((Array.getElem?_eq_some_iff.1 hh).1)).trans hh, r⟩
theorem Dv.alloc {w : World} {R B n : Nat} {v : Value} {ps : List (Value × List UInt8)} (h : Dv w R B v n ps) (o : Obj) : Dv (w.alloc o) R B v n ps := h.below ((Below.refl _ _).alloc (Nat.le_refl _) o)
theorem Dv.more {w : World} {R B R' B' n : Nat} {v : Value} {ps : List (Value × List UInt8)} (h : Dv w R B v n ps) (hR : R' ≤ R) (hB : B' ≤ B) : Dv w R' B' v n ps :=
  ⟨⟨h.row.1, by
    rcases h.row.2 with h2 | ⟨g, cap, cur, hv, hg, r⟩
    · exact .inl h2
    · exact .inr ⟨g, cap, cur, hv, Nat.le_trans hR hg, r⟩⟩, h.acc.more hB⟩
theorem Dv.ownRs {w : World} {R B n : Nat} {v : Value} {ps : List (Value × List UInt8)} (h : Dv w R B v n ps) (hR : B ≤ R) : OwnRs w B v (ps.map (·.2)) := by
  have hl := h.len
  refine ⟨ps.map (·.1), ?_, by simp, fun j hj hj' => ?_⟩
  · rw [List.length_map, hl]
    exact (h.more hR (Nat.le_refl _)).row
  · rw [List.getElem_map, List.getElem_map]
    exact h.acc.own _ (List.getElem_mem _)
/-- a new row of them -/
theorem Dv.lit {w : World} {B n : Nat} {ps : List (Value × List UInt8)} (h : Acc w B ps) (hn : ps.length = n) (hm : n ≤ maxLen) : Dv (w.alloc (.cells (ps.map (·.1)).toArray 28)) w.heap.size B (.slice (some ⟨w.heap.size, 0, none⟩) n n) n ps :=
  ⟨⟨by simp [hn], .inr ⟨w.heap.size, n, (ps.map (·.1)).toArray, rfl, Nat.le_refl _, heap_alloc_new w _, Nat.le_refl _, hm, by simp [hn], by rw [← hn]; simp [List.take_of_length_le]⟩⟩, h.alloc _⟩
theorem own_one {w : World} {B : Nat} {v : Value} {l : List UInt8} (h : Own w B v l) : v.oneCell' = true := by
  rcases h.2 with ⟨rfl, _⟩ | ⟨g, cap, cur, rfl, _⟩ <;> rfl
/-- append(v, u...) of such rows -/
theorem wpList_appD {w : World} {ops : Array Oper} {rest : List Oper} {o : Oper} {a : Act} {Q : Exit → Act → World → Prop} (hgd : o.guard = none) (s x : Operand)
    (ho : o.op = .call { callee := .builtin .append, args := #[s, x], argTypes := #[41, 41] })
    {R R' B n m : Nat} {v u : Value} {ps qs : List (Value × List UInt8)} (hs : a.eval s = v) (hv : w.ownsRow R 28 1 v n (ps.map (·.1))) (hx : a.eval x = u) (hu : w.ownsRow R' 28 1 u m (qs.map (·.1))) (hm : 0 < m)
    (hacc : Acc w B (ps ++ qs)) (hsum : n + m ≤ 5864062014805) (hR : R ≤ w.heap.size)
    (h : ∀ v' w', Dv w' R B v' (n + m) (ps ++ qs) → w.grownBy w' v.ownBlock → wpList Try.prog ops Q rest (a.put o.dst v') w') : wpList Try.prog ops Q (o :: rest) a w := by
  obtain ⟨i, hi, hz0, hz1, hz2⟩ := info_parts u24info
  have hul := hu.1
  rcases hu.2 with ⟨_, h0⟩ | ⟨g, cap, cur, rfl, hg, hh, hnc, hcm, hsz, htk⟩
  · omega
  refine wpList_append_own w hgd s x 41 ho R 28 i (.slice none 0 0) 1 24 Try.underlying41 hi hz0 hz1 hz2 rfl (by omega) v n (ps.map (·.1)) hs hv ⟨g, 0, none⟩ m cap (qs.map (·.1)) hx hul (hu.cells (g := g) rfl) ?_ ?_ ?_ hR ?_
  · intro y hy
    obtain ⟨q, hq, rfl⟩ := List.mem_map.1 hy
    exact own_one (hacc.own q (List.mem_append_right _ hq))
  · unfold maxLen; omega
  · omega
  · intro v' w' hown' hg2 _
    exact h v' w' ⟨by rw [List.map_append]; exact hown', ⟨fun p hp => (hacc.own p hp).kept hg2 (own_apart hv (hacc.own p hp) (by decide)), hacc.dis⟩⟩ hg2
/-- what is bytes of the call's own stays as it is when a row of slices grows -/
theorem Own.rowGrown {w w' : World} {R B B' n : Nat} {v y : Value} {l : List UInt8} {ps : List (Value × List UInt8)} (h : Own w B' y l) (hv : Dv w R B v n ps) (hg : w.grownBy w' v.ownBlock) : Own w' B' y l := h.kept hg (own_apart hv.row h (by decide))
theorem Acc.rowGrown {w w' : World} {R B B' n : Nat} {v : Value} {ps qs : List (Value × List UInt8)} (h : Acc w B' qs) (hv : Dv w R B v n ps) (hg : w.grownBy w' v.ownBlock) : Acc w' B' qs := ⟨fun p hp => (h.own p hp).rowGrown hv hg, h.dis⟩
theorem Dv.rowGrown {w w' : World} {R B R' B' n m : Nat} {v u : Value} {ps qs : List (Value × List UInt8)} (h : Dv w R' B' u m qs) (hv : Dv w R B v n ps) (hg : w.grownBy w' v.ownBlock) (hu : ∀ j, u.ownBlock = some j → j < R) : Dv w' R' B' u m qs :=
  ⟨h.row.kept hg (by
    cases hk : u.ownBlock with
    | none => exact .inl rfl
    | some j =>
      refine .inr (fun e => ?_)
      have h1 := hu j hk
      have h2 := (hv.lt e.symm).1
      omega), h.acc.rowGrown hv hg⟩
end Go.Proofs.Ythgdficgjldobaa
