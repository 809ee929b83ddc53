/- Slices of numbers; digits of a number, a digit of a list. -/
import Derived.Test.YtnkbgokimafaeaaZ2
namespace Go.Proofs.Ytnkbgokimafaeaa
open Go.RowKit

def vu (x : Nat) : Value := .int .u64 (x : Int)
/-- v is a slice of the call's own that holds the numbers l -/
def OwnU (w : World) (B : Nat) (v : Value) (l : List Nat) : Prop := w.ownsRow B 30 1 v l.length (l.map vu)
theorem u64info : (Try.prog.info? 30).map (fun i => (i.zero, i.size, i.bytes)) = some (some (.int .u64 0), 1, 8) := by kernel_rfl
theorem OwnU.nil (w : World) (B : Nat) : OwnU w B (.slice none 0 0) [] := World.ownsRow_nil w B _ _
theorem OwnU.below {w w' : World} {B : Nat} {v : Value} {l : List Nat} (h : OwnU w B v l) (hb : Below w.heap.size w w') : OwnU w' B v l := by
  obtain ⟨h1, h2⟩ := h
  refine ⟨h1, ?_⟩
  rcases h2 with h2 | ⟨g, cap, cur, hv, hg, hh, r⟩
  · exact .inl h2
  · exact .inr ⟨g, cap, cur, hv, hg, (hb.block g ((Array.getElem?_eq_some_iff.1 hh).1)).trans hh, r⟩
theorem OwnU.more {w : World} {B B' : Nat} {v : Value} {l : List Nat} (h : OwnU w B v l) (hB : B' ≤ B) : OwnU w B' v l :=
  ⟨h.1, by
    rcases h.2 with h2 | ⟨g, cap, cur, hv, hg, r⟩
    · exact .inl h2
    · exact .inr ⟨g, cap, cur, hv, Nat.le_trans hB hg, r⟩⟩
theorem OwnU.shape {w : World} {B n : Nat} {v : Value} {l : List Nat} (h : OwnU w B v l) (hn : l.length = n) : ∃ A c, v = .slice A n c := by
  subst hn
  rcases h.2 with ⟨rfl, h0⟩ | ⟨g, cap, cur, rfl, _⟩
  · exact ⟨_, _, by rw [h0]⟩
  · exact ⟨_, _, rfl⟩
theorem OwnU.lt {w : World} {B : Nat} {v : Value} {l : List Nat} (h : OwnU w B v l) {k : Nat} (hk : v.ownBlock = some k) : B ≤ k ∧ k < w.heap.size := World.ownsRow.lt h k hk
/-- place j of it -/
theorem OwnU.at_ {w : World} {B n c j : Nat} {A : Option Addr} {l : List Nat} (h : OwnU w B (.slice A n c) l) (hj : j < l.length) :
    ∃ g, A = some ⟨g, 0, none⟩ ∧ B ≤ g ∧ g < w.heap.size ∧ w.cell? ⟨g, j, none⟩ = some (.int .u64 (l[j] : Int)) ∧ w.frozen? ⟨g, j, none⟩ = false ∧
      ∀ x : Nat, OwnU (w.setCell ⟨g, j, none⟩ (.int .u64 (x : Int))) B (.slice A n c) (l.set j x) := by
  rcases h.2 with ⟨hv, hn⟩ | ⟨g, cap, cur, hv, hg, hh, hnc, hcm, hsz, htk⟩
  · omega
  · simp only [Value.slice.injEq] at hv
    obtain ⟨rfl, rfl, rfl⟩ := hv
    have hlt : g < w.heap.size := (Array.getElem?_eq_some_iff.1 hh).1
    refine ⟨g, rfl, hg, hlt, ?_, frozen_of_row w g j cur _ hh, fun x => ?_⟩
    · have h2 := World.ownsRow.cellAt h j (by omega)
      rw [h2]
      simp [vu, hj]
    · have h3 := (World.ownsRow.stored h j (vu x)).1
      unfold OwnU
      rw [List.length_set, List.map_set]
      exact h3
/-- v is a slice that reads as the numbers l, below block B -/
def Us (w : World) (B : Nat) (v : Value) (l : List Nat) : Prop :=
  ∃ A c, v = .slice A l.length c ∧ l.length ≤ c ∧ c ≤ maxLen ∧
    (0 < l.length → ∃ b off, A = some ⟨b, off, none⟩ ∧ b < B ∧ ∀ j (h : j < l.length), w.cell? ⟨b, off + j, none⟩ = some (.int .u64 (l[j] : Int)))
theorem OwnU.us {w : World} {B : Nat} {v : Value} {l : List Nat} (h : OwnU w B v l) : Us w w.heap.size v l := by
  have hh := h
  rcases h.2 with ⟨rfl, hn⟩ | ⟨g, cap, cur, rfl, hg, hb, hnc, hcm, hsz, htk⟩
  · exact ⟨none, 0, by rw [hn], by omega, Nat.zero_le _, fun h0 => absurd h0 (by omega)⟩
  · refine ⟨_, _, rfl, hnc, hcm, fun _ => ⟨g, 0, rfl, (Array.getElem?_eq_some_iff.1 hb).1, fun j hj => ?_⟩⟩
    obtain ⟨g', e, _, _, hc, _⟩ := hh.at_ hj
    simp only [Option.some.injEq, Addr.mk.injEq] at e
    rw [e.1, Nat.zero_add]
    exact hc
theorem Us.below {w w' : World} {B B' : Nat} {v : Value} {l : List Nat} (h : Us w B v l) (hb : Below B' w w') (hB : B ≤ B') : Us w' B v l := by
  obtain ⟨A, c, rfl, h1, h2, h3⟩ := h
  refine ⟨A, c, rfl, h1, h2, fun hp => ?_⟩
  obtain ⟨b, off, rfl, hlt, hc⟩ := h3 hp
  exact ⟨b, off, rfl, hlt, fun j hj => (hb.cell (p := ⟨b, off + j, none⟩) (by show b < B'; omega)).trans (hc j hj)⟩
theorem Us.kept {w w' : World} {B : Nat} {v : Value} {l : List Nat} {r : Option Nat} (h : Us w B v l) (hg : w.grownBy w' r) (hB : B ≤ w.heap.size) (hr : ∀ j, r = some j → B ≤ j) : Us w' B v l :=
  h.below ⟨hg.os, hg.tape, hg.output, hg.size, fun k hk => hg.block k (by omega) (fun e => by have := hr k e.symm; omega)⟩ (Nat.le_refl _)
theorem Us.shape {w : World} {B n : Nat} {v : Value} {l : List Nat} (h : Us w B v l) (hn : l.length = n) : ∃ A c, v = .slice A n c := by
  obtain ⟨A, c, e, _⟩ := h
  exact ⟨A, c, by rw [e, hn]⟩
theorem Us.more {w : World} {B B' : Nat} {v : Value} {l : List Nat} (h : Us w B v l) (hB : B ≤ B') : Us w B' v l := by
  obtain ⟨A, c, rfl, h1, h2, h3⟩ := h
  refine ⟨A, c, rfl, h1, h2, fun hp => ?_⟩
  obtain ⟨b, off, rfl, hlt, hc⟩ := h3 hp
  exact ⟨b, off, rfl, by omega, hc⟩
/-- new zeros -/
theorem OwnU.made (w : World) (n : Nat) (hn : n ≤ maxLen) : OwnU (w.alloc (.cells (madeCells #[.int .u64 0] n) 30)) w.heap.size (.slice (some ⟨w.heap.size, 0, none⟩) n n) (List.replicate n 0) := by
  have h := owns_of_row (us := (List.replicate n 0).map vu) (World.rowIs_made w (.int .u64 0) n 30) (Nat.le_refl _) hn (by simp) (fun j hj => by simp [vu])
  unfold OwnU
  rw [List.length_replicate]
  exact h
/-- append of one number -/
theorem wpList_appU {w : World} {ops : Array Oper} {rest : List Oper} {o : Oper} {a : Act} {Q : Exit → Act → World → Prop} (hgd : o.guard = none) (s x : Operand)
    (ho : o.op = .call { callee := .builtin .append, args := #[s, x], argTypes := #[32, 32] })
    {B : Nat} {v : Value} {l : List Nat} {z : Nat} {y : Int} (hs : a.eval s = v) (hown : OwnU w B v l) (ad : Addr) (hx : a.eval x = .slice (some ad) 1 1) (hcell : w.cell? ad = some (.int .u64 y)) (hy : y = (z : Int)) (hsum : l.length + 1 ≤ 1048576) (hB : B ≤ w.heap.size)
    (h : ∀ v' w', OwnU w' B v' (l ++ [z]) → w.grownBy w' v.ownBlock → wpList Try.prog ops Q rest (a.put o.dst v') w') : wpList Try.prog ops Q (o :: rest) a w := by
  subst hy
  obtain ⟨i, hi, hz0, hz1, hz2⟩ := info_parts u64info
  refine wpList_append_own w hgd s x 32 ho B 30 i (.int .u64 0) 1 8 Try.underlying32 hi hz0 hz1 hz2 rfl (by omega) v l.length (l.map vu) hs hown ad 1 1 [vu z] hx rfl ?_ ?_ ?_ ?_ hB ?_
  · intro j y hy
    obtain ⟨hj, rfl⟩ := List.getElem?_eq_some_iff.1 hy
    obtain rfl : j = 0 := by simpa using hj
    simpa [Addr.add, vu] using hcell
  · intro y hy
    obtain rfl : y = vu z := by simpa using hy
    rfl
  · unfold maxLen; omega
  · omega
  · intro v' w' hown' hg _
    refine h v' w' ?_ hg
    unfold OwnU
    rw [List.length_append, List.map_append]
    exact hown'
end Go.Proofs.Ytnkbgokimafaeaa
