/- Cut as one contract, of codec and of the reference; what pieces joined are. -/
import Derived.Test.YtpimklpkjinhiaaRefCut
import Derived.Test.YtpimklpkjinhiaaAwake
namespace Go.Proofs.Ytpimklpkjinhiaa
open Go.RowKit

/-- what Cut answers: the error -/
def cutE (l : List UInt8) (xs : List Int) : Int := if ∀ x ∈ xs, 0 ≤ x then (if xs.sum = (l.length : Int) then 0 else 2) else 1
/-- what Cut answers: the pieces -/
def cutR (l : List UInt8) (xs : List Int) : List (List UInt8) := if cutE l xs = 0 then cutsL l xs xs.length else []

theorem cut_all {xs : List Int} {l : List UInt8} {v u : Value} {w : World} {B B2 : Nat} (hx : Is w B v xs) (hB : B ≤ w.heap.size) (hb : Bs w B2 u l) (hB2 : B2 ≤ w.heap.size) (hl : l.length ≤ 140737488355328) (hxs : xs.length ≤ 1099511627776) :
    Calls Try.prog 24 #[u, v] w fun e w' => ∃ r, e = .returned (.tuple #[r, .int .i64 (cutE l xs)]) ∧ OwnRs w' w.heap.size r (cutR l xs) ∧ Below w.heap.size w w' := by
  unfold cutR cutE
  by_cases hnn : ∀ x ∈ xs, 0 ≤ x
  · rw [if_pos hnn]
    by_cases hs : xs.sum = (l.length : Int)
    · rw [if_pos hs, if_pos rfl]
      exact cut_ok hx hB hnn hb hB2 hl hxs hs
    · rw [if_neg hs, if_neg (by decide)]
      exact (cut_size hx hnn hb (by omega) (by simpa using hs)).mono fun e w' h => ⟨_, h.1, OwnRs.nil _ _, by rw [h.2]; exact Below.refl _ _⟩
  · rw [if_neg hnn, if_neg (by decide)]
    exact (cut_arg hx hnn).mono fun e w' h => ⟨_, h.1, OwnRs.nil _ _, by rw [h.2]; exact Below.refl _ _⟩
theorem refcut_all {xs : List Int} {l : List UInt8} {v u : Value} {w : World} {B B2 : Nat} (hx : Is w B v xs) (hB : B ≤ w.heap.size) (hb : Bs w B2 u l) (hB2 : B2 ≤ w.heap.size) (hl : l.length ≤ 140737488355328) (hxs : xs.length ≤ 1099511627776) :
    Calls Try.prog 26 #[u, v] w fun e w' => ∃ r, e = .returned (.tuple #[r, .int .i64 (cutE l xs)]) ∧ OwnRs w' w.heap.size r (cutR l xs) ∧ Below w.heap.size w w' := by
  unfold cutR cutE
  by_cases hnn : ∀ x ∈ xs, 0 ≤ x
  · rw [if_pos hnn]
    by_cases hs : xs.sum = (l.length : Int)
    · rw [if_pos hs, if_pos rfl]
      exact refcut_ok hx hB hnn hb hB2 hl hxs hs
    · rw [if_neg hs, if_neg (by decide)]
      exact (refcut_size hx hB hnn hb hB2 hl hxs hs).mono fun e w' h => ⟨_, h.1, OwnRs.nil _ _, h.2⟩
  · rw [if_neg hnn, if_neg (by decide)]
    exact (refcut_arg hx hnn).mono fun e w' h => ⟨_, h.1, OwnRs.nil _ _, by rw [h.2]; exact Below.refl _ _⟩

theorem cutsL_flatten (l : List UInt8) (xs : List Int) (hnn : ∀ x ∈ xs, 0 ≤ x) (k : Nat) (hk : k ≤ xs.length) : (cutsL l xs k).flatten = l.take (preI xs k).toNat := by
  induction k with
  | zero => simp [cutsL, preI_zero]
  | succ k ih =>
    have h1 := preI_succ xs (show k < xs.length by omega)
    have h2 := (preI_mono xs hnn k).1
    have h3 := hnn _ (List.getElem_mem (show k < xs.length by omega))
    rw [cutsL_succ, List.flatten_append, ih (by omega), h1]
    have e : (preI xs k + xs[k]).toNat = (preI xs k).toNat + xs[k].toNat := by omega
    rw [e, List.take_add]
    simp [pieceL, show k < xs.length by omega]
theorem cutR_flatten {l : List UInt8} {xs : List Int} (h : cutE l xs = 0) : (cutR l xs).flatten = l := by
  unfold cutR
  rw [if_pos h]
  unfold cutE at h
  by_cases hnn : ∀ x ∈ xs, 0 ≤ x
  · rw [if_pos hnn] at h
    by_cases hs : xs.sum = (l.length : Int)
    · rw [cutsL_flatten l xs hnn _ (Nat.le_refl _), preI_end xs (Nat.le_refl _), hs]
      simp
    · rw [if_neg hs] at h
      exact absurd h (by decide)
  · rw [if_neg hnn] at h
    exact absurd h (by decide)
def lens (ls : List (List UInt8)) : List Int := ls.map fun l => (l.length : Int)
theorem preI_lens (ls : List (List UInt8)) (k : Nat) : preI (lens ls) k = ((preL ls k).length : Nat) := by
  unfold preI preL lens
  rw [← List.map_take]
  generalize ls.take k = m
  induction m with
  | nil => simp
  | cons x r ih => simp only [List.map_cons, List.sum_cons, List.flatten_cons, List.length_append, ih]; omega
theorem cut_lens (ls : List (List UInt8)) : cutE ls.flatten (lens ls) = 0 ∧ cutR ls.flatten (lens ls) = ls := by
  have hnn : ∀ x ∈ lens ls, 0 ≤ x := by
    intro x hx
    obtain ⟨y, _, rfl⟩ := List.mem_map.1 hx
    omega
  have hs : (lens ls).sum = (ls.flatten.length : Int) := by
    have h := preI_lens ls ls.length
    rw [preI_end _ (by simp [lens]), preL_all] at h
    exact h
  have hE : cutE ls.flatten (lens ls) = 0 := by
    unfold cutE
    rw [if_pos hnn, if_pos hs]
  refine ⟨hE, ?_⟩
  unfold cutR
  rw [if_pos hE]
  apply List.ext_getElem (by simp [cutsL_length, lens])
  intro k h1 h2
  have e1 : (cutsL ls.flatten (lens ls) (lens ls).length)[k] = pieceL ls.flatten (lens ls) k := by simp [cutsL]
  have e2 : (lens ls).getD k 0 = (ls[k].length : Int) := by simp [lens, h2]
  have e3 : ls.flatten = preL ls k ++ (ls[k] ++ (ls.drop (k + 1)).flatten) := by
    have : ls = ls.take k ++ (ls[k] :: ls.drop (k + 1)) := by
      rw [← List.drop_eq_getElem_cons h2, List.take_append_drop]
    conv => lhs; rw [this]
    rw [List.flatten_append, List.flatten_cons]
    rfl
  rw [e1, pieceL, e2, preI_lens, Int.toNat_natCast, Int.toNat_natCast, e3, List.drop_left, List.take_left]
end Go.Proofs.Ytpimklpkjinhiaa
