/- Bytes that are hashed: lists alone. -/
import Derived.Test.YtifgigpflfdmfaaHash
namespace Go.Proofs.Ytifgigpflfdmfaa
open Go.RowKit

/-- the state behind m blocks -/
def blocksL (L : List UInt8) : Nat → List UInt32
  | 0 => startL
  | m + 1 => compL (blocksL L m) ((L.drop (64 * m)).take 64)
theorem roundsL_len {s : List UInt32} (h : s.length = 8) (W : List UInt32) (j : Nat) : (roundsL s W j).length = 8 := by
  obtain ⟨a, b, c, d, e, f, g, k, rfl⟩ := words8 h
  obtain ⟨a1, b1, c1, d1, e1, f1, g1, k1, h⟩ := roundsL_words a b c d e f g k W j
  rw [h]; rfl
theorem compL_len {s : List UInt32} (h : s.length = 8) (l : List UInt8) : (compL s l).length = 8 := by
  rw [compL, addUp_len, roundsL_len h]
theorem blocksL_len (L : List UInt8) (m : Nat) : (blocksL L m).length = 8 := by
  induction m with
  | zero => rfl
  | succ m ih => exact compL_len ih _
theorem blocksL_app (L Q : List UInt8) (m : Nat) (h : 64 * m ≤ L.length) : blocksL (L ++ Q) m = blocksL L m := by
  induction m with
  | zero => rfl
  | succ m ih =>
    rw [blocksL, blocksL, ih (by omega)]
    congr 1
    rw [List.drop_append_of_le_length (by omega), List.take_append_of_le_length (by simp; omega)]
/-- what a hash holds that was written L -/
structure HashOf (L : List UInt8) (st : List UInt32) (rest : List UInt8) : Prop where
  st : 64 ≤ L.length → st = blocksL L (L.length / 64)
  rest : rest.take (L.length % 64) = L.drop (64 * (L.length / 64))
theorem HashOf.chain {L : List UInt8} {st : List UInt32} {rest : List UInt8} (h : HashOf L st rest) : chainL st L.length = blocksL L (L.length / 64) := by
  unfold chainL
  by_cases hl : L.length < 64
  · rw [if_pos hl, Nat.div_eq_of_lt hl]; rfl
  · rw [if_neg hl]; exact h.st (by omega)
/-- Q laid into the rest from its end on -/
def layR (rest Q : List UInt8) (r : Nat) : List UInt8 := rest.take r ++ (Q ++ rest.drop (r + Q.length))
theorem layR_len {rest Q : List UInt8} {r : Nat} (h : r + Q.length ≤ rest.length) : (layR rest Q r).length = rest.length := by
  simp [layR]; omega
theorem HashOf.more {L Q : List UInt8} {st : List UInt32} {rest : List UInt8} (h : HashOf L st rest) (hr : rest.length = 64) (hq : L.length % 64 + Q.length < 64) : HashOf (L ++ Q) st (layR rest Q (L.length % 64)) := by
  have hl : (L ++ Q).length = L.length + Q.length := List.length_append
  have hd : (L.length + Q.length) / 64 = L.length / 64 := by omega
  have hm : (L.length + Q.length) % 64 = L.length % 64 + Q.length := by omega
  refine ⟨fun h64 => ?_, ?_⟩
  · rw [hl] at h64 ⊢
    rw [hd, blocksL_app L Q _ (by omega)]
    exact h.st (by omega)
  · rw [hl, hd, hm, List.drop_append_of_le_length (by omega), ← h.rest, layR]
    have h1 : (rest.take (L.length % 64)).length = L.length % 64 := by simp; omega
    rw [List.take_append, h1]
    have h2 : L.length % 64 + Q.length - L.length % 64 = Q.length := by omega
    rw [h2, List.take_append_of_le_length (Nat.le_refl _), List.take_of_length_le (Nat.le_refl _), List.take_of_length_le (by rw [h1]; omega)]
theorem HashOf.full {L Q : List UInt8} {st : List UInt32} {rest : List UInt8} (h : HashOf L st rest) (hr : rest.length = 64) (hq : L.length % 64 + Q.length = 64) : HashOf (L ++ Q) (compL (chainL st L.length) (layR rest Q (L.length % 64))) (layR rest Q (L.length % 64)) := by
  have hl : (L ++ Q).length = L.length + Q.length := List.length_append
  have hd : (L.length + Q.length) / 64 = L.length / 64 + 1 := by omega
  have hm : (L.length + Q.length) % 64 = 0 := by omega
  have h1 : (rest.take (L.length % 64)).length = L.length % 64 := by simp; omega
  have hlay : layR rest Q (L.length % 64) = (L ++ Q).drop (64 * (L.length / 64)) := by
    rw [List.drop_append_of_le_length (by omega), ← h.rest, layR, List.drop_of_length_le (by omega), List.append_nil]
  refine ⟨fun _ => ?_, ?_⟩
  · rw [hl, hd, blocksL, blocksL_app L Q _ (by omega), ← h.chain, hlay]
    congr 1
    rw [List.take_of_length_le (by simp; omega)]
  · rw [hl, hm, List.take_zero, List.drop_of_length_le (by rw [hl]; omega)]
theorem HashOf.nil : HashOf [] (List.replicate 8 0) (List.replicate 64 0) := ⟨fun h => by simp at h, by simp⟩
end Go.Proofs.Ytifgigpflfdmfaa
