/- The lists of the law of mac: what they hand out lies apart. -/
import Derived.Test.YtlheekbbioajpaaX4
import Derived.Test.YtlheekbbioajpaaD1
namespace Go.Proofs.Ytlheekbbioajpaa
open Go.RowKit

theorem expL_le (key info : List UInt8) (n : Nat) : (expL key info n).length ≤ n := by unfold expL; rw [List.length_take]; omega
/-- what the law's lists hold -/
def listsM (n m : Nat) (a b : List UInt8) : List (List UInt8) := [shortL a b, shortL b (a ++ b), expL a b n, expL b [] m]
theorem listsM_le (n m : Nat) (a b : List UInt8) : ∀ l ∈ listsM n m a b, l.length ≤ n + m + 16 := by
  intro l hl
  simp only [listsM, List.mem_cons, List.not_mem_nil, or_false] at hl
  have h1 := expL_le a b n
  have h2 := expL_le b [] m
  rcases hl with rfl | rfl | rfl | rfl
  · unfold shortL; rw [List.length_take]; omega
  · unfold shortL; rw [List.length_take]; omega
  · omega
  · omega
theorem perm4 {α : Type} (x y s t : α) : (((([] ++ [x]) ++ [y]) ++ [s]) ++ [t]).Perm [s, t, x, y] := by
  show ([x, y] ++ [s, t]).Perm ([s, t] ++ [x, y])
  exact List.perm_append_comm
theorem alloc_below {w w' : World} {o : Obj} (h : Below (w.alloc o).heap.size (w.alloc o) w') : Below w.heap.size w w' := ((Below.refl _ _).alloc (Nat.le_refl _) o).trans (h.mono (by simp))
theorem rs1 {a : List UInt8} {u : Value} {w : World} (ha : Bs w w.heap.size u a) : Rs (w.alloc (.cells #[u] 22)) (w.heap.size + 1) (.slice (some ⟨w.heap.size, 0, none⟩) 1 1) [a] :=
  Rs.lit w [u] [a] rfl (by unfold maxLen; simp) (by
    intro j h h'
    match j, h, h' with
    | 0, _, _ => exact ha)
theorem rs2 {a b : List UInt8} {u v : Value} {w : World} (ha : Bs w w.heap.size u a) (hb : Bs w w.heap.size v b) : Rs (w.alloc (.cells #[u, v] 22)) (w.heap.size + 1) (.slice (some ⟨w.heap.size, 0, none⟩) 2 2) [a, b] :=
  Rs.lit w [u, v] [a, b] rfl (by unfold maxLen; simp) (by
    intro j h h'
    match j, h, h' with
    | 0, _, _ => exact ha
    | 1, _, _ => exact hb)
theorem k_exp {a b : List UInt8} {u v : Value} {w : World} {n : Nat} (hn : n ≤ 8160) (ha : Bs w w.heap.size u a) (hb : Bs w w.heap.size v b) (hla : a.length ≤ 1048576) (hlb : b.length ≤ 1048576) :
    Calls Try.prog 8 #[u, .int .i64 (n : Int), .slice (some ⟨w.heap.size, 0, none⟩) 1 1] (w.alloc (.cells #[v] 22)) fun e w' => ∃ r, e = .returned (.tuple #[r, .int .i64 0]) ∧ Own w' w.heap.size r (expL a b n) ∧ Below w.heap.size w w' := by
  have C := expand_ok (n := n) ((ha.alloc (Nat.le_refl _) (.cells #[v] 22)).more (Nat.le_succ _)) (rs1 hb) (by simp) (by omega) (by simp; omega) hn
  rw [show [b].flatten = b by simp] at C
  exact C.mono fun e w' ⟨r, h1, h2, h3⟩ => ⟨r, h1, h2.more (by simp), alloc_below h3⟩
theorem k_exp0 {b : List UInt8} {v : Value} {w : World} {m : Nat} (hm : m ≤ 8160) (hb : Bs w w.heap.size v b) (hlb : b.length ≤ 1048576) :
    Calls Try.prog 8 #[v, .int .i64 (m : Int), .slice none 0 0] w fun e w' => ∃ r, e = .returned (.tuple #[r, .int .i64 0]) ∧ Own w' w.heap.size r (expL b [] m) ∧ Below w.heap.size w w' :=
  expand_ok (n := m) hb (Rs.nil w _) (Nat.le_refl _) (by omega) (by simp) hm
theorem k_short1 {a b : List UInt8} {u v : Value} {w : World} (ha : Bs w w.heap.size u a) (hb : Bs w w.heap.size v b) (hla : a.length ≤ 1048576) (hlb : b.length ≤ 1048576) :
    Calls Try.prog 47 #[u, .slice (some ⟨w.heap.size, 0, none⟩) 1 1] (w.alloc (.cells #[v] 22)) fun e w' => ∃ r, e = .returned r ∧ Own w' w.heap.size r (shortL a b) ∧ Below w.heap.size w w' := by
  have C := short_any ((ha.alloc (Nat.le_refl _) (.cells #[v] 22)).more (Nat.le_succ _)) (rs1 hb) (by simp) (by omega) (by simp; omega)
  rw [show [b].flatten = b by simp] at C
  exact C.mono fun e w' ⟨r, h1, h2, h3⟩ => ⟨r, h1, h2.more (by simp), alloc_below h3⟩
theorem k_short2 {a b : List UInt8} {u v : Value} {w : World} (ha : Bs w w.heap.size u a) (hb : Bs w w.heap.size v b) (hla : a.length ≤ 1048576) (hlb : b.length ≤ 1048576) :
    Calls Try.prog 47 #[v, .slice (some ⟨w.heap.size, 0, none⟩) 2 2] (w.alloc (.cells #[u, v] 22)) fun e w' => ∃ r, e = .returned r ∧ Own w' w.heap.size r (shortL b (a ++ b)) ∧ Below w.heap.size w w' := by
  have C := short_any ((hb.alloc (Nat.le_refl _) (.cells #[u, v] 22)).more (Nat.le_succ _)) (rs2 ha hb) (by simp) (by omega) (by simp; omega)
  rw [show [a, b].flatten = a ++ b by simp] at C
  exact C.mono fun e w' ⟨r, h1, h2, h3⟩ => ⟨r, h1, h2.more (by simp), alloc_below h3⟩

set_option maxRecDepth 100000 in
set_option maxHeartbeats 4000000 in
theorem lists_any {a b : List UInt8} {u v : Value} {w : World} {n m : Nat} (hn : n = 40) (hm : m = 32) (ha : Bs w w.heap.size u a) (hb : Bs w w.heap.size v b) (hla : a.length ≤ 1048576) (hlb : b.length ≤ 1048576) :
    Calls Try.prog 27 #[u, v] w fun e w' => ∃ r ps, e = .returned r ∧ Dv w' w.heap.size w.heap.size r 4 ps ∧ ps.map (·.2) = listsM n m a b ∧ Below w.heap.size w w' := by
  obtain ⟨AA, cA, rfl⟩ := ha.shape
  obtain ⟨AB, cB, rfl⟩ := hb.shape
  have HA := Lib.hid ha; have HBB := Lib.hid hb
  have C1 := k_exp (n := n) (by omega) ha hb hla hlb
  rw [show (n : Int) = 40 by omega] at C1
  obtain ⟨XA, hXA⟩ : ∃ XA, XA = expL a b n := ⟨_, rfl⟩
  obtain ⟨XB, hXB⟩ : ∃ XB, XB = expL b [] m := ⟨_, rfl⟩
  obtain ⟨SA, hSA⟩ : ∃ SA, SA = shortL a b := ⟨_, rfl⟩
  obtain ⟨SB, hSB⟩ : ∃ SB, SB = shortL b (a ++ b) := ⟨_, rfl⟩
  rw [← hXA] at C1
  have C1 := Lib.hid C1
  have HXA := Lib.hid hXA; have HXB := Lib.hid hXB; have HSA := Lib.hid hSA; have HSB := Lib.hid hSB
  clear ha hb hXA hXB hSA hSB
  go_enter Try.func27, Try.ntmps27
  go_wp2_with fail
  with_reducible refine (C1.out).mono ?_
  rintro e1 w1 ⟨x, rfl, ho1, hb1⟩
  have hz1 := hb1.size
  obtain ⟨Ax, cx, rfl⟩ := ho1.shape
  have A1 := Lib.hid ((Acc.nil w w.heap.size).push hb1 ho1 (Nat.le_refl _) (Nat.le_refl _))
  have B1 := Lib.hid hb1
  have C2 := k_exp0 (m := m) (by omega) ((HBB.out.below hb1 (Nat.le_refl _)).more hz1) hlb
  rw [← HXB.out, show (m : Int) = 32 by omega] at C2
  have C2 := Lib.hid C2
  clear ho1 hb1 C1
  go_wp2_with fail
  with_reducible refine (C2.out).mono ?_
  rintro e2 w2 ⟨y, rfl, ho2, hb2⟩
  have hz2 := hb2.size
  obtain ⟨Ay, cy, rfl⟩ := ho2.shape
  have A2 := Lib.hid (A1.out.push hb2 ho2 (Nat.le_refl _) hz1)
  have B2 := Lib.hid (B1.out.trans (hb2.mono hz1))
  have C3 := k_short1 ((HA.out.below B2.out (Nat.le_refl _)).more B2.out.size) ((HBB.out.below B2.out (Nat.le_refl _)).more B2.out.size) hla hlb
  rw [← HSA.out] at C3
  have C3 := Lib.hid C3
  clear ho2 hb2 C2 A1 B1
  go_wp2_with fail
  with_reducible refine (C3.out).mono ?_
  rintro e3 w3 ⟨s, rfl, ho3, hb3⟩
  have hz3 := hb3.size
  obtain ⟨As, cs, rfl⟩ := ho3.shape
  have A3 := Lib.hid (A2.out.push hb3 ho3 (Nat.le_refl _) (by omega))
  have B3 := Lib.hid (B2.out.trans (hb3.mono (by omega)))
  have C4 := k_short2 ((HA.out.below B3.out (Nat.le_refl _)).more B3.out.size) ((HBB.out.below B3.out (Nat.le_refl _)).more B3.out.size) hla hlb
  rw [← HSB.out] at C4
  have C4 := Lib.hid C4
  clear ho3 hb3 C3 A2 B2
  go_wp2_with fail
  with_reducible refine (C4.out).mono ?_
  rintro e4 w4 ⟨t, rfl, ho4, hb4⟩
  have hz4 := hb4.size
  obtain ⟨At, ct, rfl⟩ := ho4.shape
  have a4 := (A3.out.push hb4 ho4 (Nat.le_refl _) (by omega)).perm (perm4 _ _ _ _)
  have al4 : Below w4.heap.size w4 (w4.alloc (.cells #[.slice As SA.length cs, .slice At SB.length ct, .slice Ax XA.length cx, .slice Ay XB.length cy] 22)) := (Below.refl _ _).alloc (Nat.le_refl _) _
  have L4 : Hid (Dv (w4.alloc (.cells #[.slice As SA.length cs, .slice At SB.length ct, .slice Ax XA.length cx, .slice Ay XB.length cy] 22)) w4.heap.size w.heap.size (.slice (some ⟨w4.heap.size, 0, none⟩) 4 4) 4 [(.slice As SA.length cs, SA), (.slice At SB.length ct, SB), (.slice Ax XA.length cx, XA), (.slice Ay XB.length cy, XB)]) := Lib.hid (Dv.lit a4 rfl (by unfold maxLen; omega))
  have B4 := Lib.hid ((B3.out.trans (hb4.mono (by omega))).trans (al4.mono (by omega)))
  have h04 : w.heap.size ≤ w4.heap.size := by omega
  clear ho4 hb4 C4 A3 B3 a4 al4
  go_wp2
  go_ret
  refine ⟨_, _, rfl, L4.out.more h04 (Nat.le_refl _), ?_, B4.out⟩
  show [SA, SB, XA, XB] = _
  rw [HSA.out, HSB.out, HXA.out, HXB.out]
  rfl
end Go.Proofs.Ytlheekbbioajpaa
