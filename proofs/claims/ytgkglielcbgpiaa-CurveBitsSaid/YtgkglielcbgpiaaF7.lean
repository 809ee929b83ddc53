/- slices.Backward over bytes: the iterator's contract. -/
import Derived.Test.YtgkglielcbgpiaaF6
import Derived.RangeFuncBox
import Derived.RangeFuncLeaves
import Derived.Shelf.Abstract
import Derived.OwnWalkIn
import Derived.TacticsInMore
import Derived.LoopNIn
import Derived.LoopIn
namespace Go.Proofs.Ytgkglielcbgpiaa
open Go.RowKit Go.Shelf

attribute [local go_sem] Oper.semAt_some

/-- the bytes from the last to the first, each with its place -/
def backAll (l : List UInt8) : List (Nat × UInt8) := ((List.range l.length).map fun j => (j, l.getD j 0)).reverse
theorem backAll_len (l : List UInt8) : (backAll l).length = l.length := by simp [backAll]
theorem backAll_at (l : List UInt8) (k : Nat) (hk : k < l.length) : (backAll l)[l.length - 1 - k]'(by rw [backAll_len]; omega) = (k, l.getD k 0) := by
  simp only [backAll, List.getElem_reverse, List.getElem_map, List.getElem_range, List.length_map, List.length_range]
  have e : l.length - 1 - (l.length - 1 - k) = k := by omega
  rw [e]
theorem backAll_take (l : List UInt8) (k : Nat) (hk : k < l.length) : (backAll l).take (l.length - (k + 1)) ++ [(k, l.getD k 0)] = (backAll l).take (l.length - k) := by
  have e : l.length - k = (l.length - (k + 1)) + 1 := by omega
  rw [e, List.take_succ_eq_append_getElem (by rw [backAll_len]; omega)]
  congr 2
  have h := backAll_at l k hk
  have e2 : l.length - 1 - k = l.length - (k + 1) := by omega
  simp only [e2] at h
  exact h.symm
def encB (x : Nat × UInt8) : Array Value := #[.int .i64 (x.1 : Int), .int .u8 (x.2.toNat : Int)]

/-- what a round keeps: the memory below n₀, and the box Bx -/
def KpB (n₀ Bx : Nat) (X Y : World) : Prop := Below n₀ X Y ∧ Y.cell? ⟨Bx, 0, none⟩ = X.cell? ⟨Bx, 0, none⟩
theorem KpB.refl (n₀ Bx : Nat) (X : World) : KpB n₀ Bx X X := ⟨Below.refl _ _, rfl⟩
theorem KpB.trans {n₀ Bx : Nat} {X Y Z : World} (h : KpB n₀ Bx X Y) (k : KpB n₀ Bx Y Z) : KpB n₀ Bx X Z := ⟨h.1.trans k.1, k.2.trans h.2⟩
theorem KpB.put {n₀ Bx B : Nat} (hB : Bx < B) (hn : n₀ ≤ B) (W : World) (l : Nat) (o' : Obj) (hl : B ≤ l) : KpB n₀ Bx W (W.putObj l o') :=
  ⟨⟨rfl, rfl, rfl, by simp, fun k hk => World.putObj_heap_other (by omega)⟩, World.cell?_of_block (World.putObj_heap_other (by show Bx ≠ l; omega))⟩

set_option maxRecDepth 100000 in
set_option maxHeartbeats 4000000 in
theorem back1_in (F : Fence) (n : Nat) (h7 : F.fn 70) (hro : F.round = none) (hn : 1 ≤ n) (lb Bx n₀ : Nat) (l : List UInt8) (v : Value) (J Jx : List (Nat × UInt8) → World → Prop)
    (hY : ∀ pre x W, J pre W → pre.length < l.length → YieldAt F (n - 1) Try.prog lb (encB x) W fun e W' =>
      (e = .returned (.bool true) ∧ J (pre ++ [x]) W' ∧ KpB n₀ Bx W W') ∨ (e = .returned (.bool false) ∧ Jx (pre ++ [x]) W'))
    (W : World) (hBs : W.cell? ⟨Bx, 0, none⟩ = some v) (hb : Bs W n₀ v l) (h0 : J [] W) :
    CallsIn F n Try.prog 70 #[.func (.yield lb) #[] #[], .pointer (some ⟨Bx, 0, none⟩)] W fun e W' => (∃ v, e = .returned v) ∧
      ((∃ ys, ys = backAll l ∧ J ys W') ∨ (∃ pre, pre <+: backAll l ∧ Jx pre W')) := by
  obtain ⟨A, c, rfl, hlen, hcm, hcs⟩ := hb
  unfold maxLen at hcm
  refine callsIn_of_wp Try.func70 rfl h7 ?_ hro
  simp only [Try.ntmps70, List.size_toArray, List.length_cons, List.length_nil, Nat.reduceAdd, Nat.reduceSub, Array.replicate_succ, Array.replicate_zero, List.push_toArray, List.append_toArray, List.nil_append, List.cons_append]
  gi_wp2
  gi_loopw [3] (fun i wr => ∃ k : Nat, k ≤ l.length ∧ i = .int .i64 ((k : Int) - 1) ∧ J ((backAll l).take (l.length - k)) wr ∧ KpB n₀ Bx W wr)
    (fun i _ => (intOf i + 1).toNat)
  case atStart => exact ⟨l.length, Nat.le_refl _, rfl, by rw [Nat.sub_self]; exact h0, KpB.refl _ _ _⟩
  case round =>
    obtain ⟨k, hk, rfl, hJs, hnx⟩ := hrel
    have hBr : wr.cell? ⟨Bx, 0, none⟩ = some (.slice A l.length c) := hnx.2.trans hBs
    cases k with
    | zero =>
      rw [Nat.sub_zero, List.take_of_length_le (by rw [backAll_len]; exact Nat.le_refl _)] at hJs
      have hd : decide (1 ≤ ((0 : Nat) : Int)) = false := by decide
      gi_wp2
      go_end0
      exact ⟨⟨_, rfl⟩, .inl ⟨_, rfl, hJs⟩⟩
    | succ k =>
      obtain ⟨b, off, rfl, hlt, hcell⟩ := hcs (by omega)
      have hcx : wr.cell? ⟨b, off + k, none⟩ = some (.int .u8 ((l.getD k 0).toNat : Int)) := by
        rw [hnx.1.cell (p := ⟨b, off + k, none⟩) hlt, hcell k (by omega)]
        simp [show k < l.length by omega]
      obtain ⟨x, hx⟩ : ∃ x, x = l.getD k 0 := ⟨_, rfl⟩
      rw [← hx] at hcx
      have HX := Lib.hid hx
      clear hx
      obtain ⟨fn, tmps, assign, body, hy, hR⟩ := hY _ (k, x) wr hJs (by rw [List.length_take, backAll_len]; omega)
      simp only [encB] at hy
      have e1 : ((k + 1 : Nat) : Int) - 1 = (k : Int) := by omega
      rw [e1]
      clear e1
      gi_wp2
      refine hR.mono ?_
      rintro e W3 (⟨rfl, hJ3, hk3⟩ | ⟨rfl, hJx3⟩)
      · gi_wp2
        go_roundw
        case rel => exact ⟨k, by omega, rfl, by rw [HX.out, backAll_take l k (by omega)] at hJ3; exact hJ3, hnx.trans hk3⟩
        case measure => simp [intOf]
      · gi_wp2
        refine bodyPost_ret (results_none rfl _ _ _) rfl ?_
        exact ⟨⟨_, rfl⟩, .inr ⟨_, ⟨(backAll l).drop (l.length - k), by rw [HX.out, backAll_take l k (by omega), List.take_append_drop]⟩, hJx3⟩⟩

set_option maxHeartbeats 1000000 in
theorem back_in (F : Fence) (n : Nat) (h5 : F.fn 58) (hro : F.round = none) (a : Option Addr) (len cap : Nat) (w : World) :
    CallsIn F n Try.prog 58 #[.slice a len cap] w fun e w' => e = .returned (.func (.func 70) #[] #[.pointer (some ⟨w.heap.size, 0, none⟩)]) ∧ w' = w.alloc (.cells #[.slice a len cap] 47) := by
  refine callsIn_of_wp Try.func58 rfl h5 ?_ hro
  simp only [Try.ntmps58, List.size_toArray, List.length_cons, List.length_nil, Nat.reduceAdd, Nat.reduceSub, Array.replicate_succ, Array.replicate_zero, List.push_toArray, List.append_toArray, List.nil_append, List.cons_append]
  gi_wp2
  go_ret
  exact ⟨rfl, rfl⟩

theorem back_stops (F : Fence) (n : Nat) (h7 : F.fn 70) (hro : F.round = none) (hn : 1 ≤ n) (Bx n₀ : Nat) (v : Value) (l : List UInt8) (w : World) (hBx : Bx < w.heap.size) (hn₀ : n₀ ≤ w.heap.size)
    (hc : w.cell? ⟨Bx, 0, none⟩ = some v) (hb : Bs w n₀ v l) :
    SeqStopsK F n Try.prog 70 #[.pointer (some ⟨Bx, 0, none⟩)] encB (KpB n₀ Bx) (fun ys => ys = backAll l) (fun pre => pre <+: backAll l) l.length w := fun lb J Jx W hW _ _ hY h0 =>
  back1_in F n h7 hro hn lb Bx n₀ l v J Jx hY W ((hW.cell (p := ⟨Bx, 0, none⟩) hBx).trans hc) (hb.below hW hn₀) h0
end Go.Proofs.Ytgkglielcbgpiaa
