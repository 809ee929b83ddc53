/- The clock's Set. -/
import Derived.Test.YtlheekbbioajpabT2
import Derived.StillTailTactics
namespace Go.Proofs.Ytlheekbbioajpab
open Go.RowKit

theorem heap_set {w : World} {g : Nat} {T : TypeId} {cs : List Value} (h : w.heap[g]? = some (.cells cs.toArray T (0, 0))) (i : Nat) (x : Value) :
    (w.setCell ⟨g, i, none⟩ x).heap[g]? = some (.cells (cs.set i x).toArray T (0, 0)) := by
  rw [heap_setCell_same w g i _ _ _ h]
  simp
/-- block g of w' is that of w with the clock from place o on told anew; nothing else has changed -/
def ClkOut (w : World) (g : Nat) (T : TypeId) (o : Nat) (cs : List Value) (now : Int) (ts : List (Int × Int)) (w' : World) : Prop :=
  ∃ cs', Clk w' g T o cs' now ts ∧ cs'.length = cs.length ∧ (∀ i, i < o ∨ o + 130 ≤ i → cs'[i]? = cs[i]?) ∧ w.grownBy w' (some g)
theorem set_grew (w : World) (g i : Nat) (x : Value) : w.grownBy (w.setCell ⟨g, i, none⟩ x) (some g) :=
  ⟨rfl, rfl, rfl, by simp, fun j hj hne => Below.heap_setCell w ⟨g, i, none⟩ _ j (fun e => hne (by rw [e]))⟩
theorem grew_trans {a b c : World} {r : Option Nat} (h : a.grownBy b r) (k : b.grownBy c r) : a.grownBy c r :=
  ⟨k.os.trans h.os, k.tape.trans h.tape, k.output.trans h.output, Nat.le_trans h.size k.size, fun j hj hne => (k.block j (Nat.lt_of_lt_of_le hj h.size) hne).trans (h.block j hj hne)⟩
theorem drew_grew1 (w : World) (r : Option Nat) : w.grownBy w.drew r := ⟨rfl, rfl, rfl, Nat.le_refl _, fun _ _ _ => rfl⟩

theorem Clk.snoc {w : World} {g o n : Nat} {T : TypeId} {cs : List Value} {now : Int} {ts : List (Int × Int)} (h : Clk w g T o cs now ts) (hl : ts.length < 64) (hn : n = ts.length) (x y : Int) :
    ClkOut w g T o cs now (ts ++ [(x, y)]) (((w.setCell ⟨g, o + 1 + n * 2, none⟩ (.int .i64 x)).setCell ⟨g, o + 1 + n * 2 + 1, none⟩ (.int .i64 y)).setCell ⟨g, o + 129, none⟩ (.int .i64 ((n : Int) + 1))).drew := by
  subst hn
  have hr := h.room
  refine ⟨_, ⟨heap_set (heap_set (heap_set h.heap _ _) _ _) _ _, by simpa using hr, by simp; omega, ?_, ?_, ?_, ?_⟩, by simp, ?_, grew_trans (grew_trans (grew_trans (set_grew _ _ _ _) (set_grew _ _ _ _)) (set_grew _ _ _ _)) (drew_grew1 _ _)⟩
  · rw [List.getElem?_set_ne (by omega), List.getElem?_set_ne (by omega), List.getElem?_set_ne (by omega)]
    exact h.now
  · rw [List.getElem?_set_self (by simp; omega)]
    simp
  · intro i hi
    simp only [List.length_append, List.length_cons, List.length_nil] at hi
    rw [List.getElem?_set_ne (by omega), tv_snoc, flat2_append]
    rcases Nat.lt_or_ge i (ts.length * 2) with hlt | hge
    · rw [List.getElem?_set_ne (by omega), List.getElem?_set_ne (by omega), h.tim i hlt, List.getElem?_append_left (by rw [flat2_len, tv_len]; exact hlt)]
    · rw [List.getElem?_append_right (by rw [flat2_len, tv_len]; exact hge), flat2_len, tv_len]
      rcases (by omega : i = ts.length * 2 ∨ i = ts.length * 2 + 1) with rfl | rfl
      · rw [List.getElem?_set_ne (by omega), List.getElem?_set_self (by omega)]
        simp [flat2]
      · rw [← Nat.add_assoc, List.getElem?_set_self (by simp; omega)]
        have e : ts.length * 2 + 1 - ts.length * 2 = 1 := by omega
        rw [e]
        rfl
  · intro i hi
    rw [List.getElem?_set_ne (by omega)]
    by_cases e1 : o + 1 + ts.length * 2 + 1 = o + 1 + i
    · rw [e1, List.getElem?_set_self (by simp; omega)]
      exact ⟨_, rfl⟩
    · rw [List.getElem?_set_ne e1]
      by_cases e2 : o + 1 + ts.length * 2 = o + 1 + i
      · rw [e2, List.getElem?_set_self (by omega)]
        exact ⟨_, rfl⟩
      · rw [List.getElem?_set_ne e2]
        exact h.int i hi
  · intro i hi
    rw [List.getElem?_set_ne (by omega), List.getElem?_set_ne (by omega), List.getElem?_set_ne (by omega)]

theorem set_arg {w : World} {a : Addr} {after what : Int} (h : after < 0 ∨ 1000000 < after) :
    Calls Try.prog 19 #[.pointer (some a), .int .i64 after, .int .i64 what] w fun e w' => e = .returned (.int .i64 1) ∧ w = w' := by
  by_cases h0 : after < 0
  · go_enter Try.func19, Try.ntmps19
    go_wp2
    go_ret
    exact ⟨rfl, rfl⟩
  · have h1 : 1000000 < after := by omega
    have hd : decide (after < 0) = false := by simpa using h0
    clear h
    go_enter Try.func19, Try.ntmps19
    go_wp2
    go_ret
    exact ⟨rfl, rfl⟩

theorem set_full {w : World} {g o : Nat} {T : TypeId} {cs : List Value} {now after what : Int} {ts : List (Int × Int)} (h : Clk w g T o cs now ts) (h0 : 0 ≤ after) (h1 : after ≤ 1000000) (hl : ts.length = 64) :
    Calls Try.prog 19 #[.pointer (some ⟨g, o, none⟩), .int .i64 after, .int .i64 what] w fun e w' => e = .returned (.int .i64 11) ∧ w = w' := by
  have c0 : w.cell? ⟨g, o + 129, none⟩ = some (.int .i64 64) := by
    have := h.cell h.cnt
    rw [hl] at this
    exact this
  clear h hl
  go_enter Try.func19, Try.ntmps19
  go_wp2
  go_ret
  exact ⟨rfl, rfl⟩

set_option maxRecDepth 100000 in
set_option maxHeartbeats 4000000 in
theorem set_ok {w : World} {g o : Nat} {T : TypeId} {cs : List Value} {now after what : Int} {ts : List (Int × Int)} (h : Clk w g T o cs now ts) (h0 : 0 ≤ after) (h1 : after ≤ 1000000) (hl : ts.length < 64) :
    Calls Try.prog 19 #[.pointer (some ⟨g, o, none⟩), .int .i64 after, .int .i64 what] w fun e w' => e = .returned (.int .i64 0) ∧ ClkOut w g T o cs now (ts ++ [(wrap64 (now + after), what)]) w' := by
  have hout := h.snoc hl rfl (wrap64 (now + after)) what
  have f2 : w.frozen? ⟨g, o + 129, none⟩ = false := frozen_of_row w g _ _ _ h.heap
  have c0 : w.cell? ⟨g, o + 129, none⟩ = some (.int .i64 (ts.length : Int)) := h.cell h.cnt
  have c1 : w.cell? ⟨g, o, none⟩ = some (.int .i64 now) := h.cell h.now
  obtain ⟨n, hn⟩ : ∃ n, n = ts.length := ⟨_, rfl⟩
  rw [← hn] at c0 hl hout
  have HO := Lib.hid hout; clear hout
  have hne : ((n : Int) == 64) = false := by rw [beq_eq_false_iff_ne]; omega
  have k0 : (0 : Int) ≤ (n : Int) := by omega
  have k1 : (n : Int) < 64 := by omega
  have f0 : w.frozen? ⟨g, o + 1 + n * 2, none⟩ = false := frozen_of_row w g _ _ _ h.heap
  have f1 : w.frozen? ⟨g, o + 1 + n * 2 + 1, none⟩ = false := frozen_of_row w g _ _ _ h.heap
  obtain ⟨z0, i0⟩ := h.int (n * 2) (by omega)
  obtain ⟨z1, i1⟩ := h.int (n * 2 + 1) (by omega)
  have s0 : w.cell? ⟨g, o + 1 + n * 2, none⟩ = some (.int .i64 z0) := h.cell i0
  have s1 : w.cell? ⟨g, o + 1 + n * 2 + 1, none⟩ = some (.int .i64 z1) := h.cell (by rw [Nat.add_assoc]; exact i1)
  clear i0 i1
  have HN := Lib.hid hn; clear hn
  have HH := Lib.hid h; clear h
  go_enter Try.func19, Try.ntmps19
  go_wp2_with fail
  go_still_tail 16, (by kernel_rfl)
  show wpList _ _ _ _ _ w.drew
  go_wp2
  go_ret
  exact ⟨rfl, HO.out⟩
end Go.Proofs.Ytlheekbbioajpab
