/- Words for the clock: its cells; which timer is the first. -/
import Derived.Test.YtlheekbbioajpabT1
namespace Go.Proofs.Ytlheekbbioajpab
open Go.RowKit

/-- of the timers ts the one of index m is due first: of several with the least tick the first one -/
def FirstMin (ts : List (Int × Int)) (n m : Nat) : Prop :=
  (n = 0 → m = 0) ∧ (0 < n → m < n ∧ (∀ j, j < n → ∀ (h : j < ts.length) (h' : m < ts.length), ts[m].1 ≤ ts[j].1) ∧ (∀ j, j < m → ∀ (h : j < ts.length) (h' : m < ts.length), ts[m].1 < ts[j].1))
theorem FirstMin.start (ts : List (Int × Int)) : FirstMin ts 0 0 := ⟨fun _ => rfl, fun h => absurd h (by omega)⟩
theorem FirstMin.take {ts : List (Int × Int)} {n m : Nat} (hn : n < ts.length) (h : FirstMin ts n m) (hm : m < ts.length) (hlt : ts[n].1 < ts[m].1) : FirstMin ts (n + 1) n := by
  refine ⟨fun h => absurd h (by omega), fun _ => ⟨by omega, fun j hj h1 h2 => ?_, fun j hj h1 h2 => ?_⟩⟩
  · rcases Nat.lt_or_ge j n with hjn | hjn
    · have := (h.2 (by omega)).2.1 j hjn h1 hm
      omega
    · obtain rfl : j = n := by omega
      omega
  · have := (h.2 (by omega)).2.1 j hj h1 hm
    omega
theorem FirstMin.keep {ts : List (Int × Int)} {n m : Nat} (hn : n < ts.length) (h : FirstMin ts n m) (hm : m < ts.length) (hge : ¬ ts[n].1 < ts[m].1) : FirstMin ts (n + 1) m := by
  rcases Nat.eq_zero_or_pos n with rfl | hp
  · obtain rfl := h.1 rfl
    exact ⟨fun h => absurd h (by omega), fun _ => ⟨by omega, fun j hj h1 h2 => (by have e : j = 0 := (by omega); subst e; omega), fun j hj => absurd hj (by omega)⟩⟩
  · obtain ⟨h1, h2, h3⟩ := h.2 hp
    refine ⟨fun h => absurd h (by omega), fun _ => ⟨by omega, fun j hj k1 k2 => ?_, h3⟩⟩
    rcases Nat.lt_or_ge j n with hjn | hjn
    · exact h2 j hjn k1 k2
    · obtain rfl : j = n := by omega
      omega
theorem FirstMin.same {ts : List (Int × Int)} {m m' : Nat} (h : FirstMin ts ts.length m) (h' : FirstMin ts ts.length m') : m = m' := by
  rcases Nat.eq_zero_or_pos ts.length with hz | hp
  · rw [h.1 hz, h'.1 hz]
  · obtain ⟨a1, a2, a3⟩ := h.2 hp
    obtain ⟨b1, b2, b3⟩ := h'.2 hp
    rcases Nat.lt_trichotomy m m' with hlt | e | hgt
    · have x := a2 m' b1 b1 a1; have y := b3 m hlt a1 b1; omega
    · exact e
    · have x := b2 m a1 a1 b1; have y := a3 m' hgt b1 a1; omega
theorem FirstMin.lt {ts : List (Int × Int)} {m : Nat} (h : FirstMin ts ts.length m) (hp : 0 < ts.length) : m < ts.length := (h.2 hp).1
theorem FirstMin.ex (ts : List (Int × Int)) : ∃ m, FirstMin ts ts.length m := by
  have key : ∀ n, n ≤ ts.length → ∃ m, FirstMin ts n m := by
    intro n
    induction n with
    | zero => exact fun _ => ⟨0, FirstMin.start ts⟩
    | succ n ih =>
      intro hn
      obtain ⟨m, hm⟩ := ih (by omega)
      have hml : m < ts.length := by
        rcases Nat.eq_zero_or_pos n with rfl | hp
        · rw [hm.1 rfl]; omega
        · have := (hm.2 hp).1; omega
      by_cases hlt : (ts[n]'(by omega)).1 < ts[m].1
      · exact ⟨n, hm.take (by omega) hml hlt⟩
      · exact ⟨m, hm.keep (by omega) hml hlt⟩
  exact key _ (Nat.le_refl _)

/-- what the reference has found when it has looked at the places from k on -/
def BestD (ts : List (Int × Int)) (u : Int) (k : Nat) (b : Int) : Prop :=
  (b = -1 ∧ ∀ j, k ≤ j → ∀ (h : j < ts.length), u < ts[j].1) ∨
  ∃ m : Nat, b = m ∧ k ≤ m ∧ ∃ h : m < ts.length, ts[m].1 ≤ u ∧ (∀ j, k ≤ j → ∀ (h' : j < ts.length), ts[m].1 ≤ ts[j].1) ∧ (∀ j, k ≤ j → j < m → ∀ (h' : j < ts.length), ts[m].1 < ts[j].1)
theorem BestD.start (ts : List (Int × Int)) (u : Int) : BestD ts u ts.length (-1) := .inl ⟨rfl, fun j h h' => absurd h' (by omega)⟩
theorem BestD.late {ts : List (Int × Int)} {u : Int} {k : Nat} {b : Int} (h : BestD ts u (k + 1) b) (hk : k < ts.length) (hl : u < ts[k].1) : BestD ts u k b := by
  rcases h with ⟨rfl, h⟩ | ⟨m, rfl, h1, h2, h3, h4, h5⟩
  · refine .inl ⟨rfl, fun j hj h' => ?_⟩
    rcases Nat.eq_or_lt_of_le hj with rfl | hj
    · exact hl
    · exact h j hj h'
  · refine .inr ⟨m, rfl, by omega, h2, h3, fun j hj h' => ?_, fun j hj hm h' => ?_⟩
    · rcases Nat.eq_or_lt_of_le hj with rfl | hj
      · omega
      · exact h4 j hj h'
    · rcases Nat.eq_or_lt_of_le hj with rfl | hj
      · omega
      · exact h5 j hj hm h'
theorem BestD.none {ts : List (Int × Int)} {u : Int} {k : Nat} (h : BestD ts u (k + 1) (-1)) (hk : k < ts.length) (hl : ts[k].1 ≤ u) : BestD ts u k k := by
  rcases h with ⟨_, h⟩ | ⟨m, hm, _⟩
  · refine .inr ⟨k, rfl, Nat.le_refl _, hk, hl, fun j hj h' => ?_, fun j hj hm => absurd hm (by omega)⟩
    rcases Nat.eq_or_lt_of_le hj with rfl | hj
    · omega
    · have := h j hj h'; omega
  · omega
theorem BestD.turn {ts : List (Int × Int)} {u : Int} {k m : Nat} (h : BestD ts u (k + 1) m) (hk : k < ts.length) (hl : ts[k].1 ≤ u) (hm : m < ts.length) (hle : ts[k].1 ≤ ts[m].1) : BestD ts u k k := by
  rcases h with ⟨hm, _⟩ | ⟨m', hm', h1, h2, h3, h4, h5⟩
  · omega
  · obtain rfl : m = m' := by omega
    refine .inr ⟨k, rfl, Nat.le_refl _, hk, hl, fun j hj h' => ?_, fun j hj hm => absurd hm (by omega)⟩
    rcases Nat.eq_or_lt_of_le hj with rfl | hj
    · omega
    · have := h4 j hj h'; omega
theorem BestD.keep {ts : List (Int × Int)} {u : Int} {k m : Nat} (h : BestD ts u (k + 1) m) (hk : k < ts.length) (hm : m < ts.length) (hle : ¬ ts[k].1 ≤ ts[m].1) : BestD ts u k m := by
  rcases h with ⟨hm, _⟩ | ⟨m', hm', h1, h2, h3, h4, h5⟩
  · omega
  · obtain rfl : m = m' := by omega
    refine .inr ⟨m, rfl, by omega, h2, h3, fun j hj h' => ?_, fun j hj hm' h' => ?_⟩
    · rcases Nat.eq_or_lt_of_le hj with rfl | hj
      · omega
      · exact h4 j hj h'
    · rcases Nat.eq_or_lt_of_le hj with rfl | hj
      · omega
      · exact h5 j hj hm' h'
theorem BestD.range {ts : List (Int × Int)} {u : Int} {k : Nat} {b : Int} (h : BestD ts u k b) : b = -1 ∨ ∃ m : Nat, b = m ∧ k ≤ m ∧ m < ts.length := by
  rcases h with ⟨rfl, _⟩ | ⟨m, rfl, h1, h2, _⟩
  · exact .inl rfl
  · exact .inr ⟨m, rfl, h1, h2⟩
/-- none is due -/
theorem BestD.no {ts : List (Int × Int)} {u : Int} {b : Int} {m : Nat} (h : BestD ts u 0 b) (hf : FirstMin ts ts.length m) (hn : ∀ h : m < ts.length, u < ts[m].1) : b = -1 := by
  rcases h with ⟨rfl, _⟩ | ⟨m', rfl, _, h2, h3, h4, h5⟩
  · rfl
  · have hm := hf.lt (by omega)
    have := (hf.2 (by omega)).2.1 m' h2 h2 hm
    have := hn hm
    omega
theorem BestD.yes {ts : List (Int × Int)} {u : Int} {b : Int} {m : Nat} (h : BestD ts u 0 b) (hf : FirstMin ts ts.length m) (hm : m < ts.length) (hd : ts[m].1 ≤ u) : b = m := by
  rcases h with ⟨rfl, h⟩ | ⟨m', rfl, _, h2, h3, h4, h5⟩
  · have := h m (by omega) hm; omega
  · have : FirstMin ts ts.length m' := ⟨fun h => absurd h (by omega), fun _ => ⟨h2, fun j hj h _ => h4 j (by omega) h, fun j hj h _ => h5 j (by omega) hj h⟩⟩
    rw [hf.same this]

/-- timers as the values of their cells -/
def tv (ts : List (Int × Int)) : List (Value × Value) := ts.map fun t => (.int .i64 t.1, .int .i64 t.2)
theorem tv_len (ts : List (Int × Int)) : (tv ts).length = ts.length := by simp [tv]
theorem tv_at (ts : List (Int × Int)) (j : Nat) (h : j < (tv ts).length) : (tv ts)[j] = (.int .i64 (ts[j]'(by simpa [tv] using h)).1, .int .i64 (ts[j]'(by simpa [tv] using h)).2) := by simp [tv]
theorem tv_snoc (ts : List (Int × Int)) (a b : Int) : tv (ts ++ [(a, b)]) = tv ts ++ [(.int .i64 a, .int .i64 b)] := by simp [tv]
theorem tv_one (ts : List (Int × Int)) : One2 (tv ts) := by
  intro p hp
  obtain ⟨t, _, rfl⟩ := List.mem_map.1 hp
  exact ⟨rfl, rfl⟩
theorem flat2_tv_int : ∀ (ts : List (Int × Int)) (i : Nat) (y : Value), (flat2 (tv ts))[i]? = some y → ∃ z : Int, y = .int .i64 z := by
  intro ts i y h
  obtain ⟨j, hj, ⟨_, rfl⟩ | ⟨_, rfl⟩⟩ := flat2_split h
  · rw [tv_at]; exact ⟨_, rfl⟩
  · rw [tv_at]; exact ⟨_, rfl⟩

/-- block g holds, from place o on, the 130 cells of a clock: its tick is now, its timers are ts; cs are all the cells of the block -/
structure Clk (w : World) (g : Nat) (T : TypeId) (o : Nat) (cs : List Value) (now : Int) (ts : List (Int × Int)) : Prop where
  heap : w.heap[g]? = some (.cells cs.toArray T (0, 0))
  room : o + 130 ≤ cs.length
  len : ts.length ≤ 64
  now : cs[o]? = some (.int .i64 now)
  cnt : cs[o + 129]? = some (.int .i64 (ts.length : Int))
  tim : ∀ i, i < ts.length * 2 → cs[o + 1 + i]? = (flat2 (tv ts))[i]?
  int : ∀ i, i < 128 → ∃ z : Int, cs[o + 1 + i]? = some (.int .i64 z)
theorem Clk.cell {w : World} {g o : Nat} {T : TypeId} {cs : List Value} {now : Int} {ts : List (Int × Int)} (h : Clk w g T o cs now ts) {i : Nat} {x : Value} (hx : cs[i]? = some x) : w.cell? ⟨g, i, none⟩ = some x := by
  rw [cell_of_row w g i _ _ _ h.heap]
  simpa using hx
theorem Clk.at0 {w : World} {g o : Nat} {T : TypeId} {cs : List Value} {now : Int} {ts : List (Int × Int)} (h : Clk w g T o cs now ts) {j : Nat} (hj : j < ts.length) : w.cell? ⟨g, o + 1 + j * 2, none⟩ = some (.int .i64 ts[j].1) := by
  refine h.cell ?_
  rw [h.tim (j * 2) (by omega), flat2_at0 (tv ts) j (by rw [tv_len]; exact hj), tv_at]
theorem Clk.at1 {w : World} {g o : Nat} {T : TypeId} {cs : List Value} {now : Int} {ts : List (Int × Int)} (h : Clk w g T o cs now ts) {j : Nat} (hj : j < ts.length) : w.cell? ⟨g, o + 1 + j * 2 + 1, none⟩ = some (.int .i64 ts[j].2) := by
  refine h.cell ?_
  rw [Nat.add_assoc, h.tim (j * 2 + 1) (by omega), flat2_at1 (tv ts) j (by rw [tv_len]; exact hj), tv_at]
theorem Clk.grown {w w' : World} {g o : Nat} {T : TypeId} {cs : List Value} {now : Int} {ts : List (Int × Int)} {r : Option Nat} (h : Clk w g T o cs now ts) (hg : w.grownBy w' r) (hr : r ≠ some g) : Clk w' g T o cs now ts :=
  { h with heap := (hg.block g (Array.getElem?_eq_some_iff.1 h.heap).1 (fun e => hr e.symm)).trans h.heap }
theorem Clk.lt {w : World} {g o : Nat} {T : TypeId} {cs : List Value} {now : Int} {ts : List (Int × Int)} (h : Clk w g T o cs now ts) : g < w.heap.size := (Array.getElem?_eq_some_iff.1 h.heap).1
end Go.Proofs.Ytlheekbbioajpab
