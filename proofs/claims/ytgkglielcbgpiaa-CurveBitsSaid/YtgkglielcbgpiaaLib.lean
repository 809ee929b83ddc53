/- Words for memory: a slice of bytes that reads as a list; rows of such; what a call owns. -/
import Derived.Test.YtgkglielcbgpiaaRows
import Derived.WalkKit
import Derived.WalkSpells
import Derived.WalkLawsBesides
import Derived.Deep.QuietTactic
import Derived.BigQuiet
import Derived.Outline
import Derived.Lib.Hide
import Derived.Deep.OwnRows
import Derived.Deep.Draws
import Derived.Laws.CopyOwn
import Derived.Maps.AppendAt
import Derived.Deep.OwnShut
namespace Go.Proofs.Ytgkglielcbgpiaa
open Go.RowKit

/-- v is a slice of bytes that reads as l, in memory below block B -/
def Bs (w : World) (B : Nat) (v : Value) (l : List UInt8) : Prop :=
  ∃ A c, v = .slice A l.length c ∧ l.length ≤ c ∧ c ≤ maxLen ∧
    (0 < l.length → ∃ b off, A = some ⟨b, off, none⟩ ∧ b < B ∧ ∀ j (h : j < l.length), w.cell? ⟨b, off + j, none⟩ = some (.int .u8 (l[j].toNat : Int)))

theorem Bs.below {w w' : World} {B B' : Nat} {v : Value} {l : List UInt8} (h : Bs w B v l) (hb : Below B' w w') (hB : B ≤ B') : Bs w' B v l := by
  obtain ⟨A, c, rfl, h1, h2, h3⟩ := h
  refine ⟨A, c, rfl, h1, h2, fun hp => ?_⟩
  obtain ⟨b, off, rfl, hlt, hc⟩ := h3 hp
  exact ⟨b, off, rfl, hlt, fun j hj => (hb.cell (p := ⟨b, off + j, none⟩) (by show b < B'; omega)).trans (hc j hj)⟩
theorem Bs.drewN {w : World} {B : Nat} {v : Value} {l : List UInt8} (h : Bs w B v l) (n : Nat) : Bs (w.drewN n) B v l := h
theorem Bs.more {w : World} {B B' : Nat} {v : Value} {l : List UInt8} (h : Bs w B v l) (hB : B ≤ B') : Bs w B' v l := by
  obtain ⟨A, c, rfl, h1, h2, h3⟩ := h
  refine ⟨A, c, rfl, h1, h2, fun hp => ?_⟩
  obtain ⟨b, off, rfl, hlt, hc⟩ := h3 hp
  exact ⟨b, off, rfl, by omega, hc⟩
theorem Bs.nil (w : World) (B : Nat) : Bs w B (.slice none 0 0) [] := ⟨none, 0, rfl, Nat.le_refl _, Nat.zero_le _, fun h => absurd h (by simp)⟩

theorem ret_bool {a b : Bool} (h : a = b) : Ending.returned (.bool a) = .returned (.bool b) := by rw [h]
theorem ret_int {k : IntKind} {a b : Int} (h : a = b) : Ending.returned (.int k a) = .returned (.int k b) := by rw [h]
/-- a draw or several -/
def Drew (w w' : World) : Prop := ∃ n, w' = w.drewN n
theorem Drew.refl (w : World) : Drew w w := ⟨0, rfl⟩
theorem Drew.drewN {w w' : World} (h : Drew w w') (n : Nat) : Drew w (w'.drewN n) := by
  obtain ⟨m, rfl⟩ := h
  exact ⟨m + n, by rw [World.drewN_drewN]⟩

def vb (x : UInt8) : Value := .int .u8 (x.toNat : Int)
/-- v is a slice of bytes of the call's own (blocks from B on), that reads as l -/
def Own (w : World) (B : Nat) (v : Value) (l : List UInt8) : Prop := w.ownsRow B 5 1 v l.length (l.map vb)

theorem Own.nil (w : World) (B : Nat) : Own w B (.slice none 0 0) [] := World.ownsRow_nil w B _ _
theorem Own.bs {w : World} {B : Nat} {v : Value} {l : List UInt8} (h : Own w B v l) : Bs w w.heap.size v l := by
  obtain ⟨_, h2⟩ := h
  rcases h2 with ⟨rfl, hn⟩ | ⟨g, cap, cur, rfl, hg, hh, hnc, hcm, hsz, htk⟩
  · have : l = [] := List.eq_nil_of_length_eq_zero hn
    subst this
    exact Bs.nil _ _
  · refine ⟨_, _, rfl, hnc, hcm, fun _ => ⟨g, 0, rfl, (Array.getElem?_eq_some_iff.1 hh).1, fun j hj => ?_⟩⟩
    rw [Nat.zero_add, cell_of_row w g j cur _ _ hh]
    have h1 : (cur.toList.take (l.length * 1))[j]? = (l.map vb)[j]? := by rw [htk]
    rw [List.getElem?_take, if_pos (by omega)] at h1
    simpa [vb, hj] using h1
theorem Own.drewN {w : World} {B : Nat} {v : Value} {l : List UInt8} (h : Own w B v l) (n : Nat) : Own (w.drewN n) B v l := h
theorem Own.more {w : World} {B B' : Nat} {v : Value} {l : List UInt8} (h : Own w B v l) (hB : B' ≤ B) : Own w B' v l := by
  obtain ⟨h1, h2⟩ := h
  refine ⟨h1, ?_⟩
  rcases h2 with h2 | ⟨g, cap, cur, hv, hg, r⟩
  · exact .inl h2
  · exact .inr ⟨g, cap, cur, hv, by omega, r⟩
/-- what is owned stays owned where nothing below the heap's end turns -/
theorem Own.below {w w' : World} {B : Nat} {v : Value} {l : List UInt8} (h : Own w B v l) {B' : Nat} (hb : Below B' w w') (hB : w.heap.size ≤ B') : Own w' B v l := by
  obtain ⟨h1, h2⟩ := h
  refine ⟨h1, ?_⟩
  rcases h2 with h2 | ⟨g, cap, cur, hv, hg, hh, r⟩
  · exact .inl h2
  · exact .inr ⟨g, cap, cur, hv, hg, (hb.block g (by have := (Array.getElem?_eq_some_iff.1 hh).1; omega)).trans hh, r⟩
theorem Own.of_row {w : World} {B b n : Nat} {l : List UInt8} (h : w.rowIs b 5 n fun j => vb (l.getD j 0)) (hB : B ≤ b) (hn : n ≤ maxLen) (hl : l.length = n) :
    Own w B (.slice (some ⟨b, 0, none⟩) n n) l := by
  subst hl
  obtain ⟨c, hh, hs, hc⟩ := h
  refine ⟨by simp, .inr ⟨b, l.length, c, rfl, hB, hh, Nat.le_refl _, hn, by simpa using hs, ?_⟩⟩
  apply List.ext_getElem?
  intro j
  rw [List.getElem?_take]
  by_cases hj : j < l.length
  · rw [if_pos (by omega)]
    have := hc j hj
    simpa [hj] using this
  · rw [if_neg (by omega)]
    simp [hj]
theorem below_drewN {B : Nat} {a w : World} (h : Below B a w) (n : Nat) : Below B a (w.drewN n) := ⟨h.os, h.tape, h.output, h.size, h.block⟩
theorem Drew.below {w w' : World} (h : Drew w w') (B : Nat) : Below B w w' := by
  obtain ⟨n, rfl⟩ := h
  exact below_drewN (Below.refl _ _) n
/-- v is a slice of slices of bytes that reads as ls, in memory below block B -/
def Rs (w : World) (B : Nat) (v : Value) (ls : List (List UInt8)) : Prop :=
  ∃ A c, v = .slice A ls.length c ∧ ls.length ≤ c ∧ c ≤ maxLen ∧
    (0 < ls.length → ∃ b off, A = some ⟨b, off, none⟩ ∧ b < B ∧ ∀ j (h : j < ls.length), ∃ u, w.cell? ⟨b, off + j, none⟩ = some u ∧ Bs w B u ls[j])
theorem Rs.nil (w : World) (B : Nat) : Rs w B (.slice none 0 0) [] := ⟨none, 0, rfl, Nat.le_refl _, Nat.zero_le _, fun h => absurd h (by simp)⟩
theorem Rs.below {w w' : World} {B B' : Nat} {v : Value} {ls : List (List UInt8)} (h : Rs w B v ls) (hb : Below B' w w') (hB : B ≤ B') : Rs w' B v ls := by
  obtain ⟨A, c, rfl, h1, h2, h3⟩ := h
  refine ⟨A, c, rfl, h1, h2, fun hp => ?_⟩
  obtain ⟨b, off, rfl, hlt, hc⟩ := h3 hp
  refine ⟨b, off, rfl, hlt, fun j hj => ?_⟩
  obtain ⟨u, hu, hbs⟩ := hc j hj
  exact ⟨u, (hb.cell (p := ⟨b, off + j, none⟩) (by show b < B'; omega)).trans hu, hbs.below hb hB⟩
theorem Rs.more {w : World} {B B' : Nat} {v : Value} {ls : List (List UInt8)} (h : Rs w B v ls) (hB : B ≤ B') : Rs w B' v ls := by
  obtain ⟨A, c, rfl, h1, h2, h3⟩ := h
  refine ⟨A, c, rfl, h1, h2, fun hp => ?_⟩
  obtain ⟨b, off, rfl, hlt, hc⟩ := h3 hp
  refine ⟨b, off, rfl, by omega, fun j hj => ?_⟩
  obtain ⟨u, hu, hbs⟩ := hc j hj
  exact ⟨u, hu, hbs.more hB⟩
theorem Rs.drewN {w : World} {B : Nat} {v : Value} {ls : List (List UInt8)} (h : Rs w B v ls) (n : Nat) : Rs (w.drewN n) B v ls := h
theorem Own.of_cells {w : World} {B g : Nat} {l : List UInt8} {cs : List Value} (hh : w.heap[g]? = some (.cells cs.toArray 5 (0, 0))) (hB : B ≤ g) (hl : l.length ≤ maxLen) (hc : cs = l.map vb) :
    Own w B (.slice (some ⟨g, 0, none⟩) l.length l.length) l := by
  subst hc
  exact ⟨by simp, .inr ⟨g, l.length, _, rfl, hB, hh, Nat.le_refl _, hl, by simp, by simp [List.take_of_length_le]⟩⟩
theorem vb_one (l : List UInt8) : ∀ u ∈ l.map vb, u.oneCell' = true := by
  intro u hu
  obtain ⟨x, _, rfl⟩ := List.mem_map.1 hu
  rfl
theorem add_none (b off j : Nat) : (⟨b, off, none⟩ : Addr).add j = ⟨b, off + j, none⟩ := Addr.add_lit _ _ _
theorem splice_end {α : Type} (X Z cs : List α) : splice (X ++ Z) X.length cs = X ++ cs ++ Z.drop cs.length := by
  simp [splice, List.drop_append]
theorem u8elem : Try.prog.elem 47 = 5 := by kernel_rfl
theorem u8slice : Try.prog.underlying 47 = some (.slice (Try.prog.elem 47)) := by rw [u8elem]; exact Try.underlying47
theorem u8sizeOf (W : World) : (sizeOf 5).run Try.prog W = .ok 1 W := by kernel_rfl
/-- v[l:] of bytes, the address under one name -/
theorem cut_l {A : Option Addr} {n c l : Nat} (hl : l ≤ n) (hn : n ≤ c) : ∃ D, (l < n → D = A.map (·.add l)) ∧
    ∀ W, (Instr.slice 47 (.slice A n c) (some (.int .i64 (l : Int))) none none).run Try.prog W = .ok (.slice D (n - l) (c - l)) W := by
  refine ⟨if c = l then A else A.map (·.add (l * 1)), fun h => by rw [if_neg (by omega), Nat.mul_one], fun W => ?_⟩
  rw [run_slice_l _ _ _ _ _ u8slice _ _ (by omega) (by omega), u8elem, u8sizeOf]
  simp [Result.andThen, sliced]
/-- v[l:h] of bytes -/
theorem cut_lh {A : Option Addr} {n c l h : Nat} (hl : l ≤ h) (hn : h ≤ c) : ∃ D, (l < h → D = A.map (·.add l)) ∧
    ∀ W, (Instr.slice 47 (.slice A n c) (some (.int .i64 (l : Int))) (some (.int .i64 (h : Int))) none).run Try.prog W = .ok (.slice D (h - l) (c - l)) W := by
  refine ⟨if c = l then A else A.map (·.add (l * 1)), fun h => by rw [if_neg (by omega), Nat.mul_one], fun W => ?_⟩
  rw [run_slice_lh _ _ _ _ _ u8slice _ _ _ _ (by omega) (by omega) (by omega), u8elem, u8sizeOf]
  simp [Result.andThen, sliced]
/-- v[:h] of bytes -/
theorem cut_h {A : Option Addr} {n c h : Nat} (hn : h ≤ c) : ∃ D, (0 < h → D = A) ∧
    ∀ W, (Instr.slice 47 (.slice A n c) none (some (.int .i64 (h : Int))) none).run Try.prog W = .ok (.slice D h c) W := by
  refine ⟨if c = 0 then A else A.map (·.add (0 * 1)), fun h => by rw [if_neg (by omega)]; cases A <;> simp [Addr.add], fun W => ?_⟩
  rw [run_slice_h _ _ _ _ _ u8slice _ _ (by omega) (by omega), u8elem, u8sizeOf]
  simp [Result.andThen, sliced]
theorem u8size : (Try.prog.info? 5).map (·.size) = some 1 := by kernel_rfl
theorem u8info : (Try.prog.info? 5).map (fun i => (i.zero, i.size, i.bytes)) = some (some (.int .u8 0), 1, 1) := by kernel_rfl

theorem Bs.one (w : World) (x : UInt8) : Bs (w.alloc (.cells #[vb x] 5)) (w.heap.size + 1) (.slice (some ⟨w.heap.size, 0, none⟩) 1 1) [x] :=
  ⟨_, 1, rfl, Nat.le_refl _, by unfold maxLen; omega, fun _ => ⟨_, 0, rfl, by omega, fun j hj => by
    obtain rfl : j = 0 := by simpa using hj
    rw [Nat.zero_add, cell_of_row _ _ 0 #[vb x] 5 (0, 0) (heap_alloc_new w _)]
    rfl⟩⟩

/-- append(v, m...) of bytes, v the call's own, m whatever -/
theorem wp_app {w : World} {o : Oper} {a : Act} {K : Act → World → Prop} {Q : Exit → Act → World → Prop} (s x : Operand)
    (ho : o.op = .call { callee := .builtin .append, args := #[s, x], argTypes := #[47, 47] })
    {B B' : Nat} {v u : Value} {l m : List UInt8} (hs : a.eval s = v) (hown : Own w B v l) (hx : a.eval x = u) (hb : Bs w B' u m) (hsum : l.length + m.length ≤ 140737488355328) (hB : B ≤ w.heap.size)
    (h : ∀ v' w', Own w' B v' (l ++ m) → w.grownBy w' v.ownBlock → (v'.ownBlock = v.ownBlock ∨ v'.ownBlock = some w.heap.size) → K (a.put o.dst v') w') : o.wp Try.prog a w K Q := by
  obtain ⟨i, hi, hz0, hz1, hz2⟩ := info_parts u8info
  have key : ∃ v' w', (Builtin.append_ #[47, 47] o.type #[v, u]).run Try.prog w = .ok v' w' ∧ Own w' B v' (l ++ m) ∧ w.grownBy w' v.ownBlock ∧ (v'.ownBlock = v.ownBlock ∨ v'.ownBlock = some w.heap.size) := by
    obtain ⟨A, c, rfl, h1, h2, h3⟩ := hb
    by_cases hm : m.length = 0
    · obtain rfl : m = [] := List.eq_nil_of_length_eq_zero hm
      refine ⟨v, w, ?_, by simpa using hown, World.grownBy.refl w _, .inl rfl⟩
      rcases hown.2 with ⟨rfl, _⟩ | ⟨g, cap, cur, rfl, _, _, hnc, _⟩
      · cases A <;> simp [Builtin.append_, run_underlying Try.underlying47, sizeOf, typeInfo, hi, Builtin.lenOf, Builtin.firstCells, loadCells, loadCellsFrom]
      · cases A <;> simp [Builtin.append_, run_underlying Try.underlying47, sizeOf, typeInfo, hi, Builtin.lenOf, Builtin.firstCells, hnc, storeCells, loadCells, loadCellsFrom]
    · obtain ⟨b, off, rfl, _, hc⟩ := h3 (by omega)
      obtain ⟨v', w', hrun, g1, g2, _, g3⟩ := run_append_own_at (P := Try.prog) w B 47 o.type 5 i (.int .u8 0) 1 1 Try.underlying47 hi hz0 hz1 hz2 rfl (by omega) v l.length (l.map vb) hown
        ⟨b, off, none⟩ m.length c (m.map vb) (by simp) (fun j y hy => by
          rw [List.getElem?_map] at hy
          obtain ⟨z, hz, rfl⟩ := Option.map_eq_some_iff.1 hy
          obtain ⟨hj, rfl⟩ := List.getElem?_eq_some_iff.1 hz
          rw [add_none]; exact hc j hj) (vb_one _) (by unfold maxLen; omega) (by omega) hB
      exact ⟨v', w', hrun, by unfold Own; rw [List.map_append, List.length_append]; exact g1, g2, g3⟩
  obtain ⟨v', w', hrun, g1, g2, g3⟩ := key
  unfold Oper.wp execOp
  simp only [ho, resolve, invoke, builtin, Sem.run_bind, Sem.run_pure, Result.andThen_ok, List.map_toArray, List.map_cons, List.map_nil, hs, hx, hrun]
  exact h v' w' g1 g2 g3

theorem wpList_app {w : World} {ops : Array Oper} {rest : List Oper} {o : Oper} {a : Act} {Q : Exit → Act → World → Prop} (hgd : o.guard = none) (s x : Operand)
    (ho : o.op = .call { callee := .builtin .append, args := #[s, x], argTypes := #[47, 47] })
    {B B' : Nat} {v u : Value} {l m : List UInt8} (hs : a.eval s = v) (hown : Own w B v l) (hx : a.eval x = u) (hb : Bs w B' u m) (hsum : l.length + m.length ≤ 140737488355328) (hB : B ≤ w.heap.size)
    (h : ∀ v' w', Own w' B v' (l ++ m) → w.grownBy w' v.ownBlock → (v'.ownBlock = v.ownBlock ∨ v'.ownBlock = some w.heap.size) → wpList Try.prog ops Q rest (a.put o.dst v') w') : wpList Try.prog ops Q (o :: rest) a w :=
  wpList_plain hgd fun _ hK => wp_app s x ho hs hown hx hb hsum hB fun v' w' h1 h2 h3 => hK _ _ (h v' w' h1 h2 h3)
/-- .. as a step of a region that draws its order -/
theorem step_app {w : World} {ops : Array Oper} {o : Oper} {a : Act} {K : Act → World → Prop} {Q : Exit → Act → World → Prop} {E : Prop} (hgd : o.guard = none) (s x : Operand)
    (ho : o.op = .call { callee := .builtin .append, args := #[s, x], argTypes := #[47, 47] })
    {B B' : Nat} {v u : Value} {l m : List UInt8} (hs : a.eval s = v) (hown : Own w B v l) (hx : a.eval x = u) (hb : Bs w B' u m) (hsum : l.length + m.length ≤ 140737488355328) (hB : B ≤ w.heap.size)
    (h : ∀ v' w', Own w' B v' (l ++ m) → w.grownBy w' v.ownBlock → (v'.ownBlock = v.ownBlock ∨ v'.ownBlock = some w.heap.size) → K (a.put o.dst v') w') :
    if Region.wanted o (yielded ops a.tmps) = true then Oper.wp Try.prog o a w K Q else E := by
  have hw : Region.wanted o (yielded ops a.tmps) = true := by simp [Region.wanted, hgd]
  rw [if_pos hw]
  exact wp_app s x ho hs hown hx hb hsum hB h

theorem own_apart {w : World} {B B' : Nat} {e e' : TypeId} {n n' : Nat} {v u : Value} {xs ys : List Value} (h : w.ownsRow B e 1 v n xs) (h' : w.ownsRow B' e' 1 u n' ys) (hne : e ≠ e') : u.ownBlock = none ∨ u.ownBlock ≠ v.ownBlock := by
  rcases h'.2 with ⟨rfl, _⟩ | ⟨g', cap', cur', rfl, _, hh', _⟩
  · exact .inl rfl
  · right
    rcases h.2 with ⟨rfl, _⟩ | ⟨g, cap, cur, rfl, _, hh, _⟩
    · simp [Value.ownBlock]
    · simp only [Value.ownBlock, ne_eq, Option.some.injEq]
      rintro rfl
      rw [hh] at hh'
      simp only [Option.some.injEq, Obj.cells.injEq] at hh'
      exact hne hh'.2.1
theorem grown_below {B : Nat} {w0 w w' : World} {v : Value} {n : Nat} {e : TypeId} {xs : List Value} (hb : Below B w0 w) (hg : w.grownBy w' v.ownBlock) (hB : B ≤ w.heap.size) (ho : w.ownsRow B e 1 v n xs) : Below B w0 w' :=
  hb.grown hg hB fun k hk => (ho.lt k hk).1

/-- v is a slice of the call's own, whose places are slices of bytes of the call's own -/
def OwnRs (w : World) (B : Nat) (v : Value) (ls : List (List UInt8)) : Prop :=
  ∃ xs, w.ownsRow B 47 1 v ls.length xs ∧ xs.length = ls.length ∧ ∀ (j : Nat) (h : j < xs.length) (h' : j < ls.length), Own w B xs[j] ls[j]
theorem OwnRs.nil (w : World) (B : Nat) : OwnRs w B (.slice none 0 0) [] := ⟨[], World.ownsRow_nil w B _ _, rfl, fun j h => absurd h (by simp)⟩
theorem OwnRs.rs {w : World} {B : Nat} {v : Value} {ls : List (List UInt8)} (h : OwnRs w B v ls) : Rs w w.heap.size v ls := by
  obtain ⟨xs, ho, hx, he⟩ := h
  rcases ho.2 with ⟨rfl, hn⟩ | ⟨g, cap, cur, rfl, hg, hh, hnc, hcm, hsz, htk⟩
  · obtain rfl : ls = [] := List.eq_nil_of_length_eq_zero hn
    exact Rs.nil _ _
  · refine ⟨_, _, rfl, hnc, hcm, fun _ => ⟨g, 0, rfl, (Array.getElem?_eq_some_iff.1 hh).1, fun j hj => ?_⟩⟩
    refine ⟨xs[j]'(by omega), ?_, (he j (by omega) hj).bs⟩
    rw [Nat.zero_add, cell_of_row w g j cur _ _ hh]
    have h1 : (cur.toList.take (ls.length * 1))[j]? = xs[j]? := by rw [htk]
    rw [List.getElem?_take, if_pos (by omega)] at h1
    simpa [show j < xs.length by omega] using h1
theorem Own.kept {w w' : World} {B : Nat} {v : Value} {l : List UInt8} {row : Option Nat} (h : Own w B v l) (hg : w.grownBy w' row) (hne : v.ownBlock = none ∨ v.ownBlock ≠ row) : Own w' B v l := World.ownsRow.kept h hg hne
theorem Own.alloc {w : World} {B : Nat} {v : Value} {l : List UInt8} (h : Own w B v l) (o : Obj) : Own (w.alloc o) B v l := World.ownsRow.alloc h o
theorem OwnRs.below {w w' : World} {B B' : Nat} {v : Value} {ls : List (List UInt8)} (h : OwnRs w B v ls) (hb : Below B' w w') (hB : w.heap.size ≤ B') : OwnRs w' B v ls := by
  obtain ⟨xs, ho, hx, he⟩ := h
  refine ⟨xs, ?_, hx, fun j h h' => (he j h h').below hb hB⟩
  obtain ⟨h1, h2⟩ := ho
  refine ⟨h1, ?_⟩
  rcases h2 with h2 | ⟨g, cap, cur, hv, hg, hh, r⟩
  · exact .inl h2
  · exact .inr ⟨g, cap, cur, hv, hg, (hb.block g (by have := (Array.getElem?_eq_some_iff.1 hh).1; omega)).trans hh, r⟩
theorem u24info : (Try.prog.info? 47).map (fun i => (i.zero, i.size, i.bytes)) = some (some (.slice none 0 0), 1, 24) := by kernel_rfl

/-- append(v, u) of a slice of bytes -/
theorem wpList_appR {w : World} {ops : Array Oper} {rest : List Oper} {o : Oper} {a : Act} {Q : Exit → Act → World → Prop} (hgd : o.guard = none) (s x : Operand)
    (ho : o.op = .call { callee := .builtin .append, args := #[s, x], argTypes := #[60, 60] })
    {B : Nat} {v u : Value} {ls : List (List UInt8)} {m : List UInt8} (hs : a.eval s = v) (hown : OwnRs w B v ls) (ad : Addr) (hx : a.eval x = .slice (some ad) 1 1) (hcell : w.cell? ad = some u) (hu : Own w B u m) (hsum : ls.length + 1 ≤ 5864062014805) (hB : B ≤ w.heap.size)
    (h : ∀ v' w', OwnRs w' B v' (ls ++ [m]) → Below B w w' → wpList Try.prog ops Q rest (a.put o.dst v') w') : wpList Try.prog ops Q (o :: rest) a w := by
  obtain ⟨i, hi, hz0, hz1, hz2⟩ := info_parts u24info
  obtain ⟨xs, ho1, hxl, he⟩ := hown
  refine wpList_append_own w hgd s x 60 ho B 47 i (.slice none 0 0) 1 24 Try.underlying60 hi hz0 hz1 hz2 rfl (by omega) v ls.length xs hs ho1 ad 1 1 [u] hx rfl ?_ ?_ ?_ ?_ hB ?_
  · intro j y hy
    obtain ⟨hj, rfl⟩ := List.getElem?_eq_some_iff.1 hy
    obtain rfl : j = 0 := by simpa using hj
    simpa [Addr.add] using hcell
  · intro y hy
    obtain rfl : y = u := by simpa using hy
    rcases hu.2 with ⟨rfl, _⟩ | ⟨g, cap, cur, rfl, _⟩ <;> rfl
  · unfold maxLen; omega
  · omega
  · intro v' w' hown' hg _
    have hne : ∀ (y : Value) (l : List UInt8), Own w B y l → Own w' B y l := fun y l hy => hy.kept hg (own_apart ho1 hy (by decide))
    refine h v' w' ⟨xs ++ [u], by simpa using hown', by simp [hxl], fun j hj hj' => ?_⟩ (grown_below (Below.refl _ _) hg hB ho1)
    by_cases hlt : j < xs.length
    · rw [List.getElem_append_left hlt, List.getElem_append_left (by omega)]
      exact hne _ _ (he j hlt (by omega))
    · have e1 : (xs ++ [u])[j] = u := by
        have : j = xs.length := by simp at hj; omega
        subst this; simp
      have e2 : (ls ++ [m])[j] = m := by
        have : j = ls.length := by simp at hj; omega
        subst this; simp
      rw [e1, e2]
      exact hne _ _ hu
theorem Own.shape {w : World} {B : Nat} {v : Value} {l : List UInt8} (h : Own w B v l) : ∃ A c, v = .slice A l.length c := by
  obtain ⟨A, c, hv, _⟩ := h.bs
  exact ⟨A, c, hv⟩
theorem Bs.shape {w : World} {B : Nat} {v : Value} {l : List UInt8} (h : Bs w B v l) : ∃ A c, v = .slice A l.length c := by
  obtain ⟨A, c, hv, _⟩ := h
  exact ⟨A, c, hv⟩
theorem OwnRs.shape {w : World} {B : Nat} {v : Value} {ls : List (List UInt8)} (h : OwnRs w B v ls) : ∃ A c, v = .slice A ls.length c := by
  obtain ⟨A, c, hv, _⟩ := h.rs
  exact ⟨A, c, hv⟩
theorem cell_new (w : World) (v : Value) (e : TypeId) : (w.alloc (.cells #[v] e)).cell? ⟨w.heap.size, 0, none⟩ = some v := by
  rw [cell_of_row _ _ 0 #[v] e (0, 0) (heap_alloc_new w _)]; rfl
theorem Drew.cell {w w' : World} (h : Drew w w') {p : Addr} {x : Option Value} (hx : w.cell? p = x) : w'.cell? p = x := by
  obtain ⟨n, rfl⟩ := h
  exact hx
theorem Drew.trans {a b c : World} (h : Drew a b) (k : Drew b c) : Drew a c := by
  obtain ⟨n, rfl⟩ := h
  obtain ⟨m, rfl⟩ := k
  exact ⟨n + m, by rw [World.drewN_drewN]⟩
theorem Drew.bs {w w' : World} (h : Drew w w') {B : Nat} {v : Value} {l : List UInt8} (hb : Bs w B v l) : Bs w' B v l := by
  obtain ⟨n, rfl⟩ := h
  exact hb
theorem Drew.rs {w w' : World} (h : Drew w w') {B : Nat} {v : Value} {l : List (List UInt8)} (hb : Rs w B v l) : Rs w' B v l := by
  obtain ⟨n, rfl⟩ := h
  exact hb
theorem Drew.own {w w' : World} (h : Drew w w') {B : Nat} {v : Value} {l : List UInt8} (hb : Own w B v l) : Own w' B v l := by
  obtain ⟨n, rfl⟩ := h
  exact hb
theorem Drew.quiet {P : Program} {f : FuncId} {args : Array Value} {w : World} {n : Nat} {v : Value} (h : Calls P f args (w.drewN n) fun e w' => e = .returned v ∧ Drew (w.drewN n) w') :
    Calls P f args (w.drewN n) fun e w'' => e = .returned v ∧ ∃ m, w'' = w.drewN m := Calls.quiet_of h
theorem Bs.lit (w : World) (l : List UInt8) (hl : l.length ≤ maxLen) : Bs (w.alloc (.cells (l.map vb).toArray 5)) (w.heap.size + 1) (.slice (some ⟨w.heap.size, 0, none⟩) l.length l.length) l :=
  ⟨_, _, rfl, Nat.le_refl _, hl, fun _ => ⟨_, 0, rfl, by omega, fun j hj => by
    rw [Nat.zero_add, cell_of_row _ _ j _ 5 (0, 0) (heap_alloc_new w _)]
    simp [vb, hj]⟩⟩
theorem Bs.alloc {w : World} {B : Nat} {v : Value} {l : List UInt8} (h : Bs w B v l) (hB : B ≤ w.heap.size) (o : Obj) : Bs (w.alloc o) B v l := h.below ((Below.refl _ _).alloc (Nat.le_refl _) o) hB
theorem Rs.alloc {w : World} {B : Nat} {v : Value} {l : List (List UInt8)} (h : Rs w B v l) (hB : B ≤ w.heap.size) (o : Obj) : Rs (w.alloc o) B v l := h.below ((Below.refl _ _).alloc (Nat.le_refl _) o) hB
theorem Rs.lit (w : World) (us : List Value) (ls : List (List UInt8)) (hn : us.length = ls.length) (hl : ls.length ≤ maxLen) (h : ∀ (j : Nat) (h : j < us.length) (h' : j < ls.length), Bs w w.heap.size us[j] ls[j]) :
    Rs (w.alloc (.cells us.toArray 47)) (w.heap.size + 1) (.slice (some ⟨w.heap.size, 0, none⟩) ls.length ls.length) ls :=
  ⟨_, _, rfl, Nat.le_refl _, hl, fun _ => ⟨_, 0, rfl, by omega, fun j hj => ⟨us[j], by
    rw [Nat.zero_add, cell_of_row _ _ j _ 47 (0, 0) (heap_alloc_new w _)]
    simp [show j < us.length by omega], ((h j (by omega) hj).alloc (Nat.le_refl _) _).more (by omega)⟩⟩⟩
/-- block g is there -/
def Has (w : World) (g : Nat) : Prop := g < w.heap.size
theorem Has.below {w w' : World} {B g : Nat} (h : Has w g) (hb : Below B w w') : Has w' g := Nat.lt_of_lt_of_le h hb.size
theorem Has.cell {w w' : World} {g i : Nat} {x : Option Value} (h : Has w g) (hb : Below w.heap.size w w') (hc : w.cell? ⟨g, i, none⟩ = x) : w'.cell? ⟨g, i, none⟩ = x := (hb.cell (p := ⟨g, i, none⟩) h).trans hc
theorem Has.new (w : World) (o : Obj) : Has (w.alloc o) w.heap.size := by simp [Has]
theorem Has.drew {w : World} {g : Nat} (h : Has w g) : Has w.drew g := h
theorem bs_of {w w' : World} {B : Nat} {v : Value} {l : List UInt8} (h : Hid (Below B w w')) (hb : Bs w B v l) : Bs w' B v l := hb.below h.out (Nat.le_refl _)
theorem size_of {w w' : World} {B : Nat} (h : Hid (Below B w w')) : w.heap.size ≤ w'.heap.size := h.out.size
theorem hid_trans {w w1 w2 : World} (h : Hid (Below w.heap.size w w1)) (h2 : Below w1.heap.size w1 w2) : Hid (Below w.heap.size w w2) := Lib.hid (h.out.trans (h2.mono h.out.size))
/-- v is a slice of structs of f integers -/
def Ss (w : World) (B : Nat) (v : Value) (f : Nat) (xs : List (List Int)) : Prop :=
  ∃ A c, v = .slice A xs.length c ∧ xs.length ≤ c ∧ c ≤ maxLen ∧
    (0 < xs.length → ∃ b off, A = some ⟨b, off, none⟩ ∧ b < B ∧ ∀ j (h : j < xs.length), xs[j].length = f ∧ ∀ i (hi : i < xs[j].length), w.cell? ⟨b, off + j * f + i, none⟩ = some (.int .i64 xs[j][i]) ∧ (Lit.int .i64 xs[j][i]).wf = true)

/-- v is a slice of ints -/
def Is (w : World) (B : Nat) (v : Value) (xs : List Int) : Prop :=
  ∃ A c, v = .slice A xs.length c ∧ xs.length ≤ c ∧ c ≤ maxLen ∧
    (0 < xs.length → ∃ b off, A = some ⟨b, off, none⟩ ∧ b < B ∧ ∀ j (h : j < xs.length), w.cell? ⟨b, off + j, none⟩ = some (.int .i64 xs[j]) ∧ (Lit.int .i64 xs[j]).wf = true)
theorem Is.nil (w : World) (B : Nat) : Is w B (.slice none 0 0) [] := ⟨none, 0, rfl, Nat.le_refl _, Nat.zero_le _, fun h => absurd h (by simp)⟩
theorem Is.below {w w' : World} {B B' : Nat} {v : Value} {xs : List Int} (h : Is w B v xs) (hb : Below B' w w') (hB : B ≤ B') : Is w' B v xs := by
  obtain ⟨A, c, rfl, h1, h2, h3⟩ := h
  refine ⟨A, c, rfl, h1, h2, fun hp => ?_⟩
  obtain ⟨b, off, rfl, hlt, hc⟩ := h3 hp
  exact ⟨b, off, rfl, hlt, fun j hj => ⟨(hb.cell (p := ⟨b, off + j, none⟩) (by show b < B'; omega)).trans (hc j hj).1, (hc j hj).2⟩⟩
theorem i64_bounds {z : Int} (h : (Lit.int .i64 z).wf = true) : -9223372036854775808 ≤ z ∧ z ≤ 9223372036854775807 := by simpa [Lit.wf, IntKind.min, IntKind.max, IntKind.signed, IntKind.bits] using h
theorem u64_bounds {z : Int} (h : (Lit.int .u64 z).wf = true) : 0 ≤ z ∧ z ≤ 18446744073709551615 := by simpa [Lit.wf, IntKind.min, IntKind.max, IntKind.signed, IntKind.bits] using h
/-- v is a slice that holds the cells ms (each one cell) -/
def Cs (w : World) (B : Nat) (v : Value) (ms : List Value) : Prop :=
  ∃ A c, v = .slice A ms.length c ∧ ms.length ≤ c ∧ c ≤ maxLen ∧
    (0 < ms.length → ∃ b off, A = some ⟨b, off, none⟩ ∧ b < B ∧ ∀ j (h : j < ms.length), w.cell? ⟨b, off + j, none⟩ = some ms[j])
theorem Is.cs {w : World} {B : Nat} {v : Value} {xs : List Int} (h : Is w B v xs) : Cs w B v (xs.map (Value.int .i64)) := by
  obtain ⟨A, c, rfl, h1, h2, h3⟩ := h
  refine ⟨A, c, by simp, by simpa using h1, h2, fun hp => ?_⟩
  obtain ⟨b, off, rfl, hlt, hc⟩ := h3 (by simpa using hp)
  exact ⟨b, off, rfl, hlt, fun j hj => by simpa using (hc j (by simpa using hj)).1⟩
theorem Cs.one (w : World) (e : TypeId) (x : Value) : Cs (w.alloc (.cells #[x] e)) (w.heap.size + 1) (.slice (some ⟨w.heap.size, 0, none⟩) 1 1) [x] :=
  ⟨_, 1, rfl, Nat.le_refl _, by unfold maxLen; omega, fun _ => ⟨_, 0, rfl, by omega, fun j hj => by
    obtain rfl : j = 0 := by simpa using hj
    rw [Nat.zero_add, cell_of_row _ _ 0 #[x] e (0, 0) (heap_alloc_new w _)]
    rfl⟩⟩
theorem Cs.below {w w' : World} {B B' : Nat} {v : Value} {ms : List Value} (h : Cs w B v ms) (hb : Below B' w w') (hB : B ≤ B') : Cs w' B v ms := by
  obtain ⟨A, c, rfl, h1, h2, h3⟩ := h
  refine ⟨A, c, rfl, h1, h2, fun hp => ?_⟩
  obtain ⟨b, off, rfl, hlt, hc⟩ := h3 hp
  exact ⟨b, off, rfl, hlt, fun j hj => (hb.cell (p := ⟨b, off + j, none⟩) (by show b < B'; omega)).trans (hc j hj)⟩
/-- append(v, u...), v the call's own, u whatever -/
theorem wpList_appG {w : World} {ops : Array Oper} {rest : List Oper} {o : Oper} {a : Act} {Q : Exit → Act → World → Prop} (hgd : o.guard = none) (s x : Operand) {t e : TypeId}
    (ho : o.op = .call { callee := .builtin .append, args := #[s, x], argTypes := #[t, t] }) (ht : Try.prog.underlying t = some (.slice e)) {z : Value} {bytes : Nat}
    (hinfo : (Try.prog.info? e).map (fun i => (i.zero, i.size, i.bytes)) = some (some z, 1, bytes)) (hz : z.cells.size = 1) (hb1 : bytes ≤ 64)
    {B B' : Nat} {v u : Value} {n : Nat} {xs ms : List Value} (hs : a.eval s = v) (hown : w.ownsRow B e 1 v n xs) (hx : a.eval x = u) (hb : Cs w B' u ms) (hone : ∀ y ∈ ms, y.oneCell' = true) (hsum : n + ms.length ≤ 2199023255552) (hB : B ≤ w.heap.size)
    (h : ∀ v' w', w'.ownsRow B e 1 v' (n + ms.length) (xs ++ ms) → w.grownBy w' v.ownBlock → (v'.ownBlock = v.ownBlock ∨ v'.ownBlock = some w.heap.size) → wpList Try.prog ops Q rest (a.put o.dst v') w') : wpList Try.prog ops Q (o :: rest) a w := by
  obtain ⟨i, hi, hz0, hz1, hz2⟩ := info_parts hinfo
  refine wpList_plain hgd fun K hK => ?_
  have key : ∃ v' w', (Builtin.append_ #[t, t] o.type #[v, u]).run Try.prog w = .ok v' w' ∧ w'.ownsRow B e 1 v' (n + ms.length) (xs ++ ms) ∧ w.grownBy w' v.ownBlock ∧ (v'.ownBlock = v.ownBlock ∨ v'.ownBlock = some w.heap.size) := by
    obtain ⟨A, c, rfl, h1, h2, h3⟩ := hb
    by_cases hm : ms.length = 0
    · obtain rfl : ms = [] := List.eq_nil_of_length_eq_zero hm
      refine ⟨v, w, ?_, by simpa using hown, World.grownBy.refl w _, .inl rfl⟩
      rcases hown.2 with ⟨rfl, _⟩ | ⟨g, cap, cur, rfl, _, _, hnc, _⟩
      · cases A <;> simp [Builtin.append_, run_underlying ht, sizeOf, typeInfo, hi, Builtin.lenOf, Builtin.firstCells, loadCells, loadCellsFrom]
      · cases A <;> simp [Builtin.append_, run_underlying ht, sizeOf, typeInfo, hi, Builtin.lenOf, Builtin.firstCells, hnc, storeCells, loadCells, loadCellsFrom]
    · obtain ⟨b, off, rfl, _, hc⟩ := h3 (by omega)
      obtain ⟨v', w', hrun, g1, g2, _, g3⟩ := run_append_own_at (P := Try.prog) w B t o.type e i z 1 bytes ht hi hz0 hz1 hz2 hz (by omega) v n xs hown
        ⟨b, off, none⟩ ms.length c ms (by simp) (fun j y hy => by
          obtain ⟨hj, rfl⟩ := List.getElem?_eq_some_iff.1 hy
          rw [add_none]; exact hc j hj) hone (by unfold maxLen; omega) (Nat.le_trans (Nat.mul_le_mul hsum hb1) (by decide)) hB
      exact ⟨v', w', hrun, g1, g2, g3⟩
  obtain ⟨v', w', hrun, g1, g2, g3⟩ := key
  unfold Oper.wp execOp
  simp only [ho, resolve, invoke, builtin, Sem.run_bind, Sem.run_pure, Result.andThen_ok, List.map_toArray, List.map_cons, List.map_nil, hs, hx, hrun]
  exact hK _ _ (h v' w' g1 g2 g3)
/-- a slice of ints of the call's own -/
def OwnIs (w : World) (B : Nat) (v : Value) (xs : List Int) : Prop := w.ownsRow B 3 1 v xs.length (xs.map (Value.int .i64)) ∧ ∀ x ∈ xs, (Lit.int .i64 x).wf = true
theorem OwnIs.nil (w : World) (B : Nat) : OwnIs w B (.slice none 0 0) [] := ⟨World.ownsRow_nil w B _ _, by simp⟩
theorem OwnIs.is {w : World} {B : Nat} {v : Value} {xs : List Int} (h : OwnIs w B v xs) : Is w w.heap.size v xs := by
  obtain ⟨⟨_, h2⟩, hw⟩ := h
  rcases h2 with ⟨rfl, hn⟩ | ⟨g, cap, cur, rfl, hg, hh, hnc, hcm, hsz, htk⟩
  · have : xs = [] := List.eq_nil_of_length_eq_zero hn
    subst this
    exact Is.nil _ _
  · refine ⟨_, _, rfl, hnc, hcm, fun _ => ⟨g, 0, rfl, (Array.getElem?_eq_some_iff.1 hh).1, fun j hj => ⟨?_, hw _ (List.getElem_mem hj)⟩⟩⟩
    rw [Nat.zero_add, cell_of_row w g j cur _ _ hh]
    have h1 : (cur.toList.take (xs.length * 1))[j]? = (xs.map (Value.int .i64))[j]? := by rw [htk]
    rw [List.getElem?_take, if_pos (by omega)] at h1
    simpa [hj] using h1
theorem int_info : (Try.prog.info? 3).map (fun i => (i.zero, i.size, i.bytes)) = some (some (.int .i64 0), 1, 8) := by kernel_rfl
theorem OwnIs.empty (w : World) (B : Nat) (hB : B ≤ w.heap.size) : OwnIs (w.alloc (.cells #[] 3)) B (.slice (some ⟨w.heap.size, 0, none⟩) 0 0) [] :=
  ⟨World.ownsRow_made w #[] 0 hB (Nat.zero_le _) rfl, by simp⟩
theorem ints_one (xs : List Int) : ∀ u ∈ xs.map (Value.int .i64), u.oneCell' = true := by
  intro u hu
  obtain ⟨x, _, rfl⟩ := List.mem_map.1 hu
  rfl
theorem OwnIs.below {w w' : World} {B B' : Nat} {v : Value} {xs : List Int} (h : OwnIs w B v xs) (hb : Below B' w w') (hB : w.heap.size ≤ B') : OwnIs w' B v xs := by
  obtain ⟨⟨h1, h2⟩, hw⟩ := h
  refine ⟨⟨h1, ?_⟩, hw⟩
  rcases h2 with h2 | ⟨g, cap, cur, hv, hg, hh, r⟩
  · exact .inl h2
  · exact .inr ⟨g, cap, cur, hv, hg, (hb.block g (by have := (Array.getElem?_eq_some_iff.1 hh).1; omega)).trans hh, r⟩
theorem OwnIs.alloc {w : World} {B : Nat} {v : Value} {xs : List Int} (h : OwnIs w B v xs) (o : Obj) : OwnIs (w.alloc o) B v xs := h.below ((Below.refl _ _).alloc (Nat.le_refl _) o) (Nat.le_refl _)
theorem OwnIs.shape {w : World} {B : Nat} {v : Value} {xs : List Int} (h : OwnIs w B v xs) : ∃ A c, v = .slice A xs.length c := by
  obtain ⟨A, c, hv, _⟩ := h.is
  exact ⟨A, c, hv⟩
/-- a piece of a slice of bytes -/
theorem Bs.piece {w : World} {B : Nat} {A : Option Addr} {n c lo hi : Nat} {l : List UInt8} (h : Bs w B (.slice A n c) l) (h1 : lo ≤ hi) (h2 : hi ≤ n) :
    ∃ D, Bs w B (.slice D (hi - lo) (c - lo)) ((l.drop lo).take (hi - lo)) ∧
      ∀ W, (Instr.slice 47 (.slice A n c) (some (.int .i64 (lo : Int))) (some (.int .i64 (hi : Int))) none).run Try.prog W = .ok (.slice D (hi - lo) (c - lo)) W := by
  obtain ⟨A', c', hv, g1, g2, g3⟩ := h
  simp only [Value.slice.injEq] at hv
  obtain ⟨rfl, rfl, rfl⟩ := hv
  have hlen : ((l.drop lo).take (hi - lo)).length = hi - lo := by simp; omega
  have hc1 : hi - lo ≤ c - lo := by omega
  have hc2 : c - lo ≤ maxLen := by omega
  obtain ⟨D, hD, hrun⟩ := cut_lh (A := A) (n := l.length) (c := c) (l := lo) (h := hi) h1 (by omega)
  refine ⟨D, ⟨D, c - lo, by rw [hlen], by rw [hlen]; exact hc1, hc2, fun hp => ?_⟩, hrun⟩
  rw [hlen] at hp
  have hp1 : lo < hi := by omega
  have hp2 : 0 < l.length := by omega
  obtain ⟨b, off, rfl, hlt, hc⟩ := g3 hp2
  refine ⟨b, off + lo, by rw [hD hp1]; simp [Addr.add_lit], hlt, fun j hj => ?_⟩
  rw [hlen] at hj
  have hj' : lo + j < l.length := by clear hD hrun hc g3; omega
  rw [Nat.add_assoc, hc _ hj']
  simp
theorem owns_of_row {w : World} {B b n : Nat} {e : TypeId} {f : Nat → Value} {us : List Value} (h : w.rowIs b e n f) (hB : B ≤ b) (hn : n ≤ maxLen) (hl : us.length = n) (hf : ∀ j (hj : j < us.length), f j = us[j]) :
    w.ownsRow B e 1 (.slice (some ⟨b, 0, none⟩) n n) n us := by
  subst hl
  obtain ⟨c, hh, hs, hc⟩ := h
  refine ⟨by simp, .inr ⟨b, us.length, c, rfl, hB, hh, Nat.le_refl _, hn, by simpa using hs, ?_⟩⟩
  apply List.ext_getElem?
  intro j
  rw [List.getElem?_take]
  by_cases hj : j < us.length
  · rw [if_pos (by omega)]
    have := hc j hj
    rw [hf j hj] at this
    simpa [hj] using this
  · rw [if_neg (by omega)]
    simp [hj]
theorem Own.setOther {w : World} {B g n : Nat} {v : Value} {l : List UInt8} {e : TypeId} {f : Nat → Value} (h : Own w B v l) (hr : w.rowIs g e n f) (hne : 5 ≠ e) (i : Nat) (x : Value) : Own (w.setCell ⟨g, i, none⟩ x) B v l := by
  obtain ⟨h1, h2⟩ := h
  refine ⟨h1, ?_⟩
  rcases h2 with h2 | ⟨g', cap, cur, hv, hg, hh, r⟩
  · exact .inl h2
  · refine .inr ⟨g', cap, cur, hv, hg, ?_, r⟩
    have hgg : g' ≠ g := by
      rintro rfl
      obtain ⟨c, hb, _⟩ := hr
      rw [hh] at hb
      simp only [Option.some.injEq, Obj.cells.injEq] at hb
      exact hne hb.2.1
    exact (Below.heap_setCell w ⟨g, i, none⟩ x g' hgg).trans hh
theorem rowIs_below {w w' : World} {b : Nat} {t : TypeId} {n : Nat} {f : Nat → Value} {B : Nat} (h : w.rowIs b t n f) (hb : Below B w w') (hB : b < B) : w'.rowIs b t n f := h.of_block (hb.block b hB)
theorem getD_snoc {us : List Value} {u d : Value} {k : Nat} (h : us.length = k) (j : Nat) : (us ++ [u]).getD j d = if j = k then u else us.getD j d := by
  subst h
  by_cases e : j = us.length
  · subst e; simp
  · rw [if_neg e]
    by_cases hlt : j < us.length
    · simp [hlt, List.getElem?_append_left hlt]
    · have h1 : us.length < j := by omega
      have h2 : us[j]? = none := List.getElem?_eq_none (by omega)
      have h3 : (us ++ [u])[j]? = none := List.getElem?_eq_none (by simp; omega)
      simp [h2, h3]
theorem Own.at_ {w : World} {B n c j : Nat} {A : Option Addr} {l : List UInt8} (h : Own w B (.slice A n c) l) (hj : j < l.length) :
    ∃ g, A = some ⟨g, 0, none⟩ ∧ B ≤ g ∧ g < w.heap.size ∧ w.cell? ⟨g, j, none⟩ = some (.int .u8 (l[j].toNat : Int)) ∧ w.frozen? ⟨g, j, none⟩ = false ∧
      ∀ x : UInt8, Own (w.setCell ⟨g, j, none⟩ (.int .u8 (x.toNat : Int))) B (.slice A n c) (l.set j x) := by
  rcases h.2 with ⟨hv, hn⟩ | ⟨g, cap, cur, hv, hg, hh, hnc, hcm, hsz, htk⟩
  · omega
  · simp only [Value.slice.injEq] at hv
    obtain ⟨rfl, rfl, rfl⟩ := hv
    have hlt : g < w.heap.size := (Array.getElem?_eq_some_iff.1 hh).1
    refine ⟨g, rfl, hg, hlt, ?_, frozen_of_row w g j cur _ hh, fun x => ?_⟩
    · have h2 := World.ownsRow.cellAt h j (by omega)
      rw [h2]
      simp [vb, hj]
    · have h3 := (World.ownsRow.stored h j (vb x)).1
      unfold Own
      rw [List.length_set, List.map_set]
      exact h3
theorem Own.len {w : World} {B n c : Nat} {A : Option Addr} {l : List UInt8} (h : Own w B (.slice A n c) l) : n = l.length := by
  obtain ⟨A', c', hv, _⟩ := h.bs
  simp only [Value.slice.injEq] at hv
  exact hv.2.1
theorem OwnRs.more {w : World} {B B' : Nat} {v : Value} {ls : List (List UInt8)} (h : OwnRs w B v ls) (hB : B' ≤ B) : OwnRs w B' v ls := by
  obtain ⟨xs, ⟨h1, h2⟩, hx, he⟩ := h
  refine ⟨xs, ⟨h1, ?_⟩, hx, fun j h h' => (he j h h').more hB⟩
  rcases h2 with h2 | ⟨g, cap, cur, hv, hg, r⟩
  · exact .inl h2
  · exact .inr ⟨g, cap, cur, hv, by omega, r⟩
end Go.Proofs.Ytgkglielcbgpiaa
