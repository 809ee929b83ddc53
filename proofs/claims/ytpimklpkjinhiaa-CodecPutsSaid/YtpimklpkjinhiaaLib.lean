/- Words for memory: a slice of bytes that reads as a list; rows of such; what a call owns. -/
import Derived.Test.YtpimklpkjinhiaaRows
import Derived.WalkKit
import Derived.WalkSpells
import Derived.WalkLawsBesides
import Derived.Deep.QuietTactic
import Derived.BigQuiet
import Derived.Outline
import Derived.Lib.Hide
import Derived.Deep.OwnRows
import Derived.Deep.Draws
import Derived.Laws.CopyOwn
import Derived.Maps.AppendAt
import Derived.Deep.OwnShut
namespace Go.Proofs.Ytpimklpkjinhiaa
open Go.RowKit

/-- v is a slice of bytes that reads as l, in memory below block B -/
def Bs (w : World) (B : Nat) (v : Value) (l : List UInt8) : Prop :=
  ∃ A c, v = .slice A l.length c ∧ l.length ≤ c ∧ c ≤ maxLen ∧
    (0 < l.length → ∃ b off, A = some ⟨b, off, none⟩ ∧ b < B ∧ ∀ j (h : j < l.length), w.cell? ⟨b, off + j, none⟩ = some (.int .u8 (l[j].toNat : Int)))

theorem Bs.below {w w' : World} {B B' : Nat} {v : Value} {l : List UInt8} (h : Bs w B v l) (hb : Below B' w w') (hB : B ≤ B') : Bs w' B v l := by
  obtain ⟨A, c, rfl, h1, h2, h3⟩ := h
  refine ⟨A, c, rfl, h1, h2, fun hp => ?_⟩
  obtain ⟨b, off, rfl, hlt, hc⟩ := h3 hp
  exact ⟨b, off, rfl, hlt, fun j hj => (hb.cell (p := ⟨b, off + j, none⟩) (by show b < B'; omega)).trans (hc j hj)⟩
theorem Bs.drewN {w : World} {B : Nat} {v : Value} {l : List UInt8} (h : Bs w B v l) (n : Nat) : Bs (w.drewN n) B v l := h
theorem Bs.more {w : World} {B B' : Nat} {v : Value} {l : List UInt8} (h : Bs w B v l) (hB : B ≤ B') : Bs w B' v l := by
  obtain ⟨A, c, rfl, h1, h2, h3⟩ := h
  refine ⟨A, c, rfl, h1, h2, fun hp => ?_⟩
  obtain ⟨b, off, rfl, hlt, hc⟩ := h3 hp
  exact ⟨b, off, rfl, by omega, hc⟩
theorem Bs.nil (w : World) (B : Nat) : Bs w B (.slice none 0 0) [] := ⟨none, 0, rfl, Nat.le_refl _, Nat.zero_le _, fun h => absurd h (by simp)⟩

theorem ret_bool {a b : Bool} (h : a = b) : Ending.returned (.bool a) = .returned (.bool b) := by rw [h]
theorem ret_int {k : IntKind} {a b : Int} (h : a = b) : Ending.returned (.int k a) = .returned (.int k b) := by rw [h]
/-- a draw or several -/
def Drew (w w' : World) : Prop := ∃ n, w' = w.drewN n
theorem Drew.refl (w : World) : Drew w w := ⟨0, rfl⟩
theorem Drew.drewN {w w' : World} (h : Drew w w') (n : Nat) : Drew w (w'.drewN n) := by
  obtain ⟨m, rfl⟩ := h
  exact ⟨m + n, by rw [World.drewN_drewN]⟩

def vb (x : UInt8) : Value := .int .u8 (x.toNat : Int)
/-- v is a slice of bytes of the call's own (blocks from B on), that reads as l -/
def Own (w : World) (B : Nat) (v : Value) (l : List UInt8) : Prop := w.ownsRow B 5 1 v l.length (l.map vb)

theorem Own.nil (w : World) (B : Nat) : Own w B (.slice none 0 0) [] := World.ownsRow_nil w B _ _
theorem Own.bs {w : World} {B : Nat} {v : Value} {l : List UInt8} (h : Own w B v l) : Bs w w.heap.size v l := by
  obtain ⟨_, h2⟩ := h
  rcases h2 with ⟨rfl, hn⟩ | ⟨g, cap, cur, rfl, hg, hh, hnc, hcm, hsz, htk⟩
  · have : l = [] := List.eq_nil_of_length_eq_zero hn
    subst this
    exact Bs.nil _ _
  · refine ⟨_, _, rfl, hnc, hcm, fun _ => ⟨g, 0, rfl, (Array.getElem?_eq_some_iff.1 hh).1, fun j hj => ?_⟩⟩
    rw [Nat.zero_add, cell_of_row w g j cur _ _ hh]
    have h1 : (cur.toList.take (l.length * 1))[j]? = (l.map vb)[j]? := by rw [htk]
    rw [List.getElem?_take, if_pos (by omega)] at h1
    simpa [vb, hj] using h1
theorem Own.drewN {w : World} {B : Nat} {v : Value} {l : List UInt8} (h : Own w B v l) (n : Nat) : Own (w.drewN n) B v l := h
theorem Own.more {w : World} {B B' : Nat} {v : Value} {l : List UInt8} (h : Own w B v l) (hB : B' ≤ B) : Own w B' v l := by
  obtain ⟨h1, h2⟩ := h
  refine ⟨h1, ?_⟩
  rcases h2 with h2 | ⟨g, cap, cur, hv, hg, r⟩
  · exact .inl h2
  · exact .inr ⟨g, cap, cur, hv, by omega, r⟩
/-- what is owned stays owned where nothing below the heap's end turns -/
theorem Own.below {w w' : World} {B : Nat} {v : Value} {l : List UInt8} (h : Own w B v l) {B' : Nat} (hb : Below B' w w') (hB : w.heap.size ≤ B') : Own w' B v l := by
  obtain ⟨h1, h2⟩ := h
  refine ⟨h1, ?_⟩
  rcases h2 with h2 | ⟨g, cap, cur, hv, hg, hh, r⟩
  · exact .inl h2
  · exact .inr ⟨g, cap, cur, hv, hg, (hb.block g (by have := (Array.getElem?_eq_some_iff.1 hh).1; omega)).trans hh, r⟩
theorem Own.of_row {w : World} {B b n : Nat} {l : List UInt8} (h : w.rowIs b 5 n fun j => vb (l.getD j 0)) (hB : B ≤ b) (hn : n ≤ maxLen) (hl : l.length = n) :
    Own w B (.slice (some ⟨b, 0, none⟩) n n) l := by
  subst hl
  obtain ⟨c, hh, hs, hc⟩ := h
  refine ⟨by simp, .inr ⟨b, l.length, c, rfl, hB, hh, Nat.le_refl _, hn, by simpa using hs, ?_⟩⟩
  apply List.ext_getElem?
  intro j
  rw [List.getElem?_take]
  by_cases hj : j < l.length
  · rw [if_pos (by omega)]
    have := hc j hj
    simpa [hj] using this
  · rw [if_neg (by omega)]
    simp [hj]
theorem below_drewN {B : Nat} {a w : World} (h : Below B a w) (n : Nat) : Below B a (w.drewN n) := ⟨h.os, h.tape, h.output, h.size, h.block⟩
theorem Drew.below {w w' : World} (h : Drew w w') (B : Nat) : Below B w w' := by
  obtain ⟨n, rfl⟩ := h
  exact below_drewN (Below.refl _ _) n
/-- v is a slice of slices of bytes that reads as ls, in memory below block B -/
def Rs (w : World) (B : Nat) (v : Value) (ls : List (List UInt8)) : Prop :=
  ∃ A c, v = .slice A ls.length c ∧ ls.length ≤ c ∧ c ≤ maxLen ∧
    (0 < ls.length → ∃ b off, A = some ⟨b, off, none⟩ ∧ b < B ∧ ∀ j (h : j < ls.length), ∃ u, w.cell? ⟨b, off + j, none⟩ = some u ∧ Bs w B u ls[j])
theorem Rs.nil (w : World) (B : Nat) : Rs w B (.slice none 0 0) [] := ⟨none, 0, rfl, Nat.le_refl _, Nat.zero_le _, fun h => absurd h (by simp)⟩
theorem Rs.below {w w' : World} {B B' : Nat} {v : Value} {ls : List (List UInt8)} (h : Rs w B v ls) (hb : Below B' w w') (hB : B ≤ B') : Rs w' B v ls := by
  obtain ⟨A, c, rfl, h1, h2, h3⟩ := h
  refine ⟨A, c, rfl, h1, h2, fun hp => ?_⟩
  obtain ⟨b, off, rfl, hlt, hc⟩ := h3 hp
  refine ⟨b, off, rfl, hlt, fun j hj => ?_⟩
  obtain ⟨u, hu, hbs⟩ := hc j hj
  exact ⟨u, (hb.cell (p := ⟨b, off + j, none⟩) (by show b < B'; omega)).trans hu, hbs.below hb hB⟩
theorem Rs.more {w : World} {B B' : Nat} {v : Value} {ls : List (List UInt8)} (h : Rs w B v ls) (hB : B ≤ B') : Rs w B' v ls := by
  obtain ⟨A, c, rfl, h1, h2, h3⟩ := h
  refine ⟨A, c, rfl, h1, h2, fun hp => ?_⟩
  obtain ⟨b, off, rfl, hlt, hc⟩ := h3 hp
  refine ⟨b, off, rfl, by omega, fun j hj => ?_⟩
  obtain ⟨u, hu, hbs⟩ := hc j hj
  exact ⟨u, hu, hbs.more hB⟩
theorem Rs.drewN {w : World} {B : Nat} {v : Value} {ls : List (List UInt8)} (h : Rs w B v ls) (n : Nat) : Rs (w.drewN n) B v ls := h
theorem Own.of_cells {w : World} {B g : Nat} {l : List UInt8} {cs : List Value} (hh : w.heap[g]? = some (.cells cs.toArray 5 (0, 0))) (hB : B ≤ g) (hl : l.length ≤ maxLen) (hc : cs = l.map vb) :
    Own w B (.slice (some ⟨g, 0, none⟩) l.length l.length) l := by
  subst hc
  exact ⟨by simp, .inr ⟨g, l.length, _, rfl, hB, hh, Nat.le_refl _, hl, by simp, by simp [List.take_of_length_le]⟩⟩
theorem vb_one (l : List UInt8) : ∀ u ∈ l.map vb, u.oneCell' = true := by
  intro u hu
  obtain ⟨x, _, rfl⟩ := List.mem_map.1 hu
  rfl
theorem add_none (b off j : Nat) : (⟨b, off, none⟩ : Addr).add j = ⟨b, off + j, none⟩ := Addr.add_lit _ _ _
theorem splice_end {α : Type} (X Z cs : List α) : splice (X ++ Z) X.length cs = X ++ cs ++ Z.drop cs.length := by
  simp [splice, List.drop_append]
theorem u8elem : Try.prog.elem 24 = 5 := by kernel_rfl
theorem u8slice : Try.prog.underlying 24 = some (.slice (Try.prog.elem 24)) := by rw [u8elem]; exact Try.underlying24
theorem u8sizeOf (W : World) : (sizeOf 5).run Try.prog W = .ok 1 W := by kernel_rfl
/-- v[l:] of bytes, the address under one name -/
theorem cut_l {A : Option Addr} {n c l : Nat} (hl : l ≤ n) (hn : n ≤ c) : ∃ D, (l < n → D = A.map (·.add l)) ∧
    ∀ W, (Instr.slice 24 (.slice A n c) (some (.int .i64 (l : Int))) none none).run Try.prog W = .ok (.slice D (n - l) (c - l)) W := by
  refine ⟨if c = l then A else A.map (·.add (l * 1)), fun h => by rw [if_neg (by omega), Nat.mul_one], fun W => ?_⟩
  rw [run_slice_l _ _ _ _ _ u8slice _ _ (by omega) (by omega), u8elem, u8sizeOf]
  simp [Result.andThen, sliced]
/-- v[l:h] of bytes -/
theorem cut_lh {A : Option Addr} {n c l h : Nat} (hl : l ≤ h) (hn : h ≤ c) : ∃ D, (l < h → D = A.map (·.add l)) ∧
    ∀ W, (Instr.slice 24 (.slice A n c) (some (.int .i64 (l : Int))) (some (.int .i64 (h : Int))) none).run Try.prog W = .ok (.slice D (h - l) (c - l)) W := by
  refine ⟨if c = l then A else A.map (·.add (l * 1)), fun h => by rw [if_neg (by omega), Nat.mul_one], fun W => ?_⟩
  rw [run_slice_lh _ _ _ _ _ u8slice _ _ _ _ (by omega) (by omega) (by omega), u8elem, u8sizeOf]
  simp [Result.andThen, sliced]
/-- v[:h] of bytes -/
theorem cut_h {A : Option Addr} {n c h : Nat} (hn : h ≤ c) : ∃ D, (0 < h → D = A) ∧
    ∀ W, (Instr.slice 24 (.slice A n c) none (some (.int .i64 (h : Int))) none).run Try.prog W = .ok (.slice D h c) W := by
  refine ⟨if c = 0 then A else A.map (·.add (0 * 1)), fun h => by rw [if_neg (by omega)]; cases A <;> simp [Addr.add], fun W => ?_⟩
  rw [run_slice_h _ _ _ _ _ u8slice _ _ (by omega) (by omega), u8elem, u8sizeOf]
  simp [Result.andThen, sliced]
theorem u8size : (Try.prog.info? 5).map (·.size) = some 1 := by kernel_rfl
theorem u8info : (Try.prog.info? 5).map (fun i => (i.zero, i.size, i.bytes)) = some (some (.int .u8 0), 1, 1) := by kernel_rfl

theorem Bs.one (w : World) (x : UInt8) : Bs (w.alloc (.cells #[vb x] 5)) (w.heap.size + 1) (.slice (some ⟨w.heap.size, 0, none⟩) 1 1) [x] :=
  ⟨_, 1, rfl, Nat.le_refl _, by unfold maxLen; omega, fun _ => ⟨_, 0, rfl, by omega, fun j hj => by
    obtain rfl : j = 0 := by simpa using hj
    rw [Nat.zero_add, cell_of_row _ _ 0 #[vb x] 5 (0, 0) (heap_alloc_new w _)]
    rfl⟩⟩

/-- append(v, m...) of bytes, v the call's own, m whatever -/
theorem wpList_app {w : World} {ops : Array Oper} {rest : List Oper} {o : Oper} {a : Act} {Q : Exit → Act → World → Prop} (hgd : o.guard = none) (s x : Operand)
    (ho : o.op = .call { callee := .builtin .append, args := #[s, x], argTypes := #[24, 24] })
    {B B' : Nat} {v u : Value} {l m : List UInt8} (hs : a.eval s = v) (hown : Own w B v l) (hx : a.eval x = u) (hb : Bs w B' u m) (hsum : l.length + m.length ≤ 140737488355328) (hB : B ≤ w.heap.size)
    (h : ∀ v' w', Own w' B v' (l ++ m) → w.grownBy w' v.ownBlock → (v'.ownBlock = v.ownBlock ∨ v'.ownBlock = some w.heap.size) → wpList Try.prog ops Q rest (a.put o.dst v') w') : wpList Try.prog ops Q (o :: rest) a w := by
  obtain ⟨i, hi, hz0, hz1, hz2⟩ := info_parts u8info
  refine wpList_plain hgd fun K hK => ?_
  have key : ∃ v' w', (Builtin.append_ #[24, 24] o.type #[v, u]).run Try.prog w = .ok v' w' ∧ Own w' B v' (l ++ m) ∧ w.grownBy w' v.ownBlock ∧ (v'.ownBlock = v.ownBlock ∨ v'.ownBlock = some w.heap.size) := by
    obtain ⟨A, c, rfl, h1, h2, h3⟩ := hb
    by_cases hm : m.length = 0
    · obtain rfl : m = [] := List.eq_nil_of_length_eq_zero hm
      refine ⟨v, w, ?_, by simpa using hown, World.grownBy.refl w _, .inl rfl⟩
      rcases hown.2 with ⟨rfl, _⟩ | ⟨g, cap, cur, rfl, _, _, hnc, _⟩
      · cases A <;> simp [Builtin.append_, run_underlying Try.underlying24, sizeOf, typeInfo, hi, Builtin.lenOf, Builtin.firstCells, loadCells, loadCellsFrom]
      · cases A <;> simp [Builtin.append_, run_underlying Try.underlying24, sizeOf, typeInfo, hi, Builtin.lenOf, Builtin.firstCells, hnc, storeCells, loadCells, loadCellsFrom]
    · obtain ⟨b, off, rfl, _, hc⟩ := h3 (by omega)
      obtain ⟨v', w', hrun, g1, g2, _, g3⟩ := run_append_own_at (P := Try.prog) w B 24 o.type 5 i (.int .u8 0) 1 1 Try.underlying24 hi hz0 hz1 hz2 rfl (by omega) v l.length (l.map vb) hown
        ⟨b, off, none⟩ m.length c (m.map vb) (by simp) (fun j y hy => by
          rw [List.getElem?_map] at hy
          obtain ⟨z, hz, rfl⟩ := Option.map_eq_some_iff.1 hy
          obtain ⟨hj, rfl⟩ := List.getElem?_eq_some_iff.1 hz
          rw [add_none]; exact hc j hj) (vb_one _) (by unfold maxLen; omega) (by omega) hB
      exact ⟨v', w', hrun, by unfold Own; rw [List.map_append, List.length_append]; exact g1, g2, g3⟩
  obtain ⟨v', w', hrun, g1, g2, g3⟩ := key
  unfold Oper.wp execOp
  simp only [ho, resolve, invoke, builtin, Sem.run_bind, Sem.run_pure, Result.andThen_ok, List.map_toArray, List.map_cons, List.map_nil, hs, hx, hrun]
  exact hK _ _ (h v' w' g1 g2 g3)

theorem own_apart {w : World} {B B' : Nat} {e e' : TypeId} {n n' : Nat} {v u : Value} {xs ys : List Value} (h : w.ownsRow B e 1 v n xs) (h' : w.ownsRow B' e' 1 u n' ys) (hne : e ≠ e') : u.ownBlock = none ∨ u.ownBlock ≠ v.ownBlock := by
  rcases h'.2 with ⟨rfl, _⟩ | ⟨g', cap', cur', rfl, _, hh', _⟩
  · exact .inl rfl
  · right
    rcases h.2 with ⟨rfl, _⟩ | ⟨g, cap, cur, rfl, _, hh, _⟩
    · simp [Value.ownBlock]
    · simp only [Value.ownBlock, ne_eq, Option.some.injEq]
      rintro rfl
      rw [hh] at hh'
      simp only [Option.some.injEq, Obj.cells.injEq] at hh'
      exact hne hh'.2.1
theorem grown_below {B : Nat} {w0 w w' : World} {v : Value} {n : Nat} {e : TypeId} {xs : List Value} (hb : Below B w0 w) (hg : w.grownBy w' v.ownBlock) (hB : B ≤ w.heap.size) (ho : w.ownsRow B e 1 v n xs) : Below B w0 w' :=
  hb.grown hg hB fun k hk => (ho.lt k hk).1

/-- v is a slice of the call's own, whose places are slices of bytes of the call's own -/
def OwnRs (w : World) (B : Nat) (v : Value) (ls : List (List UInt8)) : Prop :=
  ∃ xs, w.ownsRow B 24 1 v ls.length xs ∧ xs.length = ls.length ∧ ∀ (j : Nat) (h : j < xs.length) (h' : j < ls.length), Own w B xs[j] ls[j]
theorem OwnRs.nil (w : World) (B : Nat) : OwnRs w B (.slice none 0 0) [] := ⟨[], World.ownsRow_nil w B _ _, rfl, fun j h => absurd h (by simp)⟩
theorem OwnRs.rs {w : World} {B : Nat} {v : Value} {ls : List (List UInt8)} (h : OwnRs w B v ls) : Rs w w.heap.size v ls := by
  obtain ⟨xs, ho, hx, he⟩ := h
  rcases ho.2 with ⟨rfl, hn⟩ | ⟨g, cap, cur, rfl, hg, hh, hnc, hcm, hsz, htk⟩
  · obtain rfl : ls = [] := List.eq_nil_of_length_eq_zero hn
    exact Rs.nil _ _
  · refine ⟨_, _, rfl, hnc, hcm, fun _ => ⟨g, 0, rfl, (Array.getElem?_eq_some_iff.1 hh).1, fun j hj => ?_⟩⟩
    refine ⟨xs[j]'(by omega), ?_, (he j (by omega) hj).bs⟩
    rw [Nat.zero_add, cell_of_row w g j cur _ _ hh]
    have h1 : (cur.toList.take (ls.length * 1))[j]? = xs[j]? := by rw [htk]
    rw [List.getElem?_take, if_pos (by omega)] at h1
    simpa [show j < xs.length by omega] using h1
theorem Own.kept {w w' : World} {B : Nat} {v : Value} {l : List UInt8} {row : Option Nat} (h : Own w B v l) (hg : w.grownBy w' row) (hne : v.ownBlock = none ∨ v.ownBlock ≠ row) : Own w' B v l := World.ownsRow.kept h hg hne
theorem Own.alloc {w : World} {B : Nat} {v : Value} {l : List UInt8} (h : Own w B v l) (o : Obj) : Own (w.alloc o) B v l := World.ownsRow.alloc h o
theorem OwnRs.below {w w' : World} {B B' : Nat} {v : Value} {ls : List (List UInt8)} (h : OwnRs w B v ls) (hb : Below B' w w') (hB : w.heap.size ≤ B') : OwnRs w' B v ls := by
  obtain ⟨xs, ho, hx, he⟩ := h
  refine ⟨xs, ?_, hx, fun j h h' => (he j h h').below hb hB⟩
  obtain ⟨h1, h2⟩ := ho
  refine ⟨h1, ?_⟩
  rcases h2 with h2 | ⟨g, cap, cur, hv, hg, hh, r⟩
  · exact .inl h2
  · exact .inr ⟨g, cap, cur, hv, hg, (hb.block g (by have := (Array.getElem?_eq_some_iff.1 hh).1; omega)).trans hh, r⟩
theorem u24info : (Try.prog.info? 24).map (fun i => (i.zero, i.size, i.bytes)) = some (some (.slice none 0 0), 1, 24) := by kernel_rfl

/-- append(v, u) of a slice of bytes -/
theorem wpList_appR {w : World} {ops : Array Oper} {rest : List Oper} {o : Oper} {a : Act} {Q : Exit → Act → World → Prop} (hgd : o.guard = none) (s x : Operand)
    (ho : o.op = .call { callee := .builtin .append, args := #[s, x], argTypes := #[41, 41] })
    {B : Nat} {v u : Value} {ls : List (List UInt8)} {m : List UInt8} (hs : a.eval s = v) (hown : OwnRs w B v ls) (ad : Addr) (hx : a.eval x = .slice (some ad) 1 1) (hcell : w.cell? ad = some u) (hu : Own w B u m) (hsum : ls.length + 1 ≤ 4398046511104) (hB : B ≤ w.heap.size)
    (h : ∀ v' w', OwnRs w' B v' (ls ++ [m]) → Below B w w' → wpList Try.prog ops Q rest (a.put o.dst v') w') : wpList Try.prog ops Q (o :: rest) a w := by
  obtain ⟨i, hi, hz0, hz1, hz2⟩ := info_parts u24info
  obtain ⟨xs, ho1, hxl, he⟩ := hown
  refine wpList_append_own w hgd s x 41 ho B 24 i (.slice none 0 0) 1 24 Try.underlying41 hi hz0 hz1 hz2 rfl (by omega) v ls.length xs hs ho1 ad 1 1 [u] hx rfl ?_ ?_ ?_ ?_ hB ?_
  · intro j y hy
    obtain ⟨hj, rfl⟩ := List.getElem?_eq_some_iff.1 hy
    obtain rfl : j = 0 := by simpa using hj
    simpa [Addr.add] using hcell
  · intro y hy
    obtain rfl : y = u := by simpa using hy
    rcases hu.2 with ⟨rfl, _⟩ | ⟨g, cap, cur, rfl, _⟩ <;> rfl
  · unfold maxLen; omega
  · omega
  · intro v' w' hown' hg _
    have hne : ∀ (y : Value) (l : List UInt8), Own w B y l → Own w' B y l := fun y l hy => hy.kept hg (own_apart ho1 hy (by decide))
    refine h v' w' ⟨xs ++ [u], by simpa using hown', by simp [hxl], fun j hj hj' => ?_⟩ (grown_below (Below.refl _ _) hg hB ho1)
    by_cases hlt : j < xs.length
    · rw [List.getElem_append_left hlt, List.getElem_append_left (by omega)]
      exact hne _ _ (he j hlt (by omega))
    · have e1 : (xs ++ [u])[j] = u := by
        have : j = xs.length := by simp at hj; omega
        subst this; simp
      have e2 : (ls ++ [m])[j] = m := by
        have : j = ls.length := by simp at hj; omega
        subst this; simp
      rw [e1, e2]
      exact hne _ _ hu
theorem Own.shape {w : World} {B : Nat} {v : Value} {l : List UInt8} (h : Own w B v l) : ∃ A c, v = .slice A l.length c := by
  obtain ⟨A, c, hv, _⟩ := h.bs
  exact ⟨A, c, hv⟩
theorem Bs.shape {w : World} {B : Nat} {v : Value} {l : List UInt8} (h : Bs w B v l) : ∃ A c, v = .slice A l.length c := by
  obtain ⟨A, c, hv, _⟩ := h
  exact ⟨A, c, hv⟩
theorem OwnRs.shape {w : World} {B : Nat} {v : Value} {ls : List (List UInt8)} (h : OwnRs w B v ls) : ∃ A c, v = .slice A ls.length c := by
  obtain ⟨A, c, hv, _⟩ := h.rs
  exact ⟨A, c, hv⟩
theorem cell_new (w : World) (v : Value) (e : TypeId) : (w.alloc (.cells #[v] e)).cell? ⟨w.heap.size, 0, none⟩ = some v := by
  rw [cell_of_row _ _ 0 #[v] e (0, 0) (heap_alloc_new w _)]; rfl
theorem Drew.cell {w w' : World} (h : Drew w w') {p : Addr} {x : Option Value} (hx : w.cell? p = x) : w'.cell? p = x := by
  obtain ⟨n, rfl⟩ := h
  exact hx
theorem Drew.trans {a b c : World} (h : Drew a b) (k : Drew b c) : Drew a c := by
  obtain ⟨n, rfl⟩ := h
  obtain ⟨m, rfl⟩ := k
  exact ⟨n + m, by rw [World.drewN_drewN]⟩
theorem Drew.bs {w w' : World} (h : Drew w w') {B : Nat} {v : Value} {l : List UInt8} (hb : Bs w B v l) : Bs w' B v l := by
  obtain ⟨n, rfl⟩ := h
  exact hb
theorem Drew.rs {w w' : World} (h : Drew w w') {B : Nat} {v : Value} {l : List (List UInt8)} (hb : Rs w B v l) : Rs w' B v l := by
  obtain ⟨n, rfl⟩ := h
  exact hb
theorem Drew.own {w w' : World} (h : Drew w w') {B : Nat} {v : Value} {l : List UInt8} (hb : Own w B v l) : Own w' B v l := by
  obtain ⟨n, rfl⟩ := h
  exact hb
theorem Drew.quiet {P : Program} {f : FuncId} {args : Array Value} {w : World} {n : Nat} {v : Value} (h : Calls P f args (w.drewN n) fun e w' => e = .returned v ∧ Drew (w.drewN n) w') :
    Calls P f args (w.drewN n) fun e w'' => e = .returned v ∧ ∃ m, w'' = w.drewN m := Calls.quiet_of h
theorem Bs.lit (w : World) (l : List UInt8) (hl : l.length ≤ maxLen) : Bs (w.alloc (.cells (l.map vb).toArray 5)) (w.heap.size + 1) (.slice (some ⟨w.heap.size, 0, none⟩) l.length l.length) l :=
  ⟨_, _, rfl, Nat.le_refl _, hl, fun _ => ⟨_, 0, rfl, by omega, fun j hj => by
    rw [Nat.zero_add, cell_of_row _ _ j _ 5 (0, 0) (heap_alloc_new w _)]
    simp [vb, hj]⟩⟩
theorem Bs.alloc {w : World} {B : Nat} {v : Value} {l : List UInt8} (h : Bs w B v l) (hB : B ≤ w.heap.size) (o : Obj) : Bs (w.alloc o) B v l := h.below ((Below.refl _ _).alloc (Nat.le_refl _) o) hB
theorem Rs.alloc {w : World} {B : Nat} {v : Value} {l : List (List UInt8)} (h : Rs w B v l) (hB : B ≤ w.heap.size) (o : Obj) : Rs (w.alloc o) B v l := h.below ((Below.refl _ _).alloc (Nat.le_refl _) o) hB
theorem Rs.lit (w : World) (us : List Value) (ls : List (List UInt8)) (hn : us.length = ls.length) (hl : ls.length ≤ maxLen) (h : ∀ (j : Nat) (h : j < us.length) (h' : j < ls.length), Bs w w.heap.size us[j] ls[j]) :
    Rs (w.alloc (.cells us.toArray 24)) (w.heap.size + 1) (.slice (some ⟨w.heap.size, 0, none⟩) ls.length ls.length) ls :=
  ⟨_, _, rfl, Nat.le_refl _, hl, fun _ => ⟨_, 0, rfl, by omega, fun j hj => ⟨us[j], by
    rw [Nat.zero_add, cell_of_row _ _ j _ 24 (0, 0) (heap_alloc_new w _)]
    simp [show j < us.length by omega], ((h j (by omega) hj).alloc (Nat.le_refl _) _).more (by omega)⟩⟩⟩
end Go.Proofs.Ytpimklpkjinhiaa
