/- field's Power. -/
import Derived.Test.YtgkglielcbgpiaaF7
import Derived.RangeFuncNested
import Derived.RangeFuncBound
import Derived.RangeFuncCalls
import Derived.RangeFuncFrom
import Derived.Shelf.RegionOpen
namespace Go.Proofs.Ytgkglielcbgpiaa
open Go.RowKit Go.Shelf

attribute [local go_sem] Oper.semAt_some

set_option maxRecDepth 100000 in
set_option maxHeartbeats 4000000 in
theorem ofE (n : Nat) (hn : n < 18446744073709551616) (w : World) : Calls Try.prog 12 #[.int .u64 (n : Int)] w fun e w' => e = .returned (.agg #[.int .u64 (l0 (n) : Int), .int .u64 (l1 (n) : Int), .int .u64 (l2 (n) : Int), .int .u64 (l3 (n) : Int)]) ∧ Below w.heap.size w w' := by
  have e0 : l0 n = n := Nat.mod_eq_of_lt hn
  have e1 : l1 n = 0 := by unfold l1; omega
  have e2 : l2 n = 0 := by unfold l2; omega
  have e3 : l3 n = 0 := by unfold l3; omega
  rw [e0, e1, e2, e3]
  clear e0 e1 e2 e3 hn
  go_enter Try.func12, Try.ntmps12
  go_wp2_with fail
  refine bodyPost_ret (v := .agg #[.int .u64 (n : Int), .int .u64 ((0 : Nat) : Int), .int .u64 ((0 : Nat) : Int), .int .u64 ((0 : Nat) : Int)]) (by simp [results, Try.results12, go_sem]) rfl ⟨rfl, ?_⟩
  exact (Below.refl _ _).alloc (Nat.le_refl _) _

theorem of1 (w : World) : Calls Try.prog 12 #[.int .u64 1] w fun e w' => e = .returned (.agg #[.int .u64 (l0 (1) : Int), .int .u64 (l1 (1) : Int), .int .u64 (l2 (1) : Int), .int .u64 (l3 (1) : Int)]) ∧ Below w.heap.size w w' := ofE 1 (by omega) w
theorem bit_val (n b : Nat) (hn : n < 256) : bits .and .u8 ((n : Int) / 2 ^ b) 1 = ((n / 2 ^ b % 2 : Nat) : Int) := by
  have hd : n / 2 ^ b < 256 := Nat.lt_of_le_of_lt (Nat.div_le_self _ _) hn
  have h := u8_and_nat (n / 2 ^ b) 1 hd (by omega)
  rw [Nat.and_one_is_mod] at h
  rw [← h]
  congr 1
/-- one bit of the exponent -/
def bitN (x : UInt8) (b : Nat) : Nat := x.toNat / 2 ^ b % 2
def stepP (A : Nat) (x : UInt8) (R b : Nat) : Nat := if bitN x b = 1 then tmN (tmN (R * R) * A) else tmN (R * R)
/-- after k bits of a byte, the highest first -/
def byteP (A : Nat) (x : UInt8) (R : Nat) : Nat → Nat
  | 0 => R
  | k + 1 => stepP A x (byteP A x R k) (7 - k)
def powL (A : Nat) (xs : List (Nat × UInt8)) : Nat := xs.foldl (fun R x => byteP A x.2 R 8) 1
theorem stepP_lt {A R : Nat} (hA : A < W4) (hR : R < W4) (x : UInt8) (b : Nat) : stepP A x R b < W4 := by
  unfold stepP
  split
  · exact tmN_lt (tmN_lt hR hR) hA
  · exact tmN_lt hR hR
theorem byteP_lt {A R : Nat} (hA : A < W4) (hR : R < W4) (x : UInt8) : ∀ k, byteP A x R k < W4
  | 0 => hR
  | k + 1 => stepP_lt hA (byteP_lt hA hR x k) x _
/-- the number of bytes, the least significant one first -/
def numL : List UInt8 → Nat
  | [] => 0
  | x :: l => x.toNat + 256 * numL l
theorem tm_sq {R V e : Nat} (h : R % PP = V ^ e % PP) : tmN (R * R) % PP = V ^ (2 * e) % PP := by
  rw [tmN_mod, Nat.mul_mod, h, ← Nat.mul_mod, ← Nat.pow_add, Nat.two_mul]
theorem tm_mul {R V e : Nat} (h : R % PP = V ^ e % PP) : tmN (R * V) % PP = V ^ (e + 1) % PP := by
  rw [tmN_mod, Nat.mul_mod, h, ← Nat.mul_mod, ← Nat.pow_succ]
theorem stepP_mod {R V e : Nat} (h : R % PP = V ^ e % PP) (x : UInt8) (b : Nat) : stepP V x R b % PP = V ^ (2 * e + bitN x b) % PP := by
  unfold stepP
  have hb : bitN x b = 0 ∨ bitN x b = 1 := by unfold bitN; omega
  rcases hb with hb | hb
  · rw [if_neg (by omega), hb, Nat.add_zero]
    exact tm_sq h
  · rw [if_pos hb, hb]
    exact tm_mul (tm_sq h)
theorem byte_bits (x : UInt8) (k : Nat) (hk : k < 8) : x.toNat / 2 ^ (8 - (k + 1)) = 2 * (x.toNat / 2 ^ (8 - k)) + bitN x (7 - k) := by
  have e : 8 - k = (7 - k) + 1 := by omega
  have e2 : 8 - (k + 1) = 7 - k := by omega
  unfold bitN
  rw [e, e2, Nat.pow_succ, ← Nat.div_div_eq_div_mul]
  omega
theorem byteP_mod {R V e : Nat} (h : R % PP = V ^ e % PP) (x : UInt8) : ∀ k, k ≤ 8 → byteP V x R k % PP = V ^ (2 ^ k * e + x.toNat / 2 ^ (8 - k)) % PP
  | 0, _ => by
    have : x.toNat / 2 ^ 8 = 0 := Nat.div_eq_of_lt x.toNat_lt
    rw [byteP, Nat.pow_zero, Nat.one_mul, Nat.sub_zero, this, Nat.add_zero]
    exact h
  | k + 1, hk => by
    rw [byteP, stepP_mod (byteP_mod h x k (by omega)) x (7 - k), byte_bits x k (by omega)]
    congr 2
    have e1 : 2 ^ (k + 1) * e = 2 * (2 ^ k * e) := by rw [Nat.pow_succ, Nat.mul_comm (2 ^ k) 2, Nat.mul_assoc]
    rw [e1]
    omega
theorem powL_rev (V : Nat) : ∀ (xs : List (Nat × UInt8)), powL V xs % PP = V ^ numL (xs.reverse.map (·.2)) % PP := by
  intro xs
  have key : ∀ ys : List (Nat × UInt8), (ys.foldr (fun x R => byteP V x.2 R 8) 1) % PP = V ^ numL (ys.map (·.2)) % PP := by
    intro ys
    induction ys with
    | nil => rfl
    | cons y ys ih =>
      rw [List.foldr_cons, byteP_mod ih y.2 8 (Nat.le_refl _), List.map_cons, numL]
      congr 2
      show 256 * _ + y.2.toNat / 1 = _
      rw [Nat.div_one, Nat.add_comm]
  have h := key xs.reverse
  rw [List.foldr_reverse] at h
  exact h
theorem backAll_bytes (l : List UInt8) : (backAll l).reverse.map (·.2) = l := by
  unfold backAll
  rw [List.reverse_reverse, List.map_map]
  apply List.ext_getElem
  · simp
  · intro i h1 h2
    simp [h2]
theorem powL_all (V : Nat) (l : List UInt8) : powL V (backAll l) % PP = V ^ numL l % PP := by rw [powL_rev, backAll_bytes]
theorem powL_snoc (A : Nat) (xs : List (Nat × UInt8)) (x : Nat × UInt8) : powL A (xs ++ [x]) = byteP A x.2 (powL A xs) 8 := by simp [powL]
theorem powL_lt {A : Nat} (hA : A < W4) (xs : List (Nat × UInt8)) : powL A xs < W4 := by
  unfold powL
  rw [← List.foldr_reverse]
  induction xs.reverse with
  | nil => exact (by decide : 1 < W4)
  | cons x xs ih => exact byteP_lt hA ih x.2 8
theorem Ec.kept {X Y : World} {row : Option Nat} {g V : Nat} (h : Ec X g V) (hg : X.grownBy Y row) (hr : ∀ r, row = some r → ∃ o : Obj, X.heap[r]? = some o ∧ o.isCells = false) : Ec Y g V :=
  ⟨cell_kept h.c0 hg hr, cell_kept h.c1 hg hr, cell_kept h.c2 hg hr, cell_kept h.c3 hg hr, (frozen_kept h.c0 hg hr).trans h.f0, (frozen_kept h.c1 hg hr).trans h.f1, (frozen_kept h.c2 hg hr).trans h.f2, (frozen_kept h.c3 hg hr).trans h.f3⟩
theorem Ez.kept {X Y : World} {row : Option Nat} {g : Nat} (h : Ez X g) (hg : X.grownBy Y row) (hr : ∀ r, row = some r → ∃ o : Obj, X.heap[r]? = some o ∧ o.isCells = false) : Ez Y g :=
  ⟨cell_kept h.c0 hg hr, cell_kept h.c1 hg hr, cell_kept h.c2 hg hr, cell_kept h.c3 hg hr, (frozen_kept h.c0 hg hr).trans h.f0, (frozen_kept h.c1 hg hr).trans h.f1, (frozen_kept h.c2 hg hr).trans h.f2, (frozen_kept h.c3 hg hr).trans h.f3⟩
theorem keeps_below {W W' : World} (h : Below W.heap.size W W') : KeepsOthers W W' := ⟨h.size, fun k _ hk _ => (h.block k (Array.getElem?_eq_some_iff.1 hk).1).trans hk⟩
theorem Ec.new (w : World) (V : Nat) : Ec (w.alloc (.cells #[.int .u64 (l0 (V) : Int), .int .u64 (l1 (V) : Int), .int .u64 (l2 (V) : Int), .int .u64 (l3 (V) : Int)] 26)) w.heap.size V := by
  constructor <;> simp [go_sem]

theorem set4_ec {X : World} {g V0 : Nat} (h : Ec X g V0) (V : Nat) : Ec (((((X).setCell ⟨g, 0, none⟩ (.int .u64 (l0 (V) : Int))).setCell ⟨g, 1, none⟩ (.int .u64 (l1 (V) : Int))).setCell ⟨g, 2, none⟩ (.int .u64 (l2 (V) : Int))).setCell ⟨g, 3, none⟩ (.int .u64 (l3 (V) : Int))) g V := by
  obtain ⟨c0, c1, c2, c3, f0, f1, f2, f3⟩ := h
  constructor <;> simp [go_sem, *]
theorem set4_ez {X : World} {g : Nat} (h : Ez X g) (V : Nat) : Ec (((((X).setCell ⟨g, 0, none⟩ (.int .u64 (l0 (V) : Int))).setCell ⟨g, 1, none⟩ (.int .u64 (l1 (V) : Int))).setCell ⟨g, 2, none⟩ (.int .u64 (l2 (V) : Int))).setCell ⟨g, 3, none⟩ (.int .u64 (l3 (V) : Int))) g V := by
  obtain ⟨c0, c1, c2, c3, f0, f1, f2, f3⟩ := h
  constructor <;> simp [go_sem, *]
theorem set4_keeps (X : World) (g V : Nat) : KeepsOthers X (((((X).setCell ⟨g, 0, none⟩ (.int .u64 (l0 (V) : Int))).setCell ⟨g, 1, none⟩ (.int .u64 (l1 (V) : Int))).setCell ⟨g, 2, none⟩ (.int .u64 (l2 (V) : Int))).setCell ⟨g, 3, none⟩ (.int .u64 (l3 (V) : Int))) := (((KeepsOthers.setCell _ _ _).trans (KeepsOthers.setCell _ _ _)).trans (KeepsOthers.setCell _ _ _)).trans (KeepsOthers.setCell _ _ _)
theorem set4_cell {X : World} {g V : Nat} {p : Addr} (hp : p.block ≠ g) : (((((X).setCell ⟨g, 0, none⟩ (.int .u64 (l0 (V) : Int))).setCell ⟨g, 1, none⟩ (.int .u64 (l1 (V) : Int))).setCell ⟨g, 2, none⟩ (.int .u64 (l2 (V) : Int))).setCell ⟨g, 3, none⟩ (.int .u64 (l3 (V) : Int))).cell? p = X.cell? p := by
  have h : ∀ (Y : World) (i : Nat) (u : Value), (Y.setCell ⟨g, i, none⟩ u).cell? p = Y.cell? p := fun Y i u => World.cell?_setCell_far Y ⟨g, i, none⟩ p u (by show g ≠ p.block; exact fun e => hp e.symm)
  rw [h, h, h, h]
theorem set4_frozen {X : World} {g V : Nat} {p : Addr} : (((((X).setCell ⟨g, 0, none⟩ (.int .u64 (l0 (V) : Int))).setCell ⟨g, 1, none⟩ (.int .u64 (l1 (V) : Int))).setCell ⟨g, 2, none⟩ (.int .u64 (l2 (V) : Int))).setCell ⟨g, 3, none⟩ (.int .u64 (l3 (V) : Int))).frozen? p = X.frozen? p := by
  rw [World.frozen?_setCell, World.frozen?_setCell, World.frozen?_setCell, World.frozen?_setCell]
theorem Ec.far {X : World} {g h V U : Nat} (k : Ec X h U) (hn : h ≠ g) : Ec (((((X).setCell ⟨g, 0, none⟩ (.int .u64 (l0 (V) : Int))).setCell ⟨g, 1, none⟩ (.int .u64 (l1 (V) : Int))).setCell ⟨g, 2, none⟩ (.int .u64 (l2 (V) : Int))).setCell ⟨g, 3, none⟩ (.int .u64 (l3 (V) : Int))) h U :=
  ⟨(set4_cell hn).trans k.c0, (set4_cell hn).trans k.c1, (set4_cell hn).trans k.c2, (set4_cell hn).trans k.c3, set4_frozen.trans k.f0, set4_frozen.trans k.f1, set4_frozen.trans k.f2, set4_frozen.trans k.f3⟩
theorem Ez.far {X : World} {g h V : Nat} (k : Ez X h) (hn : h ≠ g) : Ez (((((X).setCell ⟨g, 0, none⟩ (.int .u64 (l0 (V) : Int))).setCell ⟨g, 1, none⟩ (.int .u64 (l1 (V) : Int))).setCell ⟨g, 2, none⟩ (.int .u64 (l2 (V) : Int))).setCell ⟨g, 3, none⟩ (.int .u64 (l3 (V) : Int))) h :=
  ⟨(set4_cell hn).trans k.c0, (set4_cell hn).trans k.c1, (set4_cell hn).trans k.c2, (set4_cell hn).trans k.c3, set4_frozen.trans k.f0, set4_frozen.trans k.f1, set4_frozen.trans k.f2, set4_frozen.trans k.f3⟩
/-- what lies about while a power is reckoned -/
structure PwI (w : World) (g5 V : Nat) (v : Value) (X : World) (R : Nat) : Prop where
  a : Ec X w.heap.size V
  z : Ez X (w.heap.size + 1)
  r : Ec X g5 R
  bx : X.cell? ⟨g5 + 1, 0, none⟩ = some v
  b : Below w.heap.size w X
  s : g5 + 1 < X.heap.size
theorem PwI.kept {w : World} {g5 V R : Nat} {v : Value} {X Y : World} {row : Option Nat} (h : PwI w g5 V v X R) (hg : X.grownBy Y row) (hr : ∀ r, row = some r → w.heap.size ≤ r ∧ ∃ o : Obj, X.heap[r]? = some o ∧ o.isCells = false) : PwI w g5 V v Y R :=
  ⟨h.a.kept hg fun r e => (hr r e).2, h.z.kept hg fun r e => (hr r e).2, h.r.kept hg fun r e => (hr r e).2, cell_kept h.bx hg fun r e => (hr r e).2,
   h.b.grown hg h.b.size fun r e => (hr r e).1, Nat.lt_of_lt_of_le h.s hg.size⟩
/-- .. from the round's start on -/
structure PwR (w : World) (g5 : Nat) (X Y : World) : Prop where
  k : KeepsOthers X Y
  b : KpB w.heap.size (g5 + 1) X Y
theorem PwI.step {w : World} {g5 V R : Nat} {v : Value} {X Y : World} (h : PwI w g5 V v X R) (hg : w.heap.size + 1 < g5) (hb : Below X.heap.size X Y) (R' : Nat) : PwI w g5 V v (((((Y).setCell ⟨g5, 0, none⟩ (.int .u64 (l0 (R') : Int))).setCell ⟨g5, 1, none⟩ (.int .u64 (l1 (R') : Int))).setCell ⟨g5, 2, none⟩ (.int .u64 (l2 (R') : Int))).setCell ⟨g5, 3, none⟩ (.int .u64 (l3 (R') : Int))) R' ∧ PwR w g5 X (((((Y).setCell ⟨g5, 0, none⟩ (.int .u64 (l0 (R') : Int))).setCell ⟨g5, 1, none⟩ (.int .u64 (l1 (R') : Int))).setCell ⟨g5, 2, none⟩ (.int .u64 (l2 (R') : Int))).setCell ⟨g5, 3, none⟩ (.int .u64 (l3 (R') : Int))) := by
  have hs := h.s
  have hw : w.heap.size ≤ X.heap.size := h.b.size
  refine ⟨⟨(h.a.below hb (by omega)).far (by omega), (h.z.below hb (by omega)).far (by omega), set4_ec (h.r.below hb (by omega)) R', ?_, set4_below (h.b.trans (hb.mono hw)) (by omega) _ _ _ _, ?_⟩, ?_, set4_below (hb.mono hw) (by omega) _ _ _ _, ?_⟩
  · rw [set4_cell (by show g5 + 1 ≠ g5; omega), hb.cell (p := ⟨g5 + 1, 0, none⟩) hs]
    exact h.bx
  · have := (set4_below (Below.refl 0 Y) (Nat.zero_le g5) (.int .u64 (l0 R' : Int)) (.int .u64 (l1 R' : Int)) (.int .u64 (l2 R' : Int)) (.int .u64 (l3 R' : Int))).size
    have := hb.size
    omega
  · exact (keeps_below hb).trans ((((KeepsOthers.setCell _ _ _).trans (KeepsOthers.setCell _ _ _)).trans (KeepsOthers.setCell _ _ _)).trans (KeepsOthers.setCell _ _ _))
  · rw [set4_cell (by show g5 + 1 ≠ g5; omega), hb.cell (p := ⟨g5 + 1, 0, none⟩) hs]
theorem PwR.trans {w : World} {g5 : Nat} {X Y Z : World} (h : PwR w g5 X Y) (k : PwR w g5 Y Z) : PwR w g5 X Z := ⟨h.k.trans k.k, h.b.trans k.b⟩
theorem PwR.refl (w : World) (g5 : Nat) (X : World) : PwR w g5 X X := ⟨KeepsOthers.refl _, KpB.refl _ _ _⟩

set_option maxRecDepth 100000 in
set_option maxHeartbeats 4000000 in
theorem powerE {V : Nat} (hV : V < W4) {l : List UInt8} {v : Value} {w : World} (hb : Bs w w.heap.size v l) : Calls Try.prog 28 #[.agg #[.int .u64 (l0 (V) : Int), .int .u64 (l1 (V) : Int), .int .u64 (l2 (V) : Int), .int .u64 (l3 (V) : Int)], v] w fun e w' => e = .returned (.agg #[.int .u64 (l0 (powL V (backAll l) % PP) : Int), .int .u64 (l1 (powL V (backAll l) % PP) : Int), .int .u64 (l2 (powL V (backAll l) % PP) : Int), .int .u64 (l3 (powL V (backAll l) % PP) : Int)]) ∧ Below w.heap.size w w' := by
  obtain ⟨AA, c, rfl⟩ := hb.shape
  refine (callsIn_wide (n := 9)).1 ?_
  refine callsIn_of_wp_marks Try.func28 rfl trivial ?_ rfl
  simp only [Try.ntmps28, List.size_toArray, List.length_cons, List.length_nil, Nat.reduceAdd, Nat.reduceSub, Array.replicate_succ, Array.replicate_zero, List.push_toArray, List.append_toArray, List.nil_append, List.cons_append]
  have C1 := Lib.hid (fun W => of1 W)
  have C2 := Lib.hid (fun W => back_in Fence.wide 8 trivial rfl AA l.length c W)
  have HB := Lib.hid hb
  clear hb
  gi_wp2
  refine ⟨trivial, (callsIn_wide.2 (C1.out _)).mono ?_⟩
  rintro e w1 ⟨rfl, hb1⟩
  have B1 := Lib.hid hb1
  obtain ⟨hc1, hf1⟩ := bcell hb1
  have z1 : w.heap.size + 1 < w1.heap.size := by have := hb1.size; simp at this; omega
  have z2 : w.heap.size < w1.heap.size := by omega
  clear hb1 C1
  gi_wp2
  refine ⟨trivial, (C2.out _).mono ?_⟩
  rintro e w2 ⟨rfl, rfl⟩
  have hEA : Ec ((w1.alloc (.cells #[.int .u64 (l0 (1) : Int), .int .u64 (l1 (1) : Int), .int .u64 (l2 (1) : Int), .int .u64 (l3 (1) : Int)] 26)).alloc (.cells #[.slice AA l.length c] 47)) w.heap.size V := by
    constructor <;> simp [go_sem, *]
  have hEZ : Ez ((w1.alloc (.cells #[.int .u64 (l0 (1) : Int), .int .u64 (l1 (1) : Int), .int .u64 (l2 (1) : Int), .int .u64 (l3 (1) : Int)] 26)).alloc (.cells #[.slice AA l.length c] 47)) (w.heap.size + 1) := by
    constructor <;> simp [go_sem, *]
  have hE1 : Ec ((w1.alloc (.cells #[.int .u64 (l0 (1) : Int), .int .u64 (l1 (1) : Int), .int .u64 (l2 (1) : Int), .int .u64 (l3 (1) : Int)] 26)).alloc (.cells #[.slice AA l.length c] 47)) w1.heap.size 1 := by
    constructor <;> simp [go_sem]
  have hBo : ((w1.alloc (.cells #[.int .u64 (l0 (1) : Int), .int .u64 (l1 (1) : Int), .int .u64 (l2 (1) : Int), .int .u64 (l3 (1) : Int)] 26)).alloc (.cells #[.slice AA l.length c] 47)).cell? ⟨w1.heap.size + 1, 0, none⟩ = some (.slice AA l.length c) := by
    simp [go_sem]
  have hBe : Below w.heap.size w ((w1.alloc (.cells #[.int .u64 (l0 (1) : Int), .int .u64 (l1 (1) : Int), .int .u64 (l2 (1) : Int), .int .u64 (l3 (1) : Int)] 26)).alloc (.cells #[.slice AA l.length c] 47)) := by
    have b1 := B1.out
    simp only [World.size_alloc] at b1
    exact ((((Below.refl w.heap.size w).alloc (Nat.le_refl _) _).alloc (by simp) _).trans (b1.mono (by omega)) |>.alloc (by omega) _).alloc (by simp; omega) _
  obtain ⟨W0, hW0⟩ : ∃ W0, W0 = ((w1.alloc (.cells #[.int .u64 (l0 (1) : Int), .int .u64 (l1 (1) : Int), .int .u64 (l2 (1) : Int), .int .u64 (l3 (1) : Int)] 26)).alloc (.cells #[.slice AA l.length c] 47)) := ⟨_, rfl⟩
  have hs0 : W0.heap.size = w1.heap.size + 2 := by rw [hW0]; simp
  rw [← hW0] at hEA hEZ hE1 hBo hBe ⊢
  simp only [World.size_alloc]
  obtain ⟨g5, hg5⟩ : ∃ g5, w1.heap.size = g5 := ⟨_, rfl⟩
  rw [hg5] at hE1 hBo hs0 z1 z2 ⊢
  clear hc1 hf1 C2 B1 hW0 hg5
  have hI0 : PwI w g5 V (.slice AA l.length c) W0 1 := ⟨hEA, hEZ, hE1, hBo, hBe, by omega⟩
  have HI0 := Lib.hid hI0
  have HS0 := Lib.hid hs0
  have C3 := Lib.hid (fun R => fun (h : R < W4) W => timesE h h W)
  have C4 := Lib.hid (fun R => fun (h : R < W4) W => timesE h hV W)
  have C5 := Lib.hid (fun R => fun (h : R < W4) W => normE h W)
  have HV := Lib.hid hV
  clear hV hEA hEZ hE1 hs0
  gi_wp2
  refine wpIn_rangeFunc_ownF rfl (by omega) (gf := 70) (lb := #[.pointer (some ⟨g5 + 1, 0, none⟩)]) rfl trivial (enters_of Try.func70 (by kernel_rfl) rfl)
    (back_stops Fence.wide 8 trivial rfl (by omega) (g5 + 1) w.heap.size (.slice AA l.length c) l W0 (by have := HS0.out; omega) (by have := HS0.out; omega) hBo (HB.out.below hBe (Nat.le_refl _)))
    (fun h k => KpB.trans h k) (fun W l' o o' hl _ _ _ => KpB.put (by have := HS0.out; omega) (by have := HS0.out; omega) W l' o' hl) (Below.refl _ _) (fun _ => rfl)
    (fun pre W => PwI w g5 V (.slice AA l.length c) W (powL V pre)) (fun _ _ _ => False)
    (fun s X Y row hs hg hr => hs.kept hg (fun r e => ⟨by have := (hr r e).1; have := HS0.out; omega, (hr r e).2⟩)) (fun _ _ _ _ _ hs _ _ => hs) HI0.out
    (fun x => { tmps := #[.agg #[.int .u64 (l0 (V) : Int), .int .u64 (l1 (V) : Int), .int .u64 (l2 (V) : Int), .int .u64 (l3 (V) : Int)], .slice AA l.length c, .pointer (some ⟨w.heap.size, 0, none⟩), undef, .pointer (some ⟨w.heap.size + 1, 0, none⟩), .pointer (some ⟨g5, 0, none⟩), undef, .int .u8 (x.2.toNat : Int), undef, .agg #[.int .u64 (l0 (1) : Int), .int .u64 (l1 (1) : Int), .int .u64 (l2 (1) : Int), .int .u64 (l3 (1) : Int)], .slice AA l.length c, .func (.func 70) #[] #[.pointer (some ⟨g5 + 1, 0, none⟩)],
      .int .i64 (x.1 : Int), .int .u8 (x.2.toNat : Int), undef, undef, undef, undef, undef, undef, undef, undef, undef, undef, undef, undef, undef, undef, undef, undef, undef], defers := [] }) ?assign ?body ?done ?stop
  case assign =>
    intro l' x W K hK
    simp only [encB]
    gi_wp2
    exact hK
  case body =>
    rintro l' pre x W hI _
    have HI := Lib.hid hI
    have HBo := Lib.hid hBo
    have HBe := Lib.hid hBe
    obtain ⟨R, hR⟩ : ∃ R, R = powL V pre := ⟨_, rfl⟩
    have HRW : Hid (R < W4) := Lib.hid (by rw [hR]; exact powL_lt HV.out pre)
    rw [← hR] at HI
    have HR := Lib.hid hR
    clear hI hR hBo hBe
    gi_wp2
    gi_loopw [8] (fun t8 wr => ∃ k : Nat, k ≤ 8 ∧ t8 = .int .i64 (7 - (k : Int)) ∧ PwI w g5 V (.slice AA l.length c) wr (byteP V x.2 R k) ∧ PwR w g5 W wr) (fun t8 _ => (intOf t8 + 1).toNat)
    case atStart => exact ⟨0, by omega, rfl, HI.out, PwR.refl _ _ _⟩
    case round =>
      obtain ⟨k, hk, rfl, hP, hQ⟩ := hrel
      have HP := Lib.hid hP
      have HQ := Lib.hid hQ
      clear hP hQ
      by_cases hlt : k < 8
      · obtain ⟨c0, c1, c2, c3, f0, f1, f2, f3⟩ := HP.out.r
        have HRk := Lib.hid (byteP_lt HV.out HRW.out x.2 k)
        obtain ⟨Rk, hRk⟩ : ∃ Rk, Rk = byteP V x.2 R k := ⟨_, rfl⟩
        rw [← hRk] at HRk HP c0 c1 c2 c3
        have HRK := Lib.hid hRk
        clear hRk
        have zs : g5 < wr.heap.size := by have := HP.out.s; omega
        have zs2 : w.heap.size < wr.heap.size := by omega
        have hbv : bits .and .u8 ((x.2.toNat : Int) / 2 ^ (7 - k)) 1 = ((bitN x.2 (7 - k) : Nat) : Int) := bit_val _ _ x.2.toNat_lt
        by_cases hbit : bitN x.2 (7 - k) = 1
        · have hst : byteP V x.2 R (k + 1) = tmN (tmN (Rk * Rk) * V) := by rw [byteP, stepP, if_pos hbit, ← HRK.out]
          have HST := Lib.hid hst
          have hb : (bits .and .u8 ((x.2.toNat : Int) / 2 ^ (7 - k)) 1 == 1) = true := by rw [hbv, hbit]; rfl
          obtain ⟨d0, d1, d2, d3, _, _, _, _⟩ := HP.out.a
          clear hst hbit hbv
          gi_wp2
          refine ⟨trivial, (callsIn_wide.2 (C3.out _ HRk.out _)).inRound l' |>.mono ?_⟩
          rintro e w2 ⟨rfl, hb2⟩
          have ST := Lib.hid (HP.out.step z1 hb2 (tmN (Rk * Rk)))
          obtain ⟨hc2, hf2⟩ := bcell hb2
          clear hb2
          gi_wp2
          refine ⟨trivial, (callsIn_wide.2 (C4.out _ (tmN_lt HRk.out HRk.out) _)).inRound l' |>.mono ?_⟩
          rintro e w3 ⟨rfl, hb3⟩
          obtain ⟨W2, hW2⟩ : ∃ W2, W2 = ((((w2).setCell ⟨g5, 0, none⟩ (.int .u64 (l0 (tmN (Rk * Rk)) : Int))).setCell ⟨g5, 1, none⟩ (.int .u64 (l1 (tmN (Rk * Rk)) : Int))).setCell ⟨g5, 2, none⟩ (.int .u64 (l2 (tmN (Rk * Rk)) : Int))).setCell ⟨g5, 3, none⟩ (.int .u64 (l3 (tmN (Rk * Rk)) : Int)) := ⟨_, rfl⟩
          rw [← hW2] at ST hb3
          have ST2 := Lib.hid (ST.out.1.step z1 hb3 (tmN (tmN (Rk * Rk) * V)))
          have hcs := (ST.out.1.r.below hb3 (by have := ST.out.1.s; omega))
          clear hc2 hf2 c0 c1 c2 c3 f0 f1 f2 f3 d0 d1 d2 d3 hb3
          obtain ⟨c0, c1, c2, c3, f0, f1, f2, f3⟩ := hcs
          gi_wp2
          go_roundw
          case rel => exact ⟨k + 1, by omega, by go_num, by rw [HST.out]; exact ST2.out.1, HQ.out.trans (ST.out.2.trans ST2.out.2)⟩
          case measure => simp [intOf]; omega
        · have hbz : bitN x.2 (7 - k) = 0 := by unfold bitN at *; omega
          have hst : byteP V x.2 R (k + 1) = tmN (Rk * Rk) := by rw [byteP, stepP, if_neg hbit, ← HRK.out]
          have HST := Lib.hid hst
          have hb : (bits .and .u8 ((x.2.toNat : Int) / 2 ^ (7 - k)) 1 == 1) = false := by rw [hbv, hbz]; rfl
          clear hst hbit hbv hbz
          gi_wp2
          refine ⟨trivial, (callsIn_wide.2 (C3.out _ HRk.out _)).inRound l' |>.mono ?_⟩
          rintro e w2 ⟨rfl, hb2⟩
          have ST := Lib.hid (HP.out.step z1 hb2 (tmN (Rk * Rk)))
          obtain ⟨hc2, hf2⟩ := bcell hb2
          clear hb2
          gi_wp2
          go_roundw
          case rel => exact ⟨k + 1, by omega, by go_num, by rw [HST.out]; exact ST.out.1, HQ.out.trans ST.out.2⟩
          case measure => simp [intOf]; omega
      · obtain rfl : k = 8 := by omega
        gi_wp2
        exact ⟨HQ.out.k, HQ.out.b, by show PwI w g5 V (.slice AA l.length c) wr (powL V (pre ++ [x])); rw [powL_snoc, ← HR.out]; exact HP.out⟩
  case done =>
    rintro D ys W hD rfl hI hK
    have HI := Lib.hid hI
    have zs : w.heap.size + 1 < W.heap.size := by have := hI.s; omega
    have zs2 : w.heap.size < W.heap.size := by omega
    obtain ⟨c0, c1, c2, c3, f0, f1, f2, f3⟩ := hI.r
    obtain ⟨d0, d1, d2, d3, k0, k1, k2, k3⟩ := hI.z
    have HK := Lib.hid hK
    clear hI hK
    gi_wp2
    refine ⟨trivial, (callsIn_wide.2 (C5.out _ (powL_lt HV.out _) _)).mono ?_⟩
    rintro e w3 ⟨rfl, hb3⟩
    have B3 := Lib.hid hb3
    obtain ⟨hc3, hf3⟩ := bcell hb3
    clear hb3
    gi_wp2
    have hE := set4_ez (HI.out.z.below B3.out (by omega)) (powL V (backAll l) % PP)
    have hK3 : w3.heap[D]? = some (.deferred (some [])) := (B3.out.block D (Array.getElem?_eq_some_iff.1 HK.out).1).trans HK.out
    have hK4 := (set4_keeps w3 (w.heap.size + 1) (powL V (backAll l) % PP)).same D _ hK3 rfl
    have hBf := set4_below (HI.out.b.trans (B3.out.mono HI.out.b.size)) (g := w.heap.size + 1) (by omega) (.int .u64 (l0 (powL V (backAll l) % PP) : Int)) (.int .u64 (l1 (powL V (backAll l) % PP) : Int)) (.int .u64 (l2 (powL V (backAll l) % PP) : Int)) (.int .u64 (l3 (powL V (backAll l) % PP) : Int))
    obtain ⟨Wf, hWf⟩ : ∃ Wf, Wf = ((((w3).setCell ⟨w.heap.size + 1, 0, none⟩ (.int .u64 (l0 (powL V (backAll l) % PP) : Int))).setCell ⟨w.heap.size + 1, 1, none⟩ (.int .u64 (l1 (powL V (backAll l) % PP) : Int))).setCell ⟨w.heap.size + 1, 2, none⟩ (.int .u64 (l2 (powL V (backAll l) % PP) : Int))).setCell ⟨w.heap.size + 1, 3, none⟩ (.int .u64 (l3 (powL V (backAll l) % PP) : Int)) := ⟨_, rfl⟩
    rw [← hWf] at hE hK4 hBf ⊢
    clear c0 c1 c2 c3 f0 f1 f2 f3 d0 d1 d2 d3 k0 k1 k2 k3 hc3 hf3 hWf hK3
    have hE2 : Ec (Wf.putObj D (.deferred none)) (w.heap.size + 1) (powL V (backAll l) % PP) := hE.kept (grownBy_putObj' _ D (.deferred none)) (fun r e => by cases e; exact ⟨_, hK4, rfl⟩)
    obtain ⟨c0, c1, c2, c3, _, _, _, _⟩ := hE2
    refine ⟨by simp, .inl ⟨_, _, rfl, run_takeDeferred hK4, ?_⟩⟩
    refine ⟨.agg #[.int .u64 (l0 (powL V (backAll l) % PP) : Int), .int .u64 (l1 (powL V (backAll l) % PP) : Int), .int .u64 (l2 (powL V (backAll l) % PP) : Int), .int .u64 (l3 (powL V (backAll l) % PP) : Int)], by simp [results, Try.results28, go_sem, c0, c1, c2, c3], rfl, hBf.trans (belowK_b (w := w) (Nat.le_refl _) Wf D _ _ (by have := HS0.out; omega) hK4 rfl rfl)⟩
  case stop =>
    rintro D cc pre W _ _ h _
    exact h.elim

/-- Power: the number's power -/
theorem powE {V : Nat} (hV : V < W4) {l : List UInt8} {v : Value} {w : World} (hb : Bs w w.heap.size v l) : Calls Try.prog 28 #[.agg #[.int .u64 (l0 (V) : Int), .int .u64 (l1 (V) : Int), .int .u64 (l2 (V) : Int), .int .u64 (l3 (V) : Int)], v] w fun e w' => e = .returned (.agg #[.int .u64 (l0 (V ^ numL l % PP) : Int), .int .u64 (l1 (V ^ numL l % PP) : Int), .int .u64 (l2 (V ^ numL l % PP) : Int), .int .u64 (l3 (V ^ numL l % PP) : Int)]) ∧ Below w.heap.size w w' := by
  have h := powerE hV hb
  rw [powL_all] at h
  exact h
end Go.Proofs.Ytgkglielcbgpiaa
