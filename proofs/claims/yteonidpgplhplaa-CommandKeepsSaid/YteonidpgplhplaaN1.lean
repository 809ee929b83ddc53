/- Commands: what their cells hold; Check of the program and of the reference. -/
import Derived.Test.YteonidpgplhplaaCursorD
import Derived.Test.YteonidpgplhplaaPutD
import Derived.Test.YteonidpgplhplaaGetD
import Derived.Test.YteonidpgplhplaaJoin
import Derived.Test.YteonidpgplhplaaArr
import Derived.Deep.MidRow
import Derived.Deep.Cut
namespace Go.Proofs.Yteonidpgplhplaa
open Go.RowKit

/-- a load of a whole row in an operation with a guard that lets it -/
theorem wpList_load_midG {P : Program} {ops : Array Oper} {rest : List Oper} {op : Oper} {a : Act} {w : World} {Q : Exit → Act → World → Prop} (hw : Region.wanted op (yielded ops a.tmps) = true) (ty : TypeId) (x : Operand) (ho : op.op = .load ty x)
    (b o : Nat) (hx : a.eval x = .pointer (some ⟨b, o, none⟩)) (cs : List Value) (d : TypeDesc) (hc : w.rangeAt b o cs)
    (hu : P.underlying ty = some d) (hd : d.isRow = true) (hi : (P.info? ty).map (·.size) = some cs.length)
    (h : wpList P ops Q rest (a.put op.dst (.agg cs.toArray)) w) : wpList P ops Q (op :: rest) a w :=
  wpList_step fun K hK => by rw [if_pos hw]; exact wp_load_mid ty x ho b o hx cs d hc hu hd hi (hK _ _ h)

/-- a command as numbers and bytes -/
structure Cm where
  k : Nat
  f : Nat
  d : Nat
  n : Nat
  m : List UInt8
structure Cm.ok (c : Cm) : Prop where
  k : c.k < 256
  f : c.f < 256
  d : c.d < 4294967296
  n : c.n < 18446744073709551616
  m : c.m.length = 16
/-- its cells -/
def Cm.cs (c : Cm) : List Value := [.int .u8 (c.k : Int), .int .u8 (c.f : Int), .int .u32 (c.d : Int), .int .u64 (c.n : Int)] ++ c.m.map vb
def Cm.mz (c : Cm) : Bool := decide (c.m = List.replicate 16 0)
/-- its error -/
def Cm.chk (c : Cm) : Int := if c.k < 1 ∨ 4 < c.k then 1 else if (c.k = 1 ∧ c.n = 0) ∨ (c.k ≠ 1 ∧ c.n ≠ 0) ∨ (c.k ≠ 4 ∧ c.mz = false) then 3 else if 1000000 < c.d then 11 else 0
theorem Cm.len {c : Cm} (h : c.ok) : c.cs.length = 20 := by simp [Cm.cs, h.m]
theorem range_below {w w' : World} {B g o : Nat} {cs : List Value} (h : w.rangeAt g o cs) (hb : Below B w w') (hB : g < B) : w'.rangeAt g o cs := fun j v hv => (hb.cell (p := ⟨g, o + j, none⟩) hB).trans (h j v hv)
theorem range_new (w : World) (cs : List Value) (t : TypeId) : (w.alloc (.cells cs.toArray t)).rangeAt w.heap.size 0 cs := fun j v hv => by
  rw [cell_of_row _ _ (0 + j) _ _ (0, 0) (heap_alloc_new w _)]
  simpa using hv
/-- the cells of a command from offset o of block g on -/
structure CmAt (w : World) (g o : Nat) (c : Cm) : Prop where
  k : w.cell? ⟨g, o, none⟩ = some (.int .u8 (c.k : Int))
  f : w.cell? ⟨g, o + 1, none⟩ = some (.int .u8 (c.f : Int))
  d : w.cell? ⟨g, o + 2, none⟩ = some (.int .u32 (c.d : Int))
  n : w.cell? ⟨g, o + 3, none⟩ = some (.int .u64 (c.n : Int))
  m : w.rangeAt g (o + 4) (c.m.map vb)
theorem CmAt.of_range {w : World} {g o : Nat} {c : Cm} (h : w.rangeAt g o c.cs) : CmAt w g o c := by
  refine ⟨?_, ?_, ?_, ?_, fun j v hv => ?_⟩
  · simpa using h 0 _ rfl
  · exact h 1 _ rfl
  · exact h 2 _ rfl
  · exact h 3 _ rfl
  · have := h (4 + j) v (by rw [Cm.cs, List.getElem?_append_right (by simp)]; simpa using hv)
    rwa [← Nat.add_assoc] at this
theorem CmAt.range {w : World} {g o : Nat} {c : Cm} (h : CmAt w g o c) : w.rangeAt g o c.cs := fun j v hv => by
  match j with
  | 0 => simp [Cm.cs] at hv; subst hv; exact h.k
  | 1 => simp [Cm.cs] at hv; subst hv; exact h.f
  | 2 => simp [Cm.cs] at hv; subst hv; exact h.d
  | 3 => simp [Cm.cs] at hv; subst hv; exact h.n
  | j + 4 =>
    have := h.m j v (by simpa [Cm.cs] using hv)
    rwa [show o + (j + 4) = o + 4 + j by omega]
theorem CmAt.below {w w' : World} {B g o : Nat} {c : Cm} (h : CmAt w g o c) (hb : Below B w w') (hB : g < B) : CmAt w' g o c := .of_range (range_below h.range hb hB)

theorem list16 : ∀ {l : List UInt8}, l.length = 16 → ∃ x0 x1 x2 x3 x4 x5 x6 x7 x8 x9 x10 x11 x12 x13 x14 x15, l = [x0, x1, x2, x3, x4, x5, x6, x7, x8, x9, x10, x11, x12, x13, x14, x15]
  | [x0, x1, x2, x3, x4, x5, x6, x7, x8, x9, x10, x11, x12, x13, x14, x15], _ => ⟨x0, x1, x2, x3, x4, x5, x6, x7, x8, x9, x10, x11, x12, x13, x14, x15, rfl⟩
/-- two marks are compared -/
theorem eq_mark (a b : List UInt8) (ha : a.length = 16) (hb : b.length = 16) (W : World) : (Op.equalIn 10000 24 (.agg (a.map vb).toArray) (.agg (b.map vb).toArray)).run Try.prog W = .ok (decide (a = b)) W := by
  obtain ⟨i, hi⟩ : ∃ i, Try.prog.info? 5 = some i := Option.isSome_iff_exists.1 (by kernel_rfl)
  have h2 := run_eq_arr (P := Try.prog) (k := .u8) W Try.underlying24 hi (by kernel_rfl) (by kernel_rfl) Try.underlying5 (a.map fun x => (x.toNat : Int)) (b.map fun x => (x.toNat : Int)) (by simpa using ha) (by simpa using hb) 9998
  have e : ∀ l : List UInt8, (l.map vb).toArray = ((l.map fun x => (x.toNat : Int)).map (Value.int .u8)).toArray := fun l => by rw [List.map_map]; rfl
  rw [e a, e b]
  refine h2.trans ?_
  refine congrArg (Result.ok · W) ?_
  have inj : (a.map fun x => (x.toNat : Int)) = (b.map fun x => (x.toNat : Int)) ↔ a = b := by
    constructor
    · intro h
      refine List.map_inj_right (f := fun x : UInt8 => (x.toNat : Int)) ?_ |>.1 h
      intro x y hxy
      simp only [Int.ofNat_inj] at hxy
      exact UInt8.toNat_inj.1 hxy
    · rintro rfl; rfl
  first | exact decide_eq_decide.2 inj | (rw [Bool.eq_iff_iff]; simp [inj])
set_option maxRecDepth 10000 in
theorem zero_mark : (Value.agg (#[.int .u8 0, .int .u8 0, .int .u8 0, .int .u8 0, .int .u8 0, .int .u8 0, .int .u8 0, .int .u8 0, .int .u8 0, .int .u8 0, .int .u8 0, .int .u8 0, .int .u8 0, .int .u8 0, .int .u8 0, .int .u8 0])) = .agg ((List.replicate 16 (0 : UInt8)).map vb).toArray := rfl

set_option maxRecDepth 100000 in
set_option maxHeartbeats 4000000 in
theorem check_any {c : Cm} (hc : c.ok) (w : World) :
    Calls Try.prog 13 #[.agg c.cs.toArray] w fun e w' => e = .returned (.int .i64 c.chk) ∧ Below w.heap.size w w' := by
  obtain ⟨r, hr⟩ : ∃ r, r = c.chk := ⟨_, rfl⟩
  rw [← hr]
  have hat := CmAt.of_range (range_new w c.cs 26)
  have HB0 := Lib.hid ((Below.refl w.heap.size w).alloc (Nat.le_refl _) (.cells c.cs.toArray 26))
  have HAT := Lib.hid hat
  obtain ⟨CS, hCS⟩ : ∃ CS, CS = c.cs.toArray := ⟨_, rfl⟩
  rw [← hCS] at HAT HB0 ⊢
  clear hat hCS
  go_enter Try.func13, Try.ntmps13
  go_upto_region 1 with fail
  generalize w.alloc (.cells CS 26) = W at HAT HB0 ⊢
  have hk := HAT.out.k
  have hd := HAT.out.d
  have hn := HAT.out.n
  have hmr := HAT.out.m
  simp only [Nat.zero_add] at hk hd hn hmr
  obtain ⟨x0, x1, x2, x3, x4, x5, x6, x7, x8, x9, x10, x11, x12, x13, x14, x15, hxs⟩ := list16 hc.m
  rw [hxs] at hmr
  have q0 := hmr 0 _ rfl
  have q1 := hmr 1 _ rfl
  have q2 := hmr 2 _ rfl
  have q3 := hmr 3 _ rfl
  have q4 := hmr 4 _ rfl
  have q5 := hmr 5 _ rfl
  have q6 := hmr 6 _ rfl
  have q7 := hmr 7 _ rfl
  have q8 := hmr 8 _ rfl
  have q9 := hmr 9 _ rfl
  have q10 := hmr 10 _ rfl
  have q11 := hmr 11 _ rfl
  have q12 := hmr 12 _ rfl
  have q13 := hmr 13 _ rfl
  have q14 := hmr 14 _ rfl
  have q15 := hmr 15 _ rfl
  have HEQ := eq_mark c.m (List.replicate 16 0) hc.m (by simp)
  rw [← zero_mark, hxs] at HEQ
  obtain ⟨z, hz⟩ : ∃ z, z = c.mz := ⟨_, rfl⟩
  have HEQ' : ∀ X, (Op.equalIn 10000 24 (.agg #[vb x0, vb x1, vb x2, vb x3, vb x4, vb x5, vb x6, vb x7, vb x8, vb x9, vb x10, vb x11, vb x12, vb x13, vb x14, vb x15]) (.agg #[.int .u8 0, .int .u8 0, .int .u8 0, .int .u8 0, .int .u8 0, .int .u8 0, .int .u8 0, .int .u8 0, .int .u8 0, .int .u8 0, .int .u8 0, .int .u8 0, .int .u8 0, .int .u8 0, .int .u8 0, .int .u8 0])).run Try.prog X = .ok z X := fun X => by rw [hz, Cm.mz, hxs]; exact HEQ X
  have HNE : ∀ X, (binOp .neq 24 (.agg #[vb x0, vb x1, vb x2, vb x3, vb x4, vb x5, vb x6, vb x7, vb x8, vb x9, vb x10, vb x11, vb x12, vb x13, vb x14, vb x15]) (.agg #[.int .u8 0, .int .u8 0, .int .u8 0, .int .u8 0, .int .u8 0, .int .u8 0, .int .u8 0, .int .u8 0, .int .u8 0, .int .u8 0, .int .u8 0, .int .u8 0, .int .u8 0, .int .u8 0, .int .u8 0, .int .u8 0])).run Try.prog X = .ok (.bool (!z)) X := fun X => by
    rw [run_neq_struct, HEQ']
    rfl
  clear HEQ'
  obtain ⟨k, hkk⟩ : ∃ k, k = c.k := ⟨_, rfl⟩
  obtain ⟨d, hdd⟩ : ∃ d, d = c.d := ⟨_, rfl⟩
  obtain ⟨n, hnn⟩ : ∃ n, n = c.n := ⟨_, rfl⟩
  have hd32 := hc.d; have hn64 := hc.n
  rw [← hkk] at hk
  rw [← hdd] at hd hd32
  rw [← hnn] at hn hn64
  rw [Cm.chk, ← hz, ← hkk, ← hdd, ← hnn] at hr
  have HR := Lib.hid hr
  clear hmr HEQ hxs hz hkk hdd hnn hr hc HAT
  by_cases hk1 : k < 1
  · have e : decide ((k : Int) < 1) = true := by simp; omega
    have hr : r = 1 := by rw [HR.out, if_pos (by omega)]
    subst hr
    go_wp2
    go_ret
    exact ⟨rfl, HB0.out⟩
  have e1 : decide ((k : Int) < 1) = false := by simp; omega
  by_cases hk4 : 4 < k
  · have e : decide ((4 : Int) < k) = true := by simp; omega
    have hr : r = 1 := by rw [HR.out, if_pos (by omega)]
    subst hr
    go_wp2
    go_ret
    exact ⟨rfl, HB0.out⟩
  have e4 : decide ((4 : Int) < (k : Int)) = false := by simp; omega
  have hr : r = _ := HR.out.trans (if_neg (by omega))
  clear HR
  have HR := Lib.hid hr
  clear hr
  have fin : ∀ b : Bool, decide ((1000000 : Int) < (d : Int)) = b → decide (1000000 < d) = b := by
    intro b h; rw [← h]; exact decide_eq_decide.2 (by omega)
  obtain ⟨bd, hbd⟩ : ∃ b, decide ((1000000 : Int) < (d : Int)) = b := ⟨_, rfl⟩
  have hbd' := fin bd hbd
  have HR2 : r = if (k = 1 ∧ n = 0) ∨ (k ≠ 1 ∧ n ≠ 0) ∨ (k ≠ 4 ∧ z = false) then 3 else if bd = true then 11 else 0 := by
    rw [HR.out, ← hbd']; simp only [decide_eq_true_eq]
  have HR3 := Lib.hid HR2
  clear fin hbd' HR HR2
  obtain ⟨nb, hnb⟩ : ∃ b, b = decide (n = 0) := ⟨_, rfl⟩
  by_cases hn0 : n = 0
  · subst hn0
    rcases (by omega : k = 1 ∨ k = 2 ∨ k = 3 ∨ k = 4) with rfl | rfl | rfl | rfl
    · have hr : r = 3 := by rw [HR3.out, if_pos (by simp)]
      subst hr
      go_wp2
      go_ret
      exact ⟨rfl, HB0.out⟩
    · cases bd <;> cases z
      · have hr : r = 3 := by rw [HR3.out]; simp
        subst hr
        go_wp2
        go_ret
        exact ⟨rfl, HB0.out⟩
      · have hr : r = 0 := by rw [HR3.out]; simp
        subst hr
        go_wp2
        go_ret
        exact ⟨rfl, HB0.out⟩
      · have hr : r = 3 := by rw [HR3.out]; simp
        subst hr
        go_wp2
        go_ret
        exact ⟨rfl, HB0.out⟩
      · have hr : r = 11 := by rw [HR3.out]; simp
        subst hr
        go_wp2
        go_ret
        exact ⟨rfl, HB0.out⟩
    · cases bd <;> cases z
      · have hr : r = 3 := by rw [HR3.out]; simp
        subst hr
        go_wp2
        go_ret
        exact ⟨rfl, HB0.out⟩
      · have hr : r = 0 := by rw [HR3.out]; simp
        subst hr
        go_wp2
        go_ret
        exact ⟨rfl, HB0.out⟩
      · have hr : r = 3 := by rw [HR3.out]; simp
        subst hr
        go_wp2
        go_ret
        exact ⟨rfl, HB0.out⟩
      · have hr : r = 11 := by rw [HR3.out]; simp
        subst hr
        go_wp2
        go_ret
        exact ⟨rfl, HB0.out⟩
    · cases bd <;> cases z
      · have hr : r = 0 := by rw [HR3.out]; simp
        subst hr
        go_wp2
        go_ret
        exact ⟨rfl, HB0.out⟩
      · have hr : r = 0 := by rw [HR3.out]; simp
        subst hr
        go_wp2
        go_ret
        exact ⟨rfl, HB0.out⟩
      · have hr : r = 11 := by rw [HR3.out]; simp
        subst hr
        go_wp2
        go_ret
        exact ⟨rfl, HB0.out⟩
      · have hr : r = 11 := by rw [HR3.out]; simp
        subst hr
        go_wp2
        go_ret
        exact ⟨rfl, HB0.out⟩
  · have hn1 : ((n : Int) != 0) = true := by simp; omega
    rcases (by omega : k = 1 ∨ k = 2 ∨ k = 3 ∨ k = 4) with rfl | rfl | rfl | rfl
    · cases bd <;> cases z
      · have hr : r = 3 := by rw [HR3.out]; simp [hn0]
        subst hr
        go_wp2
        go_ret
        exact ⟨rfl, HB0.out⟩
      · have hr : r = 0 := by rw [HR3.out]; simp [hn0]
        subst hr
        go_wp2
        go_ret
        exact ⟨rfl, HB0.out⟩
      · have hr : r = 3 := by rw [HR3.out]; simp [hn0]
        subst hr
        go_wp2
        go_ret
        exact ⟨rfl, HB0.out⟩
      · have hr : r = 11 := by rw [HR3.out]; simp [hn0]
        subst hr
        go_wp2
        go_ret
        exact ⟨rfl, HB0.out⟩
    · have hr : r = 3 := by rw [HR3.out, if_pos (by simp; omega)]
      subst hr
      go_wp2
      go_ret
      exact ⟨rfl, HB0.out⟩
    · have hr : r = 3 := by rw [HR3.out, if_pos (by simp; omega)]
      subst hr
      go_wp2
      go_ret
      exact ⟨rfl, HB0.out⟩
    · have hr : r = 3 := by rw [HR3.out, if_pos (by simp; omega)]
      subst hr
      go_wp2
      go_ret
      exact ⟨rfl, HB0.out⟩
end Go.Proofs.Yteonidpgplhplaa
