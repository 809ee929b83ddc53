/- The lists of the law of chacha: what they hand out lies apart. -/
import Derived.Test.YthgdficgjldobaaC9
import Derived.Test.YthgdficgjldobaaC3S
import Derived.Test.YthgdficgjldobaaD1
namespace Go.Proofs.Ythgdficgjldobaa
open Go.RowKit

def strE (key : List UInt8) (n : Nat) : List UInt8 := if key.length = 32 then strL key 0 n else []
def trnE (key : List UInt8) (l : List UInt8) : List UInt8 := if key.length = 32 ∧ l.length ≤ 65536 then trnL key 0 l else []
def trnF (key : List UInt8) (d : Nat) (l : List UInt8) : List UInt8 := if d + l.length ≤ 65536 then trnL key d l else []
theorem strE_le (key : List UInt8) (n : Nat) : (strE key n).length ≤ n := by unfold strE; split <;> simp [strL_len]
theorem trnE_le (key l : List UInt8) : (trnE key l).length ≤ l.length := by unfold trnE; split <;> simp [trnL_len]
theorem trnF_le (key : List UInt8) (d : Nat) (l : List UInt8) : (trnF key d l).length ≤ l.length := by unfold trnF; split <;> simp [trnL_len]
/-- what the law's lists hold -/
def listsC (key b : List UInt8) : List (List UInt8) := [strE key 70, trnE key (b ++ b), trnE key b] ++ (if key.length = 32 then [strL key 0 5, trnF key 5 b] else [])
theorem listsC_le (key b : List UInt8) : ∀ l ∈ listsC key b, l.length ≤ 2 * b.length + 70 := by
  intro l hl
  have h1 := strE_le key 70
  have h2 := trnE_le key (b ++ b)
  have h3 := trnE_le key b
  have h4 := trnF_le key 5 b
  rw [List.length_append] at h2
  unfold listsC at hl
  rcases List.mem_append.1 hl with hl | hl
  · simp only [List.mem_cons, List.not_mem_nil, or_false] at hl
    rcases hl with rfl | rfl | rfl <;> omega
  · split at hl
    · simp only [List.mem_cons, List.not_mem_nil, or_false] at hl
      rcases hl with rfl | rfl
      · rw [strL_len]; omega
      · omega
    · cases hl
theorem alloc_below {w w' : World} {o : Obj} (h : Below (w.alloc o).heap.size (w.alloc o) w') : Below w.heap.size w w' := ((Below.refl _ _).alloc (Nat.le_refl _) o).trans (h.mono (by simp))
theorem Bs.up {w w' : World} {v : Value} {l : List UInt8} (h : Bs w w.heap.size v l) (hb : Below w.heap.size w w') : Bs w' w'.heap.size v l := (h.below hb (Nat.le_refl _)).more hb.size
theorem rs1 {a : List UInt8} {u : Value} {w : World} (ha : Bs w w.heap.size u a) : Rs (w.alloc (.cells #[u] 28)) (w.heap.size + 1) (.slice (some ⟨w.heap.size, 0, none⟩) 1 1) [a] :=
  Rs.lit w [u] [a] rfl (by unfold maxLen; simp) (by
    intro j h h'
    match j, h, h' with
    | 0, _, _ => exact ha)
theorem rs2 {a b : List UInt8} {u v : Value} {w : World} (ha : Bs w w.heap.size u a) (hb : Bs w w.heap.size v b) : Rs (w.alloc (.cells #[u, v] 28)) (w.heap.size + 1) (.slice (some ⟨w.heap.size, 0, none⟩) 2 2) [a, b] :=
  Rs.lit w [u, v] [a, b] rfl (by unfold maxLen; simp) (by
    intro j h h'
    match j, h, h' with
    | 0, _, _ => exact ha
    | 1, _, _ => exact hb)
/-- a call that answers bytes of its own, and some error -/
def Ans (w : World) (B : Nat) (l : List UInt8) (e : Ending) (w' : World) : Prop := ∃ r z, e = .returned (.tuple #[r, .int .i64 z]) ∧ Own w' B r l ∧ Below B w w'
theorem a_str {key : List UInt8} {v : Value} {w : World} (hk : Bs w w.heap.size v key) (hl : key.length ≤ 1048576) : Calls Try.prog 16 #[v, .int .i64 70] w (Ans w w.heap.size (strE key 70)) := by
  by_cases h : key.length = 32
  · refine (stream_ok (n := 70) hk (Nat.le_refl _) h (by omega)).mono fun e w' ⟨u, h1, h2, h3⟩ => ⟨u, 0, h1, ?_, h3⟩
    rw [strE, if_pos h]; exact h2
  · refine (stream_size (n := 70) hk h (by omega) (by omega)).mono fun e w' hh => ⟨_, 2, hh.1, ?_, by rw [← hh.2]; exact Below.refl _ _⟩
    rw [strE, if_neg h]; exact Own.nil _ _
theorem a_trn {key : List UInt8} {ls : List (List UInt8)} {v u : Value} {w W : World} (hb : Below w.heap.size w W) (hk : Bs W W.heap.size v key) (hu : Rs W W.heap.size u ls) (hl : key.length ≤ 1048576) : Calls Try.prog 19 #[v, u] W (Ans w w.heap.size (trnE key ls.flatten)) := by
  by_cases h : key.length = 32
  · by_cases h2 : ls.flatten.length ≤ 65536
    · refine (turn_ok hk hu (Nat.le_refl _) h h2).mono fun e w' ⟨u, h1, h3, h4⟩ => ⟨u, 0, h1, ?_, hb.trans (h4.mono hb.size)⟩
      rw [trnE, if_pos ⟨h, h2⟩]; exact h3.more hb.size
    · refine (turn_bound hk hu (Nat.le_refl _) h (by omega)).mono fun e w' hh => ⟨_, 11, hh.1, ?_, hb.trans (hh.2.mono hb.size)⟩
      rw [trnE, if_neg (fun hc => h2 hc.2)]; exact Own.nil _ _
  · refine (turn_size hk h (by omega)).mono fun e w' hh => ⟨_, 2, hh.1, ?_, by rw [← hh.2]; exact hb⟩
    rw [trnE, if_neg (fun hc => h hc.1)]; exact Own.nil _ _
/-- a flow's call that answers bytes of its own, some error, and writes its flow alone -/
def AnsF (w : World) (B g : Nat) (l : List UInt8) (e : Ending) (w' : World) : Prop := ∃ r z, e = .returned (.tuple #[r, .int .i64 z]) ∧ Own w' B r l ∧ w.grownBy w' (some g)
theorem a_ft {key : List UInt8} {ls : List (List UInt8)} {u : Value} {w : World} {g d : Nat} {T : TypeId} {ex : List Value} (h : Flw w g T ex key d) (hd : d ≤ 65536) (hu : Rs w w.heap.size u ls) : Calls Try.prog 26 #[.pointer (some ⟨g, 0, none⟩), u] w (AnsF w w.heap.size g (trnF key d ls.flatten)) := by
  by_cases h2 : d + ls.flatten.length ≤ 65536
  · refine (fturn_ok h hu (Nat.le_refl _) h2).mono fun e w' ⟨r, h1, h3, _, h4⟩ => ⟨r, 0, h1, ?_, h4⟩
    rw [trnF, if_pos h2]; exact h3
  · refine (fturn_no h hu hd (by omega)).mono fun e w' hh => ⟨_, 11, hh.1, ?_, by rw [← hh.2]; exact World.grownBy.refl w _⟩
    rw [trnF, if_neg h2]; exact Own.nil _ _
theorem Acc.keptNe {w w' : World} {B : Nat} {ps : List (Value × List UInt8)} {r : Option Nat} (h : Acc w B ps) (hg : w.grownBy w' r) (hr : ∀ p ∈ ps, ∀ j, p.1.ownBlock = some j → some j ≠ r) : Acc w' B ps :=
  ⟨fun p hp => (h.own p hp).kept hg (by
    cases hv : p.1.ownBlock with
    | none => exact .inl rfl
    | some j => exact .inr (hr p hp j hv)), h.dis⟩
theorem Dv.keptNe {w w' : World} {R B n : Nat} {v : Value} {ps : List (Value × List UInt8)} {r : Option Nat} (h : Dv w R B v n ps) (hg : w.grownBy w' r) (hv : ∀ j, v.ownBlock = some j → some j ≠ r) (hr : ∀ p ∈ ps, ∀ j, p.1.ownBlock = some j → some j ≠ r) : Dv w' R B v n ps :=
  ⟨h.row.kept hg (by
    cases hv' : v.ownBlock with
    | none => exact .inl rfl
    | some j => exact .inr (hv j hv')), h.acc.keptNe hg hr⟩
end Go.Proofs.Ythgdficgjldobaa
