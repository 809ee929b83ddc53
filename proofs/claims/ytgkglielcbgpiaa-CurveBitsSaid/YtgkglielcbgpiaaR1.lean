/- Rows of integers by a function; the reference's digits. -/
import Derived.Test.YtgkglielcbgpiaaF10
namespace Go.Proofs.Ytgkglielcbgpiaa
open Go.RowKit

def rowF (k : IntKind) (n : Nat) (f : Nat → Nat) : Array Value := ((List.range n).map fun i => Value.int k (f i : Int)).toArray
def upd (f : Nat → Nat) (j x : Nat) : Nat → Nat := fun i => if i = j then x else f i
theorem rowF_size (k : IntKind) (n : Nat) (f : Nat → Nat) : (rowF k n f).size = n := by simp [rowF]
theorem rowF_ext {k : IntKind} {n : Nat} {f g : Nat → Nat} (h : ∀ i, i < n → f i = g i) : rowF k n f = rowF k n g := by
  unfold rowF
  congr 1
  apply List.map_congr_left
  intro i hi
  rw [h i (by simpa using hi)]
theorem rowF_at (k : IntKind) {n : Nat} (f : Nat → Nat) {j : Nat} (h : j < n) : (rowF k n f)[j]? = some (.int k (f j : Int)) := by simp [rowF, h]
theorem rowF_one (k : IntKind) (n : Nat) (f : Nat → Nat) : (rowF k n f).all (·.oneCell') = true := by
  rw [Array.all_eq_true_iff_forall_mem]
  intro u hu
  obtain ⟨i, _, rfl⟩ := List.mem_map.1 (List.mem_toArray.1 hu)
  rfl
theorem rowF_set (k : IntKind) (n : Nat) (f : Nat → Nat) (j x : Nat) : (rowF k n f).setIfInBounds j (.int k (x : Int)) = rowF k n (upd f j x) := by
  apply Array.ext_getElem?
  intro i
  by_cases hi : i < n
  · rw [rowF_at k (upd f j x) hi, Array.getElem?_setIfInBounds]
    by_cases e : j = i
    · subst e
      rw [if_pos rfl, if_pos (by rw [rowF_size]; exact hi)]
      simp [upd]
    · rw [if_neg e, rowF_at k f hi]
      simp [upd, Ne.symm e]
  · rw [Array.getElem?_eq_none (by rw [Array.size_setIfInBounds, rowF_size]; omega), Array.getElem?_eq_none (by rw [rowF_size]; omega)]
/-- block g is a row of integers -/
def Rw (w : World) (g : Nat) (t : TypeId) (k : IntKind) (n : Nat) (f : Nat → Nat) : Prop := w.heap[g]? = some (.cells (rowF k n f) t (0, 0))
section
variable {w w' : World} {g j n : Nat} {t : TypeId} {k : IntKind} {f : Nat → Nat}
theorem Rw.cell (h : Rw w g t k n f) (hj : j < n) : w.cell? ⟨g, j, none⟩ = some (.int k (f j : Int)) := by rw [cell_of_row w g j _ _ _ h, rowF_at k f hj]
theorem Rw.frozen (h : Rw w g t k n f) : w.frozen? ⟨g, j, none⟩ = false := frozen_of_row w g j _ _ h
theorem Rw.set (h : Rw w g t k n f) (j x : Nat) : Rw (w.setCell ⟨g, j, none⟩ (.int k (x : Int))) g t k n (upd f j x) := by
  unfold Rw
  rw [heap_setCell_same w g j _ _ _ h, rowF_set]
theorem Rw.lt (h : Rw w g t k n f) : g < w.heap.size := (Array.getElem?_eq_some_iff.1 h).1
theorem Rw.below {B : Nat} (h : Rw w g t k n f) (hb : Below B w w') (hB : g < B) : Rw w' g t k n f := (hb.block g hB).trans h
theorem Rw.far {g' i : Nat} {v : Value} (h : Rw w g t k n f) (hn : g ≠ g') : Rw (w.setCell ⟨g', i, none⟩ v) g t k n f := (Below.heap_setCell w ⟨g', i, none⟩ v g (by exact hn)).trans h
theorem Rw.ext {f' : Nat → Nat} (h : Rw w g t k n f) (e : ∀ i, i < n → f i = f' i) : Rw w g t k n f' := by
  unfold Rw at *
  rw [← rowF_ext e]
  exact h
theorem Rw.alloc (h : Rw w g t k n f) (o : Obj) : Rw (w.alloc o) g t k n f := (heap_alloc_old _ _ h.lt).trans h
end
theorem Rw.new (w : World) (t : TypeId) (k : IntKind) (n : Nat) (f : Nat → Nat) {cs : Array Value} (h : cs = rowF k n f) : Rw (w.alloc (.cells cs t)) w.heap.size t k n f := by
  subst h
  exact heap_alloc_new w _
/-- a digit of 32 bits -/
def dig (V i : Nat) : Nat := V / 4294967296 ^ i % 4294967296
theorem dig_lt (V i : Nat) : dig V i < 4294967296 := Nat.mod_lt _ (by decide)
/-- the number of the first n digits -/
def valD (f : Nat → Nat) : Nat → Nat
  | 0 => 0
  | n + 1 => valD f n + 4294967296 ^ n * f n
theorem valD_ext {f g : Nat → Nat} : ∀ {n : Nat}, (∀ i, i < n → f i = g i) → valD f n = valD g n
  | 0, _ => rfl
  | n + 1, h => by rw [valD, valD, valD_ext (n := n) (fun i hi => h i (by omega)), h n (by omega)]
theorem valD_lt {f : Nat → Nat} (h : ∀ i, f i < 4294967296) : ∀ n, valD f n < 4294967296 ^ n
  | 0 => by simp [valD]
  | n + 1 => by
    have ih := valD_lt h n
    have hn := h n
    rw [valD, Nat.pow_succ]
    have : 4294967296 ^ n * f n + 4294967296 ^ n ≤ 4294967296 ^ n * 4294967296 := by
      rw [← Nat.mul_succ]
      exact Nat.mul_le_mul_left _ hn
    omega
theorem valD_dig (V : Nat) : ∀ n, valD (dig V) n = V % 4294967296 ^ n
  | 0 => by simp [valD, Nat.mod_one]
  | n + 1 => by
    rw [valD, valD_dig V n, dig, Nat.pow_succ, Nat.mod_mul]
theorem dig_valD {f : Nat → Nat} (h : ∀ i, f i < 4294967296) : ∀ {n i : Nat}, i < n → dig (valD f n) i = f i
  | n + 1, i, hi => by
    have hl := valD_lt h n
    unfold dig
    rw [valD]
    by_cases e : i = n
    · subst e
      rw [Nat.add_mul_div_left _ _ (Nat.pow_pos (by decide)), Nat.div_eq_of_lt hl, Nat.zero_add, Nat.mod_eq_of_lt (h i)]
    · have hin : i < n := by omega
      have hp : 4294967296 ^ n * f n = 4294967296 ^ i * (4294967296 * (4294967296 ^ (n - i - 1) * f n)) := by
        rw [← Nat.mul_assoc, ← Nat.mul_assoc, ← Nat.pow_succ, ← Nat.pow_add]
        congr 2
        omega
      rw [hp, Nat.add_mul_div_left _ _ (Nat.pow_pos (by decide)), Nat.add_mul_mod_self_left]
      exact dig_valD h hin
/-- the reference's number -/
def nvA (V : Nat) : Array Value := rowF .u32 8 (dig V)
theorem nvA_of {f : Nat → Nat} (h : ∀ i, f i < 4294967296) : rowF .u32 8 f = nvA (valD f 8) := rowF_ext fun i hi => (dig_valD h hi).symm
theorem W4_pow : W4 = 4294967296 ^ 8 := by decide
theorem nv_val {V : Nat} (h : V < W4) : valD (dig V) 8 = V := by
  rw [valD_dig, ← W4_pow, Nat.mod_eq_of_lt h]
theorem dig_limb0 (V k : Nat) : limb V k % 4294967296 = dig V (2 * k) := by
  unfold limb dig
  have e : (18446744073709551616 : Nat) = 4294967296 ^ 2 := rfl
  rw [e, ← Nat.pow_mul, Nat.mod_mod_of_dvd _ (by decide)]
theorem dig_limb1 (V k : Nat) : limb V k / 4294967296 = dig V (2 * k + 1) := by
  unfold limb dig
  have e : (18446744073709551616 : Nat) = 4294967296 ^ 2 := rfl
  have e2 : (4294967296 : Nat) ^ 2 = 4294967296 * 4294967296 := rfl
  rw [e, ← Nat.pow_mul, e2, Nat.mod_mul_right_div_self, Nat.div_div_eq_div_mul, Nat.pow_succ]
/-- the first 2 k digits -/
def preD (V k : Nat) : Nat → Nat := fun i => if i < k then dig V i else 0
theorem zero8 : (#[.int .u32 0, .int .u32 0, .int .u32 0, .int .u32 0, .int .u32 0, .int .u32 0, .int .u32 0, .int .u32 0] : Array Value) = rowF .u32 8 (fun _ => 0) := rfl
theorem upd_pre (V k i : Nat) : upd (preD V k) k (dig V k) i = preD V (k + 1) i := by
  unfold upd preD
  by_cases e : i = k
  · subst e; rw [if_pos rfl, if_pos (by omega)]
  · rw [if_neg e]
    by_cases h : i < k
    · rw [if_pos h, if_pos (by omega)]
    · rw [if_neg h, if_neg (by omega)]
end Go.Proofs.Ytgkglielcbgpiaa
