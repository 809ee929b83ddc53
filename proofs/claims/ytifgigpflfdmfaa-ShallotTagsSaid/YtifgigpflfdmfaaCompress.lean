/- One block, as sha compresses it. -/
import Derived.Test.YtifgigpflfdmfaaCells
namespace Go.Proofs.Ytifgigpflfdmfaa
open Go.RowKit

def stepR : List UInt32 → UInt32 → List UInt32
  | [a, b, c, d, e, f, g, k], kw => rndL a b c d e f g k kw
  | l, _ => l
/-- the eight words behind j rounds -/
def roundsL (s W : List UInt32) : Nat → List UInt32
  | 0 => s
  | j + 1 => stepR (roundsL s W j) (constL.getD j 0 + W.getD j 0)
def addUp (s st : List UInt32) : Nat → List UInt32
  | 0 => s
  | j + 1 => (addUp s st j).set j ((addUp s st j).getD j 0 + st.getD j 0)
theorem addUp_len (s st : List UInt32) (j : Nat) : (addUp s st j).length = s.length := by
  induction j with
  | zero => rfl
  | succ j ih => simp [addUp, ih]
def compL (s : List UInt32) (l : List UInt8) : List UInt32 := addUp (roundsL s (schedL l 48) 64) s 8

set_option maxRecDepth 8000 in
set_option maxHeartbeats 3200000 in
theorem compress_any (a b c d e f g k : UInt32) {l : List UInt8} {v : Value} {w : World} (hb : Bs w w.heap.size v l) (hl : l.length = 64) :
    Calls Try.prog 66 #[.agg #[.int .u32 (a.toNat : Int), .int .u32 (b.toNat : Int), .int .u32 (c.toNat : Int), .int .u32 (d.toNat : Int), .int .u32 (e.toNat : Int), .int .u32 (f.toNat : Int), .int .u32 (g.toNat : Int), .int .u32 (k.toNat : Int)], v] w fun ex w' => ex = .returned (agg (compL [a, b, c, d, e, f, g, k] l)) ∧ Below w.heap.size w w' := by
  have hb0 : Below w.heap.size w ((w.alloc (.cells #[.int .u32 (a.toNat : Int), .int .u32 (b.toNat : Int), .int .u32 (c.toNat : Int), .int .u32 (d.toNat : Int), .int .u32 (e.toNat : Int), .int .u32 (f.toNat : Int), .int .u32 (g.toNat : Int), .int .u32 (k.toNat : Int)] 36)).alloc (.cells #[.int .u32 0, .int .u32 0, .int .u32 0, .int .u32 0, .int .u32 0, .int .u32 0, .int .u32 0, .int .u32 0] 36)) := ((Below.refl _ _).alloc (Nat.le_refl _) _).alloc (by simp) _
  have c0 := schedule_any ((hb.below hb0 (Nat.le_refl _)).more hb0.size) hl
  obtain ⟨cs, hcs⟩ : ∃ cs : Array Value, agg (schedL l 48) = .agg cs ∧ cs = ((schedL l 48).map vw).toArray := ⟨_, rfl, rfl⟩
  obtain ⟨ks, hks⟩ : ∃ ks : Array Value, agg constL = .agg ks ∧ ks = (constL.map vw).toArray := ⟨_, rfl, rfl⟩
  rw [hcs.1] at c0
  have C0 := Lib.hid c0; have HCS := Lib.hid hcs.2; have HKS := Lib.hid hks.2
  have c1 : Hid (∀ W, Calls Try.prog 79 #[] W fun ex w' => ex = .returned (.agg ks) ∧ Below W.heap.size W w') := by
    have h := fun W => constants_any W
    rw [hks.1] at h
    exact h
  have hcz : Hid (cs.size = 64) := by show _ = _; rw [hcs.2]; simp [schedL_len]
  have hkz : Hid (ks.size = 64) := by show _ = _; rw [hks.2]; rfl
  have one : ∀ m : List UInt32, ((m.map vw).toArray).all (·.oneCell') = true := fun m => by
    rw [Array.all_eq_true_iff_forall_mem]
    intro u hu
    simp only [List.mem_toArray, List.mem_map] at hu
    obtain ⟨x, _, rfl⟩ := hu
    rfl
  have hone1 : Hid (cs.all (·.oneCell') = true) := by rw [hcs.2]; exact one _
  have hone2 : Hid (ks.all (·.oneCell') = true) := by rw [hks.2]; exact one _
  have hi1 : Hid ((Try.prog.info? 106).map (·.size) = some cs.size) := by rw [hcz.out]; show _ = _; kernel_rfl
  have hi2 : Hid ((Try.prog.info? 106).map (·.size) = some ks.size) := by rw [hkz.out]; show _ = _; kernel_rfl
  have hz1 : Hid ((#[.int .u32 0, .int .u32 0, .int .u32 0, .int .u32 0, .int .u32 0, .int .u32 0, .int .u32 0, .int .u32 0, .int .u32 0, .int .u32 0, .int .u32 0, .int .u32 0, .int .u32 0, .int .u32 0, .int .u32 0, .int .u32 0, .int .u32 0, .int .u32 0, .int .u32 0, .int .u32 0, .int .u32 0, .int .u32 0, .int .u32 0, .int .u32 0, .int .u32 0, .int .u32 0, .int .u32 0, .int .u32 0, .int .u32 0, .int .u32 0, .int .u32 0, .int .u32 0, .int .u32 0, .int .u32 0, .int .u32 0, .int .u32 0, .int .u32 0, .int .u32 0, .int .u32 0, .int .u32 0, .int .u32 0, .int .u32 0, .int .u32 0, .int .u32 0, .int .u32 0, .int .u32 0, .int .u32 0, .int .u32 0, .int .u32 0, .int .u32 0, .int .u32 0, .int .u32 0, .int .u32 0, .int .u32 0, .int .u32 0, .int .u32 0, .int .u32 0, .int .u32 0, .int .u32 0, .int .u32 0, .int .u32 0, .int .u32 0, .int .u32 0, .int .u32 0] : Array Value).size = cs.size) := by show _ = _; rw [hcz.out]; rfl
  have hz2 : Hid ((#[.int .u32 0, .int .u32 0, .int .u32 0, .int .u32 0, .int .u32 0, .int .u32 0, .int .u32 0, .int .u32 0, .int .u32 0, .int .u32 0, .int .u32 0, .int .u32 0, .int .u32 0, .int .u32 0, .int .u32 0, .int .u32 0, .int .u32 0, .int .u32 0, .int .u32 0, .int .u32 0, .int .u32 0, .int .u32 0, .int .u32 0, .int .u32 0, .int .u32 0, .int .u32 0, .int .u32 0, .int .u32 0, .int .u32 0, .int .u32 0, .int .u32 0, .int .u32 0, .int .u32 0, .int .u32 0, .int .u32 0, .int .u32 0, .int .u32 0, .int .u32 0, .int .u32 0, .int .u32 0, .int .u32 0, .int .u32 0, .int .u32 0, .int .u32 0, .int .u32 0, .int .u32 0, .int .u32 0, .int .u32 0, .int .u32 0, .int .u32 0, .int .u32 0, .int .u32 0, .int .u32 0, .int .u32 0, .int .u32 0, .int .u32 0, .int .u32 0, .int .u32 0, .int .u32 0, .int .u32 0, .int .u32 0, .int .u32 0, .int .u32 0, .int .u32 0] : Array Value).size = ks.size) := by show _ = _; rw [hkz.out]; rfl
  clear c0 hcs hks one
  go_enter Try.func66, Try.ntmps66
  go_wp2_with fail
  refine (C0.out).mono ?_
  rintro ex w1 ⟨rfl, hbb1⟩
  have hb1 := hb0.trans (hbb1.mono hb0.size)
  have h1 : Hid ((w1.alloc (.cells #[.int .u32 0, .int .u32 0, .int .u32 0, .int .u32 0, .int .u32 0, .int .u32 0, .int .u32 0, .int .u32 0, .int .u32 0, .int .u32 0, .int .u32 0, .int .u32 0, .int .u32 0, .int .u32 0, .int .u32 0, .int .u32 0, .int .u32 0, .int .u32 0, .int .u32 0, .int .u32 0, .int .u32 0, .int .u32 0, .int .u32 0, .int .u32 0, .int .u32 0, .int .u32 0, .int .u32 0, .int .u32 0, .int .u32 0, .int .u32 0, .int .u32 0, .int .u32 0, .int .u32 0, .int .u32 0, .int .u32 0, .int .u32 0, .int .u32 0, .int .u32 0, .int .u32 0, .int .u32 0, .int .u32 0, .int .u32 0, .int .u32 0, .int .u32 0, .int .u32 0, .int .u32 0, .int .u32 0, .int .u32 0, .int .u32 0, .int .u32 0, .int .u32 0, .int .u32 0, .int .u32 0, .int .u32 0, .int .u32 0, .int .u32 0, .int .u32 0, .int .u32 0, .int .u32 0, .int .u32 0, .int .u32 0, .int .u32 0, .int .u32 0, .int .u32 0] 106)).heap[w1.heap.size]? = some (.cells #[.int .u32 0, .int .u32 0, .int .u32 0, .int .u32 0, .int .u32 0, .int .u32 0, .int .u32 0, .int .u32 0, .int .u32 0, .int .u32 0, .int .u32 0, .int .u32 0, .int .u32 0, .int .u32 0, .int .u32 0, .int .u32 0, .int .u32 0, .int .u32 0, .int .u32 0, .int .u32 0, .int .u32 0, .int .u32 0, .int .u32 0, .int .u32 0, .int .u32 0, .int .u32 0, .int .u32 0, .int .u32 0, .int .u32 0, .int .u32 0, .int .u32 0, .int .u32 0, .int .u32 0, .int .u32 0, .int .u32 0, .int .u32 0, .int .u32 0, .int .u32 0, .int .u32 0, .int .u32 0, .int .u32 0, .int .u32 0, .int .u32 0, .int .u32 0, .int .u32 0, .int .u32 0, .int .u32 0, .int .u32 0, .int .u32 0, .int .u32 0, .int .u32 0, .int .u32 0, .int .u32 0, .int .u32 0, .int .u32 0, .int .u32 0, .int .u32 0, .int .u32 0, .int .u32 0, .int .u32 0, .int .u32 0, .int .u32 0, .int .u32 0, .int .u32 0] 106 (0, 0))) := heap_alloc_new w1 _
  go_wp2_with (with_reducible refine wpList_store_row rfl 106 (.tmp 5) (.tmp 11) rfl w1.heap.size cs rfl rfl 106 _ h1.out hi1.out hz1.out hone1.out ?_)
  refine (c1.out _).mono ?_
  rintro ex w2 ⟨rfl, hbb2⟩
  have h2 : Hid ((w2.alloc (.cells #[.int .u32 0, .int .u32 0, .int .u32 0, .int .u32 0, .int .u32 0, .int .u32 0, .int .u32 0, .int .u32 0, .int .u32 0, .int .u32 0, .int .u32 0, .int .u32 0, .int .u32 0, .int .u32 0, .int .u32 0, .int .u32 0, .int .u32 0, .int .u32 0, .int .u32 0, .int .u32 0, .int .u32 0, .int .u32 0, .int .u32 0, .int .u32 0, .int .u32 0, .int .u32 0, .int .u32 0, .int .u32 0, .int .u32 0, .int .u32 0, .int .u32 0, .int .u32 0, .int .u32 0, .int .u32 0, .int .u32 0, .int .u32 0, .int .u32 0, .int .u32 0, .int .u32 0, .int .u32 0, .int .u32 0, .int .u32 0, .int .u32 0, .int .u32 0, .int .u32 0, .int .u32 0, .int .u32 0, .int .u32 0, .int .u32 0, .int .u32 0, .int .u32 0, .int .u32 0, .int .u32 0, .int .u32 0, .int .u32 0, .int .u32 0, .int .u32 0, .int .u32 0, .int .u32 0, .int .u32 0, .int .u32 0, .int .u32 0, .int .u32 0, .int .u32 0] 106)).heap[w2.heap.size]? = some (.cells #[.int .u32 0, .int .u32 0, .int .u32 0, .int .u32 0, .int .u32 0, .int .u32 0, .int .u32 0, .int .u32 0, .int .u32 0, .int .u32 0, .int .u32 0, .int .u32 0, .int .u32 0, .int .u32 0, .int .u32 0, .int .u32 0, .int .u32 0, .int .u32 0, .int .u32 0, .int .u32 0, .int .u32 0, .int .u32 0, .int .u32 0, .int .u32 0, .int .u32 0, .int .u32 0, .int .u32 0, .int .u32 0, .int .u32 0, .int .u32 0, .int .u32 0, .int .u32 0, .int .u32 0, .int .u32 0, .int .u32 0, .int .u32 0, .int .u32 0, .int .u32 0, .int .u32 0, .int .u32 0, .int .u32 0, .int .u32 0, .int .u32 0, .int .u32 0, .int .u32 0, .int .u32 0, .int .u32 0, .int .u32 0, .int .u32 0, .int .u32 0, .int .u32 0, .int .u32 0, .int .u32 0, .int .u32 0, .int .u32 0, .int .u32 0, .int .u32 0, .int .u32 0, .int .u32 0, .int .u32 0, .int .u32 0, .int .u32 0, .int .u32 0, .int .u32 0] 106 (0, 0))) := heap_alloc_new w2 _
  have G1 := grew_row w1 (.cells #[.int .u32 0, .int .u32 0, .int .u32 0, .int .u32 0, .int .u32 0, .int .u32 0, .int .u32 0, .int .u32 0, .int .u32 0, .int .u32 0, .int .u32 0, .int .u32 0, .int .u32 0, .int .u32 0, .int .u32 0, .int .u32 0, .int .u32 0, .int .u32 0, .int .u32 0, .int .u32 0, .int .u32 0, .int .u32 0, .int .u32 0, .int .u32 0, .int .u32 0, .int .u32 0, .int .u32 0, .int .u32 0, .int .u32 0, .int .u32 0, .int .u32 0, .int .u32 0, .int .u32 0, .int .u32 0, .int .u32 0, .int .u32 0, .int .u32 0, .int .u32 0, .int .u32 0, .int .u32 0, .int .u32 0, .int .u32 0, .int .u32 0, .int .u32 0, .int .u32 0, .int .u32 0, .int .u32 0, .int .u32 0, .int .u32 0, .int .u32 0, .int .u32 0, .int .u32 0, .int .u32 0, .int .u32 0, .int .u32 0, .int .u32 0, .int .u32 0, .int .u32 0, .int .u32 0, .int .u32 0, .int .u32 0, .int .u32 0, .int .u32 0, .int .u32 0] 106) cs
  have G2 := grew_row w2 (.cells #[.int .u32 0, .int .u32 0, .int .u32 0, .int .u32 0, .int .u32 0, .int .u32 0, .int .u32 0, .int .u32 0, .int .u32 0, .int .u32 0, .int .u32 0, .int .u32 0, .int .u32 0, .int .u32 0, .int .u32 0, .int .u32 0, .int .u32 0, .int .u32 0, .int .u32 0, .int .u32 0, .int .u32 0, .int .u32 0, .int .u32 0, .int .u32 0, .int .u32 0, .int .u32 0, .int .u32 0, .int .u32 0, .int .u32 0, .int .u32 0, .int .u32 0, .int .u32 0, .int .u32 0, .int .u32 0, .int .u32 0, .int .u32 0, .int .u32 0, .int .u32 0, .int .u32 0, .int .u32 0, .int .u32 0, .int .u32 0, .int .u32 0, .int .u32 0, .int .u32 0, .int .u32 0, .int .u32 0, .int .u32 0, .int .u32 0, .int .u32 0, .int .u32 0, .int .u32 0, .int .u32 0, .int .u32 0, .int .u32 0, .int .u32 0, .int .u32 0, .int .u32 0, .int .u32 0, .int .u32 0, .int .u32 0, .int .u32 0, .int .u32 0, .int .u32 0] 106) ks
  have hb2 : Below w.heap.size w w2 := (hb1.grown G1 hb1.size (by simp)).trans (hbb2.mono (Nat.le_trans hb1.size G1.size))
  have hb3 : Below w.heap.size w ((w2.alloc (.cells #[.int .u32 0, .int .u32 0, .int .u32 0, .int .u32 0, .int .u32 0, .int .u32 0, .int .u32 0, .int .u32 0, .int .u32 0, .int .u32 0, .int .u32 0, .int .u32 0, .int .u32 0, .int .u32 0, .int .u32 0, .int .u32 0, .int .u32 0, .int .u32 0, .int .u32 0, .int .u32 0, .int .u32 0, .int .u32 0, .int .u32 0, .int .u32 0, .int .u32 0, .int .u32 0, .int .u32 0, .int .u32 0, .int .u32 0, .int .u32 0, .int .u32 0, .int .u32 0, .int .u32 0, .int .u32 0, .int .u32 0, .int .u32 0, .int .u32 0, .int .u32 0, .int .u32 0, .int .u32 0, .int .u32 0, .int .u32 0, .int .u32 0, .int .u32 0, .int .u32 0, .int .u32 0, .int .u32 0, .int .u32 0, .int .u32 0, .int .u32 0, .int .u32 0, .int .u32 0, .int .u32 0, .int .u32 0, .int .u32 0, .int .u32 0, .int .u32 0, .int .u32 0, .int .u32 0, .int .u32 0, .int .u32 0, .int .u32 0, .int .u32 0, .int .u32 0] 106)).setRow w2.heap.size ks) := hb2.grown G2 hb2.size (by simp)
  have s0 : w.heap.size < w1.heap.size ∧ w.heap.size + 1 < w1.heap.size := by
    have := hbb1.size
    simp at this
    omega
  have s1 : w1.heap.size < w2.heap.size := by
    have := hbb2.size
    simp at this
    omega
  have st : Hid (((w2.alloc (.cells #[.int .u32 0, .int .u32 0, .int .u32 0, .int .u32 0, .int .u32 0, .int .u32 0, .int .u32 0, .int .u32 0, .int .u32 0, .int .u32 0, .int .u32 0, .int .u32 0, .int .u32 0, .int .u32 0, .int .u32 0, .int .u32 0, .int .u32 0, .int .u32 0, .int .u32 0, .int .u32 0, .int .u32 0, .int .u32 0, .int .u32 0, .int .u32 0, .int .u32 0, .int .u32 0, .int .u32 0, .int .u32 0, .int .u32 0, .int .u32 0, .int .u32 0, .int .u32 0, .int .u32 0, .int .u32 0, .int .u32 0, .int .u32 0, .int .u32 0, .int .u32 0, .int .u32 0, .int .u32 0, .int .u32 0, .int .u32 0, .int .u32 0, .int .u32 0, .int .u32 0, .int .u32 0, .int .u32 0, .int .u32 0, .int .u32 0, .int .u32 0, .int .u32 0, .int .u32 0, .int .u32 0, .int .u32 0, .int .u32 0, .int .u32 0, .int .u32 0, .int .u32 0, .int .u32 0, .int .u32 0, .int .u32 0, .int .u32 0, .int .u32 0, .int .u32 0] 106)).setRow w2.heap.size ks).heap[w.heap.size]? = some (.cells #[.int .u32 (a.toNat : Int), .int .u32 (b.toNat : Int), .int .u32 (c.toNat : Int), .int .u32 (d.toNat : Int), .int .u32 (e.toNat : Int), .int .u32 (f.toNat : Int), .int .u32 (g.toNat : Int), .int .u32 (k.toNat : Int)] 36 (0, 0))) :=
    Lib.hid ((G2.block _ (by omega) (by simp)).trans ((hbb2.block _ (by simp; omega)).trans ((G1.block _ s0.1 (by simp)).trans ((hbb1.block _ (by simp; omega)).trans ((heap_alloc_old (w.alloc _) _ (by simp)).trans (heap_alloc_new w _))))))
  have rs : Hid (((w2.alloc (.cells #[.int .u32 0, .int .u32 0, .int .u32 0, .int .u32 0, .int .u32 0, .int .u32 0, .int .u32 0, .int .u32 0, .int .u32 0, .int .u32 0, .int .u32 0, .int .u32 0, .int .u32 0, .int .u32 0, .int .u32 0, .int .u32 0, .int .u32 0, .int .u32 0, .int .u32 0, .int .u32 0, .int .u32 0, .int .u32 0, .int .u32 0, .int .u32 0, .int .u32 0, .int .u32 0, .int .u32 0, .int .u32 0, .int .u32 0, .int .u32 0, .int .u32 0, .int .u32 0, .int .u32 0, .int .u32 0, .int .u32 0, .int .u32 0, .int .u32 0, .int .u32 0, .int .u32 0, .int .u32 0, .int .u32 0, .int .u32 0, .int .u32 0, .int .u32 0, .int .u32 0, .int .u32 0, .int .u32 0, .int .u32 0, .int .u32 0, .int .u32 0, .int .u32 0, .int .u32 0, .int .u32 0, .int .u32 0, .int .u32 0, .int .u32 0, .int .u32 0, .int .u32 0, .int .u32 0, .int .u32 0, .int .u32 0, .int .u32 0, .int .u32 0, .int .u32 0] 106)).setRow w2.heap.size ks).heap[w.heap.size + 1]? = some (.cells #[.int .u32 0, .int .u32 0, .int .u32 0, .int .u32 0, .int .u32 0, .int .u32 0, .int .u32 0, .int .u32 0] 36 (0, 0))) :=
    Lib.hid ((G2.block _ (by omega) (by simp)).trans ((hbb2.block _ (by simp; omega)).trans ((G1.block _ s0.2 (by simp)).trans ((hbb1.block _ (by simp)).trans (heap_alloc2_new w _ _)))))
  have rc : Hid (((w2.alloc (.cells #[.int .u32 0, .int .u32 0, .int .u32 0, .int .u32 0, .int .u32 0, .int .u32 0, .int .u32 0, .int .u32 0, .int .u32 0, .int .u32 0, .int .u32 0, .int .u32 0, .int .u32 0, .int .u32 0, .int .u32 0, .int .u32 0, .int .u32 0, .int .u32 0, .int .u32 0, .int .u32 0, .int .u32 0, .int .u32 0, .int .u32 0, .int .u32 0, .int .u32 0, .int .u32 0, .int .u32 0, .int .u32 0, .int .u32 0, .int .u32 0, .int .u32 0, .int .u32 0, .int .u32 0, .int .u32 0, .int .u32 0, .int .u32 0, .int .u32 0, .int .u32 0, .int .u32 0, .int .u32 0, .int .u32 0, .int .u32 0, .int .u32 0, .int .u32 0, .int .u32 0, .int .u32 0, .int .u32 0, .int .u32 0, .int .u32 0, .int .u32 0, .int .u32 0, .int .u32 0, .int .u32 0, .int .u32 0, .int .u32 0, .int .u32 0, .int .u32 0, .int .u32 0, .int .u32 0, .int .u32 0, .int .u32 0, .int .u32 0, .int .u32 0, .int .u32 0] 106)).setRow w2.heap.size ks).heap[w1.heap.size]? = some (.cells cs 106 (0, 0))) :=
    Lib.hid ((G2.block _ s1 (by simp)).trans ((hbb2.block _ (by simp)).trans (setRow_heap (w1.alloc _) w1.heap.size _ _ _ _ h1.out)))
  have rk : Hid (((w2.alloc (.cells #[.int .u32 0, .int .u32 0, .int .u32 0, .int .u32 0, .int .u32 0, .int .u32 0, .int .u32 0, .int .u32 0, .int .u32 0, .int .u32 0, .int .u32 0, .int .u32 0, .int .u32 0, .int .u32 0, .int .u32 0, .int .u32 0, .int .u32 0, .int .u32 0, .int .u32 0, .int .u32 0, .int .u32 0, .int .u32 0, .int .u32 0, .int .u32 0, .int .u32 0, .int .u32 0, .int .u32 0, .int .u32 0, .int .u32 0, .int .u32 0, .int .u32 0, .int .u32 0, .int .u32 0, .int .u32 0, .int .u32 0, .int .u32 0, .int .u32 0, .int .u32 0, .int .u32 0, .int .u32 0, .int .u32 0, .int .u32 0, .int .u32 0, .int .u32 0, .int .u32 0, .int .u32 0, .int .u32 0, .int .u32 0, .int .u32 0, .int .u32 0, .int .u32 0, .int .u32 0, .int .u32 0, .int .u32 0, .int .u32 0, .int .u32 0, .int .u32 0, .int .u32 0, .int .u32 0, .int .u32 0, .int .u32 0, .int .u32 0, .int .u32 0, .int .u32 0] 106)).setRow w2.heap.size ks).heap[w2.heap.size]? = some (.cells ks 106 (0, 0))) := Lib.hid (setRow_heap (w2.alloc _) w2.heap.size _ _ _ _ h2.out)
  have hz2s : ((w2.alloc (.cells #[.int .u32 0, .int .u32 0, .int .u32 0, .int .u32 0, .int .u32 0, .int .u32 0, .int .u32 0, .int .u32 0, .int .u32 0, .int .u32 0, .int .u32 0, .int .u32 0, .int .u32 0, .int .u32 0, .int .u32 0, .int .u32 0, .int .u32 0, .int .u32 0, .int .u32 0, .int .u32 0, .int .u32 0, .int .u32 0, .int .u32 0, .int .u32 0, .int .u32 0, .int .u32 0, .int .u32 0, .int .u32 0, .int .u32 0, .int .u32 0, .int .u32 0, .int .u32 0, .int .u32 0, .int .u32 0, .int .u32 0, .int .u32 0, .int .u32 0, .int .u32 0, .int .u32 0, .int .u32 0, .int .u32 0, .int .u32 0, .int .u32 0, .int .u32 0, .int .u32 0, .int .u32 0, .int .u32 0, .int .u32 0, .int .u32 0, .int .u32 0, .int .u32 0, .int .u32 0, .int .u32 0, .int .u32 0, .int .u32 0, .int .u32 0, .int .u32 0, .int .u32 0, .int .u32 0, .int .u32 0, .int .u32 0, .int .u32 0, .int .u32 0, .int .u32 0] 106)).setRow w2.heap.size ks).heap.size = w2.heap.size + 1 := by simp
  have st3 : Hid ((((w2.alloc (.cells #[.int .u32 0, .int .u32 0, .int .u32 0, .int .u32 0, .int .u32 0, .int .u32 0, .int .u32 0, .int .u32 0, .int .u32 0, .int .u32 0, .int .u32 0, .int .u32 0, .int .u32 0, .int .u32 0, .int .u32 0, .int .u32 0, .int .u32 0, .int .u32 0, .int .u32 0, .int .u32 0, .int .u32 0, .int .u32 0, .int .u32 0, .int .u32 0, .int .u32 0, .int .u32 0, .int .u32 0, .int .u32 0, .int .u32 0, .int .u32 0, .int .u32 0, .int .u32 0, .int .u32 0, .int .u32 0, .int .u32 0, .int .u32 0, .int .u32 0, .int .u32 0, .int .u32 0, .int .u32 0, .int .u32 0, .int .u32 0, .int .u32 0, .int .u32 0, .int .u32 0, .int .u32 0, .int .u32 0, .int .u32 0, .int .u32 0, .int .u32 0, .int .u32 0, .int .u32 0, .int .u32 0, .int .u32 0, .int .u32 0, .int .u32 0, .int .u32 0, .int .u32 0, .int .u32 0, .int .u32 0, .int .u32 0, .int .u32 0, .int .u32 0, .int .u32 0] 106)).setRow w2.heap.size ks).alloc (.cells #[.int .u32 (a.toNat : Int), .int .u32 (b.toNat : Int), .int .u32 (c.toNat : Int), .int .u32 (d.toNat : Int), .int .u32 (e.toNat : Int), .int .u32 (f.toNat : Int), .int .u32 (g.toNat : Int), .int .u32 (k.toNat : Int)] 36)).heap[w.heap.size]? = some (.cells #[.int .u32 (a.toNat : Int), .int .u32 (b.toNat : Int), .int .u32 (c.toNat : Int), .int .u32 (d.toNat : Int), .int .u32 (e.toNat : Int), .int .u32 (f.toNat : Int), .int .u32 (g.toNat : Int), .int .u32 (k.toNat : Int)] 36 (0, 0))) := Lib.hid ((heap_alloc_old _ _ (by rw [hz2s]; omega)).trans st.out)
  have rs3 : Hid ((((w2.alloc (.cells #[.int .u32 0, .int .u32 0, .int .u32 0, .int .u32 0, .int .u32 0, .int .u32 0, .int .u32 0, .int .u32 0, .int .u32 0, .int .u32 0, .int .u32 0, .int .u32 0, .int .u32 0, .int .u32 0, .int .u32 0, .int .u32 0, .int .u32 0, .int .u32 0, .int .u32 0, .int .u32 0, .int .u32 0, .int .u32 0, .int .u32 0, .int .u32 0, .int .u32 0, .int .u32 0, .int .u32 0, .int .u32 0, .int .u32 0, .int .u32 0, .int .u32 0, .int .u32 0, .int .u32 0, .int .u32 0, .int .u32 0, .int .u32 0, .int .u32 0, .int .u32 0, .int .u32 0, .int .u32 0, .int .u32 0, .int .u32 0, .int .u32 0, .int .u32 0, .int .u32 0, .int .u32 0, .int .u32 0, .int .u32 0, .int .u32 0, .int .u32 0, .int .u32 0, .int .u32 0, .int .u32 0, .int .u32 0, .int .u32 0, .int .u32 0, .int .u32 0, .int .u32 0, .int .u32 0, .int .u32 0, .int .u32 0, .int .u32 0, .int .u32 0, .int .u32 0] 106)).setRow w2.heap.size ks).alloc (.cells #[.int .u32 (a.toNat : Int), .int .u32 (b.toNat : Int), .int .u32 (c.toNat : Int), .int .u32 (d.toNat : Int), .int .u32 (e.toNat : Int), .int .u32 (f.toNat : Int), .int .u32 (g.toNat : Int), .int .u32 (k.toNat : Int)] 36)).heap[w.heap.size + 1]? = some (.cells #[.int .u32 0, .int .u32 0, .int .u32 0, .int .u32 0, .int .u32 0, .int .u32 0, .int .u32 0, .int .u32 0] 36 (0, 0))) := Lib.hid ((heap_alloc_old _ _ (by rw [hz2s]; omega)).trans rs.out)
  have rc3 : Hid ((((w2.alloc (.cells #[.int .u32 0, .int .u32 0, .int .u32 0, .int .u32 0, .int .u32 0, .int .u32 0, .int .u32 0, .int .u32 0, .int .u32 0, .int .u32 0, .int .u32 0, .int .u32 0, .int .u32 0, .int .u32 0, .int .u32 0, .int .u32 0, .int .u32 0, .int .u32 0, .int .u32 0, .int .u32 0, .int .u32 0, .int .u32 0, .int .u32 0, .int .u32 0, .int .u32 0, .int .u32 0, .int .u32 0, .int .u32 0, .int .u32 0, .int .u32 0, .int .u32 0, .int .u32 0, .int .u32 0, .int .u32 0, .int .u32 0, .int .u32 0, .int .u32 0, .int .u32 0, .int .u32 0, .int .u32 0, .int .u32 0, .int .u32 0, .int .u32 0, .int .u32 0, .int .u32 0, .int .u32 0, .int .u32 0, .int .u32 0, .int .u32 0, .int .u32 0, .int .u32 0, .int .u32 0, .int .u32 0, .int .u32 0, .int .u32 0, .int .u32 0, .int .u32 0, .int .u32 0, .int .u32 0, .int .u32 0, .int .u32 0, .int .u32 0, .int .u32 0, .int .u32 0] 106)).setRow w2.heap.size ks).alloc (.cells #[.int .u32 (a.toNat : Int), .int .u32 (b.toNat : Int), .int .u32 (c.toNat : Int), .int .u32 (d.toNat : Int), .int .u32 (e.toNat : Int), .int .u32 (f.toNat : Int), .int .u32 (g.toNat : Int), .int .u32 (k.toNat : Int)] 36)).heap[w1.heap.size]? = some (.cells cs 106 (0, 0))) := Lib.hid ((heap_alloc_old _ _ (by rw [hz2s]; omega)).trans rc.out)
  have rk3 : Hid ((((w2.alloc (.cells #[.int .u32 0, .int .u32 0, .int .u32 0, .int .u32 0, .int .u32 0, .int .u32 0, .int .u32 0, .int .u32 0, .int .u32 0, .int .u32 0, .int .u32 0, .int .u32 0, .int .u32 0, .int .u32 0, .int .u32 0, .int .u32 0, .int .u32 0, .int .u32 0, .int .u32 0, .int .u32 0, .int .u32 0, .int .u32 0, .int .u32 0, .int .u32 0, .int .u32 0, .int .u32 0, .int .u32 0, .int .u32 0, .int .u32 0, .int .u32 0, .int .u32 0, .int .u32 0, .int .u32 0, .int .u32 0, .int .u32 0, .int .u32 0, .int .u32 0, .int .u32 0, .int .u32 0, .int .u32 0, .int .u32 0, .int .u32 0, .int .u32 0, .int .u32 0, .int .u32 0, .int .u32 0, .int .u32 0, .int .u32 0, .int .u32 0, .int .u32 0, .int .u32 0, .int .u32 0, .int .u32 0, .int .u32 0, .int .u32 0, .int .u32 0, .int .u32 0, .int .u32 0, .int .u32 0, .int .u32 0, .int .u32 0, .int .u32 0, .int .u32 0, .int .u32 0] 106)).setRow w2.heap.size ks).alloc (.cells #[.int .u32 (a.toNat : Int), .int .u32 (b.toNat : Int), .int .u32 (c.toNat : Int), .int .u32 (d.toNat : Int), .int .u32 (e.toNat : Int), .int .u32 (f.toNat : Int), .int .u32 (g.toNat : Int), .int .u32 (k.toNat : Int)] 36)).heap[w2.heap.size]? = some (.cells ks 106 (0, 0))) := Lib.hid ((heap_alloc_old _ _ (by rw [hz2s]; omega)).trans rk.out)
  have ra3 : Hid ((((w2.alloc (.cells #[.int .u32 0, .int .u32 0, .int .u32 0, .int .u32 0, .int .u32 0, .int .u32 0, .int .u32 0, .int .u32 0, .int .u32 0, .int .u32 0, .int .u32 0, .int .u32 0, .int .u32 0, .int .u32 0, .int .u32 0, .int .u32 0, .int .u32 0, .int .u32 0, .int .u32 0, .int .u32 0, .int .u32 0, .int .u32 0, .int .u32 0, .int .u32 0, .int .u32 0, .int .u32 0, .int .u32 0, .int .u32 0, .int .u32 0, .int .u32 0, .int .u32 0, .int .u32 0, .int .u32 0, .int .u32 0, .int .u32 0, .int .u32 0, .int .u32 0, .int .u32 0, .int .u32 0, .int .u32 0, .int .u32 0, .int .u32 0, .int .u32 0, .int .u32 0, .int .u32 0, .int .u32 0, .int .u32 0, .int .u32 0, .int .u32 0, .int .u32 0, .int .u32 0, .int .u32 0, .int .u32 0, .int .u32 0, .int .u32 0, .int .u32 0, .int .u32 0, .int .u32 0, .int .u32 0, .int .u32 0, .int .u32 0, .int .u32 0, .int .u32 0, .int .u32 0] 106)).setRow w2.heap.size ks).alloc (.cells #[.int .u32 (a.toNat : Int), .int .u32 (b.toNat : Int), .int .u32 (c.toNat : Int), .int .u32 (d.toNat : Int), .int .u32 (e.toNat : Int), .int .u32 (f.toNat : Int), .int .u32 (g.toNat : Int), .int .u32 (k.toNat : Int)] 36)).heap[w2.heap.size + 1]? = some (.cells #[.int .u32 (a.toNat : Int), .int .u32 (b.toNat : Int), .int .u32 (c.toNat : Int), .int .u32 (d.toNat : Int), .int .u32 (e.toNat : Int), .int .u32 (f.toNat : Int), .int .u32 (g.toNat : Int), .int .u32 (k.toNat : Int)] 36 (0, 0))) := by
    have h := heap_alloc_new ((w2.alloc (.cells #[.int .u32 0, .int .u32 0, .int .u32 0, .int .u32 0, .int .u32 0, .int .u32 0, .int .u32 0, .int .u32 0, .int .u32 0, .int .u32 0, .int .u32 0, .int .u32 0, .int .u32 0, .int .u32 0, .int .u32 0, .int .u32 0, .int .u32 0, .int .u32 0, .int .u32 0, .int .u32 0, .int .u32 0, .int .u32 0, .int .u32 0, .int .u32 0, .int .u32 0, .int .u32 0, .int .u32 0, .int .u32 0, .int .u32 0, .int .u32 0, .int .u32 0, .int .u32 0, .int .u32 0, .int .u32 0, .int .u32 0, .int .u32 0, .int .u32 0, .int .u32 0, .int .u32 0, .int .u32 0, .int .u32 0, .int .u32 0, .int .u32 0, .int .u32 0, .int .u32 0, .int .u32 0, .int .u32 0, .int .u32 0, .int .u32 0, .int .u32 0, .int .u32 0, .int .u32 0, .int .u32 0, .int .u32 0, .int .u32 0, .int .u32 0, .int .u32 0, .int .u32 0, .int .u32 0, .int .u32 0, .int .u32 0, .int .u32 0, .int .u32 0, .int .u32 0] 106)).setRow w2.heap.size ks) (.cells #[.int .u32 (a.toNat : Int), .int .u32 (b.toNat : Int), .int .u32 (c.toNat : Int), .int .u32 (d.toNat : Int), .int .u32 (e.toNat : Int), .int .u32 (f.toNat : Int), .int .u32 (g.toNat : Int), .int .u32 (k.toNat : Int)] 36)
    rw [hz2s] at h
    exact Lib.hid h
  have hb4 : Below w.heap.size w (((w2.alloc (.cells #[.int .u32 0, .int .u32 0, .int .u32 0, .int .u32 0, .int .u32 0, .int .u32 0, .int .u32 0, .int .u32 0, .int .u32 0, .int .u32 0, .int .u32 0, .int .u32 0, .int .u32 0, .int .u32 0, .int .u32 0, .int .u32 0, .int .u32 0, .int .u32 0, .int .u32 0, .int .u32 0, .int .u32 0, .int .u32 0, .int .u32 0, .int .u32 0, .int .u32 0, .int .u32 0, .int .u32 0, .int .u32 0, .int .u32 0, .int .u32 0, .int .u32 0, .int .u32 0, .int .u32 0, .int .u32 0, .int .u32 0, .int .u32 0, .int .u32 0, .int .u32 0, .int .u32 0, .int .u32 0, .int .u32 0, .int .u32 0, .int .u32 0, .int .u32 0, .int .u32 0, .int .u32 0, .int .u32 0, .int .u32 0, .int .u32 0, .int .u32 0, .int .u32 0, .int .u32 0, .int .u32 0, .int .u32 0, .int .u32 0, .int .u32 0, .int .u32 0, .int .u32 0, .int .u32 0, .int .u32 0, .int .u32 0, .int .u32 0, .int .u32 0, .int .u32 0] 106)).setRow w2.heap.size ks).alloc (.cells #[.int .u32 (a.toNat : Int), .int .u32 (b.toNat : Int), .int .u32 (c.toNat : Int), .int .u32 (d.toNat : Int), .int .u32 (e.toNat : Int), .int .u32 (f.toNat : Int), .int .u32 (g.toNat : Int), .int .u32 (k.toNat : Int)] 36)) := hb3.alloc hb3.size _
  have H3 := Lib.hid hb4
  have hi8 : Hid ((Try.prog.info? 36).map (·.size) = some (#[.int .u32 (a.toNat : Int), .int .u32 (b.toNat : Int), .int .u32 (c.toNat : Int), .int .u32 (d.toNat : Int), .int .u32 (e.toNat : Int), .int .u32 (f.toNat : Int), .int .u32 (g.toNat : Int), .int .u32 (k.toNat : Int)] : Array Value).size) := by show _ = _; kernel_rfl
  clear hb4 hz2s rs rc rk G1 G2 hb2 hb3 hb1 hbb1 hbb2 hb0 C0 c1 h1
  go_wp2_with (first
    | (with_reducible refine wpList_load_row rfl 36 (.tmp 2) rfl w.heap.size rfl 36 _ (0, 0) _ st.out u32arr rfl hi8.out ?_)
    | with_reducible refine wpList_store_row rfl 106 (.tmp 6) (.tmp 12) rfl w2.heap.size ks rfl rfl 106 _ h2.out hi2.out hz2.out hone2.out ?_)
  clear st h2
  go_loopw [14] (fun i wr => ∃ j : Nat, j ≤ 64 ∧ i = .int .i64 j ∧ Hid (Below w.heap.size w wr)
    ∧ Hid (wr.heap[w.heap.size]? = some (.cells #[.int .u32 (a.toNat : Int), .int .u32 (b.toNat : Int), .int .u32 (c.toNat : Int), .int .u32 (d.toNat : Int), .int .u32 (e.toNat : Int), .int .u32 (f.toNat : Int), .int .u32 (g.toNat : Int), .int .u32 (k.toNat : Int)] 36 (0, 0))) ∧ Hid (wr.heap[w.heap.size + 1]? = some (.cells #[.int .u32 0, .int .u32 0, .int .u32 0, .int .u32 0, .int .u32 0, .int .u32 0, .int .u32 0, .int .u32 0] 36 (0, 0)))
    ∧ Hid (wr.heap[w1.heap.size]? = some (.cells cs 106 (0, 0))) ∧ Hid (wr.heap[w2.heap.size]? = some (.cells ks 106 (0, 0)))
    ∧ ∃ a1 b1 c1 d1 e1 f1 g1 k1 : UInt32, Hid (wr.heap[w2.heap.size + 1]? = some (.cells #[.int .u32 (a1.toNat : Int), .int .u32 (b1.toNat : Int), .int .u32 (c1.toNat : Int), .int .u32 (d1.toNat : Int), .int .u32 (e1.toNat : Int), .int .u32 (f1.toNat : Int), .int .u32 (g1.toNat : Int), .int .u32 (k1.toNat : Int)] 36 (0, 0))) ∧ Hid ([a1, b1, c1, d1, e1, f1, g1, k1] = roundsL [a, b, c, d, e, f, g, k] (schedL l 48) j)) (fun i _ => 64 - (intOf i).toNat)
  case atStart => exact ⟨0, Nat.zero_le _, rfl, H3, st3, rs3, rc3, rk3, a, b, c, d, e, f, g, k, ra3, rfl⟩
  case round =>
    obtain ⟨j, hj, rfl, hbe, st, rs, rc, rk, a1, b1, c1, d1, e1, f1, g1, k1, ra, hro⟩ := hrel
    clear H3 st3 rs3 rc3 rk3 ra3
    by_cases hlt : j < 64
    · have hj0 : (0 : Int) ≤ (j : Int) := Int.natCast_nonneg _
      have hj1 : (j : Int) < 64 := by omega
      obtain ⟨y, hy⟩ : ∃ y : UInt32, y = constL.getD j 0 := ⟨_, rfl⟩
      obtain ⟨x, hx⟩ : ∃ x : UInt32, x = (schedL l 48).getD j 0 := ⟨_, rfl⟩
      have fy : wr.drew.cell? ⟨w2.heap.size, j, none⟩ = some (.int .u32 (y.toNat : Int)) := by
        show wr.cell? _ = _
        have hl : j < constL.length := hlt
        rw [cell_of_row _ _ j _ _ _ rk.out, HKS.out, hy]
        simp [hl, vw]
      have fx : wr.drew.cell? ⟨w1.heap.size, j, none⟩ = some (.int .u32 (x.toNat : Int)) := by
        show wr.cell? _ = _
        have hl : j < (schedL l 48).length := by rw [schedL_len]; exact hlt
        rw [cell_of_row _ _ j _ _ _ rc.out, HCS.out, hx]
        simp [hl, vw]
      have q0 : wr.drew.cell? ⟨w2.heap.size + 1, 0, none⟩ = some (.int .u32 (a1.toNat : Int)) := by
        show wr.cell? _ = _
        rw [cell_of_row _ _ 0 _ _ _ ra.out]; rfl
      have q1 : wr.drew.cell? ⟨w2.heap.size + 1, 1, none⟩ = some (.int .u32 (b1.toNat : Int)) := by
        show wr.cell? _ = _
        rw [cell_of_row _ _ 1 _ _ _ ra.out]; rfl
      have q2 : wr.drew.cell? ⟨w2.heap.size + 1, 2, none⟩ = some (.int .u32 (c1.toNat : Int)) := by
        show wr.cell? _ = _
        rw [cell_of_row _ _ 2 _ _ _ ra.out]; rfl
      have q3 : wr.drew.cell? ⟨w2.heap.size + 1, 3, none⟩ = some (.int .u32 (d1.toNat : Int)) := by
        show wr.cell? _ = _
        rw [cell_of_row _ _ 3 _ _ _ ra.out]; rfl
      have q4 : wr.drew.cell? ⟨w2.heap.size + 1, 4, none⟩ = some (.int .u32 (e1.toNat : Int)) := by
        show wr.cell? _ = _
        rw [cell_of_row _ _ 4 _ _ _ ra.out]; rfl
      have q5 : wr.drew.cell? ⟨w2.heap.size + 1, 5, none⟩ = some (.int .u32 (f1.toNat : Int)) := by
        show wr.cell? _ = _
        rw [cell_of_row _ _ 5 _ _ _ ra.out]; rfl
      have q6 : wr.drew.cell? ⟨w2.heap.size + 1, 6, none⟩ = some (.int .u32 (g1.toNat : Int)) := by
        show wr.cell? _ = _
        rw [cell_of_row _ _ 6 _ _ _ ra.out]; rfl
      have q7 : wr.drew.cell? ⟨w2.heap.size + 1, 7, none⟩ = some (.int .u32 (k1.toNat : Int)) := by
        show wr.cell? _ = _
        rw [cell_of_row _ _ 7 _ _ _ ra.out]; rfl
      obtain ⟨r0, r4, hrd⟩ : ∃ r0 r4, rndL a1 b1 c1 d1 e1 f1 g1 k1 (y + x) = [r0, a1, b1, c1, r4, e1, f1, g1] := ⟨_, _, rfl⟩
      have cr : Hid (∀ W, Calls Try.prog 80 #[.agg #[.int .u32 (a1.toNat : Int), .int .u32 (b1.toNat : Int), .int .u32 (c1.toNat : Int), .int .u32 (d1.toNat : Int), .int .u32 (e1.toNat : Int), .int .u32 (f1.toNat : Int), .int .u32 (g1.toNat : Int), .int .u32 (k1.toNat : Int)], .int .u32 (IntKind.u32.wrap ((y.toNat : Int) + (x.toNat : Int)))] W fun ex w' => ex = .returned (.agg #[.int .u32 (r0.toNat : Int), .int .u32 (a1.toNat : Int), .int .u32 (b1.toNat : Int), .int .u32 (c1.toNat : Int), .int .u32 (r4.toNat : Int), .int .u32 (e1.toNat : Int), .int .u32 (f1.toNat : Int), .int .u32 (g1.toNat : Int)]) ∧ Below W.heap.size W w') := by
        have h := fun W => round_any a1 b1 c1 d1 e1 f1 g1 k1 (y + x) W
        rw [hrd] at h
        show ∀ W, _
        rw [w_add]
        exact h
      have hstep : Hid ([r0, a1, b1, c1, r4, e1, f1, g1] = roundsL [a, b, c, d, e, f, g, k] (schedL l 48) (j + 1)) := by
        show _ = _
        rw [roundsL, ← hro.out, ← hy, ← hx, stepR, hrd]
      have hG : w2.heap.size + 1 < wr.drew.heap.size := (Array.getElem?_eq_some_iff.1 ra.out).1
      clear hx hy hrd
      go_wp2_with fail
      go_region_with (go_at_call 80; refine (cr.out _).mono ?_; rintro ex wn ⟨rfl, hbn⟩; have hrn : wn.heap[w2.heap.size + 1]? = some (.cells #[.int .u32 (a1.toNat : Int), .int .u32 (b1.toNat : Int), .int .u32 (c1.toNat : Int), .int .u32 (d1.toNat : Int), .int .u32 (e1.toNat : Int), .int .u32 (f1.toNat : Int), .int .u32 (g1.toNat : Int), .int .u32 (k1.toNat : Int)] 36 (0, 0)) := (hbn.block _ hG).trans ra.out; have n0 : wn.cell? ⟨w2.heap.size + 1, 0, none⟩ = some (.int .u32 (a1.toNat : Int)) := (by rw [cell_of_row _ _ 0 _ _ _ hrn]; rfl); have n1 : wn.cell? ⟨w2.heap.size + 1, 1, none⟩ = some (.int .u32 (b1.toNat : Int)) := (by rw [cell_of_row _ _ 1 _ _ _ hrn]; rfl); have n2 : wn.cell? ⟨w2.heap.size + 1, 2, none⟩ = some (.int .u32 (c1.toNat : Int)) := (by rw [cell_of_row _ _ 2 _ _ _ hrn]; rfl); have n3 : wn.cell? ⟨w2.heap.size + 1, 3, none⟩ = some (.int .u32 (d1.toNat : Int)) := (by rw [cell_of_row _ _ 3 _ _ _ hrn]; rfl); have n4 : wn.cell? ⟨w2.heap.size + 1, 4, none⟩ = some (.int .u32 (e1.toNat : Int)) := (by rw [cell_of_row _ _ 4 _ _ _ hrn]; rfl); have n5 : wn.cell? ⟨w2.heap.size + 1, 5, none⟩ = some (.int .u32 (f1.toNat : Int)) := (by rw [cell_of_row _ _ 5 _ _ _ hrn]; rfl); have n6 : wn.cell? ⟨w2.heap.size + 1, 6, none⟩ = some (.int .u32 (g1.toNat : Int)) := (by rw [cell_of_row _ _ 6 _ _ _ hrn]; rfl); have n7 : wn.cell? ⟨w2.heap.size + 1, 7, none⟩ = some (.int .u32 (k1.toNat : Int)) := (by rw [cell_of_row _ _ 7 _ _ _ hrn]; rfl); have z0 : wn.frozen? ⟨w2.heap.size + 1, 0, none⟩ = false := frozen_of_row _ _ 0 _ _ hrn; have z1 : wn.frozen? ⟨w2.heap.size + 1, 1, none⟩ = false := frozen_of_row _ _ 1 _ _ hrn; have z2 : wn.frozen? ⟨w2.heap.size + 1, 2, none⟩ = false := frozen_of_row _ _ 2 _ _ hrn; have z3 : wn.frozen? ⟨w2.heap.size + 1, 3, none⟩ = false := frozen_of_row _ _ 3 _ _ hrn; have z4 : wn.frozen? ⟨w2.heap.size + 1, 4, none⟩ = false := frozen_of_row _ _ 4 _ _ hrn; have z5 : wn.frozen? ⟨w2.heap.size + 1, 5, none⟩ = false := frozen_of_row _ _ 5 _ _ hrn; have z6 : wn.frozen? ⟨w2.heap.size + 1, 6, none⟩ = false := frozen_of_row _ _ 6 _ _ hrn; have z7 : wn.frozen? ⟨w2.heap.size + 1, 7, none⟩ = false := frozen_of_row _ _ 7 _ _ hrn)
      all_goals
        have hG' : w2.heap.size + 1 < wr.heap.size := hG
        have hn' : wr.heap.size ≤ wn.heap.size := hbn.size
        have hrow : Hid ((wn.setCells (w2.heap.size + 1) 0 [.int .u32 (r0.toNat : Int), .int .u32 (a1.toNat : Int), .int .u32 (b1.toNat : Int), .int .u32 (c1.toNat : Int), .int .u32 (r4.toNat : Int), .int .u32 (e1.toNat : Int), .int .u32 (f1.toNat : Int), .int .u32 (g1.toNat : Int)]).heap[w2.heap.size + 1]? = some (.cells #[.int .u32 (r0.toNat : Int), .int .u32 (a1.toNat : Int), .int .u32 (b1.toNat : Int), .int .u32 (c1.toNat : Int), .int .u32 (r4.toNat : Int), .int .u32 (e1.toNat : Int), .int .u32 (f1.toNat : Int), .int .u32 (g1.toNat : Int)] 36 (0, 0))) := Lib.hid (setCells_whole hrn rfl)
        have hgr := setCells_grown (w2.heap.size + 1) [.int .u32 (r0.toNat : Int), .int .u32 (a1.toNat : Int), .int .u32 (b1.toNat : Int), .int .u32 (c1.toNat : Int), .int .u32 (r4.toNat : Int), .int .u32 (e1.toNat : Int), .int .u32 (f1.toNat : Int), .int .u32 (g1.toNat : Int)] 0 wn
        have hbn' : Below w.heap.size w wn := hbe.out.drew.trans (hbn.mono hbe.out.size)
        have hnb : Below w.heap.size w (wn.setCells (w2.heap.size + 1) 0 [.int .u32 (r0.toNat : Int), .int .u32 (a1.toNat : Int), .int .u32 (b1.toNat : Int), .int .u32 (c1.toNat : Int), .int .u32 (r4.toNat : Int), .int .u32 (e1.toNat : Int), .int .u32 (f1.toNat : Int), .int .u32 (g1.toNat : Int)]) := hbn'.grown hgr hbn'.size (fun j hj => by simp only [Option.some.injEq] at hj; have := hbe.out.size; omega)
        have HNB := Lib.hid hnb
        have st' : Hid ((wn.setCells (w2.heap.size + 1) 0 [.int .u32 (r0.toNat : Int), .int .u32 (a1.toNat : Int), .int .u32 (b1.toNat : Int), .int .u32 (c1.toNat : Int), .int .u32 (r4.toNat : Int), .int .u32 (e1.toNat : Int), .int .u32 (f1.toNat : Int), .int .u32 (g1.toNat : Int)]).heap[w.heap.size]? = some (.cells #[.int .u32 (a.toNat : Int), .int .u32 (b.toNat : Int), .int .u32 (c.toNat : Int), .int .u32 (d.toNat : Int), .int .u32 (e.toNat : Int), .int .u32 (f.toNat : Int), .int .u32 (g.toNat : Int), .int .u32 (k.toNat : Int)] 36 (0, 0))) := Lib.hid ((hgr.block _ (by have := hbn'.size; omega) (by simp; omega)).trans ((hbn.block _ (by show _ < wr.heap.size; omega)).trans st.out))
        have rs' : Hid ((wn.setCells (w2.heap.size + 1) 0 [.int .u32 (r0.toNat : Int), .int .u32 (a1.toNat : Int), .int .u32 (b1.toNat : Int), .int .u32 (c1.toNat : Int), .int .u32 (r4.toNat : Int), .int .u32 (e1.toNat : Int), .int .u32 (f1.toNat : Int), .int .u32 (g1.toNat : Int)]).heap[w.heap.size + 1]? = some (.cells #[.int .u32 0, .int .u32 0, .int .u32 0, .int .u32 0, .int .u32 0, .int .u32 0, .int .u32 0, .int .u32 0] 36 (0, 0))) := Lib.hid ((hgr.block _ (by omega) (by simp; omega)).trans ((hbn.block _ (by show _ < wr.heap.size; omega)).trans rs.out))
        have rc' : Hid ((wn.setCells (w2.heap.size + 1) 0 [.int .u32 (r0.toNat : Int), .int .u32 (a1.toNat : Int), .int .u32 (b1.toNat : Int), .int .u32 (c1.toNat : Int), .int .u32 (r4.toNat : Int), .int .u32 (e1.toNat : Int), .int .u32 (f1.toNat : Int), .int .u32 (g1.toNat : Int)]).heap[w1.heap.size]? = some (.cells cs 106 (0, 0))) := Lib.hid ((hgr.block _ (by omega) (by simp; omega)).trans ((hbn.block _ (by show _ < wr.heap.size; omega)).trans rc.out))
        have rk' : Hid ((wn.setCells (w2.heap.size + 1) 0 [.int .u32 (r0.toNat : Int), .int .u32 (a1.toNat : Int), .int .u32 (b1.toNat : Int), .int .u32 (c1.toNat : Int), .int .u32 (r4.toNat : Int), .int .u32 (e1.toNat : Int), .int .u32 (f1.toNat : Int), .int .u32 (g1.toNat : Int)]).heap[w2.heap.size]? = some (.cells ks 106 (0, 0))) := Lib.hid ((hgr.block _ (by omega) (by simp)).trans ((hbn.block _ (by show _ < wr.heap.size; omega)).trans rk.out))
        clear hrn hgr hnb hbn' hbn st rs rc rk ra n0 n1 n2 n3 n4 n5 n6 n7 z0 z1 z2 z3 z4 z5 z6 z7
        go_wp2
        go_roundw
        case rel => exact ⟨j + 1, by omega, by go_num, HNB, st', rs', rc', rk', r0, a1, b1, c1, r4, e1, f1, g1, hrow, hstep⟩
        case measure => simp [intOf]; omega
    · obtain rfl : j = 64 := by omega
      clear hlt hj
      have sw : Hid (Ws wr w.heap.size 36 [a, b, c, d, e, f, g, k]) := st
      have aw : Hid (Ws wr (w2.heap.size + 1) 36 (addUp [a1, b1, c1, d1, e1, f1, g1, k1] [a, b, c, d, e, f, g, k] 0)) := ra
      have hsz : w.heap.size < w2.heap.size ∧ w.heap.size + 1 < w2.heap.size := by omega
      clear st ra rc rk HCS HKS hi1 hi2 hz1 hz2 hone1 hone2 hcz hkz
      go_wp2_with fail
      go_loopw [27] (fun i wr => ∃ j : Nat, j ≤ 8 ∧ i = .int .i64 j ∧ Hid (Below w.heap.size w wr) ∧ Hid (Ws wr w.heap.size 36 [a, b, c, d, e, f, g, k]) ∧ Hid (wr.heap[w.heap.size + 1]? = some (.cells #[.int .u32 0, .int .u32 0, .int .u32 0, .int .u32 0, .int .u32 0, .int .u32 0, .int .u32 0, .int .u32 0] 36 (0, 0)))
        ∧ Hid (Ws wr (w2.heap.size + 1) 36 (addUp [a1, b1, c1, d1, e1, f1, g1, k1] [a, b, c, d, e, f, g, k] j))) (fun i _ => 8 - (intOf i).toNat)
      case atStart => exact ⟨0, Nat.zero_le _, rfl, hbe, sw, rs, aw⟩
      case round =>
        obtain ⟨j, hj, rfl, hbe, sw, rs, aw⟩ := hrel
        by_cases hlt : j < 8
        · have hj0 : (0 : Int) ≤ (j : Int) := Int.natCast_nonneg _
          have hj1 : (j : Int) < 8 := by omega
          have hlen := addUp_len [a1, b1, c1, d1, e1, f1, g1, k1] [a, b, c, d, e, f, g, k] j
          obtain ⟨U, hU⟩ : ∃ U, U = addUp [a1, b1, c1, d1, e1, f1, g1, k1] [a, b, c, d, e, f, g, k] j := ⟨_, rfl⟩
          rw [← hU] at aw hlen
          have hUl : j < U.length := by rw [hlen]; exact hlt
          have hVl : j < [a, b, c, d, e, f, g, k].length := hlt
          obtain ⟨x, hx⟩ : ∃ x : UInt32, x = U[j] := ⟨_, rfl⟩
          obtain ⟨y, hy⟩ : ∃ y : UInt32, y = [a, b, c, d, e, f, g, k][j] := ⟨_, rfl⟩
          obtain ⟨q1, q2, q3⟩ := aw.out.at_ hUl
          obtain ⟨p1, _, _⟩ := sw.out.at_ hVl
          rw [← hx] at q1
          rw [← hy] at p1
          have E1 : wr.drew.cell? ⟨w2.heap.size + 1, j, none⟩ = some (.int .u32 (x.toNat : Int)) := q1
          have E2 : wr.drew.cell? ⟨w.heap.size, j, none⟩ = some (.int .u32 (y.toNat : Int)) := p1
          have E3 : wr.drew.frozen? ⟨w2.heap.size + 1, j, none⟩ = false := q2
          have hnew := q3 (x + y)
          have hset : U.set j (x + y) = addUp [a1, b1, c1, d1, e1, f1, g1, k1] [a, b, c, d, e, f, g, k] (j + 1) := by
            rw [addUp, ← hU, hx, hy]
            simp only [List.getD_eq_getElem?_getD, List.getElem?_eq_getElem hUl, List.getElem?_eq_getElem hVl, Option.getD_some]
          rw [hset] at hnew
          have HN := Lib.hid hnew
          have hgr : ∀ v, Hid (wr.grownBy (wr.setCell ⟨w2.heap.size + 1, j, none⟩ v) (some (w2.heap.size + 1))) := fun v => Lib.hid (setCell_grown wr (w2.heap.size + 1) j v)
          have hb2 : Hid (∀ v, Below w.heap.size w (wr.setCell ⟨w2.heap.size + 1, j, none⟩ v)) := Lib.hid (fun v => hbe.out.grown (hgr v).out hbe.out.size (fun i hi => by simp only [Option.some.injEq] at hi; omega))
          have sw2 : Hid (∀ v, Ws (wr.setCell ⟨w2.heap.size + 1, j, none⟩ v) w.heap.size 36 [a, b, c, d, e, f, g, k]) := Lib.hid (fun v => sw.out.grown (hgr v).out (by simp; omega))
          have rs2 : Hid (∀ v, (wr.setCell ⟨w2.heap.size + 1, j, none⟩ v).heap[w.heap.size + 1]? = some (.cells #[.int .u32 0, .int .u32 0, .int .u32 0, .int .u32 0, .int .u32 0, .int .u32 0, .int .u32 0, .int .u32 0] 36 (0, 0))) := Lib.hid (fun v => ((hgr v).out.block _ (Array.getElem?_eq_some_iff.1 rs.out).1 (by simp; omega)).trans rs.out)
          clear hgr hnew hset q1 q2 q3 p1 hx hy hU hlen hVl hUl aw sw rs hbe
          go_wp2_with fail
          go_region_with fail
          all_goals
            go_wp2
            go_roundw
            case rel =>
              refine ⟨_, _, _, _, _, _, _, _, _, _, _, _, _, ⟨j + 1, by omega, ?_, Lib.hid (hb2.out _).drew, Lib.hid (sw2.out _), Lib.hid (rs2.out _), ?_⟩, rfl⟩
              · go_num
              · rw [w_addm]; exact HN
            case measure => simp [intOf]; omega
        · obtain rfl : j = 8 := by omega
          clear hlt hj
          obtain ⟨U, hU⟩ : ∃ U, U = addUp [a1, b1, c1, d1, e1, f1, g1, k1] [a, b, c, d, e, f, g, k] 8 := ⟨_, rfl⟩
          rw [← hU] at aw
          have hUl : U.length = 8 := by rw [hU, addUp_len]; rfl
          obtain ⟨us, hus⟩ : ∃ us : Array Value, us = (U.map vw).toArray := ⟨_, rfl⟩
          have aw2 : Hid (wr.heap[w2.heap.size + 1]? = some (.cells us 36 (0, 0))) := by rw [hus]; exact aw
          have husz : us.size = 8 := by rw [hus]; simp [hUl]
          have hone : us.all (·.oneCell') = true := by
            rw [hus, Array.all_eq_true_iff_forall_mem]
            intro u hu
            simp only [List.mem_toArray, List.mem_map] at hu
            obtain ⟨x, _, rfl⟩ := hu
            rfl
          have HONE := Lib.hid hone
          have hi : Hid ((Try.prog.info? 36).map (·.size) = some us.size) := by rw [husz]; show _ = _; kernel_rfl
          have ho : Hid ((#[.int .u32 0, .int .u32 0, .int .u32 0, .int .u32 0, .int .u32 0, .int .u32 0, .int .u32 0, .int .u32 0] : Array Value).size = us.size) := by show _ = _; rw [husz]; rfl
          have hbe3 : Below w.heap.size w (wr.setRow (w.heap.size + 1) us) := hbe.out.grown (row := some (w.heap.size + 1)) ⟨rfl, rfl, rfl, by simp, fun j _ hj => setRow_other wr (w.heap.size + 1) j _ (fun e => hj (by rw [e]))⟩ hbe.out.size (fun j hj => by simp only [Option.some.injEq] at hj; omega)
          have HUS := Lib.hid hus
          have hfin : Hid (agg U = agg (compL [a, b, c, d, e, f, g, k] l)) := by show _ = _; rw [compL, ← hro.out, hU]
          clear hus husz hone hU hUl aw sw hbe hro
          go_wp2_with (first
            | (with_reducible refine wpList_load_row rfl 36 (.tmp 7) rfl (w2.heap.size + 1) rfl 36 us (0, 0) _ aw2.out u32arr rfl hi.out ?_)
            | (with_reducible refine wpList_store_row rfl 36 (.tmp 4) (.tmp 39) rfl (w.heap.size + 1) us rfl rfl 36 _ rs.out hi.out ho.out HONE.out ?_))
          (try simp only [Exit.inBlock, Exit.then])
          refine bodyPost_ret (results_cell_row rfl _ _ (w.heap.size + 1) 36 us (0, 0) _ rfl (setRow_heap wr (w.heap.size + 1) _ _ _ _ rs.out) u32arr rfl hi.out) rfl ?_
          exact ⟨by rw [← hfin.out, HUS.out]; rfl, hbe3⟩
end Go.Proofs.Ytifgigpflfdmfaa
