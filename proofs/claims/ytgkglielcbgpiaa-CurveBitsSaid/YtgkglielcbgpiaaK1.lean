/- curve's Clamp. -/
import Derived.Test.YtgkglielcbgpiaaL0
import Derived.Laws.Cover3
namespace Go.Proofs.Ytgkglielcbgpiaa
open Go.RowKit

theorem results_cell_tmp {P : Program} {fn : Func} {p q : Tmp} {ty : TypeId} (h : fn.results = #[.cell p ty, .tmp q]) (tmps : Array Value) (w : World) (g : Nat) (t : TypeId) (cs : Array Value) (fr : Nat × Nat) (d : TypeDesc) (v : Value)
    (hp : tmps.getD p undef = .pointer (some ⟨g, 0, none⟩)) (hq : tmps.getD q undef = v) (hg : w.heap[g]? = some (.cells cs t fr))
    (hu : P.underlying ty = some d) (hd : (match d with | .struct _ | .array _ _ => true | _ => false) = true) (hi : (P.info? ty).map (·.size) = some cs.size) :
    (results fn tmps).run P w = .ok (.tuple #[.agg cs, v]) w := by
  have hp' : tmps[p]?.getD undef = .pointer (some ⟨g, 0, none⟩) := by simpa using hp
  have hq' : tmps[q]?.getD undef = v := by simpa using hq
  simp [results, h, hp', hq', asAddr, run_loadVar_row w g t ty cs fr d hg hu hd hi]
/-- the scalar with its fixed bits -/
def clampL (l : List UInt8) : List UInt8 := (l.set 0 (UInt8.ofNat ((l.getD 0 0).toNat / 8 * 8))).set 31 (UInt8.ofNat ((l.getD 31 0).toNat % 64 + 64))
theorem clampL_len (l : List UInt8) : (clampL l).length = l.length := by simp [clampL]
theorem bits_a : ∀ x : Fin 256, bits .andNot .u8 ((x.val : Nat) : Int) 7 = ((x.val / 8 * 8 : Nat) : Int) := by decide +kernel
theorem bits_c : ∀ x : Fin 256, bits .andNot .u8 ((x.val : Nat) : Int) 128 = ((x.val % 128 : Nat) : Int) := by decide +kernel
theorem u8n {n : Nat} (h : n < 256) : ((UInt8.ofNat n).toNat : Int) = (n : Int) := by rw [UInt8.toNat_ofNat']; omega
theorem bits_b : ∀ x : Fin 256, bits .or .u8 (bits .andNot .u8 ((x.val : Nat) : Int) 128) 64 = ((x.val % 64 + 64 : Nat) : Int) := by decide +kernel

set_option maxRecDepth 100000 in
set_option maxHeartbeats 4000000 in
theorem clamp_ok {l : List UInt8} {v : Value} {w : World} (hb : Bs w w.heap.size v l) (hl : l.length = 32) : Calls Try.prog 30 #[v] w fun e w' => e = .returned (.tuple #[.agg ((clampL l).map vb).toArray, .int .i64 0]) ∧ Below w.heap.size w w' := by
  obtain ⟨A, c, rfl, h1, h2, h3⟩ := hb
  unfold maxLen at h2
  obtain ⟨b, off, rfl, hbl, hcell⟩ := h3 (by omega)
  rw [hl] at h1 ⊢
  obtain ⟨cs, hcs⟩ : ∃ cs, cs = l.map vb := ⟨_, rfl⟩
  have hcl : cs.length = 32 := by rw [hcs]; simpa using hl
  have hrg : w.rangeAt b off cs := by
    intro j v hv
    have hj : j < l.length := by have := (List.getElem?_eq_some_iff.1 hv).1; rw [hcs] at this; simpa using this
    rw [hcell j hj, ← hv, hcs, List.getElem?_map, List.getElem?_eq_getElem hj]
    rfl
  have HRG := Lib.hid hrg; have HCS := Lib.hid hcs; have HL := Lib.hid hl; have HCL := Lib.hid hcl
  clear h3 hcell hrg hcs hl hcl
  go_enter Try.func30, Try.ntmps30
  have hat : ∀ w, (Instr.arrayAt 50 (.slice (some ⟨b, off, none⟩) 32 c)).run Try.prog w = .ok (.pointer (some ⟨b, off, none⟩)) w := fun w => run_arrayAt w 50 _ 32 _ 32 c Try.underlying50 (Nat.le_refl _)
  have hal : Below w.heap.size w (w.alloc (.cells #[.int .u8 0, .int .u8 0, .int .u8 0, .int .u8 0, .int .u8 0, .int .u8 0, .int .u8 0, .int .u8 0, .int .u8 0, .int .u8 0, .int .u8 0, .int .u8 0, .int .u8 0, .int .u8 0, .int .u8 0, .int .u8 0, .int .u8 0, .int .u8 0, .int .u8 0, .int .u8 0, .int .u8 0, .int .u8 0, .int .u8 0, .int .u8 0, .int .u8 0, .int .u8 0, .int .u8 0, .int .u8 0, .int .u8 0, .int .u8 0, .int .u8 0, .int .u8 0] 50)) := (Below.refl _ _).alloc (Nat.le_refl _) _
  have HR2 := Lib.hid (fun j v hv => (hal.cell (p := ⟨b, off + j, none⟩) hbl).trans (HRG.out j v hv) : (w.alloc (.cells #[.int .u8 0, .int .u8 0, .int .u8 0, .int .u8 0, .int .u8 0, .int .u8 0, .int .u8 0, .int .u8 0, .int .u8 0, .int .u8 0, .int .u8 0, .int .u8 0, .int .u8 0, .int .u8 0, .int .u8 0, .int .u8 0, .int .u8 0, .int .u8 0, .int .u8 0, .int .u8 0, .int .u8 0, .int .u8 0, .int .u8 0, .int .u8 0, .int .u8 0, .int .u8 0, .int .u8 0, .int .u8 0, .int .u8 0, .int .u8 0, .int .u8 0, .int .u8 0] 50)).rangeAt b off cs)
  have HI := Lib.hid (show (Try.prog.info? 50).map (·.size) = some cs.length by rw [HCL.out]; show _ = _; kernel_rfl)
  obtain ⟨us, hus⟩ : ∃ us, us = cs.toArray := ⟨_, rfl⟩
  have husz : us.size = 32 := by rw [hus]; simpa using HCL.out
  have hone : Hid (us.all (·.oneCell') = true) := by rw [hus, HCS.out]; exact Lib.hid (one_bytes _)
  have hi : Hid ((Try.prog.info? 50).map (·.size) = some us.size) := by rw [husz]; exact Lib.hid (by show _ = _; kernel_rfl)
  have ho : Hid ((#[.int .u8 0, .int .u8 0, .int .u8 0, .int .u8 0, .int .u8 0, .int .u8 0, .int .u8 0, .int .u8 0, .int .u8 0, .int .u8 0, .int .u8 0, .int .u8 0, .int .u8 0, .int .u8 0, .int .u8 0, .int .u8 0, .int .u8 0, .int .u8 0, .int .u8 0, .int .u8 0, .int .u8 0, .int .u8 0, .int .u8 0, .int .u8 0, .int .u8 0, .int .u8 0, .int .u8 0, .int .u8 0, .int .u8 0, .int .u8 0, .int .u8 0, .int .u8 0] : Array Value).size = us.size) := by rw [husz]; exact Lib.hid (by show _ = _; rfl)
  have hz : Hid (((w.alloc (.cells #[.int .u8 0, .int .u8 0, .int .u8 0, .int .u8 0, .int .u8 0, .int .u8 0, .int .u8 0, .int .u8 0, .int .u8 0, .int .u8 0, .int .u8 0, .int .u8 0, .int .u8 0, .int .u8 0, .int .u8 0, .int .u8 0, .int .u8 0, .int .u8 0, .int .u8 0, .int .u8 0, .int .u8 0, .int .u8 0, .int .u8 0, .int .u8 0, .int .u8 0, .int .u8 0, .int .u8 0, .int .u8 0, .int .u8 0, .int .u8 0, .int .u8 0, .int .u8 0] 50)).alloc (.cells #[.int .u8 0, .int .u8 0, .int .u8 0, .int .u8 0, .int .u8 0, .int .u8 0, .int .u8 0, .int .u8 0, .int .u8 0, .int .u8 0, .int .u8 0, .int .u8 0, .int .u8 0, .int .u8 0, .int .u8 0, .int .u8 0, .int .u8 0, .int .u8 0, .int .u8 0, .int .u8 0, .int .u8 0, .int .u8 0, .int .u8 0, .int .u8 0, .int .u8 0, .int .u8 0, .int .u8 0, .int .u8 0, .int .u8 0, .int .u8 0, .int .u8 0, .int .u8 0] 50)).heap[w.heap.size + 1]? = some (.cells #[.int .u8 0, .int .u8 0, .int .u8 0, .int .u8 0, .int .u8 0, .int .u8 0, .int .u8 0, .int .u8 0, .int .u8 0, .int .u8 0, .int .u8 0, .int .u8 0, .int .u8 0, .int .u8 0, .int .u8 0, .int .u8 0, .int .u8 0, .int .u8 0, .int .u8 0, .int .u8 0, .int .u8 0, .int .u8 0, .int .u8 0, .int .u8 0, .int .u8 0, .int .u8 0, .int .u8 0, .int .u8 0, .int .u8 0, .int .u8 0, .int .u8 0, .int .u8 0] 50 (0, 0))) := Lib.hid (heap_alloc2_new w _ _)
  have HUS := Lib.hid hus
  have hset : Hid (((w.alloc (.cells #[.int .u8 0, .int .u8 0, .int .u8 0, .int .u8 0, .int .u8 0, .int .u8 0, .int .u8 0, .int .u8 0, .int .u8 0, .int .u8 0, .int .u8 0, .int .u8 0, .int .u8 0, .int .u8 0, .int .u8 0, .int .u8 0, .int .u8 0, .int .u8 0, .int .u8 0, .int .u8 0, .int .u8 0, .int .u8 0, .int .u8 0, .int .u8 0, .int .u8 0, .int .u8 0, .int .u8 0, .int .u8 0, .int .u8 0, .int .u8 0, .int .u8 0, .int .u8 0] 50)).alloc (.cells #[.int .u8 0, .int .u8 0, .int .u8 0, .int .u8 0, .int .u8 0, .int .u8 0, .int .u8 0, .int .u8 0, .int .u8 0, .int .u8 0, .int .u8 0, .int .u8 0, .int .u8 0, .int .u8 0, .int .u8 0, .int .u8 0, .int .u8 0, .int .u8 0, .int .u8 0, .int .u8 0, .int .u8 0, .int .u8 0, .int .u8 0, .int .u8 0, .int .u8 0, .int .u8 0, .int .u8 0, .int .u8 0, .int .u8 0, .int .u8 0, .int .u8 0, .int .u8 0] 50)).setRow (w.heap.size + 1) us = (w.alloc (.cells #[.int .u8 0, .int .u8 0, .int .u8 0, .int .u8 0, .int .u8 0, .int .u8 0, .int .u8 0, .int .u8 0, .int .u8 0, .int .u8 0, .int .u8 0, .int .u8 0, .int .u8 0, .int .u8 0, .int .u8 0, .int .u8 0, .int .u8 0, .int .u8 0, .int .u8 0, .int .u8 0, .int .u8 0, .int .u8 0, .int .u8 0, .int .u8 0, .int .u8 0, .int .u8 0, .int .u8 0, .int .u8 0, .int .u8 0, .int .u8 0, .int .u8 0, .int .u8 0] 50)).alloc (.cells us 50)) := Lib.hid (by
    have h := World.setRow_alloc_new (w.alloc (.cells #[.int .u8 0, .int .u8 0, .int .u8 0, .int .u8 0, .int .u8 0, .int .u8 0, .int .u8 0, .int .u8 0, .int .u8 0, .int .u8 0, .int .u8 0, .int .u8 0, .int .u8 0, .int .u8 0, .int .u8 0, .int .u8 0, .int .u8 0, .int .u8 0, .int .u8 0, .int .u8 0, .int .u8 0, .int .u8 0, .int .u8 0, .int .u8 0, .int .u8 0, .int .u8 0, .int .u8 0, .int .u8 0, .int .u8 0, .int .u8 0, .int .u8 0, .int .u8 0] 50)) #[.int .u8 0, .int .u8 0, .int .u8 0, .int .u8 0, .int .u8 0, .int .u8 0, .int .u8 0, .int .u8 0, .int .u8 0, .int .u8 0, .int .u8 0, .int .u8 0, .int .u8 0, .int .u8 0, .int .u8 0, .int .u8 0, .int .u8 0, .int .u8 0, .int .u8 0, .int .u8 0, .int .u8 0, .int .u8 0, .int .u8 0, .int .u8 0, .int .u8 0, .int .u8 0, .int .u8 0, .int .u8 0, .int .u8 0, .int .u8 0, .int .u8 0, .int .u8 0] us 50
    simp only [World.size_alloc] at h
    exact h)
  obtain ⟨dd, hdu, hdr⟩ : ∃ d, Try.prog.underlying 50 = some d ∧ d.isRow = true := ⟨_, Try.underlying50, rfl⟩
  have HDU := Lib.hid hdu; have HDR := Lib.hid hdr
  rw [hus] at hone hi ho hset
  clear husz hal HRG hdu hdr
  have hB4 : Bw ((w.alloc (.cells #[.int .u8 0, .int .u8 0, .int .u8 0, .int .u8 0, .int .u8 0, .int .u8 0, .int .u8 0, .int .u8 0, .int .u8 0, .int .u8 0, .int .u8 0, .int .u8 0, .int .u8 0, .int .u8 0, .int .u8 0, .int .u8 0, .int .u8 0, .int .u8 0, .int .u8 0, .int .u8 0, .int .u8 0, .int .u8 0, .int .u8 0, .int .u8 0, .int .u8 0, .int .u8 0, .int .u8 0, .int .u8 0, .int .u8 0, .int .u8 0, .int .u8 0, .int .u8 0] 50)).alloc (.cells cs.toArray 50)) (w.heap.size + 1) 50 l := by
    have h := heap_alloc2_new w (.cells #[.int .u8 0, .int .u8 0, .int .u8 0, .int .u8 0, .int .u8 0, .int .u8 0, .int .u8 0, .int .u8 0, .int .u8 0, .int .u8 0, .int .u8 0, .int .u8 0, .int .u8 0, .int .u8 0, .int .u8 0, .int .u8 0, .int .u8 0, .int .u8 0, .int .u8 0, .int .u8 0, .int .u8 0, .int .u8 0, .int .u8 0, .int .u8 0, .int .u8 0, .int .u8 0, .int .u8 0, .int .u8 0, .int .u8 0, .int .u8 0, .int .u8 0, .int .u8 0] 50) (.cells cs.toArray 50)
    have e : cs.toArray = (l.map vb).toArray := by rw [HCS.out]
    rw [e] at h ⊢
    exact h
  have hZ4 : ((w.alloc (.cells #[.int .u8 0, .int .u8 0, .int .u8 0, .int .u8 0, .int .u8 0, .int .u8 0, .int .u8 0, .int .u8 0, .int .u8 0, .int .u8 0, .int .u8 0, .int .u8 0, .int .u8 0, .int .u8 0, .int .u8 0, .int .u8 0, .int .u8 0, .int .u8 0, .int .u8 0, .int .u8 0, .int .u8 0, .int .u8 0, .int .u8 0, .int .u8 0, .int .u8 0, .int .u8 0, .int .u8 0, .int .u8 0, .int .u8 0, .int .u8 0, .int .u8 0, .int .u8 0] 50)).alloc (.cells cs.toArray 50)).heap[w.heap.size]? = some (.cells #[.int .u8 0, .int .u8 0, .int .u8 0, .int .u8 0, .int .u8 0, .int .u8 0, .int .u8 0, .int .u8 0, .int .u8 0, .int .u8 0, .int .u8 0, .int .u8 0, .int .u8 0, .int .u8 0, .int .u8 0, .int .u8 0, .int .u8 0, .int .u8 0, .int .u8 0, .int .u8 0, .int .u8 0, .int .u8 0, .int .u8 0, .int .u8 0, .int .u8 0, .int .u8 0, .int .u8 0, .int .u8 0, .int .u8 0, .int .u8 0, .int .u8 0, .int .u8 0] 50 (0, 0)) := (heap_alloc_old _ _ (by simp)).trans (heap_alloc_last w _)
  have hbe : Below w.heap.size w ((w.alloc (.cells #[.int .u8 0, .int .u8 0, .int .u8 0, .int .u8 0, .int .u8 0, .int .u8 0, .int .u8 0, .int .u8 0, .int .u8 0, .int .u8 0, .int .u8 0, .int .u8 0, .int .u8 0, .int .u8 0, .int .u8 0, .int .u8 0, .int .u8 0, .int .u8 0, .int .u8 0, .int .u8 0, .int .u8 0, .int .u8 0, .int .u8 0, .int .u8 0, .int .u8 0, .int .u8 0, .int .u8 0, .int .u8 0, .int .u8 0, .int .u8 0, .int .u8 0, .int .u8 0] 50)).alloc (.cells cs.toArray 50)) := ((Below.refl _ _).alloc (Nat.le_refl _) _).alloc (by simp) _
  obtain ⟨W4, hW4⟩ : ∃ W4, W4 = (w.alloc (.cells #[.int .u8 0, .int .u8 0, .int .u8 0, .int .u8 0, .int .u8 0, .int .u8 0, .int .u8 0, .int .u8 0, .int .u8 0, .int .u8 0, .int .u8 0, .int .u8 0, .int .u8 0, .int .u8 0, .int .u8 0, .int .u8 0, .int .u8 0, .int .u8 0, .int .u8 0, .int .u8 0, .int .u8 0, .int .u8 0, .int .u8 0, .int .u8 0, .int .u8 0, .int .u8 0, .int .u8 0, .int .u8 0, .int .u8 0, .int .u8 0, .int .u8 0, .int .u8 0] 50)).alloc (.cells cs.toArray 50) := ⟨_, rfl⟩
  rw [← hW4] at hB4 hZ4 hbe
  have HW4 := Lib.hid hW4
  obtain ⟨c0, f0, s0⟩ := hB4.at_ (j := 0) (by rw [HL.out]; omega)
  obtain ⟨c31, f31, _⟩ := hB4.at_ (j := 31) (by rw [HL.out]; omega)
  have g0 : l[0]'(by rw [HL.out]; omega) = l.getD 0 0 := by simp [show 0 < l.length by rw [HL.out]; omega]
  have g31 : l[31]'(by rw [HL.out]; omega) = l.getD 31 0 := by simp [show 31 < l.length by rw [HL.out]; omega]
  rw [g0] at c0
  rw [g31] at c31
  obtain ⟨x0, hx0⟩ : ∃ x, x = l.getD 0 0 := ⟨_, rfl⟩
  obtain ⟨x31, hx31⟩ : ∃ x, x = l.getD 31 0 := ⟨_, rfl⟩
  rw [← hx0] at c0
  rw [← hx31] at c31
  have b0 := x0.toNat_lt
  have b31 := x31.toNat_lt
  have HX0 := Lib.hid hx0; have HX31 := Lib.hid hx31
  clear hx0 hx31
  have hA := bits_a ⟨x0.toNat, b0⟩
  have hBB := bits_b ⟨x31.toNat, b31⟩
  have hCC := bits_c ⟨x31.toNat, b31⟩
  simp only at hA hBB hCC
  have w1 := s0 (UInt8.ofNat (x0.toNat / 8 * 8))
  rw [u8n (by omega), ← hA] at w1
  have s1 := (w1.at_ (j := 31) (by rw [List.length_set, HL.out]; omega)).2.2
  have w2 := s1 (UInt8.ofNat (x31.toNat % 128))
  rw [u8n (by omega), ← hCC] at w2
  have s2 := (w2.at_ (j := 31) (by rw [List.length_set, List.length_set, HL.out]; omega)).2.2
  have w3 := s2 (UInt8.ofNat (x31.toNat % 64 + 64))
  rw [u8n (by omega), ← hBB, List.set_set] at w3
  have e3 : (l.set 0 (UInt8.ofNat (x0.toNat / 8 * 8))).set 31 (UInt8.ofNat (x31.toNat % 64 + 64)) = clampL l := by rw [HX0.out, HX31.out]; rfl
  rw [e3] at w3
  obtain ⟨vs, hvs⟩ : ∃ vs, vs = ((clampL l).map vb).toArray := ⟨_, rfl⟩
  have hvsz : vs.size = 32 := by rw [hvs]; simpa [clampL_len] using HL.out
  have hone5 : Hid (vs.all (·.oneCell') = true) := by rw [hvs]; exact Lib.hid (one_bytes _)
  have hi5 : Hid ((Try.prog.info? 50).map (·.size) = some vs.size) := by rw [hvsz]; exact Lib.hid (by show _ = _; kernel_rfl)
  have ho5 : Hid ((#[.int .u8 0, .int .u8 0, .int .u8 0, .int .u8 0, .int .u8 0, .int .u8 0, .int .u8 0, .int .u8 0, .int .u8 0, .int .u8 0, .int .u8 0, .int .u8 0, .int .u8 0, .int .u8 0, .int .u8 0, .int .u8 0, .int .u8 0, .int .u8 0, .int .u8 0, .int .u8 0, .int .u8 0, .int .u8 0, .int .u8 0, .int .u8 0, .int .u8 0, .int .u8 0, .int .u8 0, .int .u8 0, .int .u8 0, .int .u8 0, .int .u8 0, .int .u8 0] : Array Value).size = vs.size) := by rw [hvsz]; exact Lib.hid (by show _ = _; rfl)
  unfold Bw at w3
  rw [← hvs] at w3 ⊢
  obtain ⟨va, hva⟩ : ∃ va, va = bits .andNot .u8 (x0.toNat : Int) 7 := ⟨_, rfl⟩
  obtain ⟨vc, hvc⟩ : ∃ vc, vc = bits .andNot .u8 (x31.toNat : Int) 128 := ⟨_, rfl⟩
  rw [← hva, ← hvc] at w3
  have zF : w.heap.size ≤ w.heap.size + 1 := by omega
  have hzF : (((W4.setCell ⟨w.heap.size + 1, 0, none⟩ (.int .u8 va)).setCell ⟨w.heap.size + 1, 31, none⟩ (.int .u8 vc)).setCell ⟨w.heap.size + 1, 31, none⟩ (.int .u8 (bits .or .u8 vc 64))).heap[w.heap.size]? = some (.cells #[.int .u8 0, .int .u8 0, .int .u8 0, .int .u8 0, .int .u8 0, .int .u8 0, .int .u8 0, .int .u8 0, .int .u8 0, .int .u8 0, .int .u8 0, .int .u8 0, .int .u8 0, .int .u8 0, .int .u8 0, .int .u8 0, .int .u8 0, .int .u8 0, .int .u8 0, .int .u8 0, .int .u8 0, .int .u8 0, .int .u8 0, .int .u8 0, .int .u8 0, .int .u8 0, .int .u8 0, .int .u8 0, .int .u8 0, .int .u8 0, .int .u8 0, .int .u8 0] 50 (0, 0)) :=
    (Below.heap_setCell _ _ _ _ (by show _ ≠ _; simp only; omega)).trans ((Below.heap_setCell _ _ _ _ (by show _ ≠ _; simp only; omega)).trans ((Below.heap_setCell _ _ _ _ (by show _ ≠ _; simp only; omega)).trans hZ4))
  have hbF := ((hbe.setCell (p := ⟨w.heap.size + 1, 0, none⟩) zF (.int .u8 va)).setCell (p := ⟨w.heap.size + 1, 31, none⟩) zF (.int .u8 vc)).setCell (p := ⟨w.heap.size + 1, 31, none⟩) zF (.int .u8 (bits .or .u8 vc 64))
  have W3F := Lib.hid w3; have HZF := Lib.hid hzF; have HBF := Lib.hid hbF; have HVA := Lib.hid hva; have HVC := Lib.hid hvc
  clear s0 s1 s2 w1 w2 w3 e3 hA hBB hCC hbe hZ4 hB4 hW4 g0 g31 hva hvc hzF hbF hvs hvsz b0 b31
  go_upto_region 7 with (first
    | (refine wpList_load_mid rfl 50 (.tmp 10) rfl b off rfl cs dd HR2.out HDU.out HDR.out HI.out ?_)
    | ((with_reducible refine wpList_store_row rfl 50 (.tmp 4) (.tmp 11) rfl (w.heap.size + 1) cs.toArray rfl rfl 50 _ hz.out hi.out ho.out hone.out ?_); rw [hset.out, ← HW4.out]))
  rw [← HVA.out, ← HVC.out]
  clear c0 f0 c31 f31 hat
  go_wp2_with (first
    | (with_reducible refine wpList_load_row rfl 50 (.tmp 4) rfl (w.heap.size + 1) rfl 50 vs (0, 0) _ W3F.out Try.underlying50 rfl hi5.out ?_)
    | (with_reducible refine wpList_store_row rfl 50 (.tmp 2) (.tmp 24) rfl (w.heap.size) vs rfl rfl 50 _ HZF.out hi5.out ho5.out hone5.out ?_))
  exact bodyPost_ret (results_cell_tmp rfl _ _ w.heap.size 50 vs (0, 0) _ _ rfl rfl (setRow_heap _ w.heap.size _ _ _ _ HZF.out) Try.underlying50 rfl hi5.out) rfl ⟨rfl, row_below HBF.out (by omega) HBF.out.size⟩
set_option maxRecDepth 100000 in
set_option maxHeartbeats 4000000 in
theorem clamp_no {l : List UInt8} {v : Value} {w : World} (hb : Bs w w.heap.size v l) (hl : l.length ≠ 32) : Calls Try.prog 30 #[v] w fun e w' => e = .returned (.tuple #[.agg #[.int .u8 0, .int .u8 0, .int .u8 0, .int .u8 0, .int .u8 0, .int .u8 0, .int .u8 0, .int .u8 0, .int .u8 0, .int .u8 0, .int .u8 0, .int .u8 0, .int .u8 0, .int .u8 0, .int .u8 0, .int .u8 0, .int .u8 0, .int .u8 0, .int .u8 0, .int .u8 0, .int .u8 0, .int .u8 0, .int .u8 0, .int .u8 0, .int .u8 0, .int .u8 0, .int .u8 0, .int .u8 0, .int .u8 0, .int .u8 0, .int .u8 0, .int .u8 0], .int .i64 2]) ∧ Below w.heap.size w w' := by
  obtain ⟨A, c, rfl, h1, h2, h3⟩ := hb
  unfold maxLen at h2
  have ht : ((l.length : Int) != 32) = true := by simp; omega
  obtain ⟨zs, hzs⟩ : ∃ zs : Array Value, zs = #[.int .u8 0, .int .u8 0, .int .u8 0, .int .u8 0, .int .u8 0, .int .u8 0, .int .u8 0, .int .u8 0, .int .u8 0, .int .u8 0, .int .u8 0, .int .u8 0, .int .u8 0, .int .u8 0, .int .u8 0, .int .u8 0, .int .u8 0, .int .u8 0, .int .u8 0, .int .u8 0, .int .u8 0, .int .u8 0, .int .u8 0, .int .u8 0, .int .u8 0, .int .u8 0, .int .u8 0, .int .u8 0, .int .u8 0, .int .u8 0, .int .u8 0, .int .u8 0] := ⟨_, rfl⟩
  have hi : Hid ((Try.prog.info? 50).map (·.size) = some (#[.int .u8 0, .int .u8 0, .int .u8 0, .int .u8 0, .int .u8 0, .int .u8 0, .int .u8 0, .int .u8 0, .int .u8 0, .int .u8 0, .int .u8 0, .int .u8 0, .int .u8 0, .int .u8 0, .int .u8 0, .int .u8 0, .int .u8 0, .int .u8 0, .int .u8 0, .int .u8 0, .int .u8 0, .int .u8 0, .int .u8 0, .int .u8 0, .int .u8 0, .int .u8 0, .int .u8 0, .int .u8 0, .int .u8 0, .int .u8 0, .int .u8 0, .int .u8 0] : Array Value).size) := Lib.hid (by show _ = _; kernel_rfl)
  have hone : Hid ((#[.int .u8 0, .int .u8 0, .int .u8 0, .int .u8 0, .int .u8 0, .int .u8 0, .int .u8 0, .int .u8 0, .int .u8 0, .int .u8 0, .int .u8 0, .int .u8 0, .int .u8 0, .int .u8 0, .int .u8 0, .int .u8 0, .int .u8 0, .int .u8 0, .int .u8 0, .int .u8 0, .int .u8 0, .int .u8 0, .int .u8 0, .int .u8 0, .int .u8 0, .int .u8 0, .int .u8 0, .int .u8 0, .int .u8 0, .int .u8 0, .int .u8 0, .int .u8 0] : Array Value).all (·.oneCell') = true) := Lib.hid (by show _ = _; kernel_rfl)
  have hz : Hid ((w.alloc (.cells #[.int .u8 0, .int .u8 0, .int .u8 0, .int .u8 0, .int .u8 0, .int .u8 0, .int .u8 0, .int .u8 0, .int .u8 0, .int .u8 0, .int .u8 0, .int .u8 0, .int .u8 0, .int .u8 0, .int .u8 0, .int .u8 0, .int .u8 0, .int .u8 0, .int .u8 0, .int .u8 0, .int .u8 0, .int .u8 0, .int .u8 0, .int .u8 0, .int .u8 0, .int .u8 0, .int .u8 0, .int .u8 0, .int .u8 0, .int .u8 0, .int .u8 0, .int .u8 0] 50)).heap[w.heap.size]? = some (.cells #[.int .u8 0, .int .u8 0, .int .u8 0, .int .u8 0, .int .u8 0, .int .u8 0, .int .u8 0, .int .u8 0, .int .u8 0, .int .u8 0, .int .u8 0, .int .u8 0, .int .u8 0, .int .u8 0, .int .u8 0, .int .u8 0, .int .u8 0, .int .u8 0, .int .u8 0, .int .u8 0, .int .u8 0, .int .u8 0, .int .u8 0, .int .u8 0, .int .u8 0, .int .u8 0, .int .u8 0, .int .u8 0, .int .u8 0, .int .u8 0, .int .u8 0, .int .u8 0] 50 (0, 0))) := Lib.hid (heap_alloc_last w _)
  clear h3 hl hzs
  go_enter Try.func30, Try.ntmps30
  go_wp2_with (with_reducible refine wpList_store_row rfl 50 (.tmp 2) (.tmp 8) rfl (w.heap.size) #[.int .u8 0, .int .u8 0, .int .u8 0, .int .u8 0, .int .u8 0, .int .u8 0, .int .u8 0, .int .u8 0, .int .u8 0, .int .u8 0, .int .u8 0, .int .u8 0, .int .u8 0, .int .u8 0, .int .u8 0, .int .u8 0, .int .u8 0, .int .u8 0, .int .u8 0, .int .u8 0, .int .u8 0, .int .u8 0, .int .u8 0, .int .u8 0, .int .u8 0, .int .u8 0, .int .u8 0, .int .u8 0, .int .u8 0, .int .u8 0, .int .u8 0, .int .u8 0] rfl rfl 50 _ hz.out hi.out rfl hone.out ?_)
  rw [World.setRow_alloc_new]
  exact bodyPost_ret (results_cell_tmp rfl _ _ w.heap.size 50 #[.int .u8 0, .int .u8 0, .int .u8 0, .int .u8 0, .int .u8 0, .int .u8 0, .int .u8 0, .int .u8 0, .int .u8 0, .int .u8 0, .int .u8 0, .int .u8 0, .int .u8 0, .int .u8 0, .int .u8 0, .int .u8 0, .int .u8 0, .int .u8 0, .int .u8 0, .int .u8 0, .int .u8 0, .int .u8 0, .int .u8 0, .int .u8 0, .int .u8 0, .int .u8 0, .int .u8 0, .int .u8 0, .int .u8 0, .int .u8 0, .int .u8 0, .int .u8 0] (0, 0) _ _ rfl rfl (heap_alloc_last w _) Try.underlying50 rfl hi.out) rfl ⟨rfl, (Below.refl _ _).alloc (Nat.le_refl _) _⟩
end Go.Proofs.Ytgkglielcbgpiaa
