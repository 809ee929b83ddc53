/- Strings as bytes; Derive of the reference. -/
import Derived.Test.YtifgigpflfdmfaaLitF
import Derived.Test.YtifgigpflfdmfaaX2
import Derived.Test.YtifgigpflfdmfaaX3
import Derived.Test.YtifgigpflfdmfaaArr
import Derived.Laws.IdiomStrings
import Derived.Deep.MidRow
namespace Go.Proofs.Ytifgigpflfdmfaa
open Go.RowKit

def bytesS (s : ByteArray) : List UInt8 := s.data.toList
theorem bytesS_len (s : ByteArray) : (bytesS s).length = s.size := by simp [bytesS]
/-- the key of a label -/
def deriveL (secret : List UInt8) (s : ByteArray) : List UInt8 := expL (tagL [115, 104, 97, 108, 108, 111, 116] secret) (bytesS s) 32
theorem deriveL_len (secret : List UInt8) (s : ByteArray) : (deriveL secret s).length = 32 := expL_len _ _ _

theorem conv_any (w : World) (s : ByteArray) (hs : s.size ≤ maxLen) : ∃ c w', (convert 9 22 (.string s)).run Try.prog w = .ok (.slice (some ⟨w.heap.size, 0, none⟩) (bytesS s).length c) w' ∧
    Bs w' (w.heap.size + 1) (.slice (some ⟨w.heap.size, 0, none⟩) (bytesS s).length c) (bytesS s) ∧ Below w.heap.size w w' ∧ w'.heap.size = w.heap.size + 1 := by
  obtain ⟨C, hC⟩ : ∃ C, C = bytesRow s (grownCap w s.size 0 5) := ⟨_, rfl⟩
  have h := run_bytes_of_string w 9 22 5 s Try.underlying9 Try.underlying22 Try.underlying5
  rw [← hC, ← bytesS_len] at h
  refine ⟨_, w.drew.alloc (.cells C 5 (C.size, C.size + 1)), h, ?_, ?_, ?_⟩
  · refine ⟨_, _, rfl, by rw [bytesS_len]; exact grownCap_ge _ _ _ _, grownCap_le_maxLen _ _ _ _ (by rw [bytesS_len]; exact hs), fun _ => ⟨_, 0, rfl, by omega, fun j hj => ?_⟩⟩
    have hj2 : j < s.data.size := by have := hj; simp [bytesS] at this; exact this
    have h := cell_of_row (w.drew.alloc (.cells C 5 (C.size, C.size + 1))) w.heap.size j _ 5 _ (heap_alloc_new w.drew _)
    rw [Nat.zero_add]
    refine h.trans ?_
    rw [hC]
    have hj3 : j < s.size := hj2
    simp [bytesRow, bytesS, vb, Array.getElem?_append, hj2, hj3]
  · exact (((Drew.refl w).drewN 1).below w.heap.size).alloc (by show w.heap.size ≤ w.drew.heap.size; exact Nat.le_refl _) _
  · have h2 := World.size_alloc w.drew (.cells C 5 (C.size, C.size + 1))
    rw [h2]
    rfl
theorem splice_all32 {CU CS : List Value} (h1 : CU.length = 32) (h2 : CS.length = 32) : CU.take 0 ++ (CS ++ CU.drop (0 + CS.length)) = CS := by
  rw [h2, List.take_zero, List.nil_append, List.drop_eq_nil_of_le (by omega), List.append_nil]
theorem bytes_vb (w : World) {B : Nat} {v : Value} {l : List UInt8} (h : Bs w B v l) (hp : 0 < l.length) : ∃ b off c, v = .slice (some ⟨b, off, none⟩) l.length c ∧ ∀ (j : Nat) (x : Value), (l.map vb)[j]? = some x → w.cell? ((⟨b, off, none⟩ : Addr).add j) = some x := by
  obtain ⟨A, c, rfl, _, _, h3⟩ := h
  obtain ⟨b, off, rfl, _, hc⟩ := h3 hp
  refine ⟨b, off, c, rfl, fun j x hx => ?_⟩
  rw [List.getElem?_map] at hx
  obtain ⟨z, hz, rfl⟩ := Option.map_eq_some_iff.1 hx
  obtain ⟨hj, rfl⟩ := List.getElem?_eq_some_iff.1 hz
  rw [add_none]
  exact hc j hj

set_option maxRecDepth 100000 in
set_option maxHeartbeats 4000000 in
theorem refderive_any {secret : List UInt8} {s : ByteArray} {v : Value} {w : World} {B : Nat} (hb : Bs w B v secret) (hB : B ≤ w.heap.size) (hlen : secret.length ≤ 140737488355000) (hs : s.size ≤ 140737488354000) :
    Calls Try.prog 58 #[v, .string s] w fun e w' => e = .returned (arr32 (deriveL secret s)) ∧ Below w.heap.size w w' := by
  obtain ⟨W1, hW1⟩ : ∃ W1, W1 = (w.alloc (.cells #[.int .u8 0, .int .u8 0, .int .u8 0, .int .u8 0, .int .u8 0, .int .u8 0, .int .u8 0, .int .u8 0, .int .u8 0, .int .u8 0, .int .u8 0, .int .u8 0, .int .u8 0, .int .u8 0, .int .u8 0, .int .u8 0, .int .u8 0, .int .u8 0, .int .u8 0, .int .u8 0, .int .u8 0, .int .u8 0, .int .u8 0, .int .u8 0, .int .u8 0, .int .u8 0, .int .u8 0, .int .u8 0, .int .u8 0, .int .u8 0, .int .u8 0, .int .u8 0] 29)).alloc (.cells #[.int .u8 115, .int .u8 104, .int .u8 97, .int .u8 108, .int .u8 108, .int .u8 111, .int .u8 116] 5 (7, 8)) := ⟨_, rfl⟩
  have hs0 : (w.alloc (.cells #[.int .u8 0, .int .u8 0, .int .u8 0, .int .u8 0, .int .u8 0, .int .u8 0, .int .u8 0, .int .u8 0, .int .u8 0, .int .u8 0, .int .u8 0, .int .u8 0, .int .u8 0, .int .u8 0, .int .u8 0, .int .u8 0, .int .u8 0, .int .u8 0, .int .u8 0, .int .u8 0, .int .u8 0, .int .u8 0, .int .u8 0, .int .u8 0, .int .u8 0, .int .u8 0, .int .u8 0, .int .u8 0, .int .u8 0, .int .u8 0, .int .u8 0, .int .u8 0] 29)).heap.size = w.heap.size + 1 := by simp
  have hz1 : W1.heap.size = w.heap.size + 2 := by rw [hW1]; simp
  have hb1 : Below w.heap.size w W1 := by rw [hW1]; exact ((Below.refl _ _).alloc (Nat.le_refl _) _).alloc (by rw [hs0]; omega) _
  have h01 : W1.heap[w.heap.size]? = some (.cells #[.int .u8 0, .int .u8 0, .int .u8 0, .int .u8 0, .int .u8 0, .int .u8 0, .int .u8 0, .int .u8 0, .int .u8 0, .int .u8 0, .int .u8 0, .int .u8 0, .int .u8 0, .int .u8 0, .int .u8 0, .int .u8 0, .int .u8 0, .int .u8 0, .int .u8 0, .int .u8 0, .int .u8 0, .int .u8 0, .int .u8 0, .int .u8 0, .int .u8 0, .int .u8 0, .int .u8 0, .int .u8 0, .int .u8 0, .int .u8 0, .int .u8 0, .int .u8 0] 29 (0, 0)) := by rw [hW1]; exact alloc_block2 (heap_alloc_new w _) _
  have hl1 : Bs W1 (w.heap.size + 2) (.slice (some ⟨w.heap.size + 1, 0, none⟩) 7 7) [115, 104, 97, 108, 108, 111, 116] := by
    have h := Bs.litF (w.alloc (.cells #[.int .u8 0, .int .u8 0, .int .u8 0, .int .u8 0, .int .u8 0, .int .u8 0, .int .u8 0, .int .u8 0, .int .u8 0, .int .u8 0, .int .u8 0, .int .u8 0, .int .u8 0, .int .u8 0, .int .u8 0, .int .u8 0, .int .u8 0, .int .u8 0, .int .u8 0, .int .u8 0, .int .u8 0, .int .u8 0, .int .u8 0, .int .u8 0, .int .u8 0, .int .u8 0, .int .u8 0, .int .u8 0, .int .u8 0, .int .u8 0, .int .u8 0, .int .u8 0] 29)) [115, 104, 97, 108, 108, 111, 116] (7, 8) (by unfold maxLen; simp)
    rw [hs0] at h
    rw [hW1]
    exact h
  have k1 : (convert 22 22 (.slice (some ⟨w.heap.size + 1, 0, none⟩) 7 7)).run Try.prog ((w.alloc (.cells #[.int .u8 0, .int .u8 0, .int .u8 0, .int .u8 0, .int .u8 0, .int .u8 0, .int .u8 0, .int .u8 0, .int .u8 0, .int .u8 0, .int .u8 0, .int .u8 0, .int .u8 0, .int .u8 0, .int .u8 0, .int .u8 0, .int .u8 0, .int .u8 0, .int .u8 0, .int .u8 0, .int .u8 0, .int .u8 0, .int .u8 0, .int .u8 0, .int .u8 0, .int .u8 0, .int .u8 0, .int .u8 0, .int .u8 0, .int .u8 0, .int .u8 0, .int .u8 0] 29)).alloc (.cells #[.int .u8 115, .int .u8 104, .int .u8 97, .int .u8 108, .int .u8 108, .int .u8 111, .int .u8 116] 5)) = .ok (.slice (some ⟨w.heap.size + 1, 0, none⟩) 7 7) W1 := by
    have h := Lib.run_convert_bytes_const (P := Try.prog) (w.alloc (.cells #[.int .u8 0, .int .u8 0, .int .u8 0, .int .u8 0, .int .u8 0, .int .u8 0, .int .u8 0, .int .u8 0, .int .u8 0, .int .u8 0, .int .u8 0, .int .u8 0, .int .u8 0, .int .u8 0, .int .u8 0, .int .u8 0, .int .u8 0, .int .u8 0, .int .u8 0, .int .u8 0, .int .u8 0, .int .u8 0, .int .u8 0, .int .u8 0, .int .u8 0, .int .u8 0, .int .u8 0, .int .u8 0, .int .u8 0, .int .u8 0, .int .u8 0, .int .u8 0] 29)) 22 5 #[.int .u8 115, .int .u8 104, .int .u8 97, .int .u8 108, .int .u8 108, .int .u8 111, .int .u8 116] 7 7 Try.underlying22 Try.underlying5
    rw [hs0] at h
    rw [hW1]
    exact h
  obtain ⟨cs, hcs⟩ : ∃ cs : Array Value, cs = ((tagL [115, 104, 97, 108, 108, 111, 116] secret).map vb).toArray := ⟨_, rfl⟩
  have hcz : cs.size = 32 := by rw [hcs]; simp [tagL_len]
  have hi : Hid ((Try.prog.info? 29).map (·.size) = some cs.size) := by rw [hcz]; show _ = _; kernel_rfl
  have ho : Hid ((#[.int .u8 0, .int .u8 0, .int .u8 0, .int .u8 0, .int .u8 0, .int .u8 0, .int .u8 0, .int .u8 0, .int .u8 0, .int .u8 0, .int .u8 0, .int .u8 0, .int .u8 0, .int .u8 0, .int .u8 0, .int .u8 0, .int .u8 0, .int .u8 0, .int .u8 0, .int .u8 0, .int .u8 0, .int .u8 0, .int .u8 0, .int .u8 0, .int .u8 0, .int .u8 0, .int .u8 0, .int .u8 0, .int .u8 0, .int .u8 0, .int .u8 0, .int .u8 0] : Array Value).size = cs.size) := by rw [hcz]; show _ = _; rfl
  have hone : Hid (cs.all (·.oneCell') = true) := by rw [hcs]; exact one_bytes _
  have ct := refTag_any hl1 (by rw [hz1]; omega) (hb.below hb1 hB) (by rw [hz1]; omega) (by simp) (by omega)
  have CT : Hid (Calls Try.prog 53 #[.slice (some ⟨w.heap.size + 1, 0, none⟩) 7 7, v] W1 fun e w' => e = .returned (.agg cs) ∧ Below W1.heap.size W1 w') := Lib.hid (by rw [hcs]; exact ct)
  have HCE := Lib.hid hcs; have HB1 := Lib.hid hb1; have H01 := Lib.hid h01; have HZ1 := Lib.hid hz1
  clear ct hcs hcz hl1 hs0 hb1 h01 hz1 hW1 hb
  go_enter Try.func58, Try.ntmps58
  go_wp2_with fail
  clear k1
  with_reducible refine (CT.out).mono ?_
  rintro e2 w2 ⟨rfl, hb2⟩
  have hz2 := hb2.size
  have hz : Hid ((w2.alloc (.cells #[.int .u8 0, .int .u8 0, .int .u8 0, .int .u8 0, .int .u8 0, .int .u8 0, .int .u8 0, .int .u8 0, .int .u8 0, .int .u8 0, .int .u8 0, .int .u8 0, .int .u8 0, .int .u8 0, .int .u8 0, .int .u8 0, .int .u8 0, .int .u8 0, .int .u8 0, .int .u8 0, .int .u8 0, .int .u8 0, .int .u8 0, .int .u8 0, .int .u8 0, .int .u8 0, .int .u8 0, .int .u8 0, .int .u8 0, .int .u8 0, .int .u8 0, .int .u8 0] 29)).heap[w2.heap.size]? = some (.cells #[.int .u8 0, .int .u8 0, .int .u8 0, .int .u8 0, .int .u8 0, .int .u8 0, .int .u8 0, .int .u8 0, .int .u8 0, .int .u8 0, .int .u8 0, .int .u8 0, .int .u8 0, .int .u8 0, .int .u8 0, .int .u8 0, .int .u8 0, .int .u8 0, .int .u8 0, .int .u8 0, .int .u8 0, .int .u8 0, .int .u8 0, .int .u8 0, .int .u8 0, .int .u8 0, .int .u8 0, .int .u8 0, .int .u8 0, .int .u8 0, .int .u8 0, .int .u8 0] 29 (0, 0))) := Lib.hid (heap_alloc_new w2 _)
  obtain ⟨W3, hW3⟩ : ∃ W3, W3 = w2.alloc (.cells cs 29) := ⟨_, rfl⟩
  have hs3 : W3.heap.size = w2.heap.size + 1 := by rw [hW3]; simp
  have hb3 : Below w.heap.size w W3 := by rw [hW3]; exact (HB1.out.trans (hb2.mono HB1.out.size)).alloc (by have := HB1.out.size; omega) _
  have h03 : W3.heap[w.heap.size]? = some (.cells #[.int .u8 0, .int .u8 0, .int .u8 0, .int .u8 0, .int .u8 0, .int .u8 0, .int .u8 0, .int .u8 0, .int .u8 0, .int .u8 0, .int .u8 0, .int .u8 0, .int .u8 0, .int .u8 0, .int .u8 0, .int .u8 0, .int .u8 0, .int .u8 0, .int .u8 0, .int .u8 0, .int .u8 0, .int .u8 0, .int .u8 0, .int .u8 0, .int .u8 0, .int .u8 0, .int .u8 0, .int .u8 0, .int .u8 0, .int .u8 0, .int .u8 0, .int .u8 0] 29 (0, 0)) := by rw [hW3]; exact alloc_block2 ((hb2.block w.heap.size (by rw [HZ1.out]; omega)).trans H01.out) _
  have hc3 : W3.heap[w2.heap.size]? = some (.cells cs 29 (0, 0)) := by rw [hW3]; exact heap_alloc_new w2 _
  have hr3 : Bs W3 W3.heap.size (.slice (some ⟨w2.heap.size, 0, none⟩) 32 32) (tagL [115, 104, 97, 108, 108, 111, 116] secret) := by
    have h : Bw W3 w2.heap.size 29 (tagL [115, 104, 97, 108, 108, 111, 116] secret) := by rw [HCE.out] at hc3; exact hc3
    have h2 := h.bs (by rw [tagL_len]; unfold maxLen; omega)
    rw [tagL_len] at h2
    exact h2
  obtain ⟨c4, W4, k4, hl4, hb4, hs4⟩ := conv_any W3 s (by unfold maxLen; omega)
  have ce := refexpand_ok (n := 32) (hr3.below hb4 (Nat.le_refl _)) hb4.size hl4 (by rw [hs4]; exact Nat.le_refl _) (by rw [tagL_len]; omega) (by rw [bytesS_len]; omega) (by omega)
  rw [show ((32 : Nat) : Int) = 32 from rfl] at ce
  have CE5 := Lib.hid ce
  have HB4 := Lib.hid (hb3.trans (hb4.mono hb3.size))
  have H04 := Lib.hid ((hb4.block w.heap.size (by have := hb3.size; have := HZ1.out; omega)).trans h03)
  have hz14 : w.heap.size < W4.heap.size := by have := HZ1.out; omega
  have cutC : ∀ W, (Instr.sliceAt 29 (.pointer (some ⟨w2.heap.size, 0, none⟩)) none none none).run Try.prog W = .ok (.slice (some ⟨w2.heap.size, 0, none⟩) 32 32) W := fun W => cut32_all W
  have HW3 := Lib.hid hW3
  clear ce hb3 h03 hc3 hr3 hl4 hb4 hs4 hb2 hz2 hs3 hW3 CT
  go_wp2_with ((with_reducible refine wpList_store_row rfl 29 (.tmp 5) (.tmp 12) rfl w2.heap.size cs rfl rfl 29 _ hz.out hi.out ho.out hone.out ?_); rw [World.setRow_alloc_new, ← HW3.out])
  with_reducible refine (CE5.out).mono ?_
  rintro e5 w5 ⟨u5, rfl, ho5, hb5⟩
  clear k4 cutC
  obtain ⟨X, hX⟩ : ∃ X, X = (deriveL secret s).map vb := ⟨_, rfl⟩
  have hXl : X.length = 32 := by rw [hX, List.length_map, deriveL_len]
  obtain ⟨b5, off5, c5, rfl, hsrc5⟩ := bytes_vb w5 ho5.bs (by rw [expL_len]; omega)
  rw [expL_len]
  have hsrc6 : Hid (∀ (j : Nat) (x : Value), X[j]? = some x → (w5.alloc (.cells #[.int .u8 0, .int .u8 0, .int .u8 0, .int .u8 0, .int .u8 0, .int .u8 0, .int .u8 0, .int .u8 0, .int .u8 0, .int .u8 0, .int .u8 0, .int .u8 0, .int .u8 0, .int .u8 0, .int .u8 0, .int .u8 0, .int .u8 0, .int .u8 0, .int .u8 0, .int .u8 0, .int .u8 0, .int .u8 0, .int .u8 0, .int .u8 0, .int .u8 0, .int .u8 0, .int .u8 0, .int .u8 0, .int .u8 0, .int .u8 0, .int .u8 0, .int .u8 0] 29)).cell? ((⟨b5, off5, none⟩ : Addr).add j) = some x) := Lib.hid (by
    intro j x hx
    have h := hsrc5 j x (by rw [hX] at hx; exact hx)
    obtain ⟨A', c', hv, _, _, h3⟩ := ho5.bs
    simp only [Value.slice.injEq] at hv
    obtain ⟨rfl, _, _⟩ := hv
    obtain ⟨b', off', hA, hlt, _⟩ := h3 (by rw [expL_len]; omega)
    simp only [Option.some.injEq, Addr.mk.injEq] at hA
    obtain ⟨rfl, rfl, _⟩ := hA
    exact (((Below.refl w5.heap.size w5).alloc (Nat.le_refl _) (.cells #[.int .u8 0, .int .u8 0, .int .u8 0, .int .u8 0, .int .u8 0, .int .u8 0, .int .u8 0, .int .u8 0, .int .u8 0, .int .u8 0, .int .u8 0, .int .u8 0, .int .u8 0, .int .u8 0, .int .u8 0, .int .u8 0, .int .u8 0, .int .u8 0, .int .u8 0, .int .u8 0, .int .u8 0, .int .u8 0, .int .u8 0, .int .u8 0, .int .u8 0, .int .u8 0, .int .u8 0, .int .u8 0, .int .u8 0, .int .u8 0, .int .u8 0, .int .u8 0] 29)).cell (by rw [add_none]; exact hlt)).trans h)
  obtain ⟨CU, hCU⟩ : ∃ CU : Array Value, CU = #[.int .u8 0, .int .u8 0, .int .u8 0, .int .u8 0, .int .u8 0, .int .u8 0, .int .u8 0, .int .u8 0, .int .u8 0, .int .u8 0, .int .u8 0, .int .u8 0, .int .u8 0, .int .u8 0, .int .u8 0, .int .u8 0, .int .u8 0, .int .u8 0, .int .u8 0, .int .u8 0, .int .u8 0, .int .u8 0, .int .u8 0, .int .u8 0, .int .u8 0, .int .u8 0, .int .u8 0, .int .u8 0, .int .u8 0, .int .u8 0, .int .u8 0, .int .u8 0] := ⟨_, rfl⟩
  have hCl : CU.size = 32 := by rw [hCU]; rfl
  have hq6 : Hid ((w5.alloc (.cells #[.int .u8 0, .int .u8 0, .int .u8 0, .int .u8 0, .int .u8 0, .int .u8 0, .int .u8 0, .int .u8 0, .int .u8 0, .int .u8 0, .int .u8 0, .int .u8 0, .int .u8 0, .int .u8 0, .int .u8 0, .int .u8 0, .int .u8 0, .int .u8 0, .int .u8 0, .int .u8 0, .int .u8 0, .int .u8 0, .int .u8 0, .int .u8 0, .int .u8 0, .int .u8 0, .int .u8 0, .int .u8 0, .int .u8 0, .int .u8 0, .int .u8 0, .int .u8 0] 29)).heap[w5.heap.size]? = some (.cells CU 29 (0, 0))) := Lib.hid (by rw [hCU]; exact heap_alloc_new w5 _)
  have hsp : Hid (List.take 0 CU.toList ++ (X ++ List.drop (0 + X.length) CU.toList) = X) := Lib.hid (splice_all32 (by simp [hCl]) hXl)
  have hX1 : Hid (∀ v ∈ X, v.oneCell' = true) := Lib.hid (by rw [hX]; exact vb_one _)
  have hXm : Hid (X.length = Nat.min 32 32) := Lib.hid (by rw [hXl]; rfl)
  have hXf : Hid (0 + X.length ≤ CU.size) := Lib.hid (by rw [hXl, hCl]; omega)
  have hXi : Hid ((Try.prog.info? 29).map (·.size) = some X.toArray.size) := Lib.hid (by rw [List.size_toArray, hXl]; show _ = _; kernel_rfl)
  have hXs : X.toArray.size = 32 := by rw [List.size_toArray, hXl]
  have hXo : Hid ((#[.int .u8 0, .int .u8 0, .int .u8 0, .int .u8 0, .int .u8 0, .int .u8 0, .int .u8 0, .int .u8 0, .int .u8 0, .int .u8 0, .int .u8 0, .int .u8 0, .int .u8 0, .int .u8 0, .int .u8 0, .int .u8 0, .int .u8 0, .int .u8 0, .int .u8 0, .int .u8 0, .int .u8 0, .int .u8 0, .int .u8 0, .int .u8 0, .int .u8 0, .int .u8 0, .int .u8 0, .int .u8 0, .int .u8 0, .int .u8 0, .int .u8 0, .int .u8 0] : Array Value).size = X.toArray.size) := Lib.hid (by rw [hXs]; rfl)
  have hXone : Hid (X.toArray.all (·.oneCell') = true) := Lib.hid (by rw [hX]; exact one_bytes _)
  have HB5 := HB4.out.trans (hb5.mono HB4.out.size)
  have hb6 := HB5.alloc HB5.size (.cells X.toArray 29)
  have h06 : Hid ((w5.alloc (.cells X.toArray 29)).heap[w.heap.size]? = some (.cells #[.int .u8 0, .int .u8 0, .int .u8 0, .int .u8 0, .int .u8 0, .int .u8 0, .int .u8 0, .int .u8 0, .int .u8 0, .int .u8 0, .int .u8 0, .int .u8 0, .int .u8 0, .int .u8 0, .int .u8 0, .int .u8 0, .int .u8 0, .int .u8 0, .int .u8 0, .int .u8 0, .int .u8 0, .int .u8 0, .int .u8 0, .int .u8 0, .int .u8 0, .int .u8 0, .int .u8 0, .int .u8 0, .int .u8 0, .int .u8 0, .int .u8 0, .int .u8 0] 29 (0, 0))) := Lib.hid (alloc_block2 ((hb5.block w.heap.size hz14).trans H04.out) _)
  have hx6 : Hid ((w5.alloc (.cells X.toArray 29)).heap[w5.heap.size]? = some (.cells X.toArray 29 (0, 0))) := Lib.hid (heap_alloc_new w5 _)
  have cutC : ∀ W, (Instr.sliceAt 29 (.pointer (some ⟨w5.heap.size, 0, none⟩)) none none none).run Try.prog W = .ok (.slice (some ⟨w5.heap.size, 0, none⟩) 32 32) W := fun W => cut32_all W
  have HX := Lib.hid hX; have HB6 := Lib.hid hb6
  clear hX hXl hXs hsrc5 ho5 hCU hCl HB5 hb6 hb5 CE5 hz14
  go_wp2_with (first
    | ((with_reducible refine wpList_copy_own rfl (.tmp 20) (.tmp 21) 22 22 rfl 5 Try.underlying22 u8size w5.heap.size 0 32 32 ⟨b5, off5, none⟩ 32 c5 rfl rfl CU 29 hq6.out X hXm.out hsrc6.out hXf.out hX1.out ?_); rw [hsp.out, World.setRow_alloc_new])
    | (with_reducible refine wpList_load_row rfl 29 (.tmp 8) rfl w5.heap.size rfl 29 X.toArray (0, 0) _ hx6.out Try.underlying29 rfl hXi.out ?_)
    | (with_reducible refine wpList_store_row rfl 29 (.tmp 4) (.tmp 23) rfl w.heap.size X.toArray rfl rfl 29 _ h06.out hXi.out hXo.out hXone.out ?_))
  (try simp only [Exit.inBlock, Exit.then])
  refine bodyPost_ret (results_cell_row rfl _ _ w.heap.size 29 X.toArray (0, 0) _ rfl (setRow_heap _ w.heap.size _ _ _ _ h06.out) Try.underlying29 rfl hXi.out) rfl ?_
  exact ⟨by rw [HX.out]; rfl, HB6.out.grown (row := some w.heap.size) ⟨rfl, rfl, rfl, by simp, fun j _ hj => setRow_other _ w.heap.size j _ (fun e => hj (by rw [e]))⟩ HB6.out.size (fun j hj => by simp only [Option.some.injEq] at hj; omega)⟩
end Go.Proofs.Ytifgigpflfdmfaa
