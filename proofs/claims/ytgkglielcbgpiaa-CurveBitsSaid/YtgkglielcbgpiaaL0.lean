/- Worlds walked back; comparisons of numbers and of 32 bytes; what Read answers. -/
import Derived.Test.YtgkglielcbgpiaaF16
import Derived.Deep.MidRow
import Derived.Deep.WholeRow
namespace Go.Proofs.Ytgkglielcbgpiaa
open Go.RowKit

theorem nL (V : Nat) : nvA V = (([dig V 0, dig V 1, dig V 2, dig V 3, dig V 4, dig V 5, dig V 6, dig V 7].map fun n => ((n : Nat) : Int)).map (Value.int .u32)).toArray := rfl
theorem n8_eq {V U : Nat} (hV : V < W4) (hU : U < W4) : ([dig V 0, dig V 1, dig V 2, dig V 3, dig V 4, dig V 5, dig V 6, dig V 7].map fun n => ((n : Nat) : Int)) = ([dig U 0, dig U 1, dig U 2, dig U 3, dig U 4, dig U 5, dig U 6, dig U 7].map fun n => ((n : Nat) : Int)) ↔ V = U := by
  constructor
  · intro h
    simp only [List.map_cons, List.map_nil, List.cons.injEq, and_true] at h
    obtain ⟨h0, h1, h2, h3, h4, h5, h6, h7⟩ := h
    rw [← nv_val hV, ← nv_val hU]
    refine valD_ext fun i hi => ?_
    rcases (by omega : i = 0 ∨ i = 1 ∨ i = 2 ∨ i = 3 ∨ i = 4 ∨ i = 5 ∨ i = 6 ∨ i = 7) with rfl | rfl | rfl | rfl | rfl | rfl | rfl | rfl
    · exact Int.ofNat.inj h0
    · exact Int.ofNat.inj h1
    · exact Int.ofNat.inj h2
    · exact Int.ofNat.inj h3
    · exact Int.ofNat.inj h4
    · exact Int.ofNat.inj h5
    · exact Int.ofNat.inj h6
    · exact Int.ofNat.inj h7
  · rintro rfl
    rfl
theorem u32Info : ∃ info, Try.prog.info? 32 = some info := by
  have h : (Try.prog.info? 32).isSome = true := by kernel_rfl
  exact Option.isSome_iff_exists.1 h
theorem u8Info1 : ∃ info, Try.prog.info? 5 = some info := by
  have h : (Try.prog.info? 5).isSome = true := by kernel_rfl
  exact Option.isSome_iff_exists.1 h
set_option maxRecDepth 100000 in
set_option maxHeartbeats 4000000 in
/-- == of the reference's numbers -/
theorem run_eql8 {V U : Nat} (hV : V < W4) (hU : U < W4) (w : World) : (binOp .eql 34 (.agg #[.int .u32 (dig (V) 0 : Int), .int .u32 (dig (V) 1 : Int), .int .u32 (dig (V) 2 : Int), .int .u32 (dig (V) 3 : Int), .int .u32 (dig (V) 4 : Int), .int .u32 (dig (V) 5 : Int), .int .u32 (dig (V) 6 : Int), .int .u32 (dig (V) 7 : Int)]) (.agg #[.int .u32 (dig (U) 0 : Int), .int .u32 (dig (U) 1 : Int), .int .u32 (dig (U) 2 : Int), .int .u32 (dig (U) 3 : Int), .int .u32 (dig (U) 4 : Int), .int .u32 (dig (U) 5 : Int), .int .u32 (dig (U) 6 : Int), .int .u32 (dig (U) 7 : Int)])).run Try.prog w = .ok (.bool (decide (V = U))) w := by
  obtain ⟨info, hi⟩ := u32Info
  have h := run_eql_arr (P := Try.prog) (t := 34) (e := 32) (n := 8) (k := .u32) (k' := .u32) Try.underlying34 hi (by kernel_rfl) (by kernel_rfl) Try.underlying32 ([dig V 0, dig V 1, dig V 2, dig V 3, dig V 4, dig V 5, dig V 6, dig V 7].map fun n => ((n : Nat) : Int)) ([dig U 0, dig U 1, dig U 2, dig U 3, dig U 4, dig U 5, dig U 6, dig U 7].map fun n => ((n : Nat) : Int)) rfl rfl w
  rw [decide_eq_decide.2 (n8_eq hV hU)] at h
  exact h
theorem vb_ints (l : List UInt8) : (l.map vb).toArray = ((l.map fun x => (x.toNat : Int)).map (Value.int .u8)).toArray := by
  rw [List.map_map]
  rfl
set_option maxRecDepth 100000 in
set_option maxHeartbeats 4000000 in
/-- != of arrays of 32 bytes -/
theorem run_neq32 {l m : List UInt8} (hl : l.length = 32) (hm : m.length = 32) (w : World) : (binOp .neq 50 (.agg (l.map vb).toArray) (.agg (m.map vb).toArray)).run Try.prog w = .ok (.bool (!decide (l.map (fun x => (x.toNat : Int)) = m.map (fun x => (x.toNat : Int))))) w := by
  obtain ⟨info, hi⟩ := u8Info1
  rw [vb_ints, vb_ints]
  exact run_neq_arr (P := Try.prog) (t := 50) (e := 5) (n := 32) (k := .u8) (k' := .u8) Try.underlying50 hi (by kernel_rfl) (by kernel_rfl) Try.underlying5 _ _ (by simpa using hl) (by simpa using hm) w
theorem run_neq_of (n : Nat) (hn : n < 18446744073709551616) (w : World) : (binOp .neq 26 (.agg #[.int .u64 (l0 (n) : Int), .int .u64 (l1 (n) : Int), .int .u64 (l2 (n) : Int), .int .u64 (l3 (n) : Int)]) (.agg #[.int .u64 (n : Int), .int .u64 0, .int .u64 0, .int .u64 0])).run Try.prog w = .ok (.bool false) w := by
  have h := run_neqE (V := n) (U := n) (Nat.lt_trans hn (by decide)) (Nat.lt_trans hn (by decide)) w
  have e0 : l0 n = n := Nat.mod_eq_of_lt hn
  have e1 : l1 n = 0 := by unfold l1; omega
  have e2 : l2 n = 0 := by unfold l2; omega
  have e3 : l3 n = 0 := by unfold l3; omega
  rw [e0, e1, e2, e3] at h
  rw [e0, e1, e2, e3]
  simpa using h
theorem dig_odd (N : Nat) : dig N 0 % 2 = N % 2 := by
  unfold dig
  rw [Nat.pow_zero, Nat.div_one, Nat.mod_mod_of_dvd _ (by decide)]

/-- what both Reads answer -/
structure Answers (l : List UInt8) (N : Nat) (r : Int) : Prop where
  lt : N < PP
  prog : ∀ (w : World) (v : Value), Bs w w.heap.size v l → Calls Try.prog 59 #[v] w fun e w' => e = .returned (.tuple #[.agg #[.int .u64 (l0 (N) : Int), .int .u64 (l1 (N) : Int), .int .u64 (l2 (N) : Int), .int .u64 (l3 (N) : Int)], .int .i64 r]) ∧ Below w.heap.size w w'
  ref : ∀ (w : World) (v : Value), Bs w w.heap.size v l → Calls Try.prog 61 #[v] w fun e w' => e = .returned (.tuple #[.agg #[.int .u32 (dig (N) 0 : Int), .int .u32 (dig (N) 1 : Int), .int .u32 (dig (N) 2 : Int), .int .u32 (dig (N) 3 : Int), .int .u32 (dig (N) 4 : Int), .int .u32 (dig (N) 5 : Int), .int .u32 (dig (N) 6 : Int), .int .u32 (dig (N) 7 : Int)], .int .i64 r]) ∧ Below w.heap.size w w'
  code : r = 0 ∨ r = 2
theorem answers (l : List UInt8) : ∃ N r, Answers l N r := by
  by_cases h : l.length = 32
  · exact ⟨cutN (numL l) % PP, 0, Nat.mod_lt _ (by decide), fun w v hb => fread_ok hb h, fun w v hb => rread_ok hb h, .inl rfl⟩
  · exact ⟨0, 2, by decide, fun w v hb => fread_no hb h, fun w v hb => rread_no hb h, .inr rfl⟩

theorem numL_le (N : Nat) : ∀ k, numL (leBytes N k) = N % 256 ^ k
  | 0 => by rw [Nat.pow_zero, Nat.mod_one]; rfl
  | k + 1 => by
    have e : N % (256 ^ k * 256) = N % 256 ^ k + 256 ^ k * (N / 256 ^ k % 256) := Nat.mod_mul
    rw [leBytes_succ, numL_snoc, numL_le N k, leBytes_len, leB, UInt8.toNat_ofNat']
    show N % 256 ^ k + (N / 256 ^ k % 256) * 256 ^ k = N % (256 ^ k * 256)
    rw [e, Nat.mul_comm (256 ^ k)]
theorem back_num {N : Nat} (hN : N < PP) : cutN (numL (leBytes N 32)) % PP = N := by
  have h1 : N < 256 ^ 32 := Nat.lt_trans hN (by decide)
  have h2 : N < 57896044618658097711785492504343953926634992332820282019728792003956564819968 := Nat.lt_trans hN (by decide)
  rw [numL_le, Nat.mod_eq_of_lt h1, cutN, Nat.mod_eq_of_lt h2, Nat.mod_eq_of_lt hN]
theorem Bw.toBs {w : World} {g : Nat} {t : TypeId} {l : List UInt8} (h : Bw w g t l) (hl : l.length ≤ maxLen) : Bs w w.heap.size (.slice (some ⟨g, 0, none⟩) l.length l.length) l :=
  ⟨_, _, rfl, Nat.le_refl _, hl, fun _ => ⟨g, 0, rfl, h.lt, fun j hj => by rw [Nat.zero_add]; exact (h.at_ hj).1⟩⟩
theorem Bw.range {w : World} {g : Nat} {t : TypeId} {l : List UInt8} (h : Bw w g t l) : w.rangeAt g 0 (l.map vb) := fun j v hv => by
  have hj : j < l.length := by simpa using (List.getElem?_eq_some_iff.1 hv).1
  rw [Nat.zero_add, (h.at_ hj).1, ← hv, List.getElem?_map, List.getElem?_eq_getElem hj]
  rfl
theorem range_below {w w' : World} {B g : Nat} {cs : List Value} (h : w.rangeAt g 0 cs) (hb : Below B w w') (hg : g < B) : w'.rangeAt g 0 cs := fun j v hv => (hb.cell (p := ⟨g, 0 + j, none⟩) hg).trans (h j v hv)
set_option maxRecDepth 100000 in
set_option maxHeartbeats 4000000 in
/-- == of arrays of 32 bytes -/
theorem run_eql32 {l m : List UInt8} (hl : l.length = 32) (hm : m.length = 32) (w : World) : (binOp .eql 50 (.agg (l.map vb).toArray) (.agg (m.map vb).toArray)).run Try.prog w = .ok (.bool (decide (l.map (fun x => (x.toNat : Int)) = m.map (fun x => (x.toNat : Int))))) w := by
  obtain ⟨info, hi⟩ := u8Info1
  rw [vb_ints, vb_ints]
  exact run_eql_arr (P := Try.prog) (t := 50) (e := 5) (n := 32) (k := .u8) (k' := .u8) Try.underlying50 hi (by kernel_rfl) (by kernel_rfl) Try.underlying5 _ _ (by simpa using hl) (by simpa using hm) w

end Go.Proofs.Ytgkglielcbgpiaa
