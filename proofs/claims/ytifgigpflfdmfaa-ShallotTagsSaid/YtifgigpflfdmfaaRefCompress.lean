/- One block, as the reference compresses it. -/
import Derived.Test.YtifgigpflfdmfaaCompress
import Derived.Deep.DeepCutAuto
namespace Go.Proofs.Ytifgigpflfdmfaa
open Go.RowKit

/-- what the reference's Compress holds in memory -/
structure Mem (w0 : World) (B gk : Nat) (S W V : List UInt32) (wr : World) : Prop where
  below : Below B w0 wr
  hk : B + 2 < gk
  s : Ws wr B 36 S
  r : Ws wr (B + 1) 36 (zw 8)
  w : Ws wr (B + 2) 106 W
  k : Ws wr gk 106 constL
  v : Ws wr (gk + 1) 36 V
theorem Ws.other {w : World} {g g' : Nat} {t : TypeId} {l : List UInt32} (h : Ws w g t l) (hne : g' ≠ g) (j : Nat) (x : Value) : Ws (w.setCell ⟨g', j, none⟩ x) g t l :=
  h.grown (setCell_grown w g' j x) (by simpa using hne)
theorem Mem.drew {w0 wr : World} {B gk : Nat} {S W V : List UInt32} (h : Mem w0 B gk S W V wr) : Mem w0 B gk S W V wr.drew := ⟨h.below.drew, h.hk, h.s, h.r, h.w, h.k, h.v⟩
theorem Mem.drewN {w0 wr : World} {B gk : Nat} {S W V : List UInt32} (h : Mem w0 B gk S W V wr) (n : Nat) : Mem w0 B gk S W V (wr.drewN n) := ⟨below_drewN h.below n, h.hk, h.s, h.r, h.w, h.k, h.v⟩
theorem Mem.setW {w0 wr : World} {B gk : Nat} {S W V : List UInt32} (h : Mem w0 B gk S W V wr) {j : Nat} (hj : j < W.length) (x : UInt32) : Mem w0 B gk S (W.set j x) V (wr.setCell ⟨B + 2, j, none⟩ (.int .u32 (x.toNat : Int))) := by
  have := h.hk
  exact ⟨h.below.setCell (by show B ≤ B + 2; omega) _, h.hk, h.s.other (by omega) j _, h.r.other (by omega) j _, (h.w.at_ hj).2.2 x, h.k.other (by omega) j _, h.v.other (by omega) j _⟩
theorem Mem.setV {w0 wr : World} {B gk : Nat} {S W V : List UInt32} (h : Mem w0 B gk S W V wr) {j : Nat} (hj : j < V.length) (x : UInt32) : Mem w0 B gk S W (V.set j x) (wr.setCell ⟨gk + 1, j, none⟩ (.int .u32 (x.toNat : Int))) := by
  have := h.hk
  exact ⟨h.below.setCell (by show B ≤ gk + 1; omega) _, h.hk, h.s.other (by omega) j _, h.r.other (by omega) j _, h.w.other (by omega) j _, h.k.other (by omega) j _, (h.v.at_ hj).2.2 x⟩
theorem Mem.setS {w0 wr : World} {B gk : Nat} {S W V : List UInt32} (h : Mem w0 B gk S W V wr) {j : Nat} (hj : j < S.length) (x : UInt32) : Mem w0 B gk (S.set j x) W V (wr.setCell ⟨B, j, none⟩ (.int .u32 (x.toNat : Int))) := by
  have := h.hk
  exact ⟨h.below.setCell (by show B ≤ B; omega) _, h.hk, (h.s.at_ hj).2.2 x, h.r.other (by omega) j _, h.w.other (by omega) j _, h.k.other (by omega) j _, h.v.other (by omega) j _⟩
/-- the words so far, noughts behind them -/
def firsts (l : List UInt8) (t : Nat) : List UInt32 := (schedL l 48).take t ++ zw (64 - t)
theorem firsts_len (l : List UInt8) (t : Nat) (h : t ≤ 64) : (firsts l t).length = 64 := by
  simp [firsts, zw, schedL_len]; omega
/-- a word of the block, byte by byte -/
def partB (l : List UInt8) (t : Nat) : Nat → UInt32
  | 0 => 0
  | i + 1 => partB l t i * 256 + UInt32.ofNat (l.getD (4 * t + i) 0).toNat
theorem partB_4 (l : List UInt8) (t : Nat) : partB l t 4 = wordB l t := by
  apply UInt32.toNat_inj.1
  have h0 := (l.getD (4 * t + 0) 0).toNat_lt
  have h1 := (l.getD (4 * t + 1) 0).toNat_lt
  have h2 := (l.getD (4 * t + 2) 0).toNat_lt
  have h3 := (l.getD (4 * t + 3) 0).toNat_lt
  have e3 : getP 2 4 l (4 * t) 4 = ((((l.getD (4 * t + 3) 0).toNat * 256 ^ 0) + (l.getD (4 * t + 2) 0).toNat * 256 ^ 1) + (l.getD (4 * t + 1) 0).toNat * 256 ^ 2) + (l.getD (4 * t + 0) 0).toNat * 256 ^ 3 := by
    simp [getP, idx]
  rw [wordB, e3]
  simp only [partB, UInt32.toNat_add, UInt32.toNat_mul, UInt32.toNat_ofNat']
  generalize (l.getD (4 * t + 0) 0).toNat = x0 at *
  generalize (l.getD (4 * t + 1) 0).toNat = x1 at *
  generalize (l.getD (4 * t + 2) 0).toNat = x2 at *
  generalize (l.getD (4 * t + 3) 0).toNat = x3 at *
  have hz : (0 : UInt32).toNat = 0 := rfl
  have h256 : (256 : UInt32).toNat = 256 := rfl
  rw [hz, h256]
  omega
theorem schedL_take (l : List UInt8) (k n : Nat) (h : k ≤ n) : (schedL l n).take (k + 16) = schedL l k := by
  induction n with
  | zero =>
    obtain rfl : k = 0 := by omega
    exact List.take_of_length_le (by rw [schedL_len]; omega)
  | succ n ih =>
    by_cases e : k = n + 1
    · subst e
      exact List.take_of_length_le (by rw [schedL_len]; omega)
    · rw [schedL, List.take_append_of_le_length (by rw [schedL_len]; omega)]
      exact ih (by omega)
theorem schedL_word (l : List UInt8) (t : Nat) (h : t < 16) : (schedL l 48).getD t 0 = wordB l t := by
  have h1 : (schedL l 48).take 16 = schedL l 0 := schedL_take l 0 48 (by omega)
  have h2 : ((schedL l 48).take 16)[t]? = (schedL l 48)[t]? := by rw [List.getElem?_take, if_pos h]
  rw [h1, schedL] at h2
  rw [List.getD_eq_getElem?_getD, ← h2]
  simp [h]
theorem schedL_grow (l : List UInt8) (k : Nat) (h : k < 48) : (schedL l 48).getD (k + 16) 0 = growW (schedL l k) k := by
  have h1 : (schedL l 48).take (k + 1 + 16) = schedL l (k + 1) := schedL_take l (k + 1) 48 (by omega)
  have h2 : ((schedL l 48).take (k + 1 + 16))[k + 16]? = (schedL l 48)[k + 16]? := by rw [List.getElem?_take, if_pos (by omega)]
  rw [h1, schedL] at h2
  rw [List.getD_eq_getElem?_getD, ← h2, List.getElem?_append_right (by rw [schedL_len]; omega), schedL_len]
  simp
theorem firsts_at (l : List UInt8) (t j : Nat) (h : j < t) (ht : t ≤ 64) : (firsts l t).getD j 0 = (schedL l 48).getD j 0 := by
  rw [firsts, List.getD_eq_getElem?_getD, List.getElem?_append_left (by simp [schedL_len]; omega), List.getElem?_take, if_pos h, ← List.getD_eq_getElem?_getD]
theorem firsts_set (l : List UInt8) (t : Nat) (h : t < 64) (x : UInt32) : (firsts l t).set t x = (schedL l 48).take t ++ x :: zw (63 - t) := by
  have hl : ((schedL l 48).take t).length = t := by simp [schedL_len]; omega
  rw [firsts, show 64 - t = (63 - t) + 1 by omega, zw_succ, List.set_append_right _ _ (by omega), hl, Nat.sub_self]
  rfl
theorem firsts_succ (l : List UInt8) (t : Nat) (h : t < 64) : (firsts l t).set t ((schedL l 48).getD t 0) = firsts l (t + 1) := by
  rw [firsts_set l t h, firsts, show 64 - (t + 1) = 63 - t by omega]
  have hl : t < (schedL l 48).length := by rw [schedL_len]; omega
  rw [List.take_succ_eq_append_getElem hl, List.append_assoc]
  simp [List.getD_eq_getElem?_getD, hl]
theorem firsts_zero (l : List UInt8) (t : Nat) (h : t < 64) : (firsts l t).set t 0 = firsts l t := by
  rw [firsts_set l t h, firsts, show 64 - t = (63 - t) + 1 by omega, zw_succ]
theorem roundsL_words (a b c d e f g k : UInt32) (W : List UInt32) (t : Nat) : ∃ a1 b1 c1 d1 e1 f1 g1 k1, roundsL [a, b, c, d, e, f, g, k] W t = [a1, b1, c1, d1, e1, f1, g1, k1] := by
  induction t with
  | zero => exact ⟨a, b, c, d, e, f, g, k, rfl⟩
  | succ t ih =>
    obtain ⟨a1, b1, c1, d1, e1, f1, g1, k1, h⟩ := ih
    rw [roundsL, h]
    exact ⟨_, _, _, _, _, _, _, _, rfl⟩
/-- moved by one place from place i on -/
def shL (V : List UInt32) (i : Nat) : List UInt32 := V.take (i + 1) ++ (V.drop i).dropLast
theorem shL_step (a b c d e f g k : UInt32) (i : Nat) (h : i < 7) : ∃ z, (shL [a, b, c, d, e, f, g, k] (i + 1)).getD i 0 = z ∧ (shL [a, b, c, d, e, f, g, k] (i + 1)).set (i + 1) z = shL [a, b, c, d, e, f, g, k] i ∧ (shL [a, b, c, d, e, f, g, k] (i + 1)).length = 8 := by
  rcases (by omega : i = 0 ∨ i = 1 ∨ i = 2 ∨ i = 3 ∨ i = 4 ∨ i = 5 ∨ i = 6) with rfl | rfl | rfl | rfl | rfl | rfl | rfl <;> exact ⟨_, rfl, rfl, rfl⟩
theorem set_set_eq (L : List UInt32) (t : Nat) (x y : UInt32) : (L.set t x).set t y = L.set t y := by simp

set_option maxRecDepth 100000 in
set_option maxHeartbeats 6400000 in
theorem refCompress_any (a b c d e f g k : UInt32) {l : List UInt8} {v : Value} {w : World} (hb : Bs w w.heap.size v l) (hl : l.length = 64) :
    Calls Try.prog 87 #[.agg #[.int .u32 (a.toNat : Int), .int .u32 (b.toNat : Int), .int .u32 (c.toNat : Int), .int .u32 (d.toNat : Int), .int .u32 (e.toNat : Int), .int .u32 (f.toNat : Int), .int .u32 (g.toNat : Int), .int .u32 (k.toNat : Int)], v] w fun ex w' => ex = .returned (agg (compL [a, b, c, d, e, f, g, k] l)) ∧ Below w.heap.size w w' := by
  obtain ⟨A, c', hv⟩ : ∃ A c', v = .slice A 64 c' := by
    obtain ⟨A, c, hv, _⟩ := hb
    rw [hl] at hv
    exact ⟨A, c, hv⟩
  subst hv
  obtain ⟨ks, hks⟩ : ∃ ks : Array Value, agg constL = .agg ks ∧ ks = (constL.map vw).toArray := ⟨_, rfl, rfl⟩
  have HKS := Lib.hid hks.2
  have c1 : Hid (∀ W, Calls Try.prog 97 #[] W fun ex w' => ex = .returned (.agg ks) ∧ Below W.heap.size W w') := by
    have h := fun W => table_any W
    rw [hks.1] at h
    exact h
  have hkz : Hid (ks.size = 64) := by show _ = _; rw [hks.2]; rfl
  have hone2 : Hid (ks.all (·.oneCell') = true) := by
    rw [hks.2]
    show _ = _
    rw [Array.all_eq_true_iff_forall_mem]
    intro u hu
    simp only [List.mem_toArray, List.mem_map] at hu
    obtain ⟨x, _, rfl⟩ := hu
    rfl
  have hi2 : Hid ((Try.prog.info? 106).map (·.size) = some ks.size) := by rw [hkz.out]; show _ = _; kernel_rfl
  have hi8 : Hid ((Try.prog.info? 36).map (·.size) = some (#[.int .u32 (a.toNat : Int), .int .u32 (b.toNat : Int), .int .u32 (c.toNat : Int), .int .u32 (d.toNat : Int), .int .u32 (e.toNat : Int), .int .u32 (f.toNat : Int), .int .u32 (g.toNat : Int), .int .u32 (k.toNat : Int)] : Array Value).size) := by show _ = _; kernel_rfl
  have hz2 : Hid ((#[.int .u32 0, .int .u32 0, .int .u32 0, .int .u32 0, .int .u32 0, .int .u32 0, .int .u32 0, .int .u32 0, .int .u32 0, .int .u32 0, .int .u32 0, .int .u32 0, .int .u32 0, .int .u32 0, .int .u32 0, .int .u32 0, .int .u32 0, .int .u32 0, .int .u32 0, .int .u32 0, .int .u32 0, .int .u32 0, .int .u32 0, .int .u32 0, .int .u32 0, .int .u32 0, .int .u32 0, .int .u32 0, .int .u32 0, .int .u32 0, .int .u32 0, .int .u32 0, .int .u32 0, .int .u32 0, .int .u32 0, .int .u32 0, .int .u32 0, .int .u32 0, .int .u32 0, .int .u32 0, .int .u32 0, .int .u32 0, .int .u32 0, .int .u32 0, .int .u32 0, .int .u32 0, .int .u32 0, .int .u32 0, .int .u32 0, .int .u32 0, .int .u32 0, .int .u32 0, .int .u32 0, .int .u32 0, .int .u32 0, .int .u32 0, .int .u32 0, .int .u32 0, .int .u32 0, .int .u32 0, .int .u32 0, .int .u32 0, .int .u32 0, .int .u32 0] : Array Value).size = ks.size) := by show _ = _; rw [hkz.out]; rfl
  have hb0 : Below w.heap.size w (((w.alloc (.cells #[.int .u32 (a.toNat : Int), .int .u32 (b.toNat : Int), .int .u32 (c.toNat : Int), .int .u32 (d.toNat : Int), .int .u32 (e.toNat : Int), .int .u32 (f.toNat : Int), .int .u32 (g.toNat : Int), .int .u32 (k.toNat : Int)] 36)).alloc (.cells #[.int .u32 0, .int .u32 0, .int .u32 0, .int .u32 0, .int .u32 0, .int .u32 0, .int .u32 0, .int .u32 0] 36)).alloc (.cells #[.int .u32 0, .int .u32 0, .int .u32 0, .int .u32 0, .int .u32 0, .int .u32 0, .int .u32 0, .int .u32 0, .int .u32 0, .int .u32 0, .int .u32 0, .int .u32 0, .int .u32 0, .int .u32 0, .int .u32 0, .int .u32 0, .int .u32 0, .int .u32 0, .int .u32 0, .int .u32 0, .int .u32 0, .int .u32 0, .int .u32 0, .int .u32 0, .int .u32 0, .int .u32 0, .int .u32 0, .int .u32 0, .int .u32 0, .int .u32 0, .int .u32 0, .int .u32 0, .int .u32 0, .int .u32 0, .int .u32 0, .int .u32 0, .int .u32 0, .int .u32 0, .int .u32 0, .int .u32 0, .int .u32 0, .int .u32 0, .int .u32 0, .int .u32 0, .int .u32 0, .int .u32 0, .int .u32 0, .int .u32 0, .int .u32 0, .int .u32 0, .int .u32 0, .int .u32 0, .int .u32 0, .int .u32 0, .int .u32 0, .int .u32 0, .int .u32 0, .int .u32 0, .int .u32 0, .int .u32 0, .int .u32 0, .int .u32 0, .int .u32 0, .int .u32 0] 106)) := (((Below.refl _ _).alloc (Nat.le_refl _) _).alloc (by simp) _).alloc (by simp; omega) _
  obtain ⟨b0, off, rfl, hb0lt, hcell⟩ : ∃ b0 off, A = some ⟨b0, off, none⟩ ∧ b0 < w.heap.size ∧ ∀ j, j < 64 → w.cell? ⟨b0, off + j, none⟩ = some (.int .u8 ((l.getD j 0).toNat : Int)) := by
    obtain ⟨A', c, hv, _, _, h3⟩ := hb
    simp only [Value.slice.injEq] at hv
    obtain ⟨rfl, _, rfl⟩ := hv
    obtain ⟨b0, off, rfl, hlt, hc⟩ := h3 (by omega)
    refine ⟨b0, off, rfl, hlt, fun j hj => ?_⟩
    rw [hc j (by omega)]
    simp [show j < l.length by omega]
  have HC := Lib.hid hcell
  clear hcell
  have HB0 := Lib.hid hb0; have HBS := Lib.hid hb; have HL := Lib.hid hl
  clear hks hb0 hb hl
  go_enter Try.func87, Try.ntmps87
  go_wp2_with fail
  refine (c1.out _).mono ?_
  rintro ex w1 ⟨rfl, hbb⟩
  have hsz : w.heap.size + 2 < w1.heap.size := by
    have := hbb.size
    simp at this
    omega
  have h2 : Hid ((w1.alloc (.cells #[.int .u32 0, .int .u32 0, .int .u32 0, .int .u32 0, .int .u32 0, .int .u32 0, .int .u32 0, .int .u32 0, .int .u32 0, .int .u32 0, .int .u32 0, .int .u32 0, .int .u32 0, .int .u32 0, .int .u32 0, .int .u32 0, .int .u32 0, .int .u32 0, .int .u32 0, .int .u32 0, .int .u32 0, .int .u32 0, .int .u32 0, .int .u32 0, .int .u32 0, .int .u32 0, .int .u32 0, .int .u32 0, .int .u32 0, .int .u32 0, .int .u32 0, .int .u32 0, .int .u32 0, .int .u32 0, .int .u32 0, .int .u32 0, .int .u32 0, .int .u32 0, .int .u32 0, .int .u32 0, .int .u32 0, .int .u32 0, .int .u32 0, .int .u32 0, .int .u32 0, .int .u32 0, .int .u32 0, .int .u32 0, .int .u32 0, .int .u32 0, .int .u32 0, .int .u32 0, .int .u32 0, .int .u32 0, .int .u32 0, .int .u32 0, .int .u32 0, .int .u32 0, .int .u32 0, .int .u32 0, .int .u32 0, .int .u32 0, .int .u32 0, .int .u32 0] 106)).heap[w1.heap.size]? = some (.cells #[.int .u32 0, .int .u32 0, .int .u32 0, .int .u32 0, .int .u32 0, .int .u32 0, .int .u32 0, .int .u32 0, .int .u32 0, .int .u32 0, .int .u32 0, .int .u32 0, .int .u32 0, .int .u32 0, .int .u32 0, .int .u32 0, .int .u32 0, .int .u32 0, .int .u32 0, .int .u32 0, .int .u32 0, .int .u32 0, .int .u32 0, .int .u32 0, .int .u32 0, .int .u32 0, .int .u32 0, .int .u32 0, .int .u32 0, .int .u32 0, .int .u32 0, .int .u32 0, .int .u32 0, .int .u32 0, .int .u32 0, .int .u32 0, .int .u32 0, .int .u32 0, .int .u32 0, .int .u32 0, .int .u32 0, .int .u32 0, .int .u32 0, .int .u32 0, .int .u32 0, .int .u32 0, .int .u32 0, .int .u32 0, .int .u32 0, .int .u32 0, .int .u32 0, .int .u32 0, .int .u32 0, .int .u32 0, .int .u32 0, .int .u32 0, .int .u32 0, .int .u32 0, .int .u32 0, .int .u32 0, .int .u32 0, .int .u32 0, .int .u32 0, .int .u32 0] 106 (0, 0))) := heap_alloc_new w1 _
  have G2 := grew_row w1 (.cells #[.int .u32 0, .int .u32 0, .int .u32 0, .int .u32 0, .int .u32 0, .int .u32 0, .int .u32 0, .int .u32 0, .int .u32 0, .int .u32 0, .int .u32 0, .int .u32 0, .int .u32 0, .int .u32 0, .int .u32 0, .int .u32 0, .int .u32 0, .int .u32 0, .int .u32 0, .int .u32 0, .int .u32 0, .int .u32 0, .int .u32 0, .int .u32 0, .int .u32 0, .int .u32 0, .int .u32 0, .int .u32 0, .int .u32 0, .int .u32 0, .int .u32 0, .int .u32 0, .int .u32 0, .int .u32 0, .int .u32 0, .int .u32 0, .int .u32 0, .int .u32 0, .int .u32 0, .int .u32 0, .int .u32 0, .int .u32 0, .int .u32 0, .int .u32 0, .int .u32 0, .int .u32 0, .int .u32 0, .int .u32 0, .int .u32 0, .int .u32 0, .int .u32 0, .int .u32 0, .int .u32 0, .int .u32 0, .int .u32 0, .int .u32 0, .int .u32 0, .int .u32 0, .int .u32 0, .int .u32 0, .int .u32 0, .int .u32 0, .int .u32 0, .int .u32 0] 106) ks
  have hb1 := HB0.out.trans (hbb.mono HB0.out.size)
  have hb2 : Below w.heap.size w ((w1.alloc (.cells #[.int .u32 0, .int .u32 0, .int .u32 0, .int .u32 0, .int .u32 0, .int .u32 0, .int .u32 0, .int .u32 0, .int .u32 0, .int .u32 0, .int .u32 0, .int .u32 0, .int .u32 0, .int .u32 0, .int .u32 0, .int .u32 0, .int .u32 0, .int .u32 0, .int .u32 0, .int .u32 0, .int .u32 0, .int .u32 0, .int .u32 0, .int .u32 0, .int .u32 0, .int .u32 0, .int .u32 0, .int .u32 0, .int .u32 0, .int .u32 0, .int .u32 0, .int .u32 0, .int .u32 0, .int .u32 0, .int .u32 0, .int .u32 0, .int .u32 0, .int .u32 0, .int .u32 0, .int .u32 0, .int .u32 0, .int .u32 0, .int .u32 0, .int .u32 0, .int .u32 0, .int .u32 0, .int .u32 0, .int .u32 0, .int .u32 0, .int .u32 0, .int .u32 0, .int .u32 0, .int .u32 0, .int .u32 0, .int .u32 0, .int .u32 0, .int .u32 0, .int .u32 0, .int .u32 0, .int .u32 0, .int .u32 0, .int .u32 0, .int .u32 0, .int .u32 0] 106)).setRow w1.heap.size ks) := hb1.grown G2 hb1.size (by simp)
  have hz2s : ((w1.alloc (.cells #[.int .u32 0, .int .u32 0, .int .u32 0, .int .u32 0, .int .u32 0, .int .u32 0, .int .u32 0, .int .u32 0, .int .u32 0, .int .u32 0, .int .u32 0, .int .u32 0, .int .u32 0, .int .u32 0, .int .u32 0, .int .u32 0, .int .u32 0, .int .u32 0, .int .u32 0, .int .u32 0, .int .u32 0, .int .u32 0, .int .u32 0, .int .u32 0, .int .u32 0, .int .u32 0, .int .u32 0, .int .u32 0, .int .u32 0, .int .u32 0, .int .u32 0, .int .u32 0, .int .u32 0, .int .u32 0, .int .u32 0, .int .u32 0, .int .u32 0, .int .u32 0, .int .u32 0, .int .u32 0, .int .u32 0, .int .u32 0, .int .u32 0, .int .u32 0, .int .u32 0, .int .u32 0, .int .u32 0, .int .u32 0, .int .u32 0, .int .u32 0, .int .u32 0, .int .u32 0, .int .u32 0, .int .u32 0, .int .u32 0, .int .u32 0, .int .u32 0, .int .u32 0, .int .u32 0, .int .u32 0, .int .u32 0, .int .u32 0, .int .u32 0, .int .u32 0] 106)).setRow w1.heap.size ks).heap.size = w1.heap.size + 1 := by simp
  have st : Hid (((w1.alloc (.cells #[.int .u32 0, .int .u32 0, .int .u32 0, .int .u32 0, .int .u32 0, .int .u32 0, .int .u32 0, .int .u32 0, .int .u32 0, .int .u32 0, .int .u32 0, .int .u32 0, .int .u32 0, .int .u32 0, .int .u32 0, .int .u32 0, .int .u32 0, .int .u32 0, .int .u32 0, .int .u32 0, .int .u32 0, .int .u32 0, .int .u32 0, .int .u32 0, .int .u32 0, .int .u32 0, .int .u32 0, .int .u32 0, .int .u32 0, .int .u32 0, .int .u32 0, .int .u32 0, .int .u32 0, .int .u32 0, .int .u32 0, .int .u32 0, .int .u32 0, .int .u32 0, .int .u32 0, .int .u32 0, .int .u32 0, .int .u32 0, .int .u32 0, .int .u32 0, .int .u32 0, .int .u32 0, .int .u32 0, .int .u32 0, .int .u32 0, .int .u32 0, .int .u32 0, .int .u32 0, .int .u32 0, .int .u32 0, .int .u32 0, .int .u32 0, .int .u32 0, .int .u32 0, .int .u32 0, .int .u32 0, .int .u32 0, .int .u32 0, .int .u32 0, .int .u32 0] 106)).setRow w1.heap.size ks).heap[w.heap.size]? = some (.cells #[.int .u32 (a.toNat : Int), .int .u32 (b.toNat : Int), .int .u32 (c.toNat : Int), .int .u32 (d.toNat : Int), .int .u32 (e.toNat : Int), .int .u32 (f.toNat : Int), .int .u32 (g.toNat : Int), .int .u32 (k.toNat : Int)] 36 (0, 0))) :=
    Lib.hid ((G2.block _ (by omega) (by simp)).trans ((hbb.block _ (by simp; omega)).trans ((heap_alloc_old _ _ (by simp; omega)).trans ((heap_alloc_old _ _ (by simp)).trans (heap_alloc_new w _)))))
  have rs : ((w1.alloc (.cells #[.int .u32 0, .int .u32 0, .int .u32 0, .int .u32 0, .int .u32 0, .int .u32 0, .int .u32 0, .int .u32 0, .int .u32 0, .int .u32 0, .int .u32 0, .int .u32 0, .int .u32 0, .int .u32 0, .int .u32 0, .int .u32 0, .int .u32 0, .int .u32 0, .int .u32 0, .int .u32 0, .int .u32 0, .int .u32 0, .int .u32 0, .int .u32 0, .int .u32 0, .int .u32 0, .int .u32 0, .int .u32 0, .int .u32 0, .int .u32 0, .int .u32 0, .int .u32 0, .int .u32 0, .int .u32 0, .int .u32 0, .int .u32 0, .int .u32 0, .int .u32 0, .int .u32 0, .int .u32 0, .int .u32 0, .int .u32 0, .int .u32 0, .int .u32 0, .int .u32 0, .int .u32 0, .int .u32 0, .int .u32 0, .int .u32 0, .int .u32 0, .int .u32 0, .int .u32 0, .int .u32 0, .int .u32 0, .int .u32 0, .int .u32 0, .int .u32 0, .int .u32 0, .int .u32 0, .int .u32 0, .int .u32 0, .int .u32 0, .int .u32 0, .int .u32 0] 106)).setRow w1.heap.size ks).heap[w.heap.size + 1]? = some (.cells #[.int .u32 0, .int .u32 0, .int .u32 0, .int .u32 0, .int .u32 0, .int .u32 0, .int .u32 0, .int .u32 0] 36 (0, 0)) :=
    (G2.block _ (by omega) (by simp)).trans ((hbb.block _ (by simp)).trans ((heap_alloc_old _ _ (by simp)).trans (heap_alloc2_new w _ _)))
  have rw' : ((w1.alloc (.cells #[.int .u32 0, .int .u32 0, .int .u32 0, .int .u32 0, .int .u32 0, .int .u32 0, .int .u32 0, .int .u32 0, .int .u32 0, .int .u32 0, .int .u32 0, .int .u32 0, .int .u32 0, .int .u32 0, .int .u32 0, .int .u32 0, .int .u32 0, .int .u32 0, .int .u32 0, .int .u32 0, .int .u32 0, .int .u32 0, .int .u32 0, .int .u32 0, .int .u32 0, .int .u32 0, .int .u32 0, .int .u32 0, .int .u32 0, .int .u32 0, .int .u32 0, .int .u32 0, .int .u32 0, .int .u32 0, .int .u32 0, .int .u32 0, .int .u32 0, .int .u32 0, .int .u32 0, .int .u32 0, .int .u32 0, .int .u32 0, .int .u32 0, .int .u32 0, .int .u32 0, .int .u32 0, .int .u32 0, .int .u32 0, .int .u32 0, .int .u32 0, .int .u32 0, .int .u32 0, .int .u32 0, .int .u32 0, .int .u32 0, .int .u32 0, .int .u32 0, .int .u32 0, .int .u32 0, .int .u32 0, .int .u32 0, .int .u32 0, .int .u32 0, .int .u32 0] 106)).setRow w1.heap.size ks).heap[w.heap.size + 2]? = some (.cells #[.int .u32 0, .int .u32 0, .int .u32 0, .int .u32 0, .int .u32 0, .int .u32 0, .int .u32 0, .int .u32 0, .int .u32 0, .int .u32 0, .int .u32 0, .int .u32 0, .int .u32 0, .int .u32 0, .int .u32 0, .int .u32 0, .int .u32 0, .int .u32 0, .int .u32 0, .int .u32 0, .int .u32 0, .int .u32 0, .int .u32 0, .int .u32 0, .int .u32 0, .int .u32 0, .int .u32 0, .int .u32 0, .int .u32 0, .int .u32 0, .int .u32 0, .int .u32 0, .int .u32 0, .int .u32 0, .int .u32 0, .int .u32 0, .int .u32 0, .int .u32 0, .int .u32 0, .int .u32 0, .int .u32 0, .int .u32 0, .int .u32 0, .int .u32 0, .int .u32 0, .int .u32 0, .int .u32 0, .int .u32 0, .int .u32 0, .int .u32 0, .int .u32 0, .int .u32 0, .int .u32 0, .int .u32 0, .int .u32 0, .int .u32 0, .int .u32 0, .int .u32 0, .int .u32 0, .int .u32 0, .int .u32 0, .int .u32 0, .int .u32 0, .int .u32 0] 106 (0, 0)) :=
    (G2.block _ (by omega) (by simp)).trans ((hbb.block _ (by simp)).trans (by
      have h := heap_alloc_new ((w.alloc (.cells #[.int .u32 (a.toNat : Int), .int .u32 (b.toNat : Int), .int .u32 (c.toNat : Int), .int .u32 (d.toNat : Int), .int .u32 (e.toNat : Int), .int .u32 (f.toNat : Int), .int .u32 (g.toNat : Int), .int .u32 (k.toNat : Int)] 36)).alloc (.cells #[.int .u32 0, .int .u32 0, .int .u32 0, .int .u32 0, .int .u32 0, .int .u32 0, .int .u32 0, .int .u32 0] 36)) (.cells #[.int .u32 0, .int .u32 0, .int .u32 0, .int .u32 0, .int .u32 0, .int .u32 0, .int .u32 0, .int .u32 0, .int .u32 0, .int .u32 0, .int .u32 0, .int .u32 0, .int .u32 0, .int .u32 0, .int .u32 0, .int .u32 0, .int .u32 0, .int .u32 0, .int .u32 0, .int .u32 0, .int .u32 0, .int .u32 0, .int .u32 0, .int .u32 0, .int .u32 0, .int .u32 0, .int .u32 0, .int .u32 0, .int .u32 0, .int .u32 0, .int .u32 0, .int .u32 0, .int .u32 0, .int .u32 0, .int .u32 0, .int .u32 0, .int .u32 0, .int .u32 0, .int .u32 0, .int .u32 0, .int .u32 0, .int .u32 0, .int .u32 0, .int .u32 0, .int .u32 0, .int .u32 0, .int .u32 0, .int .u32 0, .int .u32 0, .int .u32 0, .int .u32 0, .int .u32 0, .int .u32 0, .int .u32 0, .int .u32 0, .int .u32 0, .int .u32 0, .int .u32 0, .int .u32 0, .int .u32 0, .int .u32 0, .int .u32 0, .int .u32 0, .int .u32 0] 106)
      simpa using h))
  have rk : ((w1.alloc (.cells #[.int .u32 0, .int .u32 0, .int .u32 0, .int .u32 0, .int .u32 0, .int .u32 0, .int .u32 0, .int .u32 0, .int .u32 0, .int .u32 0, .int .u32 0, .int .u32 0, .int .u32 0, .int .u32 0, .int .u32 0, .int .u32 0, .int .u32 0, .int .u32 0, .int .u32 0, .int .u32 0, .int .u32 0, .int .u32 0, .int .u32 0, .int .u32 0, .int .u32 0, .int .u32 0, .int .u32 0, .int .u32 0, .int .u32 0, .int .u32 0, .int .u32 0, .int .u32 0, .int .u32 0, .int .u32 0, .int .u32 0, .int .u32 0, .int .u32 0, .int .u32 0, .int .u32 0, .int .u32 0, .int .u32 0, .int .u32 0, .int .u32 0, .int .u32 0, .int .u32 0, .int .u32 0, .int .u32 0, .int .u32 0, .int .u32 0, .int .u32 0, .int .u32 0, .int .u32 0, .int .u32 0, .int .u32 0, .int .u32 0, .int .u32 0, .int .u32 0, .int .u32 0, .int .u32 0, .int .u32 0, .int .u32 0, .int .u32 0, .int .u32 0, .int .u32 0] 106)).setRow w1.heap.size ks).heap[w1.heap.size]? = some (.cells ks 106 (0, 0)) := setRow_heap (w1.alloc _) w1.heap.size _ _ _ _ h2.out
  have M : Mem w w.heap.size w1.heap.size [a, b, c, d, e, f, g, k] (firsts l 0) (roundsL [a, b, c, d, e, f, g, k] (schedL l 48) 0) (((w1.alloc (.cells #[.int .u32 0, .int .u32 0, .int .u32 0, .int .u32 0, .int .u32 0, .int .u32 0, .int .u32 0, .int .u32 0, .int .u32 0, .int .u32 0, .int .u32 0, .int .u32 0, .int .u32 0, .int .u32 0, .int .u32 0, .int .u32 0, .int .u32 0, .int .u32 0, .int .u32 0, .int .u32 0, .int .u32 0, .int .u32 0, .int .u32 0, .int .u32 0, .int .u32 0, .int .u32 0, .int .u32 0, .int .u32 0, .int .u32 0, .int .u32 0, .int .u32 0, .int .u32 0, .int .u32 0, .int .u32 0, .int .u32 0, .int .u32 0, .int .u32 0, .int .u32 0, .int .u32 0, .int .u32 0, .int .u32 0, .int .u32 0, .int .u32 0, .int .u32 0, .int .u32 0, .int .u32 0, .int .u32 0, .int .u32 0, .int .u32 0, .int .u32 0, .int .u32 0, .int .u32 0, .int .u32 0, .int .u32 0, .int .u32 0, .int .u32 0, .int .u32 0, .int .u32 0, .int .u32 0, .int .u32 0, .int .u32 0, .int .u32 0, .int .u32 0, .int .u32 0] 106)).setRow w1.heap.size ks).alloc (.cells #[.int .u32 (a.toNat : Int), .int .u32 (b.toNat : Int), .int .u32 (c.toNat : Int), .int .u32 (d.toNat : Int), .int .u32 (e.toNat : Int), .int .u32 (f.toNat : Int), .int .u32 (g.toNat : Int), .int .u32 (k.toNat : Int)] 36)) := by
    refine ⟨hb2.alloc hb2.size _, hsz, (heap_alloc_old _ _ (by rw [hz2s]; omega)).trans st.out, (heap_alloc_old _ _ (by rw [hz2s]; omega)).trans rs, (heap_alloc_old _ _ (by rw [hz2s]; omega)).trans rw', ?_, ?_⟩
    · refine ((heap_alloc_old _ _ (by rw [hz2s]; omega)).trans rk).trans ?_
      rw [HKS.out]
    · have h := heap_alloc_new ((w1.alloc (.cells #[.int .u32 0, .int .u32 0, .int .u32 0, .int .u32 0, .int .u32 0, .int .u32 0, .int .u32 0, .int .u32 0, .int .u32 0, .int .u32 0, .int .u32 0, .int .u32 0, .int .u32 0, .int .u32 0, .int .u32 0, .int .u32 0, .int .u32 0, .int .u32 0, .int .u32 0, .int .u32 0, .int .u32 0, .int .u32 0, .int .u32 0, .int .u32 0, .int .u32 0, .int .u32 0, .int .u32 0, .int .u32 0, .int .u32 0, .int .u32 0, .int .u32 0, .int .u32 0, .int .u32 0, .int .u32 0, .int .u32 0, .int .u32 0, .int .u32 0, .int .u32 0, .int .u32 0, .int .u32 0, .int .u32 0, .int .u32 0, .int .u32 0, .int .u32 0, .int .u32 0, .int .u32 0, .int .u32 0, .int .u32 0, .int .u32 0, .int .u32 0, .int .u32 0, .int .u32 0, .int .u32 0, .int .u32 0, .int .u32 0, .int .u32 0, .int .u32 0, .int .u32 0, .int .u32 0, .int .u32 0, .int .u32 0, .int .u32 0, .int .u32 0, .int .u32 0] 106)).setRow w1.heap.size ks) (.cells #[.int .u32 (a.toNat : Int), .int .u32 (b.toNat : Int), .int .u32 (c.toNat : Int), .int .u32 (d.toNat : Int), .int .u32 (e.toNat : Int), .int .u32 (f.toNat : Int), .int .u32 (g.toNat : Int), .int .u32 (k.toNat : Int)] 36)
      rw [hz2s] at h
      exact h
  clear rs rw' rk hb1 hb2 G2
  go_wp2_with (first
    | (with_reducible refine wpList_load_row rfl 36 (.tmp 2) rfl w.heap.size rfl 36 _ (0, 0) _ st.out u32arr rfl hi8.out ?_)
    | with_reducible refine wpList_store_row rfl 106 (.tmp 6) (.tmp 18) rfl w1.heap.size ks rfl rfl 106 _ h2.out hi2.out hz2.out hone2.out ?_)
  clear st h2
  go_loopw [8] (fun i wr => ∃ t : Nat, t ≤ 64 ∧ i = .int .i64 t ∧ Mem w w.heap.size w1.heap.size [a, b, c, d, e, f, g, k] (firsts l t) (roundsL [a, b, c, d, e, f, g, k] (schedL l 48) t) wr) (fun i _ => 64 - (intOf i).toNat)
  case atStart => exact ⟨0, Nat.zero_le _, rfl, M⟩
  case round =>
    obtain ⟨t, ht, rfl, M1⟩ := hrel
    clear M
    by_cases hlt : t < 64
    · have d64 : decide ((t : Int) < 64) = true := by simp; omega
      go_upto_if 25 with fail
      go_cut [] (fun wx => Mem w w.heap.size w1.heap.size [a, b, c, d, e, f, g, k] (firsts l (t + 1)) (roundsL [a, b, c, d, e, f, g, k] (schedL l 48) t) wx)
      case first =>
        by_cases h16 : t < 16
        · have d16 : decide ((t : Int) < 16) = true := by simp; omega
          rw [d16]
          have M2 : Mem w w.heap.size w1.heap.size [a, b, c, d, e, f, g, k] ((firsts l t).set t (partB l t 0)) (roundsL [a, b, c, d, e, f, g, k] (schedL l 48) t) wr := by
            rw [partB, firsts_zero l t hlt]; exact M1
          go_wp2_with fail
          go_loopw [9] (fun i wr => ∃ i' : Nat, i' ≤ 4 ∧ i = .int .i64 i' ∧ Mem w w.heap.size w1.heap.size [a, b, c, d, e, f, g, k] ((firsts l t).set t (partB l t i')) (roundsL [a, b, c, d, e, f, g, k] (schedL l 48) t) wr) (fun i _ => 4 - (intOf i).toNat)
          case atStart => exact ⟨0, Nat.zero_le _, rfl, M2⟩
          case round =>
            obtain ⟨i, hi, rfl, M3⟩ := hrel
            clear M1 M2
            by_cases hil : i < 4
            · have hWl : t < ((firsts l t).set t (partB l t i)).length := by rw [List.length_set, firsts_len l t ht]; exact hlt
              obtain ⟨q1, q2, _⟩ := M3.w.at_ hWl
              have q1' : wr.cell? ⟨w.heap.size + 2, t, none⟩ = some (.int .u32 ((partB l t i).toNat : Int)) := by rw [q1]; simp
              have q3 : wr.cell? ⟨b0, off + (4 * t + i), none⟩ = some (.int .u8 ((l.getD (4 * t + i) 0).toNat : Int)) := (M3.below.cell (p := ⟨b0, off + (4 * t + i), none⟩) hb0lt).trans (HC.out _ (by omega))
              have q4 : wr.drew.cell? ⟨w.heap.size + 2, t, none⟩ = some (.int .u32 ((partB l t i).toNat : Int)) := q1'
              have q5 : wr.drew.cell? ⟨b0, off + (4 * t + i), none⟩ = some (.int .u8 ((l.getD (4 * t + i) 0).toNat : Int)) := q3
              have q6 : wr.drew.frozen? ⟨w.heap.size + 2, t, none⟩ = false := q2
              obtain ⟨x, hx⟩ : ∃ x : UInt32, x = partB l t i := ⟨_, rfl⟩
              obtain ⟨y, hy⟩ : ∃ y : UInt8, y = l.getD (4 * t + i) 0 := ⟨_, rfl⟩
              rw [← hx] at q4
              rw [← hy] at q5
              have MN := M3.setW hWl (x * 256 + UInt32.ofNat y.toNat)
              rw [set_set_eq, show x * 256 + UInt32.ofNat y.toNat = partB l t (i + 1) by rw [partB, hx, hy]] at MN
              have hval : Hid (((x.toNat : Int) * 256 % 4294967296 + (y.toNat : Int) % 4294967296) % 4294967296 = ((partB l t (i + 1)).toNat : Int)) := by
                show _ = _
                rw [partB, ← hx, ← hy, UInt32.toNat_add, UInt32.toNat_mul, UInt32.toNat_ofNat']
                have : (256 : UInt32).toNat = 256 := rfl
                rw [this]
                omega
              clear q1 q2 q1' q3 hx hy hWl
              have t0 : (0 : Int) ≤ (t : Int) := Int.natCast_nonneg _
              have t1 : (t : Int) < 64 := by omega
              have i0 : (0 : Int) ≤ (i : Int) := Int.natCast_nonneg _
              have i1 : (i : Int) < 4 := by omega
              have jw : IntKind.i64.wrap (4 * (t : Int)) = 4 * (t : Int) := by rw [IntKind.wrap_i64]; omega
              have jw2 : IntKind.i64.wrap (4 * (t : Int) + (i : Int)) = 4 * (t : Int) + (i : Int) := by rw [IntKind.wrap_i64]; omega
              have j0 : (0 : Int) ≤ 4 * (t : Int) + (i : Int) := by omega
              have j1 : 4 * (t : Int) + (i : Int) < 64 := by omega
              have jt : (4 * (t : Int) + (i : Int)).toNat = 4 * t + i := by omega
              go_wp2_with fail
              go_region_with fail
              all_goals
                go_wp2
                go_roundw
                case rel =>
                  exact ⟨i + 1, by omega, by go_num, by rw [hval.out]; exact MN.drew⟩
                case measure => simp [intOf]; omega
            · obtain rfl : i = 4 := by omega
              rw [partB_4, ← schedL_word l t h16, firsts_succ l t hlt] at M3
              go_wp2
              go_meet
              exact M3
        · obtain ⟨k', hk'⟩ : ∃ k' : Nat, t = k' + 16 := ⟨t - 16, by omega⟩
          subst hk'
          have d16 : decide (((k' + 16 : Nat) : Int) < 16) = false := by simp; omega
          rw [d16]
          have hlen := schedL_len l k'
          have hWl : ∀ j, j < 64 → j < (firsts l (k' + 16)).length := fun j hj => by rw [firsts_len l _ ht]; exact hj
          have cell : ∀ j, j < k' + 16 → ∃ x : UInt32, x = (schedL l k').getD j 0 ∧ wr.cell? ⟨w.heap.size + 2, j, none⟩ = some (.int .u32 (x.toNat : Int)) := by
            intro j hj
            refine ⟨_, rfl, ?_⟩
            rw [(M1.w.at_ (hWl j (by omega))).1]
            have h1 := firsts_at l (k' + 16) j hj ht
            rw [List.getD_eq_getElem?_getD, List.getElem?_eq_getElem (hWl j (by omega)), Option.getD_some] at h1
            rw [h1]
            have h2 : ((schedL l 48).take (k' + 16))[j]? = (schedL l 48)[j]? := by rw [List.getElem?_take, if_pos hj]
            rw [schedL_take l k' 48 (by omega)] at h2
            rw [List.getD_eq_getElem?_getD, List.getD_eq_getElem?_getD, h2]
          obtain ⟨x1, hx1, d1⟩ := cell (k' + 1) (by omega)
          obtain ⟨x14, hx14, d14⟩ := cell (k' + 14) (by omega)
          obtain ⟨x9, hx9, d9⟩ := cell (k' + 9) (by omega)
          obtain ⟨x0, hx0, d0⟩ := cell k' (by omega)
          obtain ⟨hjunk, hf1, _⟩ := M1.w.at_ (hWl (k' + 16) hlt)
          obtain ⟨xo, dO⟩ : ∃ xo : Int, wr.cell? ⟨w.heap.size + 2, k' + 16, none⟩ = some (.int .u32 xo) := ⟨_, hjunk⟩
          clear hjunk
          have MN := M1.setW (hWl (k' + 16) hlt) (growW (schedL l k') k')
          rw [← schedL_grow l k' (by omega), firsts_succ l _ hlt, schedL_grow l k' (by omega)] at MN
          have hgrow : growW (schedL l k') k' = small1 x14 + x9 + small0 x1 + x0 := by rw [growW, ← hx1, ← hx14, ← hx9, ← hx0]
          rw [hgrow] at MN
          have R7 : Hid (∀ W, Calls Try.prog 98 #[.int .u32 (x1.toNat : Int), .int .i64 7] W fun e' w' => e' = .returned (.int .u32 ((rotr x1 7).toNat : Int)) ∧ w' = W.drew) := fun W => right_r x1 7 (by decide) W
          have R18 : Hid (∀ W, Calls Try.prog 98 #[.int .u32 (x1.toNat : Int), .int .i64 18] W fun e' w' => e' = .returned (.int .u32 ((rotr x1 18).toNat : Int)) ∧ w' = W.drew) := fun W => right_r x1 18 (by decide) W
          have R17 : Hid (∀ W, Calls Try.prog 98 #[.int .u32 (x14.toNat : Int), .int .i64 17] W fun e' w' => e' = .returned (.int .u32 ((rotr x14 17).toNat : Int)) ∧ w' = W.drew) := fun W => right_r x14 17 (by decide) W
          have R19 : Hid (∀ W, Calls Try.prog 98 #[.int .u32 (x14.toNat : Int), .int .i64 19] W fun e' w' => e' = .returned (.int .u32 ((rotr x14 19).toNat : Int)) ∧ w' = W.drew) := fun W => right_r x14 19 (by decide) W
          clear hgrow hx0 hx1 hx9 hx14 cell hWl hlen M1
          have k0 : (0 : Int) ≤ (k' : Int) := Int.natCast_nonneg _
          have k1 : (k' : Int) < 48 := by omega
          have k64 : (k' : Int) < 64 := by omega
          have jkw : IntKind.i64.wrap (k' : Int) = (k' : Int) := by rw [IntKind.wrap_i64]; omega
          have i15 : IntKind.i64.wrap ((k' : Int) + 16 - 15) = (k' : Int) + 1 := by rw [IntKind.wrap_i64]; omega
          have i2 : IntKind.i64.wrap ((k' : Int) + 16 - 2) = (k' : Int) + 14 := by rw [IntKind.wrap_i64]; omega
          have i7 : IntKind.i64.wrap ((k' : Int) + 16 - 7) = (k' : Int) + 9 := by rw [IntKind.wrap_i64]; omega
          have i16 : IntKind.i64.wrap ((k' : Int) + 16 - 16) = (k' : Int) := by rw [IntKind.wrap_i64]; omega
          have w1' : IntKind.i64.wrap ((k' : Int) + 16) = (k' : Int) + 16 := by rw [IntKind.wrap_i64]; omega
          have j1a : (0 : Int) ≤ (k' : Int) + 1 := by omega
          have j1b : (k' : Int) + 1 < 64 := by omega
          have j1t : ((k' : Int) + 1).toNat = k' + 1 := by omega
          have j1w : IntKind.i64.wrap ((k' : Int) + 1) = (k' : Int) + 1 := by rw [IntKind.wrap_i64]; omega
          have j14a : (0 : Int) ≤ (k' : Int) + 14 := by omega
          have j14b : (k' : Int) + 14 < 64 := by omega
          have j14t : ((k' : Int) + 14).toNat = k' + 14 := by omega
          have j14w : IntKind.i64.wrap ((k' : Int) + 14) = (k' : Int) + 14 := by rw [IntKind.wrap_i64]; omega
          have j9a : (0 : Int) ≤ (k' : Int) + 9 := by omega
          have j9b : (k' : Int) + 9 < 64 := by omega
          have j9t : ((k' : Int) + 9).toNat = k' + 9 := by omega
          have j9w : IntKind.i64.wrap ((k' : Int) + 9) = (k' : Int) + 9 := by rw [IntKind.wrap_i64]; omega
          have j16a : (0 : Int) ≤ (k' : Int) + 16 := by omega
          have j16b : (k' : Int) + 16 < 64 := by omega
          have j16t : ((k' : Int) + 16).toNat = k' + 16 := by omega
          have e1 : wr.drew.cell? ⟨w.heap.size + 1 + 1, k' + 1, none⟩ = some (.int .u32 (x1.toNat : Int)) := d1
          have e14 : wr.drew.cell? ⟨w.heap.size + 1 + 1, k' + 14, none⟩ = some (.int .u32 (x14.toNat : Int)) := d14
          go_wp2_with fail
          go_region_held3 (fun w' => w'.cell? ⟨w.heap.size + 1 + 1, k' + 1, none⟩ = some (.int .u32 (x1.toNat : Int)) ∧ w'.cell? ⟨w.heap.size + 1 + 1, k' + 14, none⟩ = some (.int .u32 (x14.toNat : Int))) (exact ⟨e1, e14⟩) (fail)
          go_wp2_with fail
          have f9 : wr.drew.drew.cell? ⟨w.heap.size + 1 + 1, k' + 9, none⟩ = some (.int .u32 (x9.toNat : Int)) := d9
          have f0 : wr.drew.drew.cell? ⟨w.heap.size + 1 + 1, k', none⟩ = some (.int .u32 (x0.toNat : Int)) := d0
          have f16 : wr.cell? ⟨w.heap.size + 1 + 1, k' + 16, none⟩ = some (.int .u32 xo) := dO
          have ff : wr.frozen? ⟨w.heap.size + 1 + 1, k' + 16, none⟩ = false := hf1
          have m9 : Hid (∀ u, (wr.setCell ⟨w.heap.size + 1 + 1, k' + 16, none⟩ u).cell? ⟨w.heap.size + 1 + 1, k' + 9, none⟩ = some (.int .u32 (x9.toNat : Int))) := Lib.hid (fun u => (World.cell?_setCell_other _ _ _ _ (by simp)).trans d9)
          have m0 : Hid (∀ u, (wr.setCell ⟨w.heap.size + 1 + 1, k' + 16, none⟩ u).cell? ⟨w.heap.size + 1 + 1, k', none⟩ = some (.int .u32 (x0.toNat : Int))) := Lib.hid (fun u => (World.cell?_setCell_other _ _ _ _ (by simp)).trans d0)
          go_region_held3 (fun w' => w'.cell? ⟨w.heap.size + 1 + 1, k' + 9, none⟩ = some (.int .u32 (x9.toNat : Int)) ∧ w'.cell? ⟨w.heap.size + 1 + 1, k', none⟩ = some (.int .u32 (x0.toNat : Int))) (first | exact ⟨f9, f0⟩ | exact ⟨m9.out _, m0.out _⟩)
            (first | (go_at_call 98; (first | with_reducible refine (R7.out _).mono ?_ | with_reducible refine (R18.out _).mono ?_ | with_reducible refine (R17.out _).mono ?_ | with_reducible refine (R19.out _).mono ?_); rintro e' w' ⟨rfl, rfl⟩) | fail)
          go_wp2_with fail
          go_meet
          simp only [w_shr10, w_shr3, w_xor, w_add]
          exact (((((MN.drew).drew).drew).drew).drew).drew
      case rest =>
        clear M1
        have MC := hcut
        clear hcut
        obtain ⟨a1, b1, c1, d1, e1, f1, g1, k1, hV⟩ := roundsL_words a b c d e f g k (schedL l 48) t
        obtain ⟨y, hy⟩ : ∃ y : UInt32, y = constL.getD t 0 := ⟨_, rfl⟩
        obtain ⟨x, hx⟩ : ∃ x : UInt32, x = (schedL l 48).getD t 0 := ⟨_, rfl⟩
        have hstep : roundsL [a, b, c, d, e, f, g, k] (schedL l 48) (t + 1) = rndL a1 b1 c1 d1 e1 f1 g1 k1 (y + x) := by
          rw [roundsL, ← hy, ← hx, hV]; rfl
        rw [hV] at MC
        have fy : wc.cell? ⟨w1.heap.size, t, none⟩ = some (.int .u32 (y.toNat : Int)) := by
          have hl : t < constL.length := hlt
          rw [(MC.k.at_ hl).1, hy]
          simp [hl]
        have fx : wc.cell? ⟨w.heap.size + 1 + 1, t, none⟩ = some (.int .u32 (x.toNat : Int)) := by
          have hl : t < (firsts l (t + 1)).length := by rw [firsts_len l (t + 1) (by omega)]; exact hlt
          refine (MC.w.at_ hl).1.trans ?_
          have h1 := firsts_at l (t + 1) t (by omega) (by omega)
          rw [List.getD_eq_getElem?_getD, List.getElem?_eq_getElem hl, Option.getD_some] at h1
          rw [h1, hx]
        have q0 : wc.cell? ⟨w1.heap.size + 1, 0, none⟩ = some (.int .u32 (a1.toNat : Int)) := (MC.v.at_ (j := 0) (by simp)).1
        have q1 : wc.cell? ⟨w1.heap.size + 1, 1, none⟩ = some (.int .u32 (b1.toNat : Int)) := (MC.v.at_ (j := 1) (by simp)).1
        have q2 : wc.cell? ⟨w1.heap.size + 1, 2, none⟩ = some (.int .u32 (c1.toNat : Int)) := (MC.v.at_ (j := 2) (by simp)).1
        have q3 : wc.cell? ⟨w1.heap.size + 1, 3, none⟩ = some (.int .u32 (d1.toNat : Int)) := (MC.v.at_ (j := 3) (by simp)).1
        have q4 : wc.cell? ⟨w1.heap.size + 1, 4, none⟩ = some (.int .u32 (e1.toNat : Int)) := (MC.v.at_ (j := 4) (by simp)).1
        have q5 : wc.cell? ⟨w1.heap.size + 1, 5, none⟩ = some (.int .u32 (f1.toNat : Int)) := (MC.v.at_ (j := 5) (by simp)).1
        have q6 : wc.cell? ⟨w1.heap.size + 1, 6, none⟩ = some (.int .u32 (g1.toNat : Int)) := (MC.v.at_ (j := 6) (by simp)).1
        have q7 : wc.cell? ⟨w1.heap.size + 1, 7, none⟩ = some (.int .u32 (k1.toNat : Int)) := (MC.v.at_ (j := 7) (by simp)).1
        have HST := Lib.hid hstep
        have HV := Lib.hid hV
        clear hx hy hstep hV
        have R6 : Hid (∀ W, Calls Try.prog 98 #[.int .u32 (e1.toNat : Int), .int .i64 6] W fun e' w' => e' = .returned (.int .u32 ((rotr e1 6).toNat : Int)) ∧ w' = W.drew) := fun W => right_r e1 6 (by decide) W
        have R11 : Hid (∀ W, Calls Try.prog 98 #[.int .u32 (e1.toNat : Int), .int .i64 11] W fun e' w' => e' = .returned (.int .u32 ((rotr e1 11).toNat : Int)) ∧ w' = W.drew) := fun W => right_r e1 11 (by decide) W
        have R25 : Hid (∀ W, Calls Try.prog 98 #[.int .u32 (e1.toNat : Int), .int .i64 25] W fun e' w' => e' = .returned (.int .u32 ((rotr e1 25).toNat : Int)) ∧ w' = W.drew) := fun W => right_r e1 25 (by decide) W
        have R2 : Hid (∀ W, Calls Try.prog 98 #[.int .u32 (a1.toNat : Int), .int .i64 2] W fun e' w' => e' = .returned (.int .u32 ((rotr a1 2).toNat : Int)) ∧ w' = W.drew) := fun W => right_r a1 2 (by decide) W
        have R13 : Hid (∀ W, Calls Try.prog 98 #[.int .u32 (a1.toNat : Int), .int .i64 13] W fun e' w' => e' = .returned (.int .u32 ((rotr a1 13).toNat : Int)) ∧ w' = W.drew) := fun W => right_r a1 13 (by decide) W
        have R22 : Hid (∀ W, Calls Try.prog 98 #[.int .u32 (a1.toNat : Int), .int .i64 22] W fun e' w' => e' = .returned (.int .u32 ((rotr a1 22).toNat : Int)) ∧ w' = W.drew) := fun W => right_r a1 22 (by decide) W
        have t0 : (0 : Int) ≤ (t : Int) := Int.natCast_nonneg _
        have t64 : (t : Int) < 64 := by omega
        go_upto_region 16 with fail
        go_cut [14] (fun s14 wx => s14 = .int .u32 ((k1 + sig1 e1 + choice e1 f1 g1 + (y + x)).toNat : Int) ∧ Mem w w.heap.size w1.heap.size [a, b, c, d, e, f, g, k] (firsts l (t + 1)) [a1, b1, c1, d1, e1, f1, g1, k1] wx)
        case first =>
          go_wp2_with fail
          go_region_held3 (fun w' => w'.cell? ⟨w1.heap.size + 1, 7, none⟩ = some (.int .u32 (k1.toNat : Int)) ∧ w'.cell? ⟨w1.heap.size + 1, 4, none⟩ = some (.int .u32 (e1.toNat : Int)) ∧ w'.cell? ⟨w1.heap.size, t, none⟩ = some (.int .u32 (y.toNat : Int)) ∧ w'.cell? ⟨w.heap.size + 1 + 1, t, none⟩ = some (.int .u32 (x.toNat : Int))) (exact ⟨q7, q4, fy, fx⟩)
            (first | (go_at_call 98; (first | with_reducible refine (R6.out _).mono ?_ | with_reducible refine (R11.out _).mono ?_ | with_reducible refine (R25.out _).mono ?_); rintro e' w' ⟨rfl, rfl⟩) | fail)
          go_wp2_with fail
          go_meet
          refine ⟨?_, (((MC.drew).drew).drew).drew⟩
          simp only [w_max, w_xor, w_and, w_add]
          rw [show (k1 + sig1 e1 + choice e1 f1 g1 + (y + x)) = (k1 + sig1 e1 + choice e1 f1 g1 + y + x) from (UInt32.add_assoc _ _ _).symm]
          rfl
        case rest =>
          clear MC q0 q1 q2 q3 q4 q5 q6 q7 fx fy R6 R11 R25
          obtain ⟨rfl, MC⟩ := hcut
          obtain ⟨T1, hT1⟩ : ∃ T1 : UInt32, T1 = k1 + sig1 e1 + choice e1 f1 g1 + (y + x) := ⟨_, rfl⟩
          rw [← hT1]
          have HT1 := Lib.hid hT1
          clear hT1
          have q0 : wc.cell? ⟨w1.heap.size + 1, 0, none⟩ = some (.int .u32 (a1.toNat : Int)) := (MC.v.at_ (j := 0) (by simp)).1
          go_upto_region 17 with fail
          go_cut [15] (fun s15 wx => s15 = .int .u32 ((sig0 a1 + most a1 b1 c1).toNat : Int) ∧ Mem w w.heap.size w1.heap.size [a, b, c, d, e, f, g, k] (firsts l (t + 1)) [a1, b1, c1, d1, e1, f1, g1, k1] wx)
          case first =>
            go_wp2_with fail
            go_region_held3 (fun w' => w'.cell? ⟨w1.heap.size + 1, 0, none⟩ = some (.int .u32 (a1.toNat : Int))) (exact q0)
              (first | (go_at_call 98; (first | with_reducible refine (R2.out _).mono ?_ | with_reducible refine (R13.out _).mono ?_ | with_reducible refine (R22.out _).mono ?_); rintro e' w' ⟨rfl, rfl⟩) | fail)
            go_wp2_with fail
            go_meet
            refine ⟨?_, (((MC.drew).drew).drew).drew⟩
            simp only [w_xor, w_and, w_add]
            rfl
          case rest =>
            clear MC q0 R2 R13 R22
            obtain ⟨rfl, MC⟩ := hcut
            obtain ⟨T2, hT2⟩ : ∃ T2 : UInt32, T2 = sig0 a1 + most a1 b1 c1 := ⟨_, rfl⟩
            rw [← hT2]
            have HT2 := Lib.hid hT2
            clear hT2
            go_wp2_with fail
            go_loopw [16] (fun i wr => ∃ i' : Nat, i' ≤ 7 ∧ i = .int .i64 i' ∧ Mem w w.heap.size w1.heap.size [a, b, c, d, e, f, g, k] (firsts l (t + 1)) (shL [a1, b1, c1, d1, e1, f1, g1, k1] i') wr) (fun i _ => (intOf i).toNat)
            case atStart => exact ⟨7, Nat.le_refl _, rfl, MC⟩
            case round =>
              obtain ⟨i, hi, rfl, M6⟩ := hrel
              clear MC
              by_cases hi0 : 0 < i
              · obtain ⟨i0, rfl⟩ : ∃ i0, i = i0 + 1 := ⟨i - 1, by omega⟩
                obtain ⟨z, h1, h2, h3⟩ := shL_step a1 b1 c1 d1 e1 f1 g1 k1 i0 (by omega)
                have hl0 : i0 < (shL [a1, b1, c1, d1, e1, f1, g1, k1] (i0 + 1)).length := by rw [h3]; omega
                have hl1 : i0 + 1 < (shL [a1, b1, c1, d1, e1, f1, g1, k1] (i0 + 1)).length := by rw [h3]; omega
                have p0 : wr.cell? ⟨w1.heap.size + 1, i0, none⟩ = some (.int .u32 (z.toNat : Int)) := by
                  rw [(M6.v.at_ hl0).1]
                  rw [List.getD_eq_getElem?_getD, List.getElem?_eq_getElem hl0, Option.getD_some] at h1
                  rw [h1]
                obtain ⟨zo, p1⟩ : ∃ zo : Int, wr.cell? ⟨w1.heap.size + 1, i0 + 1, none⟩ = some (.int .u32 zo) := ⟨_, (M6.v.at_ hl1).1⟩
                have p2 := (M6.v.at_ hl1).2.1
                have MN := M6.setV hl1 z
                rw [h2] at MN
                clear h1 h2 h3 hl0 hl1
                have b0' : (0 : Int) ≤ (i0 : Int) := Int.natCast_nonneg _
                have b1' : (i0 : Int) < 7 := by omega
                have b2' : (i0 : Int) < 8 := by omega
                have b3' : (0 : Int) ≤ (i0 : Int) + 1 := by omega
                have b4' : (i0 : Int) + 1 < 8 := by omega
                have b5' : ((i0 : Int) + 1).toNat = i0 + 1 := by omega
                have jw : IntKind.i64.wrap (i0 : Int) = (i0 : Int) := by rw [IntKind.wrap_i64]; omega
                have jp : (0 : Int) < (i0 : Int) + 1 := by omega
                go_wp2
                go_roundw
                case rel => exact ⟨i0, by omega, by go_num, MN⟩
                case measure => simp [intOf]
              · obtain rfl : i = 0 := by omega
                have p4 : wr.cell? ⟨w1.heap.size + 1, 4, none⟩ = some (.int .u32 (d1.toNat : Int)) := (M6.v.at_ (j := 4) (by simp [shL])).1
                have f4 : wr.frozen? ⟨w1.heap.size + 1, 4, none⟩ = false := (M6.v.at_ (j := 4) (by simp [shL])).2.1
                have p0 : wr.cell? ⟨w1.heap.size + 1, 0, none⟩ = some (.int .u32 (a1.toNat : Int)) := (M6.v.at_ (j := 0) (by simp [shL])).1
                have f0 : wr.frozen? ⟨w1.heap.size + 1, 0, none⟩ = false := (M6.v.at_ (j := 0) (by simp [shL])).2.1
                have MN := (M6.setV (j := 4) (by simp [shL]) (d1 + T1)).setV (j := 0) (by simp [shL]) (T1 + T2)
                have hfin : ((shL [a1, b1, c1, d1, e1, f1, g1, k1] 0).set 4 (d1 + T1)).set 0 (T1 + T2) = roundsL [a, b, c, d, e, f, g, k] (schedL l 48) (t + 1) := by
                  rw [HST.out, HT1.out, HT2.out]; rfl
                rw [hfin] at MN
                have HMN := Lib.hid MN
                clear hfin MN M6
                go_wp2
                go_roundw
                case rel => exact ⟨t + 1, by omega, by go_num, by rw [w_addm, w_addm]; exact HMN.out⟩
                case measure => simp [intOf]; omega
    · obtain rfl : t = 64 := by omega
      clear hlt ht
      obtain ⟨a1, b1, c1, d1, e1, f1, g1, k1, hV⟩ := roundsL_words a b c d e f g k (schedL l 48) 64
      rw [hV] at M1
      have HV := Lib.hid hV
      clear hV
      go_wp2_with fail
      go_loopw [17] (fun i wr => ∃ j : Nat, j ≤ 8 ∧ i = .int .i64 j ∧ Mem w w.heap.size w1.heap.size (addUp [a, b, c, d, e, f, g, k] [a1, b1, c1, d1, e1, f1, g1, k1] j) (firsts l 64) [a1, b1, c1, d1, e1, f1, g1, k1] wr) (fun i _ => 8 - (intOf i).toNat)
      case atStart => exact ⟨0, Nat.zero_le _, rfl, M1⟩
      case round =>
        obtain ⟨j, hj, rfl, M2⟩ := hrel
        clear M1
        by_cases hlt : j < 8
        · have hj0 : (0 : Int) ≤ (j : Int) := Int.natCast_nonneg _
          have hj1 : (j : Int) < 8 := by omega
          have hlen := addUp_len [a, b, c, d, e, f, g, k] [a1, b1, c1, d1, e1, f1, g1, k1] j
          obtain ⟨U, hU⟩ : ∃ U, U = addUp [a, b, c, d, e, f, g, k] [a1, b1, c1, d1, e1, f1, g1, k1] j := ⟨_, rfl⟩
          rw [← hU] at M2 hlen
          have hUl : j < U.length := by rw [hlen]; exact hlt
          have hVl : j < [a1, b1, c1, d1, e1, f1, g1, k1].length := hlt
          obtain ⟨x, hx⟩ : ∃ x : UInt32, x = U[j] := ⟨_, rfl⟩
          obtain ⟨y, hy⟩ : ∃ y : UInt32, y = [a1, b1, c1, d1, e1, f1, g1, k1][j] := ⟨_, rfl⟩
          obtain ⟨q1, q2, _⟩ := M2.s.at_ hUl
          obtain ⟨p1, _, _⟩ := M2.v.at_ hVl
          rw [← hx] at q1
          rw [← hy] at p1
          have E1 : wr.drew.cell? ⟨w.heap.size, j, none⟩ = some (.int .u32 (x.toNat : Int)) := q1
          have E2 : wr.drew.cell? ⟨w1.heap.size + 1, j, none⟩ = some (.int .u32 (y.toNat : Int)) := p1
          have E3 : wr.drew.frozen? ⟨w.heap.size, j, none⟩ = false := q2
          have MN := M2.setS hUl (x + y)
          have hset : U.set j (x + y) = addUp [a, b, c, d, e, f, g, k] [a1, b1, c1, d1, e1, f1, g1, k1] (j + 1) := by
            rw [addUp, ← hU, hx, hy]
            simp only [List.getD_eq_getElem?_getD, List.getElem?_eq_getElem hUl, List.getElem?_eq_getElem hVl, Option.getD_some]
          rw [hset] at MN
          have HN := Lib.hid MN
          clear MN hset q1 q2 p1 hx hy hU hlen hVl hUl M2
          go_wp2_with fail
          go_region_with fail
          all_goals
            go_wp2
            go_roundw
            case rel =>
              refine ⟨_, _, _, _, _, _, _, _, _, _, _, _, _, _, ⟨j + 1, by omega, ?_, ?_⟩, rfl⟩
              · go_num
              · rw [w_addm]; exact HN.out.drew
            case measure => simp [intOf]; omega
        · obtain rfl : j = 8 := by omega
          clear hlt hj
          have hU2 : addUp [a, b, c, d, e, f, g, k] [a1, b1, c1, d1, e1, f1, g1, k1] 8 = compL [a, b, c, d, e, f, g, k] l := by
            rw [compL, HV.out]
            show [a + a1, b + b1, c + c1, d + d1, e + e1, f + f1, g + g1, k + k1] = [a1 + a, b1 + b, c1 + c, d1 + d, e1 + e, f1 + f, g1 + g, k1 + k]
            simp only [UInt32.add_comm]
          obtain ⟨U, hU⟩ : ∃ U, U = compL [a, b, c, d, e, f, g, k] l := ⟨_, rfl⟩
          rw [hU2, ← hU] at M2
          have hUl : U.length = 8 := by rw [hU, ← hU2, addUp_len]; rfl
          obtain ⟨us, hus⟩ : ∃ us : Array Value, us = (U.map vw).toArray := ⟨_, rfl⟩
          have aw2 : Hid (wr.heap[w.heap.size]? = some (.cells us 36 (0, 0))) := by rw [hus]; exact M2.s
          have rs : Hid (wr.heap[w.heap.size + 1]? = some (.cells #[.int .u32 0, .int .u32 0, .int .u32 0, .int .u32 0, .int .u32 0, .int .u32 0, .int .u32 0, .int .u32 0] 36 (0, 0))) := M2.r
          have husz : us.size = 8 := by rw [hus]; simp [hUl]
          have hone : us.all (·.oneCell') = true := by
            rw [hus, Array.all_eq_true_iff_forall_mem]
            intro u hu
            simp only [List.mem_toArray, List.mem_map] at hu
            obtain ⟨x, _, rfl⟩ := hu
            rfl
          have HONE := Lib.hid hone
          have hi : Hid ((Try.prog.info? 36).map (·.size) = some us.size) := by rw [husz]; show _ = _; kernel_rfl
          have ho : Hid ((#[.int .u32 0, .int .u32 0, .int .u32 0, .int .u32 0, .int .u32 0, .int .u32 0, .int .u32 0, .int .u32 0] : Array Value).size = us.size) := by show _ = _; rw [husz]; rfl
          have hbe3 : Below w.heap.size w (wr.setRow (w.heap.size + 1) us) := M2.below.grown (row := some (w.heap.size + 1)) ⟨rfl, rfl, rfl, by simp, fun j _ hj => setRow_other wr (w.heap.size + 1) j _ (fun e => hj (by rw [e]))⟩ M2.below.size (fun j hj => by simp only [Option.some.injEq] at hj; omega)
          have HUS := Lib.hid hus
          have HFU := Lib.hid hU
          clear hus husz hone hU hUl hU2 M2
          go_wp2_with (first
            | (with_reducible refine wpList_load_row rfl 36 (.tmp 2) rfl w.heap.size rfl 36 us (0, 0) _ aw2.out u32arr rfl hi.out ?_)
            | (with_reducible refine wpList_store_row rfl 36 (.tmp 4) (.tmp 180) rfl (w.heap.size + 1) us rfl rfl 36 _ rs.out hi.out ho.out HONE.out ?_))
          (try simp only [Exit.inBlock, Exit.then])
          refine bodyPost_ret (results_cell_row rfl _ _ (w.heap.size + 1) 36 us (0, 0) _ rfl (setRow_heap wr (w.heap.size + 1) _ _ _ _ rs.out) u32arr rfl hi.out) rfl ?_
          exact ⟨by rw [HUS.out, ← HFU.out]; rfl, hbe3⟩
end Go.Proofs.Ytifgigpflfdmfaa
