/- Hex of codec: two small digits a byte. -/
import Derived.Test.YtajhpebefehciaaCopyB
import Derived.Test.YtajhpebefehciaaPadS2
import Derived.Laws.BitsAllLaws
import Derived.Laws.BytesString
import Derived.Laws.IdiomStrings
namespace Go.Proofs.Ytajhpebefehciaa
open Go.RowKit

def bstr (l : List UInt8) : ByteArray := ⟨l.toArray⟩
/-- the digit of a number below 16 -/
def hexD (n : Nat) : UInt8 := if n < 10 then UInt8.ofNat (48 + n) else UInt8.ofNat (87 + n)
def hexL (l : List UInt8) : List UInt8 := l.flatMap fun x => [hexD (x.toNat / 16), hexD (x.toNat % 16)]
theorem hexL_len (l : List UInt8) : (hexL l).length = 2 * l.length := by
  induction l with
  | nil => rfl
  | cons x r ih => simp only [hexL, List.flatMap_cons, List.length_append, List.length_cons, List.length_nil] at ih ⊢; omega
theorem hexL_snoc (l : List UInt8) (x : UInt8) : hexL (l ++ [x]) = hexL l ++ [hexD (x.toNat / 16), hexD (x.toNat % 16)] := by simp [hexL]

theorem conv_bs {w : World} {B : Nat} {v : Value} {l : List UInt8} (h : Bs w B v l) : (convert 22 9 v).run Try.prog w = .ok (.string (bstr l)) w := by
  obtain ⟨A, c, rfl, h1, h2, h3⟩ := h
  by_cases h0 : l.length = 0
  · obtain rfl : l = [] := List.eq_nil_of_length_eq_zero h0
    show (convert 22 9 (.slice A 0 c)).run Try.prog w = _
    rw [run_convert_bytes_string w 22 9 5 A 0 c Try.underlying22 Try.underlying5 Try.underlying9]
    cases A <;> simp [Conv.bytesToString, loadCells, loadCellsFrom]
    all_goals rfl
  · obtain ⟨b, off, rfl, _, hc⟩ := h3 (by omega)
    exact run_convert_bytes_back w 22 9 5 ⟨b, off, none⟩ c l Try.underlying22 Try.underlying5 Try.underlying9 (fun j hj => by rw [add_none]; exact hc j hj)

theorem digit_at (m : Nat) (h : m < (⟨#[48, 49, 50, 51, 52, 53, 54, 55, 56, 57, 97, 98, 99, 100, 101, 102]⟩ : ByteArray).size) :
    (⟨#[48, 49, 50, 51, 52, 53, 54, 55, 56, 57, 97, 98, 99, 100, 101, 102]⟩ : ByteArray)[m]'h = hexD m := by
  have h16 : m < 16 := h
  have key : ∀ i : Fin 16, (⟨#[48, 49, 50, 51, 52, 53, 54, 55, 56, 57, 97, 98, 99, 100, 101, 102]⟩ : ByteArray)[i.1]'(i.2) = hexD i.1 := by decide
  exact key ⟨m, h16⟩
/-- the row behind i bytes -/
def hexP (l : List UInt8) (i : Nat) : List UInt8 := hexL (l.take i) ++ zs (2 * (l.length - i))
theorem hexP_len (l : List UInt8) {i : Nat} (h : i ≤ l.length) : (hexP l i).length = 2 * l.length := by
  simp only [hexP, List.length_append, hexL_len, zs_len, List.length_take]
  omega
theorem hexP_step (l : List UInt8) {i : Nat} (h : i < l.length) : ((hexP l i).set (2 * i) (hexD (l[i].toNat / 16))).set (2 * i + 1) (hexD (l[i].toNat % 16)) = hexP l (i + 1) := by
  have e1 : l.take (i + 1) = l.take i ++ [l[i]] := List.take_succ_eq_append_getElem h
  have e2 : (hexL (l.take i)).length = 2 * i := by rw [hexL_len, List.length_take]; omega
  have e3 : zs (2 * (l.length - i)) = 0 :: 0 :: zs (2 * (l.length - (i + 1))) := by
    have : 2 * (l.length - i) = 2 * (l.length - (i + 1)) + 2 := by omega
    rw [this]; rfl
  rw [hexP, hexP, e1, hexL_snoc, e3, ← e2, List.set_append_right _ _ (by omega), Nat.sub_self, List.set_append_right _ _ (by omega)]
  rw [show (hexL (l.take i)).length + 1 - (hexL (l.take i)).length = 1 by omega]
  simp

set_option maxHeartbeats 800000 in
theorem hex_any {l : List UInt8} {v : Value} {w : World} {B : Nat} (hb : Bs w B v l) (hB : B ≤ w.heap.size) (hl : l.length ≤ 140737488355328) :
    Calls Try.prog 46 #[v] w fun e w' => e = .returned (.string (bstr (hexL l))) ∧ Below w.heap.size w w' := by
  obtain ⟨A, c, rfl, h1, h2, h3⟩ := hb
  have H3 := Lib.hid h3; clear h3
  unfold maxLen at h2
  obtain ⟨n, hn⟩ : ∃ n : Nat, n = l.length := ⟨_, rfl⟩
  rw [← hn] at h1 hl ⊢
  have HN := Lib.hid hn; clear hn
  have hmk := run_make_row' (P := Try.prog) 22 5 (.int .u8 0) 1 Try.underlying22 u8info rfl .i64 .i64 (2 * n) (by omega) (by omega)
  have hmk' : ∀ W : World, (Instr.makeSlice 22 (.int .i64 (2 * (n : Int))) (.int .i64 (2 * (n : Int)))).run Try.prog W = .ok (.slice (some ⟨W.heap.size, 0, none⟩) (2 * n) (2 * n)) (W.alloc (.cells (madeCells #[Value.int .u8 0] (2 * n)) 5)) := fun W => by
    have := hmk W
    simpa using this
  clear hmk
  have hrow := World.rowIs_made w (.int .u8 0) (2 * n) 5
  have hown0 : Own (w.alloc (.cells (madeCells #[Value.int .u8 0] (2 * n)) 5)) w.heap.size (.slice (some ⟨w.heap.size, 0, none⟩) (2 * n) (2 * n)) (hexP l 0) :=
    Own.of_row (hrow.congr fun j hj => by
      have e : hexP l 0 = zs (2 * n) := by simp [hexP, hexL, ← HN.out]
      rw [e]
      simp [zs, hj, vb]) (Nat.le_refl _) (by unfold maxLen; omega) (by rw [hexP_len l (by omega), ← HN.out])
  have hbel0 : Below w.heap.size w (w.alloc (.cells (madeCells #[Value.int .u8 0] (2 * n)) 5)) := (Below.refl _ _).alloc (Nat.le_refl _) _
  have HO0 := Lib.hid hown0
  clear hown0 hrow
  go_enter Try.func46, Try.ntmps46
  go_wp2
  clear hmk'
  go_loopw [12] (fun i wr => ∃ k : Nat, k ≤ n ∧ i = .int .i64 k ∧ Below w.heap.size w wr ∧ Hid (Own wr w.heap.size (.slice (some ⟨w.heap.size, 0, none⟩) (2 * n) (2 * n)) (hexP l k))) (fun i _ => n - (intOf i).toNat)
  case atStart => exact ⟨0, Nat.zero_le _, rfl, hbel0, HO0⟩
  case round =>
    obtain ⟨k, hk, rfl, hbel, hown⟩ := hrel
    clear hbel0 HO0
    by_cases hlt : k < n
    · have hkl : k < l.length := by rw [← HN.out]; exact hlt
      obtain ⟨b, off, rfl, hbB, hc⟩ := H3.out (by omega)
      have hsrc := (hbel.cell (p := ⟨b, off + k, none⟩) (by show b < _; omega)).trans (hc k hkl)
      obtain ⟨g, hgA, hg1, hg2, hcell, hfrz, hset⟩ := hown.out.at_ (j := 2 * k) (by rw [hexP_len l (by omega)]; omega)
      simp only [Option.some.injEq, Addr.mk.injEq, and_true] at hgA
      subst hgA
      obtain ⟨old, hold⟩ : ∃ old : Int, old = (((hexP l k)[2 * k]'(by rw [hexP_len l (by omega)]; omega)).toNat : Int) := ⟨_, rfl⟩
      rw [← hold] at hcell
      obtain ⟨g', hgA', _, _, hcell2, hfrz2, _⟩ := hown.out.at_ (j := 2 * k + 1) (by rw [hexP_len l (by omega)]; omega)
      simp only [Option.some.injEq, Addr.mk.injEq, and_true] at hgA'
      subst hgA'
      obtain ⟨old2, hold2⟩ : ∃ old : Int, old = (((hexP l k)[2 * k + 1]'(by rw [hexP_len l (by omega)]; omega)).toNat : Int) := ⟨_, rfl⟩
      rw [← hold2] at hcell2
      obtain ⟨_, _, _, _, _, _, hset2⟩ := (hset (hexD (l[k].toNat / 16))).at_ (j := 2 * k + 1) (by rw [List.length_set, hexP_len l (by omega)]; omega)
      rename_i g2 hgA2 _ _ _ _
      simp only [Option.some.injEq, Addr.mk.injEq, and_true] at hgA2
      subst hgA2
      have hfin := hset2 (hexD (l[k].toNat % 16))
      rw [hexP_step l hkl] at hfin
      clear hold hold2 hc hset hset2
      obtain ⟨x, hx⟩ : ∃ x : UInt8, x = l[k] := ⟨_, rfl⟩
      rw [← hx] at hsrc hfin
      have HF := Lib.hid hfin
      clear hx hfin
      have hx1 : (0 : Int) ≤ (x.toNat : Int) / 16 ∧ (x.toNat : Int) / 16 < 16 := by have := x.toNat_lt; omega
      have hx2 : (0 : Int) ≤ (x.toNat : Int) % 16 ∧ (x.toNat : Int) % 16 < 16 := by omega
      go_wp2
      go_roundw
      case rel =>
        simp only [digit_at]
        exact ⟨k + 1, by omega, by go_num, (hbel.setCell (Nat.le_refl _) _).setCell (Nat.le_refl _) _, HF⟩
      case measure => simp [intOf]; omega
    · have ho := hown.out
      have hkn : k = l.length := by rw [← HN.out]; omega
      have he : hexP l k = hexL l := by rw [hkn]; simp [hexP, zs]
      rw [he] at ho
      have hconv := conv_bs ho.bs
      clear ho he hkn
      go_wp2
      go_ret
      exact ⟨rfl, hbel⟩

/-- is it a digit, and what does it count? -/
def isD (c : UInt8) : Bool := (decide (48 ≤ c.toNat) && decide (c.toNat ≤ 57)) || (decide (97 ≤ c.toNat) && decide (c.toNat ≤ 102))
def valD (c : UInt8) : Nat := if c.toNat ≤ 57 then c.toNat - 48 else c.toNat - 87
theorem valD_lt {c : UInt8} (h : isD c = true) : valD c < 16 := by
  simp only [isD, Bool.or_eq_true, Bool.and_eq_true, decide_eq_true_eq] at h
  unfold valD
  split <;> omega
theorem digit_yes {c : UInt8} (h : isD c = true) (w : World) :
    Calls Try.prog 77 #[.int .u8 (c.toNat : Int)] w fun e w' => e = .returned (.tuple #[.int .u8 (valD c : Nat), .bool true]) ∧ w = w' := by
  simp only [isD, Bool.or_eq_true, Bool.and_eq_true, decide_eq_true_eq] at h
  rcases h with ⟨h1, h2⟩ | ⟨h1, h2⟩
  · have hv : ((valD c : Nat) : Int) = (c.toNat : Int) - 48 := by unfold valD; rw [if_pos h2]; omega
    have HV := Lib.hid hv; clear hv
    have g1 : (48 : Int) ≤ (c.toNat : Int) := by omega
    have g2 : (c.toNat : Int) ≤ 57 := by omega
    go_enter Try.func77, Try.ntmps77
    go_wp2
    go_ret2
    exact ⟨by rw [HV.out]; rfl, rfl⟩
  · have hv : ((valD c : Nat) : Int) = (c.toNat : Int) - 97 + 10 := by unfold valD; rw [if_neg (by omega)]; omega
    have HV := Lib.hid hv; clear hv
    have g1 : (97 : Int) ≤ (c.toNat : Int) := by omega
    have g2 : (c.toNat : Int) ≤ 102 := by omega
    have g3 : decide ((c.toNat : Int) ≤ 57) = false := by simp; omega
    go_enter Try.func77, Try.ntmps77
    go_wp2
    go_ret2
    exact ⟨by rw [HV.out]; rfl, rfl⟩
theorem digit_no {c : UInt8} (h : isD c = false) (w : World) :
    Calls Try.prog 77 #[.int .u8 (c.toNat : Int)] w fun e w' => e = .returned (.tuple #[.int .u8 0, .bool false]) ∧ w = w' := by
  simp only [isD, Bool.or_eq_false_iff, Bool.and_eq_false_iff, decide_eq_false_iff_not] at h
  have h3 : (c.toNat < 48) ∨ (57 < c.toNat ∧ c.toNat < 97) ∨ (102 < c.toNat) := by omega
  clear h
  rcases h3 with h | ⟨h1, h2⟩ | h
  · have g1 : decide ((48 : Int) ≤ (c.toNat : Int)) = false := by simp; omega
    have g2 : decide ((97 : Int) ≤ (c.toNat : Int)) = false := by simp; omega
    go_enter Try.func77, Try.ntmps77
    go_wp2
    go_ret2
    exact ⟨rfl, rfl⟩
  · have g0 : (48 : Int) ≤ (c.toNat : Int) := by omega
    have g1 : decide ((c.toNat : Int) ≤ 57) = false := by simp; omega
    have g2 : decide ((97 : Int) ≤ (c.toNat : Int)) = false := by simp; omega
    go_enter Try.func77, Try.ntmps77
    go_wp2
    go_ret2
    exact ⟨rfl, rfl⟩
  · have g0 : (48 : Int) ≤ (c.toNat : Int) := by omega
    have g1 : decide ((c.toNat : Int) ≤ 57) = false := by simp; omega
    have g2 : (97 : Int) ≤ (c.toNat : Int) := by omega
    have g3 : decide ((c.toNat : Int) ≤ 102) = false := by simp; omega
    go_enter Try.func77, Try.ntmps77
    go_wp2
    go_ret2
    exact ⟨rfl, rfl⟩

/-- the byte of two digits -/
def unD (l : List UInt8) (i : Nat) : UInt8 := UInt8.ofNat (valD (l.getD (2 * i) 0) * 16 + valD (l.getD (2 * i + 1) 0))
def unL (l : List UInt8) (k : Nat) : List UInt8 := (List.range k).map (unD l)
def unhexE (l : List UInt8) : Int := if l.length % 2 = 1 then 2 else if ∀ x ∈ l, isD x = true then 0 else 3
def unhexR (l : List UInt8) : List UInt8 := if unhexE l = 0 then unL l (l.length / 2) else []
theorem or_digits {a b : Nat} (ha : a < 16) (hb : b < 16) : bits .or .u8 ((a : Int) * 16) (b : Int) = ((UInt8.ofNat (a * 16 + b)).toNat : Int) := by
  have e : (a : Int) * 16 = ((a * 16 : Nat) : Int) := by omega
  rw [e, u8_or_nat _ _ (by omega) (by omega), nat_join 4 _ _ (by omega) (by omega), UInt8.toNat_ofNat']
  omega
theorem bstr_size (l : List UInt8) : (bstr l).size = l.length := by simp [bstr, ByteArray.size]
theorem bstr_at (l : List UInt8) (i : Nat) (h : i < (bstr l).size) : (bstr l)[i]'h = l[i]'(by rw [← bstr_size]; exact h) := by
  simp [bstr, ByteArray.getElem_eq_getElem_data]

theorem unhex_odd {s : ByteArray} (h : (s.size : Int) % 2 = 1) (hm : s.size ≤ 9223372036854775807) (w : World) :
    Calls Try.prog 45 #[.string s] w fun e w' => e = .returned (.tuple #[.slice none 0 0, .int .i64 2]) ∧ w = w' := by
  have g : ((s.size : Int) % 2 != 0) = true := by rw [bne_iff_ne]; omega
  clear h
  go_enter Try.func45, Try.ntmps45
  go_wp2
  go_ret2
  exact ⟨rfl, rfl⟩

set_option maxHeartbeats 800000 in
theorem unhex_even {l : List UInt8} {n : Nat} (hl : l.length = 2 * n) (hm : n ≤ 140737488355328) (w : World) :
    Calls Try.prog 45 #[.string (bstr l)] w fun e w' => ∃ u, e = .returned (.tuple #[u, .int .i64 (unhexE l)]) ∧ Own w' w.heap.size u (unhexR l) ∧ Below w.heap.size w w' := by
  obtain ⟨s, hs⟩ : ∃ s, s = bstr l := ⟨_, rfl⟩
  have hsz : s.size = 2 * n := by rw [hs, bstr_size, hl]
  have hat : ∀ i (h : i < s.size) (h2 : i < l.length), s[i]'h = l[i]'h2 := by subst hs; intro i h h2; exact bstr_at l i h
  rw [← hs]
  clear hs
  have HL := Lib.hid hl; have HAT := Lib.hid hat
  clear hl hat
  have g : ((s.size : Int) % 2 != 0) = false := by rw [bne_eq_false_iff_eq]; omega
  have g2 : (s.size : Int) / 2 = (n : Int) := by omega
  have hmk := run_make_row' (P := Try.prog) 22 5 (.int .u8 0) 1 Try.underlying22 u8info rfl .i64 .i64 n (by omega) (by omega)
  have hrow := World.rowIs_made w (.int .u8 0) n 5
  have hown0 : Own (w.alloc (.cells (madeCells #[Value.int .u8 0] n) 5)) w.heap.size (.slice (some ⟨w.heap.size, 0, none⟩) n n) (unL l 0 ++ zs (n - 0)) :=
    Own.of_row (hrow.congr fun j hj => by simp [unL, zs, hj, vb]) (Nat.le_refl _) (by unfold maxLen; omega) (by simp [unL, zs])
  have hbel0 : Below w.heap.size w (w.alloc (.cells (madeCells #[Value.int .u8 0] n) 5)) := (Below.refl _ _).alloc (Nat.le_refl _) _
  have HO0 := Lib.hid hown0
  have hsz1 : s.size ≤ 2 * n := by omega
  have hsz2 : 2 * n ≤ s.size := by omega
  have HSZ := Lib.hid hsz
  clear hown0 hrow hsz
  go_enter Try.func45, Try.ntmps45
  go_wp2
  clear hmk g2
  go_loopw [20] (fun i wr => ∃ k : Nat, k ≤ n ∧ i = .int .i64 k ∧ Below w.heap.size w wr ∧ Hid (Own wr w.heap.size (.slice (some ⟨w.heap.size, 0, none⟩) n n) (unL l k ++ zs (n - k))) ∧ Hid (∀ j (h : j < l.length), j < 2 * k → isD l[j] = true)) (fun i _ => n - (intOf i).toNat)
  case atStart => exact ⟨0, Nat.zero_le _, rfl, hbel0, HO0, fun j h h2 => absurd h2 (by omega)⟩
  case round =>
    obtain ⟨k, hk, rfl, hbel, hown, hall⟩ := hrel
    clear hbel0 HO0
    by_cases hlt : k < n
    · have k1 : 2 * k < l.length := by rw [HL.out]; omega
      have k2 : 2 * k + 1 < l.length := by rw [HL.out]; omega
      obtain ⟨x, hx⟩ : ∃ x : UInt8, s[2 * k]'(by omega) = x := ⟨_, rfl⟩
      obtain ⟨y, hy⟩ : ∃ y : UInt8, s[2 * k + 1]'(by omega) = y := ⟨_, rfl⟩
      have hxl : l[2 * k] = x := by rw [← hx]; exact (HAT.out _ _ _).symm
      have hyl : l[2 * k + 1] = y := by rw [← hy]; exact (HAT.out _ _ _).symm
      have HXL := Lib.hid hxl; have HYL := Lib.hid hyl
      clear hxl hyl
      have bad : (isD x && isD y) = false → unhexE l = 3 ∧ unhexR l = [] := by
        intro hb
        have hno : ¬ ∀ z ∈ l, isD z = true := fun h => by
          have h1 := h _ (List.getElem_mem k1)
          have h2 := h _ (List.getElem_mem k2)
          rw [HXL.out] at h1
          rw [HYL.out] at h2
          rw [h1, h2] at hb
          exact absurd hb (by decide)
        have he : unhexE l = 3 := by
          unfold unhexE
          rw [if_neg (by rw [HL.out]; omega), if_neg hno]
        exact ⟨he, by unfold unhexR; rw [if_neg (by rw [he]; decide)]⟩
      have BAD := Lib.hid bad; clear bad
      cases hdx : isD x
      · cases hdy : isD y
        · obtain ⟨hE, hR⟩ := BAD.out (by rw [hdx, hdy]; rfl)
          have HE := Lib.hid hE; have HR := Lib.hid hR; have CX := Lib.hid (digit_no hdx wr); have CY := Lib.hid (digit_no hdy wr)
          clear hE hR hdx hdy
          go_wp2_with fail
          refine (CX.out).mono ?_
          rintro e w1 ⟨rfl, rfl⟩
          go_wp2_with fail
          refine (CY.out).mono ?_
          rintro e w1 ⟨rfl, rfl⟩
          go_wp2
          go_ret2
          exact ⟨_, by rw [HE.out]; rfl, by rw [HR.out]; exact Own.nil _ _, hbel⟩
        · obtain ⟨hE, hR⟩ := BAD.out (by rw [hdx, hdy]; rfl)
          have HE := Lib.hid hE; have HR := Lib.hid hR; have CX := Lib.hid (digit_no hdx wr); have CY := Lib.hid (digit_yes hdy wr)
          clear hE hR hdx hdy
          go_wp2_with fail
          refine (CX.out).mono ?_
          rintro e w1 ⟨rfl, rfl⟩
          go_wp2_with fail
          refine (CY.out).mono ?_
          rintro e w1 ⟨rfl, rfl⟩
          go_wp2
          go_ret2
          exact ⟨_, by rw [HE.out]; rfl, by rw [HR.out]; exact Own.nil _ _, hbel⟩
      · cases hdy : isD y
        · obtain ⟨hE, hR⟩ := BAD.out (by rw [hdx, hdy]; rfl)
          have HE := Lib.hid hE; have HR := Lib.hid hR; have CX := Lib.hid (digit_yes hdx wr); have CY := Lib.hid (digit_no hdy wr)
          clear hE hR hdx hdy
          go_wp2_with fail
          refine (CX.out).mono ?_
          rintro e w1 ⟨rfl, rfl⟩
          go_wp2_with fail
          refine (CY.out).mono ?_
          rintro e w1 ⟨rfl, rfl⟩
          go_wp2
          go_ret2
          exact ⟨_, by rw [HE.out]; rfl, by rw [HR.out]; exact Own.nil _ _, hbel⟩
        · have hvx := valD_lt hdx
          have hvy := valD_lt hdy
          obtain ⟨vx, hvxe⟩ : ∃ v : Nat, v = valD x := ⟨_, rfl⟩
          obtain ⟨vy, hvye⟩ : ∃ v : Nat, v = valD y := ⟨_, rfl⟩
          have hor := or_digits hvx hvy
          rw [← hvxe] at hvx hor
          rw [← hvye] at hvy hor
          have HOR := Lib.hid hor; clear hor
          have hun : unD l k = UInt8.ofNat (vx * 16 + vy) := by
            have e1 : l.getD (2 * k) 0 = x := by simp [k1, HXL.out]
            have e2 : l.getD (2 * k + 1) 0 = y := by simp [k2, HYL.out]
            rw [unD, e1, e2, hvxe, hvye]
          have hlenr : k < (unL l k ++ zs (n - k)).length := by simp [unL, zs]; omega
          obtain ⟨g', hgA', _, _, hcell, hfrz, hset⟩ := hown.out.at_ (j := k) hlenr
          simp only [Option.some.injEq, Addr.mk.injEq, and_true] at hgA'
          subst hgA'
          obtain ⟨old, hold⟩ : ∃ old : Int, old = (((unL l k ++ zs (n - k))[k]'hlenr).toNat : Int) := ⟨_, rfl⟩
          rw [← hold] at hcell
          have hfin := hset (UInt8.ofNat (vx * 16 + vy))
          have estep : (unL l k ++ zs (n - k)).set k (UInt8.ofNat (vx * 16 + vy)) = unL l (k + 1) ++ zs (n - (k + 1)) := by
            have e3 : zs (n - k) = 0 :: zs (n - (k + 1)) := by
              have : n - k = n - (k + 1) + 1 := by omega
              rw [this]; rfl
            have e4 : (unL l k).length = k := by simp [unL]
            rw [e3, List.set_append_right _ _ (by omega), e4, Nat.sub_self, ← hun]
            simp [unL, List.range_succ]
          rw [estep] at hfin
          have hall2 : Hid (∀ j (h : j < l.length), j < 2 * (k + 1) → isD l[j] = true) := fun j h h2 => by
            rcases Nat.lt_or_ge j (2 * k) with h3 | h3
            · exact hall.out j h h3
            · rcases (show j = 2 * k ∨ j = 2 * k + 1 by omega) with rfl | rfl
              · rw [HXL.out]; exact hdx
              · rw [HYL.out]; exact hdy
          have HF := Lib.hid hfin
          have cx := digit_yes hdx wr
          have cy := digit_yes hdy wr
          rw [← hvxe] at cx
          rw [← hvye] at cy
          have CX := Lib.hid cx; have CY := Lib.hid cy
          clear cx cy hold hset hfin estep hun hvxe hvye hdx hdy hlenr
          go_wp2_with fail
          refine (CX.out).mono ?_
          rintro e w1 ⟨rfl, rfl⟩
          go_wp2_with fail
          refine (CY.out).mono ?_
          rintro e w1 ⟨rfl, rfl⟩
          go_wp2
          go_roundw
          case rel => exact ⟨k + 1, by omega, by go_num, hbel.setCell (Nat.le_refl _) _, by rw [HOR.out]; exact HF, hall2⟩
          case measure => simp [intOf]; omega
    · have hgood : unhexE l = 0 ∧ unhexR l = unL l k ++ zs (n - k) := by
        have hyes : ∀ z ∈ l, isD z = true := fun z hz => by
          obtain ⟨j, hj, rfl⟩ := List.getElem_of_mem hz
          exact hall.out j hj (by rw [HL.out] at hj; omega)
        have he : unhexE l = 0 := by
          unfold unhexE
          rw [if_neg (by rw [HL.out]; omega), if_pos hyes]
        refine ⟨he, ?_⟩
        unfold unhexR
        rw [if_pos he, HL.out]
        have e1 : k = n := by omega
        have e2 : 2 * n / 2 = n := by omega
        rw [e1, e2]
        simp [zs]
      have HE := Lib.hid hgood.1
      have ho := hown.out
      rw [← hgood.2] at ho
      have HO := Lib.hid ho
      clear hgood ho hown
      go_wp2
      go_ret2
      exact ⟨_, by rw [HE.out]; rfl, HO.out, hbel⟩
end Go.Proofs.Ytajhpebefehciaa
