/- The law CodecHexes, walked: bytes are written as small hexadecimal digits and read back as the same bytes, and wrong digits are refused. -/
import Derived.Test.YtpimklpkjinhiaaRefHex
namespace Go.Proofs.Ytpimklpkjinhiaa
open Go.RowKit

theorem unhex_all (l : List UInt8) (hm : l.length ≤ 140737488355328) (w : World) :
    Calls Try.prog 33 #[.string (bstr l)] w fun e w' => ∃ u, e = .returned (.tuple #[u, .int .i64 (unhexE l)]) ∧ Own w' w.heap.size u (unhexR l) ∧ Below w.heap.size w w' := by
  by_cases h : l.length % 2 = 1
  · have hE : unhexE l = 2 := by unfold unhexE; rw [if_pos h]
    have hR : unhexR l = [] := by unfold unhexR; rw [if_neg (by rw [hE]; decide)]
    rw [hE, hR]
    exact (unhex_odd (by rw [bstr_size]; omega) (by rw [bstr_size]; omega) w).mono fun e w' h => ⟨_, h.1, Own.nil _ _, by rw [h.2]; exact Below.refl _ _⟩
  · exact unhex_even (n := l.length / 2) (by omega) (by omega) w
theorem refunhex_all (l : List UInt8) (hm : l.length ≤ 140737488355328) (w : World) :
    Calls Try.prog 35 #[.string (bstr l)] w fun e w' => ∃ u, e = .returned (.tuple #[u, .int .i64 (unhexE l)]) ∧ Own w' w.heap.size u (unhexR l) ∧ Below w.heap.size w w' := by
  by_cases h : l.length % 2 = 1
  · have hE : unhexE l = 2 := by unfold unhexE; rw [if_pos h]
    have hR : unhexR l = [] := by unfold unhexR; rw [if_neg (by rw [hE]; decide)]
    rw [hE, hR]
    exact (refunhex_odd (by rw [bstr_size]; omega) (by rw [bstr_size]; omega) w).mono fun e w' h => ⟨_, h.1, Own.nil _ _, by rw [h.2]; exact Below.refl _ _⟩
  · exact refunhex_even (n := l.length / 2) (by omega) (by omega) w

theorem hex_digit {m : Nat} (h : m < 16) : isD (hexD m) = true ∧ valD (hexD m) = m := (hexD_eq h).1 rfl
theorem getD_flat (l : List UInt8) : ∀ i, i < l.length → (hexL l).getD (2 * i) 0 = hexD ((l.getD i 0).toNat / 16) ∧ (hexL l).getD (2 * i + 1) 0 = hexD ((l.getD i 0).toNat % 16) := by
  induction l with
  | nil => intro i h; cases h
  | cons x r ih =>
    intro i h
    have e : hexL (x :: r) = hexD (x.toNat / 16) :: hexD (x.toNat % 16) :: hexL r := by simp [hexL]
    rw [e]
    rcases i with _ | i
    · simp
    · have := ih i (by simpa using h)
      rw [show 2 * (i + 1) = 2 * i + 1 + 1 by omega]
      simpa using this
theorem unhex_hex (l : List UInt8) : unhexE (hexL l) = 0 ∧ unhexR (hexL l) = l := by
  have hyes : ∀ z ∈ hexL l, isD z = true := by
    intro z hz
    simp only [hexL, List.mem_flatMap, List.mem_cons, List.not_mem_nil, or_false] at hz
    obtain ⟨x, _, rfl | rfl⟩ := hz
    · exact (hex_digit (by have := x.toNat_lt; omega)).1
    · exact (hex_digit (by omega)).1
  have hE : unhexE (hexL l) = 0 := by
    unfold unhexE
    rw [if_neg (by rw [hexL_len]; omega), if_pos hyes]
  refine ⟨hE, ?_⟩
  unfold unhexR
  rw [if_pos hE, hexL_len, show 2 * l.length / 2 = l.length by omega]
  apply List.ext_getElem (by simp [unL])
  intro i h1 h2
  obtain ⟨e1, e2⟩ := getD_flat l i h2
  have e3 : (unL (hexL l) l.length)[i] = unD (hexL l) i := by simp [unL]
  have hx : l.getD i 0 = l[i] := by simp [h2]
  rw [e3, unD, e1, e2, (hex_digit (by have := (l.getD i 0).toNat_lt; omega)).2, (hex_digit (by omega)).2, hx]
  apply UInt8.toNat_inj.1
  rw [UInt8.toNat_ofNat']
  have := l[i].toNat_lt
  omega
theorem hexL_unL (l : List UInt8) (hyes : ∀ z ∈ l, isD z = true) : ∀ k, 2 * k ≤ l.length → hexL (unL l k) = l.take (2 * k)
  | 0, _ => by simp [unL, hexL]
  | k + 1, h => by
    have ih := hexL_unL l hyes k (by omega)
    have e1 : unL l (k + 1) = unL l k ++ [unD l k] := by simp [unL, List.range_succ]
    have h1 : 2 * k < l.length := by omega
    have h2 : 2 * k + 1 < l.length := by omega
    have d1 := hyes _ (List.getElem_mem h1)
    have d2 := hyes _ (List.getElem_mem h2)
    have v1 := valD_lt d1
    have v2 := valD_lt d2
    have e2 : (unD l k).toNat = valD l[2 * k] * 16 + valD l[2 * k + 1] := by
      have g1 : l.getD (2 * k) 0 = l[2 * k] := by simp [h1]
      have g2 : l.getD (2 * k + 1) 0 = l[2 * k + 1] := by simp [h2]
      rw [unD, g1, g2, UInt8.toNat_ofNat']
      omega
    have e3 : hexD ((unD l k).toNat / 16) = l[2 * k] := (hexD_eq (by omega)).2 ⟨d1, by omega⟩
    have e4 : hexD ((unD l k).toNat % 16) = l[2 * k + 1] := (hexD_eq (by omega)).2 ⟨d2, by omega⟩
    have e5 : l.take (2 * (k + 1)) = l.take (2 * k) ++ [l[2 * k], l[2 * k + 1]] := by
      have q1 : l.take (2 * k + 1) = l.take (2 * k) ++ [l[2 * k]] := by rw [List.take_add_one, List.getElem?_eq_getElem h1]; rfl
      have q2 : l.take (2 * k + 1 + 1) = l.take (2 * k + 1) ++ [l[2 * k + 1]] := by rw [List.take_add_one, List.getElem?_eq_getElem h2]; rfl
      rw [show 2 * (k + 1) = 2 * k + 1 + 1 by omega, q2, q1, List.append_assoc]
      rfl
    rw [e1, hexL_snoc, ih, e3, e4, e5]
theorem hex_unhex {l : List UInt8} (h : unhexE l = 0) : hexL (unhexR l) = l := by
  have h' := h
  unfold unhexE at h'
  by_cases ho : l.length % 2 = 1
  · rw [if_pos ho] at h'; exact absurd h' (by decide)
  · rw [if_neg ho] at h'
    by_cases hy : ∀ z ∈ l, isD z = true
    · unfold unhexR
      rw [if_pos h, hexL_unL l hy _ (by omega), List.take_of_length_le (by omega)]
    · rw [if_neg hy] at h'; exact absurd h' (by decide)
theorem hexL_ab : bstr (hexL [0, 171]) = ⟨#[48, 48, 97, 98]⟩ := by decide
theorem unhexR_le (l : List UInt8) : (unhexR l).length ≤ l.length := by
  unfold unhexR
  split <;> simp [unL]
  omega

set_option maxHeartbeats 1600000 in
theorem hexes_walk {l t : List UInt8} {va : Value} {w : World} (ha : Bs w w.heap.size va l) (hl : l.length ≤ 1048576) (ht : t.length ≤ 1048576) :
    Calls Try.prog 9 #[va, .string (bstr t)] w fun e w' => e = .returned (.bool true) ∧ Below w.heap.size w w' := by
  obtain ⟨E, hE⟩ : ∃ E, unhexE t = E := ⟨_, rfl⟩
  obtain ⟨R, hR⟩ : ∃ R, unhexR t = R := ⟨_, rfl⟩
  have hRl : R.length ≤ 1048576 := by rw [← hR]; exact Nat.le_trans (unhexR_le t) ht
  have hback : E = 0 → hexL R = t := fun h => by rw [← hR]; exact hex_unhex (by rw [hE]; exact h)
  obtain ⟨hu1, hu2⟩ := unhex_hex l
  have HE := Lib.hid hE; have HR := Lib.hid hR; have HBK := Lib.hid hback; have HU1 := Lib.hid hu1; have HU2 := Lib.hid hu2
  have HA := Lib.hid ha
  obtain ⟨Aa, ca, rfl⟩ := ha.shape
  clear ha hE hR hback hu1 hu2
  obtain ⟨S, hS⟩ : ∃ S, S = bstr t := ⟨_, rfl⟩
  obtain ⟨X, hX⟩ : ∃ X, X = bstr (hexL l) := ⟨_, rfl⟩
  have HS := Lib.hid hS; have HX := Lib.hid hX
  rw [← hS]
  clear hS hX
  have q1 : Bs (w.alloc (.cells #[.int .u8 0, .int .u8 171] 5)) (w.heap.size + 1) (.slice (some ⟨w.heap.size, 0, none⟩) 2 2) [0, 171] := Bs.lit w [0, 171] (by unfold maxLen; simp)
  have c0 := hex_any q1 (by simp) (by simp)
  rw [hexL_ab] at c0
  have C0 := Lib.hid c0
  have hb0 : Below w.heap.size w (w.alloc (.cells #[.int .u8 0, .int .u8 171] 5)) := (Below.refl _ _).alloc (Nat.le_refl _) _
  clear c0 q1
  go_enter Try.func9, Try.ntmps9
  go_wp2_with fail
  refine (C0.out).mono ?_
  rintro e w1 ⟨rfl, hbb1⟩
  have hb1 : Below w.heap.size w w1 := hb0.trans (hbb1.mono hb0.size)
  have hz1 := hb1.size
  clear hb0 hbb1
  go_wp2_with fail
  refine (copy_any (HA.out.below hb1 (Nat.le_refl _)) hz1 (by omega)).mono ?_
  rintro e w2 ⟨u2, rfl, ho2, hbb2⟩
  have hb2 := hb1.trans (hbb2.mono hz1)
  have hz2 := hb2.size
  clear hbb2 hb1
  go_wp2_with fail
  refine (hex_any ho2.bs (Nat.le_refl _) (by omega)).mono ?_
  rw [← HX.out]
  rintro e w3 ⟨rfl, hbb3⟩
  have hb3 := hb2.trans (hbb3.mono hz2)
  have hz3 := hb3.size
  have k3 := unhex_all (hexL l) (by rw [hexL_len]; omega) w3
  rw [HU1.out, HU2.out, ← HX.out] at k3
  have K3 := Lib.hid k3
  clear k3 ho2 hbb3 hb2
  go_wp2_with fail
  refine (K3.out).mono ?_
  rintro e w4 ⟨u4, rfl, ho4, hbb4⟩
  have hb4 := hb3.trans (hbb4.mono hz3)
  have hz4 := hb4.size
  have k4 := refhex_any (HA.out.below hb4 (Nat.le_refl _)) hz4 (by omega)
  rw [← HX.out] at k4
  have K4 := Lib.hid k4
  clear k4 hbb4 hb3
  go_wp2_with fail
  refine (K4.out).mono ?_
  rintro e w5 ⟨rfl, hbb5⟩
  have hb5 := hb4.trans (hbb5.mono hz4)
  have hz5 := hb5.size
  have k5 := equal_same (ho4.below hbb5 (Nat.le_refl _)).bs (HA.out.below hb5 (Nat.le_refl _))
  have K5 := Lib.hid k5
  clear k5 ho4 hbb5 hb4
  go_wp2_with fail
  refine (K5.out).mono ?_
  rintro e w6 ⟨rfl, hd6⟩
  have hb6 := hb5.trans (hd6.below _)
  have hz6 := hb6.size
  have k6 := unhex_all t (by omega) w6
  rw [HE.out, HR.out, ← HS.out] at k6
  have K6 := Lib.hid k6
  clear k6 hd6 hb5
  go_wp2_with fail
  refine (K6.out).mono ?_
  rintro e w7 ⟨u7, rfl, ho7, hbb7⟩
  have hb7 := hb6.trans (hbb7.mono hz6)
  have hz7 := hb7.size
  have k7 := refunhex_all t (by omega) w7
  rw [HE.out, HR.out, ← HS.out] at k7
  have K7 := Lib.hid k7
  clear k7 hbb7 hb6
  go_wp2_with fail
  refine (K7.out).mono ?_
  rintro e w8 ⟨u8, rfl, ho8, hbb8⟩
  have hb8 := hb7.trans (hbb8.mono hz7)
  have ho78 := ho7.below hbb8 (Nat.le_refl _)
  have k8 := told_any (x := E) (y := E) ho78.bs ho8.bs
  rw [show (decide (R = R) && E == E) = true by simp] at k8
  have K8 := Lib.hid k8
  clear k8 hbb8 ho7 ho8 hb7
  go_wp2_with fail
  refine (K8.out).mono ?_
  rintro e w9 ⟨rfl, hd9⟩
  have hb9 := hb8.trans (hd9.below _)
  have ho9 := hd9.own ho78
  clear hd9 ho78 hb8
  by_cases hE0 : E = 0
  · subst hE0
    have hbk := HBK.out rfl
    have k9 := hex_any ho9.bs (Nat.le_refl _) (by omega)
    rw [hbk, ← HS.out] at k9
    have K9 := Lib.hid k9
    clear k9 hbk ho9
    go_wp2_with fail
    refine (K9.out).mono ?_
    rintro e w10 ⟨rfl, hbb10⟩
    go_wp2
    go_ret
    exact ⟨ret_bool (by simp), hb9.trans (hbb10.mono hb9.size)⟩
  · have hne : (E != 0) = true := by rw [bne_iff_ne]; exact hE0
    clear hE0 ho9
    go_wp2
    go_ret
    exact ⟨rfl, hb9⟩
theorem hexes_walk2 {l : List UInt8} {s : ByteArray} {va : Value} {w : World} (ha : Bs w w.heap.size va l) (hl : l.length ≤ 1048576) (ht : s.data.toList.length ≤ 1048576) :
    Calls Try.prog 9 #[va, .string s] w fun e w' => e = .returned (.bool true) ∧ Below w.heap.size w w' := by
  have e : s = bstr s.data.toList := by simp [bstr]
  rw [e]
  exact hexes_walk ha hl ht
end Go.Proofs.Ytpimklpkjinhiaa
