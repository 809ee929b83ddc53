/- CommandEncodes, walked. -/
import Derived.Test.YteonidpgplhplaaN7
import Derived.Test.YteonidpgplhplaaN9
import Derived.Test.YteonidpgplhplaaN10
namespace Go.Proofs.Yteonidpgplhplaa
open Go.RowKit

theorem getP_putL (o : Int) (K n k : Nat) (hk : k ≤ K) : getP o K (putL o K n) 0 k = n % 256 ^ k := by
  induction k with
  | zero => simp [getP, Nat.mod_one]
  | succ k ih =>
    have hj : idx o K k < K := idx_lt o K k K (by omega) (Nat.le_refl _)
    have hi : idx o K (idx o K k) = k := by unfold idx; split <;> omega
    have hb : ((putL o K n).getD (0 + idx o K k) 0).toNat = n / 256 ^ k % 256 := by
      simp [putL, hj, hi, UInt8.toNat_ofNat']
    rw [getP, ih (by omega), hb, Nat.mod_pow_succ, Nat.mul_comm]
theorem getP_mid (o : Int) (K : Nat) (pre m post : List UInt8) (hm : m.length = K) : ∀ k, k ≤ K → getP o K (pre ++ (m ++ post)) pre.length k = getP o K m 0 k
  | 0, _ => rfl
  | k + 1, hk => by
    have hj : idx o K k < K := idx_lt o K k K (by omega) (Nat.le_refl _)
    rw [getP, getP, getP_mid o K pre m post hm k (by omega), Nat.zero_add]
    congr 3
    rw [List.getD_eq_getElem?_getD, List.getD_eq_getElem?_getD, List.getElem?_append_right (by omega), List.getElem?_append_left (by omega)]
    congr 2
    omega
/-- 32 bytes of a command are that command -/
theorem cmdOf_enc {c : Cm} (h : c.ok) : cmdOf c.enc = c := by
  have e0 := getP_mid 2 1 [] [UInt8.ofNat c.k] ([UInt8.ofNat c.f] ++ (putL 2 4 c.d ++ (putL 2 8 c.n ++ (c.m ++ [0, 0])))) rfl 1 (Nat.le_refl _)
  have e1 := getP_mid 2 1 [UInt8.ofNat c.k] [UInt8.ofNat c.f] (putL 2 4 c.d ++ (putL 2 8 c.n ++ (c.m ++ [0, 0]))) rfl 1 (Nat.le_refl _)
  have e2 := getP_mid 2 4 [UInt8.ofNat c.k, UInt8.ofNat c.f] (putL 2 4 c.d) (putL 2 8 c.n ++ (c.m ++ [0, 0])) (putL_length _ _ _) 4 (Nat.le_refl _)
  have e3 := getP_mid 2 8 ([UInt8.ofNat c.k, UInt8.ofNat c.f] ++ putL 2 4 c.d) (putL 2 8 c.n) (c.m ++ [0, 0]) (putL_length _ _ _) 8 (Nat.le_refl _)
  rw [getP_putL _ _ _ _ (Nat.le_refl _), Nat.mod_eq_of_lt (by have := h.d; simpa using this)] at e2
  rw [getP_putL _ _ _ _ (Nat.le_refl _), Nat.mod_eq_of_lt (by have := h.n; simpa using this)] at e3
  have hl3 : ([UInt8.ofNat c.k, UInt8.ofNat c.f] ++ putL 2 4 c.d).length = 6 := by simp [putL_length]
  rw [hl3] at e3
  have hk := h.k; have hf := h.f
  have one : ∀ x : Nat, x < 256 → getP 2 1 [UInt8.ofNat x] 0 1 = x := fun x hx => by
    simp [getP, idx]
    omega
  rw [one c.k hk] at e0
  rw [one c.f hf] at e1
  have E : c.enc = [UInt8.ofNat c.k, UInt8.ofNat c.f] ++ (putL 2 4 c.d ++ (putL 2 8 c.n ++ (c.m ++ [0, 0]))) := by simp [Cm.enc]
  have hm : (c.enc.drop 14).take 16 = c.m := by
    have e : c.enc = ([UInt8.ofNat c.k, UInt8.ofNat c.f] ++ putL 2 4 c.d ++ putL 2 8 c.n) ++ (c.m ++ [0, 0]) := by simp [Cm.enc]
    have hl : ([UInt8.ofNat c.k, UInt8.ofNat c.f] ++ putL 2 4 c.d ++ putL 2 8 c.n).length = 14 := by simp [putL_length]
    rw [e, ← hl, List.drop_left, ← h.m, List.take_left]
  have q0 : getP 2 1 c.enc 0 1 = c.k := by rw [E]; exact e0
  have q1 : getP 2 1 c.enc 1 1 = c.f := by rw [E]; exact e1
  have q2 : getP 2 4 c.enc 2 4 = c.d := by rw [E]; exact e2
  have q3 : getP 2 8 c.enc 6 8 = c.n := by
    rw [E]
    simpa using e3
  cases c with
  | mk k f d n m =>
    simp only [cmdOf] at q0 q1 q2 q3 hm ⊢
    rw [q0, q1, q2, q3, hm]
theorem rest_enc {c : Cm} (h : c.ok) : getP 2 2 c.enc 30 2 = 0 := by
  have e := getP_mid 2 2 ([UInt8.ofNat c.k, UInt8.ofNat c.f] ++ putL 2 4 c.d ++ putL 2 8 c.n ++ c.m) [0, 0] [] rfl 2 (Nat.le_refl _)
  have hl : ([UInt8.ofNat c.k, UInt8.ofNat c.f] ++ putL 2 4 c.d ++ putL 2 8 c.n ++ c.m).length = 30 := by simp [putL_length, h.m]
  rw [hl] at e
  have E : c.enc = ([UInt8.ofNat c.k, UInt8.ofNat c.f] ++ putL 2 4 c.d ++ putL 2 8 c.n ++ c.m) ++ ([0, 0] ++ []) := by simp [Cm.enc]
  rw [E, e]
  decide
theorem decE_enc {c : Cm} (h : c.ok) (h0 : c.chk = 0) : decE c.enc = 0 := by
  rw [decE, if_neg (by rw [Cm.enc_len h]; simp), cmdOf_enc h, rest_enc h, if_neg (by simp), h0]
theorem decC_enc {c : Cm} (h : c.ok) (h0 : c.chk = 0) : decC c.enc = c := by rw [decC, if_pos (decE_enc h h0), cmdOf_enc h]

set_option maxRecDepth 100000 in
set_option maxHeartbeats 4000000 in
theorem encodes_no {c : Cm} (hc : c.ok) (h : c.chk ≠ 0) (w : World) :
    Calls Try.prog 3 #[.agg c.cs.toArray] w fun e w' => e = .returned (.bool true) ∧ Below w.heap.size w w' := by
  have CA := Lib.hid (awake_any (w.alloc (.cells c.cs.toArray 26)))
  have hrg := range_new w c.cs 26
  have HB0 := Lib.hid ((Below.refl w.heap.size w).alloc (Nat.le_refl _) (.cells c.cs.toArray 26))
  have HRG := Lib.hid hrg
  have HZ0 : w.heap.size < (w.alloc (.cells c.cs.toArray 26)).heap.size := by simp
  have hlen := Cm.len hc
  have CEN := fun W => encode_no hc h W
  have CRE := fun W => refencode_no hc h W
  have C1 := fun W => check_any hc W
  have C2 := fun W => refcheck_any hc W
  have hne : (c.chk != 0) = true := by simpa using h
  obtain ⟨r, hr⟩ : ∃ r, r = c.chk := ⟨_, rfl⟩
  rw [← hr] at CEN CRE C1 C2 hne
  obtain ⟨CS, hCS⟩ : ∃ CS, CS = c.cs := ⟨_, rfl⟩
  rw [← hCS] at CA HB0 HRG HZ0 hlen CEN CRE C1 C2 ⊢
  have HLN := Lib.hid hlen; have HCEN := Lib.hid CEN; have HCRE := Lib.hid CRE; have HC1 := Lib.hid C1; have HC2 := Lib.hid C2; have HNE := Lib.hid hne
  clear hrg hlen CEN CRE C1 C2 hr hCS h hc hne
  go_enter Try.func3, Try.ntmps3
  go_upto_region 1 with fail
  generalize w.alloc (.cells CS.toArray 26) = W at CA HB0 HRG HZ0 ⊢
  have u26 := Try.underlying26
  have i26 : (Try.prog.info? 26).map (·.size) = some CS.length := by rw [HLN.out]; kernel_rfl
  have HI := Lib.hid i26
  clear i26
  go_wp2_with fail
  refine (CA.out).mono ?_
  rintro e1 w1 ⟨rfl, hb1⟩
  have HB1 := Lib.hid (HB0.out.trans (hb1.mono HB0.out.size))
  have HR1 := Lib.hid (range_below HRG.out hb1 HZ0)
  have hz1 : w.heap.size < w1.heap.size := Nat.lt_of_lt_of_le HZ0 hb1.size
  have D1 := Lib.hid (HCEN.out w1)
  clear hb1 HB0 HRG CA
  go_wp2_with (with_reducible refine wpList_load_mid rfl 26 (.tmp 1) rfl w.heap.size 0 rfl CS _ HR1.out u26 rfl HI.out ?_)
  with_reducible refine (D1.out).mono ?_
  rintro e2 w2 ⟨rfl, hb2⟩
  have HB2 := Lib.hid (HB1.out.trans (hb2.mono HB1.out.size))
  have HR2 := Lib.hid (range_below HR1.out hb2 hz1)
  have hz2 : w.heap.size < w2.heap.size := Nat.lt_of_lt_of_le hz1 hb2.size
  have D2 := Lib.hid (HCRE.out w2)
  clear hb2 HB1 HR1 D1
  go_wp2_with (with_reducible refine wpList_load_mid rfl 26 (.tmp 1) rfl w.heap.size 0 rfl CS _ HR2.out u26 rfl HI.out ?_)
  with_reducible refine (D2.out).mono ?_
  rintro e3 w3 ⟨rfl, hb3⟩
  have HB3 := Lib.hid (HB2.out.trans (hb3.mono HB2.out.size))
  have HR3 := Lib.hid (range_below HR2.out hb3 hz2)
  have hz3 : w.heap.size < w3.heap.size := Nat.lt_of_lt_of_le hz2 hb3.size
  have CE := Lib.hid ((equal_same (Bs.nil w3.drew w3.heap.size) (Bs.nil w3.drew w3.heap.size)).mono (fun e w' ⟨h1, h2⟩ => (⟨h1, ((Below.refl w3.heap.size w3).drew).trans (h2.below _)⟩ : e = Ending.returned (.bool true) ∧ Below w3.heap.size w3 w')))
  clear hb3 HB2 HR2 D2
  go_upto_region 5 with fail
  have i26 := HI.out
  refine wp_region_held_drew (S := fun w' => w'.rangeAt w.heap.size 0 CS) (by kernel_rfl) ?_ (fun hHeld => ?_)
  · exact HR3.out
  refine takeD (i := 0) (oi := _) (d := some 20) (v := ?_) rfl (by kernel_rfl) (by kernel_rfl) (by kernel_rfl) (by kernel_rfl) (fun _ _ _ h => h) (Or.inl ⟨by kernel_rfl, ?_⟩) (by assumption) ?_
  rotate_left
  focus (intro w' hSw; (try dsimp only at hSw); go_simp <;> with_reducible rfl)
  try simp only [Act.put, List.setIfInBounds_toArray, List.set_cons_zero, List.set_cons_succ]
  refine takeD (i := 1) (oi := _) (d := some 21) (v := ?_) rfl (by kernel_rfl) (by kernel_rfl) (by kernel_rfl) (by kernel_rfl) (fun _ _ _ h => h) (Or.inl ⟨by kernel_rfl, ?_⟩) (by assumption) ?_
  rotate_left
  focus (intro w' hSw; (try dsimp only at hSw); go_simp <;> with_reducible rfl)
  try simp only [Act.put, List.setIfInBounds_toArray, List.set_cons_zero, List.set_cons_succ]
  refine wpAnyH_ready (rs := [2]) (by kernel_rfl) (by simp) ?_
  refine AllReadyH.cons (o := _) rfl (fun K hK => ?_) AllReadyH.nil
  go_simp
  with_reducible refine (CE.out).mono ?_
  rintro e5 w5 ⟨rfl, hb5⟩
  have HB5 := Lib.hid hb5
  have HR5 := Lib.hid (range_below HR3.out hb5 hz3)
  have hz5 : w.heap.size < w5.heap.size := Nat.lt_of_lt_of_le hz3 hb5.size
  clear hb5
  refine hK.out _ _ ?_ (fun hHeld => ?_)
  · exact HR5.out
  clear hK K
  try simp only [Act.put, List.setIfInBounds_toArray, List.set_cons_zero, List.set_cons_succ]
  refine takeD (i := 3) (oi := _) (d := some 23) (v := ?_) rfl (by kernel_rfl) (by kernel_rfl) (by kernel_rfl) (by kernel_rfl) (fun _ _ _ h => h) (Or.inl ⟨by kernel_rfl, ?_⟩) (by assumption) ?_
  rotate_left
  focus (intro w' hSw; (try dsimp only at hSw); go_simp <;> with_reducible rfl)
  try simp only [Act.put, List.setIfInBounds_toArray, List.set_cons_zero, List.set_cons_succ]
  refine takeD (i := 4) (oi := _) (d := some 24) (v := ?_) rfl (by kernel_rfl) (by kernel_rfl) (by kernel_rfl) (by kernel_rfl) (fun _ _ _ h => h) (Or.inl ⟨by kernel_rfl, ?_⟩) (by assumption) ?_
  rotate_left
  focus (intro w' hSw; (try dsimp only at hSw); go_simp <;> with_reducible rfl)
  try simp only [Act.put, List.setIfInBounds_toArray, List.set_cons_zero, List.set_cons_succ]
  refine takeD (i := 5) (oi := _) (d := some 25) (v := ?_) rfl (by kernel_rfl) (by kernel_rfl) (by kernel_rfl) (by kernel_rfl) (fun _ _ _ h => h) (Or.inl ⟨by kernel_rfl, ?_⟩) (by assumption) ?_
  rotate_left
  focus (intro w' hSw; (try dsimp only at hSw); go_simp <;> with_reducible rfl)
  try simp only [Act.put, List.setIfInBounds_toArray, List.set_cons_zero, List.set_cons_succ]
  refine takeD (i := 6) (oi := _) (d := some 26) (v := ?_) rfl (by kernel_rfl) (by kernel_rfl) (by kernel_rfl) (by kernel_rfl) (fun _ _ _ h => h) (Or.inl ⟨by kernel_rfl, ?_⟩) (by assumption) ?_
  rotate_left
  focus (intro w' hSw; (try dsimp only at hSw); go_simp <;> with_reducible rfl)
  try simp only [Act.put, List.setIfInBounds_toArray, List.set_cons_zero, List.set_cons_succ]
  refine takeD (i := 7) (oi := _) (d := some 27) (v := ?_) rfl (by kernel_rfl) (by kernel_rfl) (by kernel_rfl) (by kernel_rfl) (fun _ _ _ h => h) (Or.inl ⟨by kernel_rfl, ?_⟩) (by assumption) ?_
  rotate_left
  focus (intro w' hSw; (try dsimp only at hSw); go_simp <;> with_reducible rfl)
  try simp only [Act.put, List.setIfInBounds_toArray, List.set_cons_zero, List.set_cons_succ]
  refine takeD (i := 8) (oi := _) (d := some 28) (v := ?_) rfl (by kernel_rfl) (by kernel_rfl) (by kernel_rfl) (by kernel_rfl) (fun _ _ _ h => h) (Or.inl ⟨by kernel_rfl, ?_⟩) (by assumption) ?_
  rotate_left
  focus (intro w' hSw; (try dsimp only at hSw); go_simp <;> with_reducible rfl)
  try simp only [Act.put, List.setIfInBounds_toArray, List.set_cons_zero, List.set_cons_succ]
  refine takeD (i := 9) (oi := _) (d := some 29) (v := ?_) rfl (by kernel_rfl) (by kernel_rfl) (by kernel_rfl) (by kernel_rfl) (fun _ _ _ h => h) (Or.inl ⟨by kernel_rfl, ?_⟩) (by assumption) ?_
  rotate_left
  focus (intro w' hSw; (try dsimp only at hSw); go_simp <;> with_reducible rfl)
  try simp only [Act.put, List.setIfInBounds_toArray, List.set_cons_zero, List.set_cons_succ]
  refine takeD (i := 10) (oi := _) (d := some 30) (v := _) rfl (by kernel_rfl) (by kernel_rfl) (by kernel_rfl) (by kernel_rfl) (fun _ _ _ h => h) (yieldsIf_load_mid (by kernel_rfl) _ _ rfl _ _ rfl CS _ (fun w' h => h) u26 rfl i26) (by assumption) ?_
  try simp only [Act.put, List.setIfInBounds_toArray, List.set_cons_zero, List.set_cons_succ]
  refine takeD (i := 12) (oi := _) (d := some 32) (v := _) rfl (by kernel_rfl) (by kernel_rfl) (by kernel_rfl) (by kernel_rfl) (fun _ _ _ h => h) (yieldsIf_load_mid (by kernel_rfl) _ _ rfl _ _ rfl CS _ (fun w' h => h) u26 rfl i26) (by assumption) ?_
  try simp only [Act.put, List.setIfInBounds_toArray, List.set_cons_zero, List.set_cons_succ]
  refine wpAnyH_ready (rs := [11]) (by kernel_rfl) (by simp) ?_
  refine AllReadyH.cons (o := _) rfl (fun K hK => ?_) AllReadyH.nil
  go_simp
  with_reducible refine (HC1.out _).mono ?_
  rintro e6 w6 ⟨rfl, hb6⟩
  have HB6 := Lib.hid hb6
  have HR6 := Lib.hid (range_below HR5.out hb6 hz5)
  have hz6 : w.heap.size < w6.heap.size := Nat.lt_of_lt_of_le hz5 hb6.size
  clear hb6
  refine hK.out _ _ ?_ (fun hHeld => ?_)
  · exact HR6.out
  clear hK K
  try simp only [Act.put, List.setIfInBounds_toArray, List.set_cons_zero, List.set_cons_succ]
  refine wpAnyH_ready (rs := [13]) (by kernel_rfl) (by simp) ?_
  refine AllReadyH.cons (o := _) rfl (fun K hK => ?_) AllReadyH.nil
  go_simp
  with_reducible refine (HC2.out _).mono ?_
  rintro e7 w7 ⟨rfl, hb7⟩
  have HB7 := Lib.hid hb7
  have HR7 := Lib.hid (range_below HR6.out hb7 hz6)
  have hz7 : w.heap.size < w7.heap.size := Nat.lt_of_lt_of_le hz6 hb7.size
  clear hb7
  refine hK.out _ _ ?_ (fun hHeld => ?_)
  · exact HR7.out
  clear hK K
  try simp only [Act.put, List.setIfInBounds_toArray, List.set_cons_zero, List.set_cons_succ]
  refine takeD (i := 14) (oi := _) (d := some 34) (v := ?_) rfl (by kernel_rfl) (by kernel_rfl) (by kernel_rfl) (by kernel_rfl) (fun _ _ _ h => h) (Or.inl ⟨by kernel_rfl, ?_⟩) (by assumption) ?_
  rotate_left
  focus (intro w' hSw; (try dsimp only at hSw); go_simp <;> with_reducible rfl)
  try simp only [Act.put, List.setIfInBounds_toArray, List.set_cons_zero, List.set_cons_succ]
  refine takeD (i := 15) (oi := _) (d := some 35) (v := ?_) rfl (by kernel_rfl) (by kernel_rfl) (by kernel_rfl) (by kernel_rfl) (fun _ _ _ h => h) (Or.inl ⟨by kernel_rfl, ?_⟩) (by assumption) ?_
  rotate_left
  focus (intro w' hSw; (try dsimp only at hSw); go_simp <;> with_reducible rfl)
  try simp only [Act.put, List.setIfInBounds_toArray, List.set_cons_zero, List.set_cons_succ]
  refine wpAnyH_done (by kernel_rfl) ?_ _
  have HBF := Lib.hid (((HB3.out.trans (HB5.out.mono HB3.out.size)).trans (HB6.out.mono (by omega))).trans (HB7.out.mono (by omega)))
  have hne := HNE.out
  go_wp2
  go_ret
  exact ⟨rfl, HBF.out⟩
set_option maxRecDepth 100000 in
set_option maxHeartbeats 4000000 in
theorem encodes_ok {c : Cm} (hc : c.ok) (h : c.chk = 0) (w : World) :
    Calls Try.prog 3 #[.agg c.cs.toArray] w fun e w' => e = .returned (.bool true) ∧ Below w.heap.size w w' := by
  have CA := Lib.hid (awake_any (w.alloc (.cells c.cs.toArray 26)))
  have hrg := range_new w c.cs 26
  have HB0 := Lib.hid ((Below.refl w.heap.size w).alloc (Nat.le_refl _) (.cells c.cs.toArray 26))
  have HRG := Lib.hid hrg
  have HZ0 : w.heap.size < (w.alloc (.cells c.cs.toArray 26)).heap.size := by simp
  have hlen := Cm.len hc
  have CEN := fun W => encode_ok hc h W
  have CRE := fun W => refencode_ok hc h W
  have C1 := fun W => check_any hc W
  have C2 := fun W => refcheck_any hc W
  rw [h] at C1 C2
  have hdc := decC_enc hc h
  have hde := decE_enc hc h
  have heq := fun W => eq_cmd hc W
  have HEQ : ∀ W, (binOp .eql 26 (.agg c.cs.toArray) (.agg c.cs.toArray)).run Try.prog W = .ok (.bool true) W := fun W => by
    rw [run_eql_struct, heq]
    rfl
  obtain ⟨E, hE⟩ : ∃ E, E = c.enc := ⟨_, rfl⟩
  have hEl : E.length = 32 := by rw [hE]; exact Cm.enc_len hc
  have h1c := cs_one c
  rw [← hE] at CEN CRE hdc hde
  have HDC : Hid ((decC E).cs.toArray = c.cs.toArray) := Lib.hid (by rw [hdc])
  have HDE := Lib.hid hde
  obtain ⟨CS, hCS⟩ : ∃ CS, CS = c.cs := ⟨_, rfl⟩
  rw [← hCS] at CA HB0 HRG HZ0 hlen CEN CRE C1 C2 HEQ HDC h1c ⊢
  have HLN := Lib.hid hlen; have HCEN := Lib.hid CEN; have HCRE := Lib.hid CRE; have HC1 := Lib.hid C1; have HC2 := Lib.hid C2; have HEQH := Lib.hid HEQ; have HEL := Lib.hid hEl; have h1H := Lib.hid h1c
  clear hrg hlen CEN CRE C1 C2 hCS h hc hdc hde heq HEQ hE hEl h1c
  go_enter Try.func3, Try.ntmps3
  go_upto_region 1 with fail
  generalize w.alloc (.cells CS.toArray 26) = W at CA HB0 HRG HZ0 ⊢
  have u26 := Try.underlying26
  have i26 : (Try.prog.info? 26).map (·.size) = some CS.length := by rw [HLN.out]; kernel_rfl
  have HI := Lib.hid i26
  clear i26
  go_wp2_with fail
  refine (CA.out).mono ?_
  rintro e1 w1 ⟨rfl, hb1⟩
  have HB1 := Lib.hid (HB0.out.trans (hb1.mono HB0.out.size))
  have HR1 := Lib.hid (range_below HRG.out hb1 HZ0)
  have hz1 : w.heap.size < w1.heap.size := Nat.lt_of_lt_of_le HZ0 hb1.size
  have D1 := Lib.hid (HCEN.out w1)
  clear hb1 HB0 HRG CA
  go_wp2_with (with_reducible refine wpList_load_mid rfl 26 (.tmp 1) rfl w.heap.size 0 rfl CS _ HR1.out u26 rfl HI.out ?_)
  with_reducible refine (D1.out).mono ?_
  rintro e2 w2 ⟨v2, rfl, ho2, hb2⟩
  obtain ⟨A2, c2, hv2⟩ := ho2.shape
  rw [HEL.out] at hv2
  subst hv2
  have HO2 := Lib.hid ho2
  clear ho2
  have HB2 := Lib.hid (HB1.out.trans (hb2.mono HB1.out.size))
  have HR2 := Lib.hid (range_below HR1.out hb2 hz1)
  have hz2 : w.heap.size < w2.heap.size := Nat.lt_of_lt_of_le hz1 hb2.size
  have D2 := Lib.hid (HCRE.out w2)
  clear hb2 HB1 HR1 D1
  go_wp2_with (with_reducible refine wpList_load_mid rfl 26 (.tmp 1) rfl w.heap.size 0 rfl CS _ HR2.out u26 rfl HI.out ?_)
  with_reducible refine (D2.out).mono ?_
  rintro e3 w3 ⟨v3, rfl, ho3, hb3⟩
  obtain ⟨A3, c3, hv3⟩ := ho3.shape
  rw [HEL.out] at hv3
  subst hv3
  have HO3 := Lib.hid ho3
  have HO2' := Lib.hid (HO2.out.below hb3 (Nat.le_refl _))
  clear ho3
  have HB3 := Lib.hid (HB2.out.trans (hb3.mono HB2.out.size))
  have HR3 := Lib.hid (range_below HR2.out hb3 hz2)
  have hz3 : w.heap.size < w3.heap.size := Nat.lt_of_lt_of_le hz2 hb3.size
  have CE := Lib.hid ((equal_same (w := w3.drew) (HO2'.out.bs.drewN 1) (HO3.out.bs.drewN 1)).mono (fun e w' ⟨h1, h2⟩ => (⟨h1, ((Below.refl w3.heap.size w3).drew).trans (h2.below _)⟩ : e = Ending.returned (.bool true) ∧ Below w3.heap.size w3 w')))
  clear hb3 HB2 HR2 D2
  go_upto_region 5 with fail
  have i26 := HI.out
  refine wp_region_held_drew (S := fun w' => w'.rangeAt w.heap.size 0 CS) (by kernel_rfl) ?_ (fun hHeld => ?_)
  · exact HR3.out
  refine takeD (i := 0) (oi := _) (d := some 20) (v := ?_) rfl (by kernel_rfl) (by kernel_rfl) (by kernel_rfl) (by kernel_rfl) (fun _ _ _ h => h) (Or.inl ⟨by kernel_rfl, ?_⟩) (by assumption) ?_
  rotate_left
  focus (intro w' hSw; (try dsimp only at hSw); go_simp <;> with_reducible rfl)
  try simp only [Act.put, List.setIfInBounds_toArray, List.set_cons_zero, List.set_cons_succ]
  refine takeD (i := 1) (oi := _) (d := some 21) (v := ?_) rfl (by kernel_rfl) (by kernel_rfl) (by kernel_rfl) (by kernel_rfl) (fun _ _ _ h => h) (Or.inl ⟨by kernel_rfl, ?_⟩) (by assumption) ?_
  rotate_left
  focus (intro w' hSw; (try dsimp only at hSw); go_simp <;> with_reducible rfl)
  try simp only [Act.put, List.setIfInBounds_toArray, List.set_cons_zero, List.set_cons_succ]
  refine wpAnyH_ready (rs := [2]) (by kernel_rfl) (by simp) ?_
  refine AllReadyH.cons (o := _) rfl (fun K hK => ?_) AllReadyH.nil
  go_simp
  with_reducible refine (CE.out).mono ?_
  rintro e5 w5 ⟨rfl, hb5⟩
  have HB5 := Lib.hid hb5
  have HR5 := Lib.hid (range_below HR3.out hb5 hz3)
  have hz5 : w.heap.size < w5.heap.size := Nat.lt_of_lt_of_le hz3 hb5.size
  clear hb5
  refine hK.out _ _ ?_ (fun hHeld => ?_)
  · exact HR5.out
  clear hK K
  try simp only [Act.put, List.setIfInBounds_toArray, List.set_cons_zero, List.set_cons_succ]
  refine takeD (i := 3) (oi := _) (d := some 23) (v := ?_) rfl (by kernel_rfl) (by kernel_rfl) (by kernel_rfl) (by kernel_rfl) (fun _ _ _ h => h) (Or.inl ⟨by kernel_rfl, ?_⟩) (by assumption) ?_
  rotate_left
  focus (intro w' hSw; (try dsimp only at hSw); go_simp <;> with_reducible rfl)
  try simp only [Act.put, List.setIfInBounds_toArray, List.set_cons_zero, List.set_cons_succ]
  refine takeD (i := 4) (oi := _) (d := some 24) (v := ?_) rfl (by kernel_rfl) (by kernel_rfl) (by kernel_rfl) (by kernel_rfl) (fun _ _ _ h => h) (Or.inl ⟨by kernel_rfl, ?_⟩) (by assumption) ?_
  rotate_left
  focus (intro w' hSw; (try dsimp only at hSw); go_simp <;> with_reducible rfl)
  try simp only [Act.put, List.setIfInBounds_toArray, List.set_cons_zero, List.set_cons_succ]
  refine takeD (i := 5) (oi := _) (d := some 25) (v := ?_) rfl (by kernel_rfl) (by kernel_rfl) (by kernel_rfl) (by kernel_rfl) (fun _ _ _ h => h) (Or.inl ⟨by kernel_rfl, ?_⟩) (by assumption) ?_
  rotate_left
  focus (intro w' hSw; (try dsimp only at hSw); go_simp <;> with_reducible rfl)
  try simp only [Act.put, List.setIfInBounds_toArray, List.set_cons_zero, List.set_cons_succ]
  refine takeD (i := 6) (oi := _) (d := some 26) (v := ?_) rfl (by kernel_rfl) (by kernel_rfl) (by kernel_rfl) (by kernel_rfl) (fun _ _ _ h => h) (Or.inl ⟨by kernel_rfl, ?_⟩) (by assumption) ?_
  rotate_left
  focus (intro w' hSw; (try dsimp only at hSw); go_simp <;> with_reducible rfl)
  try simp only [Act.put, List.setIfInBounds_toArray, List.set_cons_zero, List.set_cons_succ]
  refine takeD (i := 7) (oi := _) (d := some 27) (v := ?_) rfl (by kernel_rfl) (by kernel_rfl) (by kernel_rfl) (by kernel_rfl) (fun _ _ _ h => h) (Or.inl ⟨by kernel_rfl, ?_⟩) (by assumption) ?_
  rotate_left
  focus (intro w' hSw; (try dsimp only at hSw); go_simp <;> with_reducible rfl)
  try simp only [Act.put, List.setIfInBounds_toArray, List.set_cons_zero, List.set_cons_succ]
  refine takeD (i := 8) (oi := _) (d := some 28) (v := ?_) rfl (by kernel_rfl) (by kernel_rfl) (by kernel_rfl) (by kernel_rfl) (fun _ _ _ h => h) (Or.inl ⟨by kernel_rfl, ?_⟩) (by assumption) ?_
  rotate_left
  focus (intro w' hSw; (try dsimp only at hSw); go_simp <;> with_reducible rfl)
  try simp only [Act.put, List.setIfInBounds_toArray, List.set_cons_zero, List.set_cons_succ]
  refine takeD (i := 9) (oi := _) (d := some 29) (v := ?_) rfl (by kernel_rfl) (by kernel_rfl) (by kernel_rfl) (by kernel_rfl) (fun _ _ _ h => h) (Or.inl ⟨by kernel_rfl, ?_⟩) (by assumption) ?_
  rotate_left
  focus (intro w' hSw; (try dsimp only at hSw); go_simp <;> with_reducible rfl)
  try simp only [Act.put, List.setIfInBounds_toArray, List.set_cons_zero, List.set_cons_succ]
  refine takeD (i := 10) (oi := _) (d := some 30) (v := _) rfl (by kernel_rfl) (by kernel_rfl) (by kernel_rfl) (by kernel_rfl) (fun _ _ _ h => h) (yieldsIf_load_mid (by kernel_rfl) _ _ rfl _ _ rfl CS _ (fun w' h => h) u26 rfl i26) (by assumption) ?_
  try simp only [Act.put, List.setIfInBounds_toArray, List.set_cons_zero, List.set_cons_succ]
  refine takeD (i := 12) (oi := _) (d := some 32) (v := _) rfl (by kernel_rfl) (by kernel_rfl) (by kernel_rfl) (by kernel_rfl) (fun _ _ _ h => h) (yieldsIf_load_mid (by kernel_rfl) _ _ rfl _ _ rfl CS _ (fun w' h => h) u26 rfl i26) (by assumption) ?_
  try simp only [Act.put, List.setIfInBounds_toArray, List.set_cons_zero, List.set_cons_succ]
  refine wpAnyH_ready (rs := [11]) (by kernel_rfl) (by simp) ?_
  refine AllReadyH.cons (o := _) rfl (fun K hK => ?_) AllReadyH.nil
  go_simp
  with_reducible refine (HC1.out _).mono ?_
  rintro e6 w6 ⟨rfl, hb6⟩
  have HB6 := Lib.hid hb6
  have HR6 := Lib.hid (range_below HR5.out hb6 hz5)
  have hz6 : w.heap.size < w6.heap.size := Nat.lt_of_lt_of_le hz5 hb6.size
  clear hb6
  refine hK.out _ _ ?_ (fun hHeld => ?_)
  · exact HR6.out
  clear hK K
  try simp only [Act.put, List.setIfInBounds_toArray, List.set_cons_zero, List.set_cons_succ]
  refine wpAnyH_ready (rs := [13]) (by kernel_rfl) (by simp) ?_
  refine AllReadyH.cons (o := _) rfl (fun K hK => ?_) AllReadyH.nil
  go_simp
  with_reducible refine (HC2.out _).mono ?_
  rintro e7 w7 ⟨rfl, hb7⟩
  have HB7 := Lib.hid hb7
  have HR7 := Lib.hid (range_below HR6.out hb7 hz6)
  have hz7 : w.heap.size < w7.heap.size := Nat.lt_of_lt_of_le hz6 hb7.size
  clear hb7
  refine hK.out _ _ ?_ (fun hHeld => ?_)
  · exact HR7.out
  clear hK K
  try simp only [Act.put, List.setIfInBounds_toArray, List.set_cons_zero, List.set_cons_succ]
  refine takeD (i := 14) (oi := _) (d := some 34) (v := ?_) rfl (by kernel_rfl) (by kernel_rfl) (by kernel_rfl) (by kernel_rfl) (fun _ _ _ h => h) (Or.inl ⟨by kernel_rfl, ?_⟩) (by assumption) ?_
  rotate_left
  focus (intro w' hSw; (try dsimp only at hSw); go_simp <;> with_reducible rfl)
  try simp only [Act.put, List.setIfInBounds_toArray, List.set_cons_zero, List.set_cons_succ]
  refine takeD (i := 15) (oi := _) (d := some 35) (v := ?_) rfl (by kernel_rfl) (by kernel_rfl) (by kernel_rfl) (by kernel_rfl) (fun _ _ _ h => h) (Or.inl ⟨by kernel_rfl, ?_⟩) (by assumption) ?_
  rotate_left
  focus (intro w' hSw; (try dsimp only at hSw); go_simp <;> with_reducible rfl)
  try simp only [Act.put, List.setIfInBounds_toArray, List.set_cons_zero, List.set_cons_succ]
  refine wpAnyH_done (by kernel_rfl) ?_ _
  have HBF := Lib.hid (((HB3.out.trans (HB5.out.mono HB3.out.size)).trans (HB6.out.mono (by omega))).trans (HB7.out.mono (by omega)))
  have hb37 := (HB5.out.trans (HB6.out.mono HB5.out.size)).trans (HB7.out.mono (Nat.le_trans HB5.out.size HB6.out.size))
  have D9 := decode_any ((HO2'.out.bs.below hb37 (Nat.le_refl _)).more hb37.size) (Nat.le_refl _)
  rw [HDC.out, HDE.out] at D9
  have HD9 := Lib.hid D9
  clear D9 hb37 HO2' HO3
  go_wp2_with fail
  with_reducible refine (HD9.out).mono ?_
  rintro e8 w8 ⟨rfl, hb8⟩
  have HB8 := Lib.hid ((HBF.out.trans (hb8.mono HBF.out.size)).alloc (Nat.le_trans HBF.out.size hb8.size) (.cells CS.toArray 26))
  have HR8 := Lib.hid (range_below (range_below HR7.out hb8 hz7) ((Below.refl w8.heap.size w8).alloc (Nat.le_refl _) (.cells CS.toArray 26)) (Nat.lt_of_lt_of_le hz7 hb8.size))
  have HR8' := Lib.hid (range_new w8 CS 26)
  have hz8 : Hid ((w8.alloc (.cells #[.int .u8 0, .int .u8 0, .int .u32 0, .int .u64 0, .int .u8 0, .int .u8 0, .int .u8 0, .int .u8 0, .int .u8 0, .int .u8 0, .int .u8 0, .int .u8 0, .int .u8 0, .int .u8 0, .int .u8 0, .int .u8 0, .int .u8 0, .int .u8 0, .int .u8 0, .int .u8 0] 26)).heap[w8.heap.size]? = some (.cells #[.int .u8 0, .int .u8 0, .int .u32 0, .int .u64 0, .int .u8 0, .int .u8 0, .int .u8 0, .int .u8 0, .int .u8 0, .int .u8 0, .int .u8 0, .int .u8 0, .int .u8 0, .int .u8 0, .int .u8 0, .int .u8 0, .int .u8 0, .int .u8 0, .int .u8 0, .int .u8 0] 26 (0, 0))) := Lib.hid (heap_alloc_new w8 _)
  have hiC : Hid ((Try.prog.info? 26).map (·.size) = some CS.toArray.size) := Lib.hid (by rw [List.size_toArray]; exact HI.out)
  have hoC : Hid ((#[.int .u8 0, .int .u8 0, .int .u32 0, .int .u64 0, .int .u8 0, .int .u8 0, .int .u8 0, .int .u8 0, .int .u8 0, .int .u8 0, .int .u8 0, .int .u8 0, .int .u8 0, .int .u8 0, .int .u8 0, .int .u8 0, .int .u8 0, .int .u8 0, .int .u8 0, .int .u8 0] : Array Value).size = CS.toArray.size) := Lib.hid (by show 20 = _; rw [List.size_toArray, HLN.out])
  have hone : Hid (CS.toArray.all (·.oneCell') = true) := Lib.hid (all_oneCell_toArray h1H.out)
  have HEQ := HEQH.out
  clear hb8 HD9 i26
  go_wp2_with (first
    | ((with_reducible refine wpList_store_row rfl 26 (.tmp 7) (.tmp 41) rfl w8.heap.size CS.toArray rfl rfl 26 _ hz8.out hiC.out hoC.out hone.out ?_); rw [World.setRow_alloc_new])
    | ((with_reducible refine wpList_load_midG ?_ 26 (.tmp 7) rfl w8.heap.size 0 rfl CS _ HR8'.out u26 rfl HI.out ?_); (focus rfl))
    | ((with_reducible refine wpList_load_midG ?_ 26 (.tmp 1) rfl w.heap.size 0 rfl CS _ HR8.out u26 rfl HI.out ?_); (focus rfl)))
  go_ret
  exact ⟨rfl, HB8.out⟩
theorem encodes_walk {c : Cm} (hc : c.ok) (w : World) :
    Calls Try.prog 3 #[.agg c.cs.toArray] w fun e w' => e = .returned (.bool true) ∧ Below w.heap.size w w' := by
  by_cases h : c.chk = 0
  · exact encodes_ok hc h w
  · exact encodes_no hc h w
end Go.Proofs.Yteonidpgplhplaa
