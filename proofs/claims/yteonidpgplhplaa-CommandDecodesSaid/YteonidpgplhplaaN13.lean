/- CommandDecodes, walked. -/
import Derived.Test.YteonidpgplhplaaN11
import Derived.Test.YteonidpgplhplaaN12
import Derived.Test.YteonidpgplhplaaRefCopyB
namespace Go.Proofs.Yteonidpgplhplaa
open Go.RowKit

theorem getP_digit (o : Int) (K : Nat) (l : List UInt8) (a : Nat) : ∀ k i, i < k → getP o K l a k / 256 ^ i % 256 = (l.getD (a + idx o K i) 0).toNat
  | k + 1, i, hi => by
    have hx := (l.getD (a + idx o K k) 0).toNat_lt
    rw [getP]
    rcases Nat.lt_or_ge i k with h | h
    · have ih := getP_digit o K l a k i h
      obtain ⟨m, hm⟩ : ∃ m, k = i + 1 + m := ⟨k - (i + 1), by omega⟩
      have e : (256 : Nat) ^ k = 256 ^ i * (256 * 256 ^ m) := by rw [hm, Nat.pow_add, Nat.pow_succ, Nat.mul_assoc]
      rw [e, ← Nat.mul_assoc, Nat.mul_comm ((l.getD (a + idx o K k) 0).toNat), Nat.mul_assoc, Nat.add_mul_div_left _ _ (Nat.pow_pos (by decide)), ← Nat.mul_assoc, Nat.mul_comm _ 256, Nat.mul_assoc, Nat.add_mul_mod_self_left]
      exact ih
    · obtain rfl : i = k := by omega
      rw [Nat.add_mul_div_right _ _ (Nat.pow_pos (by decide)), Nat.div_eq_of_lt (getP_lt o K l a i), Nat.zero_add]
      omega
theorem putL_getP (K : Nat) (l : List UInt8) (a : Nat) (h : a + K ≤ l.length) : putL 2 K (getP 2 K l a K) = (l.drop a).take K := by
  apply List.ext_getElem
  · rw [putL_length, List.length_take, List.length_drop]; omega
  · intro j h1 h2
    rw [putL_length] at h1
    simp only [putL, List.getElem_map, List.getElem_range, List.getElem_take, List.getElem_drop]
    apply UInt8.toNat_inj.1
    have hd := getP_digit 2 K l a K (idx 2 K j) (idx_lt 2 K j K h1 (Nat.le_refl _))
    rw [UInt8.toNat_ofNat', show (2 : Nat) ^ 8 = 256 from rfl, hd, show idx 2 K (idx 2 K j) = j by simp only [idx_big]; omega, List.getD_eq_getElem?_getD, List.getElem?_eq_getElem (by omega)]
    rfl
theorem cut_next (l : List UInt8) (n m : Nat) : (l.drop n).take m ++ l.drop (n + m) = l.drop n := by rw [← List.drop_drop, List.take_append_drop]
/-- a command that was read out of 32 bytes has just these bytes -/
theorem enc_cmdOf {l : List UInt8} (h : l.length = 32) (h0 : getP 2 2 l 30 2 = 0) : (cmdOf l).enc = l := by
  have p0 := putL_getP 1 l 0 (by omega)
  have p1 := putL_getP 1 l 1 (by omega)
  have p2 := putL_getP 4 l 2 (by omega)
  have p3 := putL_getP 8 l 6 (by omega)
  have p5 := putL_getP 2 l 30 (by omega)
  rw [h0] at p5
  have e5 : putL 2 2 0 = [0, 0] := by decide
  have one : ∀ x, putL 2 1 x = [UInt8.ofNat x] := fun x => by simp [putL, idx]
  rw [one] at p0 p1
  rw [e5, List.take_of_length_le (by rw [List.length_drop]; omega)] at p5
  have c0 := cut_next l 0 1
  have c1 := cut_next l 1 1
  have c2 := cut_next l 2 4
  have c3 := cut_next l 6 8
  have c4 := cut_next l 14 16
  simp only [Nat.zero_add, Nat.reduceAdd, List.drop_zero] at c0 c1 c2 c3 c4 p0
  have E : (cmdOf l).enc = [UInt8.ofNat (getP 2 1 l 0 1)] ++ ([UInt8.ofNat (getP 2 1 l 1 1)] ++ (putL 2 4 (getP 2 4 l 2 4) ++ (putL 2 8 (getP 2 8 l 6 8) ++ ((l.drop 14).take 16 ++ [0, 0])))) := by simp [Cm.enc, cmdOf]
  rw [E, p0, p1, p2, p3, p5, c4, c3, c2, c1, c0]

set_option maxRecDepth 100000 in
set_option maxHeartbeats 4000000 in
theorem decodes_walk {l : List UInt8} {v : Value} {w : World} (hb : Bs w w.heap.size v l) (hll : l.length ≤ 140737488351232) :
    Calls Try.prog 4 #[v] w fun e w' => e = .returned (.bool true) ∧ Below w.heap.size w w' := by
  have CA := Lib.hid (awake_any w)
  have hdok : (decC l).ok := by
    rw [decC]
    split
    · rename_i h
      by_cases hl : l.length = 32
      · exact cmdOf_ok hl
      · rw [decE, if_pos hl] at h
        exact absurd h (by decide)
    · exact ⟨by decide, by decide, by decide, by decide, rfl⟩
  have heq := fun W => eq_cmd hdok W
  have HNE : ∀ W, (binOp .neq 26 (.agg (decC l).cs.toArray) (.agg (decC l).cs.toArray)).run Try.prog W = .ok (.bool false) W := fun W => by
    rw [run_neq_struct, heq]
    rfl
  have hlen := Cm.len hdok
  have h1c := cs_one (decC l)
  have D1 := fun (W : World) (B : Nat) (u : Value) (h : Bs W B u l) (hB : B ≤ W.heap.size) => decode_any h hB
  have D2 := fun (W : World) (B : Nat) (u : Value) (h : Bs W B u l) (hB : B ≤ W.heap.size) => refdecode_any h hB
  obtain ⟨e, he⟩ : ∃ e, e = decE l := ⟨_, rfl⟩
  have henc : e = 0 → (decC l).chk = 0 ∧ (decC l).enc = l := fun h0 => by
    have h : decE l = 0 := by rw [← he, h0]
    have hc : decC l = cmdOf l := by rw [decC, if_pos h]
    rw [hc]
    by_cases hl : l.length = 32
    · rw [decE, if_neg (fun x => x hl)] at h
      by_cases hr : getP 2 2 l 30 2 = 0
      · rw [if_neg (fun x => x.1 hr)] at h
        exact ⟨h, enc_cmdOf hl hr⟩
      · by_cases h1 : (cmdOf l).chk = 1
        · rw [if_neg (fun x => x.2 h1), h1] at h
          exact absurd h (by decide)
        · rw [if_pos ⟨hr, h1⟩] at h
          exact absurd h (by decide)
    · rw [decE, if_pos hl] at h
      exact absurd h (by decide)
  rw [← he] at D1 D2
  have HOK := Lib.hid hdok
  obtain ⟨dc, hdc⟩ : ∃ dc, dc = decC l := ⟨_, rfl⟩
  rw [← hdc] at D1 D2 HNE hlen h1c henc HOK
  obtain ⟨CS, hCS⟩ : ∃ CS, CS = dc.cs := ⟨_, rfl⟩
  rw [← hCS] at D1 D2 HNE hlen h1c
  obtain ⟨A, c, rfl⟩ := hb.shape
  have HB := Lib.hid hb; have HD1 := Lib.hid D1; have HD2 := Lib.hid D2; have HNEH := Lib.hid HNE; have HENC := Lib.hid henc; have HLN := Lib.hid hlen; have HCS := Lib.hid hCS
  have hone : Hid (CS.toArray.all (·.oneCell') = true) := Lib.hid (all_oneCell_toArray h1c)
  have hiC : Hid ((Try.prog.info? 26).map (·.size) = some CS.toArray.size) := Lib.hid (by rw [List.size_toArray, hlen]; kernel_rfl)
  have hoC : Hid ((#[.int .u8 0, .int .u8 0, .int .u32 0, .int .u64 0, .int .u8 0, .int .u8 0, .int .u8 0, .int .u8 0, .int .u8 0, .int .u8 0, .int .u8 0, .int .u8 0, .int .u8 0, .int .u8 0, .int .u8 0, .int .u8 0, .int .u8 0, .int .u8 0, .int .u8 0, .int .u8 0] : Array Value).size = CS.toArray.size) := Lib.hid (by show 20 = _; rw [List.size_toArray, hlen])
  have HLL := Lib.hid hll
  clear hdok heq HNE hlen h1c D1 D2 he henc hdc hCS hb hll
  go_enter Try.func4, Try.ntmps4
  go_wp2_with fail
  refine (CA.out).mono ?_
  rintro e0 w0 ⟨rfl, hb0⟩
  have HB0 := Lib.hid hb0
  have C1 := Lib.hid (copy_any (HB.out.below hb0 (Nat.le_refl _)) hb0.size (by have := HLL.out; omega))
  clear hb0 CA
  go_wp2_with fail
  with_reducible refine (C1.out).mono ?_
  rintro e1 w1 ⟨u1, rfl, ho1, hb1⟩
  have HB1 := Lib.hid (HB0.out.trans (hb1.mono HB0.out.size))
  have C2 := Lib.hid (HD1.out w1 w1.heap.size u1 ho1.bs (Nat.le_refl _))
  clear ho1 hb1 HB0 C1
  go_wp2_with fail
  with_reducible refine (C2.out).mono ?_
  rintro e2 w2 ⟨rfl, hb2⟩
  have hz2 : Hid ((w2.alloc (.cells #[.int .u8 0, .int .u8 0, .int .u32 0, .int .u64 0, .int .u8 0, .int .u8 0, .int .u8 0, .int .u8 0, .int .u8 0, .int .u8 0, .int .u8 0, .int .u8 0, .int .u8 0, .int .u8 0, .int .u8 0, .int .u8 0, .int .u8 0, .int .u8 0, .int .u8 0, .int .u8 0] 26)).heap[w2.heap.size]? = some (.cells #[.int .u8 0, .int .u8 0, .int .u32 0, .int .u64 0, .int .u8 0, .int .u8 0, .int .u8 0, .int .u8 0, .int .u8 0, .int .u8 0, .int .u8 0, .int .u8 0, .int .u8 0, .int .u8 0, .int .u8 0, .int .u8 0, .int .u8 0, .int .u8 0, .int .u8 0, .int .u8 0] 26 (0, 0))) := Lib.hid (heap_alloc_new w2 _)
  have HB2 := Lib.hid (HB1.out.trans (hb2.mono HB1.out.size))
  have hal2 : Below w2.heap.size w2 (w2.alloc (.cells CS.toArray 26)) := (Below.refl _ _).alloc (Nat.le_refl _) _
  have HB3 := Lib.hid (HB2.out.trans (hal2.mono HB2.out.size))
  have HR3 := Lib.hid (range_new w2 CS 26)
  have hz3 : w2.heap.size < (w2.alloc (.cells CS.toArray 26)).heap.size := by simp
  have C3 := Lib.hid (HD2.out (w2.alloc (.cells CS.toArray 26)) w.heap.size (.slice A l.length c) (HB.out.below HB3.out (Nat.le_refl _)) HB3.out.size)
  clear hb2 HB1 C2 hal2
  go_upto_region 4 with ((with_reducible refine wpList_store_row rfl 26 (.tmp 3) (.tmp 14) rfl w2.heap.size CS.toArray rfl rfl 26 _ hz2.out hiC.out hoC.out hone.out ?_); rw [World.setRow_alloc_new])
  generalize w2.alloc (.cells CS.toArray 26) = W3 at HB3 HR3 hz3 C3 ⊢
  clear hz2 HB2
  go_wp2_with fail
  with_reducible refine (C3.out).mono ?_
  rintro e4 w4 ⟨rfl, hb4⟩
  have hz4 : Hid ((w4.alloc (.cells #[.int .u8 0, .int .u8 0, .int .u32 0, .int .u64 0, .int .u8 0, .int .u8 0, .int .u8 0, .int .u8 0, .int .u8 0, .int .u8 0, .int .u8 0, .int .u8 0, .int .u8 0, .int .u8 0, .int .u8 0, .int .u8 0, .int .u8 0, .int .u8 0, .int .u8 0, .int .u8 0] 26)).heap[w4.heap.size]? = some (.cells #[.int .u8 0, .int .u8 0, .int .u32 0, .int .u64 0, .int .u8 0, .int .u8 0, .int .u8 0, .int .u8 0, .int .u8 0, .int .u8 0, .int .u8 0, .int .u8 0, .int .u8 0, .int .u8 0, .int .u8 0, .int .u8 0, .int .u8 0, .int .u8 0, .int .u8 0, .int .u8 0] 26 (0, 0))) := Lib.hid (heap_alloc_new w4 _)
  have hal4 : Below w4.heap.size w4 (w4.alloc (.cells CS.toArray 26)) := (Below.refl _ _).alloc (Nat.le_refl _) _
  have HB4 := Lib.hid (HB3.out.trans (hb4.mono HB3.out.size))
  have HB5 := Lib.hid (HB4.out.trans (hal4.mono HB4.out.size))
  have HR5 := Lib.hid (range_below (range_below HR3.out hb4 hz3) hal4 (Nat.lt_of_lt_of_le hz3 hb4.size))
  have HQ5 := Lib.hid (range_new w4 CS 26)
  have u26 := Try.underlying26
  have HI : Hid ((Try.prog.info? 26).map (·.size) = some CS.length) := Lib.hid (by rw [HLN.out]; kernel_rfl)
  have HNE := HNEH.out
  clear hb4 hal4 C3 HB3 HR3 hz3
  by_cases he0 : e = 0
  · subst he0
    obtain ⟨hk0, hen⟩ := HENC.out rfl
    have CE := fun W => encode_ok HOK.out hk0 W
    rw [← HCS.out, hen] at CE
    have HCE := Lib.hid CE
    clear CE hen hk0
    go_wp2_with (first
      | ((with_reducible refine wpList_store_row rfl 26 (.tmp 5) (.tmp 19) rfl w4.heap.size CS.toArray rfl rfl 26 _ hz4.out hiC.out hoC.out hone.out ?_); rw [World.setRow_alloc_new])
      | (with_reducible refine wpList_load_mid rfl 26 (.tmp 3) rfl w2.heap.size 0 rfl CS _ HR5.out u26 rfl HI.out ?_)
      | (with_reducible refine wpList_load_mid rfl 26 (.tmp 5) rfl w4.heap.size 0 rfl CS _ HQ5.out u26 rfl HI.out ?_))
    with_reducible refine (HCE.out _).mono ?_
    rintro e6 w6 ⟨u6, rfl, ho6, hb6⟩
    obtain ⟨A6, c6, rfl⟩ := ho6.shape
    have HB6 := Lib.hid (HB5.out.trans (hb6.mono HB5.out.size))
    have CQ := Lib.hid (equal_same ho6.bs (HB.out.below HB6.out (Nat.le_refl _)))
    clear ho6 hb6 HB5 HCE
    go_wp2_with fail
    refine (CQ.out).mono ?_
    rintro e7 w7 ⟨rfl, hd7⟩
    have HB7 := Lib.hid (HB6.out.trans ((hd7.below _).mono HB6.out.size))
    clear hd7
    go_wp2
    go_ret
    exact ⟨rfl, HB7.out⟩
  · have hn0 : (e != 0) = true := by simpa using he0
    go_wp2_with (first
      | ((with_reducible refine wpList_store_row rfl 26 (.tmp 5) (.tmp 19) rfl w4.heap.size CS.toArray rfl rfl 26 _ hz4.out hiC.out hoC.out hone.out ?_); rw [World.setRow_alloc_new])
      | (with_reducible refine wpList_load_mid rfl 26 (.tmp 3) rfl w2.heap.size 0 rfl CS _ HR5.out u26 rfl HI.out ?_)
      | (with_reducible refine wpList_load_mid rfl 26 (.tmp 5) rfl w4.heap.size 0 rfl CS _ HQ5.out u26 rfl HI.out ?_))
    go_ret
    exact ⟨rfl, HB5.out⟩
end Go.Proofs.Yteonidpgplhplaa
