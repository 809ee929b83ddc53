/- Turn of a key, the program's and the reference's. -/
import Derived.Test.YthgdficgjldobaaC8
import Derived.Test.YthgdficgjldobaaC6
namespace Go.Proofs.Ythgdficgjldobaa
open Go.RowKit

set_option maxRecDepth 100000 in
set_option maxHeartbeats 4000000 in
theorem turn_ok {ls : List (List UInt8)} {key : List UInt8} {vk v : Value} {w : World} {B : Nat} (hk : Bs w B vk key) (hr : Rs w B v ls) (hB : B ≤ w.heap.size) (hkl : key.length = 32) (hn : ls.flatten.length ≤ 65536) :
    Calls Try.prog 19 #[vk, v] w fun e w' => ∃ u, e = .returned (.tuple #[u, .int .i64 0]) ∧ Own w' w.heap.size u (trnL key 0 ls.flatten) ∧ Below w.heap.size w w' := by
  have CN := Lib.hid (new_ok hk hB hkl)
  have HR := Lib.hid hr
  have HN := Lib.hid hn
  clear hk hkl hr hn
  go_enter Try.func19, Try.ntmps19
  go_wp2_with fail
  with_reducible refine (CN.out).mono ?_
  rintro e1 w1 ⟨rfl, hf1, hb1⟩
  have CX := Lib.hid (fturn_ok hf1 (HR.out.below hb1 hB) (Nat.le_trans hB hb1.size) (by have := HN.out; omega))
  have HB1 := Lib.hid hb1
  clear hf1 hb1 CN
  go_wp2_with fail
  with_reducible refine (CX.out).mono ?_
  rintro e2 w2 ⟨u, rfl, ho, _, hg⟩
  have HO := Lib.hid (ho.more (B' := w.heap.size) HB1.out.size)
  have HB2 := Lib.hid (HB1.out.grown hg HB1.out.size (fun q hq => by simp only [Option.some.injEq] at hq; omega))
  clear ho hg CX
  go_wp2
  go_ret2
  exact ⟨_, rfl, HO.out, HB2.out⟩
theorem turn_bound {ls : List (List UInt8)} {key : List UInt8} {vk v : Value} {w : World} {B : Nat} (hk : Bs w B vk key) (hr : Rs w B v ls) (hB : B ≤ w.heap.size) (hkl : key.length = 32) (hn : 65536 < ls.flatten.length) :
    Calls Try.prog 19 #[vk, v] w fun e w' => e = .returned (.tuple #[.slice none 0 0, .int .i64 11]) ∧ Below w.heap.size w w' := by
  have CN := Lib.hid (new_ok hk hB hkl)
  have HR := Lib.hid hr
  have HN := Lib.hid hn
  clear hk hkl hr hn
  go_enter Try.func19, Try.ntmps19
  go_wp2_with fail
  with_reducible refine (CN.out).mono ?_
  rintro e1 w1 ⟨rfl, hf1, hb1⟩
  have CX := Lib.hid (fturn_no hf1 (HR.out.below hb1 hB) (by omega) (by have := HN.out; omega))
  have HB1 := Lib.hid hb1
  clear hf1 hb1 CN
  go_wp2_with fail
  with_reducible refine (CX.out).mono ?_
  rintro e2 w2 ⟨rfl, rfl⟩
  clear CX
  go_wp2
  go_ret2
  exact ⟨rfl, HB1.out⟩
theorem turn_size {key : List UInt8} {vk v : Value} {w : World} {B : Nat} (hk : Bs w B vk key) (hkl : key.length ≠ 32) (hm : key.length ≤ 281474976710656) :
    Calls Try.prog 19 #[vk, v] w fun e w' => e = .returned (.tuple #[.slice none 0 0, .int .i64 2]) ∧ w = w' := by
  have CN := Lib.hid (new_no hk hkl hm)
  clear hk hkl
  go_enter Try.func19, Try.ntmps19
  go_wp2_with fail
  with_reducible refine (CN.out).mono ?_
  rintro e1 w1 ⟨rfl, rfl⟩
  clear CN
  go_wp2
  go_ret2
  exact ⟨rfl, rfl⟩
/-- a stream of which the first i bytes have been turned -/
def trP (key l : List UInt8) (i : Nat) : List UInt8 := (List.range l.length).map fun j => if j < i then kb key j ^^^ l.getD j 0 else kb key j
theorem trP_len (key l : List UInt8) (i : Nat) : (trP key l i).length = l.length := by simp [trP]
theorem trP_zero (key l : List UInt8) : trP key l 0 = strL key 0 l.length := by
  rw [trP, strL]
  exact List.map_congr_left (fun j _ => by rw [if_neg (by omega), Nat.zero_add])
theorem trP_end (key l : List UInt8) : trP key l l.length = trnL key 0 l := by
  rw [trP, trnL]
  exact List.map_congr_left (fun j hj => by rw [if_pos (by simpa using hj), Nat.zero_add, UInt8.xor_comm])
theorem trP_at (key l : List UInt8) {i : Nat} (h : i < l.length) : (trP key l i)[i]'(by rw [trP_len]; exact h) = kb key i := by simp [trP]
theorem trP_set (key l : List UInt8) {i : Nat} (_h : i < l.length) : (trP key l i).set i (kb key i ^^^ l.getD i 0) = trP key l (i + 1) := by
  apply List.ext_getElem
  · simp [trP]
  · intro j h1 h2
    rw [List.getElem_set]
    by_cases e : i = j
    · subst e
      rw [if_pos rfl]
      simp [trP]
    · rw [if_neg e]
      simp only [trP, List.getElem_map, List.getElem_range]
      by_cases h3 : j < i
      · rw [if_pos h3, if_pos (by omega)]
      · rw [if_neg h3, if_neg (by omega)]
set_option maxRecDepth 100000 in
set_option maxHeartbeats 4000000 in
theorem refturn_ok {l key : List UInt8} {vk v : Value} {w : World} {B : Nat} (hk : Bs w B vk key) (hr : Bs w B v l) (hB : B ≤ w.heap.size) (hkl : key.length = 32) (hn : l.length ≤ 65536) :
    Calls Try.prog 21 #[vk, v] w fun e w' => ∃ u, e = .returned (.tuple #[u, .int .i64 0]) ∧ Own w' w.heap.size u (trnL key 0 l) ∧ Below w.heap.size w w' := by
  have CB := refbytes_any (a := 0) (n := l.length) hk hB hkl (by omega)
  rw [show ((0 : Nat) : Int) = 0 from rfl] at CB
  obtain ⟨AK, cK, rfl⟩ := hk.shape
  rw [hkl] at CB ⊢
  obtain ⟨A, c, rfl⟩ := hr.shape
  obtain ⟨n, hnn⟩ : ∃ n, n = l.length := ⟨_, rfl⟩
  have HR : Hid (Bs w B (.slice A n c) l) := Lib.hid (by rw [hnn]; exact hr)
  rw [← hnn] at CB hn ⊢
  have HNN := Lib.hid hnn
  have CB := Lib.hid CB
  have hI1 : ¬ (65536 : Int) < (n : Int) := by omega
  clear hk hkl hr hnn
  go_enter Try.func21, Try.ntmps21
  go_wp2_with fail
  with_reducible refine (CB.out).mono ?_
  rintro e1 w1 ⟨u1, rfl, ho1, hb1⟩
  obtain ⟨A1, c1, rfl⟩ := ho1.shape
  rw [strL_len]
  have HO1 : Hid (Own w1 w.heap.size (.slice A1 n c1) (trP key l 0)) := Lib.hid (by rw [trP_zero, ← HNN.out]; rw [strL_len] at ho1; exact ho1)
  have HB1 := Lib.hid hb1
  clear ho1 hb1 CB
  go_wp2_with fail
  go_loopw [7] (fun i wr => ∃ k : Nat, k ≤ n ∧ i = .int .i64 k ∧ Hid (Own wr w.heap.size (.slice A1 n c1) (trP key l k)) ∧ Hid (Below w.heap.size w wr)) (fun i _ => n - (intOf i).toNat)
  case atStart => exact ⟨0, Nat.zero_le _, rfl, HO1, HB1⟩
  case round =>
    obtain ⟨k, hk, rfl, ho, hbe⟩ := hrel
    clear HO1 HB1
    by_cases hlt : k < n
    · have hI : (k : Int) < (n : Int) := by omega
      have hI0 : (0 : Int) ≤ (k : Int) := by omega
      have hlk : k < l.length := by rw [← HNN.out]; exact hlt
      obtain ⟨g, rfl, hg1, hg2, hcell, hfrz, hset⟩ := ho.out.at_ (j := k) (by rw [trP_len]; exact hlk)
      rw [trP_at key l hlk] at hcell
      have hlb := HR.out.below hbe.out hB
      obtain ⟨A', c', hv, _, _, h3⟩ := hlb
      simp only [Value.slice.injEq] at hv
      obtain ⟨rfl, hv1, hv2⟩ := hv
      clear hv1 hv2
      obtain ⟨b2, off2, rfl, _, hc2⟩ := h3 (by omega)
      have hcl := hc2 k hlk
      obtain ⟨x, hx⟩ : ∃ x, x = kb key k := ⟨_, rfl⟩
      obtain ⟨y, hy⟩ : ∃ y, y = l.getD k 0 := ⟨_, rfl⟩
      have hyl : l[k] = y := by rw [hy]; simp [hlk]
      rw [← hx] at hcell
      rw [hyl] at hcl
      have hxv : bits .xor .u8 (x.toNat : Int) (y.toNat : Int) = ((x ^^^ y).toNat : Int) := xor_val x y
      obtain ⟨z, hz⟩ : ∃ z, z = x ^^^ y := ⟨_, rfl⟩
      rw [← hz] at hxv
      have HS := Lib.hid (show Own (wr.setCell ⟨g, k, none⟩ (.int .u8 (z.toNat : Int))) w.heap.size (.slice (some ⟨g, 0, none⟩) n c1) (trP key l (k + 1)) by
        have h := hset z
        rw [hz, hx, hy, trP_set key l hlk, ← hy, ← hx, ← hz] at h
        exact h)
      have HBS := Lib.hid (hbe.out.setCell (p := ⟨g, k, none⟩) hg1 (.int .u8 (z.toNat : Int)))
      clear hset hx hy hyl hz ho hbe h3 hc2
      go_wp2_with fail
      go_still_tail 12, (by kernel_rfl)
      show wpList _ _ _ _ _ wr.drew
      go_wp2
      go_roundw
      case rel => exact ⟨k + 1, by omega, by go_num, HS, Lib.hid HBS.out.drew⟩
      case measure => simp [intOf]; omega
    · have hI : ¬ (k : Int) < (n : Int) := by omega
      have hke : k = l.length := by have := HNN.out; omega
      have HOE : Hid (Own wr w.heap.size (.slice A1 n c1) (trnL key 0 l)) := Lib.hid (by rw [← trP_end, ← hke]; exact ho.out)
      clear hke ho
      go_wp2
      go_ret2
      exact ⟨_, rfl, HOE.out, hbe.out⟩
theorem refturn_size {key : List UInt8} {vk v : Value} {w : World} {B : Nat} (hb : Bs w B vk key) (hk : key.length ≠ 32) (hm : key.length ≤ 281474976710656) :
    Calls Try.prog 21 #[vk, v] w fun e w' => e = .returned (.tuple #[.slice none 0 0, .int .i64 2]) ∧ w = w' := by
  obtain ⟨A, c, rfl⟩ := hb.shape
  obtain ⟨m, hmm⟩ : ∃ m, m = key.length := ⟨_, rfl⟩
  rw [← hmm] at hk hm ⊢
  have h0 : ¬ (m : Int) = 32 := by omega
  clear hb hk hmm
  go_enter Try.func21, Try.ntmps21
  go_wp2
  go_ret2
  exact ⟨rfl, rfl⟩
theorem refturn_bound {key l : List UInt8} {vk v : Value} {w : World} {B : Nat} (hb : Bs w B vk key) (hr : Bs w B v l) (hk : key.length = 32) (hl : 65536 < l.length) :
    Calls Try.prog 21 #[vk, v] w fun e w' => e = .returned (.tuple #[.slice none 0 0, .int .i64 11]) ∧ w = w' := by
  obtain ⟨A, c, rfl⟩ := hb.shape
  obtain ⟨A2, c2, rfl⟩ := hr.shape
  obtain ⟨m, hmm⟩ : ∃ m, m = l.length := ⟨_, rfl⟩
  rw [hk]
  rw [← hmm] at hl ⊢
  have h0 : (65536 : Int) < (m : Int) := by omega
  clear hb hk hmm hr
  go_enter Try.func21, Try.ntmps21
  go_wp2
  go_ret2
  exact ⟨rfl, rfl⟩
end Go.Proofs.Ythgdficgjldobaa
