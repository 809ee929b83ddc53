/- Turn of chacha. -/
import Derived.Test.YtifgigpflfdmfaaC3
import Derived.Test.YtifgigpflfdmfaaXorC
namespace Go.Proofs.Ytifgigpflfdmfaa
open Go.RowKit

theorem grown_trans {a b c : World} {r : Option Nat} (h1 : a.grownBy b r) (h2 : b.grownBy c r) : a.grownBy c r := ⟨h2.os.trans h1.os, h2.tape.trans h1.tape, h2.output.trans h1.output, Nat.le_trans h1.size h2.size, fun k hk hne => (h2.block k (Nat.lt_of_lt_of_le hk h1.size) hne).trans (h1.block k hk hne)⟩
theorem bgrown {w w' : World} (h : Below w.heap.size w w') (r : Option Nat) : w.grownBy w' r := ⟨h.os, h.tape, h.output, h.size, fun k hk _ => h.block k hk⟩
/-- bytes turned by a key's stream from place d on -/
def trnL (key : List UInt8) (d : Nat) (l : List UInt8) : List UInt8 := (List.range l.length).map fun j => l.getD j 0 ^^^ kb key (d + j)
theorem trnL_len (key : List UInt8) (d : Nat) (l : List UInt8) : (trnL key d l).length = l.length := by simp [trnL]
theorem strL_at (key : List UInt8) (d : Nat) {n j : Nat} (h : j < n) : (strL key d n).getD j 0 = kb key (d + j) := by
  rw [List.getD_eq_getElem?_getD, List.getElem?_eq_getElem (by rw [strL_len]; exact h)]
  simp [strL]
theorem xor_turn (key : List UInt8) (d : Nat) (l : List UInt8) : xorE [l, strL key d l.length] = 0 ∧ xorR [l, strL key d l.length] = trnL key d l := by
  have hok : xorOk [l, strL key d l.length] := by
    intro x hx
    simp only [List.mem_cons, List.not_mem_nil, or_false] at hx
    rcases hx with rfl | rfl
    · rfl
    · rw [strL_len]; rfl
  refine ⟨by rw [xorE, if_pos hok], ?_⟩
  rw [xorR, if_pos hok, trnL]
  apply List.map_congr_left
  intro j hj
  have hj' : j < l.length := by simpa using hj
  show (0 ^^^ l.getD j 0) ^^^ (strL key d l.length).getD j 0 = _
  rw [strL_at key d hj', UInt8.zero_xor]
theorem trnL_back (key : List UInt8) (d : Nat) (l : List UInt8) : trnL key d (trnL key d l) = l := by
  apply List.ext_getElem
  · rw [trnL_len, trnL_len]
  · intro j h1 h2
    have e : (trnL key d l).getD j 0 = l[j] ^^^ kb key (d + j) := by
      rw [List.getD_eq_getElem?_getD, List.getElem?_eq_getElem (by rw [trnL_len]; exact h2)]
      simp [trnL, h2]
    have e2 : (trnL key d (trnL key d l))[j] = (trnL key d l).getD j 0 ^^^ kb key (d + j) := by simp [trnL]
    rw [e2, e, UInt8.xor_assoc, UInt8.xor_self, UInt8.xor_zero]

set_option maxRecDepth 100000 in
set_option maxHeartbeats 4000000 in
theorem hold_any {ls : List (List UInt8)} {v : Value} {w : World} {B R : Nat} (hr : Rs w B v ls) (hR : R ≤ 65536) :
    Calls Try.prog 48 #[.int .i64 (R : Int), v] w fun e w' => e = .returned (.bool (decide (ls.flatten.length ≤ R))) ∧ w = w' := by
  obtain ⟨A, c, rfl, h1, h2, h3⟩ := hr
  have H3 := Lib.hid h3; clear h3
  unfold maxLen at h2
  obtain ⟨N, hN⟩ : ∃ N, N = ls.flatten.length := ⟨_, rfl⟩
  obtain ⟨a, ha⟩ : ∃ a : Bool, a = decide (N ≤ R) := ⟨_, rfl⟩
  rw [← hN, ← ha]
  have HN := Lib.hid hN; have HA := Lib.hid ha
  clear hN ha
  go_enter Try.func48, Try.ntmps48
  go_wp2
  go_loop [0, 6, 9] (fun s _ i => ∃ k : Nat, k ≤ ls.length ∧ i = .int .i64 k ∧ (preL ls k).length ≤ R ∧ s = .int .i64 ((R : Int) - ((preL ls k).length : Int))) (fun _ _ i => ls.length - (intOf i).toNat)
  case atStart => exact ⟨0, Nat.zero_le _, rfl, by simp [preL], by simp [preL]⟩
  case round =>
    obtain ⟨k, hk, rfl, hle, rfl⟩ := hrel
    by_cases hlt : k < ls.length
    · obtain ⟨b, off, rfl, hbB, hc⟩ := H3.out (by omega)
      obtain ⟨u, hu, A2, c2, rfl, g1, g2, _⟩ := hc k hlt
      clear hc
      have hp := preL_len ls hlt
      have hp1 := preL_le ls (k + 1)
      obtain ⟨m, hm⟩ : ∃ m, m = ls[k].length := ⟨_, rfl⟩
      obtain ⟨p, hpp⟩ : ∃ p, p = (preL ls k).length := ⟨_, rfl⟩
      rw [← hm, ← hpp] at hp
      rw [← hm] at hu g1
      rw [← hpp] at hle ⊢
      have HP := Lib.hid hp
      by_cases hfit : m ≤ R - p
      · have hI : ¬ (R : Int) - (p : Int) < (m : Int) := by omega
        clear hp hp1 hm hpp
        go_wp2
        go_round
        case rel => exact ⟨k + 1, by omega, by go_num, by rw [HP.out]; omega, by rw [HP.out]; go_num⟩
        case measure => simp [intOf]; omega
      · have hI : (R : Int) - (p : Int) < (m : Int) := by omega
        have haf : a = false := by rw [HA.out, HN.out]; exact decide_eq_false (by omega)
        clear hp hp1 hm hpp
        go_wp2
        go_ret
        exact ⟨rfl, rfl⟩
    · have hp := preL_end ls (k := k) (by omega)
      have hat : a = true := by rw [HA.out, HN.out, ← hp]; exact decide_eq_true hle
      clear hp
      go_wp2
      go_ret
      exact ⟨rfl, rfl⟩
/-- what Turn leaves: its answer in memory of its own, and the flow that many bytes on -/
def Turned (w w' : World) (g : Nat) (T : TypeId) (ex : List Value) (key : List UInt8) (d : Nat) (l : List UInt8) (u : Value) : Prop :=
  Own w' w.heap.size u (trnL key d l) ∧ Flw w' g T ex key (d + l.length) ∧ w.grownBy w' (some g)
set_option maxRecDepth 100000 in
set_option maxHeartbeats 4000000 in
theorem fturn_ok {ls : List (List UInt8)} {v : Value} {w : World} {B g d : Nat} {T : TypeId} {ex : List Value} {key : List UInt8} (h : Flw w g T ex key d) (hr : Rs w B v ls) (hB : B ≤ w.heap.size) (hn : d + ls.flatten.length ≤ 65536) :
    Calls Try.prog 16 #[.pointer (some ⟨g, 0, none⟩), v] w fun e w' => ∃ u, e = .returned (.tuple #[u, .int .i64 0]) ∧ Turned w w' g T ex key d ls.flatten u := by
  have CL := Lib.hid (left_any h (by omega))
  have CH := hold_any (R := 65536 - d) hr (by omega)
  rw [show ((65536 - d : Nat) : Int) = 65536 - (d : Int) by omega, decide_eq_true (show ls.flatten.length ≤ 65536 - d by omega)] at CH
  have CH := Lib.hid CH
  have CJ := join_any hr hB (by omega)
  obtain ⟨l, hl⟩ : ∃ l, l = ls.flatten := ⟨_, rfl⟩
  rw [← hl] at CJ hn ⊢
  obtain ⟨n, hnn⟩ : ∃ n, n = l.length := ⟨_, rfl⟩
  rw [← hnn] at hn
  have CJ := Lib.hid CJ
  have HF := Lib.hid h
  have hgl := h.lt
  have HNN := Lib.hid hnn
  obtain ⟨A, c, rfl, _, _, _⟩ := hr
  clear h hl hnn
  go_enter Try.func16, Try.ntmps16
  go_wp2_with fail
  with_reducible refine (CL.out).mono ?_
  rintro e1 w1 ⟨rfl, rfl⟩
  go_wp2_with fail
  with_reducible refine (CH.out).mono ?_
  rintro e2 w2 ⟨rfl, rfl⟩
  clear CL CH
  go_wp2_with fail
  with_reducible refine (CJ.out).mono ?_
  rintro e3 w3 ⟨u3, rfl, ho3, hb3⟩
  obtain ⟨A3, c3, rfl⟩ := ho3.shape
  rw [← HNN.out] at ho3 ⊢
  have hf3 := HF.out.below hb3 hgl
  have CN := Lib.hid (next_ok hf3 (n := n) (by omega))
  have HO3 := Lib.hid ho3
  have HG3 := Lib.hid (bgrown hb3 (some g))
  have hz3 := hb3.size
  have hgne : ∀ j, (Value.slice A3 n c3).ownBlock = some j → w.heap.size ≤ j := fun j hj => (World.ownsRow.lt ho3 j hj).1
  have HGN := Lib.hid hgne
  clear ho3 hb3 hf3 CJ hgne
  go_wp2_with fail
  with_reducible refine (CN.out).mono ?_
  rintro e4 w4 ⟨u4, rfl, ho4, hf4, hg4⟩
  obtain ⟨A4, c4, rfl⟩ := ho4.shape
  rw [strL_len]
  have HO34 : Hid (Own w4 w.heap.size (.slice A3 n c3) l) := Lib.hid (HO3.out.kept hg4 (by
    rcases hv : (Value.slice A3 n c3).ownBlock with _ | j
    · exact .inl rfl
    · right
      intro e2
      have := HGN.out j hv
      simp only [Option.some.injEq] at e2
      omega))
  have HO4 : Hid (Own w4 w3.heap.size (.slice A4 n c4) (strL key d n)) := Lib.hid (by rw [strL_len] at ho4; exact ho4)
  have HF4 := Lib.hid hf4
  have HG4 := Lib.hid (grown_trans HG3.out hg4)
  have hz4 := HG4.out.size
  clear ho4 hf4 hg4 CN HO3 HG3 HGN
  have hr4 : Rs (w4.alloc (.cells #[.slice A3 n c3, .slice A4 n c4] 22)) (w4.heap.size + 1) (.slice (some ⟨w4.heap.size, 0, none⟩) 2 2) [l, strL key d n] := Rs.lit w4 [.slice A3 n c3, .slice A4 n c4] [l, strL key d n] rfl (by unfold maxLen; simp) (by
    intro j h1 h2
    rcases (by simp at h1; omega : j = 0 ∨ j = 1) with rfl | rfl
    · exact HO34.out.bs
    · exact HO4.out.bs)
  have CX := xor_all hr4 (by simp) (by
    intro x hx
    simp only [List.mem_cons, List.not_mem_nil, or_false] at hx
    rcases hx with rfl | rfl
    · have := HNN.out; omega
    · rw [strL_len]; omega)
  have hxt := xor_turn key d l
  rw [← HNN.out] at hxt
  rw [hxt.1, hxt.2] at CX
  have CX := Lib.hid CX
  have hal := (Below.refl w4.heap.size w4).alloc (Nat.le_refl _) (.cells #[.slice A3 n c3, .slice A4 n c4] 22)
  have HAL := Lib.hid hal
  clear hr4 hxt hal HO34 HO4
  go_wp2_with fail
  with_reducible refine (CX.out).mono ?_
  rintro e5 w5 ⟨u5, rfl, ho5, hb5⟩
  have hb45 := HAL.out.trans (hb5.mono HAL.out.size)
  have HO5 := Lib.hid (ho5.more (B' := w.heap.size) (by simp; omega))
  have HF5 := Lib.hid (HF4.out.below hb45 HF4.out.lt)
  have HG5 := Lib.hid (grown_trans HG4.out (bgrown hb45 (some g)))
  clear ho5 hb5 hb45 HF4 HG4 CX HAL
  go_wp2
  go_ret2
  exact ⟨_, rfl, HO5.out, by rw [← HNN.out]; exact HF5.out, HG5.out⟩
theorem fturn_no {ls : List (List UInt8)} {v : Value} {w : World} {B g d : Nat} {T : TypeId} {ex : List Value} {key : List UInt8} (h : Flw w g T ex key d) (hr : Rs w B v ls) (hd : d ≤ 65536) (hn : 65536 < d + ls.flatten.length) :
    Calls Try.prog 16 #[.pointer (some ⟨g, 0, none⟩), v] w fun e w' => e = .returned (.tuple #[.slice none 0 0, .int .i64 11]) ∧ w = w' := by
  have CL := Lib.hid (left_any h (by omega))
  have CH := hold_any (R := 65536 - d) hr (by omega)
  rw [show ((65536 - d : Nat) : Int) = 65536 - (d : Int) by omega, decide_eq_false (show ¬ ls.flatten.length ≤ 65536 - d by omega)] at CH
  have CH := Lib.hid CH
  obtain ⟨A, c, rfl, _, _, _⟩ := hr
  clear h hn
  go_enter Try.func16, Try.ntmps16
  go_wp2_with fail
  with_reducible refine (CL.out).mono ?_
  rintro e1 w1 ⟨rfl, rfl⟩
  go_wp2_with fail
  with_reducible refine (CH.out).mono ?_
  rintro e2 w2 ⟨rfl, rfl⟩
  clear CL CH
  go_wp2
  go_ret2
  exact ⟨rfl, rfl⟩
end Go.Proofs.Ytifgigpflfdmfaa
