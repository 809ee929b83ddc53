/- Expand of the reference. -/
import Derived.Test.YtifgigpflfdmfaaX1
import Derived.Test.YtifgigpflfdmfaaCopyB
namespace Go.Proofs.Ytifgigpflfdmfaa
open Go.RowKit

theorem refexpand_arg {n : Int} {v u : Value} {w : World} (h : n < 0 ∨ 8160 < n) :
    Calls Try.prog 74 #[v, .int .i64 n, u] w fun e w' => e = .returned (.tuple #[.slice none 0 0, .int .i64 1]) ∧ w = w' := by
  by_cases h0 : n < 0
  · clear h
    go_enter Try.func74, Try.ntmps74
    go_wp2
    go_ret2
    exact ⟨rfl, rfl⟩
  · have h1 : 8160 < n := by omega
    have hd : decide (n < 0) = false := by simpa using h0
    clear h
    go_enter Try.func74, Try.ntmps74
    go_wp2
    go_ret2
    exact ⟨rfl, rfl⟩

set_option maxRecDepth 100000 in
set_option maxHeartbeats 16000000 in
theorem refexpand_ok {key info : List UInt8} {v u : Value} {w : World} {B B2 n : Nat} (hb : Bs w B v key) (hB : B ≤ w.heap.size) (hi : Bs w B2 u info) (hB2 : B2 ≤ w.heap.size) (hlen : key.length ≤ 140737488355128) (hlen2 : info.length ≤ 140737488354000) (hn : n ≤ 8160) :
    Calls Try.prog 74 #[v, .int .i64 (n : Int), u] w fun e w' => ∃ r, e = .returned (.tuple #[r, .int .i64 0]) ∧ Own w' w.heap.size r (expL key info n) ∧ Below w.heap.size w w' := by
  have HK := Lib.hid hb; have HI := Lib.hid hi
  obtain ⟨Ai, ci, rfl⟩ := hi.shape
  have hd : decide ((n : Int) < 0) = false := by simp
  have hd2 : decide ((8160 : Int) < (n : Int)) = false := by simp; omega
  clear hb hi
  go_enter Try.func74, Try.ntmps74
  go_wp2_with fail
  clear hd hd2
  go_loopw [8, 9, 10] (fun o l i wr => ∃ k : Nat, 32 * k < n + 32 ∧ i = .int .i64 ((k + 1 : Nat) : Int) ∧ Hid (Own wr w.heap.size o (okm key info k)) ∧ Hid (Bs wr wr.heap.size l (tagE key info k)) ∧ Hid (Below w.heap.size w wr)) (fun _ _ i _ => (n + 64) - 32 * (intOf i).toNat)
  case atStart => exact ⟨0, by omega, rfl, Lib.hid (Own.nil _ _), Lib.hid (Bs.nil _ _), Lib.hid (Below.refl _ _)⟩
  case round =>
    obtain ⟨k, hk, rfl, hown, hlast, hbe⟩ := hrel
    have hz := hbe.out.size
    obtain ⟨Ao, co, rfl⟩ : ∃ A c, u8 = .slice A (32 * k) c := by
      obtain ⟨A, c, h⟩ := hown.out.shape
      rw [okm_len] at h
      exact ⟨A, c, h⟩
    have ek : ((k + 1 : Nat) : Int) = (k : Int) + 1 := by omega
    rw [ek]
    clear ek
    by_cases hlt : 32 * k < n
    · have hd : decide (((32 * k : Nat) : Int) < (n : Int)) = true := by simp; omega
      obtain ⟨bt, hbt⟩ : ∃ bt : UInt8, bt = UInt8.ofNat (k + 1) := ⟨_, rfl⟩
      have hby : IntKind.u8.wrap ((k : Int) + 1) = (bt.toNat : Int) := by
        rw [hbt, IntKind.wrap_u8]
        simp
      have HBT := Lib.hid hbt
      have htl : (tagE key info k).length ≤ 32 := by
        cases k with
        | zero => simp [tagE]
        | succ k => rw [tagE_len]; exact Nat.le_refl _
      have HTL := Lib.hid htl
      have C0 := Lib.hid (copy_any hlast.out (Nat.le_refl _) (by omega))
      clear htl hbt
      go_wp2_with fail
      refine (C0.out).mono ?_
      rintro e w1 ⟨v1, rfl, ho1, hb1⟩
      have hz1 := hb1.size
      have HW1 := Lib.hid hb1
      have HI1 := Lib.hid ((HI.out.below hbe.out hB2).below hb1 (by omega))
      have HO1 := Lib.hid ho1
      clear ho1 C0 hlast hb1
      go_wp2_with (at_builtin; refine wpList_app rfl (.tmp 26) (.tmp 27) rfl rfl HO1.out rfl HI1.out (by have := HTL.out; omega) hz1 ?_)
      intro v2 w2 ho2 hg2 _
      have HW2 := Lib.hid (HW1.out.grown hg2 hz1 (fun j hj => (HO1.out.lt j hj).1))
      have hz2 := HW2.out.size
      have HO2 := Lib.hid (ho2.alloc (.cells #[.int .u8 (bt.toNat : Int)] 5))
      have HK2 := Lib.hid (Bs.one w2 bt)
      have HW3 := Lib.hid (HW2.out.alloc hz2 (.cells #[.int .u8 (bt.toNat : Int)] 5))
      have hl2 : (tagE key info k ++ info).length + [bt].length ≤ 140737488355328 := by have := HTL.out; simp only [List.length_append, List.length_cons, List.length_nil]; omega
      have HL2 := Lib.hid hl2
      clear ho2 hg2 HI1 HO1 hl2
      go_wp2_with (at_builtin; refine wpList_app rfl (.tmp 28) (.tmp 31) rfl rfl HO2.out rfl HK2.out HL2.out HW3.out.size ?_)
      intro v3 w3 ho3 hg3 _
      have HW4 := Lib.hid (HW3.out.grown hg3 HW3.out.size (fun j hj => (HO2.out.lt j hj).1))
      have hz4 := HW4.out.size
      obtain ⟨M, hM⟩ : ∃ M, M = tagE key info k ++ info ++ [bt] := ⟨_, rfl⟩
      replace ho3 : Own w3 wr.heap.size v3 M := by rw [hM]; first | exact ho3 | (rw [List.append_assoc]; exact ho3)
      have hml : M.length ≤ 140737488355000 := by rw [hM]; have := HTL.out; simp only [List.length_append, List.length_cons, List.length_nil]; omega
      have ct := refTag_any (key := key) ((HK.out.below hbe.out hB).below HW4.out (by omega)) (by omega) ho3.bs (Nat.le_refl _) hlen hml
      obtain ⟨us, hus⟩ : ∃ us : Array Value, us = ((tagE key info (k + 1)).map vb).toArray := ⟨_, rfl⟩
      have hte : tagL key M = tagE key info (k + 1) := by rw [hM, HBT.out]; rfl
      rw [hte] at ct
      have CT : Hid (Calls Try.prog 53 #[v, v3] w3 fun e w' => e = .returned (.agg us) ∧ Below w3.heap.size w3 w') := Lib.hid (by rw [hus]; exact ct)
      obtain ⟨A3, n3, c3, rfl⟩ : ∃ A n c, v3 = .slice A n c := by
        obtain ⟨A, c, h⟩ := ho3.shape
        exact ⟨A, _, c, h⟩
      have HUS := Lib.hid hus
      clear ho3 hg3 HO2 HK2 HW3 HW2 HW1 HL2 hM hml hte hus ct
      go_wp2_with fail
      with_reducible refine (CT.out).mono ?_
      rintro e w4 ⟨rfl, hb4⟩
      have HW5 := Lib.hid (HW4.out.trans (hb4.mono hz4))
      have hz5 := HW5.out.size
      have hsz : us.size = 32 := by rw [HUS.out]; simp [tagE_len]
      have hone : Hid (us.all (·.oneCell') = true) := by rw [HUS.out]; exact Lib.hid (one_bytes _)
      have hi : Hid ((Try.prog.info? 29).map (·.size) = some us.size) := by rw [hsz]; exact Lib.hid (by show _ = _; kernel_rfl)
      have ho : Hid ((#[.int .u8 0, .int .u8 0, .int .u8 0, .int .u8 0, .int .u8 0, .int .u8 0, .int .u8 0, .int .u8 0, .int .u8 0, .int .u8 0, .int .u8 0, .int .u8 0, .int .u8 0, .int .u8 0, .int .u8 0, .int .u8 0, .int .u8 0, .int .u8 0, .int .u8 0, .int .u8 0, .int .u8 0, .int .u8 0, .int .u8 0, .int .u8 0, .int .u8 0, .int .u8 0, .int .u8 0, .int .u8 0, .int .u8 0, .int .u8 0, .int .u8 0, .int .u8 0] : Array Value).size = us.size) := by rw [hsz]; exact Lib.hid (by show _ = _; rfl)
      have hzz : Hid ((w4.alloc (.cells #[.int .u8 0, .int .u8 0, .int .u8 0, .int .u8 0, .int .u8 0, .int .u8 0, .int .u8 0, .int .u8 0, .int .u8 0, .int .u8 0, .int .u8 0, .int .u8 0, .int .u8 0, .int .u8 0, .int .u8 0, .int .u8 0, .int .u8 0, .int .u8 0, .int .u8 0, .int .u8 0, .int .u8 0, .int .u8 0, .int .u8 0, .int .u8 0, .int .u8 0, .int .u8 0, .int .u8 0, .int .u8 0, .int .u8 0, .int .u8 0, .int .u8 0, .int .u8 0] 29)).heap[w4.heap.size]? = some (.cells #[.int .u8 0, .int .u8 0, .int .u8 0, .int .u8 0, .int .u8 0, .int .u8 0, .int .u8 0, .int .u8 0, .int .u8 0, .int .u8 0, .int .u8 0, .int .u8 0, .int .u8 0, .int .u8 0, .int .u8 0, .int .u8 0, .int .u8 0, .int .u8 0, .int .u8 0, .int .u8 0, .int .u8 0, .int .u8 0, .int .u8 0, .int .u8 0, .int .u8 0, .int .u8 0, .int .u8 0, .int .u8 0, .int .u8 0, .int .u8 0, .int .u8 0, .int .u8 0] 29 (0, 0))) := Lib.hid (heap_alloc_new w4 _)
      have cutI : ∀ W, (Instr.sliceAt 29 (.pointer (some ⟨w4.heap.size, 0, none⟩)) none none none).run Try.prog W = .ok (.slice (some ⟨w4.heap.size, 0, none⟩) 32 32) W := fun W => cut32_all W
      have hbw5 : Bw (w4.alloc (.cells us 29)) w4.heap.size 29 (tagE key info (k + 1)) := by
        have h := heap_alloc_new w4 (.cells us 29)
        rw [HUS.out] at h ⊢
        exact h
      have hbs5 := hbw5.bs (by rw [tagE_len]; unfold maxLen; omega)
      rw [tagE_len] at hbs5
      have C5 := Lib.hid (copy_any hbs5 (Nat.le_refl _) (by rw [tagE_len]; omega))
      have HW6 := Lib.hid (HW5.out.alloc hz5 (.cells us 29))
      clear hb4 hsz hbw5 hbs5 CT HW4
      go_wp2_with (first
        | ((with_reducible refine wpList_store_row rfl 29 (.tmp 12) (.tmp 35) rfl (w4.heap.size) us rfl rfl 29 _ hzz.out hi.out ho.out hone.out ?_); rw [World.setRow_alloc_new])
        | (go_at_call 21; refine (C5.out).mono ?_; rintro e w6 ⟨v6, rfl, ho6, hb6⟩; have HW7 := Lib.hid (HW6.out.trans (hb6.mono HW6.out.size)); have HO7 := Lib.hid (hown.out.below HW7.out (Nat.le_refl _)); have HO6 := Lib.hid ho6; obtain ⟨A6, c6, rfl⟩ : ∃ A c, v6 = .slice A 32 c := (by obtain ⟨A, c, h⟩ := ho6.shape; rw [tagE_len] at h; exact ⟨A, c, h⟩); clear ho6 hb6)
        | (at_builtin; refine wpList_app rfl (.tmp 38) (.tmp 39) rfl rfl HO7.out rfl HO6.out.bs (by rw [okm_len, tagE_len]; omega) (Nat.le_trans hz HW7.out.size) ?_; intro v7 w7 ho7 hg7 _))
      have hne : (Value.slice A6 32 c6).ownBlock = none ∨ (Value.slice A6 32 c6).ownBlock ≠ (Value.slice Ao (32 * k) co).ownBlock := by
        cases h6 : (Value.slice A6 32 c6).ownBlock with
        | none => exact .inl rfl
        | some a =>
          right
          intro e
          have h1 := (HO6.out.lt a h6).1
          have h2 := (hown.out.lt a e.symm).2
          rw [World.size_alloc] at h1
          omega
      have hbs7 := (HO6.out.kept hg7 hne).bs
      have hb7 := (hbe.out.trans (HW7.out.mono hz)).grown hg7 (Nat.le_trans hz HW7.out.size) (fun j hj => (HO7.out.lt j hj).1)
      have HBS7 := Lib.hid hbs7; have HB7 := Lib.hid hb7; have HO8 := Lib.hid ho7
      clear hne hbs7 hb7 ho7 hg7
      go_roundw
      case rel => exact ⟨k + 1, by omega, by go_num, HO8, HBS7, HB7⟩
      case measure => simp [intOf]; omega
    · have hd : decide (((32 * k : Nat) : Int) < (n : Int)) = false := by simp; omega
      obtain ⟨D, hD, hcut⟩ := cut_h (A := Ao) (n := 32 * k) (c := co) (h := n) (by
        obtain ⟨A', c', hv, h1, _⟩ := hown.out.bs
        simp only [Value.slice.injEq] at hv
        obtain ⟨_, _, rfl⟩ := hv
        rw [okm_len] at h1
        omega)
      have hbp : Bs wr wr.heap.size (.slice D n co) ((okm key info k).take n) := by
        obtain ⟨A', c', hv, h1, h2, h3⟩ := hown.out.bs
        simp only [Value.slice.injEq] at hv
        obtain ⟨rfl, _, rfl⟩ := hv
        have hl : ((okm key info k).take n).length = n := by rw [List.length_take, okm_len]; omega
        rw [okm_len] at h1
        refine ⟨D, co, by rw [hl], by rw [hl]; omega, h2, fun hp => ?_⟩
        rw [hl] at hp
        obtain ⟨b, off, rfl, hlt2, hc⟩ := h3 (by rw [okm_len]; omega)
        refine ⟨b, off, hD hp, hlt2, fun j hj => ?_⟩
        rw [hl] at hj
        rw [hc j (by rw [okm_len]; omega)]
        simp
      rw [expL_at key info (by omega)] at hbp
      have C9 := Lib.hid (copy_any hbp (Nat.le_refl _) (by rw [expL_len]; omega))
      clear hbp hD
      go_wp2_with fail
      refine (C9.out).mono ?_
      rintro e w9 ⟨v9, rfl, ho9, hb9⟩
      have HO9 := Lib.hid (ho9.more hz); have HB9 := Lib.hid (hbe.out.trans (hb9.mono hz))
      clear ho9 hb9 C9
      go_wp2
      go_ret2
      exact ⟨_, rfl, HO9.out, HB9.out⟩
end Go.Proofs.Ytifgigpflfdmfaa
