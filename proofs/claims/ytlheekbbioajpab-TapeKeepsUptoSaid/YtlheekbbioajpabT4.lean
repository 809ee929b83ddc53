/- The clock's Now, Waiting, Move and first. -/
import Derived.Test.YtlheekbbioajpabT3
namespace Go.Proofs.Ytlheekbbioajpab
open Go.RowKit

theorem now_any {w : World} {g o : Nat} {T : TypeId} {cs : List Value} {now : Int} {ts : List (Int × Int)} (h : Clk w g T o cs now ts) :
    Calls Try.prog 24 #[.pointer (some ⟨g, o, none⟩)] w fun e w' => e = .returned (.int .i64 now) ∧ w = w' := by
  have c1 : w.cell? ⟨g, o, none⟩ = some (.int .i64 now) := h.cell h.now
  clear h
  go_enter Try.func24, Try.ntmps24
  go_wp2
  go_ret
  exact ⟨rfl, rfl⟩
theorem waiting_any {w : World} {g o : Nat} {T : TypeId} {cs : List Value} {now : Int} {ts : List (Int × Int)} (h : Clk w g T o cs now ts) :
    Calls Try.prog 25 #[.pointer (some ⟨g, o, none⟩)] w fun e w' => e = .returned (.int .i64 (ts.length : Int)) ∧ w = w' := by
  have c0 : w.cell? ⟨g, o + 129, none⟩ = some (.int .i64 (ts.length : Int)) := h.cell h.cnt
  clear h
  go_enter Try.func25, Try.ntmps25
  go_wp2
  go_ret
  exact ⟨rfl, rfl⟩

theorem Clk.tick {w : World} {g o : Nat} {T : TypeId} {cs : List Value} {now : Int} {ts : List (Int × Int)} (h : Clk w g T o cs now ts) (to : Int) : ClkOut w g T o cs to ts (w.setCell ⟨g, o, none⟩ (.int .i64 to)) := by
  have hr := h.room
  refine ⟨_, ⟨heap_set h.heap _ _, by simpa using hr, h.len, ?_, ?_, ?_, ?_⟩, by simp, ?_, set_grew _ _ _ _⟩
  · rw [List.getElem?_set_self (by omega)]
  · rw [List.getElem?_set_ne (by omega)]; exact h.cnt
  · intro i hi; rw [List.getElem?_set_ne (by omega)]; exact h.tim i hi
  · intro i hi; rw [List.getElem?_set_ne (by omega)]; exact h.int i hi
  · intro i hi; rw [List.getElem?_set_ne (by omega)]

theorem move_arg {w : World} {g o : Nat} {T : TypeId} {cs : List Value} {now to : Int} {ts : List (Int × Int)} (h : Clk w g T o cs now ts) (ha : to < now ∨ 1099511627776 < to) :
    Calls Try.prog 23 #[.pointer (some ⟨g, o, none⟩), .int .i64 to] w fun e w' => e = .returned (.int .i64 1) ∧ w = w' := by
  have c1 : w.cell? ⟨g, o, none⟩ = some (.int .i64 now) := h.cell h.now
  clear h
  by_cases h0 : to < now
  · clear ha
    go_enter Try.func23, Try.ntmps23
    go_wp2
    go_ret
    exact ⟨rfl, rfl⟩
  · have h1 : 1099511627776 < to := by omega
    have hd : decide (to < now) = false := by simpa using h0
    clear ha
    go_enter Try.func23, Try.ntmps23
    go_wp2
    go_ret
    exact ⟨rfl, rfl⟩
theorem move_ok {w : World} {g o : Nat} {T : TypeId} {cs : List Value} {now to : Int} {ts : List (Int × Int)} (h : Clk w g T o cs now ts) (h0 : now ≤ to) (h1 : to ≤ 1099511627776) :
    Calls Try.prog 23 #[.pointer (some ⟨g, o, none⟩), .int .i64 to] w fun e w' => e = .returned (.int .i64 0) ∧ ClkOut w g T o cs to ts w' := by
  have c1 : w.cell? ⟨g, o, none⟩ = some (.int .i64 now) := h.cell h.now
  have f1 : w.frozen? ⟨g, o, none⟩ = false := frozen_of_row w g _ _ _ h.heap
  have HO := Lib.hid (h.tick to)
  have hd : decide (to < now) = false := by simpa using h0
  clear h
  go_enter Try.func23, Try.ntmps23
  go_wp2
  go_ret
  exact ⟨rfl, HO.out⟩

theorem grown_of_below {w w' : World} (hb : Below w.heap.size w w') (r : Option Nat) : w.grownBy w' r := ⟨hb.os, hb.tape, hb.output, hb.size, fun k hk _ => hb.block k hk⟩
theorem tarr : Try.prog.underlying 49 = some (.array (Try.prog.arrayLen 49) (Try.prog.elem 49)) := by kernel_rfl
theorem tlen : Try.prog.arrayLen 49 = 64 := by kernel_rfl
theorem telem : Try.prog.elem 49 = 48 := by kernel_rfl
theorem tsizeOf (W : World) : (sizeOf 48).run Try.prog W = .ok 2 W := by kernel_rfl
theorem tcut_h {g o n : Nat} (h : n ≤ 64) (W : World) : (Instr.sliceAt 49 (.pointer (some ⟨g, o, none⟩)) none (some (.int .i64 (n : Int))) none).run Try.prog W = .ok (.slice (some ⟨g, o, none⟩) n 64) W := by
  rw [run_sliceAt_array_h _ _ _ tarr _ _ (by omega) (by rw [tlen]; omega), telem, tsizeOf, tlen]
  simp [Result.andThen, slicedAt, Addr.add_lit]

set_option maxRecDepth 100000 in
set_option maxHeartbeats 4000000 in
theorem first_any {w : World} {g o m : Nat} {T : TypeId} {cs : List Value} {now : Int} {ts : List (Int × Int)} (h : Clk w g T o cs now ts) (hm : FirstMin ts ts.length m) :
    Calls Try.prog 38 #[.pointer (some ⟨g, o, none⟩)] w fun e w' => e = .returned (.tuple #[.int .i64 (m : Int), .bool (decide (0 < ts.length))]) ∧ Below w.heap.size w w' := by
  have hl := h.len
  have c0 : w.cell? ⟨g, o + 129, none⟩ = some (.int .i64 (ts.length : Int)) := h.cell h.cnt
  have hcut : ∀ W, (Instr.sliceAt 49 (.pointer (some ⟨g, o + 1, none⟩)) none (some (.int .i64 (ts.length : Int))) none).run Try.prog W = .ok (.slice (some ⟨g, o + 1, none⟩) ts.length 64) W := fun W => tcut_h hl W
  have HH := Lib.hid h; clear h
  have HM := Lib.hid hm; clear hm
  obtain ⟨n, hn⟩ : ∃ n, n = ts.length := ⟨_, rfl⟩
  have HN := Lib.hid hn
  rw [← hn] at hl c0 hcut ⊢
  clear hn
  go_enter Try.func38, Try.ntmps38
  go_wp2_with fail
  go_quiet (fail)
  clear hcut c0
  go_wp2_with fail
  go_loopw [4, 16] (fun l i wr => ∃ k q : Nat, k ≤ n ∧ i = .int .i64 k ∧ l = .int .i64 q ∧ Hid (FirstMin ts k q) ∧ Hid (Below w.heap.size w wr)) (fun _ i _ => n - (intOf i).toNat)
  case atStart => exact ⟨0, 0, Nat.zero_le _, rfl, rfl, FirstMin.start ts, below_drewN (Below.refl _ _) _⟩
  case round =>
    obtain ⟨k, q, hk, rfl, rfl, hfm, hbel⟩ := hrel
    have hcl := HH.out.grown (grown_of_below hbel.out none) (by simp)
    by_cases hlt : k < n
    · have hkt : k < ts.length := by rw [← HN.out]; exact hlt
      have hqt : q < ts.length := by
        rcases Nat.eq_zero_or_pos k with e | hp
        · rw [hfm.out.1 e]; omega
        · have := (hfm.out.2 hp).1; omega
      have k0 := hcl.at0 hkt
      have k1 := hcl.at1 hkt
      have q0 := hcl.at0 hqt
      have hgl := hcl.lt
      obtain ⟨x, hx⟩ : ∃ x, ts[k].1 = x := ⟨_, rfl⟩
      obtain ⟨y, hy⟩ : ∃ y, ts[q].1 = y := ⟨_, rfl⟩
      obtain ⟨z, hz⟩ : ∃ z, ts[k].2 = z := ⟨_, rfl⟩
      rw [hx] at k0
      rw [hy] at q0
      rw [hz] at k1
      have hq64 : (q : Int) < 64 := by have := HN.out; omega
      have hq0 : (0 : Int) ≤ (q : Int) := by omega
      have HX := Lib.hid hx; have HY := Lib.hid hy
      have HKT := Lib.hid hkt; have HQT := Lib.hid hqt
      have hbA : Below w.heap.size w (wr.alloc (.cells #[.int .i64 x, .int .i64 z] 48)) := hbel.out.alloc hbel.out.size _
      have q1 : (wr.alloc (.cells #[.int .i64 x, .int .i64 z] 48)).cell? ⟨g, o + 1 + q * 2, none⟩ = some (.int .i64 y) := by
        rw [← q0]
        exact ((Below.refl wr.heap.size wr).alloc (Nat.le_refl _) _).cell (p := ⟨g, o + 1 + q * 2, none⟩) hgl
      have HB := Lib.hid hbA
      clear hx hy hz hcl hbA
      by_cases hxy : x < y
      · go_wp2_with fail
        go_quiet (fail)
        go_wp2
        go_roundw
        case rel => exact ⟨k + 1, k, by omega, by go_num, rfl, hfm.out.take HKT.out HQT.out (by rw [HX.out, HY.out]; exact hxy), below_drewN HB.out _⟩
        case measure => simp [intOf]; omega
      · have hd : decide (x < y) = false := by simpa using hxy
        go_wp2_with fail
        go_quiet (fail)
        go_wp2
        go_roundw
        case rel => exact ⟨k + 1, q, by omega, by go_num, rfl, hfm.out.keep HKT.out HQT.out (by rw [HX.out, HY.out]; omega), below_drewN HB.out _⟩
        case measure => simp [intOf]; omega
    · obtain rfl : k = n := by omega
      have hmq : q = m := by
        have := HN.out
        exact (this ▸ hfm.out : FirstMin ts ts.length q).same HM.out
      subst hmq
      have c0 : wr.cell? ⟨g, o + 129, none⟩ = some (.int .i64 (k : Int)) := by
        have := hcl.cell hcl.cnt
        rwa [← HN.out] at this
      clear hcl
      have hdd : decide ((0 : Int) < (k : Int)) = decide (0 < k) := by simp
      go_wp2_with fail
      go_quiet (fail)
      go_wp2
      go_ret2
      exact ⟨rfl, below_drewN hbel.out _⟩
end Go.Proofs.Ytlheekbbioajpab
