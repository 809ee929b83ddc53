/- awake of the law of tape. -/
import Derived.Test.YtlheekbbioajpabT10
namespace Go.Proofs.Ytlheekbbioajpab
open Go.RowKit

theorem drew_grew {w w' : World} (h : Drew w w') (r : Option Nat) : w.grownBy w' r := by
  obtain ⟨n, rfl⟩ := h
  exact ⟨rfl, rfl, rfl, Nat.le_refl _, fun _ _ _ => rfl⟩
theorem alloc_grew (w : World) (o : Obj) (r : Option Nat) : w.grownBy (w.alloc o) r := ⟨rfl, rfl, rfl, by simp, fun k hk _ => heap_alloc_old w o hk⟩

theorem Bs.grown {w w' : World} {B : Nat} {v : Value} {l : List UInt8} {r : Option Nat} (h : Bs w B v l) (hg : w.grownBy w' r) (hB : B ≤ w.heap.size) (hr : ∀ j, r = some j → B ≤ j) : Bs w' B v l := by
  obtain ⟨A, c, rfl, h1, h2, h3⟩ := h
  refine ⟨A, c, rfl, h1, h2, fun hp => ?_⟩
  obtain ⟨b, off, rfl, hlt, hc⟩ := h3 hp
  refine ⟨b, off, rfl, hlt, fun j hj => ?_⟩
  have e := hg.block b (by omega) (fun e => by have := hr b e.symm; omega)
  rw [← hc j hj]
  simp only [World.cell?, e]
/-- the cells of a clock as it begins -/
def zcl : List Value := List.replicate 130 (.int .i64 0)
theorem zclk_run (w : World) : (zeroValue 51).run Try.prog w = .ok (.agg zcl.toArray) w := by kernel_rfl
theorem Clk.zero (w : World) : Clk (w.alloc (.cells zcl.toArray 51)) w.heap.size 51 0 zcl 0 [] :=
  { heap := heap_alloc_new w _, room := by simp [zcl], len := by simp, now := by simp [zcl], cnt := by simp [zcl], tim := fun i hi => absurd hi (by simp), int := fun i hi => ⟨0, by simp only [zcl]; rw [List.getElem?_replicate, if_pos (by omega)]⟩ }

set_option maxRecDepth 100000 in
set_option maxHeartbeats 4000000 in
theorem awake_any (w : World) : Calls Try.prog 7 #[] w fun e w' => e = .returned (.bool true) ∧ Below w.heap.size w w' := by
  have q0 : Bs (w.alloc (.cells #[.int .u8 1, .int .u8 2, .int .u8 3] 5)) (w.heap.size + 1) (.slice (some ⟨w.heap.size, 0, none⟩) 3 3) [1, 2, 3] := Bs.lit w [1, 2, 3] (by unfold maxLen; simp)
  have C0 := Lib.hid (newtape_any q0 (by simp) (by simp))
  have hb0 : Below w.heap.size w (w.alloc (.cells #[.int .u8 1, .int .u8 2, .int .u8 3] 5)) := (Below.refl _ _).alloc (Nat.le_refl _) _
  clear q0
  go_enter Try.func7, Try.ntmps7
  go_wp2_with fail
  refine (C0.out).mono ?_
  rintro e w1 ⟨g, rfl, hcu1, hbb1⟩
  have hb1 := hb0.trans (hbb1.mono hb0.size)
  have hz1 := hb1.size
  have C1 := Lib.hid (draw_ok (N := 2) hcu1 (by simp) (by simp))
  have hgg : w.heap.size ≤ g := by obtain ⟨_, _, h, _⟩ := hcu1; simp at h; omega
  have HGG := Lib.hid hgg
  clear hcu1 hbb1 hb0 C0 hgg
  go_wp2_with fail
  refine (C1.out).mono ?_
  rintro e w2 ⟨u2, rfl, ho2, hcu2, hgr2⟩
  have hb2 : Below w.heap.size w w2 := hb1.grown hgr2 hz1 (fun k hk => by simp only [Option.some.injEq] at hk; subst hk; exact HGG.out)
  have hz2 := hb2.size
  have HO2 : Hid (Bs w2 w2.heap.size u2 [1, 2]) := Lib.hid ho2.bs; have HCU2 := Lib.hid hcu2; have HB2 := Lib.hid hb2
  have HE : Hid (w1.heap.size ≤ w2.heap.size) := Lib.hid (by obtain ⟨_, _, _, _, h, _⟩ := hcu2; exact h)
  obtain ⟨A2, c2, rfl⟩ := ho2.shape
  clear ho2 hcu2 hgr2 C1 hb1 hz1 hb2
  have hzr := zclk_run
  have hck := Clk.zero w2
  have hzs : (w2.alloc (.cells zcl.toArray 51)).heap.size = w2.heap.size + 1 := by simp
  have C2 := Lib.hid (set_ok (after := 5) (what := 7) hck (by omega) (by omega) (by simp))
  have HCU3 := Lib.hid (HCU2.out.grown (alloc_grew w2 (.cells zcl.toArray 51) none) (by simp))
  have HO3 := Lib.hid (HO2.out.alloc (Nat.le_refl _) (.cells zcl.toArray 51))
  have HB3 := Lib.hid (HB2.out.alloc hz2 (.cells zcl.toArray 51))
  have hwr : wrap64 (0 + 5) = 5 := by unfold wrap64; omega
  rw [hwr] at C2
  have HZS := Lib.hid hzs
  clear hck hzs hwr HCU2 HO2 HB2
  go_wp2_with fail
  refine (C2.out).mono ?_
  rintro e w4 ⟨rfl, cs4, hk4, hl4, hs4, hg4⟩
  have hfm : FirstMin ([] ++ [((5 : Int), (7 : Int))]) ([] ++ [((5 : Int), (7 : Int))]).length 0 := ⟨fun _ => rfl, fun _ => ⟨by simp, fun j hj h h' => by simp at h; subst h; simp, fun j hj => absurd hj (by omega)⟩⟩
  have C3 := Lib.hid (due_yes (u := 9) (x := 5) (y := 7) hk4 hfm (by simp) rfl rfl (by omega))
  have HCU4 := Lib.hid (HCU3.out.grown hg4 (fun j hj => .inr (by simp only [Option.some.injEq] at hj; subst hj; exact HE.out)))
  have hlt4 : w2.heap.size < w4.heap.size := hk4.lt
  have ho4 := HO3.out.grown hg4 (alloc_le0 w2 _) (fun j hj => by simp only [Option.some.injEq] at hj; omega)
  have HO4 := Lib.hid ho4
  have HB4 := Lib.hid (HB3.out.grown hg4 HB3.out.size (fun j hj => by simp only [Option.some.injEq] at hj; subst hj; exact hz2))
  clear hk4 hl4 hs4 hg4 hfm ho4 C2 HCU3 HO3 HB3 hzr
  go_wp2_with fail
  refine (C3.out).mono ?_
  rintro e w5 ⟨rfl, cs5, hk5, hl5, hs5, hg5⟩
  have hcu5 := HCU4.out.grown hg5 (fun j hj => .inr (by simp only [Option.some.injEq] at hj; subst hj; exact HE.out))
  have ho5 := HO4.out.grown hg5 (Nat.le_of_lt hlt4) (fun j hj => by simp only [Option.some.injEq] at hj; omega)
  have hb5 := HB4.out.grown hg5 HB4.out.size (fun j hj => by simp only [Option.some.injEq] at hj; subst hj; exact hz2)
  have hz5 := hb5.size
  have hlt5 : w2.heap.size < w5.heap.size := hk5.lt
  have p5 : Bs (w5.alloc (.cells #[.int .u8 1, .int .u8 2] 5)) (w5.heap.size + 1) (.slice (some ⟨w5.heap.size, 0, none⟩) 2 2) [1, 2] := Bs.lit w5 [1, 2] (by unfold maxLen; simp)
  have c4 := equal_any (ho5.alloc (Nat.le_of_lt hlt5) (.cells #[.int .u8 1, .int .u8 2] 5)) p5
  rw [show decide (([1, 2] : List UInt8) = [1, 2]) = true by decide] at c4
  have C4 := Lib.hid c4
  have HCU5 := Lib.hid (hcu5.grown (alloc_grew w5 (.cells #[.int .u8 1, .int .u8 2] 5) none) (by simp))
  have HK5 := Lib.hid (hk5.grown (alloc_grew w5 (.cells #[.int .u8 1, .int .u8 2] 5) none) (by simp))
  have HB5 := Lib.hid (hb5.alloc hz5 (.cells #[.int .u8 1, .int .u8 2] 5))
  clear hk5 hl5 hs5 hg5 hcu5 ho5 hb5 p5 c4 C3 HCU4 HO4 HB4
  go_wp2_with fail
  refine (C4.out).mono ?_
  rintro e w6 ⟨rfl, hd6⟩
  have c5 := left_any (HCU5.out.grown (drew_grew hd6 none) (by simp)) (by simp) (by simp)
  rw [show ((([1, 2, 3] : List UInt8).length : Int) - ((0 + 2 : Nat) : Int)) = 1 by simp] at c5
  have C5 := Lib.hid c5
  have HK6 := Lib.hid (HK5.out.grown (drew_grew hd6 none) (by simp))
  have HB6 := Lib.hid (HB5.out.trans (hd6.below _))
  clear c5 hd6 C4 HCU5 HK5 HB5
  go_wp2_with fail
  refine (C5.out).mono ?_
  rintro e w7 ⟨rfl, hd7⟩
  have c6 := now_any (HK6.out.grown (drew_grew hd7 none) (by simp))
  rw [show (if (0 : Int) < 5 then (5 : Int) else 0) = 5 by decide] at c6
  have C6 := Lib.hid c6
  have HB7 := Lib.hid (HB6.out.trans (hd7.below _))
  clear c6 hd7 C5 HK6 HB6
  go_wp2_with fail
  refine (C6.out).mono ?_
  rintro e w8 ⟨rfl, rfl⟩
  go_wp2
  go_ret
  exact ⟨rfl, HB7.out⟩
end Go.Proofs.Ytlheekbbioajpab
