/- The law TapeClocks, walked: a clock's timers come due as the reference's do. -/
import Derived.Test.YtlheekbbioajpabT11
namespace Go.Proofs.Ytlheekbbioajpab
open Go.RowKit

/-- the program's clock in block g and the reference's in block g + 1 tell the same -/
structure Both (w0 w : World) (g : Nat) (now : Int) (ts : List (Int × Int)) (cs : List Value) (v : Value) : Prop where
  clk : Clk w g 51 0 cs now ts
  ref : w.heap[g + 1]? = some (.cells #[.int .i64 now, v] 54 (0, 0))
  tim : P2 w (fun b => g + 1 < b) v (tv ts)
  bel : Below w0.heap.size w0 w
  own : w0.heap.size ≤ g
/-- .. where the reference's is written anew -/
structure Half (w0 w : World) (g : Nat) (now : Int) (ts : List (Int × Int)) (cs : List Value) (now2 : Int) (ts2 : List (Int × Int)) (v2 : Value) : Prop where
  clk : Clk w g 51 0 cs now ts
  ref : w.heap[g + 1]? = some (.cells #[.int .i64 now2, v2] 54 (0, 0))
  tim : P2 w (fun b => g + 1 < b) v2 (tv ts2)
  bel : Below w0.heap.size w0 w
  own : w0.heap.size ≤ g
theorem Both.alloc {w0 w : World} {g : Nat} {now : Int} {ts : List (Int × Int)} {cs : List Value} {v : Value} (h : Both w0 w g now ts cs v) (o : Obj) : Both w0 (w.alloc o) g now ts cs v :=
  ⟨h.clk.grown (alloc_grew w o none) (by simp), alloc_block w o h.ref, h.tim.al o, h.bel.alloc h.bel.size o, h.own⟩
theorem Both.lt {w0 w : World} {g : Nat} {now : Int} {ts : List (Int × Int)} {cs : List Value} {v : Value} (h : Both w0 w g now ts cs v) : g + 1 < w.heap.size := (Array.getElem?_eq_some_iff.1 h.ref).1
theorem Both.half {w0 w w2 : World} {g : Nat} {now now2 : Int} {ts ts2 : List (Int × Int)} {cs : List Value} {v v2 : Value} (h : Both w0 w g now ts cs v) (hb : Below w.heap.size w w2) (hv : P2 w2 (fun b => g + 1 < b) v2 (tv ts2)) :
    Half w0 ((w2.setCell ⟨g + 1, 0, none⟩ (.int .i64 now2)).setCell ⟨g + 1, 1, none⟩ v2) g now ts cs now2 ts2 v2 := by
  have hz := h.bel.size
  have ho := h.own
  refine ⟨((h.clk.grown (grown_of_below hb none) (by simp)).grown (set_grew w2 (g + 1) 0 _) (by simp)).grown (set_grew _ (g + 1) 1 _) (by simp), ?_, (hv.set (g + 1) 0 _ (fun b hb => by omega)).set (g + 1) 1 _ (fun b hb => by omega), below_set (below_set (h.bel.trans (hb.mono hz)) (by omega) 0 _) (by omega) 1 _, ho⟩
  have h1 := (hb.block (g + 1) h.lt).trans h.ref
  rw [heap_setCell_same _ (g + 1) 1 _ _ _ (heap_setCell_same w2 (g + 1) 0 _ _ _ h1)]
  rfl
theorem Half.both {w0 w w2 : World} {g : Nat} {now now2 : Int} {ts ts2 : List (Int × Int)} {cs : List Value} {v2 : Value} (h : Half w0 w g now ts cs now2 ts2 v2) (hc : ClkOut w g 51 0 cs now2 ts2 w2) : ∃ cs2, Both w0 w2 g now2 ts2 cs2 v2 := by
  obtain ⟨cs2, hk, _, _, hg⟩ := hc
  have ho := h.own
  exact ⟨cs2, hk, keep_block hg h.ref (by simp), h.tim.grown hg (fun b hb => by simp only [ne_eq, Option.some.injEq]; omega), h.bel.grown hg h.bel.size (fun j hj => by simp only [Option.some.injEq] at hj; omega), ho⟩
theorem Half.setArg {w0 w : World} {g : Nat} {now now2 after what : Int} {ts ts2 : List (Int × Int)} {cs : List Value} {v2 : Value} (_h : Half w0 w g now ts cs now2 ts2 v2) (hs : after < 0 ∨ 1000000 < after) :
    Calls Try.prog 19 #[.pointer (some ⟨g, 0, none⟩), .int .i64 after, .int .i64 what] w fun e w' => e = .returned (.int .i64 1) ∧ w = w' := set_arg hs
theorem Half.same {w0 w : World} {g : Nat} {now : Int} {ts : List (Int × Int)} {cs : List Value} {v2 : Value} (h : Half w0 w g now ts cs now ts v2) : Both w0 w g now ts cs v2 := ⟨h.clk, h.ref, h.tim, h.bel, h.own⟩
theorem Both.below {w0 w w2 : World} {g : Nat} {now : Int} {ts : List (Int × Int)} {cs : List Value} {v : Value} (h : Both w0 w g now ts cs v) (hb : Below w.heap.size w w2) : Both w0 w2 g now ts cs v :=
  ⟨h.clk.grown (grown_of_below hb none) (by simp), (hb.block (g + 1) h.lt).trans h.ref, h.tim.below hb (Nat.le_refl _), h.bel.trans (hb.mono h.bel.size), h.own⟩
theorem Both.drewN {w0 w : World} {g : Nat} {now : Int} {ts : List (Int × Int)} {cs : List Value} {v : Value} (h : Both w0 w g now ts cs v) (n : Nat) : Both w0 (w.drewN n) g now ts cs v := h.below (below_drewN (Below.refl _ _) n)
theorem Both.nowC {w0 w : World} {g : Nat} {now : Int} {ts : List (Int × Int)} {cs : List Value} {v : Value} (h : Both w0 w g now ts cs v) (n : Nat) :
    Calls Try.prog 24 #[.pointer (some ⟨g, 0, none⟩)] (w.drewN n) fun e w' => e = .returned (.int .i64 now) ∧ Drew (w.drewN n) w' :=
  (now_any (h.drewN n).clk).mono fun _ _ ⟨h1, h2⟩ => ⟨h1, h2 ▸ Drew.refl _⟩
theorem Both.waitC {w0 w : World} {g : Nat} {now : Int} {ts : List (Int × Int)} {cs : List Value} {v : Value} (h : Both w0 w g now ts cs v) (n : Nat) :
    Calls Try.prog 25 #[.pointer (some ⟨g, 0, none⟩)] (w.drewN n) fun e w' => e = .returned (.int .i64 (ts.length : Int)) ∧ Drew (w.drewN n) w' :=
  (waiting_any (h.drewN n).clk).mono fun _ _ ⟨h1, h2⟩ => ⟨h1, h2 ▸ Drew.refl _⟩
theorem far2 {w : World} {g H i : Nat} {x y : Value} (h : g ≠ H) : ((w.setCell ⟨g, 0, none⟩ x).setCell ⟨g, 1, none⟩ y).cell? ⟨H, i, none⟩ = w.cell? ⟨H, i, none⟩ :=
  (World.cell?_setCell_far _ _ _ _ h).trans (World.cell?_setCell_far _ _ _ _ h)
theorem P2.lenN {w : World} {S : Nat → Prop} {v : Value} {ts : List (Int × Int)} (h : P2 w S v (tv ts)) : ∃ A c, v = .slice A ts.length c := by
  obtain ⟨A, c, hv⟩ := h.shape
  rw [tv_len] at hv
  exact ⟨A, c, hv⟩

set_option maxRecDepth 100000 in
set_option maxHeartbeats 16000000 in
theorem clocks_walk {xs : List (List Int)} {u : Value} {w : World} (hx : Ss w w.heap.size u 3 xs) :
    Calls Try.prog 4 #[u] w fun e w' => e = .returned (.bool true) ∧ Below w.heap.size w w' := by
  have C0 := Lib.hid (awake_any w)
  obtain ⟨A, c, rfl, h1, h2, h3⟩ := hx
  have H3 := Lib.hid h3; clear h3
  unfold maxLen at h2
  go_enter Try.func4, Try.ntmps4
  go_wp2_with fail
  refine (C0.out).mono ?_
  rintro e w1 ⟨rfl, hb1⟩
  have hz1 := hb1.size
  have hzr := zclk_run
  have hzs : (w1.alloc (.cells zcl.toArray 51)).heap.size = w1.heap.size + 1 := by simp
  have hbo : Both w ((w1.alloc (.cells zcl.toArray 51)).alloc (.cells #[.int .i64 0, .slice none 0 0] 54)) w1.heap.size 0 [] zcl (.slice none 0 0) := by
    refine ⟨(Clk.zero w1).grown (alloc_grew _ _ none) (by simp), ?_, P2.nil _ _, (hb1.alloc hz1 _).alloc (by rw [hzs]; omega) _, hz1⟩
    have := heap_alloc_new (w1.alloc (.cells zcl.toArray 51)) (.cells #[.int .i64 0, .slice none 0 0] 54)
    rwa [hzs] at this
  have HBO := Lib.hid hbo
  clear hbo hzs C0
  go_wp2_with fail
  clear hzr hz1 hb1
  obtain ⟨g, hg⟩ : ∃ g, g = w1.heap.size := ⟨_, rfl⟩
  rw [← hg] at HBO ⊢
  generalize (w1.alloc (.cells zcl.toArray 51)).alloc (.cells #[.int .i64 0, .slice none 0 0] 54) = W1 at HBO ⊢
  clear hg w1
  go_loopw [16] (fun i wr => ∃ (k : Nat) (now : Int) (ts : List (Int × Int)) (cs : List Value) (v : Value), k ≤ xs.length ∧ i = .int .i64 k ∧ Hid (Both w wr g now ts cs v)) (fun i _ => xs.length - (intOf i).toNat)
  case atStart => exact ⟨0, 0, [], _, _, Nat.zero_le _, rfl, HBO⟩
  case round =>
    obtain ⟨k, now, ts, cs, v, hk, rfl, hbo⟩ := hrel
    clear HBO
    by_cases hlt : k < xs.length
    · obtain ⟨b0, off, rfl, hbB, hc⟩ := H3.out (by omega)
      obtain ⟨hf, hcc⟩ := hc k hlt
      obtain ⟨kd, a, b, hxk⟩ : ∃ kd a b, xs[k] = [kd, a, b] := by
        match hxk : xs[k], hf with
        | [kd, a, b], _ => exact ⟨kd, a, b, rfl⟩
      simp only [hxk] at hcc
      have g0 := (hbo.out.bel.cell (p := ⟨b0, off + k * 3 + 0, none⟩) (by show b0 < _; omega)).trans (hcc 0 (by simp)).1
      have g1 := (hbo.out.bel.cell (p := ⟨b0, off + k * 3 + 1, none⟩) (by show b0 < _; omega)).trans (hcc 1 (by simp)).1
      have g2 := (hbo.out.bel.cell (p := ⟨b0, off + k * 3 + 2, none⟩) (by show b0 < _; omega)).trans (hcc 2 (by simp)).1
      simp at g0 g1 g2
      clear hc hcc hxk hf
      have HA := Lib.hid (hbo.out.alloc (.cells #[.int .i64 kd, .int .i64 a, .int .i64 b] 56))
      obtain ⟨A8, c8, rfl⟩ := hbo.out.tim.lenN
      have hrr := HA.out.ref
      obtain ⟨r0, r1⟩ := two_cells hrr
      have s0 := frozen_of_row (wr.alloc (.cells #[.int .i64 kd, .int .i64 a, .int .i64 b] 56)) (g + 1) 0 _ _ hrr
      have s1 := frozen_of_row (wr.alloc (.cells #[.int .i64 kd, .int .i64 a, .int .i64 b] 56)) (g + 1) 1 _ _ hrr
      have hg1 : g + 1 ≠ wr.heap.size := Nat.ne_of_lt hbo.out.lt
      have HG1 := Lib.hid hg1
      clear hrr hbo hg1
      by_cases hk1 : kd = 1
      · have he1 : (kd == 1) = true := by rw [beq_iff_eq]; exact hk1
        clear hk1
        by_cases hs : a < 0 ∨ 1000000 < a
        · have CR := Lib.hid (rset_arg (w := wr.alloc (.cells #[.int .i64 kd, .int .i64 a, .int .i64 b] 56)) (now := now) (after := a) (what := b) (A := A8) (n := ts.length) (c := c8) hs)
          go_wp2_with fail
          with_reducible refine (CR.out).mono ?_
          rintro e w2 ⟨rfl, hb2⟩
          clear CR
          have hr2 := (hb2.block (g + 1) HA.out.lt).trans HA.out.ref
          have hq2 := (hb2.block wr.heap.size (by simp)).trans (heap_alloc_new wr (.cells #[.int .i64 kd, .int .i64 a, .int .i64 b] 56))
          obtain ⟨n0, n1⟩ := two_cells hr2
          have n2 := frozen_of_row w2 (g + 1) 0 _ _ hr2
          have n3 := frozen_of_row w2 (g + 1) 1 _ _ hr2
          have y1 : w2.cell? ⟨wr.heap.size, 1, none⟩ = some (.int .i64 a) := by rw [cell_of_row w2 _ _ _ _ _ hq2]; rfl
          have y2 : w2.cell? ⟨wr.heap.size, 2, none⟩ = some (.int .i64 b) := by rw [cell_of_row w2 _ _ _ _ _ hq2]; rfl
          have x1 := fun x y => (far2 (x := x) (y := y) HG1.out).trans y1
          have x2 := fun x y => (far2 (x := x) (y := y) HG1.out).trans y2
          clear hr2 hq2
          have hh := HA.out.half (now2 := now) hb2 (HA.out.tim.below hb2 (Nat.le_refl _))
          have CP := Lib.hid (hh.setArg (what := b) hs)
          have HHF := Lib.hid hh
          clear hh
          go_wp2_with fail
          with_reducible refine (CP.out).mono ?_
          rintro e w3 ⟨rfl, hw3⟩
          have HB := Lib.hid (hw3 ▸ HHF.out.same)
          clear hw3
          clear CP HHF
          have hr9 := HB.out.ref
          obtain ⟨m0, m1⟩ := two_cells hr9
          have QN := Lib.hid HB.out.nowC
          have QW := Lib.hid HB.out.waitC
          obtain ⟨nw, hnw⟩ : ∃ nw : Int, now = nw := ⟨_, rfl⟩
          obtain ⟨tl, htl⟩ : ∃ tl : Nat, (ts).length = tl := ⟨_, rfl⟩
          rw [htl] at m1 QW
          rw [hnw] at m0 QN
          have hne1 : (nw != nw) = false := by simp
          have hne2 : ((tl : Int) != (tl : Int)) = false := by simp
          clear hr9 hnw htl
          go_wp2_with fail
          go_quiet ((first | (go_at_call 24; exact Drew.quiet (QN.out _)) | (go_at_call 25; exact Drew.quiet (QW.out _))))
          go_wp2
          go_roundw
          case rel => exact ⟨k + 1, now, ts, _, _, by omega, by go_num, Lib.hid (HB.out.drewN _)⟩
          case measure => simp [intOf]; omega
        · have h0 : 0 ≤ a := by omega
          have h1 : a ≤ 1000000 := by omega
          by_cases hl : ts.length = 64
          · have HL := Lib.hid hl
            clear hl
            have CR := Lib.hid (rset_full (w := wr.alloc (.cells #[.int .i64 kd, .int .i64 a, .int .i64 b] 56)) (now := now) (after := a) (what := b) (A := A8) (n := ts.length) (c := c8) h0 h1 HL.out)
            go_wp2_with fail
            with_reducible refine (CR.out).mono ?_
            rintro e w2 ⟨rfl, hb2⟩
            clear CR
            have hr2 := (hb2.block (g + 1) HA.out.lt).trans HA.out.ref
            have hq2 := (hb2.block wr.heap.size (by simp)).trans (heap_alloc_new wr (.cells #[.int .i64 kd, .int .i64 a, .int .i64 b] 56))
            obtain ⟨n0, n1⟩ := two_cells hr2
            have n2 := frozen_of_row w2 (g + 1) 0 _ _ hr2
            have n3 := frozen_of_row w2 (g + 1) 1 _ _ hr2
            have y1 : w2.cell? ⟨wr.heap.size, 1, none⟩ = some (.int .i64 a) := by rw [cell_of_row w2 _ _ _ _ _ hq2]; rfl
            have y2 : w2.cell? ⟨wr.heap.size, 2, none⟩ = some (.int .i64 b) := by rw [cell_of_row w2 _ _ _ _ _ hq2]; rfl
            have x1 := fun x y => (far2 (x := x) (y := y) HG1.out).trans y1
            have x2 := fun x y => (far2 (x := x) (y := y) HG1.out).trans y2
            clear hr2 hq2
            have hh := HA.out.half (now2 := now) hb2 (HA.out.tim.below hb2 (Nat.le_refl _))
            have CP := Lib.hid (set_full (what := b) hh.clk h0 h1 HL.out)
            have HHF := Lib.hid hh
            clear hh
            go_wp2_with fail
            with_reducible refine (CP.out).mono ?_
            rintro e w3 ⟨rfl, hw3⟩
            have HB := Lib.hid (hw3 ▸ HHF.out.same)
            clear hw3
            clear CP HHF
            have hr9 := HB.out.ref
            obtain ⟨m0, m1⟩ := two_cells hr9
            have QN := Lib.hid HB.out.nowC
            have QW := Lib.hid HB.out.waitC
            obtain ⟨nw, hnw⟩ : ∃ nw : Int, now = nw := ⟨_, rfl⟩
            obtain ⟨tl, htl⟩ : ∃ tl : Nat, (ts).length = tl := ⟨_, rfl⟩
            rw [htl] at m1 QW
            rw [hnw] at m0 QN
            have hne1 : (nw != nw) = false := by simp
            have hne2 : ((tl : Int) != (tl : Int)) = false := by simp
            clear hr9 hnw htl
            go_wp2_with fail
            go_quiet ((first | (go_at_call 24; exact Drew.quiet (QN.out _)) | (go_at_call 25; exact Drew.quiet (QW.out _))))
            go_wp2
            go_roundw
            case rel => exact ⟨k + 1, now, ts, _, _, by omega, by go_num, Lib.hid (HB.out.drewN _)⟩
            case measure => simp [intOf]; omega
          · have hl64 := HA.out.clk.len
            have hl' : ts.length < 64 := by omega
            obtain ⟨ts2, hts2⟩ : ∃ ts2, ts ++ [(wrap64 (now + a), b)] = ts2 := ⟨_, rfl⟩
            have cr := rset_ok (now := now) (what := b) HA.out.tim h0 h1 hl'
            rw [hts2] at cr
            have HTS := Lib.hid hts2
            clear hts2
            have CR := Lib.hid (cr)
            go_wp2_with fail
            with_reducible refine (CR.out).mono ?_
            rintro e w2 ⟨v2, rfl, hp2, hb2⟩
            clear CR
            have hr2 := (hb2.block (g + 1) HA.out.lt).trans HA.out.ref
            have hq2 := (hb2.block wr.heap.size (by simp)).trans (heap_alloc_new wr (.cells #[.int .i64 kd, .int .i64 a, .int .i64 b] 56))
            obtain ⟨n0, n1⟩ := two_cells hr2
            have n2 := frozen_of_row w2 (g + 1) 0 _ _ hr2
            have n3 := frozen_of_row w2 (g + 1) 1 _ _ hr2
            have y1 : w2.cell? ⟨wr.heap.size, 1, none⟩ = some (.int .i64 a) := by rw [cell_of_row w2 _ _ _ _ _ hq2]; rfl
            have y2 : w2.cell? ⟨wr.heap.size, 2, none⟩ = some (.int .i64 b) := by rw [cell_of_row w2 _ _ _ _ _ hq2]; rfl
            have x1 := fun x y => (far2 (x := x) (y := y) HG1.out).trans y1
            have x2 := fun x y => (far2 (x := x) (y := y) HG1.out).trans y2
            clear hr2 hq2
            have hlt := HA.out.lt
            have hh := HA.out.half (now2 := now) hb2 (hp2.mono (fun b hb => by omega))
            obtain ⟨A7, c7, rfl⟩ := hp2.lenN
            clear hp2 hb2 hlt cr
            have CP := Lib.hid (HTS.out ▸ set_ok (what := b) hh.clk h0 h1 hl')
            have HHF := Lib.hid hh
            clear hh
            go_wp2_with fail
            with_reducible refine (CP.out).mono ?_
            rintro e w3 ⟨rfl, hco⟩
            obtain ⟨cs3, hbo⟩ := HHF.out.both hco
            have HB := Lib.hid hbo
            clear hco hbo
            clear CP HHF
            have hr9 := HB.out.ref
            obtain ⟨m0, m1⟩ := two_cells hr9
            have QN := Lib.hid HB.out.nowC
            have QW := Lib.hid HB.out.waitC
            obtain ⟨nw, hnw⟩ : ∃ nw : Int, now = nw := ⟨_, rfl⟩
            obtain ⟨tl, htl⟩ : ∃ tl : Nat, (ts2).length = tl := ⟨_, rfl⟩
            rw [htl] at m1 QW
            rw [hnw] at m0 QN
            have hne1 : (nw != nw) = false := by simp
            have hne2 : ((tl : Int) != (tl : Int)) = false := by simp
            clear hr9 hnw htl
            go_wp2_with fail
            go_quiet ((first | (go_at_call 24; exact Drew.quiet (QN.out _)) | (go_at_call 25; exact Drew.quiet (QW.out _))))
            go_wp2
            go_roundw
            case rel => exact ⟨k + 1, now, ts2, _, _, by omega, by go_num, Lib.hid (HB.out.drewN _)⟩
            case measure => simp [intOf]; omega
      · have he1 : (kd == 1) = false := by rw [beq_eq_false_iff_ne]; exact hk1
        clear hk1
        by_cases hk2 : kd = 2
        · have he2 : (kd == 2) = true := by rw [beq_iff_eq]; exact hk2
          clear hk2
          obtain ⟨m, hfm⟩ := FirstMin.ex ts
          by_cases hdn : ∀ h : m < ts.length, a < ts[m].1
          · have HDN := Lib.hid hdn
            have HFM := Lib.hid hfm
            clear hdn hfm
            have CR := Lib.hid (rdue_no (now := now) HA.out.tim HA.out.clk.len HFM.out HDN.out)
            go_wp2_with fail
            with_reducible refine (CR.out).mono ?_
            rintro e w2 ⟨rfl, hb2⟩
            clear CR
            have hr2 := (hb2.block (g + 1) HA.out.lt).trans HA.out.ref
            have hq2 := (hb2.block wr.heap.size (by simp)).trans (heap_alloc_new wr (.cells #[.int .i64 kd, .int .i64 a, .int .i64 b] 56))
            obtain ⟨n0, n1⟩ := two_cells hr2
            have n2 := frozen_of_row w2 (g + 1) 0 _ _ hr2
            have n3 := frozen_of_row w2 (g + 1) 1 _ _ hr2
            have y1 : w2.cell? ⟨wr.heap.size, 1, none⟩ = some (.int .i64 a) := by rw [cell_of_row w2 _ _ _ _ _ hq2]; rfl
            have y2 : w2.cell? ⟨wr.heap.size, 2, none⟩ = some (.int .i64 b) := by rw [cell_of_row w2 _ _ _ _ _ hq2]; rfl
            have x1 := fun x y => (far2 (x := x) (y := y) HG1.out).trans y1
            have x2 := fun x y => (far2 (x := x) (y := y) HG1.out).trans y2
            clear hr2 hq2
            have hh := HA.out.half (now2 := now) hb2 (HA.out.tim.below hb2 (Nat.le_refl _))
            have CP := Lib.hid (due_no hh.clk HFM.out HDN.out)
            have HHF := Lib.hid hh
            clear hh
            go_wp2_with fail
            with_reducible refine (CP.out).mono ?_
            rintro e w3 ⟨rfl, hb3⟩
            have HB := Lib.hid (HHF.out.same.below hb3)
            clear hb3
            clear CP HHF
            have hr9 := HB.out.ref
            obtain ⟨m0, m1⟩ := two_cells hr9
            have QN := Lib.hid HB.out.nowC
            have QW := Lib.hid HB.out.waitC
            obtain ⟨nw, hnw⟩ : ∃ nw : Int, now = nw := ⟨_, rfl⟩
            obtain ⟨tl, htl⟩ : ∃ tl : Nat, (ts).length = tl := ⟨_, rfl⟩
            rw [htl] at m1 QW
            rw [hnw] at m0 QN
            have hne1 : (nw != nw) = false := by simp
            have hne2 : ((tl : Int) != (tl : Int)) = false := by simp
            clear hr9 hnw htl
            go_wp2_with fail
            go_quiet ((first | (go_at_call 24; exact Drew.quiet (QN.out _)) | (go_at_call 25; exact Drew.quiet (QW.out _))))
            go_wp2
            go_roundw
            case rel => exact ⟨k + 1, now, ts, _, _, by omega, by go_num, Lib.hid (HB.out.drewN _)⟩
            case measure => simp [intOf]; omega
          · have hml : m < ts.length := by
              rcases Nat.lt_or_ge m ts.length with h | h
              · exact h
              · exact absurd (fun h' => absurd h' (Nat.not_lt.2 h)) hdn
            have hdl : ts[m].1 ≤ a := by
              rcases Int.lt_or_le a ts[m].1 with h | h
              · exact absurd (fun _ => h) hdn
              · exact h
            obtain ⟨x, hx⟩ : ∃ x, ts[m].1 = x := ⟨_, rfl⟩
            obtain ⟨y, hy⟩ : ∃ y, ts[m].2 = y := ⟨_, rfl⟩
            rw [hx] at hdl
            have HX := Lib.hid hx
            have HY := Lib.hid hy
            have HDL := Lib.hid hdl
            have HFM := Lib.hid hfm
            obtain ⟨nw2, hnw2⟩ : ∃ nw2, nw2 = mx now x := ⟨_, rfl⟩
            have HNW := Lib.hid hnw2
            clear hx hy hdl hfm hdn hnw2
            have CR := Lib.hid ((rdue_yes (now := now) HA.out.tim HA.out.clk.len HFM.out hml HX.out HY.out HDL.out))
            go_wp2_with fail
            with_reducible refine (CR.out).mono ?_
            rintro e w2 ⟨v2, rfl, hp2, hb2⟩
            clear CR
            have hr2 := (hb2.block (g + 1) HA.out.lt).trans HA.out.ref
            have hq2 := (hb2.block wr.heap.size (by simp)).trans (heap_alloc_new wr (.cells #[.int .i64 kd, .int .i64 a, .int .i64 b] 56))
            obtain ⟨n0, n1⟩ := two_cells hr2
            have n2 := frozen_of_row w2 (g + 1) 0 _ _ hr2
            have n3 := frozen_of_row w2 (g + 1) 1 _ _ hr2
            have y1 : w2.cell? ⟨wr.heap.size, 1, none⟩ = some (.int .i64 a) := by rw [cell_of_row w2 _ _ _ _ _ hq2]; rfl
            have y2 : w2.cell? ⟨wr.heap.size, 2, none⟩ = some (.int .i64 b) := by rw [cell_of_row w2 _ _ _ _ _ hq2]; rfl
            have x1 := fun x y => (far2 (x := x) (y := y) HG1.out).trans y1
            have x2 := fun x y => (far2 (x := x) (y := y) HG1.out).trans y2
            clear hr2 hq2
            have hlt := HA.out.lt
            have hh := HA.out.half (now2 := mx now x) hb2 (hp2.mono (fun b hb => by omega))
            obtain ⟨A7, c7, rfl⟩ := hp2.lenN
            clear hp2 hb2 hlt
            have CP := Lib.hid (due_yes hh.clk HFM.out hml HX.out HY.out HDL.out)
            have HHF := Lib.hid hh
            clear hh
            go_wp2_with fail
            with_reducible refine (CP.out).mono ?_
            rintro e w3 ⟨rfl, hco⟩
            obtain ⟨cs3, hbo⟩ := HHF.out.both hco
            have HB := Lib.hid hbo
            clear hco hbo
            clear CP HHF
            have hr9 := HB.out.ref
            obtain ⟨m0, m1⟩ := two_cells hr9
            have QN := Lib.hid HB.out.nowC
            have QW := Lib.hid HB.out.waitC
            obtain ⟨nw, hnw⟩ : ∃ nw : Int, (mx now x) = nw := ⟨_, rfl⟩
            obtain ⟨tl, htl⟩ : ∃ tl : Nat, ((ts.eraseIdx m)).length = tl := ⟨_, rfl⟩
            rw [htl] at m1 QW
            rw [hnw] at m0 QN
            have hne1 : (nw != nw) = false := by simp
            have hne2 : ((tl : Int) != (tl : Int)) = false := by simp
            clear hr9 hnw htl
            go_wp2_with fail
            go_quiet ((first | (go_at_call 24; exact Drew.quiet (QN.out _)) | (go_at_call 25; exact Drew.quiet (QW.out _))))
            go_wp2
            go_roundw
            case rel => exact ⟨k + 1, (mx now x), (ts.eraseIdx m), _, _, by omega, by go_num, Lib.hid (HB.out.drewN _)⟩
            case measure => simp [intOf]; omega
        · have he2 : (kd == 2) = false := by rw [beq_eq_false_iff_ne]; exact hk2
          clear hk2
          by_cases hk3 : kd = 3
          · have he3 : (kd == 3) = true := by rw [beq_iff_eq]; exact hk3
            clear hk3
            by_cases hs : a < now ∨ 1099511627776 < a
            · have CR := Lib.hid (rmove_arg (w := wr.alloc (.cells #[.int .i64 kd, .int .i64 a, .int .i64 b] 56)) (now := now) (to := a) (A := A8) (n := ts.length) (c := c8) hs)
              go_wp2_with fail
              with_reducible refine (CR.out).mono ?_
              rintro e w2 ⟨rfl, hb2⟩
              clear CR
              have hr2 := (hb2.block (g + 1) HA.out.lt).trans HA.out.ref
              have hq2 := (hb2.block wr.heap.size (by simp)).trans (heap_alloc_new wr (.cells #[.int .i64 kd, .int .i64 a, .int .i64 b] 56))
              obtain ⟨n0, n1⟩ := two_cells hr2
              have n2 := frozen_of_row w2 (g + 1) 0 _ _ hr2
              have n3 := frozen_of_row w2 (g + 1) 1 _ _ hr2
              have y1 : w2.cell? ⟨wr.heap.size, 1, none⟩ = some (.int .i64 a) := by rw [cell_of_row w2 _ _ _ _ _ hq2]; rfl
              have y2 : w2.cell? ⟨wr.heap.size, 2, none⟩ = some (.int .i64 b) := by rw [cell_of_row w2 _ _ _ _ _ hq2]; rfl
              have x1 := fun x y => (far2 (x := x) (y := y) HG1.out).trans y1
              have x2 := fun x y => (far2 (x := x) (y := y) HG1.out).trans y2
              clear hr2 hq2
              have hh := HA.out.half (now2 := now) hb2 (HA.out.tim.below hb2 (Nat.le_refl _))
              have CP := Lib.hid (move_arg hh.clk hs)
              have HHF := Lib.hid hh
              clear hh
              go_wp2_with fail
              with_reducible refine (CP.out).mono ?_
              rintro e w3 ⟨rfl, hw3⟩
              have HB := Lib.hid (hw3 ▸ HHF.out.same)
              clear hw3
              clear CP HHF
              have hr9 := HB.out.ref
              obtain ⟨m0, m1⟩ := two_cells hr9
              have QN := Lib.hid HB.out.nowC
              have QW := Lib.hid HB.out.waitC
              obtain ⟨nw, hnw⟩ : ∃ nw : Int, now = nw := ⟨_, rfl⟩
              obtain ⟨tl, htl⟩ : ∃ tl : Nat, (ts).length = tl := ⟨_, rfl⟩
              rw [htl] at m1 QW
              rw [hnw] at m0 QN
              have hne1 : (nw != nw) = false := by simp
              have hne2 : ((tl : Int) != (tl : Int)) = false := by simp
              clear hr9 hnw htl
              go_wp2_with fail
              go_quiet ((first | (go_at_call 24; exact Drew.quiet (QN.out _)) | (go_at_call 25; exact Drew.quiet (QW.out _))))
              go_wp2
              go_roundw
              case rel => exact ⟨k + 1, now, ts, _, _, by omega, by go_num, Lib.hid (HB.out.drewN _)⟩
              case measure => simp [intOf]; omega
            · have h0 : now ≤ a := by omega
              have h1 : a ≤ 1099511627776 := by omega
              have CR := Lib.hid (rmove_ok (w := wr.alloc (.cells #[.int .i64 kd, .int .i64 a, .int .i64 b] 56)) (now := now) (to := a) (A := A8) (n := ts.length) (c := c8) h0 h1)
              go_wp2_with fail
              with_reducible refine (CR.out).mono ?_
              rintro e w2 ⟨rfl, hb2⟩
              clear CR
              have hr2 := (hb2.block (g + 1) HA.out.lt).trans HA.out.ref
              have hq2 := (hb2.block wr.heap.size (by simp)).trans (heap_alloc_new wr (.cells #[.int .i64 kd, .int .i64 a, .int .i64 b] 56))
              obtain ⟨n0, n1⟩ := two_cells hr2
              have n2 := frozen_of_row w2 (g + 1) 0 _ _ hr2
              have n3 := frozen_of_row w2 (g + 1) 1 _ _ hr2
              have y1 : w2.cell? ⟨wr.heap.size, 1, none⟩ = some (.int .i64 a) := by rw [cell_of_row w2 _ _ _ _ _ hq2]; rfl
              have y2 : w2.cell? ⟨wr.heap.size, 2, none⟩ = some (.int .i64 b) := by rw [cell_of_row w2 _ _ _ _ _ hq2]; rfl
              have x1 := fun x y => (far2 (x := x) (y := y) HG1.out).trans y1
              have x2 := fun x y => (far2 (x := x) (y := y) HG1.out).trans y2
              clear hr2 hq2
              have hh := HA.out.half (now2 := a) hb2 (HA.out.tim.below hb2 (Nat.le_refl _))
              have CP := Lib.hid (move_ok hh.clk h0 h1)
              have HHF := Lib.hid hh
              clear hh
              go_wp2_with fail
              with_reducible refine (CP.out).mono ?_
              rintro e w3 ⟨rfl, hco⟩
              obtain ⟨cs3, hbo⟩ := HHF.out.both hco
              have HB := Lib.hid hbo
              clear hco hbo
              clear CP HHF
              have hr9 := HB.out.ref
              obtain ⟨m0, m1⟩ := two_cells hr9
              have QN := Lib.hid HB.out.nowC
              have QW := Lib.hid HB.out.waitC
              obtain ⟨nw, hnw⟩ : ∃ nw : Int, a = nw := ⟨_, rfl⟩
              obtain ⟨tl, htl⟩ : ∃ tl : Nat, (ts).length = tl := ⟨_, rfl⟩
              rw [htl] at m1 QW
              rw [hnw] at m0 QN
              have hne1 : (nw != nw) = false := by simp
              have hne2 : ((tl : Int) != (tl : Int)) = false := by simp
              clear hr9 hnw htl
              go_wp2_with fail
              go_quiet ((first | (go_at_call 24; exact Drew.quiet (QN.out _)) | (go_at_call 25; exact Drew.quiet (QW.out _))))
              go_wp2
              go_roundw
              case rel => exact ⟨k + 1, a, ts, _, _, by omega, by go_num, Lib.hid (HB.out.drewN _)⟩
              case measure => simp [intOf]; omega
          · have he3 : (kd == 3) = false := by rw [beq_eq_false_iff_ne]; exact hk3
            clear hk3
            have HB := HA
            go_wp2_with fail
            generalize wr.alloc (.cells #[.int .i64 kd, .int .i64 a, .int .i64 b] 56) = w3 at HB ⊢
            have hr9 := HB.out.ref
            obtain ⟨m0, m1⟩ := two_cells hr9
            have QN := Lib.hid HB.out.nowC
            have QW := Lib.hid HB.out.waitC
            obtain ⟨nw, hnw⟩ : ∃ nw : Int, now = nw := ⟨_, rfl⟩
            obtain ⟨tl, htl⟩ : ∃ tl : Nat, (ts).length = tl := ⟨_, rfl⟩
            rw [htl] at m1 QW
            rw [hnw] at m0 QN
            have hne1 : (nw != nw) = false := by simp
            have hne2 : ((tl : Int) != (tl : Int)) = false := by simp
            clear hr9 hnw htl
            go_wp2_with fail
            go_quiet ((first | (go_at_call 24; exact Drew.quiet (QN.out _)) | (go_at_call 25; exact Drew.quiet (QW.out _))))
            go_wp2
            go_roundw
            case rel => exact ⟨k + 1, now, ts, _, _, by omega, by go_num, Lib.hid (HB.out.drewN _)⟩
            case measure => simp [intOf]; omega
    · go_wp2
      go_ret
      exact ⟨rfl, hbo.out.bel⟩
end Go.Proofs.Ytlheekbbioajpab
