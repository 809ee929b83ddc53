/- The reference's clock: Due, when a timer is due. -/
import Derived.Test.YtlheekbbioajpabT8
namespace Go.Proofs.Ytlheekbbioajpab
open Go.RowKit

/-- the later of two ticks -/
def mx (a b : Int) : Int := if a < b then b else a
def DueRes (w : World) (now : Int) (ts : List (Int × Int)) (y : Int) (e : Ending) (w' : World) : Prop :=
  ∃ v, e = .returned (.tuple #[.agg #[.int .i64 now, v], .int .i64 y, .bool true]) ∧ P2 w' (fun b => w.heap.size ≤ b) v (tv ts) ∧ Below w.heap.size w w'
set_option maxRecDepth 100000 in
set_option maxHeartbeats 16000000 in
theorem rdue_yes {w : World} {S : Nat → Prop} {v : Value} {ts : List (Int × Int)} {now u x y : Int} {m : Nat} (hv : P2 w S v (tv ts)) (hl : ts.length ≤ 64) (hf : FirstMin ts ts.length m) (hml : m < ts.length) (hx : ts[m].1 = x) (hy : ts[m].2 = y) (hu : x ≤ u) :
    Calls Try.prog 20 #[.agg #[.int .i64 now, v], .int .i64 u] w (DueRes w (mx now x) (ts.eraseIdx m) y) := by
  have HML := Lib.hid hml; have HXX := Lib.hid hx; have HYY := Lib.hid hy; have HU := Lib.hid hu
  clear hx hy hu
  obtain ⟨n, hnn⟩ : ∃ n, n = ts.length := ⟨_, rfl⟩
  have hn64 : n ≤ 64 := by omega
  have HV := Lib.hid hv
  have HF := Lib.hid hf
  have HNN := Lib.hid hnn
  obtain ⟨A, c, rfl⟩ : ∃ A c, v = .slice A n c := by
    obtain ⟨A, c, h⟩ := hv.shape
    rw [tv_len, ← hnn] at h
    exact ⟨A, c, h⟩
  have hb2 : Below w.heap.size w ((w.alloc (.cells #[.int .i64 now, .slice A n c] 54)).alloc (.cells #[.int .i64 0, .slice none 0 0] 54)) := ((Below.refl _ _).alloc (Nat.le_refl _) _).alloc (by simp) _
  have hv2 := HV.out.below hb2 (Nat.le_refl _)
  have hk0 : ((w.alloc (.cells #[.int .i64 now, .slice A n c] 54)).alloc (.cells #[.int .i64 0, .slice none 0 0] 54)).heap[w.heap.size]? = some (.cells #[.int .i64 now, .slice A n c] 54 (0, 0)) := alloc_block _ _ (heap_alloc_new w _)
  have hk1 : ((w.alloc (.cells #[.int .i64 now, .slice A n c] 54)).alloc (.cells #[.int .i64 0, .slice none 0 0] 54)).heap[w.heap.size + 1]? = some (.cells #[.int .i64 0, .slice none 0 0] 54 (0, 0)) := by
    have := heap_alloc_new (w.alloc (.cells #[.int .i64 now, .slice A n c] 54)) (.cells #[.int .i64 0, .slice none 0 0] 54)
    simpa using this
  have hz2 : ((w.alloc (.cells #[.int .i64 now, .slice A n c] 54)).alloc (.cells #[.int .i64 0, .slice none 0 0] 54)).heap.size = w.heap.size + 2 := by simp
  have HB2 := Lib.hid hb2; have HV2 := Lib.hid hv2; have HK0 := Lib.hid hk0; have HK1 := Lib.hid hk1; have HZ2 := Lib.hid hz2
  clear hb2 hv2 hk0 hk1 hz2 hv hf hnn
  go_enter Try.func20, Try.ntmps20
  go_wp2_with fail
  generalize hW : ((w.alloc (.cells #[.int .i64 now, .slice A n c] 54)).alloc (.cells #[.int .i64 0, .slice none 0 0] 54)) = W2 at *
  clear hW
  obtain ⟨d0, d1⟩ := two_cells HK0.out
  obtain ⟨r0, r1⟩ := two_cells HK1.out
  have r2 := frozen_of_row W2 (w.heap.size + 1) 0 _ _ HK1.out
  have r3 := frozen_of_row W2 (w.heap.size + 1) 1 _ _ HK1.out
  go_loopw [7, 8] (fun b i wr => ∃ (k : Nat) (bz : Int), k ≤ n ∧ i = .int .i64 ((k : Int) - 1) ∧ b = .int .i64 bz ∧ Hid (BestD ts u k bz) ∧ Hid (Drew W2 wr)) (fun _ i _ => (intOf i + 1).toNat)
  case atStart => exact ⟨n, -1, Nat.le_refl _, rfl, rfl, Lib.hid (HNN.out ▸ BestD.start ts u), Lib.hid (Drew.refl _)⟩
  case round =>
    obtain ⟨k, bz, hk, rfl, rfl, hbest, hdr⟩ := hrel
    obtain ⟨nd, rfl⟩ := hdr.out
    rcases Nat.eq_zero_or_pos k with rfl | hpos
    · have e0 : ((0 : Nat) : Int) - 1 = -1 := rfl
      rw [e0]
      clear e0
      obtain rfl := hbest.out.yes HF.out HML.out (by rw [HXX.out]; exact HU.out)
      have hm2 : m < ts.length := HML.out
      have hmn : m < n := by rw [HNN.out]; exact hm2
      have hmd : decide ((m : Int) < 0) = false := by simp
      obtain ⟨b, off, ⟨c', hsl⟩, hbs, hcell⟩ := HV2.out.cellsAt (by omega)
      simp only [Value.slice.injEq] at hsl
      obtain ⟨rfl, hjunk, rfl⟩ := hsl
      clear hjunk
      have hcell' : ∀ j (hj : j < ts.length), (W2.drewN nd).cell? ⟨b, off + j * 2, none⟩ = some (.int .i64 ts[j].1) ∧ (W2.drewN nd).cell? ⟨b, off + j * 2 + 1, none⟩ = some (.int .i64 ts[j].2) := hcell
      have HB3 := Lib.hid (below_drewN HB2.out nd)
      have HD0 : Hid ((W2.drewN nd).heap[w.heap.size]? = some (.cells #[.int .i64 now, .slice (some ⟨b, off, none⟩) n c] 54 (0, 0))) := Lib.hid HK0.out
      have HD1 : Hid ((W2.drewN nd).heap[w.heap.size + 1]? = some (.cells #[.int .i64 0, .slice none 0 0] 54 (0, 0))) := Lib.hid HK1.out
      have HZ3 : Hid ((W2.drewN nd).heap.size = w.heap.size + 2) := Lib.hid HZ2.out
      have hbs' : b < (W2.drewN nd).heap.size := hbs
      have kx := (hcell' m hm2).1
      have ky := (hcell' m hm2).2
      rw [HXX.out] at kx
      rw [HYY.out] at ky
      have d0' : (W2.drewN nd).cell? ⟨w.heap.size, 0, none⟩ = some (.int .i64 now) := d0
      have d1' : (W2.drewN nd).cell? ⟨w.heap.size, 1, none⟩ = some (.slice (some ⟨b, off, none⟩) n c) := d1
      have HC := Lib.hid hcell'
      have j0 : (0 : Int) ≤ (m : Int) := by omega
      have j1 : (m : Int) < (n : Int) := by omega
      clear hcell hcell' hbs d0 d1 r0 r1 r2 r3 HV2 HK0 HK1 HB2 HZ2 hdr
      generalize hW3 : W2.drewN nd = W3 at *
      clear hW3
      go_wp2_with fail
      have hb4 : Below w.heap.size w (W3.alloc (.cells #[.int .i64 x, .int .i64 y] 95)) := HB3.out.alloc (by rw [HZ3.out]; omega) _
      have h40 := alloc_block W3 (.cells #[.int .i64 x, .int .i64 y] 95) HD0.out
      have h41 := alloc_block W3 (.cells #[.int .i64 x, .int .i64 y] 95) HD1.out
      have h42 := heap_alloc_new W3 (.cells #[.int .i64 x, .int .i64 y] 95)
      have hz4 : (W3.alloc (.cells #[.int .i64 x, .int .i64 y] 95)).heap.size = w.heap.size + 3 := by simp; rw [HZ3.out]
      have hc4 : ∀ j (hj : j < ts.length), (W3.alloc (.cells #[.int .i64 x, .int .i64 y] 95)).cell? ⟨b, off + j * 2, none⟩ = some (.int .i64 ts[j].1) ∧ (W3.alloc (.cells #[.int .i64 x, .int .i64 y] 95)).cell? ⟨b, off + j * 2 + 1, none⟩ = some (.int .i64 ts[j].2) := fun j hj =>
        ⟨(((Below.refl _ W3).alloc (Nat.le_refl _) _).cell (p := ⟨b, off + j * 2, none⟩) hbs').trans (HC.out j hj).1, (((Below.refl _ W3).alloc (Nat.le_refl _) _).cell (p := ⟨b, off + j * 2 + 1, none⟩) hbs').trans (HC.out j hj).2⟩
      have hbs4 : b < (W3.alloc (.cells #[.int .i64 x, .int .i64 y] 95)).heap.size := Nat.lt_of_lt_of_le hbs' (alloc_le0 W3 _)
      rw [HZ3.out] at h42
      have HB4 := Lib.hid hb4; have H40 := Lib.hid h40; have H41 := Lib.hid h41; have H42 := Lib.hid h42; have HZ4 := Lib.hid hz4; have HC4 := Lib.hid hc4; have HBS4 := Lib.hid hbs4
      have HZ3' := HZ3.out
      clear hb4 h40 h41 h42 hz4 hc4 hbs' hbs4 kx ky d0' d1' HC HD0 HD1 HB3
      rw [HZ3']
      clear HZ3' HZ3
      generalize hW4 : W3.alloc (.cells #[.int .i64 x, .int .i64 y] 95) = W4 at *
      clear hW4 W3
      go_loopw [10, 11] (fun l i wr => ∃ k : Nat, k ≤ n ∧ i = .int .i64 k ∧ Hid (Own2 wr W4.heap.size 95 l (((tv ts).take k).eraseIdx m)) ∧ Hid (Below W4.heap.size W4 wr)) (fun _ i _ => n - (intOf i).toNat)
      case atStart => exact ⟨0, Nat.zero_le _, rfl, Lib.hid (by simpa using Own2.nil W4 W4.heap.size 95), Lib.hid (Below.refl _ _)⟩
      case round =>
        obtain ⟨k, hk, rfl, hown, hbe⟩ := hrel
        have hlt0 : w.heap.size < W4.heap.size := by rw [HZ4.out]; omega
        have hlt1 : w.heap.size + 1 < W4.heap.size := by rw [HZ4.out]; omega
        have hlt2 : w.heap.size + 2 < W4.heap.size := by rw [HZ4.out]; omega
        have B0 := (hbe.out.block _ hlt0).trans H40.out
        have B1 := (hbe.out.block _ hlt1).trans H41.out
        have B2 := (hbe.out.block _ hlt2).trans H42.out
        obtain ⟨e0, e1⟩ := two_cells B0
        have hz := hbe.out.size
        by_cases hlt : k < n
        · have hkt : k < ts.length := by rw [← HNN.out]; exact hlt
          have k0 := (hbe.out.cell (p := ⟨b, off + k * 2, none⟩) HBS4.out).trans (HC4.out k hkt).1
          have k1 := (hbe.out.cell (p := ⟨b, off + k * 2 + 1, none⟩) HBS4.out).trans (HC4.out k hkt).2
          obtain ⟨p, hp⟩ : ∃ p, ts[k].1 = p := ⟨_, rfl⟩
          obtain ⟨q, hq⟩ : ∃ q, ts[k].2 = q := ⟨_, rfl⟩
          rw [hp] at k0
          rw [hq] at k1
          have hkv : k < (tv ts).length := by rw [tv_len]; exact hkt
          have hst := erase_take (tv ts) m k hkv
          have hat : (tv ts)[k] = (.int .i64 p, .int .i64 q) := by rw [tv_at, hp, hq]
          rw [hat] at hst
          have i0 : (0 : Int) ≤ (k : Int) := by omega
          have i1 : (k : Int) < (n : Int) := by omega
          have HST := Lib.hid hst
          have LT := Lib.hid hkt
          have hol : (((tv ts).take k).eraseIdx m).length ≤ 64 := by
            have := List.length_eraseIdx_le ((tv ts).take k) m
            rw [List.length_take] at this
            omega
          have HOL := Lib.hid hol
          clear hp hq hst hat hkv hkt hol B1 B2
          by_cases hkm : k = m
          · subst hkm
            rw [if_pos rfl] at HST
            have hne : ((k : Int) != (k : Int)) = false := by simp
            clear B0
            go_wp2
            go_roundw
            case rel => exact ⟨k + 1, by omega, by go_num, Lib.hid (by rw [HST.out]; exact hown.out), Lib.hid hbe.out⟩
            case measure => simp [intOf]; omega
          · rw [if_neg hkm] at HST
            have hne : ((k : Int) != (m : Int)) = true := by rw [bne_iff_ne]; omega
            clear B0
            have HOA := Lib.hid (hown.out.alloc (.cells #[.int .i64 p, .int .i64 q] 95))
            have HPR := Lib.hid (pair_d wr 95 (.int .i64 p) (.int .i64 q))
            have hone : One2 [((.int .i64 p : Value), (.int .i64 q : Value))] := by intro z hz; obtain rfl := List.mem_singleton.1 hz; exact ⟨rfl, rfl⟩
            have HONE := Lib.hid hone
            have HAL := Lib.hid (hbe.out.alloc hz (.cells #[.int .i64 p, .int .i64 q] 95))
            clear hone hown hkm
            go_wp2_with (at_builtin; refine wpList_app2 rfl (.tmp 66) (.tmp 72) rfl tsls tinfo rfl rfl HOA.out rfl HPR.out HONE.out (by have := HOL.out; simp only [List.length_cons, List.length_nil]; omega) (by simp only [World.size_alloc]; omega) ?_)
            intro v5 w5 hown5 hg5 hb5
            have HB5 := Lib.hid (HAL.out.trans hb5)
            have HO5 := Lib.hid hown5
            clear hown5 hg5 hb5
            go_wp2
            go_roundw
            case rel => exact ⟨k + 1, by omega, by go_num, Lib.hid (by rw [HST.out]; exact HO5.out), HB5⟩
            case measure => simp [intOf]; omega
        · obtain rfl : k = n := by omega
          have ho : Own2 wr W4.heap.size 95 u10 (tv (ts.eraseIdx m)) := by
            have h := hown.out
            rw [List.take_of_length_le (by rw [tv_len, ← HNN.out]; omega)] at h
            rw [tv_eraseIdx]
            exact h
          obtain ⟨A5, n5, c5, rfl⟩ := own2_shape ho
          have HO := Lib.hid ho
          have C0 : (wr.setCell ⟨w.heap.size, 1, none⟩ (.slice A5 n5 c5)).heap[w.heap.size]? = some (.cells #[.int .i64 now, .slice A5 n5 c5] 54 (0, 0)) := by
            rw [heap_setCell_same wr w.heap.size 1 _ _ _ B0]; rfl
          have C1 := (Below.heap_setCell wr ⟨w.heap.size, 1, none⟩ (.slice A5 n5 c5) (w.heap.size + 1) (by simp)).trans B1
          have C2 := (Below.heap_setCell wr ⟨w.heap.size, 1, none⟩ (.slice A5 n5 c5) (w.heap.size + 2) (by simp)).trans B2
          have f1 := frozen_of_row wr w.heap.size 1 _ _ B0
          have f2 := frozen_of_row _ w.heap.size 0 _ _ C0
          obtain ⟨g0, g1⟩ := two_cells C0
          obtain ⟨g2, g3⟩ := two_cells C1
          obtain ⟨g4, g5⟩ := two_cells C2
          have hbf := HB4.out.trans (hbe.out.mono (by omega))
          have hbx := below_set hbf (Nat.le_refl _) 1 (.slice A5 n5 c5)
          have hpx := ho.p2.set w.heap.size 1 (.slice A5 n5 c5) (fun b hb e => by omega)
          have HC0 := Lib.hid C0; have HC1 := Lib.hid C1; have HC2 := Lib.hid C2; have HBX := Lib.hid hbx; have HPX := Lib.hid hpx
          clear C0 C1 C2 hbx hpx hbf B0 B1 B2 ho hown
          by_cases hxn : now < x
          · have D0 : ((wr.setCell ⟨w.heap.size, 1, none⟩ (.slice A5 n5 c5)).setCell ⟨w.heap.size, 0, none⟩ (.int .i64 x)).heap[w.heap.size]? = some (.cells #[.int .i64 x, .slice A5 n5 c5] 54 (0, 0)) := by
              rw [heap_setCell_same _ w.heap.size 0 _ _ _ HC0.out]; rfl
            have D1 := (Below.heap_setCell (wr.setCell ⟨w.heap.size, 1, none⟩ (.slice A5 n5 c5)) ⟨w.heap.size, 0, none⟩ (.int .i64 x) (w.heap.size + 1) (by simp)).trans HC1.out
            have D2 := (Below.heap_setCell (wr.setCell ⟨w.heap.size, 1, none⟩ (.slice A5 n5 c5)) ⟨w.heap.size, 0, none⟩ (.int .i64 x) (w.heap.size + 2) (by simp)).trans HC2.out
            have hbx := below_set HBX.out (Nat.le_refl _) 0 (.int .i64 x)
            have hpx := HPX.out.set w.heap.size 0 (.int .i64 x) (fun b hb e => by omega)
            have HD0 := Lib.hid D0; have HD1 := Lib.hid D1; have HD2 := Lib.hid D2; have HBY := Lib.hid hbx; have HPY := Lib.hid hpx
            have hm : mx now x = x := if_pos hxn
            have HM := Lib.hid hm
            clear D0 D1 D2 hbx hpx hm
            go_wp2_with fail
            generalize hX2 : (wr.setCell ⟨w.heap.size, 1, none⟩ (.slice A5 n5 c5)).setCell ⟨w.heap.size, 0, none⟩ (.int .i64 x) = X2 at HD0 HD1 HD2 HBY HPY ⊢
            clear hX2
            obtain ⟨p0, p1⟩ := two_cells HD0.out
            obtain ⟨p2, p3⟩ := two_cells HD1.out
            obtain ⟨p4, p5⟩ := two_cells HD2.out
            have s2 := frozen_of_row _ (w.heap.size + 1) 0 _ _ HD1.out
            have s3 := frozen_of_row _ (w.heap.size + 1) 1 _ _ HD1.out
            have hbz := below_set (below_set (below_drewN HBY.out 1) (Nat.le_succ _) 0 (.int .i64 x)) (Nat.le_succ _) 1 (.slice A5 n5 c5)
            have hpz := ((HPY.out.dr).set (w.heap.size + 1) 0 (.int .i64 x) (fun b hb e => by omega)).set (w.heap.size + 1) 1 (.slice A5 n5 c5) (fun b hb e => by omega)
            have HBZ := Lib.hid hbz; have HPZ := Lib.hid hpz
            clear hbz hpz e0 e1 g0 g1 g2 g3 g4 g5 f1 f2
            go_region_held3 (fun w' => w'.cell? ⟨w.heap.size, 0, none⟩ = some (.int .i64 x) ∧ w'.cell? ⟨w.heap.size, 1, none⟩ = some (.slice A5 n5 c5) ∧ w'.cell? ⟨w.heap.size + 2, 1, none⟩ = some (.int .i64 y)) (go_keep) (fail)
            go_wp2
            refine bodyPost_ret (v := .tuple #[.agg #[.int .i64 x, .slice A5 n5 c5], .int .i64 y, .bool true]) (by simp [results, Try.results20, go_sem, *]) rfl ⟨_, by rw [HM.out], HPZ.out.mono (fun b hb => by omega), HBZ.out⟩
          · have hxd : decide (now < x) = false := by simpa using hxn
            have hm : mx now x = now := if_neg hxn
            have HM := Lib.hid hm
            clear hm hxn
            go_wp2_with fail
            clear e0 e1 f1 f2
            generalize hX2 : wr.setCell ⟨w.heap.size, 1, none⟩ (.slice A5 n5 c5) = X2 at HC0 HC1 HC2 HBX HPX g0 g1 g2 g3 g4 g5 ⊢
            clear hX2
            have s2 := frozen_of_row _ (w.heap.size + 1) 0 _ _ HC1.out
            have s3 := frozen_of_row _ (w.heap.size + 1) 1 _ _ HC1.out
            have hbz := below_set (below_set (below_drewN HBX.out 1) (Nat.le_succ _) 0 (.int .i64 now)) (Nat.le_succ _) 1 (.slice A5 n5 c5)
            have hpz := ((HPX.out.dr).set (w.heap.size + 1) 0 (.int .i64 now) (fun b hb e => by omega)).set (w.heap.size + 1) 1 (.slice A5 n5 c5) (fun b hb e => by omega)
            have HBZ := Lib.hid hbz; have HPZ := Lib.hid hpz
            clear hbz hpz
            go_region_held3 (fun w' => w'.cell? ⟨w.heap.size, 0, none⟩ = some (.int .i64 now) ∧ w'.cell? ⟨w.heap.size, 1, none⟩ = some (.slice A5 n5 c5) ∧ w'.cell? ⟨w.heap.size + 2, 1, none⟩ = some (.int .i64 y)) (go_keep) (fail)
            go_wp2
            refine bodyPost_ret (v := .tuple #[.agg #[.int .i64 now, .slice A5 n5 c5], .int .i64 y, .bool true]) (by simp [results, Try.results20, go_sem, *]) rfl ⟨_, by rw [HM.out], HPZ.out.mono (fun b hb => by omega), HBZ.out⟩

    · obtain ⟨q, rfl⟩ : ∃ q, k = q + 1 := ⟨k - 1, by omega⟩
      have hq : q < ts.length := by rw [← HNN.out]; omega
      obtain ⟨b, off, ⟨c', hsl⟩, hbs, hcell⟩ := HV2.out.cellsAt (by omega)
      simp only [Value.slice.injEq] at hsl
      obtain ⟨rfl, hjunk, rfl⟩ := hsl
      clear hjunk
      have k0 := (hcell q hq).1
      obtain ⟨x, hx⟩ : ∃ x, ts[q].1 = x := ⟨_, rfl⟩
      rw [hx] at k0
      have HX := Lib.hid hx
      have eq1 : ((q + 1 : Nat) : Int) - 1 = (q : Int) := by omega
      rw [eq1]
      have i0 : (0 : Int) ≤ (q : Int) := by omega
      have i1 : (q : Int) < (n : Int) := by omega
      have HQ := Lib.hid hq
      have HC := Lib.hid hcell
      have hrange := hbest.out.range
      clear hx hcell eq1
      by_cases hl : u < x
      · have t0 : decide (x ≤ u) = false := by simp; omega
        go_wp2_with fail
        go_quiet (fail)
        go_wp2
        go_roundw
        case rel => exact ⟨q, bz, by omega, rfl, rfl, Lib.hid (hbest.out.late HQ.out (by rw [HX.out]; exact hl)), Lib.hid (by first | exact (Drew.refl _).drewN _ | exact ((Drew.refl _).drewN _).drewN _)⟩
        case measure => simp [intOf]; try omega
      · have hl' : x ≤ u := by omega
        clear hl
        rcases hrange with rfl | ⟨m', rfl, hm1, hm2⟩
        · go_wp2_with fail
          go_quiet (fail)
          go_wp2
          go_roundw
          case rel => exact ⟨q, q, by omega, rfl, rfl, Lib.hid (hbest.out.none HQ.out (by rw [HX.out]; exact hl')), Lib.hid (by first | exact (Drew.refl _).drewN _ | exact ((Drew.refl _).drewN _).drewN _)⟩
          case measure => simp [intOf]; try omega
        · have k1 := (HC.out m' hm2).1
          obtain ⟨y, hy⟩ : ∃ y, ts[m'].1 = y := ⟨_, rfl⟩
          rw [hy] at k1
          have HY := Lib.hid hy
          have j0 : (0 : Int) ≤ (m' : Int) := by omega
          have j1 : (m' : Int) < (n : Int) := by have := HNN.out; omega
          have j2 : decide ((m' : Int) < 0) = false := by simp
          have HM2 := Lib.hid hm2
          clear hy
          by_cases hxy : x ≤ y
          · go_wp2_with fail
            go_quiet (fail)
            go_wp2
            go_roundw
            case rel => exact ⟨q, q, by omega, rfl, rfl, Lib.hid (hbest.out.turn HQ.out (by rw [HX.out]; exact hl') HM2.out (by rw [HX.out, HY.out]; exact hxy)), Lib.hid (by first | exact (Drew.refl _).drewN _ | exact ((Drew.refl _).drewN _).drewN _)⟩
            case measure => simp [intOf]; try omega
          · have hxy' : y < x := by omega
            clear hxy
            go_wp2_with fail
            go_quiet (fail)
            go_wp2
            go_roundw
            case rel => exact ⟨q, m', by omega, rfl, rfl, Lib.hid (hbest.out.keep HQ.out HM2.out (by rw [HX.out, HY.out]; omega)), Lib.hid (by first | exact (Drew.refl _).drewN _ | exact ((Drew.refl _).drewN _).drewN _)⟩
            case measure => simp [intOf]; try omega
end Go.Proofs.Ytlheekbbioajpab
