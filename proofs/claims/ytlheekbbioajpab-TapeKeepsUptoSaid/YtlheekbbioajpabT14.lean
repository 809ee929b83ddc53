/- NewAcks; the law's list of acknowledgements. -/
import Derived.Test.YtlheekbbioajpabT13
namespace Go.Proofs.Ytlheekbbioajpab
open Go.RowKit

/-- what NewAcks keeps -/
def keptA (xs : List (Int × Int)) : List (Int × Int) := if ackE xs = 0 then xs else []
def NewRes (w : World) (xs : List (Int × Int)) (e : Ending) (w' : World) : Prop :=
  ∃ v, e = .returned (.tuple #[.agg #[v], .int .i64 (ackE xs)]) ∧ P2 w' (fun b => w.heap.size ≤ b) v (av (keptA xs)) ∧ Below w.heap.size w w'
theorem r71 : (Try.prog.info? 71).map (fun i => (i.zero, i.size, i.bytes)) = some (some (.agg #[.slice none 0 0]), 1, 24) := by kernel_rfl

set_option maxRecDepth 100000 in
set_option maxHeartbeats 4000000 in
theorem newacks_any {w : World} {S : Nat → Prop} {v : Value} {xs : List (Int × Int)} (hv : P2 w S v (av xs)) (hn : xs.length ≤ 8796093022207) :
    Calls Try.prog 26 #[v] w (NewRes w xs) := by
  obtain ⟨A, c, rfl⟩ := hv.lenA
  obtain ⟨n, hnn⟩ : ∃ n, n = xs.length := ⟨_, rfl⟩
  rw [← hnn] at hn hv ⊢
  have HNN := Lib.hid hnn
  have HV := Lib.hid (hv.al (.cells #[.slice none 0 0] 71))
  have HB0 := Lib.hid ((Below.refl w.heap.size w).alloc (Nat.le_refl _) (.cells #[.slice none 0 0] 71))
  have HZ0 : Hid ((w.alloc (.cells #[.slice none 0 0] 71)).heap.size = w.heap.size + 1) := Lib.hid (by simp)
  have HR0 := Lib.hid (heap_alloc_new w (.cells #[.slice none 0 0] 71))
  clear hnn hv
  go_enter Try.func26, Try.ntmps26
  go_wp2_with fail
  generalize w.alloc (.cells #[.slice none 0 0] 71) = W1 at HV HB0 HZ0 HR0 ⊢
  go_loopw [8] (fun i wr => ∃ (k : Nat), k ≤ n ∧ i = .int .i64 k ∧ Hid (∀ j (h : j < xs.length), j < k → ¬ xs[j].1 < 0) ∧ Hid (Below W1.heap.size W1 wr)) (fun i _ => n - (intOf i).toNat)
  case atStart => exact ⟨0, Nat.zero_le _, rfl, Lib.hid (fun j h hj => absurd hj (by omega)), Lib.hid (Below.refl _ _)⟩
  case round =>
    obtain ⟨k, hk, rfl, hpos, hbe⟩ := hrel
    have hr := (hbe.out.block w.heap.size (by rw [HZ0.out]; omega)).trans HR0.out
    have c0 : wr.cell? ⟨w.heap.size, 0, none⟩ = some (.slice none 0 0) := by rw [cell_of_row wr _ _ _ _ _ hr]; rfl
    have f0 := frozen_of_row wr w.heap.size 0 _ _ hr
    have hbW := HB0.out.trans (hbe.out.mono (by have := HZ0.out; omega))
    have HBW := Lib.hid hbW
    have HR := Lib.hid hr
    clear hr hbW
    by_cases hlt : k < n
    · have hkt : k < xs.length := by rw [← HNN.out]; exact hlt
      obtain ⟨b, off, rfl, hbl, _, hc⟩ := HV.out.cellsA (by omega)
      have k0 := (hbe.out.cell (p := ⟨b, off + k * 2, none⟩) hbl).trans (hc k hkt).1
      have k1 := (hbe.out.cell (p := ⟨b, off + k * 2 + 1, none⟩) hbl).trans (hc k hkt).2
      obtain ⟨x, hx⟩ : ∃ x, xs[k].1 = x := ⟨_, rfl⟩
      obtain ⟨y, hy⟩ : ∃ y, xs[k].2 = y := ⟨_, rfl⟩
      rw [hx] at k0
      rw [hy] at k1
      have HX := Lib.hid hx; have HKT := Lib.hid hkt
      have HBA := Lib.hid (hbe.out.alloc hbe.out.size (.cells #[.int .i64 x, .int .u64 y] 76))
      have c1 : (wr.alloc (.cells #[.int .i64 x, .int .u64 y] 76)).cell? ⟨w.heap.size, 0, none⟩ = some (.slice none 0 0) := by rw [cell_of_row _ _ _ _ _ _ (alloc_block wr _ HR.out)]; rfl
      have f1 := frozen_of_row (wr.alloc (.cells #[.int .i64 x, .int .u64 y] 76)) w.heap.size 0 _ _ (alloc_block wr _ HR.out)
      clear hc hx hy c0 f0
      by_cases hx0 : x < 0
      · have he : ackE xs = 1 := if_pos ⟨k, HKT.out, by rw [HX.out]; exact hx0⟩
        have HE := Lib.hid he; clear he
        have HBF := Lib.hid (below_set (HBW.out.alloc HBW.out.size (.cells #[.int .i64 x, .int .u64 y] 76)) (Nat.le_refl _) 0 (.slice none 0 0))
        go_wp2
        refine bodyPost_ret (v := .tuple #[.agg #[.slice none 0 0], .int .i64 1]) (by simp [results, Try.results26, go_sem, *]) rfl ⟨_, by rw [HE.out], ?_, HBF.out⟩
        rw [keptA, if_neg (by rw [HE.out]; omega)]
        exact P2.nil _ _
      · go_wp2
        go_roundw
        case rel => exact ⟨k + 1, by omega, by go_num, Lib.hid (fun j h hj => by
          rcases Nat.lt_or_ge j k with hjk | hjk
          · exact hpos.out j h hjk
          · obtain rfl : j = k := by omega
            rw [HX.out]; omega), HBA⟩
        case measure => simp [intOf]; omega
    · have hno : ¬ ∃ j, ∃ h : j < xs.length, xs[j].1 < 0 := fun ⟨j, h, hj⟩ => hpos.out j h (by have := HNN.out; omega) hj
      by_cases hl : 256 < n
      · have hd : decide ((256 : Int) < (n : Int)) = true := by simp; omega
        have he : ackE xs = 2 := by rw [ackE, if_neg hno, if_pos (by rw [← HNN.out]; exact hl)]
        have HE := Lib.hid he; clear he hno
        have HBF := Lib.hid (below_set HBW.out (Nat.le_refl _) 0 (.slice none 0 0))
        go_wp2
        refine bodyPost_ret (v := .tuple #[.agg #[.slice none 0 0], .int .i64 2]) (by simp [results, Try.results26, go_sem, *]) rfl ⟨_, by rw [HE.out], ?_, HBF.out⟩
        rw [keptA, if_neg (by rw [HE.out]; omega)]
        exact P2.nil _ _
      · have hd : decide ((256 : Int) < (n : Int)) = false := by simp; omega
        have he : ackE xs = 0 := by rw [ackE, if_neg hno, if_neg (by rw [← HNN.out]; exact hl)]
        have HE := Lib.hid he; clear he hno
        have HON := Lib.hid (Own2.nil wr W1.heap.size 76)
        have HPV := Lib.hid (HV.out.below hbe.out (Nat.le_refl _))
        have HONE := Lib.hid (av_one xs)
        go_wp2_with (at_builtin; refine wpList_app2 (S := S) (ms := av xs) rfl (.const (.slice none 0 0)) (.tmp 21) rfl asl ainfo rfl rfl HON.out rfl HPV.out HONE.out (by rw [av_len, ← HNN.out]; simp only [List.length_nil]; omega) hbe.out.size ?_)
        intro v2 w2 hown2 hg2 hb2
        have hr2 := (hb2.block w.heap.size (by rw [HZ0.out]; omega)).trans HR.out
        have c2 : w2.cell? ⟨w.heap.size, 0, none⟩ = some (.slice none 0 0) := by rw [cell_of_row w2 _ _ _ _ _ hr2]; rfl
        have f2 := frozen_of_row w2 w.heap.size 0 _ _ hr2
        obtain ⟨A2, n2, c2', rfl⟩ := own2_shape hown2
        have HP2 := Lib.hid (hown2.p2.set w.heap.size 0 (.slice A2 n2 c2') (fun b hb => by have := HZ0.out; omega))
        have HBF := Lib.hid (below_set (HBW.out.trans (hb2.mono (by have := HZ0.out; omega))) (Nat.le_refl _) 0 (.slice A2 n2 c2'))
        clear hown2 hg2 hb2 hr2 c0 f0
        go_wp2
        refine bodyPost_ret (v := .tuple #[.agg #[.slice A2 n2 c2'], .int .i64 0]) (by simp [results, Try.results26, go_sem, *]) rfl ⟨_, by rw [HE.out], ?_, HBF.out⟩
        rw [keptA, if_pos HE.out]
        exact HP2.out.mono (fun b hb => by have := HZ0.out; omega)

set_option maxRecDepth 100000 in
set_option maxHeartbeats 4000000 in
theorem lawacks_any {w : World} {S : Nat → Prop} {v : Value} {xs : List (Int × Int)} (hv : P2 w S v (av xs)) (hn : xs.length ≤ 8796093022206) :
    Calls Try.prog 28 #[v] w fun e w' => ∃ u, e = .returned u ∧ Own2 w' w.heap.size 76 u (av xs) ∧ Below w.heap.size w w' := by
  obtain ⟨A, c, rfl⟩ := hv.lenA
  obtain ⟨n, hnn⟩ : ∃ n, n = xs.length := ⟨_, rfl⟩
  rw [← hnn] at hn hv ⊢
  have HNN := Lib.hid hnn
  have HV := Lib.hid hv
  clear hnn hv
  go_enter Try.func28, Try.ntmps28
  go_wp2_with fail
  go_loopw [3, 8] (fun s i wr => ∃ (k : Nat), k ≤ n ∧ i = .int .i64 k ∧ Hid (Own2 wr w.heap.size 76 s (av (xs.take k))) ∧ Hid (Below w.heap.size w wr)) (fun _ i _ => n - (intOf i).toNat)
  case atStart => exact ⟨0, Nat.zero_le _, rfl, Lib.hid (Own2.nil _ _ _), Lib.hid (Below.refl _ _)⟩
  case round =>
    obtain ⟨k, hk, rfl, hown, hbe⟩ := hrel
    by_cases hlt : k < n
    · have hkt : k < xs.length := by rw [← HNN.out]; exact hlt
      obtain ⟨b, off, rfl, hbl, _, hc⟩ := HV.out.cellsA (by omega)
      have k0 := (hbe.out.cell (p := ⟨b, off + k * 2, none⟩) hbl).trans (hc k hkt).1
      have k1 := (hbe.out.cell (p := ⟨b, off + k * 2 + 1, none⟩) hbl).trans (hc k hkt).2
      obtain ⟨x, hx⟩ : ∃ x, xs[k].1 = x := ⟨_, rfl⟩
      obtain ⟨y, hy⟩ : ∃ y, xs[k].2 = y := ⟨_, rfl⟩
      rw [hx] at k0
      rw [hy] at k1
      have htk : av (xs.take (k + 1)) = av (xs.take k) ++ [((.int .i64 x : Value), (.int .u64 y : Value))] := by
        rw [List.take_succ_eq_append_getElem hkt, av, List.map_append, ← hx, ← hy]
        rfl
      have HTK := Lib.hid htk
      have htl : (av (xs.take k)).length = k := by rw [av_len, List.length_take]; omega
      have HTL := Lib.hid htl
      have HOA := Lib.hid ((hown.out.alloc (.cells #[.int .i64 x, .int .u64 y] 99)).alloc (.cells #[.int .i64 x, .int .u64 y] 76))
      have hpr := pair_d (wr.alloc (.cells #[.int .i64 x, .int .u64 y] 99)) 76 (.int .i64 x) (.int .u64 y)
      have hzz : (wr.alloc (.cells #[.int .i64 x, .int .u64 y] 99)).heap.size = wr.heap.size + 1 := by simp
      rw [hzz] at hpr
      have HPR := Lib.hid hpr
      have hone : One2 [((.int .i64 x : Value), (.int .u64 y : Value))] := by intro z hz; obtain rfl := List.mem_singleton.1 hz; exact ⟨rfl, rfl⟩
      have HONE := Lib.hid hone
      have hz := hbe.out.size
      have HAL := Lib.hid ((hbe.out.alloc hz (.cells #[.int .i64 x, .int .u64 y] 99)).alloc (by rw [hzz]; omega) (.cells #[.int .i64 x, .int .u64 y] 76))
      clear hone hown hc hx hy htk htl hpr hzz
      go_wp2_with (at_builtin; refine wpList_app2 rfl (.tmp 12) (.tmp 18) rfl asl ainfo rfl rfl HOA.out rfl HPR.out HONE.out (by rw [HTL.out]; simp only [List.length_cons, List.length_nil]; omega) (by simp only [World.size_alloc]; omega) ?_)
      intro v5 w5 hown5 hg5 hb5
      have HB5 := Lib.hid (HAL.out.trans hb5)
      have HO5 := Lib.hid hown5
      clear hown5 hg5 hb5
      go_wp2
      go_roundw
      case rel => exact ⟨k + 1, by omega, by go_num, Lib.hid (by rw [HTK.out]; exact HO5.out), HB5⟩
      case measure => simp [intOf]; omega
    · have ho := hown.out
      rw [List.take_of_length_le (by have := HNN.out; omega)] at ho
      have HO := Lib.hid ho
      clear ho hown
      go_wp2
      go_ret
      exact ⟨_, rfl, HO.out, hbe.out⟩
/-- a pair of a slice of the call's own written anew -/
theorem Own2.at2 {w : World} {B n c j : Nat} {e : TypeId} {A : Option Addr} {xs : List (Value × Value)} (h : Own2 w B e (.slice A n c) xs) (hj : j < xs.length) :
    ∃ g, A = some ⟨g, 0, none⟩ ∧ B ≤ g ∧ g < w.heap.size ∧ w.cell? ⟨g, j * 2, none⟩ = some xs[j].1 ∧ w.cell? ⟨g, j * 2 + 1, none⟩ = some xs[j].2 ∧ w.frozen? ⟨g, j * 2, none⟩ = false ∧ w.frozen? ⟨g, j * 2 + 1, none⟩ = false ∧
      ∀ x y, Own2 ((w.setCell ⟨g, j * 2, none⟩ x).setCell ⟨g, j * 2 + 1, none⟩ y) B e (.slice A n c) (xs.set j (x, y)) := by
  rcases h.2 with ⟨hv, hn⟩ | ⟨g, cap, cur, hv, hg, hh, hnc, hcm, hsz, htk⟩
  · omega
  · simp only [Value.slice.injEq] at hv
    obtain ⟨rfl, rfl, rfl⟩ := hv
    have hlt : g < w.heap.size := (Array.getElem?_eq_some_iff.1 hh).1
    refine ⟨g, rfl, hg, hlt, ?_, ?_, frozen_of_row w g _ cur _ hh, frozen_of_row w g _ cur _ hh, fun x y => ?_⟩
    · rw [World.ownsRow.cellAt h (j * 2) (by omega), flat2_at0 xs j hj]
    · rw [World.ownsRow.cellAt h (j * 2 + 1) (by omega), flat2_at1 xs j hj]
    · have h3 := (World.ownsRow.stored (World.ownsRow.stored h (j * 2) x).1 (j * 2 + 1) y).1
      unfold Own2
      rw [List.length_set]
      have e : flat2 (xs.set j (x, y)) = ((flat2 xs).set (j * 2) x).set (j * 2 + 1) y := by
        apply List.ext_getElem?
        intro i
        by_cases hi : i < xs.length * 2
        · rcases Nat.mod_two_eq_zero_or_one i with e | e
          · obtain ⟨q, rfl⟩ : ∃ q, i = q * 2 := ⟨i / 2, by omega⟩
            rw [flat2_at0 _ q (by simp; omega), List.getElem?_set_ne (by omega)]
            by_cases hq : q = j
            · subst hq
              rw [List.getElem?_set_self (by rw [flat2_len]; omega)]
              simp
            · rw [List.getElem?_set_ne (by omega), flat2_at0 xs q (by omega), List.getElem_set_ne (fun e => hq e.symm)]
          · obtain ⟨q, rfl⟩ : ∃ q, i = q * 2 + 1 := ⟨i / 2, by omega⟩
            rw [flat2_at1 _ q (by simp; omega)]
            by_cases hq : q = j
            · subst hq
              rw [List.getElem?_set_self (by simp [flat2_len]; omega)]
              simp
            · rw [List.getElem?_set_ne (by omega), List.getElem?_set_ne (by omega), flat2_at1 xs q (by omega), List.getElem_set_ne (fun e => hq e.symm)]
        · rw [List.getElem?_eq_none (by rw [flat2_len, List.length_set]; omega), List.getElem?_eq_none (by simp [flat2_len]; omega)]
      rw [e]
      exact h3
end Go.Proofs.Ytlheekbbioajpab
