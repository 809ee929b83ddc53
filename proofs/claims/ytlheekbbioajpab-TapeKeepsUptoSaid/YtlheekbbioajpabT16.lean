/- Draws of the reference. -/
import Derived.Test.YtlheekbbioajpabT12
namespace Go.Proofs.Ytlheekbbioajpab
open Go.RowKit

/-- the pieces of l from place a on, of these lengths -/
def pcs (l : List UInt8) : Nat → List Nat → List (List UInt8)
  | _, [] => []
  | a, n :: r => (l.drop a).take n :: pcs l (a + n) r
theorem pcs_snoc (l : List UInt8) : ∀ (a : Nat) (xs : List Nat) (n : Nat), pcs l a (xs ++ [n]) = pcs l a xs ++ [(l.drop (a + xs.sum)).take n]
  | a, [], n => by simp [pcs]
  | a, x :: r, n => by
    rw [List.cons_append, pcs, pcs_snoc l (a + x) r n, pcs, List.cons_append, List.sum_cons, Nat.add_assoc]
theorem pcs_len (l : List UInt8) : ∀ (a : Nat) (xs : List Nat), (pcs l a xs).length = xs.length
  | _, [] => rfl
  | a, x :: r => by rw [pcs, List.length_cons, pcs_len l _ r, List.length_cons]
/-- lengths as numbers -/
def nats (zs : List Int) : List Nat := zs.map Int.toNat
theorem nats_len (zs : List Int) : (nats zs).length = zs.length := by simp [nats]
theorem nats_take (zs : List Int) (k : Nat) (h : k < zs.length) : nats (zs.take (k + 1)) = nats (zs.take k) ++ [(zs[k]).toNat] := by
  rw [List.take_succ_eq_append_getElem h, nats, List.map_append]; rfl
theorem sum_take_le : ∀ (xs : List Nat) (k : Nat), (xs.take k).sum ≤ xs.sum
  | [], k => by simp
  | x :: r, 0 => by simp
  | x :: r, k + 1 => by rw [List.take_succ_cons, List.sum_cons, List.sum_cons]; have := sum_take_le r k; omega
theorem nats_sum_take (zs : List Int) (k : Nat) : (nats (zs.take k)).sum ≤ (nats zs).sum := by
  rw [nats, nats, List.map_take]
  exact sum_take_le _ k
/-- the error of a call of Draws -/
def drawCode (l : List UInt8) (a : Nat) (zs : List Int) : Int := if ∃ j, ∃ h : j < zs.length, zs[j] < 0 then 1 else if l.length < a + (nats zs).sum then 8 else 0
def drawAt (l : List UInt8) (a : Nat) (zs : List Int) : Nat := if drawCode l a zs = 0 then a + (nats zs).sum else a
def drawL (l : List UInt8) (a : Nat) (zs : List Int) : List (List UInt8) := if drawCode l a zs = 0 then pcs l a (nats zs) else []
theorem draw_refused {l : List UInt8} {a : Nat} {zs : List Int} {c : Int} (h : drawCode l a zs = c) (hc : c ≠ 0) : drawAt l a zs = a ∧ drawL l a zs = [] := by
  subst h
  exact ⟨if_neg hc, if_neg hc⟩
theorem draw_done {l : List UInt8} {a : Nat} {zs : List Int} (h : drawCode l a zs = 0) : drawAt l a zs = a + (nats zs).sum ∧ drawL l a zs = pcs l a (nats zs) := ⟨if_pos h, if_pos h⟩
theorem drawAt_le {l : List UInt8} {a : Nat} {zs : List Int} (ha : a ≤ l.length) : drawAt l a zs ≤ l.length := by
  unfold drawAt
  split
  · rename_i h
    unfold drawCode at h
    split at h
    · omega
    · split at h
      · omega
      · omega
  · exact ha

def RDraws (w : World) (l : List UInt8) (a : Nat) (zs : List Int) (e : Ending) (w' : World) : Prop :=
  ∃ u, e = .returned (.tuple #[u, .int .i64 (drawAt l a zs : Int), .int .i64 (drawCode l a zs)]) ∧ OwnRs w' w.heap.size u (drawL l a zs) ∧ Below w.heap.size w w'

set_option maxRecDepth 100000 in
set_option maxHeartbeats 8000000 in
theorem refdraws_any {w : World} {B B2 : Nat} {vb vs : Value} {l : List UInt8} {a : Nat} {zs : List Int} (hb : Bs w B vb l) (hB : B ≤ w.heap.size) (hl : l.length ≤ 1048576) (ha : a ≤ l.length) (hs : Is w B2 vs zs) (hB2 : B2 ≤ w.heap.size) (hn : zs.length ≤ 1048576) :
    Calls Try.prog 12 #[vb, .int .i64 (a : Int), vs] w (RDraws w l a zs) := by
  have HB := Lib.hid hb; have HS := Lib.hid hs
  obtain ⟨Ab, cb, rfl⟩ := hb.shape
  obtain ⟨As, cs, rfl, hs1, hs2, hs3⟩ := hs
  unfold maxLen at hs2
  have HS3 := Lib.hid hs3
  clear hb hs3
  go_enter Try.func12, Try.ntmps12
  go_wp2_with fail
  go_loop [9] (fun i => ∃ k : Nat, k ≤ zs.length ∧ i = .int .i64 k ∧ Hid (∀ j (h : j < zs.length), j < k → ¬ zs[j] < 0)) (fun i => zs.length - (intOf i).toNat)
  case atStart => exact ⟨0, Nat.zero_le _, rfl, Lib.hid (fun j h hj => absurd hj (by omega))⟩
  case round =>
    obtain ⟨k, hk, rfl, hpos⟩ := hrel
    by_cases hlt : k < zs.length
    · obtain ⟨b, off, rfl, hbb, hc⟩ := HS3.out (by omega)
      have k0 := (hc k hlt).1
      have hwf := i64_bounds (hc k hlt).2
      obtain ⟨x, hx⟩ : ∃ x, zs[k] = x := ⟨_, rfl⟩
      rw [hx] at k0 hwf
      have HX := Lib.hid hx; have HKT := Lib.hid hlt
      clear hc hx
      by_cases hx0 : x < 0
      · have he : drawCode l a zs = 1 := if_pos ⟨k, hlt, by rw [HX.out]; exact hx0⟩
        have HE := Lib.hid he; clear he
        have HR := draw_refused HE.out (by omega)
        have HR1 := Lib.hid HR.1; have HR2 := Lib.hid HR.2
        clear HR
        go_wp2
        go_ret3
        exact ⟨.slice none 0 0, by rw [HE.out, HR1.out]; rfl, by rw [HR2.out]; exact OwnRs.nil _ _, Below.refl _ _⟩
      · go_wp2
        go_round
        case rel => exact ⟨k + 1, by omega, by go_num, Lib.hid (fun j h hj => by
          rcases Nat.lt_or_ge j k with hjk | hjk
          · exact hpos.out j h hjk
          · obtain rfl : j = k := by omega
            rw [HX.out]; omega)⟩
        case measure => simp [intOf]; omega
    · have hno : ¬ ∃ j, ∃ h : j < zs.length, zs[j] < 0 := fun ⟨j, h, hj⟩ => hpos.out j h (by omega) hj
      have HNO := Lib.hid hno
      clear hno hpos
      go_wp2_with fail
      go_loopw [10, 11, 12] (fun o p i W => ∃ (q s : Nat), q ≤ zs.length ∧ i = .int .i64 q ∧ p = .int .i64 ((a + s : Nat) : Int) ∧ Hid (s = (nats (zs.take q)).sum) ∧ a + s ≤ l.length ∧ Hid (OwnRs W w.heap.size o (pcs l a (nats (zs.take q)))) ∧ Hid (Below w.heap.size w W)) (fun _ _ i _ => zs.length - (intOf i).toNat)
      case atStart => exact ⟨0, 0, Nat.zero_le _, rfl, rfl, Lib.hid rfl, ha, Lib.hid (OwnRs.nil _ _), Lib.hid (Below.refl _ _)⟩
      case round =>
        obtain ⟨q, s, hq, rfl, rfl, hsum, hsl, hown, hbe⟩ := hrel
        obtain ⟨p, hp⟩ : ∃ p, p = a + s := ⟨_, rfl⟩
        have HP := Lib.hid hp
        rw [← hp] at hsl ⊢
        clear hp
        by_cases hlt2 : q < zs.length
        · obtain ⟨b, off, rfl, hbb, hc⟩ := HS3.out (by omega)
          have k0 := (hbe.out.cell (p := ⟨b, off + q, none⟩) (by show b < _; omega)).trans (hc q hlt2).1
          have hnn : ¬ zs[q] < 0 := fun h => HNO.out ⟨q, hlt2, h⟩
          obtain ⟨N, hN⟩ : ∃ N : Nat, zs[q] = (N : Int) := ⟨(zs[q]).toNat, by omega⟩
          have kw := (hc q hlt2).1
          rw [hN] at k0 kw
          have HKW := Lib.hid kw
          have HBB : Hid (b < w.heap.size) := Lib.hid (by omega)
          clear kw
          have htk := nats_take zs q hlt2
          rw [hN, Int.toNat_natCast] at htk
          have HTK := Lib.hid htk
          have HLT := Lib.hid hlt2
          clear hc hnn hN htk
          by_cases hex : p + N ≤ l.length
          · have hd : decide ((l.length : Int) - (p : Int) < (N : Int)) = false := by simp; omega
            obtain ⟨D, hbD, hrun⟩ := Bs.piece (lo := p) (hi := p + N) (HB.out.below hbe.out hB) (by omega) (by omega)
            rw [show p + N - p = N by omega] at hbD hrun
            have hrun' : ∀ W, (Instr.slice 22 (.slice Ab l.length cb) (some (.int .i64 (p : Int))) (some (.int .i64 ((p : Int) + (N : Int)))) none).run Try.prog W = .ok (.slice D N (cb - p)) W := hrun
            have hpl : (List.take N (List.drop p l)).length = N := by rw [List.length_take, List.length_drop]; omega
            have hz := hbe.out.size
            have CC := Lib.hid (copy_any hbD (by omega) (by rw [hpl]; omega))
            have HPS := Lib.hid (pcs_snoc l a (nats (zs.take q)) N)
            clear hrun hbD hpl
            go_wp2_with fail
            refine (CC.out).mono ?_
            rintro e w2 ⟨u2, rfl, ho2, hb2⟩
            obtain ⟨A2, c2, rfl⟩ := ho2.shape
            obtain ⟨n2, hn2⟩ : ∃ n2, n2 = (List.take N (List.drop p l)).length := ⟨_, rfl⟩
            rw [← hn2] at ho2 ⊢
            have hor := (hown.out.below hb2 (Nat.le_refl _)).below ((Below.refl _ w2).alloc (Nat.le_refl _) (.cells #[.slice A2 n2 c2] 22)) (Nat.le_refl _)
            have hoa := (ho2.more hz).alloc (.cells #[.slice A2 n2 c2] 22)
            have hz2 := hb2.size
            have HBA := Lib.hid ((hbe.out.trans (hb2.mono hz)).alloc (by omega) (.cells #[.slice A2 n2 c2] 22))
            have HOR := Lib.hid hor; have HOA := Lib.hid hoa
            have hln : (pcs l a (nats (zs.take q))).length ≤ 1048576 := by rw [pcs_len, nats_len, List.length_take]; omega
            have HLN := Lib.hid hln
            clear hn2 hor hoa ho2 hb2 hown hbe hln
            go_wp2_with (at_builtin; refine wpList_appR rfl (.tmp 42) (.tmp 53) rfl rfl HOR.out ⟨w2.heap.size, 0, none⟩ rfl (cell_new w2 _ _) HOA.out (by have := HLN.out; omega) (by simp only [World.size_alloc]; omega) ?_)
            intro v4 w4 hr4 hb4
            have HB4 := Lib.hid (HBA.out.trans hb4)
            rw [HP.out, hsum.out, ← HPS.out] at hr4
            have HR4 := Lib.hid hr4
            have k4 := (HB4.out.cell (p := ⟨b, off + q, none⟩) HBB.out).trans HKW.out
            clear hr4 hb4 k0
            go_wp2
            go_roundw
            case rel => exact ⟨q + 1, s + N, by omega, by go_num, by rw [HP.out]; go_num, Lib.hid (by rw [HTK.out, List.sum_append, ← hsum.out]; simp), by have := HP.out; omega, Lib.hid (by rw [HTK.out]; exact HR4.out), HB4⟩
            case measure => simp [intOf]; omega
          · have hd : decide ((l.length : Int) - (p : Int) < (N : Int)) = true := by simp; omega
            have he : drawCode l a zs = 8 := by
              have h1 := nats_sum_take zs (q + 1)
              rw [HTK.out, List.sum_append, ← hsum.out] at h1
              have h2 : (List.sum [N] : Nat) = N := by simp
              rw [drawCode, if_neg HNO.out, if_pos (by have := HP.out; omega)]
            have HE := Lib.hid he; clear he
            have HR1 := Lib.hid (draw_refused HE.out (by omega)).1; have HR2 := Lib.hid (draw_refused HE.out (by omega)).2
            go_wp2
            go_ret3
            exact ⟨.slice none 0 0, by rw [HE.out, HR1.out]; rfl, by rw [HR2.out]; exact OwnRs.nil _ _, hbe.out⟩
        · have hqe : zs.take q = zs := List.take_of_length_le (by omega)
          rw [hqe] at hsum hown
          have he : drawCode l a zs = 0 := by
            rw [drawCode, if_neg HNO.out, if_neg (by rw [← hsum.out]; have := HP.out; omega)]
          have HE := Lib.hid he; clear he
          have HR1 := Lib.hid (draw_done HE.out).1; have HR2 := Lib.hid (draw_done HE.out).2
          have hpa : ((a + (nats zs).sum : Nat) : Int) = (p : Int) := by rw [HP.out, hsum.out]
          have HPA := Lib.hid hpa
          clear hqe hpa
          go_wp2
          go_ret3
          exact ⟨u10, by rw [HE.out, HR1.out, HPA.out]; rfl, by rw [HR2.out]; exact hown.out, hbe.out⟩
end Go.Proofs.Ytlheekbbioajpab
