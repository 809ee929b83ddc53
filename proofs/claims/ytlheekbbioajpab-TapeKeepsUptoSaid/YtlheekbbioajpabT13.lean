/- Acknowledgements: NewAcks, First and Acked of the program; Acks and First of the reference. -/
import Derived.Test.YtlheekbbioajpabT12
namespace Go.Proofs.Ytlheekbbioajpab
open Go.RowKit

/-- acknowledgements as the values of their cells -/
def av (xs : List (Int × Int)) : List (Value × Value) := xs.map fun t => (.int .i64 t.1, .int .u64 t.2)
theorem av_len (xs : List (Int × Int)) : (av xs).length = xs.length := by simp [av]
theorem av_at (xs : List (Int × Int)) (j : Nat) (h : j < (av xs).length) : (av xs)[j] = (.int .i64 (xs[j]'(by simpa [av] using h)).1, .int .u64 (xs[j]'(by simpa [av] using h)).2) := by simp [av]
theorem av_one (xs : List (Int × Int)) : One2 (av xs) := by
  intro p hp
  obtain ⟨t, _, rfl⟩ := List.mem_map.1 hp
  exact ⟨rfl, rfl⟩
theorem P2.lenA {w : World} {S : Nat → Prop} {v : Value} {xs : List (Int × Int)} (h : P2 w S v (av xs)) : ∃ A c, v = .slice A xs.length c := by
  obtain ⟨A, c, hv⟩ := h.shape
  rw [av_len] at hv
  exact ⟨A, c, hv⟩
theorem P2.cellsA {w : World} {S : Nat → Prop} {A : Option Addr} {n c : Nat} {xs : List (Int × Int)} (h : P2 w S (.slice A n c) (av xs)) (hp : 0 < xs.length) : ∃ b off, A = some ⟨b, off, none⟩ ∧ b < w.heap.size ∧ S b ∧ ∀ j (hj : j < xs.length), w.cell? ⟨b, off + j * 2, none⟩ = some (.int .i64 xs[j].1) ∧ w.cell? ⟨b, off + j * 2 + 1, none⟩ = some (.int .u64 xs[j].2) := by
  obtain ⟨A', c', hv, h1, h2, h3⟩ := h
  obtain ⟨b, off, rfl, hlt, hS, hc⟩ := h3 (by rw [av_len]; exact hp)
  simp only [Value.slice.injEq] at hv
  refine ⟨b, off, hv.1, hlt, hS, fun j hj => ?_⟩
  have := hc j (by rw [av_len]; exact hj)
  rw [av_at] at this
  exact this
/-- what First looks for: the least tick of those with this number -/
def fstep (id : Int) (s : Int × Bool) (a : Int × Int) : Int × Bool := if a.2 = id ∧ (s.2 = false ∨ a.1 < s.1) then (a.1, true) else s
def firstL (xs : List (Int × Int)) (id : Int) : Int × Bool := xs.foldl (fstep id) (0, false)
theorem firstL_succ (xs : List (Int × Int)) (id : Int) (k : Nat) (h : k < xs.length) : firstL (xs.take (k + 1)) id = fstep id (firstL (xs.take k) id) xs[k] := by
  rw [List.take_succ_eq_append_getElem h, firstL, List.foldl_append]
  rfl
/-- the error of a list of acknowledgements -/
def ackE (xs : List (Int × Int)) : Int := if ∃ j, ∃ h : j < xs.length, xs[j].1 < 0 then 1 else if 256 < xs.length then 2 else 0
theorem ainfo : (Try.prog.info? 76).map (fun i => (i.zero, i.size, i.bytes)) = some (some (.agg #[.int .i64 0, .int .u64 0]), 2, 16) := by kernel_rfl
theorem asl : Try.prog.underlying 69 = some (.slice 76) := by kernel_rfl

set_option maxRecDepth 100000 in
set_option maxHeartbeats 4000000 in
theorem refacks_any {w : World} {S : Nat → Prop} {v : Value} {xs : List (Int × Int)} (hv : P2 w S v (av xs)) (hn : xs.length ≤ 8796093022207) :
    Calls Try.prog 29 #[v] w fun e w' => e = .returned (.int .i64 (ackE xs)) ∧ w = w' := by
  obtain ⟨A, c, rfl⟩ := hv.lenA
  obtain ⟨n, hnn⟩ : ∃ n, n = xs.length := ⟨_, rfl⟩
  rw [← hnn] at hn hv ⊢
  have HNN := Lib.hid hnn; have HV := Lib.hid hv
  clear hnn hv
  go_enter Try.func29, Try.ntmps29
  go_wp2
  go_loop [3] (fun i => ∃ k : Nat, k ≤ n ∧ i = .int .i64 k ∧ Hid (∀ j (h : j < xs.length), j < k → ¬ xs[j].1 < 0)) (fun i => n - (intOf i).toNat)
  case atStart => exact ⟨0, Nat.zero_le _, rfl, Lib.hid (fun j h hj => absurd hj (by omega))⟩
  case round =>
    obtain ⟨k, hk, rfl, hpos⟩ := hrel
    by_cases hlt : k < n
    · have hkt : k < xs.length := by rw [← HNN.out]; exact hlt
      obtain ⟨b, off, rfl, _, _, hc⟩ := HV.out.cellsA (by omega)
      have k0 := (hc k hkt).1
      obtain ⟨x, hx⟩ : ∃ x, xs[k].1 = x := ⟨_, rfl⟩
      rw [hx] at k0
      have HX := Lib.hid hx; have HKT := Lib.hid hkt
      clear hc hx
      by_cases hx0 : x < 0
      · have he : ackE xs = 1 := if_pos ⟨k, HKT.out, by rw [HX.out]; exact hx0⟩
        have HE := Lib.hid he; clear he
        go_wp2
        go_ret
        exact ⟨ret_int HE.out.symm, rfl⟩
      · go_wp2
        go_round
        case rel => exact ⟨k + 1, by omega, by go_num, Lib.hid (fun j h hj => by
          rcases Nat.lt_or_ge j k with hjk | hjk
          · exact hpos.out j h hjk
          · obtain rfl : j = k := by omega
            rw [HX.out]; omega)⟩
        case measure => simp [intOf]; omega
    · have hno : ¬ ∃ j, ∃ h : j < xs.length, xs[j].1 < 0 := fun ⟨j, h, hj⟩ => hpos.out j h (by have := HNN.out; omega) hj
      by_cases hl : 256 < n
      · have hd : decide ((256 : Int) < (n : Int)) = true := by simp; omega
        have he : ackE xs = 2 := by rw [ackE, if_neg hno, if_pos (by rw [← HNN.out]; exact hl)]
        have HE := Lib.hid he; clear he hno
        go_wp2
        go_ret
        exact ⟨ret_int HE.out.symm, rfl⟩
      · have hd : decide ((256 : Int) < (n : Int)) = false := by simp; omega
        have he : ackE xs = 0 := by rw [ackE, if_neg hno, if_neg (by rw [← HNN.out]; exact hl)]
        have HE := Lib.hid he; clear he hno
        go_wp2
        go_ret
        exact ⟨ret_int HE.out.symm, rfl⟩

set_option maxRecDepth 100000 in
set_option maxHeartbeats 4000000 in
theorem reffirst_any {w : World} {S : Nat → Prop} {v : Value} {xs : List (Int × Int)} {id : Int} (hv : P2 w S v (av xs)) (hn : xs.length ≤ 8796093022207) :
    Calls Try.prog 31 #[v, .int .u64 id] w fun e w' => e = .returned (.tuple #[.int .i64 (firstL xs id).1, .bool (firstL xs id).2]) ∧ w = w' := by
  obtain ⟨A, c, rfl⟩ := hv.lenA
  obtain ⟨n, hnn⟩ : ∃ n, n = xs.length := ⟨_, rfl⟩
  rw [← hnn] at hn hv ⊢
  have HNN := Lib.hid hnn; have HV := Lib.hid hv
  clear hnn hv
  go_enter Try.func31, Try.ntmps31
  go_wp2
  go_loop [6, 7, 8] (fun b o i => ∃ (k : Nat) (m : Int) (f : Bool), k ≤ n ∧ i = .int .i64 k ∧ b = .int .i64 m ∧ o = .bool f ∧ Hid (firstL (xs.take k) id = (m, f))) (fun _ _ i => n - (intOf i).toNat)
  case atStart => exact ⟨0, 0, false, Nat.zero_le _, rfl, rfl, rfl, Lib.hid rfl⟩
  case round =>
    obtain ⟨k, m, f, hk, rfl, rfl, rfl, hfs⟩ := hrel
    by_cases hlt : k < n
    · have hkt : k < xs.length := by rw [← HNN.out]; exact hlt
      obtain ⟨b, off, rfl, _, _, hc⟩ := HV.out.cellsA (by omega)
      obtain ⟨k0, k1⟩ := hc k hkt
      have hst := firstL_succ xs id k hkt
      rw [hfs.out] at hst
      obtain ⟨x, hx⟩ : ∃ x, xs[k].1 = x := ⟨_, rfl⟩
      obtain ⟨y, hy⟩ : ∃ y, xs[k].2 = y := ⟨_, rfl⟩
      rw [hx] at k0
      rw [hy] at k1
      have hpr : xs[k] = (x, y) := by rw [← hx, ← hy]
      rw [hpr] at hst
      have HST := Lib.hid hst
      clear hc hx hy hkt hpr hst
      by_cases hid : y = id
      · subst hid
        have hyy : (y == y) = true := by simp
        cases f
        · have hs : fstep y (m, false) (x, y) = (x, true) := if_pos ⟨rfl, .inl rfl⟩
          have HS := Lib.hid hs; clear hs
          go_wp2
          go_round
          case rel => exact ⟨k + 1, x, true, by omega, by go_num, rfl, rfl, Lib.hid (HST.out.trans HS.out)⟩
          case measure => simp [intOf]; omega
        · by_cases hxm : x < m
          · have hs : fstep y (m, true) (x, y) = (x, true) := if_pos ⟨rfl, .inr hxm⟩
            have HS := Lib.hid hs; clear hs
            go_wp2
            go_round
            case rel => exact ⟨k + 1, x, true, by omega, by go_num, rfl, rfl, Lib.hid (HST.out.trans HS.out)⟩
            case measure => simp [intOf]; omega
          · have hs : fstep y (m, true) (x, y) = (m, true) := if_neg (fun h => h.2.elim (fun e => by cases e) (fun e => hxm e))
            have HS := Lib.hid hs; clear hs
            have hd : decide (x < m) = false := by simpa using hxm
            go_wp2
            go_round
            case rel => exact ⟨k + 1, m, true, by omega, by go_num, rfl, rfl, Lib.hid (HST.out.trans HS.out)⟩
            case measure => simp [intOf]; omega
      · have hyy : (y == id) = false := by rw [beq_eq_false_iff_ne]; exact hid
        have hs : fstep id (m, f) (x, y) = (m, f) := if_neg (fun h => hid h.1)
        have HS := Lib.hid hs; clear hs hid
        go_wp2
        go_round
        case rel => exact ⟨k + 1, m, f, by omega, by go_num, rfl, rfl, Lib.hid (HST.out.trans HS.out)⟩
        case measure => simp [intOf]; omega
    · have he : firstL xs id = (m, f) := by
        have := hfs.out
        rwa [List.take_of_length_le (by have := HNN.out; omega)] at this
      have HE := Lib.hid he; clear he
      go_wp2
      go_ret2
      exact ⟨by rw [HE.out]; rfl, rfl⟩

set_option maxRecDepth 100000 in
set_option maxHeartbeats 4000000 in
theorem first_acks {w : World} {S : Nat → Prop} {v : Value} {xs : List (Int × Int)} {id : Int} (hv : P2 w S v (av xs)) (hn : xs.length ≤ 8796093022207) :
    Calls Try.prog 30 #[.agg #[v], .int .u64 id] w fun e w' => e = .returned (.tuple #[.int .i64 (firstL xs id).1, .bool (firstL xs id).2]) ∧ Below w.heap.size w w' := by
  obtain ⟨A, c, rfl⟩ := hv.lenA
  obtain ⟨n, hnn⟩ : ∃ n, n = xs.length := ⟨_, rfl⟩
  rw [← hnn] at hn hv ⊢
  have HNN := Lib.hid hnn
  have HV := Lib.hid (hv.al (.cells #[.slice A n c] 71))
  have HB0 := Lib.hid ((Below.refl w.heap.size w).alloc (Nat.le_refl _) (.cells #[.slice A n c] 71))
  have HZ0 : Hid ((w.alloc (.cells #[.slice A n c] 71)).heap.size = w.heap.size + 1) := Lib.hid (by simp)
  clear hnn hv
  go_enter Try.func30, Try.ntmps30
  go_wp2_with fail
  generalize w.alloc (.cells #[.slice A n c] 71) = W1 at HV HB0 HZ0 ⊢
  go_loopw [6, 7, 13] (fun b o i wr => ∃ (k : Nat) (m : Int) (f : Bool), k ≤ n ∧ i = .int .i64 k ∧ b = .int .i64 m ∧ o = .bool f ∧ Hid (firstL (xs.take k) id = (m, f)) ∧ Hid (Below W1.heap.size W1 wr)) (fun _ _ i _ => n - (intOf i).toNat)
  case atStart => exact ⟨0, 0, false, Nat.zero_le _, rfl, rfl, rfl, Lib.hid rfl, Lib.hid (Below.refl _ _)⟩
  case round =>
    obtain ⟨k, m, f, hk, rfl, rfl, rfl, hfs, hbe⟩ := hrel
    by_cases hlt : k < n
    · have hkt : k < xs.length := by rw [← HNN.out]; exact hlt
      obtain ⟨b, off, rfl, _, _, hc⟩ := (HV.out.below hbe.out (Nat.le_refl _)).cellsA (by omega)
      obtain ⟨k0, k1⟩ := hc k hkt
      have hst := firstL_succ xs id k hkt
      rw [hfs.out] at hst
      obtain ⟨x, hx⟩ : ∃ x, xs[k].1 = x := ⟨_, rfl⟩
      obtain ⟨y, hy⟩ : ∃ y, xs[k].2 = y := ⟨_, rfl⟩
      rw [hx] at k0
      rw [hy] at k1
      have hpr : xs[k] = (x, y) := by rw [← hx, ← hy]
      rw [hpr] at hst
      have HST := Lib.hid hst
      have HBA := Lib.hid (hbe.out.alloc hbe.out.size (.cells #[.int .i64 x, .int .u64 y] 76))
      clear hc hx hy hkt hpr hst
      by_cases hid : y = id
      · subst hid
        have hyy : (y == y) = true := by simp
        cases f
        · have hs : fstep y (m, false) (x, y) = (x, true) := if_pos ⟨rfl, .inl rfl⟩
          have HS := Lib.hid hs; clear hs
          go_wp2
          go_roundw
          case rel => exact ⟨k + 1, x, true, by omega, by go_num, rfl, rfl, Lib.hid (HST.out.trans HS.out), HBA⟩
          case measure => simp [intOf]; omega
        · by_cases hxm : x < m
          · have hs : fstep y (m, true) (x, y) = (x, true) := if_pos ⟨rfl, .inr hxm⟩
            have HS := Lib.hid hs; clear hs
            go_wp2
            go_roundw
            case rel => exact ⟨k + 1, x, true, by omega, by go_num, rfl, rfl, Lib.hid (HST.out.trans HS.out), HBA⟩
            case measure => simp [intOf]; omega
          · have hs : fstep y (m, true) (x, y) = (m, true) := if_neg (fun h => h.2.elim (fun e => by cases e) (fun e => hxm e))
            have HS := Lib.hid hs; clear hs
            have hd : decide (x < m) = false := by simpa using hxm
            go_wp2
            go_roundw
            case rel => exact ⟨k + 1, m, true, by omega, by go_num, rfl, rfl, Lib.hid (HST.out.trans HS.out), HBA⟩
            case measure => simp [intOf]; omega
      · have hyy : (y == id) = false := by rw [beq_eq_false_iff_ne]; exact hid
        have hs : fstep id (m, f) (x, y) = (m, f) := if_neg (fun h => hid h.1)
        have HS := Lib.hid hs; clear hs hid
        go_wp2
        go_roundw
        case rel => exact ⟨k + 1, m, f, by omega, by go_num, rfl, rfl, Lib.hid (HST.out.trans HS.out), HBA⟩
        case measure => simp [intOf]; omega
    · have he : firstL xs id = (m, f) := by
        have := hfs.out
        rwa [List.take_of_length_le (by have := HNN.out; omega)] at this
      have HE := Lib.hid he; clear he
      go_wp2
      go_ret2
      exact ⟨by rw [HE.out]; rfl, HB0.out.trans (hbe.out.mono (by have := HZ0.out; omega))⟩

set_option maxRecDepth 100000 in
set_option maxHeartbeats 4000000 in
theorem acked_any {w : World} {S : Nat → Prop} {v : Value} {xs : List (Int × Int)} {id now : Int} (hv : P2 w S v (av xs)) (hn : xs.length ≤ 8796093022207) :
    Calls Try.prog 27 #[.agg #[v], .int .u64 id, .int .i64 now] w fun e w' => e = .returned (.bool ((firstL xs id).2 && decide ((firstL xs id).1 ≤ now))) ∧ Below w.heap.size w w' := by
  obtain ⟨A, c, rfl⟩ := hv.lenA
  have C := Lib.hid (first_acks (id := id) (hv.al (.cells #[.slice A xs.length c] 71)) hn)
  have HB0 := Lib.hid ((Below.refl w.heap.size w).alloc (Nat.le_refl _) (.cells #[.slice A xs.length c] 71))
  obtain ⟨⟨m, f⟩, hmf⟩ : ∃ p, firstL xs id = p := ⟨_, rfl⟩
  rw [hmf] at C ⊢
  clear hv hmf
  go_enter Try.func27, Try.ntmps27
  go_wp2_with fail
  refine (C.out).mono ?_
  rintro e w1 ⟨rfl, hb1⟩
  have HB1 := Lib.hid (HB0.out.trans (hb1.mono HB0.out.size))
  clear hb1
  cases f
  · go_wp2
    go_ret
    exact ⟨by simp, HB1.out⟩
  · go_wp2
    go_ret
    exact ⟨by simp, HB1.out⟩
end Go.Proofs.Ytlheekbbioajpab
