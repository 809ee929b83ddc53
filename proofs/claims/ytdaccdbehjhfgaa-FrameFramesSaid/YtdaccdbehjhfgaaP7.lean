/- Parse of the reference. -/
import Derived.Test.YtdaccdbehjhfgaaP6
namespace Go.Proofs.Ytdaccdbehjhfgaa
open Go.RowKit

theorem getP_front (K : Nat) (l : List UInt8) (a : Nat) : ∀ k, k ≤ K → getP 2 (K + 1) l a (k + 1) = getP 2 K l a k * 256 + (l.getD (a + K) 0).toNat
  | 0, _ => by simp [getP, idx]
  | k + 1, hk => by
    rw [getP, getP_front K l a k (by omega), getP, show idx 2 (K + 1) (k + 1) = idx 2 K k by simp only [idx_big]; omega, Nat.pow_succ, Nat.add_mul]
    rw [Nat.mul_assoc ((l.getD (a + idx 2 K k) 0).toNat)]
    omega
theorem getP_next (K : Nat) (l : List UInt8) (a : Nat) : getP 2 (K + 1) l a (K + 1) = getP 2 K l a K * 256 + (l.getD (a + K) 0).toNat := getP_front K l a K (Nat.le_refl _)
theorem Bs.cell {w : World} {B n c k : Nat} {A : Option Addr} {l : List UInt8} (h : Bs w B (.slice A n c) l) (hk : k < l.length) : ∃ b off, A = some ⟨b, off, none⟩ ∧ b < B ∧ w.cell? ⟨b, off + k, none⟩ = some (.int .u8 ((l.getD k 0).toNat : Int)) := by
  obtain ⟨A', c', hv, h1, h2, h3⟩ := h
  simp only [Value.slice.injEq] at hv
  obtain ⟨rfl, _, _⟩ := hv
  obtain ⟨b, off, rfl, hlt, hc⟩ := h3 (by omega)
  refine ⟨b, off, rfl, hlt, ?_⟩
  rw [hc k hk]
  simp [hk]
theorem keepC {wr : World} {o : Obj} {b q : Nat} {x : Option Value} (hb : b < wr.heap.size) (h : wr.cell? ⟨b, q, none⟩ = x) : (wr.alloc o).drew.cell? ⟨b, q, none⟩ = x :=
  (((Below.refl wr.heap.size wr).alloc (Nat.le_refl _) o).cell (p := ⟨b, q, none⟩) hb).trans h
/-- a part's cells with a number -/
def rwP (K I N : Nat) (id : Nat) : Array Value := #[.int .u8 (K : Int), .int .u64 (id : Int), .int .i64 (I : Int), .int .i64 (N : Int), .slice none 0 0]
theorem getP1 (l : List UInt8) (a : Nat) : getP 2 1 l a 1 = (l.getD a 0).toNat := by simp [getP, idx]
theorem getP22 (l : List UInt8) : getP 2 2 l 28 2 = (l.getD 28 0).toNat * 256 + (l.getD 29 0).toNat := by
  simp [getP, idx]
  omega
theorem frm_zero (k id a b : Nat) : getP 2 2 (frmL k id a b []) 28 2 = 0 := by
  have h := putL22 (L := 0) (by omega)
  have e : frmL k id a b [] = (zs 16 ++ [UInt8.ofNat k, UInt8.ofNat a, UInt8.ofNat b, 0] ++ putL 2 8 id) ++ (0 :: 0 :: zs 450) := by
    unfold frmL
    rw [show putL 2 2 ([] : List UInt8).length = [0, 0] from h]
    simp
  have hA : (zs 16 ++ [UInt8.ofNat k, UInt8.ofNat a, UInt8.ofNat b, 0] ++ putL 2 8 id).length = 28 := by simp [zs_len, putL_length]
  rw [getP22, e, List.getD_eq_getElem?_getD, List.getD_eq_getElem?_getD, List.getElem?_append_right (by omega), List.getElem?_append_right (by omega), hA]
  rfl
theorem chk_in {l : List UInt8} (h : 1 ≤ (l.getD 16 0).toNat ∧ (l.getD 16 0).toNat ≤ 3) : (rdP l).chk ≠ 1 := by
  have hk : (rdP l).k = (l.getD 16 0).toNat := getP1 l 16
  unfold Pt.chk chk
  rw [if_neg (by rw [hk]; omega)]
  repeat' split
  all_goals decide
theorem eP_in {l : List UInt8} (hl : l.length = 480) (hz : l.take 16 = zs 16) (h : 1 ≤ (l.getD 16 0).toNat ∧ (l.getD 16 0).toNat ≤ 3) : eP l = if (rdP l).frm = l then 0 else 3 := by
  unfold eP
  rw [if_neg (by rw [hl]; simp), if_neg (by simp [hz]), if_neg (chk_in h)]
theorem eP_big {l : List UInt8} (hl : l.length = 480) (hz : l.take 16 = zs 16) (h : 1 ≤ (l.getD 16 0).toNat ∧ (l.getD 16 0).toNat ≤ 3) (hr : 450 < getP 2 2 l 28 2) : eP l = 3 := by
  rw [eP_in hl hz h, if_neg]
  intro e
  have hd : (rdP l).d = [] := by show cutD l _ = []; unfold cutD; rw [if_neg (by omega)]
  unfold Pt.frm at e
  split at e
  · rw [hd] at e
    rw [← e, frm_zero] at hr
    omega
  · rw [← e] at hl
    simp at hl
theorem refframe_any {p : Pt} {c B : Nat} {A : Option Addr} {w : World} (hd : Bs w B (.slice A p.d.length c) p.d) (hB : B ≤ w.heap.size) (hid : p.id < 18446744073709551616) (hL : p.d.length ≤ 281474976710656) :
    Calls Try.prog 15 #[p.agg A c] w fun e w' => ∃ A2 c2, e = .returned (.tuple #[.slice A2 p.frm.length c2, .int .i64 p.chk]) ∧ Own w' w.heap.size (.slice A2 p.frm.length c2) p.frm ∧ Below w.heap.size w w' := by
  unfold Pt.frm
  by_cases h : p.chk = 0
  · rw [if_pos h, h]
    refine (refframe_ok hd hB hid h).mono ?_
    rintro e w' ⟨u, rfl, ho, hb⟩
    obtain ⟨A2, c2, rfl⟩ := ho.shape
    exact ⟨A2, c2, rfl, ho, hb⟩
  · rw [if_neg h]
    refine (refframe_no hL h w).mono ?_
    rintro e w' ⟨rfl, hb⟩
    exact ⟨none, 0, rfl, Own.nil _ _, hb⟩
set_option maxRecDepth 100000 in
set_option maxHeartbeats 4000000 in
theorem refparse_any {l : List UInt8} {v : Value} {w : World} {B : Nat} (hb : Bs w B v l) (hB : B ≤ w.heap.size) (hl : l.length ≤ 281474976710656) :
    Calls Try.prog 20 #[v] w fun e w' => ∃ A c, e = .returned (.tuple #[(parP l).agg A c, .int .i64 (eP l)]) ∧ Own w' w.heap.size (.slice A (parP l).d.length c) (parP l).d ∧ Below w.heap.size w w' := by
  obtain ⟨A, c, rfl⟩ := hb.shape
  obtain ⟨W0, hW0⟩ : ∃ W0, W0 = w.alloc (.cells #[.int .u8 0, .int .u64 0, .int .i64 0, .int .i64 0, .slice none 0 0] 25) := ⟨_, rfl⟩
  have hb0 : Below w.heap.size w W0 := by rw [hW0]; exact (Below.refl _ _).alloc (Nat.le_refl _) _
  have hp0 : Pz W0 w.heap.size := by rw [hW0]; exact heap_alloc_new w _
  have HL := Lib.hid (hb.below hb0 hB)
  have HRZ := Lib.hid (info25 0 0 0 0 (.slice none 0 0))
  obtain ⟨n, hn⟩ : ∃ n, n = l.length := ⟨_, rfl⟩
  rw [← hn] at HL hl ⊢
  have HP := Lib.hid hp0; have HB0 := Lib.hid hb0; have HN := Lib.hid hn; have HW0 := Lib.hid hW0
  clear hb hb0 hn hW0
  go_enter Try.func20, Try.ntmps20
  go_upto_region 1 with fail
  rw [← HW0.out]
  clear HW0
  by_cases h480 : n = 480
  · subst h480
    have hl480 : l.length = 480 := HN.out.symm
    clear hp0
    have HZ0 : Hid (l.take 0 = zs 0) := Lib.hid (by simp [zs])
    go_wp2_with fail
    go_loopw [4] (fun i wr => ∃ k : Nat, k ≤ 16 ∧ i = .int .i64 k ∧ Hid (Pz wr w.heap.size) ∧ Hid (Below w.heap.size w wr) ∧ Hid (Bs wr B (.slice A 480 c) l) ∧ Hid (l.take k = zs k)) (fun i _ => 16 - (intOf i).toNat)
    case atStart => exact ⟨0, by decide, rfl, HP, HB0, HL, HZ0⟩
    case round =>
      obtain ⟨k, hk, rfl, HP1, HB1, HL1, HZ1⟩ := hrel
      clear HP HB0 HL HZ0
      by_cases hlt : k < 16
      · obtain ⟨b, off, rfl, hbB, hcell⟩ := HL1.out.cell (k := k) (by omega)
        obtain ⟨y, hy⟩ : ∃ y, y = l.getD k 0 := ⟨_, rfl⟩
        rw [← hy] at hcell
        by_cases hy0 : y.toNat = 0
        · have hz2 : l.take (k + 1) = zs (k + 1) := by
            have e : l[k]? = some 0 := by
              have h1 : y = 0 := UInt8.toNat_inj.1 (by simpa using hy0)
              have h2 := hy
              rw [h1, List.getD_eq_getElem?_getD, List.getElem?_eq_getElem (by omega)] at h2
              rw [List.getElem?_eq_getElem (by omega)]
              simpa using h2.symm
            rw [List.take_add_one, e, HZ1.out, zs_add]
            rfl
          have HZ2 := Lib.hid hz2
          have hyI : (y.toNat : Int) = 0 := by omega
          rw [hyI] at hcell
          clear hz2 hy hyI hy0
          go_wp2
          go_roundw
          case rel => exact ⟨k + 1, by omega, by go_num, HP1, HB1, HL1, HZ2⟩
          case measure => simp [intOf]; omega
        · have HE : Hid (eP l = 7) := Lib.hid (by
            unfold eP
            rw [if_neg (by rw [hl480]; simp), if_pos (fun h16 => hy0 (by
              have h2 : (l.take 16)[k]? = (zs 16)[k]? := by rw [h16]
              rw [List.getElem?_take, if_pos hlt] at h2
              rw [hy, List.getD_eq_getElem?_getD, h2]
              show ((List.replicate 16 (0 : UInt8))[k]?.getD 0).toNat = 0
              rw [List.getElem?_replicate, if_pos hlt]
              rfl))])
          have hyI : ¬ (y.toNat : Int) = 0 := by omega
          have hp1 := HP1.out
          have s0 := cell_of_row _ _ 0 _ _ _ hp1
          have s1 := cell_of_row _ _ 1 _ _ _ hp1
          have s2 := cell_of_row _ _ 2 _ _ _ hp1
          have s3 := cell_of_row _ _ 3 _ _ _ hp1
          have s4 := cell_of_row _ _ 4 _ _ _ hp1
          have f0 := frozen_of_row _ w.heap.size 0 _ _ hp1
          have f1 := frozen_of_row _ w.heap.size 1 _ _ hp1
          have f2 := frozen_of_row _ w.heap.size 2 _ _ hp1
          have f3 := frozen_of_row _ w.heap.size 3 _ _ hp1
          have f4 := frozen_of_row _ w.heap.size 4 _ _ hp1
          simp at s0 s1 s2 s3 s4
          clear hy hy0 hp1
          go_wp2
          refine bodyPost_ret (results_cell_tmp rfl _ _ w.heap.size 25 #[.int .u8 0, .int .u64 0, .int .i64 0, .int .i64 0, .slice none 0 0] (0, 0) _ (.int .i64 7) rfl rfl (set5_row HP1.out) Try.underlying25 rfl HRZ.out) rfl ?_
          exact zero_end HE.out (by decide) (five_below HB1.out (Nat.le_refl _) _ _ _ _ _)
      · have hk16 : k = 16 := by omega
        have hz16 : l.take 16 = zs 16 := by have h := HZ1.out; rwa [hk16] at h
        have HZ16 := Lib.hid hz16
        clear hk16 hz16 HZ1
        obtain ⟨b, off, rfl, hbB, h16⟩ := HL1.out.cell (k := 16) (by omega)
        have h17 : wr.cell? ⟨b, off + 17, none⟩ = some (.int .u8 ((l.getD 17 0).toNat : Int)) := by
          obtain ⟨b', off', e', _, h⟩ := HL1.out.cell (k := 17) (by omega)
          simp only [Option.some.injEq, Addr.mk.injEq] at e'
          obtain ⟨rfl, rfl, _⟩ := e'
          exact h
        have h18 : wr.cell? ⟨b, off + 18, none⟩ = some (.int .u8 ((l.getD 18 0).toNat : Int)) := by
          obtain ⟨b', off', e', _, h⟩ := HL1.out.cell (k := 18) (by omega)
          simp only [Option.some.injEq, Addr.mk.injEq] at e'
          obtain ⟨rfl, rfl, _⟩ := e'
          exact h
        obtain ⟨K, hK⟩ : ∃ K, K = (l.getD 16 0).toNat := ⟨_, rfl⟩
        obtain ⟨I, hI⟩ : ∃ I, I = (l.getD 17 0).toNat := ⟨_, rfl⟩
        obtain ⟨N, hN⟩ : ∃ N, N = (l.getD 18 0).toNat := ⟨_, rfl⟩
        rw [← hK] at h16
        rw [← hI] at h17
        rw [← hN] at h18
        have hK8 : K < 256 := by rw [hK]; exact UInt8.toNat_lt _
        have hI8 : I < 256 := by rw [hI]; exact UInt8.toNat_lt _
        have hN8 : N < 256 := by rw [hN]; exact UInt8.toNat_lt _
        have cvI : IntKind.i64.wrap (I : Int) = (I : Int) := IntWalk.i64_in _ (by omega)
        have cvN : IntKind.i64.wrap (N : Int) = (N : Int) := IntWalk.i64_in _ (by omega)
        have HK := Lib.hid hK; have HI := Lib.hid hI; have HNN := Lib.hid hN
        have hbr : b < wr.heap.size := by have := HB1.out.size; omega
        clear hK hI hN
        go_wp2_with fail
        go_region_held3 (fun w' => w'.cell? ⟨b, off + 16, none⟩ = some (.int .u8 (K : Int)) ∧ w'.cell? ⟨b, off + 17, none⟩ = some (.int .u8 (I : Int)) ∧ w'.cell? ⟨b, off + 18, none⟩ = some (.int .u8 (N : Int))) (first | exact ⟨h16, h17, h18⟩ | exact ⟨keepC hbr h16, keepC hbr h17, keepC hbr h18⟩) (fail)
        have hrow : ((wr.alloc (.cells (rwP K I N 0) 25)).drew).heap[wr.heap.size]? = some (.cells (rwP K I N 0) 25 (0, 0)) := heap_alloc_new wr _
        have hb2 : Below wr.heap.size wr (wr.alloc (.cells (rwP K I N 0) 25)).drew := ((Below.refl _ _).alloc (Nat.le_refl _) _).drew
        have hpz : w.heap.size < wr.heap.size := (Array.getElem?_eq_some_iff.1 HP1.out).1
        have hp2 : Pz (wr.alloc (.cells (rwP K I N 0) 25)).drew w.heap.size := (hb2.block _ hpz).trans HP1.out
        have hbw : Below w.heap.size w (wr.alloc (.cells (rwP K I N 0) 25)).drew := HB1.out.trans (hb2.mono (Nat.le_of_lt hpz))
        have hl2 : Bs (wr.alloc (.cells (rwP K I N 0) 25)).drew B (.slice (some ⟨b, off, none⟩) 480 c) l := HL1.out.below hb2 (by omega)
        have hsz2 : wr.heap.size < (wr.alloc (.cells (rwP K I N 0) 25)).drew.heap.size := by simp
        obtain ⟨W2, hW2⟩ : ∃ W2, W2 = (wr.alloc (.cells (rwP K I N 0) 25)).drew := ⟨_, rfl⟩
        rw [← hW2] at hrow hp2 hbw hl2 hsz2
        have HW2 : Hid (W2 = (wr.alloc (.cells #[.int .u8 (K : Int), .int .u64 0, .int .i64 (I : Int), .int .i64 (N : Int), .slice none 0 0] 25)).drew) := Lib.hid hW2
        rw [← HW2.out]
        obtain ⟨pb, hpb⟩ : ∃ pb, pb = wr.heap.size := ⟨_, rfl⟩
        rw [← hpb] at hrow hpz hsz2 ⊢
        have HROW := Lib.hid hrow; have HP2 := Lib.hid hp2; have HB2 := Lib.hid hbw; have HL2 := Lib.hid hl2
        have p0 : W2.cell? ⟨pb, 0, none⟩ = some (.int .u8 (K : Int)) := by rw [cell_of_row _ _ 0 _ _ _ hrow]; rfl
        clear HW2 hW2 hpb h16 h17 h18 hrow hbw hl2 hb2 HP1 HB1 HL1 cvI cvN hbr hbB hI8 hN8
        by_cases hk13 : 1 ≤ K ∧ K ≤ 3
        · have hk1 : ¬ (K : Int) < 1 := by omega
          have hk3 : ¬ (3 : Int) < (K : Int) := by omega
          have HB20 : Hid (Below pb W2 W2) := Lib.hid (Below.refl _ _)
          have HSZ20 := Lib.hid hsz2
          have HK13 := Lib.hid hk13
          clear hk13 hp2
          go_wp2_with fail
          clear p0 hk1 hk3
          go_loopw [6] (fun i wr => ∃ j : Nat, j ≤ 8 ∧ i = .int .i64 ((20 + j : Nat) : Int) ∧ Hid (wr.heap[pb]? = some (.cells (rwP K I N (getP 2 j l 20 j)) 25 (0, 0))) ∧ Hid (Below pb W2 wr) ∧ Hid (pb < wr.heap.size)) (fun i _ => 28 - (intOf i).toNat)
          case atStart => exact ⟨0, Nat.zero_le _, rfl, HROW, HB20, HSZ20⟩
          case round =>
            obtain ⟨j, hj, rfl, hrow, hbe, hgz⟩ := hrel
            clear HROW HB20 HSZ20
            by_cases hlt : j < 8
            · obtain ⟨P, hP⟩ : ∃ P, P = getP 2 j l 20 j := ⟨_, rfl⟩
              obtain ⟨P', hP'⟩ : ∃ P', P' = getP 2 (j + 1) l 20 (j + 1) := ⟨_, rfl⟩
              have hP2 : P' = P * 256 + (l.getD (20 + j) 0).toNat := by rw [hP', hP, getP_next]
              have hPl : P' < 18446744073709551616 := Nat.lt_of_lt_of_le (by rw [hP']; exact getP_lt 2 (j + 1) l 20 (j + 1)) (Nat.le_trans (Nat.pow_le_pow_right (by decide) (by omega : j + 1 ≤ 8)) (by decide))
              obtain ⟨x, hx⟩ : ∃ x, x = (l.getD (20 + j) 0).toNat := ⟨_, rfl⟩
              rw [← hx] at hP2
              have cb : wr.cell? ⟨b, off + (20 + j), none⟩ = some (.int .u8 (x : Int)) := by
                rw [hx]
                obtain ⟨b', off', e', hbl, h⟩ := HL2.out.cell (k := 20 + j) (by omega)
                simp only [Option.some.injEq, Addr.mk.injEq] at e'
                obtain ⟨rfl, rfl, _⟩ := e'
                exact (hbe.out.cell (p := ⟨b, off + (20 + j), none⟩) (by show b < _; omega)).trans h
              rw [← hP] at hrow
              have cd : wr.cell? ⟨pb, 1, none⟩ = some (.int .u64 (P : Int)) := by rw [cell_of_row _ _ 1 _ _ _ hrow.out]; rfl
              have fd : wr.frozen? ⟨pb, 1, none⟩ = false := frozen_of_row _ _ _ _ _ hrow.out
              have w1 : IntKind.u64.wrap ((P : Int) * 256) = (P : Int) * 256 := by rw [IntKind.wrap_u64]; omega
              have w2 : IntKind.u64.wrap ((P : Int) * 256 + (x : Int)) = (P' : Int) := by rw [IntKind.wrap_u64]; omega
              have wx : IntKind.u64.wrap (x : Int) = (x : Int) := by rw [IntKind.wrap_u64]; omega
              have wi : IntKind.i64.wrap (((20 + j : Nat) : Int) + 1) = ((20 + (j + 1) : Nat) : Int) := by rw [IntKind.wrap_i64]; omega
              have l1 : decide (((20 + j : Nat) : Int) < 28) = true := by simp; omega
              have l2 : decide (0 ≤ ((20 + j : Nat) : Int)) = true := by simp; omega
              obtain ⟨q, hq⟩ : ∃ q, q = 20 + j := ⟨_, rfl⟩
              rw [← hq] at cb wi l1 l2 ⊢
              have hq32 : q < 480 := by omega
              have hqi : (q : Int) < 480 := by omega
              have hq0 : (0 : Int) ≤ (q : Int) := by omega
              have HR := Lib.hid (show (wr.setCell ⟨pb, 1, none⟩ (.int .u64 (P' : Int))).heap[pb]? = some (.cells (rwP K I N P') 25 (0, 0)) by rw [heap_setCell_same _ _ 1 _ _ _ hrow.out]; rfl)
              have HBN := Lib.hid (hbe.out.setCell (p := ⟨pb, 1, none⟩) (Nat.le_refl _) (.int .u64 (P' : Int)))
              have HQ := Lib.hid hq
              have HP' := Lib.hid hP'
              clear hP hP' hx hrow hbe hP2 hPl hq
              go_wp2_with fail
              go_still_tail 10, (by kernel_rfl)
              show wpList _ _ _ _ _ wr.drew
              go_wp2
              go_roundw
              case rel => exact ⟨j + 1, by omega, by first | rfl | go_num | (congr 1; omega), by rw [← HP'.out]; exact HR, Lib.hid HBN.out.drew, Lib.hid (by simpa using hgz.out)⟩
              case measure => have := HQ.out; simp [intOf]; omega
            · have hj8 : j = 8 := by omega
              have e28 : ((20 + j : Nat) : Int) = 28 := by omega
              rw [e28]
              rw [hj8] at hrow
              clear hj hlt hj8 e28
              have h28 : wr.cell? ⟨b, off + 28, none⟩ = some (.int .u8 ((l.getD 28 0).toNat : Int)) := by
                obtain ⟨b', off', e', hbl, h⟩ := HL2.out.cell (k := 28) (by omega)
                simp only [Option.some.injEq, Addr.mk.injEq] at e'
                obtain ⟨rfl, rfl, _⟩ := e'
                exact (hbe.out.cell (p := ⟨b, off + 28, none⟩) (by show b < _; omega)).trans h
              have h29 : wr.cell? ⟨b, off + 29, none⟩ = some (.int .u8 ((l.getD 29 0).toNat : Int)) := by
                obtain ⟨b', off', e', hbl, h⟩ := HL2.out.cell (k := 29) (by omega)
                simp only [Option.some.injEq, Addr.mk.injEq] at e'
                obtain ⟨rfl, rfl, _⟩ := e'
                exact (hbe.out.cell (p := ⟨b, off + 29, none⟩) (by show b < _; omega)).trans h
              obtain ⟨r, hr⟩ : ∃ r, r = getP 2 2 l 28 2 := ⟨_, rfl⟩
              have hr2 := hr
              rw [getP22] at hr2
              obtain ⟨X, hX⟩ : ∃ X, X = (l.getD 28 0).toNat := ⟨_, rfl⟩
              obtain ⟨Y, hY⟩ : ∃ Y, Y = (l.getD 29 0).toNat := ⟨_, rfl⟩
              have hX8 : X < 256 := by rw [hX]; exact UInt8.toNat_lt _
              have hY8 : Y < 256 := by rw [hY]; exact UInt8.toNat_lt _
              rw [← hX] at h28 hr2
              rw [← hY] at h29 hr2
              have cX : IntKind.i64.wrap (X : Int) = (X : Int) := IntWalk.i64_in _ (by omega)
              have cY : IntKind.i64.wrap (Y : Int) = (Y : Int) := IntWalk.i64_in _ (by omega)
              have cX2 : IntKind.i64.wrap ((X : Int) * 256) = (X : Int) * 256 := IntWalk.i64_in _ (by omega)
              have cR : IntKind.i64.wrap ((X : Int) * 256 + (Y : Int)) = (r : Int) := by rw [IntWalk.i64_in _ (by omega)]; omega
              have hr64 : r < 65536 := by omega
              have HRR := Lib.hid hr
              have hbe' := hbe.out
              have HPR : Hid (Pz wr w.heap.size) := Lib.hid ((hbe'.block _ hpz).trans HP2.out)
              have HBR := Lib.hid (HB2.out.trans (hbe'.mono (Nat.le_of_lt hpz)))
              have HLR : Hid (Bs wr B (.slice (some ⟨b, off, none⟩) 480 c) l) := Lib.hid (HL2.out.below hbe' (by omega))
              clear hX hY hr hr2 hbe hbe' HP2 HB2 HL2 hX8 hY8
              go_wp2_with fail
              go_region_held3 (fun w' => w'.cell? ⟨b, off + 28, none⟩ = some (.int .u8 (X : Int)) ∧ w'.cell? ⟨b, off + 29, none⟩ = some (.int .u8 (Y : Int))) (exact ⟨h28, h29⟩) (fail)
              have HPD : Hid (Pz wr.drew w.heap.size) := HPR
              have HBD : Hid (Below w.heap.size w wr.drew) := Lib.hid HBR.out.drew
              have HLD : Hid (Bs wr.drew B (.slice (some ⟨b, off, none⟩) 480 c) l) := HLR
              have HRD : Hid (wr.drew.heap[pb]? = some (.cells (rwP K I N (getP 2 8 l 20 8)) 25 (0, 0))) := hrow
              have hgz' : Hid (pb < wr.drew.heap.size) := Lib.hid (by simpa using hgz.out)
              clear HPR HBR HLR hrow hgz h28 h29 cX cY cX2 cR
              generalize wr.drew = w3 at HPD HBD HLD HRD hgz' ⊢
              by_cases hbig : 450 < r
              · have HE : Hid (eP l = 3) := Lib.hid (eP_big hl480 HZ16.out (by rw [← HK.out]; exact HK13.out) (by rw [← HRR.out]; exact hbig))
                have hbI : (450 : Int) < (r : Int) := by omega
                have hp3 := HPD.out
                have s0 := cell_of_row _ _ 0 _ _ _ hp3
                have s1 := cell_of_row _ _ 1 _ _ _ hp3
                have s2 := cell_of_row _ _ 2 _ _ _ hp3
                have s3 := cell_of_row _ _ 3 _ _ _ hp3
                have s4 := cell_of_row _ _ 4 _ _ _ hp3
                have f0 := frozen_of_row _ w.heap.size 0 _ _ hp3
                have f1 := frozen_of_row _ w.heap.size 1 _ _ hp3
                have f2 := frozen_of_row _ w.heap.size 2 _ _ hp3
                have f3 := frozen_of_row _ w.heap.size 3 _ _ hp3
                have f4 := frozen_of_row _ w.heap.size 4 _ _ hp3
                simp at s0 s1 s2 s3 s4
                clear hp3 hbig
                go_wp2
                refine bodyPost_ret (results_cell_tmp rfl _ _ w.heap.size 25 #[.int .u8 0, .int .u64 0, .int .i64 0, .int .i64 0, .slice none 0 0] (0, 0) _ (.int .i64 3) rfl rfl (set5_row HPD.out) Try.underlying25 rfl HRZ.out) rfl ?_
                exact zero_end HE.out (by decide) (five_below HBD.out (Nat.le_refl _) _ _ _ _ _)
              · have hr450 : r ≤ 450 := by omega
                have hrI : ¬ (450 : Int) < (r : Int) := by omega
                have h30 : IntKind.i64.wrap (30 + (r : Int)) = 30 + (r : Int) := IntWalk.i64_in _ (by omega)
                obtain ⟨D, hD, hrun⟩ := HLD.out.piece (lo := 30) (hi := 30 + r) (by omega) (by omega)
                rw [show 30 + r - 30 = r by omega] at hD hrun
                have hrun' : ∀ W, (Instr.slice 23 (.slice (some ⟨b, off, none⟩) 480 c) (some (.int .i64 30)) (some (.int .i64 (30 + (r : Int)))) none).run Try.prog W = .ok (.slice D r (c - 30)) W := fun W => by
                  have h := hrun W
                  rw [show ((30 + r : Nat) : Int) = 30 + (r : Int) by omega] at h
                  exact h
                have hlen : ((l.drop 30).take r).length = r := by rw [List.length_take, List.length_drop, hl480]; omega
                obtain ⟨ID, hID⟩ : ∃ ID, ID = getP 2 8 l 20 8 := ⟨_, rfl⟩
                have hidb : ID < 18446744073709551616 := by rw [hID]; exact getP_lt 2 8 l 20 8
                rw [← hID] at HRD
                obtain ⟨d, hdd⟩ : ∃ d, d = (l.drop 30).take r := ⟨_, rfl⟩
                rw [← hdd] at hD hlen
                have hPd : rdP l = ⟨K, ID, I, N, d⟩ := by
                  unfold rdP cutD
                  rw [getP1, getP1, getP1, ← HK.out, ← HI.out, ← HNN.out, ← hID, ← HRR.out, if_pos hr450, ← hdd]
                obtain ⟨x, hx⟩ : ∃ x, x = (rdP l).chk := ⟨_, rfl⟩
                obtain ⟨F, hF⟩ : ∃ F, F = (rdP l).frm := ⟨_, rfl⟩
                have HEE : Hid (eP l = if F = l then 0 else 3) := Lib.hid (by rw [hF]; exact eP_in hl480 HZ16.out (by rw [← HK.out]; exact HK13.out))
                have HXF : Hid (x ≠ 0 → F ≠ l) := Lib.hid (fun h0 e => by
                  rw [hF, Pt.frm, if_neg (by rw [← hx]; exact h0)] at e
                  rw [← e] at hl480
                  simp at hl480)
                have h5 : ∀ (A : Option Addr) (c : Nat) (W : World), Bs W W.heap.size (.slice A r c) d → Calls Try.prog 15 #[.agg #[.int .u8 (K : Int), .int .u64 (ID : Int), .int .i64 (I : Int), .int .i64 (N : Int), .slice A r c]] W fun e w' => ∃ A2 c2, e = .returned (.tuple #[.slice A2 F.length c2, .int .i64 x]) ∧ Own w' W.heap.size (.slice A2 F.length c2) F ∧ Below W.heap.size W w' := fun A c W hd => by
                  rw [hF, hx, hPd]
                  have h := refframe_any (p := ⟨K, ID, I, N, d⟩) (c := c) (A := A) (w := W) (B := W.heap.size) (by show Bs _ _ (.slice A d.length c) d; rw [hlen]; exact hd) (Nat.le_refl _) hidb (by show d.length ≤ _; omega)
                  unfold Pt.agg at h
                  rw [show (Pt.mk K ID I N d).d.length = r from hlen] at h
                  exact h
                have H5 := Lib.hid h5; have HPD2 := Lib.hid hPd; have HLEN := Lib.hid hlen
                have C1 := Lib.hid (copy_any hD (Nat.le_trans hB HBD.out.size) (by rw [hlen]; omega))
                clear h5 hPd hx hF hdd hID hlen hD hrun hbig
                go_wp2_with fail
                with_reducible refine (C1.out).mono ?_
                rintro e4 w4 ⟨u4, rfl, ho4, hb4⟩
                obtain ⟨A4, c4, rfl⟩ := ho4.shape
                rw [HLEN.out] at ho4 ⊢
                have hr4 := (hb4.block pb hgz'.out).trans HRD.out
                have hp4 : Pz w4 w.heap.size := (hb4.block _ (Array.getElem?_eq_some_iff.1 HPD.out).1).trans HPD.out
                have hc4 : w4.cell? ⟨pb, 4, none⟩ = some (.slice none 0 0) := by rw [cell_of_row _ _ 4 _ _ _ hr4]; rfl
                have hf4 : w4.frozen? ⟨pb, 4, none⟩ = false := frozen_of_row _ _ _ _ _ hr4
                have HR5 : Hid ((w4.setCell ⟨pb, 4, none⟩ (.slice A4 r c4)).heap[pb]? = some (.cells #[.int .u8 (K : Int), .int .u64 (ID : Int), .int .i64 (I : Int), .int .i64 (N : Int), .slice A4 r c4] 25 (0, 0))) := Lib.hid (by rw [heap_setCell_same _ _ 4 _ _ _ hr4]; rfl)
                have HP5 : Hid (Pz (w4.setCell ⟨pb, 4, none⟩ (.slice A4 r c4)) w.heap.size) := Lib.hid ((Below.heap_setCell w4 ⟨pb, 4, none⟩ (.slice A4 r c4) w.heap.size (by show w.heap.size ≠ pb; omega)).trans hp4)
                have HB5 := Lib.hid ((HBD.out.trans (hb4.mono HBD.out.size)).setCell (p := ⟨pb, 4, none⟩) (Nat.le_of_lt hpz) (.slice A4 r c4))
                have HL5 : Hid (Bs (w4.setCell ⟨pb, 4, none⟩ (.slice A4 r c4)) B (.slice (some ⟨b, off, none⟩) 480 c) l) := Lib.hid ((HLD.out.below hb4 (Nat.le_trans hB HBD.out.size)).below ((Below.refl w.heap.size w4).setCell (p := ⟨pb, 4, none⟩) (Nat.le_of_lt hpz) (.slice A4 r c4)) hB)
                have hfar : ∀ j, (Value.slice A4 r c4).ownBlock = some j → j ≠ w.heap.size ∧ j ≠ pb := fun j hj => by
                  have h1 := (World.ownsRow.lt ho4 j hj).1
                  have h2 := hgz'.out
                  have h3 := HBD.out.size
                  exact ⟨by omega, by omega⟩
                have HO5 : Hid (Own (w4.setCell ⟨pb, 4, none⟩ (.slice A4 r c4)) w.heap.size (.slice A4 r c4) d) := Lib.hid ((ho4.more HBD.out.size).kept (scGrown w4 pb 4 _) (by
                  rcases hv : (Value.slice A4 r c4).ownBlock with _ | j
                  · exact .inl rfl
                  · right
                    have := (hfar j hv).2
                    intro e
                    simp only [Option.some.injEq] at e
                    omega))
                have HFAR := Lib.hid hfar
                clear ho4 hb4 hr4 hp4 hfar C1 HPD HBD HLD HRD hgz'
                go_upto_region 19 with fail
                generalize w4.setCell ⟨pb, 4, none⟩ (.slice A4 r c4) = w5 at HR5 HP5 HB5 HL5 HO5 ⊢
                clear hc4 hf4
                have C6 := Lib.hid (H5.out A4 c4 w5 HO5.out.bs)
                have hr5 := HR5.out
                have r0 := cell_of_row _ _ 0 _ _ _ hr5
                have r1 := cell_of_row _ _ 1 _ _ _ hr5
                have r2 := cell_of_row _ _ 2 _ _ _ hr5
                have r3 := cell_of_row _ _ 3 _ _ _ hr5
                have r4 := cell_of_row _ _ 4 _ _ _ hr5
                simp at r0 r1 r2 r3 r4
                clear H5 hr5
                go_wp2_with fail
                clear r0 r1 r2 r3 r4
                with_reducible refine (C6.out).mono ?_
                rintro e6 w6 ⟨A6, c6, rfl, ho6, hb6⟩
                have hr6 := (hb6.block pb (Array.getElem?_eq_some_iff.1 HR5.out).1).trans HR5.out
                have hp6 : Pz w6 w.heap.size := (hb6.block _ (Array.getElem?_eq_some_iff.1 HP5.out).1).trans HP5.out
                have HR6 := Lib.hid hr6; have HP6 := Lib.hid hp6
                have HB6 := Lib.hid (HB5.out.trans (hb6.mono HB5.out.size))
                have HL6 := Lib.hid (HL5.out.below hb6 (Nat.le_trans hB HB5.out.size))
                have HO6 := Lib.hid (HO5.out.below hb6 (Nat.le_refl _))
                have C7 := Lib.hid (equal_any ho6.bs HL6.out)
                clear ho6 hb6 C6 HR5 HP5 HB5 HL5 HO5
                by_cases hx0 : x = 0
                · subst hx0
                  clear hr6 hp6
                  go_wp2_with fail
                  with_reducible refine (C7.out).mono ?_
                  rintro e7 w7 ⟨rfl, hd7⟩
                  have hb7 := hd7.below w6.heap.size
                  have hr7 := (hb7.block pb (Array.getElem?_eq_some_iff.1 HR6.out).1).trans HR6.out
                  have hp7 : Pz w7 w.heap.size := (hb7.block _ (Array.getElem?_eq_some_iff.1 HP6.out).1).trans HP6.out
                  have HP7 := Lib.hid hp7
                  have HB7 := Lib.hid (HB6.out.trans (hb7.mono HB6.out.size))
                  have HO7 := Lib.hid (HO6.out.below hb7 (Nat.le_refl _))
                  clear hb7 hd7 C7 HR6 HP6 HB6 HO6 HL6
                  by_cases hF : F = l
                  · rw [decide_eq_true hF]
                    have HE : Hid (eP l = 0) := Lib.hid (by rw [HEE.out, if_pos hF])
                    have HRI := Lib.hid (info25 (K : Int) (ID : Int) (I : Int) (N : Int) (.slice A4 r c4))
                    clear hF
                    have s0 := cell_of_row _ _ 0 _ _ _ hp7
                    have s1 := cell_of_row _ _ 1 _ _ _ hp7
                    have s2 := cell_of_row _ _ 2 _ _ _ hp7
                    have s3 := cell_of_row _ _ 3 _ _ _ hp7
                    have s4 := cell_of_row _ _ 4 _ _ _ hp7
                    have f0 := frozen_of_row _ w.heap.size 0 _ _ hp7
                    have f1 := frozen_of_row _ w.heap.size 1 _ _ hp7
                    have f2 := frozen_of_row _ w.heap.size 2 _ _ hp7
                    have f3 := frozen_of_row _ w.heap.size 3 _ _ hp7
                    have f4 := frozen_of_row _ w.heap.size 4 _ _ hp7
                    have r0 := cell_of_row _ _ 0 _ _ _ hr7
                    have r1 := cell_of_row _ _ 1 _ _ _ hr7
                    have r2 := cell_of_row _ _ 2 _ _ _ hr7
                    have r3 := cell_of_row _ _ 3 _ _ _ hr7
                    have r4 := cell_of_row _ _ 4 _ _ _ hr7
                    simp at s0 s1 s2 s3 s4 r0 r1 r2 r3 r4
                    clear hp7 hr7
                    go_wp2
                    refine bodyPost_ret (results_cell_tmp rfl _ _ w.heap.size 25 #[.int .u8 (K : Int), .int .u64 (ID : Int), .int .i64 (I : Int), .int .i64 (N : Int), .slice A4 r c4] (0, 0) _ (.int .i64 0) rfl rfl (set5_row HP7.out) Try.underlying25 rfl HRI.out) rfl ?_
                    have e : parP l = ⟨K, ID, I, N, d⟩ := by unfold parP; rw [HE.out, if_pos rfl]; exact HPD2.out
                    rw [e, HE.out]
                    refine ⟨A4, c4, ?_, ?_, five_below HB7.out (Nat.le_refl _) _ _ _ _ _⟩
                    · unfold Pt.agg
                      rw [show (Pt.mk K ID I N d).d.length = r from HLEN.out]
                    · rw [show (Pt.mk K ID I N d).d.length = r from HLEN.out]
                      have hk : ∀ (X : World) (q : Nat) (x : Value), Own X w.heap.size (.slice A4 r c4) d → Own (X.setCell ⟨w.heap.size, q, none⟩ x) w.heap.size (.slice A4 r c4) d := fun X q x h => h.kept (scGrown X w.heap.size q x) (by
                        rcases hv : (Value.slice A4 r c4).ownBlock with _ | j
                        · exact .inl rfl
                        · right
                          have := (HFAR.out j hv).1
                          intro e
                          simp only [Option.some.injEq] at e
                          omega)
                      exact hk _ _ _ (hk _ _ _ (hk _ _ _ (hk _ _ _ (hk _ _ _ HO7.out))))
                  · rw [decide_eq_false hF]
                    have HE : Hid (eP l = 3) := Lib.hid (by rw [HEE.out, if_neg hF])
                    clear hF
                    have s0 := cell_of_row _ _ 0 _ _ _ hp7
                    have s1 := cell_of_row _ _ 1 _ _ _ hp7
                    have s2 := cell_of_row _ _ 2 _ _ _ hp7
                    have s3 := cell_of_row _ _ 3 _ _ _ hp7
                    have s4 := cell_of_row _ _ 4 _ _ _ hp7
                    have f0 := frozen_of_row _ w.heap.size 0 _ _ hp7
                    have f1 := frozen_of_row _ w.heap.size 1 _ _ hp7
                    have f2 := frozen_of_row _ w.heap.size 2 _ _ hp7
                    have f3 := frozen_of_row _ w.heap.size 3 _ _ hp7
                    have f4 := frozen_of_row _ w.heap.size 4 _ _ hp7
                    simp at s0 s1 s2 s3 s4
                    clear hp7 hr7
                    go_wp2
                    refine bodyPost_ret (results_cell_tmp rfl _ _ w.heap.size 25 #[.int .u8 0, .int .u64 0, .int .i64 0, .int .i64 0, .slice none 0 0] (0, 0) _ (.int .i64 3) rfl rfl (set5_row HP7.out) Try.underlying25 rfl HRZ.out) rfl ?_
                    exact zero_end HE.out (by decide) (five_below HB7.out (Nat.le_refl _) _ _ _ _ _)
                · have HE : Hid (eP l = 3) := Lib.hid (by rw [HEE.out, if_neg (HXF.out hx0)])
                  have s0 := cell_of_row _ _ 0 _ _ _ hp6
                  have s1 := cell_of_row _ _ 1 _ _ _ hp6
                  have s2 := cell_of_row _ _ 2 _ _ _ hp6
                  have s3 := cell_of_row _ _ 3 _ _ _ hp6
                  have s4 := cell_of_row _ _ 4 _ _ _ hp6
                  have f0 := frozen_of_row _ w.heap.size 0 _ _ hp6
                  have f1 := frozen_of_row _ w.heap.size 1 _ _ hp6
                  have f2 := frozen_of_row _ w.heap.size 2 _ _ hp6
                  have f3 := frozen_of_row _ w.heap.size 3 _ _ hp6
                  have f4 := frozen_of_row _ w.heap.size 4 _ _ hp6
                  simp at s0 s1 s2 s3 s4
                  clear hp6 hr6 C7
                  go_wp2
                  refine bodyPost_ret (results_cell_tmp rfl _ _ w.heap.size 25 #[.int .u8 0, .int .u64 0, .int .i64 0, .int .i64 0, .slice none 0 0] (0, 0) _ (.int .i64 3) rfl rfl (set5_row HP6.out) Try.underlying25 rfl HRZ.out) rfl ?_
                  exact zero_end HE.out (by decide) (five_below HB6.out (Nat.le_refl _) _ _ _ _ _)
        · have HE : Hid (eP l = 1) := Lib.hid (by
            unfold eP
            have hc : (rdP l).chk = 1 := by
              unfold Pt.chk chk
              rw [if_pos]
              show getP 2 1 l 16 1 < 1 ∨ 3 < getP 2 1 l 16 1
              rw [getP1, ← HK.out]
              omega
            rw [if_neg (by rw [hl480]; simp), if_neg (by simp [HZ16.out]), if_pos hc])
          have s0 := cell_of_row _ _ 0 _ _ _ hp2
          have s1 := cell_of_row _ _ 1 _ _ _ hp2
          have s2 := cell_of_row _ _ 2 _ _ _ hp2
          have s3 := cell_of_row _ _ 3 _ _ _ hp2
          have s4 := cell_of_row _ _ 4 _ _ _ hp2
          have f0 := frozen_of_row _ w.heap.size 0 _ _ hp2
          have f1 := frozen_of_row _ w.heap.size 1 _ _ hp2
          have f2 := frozen_of_row _ w.heap.size 2 _ _ hp2
          have f3 := frozen_of_row _ w.heap.size 3 _ _ hp2
          have f4 := frozen_of_row _ w.heap.size 4 _ _ hp2
          simp at s0 s1 s2 s3 s4
          clear hp2
          by_cases hk1 : (K : Int) < 1
          · go_wp2
            refine bodyPost_ret (results_cell_tmp rfl _ _ w.heap.size 25 #[.int .u8 0, .int .u64 0, .int .i64 0, .int .i64 0, .slice none 0 0] (0, 0) _ (.int .i64 1) rfl rfl (set5_row HP2.out) Try.underlying25 rfl HRZ.out) rfl ?_
            exact zero_end HE.out (by decide) (five_below HB2.out (Nat.le_refl _) _ _ _ _ _)
          · have hk3 : (3 : Int) < (K : Int) := by omega
            go_wp2
            refine bodyPost_ret (results_cell_tmp rfl _ _ w.heap.size 25 #[.int .u8 0, .int .u64 0, .int .i64 0, .int .i64 0, .slice none 0 0] (0, 0) _ (.int .i64 1) rfl rfl (set5_row HP2.out) Try.underlying25 rfl HRZ.out) rfl ?_
            exact zero_end HE.out (by decide) (five_below HB2.out (Nat.le_refl _) _ _ _ _ _)
  · have HE : Hid (eP l = 2) := Lib.hid (by unfold eP; rw [if_pos (by rw [← HN.out]; exact h480)])
    have hnI : ¬ (n : Int) = 480 := by omega
    have s0 := cell_of_row _ _ 0 _ _ _ hp0
    have s1 := cell_of_row _ _ 1 _ _ _ hp0
    have s2 := cell_of_row _ _ 2 _ _ _ hp0
    have s3 := cell_of_row _ _ 3 _ _ _ hp0
    have s4 := cell_of_row _ _ 4 _ _ _ hp0
    have f0 := frozen_of_row _ w.heap.size 0 _ _ hp0
    have f1 := frozen_of_row _ w.heap.size 1 _ _ hp0
    have f2 := frozen_of_row _ w.heap.size 2 _ _ hp0
    have f3 := frozen_of_row _ w.heap.size 3 _ _ hp0
    have f4 := frozen_of_row _ w.heap.size 4 _ _ hp0
    simp at s0 s1 s2 s3 s4
    clear hp0 h480
    go_wp2
    refine bodyPost_ret (results_cell_tmp rfl _ _ w.heap.size 25 #[.int .u8 0, .int .u64 0, .int .i64 0, .int .i64 0, .slice none 0 0] (0, 0) _ (.int .i64 2) rfl rfl (set5_row HP.out) Try.underlying25 rfl HRZ.out) rfl ?_
    exact zero_end HE.out (by decide) (five_below HB0.out (Nat.le_refl _) _ _ _ _ _)
end Go.Proofs.Ytdaccdbehjhfgaa
