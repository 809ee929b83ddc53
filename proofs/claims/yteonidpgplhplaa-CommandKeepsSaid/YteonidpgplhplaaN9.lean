/- Decode of command. -/
import Derived.Test.YteonidpgplhplaaN8
namespace Go.Proofs.Yteonidpgplhplaa
open Go.RowKit

/-- the error of 32 bytes -/
def decE (l : List UInt8) : Int := if l.length ≠ 32 then 2 else if getP 2 2 l 30 2 ≠ 0 ∧ (cmdOf l).chk ≠ 1 then 3 else (cmdOf l).chk
/-- the command that is read -/
def decC (l : List UInt8) : Cm := if decE l = 0 then cmdOf l else zCm
theorem zCm_cells : zCm.cs.toArray = #[.int .u8 0, .int .u8 0, .int .u32 0, .int .u64 0, .int .u8 0, .int .u8 0, .int .u8 0, .int .u8 0, .int .u8 0, .int .u8 0, .int .u8 0, .int .u8 0, .int .u8 0, .int .u8 0, .int .u8 0, .int .u8 0, .int .u8 0, .int .u8 0, .int .u8 0, .int .u8 0] := rfl

set_option maxRecDepth 100000 in
set_option maxHeartbeats 4000000 in
theorem decode_any {l : List UInt8} {w : World} {B : Nat} {v : Value} (hb : Bs w B v l) (hB : B ≤ w.heap.size) :
    Calls Try.prog 15 #[v] w fun e w' => e = .returned (.tuple #[.agg (decC l).cs.toArray, .int .i64 (decE l)]) ∧ Below w.heap.size w w' := by
  have hiZ : Hid ((Try.prog.info? 26).map (·.size) = some (#[.int .u8 0, .int .u8 0, .int .u32 0, .int .u64 0, .int .u8 0, .int .u8 0, .int .u8 0, .int .u8 0, .int .u8 0, .int .u8 0, .int .u8 0, .int .u8 0, .int .u8 0, .int .u8 0, .int .u8 0, .int .u8 0, .int .u8 0, .int .u8 0, .int .u8 0, .int .u8 0] : Array Value).size) := Lib.hid (by show _ = _; kernel_rfl)
  have honeZ : Hid ((#[.int .u8 0, .int .u8 0, .int .u32 0, .int .u64 0, .int .u8 0, .int .u8 0, .int .u8 0, .int .u8 0, .int .u8 0, .int .u8 0, .int .u8 0, .int .u8 0, .int .u8 0, .int .u8 0, .int .u8 0, .int .u8 0, .int .u8 0, .int .u8 0, .int .u8 0, .int .u8 0] : Array Value).all (·.oneCell') = true) := Lib.hid (by show _ = _; kernel_rfl)
  have HB0 := Lib.hid ((Below.refl w.heap.size w).alloc (Nat.le_refl _) (.cells #[.int .u8 0, .int .u8 0, .int .u32 0, .int .u64 0, .int .u8 0, .int .u8 0, .int .u8 0, .int .u8 0, .int .u8 0, .int .u8 0, .int .u8 0, .int .u8 0, .int .u8 0, .int .u8 0, .int .u8 0, .int .u8 0, .int .u8 0, .int .u8 0, .int .u8 0, .int .u8 0] 26))
  have hz : Hid ((w.alloc (.cells #[.int .u8 0, .int .u8 0, .int .u32 0, .int .u64 0, .int .u8 0, .int .u8 0, .int .u8 0, .int .u8 0, .int .u8 0, .int .u8 0, .int .u8 0, .int .u8 0, .int .u8 0, .int .u8 0, .int .u8 0, .int .u8 0, .int .u8 0, .int .u8 0, .int .u8 0, .int .u8 0] 26)).heap[w.heap.size]? = some (.cells #[.int .u8 0, .int .u8 0, .int .u32 0, .int .u64 0, .int .u8 0, .int .u8 0, .int .u8 0, .int .u8 0, .int .u8 0, .int .u8 0, .int .u8 0, .int .u8 0, .int .u8 0, .int .u8 0, .int .u8 0, .int .u8 0, .int .u8 0, .int .u8 0, .int .u8 0, .int .u8 0] 26 (0, 0))) := Lib.hid (heap_alloc_new w _)
  have hsz0 : (w.alloc (.cells #[.int .u8 0, .int .u8 0, .int .u32 0, .int .u64 0, .int .u8 0, .int .u8 0, .int .u8 0, .int .u8 0, .int .u8 0, .int .u8 0, .int .u8 0, .int .u8 0, .int .u8 0, .int .u8 0, .int .u8 0, .int .u8 0, .int .u8 0, .int .u8 0, .int .u8 0, .int .u8 0] 26)).heap.size = w.heap.size + 1 := by simp
  obtain ⟨e, he⟩ : ∃ e, e = decE l := ⟨_, rfl⟩
  obtain ⟨D, hD⟩ : ∃ D, D = (decC l).cs.toArray := ⟨_, rfl⟩
  rw [← he, ← hD]
  have hb1 := (hb.alloc hB (.cells #[.int .u8 0, .int .u8 0, .int .u32 0, .int .u64 0, .int .u8 0, .int .u8 0, .int .u8 0, .int .u8 0, .int .u8 0, .int .u8 0, .int .u8 0, .int .u8 0, .int .u8 0, .int .u8 0, .int .u8 0, .int .u8 0, .int .u8 0, .int .u8 0, .int .u8 0, .int .u8 0] 26)).more (B' := (w.alloc (.cells #[.int .u8 0, .int .u8 0, .int .u32 0, .int .u64 0, .int .u8 0, .int .u8 0, .int .u8 0, .int .u8 0, .int .u8 0, .int .u8 0, .int .u8 0, .int .u8 0, .int .u8 0, .int .u8 0, .int .u8 0, .int .u8 0, .int .u8 0, .int .u8 0, .int .u8 0, .int .u8 0] 26)).heap.size) (Nat.le_trans hB (by rw [hsz0]; omega))
  obtain ⟨A, c, rfl⟩ := hb.shape
  by_cases hl : l.length = 32
  · have C1 := read_any hb1 (Nat.le_refl _) hl
    rw [hl] at C1 ⊢
    obtain ⟨cm, hcm⟩ : ∃ cm, cm = cmdOf l := ⟨_, rfl⟩
    have hok : cm.ok := by rw [hcm]; exact cmdOf_ok hl
    have C2 := fun W => check_any hok W
    obtain ⟨r, hr⟩ : ∃ r, r = getP 2 2 l 30 2 := ⟨_, rfl⟩
    obtain ⟨ee, hee⟩ : ∃ ee, ee = cm.chk := ⟨_, rfl⟩
    have he2 : e = if r ≠ 0 ∧ ee ≠ 1 then 3 else ee := by rw [he, decE, if_neg (by simp [hl]), hr, hee, hcm]
    have hD2 : D = if e = 0 then cm.cs.toArray else #[.int .u8 0, .int .u8 0, .int .u32 0, .int .u64 0, .int .u8 0, .int .u8 0, .int .u8 0, .int .u8 0, .int .u8 0, .int .u8 0, .int .u8 0, .int .u8 0, .int .u8 0, .int .u8 0, .int .u8 0, .int .u8 0, .int .u8 0, .int .u8 0, .int .u8 0, .int .u8 0] := by rw [hD, decC, ← he, hcm]; split <;> rfl
    rw [← hcm, ← hr] at C1
    rw [← hee] at C2
    have hlen := Cm.len hok
    have h1c := cs_one cm
    obtain ⟨CS, hCS⟩ : ∃ CS, CS = cm.cs := ⟨_, rfl⟩
    rw [← hCS] at C1 C2 hlen h1c hD2
    have hone : Hid (CS.toArray.all (·.oneCell') = true) := Lib.hid (all_oneCell_toArray h1c)
    have hiC : Hid ((Try.prog.info? 26).map (·.size) = some CS.toArray.size) := Lib.hid (by rw [List.size_toArray, hlen]; kernel_rfl)
    have hoC : Hid ((#[.int .u8 0, .int .u8 0, .int .u32 0, .int .u64 0, .int .u8 0, .int .u8 0, .int .u8 0, .int .u8 0, .int .u8 0, .int .u8 0, .int .u8 0, .int .u8 0, .int .u8 0, .int .u8 0, .int .u8 0, .int .u8 0, .int .u8 0, .int .u8 0, .int .u8 0, .int .u8 0] : Array Value).size = CS.toArray.size) := Lib.hid (by show 20 = _; rw [List.size_toArray, hlen])
    have HC1 := Lib.hid C1; have HC2 := Lib.hid C2; have HE := Lib.hid he2; have HDD := Lib.hid hD2
    clear C1 C2 hcm hok hr hee he2 hD2 hlen h1c hCS he hD hb hb1
    go_enter Try.func15, Try.ntmps15
    go_upto_region 1 with fail
    generalize w.alloc (.cells #[.int .u8 0, .int .u8 0, .int .u32 0, .int .u64 0, .int .u8 0, .int .u8 0, .int .u8 0, .int .u8 0, .int .u8 0, .int .u8 0, .int .u8 0, .int .u8 0, .int .u8 0, .int .u8 0, .int .u8 0, .int .u8 0, .int .u8 0, .int .u8 0, .int .u8 0, .int .u8 0] 26) = W at HB0 hz hsz0 HC1 ⊢
    go_wp2_with fail
    with_reducible refine (HC1.out).mono ?_
    rintro e1 w1 ⟨rfl, hb1⟩
    have hz1 := hb1.size
    rw [hsz0] at hz1
    have HZ1 : Hid ((w1.alloc (.cells CS.toArray 26)).heap[w.heap.size]? = some (.cells #[.int .u8 0, .int .u8 0, .int .u32 0, .int .u64 0, .int .u8 0, .int .u8 0, .int .u8 0, .int .u8 0, .int .u8 0, .int .u8 0, .int .u8 0, .int .u8 0, .int .u8 0, .int .u8 0, .int .u8 0, .int .u8 0, .int .u8 0, .int .u8 0, .int .u8 0, .int .u8 0] 26 (0, 0))) := Lib.hid ((((Below.refl w1.heap.size w1).alloc (Nat.le_refl _) (.cells CS.toArray 26)).block w.heap.size (by omega)).trans ((hb1.block w.heap.size (by omega)).trans hz.out))
    have HB1 := Lib.hid ((HB0.out.trans (hb1.mono (by omega))).alloc (by omega : w.heap.size ≤ w1.heap.size) (.cells CS.toArray 26))
    have hz2 : Hid ((w1.alloc (.cells #[.int .u8 0, .int .u8 0, .int .u32 0, .int .u64 0, .int .u8 0, .int .u8 0, .int .u8 0, .int .u8 0, .int .u8 0, .int .u8 0, .int .u8 0, .int .u8 0, .int .u8 0, .int .u8 0, .int .u8 0, .int .u8 0, .int .u8 0, .int .u8 0, .int .u8 0, .int .u8 0] 26)).heap[w1.heap.size]? = some (.cells #[.int .u8 0, .int .u8 0, .int .u32 0, .int .u64 0, .int .u8 0, .int .u8 0, .int .u8 0, .int .u8 0, .int .u8 0, .int .u8 0, .int .u8 0, .int .u8 0, .int .u8 0, .int .u8 0, .int .u8 0, .int .u8 0, .int .u8 0, .int .u8 0, .int .u8 0, .int .u8 0] 26 (0, 0))) := Lib.hid (heap_alloc_new w1 _)
    have hr2 : Hid ((w1.alloc (.cells CS.toArray 26)).heap[w1.heap.size]? = some (.cells CS.toArray 26 (0, 0))) := Lib.hid (heap_alloc_new w1 _)
    have hs2 : (w1.alloc (.cells CS.toArray 26)).heap.size = w1.heap.size + 1 := by simp
    have CC := Lib.hid (HC2.out (w1.alloc (.cells CS.toArray 26)))
    clear hb1 hz HB0 HC1
    go_wp2_with (first
      | ((with_reducible refine wpList_store_row rfl 26 (.tmp 4) (.tmp 14) rfl w1.heap.size CS.toArray rfl rfl 26 _ hz2.out hiC.out hoC.out hone.out ?_); rw [World.setRow_alloc_new])
      | (with_reducible refine wpList_load_row rfl 26 (.tmp 4) rfl w1.heap.size rfl 26 CS.toArray (0, 0) _ hr2.out Try.underlying26 rfl hiC.out ?_))
    with_reducible refine (CC.out).mono ?_
    rintro e4 w4 ⟨rfl, hb4⟩
    have HZ4 := Lib.hid ((hb4.block w.heap.size (by omega)).trans HZ1.out)
    have HR4 := Lib.hid ((hb4.block w1.heap.size (by omega)).trans hr2.out)
    have HB4 := Lib.hid (HB1.out.trans (hb4.mono (by omega)))
    clear hb4 HZ1 hr2 HB1 CC HC2 hz2
    by_cases hr0 : r = 0
    · subst hr0
      by_cases he0 : ee = 0
      · subst he0
        have he : e = 0 := by rw [HE.out, if_neg (by simp)]
        subst he
        have hD : D = CS.toArray := by rw [HDD.out, if_pos rfl]
        subst hD
        go_wp2_with (first
          | (with_reducible refine wpList_load_row rfl 26 (.tmp 4) rfl w1.heap.size rfl 26 CS.toArray (0, 0) _ HR4.out Try.underlying26 rfl hiC.out ?_)
          | (with_reducible refine wpList_store_row rfl 26 (.tmp 2) (.tmp 28) rfl w.heap.size CS.toArray rfl rfl 26 _ HZ4.out hiC.out hoC.out hone.out ?_))
        exact bodyPost_ret (results_cell_tmp rfl _ _ w.heap.size 26 CS.toArray (0, 0) _ _ rfl rfl (setRow_heap _ w.heap.size _ _ _ _ HZ4.out) Try.underlying26 rfl hiC.out) rfl ⟨rfl, row_below HB4.out (Nat.le_refl _)⟩
      · have hen : (ee != 0) = true := by simpa using he0
        have he : e = ee := by rw [HE.out, if_neg (by simp)]
        subst he
        have hD : D = #[.int .u8 0, .int .u8 0, .int .u32 0, .int .u64 0, .int .u8 0, .int .u8 0, .int .u8 0, .int .u8 0, .int .u8 0, .int .u8 0, .int .u8 0, .int .u8 0, .int .u8 0, .int .u8 0, .int .u8 0, .int .u8 0, .int .u8 0, .int .u8 0, .int .u8 0, .int .u8 0] := by rw [HDD.out, if_neg he0]
        subst hD
        go_wp2_with (with_reducible refine wpList_store_row rfl 26 (.tmp 2) (.tmp 26) rfl w.heap.size #[.int .u8 0, .int .u8 0, .int .u32 0, .int .u64 0, .int .u8 0, .int .u8 0, .int .u8 0, .int .u8 0, .int .u8 0, .int .u8 0, .int .u8 0, .int .u8 0, .int .u8 0, .int .u8 0, .int .u8 0, .int .u8 0, .int .u8 0, .int .u8 0, .int .u8 0, .int .u8 0] rfl rfl 26 _ HZ4.out hiZ.out rfl honeZ.out ?_)
        exact bodyPost_ret (results_cell_tmp rfl _ _ w.heap.size 26 #[.int .u8 0, .int .u8 0, .int .u32 0, .int .u64 0, .int .u8 0, .int .u8 0, .int .u8 0, .int .u8 0, .int .u8 0, .int .u8 0, .int .u8 0, .int .u8 0, .int .u8 0, .int .u8 0, .int .u8 0, .int .u8 0, .int .u8 0, .int .u8 0, .int .u8 0, .int .u8 0] (0, 0) _ _ rfl rfl (setRow_heap _ w.heap.size _ _ _ _ HZ4.out) Try.underlying26 rfl hiZ.out) rfl ⟨rfl, row_below HB4.out (Nat.le_refl _)⟩
    · have hrn : ((r : Int) != 0) = true := by simp; omega
      by_cases he1 : ee = 1
      · subst he1
        have he : e = 1 := by rw [HE.out, if_neg (by simp)]
        subst he
        have hD : D = #[.int .u8 0, .int .u8 0, .int .u32 0, .int .u64 0, .int .u8 0, .int .u8 0, .int .u8 0, .int .u8 0, .int .u8 0, .int .u8 0, .int .u8 0, .int .u8 0, .int .u8 0, .int .u8 0, .int .u8 0, .int .u8 0, .int .u8 0, .int .u8 0, .int .u8 0, .int .u8 0] := by rw [HDD.out, if_neg (by decide)]
        subst hD
        go_wp2_with (with_reducible refine wpList_store_row rfl 26 (.tmp 2) (.tmp 26) rfl w.heap.size #[.int .u8 0, .int .u8 0, .int .u32 0, .int .u64 0, .int .u8 0, .int .u8 0, .int .u8 0, .int .u8 0, .int .u8 0, .int .u8 0, .int .u8 0, .int .u8 0, .int .u8 0, .int .u8 0, .int .u8 0, .int .u8 0, .int .u8 0, .int .u8 0, .int .u8 0, .int .u8 0] rfl rfl 26 _ HZ4.out hiZ.out rfl honeZ.out ?_)
        exact bodyPost_ret (results_cell_tmp rfl _ _ w.heap.size 26 #[.int .u8 0, .int .u8 0, .int .u32 0, .int .u64 0, .int .u8 0, .int .u8 0, .int .u8 0, .int .u8 0, .int .u8 0, .int .u8 0, .int .u8 0, .int .u8 0, .int .u8 0, .int .u8 0, .int .u8 0, .int .u8 0, .int .u8 0, .int .u8 0, .int .u8 0, .int .u8 0] (0, 0) _ _ rfl rfl (setRow_heap _ w.heap.size _ _ _ _ HZ4.out) Try.underlying26 rfl hiZ.out) rfl ⟨rfl, row_below HB4.out (Nat.le_refl _)⟩
      · have hen : (ee != 1) = true := by simpa using he1
        have he : e = 3 := by rw [HE.out, if_pos ⟨hr0, he1⟩]
        subst he
        have hD : D = #[.int .u8 0, .int .u8 0, .int .u32 0, .int .u64 0, .int .u8 0, .int .u8 0, .int .u8 0, .int .u8 0, .int .u8 0, .int .u8 0, .int .u8 0, .int .u8 0, .int .u8 0, .int .u8 0, .int .u8 0, .int .u8 0, .int .u8 0, .int .u8 0, .int .u8 0, .int .u8 0] := by rw [HDD.out, if_neg (by decide)]
        subst hD
        go_wp2_with (with_reducible refine wpList_store_row rfl 26 (.tmp 2) (.tmp 26) rfl w.heap.size #[.int .u8 0, .int .u8 0, .int .u32 0, .int .u64 0, .int .u8 0, .int .u8 0, .int .u8 0, .int .u8 0, .int .u8 0, .int .u8 0, .int .u8 0, .int .u8 0, .int .u8 0, .int .u8 0, .int .u8 0, .int .u8 0, .int .u8 0, .int .u8 0, .int .u8 0, .int .u8 0] rfl rfl 26 _ HZ4.out hiZ.out rfl honeZ.out ?_)
        exact bodyPost_ret (results_cell_tmp rfl _ _ w.heap.size 26 #[.int .u8 0, .int .u8 0, .int .u32 0, .int .u64 0, .int .u8 0, .int .u8 0, .int .u8 0, .int .u8 0, .int .u8 0, .int .u8 0, .int .u8 0, .int .u8 0, .int .u8 0, .int .u8 0, .int .u8 0, .int .u8 0, .int .u8 0, .int .u8 0, .int .u8 0, .int .u8 0] (0, 0) _ _ rfl rfl (setRow_heap _ w.heap.size _ _ _ _ HZ4.out) Try.underlying26 rfl hiZ.out) rfl ⟨rfl, row_below HB4.out (Nat.le_refl _)⟩
  · have he2 : e = 2 := by rw [he, decE, if_pos hl]
    have hD2 : D = #[.int .u8 0, .int .u8 0, .int .u32 0, .int .u64 0, .int .u8 0, .int .u8 0, .int .u8 0, .int .u8 0, .int .u8 0, .int .u8 0, .int .u8 0, .int .u8 0, .int .u8 0, .int .u8 0, .int .u8 0, .int .u8 0, .int .u8 0, .int .u8 0, .int .u8 0, .int .u8 0] := by rw [hD, decC, ← he, he2]; rfl
    subst hD2
    subst he2
    have hln : ((l.length : Int) != 32) = true := by simp; omega
    have HB4 := HB0
    have HZ4 := hz
    have hl64 : l.length ≤ 9223372036854775807 := by
      obtain ⟨A', c', hv, h1, h2, _⟩ := hb
      unfold maxLen at h2
      omega
    clear he hD hb hb1
    go_enter Try.func15, Try.ntmps15
    go_upto_region 1 with fail
    generalize w.alloc (.cells #[.int .u8 0, .int .u8 0, .int .u32 0, .int .u64 0, .int .u8 0, .int .u8 0, .int .u8 0, .int .u8 0, .int .u8 0, .int .u8 0, .int .u8 0, .int .u8 0, .int .u8 0, .int .u8 0, .int .u8 0, .int .u8 0, .int .u8 0, .int .u8 0, .int .u8 0, .int .u8 0] 26) = W at HB0 hz hsz0 HB4 HZ4 ⊢
    go_wp2_with (with_reducible refine wpList_store_row rfl 26 (.tmp 2) (.tmp 10) rfl w.heap.size #[.int .u8 0, .int .u8 0, .int .u32 0, .int .u64 0, .int .u8 0, .int .u8 0, .int .u8 0, .int .u8 0, .int .u8 0, .int .u8 0, .int .u8 0, .int .u8 0, .int .u8 0, .int .u8 0, .int .u8 0, .int .u8 0, .int .u8 0, .int .u8 0, .int .u8 0, .int .u8 0] rfl rfl 26 _ HZ4.out hiZ.out rfl honeZ.out ?_)
    exact bodyPost_ret (results_cell_tmp rfl _ _ w.heap.size 26 #[.int .u8 0, .int .u8 0, .int .u32 0, .int .u64 0, .int .u8 0, .int .u8 0, .int .u8 0, .int .u8 0, .int .u8 0, .int .u8 0, .int .u8 0, .int .u8 0, .int .u8 0, .int .u8 0, .int .u8 0, .int .u8 0, .int .u8 0, .int .u8 0, .int .u8 0, .int .u8 0] (0, 0) _ _ rfl rfl (setRow_heap _ w.heap.size _ _ _ _ HZ4.out) Try.underlying26 rfl hiZ.out) rfl ⟨rfl, row_below HB4.out (Nat.le_refl _)⟩
end Go.Proofs.Yteonidpgplhplaa
