/- double of chacha. -/
import Derived.Test.YtifgigpflfdmfaaB3
import Derived.Deep.RegionWith
import Derived.Deep.MidRow
import Derived.Great.Ranges
namespace Go.Proofs.Ytifgigpflfdmfaa
open Go.RowKit

def tabV : Array Value := #[.int .i64 0, .int .i64 4, .int .i64 8, .int .i64 12, .int .i64 1, .int .i64 5, .int .i64 9, .int .i64 13, .int .i64 2, .int .i64 6, .int .i64 10, .int .i64 14, .int .i64 3, .int .i64 7, .int .i64 11, .int .i64 15, .int .i64 0, .int .i64 5, .int .i64 10, .int .i64 15, .int .i64 1, .int .i64 6, .int .i64 11, .int .i64 12, .int .i64 2, .int .i64 7, .int .i64 8, .int .i64 13, .int .i64 3, .int .i64 4, .int .i64 9, .int .i64 14]
theorem tab_index {k : Nat} (hk : k < 8) (W : World) : (Instr.index 116 (.agg tabV) (.int .i64 (k : Int))).run Try.prog W = .ok (.agg #[.int .i64 (pl k 0 : Int), .int .i64 (pl k 1 : Int), .int .i64 (pl k 2 : Int), .int .i64 (pl k 3 : Int)]) W := by
  rcases (show k = 0 ∨ k = 1 ∨ k = 2 ∨ k = 3 ∨ k = 4 ∨ k = 5 ∨ k = 6 ∨ k = 7 by omega) with rfl | rfl | rfl | rfl | rfl | rfl | rfl | rfl
  all_goals kernel_rfl
theorem pl_ne {k : Nat} (hk : k < 8) : (pl k 0 ≠ pl k 1 ∧ pl k 0 ≠ pl k 2 ∧ pl k 0 ≠ pl k 3) ∧ (pl k 1 ≠ pl k 2 ∧ pl k 1 ≠ pl k 3 ∧ pl k 2 ≠ pl k 3) := by
  rcases (show k = 0 ∨ k = 1 ∨ k = 2 ∨ k = 3 ∨ k = 4 ∨ k = 5 ∨ k = 6 ∨ k = 7 by omega) with rfl | rfl | rfl | rfl | rfl | rfl | rfl | rfl
  all_goals decide
theorem cell_far {w : World} {b i g j : Nat} {v : Value} (h : b ≠ g) : (w.setCell ⟨b, i, none⟩ v).cell? ⟨g, j, none⟩ = w.cell? ⟨g, j, none⟩ := by
  have e := Below.heap_setCell w ⟨b, i, none⟩ v g (fun e => h e.symm)
  simp only [World.cell?, e]
theorem gw_at {L : List UInt32} {i : Nat} (h : i < L.length) : L[i] = gw L i := by simp [gw, h]
theorem Wx.get {w : World} {g : Nat} {l : List UInt32} (h : Wx w g l) {j : Nat} (hj : j < l.length) : w.cell? ⟨g, j, none⟩ = some (.int .u32 ((gw l j).toNat : Int)) := by rw [← gw_at hj]; exact (h.at_ hj).1
/-- an operation that yields is taken first, its slot written out -/
theorem takeD {P : Program} {ops : Array Oper} {Q : Exit → Act → World → Prop} {md : Region.Mode} {S : World → Prop} {i : Nat} {oi : Oper} {d : Option Nat} {v : Value} {fuel : Nat} {listed : Array Bool} {a : Act} {w : World} (hi : ops[i]? = some oi) (hd : oi.dst = d)
    (hs : Region.noSelect ops = true) (hf : Region.free md ops listed i = true) (hr : (Region.ready md ops listed).contains i = true)
    (hQ : ∀ c a w, Q (.panic c) (a.put d v) w → Q (.panic c) a w) (hy : YieldsIf P ops S oi v a) (hS : S w)
    (h : wpAnyH P md ops Q S fuel (listed.setIfInBounds i true) (a.put d v) w) : wpAnyH P md ops Q S (fuel + 1) listed a w := by
  subst hd
  exact wpAnyH_take hi hs hf hr hQ hy hS h

set_option maxRecDepth 100000 in
set_option maxHeartbeats 4000000 in
theorem double_any {L : List UInt32} (hL : L.length = 16) (w : World) :
    Calls Try.prog 96 #[.agg (L.map vw).toArray] w fun e w' => e = .returned (.agg ((d8 8 L).map vw).toArray) ∧ Below w.heap.size w w' := by
  obtain ⟨cs, hcs⟩ : ∃ cs : Array Value, cs = (L.map vw).toArray := ⟨_, rfl⟩
  obtain ⟨ts, hts⟩ : ∃ ts : Array Value, ts = tabV := ⟨_, rfl⟩
  have HI := Lib.hid (info16 hL)
  have HONE := Lib.hid (all_oneCell_toArray (vw_one L))
  rw [← hcs] at HI HONE ⊢
  have HTS : Hid (ts = tabV) := Lib.hid hts
  have HTL : Hid (ts = #[.int .i64 0, .int .i64 4, .int .i64 8, .int .i64 12, .int .i64 1, .int .i64 5, .int .i64 9, .int .i64 13, .int .i64 2, .int .i64 6, .int .i64 10, .int .i64 14, .int .i64 3, .int .i64 7, .int .i64 11, .int .i64 15, .int .i64 0, .int .i64 5, .int .i64 10, .int .i64 15, .int .i64 1, .int .i64 6, .int .i64 11, .int .i64 12, .int .i64 2, .int .i64 7, .int .i64 8, .int .i64 13, .int .i64 3, .int .i64 4, .int .i64 9, .int .i64 14]) := Lib.hid (by rw [hts]; rfl)
  have HTI : Hid ((Try.prog.info? 116).map (·.size) = some ts.size) := Lib.hid (by rw [hts]; kernel_rfl)
  have HTO : Hid (ts.all (·.oneCell') = true) := Lib.hid (by rw [hts]; kernel_rfl)
  have HCS := Lib.hid hcs; have HLL := Lib.hid hL
  clear hcs hts hL
  have z2 : Hid ((((w.alloc (.cells cs 126)).alloc (.cells #[.int .u32 0, .int .u32 0, .int .u32 0, .int .u32 0, .int .u32 0, .int .u32 0, .int .u32 0, .int .u32 0, .int .u32 0, .int .u32 0, .int .u32 0, .int .u32 0, .int .u32 0, .int .u32 0, .int .u32 0, .int .u32 0] 126)).alloc (.cells #[.int .i64 0, .int .i64 0, .int .i64 0, .int .i64 0, .int .i64 0, .int .i64 0, .int .i64 0, .int .i64 0, .int .i64 0, .int .i64 0, .int .i64 0, .int .i64 0, .int .i64 0, .int .i64 0, .int .i64 0, .int .i64 0, .int .i64 0, .int .i64 0, .int .i64 0, .int .i64 0, .int .i64 0, .int .i64 0, .int .i64 0, .int .i64 0, .int .i64 0, .int .i64 0, .int .i64 0, .int .i64 0, .int .i64 0, .int .i64 0, .int .i64 0, .int .i64 0] 116)).heap[w.heap.size + 2]? = some (.cells #[.int .i64 0, .int .i64 0, .int .i64 0, .int .i64 0, .int .i64 0, .int .i64 0, .int .i64 0, .int .i64 0, .int .i64 0, .int .i64 0, .int .i64 0, .int .i64 0, .int .i64 0, .int .i64 0, .int .i64 0, .int .i64 0, .int .i64 0, .int .i64 0, .int .i64 0, .int .i64 0, .int .i64 0, .int .i64 0, .int .i64 0, .int .i64 0, .int .i64 0, .int .i64 0, .int .i64 0, .int .i64 0, .int .i64 0, .int .i64 0, .int .i64 0, .int .i64 0] 116 (0, 0))) := Lib.hid (by
    have := heap_alloc_new ((w.alloc (.cells cs 126)).alloc (.cells #[.int .u32 0, .int .u32 0, .int .u32 0, .int .u32 0, .int .u32 0, .int .u32 0, .int .u32 0, .int .u32 0, .int .u32 0, .int .u32 0, .int .u32 0, .int .u32 0, .int .u32 0, .int .u32 0, .int .u32 0, .int .u32 0] 126)) (.cells #[.int .i64 0, .int .i64 0, .int .i64 0, .int .i64 0, .int .i64 0, .int .i64 0, .int .i64 0, .int .i64 0, .int .i64 0, .int .i64 0, .int .i64 0, .int .i64 0, .int .i64 0, .int .i64 0, .int .i64 0, .int .i64 0, .int .i64 0, .int .i64 0, .int .i64 0, .int .i64 0, .int .i64 0, .int .i64 0, .int .i64 0, .int .i64 0, .int .i64 0, .int .i64 0, .int .i64 0, .int .i64 0, .int .i64 0, .int .i64 0, .int .i64 0, .int .i64 0] 116)
    simpa using this)
  have HT0 : Hid ((#[.int .i64 0, .int .i64 0, .int .i64 0, .int .i64 0, .int .i64 0, .int .i64 0, .int .i64 0, .int .i64 0, .int .i64 0, .int .i64 0, .int .i64 0, .int .i64 0, .int .i64 0, .int .i64 0, .int .i64 0, .int .i64 0, .int .i64 0, .int .i64 0, .int .i64 0, .int .i64 0, .int .i64 0, .int .i64 0, .int .i64 0, .int .i64 0, .int .i64 0, .int .i64 0, .int .i64 0, .int .i64 0, .int .i64 0, .int .i64 0, .int .i64 0, .int .i64 0] : Array Value).size = ts.size) := Lib.hid (by rw [HTL.out]; rfl)
  go_enter Try.func96, Try.ntmps96
  go_upto_region 2 with (first
    | (with_reducible refine wpList_boxTo rfl 126 (.tmp 0) rfl (some 1) rfl w.heap.size rfl cs rfl ?_)
    | (with_reducible refine wpList_builtC rfl 116 _ rfl ts (by rw [HTL.out]; kernel_rfl) ?_)
    | (with_reducible refine wpList_store_row rfl 116 (.tmp 3) (.tmp 14) rfl (w.heap.size + 2) ts rfl rfl 116 _ z2.out HTI.out HT0.out HTO.out ?_))
  have H0 : Wx ((((w.alloc (.cells cs 126)).alloc (.cells #[.int .u32 0, .int .u32 0, .int .u32 0, .int .u32 0, .int .u32 0, .int .u32 0, .int .u32 0, .int .u32 0, .int .u32 0, .int .u32 0, .int .u32 0, .int .u32 0, .int .u32 0, .int .u32 0, .int .u32 0, .int .u32 0] 126)).alloc (.cells #[.int .i64 0, .int .i64 0, .int .i64 0, .int .i64 0, .int .i64 0, .int .i64 0, .int .i64 0, .int .i64 0, .int .i64 0, .int .i64 0, .int .i64 0, .int .i64 0, .int .i64 0, .int .i64 0, .int .i64 0, .int .i64 0, .int .i64 0, .int .i64 0, .int .i64 0, .int .i64 0, .int .i64 0, .int .i64 0, .int .i64 0, .int .i64 0, .int .i64 0, .int .i64 0, .int .i64 0, .int .i64 0, .int .i64 0, .int .i64 0, .int .i64 0, .int .i64 0] 116)).setRow (w.heap.size + 2) ts) w.heap.size L := by
    unfold Wx
    rw [← HCS.out]
    exact (setRow_other _ _ _ _ (by omega)).trans ((heap_alloc_old _ _ (by simp; omega)).trans ((heap_alloc_old _ _ (by simp)).trans (heap_alloc_new w _)))
  have H1 : ((((w.alloc (.cells cs 126)).alloc (.cells #[.int .u32 0, .int .u32 0, .int .u32 0, .int .u32 0, .int .u32 0, .int .u32 0, .int .u32 0, .int .u32 0, .int .u32 0, .int .u32 0, .int .u32 0, .int .u32 0, .int .u32 0, .int .u32 0, .int .u32 0, .int .u32 0] 126)).alloc (.cells #[.int .i64 0, .int .i64 0, .int .i64 0, .int .i64 0, .int .i64 0, .int .i64 0, .int .i64 0, .int .i64 0, .int .i64 0, .int .i64 0, .int .i64 0, .int .i64 0, .int .i64 0, .int .i64 0, .int .i64 0, .int .i64 0, .int .i64 0, .int .i64 0, .int .i64 0, .int .i64 0, .int .i64 0, .int .i64 0, .int .i64 0, .int .i64 0, .int .i64 0, .int .i64 0, .int .i64 0, .int .i64 0, .int .i64 0, .int .i64 0, .int .i64 0, .int .i64 0] 116)).setRow (w.heap.size + 2) ts).heap[w.heap.size + 1]? = some (.cells #[.int .u32 0, .int .u32 0, .int .u32 0, .int .u32 0, .int .u32 0, .int .u32 0, .int .u32 0, .int .u32 0, .int .u32 0, .int .u32 0, .int .u32 0, .int .u32 0, .int .u32 0, .int .u32 0, .int .u32 0, .int .u32 0] 126 (0, 0)) := (setRow_other _ _ _ _ (by omega)).trans ((heap_alloc_old _ _ (by simp)).trans (by
    have := heap_alloc_new (w.alloc (.cells cs 126)) (.cells #[.int .u32 0, .int .u32 0, .int .u32 0, .int .u32 0, .int .u32 0, .int .u32 0, .int .u32 0, .int .u32 0, .int .u32 0, .int .u32 0, .int .u32 0, .int .u32 0, .int .u32 0, .int .u32 0, .int .u32 0, .int .u32 0] 126)
    simpa using this))
  have H2 : ((((w.alloc (.cells cs 126)).alloc (.cells #[.int .u32 0, .int .u32 0, .int .u32 0, .int .u32 0, .int .u32 0, .int .u32 0, .int .u32 0, .int .u32 0, .int .u32 0, .int .u32 0, .int .u32 0, .int .u32 0, .int .u32 0, .int .u32 0, .int .u32 0, .int .u32 0] 126)).alloc (.cells #[.int .i64 0, .int .i64 0, .int .i64 0, .int .i64 0, .int .i64 0, .int .i64 0, .int .i64 0, .int .i64 0, .int .i64 0, .int .i64 0, .int .i64 0, .int .i64 0, .int .i64 0, .int .i64 0, .int .i64 0, .int .i64 0, .int .i64 0, .int .i64 0, .int .i64 0, .int .i64 0, .int .i64 0, .int .i64 0, .int .i64 0, .int .i64 0, .int .i64 0, .int .i64 0, .int .i64 0, .int .i64 0, .int .i64 0, .int .i64 0, .int .i64 0, .int .i64 0] 116)).setRow (w.heap.size + 2) ts).heap[w.heap.size + 2]? = some (.cells ts 116 (0, 0)) := setRow_heap _ _ _ _ _ _ z2.out
  have HW : Below w.heap.size w ((((w.alloc (.cells cs 126)).alloc (.cells #[.int .u32 0, .int .u32 0, .int .u32 0, .int .u32 0, .int .u32 0, .int .u32 0, .int .u32 0, .int .u32 0, .int .u32 0, .int .u32 0, .int .u32 0, .int .u32 0, .int .u32 0, .int .u32 0, .int .u32 0, .int .u32 0] 126)).alloc (.cells #[.int .i64 0, .int .i64 0, .int .i64 0, .int .i64 0, .int .i64 0, .int .i64 0, .int .i64 0, .int .i64 0, .int .i64 0, .int .i64 0, .int .i64 0, .int .i64 0, .int .i64 0, .int .i64 0, .int .i64 0, .int .i64 0, .int .i64 0, .int .i64 0, .int .i64 0, .int .i64 0, .int .i64 0, .int .i64 0, .int .i64 0, .int .i64 0, .int .i64 0, .int .i64 0, .int .i64 0, .int .i64 0, .int .i64 0, .int .i64 0, .int .i64 0, .int .i64 0] 116)).setRow (w.heap.size + 2) ts) := ⟨rfl, rfl, rfl, by rw [setRow_size]; simp; omega, fun j hj => (setRow_other _ _ _ _ (by omega)).trans ((heap_alloc_old _ _ (by simp; omega)).trans ((heap_alloc_old _ _ (by simp; omega)).trans (heap_alloc_old w _ hj)))⟩
  have hsz : w.heap.size + 2 < ((((w.alloc (.cells cs 126)).alloc (.cells #[.int .u32 0, .int .u32 0, .int .u32 0, .int .u32 0, .int .u32 0, .int .u32 0, .int .u32 0, .int .u32 0, .int .u32 0, .int .u32 0, .int .u32 0, .int .u32 0, .int .u32 0, .int .u32 0, .int .u32 0, .int .u32 0] 126)).alloc (.cells #[.int .i64 0, .int .i64 0, .int .i64 0, .int .i64 0, .int .i64 0, .int .i64 0, .int .i64 0, .int .i64 0, .int .i64 0, .int .i64 0, .int .i64 0, .int .i64 0, .int .i64 0, .int .i64 0, .int .i64 0, .int .i64 0, .int .i64 0, .int .i64 0, .int .i64 0, .int .i64 0, .int .i64 0, .int .i64 0, .int .i64 0, .int .i64 0, .int .i64 0, .int .i64 0, .int .i64 0, .int .i64 0, .int .i64 0, .int .i64 0, .int .i64 0, .int .i64 0] 116)).setRow (w.heap.size + 2) ts).heap.size := by rw [setRow_size]; simp
  obtain ⟨W1, hW1⟩ : ∃ W1, W1 = (((w.alloc (.cells cs 126)).alloc (.cells #[.int .u32 0, .int .u32 0, .int .u32 0, .int .u32 0, .int .u32 0, .int .u32 0, .int .u32 0, .int .u32 0, .int .u32 0, .int .u32 0, .int .u32 0, .int .u32 0, .int .u32 0, .int .u32 0, .int .u32 0, .int .u32 0] 126)).alloc (.cells #[.int .i64 0, .int .i64 0, .int .i64 0, .int .i64 0, .int .i64 0, .int .i64 0, .int .i64 0, .int .i64 0, .int .i64 0, .int .i64 0, .int .i64 0, .int .i64 0, .int .i64 0, .int .i64 0, .int .i64 0, .int .i64 0, .int .i64 0, .int .i64 0, .int .i64 0, .int .i64 0, .int .i64 0, .int .i64 0, .int .i64 0, .int .i64 0, .int .i64 0, .int .i64 0, .int .i64 0, .int .i64 0, .int .i64 0, .int .i64 0, .int .i64 0, .int .i64 0] 116)).setRow (w.heap.size + 2) ts := ⟨_, rfl⟩
  rw [← hW1] at H0 H1 H2 HW hsz ⊢
  obtain ⟨b, hb⟩ : ∃ b, b = w.heap.size := ⟨_, rfl⟩
  obtain ⟨b1, hb1⟩ : ∃ b1, b1 = w.heap.size + 1 := ⟨_, rfl⟩
  obtain ⟨b2, hb2⟩ : ∃ b2, b2 = w.heap.size + 2 := ⟨_, rfl⟩
  rw [← hb2] at H2 hsz ⊢
  rw [← hb1] at H1 ⊢
  rw [← hb] at H0 HW ⊢
  have hbw : w.heap.size ≤ b := by omega
  have hbw2 : b ≤ w.heap.size := by omega
  have hbb : b < b1 := by omega
  have hbb2 : b1 < b2 := by omega
  have HX1 := Lib.hid H0; have HR1 := Lib.hid H1; have HT2 := Lib.hid H2; have HBW1 := Lib.hid HW
  have HSZ : Hid (b2 < W1.heap.size) := Lib.hid hsz
  clear hW1 hb hb1 hb2 H0 H1 H2 HW hsz z2 HT0 HTO
  go_wp2_with ((with_reducible refine wpList_load_row rfl 116 (.tmp 3) rfl (b2) rfl 116 ts (0, 0) _ HT2.out Try.underlying116 rfl HTI.out ?_))
  go_loopw [16] (fun i wr => ∃ k : Nat, k ≤ 8 ∧ i = .int .i64 (k : Int) ∧ Hid (Wx wr b (d8 k L)) ∧ Hid (wr.heap[b1]? = some (.cells #[.int .u32 0, .int .u32 0, .int .u32 0, .int .u32 0, .int .u32 0, .int .u32 0, .int .u32 0, .int .u32 0, .int .u32 0, .int .u32 0, .int .u32 0, .int .u32 0, .int .u32 0, .int .u32 0, .int .u32 0, .int .u32 0] 126 (0, 0))) ∧ Hid (Below b w wr) ∧ Hid (b2 < wr.heap.size)) (fun i _ => 8 - (intOf i).toNat)
  case atStart => exact ⟨0, Nat.zero_le _, rfl, HX1, HR1, HBW1, HSZ⟩
  case round =>
    obtain ⟨k, hk8, rfl, hx, hr, hbe, hsz⟩ := hrel
    clear HX1 HR1 HBW1 HT2 HSZ
    by_cases hlt : k < 8
    · have hI : (k : Int) < 8 := by omega
      have h0I : (0 : Int) ≤ (k : Int) := by omega
      have hidx : ∀ W, (Instr.index 116 (.agg ts) (.int .i64 (k : Int))).run Try.prog W = .ok (.agg #[.int .i64 (pl k 0 : Int), .int .i64 (pl k 1 : Int), .int .i64 (pl k 2 : Int), .int .i64 (pl k 3 : Int)]) W := fun W => by rw [HTS.out]; exact tab_index hlt W
      obtain ⟨M, hM⟩ : ∃ M, M = d8 k L := ⟨_, rfl⟩
      have hMl : M.length = 16 := by rw [hM, d8_len, HLL.out]
      rw [← hM] at hx
      obtain ⟨p0, hp0⟩ : ∃ p, p = pl k 0 := ⟨_, rfl⟩
      have q0 : p0 < 16 := by rw [hp0]; exact pl_lt k 0
      obtain ⟨p1, hp1⟩ : ∃ p, p = pl k 1 := ⟨_, rfl⟩
      have q1 : p1 < 16 := by rw [hp1]; exact pl_lt k 1
      obtain ⟨p2, hp2⟩ : ∃ p, p = pl k 2 := ⟨_, rfl⟩
      have q2 : p2 < 16 := by rw [hp2]; exact pl_lt k 2
      obtain ⟨p3, hp3⟩ : ∃ p, p = pl k 3 := ⟨_, rfl⟩
      have q3 : p3 < 16 := by rw [hp3]; exact pl_lt k 3
      rw [← hp0, ← hp1, ← hp2, ← hp3] at hidx
      obtain ⟨x0, hx0⟩ : ∃ x, x = gw M p0 := ⟨_, rfl⟩
      obtain ⟨x1, hx1⟩ : ∃ x, x = gw M p1 := ⟨_, rfl⟩
      obtain ⟨x2, hx2⟩ : ∃ x, x = gw M p2 := ⟨_, rfl⟩
      obtain ⟨x3, hx3⟩ : ∃ x, x = gw M p3 := ⟨_, rfl⟩
      have CQ := quarter_any x0 x1 x2 x3 (wr.alloc (.cells #[.int .i64 (p0 : Int), .int .i64 (p1 : Int), .int .i64 (p2 : Int), .int .i64 (p3 : Int)] 115)).drew
      obtain ⟨r0, hr0⟩ : ∃ r, r = qa2 x0 x1 x2 x3 := ⟨_, rfl⟩
      obtain ⟨r1, hr1⟩ : ∃ r, r = qb2 x0 x1 x2 x3 := ⟨_, rfl⟩
      obtain ⟨r2, hr2⟩ : ∃ r, r = qc2 x0 x1 x2 x3 := ⟨_, rfl⟩
      obtain ⟨r3, hr3⟩ : ∃ r, r = qd2 x0 x1 x2 x3 := ⟨_, rfl⟩
      rw [← hr0, ← hr1, ← hr2, ← hr3] at CQ
      have CQ := Lib.hid CQ
      have hq : Hid (d8 (k + 1) L = (((M.set p0 r0).set p1 r1).set p2 r2).set p3 r3) := Lib.hid (by rw [d8, ← hM, hr0, hr1, hr2, hr3, hx0, hx1, hx2, hx3, hp0, hp1, hp2, hp3]; rfl)
      have W0 : Wx (wr.alloc (.cells #[.int .i64 (p0 : Int), .int .i64 (p1 : Int), .int .i64 (p2 : Int), .int .i64 (p3 : Int)] 115)).drew b M := hx.out.below ((Below.refl wr.heap.size wr).alloc (Nat.le_refl _) _).drew hx.out.lt
      have s0 := W0.get (j := p0) (by omega)
      have s1 := W0.get (j := p1) (by omega)
      have s2 := W0.get (j := p2) (by omega)
      have s3 := W0.get (j := p3) (by omega)
      rw [← hx0] at s0
      rw [← hx1] at s1
      rw [← hx2] at s2
      rw [← hx3] at s3
      have f0 := (W0.at_ (j := p0) (by omega)).2.1
      have f1 := (W0.at_ (j := p1) (by omega)).2.1
      have f2 := (W0.at_ (j := p2) (by omega)).2.1
      have f3 := (W0.at_ (j := p3) (by omega)).2.1
      have W1 := (W0.at_ (j := p0) (by omega)).2.2 r0
      have t1 := W1.get (j := p1) (by rw [List.length_set]; omega)
      have u1 := (W1.at_ (j := p1) (by rw [List.length_set]; omega)).2.1
      have W2 := (W1.at_ (j := p1) (by rw [List.length_set]; omega)).2.2 r1
      have t2 := W2.get (j := p2) (by rw [List.length_set, List.length_set]; omega)
      have u2 := (W2.at_ (j := p2) (by rw [List.length_set, List.length_set]; omega)).2.1
      have W3 := (W2.at_ (j := p2) (by rw [List.length_set, List.length_set]; omega)).2.2 r2
      have t3 := W3.get (j := p3) (by rw [List.length_set, List.length_set, List.length_set]; omega)
      have u3 := (W3.at_ (j := p3) (by rw [List.length_set, List.length_set, List.length_set]; omega)).2.1
      have W4 := (W3.at_ (j := p3) (by rw [List.length_set, List.length_set, List.length_set]; omega)).2.2 r3
      obtain ⟨o1, ho1⟩ : ∃ o, o = gw (M.set p0 r0) p1 := ⟨_, rfl⟩
      obtain ⟨o2, ho2⟩ : ∃ o, o = gw ((M.set p0 r0).set p1 r1) p2 := ⟨_, rfl⟩
      obtain ⟨o3, ho3⟩ : ∃ o, o = gw (((M.set p0 r0).set p1 r1).set p2 r2) p3 := ⟨_, rfl⟩
      rw [← ho1] at t1
      rw [← ho2] at t2
      rw [← ho3] at t3
      have nn : (p0 ≠ p1 ∧ p0 ≠ p2 ∧ p0 ≠ p3) ∧ (p1 ≠ p2 ∧ p1 ≠ p3 ∧ p2 ≠ p3) := by rw [hp0, hp1, hp2, hp3]; exact pl_ne hlt
      obtain ⟨⟨n01, n02, n03⟩, n12, n13, n23⟩ := nn
      have n10 := n01.symm
      have n20 := n02.symm
      have n30 := n03.symm
      have n21 := n12.symm
      have n31 := n13.symm
      have n32 := n23.symm
      have HW4 := Lib.hid W4
      have g0 : (wr.alloc (.cells #[.int .i64 (p0 : Int), .int .i64 (p1 : Int), .int .i64 (p2 : Int), .int .i64 (p3 : Int)] 115)).drew.cell? ⟨wr.heap.size, 0, none⟩ = some (.int .i64 (p0 : Int)) := by
        show (wr.alloc (.cells #[.int .i64 (p0 : Int), .int .i64 (p1 : Int), .int .i64 (p2 : Int), .int .i64 (p3 : Int)] 115)).cell? _ = _
        rw [cell_of_row _ _ 0 _ _ (0, 0) (heap_alloc_new wr _)]; rfl
      have g1 : (wr.alloc (.cells #[.int .i64 (p0 : Int), .int .i64 (p1 : Int), .int .i64 (p2 : Int), .int .i64 (p3 : Int)] 115)).drew.cell? ⟨wr.heap.size, 1, none⟩ = some (.int .i64 (p1 : Int)) := by
        show (wr.alloc (.cells #[.int .i64 (p0 : Int), .int .i64 (p1 : Int), .int .i64 (p2 : Int), .int .i64 (p3 : Int)] 115)).cell? _ = _
        rw [cell_of_row _ _ 1 _ _ (0, 0) (heap_alloc_new wr _)]; rfl
      have g2 : (wr.alloc (.cells #[.int .i64 (p0 : Int), .int .i64 (p1 : Int), .int .i64 (p2 : Int), .int .i64 (p3 : Int)] 115)).drew.cell? ⟨wr.heap.size, 2, none⟩ = some (.int .i64 (p2 : Int)) := by
        show (wr.alloc (.cells #[.int .i64 (p0 : Int), .int .i64 (p1 : Int), .int .i64 (p2 : Int), .int .i64 (p3 : Int)] 115)).cell? _ = _
        rw [cell_of_row _ _ 2 _ _ (0, 0) (heap_alloc_new wr _)]; rfl
      have g3 : (wr.alloc (.cells #[.int .i64 (p0 : Int), .int .i64 (p1 : Int), .int .i64 (p2 : Int), .int .i64 (p3 : Int)] 115)).drew.cell? ⟨wr.heap.size, 3, none⟩ = some (.int .i64 (p3 : Int)) := by
        show (wr.alloc (.cells #[.int .i64 (p0 : Int), .int .i64 (p1 : Int), .int .i64 (p2 : Int), .int .i64 (p3 : Int)] 115)).cell? _ = _
        rw [cell_of_row _ _ 3 _ _ (0, 0) (heap_alloc_new wr _)]; rfl
      obtain ⟨g, hg⟩ : ∃ g, g = wr.heap.size := ⟨_, rfl⟩
      have hbg : b < g := by have := hx.out.lt; omega
      have hb1g : b1 < g := by have := hsz.out; omega
      have HBE := Lib.hid (hbe.out.trans (((Below.refl wr.heap.size wr).alloc (Nat.le_refl _) (.cells #[.int .i64 (p0 : Int), .int .i64 (p1 : Int), .int .i64 (p2 : Int), .int .i64 (p3 : Int)] 115)).drew.mono (by have := hbe.out.size; omega)))
      have HRY : Hid ((wr.alloc (.cells #[.int .i64 (p0 : Int), .int .i64 (p1 : Int), .int .i64 (p2 : Int), .int .i64 (p3 : Int)] 115)).drew.heap[b1]? = some (.cells #[.int .u32 0, .int .u32 0, .int .u32 0, .int .u32 0, .int .u32 0, .int .u32 0, .int .u32 0, .int .u32 0, .int .u32 0, .int .u32 0, .int .u32 0, .int .u32 0, .int .u32 0, .int .u32 0, .int .u32 0, .int .u32 0] 126 (0, 0))) := Lib.hid ((heap_alloc_old wr _ (by omega)).trans hr.out)
      have HSY : Hid (b2 < (wr.alloc (.cells #[.int .i64 (p0 : Int), .int .i64 (p1 : Int), .int .i64 (p2 : Int), .int .i64 (p3 : Int)] 115)).drew.heap.size) := Lib.hid (by have := hsz.out; rw [World.size_drew, World.size_alloc]; omega)
      clear hM hx0 hx1 hx2 hx3 hr0 hr1 hr2 hr3 ho1 ho2 ho3 W0 W1 W2 W3 W4 hx hr hbe hsz hp0 hp1 hp2 hp3
      go_wp2_with fail
      rw [← hg] at g0 g1 g2 g3 ⊢
      clear hg
      generalize wr.alloc (.cells #[.int .i64 (p0 : Int), .int .i64 (p1 : Int), .int .i64 (p2 : Int), .int .i64 (p3 : Int)] 115) = Y at CQ HW4 HBE HRY HSY s0 s1 s2 s3 f0 f1 f2 f3 t1 t2 t3 u1 u2 u3 g0 g1 g2 g3 ⊢
      have c0 : (0 : Int) ≤ (p0 : Int) := by omega
      have c1 : (0 : Int) ≤ (p1 : Int) := by omega
      have c2 : (0 : Int) ≤ (p2 : Int) := by omega
      have c3 : (0 : Int) ≤ (p3 : Int) := by omega
      have e0 : (p0 : Int) < 16 := by omega
      have e1 : (p1 : Int) < 16 := by omega
      have e2 : (p2 : Int) < 16 := by omega
      have e3 : (p3 : Int) < 16 := by omega
      have t1b : (Y.setCell ⟨b, p0, none⟩ (.int .u32 (r0.toNat : Int))).drew.cell? ⟨b, p1, none⟩ = some (.int .u32 (o1.toNat : Int)) := t1
      have u1b : (Y.setCell ⟨b, p0, none⟩ (.int .u32 (r0.toNat : Int))).drew.frozen? ⟨b, p1, none⟩ = false := u1
      have t1c : (Y.setCell ⟨b, p0, none⟩ (.int .u32 (r0.toNat : Int))).cell? ⟨b, p1, none⟩ = some (.int .u32 (o1.toNat : Int)) := t1
      have u1c : (Y.setCell ⟨b, p0, none⟩ (.int .u32 (r0.toNat : Int))).frozen? ⟨b, p1, none⟩ = false := u1
      have t2b : ((Y.setCell ⟨b, p0, none⟩ (.int .u32 (r0.toNat : Int))).setCell ⟨b, p1, none⟩ (.int .u32 (r1.toNat : Int))).drew.cell? ⟨b, p2, none⟩ = some (.int .u32 (o2.toNat : Int)) := t2
      have u2b : ((Y.setCell ⟨b, p0, none⟩ (.int .u32 (r0.toNat : Int))).setCell ⟨b, p1, none⟩ (.int .u32 (r1.toNat : Int))).drew.frozen? ⟨b, p2, none⟩ = false := u2
      have t2c : ((Y.setCell ⟨b, p0, none⟩ (.int .u32 (r0.toNat : Int))).setCell ⟨b, p1, none⟩ (.int .u32 (r1.toNat : Int))).cell? ⟨b, p2, none⟩ = some (.int .u32 (o2.toNat : Int)) := t2
      have u2c : ((Y.setCell ⟨b, p0, none⟩ (.int .u32 (r0.toNat : Int))).setCell ⟨b, p1, none⟩ (.int .u32 (r1.toNat : Int))).frozen? ⟨b, p2, none⟩ = false := u2
      have t3b : (((Y.setCell ⟨b, p0, none⟩ (.int .u32 (r0.toNat : Int))).setCell ⟨b, p1, none⟩ (.int .u32 (r1.toNat : Int))).setCell ⟨b, p2, none⟩ (.int .u32 (r2.toNat : Int))).drew.cell? ⟨b, p3, none⟩ = some (.int .u32 (o3.toNat : Int)) := t3
      have u3b : (((Y.setCell ⟨b, p0, none⟩ (.int .u32 (r0.toNat : Int))).setCell ⟨b, p1, none⟩ (.int .u32 (r1.toNat : Int))).setCell ⟨b, p2, none⟩ (.int .u32 (r2.toNat : Int))).drew.frozen? ⟨b, p3, none⟩ = false := u3
      have t3c : (((Y.setCell ⟨b, p0, none⟩ (.int .u32 (r0.toNat : Int))).setCell ⟨b, p1, none⟩ (.int .u32 (r1.toNat : Int))).setCell ⟨b, p2, none⟩ (.int .u32 (r2.toNat : Int))).cell? ⟨b, p3, none⟩ = some (.int .u32 (o3.toNat : Int)) := t3
      have u3c : (((Y.setCell ⟨b, p0, none⟩ (.int .u32 (r0.toNat : Int))).setCell ⟨b, p1, none⟩ (.int .u32 (r1.toNat : Int))).setCell ⟨b, p2, none⟩ (.int .u32 (r2.toNat : Int))).frozen? ⟨b, p3, none⟩ = false := u3
      have HRF : Hid (((((Y.drew.setCell ⟨b, p0, none⟩ (.int .u32 (r0.toNat : Int))).setCell ⟨b, p1, none⟩ (.int .u32 (r1.toNat : Int))).setCell ⟨b, p2, none⟩ (.int .u32 (r2.toNat : Int))).setCell ⟨b, p3, none⟩ (.int .u32 (r3.toNat : Int))).heap[b1]? = some (.cells #[.int .u32 0, .int .u32 0, .int .u32 0, .int .u32 0, .int .u32 0, .int .u32 0, .int .u32 0, .int .u32 0, .int .u32 0, .int .u32 0, .int .u32 0, .int .u32 0, .int .u32 0, .int .u32 0, .int .u32 0, .int .u32 0] 126 (0, 0))) := Lib.hid ((Below.heap_setCell (((Y.drew.setCell ⟨b, p0, none⟩ (.int .u32 (r0.toNat : Int))).setCell ⟨b, p1, none⟩ (.int .u32 (r1.toNat : Int))).setCell ⟨b, p2, none⟩ (.int .u32 (r2.toNat : Int))) ⟨b, p3, none⟩ (.int .u32 (r3.toNat : Int)) b1 (by show b1 ≠ b; omega)).trans ((Below.heap_setCell ((Y.drew.setCell ⟨b, p0, none⟩ (.int .u32 (r0.toNat : Int))).setCell ⟨b, p1, none⟩ (.int .u32 (r1.toNat : Int))) ⟨b, p2, none⟩ (.int .u32 (r2.toNat : Int)) b1 (by show b1 ≠ b; omega)).trans ((Below.heap_setCell (Y.drew.setCell ⟨b, p0, none⟩ (.int .u32 (r0.toNat : Int))) ⟨b, p1, none⟩ (.int .u32 (r1.toNat : Int)) b1 (by show b1 ≠ b; omega)).trans ((Below.heap_setCell Y.drew ⟨b, p0, none⟩ (.int .u32 (r0.toNat : Int)) b1 (by show b1 ≠ b; omega)).trans (HRY.out)))))
      have HBF : Hid (Below b w ((((Y.drew.setCell ⟨b, p0, none⟩ (.int .u32 (r0.toNat : Int))).setCell ⟨b, p1, none⟩ (.int .u32 (r1.toNat : Int))).setCell ⟨b, p2, none⟩ (.int .u32 (r2.toNat : Int))).setCell ⟨b, p3, none⟩ (.int .u32 (r3.toNat : Int)))) := Lib.hid (((((HBE.out).setCell (p := ⟨b, p0, none⟩) (Nat.le_refl _) (.int .u32 (r0.toNat : Int))).setCell (p := ⟨b, p1, none⟩) (Nat.le_refl _) (.int .u32 (r1.toNat : Int))).setCell (p := ⟨b, p2, none⟩) (Nat.le_refl _) (.int .u32 (r2.toNat : Int))).setCell (p := ⟨b, p3, none⟩) (Nat.le_refl _) (.int .u32 (r3.toNat : Int)))
      have HSF : Hid (b2 < ((((Y.drew.setCell ⟨b, p0, none⟩ (.int .u32 (r0.toNat : Int))).setCell ⟨b, p1, none⟩ (.int .u32 (r1.toNat : Int))).setCell ⟨b, p2, none⟩ (.int .u32 (r2.toNat : Int))).setCell ⟨b, p3, none⟩ (.int .u32 (r3.toNat : Int))).heap.size) := Lib.hid (by simp only [World.size_setCell]; exact HSY.out)
      have HXF : Hid (Wx ((((Y.drew.setCell ⟨b, p0, none⟩ (.int .u32 (r0.toNat : Int))).setCell ⟨b, p1, none⟩ (.int .u32 (r1.toNat : Int))).setCell ⟨b, p2, none⟩ (.int .u32 (r2.toNat : Int))).setCell ⟨b, p3, none⟩ (.int .u32 (r3.toNat : Int))) b (d8 (k + 1) L)) := Lib.hid (by rw [hq.out]; exact HW4.out)
      have PC : Hid (Y.drew.cell? ⟨g, 0, none⟩ = some (.int .i64 (p0 : Int)) ∧ Y.drew.cell? ⟨g, 1, none⟩ = some (.int .i64 (p1 : Int)) ∧ Y.drew.cell? ⟨g, 2, none⟩ = some (.int .i64 (p2 : Int)) ∧ Y.drew.cell? ⟨g, 3, none⟩ = some (.int .i64 (p3 : Int))) := Lib.hid ⟨g0, g1, g2, g3⟩
      have PC1 : Hid ((Y.drew.setCell ⟨b, p0, none⟩ (.int .u32 (r0.toNat : Int))).cell? ⟨g, 0, none⟩ = some (.int .i64 (p0 : Int)) ∧ (Y.drew.setCell ⟨b, p0, none⟩ (.int .u32 (r0.toNat : Int))).cell? ⟨g, 1, none⟩ = some (.int .i64 (p1 : Int)) ∧ (Y.drew.setCell ⟨b, p0, none⟩ (.int .u32 (r0.toNat : Int))).cell? ⟨g, 2, none⟩ = some (.int .i64 (p2 : Int)) ∧ (Y.drew.setCell ⟨b, p0, none⟩ (.int .u32 (r0.toNat : Int))).cell? ⟨g, 3, none⟩ = some (.int .i64 (p3 : Int))) := Lib.hid ⟨(cell_far (by omega)).trans PC.out.1, (cell_far (by omega)).trans PC.out.2.1, (cell_far (by omega)).trans PC.out.2.2.1, (cell_far (by omega)).trans PC.out.2.2.2⟩
      have PC2 : Hid (((Y.drew.setCell ⟨b, p0, none⟩ (.int .u32 (r0.toNat : Int))).setCell ⟨b, p1, none⟩ (.int .u32 (r1.toNat : Int))).cell? ⟨g, 0, none⟩ = some (.int .i64 (p0 : Int)) ∧ ((Y.drew.setCell ⟨b, p0, none⟩ (.int .u32 (r0.toNat : Int))).setCell ⟨b, p1, none⟩ (.int .u32 (r1.toNat : Int))).cell? ⟨g, 1, none⟩ = some (.int .i64 (p1 : Int)) ∧ ((Y.drew.setCell ⟨b, p0, none⟩ (.int .u32 (r0.toNat : Int))).setCell ⟨b, p1, none⟩ (.int .u32 (r1.toNat : Int))).cell? ⟨g, 2, none⟩ = some (.int .i64 (p2 : Int)) ∧ ((Y.drew.setCell ⟨b, p0, none⟩ (.int .u32 (r0.toNat : Int))).setCell ⟨b, p1, none⟩ (.int .u32 (r1.toNat : Int))).cell? ⟨g, 3, none⟩ = some (.int .i64 (p3 : Int))) := Lib.hid ⟨(cell_far (by omega)).trans PC1.out.1, (cell_far (by omega)).trans PC1.out.2.1, (cell_far (by omega)).trans PC1.out.2.2.1, (cell_far (by omega)).trans PC1.out.2.2.2⟩
      have PC3 : Hid ((((Y.drew.setCell ⟨b, p0, none⟩ (.int .u32 (r0.toNat : Int))).setCell ⟨b, p1, none⟩ (.int .u32 (r1.toNat : Int))).setCell ⟨b, p2, none⟩ (.int .u32 (r2.toNat : Int))).cell? ⟨g, 0, none⟩ = some (.int .i64 (p0 : Int)) ∧ (((Y.drew.setCell ⟨b, p0, none⟩ (.int .u32 (r0.toNat : Int))).setCell ⟨b, p1, none⟩ (.int .u32 (r1.toNat : Int))).setCell ⟨b, p2, none⟩ (.int .u32 (r2.toNat : Int))).cell? ⟨g, 1, none⟩ = some (.int .i64 (p1 : Int)) ∧ (((Y.drew.setCell ⟨b, p0, none⟩ (.int .u32 (r0.toNat : Int))).setCell ⟨b, p1, none⟩ (.int .u32 (r1.toNat : Int))).setCell ⟨b, p2, none⟩ (.int .u32 (r2.toNat : Int))).cell? ⟨g, 2, none⟩ = some (.int .i64 (p2 : Int)) ∧ (((Y.drew.setCell ⟨b, p0, none⟩ (.int .u32 (r0.toNat : Int))).setCell ⟨b, p1, none⟩ (.int .u32 (r1.toNat : Int))).setCell ⟨b, p2, none⟩ (.int .u32 (r2.toNat : Int))).cell? ⟨g, 3, none⟩ = some (.int .i64 (p3 : Int))) := Lib.hid ⟨(cell_far (by omega)).trans PC2.out.1, (cell_far (by omega)).trans PC2.out.2.1, (cell_far (by omega)).trans PC2.out.2.2.1, (cell_far (by omega)).trans PC2.out.2.2.2⟩
      have PC4 : Hid (((((Y.drew.setCell ⟨b, p0, none⟩ (.int .u32 (r0.toNat : Int))).setCell ⟨b, p1, none⟩ (.int .u32 (r1.toNat : Int))).setCell ⟨b, p2, none⟩ (.int .u32 (r2.toNat : Int))).setCell ⟨b, p3, none⟩ (.int .u32 (r3.toNat : Int))).cell? ⟨g, 0, none⟩ = some (.int .i64 (p0 : Int)) ∧ ((((Y.drew.setCell ⟨b, p0, none⟩ (.int .u32 (r0.toNat : Int))).setCell ⟨b, p1, none⟩ (.int .u32 (r1.toNat : Int))).setCell ⟨b, p2, none⟩ (.int .u32 (r2.toNat : Int))).setCell ⟨b, p3, none⟩ (.int .u32 (r3.toNat : Int))).cell? ⟨g, 1, none⟩ = some (.int .i64 (p1 : Int)) ∧ ((((Y.drew.setCell ⟨b, p0, none⟩ (.int .u32 (r0.toNat : Int))).setCell ⟨b, p1, none⟩ (.int .u32 (r1.toNat : Int))).setCell ⟨b, p2, none⟩ (.int .u32 (r2.toNat : Int))).setCell ⟨b, p3, none⟩ (.int .u32 (r3.toNat : Int))).cell? ⟨g, 2, none⟩ = some (.int .i64 (p2 : Int)) ∧ ((((Y.drew.setCell ⟨b, p0, none⟩ (.int .u32 (r0.toNat : Int))).setCell ⟨b, p1, none⟩ (.int .u32 (r1.toNat : Int))).setCell ⟨b, p2, none⟩ (.int .u32 (r2.toNat : Int))).setCell ⟨b, p3, none⟩ (.int .u32 (r3.toNat : Int))).cell? ⟨g, 3, none⟩ = some (.int .i64 (p3 : Int))) := Lib.hid ⟨(cell_far (by omega)).trans PC3.out.1, (cell_far (by omega)).trans PC3.out.2.1, (cell_far (by omega)).trans PC3.out.2.2.1, (cell_far (by omega)).trans PC3.out.2.2.2⟩
      refine wp_region_held_drew (S := fun w' => w'.cell? ⟨g, 0, none⟩ = some (.int .i64 (p0 : Int)) ∧ w'.cell? ⟨g, 1, none⟩ = some (.int .i64 (p1 : Int)) ∧ w'.cell? ⟨g, 2, none⟩ = some (.int .i64 (p2 : Int)) ∧ w'.cell? ⟨g, 3, none⟩ = some (.int .i64 (p3 : Int))) (by kernel_rfl) ?_ (fun hHeld => ?_)
      · exact PC.out
      refine takeD (i := 0) (oi := _) (d := some 20) (v := ?_) rfl (by kernel_rfl) (by kernel_rfl) (by kernel_rfl) (by kernel_rfl) (fun _ _ _ h => h) (Or.inl ⟨by kernel_rfl, ?_⟩) (by assumption) ?_
      rotate_left
      focus (intro w' hSw; (try dsimp only at hSw); go_simp <;> with_reducible rfl)
      try simp only [Act.put, List.setIfInBounds_toArray, List.set_cons_zero, List.set_cons_succ]
      refine takeD (i := 1) (oi := _) (d := some 21) (v := ?_) rfl (by kernel_rfl) (by kernel_rfl) (by kernel_rfl) (by kernel_rfl) (fun _ _ _ h => h) (Or.inl ⟨by kernel_rfl, ?_⟩) (by assumption) ?_
      rotate_left
      focus (intro w' hSw; (try dsimp only at hSw); go_simp <;> with_reducible rfl)
      try simp only [Act.put, List.setIfInBounds_toArray, List.set_cons_zero, List.set_cons_succ]
      refine takeD (i := 2) (oi := _) (d := some 22) (v := ?_) rfl (by kernel_rfl) (by kernel_rfl) (by kernel_rfl) (by kernel_rfl) (fun _ _ _ h => h) (Or.inl ⟨by kernel_rfl, ?_⟩) (by assumption) ?_
      rotate_left
      focus (intro w' hSw; (try dsimp only at hSw); go_simp <;> with_reducible rfl)
      try simp only [Act.put, List.setIfInBounds_toArray, List.set_cons_zero, List.set_cons_succ]
      refine takeD (i := 3) (oi := _) (d := some 23) (v := ?_) rfl (by kernel_rfl) (by kernel_rfl) (by kernel_rfl) (by kernel_rfl) (fun _ _ _ h => h) (Or.inl ⟨by kernel_rfl, ?_⟩) (by assumption) ?_
      rotate_left
      focus (intro w' hSw; (try dsimp only at hSw); go_simp <;> with_reducible rfl)
      try simp only [Act.put, List.setIfInBounds_toArray, List.set_cons_zero, List.set_cons_succ]
      refine takeD (i := 4) (oi := _) (d := some 24) (v := ?_) rfl (by kernel_rfl) (by kernel_rfl) (by kernel_rfl) (by kernel_rfl) (fun _ _ _ h => h) (Or.inl ⟨by kernel_rfl, ?_⟩) (by assumption) ?_
      rotate_left
      focus (intro w' hSw; (try dsimp only at hSw); go_simp <;> with_reducible rfl)
      try simp only [Act.put, List.setIfInBounds_toArray, List.set_cons_zero, List.set_cons_succ]
      refine takeD (i := 5) (oi := _) (d := some 25) (v := ?_) rfl (by kernel_rfl) (by kernel_rfl) (by kernel_rfl) (by kernel_rfl) (fun _ _ _ h => h) (Or.inl ⟨by kernel_rfl, ?_⟩) (by assumption) ?_
      rotate_left
      focus (intro w' hSw; (try dsimp only at hSw); go_simp <;> with_reducible rfl)
      try simp only [Act.put, List.setIfInBounds_toArray, List.set_cons_zero, List.set_cons_succ]
      refine takeD (i := 6) (oi := _) (d := some 26) (v := ?_) rfl (by kernel_rfl) (by kernel_rfl) (by kernel_rfl) (by kernel_rfl) (fun _ _ _ h => h) (Or.inl ⟨by kernel_rfl, ?_⟩) (by assumption) ?_
      rotate_left
      focus (intro w' hSw; (try dsimp only at hSw); go_simp <;> with_reducible rfl)
      try simp only [Act.put, List.setIfInBounds_toArray, List.set_cons_zero, List.set_cons_succ]
      refine takeD (i := 7) (oi := _) (d := some 27) (v := ?_) rfl (by kernel_rfl) (by kernel_rfl) (by kernel_rfl) (by kernel_rfl) (fun _ _ _ h => h) (Or.inl ⟨by kernel_rfl, ?_⟩) (by assumption) ?_
      rotate_left
      focus (intro w' hSw; (try dsimp only at hSw); go_simp <;> with_reducible rfl)
      try simp only [Act.put, List.setIfInBounds_toArray, List.set_cons_zero, List.set_cons_succ]
      refine takeD (i := 8) (oi := _) (d := some 28) (v := ?_) rfl (by kernel_rfl) (by kernel_rfl) (by kernel_rfl) (by kernel_rfl) (fun _ _ _ h => h) (Or.inl ⟨by kernel_rfl, ?_⟩) (by assumption) ?_
      rotate_left
      focus (intro w' hSw; (try dsimp only at hSw); go_simp <;> with_reducible rfl)
      try simp only [Act.put, List.setIfInBounds_toArray, List.set_cons_zero, List.set_cons_succ]
      refine takeD (i := 9) (oi := _) (d := some 29) (v := ?_) rfl (by kernel_rfl) (by kernel_rfl) (by kernel_rfl) (by kernel_rfl) (fun _ _ _ h => h) (Or.inl ⟨by kernel_rfl, ?_⟩) (by assumption) ?_
      rotate_left
      focus (intro w' hSw; (try dsimp only at hSw); go_simp <;> with_reducible rfl)
      try simp only [Act.put, List.setIfInBounds_toArray, List.set_cons_zero, List.set_cons_succ]
      refine takeD (i := 10) (oi := _) (d := some 30) (v := ?_) rfl (by kernel_rfl) (by kernel_rfl) (by kernel_rfl) (by kernel_rfl) (fun _ _ _ h => h) (Or.inl ⟨by kernel_rfl, ?_⟩) (by assumption) ?_
      rotate_left
      focus (intro w' hSw; (try dsimp only at hSw); go_simp <;> with_reducible rfl)
      try simp only [Act.put, List.setIfInBounds_toArray, List.set_cons_zero, List.set_cons_succ]
      refine takeD (i := 12) (oi := _) (d := some 32) (v := ?_) rfl (by kernel_rfl) (by kernel_rfl) (by kernel_rfl) (by kernel_rfl) (fun _ _ _ h => h) (Or.inl ⟨by kernel_rfl, ?_⟩) (by assumption) ?_
      rotate_left
      focus (intro w' hSw; (try dsimp only at hSw); go_simp <;> with_reducible rfl)
      try simp only [Act.put, List.setIfInBounds_toArray, List.set_cons_zero, List.set_cons_succ]
      refine takeD (i := 13) (oi := _) (d := some 33) (v := ?_) rfl (by kernel_rfl) (by kernel_rfl) (by kernel_rfl) (by kernel_rfl) (fun _ _ _ h => h) (Or.inl ⟨by kernel_rfl, ?_⟩) (by assumption) ?_
      rotate_left
      focus (intro w' hSw; (try dsimp only at hSw); go_simp <;> with_reducible rfl)
      try simp only [Act.put, List.setIfInBounds_toArray, List.set_cons_zero, List.set_cons_succ]
      refine takeD (i := 14) (oi := _) (d := some 34) (v := ?_) rfl (by kernel_rfl) (by kernel_rfl) (by kernel_rfl) (by kernel_rfl) (fun _ _ _ h => h) (Or.inl ⟨by kernel_rfl, ?_⟩) (by assumption) ?_
      rotate_left
      focus (intro w' hSw; (try dsimp only at hSw); go_simp <;> with_reducible rfl)
      try simp only [Act.put, List.setIfInBounds_toArray, List.set_cons_zero, List.set_cons_succ]
      refine takeD (i := 16) (oi := _) (d := some 36) (v := ?_) rfl (by kernel_rfl) (by kernel_rfl) (by kernel_rfl) (by kernel_rfl) (fun _ _ _ h => h) (Or.inl ⟨by kernel_rfl, ?_⟩) (by assumption) ?_
      rotate_left
      focus (intro w' hSw; (try dsimp only at hSw); go_simp <;> with_reducible rfl)
      try simp only [Act.put, List.setIfInBounds_toArray, List.set_cons_zero, List.set_cons_succ]
      refine takeD (i := 17) (oi := _) (d := some 37) (v := ?_) rfl (by kernel_rfl) (by kernel_rfl) (by kernel_rfl) (by kernel_rfl) (fun _ _ _ h => h) (Or.inl ⟨by kernel_rfl, ?_⟩) (by assumption) ?_
      rotate_left
      focus (intro w' hSw; (try dsimp only at hSw); go_simp <;> with_reducible rfl)
      try simp only [Act.put, List.setIfInBounds_toArray, List.set_cons_zero, List.set_cons_succ]
      refine takeD (i := 18) (oi := _) (d := some 38) (v := ?_) rfl (by kernel_rfl) (by kernel_rfl) (by kernel_rfl) (by kernel_rfl) (fun _ _ _ h => h) (Or.inl ⟨by kernel_rfl, ?_⟩) (by assumption) ?_
      rotate_left
      focus (intro w' hSw; (try dsimp only at hSw); go_simp <;> with_reducible rfl)
      try simp only [Act.put, List.setIfInBounds_toArray, List.set_cons_zero, List.set_cons_succ]
      refine takeD (i := 20) (oi := _) (d := some 40) (v := ?_) rfl (by kernel_rfl) (by kernel_rfl) (by kernel_rfl) (by kernel_rfl) (fun _ _ _ h => h) (Or.inl ⟨by kernel_rfl, ?_⟩) (by assumption) ?_
      rotate_left
      focus (intro w' hSw; (try dsimp only at hSw); go_simp <;> with_reducible rfl)
      try simp only [Act.put, List.setIfInBounds_toArray, List.set_cons_zero, List.set_cons_succ]
      refine takeD (i := 21) (oi := _) (d := some 41) (v := ?_) rfl (by kernel_rfl) (by kernel_rfl) (by kernel_rfl) (by kernel_rfl) (fun _ _ _ h => h) (Or.inl ⟨by kernel_rfl, ?_⟩) (by assumption) ?_
      rotate_left
      focus (intro w' hSw; (try dsimp only at hSw); go_simp <;> with_reducible rfl)
      try simp only [Act.put, List.setIfInBounds_toArray, List.set_cons_zero, List.set_cons_succ]
      refine takeD (i := 22) (oi := _) (d := some 42) (v := ?_) rfl (by kernel_rfl) (by kernel_rfl) (by kernel_rfl) (by kernel_rfl) (fun _ _ _ h => h) (Or.inl ⟨by kernel_rfl, ?_⟩) (by assumption) ?_
      rotate_left
      focus (intro w' hSw; (try dsimp only at hSw); go_simp <;> with_reducible rfl)
      try simp only [Act.put, List.setIfInBounds_toArray, List.set_cons_zero, List.set_cons_succ]
      refine (fun (CONT : ?G) => ?main) ?cont
      case main =>
        refine wpAnyH_ready (rs := [11, 15, 19, 23]) (by kernel_rfl) (by simp) ?_
        refine AllReadyH.cons (o := _) rfl (fun K hK => ?_) (AllReadyH.cons (o := _) rfl (fun K hK => ?_) (AllReadyH.cons (o := _) rfl (fun K hK => ?_) (AllReadyH.cons (o := _) rfl (fun K hK => ?_) AllReadyH.nil)))
        · go_simp
          refine hK.out _ _ ?_ (fun hHeld => ?_)
          · exact PC.out
          clear hK K
          try simp only [Act.put, List.setIfInBounds_toArray, List.set_cons_zero, List.set_cons_succ]
          refine wpAnyH_ready (rs := [15, 19, 23]) (by kernel_rfl) (by simp) ?_
          refine AllReadyH.cons (o := _) rfl (fun K hK => ?_) (AllReadyH.cons (o := _) rfl (fun K hK => ?_) (AllReadyH.cons (o := _) rfl (fun K hK => ?_) AllReadyH.nil))
          · go_simp
            refine hK.out _ _ ?_ (fun hHeld => ?_)
            · exact PC.out
            clear hK K
            try simp only [Act.put, List.setIfInBounds_toArray, List.set_cons_zero, List.set_cons_succ]
            refine wpAnyH_ready (rs := [19, 23]) (by kernel_rfl) (by simp) ?_
            refine AllReadyH.cons (o := _) rfl (fun K hK => ?_) (AllReadyH.cons (o := _) rfl (fun K hK => ?_) AllReadyH.nil)
            · go_simp
              refine hK.out _ _ ?_ (fun hHeld => ?_)
              · exact PC.out
              clear hK K
              try simp only [Act.put, List.setIfInBounds_toArray, List.set_cons_zero, List.set_cons_succ]
              refine wpAnyH_ready (rs := [23]) (by kernel_rfl) (by simp) ?_
              refine AllReadyH.cons (o := _) rfl (fun K hK => ?_) AllReadyH.nil
              · go_simp
                refine hK.out _ _ ?_ (fun hHeld => ?_)
                · exact PC.out
                clear hK K
                try simp only [Act.put, List.setIfInBounds_toArray, List.set_cons_zero, List.set_cons_succ]
                exact CONT
            · go_simp
              refine hK.out _ _ ?_ (fun hHeld => ?_)
              · exact PC.out
              clear hK K
              try simp only [Act.put, List.setIfInBounds_toArray, List.set_cons_zero, List.set_cons_succ]
              refine wpAnyH_ready (rs := [19]) (by kernel_rfl) (by simp) ?_
              refine AllReadyH.cons (o := _) rfl (fun K hK => ?_) AllReadyH.nil
              · go_simp
                refine hK.out _ _ ?_ (fun hHeld => ?_)
                · exact PC.out
                clear hK K
                try simp only [Act.put, List.setIfInBounds_toArray, List.set_cons_zero, List.set_cons_succ]
                exact CONT
          · go_simp
            refine hK.out _ _ ?_ (fun hHeld => ?_)
            · exact PC.out
            clear hK K
            try simp only [Act.put, List.setIfInBounds_toArray, List.set_cons_zero, List.set_cons_succ]
            refine wpAnyH_ready (rs := [15, 23]) (by kernel_rfl) (by simp) ?_
            refine AllReadyH.cons (o := _) rfl (fun K hK => ?_) (AllReadyH.cons (o := _) rfl (fun K hK => ?_) AllReadyH.nil)
            · go_simp
              refine hK.out _ _ ?_ (fun hHeld => ?_)
              · exact PC.out
              clear hK K
              try simp only [Act.put, List.setIfInBounds_toArray, List.set_cons_zero, List.set_cons_succ]
              refine wpAnyH_ready (rs := [23]) (by kernel_rfl) (by simp) ?_
              refine AllReadyH.cons (o := _) rfl (fun K hK => ?_) AllReadyH.nil
              · go_simp
                refine hK.out _ _ ?_ (fun hHeld => ?_)
                · exact PC.out
                clear hK K
                try simp only [Act.put, List.setIfInBounds_toArray, List.set_cons_zero, List.set_cons_succ]
                exact CONT
            · go_simp
              refine hK.out _ _ ?_ (fun hHeld => ?_)
              · exact PC.out
              clear hK K
              try simp only [Act.put, List.setIfInBounds_toArray, List.set_cons_zero, List.set_cons_succ]
              refine wpAnyH_ready (rs := [15]) (by kernel_rfl) (by simp) ?_
              refine AllReadyH.cons (o := _) rfl (fun K hK => ?_) AllReadyH.nil
              · go_simp
                refine hK.out _ _ ?_ (fun hHeld => ?_)
                · exact PC.out
                clear hK K
                try simp only [Act.put, List.setIfInBounds_toArray, List.set_cons_zero, List.set_cons_succ]
                exact CONT
          · go_simp
            refine hK.out _ _ ?_ (fun hHeld => ?_)
            · exact PC.out
            clear hK K
            try simp only [Act.put, List.setIfInBounds_toArray, List.set_cons_zero, List.set_cons_succ]
            refine wpAnyH_ready (rs := [15, 19]) (by kernel_rfl) (by simp) ?_
            refine AllReadyH.cons (o := _) rfl (fun K hK => ?_) (AllReadyH.cons (o := _) rfl (fun K hK => ?_) AllReadyH.nil)
            · go_simp
              refine hK.out _ _ ?_ (fun hHeld => ?_)
              · exact PC.out
              clear hK K
              try simp only [Act.put, List.setIfInBounds_toArray, List.set_cons_zero, List.set_cons_succ]
              refine wpAnyH_ready (rs := [19]) (by kernel_rfl) (by simp) ?_
              refine AllReadyH.cons (o := _) rfl (fun K hK => ?_) AllReadyH.nil
              · go_simp
                refine hK.out _ _ ?_ (fun hHeld => ?_)
                · exact PC.out
                clear hK K
                try simp only [Act.put, List.setIfInBounds_toArray, List.set_cons_zero, List.set_cons_succ]
                exact CONT
            · go_simp
              refine hK.out _ _ ?_ (fun hHeld => ?_)
              · exact PC.out
              clear hK K
              try simp only [Act.put, List.setIfInBounds_toArray, List.set_cons_zero, List.set_cons_succ]
              refine wpAnyH_ready (rs := [15]) (by kernel_rfl) (by simp) ?_
              refine AllReadyH.cons (o := _) rfl (fun K hK => ?_) AllReadyH.nil
              · go_simp
                refine hK.out _ _ ?_ (fun hHeld => ?_)
                · exact PC.out
                clear hK K
                try simp only [Act.put, List.setIfInBounds_toArray, List.set_cons_zero, List.set_cons_succ]
                exact CONT
        · go_simp
          refine hK.out _ _ ?_ (fun hHeld => ?_)
          · exact PC.out
          clear hK K
          try simp only [Act.put, List.setIfInBounds_toArray, List.set_cons_zero, List.set_cons_succ]
          refine wpAnyH_ready (rs := [11, 19, 23]) (by kernel_rfl) (by simp) ?_
          refine AllReadyH.cons (o := _) rfl (fun K hK => ?_) (AllReadyH.cons (o := _) rfl (fun K hK => ?_) (AllReadyH.cons (o := _) rfl (fun K hK => ?_) AllReadyH.nil))
          · go_simp
            refine hK.out _ _ ?_ (fun hHeld => ?_)
            · exact PC.out
            clear hK K
            try simp only [Act.put, List.setIfInBounds_toArray, List.set_cons_zero, List.set_cons_succ]
            refine wpAnyH_ready (rs := [19, 23]) (by kernel_rfl) (by simp) ?_
            refine AllReadyH.cons (o := _) rfl (fun K hK => ?_) (AllReadyH.cons (o := _) rfl (fun K hK => ?_) AllReadyH.nil)
            · go_simp
              refine hK.out _ _ ?_ (fun hHeld => ?_)
              · exact PC.out
              clear hK K
              try simp only [Act.put, List.setIfInBounds_toArray, List.set_cons_zero, List.set_cons_succ]
              refine wpAnyH_ready (rs := [23]) (by kernel_rfl) (by simp) ?_
              refine AllReadyH.cons (o := _) rfl (fun K hK => ?_) AllReadyH.nil
              · go_simp
                refine hK.out _ _ ?_ (fun hHeld => ?_)
                · exact PC.out
                clear hK K
                try simp only [Act.put, List.setIfInBounds_toArray, List.set_cons_zero, List.set_cons_succ]
                exact CONT
            · go_simp
              refine hK.out _ _ ?_ (fun hHeld => ?_)
              · exact PC.out
              clear hK K
              try simp only [Act.put, List.setIfInBounds_toArray, List.set_cons_zero, List.set_cons_succ]
              refine wpAnyH_ready (rs := [19]) (by kernel_rfl) (by simp) ?_
              refine AllReadyH.cons (o := _) rfl (fun K hK => ?_) AllReadyH.nil
              · go_simp
                refine hK.out _ _ ?_ (fun hHeld => ?_)
                · exact PC.out
                clear hK K
                try simp only [Act.put, List.setIfInBounds_toArray, List.set_cons_zero, List.set_cons_succ]
                exact CONT
          · go_simp
            refine hK.out _ _ ?_ (fun hHeld => ?_)
            · exact PC.out
            clear hK K
            try simp only [Act.put, List.setIfInBounds_toArray, List.set_cons_zero, List.set_cons_succ]
            refine wpAnyH_ready (rs := [11, 23]) (by kernel_rfl) (by simp) ?_
            refine AllReadyH.cons (o := _) rfl (fun K hK => ?_) (AllReadyH.cons (o := _) rfl (fun K hK => ?_) AllReadyH.nil)
            · go_simp
              refine hK.out _ _ ?_ (fun hHeld => ?_)
              · exact PC.out
              clear hK K
              try simp only [Act.put, List.setIfInBounds_toArray, List.set_cons_zero, List.set_cons_succ]
              refine wpAnyH_ready (rs := [23]) (by kernel_rfl) (by simp) ?_
              refine AllReadyH.cons (o := _) rfl (fun K hK => ?_) AllReadyH.nil
              · go_simp
                refine hK.out _ _ ?_ (fun hHeld => ?_)
                · exact PC.out
                clear hK K
                try simp only [Act.put, List.setIfInBounds_toArray, List.set_cons_zero, List.set_cons_succ]
                exact CONT
            · go_simp
              refine hK.out _ _ ?_ (fun hHeld => ?_)
              · exact PC.out
              clear hK K
              try simp only [Act.put, List.setIfInBounds_toArray, List.set_cons_zero, List.set_cons_succ]
              refine wpAnyH_ready (rs := [11]) (by kernel_rfl) (by simp) ?_
              refine AllReadyH.cons (o := _) rfl (fun K hK => ?_) AllReadyH.nil
              · go_simp
                refine hK.out _ _ ?_ (fun hHeld => ?_)
                · exact PC.out
                clear hK K
                try simp only [Act.put, List.setIfInBounds_toArray, List.set_cons_zero, List.set_cons_succ]
                exact CONT
          · go_simp
            refine hK.out _ _ ?_ (fun hHeld => ?_)
            · exact PC.out
            clear hK K
            try simp only [Act.put, List.setIfInBounds_toArray, List.set_cons_zero, List.set_cons_succ]
            refine wpAnyH_ready (rs := [11, 19]) (by kernel_rfl) (by simp) ?_
            refine AllReadyH.cons (o := _) rfl (fun K hK => ?_) (AllReadyH.cons (o := _) rfl (fun K hK => ?_) AllReadyH.nil)
            · go_simp
              refine hK.out _ _ ?_ (fun hHeld => ?_)
              · exact PC.out
              clear hK K
              try simp only [Act.put, List.setIfInBounds_toArray, List.set_cons_zero, List.set_cons_succ]
              refine wpAnyH_ready (rs := [19]) (by kernel_rfl) (by simp) ?_
              refine AllReadyH.cons (o := _) rfl (fun K hK => ?_) AllReadyH.nil
              · go_simp
                refine hK.out _ _ ?_ (fun hHeld => ?_)
                · exact PC.out
                clear hK K
                try simp only [Act.put, List.setIfInBounds_toArray, List.set_cons_zero, List.set_cons_succ]
                exact CONT
            · go_simp
              refine hK.out _ _ ?_ (fun hHeld => ?_)
              · exact PC.out
              clear hK K
              try simp only [Act.put, List.setIfInBounds_toArray, List.set_cons_zero, List.set_cons_succ]
              refine wpAnyH_ready (rs := [11]) (by kernel_rfl) (by simp) ?_
              refine AllReadyH.cons (o := _) rfl (fun K hK => ?_) AllReadyH.nil
              · go_simp
                refine hK.out _ _ ?_ (fun hHeld => ?_)
                · exact PC.out
                clear hK K
                try simp only [Act.put, List.setIfInBounds_toArray, List.set_cons_zero, List.set_cons_succ]
                exact CONT
        · go_simp
          refine hK.out _ _ ?_ (fun hHeld => ?_)
          · exact PC.out
          clear hK K
          try simp only [Act.put, List.setIfInBounds_toArray, List.set_cons_zero, List.set_cons_succ]
          refine wpAnyH_ready (rs := [11, 15, 23]) (by kernel_rfl) (by simp) ?_
          refine AllReadyH.cons (o := _) rfl (fun K hK => ?_) (AllReadyH.cons (o := _) rfl (fun K hK => ?_) (AllReadyH.cons (o := _) rfl (fun K hK => ?_) AllReadyH.nil))
          · go_simp
            refine hK.out _ _ ?_ (fun hHeld => ?_)
            · exact PC.out
            clear hK K
            try simp only [Act.put, List.setIfInBounds_toArray, List.set_cons_zero, List.set_cons_succ]
            refine wpAnyH_ready (rs := [15, 23]) (by kernel_rfl) (by simp) ?_
            refine AllReadyH.cons (o := _) rfl (fun K hK => ?_) (AllReadyH.cons (o := _) rfl (fun K hK => ?_) AllReadyH.nil)
            · go_simp
              refine hK.out _ _ ?_ (fun hHeld => ?_)
              · exact PC.out
              clear hK K
              try simp only [Act.put, List.setIfInBounds_toArray, List.set_cons_zero, List.set_cons_succ]
              refine wpAnyH_ready (rs := [23]) (by kernel_rfl) (by simp) ?_
              refine AllReadyH.cons (o := _) rfl (fun K hK => ?_) AllReadyH.nil
              · go_simp
                refine hK.out _ _ ?_ (fun hHeld => ?_)
                · exact PC.out
                clear hK K
                try simp only [Act.put, List.setIfInBounds_toArray, List.set_cons_zero, List.set_cons_succ]
                exact CONT
            · go_simp
              refine hK.out _ _ ?_ (fun hHeld => ?_)
              · exact PC.out
              clear hK K
              try simp only [Act.put, List.setIfInBounds_toArray, List.set_cons_zero, List.set_cons_succ]
              refine wpAnyH_ready (rs := [15]) (by kernel_rfl) (by simp) ?_
              refine AllReadyH.cons (o := _) rfl (fun K hK => ?_) AllReadyH.nil
              · go_simp
                refine hK.out _ _ ?_ (fun hHeld => ?_)
                · exact PC.out
                clear hK K
                try simp only [Act.put, List.setIfInBounds_toArray, List.set_cons_zero, List.set_cons_succ]
                exact CONT
          · go_simp
            refine hK.out _ _ ?_ (fun hHeld => ?_)
            · exact PC.out
            clear hK K
            try simp only [Act.put, List.setIfInBounds_toArray, List.set_cons_zero, List.set_cons_succ]
            refine wpAnyH_ready (rs := [11, 23]) (by kernel_rfl) (by simp) ?_
            refine AllReadyH.cons (o := _) rfl (fun K hK => ?_) (AllReadyH.cons (o := _) rfl (fun K hK => ?_) AllReadyH.nil)
            · go_simp
              refine hK.out _ _ ?_ (fun hHeld => ?_)
              · exact PC.out
              clear hK K
              try simp only [Act.put, List.setIfInBounds_toArray, List.set_cons_zero, List.set_cons_succ]
              refine wpAnyH_ready (rs := [23]) (by kernel_rfl) (by simp) ?_
              refine AllReadyH.cons (o := _) rfl (fun K hK => ?_) AllReadyH.nil
              · go_simp
                refine hK.out _ _ ?_ (fun hHeld => ?_)
                · exact PC.out
                clear hK K
                try simp only [Act.put, List.setIfInBounds_toArray, List.set_cons_zero, List.set_cons_succ]
                exact CONT
            · go_simp
              refine hK.out _ _ ?_ (fun hHeld => ?_)
              · exact PC.out
              clear hK K
              try simp only [Act.put, List.setIfInBounds_toArray, List.set_cons_zero, List.set_cons_succ]
              refine wpAnyH_ready (rs := [11]) (by kernel_rfl) (by simp) ?_
              refine AllReadyH.cons (o := _) rfl (fun K hK => ?_) AllReadyH.nil
              · go_simp
                refine hK.out _ _ ?_ (fun hHeld => ?_)
                · exact PC.out
                clear hK K
                try simp only [Act.put, List.setIfInBounds_toArray, List.set_cons_zero, List.set_cons_succ]
                exact CONT
          · go_simp
            refine hK.out _ _ ?_ (fun hHeld => ?_)
            · exact PC.out
            clear hK K
            try simp only [Act.put, List.setIfInBounds_toArray, List.set_cons_zero, List.set_cons_succ]
            refine wpAnyH_ready (rs := [11, 15]) (by kernel_rfl) (by simp) ?_
            refine AllReadyH.cons (o := _) rfl (fun K hK => ?_) (AllReadyH.cons (o := _) rfl (fun K hK => ?_) AllReadyH.nil)
            · go_simp
              refine hK.out _ _ ?_ (fun hHeld => ?_)
              · exact PC.out
              clear hK K
              try simp only [Act.put, List.setIfInBounds_toArray, List.set_cons_zero, List.set_cons_succ]
              refine wpAnyH_ready (rs := [15]) (by kernel_rfl) (by simp) ?_
              refine AllReadyH.cons (o := _) rfl (fun K hK => ?_) AllReadyH.nil
              · go_simp
                refine hK.out _ _ ?_ (fun hHeld => ?_)
                · exact PC.out
                clear hK K
                try simp only [Act.put, List.setIfInBounds_toArray, List.set_cons_zero, List.set_cons_succ]
                exact CONT
            · go_simp
              refine hK.out _ _ ?_ (fun hHeld => ?_)
              · exact PC.out
              clear hK K
              try simp only [Act.put, List.setIfInBounds_toArray, List.set_cons_zero, List.set_cons_succ]
              refine wpAnyH_ready (rs := [11]) (by kernel_rfl) (by simp) ?_
              refine AllReadyH.cons (o := _) rfl (fun K hK => ?_) AllReadyH.nil
              · go_simp
                refine hK.out _ _ ?_ (fun hHeld => ?_)
                · exact PC.out
                clear hK K
                try simp only [Act.put, List.setIfInBounds_toArray, List.set_cons_zero, List.set_cons_succ]
                exact CONT
        · go_simp
          refine hK.out _ _ ?_ (fun hHeld => ?_)
          · exact PC.out
          clear hK K
          try simp only [Act.put, List.setIfInBounds_toArray, List.set_cons_zero, List.set_cons_succ]
          refine wpAnyH_ready (rs := [11, 15, 19]) (by kernel_rfl) (by simp) ?_
          refine AllReadyH.cons (o := _) rfl (fun K hK => ?_) (AllReadyH.cons (o := _) rfl (fun K hK => ?_) (AllReadyH.cons (o := _) rfl (fun K hK => ?_) AllReadyH.nil))
          · go_simp
            refine hK.out _ _ ?_ (fun hHeld => ?_)
            · exact PC.out
            clear hK K
            try simp only [Act.put, List.setIfInBounds_toArray, List.set_cons_zero, List.set_cons_succ]
            refine wpAnyH_ready (rs := [15, 19]) (by kernel_rfl) (by simp) ?_
            refine AllReadyH.cons (o := _) rfl (fun K hK => ?_) (AllReadyH.cons (o := _) rfl (fun K hK => ?_) AllReadyH.nil)
            · go_simp
              refine hK.out _ _ ?_ (fun hHeld => ?_)
              · exact PC.out
              clear hK K
              try simp only [Act.put, List.setIfInBounds_toArray, List.set_cons_zero, List.set_cons_succ]
              refine wpAnyH_ready (rs := [19]) (by kernel_rfl) (by simp) ?_
              refine AllReadyH.cons (o := _) rfl (fun K hK => ?_) AllReadyH.nil
              · go_simp
                refine hK.out _ _ ?_ (fun hHeld => ?_)
                · exact PC.out
                clear hK K
                try simp only [Act.put, List.setIfInBounds_toArray, List.set_cons_zero, List.set_cons_succ]
                exact CONT
            · go_simp
              refine hK.out _ _ ?_ (fun hHeld => ?_)
              · exact PC.out
              clear hK K
              try simp only [Act.put, List.setIfInBounds_toArray, List.set_cons_zero, List.set_cons_succ]
              refine wpAnyH_ready (rs := [15]) (by kernel_rfl) (by simp) ?_
              refine AllReadyH.cons (o := _) rfl (fun K hK => ?_) AllReadyH.nil
              · go_simp
                refine hK.out _ _ ?_ (fun hHeld => ?_)
                · exact PC.out
                clear hK K
                try simp only [Act.put, List.setIfInBounds_toArray, List.set_cons_zero, List.set_cons_succ]
                exact CONT
          · go_simp
            refine hK.out _ _ ?_ (fun hHeld => ?_)
            · exact PC.out
            clear hK K
            try simp only [Act.put, List.setIfInBounds_toArray, List.set_cons_zero, List.set_cons_succ]
            refine wpAnyH_ready (rs := [11, 19]) (by kernel_rfl) (by simp) ?_
            refine AllReadyH.cons (o := _) rfl (fun K hK => ?_) (AllReadyH.cons (o := _) rfl (fun K hK => ?_) AllReadyH.nil)
            · go_simp
              refine hK.out _ _ ?_ (fun hHeld => ?_)
              · exact PC.out
              clear hK K
              try simp only [Act.put, List.setIfInBounds_toArray, List.set_cons_zero, List.set_cons_succ]
              refine wpAnyH_ready (rs := [19]) (by kernel_rfl) (by simp) ?_
              refine AllReadyH.cons (o := _) rfl (fun K hK => ?_) AllReadyH.nil
              · go_simp
                refine hK.out _ _ ?_ (fun hHeld => ?_)
                · exact PC.out
                clear hK K
                try simp only [Act.put, List.setIfInBounds_toArray, List.set_cons_zero, List.set_cons_succ]
                exact CONT
            · go_simp
              refine hK.out _ _ ?_ (fun hHeld => ?_)
              · exact PC.out
              clear hK K
              try simp only [Act.put, List.setIfInBounds_toArray, List.set_cons_zero, List.set_cons_succ]
              refine wpAnyH_ready (rs := [11]) (by kernel_rfl) (by simp) ?_
              refine AllReadyH.cons (o := _) rfl (fun K hK => ?_) AllReadyH.nil
              · go_simp
                refine hK.out _ _ ?_ (fun hHeld => ?_)
                · exact PC.out
                clear hK K
                try simp only [Act.put, List.setIfInBounds_toArray, List.set_cons_zero, List.set_cons_succ]
                exact CONT
          · go_simp
            refine hK.out _ _ ?_ (fun hHeld => ?_)
            · exact PC.out
            clear hK K
            try simp only [Act.put, List.setIfInBounds_toArray, List.set_cons_zero, List.set_cons_succ]
            refine wpAnyH_ready (rs := [11, 15]) (by kernel_rfl) (by simp) ?_
            refine AllReadyH.cons (o := _) rfl (fun K hK => ?_) (AllReadyH.cons (o := _) rfl (fun K hK => ?_) AllReadyH.nil)
            · go_simp
              refine hK.out _ _ ?_ (fun hHeld => ?_)
              · exact PC.out
              clear hK K
              try simp only [Act.put, List.setIfInBounds_toArray, List.set_cons_zero, List.set_cons_succ]
              refine wpAnyH_ready (rs := [15]) (by kernel_rfl) (by simp) ?_
              refine AllReadyH.cons (o := _) rfl (fun K hK => ?_) AllReadyH.nil
              · go_simp
                refine hK.out _ _ ?_ (fun hHeld => ?_)
                · exact PC.out
                clear hK K
                try simp only [Act.put, List.setIfInBounds_toArray, List.set_cons_zero, List.set_cons_succ]
                exact CONT
            · go_simp
              refine hK.out _ _ ?_ (fun hHeld => ?_)
              · exact PC.out
              clear hK K
              try simp only [Act.put, List.setIfInBounds_toArray, List.set_cons_zero, List.set_cons_succ]
              refine wpAnyH_ready (rs := [11]) (by kernel_rfl) (by simp) ?_
              refine AllReadyH.cons (o := _) rfl (fun K hK => ?_) AllReadyH.nil
              · go_simp
                refine hK.out _ _ ?_ (fun hHeld => ?_)
                · exact PC.out
                clear hK K
                try simp only [Act.put, List.setIfInBounds_toArray, List.set_cons_zero, List.set_cons_succ]
                exact CONT
      case cont =>
        refine wpAnyH_ready (rs := [24]) (by kernel_rfl) (by simp) ?_
        refine AllReadyH.cons (o := _) rfl (fun K hK => ?_) AllReadyH.nil
        go_simp
        with_reducible refine (CQ.out).mono ?_
        rintro e5 w5 ⟨rfl, rfl⟩
        refine hK.out _ _ ?_ (fun hHeld => ?_)
        · exact PC.out
        clear hK K
        try simp only [Act.put, List.setIfInBounds_toArray, List.set_cons_zero, List.set_cons_succ]
        refine takeD (i := 25) (oi := _) (d := some 19) (v := ?_) rfl (by kernel_rfl) (by kernel_rfl) (by kernel_rfl) (by kernel_rfl) (fun _ _ _ h => h) (Or.inl ⟨by kernel_rfl, ?_⟩) (by assumption) ?_
        rotate_left
        focus (intro w' hSw; (try dsimp only at hSw); go_simp <;> with_reducible rfl)
        try simp only [Act.put, List.setIfInBounds_toArray, List.set_cons_zero, List.set_cons_succ]
        refine takeD (i := 26) (oi := _) (d := some 45) (v := ?_) rfl (by kernel_rfl) (by kernel_rfl) (by kernel_rfl) (by kernel_rfl) (fun _ _ _ h => h) (Or.inl ⟨by kernel_rfl, ?_⟩) (by assumption) ?_
        rotate_left
        focus (intro w' hSw; (try dsimp only at hSw); go_simp <;> with_reducible rfl)
        try simp only [Act.put, List.setIfInBounds_toArray, List.set_cons_zero, List.set_cons_succ]
        refine takeD (i := 27) (oi := _) (d := some 46) (v := ?_) rfl (by kernel_rfl) (by kernel_rfl) (by kernel_rfl) (by kernel_rfl) (fun _ _ _ h => h) (Or.inl ⟨by kernel_rfl, ?_⟩) (by assumption) ?_
        rotate_left
        focus (intro w' hSw; (try dsimp only at hSw); go_simp <;> with_reducible rfl)
        try simp only [Act.put, List.setIfInBounds_toArray, List.set_cons_zero, List.set_cons_succ]
        refine takeD (i := 28) (oi := _) (d := some 47) (v := ?_) rfl (by kernel_rfl) (by kernel_rfl) (by kernel_rfl) (by kernel_rfl) (fun _ _ _ h => h) (Or.inl ⟨by kernel_rfl, ?_⟩) (by assumption) ?_
        rotate_left
        focus (intro w' hSw; (try dsimp only at hSw); go_simp <;> with_reducible rfl)
        try simp only [Act.put, List.setIfInBounds_toArray, List.set_cons_zero, List.set_cons_succ]
        refine takeD (i := 29) (oi := _) (d := some 48) (v := ?_) rfl (by kernel_rfl) (by kernel_rfl) (by kernel_rfl) (by kernel_rfl) (fun _ _ _ h => h) (Or.inl ⟨by kernel_rfl, ?_⟩) (by assumption) ?_
        rotate_left
        focus (intro w' hSw; (try dsimp only at hSw); go_simp <;> with_reducible rfl)
        try simp only [Act.put, List.setIfInBounds_toArray, List.set_cons_zero, List.set_cons_succ]
        refine takeD (i := 30) (oi := _) (d := some 49) (v := ?_) rfl (by kernel_rfl) (by kernel_rfl) (by kernel_rfl) (by kernel_rfl) (fun _ _ _ h => h) (Or.inl ⟨by kernel_rfl, ?_⟩) (by assumption) ?_
        rotate_left
        focus (intro w' hSw; (try dsimp only at hSw); go_simp <;> with_reducible rfl)
        try simp only [Act.put, List.setIfInBounds_toArray, List.set_cons_zero, List.set_cons_succ]
        refine wpAnyH_ready (rs := [31]) (by kernel_rfl) (by simp) ?_
        refine AllReadyH.cons (o := _) rfl (fun K hK => ?_) AllReadyH.nil
        go_simp
        refine hK.out _ _ ?_ (fun hHeld => ?_)
        · exact PC1.out
        clear hK K
        try simp only [Act.put, List.setIfInBounds_toArray, List.set_cons_zero, List.set_cons_succ]
        refine takeD (i := 32) (oi := _) (d := some 50) (v := ?_) rfl (by kernel_rfl) (by kernel_rfl) (by kernel_rfl) (by kernel_rfl) (fun _ _ _ h => h) (Or.inl ⟨by kernel_rfl, ?_⟩) (by assumption) ?_
        rotate_left
        focus (intro w' hSw; (try dsimp only at hSw); go_simp <;> with_reducible rfl)
        try simp only [Act.put, List.setIfInBounds_toArray, List.set_cons_zero, List.set_cons_succ]
        refine wpAnyH_ready (rs := [33]) (by kernel_rfl) (by simp) ?_
        refine AllReadyH.cons (o := _) rfl (fun K hK => ?_) AllReadyH.nil
        go_simp
        refine hK.out _ _ ?_ (fun hHeld => ?_)
        · exact PC2.out
        clear hK K
        try simp only [Act.put, List.setIfInBounds_toArray, List.set_cons_zero, List.set_cons_succ]
        refine takeD (i := 34) (oi := _) (d := some 51) (v := ?_) rfl (by kernel_rfl) (by kernel_rfl) (by kernel_rfl) (by kernel_rfl) (fun _ _ _ h => h) (Or.inl ⟨by kernel_rfl, ?_⟩) (by assumption) ?_
        rotate_left
        focus (intro w' hSw; (try dsimp only at hSw); go_simp <;> with_reducible rfl)
        try simp only [Act.put, List.setIfInBounds_toArray, List.set_cons_zero, List.set_cons_succ]
        refine wpAnyH_ready (rs := [35]) (by kernel_rfl) (by simp) ?_
        refine AllReadyH.cons (o := _) rfl (fun K hK => ?_) AllReadyH.nil
        go_simp
        refine hK.out _ _ ?_ (fun hHeld => ?_)
        · exact PC3.out
        clear hK K
        try simp only [Act.put, List.setIfInBounds_toArray, List.set_cons_zero, List.set_cons_succ]
        refine takeD (i := 36) (oi := _) (d := some 52) (v := ?_) rfl (by kernel_rfl) (by kernel_rfl) (by kernel_rfl) (by kernel_rfl) (fun _ _ _ h => h) (Or.inl ⟨by kernel_rfl, ?_⟩) (by assumption) ?_
        rotate_left
        focus (intro w' hSw; (try dsimp only at hSw); go_simp <;> with_reducible rfl)
        try simp only [Act.put, List.setIfInBounds_toArray, List.set_cons_zero, List.set_cons_succ]
        refine wpAnyH_ready (rs := [37]) (by kernel_rfl) (by simp) ?_
        refine AllReadyH.cons (o := _) rfl (fun K hK => ?_) AllReadyH.nil
        go_simp
        refine hK.out _ _ ?_ (fun hHeld => ?_)
        · exact PC4.out
        clear hK K
        try simp only [Act.put, List.setIfInBounds_toArray, List.set_cons_zero, List.set_cons_succ]
        refine wpAnyH_done (by kernel_rfl) ?_ _
        go_wp2
        go_roundw
        case rel => exact ⟨k + 1, by omega, by go_num, HXF, HRF, HBF, HSF⟩
        case measure => simp [intOf]; omega
    · have hk3 : k = 8 := by omega
      have hI : ¬ (k : Int) < 8 := by omega
      obtain ⟨M, hM⟩ : ∃ M, M = d8 8 L := ⟨_, rfl⟩
      have hx3 : Wx wr b M := by rw [hM, ← hk3]; exact hx.out
      have hMl : M.length = 16 := by rw [hM, d8_len, HLL.out]
      have HM := Lib.hid hM
      obtain ⟨fs, hfs⟩ : ∃ fs : Array Value, fs = (M.map vw).toArray := ⟨_, rfl⟩
      have HI2 := Lib.hid (info16 hMl)
      have HONE2 := Lib.hid (all_oneCell_toArray (vw_one M))
      unfold Wx at hx3
      rw [← hfs] at HI2 HONE2 hx3
      have HO2 : Hid ((#[.int .u32 0, .int .u32 0, .int .u32 0, .int .u32 0, .int .u32 0, .int .u32 0, .int .u32 0, .int .u32 0, .int .u32 0, .int .u32 0, .int .u32 0, .int .u32 0, .int .u32 0, .int .u32 0, .int .u32 0, .int .u32 0] : Array Value).size = fs.size) := Lib.hid (by show 16 = _; rw [hfs, List.size_toArray, List.length_map, hMl])
      have HX3 := Lib.hid hx3
      have HFS := Lib.hid hfs
      have HRR : Hid ((wr.setRow b1 fs).heap[b1]? = some (.cells fs 126 (0, 0))) := Lib.hid (setRow_heap _ _ _ _ _ _ hr.out)
      have HBF : Hid (Below w.heap.size w (wr.setRow b1 fs)) := Lib.hid ⟨hbe.out.os, hbe.out.tape, hbe.out.output, by rw [setRow_size]; exact hbe.out.size, fun j hj => (setRow_other _ _ _ _ (by omega)).trans (hbe.out.block j (by omega))⟩
      clear hM hMl hfs hx3 hx hk3
      go_wp2_with (first
        | (with_reducible refine wpList_load_row rfl 126 (.tmp 1) rfl (b) rfl 126 fs (0, 0) _ HX3.out Try.underlying126 rfl HI2.out ?_)
        | (with_reducible refine wpList_store_row rfl 126 (.tmp 2) (.tmp 54) rfl (b1) fs rfl rfl 126 _ hr.out HI2.out HO2.out HONE2.out ?_))
      (try simp only [Exit.inBlock, Exit.then])
      refine bodyPost_ret (results_cell_row rfl _ _ b1 126 fs (0, 0) _ rfl HRR.out Try.underlying126 rfl HI2.out) rfl ?_
      exact ⟨by rw [HFS.out, HM.out], HBF.out⟩
end Go.Proofs.Ytifgigpflfdmfaa
