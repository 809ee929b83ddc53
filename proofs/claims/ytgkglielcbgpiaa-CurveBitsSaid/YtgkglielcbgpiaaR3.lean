/- The reference's minus. -/
import Derived.Test.YtgkglielcbgpiaaR2
import Derived.Deep.RegionHeld3
import Derived.Laws.ResultCell
namespace Go.Proofs.Ytgkglielcbgpiaa
open Go.RowKit

theorem valD_upd {f : Nat → Nat} {k x : Nat} : valD (upd f k x) k = valD f k := valD_ext fun i hi => by simp [upd, show i ≠ k by omega]
theorem valD_upd1 {f : Nat → Nat} {k x : Nat} : valD (upd f k x) (k + 1) = valD f k + 4294967296 ^ k * x := by
  rw [valD, valD_upd]
  simp [upd]
theorem upd_lt {f : Nat → Nat} {k x : Nat} (h : ∀ i, f i < 4294967296) (hx : x < 4294967296) : ∀ i, upd f k x i < 4294967296 := by
  intro i
  unfold upd
  split
  · exact hx
  · exact h i
theorem mi_step {f a b : Nat → Nat} {k o z o' : Nat} (h : valD f k + valD b k = valD a k + 4294967296 ^ k * o) (e : z + (b k + o) = a k + 4294967296 * o') :
    valD (upd f k z) (k + 1) + valD b (k + 1) = valD a (k + 1) + 4294967296 ^ (k + 1) * o' := by
  rw [valD_upd1, valD, valD, Nat.pow_succ]
  have e2 : 4294967296 ^ k * z + (4294967296 ^ k * b k + 4294967296 ^ k * o) = 4294967296 ^ k * a k + 4294967296 ^ k * 4294967296 * o' := by
    rw [Nat.mul_assoc, ← Nat.mul_add, ← Nat.mul_add, ← Nat.mul_add, e]
  omega

theorem results_row_tmp {P : Program} {fn : Func} {p u : Tmp} {ty : TypeId} (h : fn.results = #[.cell p ty, .tmp u]) (tmps : Array Value) (w : World) (g : Nat) (t : TypeId) (cs : Array Value) (fr : Nat × Nat) (d : TypeDesc)
    (hp : tmps.getD p undef = .pointer (some ⟨g, 0, none⟩)) (hg : w.heap[g]? = some (.cells cs t fr))
    (hu : P.underlying ty = some d) (hd : (match d with | .struct _ | .array _ _ => true | _ => false) = true) (hi : (P.info? ty).map (·.size) = some cs.size) :
    (results fn tmps).run P w = .ok (.tuple #[.agg cs, tmps.getD u undef]) w := by
  have hp' : tmps[p]?.getD undef = .pointer (some ⟨g, 0, none⟩) := by simpa using hp
  rw [results_cell_tmp h]
  simp [hp', asAddr, run_loadVar_row w g t ty cs fr d hg hu hd hi, Result.andThen]
theorem mi_end {V U o : Nat} {f : Nat → Nat} (hV : V < W4) (hU : U < W4) (hl : valD f 8 < 4294967296 ^ 8) (ho : o ≤ 1) (h : valD f 8 + valD (dig U) 8 = valD (dig V) 8 + 4294967296 ^ 8 * o) : valD f 8 = miN V U ∧ o = boN V U := by
  rw [nv_val hV, nv_val hU, ← W4_pow] at h
  rw [← W4_pow] at hl
  unfold miN boN
  rcases (by omega : o = 0 ∨ o = 1) with rfl | rfl
  · rw [if_neg (by omega), if_neg (by omega)]
    exact ⟨by omega, rfl⟩
  · rw [if_pos (by omega), if_pos (by omega)]
    exact ⟨by omega, rfl⟩

set_option maxRecDepth 100000 in
set_option maxHeartbeats 4000000 in
theorem rminusE {V U : Nat} (hV : V < W4) (hU : U < W4) (w : World) : Calls Try.prog 50 #[.agg (nvA V), .agg (nvA U)] w fun e w' => e = .returned (.tuple #[.agg (nvA (miN V U)), .bool (boN V U == 1)]) ∧ Below w.heap.size w w' := by
  obtain ⟨cs, hcs⟩ : ∃ cs, cs = nvA V := ⟨_, rfl⟩
  obtain ⟨ds, hds⟩ : ∃ ds, ds = nvA U := ⟨_, rfl⟩
  obtain ⟨rs, hrs⟩ : ∃ rs, rs = nvA (miN V U) := ⟨_, rfl⟩
  obtain ⟨rb, hrb⟩ : ∃ rb, rb = (boN V U == 1) := ⟨_, rfl⟩
  rw [← hrs, ← hrb, ← hcs, ← hds]
  obtain ⟨Wa, hWa⟩ : ∃ Wa, Wa = (((w.alloc (.cells cs 34)).alloc (.cells ds 34)).alloc (.cells #[.int .u32 0, .int .u32 0, .int .u32 0, .int .u32 0, .int .u32 0, .int .u32 0, .int .u32 0, .int .u32 0] 34)).alloc (.cells #[.int .u32 0, .int .u32 0, .int .u32 0, .int .u32 0, .int .u32 0, .int .u32 0, .int .u32 0, .int .u32 0] 34) := ⟨_, rfl⟩
  have hA : Rw Wa w.heap.size 34 .u32 8 (dig V) := by
    rw [hWa]
    exact (((Rw.new w _ _ _ _ hcs).alloc _).alloc _).alloc _
  have hB : Rw Wa (w.heap.size + 1) 34 .u32 8 (dig U) := by
    rw [hWa]
    have h := ((Rw.new (w.alloc (.cells cs 34)) 34 .u32 8 (dig U) hds).alloc (.cells #[.int .u32 0, .int .u32 0, .int .u32 0, .int .u32 0, .int .u32 0, .int .u32 0, .int .u32 0, .int .u32 0] 34)).alloc (.cells #[.int .u32 0, .int .u32 0, .int .u32 0, .int .u32 0, .int .u32 0, .int .u32 0, .int .u32 0, .int .u32 0] 34)
    simpa using h
  have hZ : Wa.heap[w.heap.size + 1 + 1]? = some (.cells #[.int .u32 0, .int .u32 0, .int .u32 0, .int .u32 0, .int .u32 0, .int .u32 0, .int .u32 0, .int .u32 0] 34 (0, 0)) := by
    rw [hWa]
    have h := heap_alloc_new ((w.alloc (.cells cs 34)).alloc (.cells ds 34)) (.cells #[.int .u32 0, .int .u32 0, .int .u32 0, .int .u32 0, .int .u32 0, .int .u32 0, .int .u32 0, .int .u32 0] 34)
    simp only [World.size_alloc] at h
    exact (heap_alloc_old _ _ (by simp)).trans h
  have hR : Rw Wa (w.heap.size + 1 + 1 + 1) 34 .u32 8 (fun _ => 0) := by
    rw [hWa]
    have h := Rw.new (((w.alloc (.cells cs 34)).alloc (.cells ds 34)).alloc (.cells #[.int .u32 0, .int .u32 0, .int .u32 0, .int .u32 0, .int .u32 0, .int .u32 0, .int .u32 0, .int .u32 0] 34)) 34 .u32 8 (fun _ => 0) (cs := #[.int .u32 0, .int .u32 0, .int .u32 0, .int .u32 0, .int .u32 0, .int .u32 0, .int .u32 0, .int .u32 0]) rfl
    simpa using h
  have hBe : Below w.heap.size w Wa := by
    rw [hWa]
    exact ((((Below.refl _ _).alloc (Nat.le_refl _) _).alloc (by simp) _).alloc (by simp; omega) _).alloc (by simp; omega) _
  have HA := Lib.hid hA; have HB := Lib.hid hB; have HR := Lib.hid hR; have HZ := Lib.hid hZ; have HBe := Lib.hid hBe; have HWa := Lib.hid hWa; have HRS := Lib.hid hrs; have HRB := Lib.hid hrb
  have HV := Lib.hid hV; have HU := Lib.hid hU
  clear hA hB hR hZ hBe hWa hcs hds hrs hrb hV hU
  go_enter Try.func50, Try.ntmps50
  go_wp2_with fail
  rw [← HWa.out]
  go_loopw [7, 8] (fun t7 i wr => ∃ k o : Nat, ∃ f : Nat → Nat, k ≤ 8 ∧ o ≤ 1 ∧ t7 = .int .u64 o ∧ i = .int .i64 k ∧ Hid (Below w.heap.size w wr) ∧ Hid (Rw wr w.heap.size 34 .u32 8 (dig V)) ∧ Hid (Rw wr (w.heap.size + 1) 34 .u32 8 (dig U)) ∧ Hid (Rw wr (w.heap.size + 1 + 1 + 1) 34 .u32 8 f) ∧ Hid (wr.heap[w.heap.size + 1 + 1]? = some (.cells #[.int .u32 0, .int .u32 0, .int .u32 0, .int .u32 0, .int .u32 0, .int .u32 0, .int .u32 0, .int .u32 0] 34 (0, 0)))
      ∧ Hid (∀ i, f i < 4294967296) ∧ Hid (valD f k + valD (dig U) k = valD (dig V) k + 4294967296 ^ k * o)) (fun _ i _ => 8 - (intOf i).toNat)
  case atStart => exact ⟨0, 0, fun _ => 0, Nat.zero_le _, by omega, rfl, rfl, HBe, HA, HB, HR, HZ, Lib.hid (fun _ => by show 0 < _; omega), Lib.hid (by simp [valD])⟩
  case round =>
    obtain ⟨k, o, f, hk, ho, rfl, rfl, hbe, ha, hb, hr, hz, hf, hv⟩ := hrel
    clear HA HB HR HZ HBe
    by_cases hlt : k < 8
    · have d0 := ha.out.cell (j := k) hlt
      have d1 := hb.out.cell (j := k) hlt
      have c0 := hr.out.cell (j := k) hlt
      have f0 := hr.out.frozen (j := k)
      have b0 := dig_lt V k
      have b1 := dig_lt U k
      have hstep := fun z o' => Lib.hid (fun e => mi_step (k := k) (z := z) (o' := o') hv.out e)
      obtain ⟨x, hx⟩ : ∃ x, x = dig V k := ⟨_, rfl⟩
      obtain ⟨y, hy⟩ : ∃ y, y = dig U k := ⟨_, rfl⟩
      rw [← hx, ← hy] at hstep
      rw [← hx] at d0 b0
      rw [← hy] at d1 b1
      have HST := Lib.hid hstep
      clear hx hy hstep
      have k0 : (0 : Int) ≤ (k : Int) := Int.natCast_nonneg _
      have k4 : (k : Int) < 8 := by omega
      by_cases hxy : x < y + o
      · have ht : decide ((x : Int) < (y : Int) + (o : Int)) = true := decide_eq_true (by omega)
        obtain ⟨z, hz1, hz2⟩ : ∃ z : Nat, (x : Int) + 4294967296 - ((y : Int) + (o : Int)) = (z : Int) ∧ z + (y + o) = x + 4294967296 * 1 := ⟨x + 4294967296 - (y + o), by omega, by omega⟩
        have HZ1 := Lib.hid hz1
        have hzl : z < 4294967296 := by omega
        have HN := Lib.hid ((HST.out z 1).out hz2)
        clear hz1 hz2 HST
        go_wp2_with fail
        rw [HZ1.out]
        go_roundw
        case rel =>
          exact ⟨k + 1, 1, upd f k z, by omega, by omega, rfl, by go_num, Lib.hid (hbe.out.setCell (by show _ ≤ _; simp only; omega) _), Lib.hid (ha.out.far (by omega)), Lib.hid (hb.out.far (by omega)), Lib.hid (hr.out.set k z), Lib.hid ((Below.heap_setCell _ _ _ _ (by show _ ≠ _; simp only; omega)).trans hz.out), Lib.hid (upd_lt hf.out hzl), HN⟩
        case measure => simp [intOf]; omega
      · have ht : decide ((x : Int) < (y : Int) + (o : Int)) = false := decide_eq_false (by omega)
        obtain ⟨z, hz1, hz2⟩ : ∃ z : Nat, (x : Int) - ((y : Int) + (o : Int)) = (z : Int) ∧ z + (y + o) = x + 4294967296 * 0 := ⟨x - (y + o), by omega, by omega⟩
        have HZ1 := Lib.hid hz1
        have hzl : z < 4294967296 := by omega
        have HN := Lib.hid ((HST.out z 0).out hz2)
        clear hz1 hz2 HST
        go_wp2_with fail
        rw [HZ1.out]
        go_roundw
        case rel =>
          exact ⟨k + 1, 0, upd f k z, by omega, by omega, rfl, by go_num, Lib.hid (hbe.out.setCell (by show _ ≤ _; simp only; omega) _), Lib.hid (ha.out.far (by omega)), Lib.hid (hb.out.far (by omega)), Lib.hid (hr.out.set k z), Lib.hid ((Below.heap_setCell _ _ _ _ (by show _ ≠ _; simp only; omega)).trans hz.out), Lib.hid (upd_lt hf.out hzl), HN⟩
        case measure => simp [intOf]; omega
    · obtain rfl : k = 8 := by omega
      have hm := mi_end HV.out HU.out (valD_lt hf.out 8) ho hv.out
      have haw : Hid (wr.heap[w.heap.size + 1 + 1 + 1]? = some (.cells rs 34 (0, 0))) := by
        rw [HRS.out, ← hm.1, ← nvA_of hf.out]
        exact hr
      have hob : Hid (((o : Int) == 1) = rb) := Lib.hid (by
        rw [HRB.out, ← hm.2]
        rcases (by omega : o = 0 ∨ o = 1) with rfl | rfl <;> rfl)
      have hi : Hid ((Try.prog.info? 34).map (·.size) = some rs.size) := Lib.hid (by rw [HRS.out]; exact hi8)
      have hoo : Hid ((#[.int .u32 0, .int .u32 0, .int .u32 0, .int .u32 0, .int .u32 0, .int .u32 0, .int .u32 0, .int .u32 0] : Array Value).size = rs.size) := Lib.hid (by rw [HRS.out]; exact (rowF_size _ _ _).symm)
      have h1 : Hid (rs.all (·.oneCell') = true) := Lib.hid (by rw [HRS.out]; exact rowF_one _ _ _)
      have hbe3 : Below w.heap.size w (wr.setRow (w.heap.size + 1 + 1) rs) := row_below hbe.out (by omega) hbe.out.size
      clear hbe ha hb hr hf hv hm
      go_wp2_with (first
        | (with_reducible refine wpList_load_row rfl 34 (.tmp 6) rfl (w.heap.size + 1 + 1 + 1) rfl 34 rs (0, 0) _ haw.out Try.underlying34 rfl hi.out ?_)
        | (with_reducible refine wpList_store_row rfl 34 (.tmp 4) (.tmp 36) rfl (w.heap.size + 1 + 1) rs rfl rfl 34 _ hz.out hi.out hoo.out h1.out ?_))
      (try simp only [Exit.inBlock, Exit.then])
      rw [hob.out]
      exact bodyPost_ret (results_row_tmp rfl _ _ (w.heap.size + 1 + 1) 34 rs (0, 0) _ rfl (setRow_heap wr (w.heap.size + 1 + 1) _ _ _ _ hz.out) Try.underlying34 rfl hi.out) rfl ⟨rfl, hbe3⟩
end Go.Proofs.Ytgkglielcbgpiaa
