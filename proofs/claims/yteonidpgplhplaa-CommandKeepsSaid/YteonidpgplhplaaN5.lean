/- Commands compared; Last, Wait and Tell. -/
import Derived.Test.YteonidpgplhplaaN3
import Derived.Test.YteonidpgplhplaaN4
namespace Go.Proofs.Yteonidpgplhplaa
open Go.RowKit

theorem cmd_cells (c : Cm) (h : c.ok) : ∃ x0 x1 x2 x3 x4 x5 x6 x7 x8 x9 x10 x11 x12 x13 x14 x15, c.m = [x0, x1, x2, x3, x4, x5, x6, x7, x8, x9, x10, x11, x12, x13, x14, x15] ∧
    c.cs.toArray = #[.int .u8 (c.k : Int), .int .u8 (c.f : Int), .int .u32 (c.d : Int), .int .u64 (c.n : Int), vb x0, vb x1, vb x2, vb x3, vb x4, vb x5, vb x6, vb x7, vb x8, vb x9, vb x10, vb x11, vb x12, vb x13, vb x14, vb x15] := by
  obtain ⟨x0, x1, x2, x3, x4, x5, x6, x7, x8, x9, x10, x11, x12, x13, x14, x15, hx⟩ := list16 h.m
  exact ⟨_, _, _, _, _, _, _, _, _, _, _, _, _, _, _, _, hx, by rw [Cm.cs, hx]; rfl⟩
theorem eqFields_same {P : Program} {d : Nat} {xs : Array Value} : ∀ (fs : List Field), (∀ f ∈ fs, ∃ v, ∀ W, (part f.type xs f.offset).run P W = .ok v W ∧ (Op.equalIn d f.type v v).run P W = .ok true W) → ∀ W, (Op.eqFields d xs xs fs).run P W = .ok true W
  | [], _, W => by simp [Op.eqFields]
  | f :: fs, h, W => by
    obtain ⟨v, hv⟩ := h f (by simp)
    have ih := eqFields_same fs (fun g hg => h g (List.mem_cons_of_mem _ hg)) W
    unfold Op.eqFields
    split
    · simp only [Sem.run_bind, (hv W).1, Result.andThen_ok, (hv W).2, Bool.not_true, Bool.false_eq_true, if_false, ih]
    · exact ih
theorem int_same {P : Program} {d : Nat} {t : TypeId} {k : IntKind} (hu : P.underlying t = some (.int k)) (x : Int) (W : World) : (Op.equalIn (d + 1) t (.int k x) (.int k x)).run P W = .ok true W := by
  rw [run_equalIn_int W d t k k x x hu]
  simp
theorem eq_mark9 (a b : List UInt8) (ha : a.length = 16) (hb : b.length = 16) (W : World) : (Op.equalIn 9999 24 (.agg (a.map vb).toArray) (.agg (b.map vb).toArray)).run Try.prog W = .ok (decide (a = b)) W := by
  obtain ⟨i, hi⟩ : ∃ i, Try.prog.info? 5 = some i := Option.isSome_iff_exists.1 (by kernel_rfl)
  have h2 := run_eq_arr (P := Try.prog) (k := .u8) W Try.underlying24 hi (by kernel_rfl) (by kernel_rfl) Try.underlying5 (a.map fun x => (x.toNat : Int)) (b.map fun x => (x.toNat : Int)) (by simpa using ha) (by simpa using hb) 9997
  have e : ∀ l : List UInt8, (l.map vb).toArray = ((l.map fun x => (x.toNat : Int)).map (Value.int .u8)).toArray := fun l => by rw [List.map_map]; rfl
  rw [e a, e b]
  refine h2.trans ?_
  refine congrArg (Result.ok · W) ?_
  have inj : (a.map fun x => (x.toNat : Int)) = (b.map fun x => (x.toNat : Int)) ↔ a = b := by
    constructor
    · intro h
      refine List.map_inj_right (f := fun x : UInt8 => (x.toNat : Int)) ?_ |>.1 h
      intro x y hxy
      simp only [Int.ofNat_inj] at hxy
      exact UInt8.toNat_inj.1 hxy
    · rintro rfl; rfl
  exact decide_eq_decide.2 inj
set_option maxRecDepth 100000 in
set_option maxHeartbeats 4000000 in
theorem eq_cmd {c : Cm} (h : c.ok) (W : World) : (Op.equalIn 10000 26 (.agg c.cs.toArray) (.agg c.cs.toArray)).run Try.prog W = .ok true W := by
  obtain ⟨x0, x1, x2, x3, x4, x5, x6, x7, x8, x9, x10, x11, x12, x13, x14, x15, hx, e⟩ := cmd_cells c h
  have hm : ∀ W, (Op.equalIn 9999 24 (.agg #[vb x0, vb x1, vb x2, vb x3, vb x4, vb x5, vb x6, vb x7, vb x8, vb x9, vb x10, vb x11, vb x12, vb x13, vb x14, vb x15]) (.agg #[vb x0, vb x1, vb x2, vb x3, vb x4, vb x5, vb x6, vb x7, vb x8, vb x9, vb x10, vb x11, vb x12, vb x13, vb x14, vb x15])).run Try.prog W = .ok true W := fun W => by
    have h2 := eq_mark9 c.m c.m h.m h.m W
    rw [hx] at h2
    simpa using h2
  have p8 : Try.prog.plainKey 5 = true := by kernel_rfl
  have p32 : Try.prog.plainKey 22 = true := by kernel_rfl
  have p64 : Try.prog.plainKey 23 = true := by kernel_rfl
  have hpm : ∀ W, (part 24 #[.int .u8 (c.k : Int), .int .u8 (c.f : Int), .int .u32 (c.d : Int), .int .u64 (c.n : Int), vb x0, vb x1, vb x2, vb x3, vb x4, vb x5, vb x6, vb x7, vb x8, vb x9, vb x10, vb x11, vb x12, vb x13, vb x14, vb x15] 4).run Try.prog W = .ok (.agg #[vb x0, vb x1, vb x2, vb x3, vb x4, vb x5, vb x6, vb x7, vb x8, vb x9, vb x10, vb x11, vb x12, vb x13, vb x14, vb x15]) W := fun W => by kernel_rfl
  rw [e, run_equalIn_struct W 9999 26 _ _ (by kernel_rfl) (by kernel_rfl)]
  simp only [Program.fieldsOf, Try.underlying26]
  refine eqFields_same _ ?_ W
  intro f hf
  simp only [List.mem_cons, List.not_mem_nil, or_false] at hf
  rcases hf with rfl | rfl | rfl | rfl | rfl
  · exact ⟨_, fun W => ⟨run_part_plain W p8 rfl, int_same Try.underlying5 _ W⟩⟩
  · exact ⟨_, fun W => ⟨run_part_plain W p8 rfl, int_same Try.underlying5 _ W⟩⟩
  · exact ⟨_, fun W => ⟨run_part_plain W p32 rfl, int_same Try.underlying22 _ W⟩⟩
  · exact ⟨_, fun W => ⟨run_part_plain W p64 rfl, int_same Try.underlying23 _ W⟩⟩
  · exact ⟨_, fun W => ⟨hpm W, hm W⟩⟩
set_option maxRecDepth 100000 in
set_option maxHeartbeats 4000000 in
theorem last_any {c : Cm} (w : World) :
    Calls Try.prog 22 #[.agg c.cs.toArray] w fun e w' => e = .returned (.bool ((c.k : Int) != 1)) ∧ Below w.heap.size w w' := by
  have hrg := range_new w c.cs 55
  have HAT := Lib.hid (CmAt.of_range hrg)
  have HB0 := Lib.hid ((Below.refl w.heap.size w).alloc (Nat.le_refl _) (.cells c.cs.toArray 55))
  obtain ⟨CS, hCS⟩ : ∃ CS, CS = c.cs := ⟨_, rfl⟩
  rw [← hCS] at HAT HB0 ⊢
  obtain ⟨k, hkk⟩ : ∃ k, k = (c.k : Int) := ⟨_, rfl⟩
  rw [← hkk]
  have HKK := Lib.hid hkk
  clear hCS hrg hkk
  go_enter Try.func22, Try.ntmps22
  go_upto_region 1 with fail
  generalize w.alloc (.cells CS.toArray 55) = W at HAT HB0 ⊢
  have hk := HAT.out.k
  rw [← HKK.out] at hk
  clear HAT
  go_wp2
  go_ret
  exact ⟨rfl, HB0.out⟩
set_option maxRecDepth 100000 in
set_option maxHeartbeats 4000000 in
theorem wait_any {c : Cm} (hc : c.ok) (w : World) :
    Calls Try.prog 24 #[.agg c.cs.toArray] w fun e w' => e = .returned (.int .i64 (c.d : Int)) ∧ Below w.heap.size w w' := by
  have hrg := range_new w c.cs 55
  have HAT := Lib.hid (CmAt.of_range hrg)
  have HB0 := Lib.hid ((Below.refl w.heap.size w).alloc (Nat.le_refl _) (.cells c.cs.toArray 55))
  obtain ⟨CS, hCS⟩ : ∃ CS, CS = c.cs := ⟨_, rfl⟩
  rw [← hCS] at HAT HB0 ⊢
  have hd := hc.d
  obtain ⟨d, hdd⟩ : ∃ d, d = c.d := ⟨_, rfl⟩
  rw [← hdd] at hd ⊢
  have HDD := Lib.hid hdd
  clear hCS hrg hc hdd
  go_enter Try.func24, Try.ntmps24
  go_upto_region 1 with fail
  generalize w.alloc (.cells CS.toArray 55) = W at HAT HB0 ⊢
  have hk := HAT.out.d
  rw [← HDD.out] at hk
  have hcv : IntKind.i64.wrap (d : Int) = (d : Int) := by rw [IntKind.wrap_i64]; omega
  clear HAT
  go_wp2
  go_ret
  exact ⟨rfl, HB0.out⟩
end Go.Proofs.Yteonidpgplhplaa
