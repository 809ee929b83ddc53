/- Encode of the reference. -/
import Derived.Test.YteonidpgplhplaaN2
import Derived.Test.YteonidpgplhplaaN3
namespace Go.Proofs.Yteonidpgplhplaa
open Go.RowKit

theorem putL_snoc (K n m : Nat) (h : m < K) : (putL 2 K n).take (K - m) = (putL 2 K n).take (K - (m + 1)) ++ [UInt8.ofNat (n / 256 ^ m)] := by
  have hl := putL_length 2 K n
  have hlt : K - (m + 1) < (putL 2 K n).length := by omega
  rw [show K - m = K - (m + 1) + 1 by omega, List.take_succ_eq_append_getElem hlt]
  congr 2
  simp only [putL, List.getElem_map, List.getElem_range, idx_big]
  congr 2
  congr 1
  omega
theorem byte_at (n m : Nat) : (((UInt8.ofNat (n / 256 ^ m)).toNat : Nat) : Int) = ((n : Int) / 2 ^ (8 * m) % 256) := by
  rw [byte_of]
  simp

set_option maxRecDepth 100000 in
set_option maxHeartbeats 4000000 in
theorem refencode_no {c : Cm} (hc : c.ok) (h : c.chk ≠ 0) (w : World) :
    Calls Try.prog 11 #[.agg c.cs.toArray] w fun e w' => e = .returned (.tuple #[.slice none 0 0, .int .i64 c.chk]) ∧ Below w.heap.size w w' := by
  have hne : (c.chk != 0) = true := by simpa using h
  have CC := fun W => refcheck_any hc W
  obtain ⟨r, hr⟩ : ∃ r, r = c.chk := ⟨_, rfl⟩
  rw [← hr] at hne CC ⊢
  have hrg := range_new w c.cs 26
  have HB0 := Lib.hid ((Below.refl w.heap.size w).alloc (Nat.le_refl _) (.cells c.cs.toArray 26))
  have HRG := Lib.hid hrg
  have hlen := Cm.len hc
  obtain ⟨CS, hCS⟩ : ∃ CS, CS = c.cs := ⟨_, rfl⟩
  rw [← hCS] at HB0 HRG CC hlen ⊢
  have HLN := Lib.hid hlen; have HCC := Lib.hid CC
  clear hCS hrg hr CC hlen
  go_enter Try.func11, Try.ntmps11
  go_upto_region 1 with fail
  generalize w.alloc (.cells CS.toArray 26) = W at HRG HB0 ⊢
  have CK := Lib.hid (HCC.out W)
  have u26 := Try.underlying26
  have i26 : (Try.prog.info? 26).map (·.size) = some CS.length := by rw [HLN.out]; kernel_rfl
  have HI := Lib.hid i26
  clear i26
  go_wp2_with (with_reducible refine wpList_load_mid rfl 26 (.tmp 1) rfl w.heap.size 0 rfl CS _ HRG.out u26 rfl HI.out ?_)
  with_reducible refine (CK.out).mono ?_
  rintro e1 w1 ⟨rfl, hb1⟩
  have HB1 := Lib.hid (HB0.out.trans (hb1.mono HB0.out.size))
  clear hb1
  go_wp2
  go_ret2
  exact ⟨rfl, HB1.out⟩

set_option maxRecDepth 100000 in
set_option maxHeartbeats 4000000 in
theorem refencode_ok {c : Cm} (hc : c.ok) (h : c.chk = 0) (w : World) :
    Calls Try.prog 11 #[.agg c.cs.toArray] w fun e w' => ∃ v, e = .returned (.tuple #[v, .int .i64 0]) ∧ Own w' w.heap.size v c.enc ∧ Below w.heap.size w w' := by
  have CC := fun W => refcheck_any hc W
  rw [h] at CC
  have hrg := range_new w c.cs 26
  have HAT := Lib.hid (CmAt.of_range hrg)
  have HB0 := Lib.hid ((Below.refl w.heap.size w).alloc (Nat.le_refl _) (.cells c.cs.toArray 26))
  have HRG := Lib.hid hrg
  have HZ0 : w.heap.size < (w.alloc (.cells c.cs.toArray 26)).heap.size := by simp
  have hlen := Cm.len hc
  obtain ⟨CS, hCS⟩ : ∃ CS, CS = c.cs := ⟨_, rfl⟩
  rw [← hCS] at HB0 HRG CC hlen HAT HZ0 ⊢
  have HLN := Lib.hid hlen; have HCC := Lib.hid CC
  obtain ⟨E, hE⟩ : ∃ E, E = c.enc := ⟨_, rfl⟩
  rw [← hE]
  have HE := Lib.hid hE; have HC := Lib.hid hc
  clear hCS hrg CC hlen h hE hc
  go_enter Try.func11, Try.ntmps11
  go_upto_region 1 with fail
  generalize w.alloc (.cells CS.toArray 26) = W at HRG HB0 HAT HZ0 ⊢
  have CK := Lib.hid (HCC.out W)
  have u26 := Try.underlying26
  have i26 : (Try.prog.info? 26).map (·.size) = some CS.length := by rw [HLN.out]; kernel_rfl
  have HI := Lib.hid i26
  clear i26
  go_wp2_with (with_reducible refine wpList_load_mid rfl 26 (.tmp 1) rfl w.heap.size 0 rfl CS _ HRG.out u26 rfl HI.out ?_)
  with_reducible refine (CK.out).mono ?_
  rintro e1 w1 ⟨rfl, hb1⟩
  have HB1 := Lib.hid (HB0.out.trans (hb1.mono HB0.out.size))
  have HA1 := Lib.hid (HAT.out.below hb1 HZ0)
  have hz1 : w.heap.size < w1.heap.size := Nat.lt_of_lt_of_le HZ0 hb1.size
  obtain ⟨k, hk⟩ : ∃ k, k = UInt8.ofNat c.k := ⟨_, rfl⟩
  obtain ⟨f, hf⟩ : ∃ f, f = UInt8.ofNat c.f := ⟨_, rfl⟩
  obtain ⟨d, hd⟩ : ∃ d, d = c.d := ⟨_, rfl⟩
  obtain ⟨n, hn⟩ : ∃ n, n = c.n := ⟨_, rfl⟩
  have hd32 : d < 4294967296 := by rw [hd]; exact HC.out.d
  have hn64 : n < 18446744073709551616 := by rw [hn]; exact HC.out.n
  have hck : w1.cell? ⟨w.heap.size, 0, none⟩ = some (.int .u8 (k.toNat : Int)) := by rw [hk, ← byte_k HC.out.k]; exact HA1.out.k
  have hcf : w1.cell? ⟨w.heap.size, 1, none⟩ = some (.int .u8 (f.toNat : Int)) := by rw [hf, ← byte_k HC.out.f]; exact HA1.out.f
  have hcd : Hid (w1.cell? ⟨w.heap.size, 2, none⟩ = some (.int .u32 (d : Int))) := Lib.hid (by rw [hd]; exact HA1.out.d)
  have hcn : Hid (w1.cell? ⟨w.heap.size, 3, none⟩ = some (.int .u64 (n : Int))) := Lib.hid (by rw [hn]; exact HA1.out.n)
  have hcm : Hid (CmAt w1 w.heap.size 0 c) := HA1
  have HK := Lib.hid hk; have HF := Lib.hid hf; have HD := Lib.hid hd; have HN := Lib.hid hn
  have HO1 : Hid (Own (w1.alloc (.cells #[.int .u8 (k.toNat : Int), .int .u8 (f.toNat : Int)] 5)) w1.heap.size (.slice (some ⟨w1.heap.size, 0, none⟩) 2 2) [k, f]) := Lib.hid (Own.of_cells (cs := [.int .u8 (k.toNat : Int), .int .u8 (f.toNat : Int)]) (heap_alloc_new w1 _) (Nat.le_refl _) (by unfold maxLen; simp) rfl)
  have HBL : Hid (Below w1.heap.size w1 (w1.alloc (.cells #[.int .u8 (k.toNat : Int), .int .u8 (f.toNat : Int)] 5))) := Lib.hid ((Below.refl _ _).alloc (Nat.le_refl _) _)
  clear hb1 HAT HB0 HRG CK HI hk hf hd hn
  go_wp2_with fail
  clear hck hcf
  go_loopw [5, 6] (fun al i wr => ∃ q : Nat, q ≤ 4 ∧ i = .int .i64 ((q : Int) - 1) ∧ Hid (Own wr w1.heap.size al ([k, f] ++ (putL 2 4 d).take (4 - q))) ∧ Hid (Below w1.heap.size w1 wr)) (fun _ i _ => (intOf i + 1).toNat)
  case atStart => exact ⟨4, Nat.le_refl _, rfl, by simpa using ⟨HO1, HBL⟩⟩
  case round =>
    obtain ⟨q, hq, rfl, hown, hbe⟩ := hrel
    by_cases hlt : 0 < q
    · obtain ⟨m, rfl⟩ : ∃ m, q = m + 1 := ⟨q - 1, by omega⟩
      have ei : ((m + 1 : Nat) : Int) - 1 = (m : Int) := by omega
      rw [ei]
      have cd := (hbe.out.cell (p := ⟨w.heap.size, 2, none⟩) hz1).trans hcd.out
      have e8 : IntKind.i64.wrap (8 * (m : Int)) = 8 * (m : Int) := IntWalk.i64_in _ (by omega)
      obtain ⟨bt, hbt⟩ : ∃ bt, bt = UInt8.ofNat (d / 256 ^ m) := ⟨_, rfl⟩
      have hbv : (d : Int) / 2 ^ (8 * m) % 256 = (bt.toNat : Int) := by rw [hbt, byte_at]
      obtain ⟨F, hF⟩ : ∃ F, F = [k, f] ++ (putL 2 4 d).take (4 - (m + 1)) := ⟨_, rfl⟩
      have hFl : F.length ≤ 100 := by rw [hF]; simp [putL_length]; omega
      have hFn : Hid (F ++ [bt] = [k, f] ++ (putL 2 4 d).take (4 - m)) := Lib.hid (by rw [hF, List.append_assoc, hbt, ← putL_snoc 4 d m (by omega)])
      rw [← hF] at hown
      obtain ⟨AL, cL, rfl⟩ := hown.out.shape
      have HOW := Lib.hid (hown.out.alloc (.cells #[.int .u8 (bt.toNat : Int)] 5))
      have HBT := Lib.hid (Bs.one wr bt)
      have HBE := Lib.hid (hbe.out.alloc hbe.out.size (.cells #[.int .u8 (bt.toNat : Int)] 5))
      clear hF hbt hown hbe
      go_wp2_with (at_builtin; refine wpList_app rfl (.tmp 22) (.tmp 29) rfl rfl HOW.out rfl HBT.out (by simp; omega) (Nat.le_trans HBE.out.size (Nat.le_refl _)) ?_)
      intro v8 w8 ho8 hg8 _
      have hlt8 : ∀ j, (Value.slice AL F.length cL).ownBlock = some j → w1.heap.size ≤ j := fun j hj => (World.ownsRow.lt HOW.out j hj).1
      have HB8 := Lib.hid (HBE.out.grown hg8 HBE.out.size hlt8)
      rw [hFn.out] at ho8
      have HO8 := Lib.hid ho8
      have ew : IntKind.i64.wrap ((m : Int) - 1) = (m : Int) - 1 := IntWalk.i64_in _ (by omega)
      clear ho8 hg8 hlt8 hbv
      go_wp2_with fail
      go_roundw
      case rel => exact ⟨m, by omega, rfl, HO8, HB8⟩
      case measure => simp [intOf]; try omega
    · obtain rfl : q = 0 := by omega
      rw [Nat.sub_zero, List.take_of_length_le (by rw [putL_length]; exact Nat.le_refl _)] at hown
      have ei : (((0 : Nat) : Int) - 1) = -1 := by omega
      rw [ei]
      go_wp2_with fail
      go_loopw [5, 7] (fun al i wr => ∃ q : Nat, q ≤ 8 ∧ i = .int .i64 ((q : Int) - 1) ∧ Hid (Own wr w1.heap.size al ([k, f] ++ putL 2 4 d ++ (putL 2 8 n).take (8 - q))) ∧ Hid (Below w1.heap.size w1 wr)) (fun _ i _ => (intOf i + 1).toNat)
      case atStart => exact ⟨8, Nat.le_refl _, rfl, by simpa using ⟨hown, hbe⟩⟩
      case round =>
        obtain ⟨q, hq, rfl, hown, hbe⟩ := hrel
        by_cases hlt : 0 < q
        · obtain ⟨m, rfl⟩ : ∃ m, q = m + 1 := ⟨q - 1, by omega⟩
          have ei : ((m + 1 : Nat) : Int) - 1 = (m : Int) := by omega
          rw [ei]
          have cd := (hbe.out.cell (p := ⟨w.heap.size, 3, none⟩) hz1).trans hcn.out
          have e8 : IntKind.i64.wrap (8 * (m : Int)) = 8 * (m : Int) := IntWalk.i64_in _ (by omega)
          obtain ⟨bt, hbt⟩ : ∃ bt, bt = UInt8.ofNat (n / 256 ^ m) := ⟨_, rfl⟩
          have hbv : (n : Int) / 2 ^ (8 * m) % 256 = (bt.toNat : Int) := by rw [hbt, byte_at]
          obtain ⟨F, hF⟩ : ∃ F, F = [k, f] ++ putL 2 4 d ++ (putL 2 8 n).take (8 - (m + 1)) := ⟨_, rfl⟩
          have hFl : F.length ≤ 100 := by rw [hF]; simp [putL_length]; omega
          have hFn : Hid (F ++ [bt] = [k, f] ++ putL 2 4 d ++ (putL 2 8 n).take (8 - m)) := Lib.hid (by rw [hF, List.append_assoc, hbt, ← putL_snoc 8 n m (by omega)])
          rw [← hF] at hown
          obtain ⟨AL, cL, rfl⟩ := hown.out.shape
          have HOW := Lib.hid (hown.out.alloc (.cells #[.int .u8 (bt.toNat : Int)] 5))
          have HBT := Lib.hid (Bs.one wr bt)
          have HBE := Lib.hid (hbe.out.alloc hbe.out.size (.cells #[.int .u8 (bt.toNat : Int)] 5))
          clear hF hbt hown hbe
          go_wp2_with (at_builtin; refine wpList_app rfl (.tmp 35) (.tmp 42) rfl rfl HOW.out rfl HBT.out (by simp; omega) (Nat.le_trans HBE.out.size (Nat.le_refl _)) ?_)
          intro v8 w8 ho8 hg8 _
          have hlt8 : ∀ j, (Value.slice AL F.length cL).ownBlock = some j → w1.heap.size ≤ j := fun j hj => (World.ownsRow.lt HOW.out j hj).1
          have HB8 := Lib.hid (HBE.out.grown hg8 HBE.out.size hlt8)
          rw [hFn.out] at ho8
          have HO8 := Lib.hid ho8
          have ew : IntKind.i64.wrap ((m : Int) - 1) = (m : Int) - 1 := IntWalk.i64_in _ (by omega)
          clear ho8 hg8 hlt8 hbv
          go_wp2_with fail
          go_roundw
          case rel => exact ⟨m, by omega, rfl, HO8, HB8⟩
          case measure => simp [intOf]; try omega
        · obtain rfl : q = 0 := by omega
          rw [Nat.sub_zero, List.take_of_length_le (by rw [putL_length]; exact Nat.le_refl _)] at hown
          have ei : (((0 : Nat) : Int) - 1) = -1 := by omega
          rw [ei]
          obtain ⟨F, hF⟩ : ∃ F, F = [k, f] ++ putL 2 4 d ++ putL 2 8 n := ⟨_, rfl⟩
          rw [← hF] at hown
          have hFl : F.length = 14 := by rw [hF]; simp [putL_length]
          obtain ⟨AL, cL, rfl⟩ := hown.out.shape
          have HBM := Lib.hid ((hcm.out.below hbe.out hz1).bs HC.out (Nat.lt_of_lt_of_le hz1 hbe.out.size) (Nat.lt_of_lt_of_le hz1 hbe.out.size))
          have cutM : ∀ W, (Instr.sliceAt 24 (.pointer (some ⟨w.heap.size, 4, none⟩)) none none none).run Try.prog W = .ok (.slice (some ⟨w.heap.size, 4, none⟩) 16 16) W := fun W => cut_mark W
          have hml := HC.out.m
          obtain ⟨M, hM⟩ : ∃ M, M = c.m := ⟨_, rfl⟩
          rw [← hM] at HBM hml
          have HM := Lib.hid hM; have HFE := Lib.hid hF
          have hlt8 : ∀ j, (Value.slice AL F.length cL).ownBlock = some j → w1.heap.size ≤ j := fun j hj => (World.ownsRow.lt hown.out j hj).1
          have HOW := hown
          have HBE := hbe
          have h30 : Hid (F.length + M.length ≤ 140737488355328) := Lib.hid (by rw [hFl, hml]; decide)
          clear hF hM hown hbe
          go_wp2_with (at_builtin; with_reducible refine wpList_app rfl (.tmp 44) (.tmp 46) rfl rfl HOW.out rfl HBM.out h30.out HBE.out.size ?_)
          intro v8 w8 ho8 hg8 _
          have HB8 := Lib.hid (HBE.out.grown hg8 HBE.out.size (fun j hj => hlt8 j (by rw [hFl]; exact hj)))
          obtain ⟨A8, c8, hv8⟩ := ho8.shape
          rw [List.length_append, hFl, hml] at hv8
          subst hv8
          have HO8 := Lib.hid (ho8.alloc (.cells #[.int .u8 0, .int .u8 0] 5))
          have HB9 := Lib.hid (HB8.out.alloc HB8.out.size (.cells #[.int .u8 0, .int .u8 0] 5))
          have HZ2 : Hid (Bs (w8.alloc (.cells #[.int .u8 0, .int .u8 0] 5)) (w8.heap.size + 1) (.slice (some ⟨w8.heap.size, 0, none⟩) 2 2) [0, 0]) := Lib.hid (bs_two w8 0 0)
          have h32 : Hid ((F ++ M).length + ([0, 0] : List UInt8).length ≤ 140737488355328) := Lib.hid (by rw [List.length_append, hFl, hml]; decide)
          have hlt9 : ∀ j, (Value.slice A8 (14 + 16) c8).ownBlock = some j → w1.heap.size ≤ j := fun j hj => (World.ownsRow.lt HO8.out j hj).1
          clear ho8 hg8 hlt8
          go_wp2_with (at_builtin; with_reducible refine wpList_app rfl (.tmp 48) (.tmp 49) rfl rfl HO8.out rfl HZ2.out h32.out HB9.out.size ?_)
          intro v9 w9 ho9 hg9 _
          have HB10 := Lib.hid (HB1.out.trans ((HB9.out.grown hg9 HB9.out.size hlt9).mono (Nat.le_of_lt hz1)))
          have HO9 : Hid (Own w9 w.heap.size v9 E) := Lib.hid (by
            have h := ho9.more (Nat.le_of_lt hz1)
            rw [HFE.out, HM.out] at h
            rw [HE.out, Cm.enc, ← HK.out, ← HF.out, ← HD.out, ← HN.out]
            exact h)
          clear ho9 hg9 hlt9
          go_wp2
          go_ret2
          exact ⟨_, rfl, HO9.out, HB10.out⟩
end Go.Proofs.Yteonidpgplhplaa
