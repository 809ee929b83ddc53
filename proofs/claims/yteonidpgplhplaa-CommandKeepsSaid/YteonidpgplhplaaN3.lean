/- Commands: Encode of the program. -/
import Derived.Test.YteonidpgplhplaaN1
import Derived.Deep.RegionHeld3
namespace Go.Proofs.Yteonidpgplhplaa
open Go.RowKit

/-- a command's bytes -/
def Cm.enc (c : Cm) : List UInt8 := [UInt8.ofNat c.k, UInt8.ofNat c.f] ++ putL 2 4 c.d ++ putL 2 8 c.n ++ c.m ++ [0, 0]
theorem Cm.enc_flat (c : Cm) : [[UInt8.ofNat c.k, UInt8.ofNat c.f], putL 2 4 c.d, putL 2 8 c.n, c.m, [0, 0]].flatten = c.enc := by simp [Cm.enc]
theorem Cm.enc_len {c : Cm} (h : c.ok) : c.enc.length = 32 := by simp [Cm.enc, putL_length, h.m]

set_option maxRecDepth 100000 in
set_option maxHeartbeats 4000000 in
theorem encode_no {c : Cm} (hc : c.ok) (h : c.chk ≠ 0) (w : World) :
    Calls Try.prog 10 #[.agg c.cs.toArray] w fun e w' => e = .returned (.tuple #[.slice none 0 0, .int .i64 c.chk]) ∧ Below w.heap.size w w' := by
  have hne : (c.chk != 0) = true := by simpa using h
  have CC := fun W => check_any hc W
  obtain ⟨r, hr⟩ : ∃ r, r = c.chk := ⟨_, rfl⟩
  rw [← hr] at hne CC ⊢
  have hrg := range_new w c.cs 26
  have HB0 := Lib.hid ((Below.refl w.heap.size w).alloc (Nat.le_refl _) (.cells c.cs.toArray 26))
  have HRG := Lib.hid hrg
  have hlen := Cm.len hc
  obtain ⟨CS, hCS⟩ : ∃ CS, CS = c.cs := ⟨_, rfl⟩
  rw [← hCS] at HB0 HRG CC hlen ⊢
  have HLN := Lib.hid hlen; have HCC := Lib.hid CC
  clear hCS hrg hr CC hlen
  go_enter Try.func10, Try.ntmps10
  go_upto_region 1 with fail
  generalize w.alloc (.cells CS.toArray 26) = W at HRG HB0 ⊢
  have CK := Lib.hid (HCC.out W)
  have u26 := Try.underlying26
  have i26 : (Try.prog.info? 26).map (·.size) = some CS.length := by rw [HLN.out]; kernel_rfl
  have HI := Lib.hid i26
  clear i26
  go_wp2_with (with_reducible refine wpList_load_mid rfl 26 (.tmp 1) rfl w.heap.size 0 rfl CS _ HRG.out u26 rfl HI.out ?_)
  with_reducible refine (CK.out).mono ?_
  rintro e1 w1 ⟨rfl, hb1⟩
  have HB1 := Lib.hid (HB0.out.trans (hb1.mono HB0.out.size))
  clear hb1
  go_wp2
  go_ret2
  exact ⟨rfl, HB1.out⟩

theorem cut_mark {g o : Nat} (W : World) : (Instr.sliceAt 24 (.pointer (some ⟨g, o, none⟩)) none none none).run Try.prog W = .ok (.slice (some ⟨g, o, none⟩) 16 16) W := by
  have hu := Try.underlying24
  have s5 : ∀ W : World, (sizeOf 5).run Try.prog W = .ok 1 W := u8sizeOf
  go_simp
theorem fit4 {d : Nat} (h : d < 4294967296) : ((d : Int) / 2 ^ (8 * 4) != 0) = false := by
  simp only [bne_eq_false_iff_eq]
  omega
theorem fit8 {n : Nat} (h : n < 18446744073709551616) : ((n : Int) / 2 ^ (8 * 8) != 0) = false := by
  simp only [bne_eq_false_iff_eq]
  omega
theorem make2 (W : World) : (Instr.makeSlice 28 (.int .i64 2) (.int .i64 2)).run Try.prog W = .ok (.slice (some ⟨W.heap.size, 0, none⟩) 2 2) (W.alloc (.cells #[.int .u8 0, .int .u8 0] 5)) := by
  have h := run_make_row' (P := Try.prog) 28 5 (.int .u8 0) 1 Try.underlying28 u8info rfl .i64 .i64 2 (by omega) (by omega) W
  have e : madeCells #[Value.int .u8 0] 2 = #[.int .u8 0, .int .u8 0] := by kernel_rfl
  rw [e] at h
  exact h
theorem put4 (d : Nat) (h : d < 4294967296) (w : World) :
    Calls Try.prog 33 #[.int .i64 2, .int .i64 4, .int .u64 (d : Int)] w fun e w' => ∃ v, e = .returned (.tuple #[v, .int .i64 0]) ∧ Own w' w.heap.size v (putL 2 4 d) ∧ Below w.heap.size w w' := put_big 4 d (by decide) (by decide) (fit4 h) w
theorem put8 (n : Nat) (h : n < 18446744073709551616) (w : World) :
    Calls Try.prog 33 #[.int .i64 2, .int .i64 8, .int .u64 (n : Int)] w fun e w' => ∃ v, e = .returned (.tuple #[v, .int .i64 0]) ∧ Own w' w.heap.size v (putL 2 8 n) ∧ Below w.heap.size w w' := put_big 8 n (by decide) (by decide) (fit8 h) w

theorem enc_join {w X : World} {B : Nat} {us : List Value} {ls : List (List UInt8)} (hb : Below B w X) (hB : B ≤ w.heap.size) (hn : us.length = ls.length) (hl : ls.length ≤ maxLen) (hs : ls.flatten.length ≤ 281474976710656)
    (h : ∀ (j : Nat) (h : j < us.length) (h' : j < ls.length), Bs X X.heap.size us[j] ls[j]) :
    Calls Try.prog 34 #[.slice (some ⟨X.heap.size, 0, none⟩) ls.length ls.length] (X.alloc (.cells us.toArray 28)).drew fun e w' => ∃ v, e = .returned v ∧ Own w' B v ls.flatten ∧ Below B w w' := by
  have hr := (Rs.lit X us ls hn hl h).drewN 1
  have hsz : (X.alloc (.cells us.toArray 28)).drew.heap.size = X.heap.size + 1 := by simp
  have hb2 : Below B w (X.alloc (.cells us.toArray 28)).drew := (hb.alloc (Nat.le_trans hB hb.size) _).drew
  refine (join_any (w := (X.alloc (.cells us.toArray 28)).drew) hr (by rw [hsz]; exact Nat.le_refl _) hs).mono ?_
  rintro e w' ⟨v, rfl, ho, hbb⟩
  have hle : B ≤ (X.alloc (.cells us.toArray 28)).drew.heap.size := Nat.le_trans hB hb2.size
  exact ⟨v, rfl, ho.more hle, hb2.trans (hbb.mono hle)⟩
theorem byte_k {k : Nat} (h : k < 256) : (k : Int) = ((UInt8.ofNat k).toNat : Int) := by simp; omega
theorem CmAt.bs {w : World} {g o B : Nat} {c : Cm} (h : CmAt w g o c) (hc : c.ok) (hg : g < w.heap.size) (hB : g < B) : Bs w B (.slice (some ⟨g, o + 4, none⟩) 16 16) c.m := by
  refine ⟨some ⟨g, o + 4, none⟩, 16, by rw [hc.m], by rw [hc.m]; exact Nat.le_refl _, by unfold maxLen; omega, fun _ => ⟨g, o + 4, rfl, hB, fun j hj => ?_⟩⟩
  exact h.m j (vb c.m[j]) (by simp [List.getElem?_eq_getElem hj])
theorem bs_two (w : World) (a b : UInt8) : Bs (w.alloc (.cells #[.int .u8 (a.toNat : Int), .int .u8 (b.toNat : Int)] 5)) (w.heap.size + 1) (.slice (some ⟨w.heap.size, 0, none⟩) 2 2) [a, b] := Bs.lit w [a, b] (by unfold maxLen; simp)

theorem bs_two' (w : World) (g : Nat) (hg : g = w.heap.size) (a b : UInt8) : Bs (w.alloc (.cells #[.int .u8 (a.toNat : Int), .int .u8 (b.toNat : Int)] 5)) (g + 1) (.slice (some ⟨g, 0, none⟩) 2 2) [a, b] := by
  subst hg
  exact bs_two w a b

set_option maxRecDepth 100000 in
set_option maxHeartbeats 4000000 in
theorem encode_ok {c : Cm} (hc : c.ok) (h : c.chk = 0) (w : World) :
    Calls Try.prog 10 #[.agg c.cs.toArray] w fun e w' => ∃ v, e = .returned (.tuple #[v, .int .i64 0]) ∧ Own w' w.heap.size v c.enc ∧ Below w.heap.size w w' := by
  have CC := fun W => check_any hc W
  rw [h] at CC
  have hrg := range_new w c.cs 26
  have HAT := Lib.hid (CmAt.of_range hrg)
  have HB0 := Lib.hid ((Below.refl w.heap.size w).alloc (Nat.le_refl _) (.cells c.cs.toArray 26))
  have HRG := Lib.hid hrg
  have HZ0 : w.heap.size < (w.alloc (.cells c.cs.toArray 26)).heap.size := by simp
  have hlen := Cm.len hc
  obtain ⟨CS, hCS⟩ : ∃ CS, CS = c.cs := ⟨_, rfl⟩
  rw [← hCS] at HB0 HRG CC hlen HAT HZ0 ⊢
  have HLN := Lib.hid hlen; have HCC := Lib.hid CC
  obtain ⟨E, hE⟩ : ∃ E, E = c.enc := ⟨_, rfl⟩
  rw [← hE]
  have HE := Lib.hid hE; have HC := Lib.hid hc
  clear hCS hrg CC hlen h hE hc
  go_enter Try.func10, Try.ntmps10
  go_upto_region 1 with fail
  generalize w.alloc (.cells CS.toArray 26) = W at HRG HB0 HAT HZ0 ⊢
  have CK := Lib.hid (HCC.out W)
  have u26 := Try.underlying26
  have i26 : (Try.prog.info? 26).map (·.size) = some CS.length := by rw [HLN.out]; kernel_rfl
  have HI := Lib.hid i26
  clear i26
  go_wp2_with (with_reducible refine wpList_load_mid rfl 26 (.tmp 1) rfl w.heap.size 0 rfl CS _ HRG.out u26 rfl HI.out ?_)
  with_reducible refine (CK.out).mono ?_
  rintro e1 w1 ⟨rfl, hb1⟩
  have HB1 := Lib.hid (HB0.out.trans (hb1.mono HB0.out.size))
  have HA1 := Lib.hid (HAT.out.below hb1 HZ0)
  have hz1 : w.heap.size < w1.heap.size := Nat.lt_of_lt_of_le HZ0 hb1.size
  obtain ⟨d, hd⟩ : ∃ d, d = c.d := ⟨_, rfl⟩
  have hd32 : d < 4294967296 := by rw [hd]; exact HC.out.d
  have hcd : w1.cell? ⟨w.heap.size, 2, none⟩ = some (.int .u32 (d : Int)) := by rw [hd]; exact HA1.out.d
  have hcv : IntKind.u64.wrap (d : Int) = (d : Int) := by rw [IntKind.wrap_u64]; omega
  have P1 := Lib.hid (put4 d hd32 w1)
  have HD := Lib.hid hd
  clear hb1 HAT HB0 HRG CK HI hd
  go_wp2_with fail
  with_reducible refine (P1.out).mono ?_
  rintro e2 w2 ⟨v2, rfl, ho2, hb2⟩
  obtain ⟨A2, c2, rfl⟩ := ho2.shape
  have HB2 := Lib.hid (HB1.out.trans (hb2.mono HB1.out.size))
  have HA2 := Lib.hid (HA1.out.below hb2 hz1)
  have HO2 := Lib.hid ho2
  have hz2 : w.heap.size < w2.heap.size := Nat.lt_of_lt_of_le hz1 hb2.size
  obtain ⟨n, hn⟩ : ∃ n, n = c.n := ⟨_, rfl⟩
  have hn64 : n < 18446744073709551616 := by rw [hn]; exact HC.out.n
  have hcn : w2.cell? ⟨w.heap.size, 3, none⟩ = some (.int .u64 (n : Int)) := by rw [hn]; exact HA2.out.n
  have P2 := Lib.hid (put8 n hn64 w2)
  have HN := Lib.hid hn
  clear hb2 ho2 hcd hcv HA1 HB1 P1 hn
  go_wp2_with fail
  with_reducible refine (P2.out).mono ?_
  rintro e3 w3 ⟨v3, rfl, ho3, hb3⟩
  obtain ⟨A3, c3, rfl⟩ := ho3.shape
  have HB3 := Lib.hid (HB2.out.trans (hb3.mono HB2.out.size))
  have HA3 := Lib.hid (HA2.out.below hb3 hz2)
  have HO3 := Lib.hid ho3
  have HO2' := Lib.hid (HO2.out.below hb3 (Nat.le_refl _))
  have hz3 : w.heap.size < w3.heap.size := Nat.lt_of_lt_of_le hz2 hb3.size
  have hz3a : w.heap.size < w3.heap.size + 1 := by omega
  have hz3b : w.heap.size < w3.heap.size + 1 + 1 := by omega
  obtain ⟨k, hk⟩ : ∃ k, k = UInt8.ofNat c.k := ⟨_, rfl⟩
  obtain ⟨f, hf⟩ : ∃ f, f = UInt8.ofNat c.f := ⟨_, rfl⟩
  have hck : w3.cell? ⟨w.heap.size, 0, none⟩ = some (.int .u8 (k.toNat : Int)) := by rw [hk, ← byte_k HC.out.k]; exact HA3.out.k
  have hcf : w3.cell? ⟨w.heap.size, 1, none⟩ = some (.int .u8 (f.toNat : Int)) := by rw [hf, ← byte_k HC.out.f]; exact HA3.out.f
  have cutM : ∀ W, (Instr.sliceAt 24 (.pointer (some ⟨w.heap.size, 4, none⟩)) none none none).run Try.prog W = .ok (.slice (some ⟨w.heap.size, 4, none⟩) 16 16) W := fun W => cut_mark W
  have mk2 := make2
  have hek : E = [[k, f], putL 2 4 d, putL 2 8 n, c.m, [0, 0]].flatten := by rw [HE.out, hk, hf, HD.out, HN.out, Cm.enc_flat]
  have hel : ([[k, f], putL 2 4 d, putL 2 8 n, c.m, [0, 0]] : List (List UInt8)).flatten.length ≤ 281474976710656 := by rw [← hek, HE.out, Cm.enc_len HC.out]; decide
  have HEK := Lib.hid hek; have HEL := Lib.hid hel
  have HM3 := Lib.hid (fun (X : World) (hb : Below w3.heap.size w3 X) => ((HA3.out.below hb hz3).bs HC.out (Nat.lt_of_lt_of_le hz3 hb.size) (Nat.lt_of_lt_of_le hz3 hb.size) : Bs X X.heap.size (.slice (some ⟨w.heap.size, 4, none⟩) 16 16) c.m))
  clear hek hel
  have l2 := putL_length 2 4 d
  have l3 := putL_length 2 8 n
  rw [l2] at HO2'
  rw [l3] at HO3 ⊢
  rw [l2] 
  have J1 := Lib.hid (enc_join (w := w3) (B := w3.heap.size) (X := (w3.alloc (.cells #[.int .u8 (k.toNat : Int), .int .u8 (f.toNat : Int)] 5)).alloc (.cells #[.int .u8 0, .int .u8 0] 5))
    (us := [.slice (some ⟨w3.heap.size, 0, none⟩) 2 2, .slice A2 4 c2, .slice A3 8 c3, .slice (some ⟨w.heap.size, 4, none⟩) 16 16, .slice (some ⟨w3.heap.size + 1, 0, none⟩) 2 2]) (ls := [[k, f], putL 2 4 d, putL 2 8 n, c.m, [0, 0]])
    (((Below.refl w3.heap.size w3).alloc (Nat.le_refl _) _).alloc (by simp) _) (Nat.le_refl _) rfl (by unfold maxLen; simp) HEL.out (by
      have b1 : Below w3.heap.size w3 ((w3.alloc (.cells #[.int .u8 (k.toNat : Int), .int .u8 (f.toNat : Int)] 5)).alloc (.cells #[.int .u8 0, .int .u8 0] 5)) := ((Below.refl w3.heap.size w3).alloc (Nat.le_refl _) _).alloc (by simp) _
      intro j h h'
      match j, h, h' with
      | 0, _, _ => refine Bs.more (Bs.alloc (bs_two w3 k f) ?_ _) ?_ <;> simp
      | 1, _, _ => exact (HO2'.out.bs.below b1 (Nat.le_refl _)).more (by simp; omega)
      | 2, _, _ => exact (HO3.out.bs.below b1 (Nat.le_refl _)).more (by simp; omega)
      | 3, _, _ => exact HM3.out _ b1
      | 4, _, _ => refine Bs.more (bs_two' (w3.alloc (.cells #[.int .u8 (k.toNat : Int), .int .u8 (f.toNat : Int)] 5)) (w3.heap.size + 1) (by simp) 0 0) ?_; simp))
  have J2 := Lib.hid (enc_join (w := w3) (B := w3.heap.size) (X := (w3.alloc (.cells #[.int .u8 0, .int .u8 0] 5)).alloc (.cells #[.int .u8 (k.toNat : Int), .int .u8 (f.toNat : Int)] 5))
    (us := [.slice (some ⟨w3.heap.size + 1, 0, none⟩) 2 2, .slice A2 4 c2, .slice A3 8 c3, .slice (some ⟨w.heap.size, 4, none⟩) 16 16, .slice (some ⟨w3.heap.size, 0, none⟩) 2 2]) (ls := [[k, f], putL 2 4 d, putL 2 8 n, c.m, [0, 0]])
    (((Below.refl w3.heap.size w3).alloc (Nat.le_refl _) _).alloc (by simp) _) (Nat.le_refl _) rfl (by unfold maxLen; simp) HEL.out (by
      have b1 : Below w3.heap.size w3 ((w3.alloc (.cells #[.int .u8 0, .int .u8 0] 5)).alloc (.cells #[.int .u8 (k.toNat : Int), .int .u8 (f.toNat : Int)] 5)) := ((Below.refl w3.heap.size w3).alloc (Nat.le_refl _) _).alloc (by simp) _
      intro j h h'
      match j, h, h' with
      | 0, _, _ => refine Bs.more (bs_two' (w3.alloc (.cells #[.int .u8 0, .int .u8 0] 5)) (w3.heap.size + 1) (by simp) k f) ?_; simp
      | 1, _, _ => exact (HO2'.out.bs.below b1 (Nat.le_refl _)).more (by simp; omega)
      | 2, _, _ => exact (HO3.out.bs.below b1 (Nat.le_refl _)).more (by simp; omega)
      | 3, _, _ => exact HM3.out _ b1
      | 4, _, _ => refine Bs.more (Bs.alloc (bs_two w3 0 0) ?_ _) ?_ <;> simp))
  rw [← HEK.out] at J1 J2
  simp only [World.size_alloc, List.length_cons, List.length_nil] at J1 J2
  clear hb3 ho3 hcn HA2 HB2 P2 HO2 hk hf
  go_wp2_with fail
  go_region_held3 (fun w' => w'.cell? ⟨w.heap.size, 0, none⟩ = some (.int .u8 (k.toNat : Int)) ∧ w'.cell? ⟨w.heap.size, 1, none⟩ = some (.int .u8 (f.toNat : Int))) (go_simp)
    (first
      | (go_at_call 34; (with_reducible refine (J1.out).mono ?_); rintro e4 w4 ⟨v4, rfl, ho4, hb4⟩; have m0 := (hb4.cell (p := ⟨w.heap.size, 0, none⟩) hz3).trans hck; have m1 := (hb4.cell (p := ⟨w.heap.size, 1, none⟩) hz3).trans hcf)
      | (go_at_call 34; (with_reducible refine (J2.out).mono ?_); rintro e4 w4 ⟨v4, rfl, ho4, hb4⟩; have m0 := (hb4.cell (p := ⟨w.heap.size, 0, none⟩) hz3).trans hck; have m1 := (hb4.cell (p := ⟨w.heap.size, 1, none⟩) hz3).trans hcf)
      | fail)
  all_goals
    have HO4 := Lib.hid (ho4.more (Nat.le_of_lt hz3))
    have HB4 := Lib.hid (HB3.out.trans (hb4.mono (Nat.le_of_lt hz3)))
    clear ho4 hb4
    go_wp2
    go_ret2
    exact ⟨_, rfl, HO4.out, HB4.out⟩
end Go.Proofs.Yteonidpgplhplaa
