/- Extract of mac; the law MacExpands, walked. -/
import Derived.Test.YtlheekbbioajpaaX2
import Derived.Test.YtlheekbbioajpaaX3
import Derived.Test.YtlheekbbioajpaaMacAwake
import Derived.Test.YtlheekbbioajpaaArr
namespace Go.Proofs.Ytlheekbbioajpaa
open Go.RowKit

theorem eq_arr32 (l : List UInt8) (h : l.length = 32) (W : World) : (Op.equalIn 10000 34 (arr32 l) (arr32 l)).run Try.prog W = .ok true W := by
  obtain ⟨i, hi⟩ : ∃ i, Try.prog.info? 5 = some i := Option.isSome_iff_exists.1 (by kernel_rfl)
  have h2 := run_eq_arr (P := Try.prog) (k := .u8) W Try.underlying34 hi (by kernel_rfl) (by kernel_rfl) Try.underlying5 (l.map fun x => (x.toNat : Int)) (l.map fun x => (x.toNat : Int)) (by simpa using h) (by simpa using h) 9998
  have e : arr32 l = .agg ((l.map fun x => (x.toNat : Int)).map (Value.int .u8)).toArray := by rw [arr32, List.map_map]; rfl
  rw [e, h2]
  simp

set_option maxRecDepth 100000 in
set_option maxHeartbeats 4000000 in
theorem extract_any {salt key : List UInt8} {v u : Value} {w : World} {B : Nat} (hb : Bs w B v salt) (hu : Bs w B u key) (hB : B ≤ w.heap.size) (hlen : salt.length ≤ 1152921504606846000) (hlen2 : key.length ≤ 1152921504606845000) :
    Calls Try.prog 14 #[v, u] w fun e w' => e = .returned (arr32 (tagL salt key)) ∧ Below w.heap.size w w' := by
  obtain ⟨Au, cu, rfl⟩ := hu.shape
  have hb0 : Below w.heap.size w (w.alloc (.cells #[.int .u8 0, .int .u8 0, .int .u8 0, .int .u8 0, .int .u8 0, .int .u8 0, .int .u8 0, .int .u8 0, .int .u8 0, .int .u8 0, .int .u8 0, .int .u8 0, .int .u8 0, .int .u8 0, .int .u8 0, .int .u8 0, .int .u8 0, .int .u8 0, .int .u8 0, .int .u8 0, .int .u8 0, .int .u8 0, .int .u8 0, .int .u8 0, .int .u8 0, .int .u8 0, .int .u8 0, .int .u8 0, .int .u8 0, .int .u8 0, .int .u8 0, .int .u8 0] 34)) := (Below.refl _ _).alloc (Nat.le_refl _) _
  have hs0 : (w.alloc (.cells #[.int .u8 0, .int .u8 0, .int .u8 0, .int .u8 0, .int .u8 0, .int .u8 0, .int .u8 0, .int .u8 0, .int .u8 0, .int .u8 0, .int .u8 0, .int .u8 0, .int .u8 0, .int .u8 0, .int .u8 0, .int .u8 0, .int .u8 0, .int .u8 0, .int .u8 0, .int .u8 0, .int .u8 0, .int .u8 0, .int .u8 0, .int .u8 0, .int .u8 0, .int .u8 0, .int .u8 0, .int .u8 0, .int .u8 0, .int .u8 0, .int .u8 0, .int .u8 0] 34)).heap.size = w.heap.size + 1 := by simp
  have hr0 : (w.alloc (.cells #[.int .u8 0, .int .u8 0, .int .u8 0, .int .u8 0, .int .u8 0, .int .u8 0, .int .u8 0, .int .u8 0, .int .u8 0, .int .u8 0, .int .u8 0, .int .u8 0, .int .u8 0, .int .u8 0, .int .u8 0, .int .u8 0, .int .u8 0, .int .u8 0, .int .u8 0, .int .u8 0, .int .u8 0, .int .u8 0, .int .u8 0, .int .u8 0, .int .u8 0, .int .u8 0, .int .u8 0, .int .u8 0, .int .u8 0, .int .u8 0, .int .u8 0, .int .u8 0] 34)).heap[w.heap.size]? = some (.cells #[.int .u8 0, .int .u8 0, .int .u8 0, .int .u8 0, .int .u8 0, .int .u8 0, .int .u8 0, .int .u8 0, .int .u8 0, .int .u8 0, .int .u8 0, .int .u8 0, .int .u8 0, .int .u8 0, .int .u8 0, .int .u8 0, .int .u8 0, .int .u8 0, .int .u8 0, .int .u8 0, .int .u8 0, .int .u8 0, .int .u8 0, .int .u8 0, .int .u8 0, .int .u8 0, .int .u8 0, .int .u8 0, .int .u8 0, .int .u8 0, .int .u8 0, .int .u8 0] 34 (0, 0)) := heap_alloc_new w _
  obtain ⟨cs, hcs⟩ : ∃ cs : Array Value, cs = ((tagL salt key).map vb).toArray := ⟨_, rfl⟩
  have hcz : cs.size = 32 := by rw [hcs]; simp [tagL_len]
  have hi2 : Hid ((Try.prog.info? 34).map (·.size) = some cs.size) := by rw [hcz]; show _ = _; kernel_rfl
  have ho2 : Hid ((#[.int .u8 0, .int .u8 0, .int .u8 0, .int .u8 0, .int .u8 0, .int .u8 0, .int .u8 0, .int .u8 0, .int .u8 0, .int .u8 0, .int .u8 0, .int .u8 0, .int .u8 0, .int .u8 0, .int .u8 0, .int .u8 0, .int .u8 0, .int .u8 0, .int .u8 0, .int .u8 0, .int .u8 0, .int .u8 0, .int .u8 0, .int .u8 0, .int .u8 0, .int .u8 0, .int .u8 0, .int .u8 0, .int .u8 0, .int .u8 0, .int .u8 0, .int .u8 0] : Array Value).size = cs.size) := by rw [hcz]; show _ = _; rfl
  have hone2 : Hid (cs.all (·.oneCell') = true) := by rw [hcs]; exact one_bytes _
  have hr1 := Rs.lit (w.alloc (.cells #[.int .u8 0, .int .u8 0, .int .u8 0, .int .u8 0, .int .u8 0, .int .u8 0, .int .u8 0, .int .u8 0, .int .u8 0, .int .u8 0, .int .u8 0, .int .u8 0, .int .u8 0, .int .u8 0, .int .u8 0, .int .u8 0, .int .u8 0, .int .u8 0, .int .u8 0, .int .u8 0, .int .u8 0, .int .u8 0, .int .u8 0, .int .u8 0, .int .u8 0, .int .u8 0, .int .u8 0, .int .u8 0, .int .u8 0, .int .u8 0, .int .u8 0, .int .u8 0] 34)) [.slice Au key.length cu] [key] rfl (by unfold maxLen; simp) (by
    intro j h1 h2
    obtain rfl : j = 0 := by simpa using h1
    exact (hu.below hb0 hB).more (by rw [hs0]; omega))
  have hb2 := hb0.alloc (by rw [hs0]; omega) (.cells #[.slice Au key.length cu] 22)
  have ct := tag_any (key := salt) (((hb.below hb0 hB).below ((Below.refl _ (w.alloc (.cells #[.int .u8 0, .int .u8 0, .int .u8 0, .int .u8 0, .int .u8 0, .int .u8 0, .int .u8 0, .int .u8 0, .int .u8 0, .int .u8 0, .int .u8 0, .int .u8 0, .int .u8 0, .int .u8 0, .int .u8 0, .int .u8 0, .int .u8 0, .int .u8 0, .int .u8 0, .int .u8 0, .int .u8 0, .int .u8 0, .int .u8 0, .int .u8 0, .int .u8 0, .int .u8 0, .int .u8 0, .int .u8 0, .int .u8 0, .int .u8 0, .int .u8 0, .int .u8 0] 34))).alloc (Nat.le_refl _) (.cells #[.slice Au key.length cu] 22)) (by rw [hs0]; omega)).more (by rw [hs0]; omega)) hr1 (by simp) hlen (by simpa using hlen2)
  rw [show ([key] : List (List UInt8)).flatten = key by simp] at ct
  have HBB := Lib.hid hb2
  have HRB : Hid (((w.alloc (.cells #[.int .u8 0, .int .u8 0, .int .u8 0, .int .u8 0, .int .u8 0, .int .u8 0, .int .u8 0, .int .u8 0, .int .u8 0, .int .u8 0, .int .u8 0, .int .u8 0, .int .u8 0, .int .u8 0, .int .u8 0, .int .u8 0, .int .u8 0, .int .u8 0, .int .u8 0, .int .u8 0, .int .u8 0, .int .u8 0, .int .u8 0, .int .u8 0, .int .u8 0, .int .u8 0, .int .u8 0, .int .u8 0, .int .u8 0, .int .u8 0, .int .u8 0, .int .u8 0] 34)).alloc (.cells #[.slice Au key.length cu] 22)).heap[w.heap.size]? = some (.cells #[.int .u8 0, .int .u8 0, .int .u8 0, .int .u8 0, .int .u8 0, .int .u8 0, .int .u8 0, .int .u8 0, .int .u8 0, .int .u8 0, .int .u8 0, .int .u8 0, .int .u8 0, .int .u8 0, .int .u8 0, .int .u8 0, .int .u8 0, .int .u8 0, .int .u8 0, .int .u8 0, .int .u8 0, .int .u8 0, .int .u8 0, .int .u8 0, .int .u8 0, .int .u8 0, .int .u8 0, .int .u8 0, .int .u8 0, .int .u8 0, .int .u8 0, .int .u8 0] 34 (0, 0))) := Lib.hid (alloc_block2 hr0 _)
  have HZB : Hid (((w.alloc (.cells #[.int .u8 0, .int .u8 0, .int .u8 0, .int .u8 0, .int .u8 0, .int .u8 0, .int .u8 0, .int .u8 0, .int .u8 0, .int .u8 0, .int .u8 0, .int .u8 0, .int .u8 0, .int .u8 0, .int .u8 0, .int .u8 0, .int .u8 0, .int .u8 0, .int .u8 0, .int .u8 0, .int .u8 0, .int .u8 0, .int .u8 0, .int .u8 0, .int .u8 0, .int .u8 0, .int .u8 0, .int .u8 0, .int .u8 0, .int .u8 0, .int .u8 0, .int .u8 0] 34)).alloc (.cells #[.slice Au key.length cu] 22)).heap.size = w.heap.size + 2) := Lib.hid (by simp)
  have CT : Hid (Calls Try.prog 33 #[v, .slice (some ⟨w.heap.size + 1, 0, none⟩) 1 1] ((w.alloc (.cells #[.int .u8 0, .int .u8 0, .int .u8 0, .int .u8 0, .int .u8 0, .int .u8 0, .int .u8 0, .int .u8 0, .int .u8 0, .int .u8 0, .int .u8 0, .int .u8 0, .int .u8 0, .int .u8 0, .int .u8 0, .int .u8 0, .int .u8 0, .int .u8 0, .int .u8 0, .int .u8 0, .int .u8 0, .int .u8 0, .int .u8 0, .int .u8 0, .int .u8 0, .int .u8 0, .int .u8 0, .int .u8 0, .int .u8 0, .int .u8 0, .int .u8 0, .int .u8 0] 34)).alloc (.cells #[.slice Au key.length cu] 22)) fun e w' => e = .returned (.agg cs) ∧ Below ((w.alloc (.cells #[.int .u8 0, .int .u8 0, .int .u8 0, .int .u8 0, .int .u8 0, .int .u8 0, .int .u8 0, .int .u8 0, .int .u8 0, .int .u8 0, .int .u8 0, .int .u8 0, .int .u8 0, .int .u8 0, .int .u8 0, .int .u8 0, .int .u8 0, .int .u8 0, .int .u8 0, .int .u8 0, .int .u8 0, .int .u8 0, .int .u8 0, .int .u8 0, .int .u8 0, .int .u8 0, .int .u8 0, .int .u8 0, .int .u8 0, .int .u8 0, .int .u8 0, .int .u8 0] 34)).alloc (.cells #[.slice Au key.length cu] 22)).heap.size ((w.alloc (.cells #[.int .u8 0, .int .u8 0, .int .u8 0, .int .u8 0, .int .u8 0, .int .u8 0, .int .u8 0, .int .u8 0, .int .u8 0, .int .u8 0, .int .u8 0, .int .u8 0, .int .u8 0, .int .u8 0, .int .u8 0, .int .u8 0, .int .u8 0, .int .u8 0, .int .u8 0, .int .u8 0, .int .u8 0, .int .u8 0, .int .u8 0, .int .u8 0, .int .u8 0, .int .u8 0, .int .u8 0, .int .u8 0, .int .u8 0, .int .u8 0, .int .u8 0, .int .u8 0] 34)).alloc (.cells #[.slice Au key.length cu] 22)) w') := Lib.hid (by
    rw [hcs]
    simp only [hs0] at ct
    exact ct)
  have HCE := Lib.hid hcs
  clear hb0 hs0 hr0 hcs hcz hr1 hb2 ct hb hu
  go_enter Try.func14, Try.ntmps14
  go_wp2_with fail
  with_reducible refine (CT.out).mono ?_
  rintro e3 w3 ⟨rfl, hb3⟩
  have hr3 := Lib.hid ((hb3.block w.heap.size (by rw [HZB.out]; omega)).trans HRB.out)
  have hbe3 : Below w.heap.size w (w3.setRow w.heap.size cs) := (HBB.out.trans (hb3.mono HBB.out.size)).grown (row := some w.heap.size) ⟨rfl, rfl, rfl, by simp, fun j _ hj => setRow_other w3 w.heap.size j _ (fun e => hj (by rw [e]))⟩ (by have := (HBB.out.trans (hb3.mono HBB.out.size)).size; exact this) (fun j hj => by simp only [Option.some.injEq] at hj; omega)
  have HB3 := Lib.hid hbe3
  clear hb3 hbe3
  go_wp2_with (with_reducible refine wpList_store_row rfl 34 (.tmp 4) (.tmp 8) rfl w.heap.size cs rfl rfl 34 _ hr3.out hi2.out ho2.out hone2.out ?_)
  (try simp only [Exit.inBlock, Exit.then])
  refine bodyPost_ret (results_cell_row rfl _ _ w.heap.size 34 cs (0, 0) _ rfl (setRow_heap w3 w.heap.size _ _ _ _ hr3.out) Try.underlying34 rfl hi2.out) rfl ?_
  exact ⟨by rw [HCE.out]; rfl, HB3.out⟩

set_option maxRecDepth 100000 in
set_option maxHeartbeats 4000000 in
theorem expands_no {key : List UInt8} {ls : List (List UInt8)} {v u : Value} {n : Int} {w : World} (hk : Bs w w.heap.size v key) (hr : Rs w w.heap.size u ls) (hkl : key.length ≤ 1048576) (hln : ls.length ≤ 1048576) (hf : ls.flatten.length ≤ 1048576) (hl : ∀ l ∈ ls, l.length ≤ 1048576) (hnb : n < 0 ∨ 8160 < n) :
    Calls Try.prog 3 #[v, .int .i64 n, u] w fun e w' => e = .returned (.bool true) ∧ Below w.heap.size w w' := by
  have CA := Lib.hid (awake3_any w)
  obtain ⟨F, hF⟩ : ∃ F, F = ls.flatten := ⟨_, rfl⟩
  rw [← hF] at hf
  obtain ⟨cells, hcells⟩ : ∃ cells, arr32 (tagL F key) = .agg cells := ⟨_, rfl⟩
  have EQ : ∀ W, (Op.equalIn 10000 34 (.agg cells) (.agg cells)).run Try.prog W = .ok true W := fun W => by rw [← hcells]; exact eq_arr32 _ (tagL_len _ _) W
  have HCE := Lib.hid hcells
  obtain ⟨AK, ck, rfl⟩ := hk.shape
  have HF := Lib.hid hF; have HK := Lib.hid hk; have HR := Lib.hid hr; have HL := Lib.hid hl
  clear hF hk hr hl hcells
  go_enter Try.func3, Try.ntmps3
  go_wp2_with fail
  refine (CA.out).mono ?_
  rintro e0 w0 ⟨rfl, hb0⟩
  have HB0 := Lib.hid hb0
  clear hb0 CA
  have C1 := Lib.hid (copy_any (HK.out.below HB0.out (Nat.le_refl _)) HB0.out.size (by omega))
  go_wp2_with fail
  with_reducible refine (C1.out).mono ?_
  rintro e1 w1 ⟨u1, rfl, ho1, hb1⟩
  have HB1 := Lib.hid (HB0.out.trans (hb1.mono HB0.out.size))
  have Hk1 := Lib.hid ho1.bs
  obtain ⟨A1, c1, rfl⟩ := ho1.shape
  clear ho1
  clear hb1 C1
  have C2 := Lib.hid (copies_any (HR.out.below HB1.out (Nat.le_refl _)) HB1.out.size (by omega) (fun l hl => by have := HL.out l hl; omega))
  go_wp2_with fail
  with_reducible refine (C2.out).mono ?_
  rintro e2 w2 ⟨u2, rfl, ho2, hb2⟩
  have HB2 := Lib.hid (HB1.out.trans (hb2.mono HB1.out.size))
  have Hk2 := Lib.hid ((Hk1.out.below hb2 (Nat.le_refl _)).more hb2.size)
  have Hr2 := Lib.hid ho2.rs
  obtain ⟨A2, c2, rfl⟩ := ho2.shape
  clear ho2
  clear hb2 C2
  clear Hk1
  clear HB1
  have C3 := Lib.hid (expand_arg (v := .slice A1 key.length c1) (u := .slice A2 ls.length c2) (w := w2) hnb)
  go_wp2_with fail
  with_reducible refine (C3.out).mono ?_
  rintro e3 w3 ⟨rfl, rfl⟩
  clear C3
  clear Hk2
  clear Hr2
  have cj2 := refjoin_any (HR.out.below HB2.out (Nat.le_refl _)) HB2.out.size (by rw [← HF.out]; omega)
  rw [← HF.out] at cj2
  have C3 := Lib.hid (cj2)
  go_wp2_with fail
  with_reducible refine (C3.out).mono ?_
  rintro e3 w3 ⟨u3, rfl, ho3, hb3⟩
  have HB3 := Lib.hid (HB2.out.trans (hb3.mono HB2.out.size))
  have Hj3 := Lib.hid ho3.bs
  obtain ⟨A3, c3, rfl⟩ := ho3.shape
  clear ho3
  clear hb3 C3
  clear HB2
  clear cj2
  have C9 := Lib.hid (refexpand_arg (v := .slice AK key.length ck) (u := .slice A3 F.length c3) (w := w3) hnb)
  go_wp2_with fail
  with_reducible refine (C9.out).mono ?_
  rintro e9 w9 ⟨rfl, rfl⟩
  clear C9
  clear Hj3
  have C4 := Lib.hid (equal_same (Bs.nil w3 w3.heap.size) (Bs.nil w3 w3.heap.size))
  go_wp2_with fail
  with_reducible refine (C4.out).mono ?_
  rintro e4 w4 ⟨rfl, hd4⟩
  have hb4 := hd4.below w3.heap.size
  have HB4 := Lib.hid (HB3.out.trans (hb4.mono HB3.out.size))
  clear hb4 C4 hd4
  clear HB3
  have cj4 := refjoin_any (HR.out.below HB4.out (Nat.le_refl _)) HB4.out.size (by rw [← HF.out]; omega)
  rw [← HF.out] at cj4
  have C5 := Lib.hid (cj4)
  go_wp2_with fail
  with_reducible refine (C5.out).mono ?_
  rintro e5 w5 ⟨u5, rfl, ho5, hb5⟩
  have HB5 := Lib.hid (HB4.out.trans (hb5.mono HB4.out.size))
  have Hj5 := Lib.hid ho5.bs
  obtain ⟨A5, c5, rfl⟩ := ho5.shape
  clear ho5
  clear hb5 C5
  clear HB4
  clear cj4
  have C6 := Lib.hid (copy_any (HK.out.below HB5.out (Nat.le_refl _)) HB5.out.size (by omega))
  go_wp2_with fail
  with_reducible refine (C6.out).mono ?_
  rintro e6 w6 ⟨u6, rfl, ho6, hb6⟩
  have HB6 := Lib.hid (HB5.out.trans (hb6.mono HB5.out.size))
  have Hj6 := Lib.hid ((Hj5.out.below hb6 (Nat.le_refl _)).more hb6.size)
  have Hk6 := Lib.hid ho6.bs
  obtain ⟨A6, c6, rfl⟩ := ho6.shape
  clear ho6
  clear hb6 C6
  clear Hj5
  clear HB5
  have ct6 := extract_any Hj6.out Hk6.out (Nat.le_refl _) (by omega) (by omega)
  rw [HCE.out] at ct6
  have C7 := Lib.hid (ct6)
  go_wp2_with fail
  with_reducible refine (C7.out).mono ?_
  rintro e7 w7 ⟨rfl, hb7⟩
  have HB7 := Lib.hid (HB6.out.trans (hb7.mono HB6.out.size))
  have Hj7 := Lib.hid ((Hj6.out.below hb7 (Nat.le_refl _)).more hb7.size)
  have Hk7 := Lib.hid ((Hk6.out.below hb7 (Nat.le_refl _)).more hb7.size)
  clear hb7 C7
  clear Hj6
  clear Hk6
  clear HB6
  clear ct6
  clear Hj7
  clear Hk7
  have cj7 := refjoin_any (HR.out.below HB7.out (Nat.le_refl _)) HB7.out.size (by rw [← HF.out]; omega)
  rw [← HF.out] at cj7
  have C8 := Lib.hid (cj7)
  go_wp2_with fail
  with_reducible refine (C8.out).mono ?_
  rintro e8 w8 ⟨u8, rfl, ho8, hb8⟩
  have HB8 := Lib.hid (HB7.out.trans (hb8.mono HB7.out.size))
  have Hj8 := Lib.hid ho8.bs
  obtain ⟨A8, c8, rfl⟩ := ho8.shape
  clear ho8
  clear hb8 C8
  clear HB7
  clear cj7
  have ct8 := refTag_any Hj8.out (Nat.le_refl _) (HK.out.below HB8.out (Nat.le_refl _)) HB8.out.size (by omega) (by omega)
  rw [HCE.out] at ct8
  have C9 := Lib.hid (ct8)
  go_wp2_with fail
  with_reducible refine (C9.out).mono ?_
  rintro e9 w9 ⟨rfl, hb9⟩
  have HB9 := Lib.hid (HB8.out.trans (hb9.mono HB8.out.size))
  have Hj9 := Lib.hid ((Hj8.out.below hb9 (Nat.le_refl _)).more hb9.size)
  clear hb9 C9
  clear Hj8
  clear HB8
  clear ct8
  clear Hj9
  go_wp2
  go_ret
  exact ⟨rfl, HB9.out⟩
set_option maxRecDepth 100000 in
set_option maxHeartbeats 4000000 in
theorem expands_yes {key : List UInt8} {ls : List (List UInt8)} {v u : Value} {n : Nat} {w : World} (hk : Bs w w.heap.size v key) (hr : Rs w w.heap.size u ls) (hkl : key.length ≤ 1048576) (hln : ls.length ≤ 1048576) (hf : ls.flatten.length ≤ 1048576) (hl : ∀ l ∈ ls, l.length ≤ 1048576) (hn8 : n ≤ 8160) :
    Calls Try.prog 3 #[v, .int .i64 (n : Int), u] w fun e w' => e = .returned (.bool true) ∧ Below w.heap.size w w' := by
  have CA := Lib.hid (awake3_any w)
  obtain ⟨F, hF⟩ : ∃ F, F = ls.flatten := ⟨_, rfl⟩
  rw [← hF] at hf
  obtain ⟨cells, hcells⟩ : ∃ cells, arr32 (tagL F key) = .agg cells := ⟨_, rfl⟩
  have EQ : ∀ W, (Op.equalIn 10000 34 (.agg cells) (.agg cells)).run Try.prog W = .ok true W := fun W => by rw [← hcells]; exact eq_arr32 _ (tagL_len _ _) W
  have HCE := Lib.hid hcells
  obtain ⟨AK, ck, rfl⟩ := hk.shape
  have HF := Lib.hid hF; have HK := Lib.hid hk; have HR := Lib.hid hr; have HL := Lib.hid hl
  clear hF hk hr hl hcells
  go_enter Try.func3, Try.ntmps3
  go_wp2_with fail
  refine (CA.out).mono ?_
  rintro e0 w0 ⟨rfl, hb0⟩
  have HB0 := Lib.hid hb0
  clear hb0 CA
  have C1 := Lib.hid (copy_any (HK.out.below HB0.out (Nat.le_refl _)) HB0.out.size (by omega))
  go_wp2_with fail
  with_reducible refine (C1.out).mono ?_
  rintro e1 w1 ⟨u1, rfl, ho1, hb1⟩
  have HB1 := Lib.hid (HB0.out.trans (hb1.mono HB0.out.size))
  have Hk1 := Lib.hid ho1.bs
  obtain ⟨A1, c1, rfl⟩ := ho1.shape
  clear ho1
  clear hb1 C1
  have C2 := Lib.hid (copies_any (HR.out.below HB1.out (Nat.le_refl _)) HB1.out.size (by omega) (fun l hl => by have := HL.out l hl; omega))
  go_wp2_with fail
  with_reducible refine (C2.out).mono ?_
  rintro e2 w2 ⟨u2, rfl, ho2, hb2⟩
  have HB2 := Lib.hid (HB1.out.trans (hb2.mono HB1.out.size))
  have Hk2 := Lib.hid ((Hk1.out.below hb2 (Nat.le_refl _)).more hb2.size)
  have Hr2 := Lib.hid ho2.rs
  obtain ⟨A2, c2, rfl⟩ := ho2.shape
  clear ho2
  clear hb2 C2
  clear Hk1
  clear HB1
  have ce2 := expand_ok (n := n) Hk2.out Hr2.out (Nat.le_refl _) (by omega) (by rw [← HF.out]; omega) hn8
  rw [← HF.out] at ce2
  have C3 := Lib.hid (ce2)
  go_wp2_with fail
  with_reducible refine (C3.out).mono ?_
  rintro e3 w3 ⟨u3, rfl, ho3, hb3⟩
  have HB3 := Lib.hid (HB2.out.trans (hb3.mono HB2.out.size))
  have Hk3 := Lib.hid ((Hk2.out.below hb3 (Nat.le_refl _)).more hb3.size)
  have Hr3 := Lib.hid ((Hr2.out.below hb3 (Nat.le_refl _)).more hb3.size)
  have Hb3 := Lib.hid ho3.bs
  obtain ⟨A3, c3, rfl⟩ : ∃ A c, u3 = .slice A n c := by
    obtain ⟨A, c, h⟩ := ho3.shape
    rw [expL_len] at h
    exact ⟨A, c, h⟩
  clear ho3
  clear hb3 C3
  clear Hk2
  clear Hr2
  clear HB2
  clear ce2
  clear Hk3
  clear Hr3
  have cj3 := refjoin_any (HR.out.below HB3.out (Nat.le_refl _)) HB3.out.size (by rw [← HF.out]; omega)
  rw [← HF.out] at cj3
  have C4 := Lib.hid (cj3)
  go_wp2_with fail
  with_reducible refine (C4.out).mono ?_
  rintro e4 w4 ⟨u4, rfl, ho4, hb4⟩
  have HB4 := Lib.hid (HB3.out.trans (hb4.mono HB3.out.size))
  have Hb4 := Lib.hid ((Hb3.out.below hb4 (Nat.le_refl _)).more hb4.size)
  have Hj4 := Lib.hid ho4.bs
  obtain ⟨A4, c4, rfl⟩ := ho4.shape
  clear ho4
  clear hb4 C4
  clear Hb3
  clear HB3
  clear cj3
  have C5 := Lib.hid (refexpand_ok (n := n) (HK.out.below HB4.out (Nat.le_refl _)) HB4.out.size Hj4.out (Nat.le_refl _) (by omega) (by omega) hn8)
  go_wp2_with fail
  with_reducible refine (C5.out).mono ?_
  rintro e5 w5 ⟨u5, rfl, ho5, hb5⟩
  have HB5 := Lib.hid (HB4.out.trans (hb5.mono HB4.out.size))
  have Hb5 := Lib.hid ((Hb4.out.below hb5 (Nat.le_refl _)).more hb5.size)
  have Hj5 := Lib.hid ((Hj4.out.below hb5 (Nat.le_refl _)).more hb5.size)
  have Hq5 := Lib.hid ho5.bs
  obtain ⟨A5, c5, rfl⟩ : ∃ A c, u5 = .slice A n c := by
    obtain ⟨A, c, h⟩ := ho5.shape
    rw [expL_len] at h
    exact ⟨A, c, h⟩
  clear ho5
  clear hb5 C5
  clear Hb4
  clear Hj4
  clear HB4
  clear Hj5
  have C6 := Lib.hid (equal_same Hb5.out Hq5.out)
  go_wp2_with fail
  with_reducible refine (C6.out).mono ?_
  rintro e6 w6 ⟨rfl, hd6⟩
  have hb6 := hd6.below w5.heap.size
  have HB6 := Lib.hid (HB5.out.trans (hb6.mono HB5.out.size))
  have Hb6 := Lib.hid ((Hb5.out.below hb6 (Nat.le_refl _)).more hb6.size)
  have Hq6 := Lib.hid ((Hq5.out.below hb6 (Nat.le_refl _)).more hb6.size)
  clear hb6 C6 hd6
  clear Hb5
  clear Hq5
  clear HB5
  clear Hq6
  have cj6 := refjoin_any (HR.out.below HB6.out (Nat.le_refl _)) HB6.out.size (by rw [← HF.out]; omega)
  rw [← HF.out] at cj6
  have C7 := Lib.hid (cj6)
  go_wp2_with fail
  with_reducible refine (C7.out).mono ?_
  rintro e7 w7 ⟨u7, rfl, ho7, hb7⟩
  have HB7 := Lib.hid (HB6.out.trans (hb7.mono HB6.out.size))
  have Hb7 := Lib.hid ((Hb6.out.below hb7 (Nat.le_refl _)).more hb7.size)
  have Hj7 := Lib.hid ho7.bs
  obtain ⟨A7, c7, rfl⟩ := ho7.shape
  clear ho7
  clear hb7 C7
  clear Hb6
  clear HB6
  clear cj6
  have C8 := Lib.hid (copy_any (HK.out.below HB7.out (Nat.le_refl _)) HB7.out.size (by omega))
  go_wp2_with fail
  with_reducible refine (C8.out).mono ?_
  rintro e8 w8 ⟨u8, rfl, ho8, hb8⟩
  have HB8 := Lib.hid (HB7.out.trans (hb8.mono HB7.out.size))
  have Hb8 := Lib.hid ((Hb7.out.below hb8 (Nat.le_refl _)).more hb8.size)
  have Hj8 := Lib.hid ((Hj7.out.below hb8 (Nat.le_refl _)).more hb8.size)
  have Hk8 := Lib.hid ho8.bs
  obtain ⟨A8, c8, rfl⟩ := ho8.shape
  clear ho8
  clear hb8 C8
  clear Hb7
  clear Hj7
  clear HB7
  have ct8 := extract_any Hj8.out Hk8.out (Nat.le_refl _) (by omega) (by omega)
  rw [HCE.out] at ct8
  have C9 := Lib.hid (ct8)
  go_wp2_with fail
  with_reducible refine (C9.out).mono ?_
  rintro e9 w9 ⟨rfl, hb9⟩
  have HB9 := Lib.hid (HB8.out.trans (hb9.mono HB8.out.size))
  have Hb9 := Lib.hid ((Hb8.out.below hb9 (Nat.le_refl _)).more hb9.size)
  have Hj9 := Lib.hid ((Hj8.out.below hb9 (Nat.le_refl _)).more hb9.size)
  have Hk9 := Lib.hid ((Hk8.out.below hb9 (Nat.le_refl _)).more hb9.size)
  clear hb9 C9
  clear Hb8
  clear Hj8
  clear Hk8
  clear HB8
  clear ct8
  clear Hj9
  clear Hk9
  have cj9 := refjoin_any (HR.out.below HB9.out (Nat.le_refl _)) HB9.out.size (by rw [← HF.out]; omega)
  rw [← HF.out] at cj9
  have C10 := Lib.hid (cj9)
  go_wp2_with fail
  with_reducible refine (C10.out).mono ?_
  rintro e10 w10 ⟨u10, rfl, ho10, hb10⟩
  have HB10 := Lib.hid (HB9.out.trans (hb10.mono HB9.out.size))
  have Hb10 := Lib.hid ((Hb9.out.below hb10 (Nat.le_refl _)).more hb10.size)
  have Hj10 := Lib.hid ho10.bs
  obtain ⟨A10, c10, rfl⟩ := ho10.shape
  clear ho10
  clear hb10 C10
  clear Hb9
  clear HB9
  clear cj9
  have ct10 := refTag_any Hj10.out (Nat.le_refl _) (HK.out.below HB10.out (Nat.le_refl _)) HB10.out.size (by omega) (by omega)
  rw [HCE.out] at ct10
  have C11 := Lib.hid (ct10)
  go_wp2_with fail
  with_reducible refine (C11.out).mono ?_
  rintro e11 w11 ⟨rfl, hb11⟩
  have HB11 := Lib.hid (HB10.out.trans (hb11.mono HB10.out.size))
  have Hb11 := Lib.hid ((Hb10.out.below hb11 (Nat.le_refl _)).more hb11.size)
  have Hj11 := Lib.hid ((Hj10.out.below hb11 (Nat.le_refl _)).more hb11.size)
  clear hb11 C11
  clear Hb10
  clear Hj10
  clear HB10
  clear ct10
  clear Hj11
  by_cases hn80 : n ≤ 8000
  · have hd80 : decide ((8000 : Int) < (n : Int)) = false := by simp; omega
    have C12 := Lib.hid (copy_any (HK.out.below HB11.out (Nat.le_refl _)) HB11.out.size (by omega))
    go_wp2_with fail
    with_reducible refine (C12.out).mono ?_
    rintro e12 w12 ⟨u12, rfl, ho12, hb12⟩
    have HB12 := Lib.hid (HB11.out.trans (hb12.mono HB11.out.size))
    have Hb12 := Lib.hid ((Hb11.out.below hb12 (Nat.le_refl _)).more hb12.size)
    have Hk12 := Lib.hid ho12.bs
    obtain ⟨A12, c12, rfl⟩ := ho12.shape
    clear ho12
    clear hb12 C12
    clear Hb11
    clear HB11
    have C13 := Lib.hid (copies_any (HR.out.below HB12.out (Nat.le_refl _)) HB12.out.size (by omega) (fun l hl => by have := HL.out l hl; omega))
    go_wp2_with fail
    with_reducible refine (C13.out).mono ?_
    rintro e13 w13 ⟨u13, rfl, ho13, hb13⟩
    have HB13 := Lib.hid (HB12.out.trans (hb13.mono HB12.out.size))
    have Hb13 := Lib.hid ((Hb12.out.below hb13 (Nat.le_refl _)).more hb13.size)
    have Hk13 := Lib.hid ((Hk12.out.below hb13 (Nat.le_refl _)).more hb13.size)
    have Hr13 := Lib.hid ho13.rs
    obtain ⟨A13, c13, rfl⟩ := ho13.shape
    clear ho13
    clear hb13 C13
    clear Hb12
    clear Hk12
    clear HB12
    have ce13 := expand_ok (n := n + 33) Hk13.out Hr13.out (Nat.le_refl _) (by omega) (by rw [← HF.out]; omega) (by omega)
    rw [← HF.out] at ce13
    rw [show ((n + 33 : Nat) : Int) = (n : Int) + 33 by omega] at ce13
    have C14 := Lib.hid (ce13)
    go_wp2_with fail
    with_reducible refine (C14.out).mono ?_
    rintro e14 w14 ⟨u14, rfl, ho14, hb14⟩
    have HB14 := Lib.hid (HB13.out.trans (hb14.mono HB13.out.size))
    have Hb14 := Lib.hid ((Hb13.out.below hb14 (Nat.le_refl _)).more hb14.size)
    have Hk14 := Lib.hid ((Hk13.out.below hb14 (Nat.le_refl _)).more hb14.size)
    have Hr14 := Lib.hid ((Hr13.out.below hb14 (Nat.le_refl _)).more hb14.size)
    have Hm14 := Lib.hid ho14.bs
    obtain ⟨A14, c14, rfl⟩ : ∃ A c, u14 = .slice A (n + 33) c := by
      obtain ⟨A, c, h⟩ := ho14.shape
      rw [expL_len] at h
      exact ⟨A, c, h⟩
    clear ho14
    clear hb14 C14
    clear Hb13
    clear Hk13
    clear Hr13
    clear HB13
    clear ce13
    clear Hk14
    clear Hr14
    obtain ⟨D, hD, hcut⟩ := cut_h (A := A14) (n := n + 33) (c := c14) (h := n) (by
      obtain ⟨A', c', hv, h1, _⟩ := Hm14.out
      simp only [Value.slice.injEq] at hv
      obtain ⟨_, _, rfl⟩ := hv
      rw [expL_len] at h1
      omega)
    have hbp : Bs w14 w14.heap.size (.slice D n c14) ((expL key F (n + 33)).take n) := by
      obtain ⟨A', c', hv, h1, h2, h3⟩ := Hm14.out
      simp only [Value.slice.injEq] at hv
      obtain ⟨rfl, _, rfl⟩ := hv
      have hl : ((expL key F (n + 33)).take n).length = n := by rw [List.length_take, expL_len]; omega
      rw [expL_len] at h1
      refine ⟨D, c14, by rw [hl], by rw [hl]; omega, h2, fun hp => ?_⟩
      rw [hl] at hp
      obtain ⟨b, off, rfl, hlt2, hc⟩ := h3 (by rw [expL_len]; omega)
      refine ⟨b, off, hD hp, hlt2, fun j hj => ?_⟩
      rw [hl] at hj
      rw [hc j (by rw [expL_len]; omega)]
      simp
    rw [expL_take key F (by omega)] at hbp
    have HBP := Lib.hid hbp
    have hlen33 : (((n + 33 : Nat) : Int) == (n : Int) + 33) = true := by rw [beq_iff_eq]; omega
    clear hbp hD
    have C15 := Lib.hid (equal_same HBP.out Hb14.out)
    go_wp2_with fail
    with_reducible refine (C15.out).mono ?_
    rintro e15 w15 ⟨rfl, hd15⟩
    have hb15 := hd15.below w14.heap.size
    have HB15 := Lib.hid (HB14.out.trans (hb15.mono HB14.out.size))
    have Hb15 := Lib.hid ((Hb14.out.below hb15 (Nat.le_refl _)).more hb15.size)
    have Hm15 := Lib.hid ((Hm14.out.below hb15 (Nat.le_refl _)).more hb15.size)
    clear hb15 C15 hd15
    clear Hb14
    clear Hm14
    clear HB14
    go_wp2
    go_ret
    exact ⟨rfl, HB15.out⟩
  · have hd80 : decide ((8000 : Int) < (n : Int)) = true := by simp; omega
    go_wp2
    go_ret
    exact ⟨rfl, HB11.out⟩
theorem expands_walk {key : List UInt8} {ls : List (List UInt8)} {v u : Value} {n : Int} {w : World} (hk : Bs w w.heap.size v key) (hr : Rs w w.heap.size u ls) (hkl : key.length ≤ 1048576) (hln : ls.length ≤ 1048576) (hf : ls.flatten.length ≤ 1048576) (hl : ∀ l ∈ ls, l.length ≤ 1048576) :
    Calls Try.prog 3 #[v, .int .i64 n, u] w fun e w' => e = .returned (.bool true) ∧ Below w.heap.size w w' := by
  by_cases h : n < 0 ∨ 8160 < n
  · exact expands_no hk hr hkl hln hf hl h
  · obtain ⟨m, rfl⟩ := Int.eq_ofNat_of_zero_le (show 0 ≤ n by omega)
    exact expands_yes hk hr hkl hln hf hl (by omega)
end Go.Proofs.Ytlheekbbioajpaa
