/- FieldReads, walked. -/
import Derived.Test.YtkgghakdccbfpaaL3
import Derived.Test.YtkgghakdccbfpaaF16
import Derived.Test.YtkgghakdccbfpaaRefCopyB
import Derived.Deep.MidRow
import Derived.Deep.WholeRow
namespace Go.Proofs.Ytkgghakdccbfpaa
open Go.RowKit

/-- what both Reads answer -/
structure Answers (l : List UInt8) (N : Nat) (r : Int) : Prop where
  lt : N < PP
  prog : ∀ (w : World) (v : Value), Bs w w.heap.size v l → Calls Try.prog 28 #[v] w fun e w' => e = .returned (.tuple #[.agg #[.int .u64 (l0 (N) : Int), .int .u64 (l1 (N) : Int), .int .u64 (l2 (N) : Int), .int .u64 (l3 (N) : Int)], .int .i64 r]) ∧ Below w.heap.size w w'
  ref : ∀ (w : World) (v : Value), Bs w w.heap.size v l → Calls Try.prog 30 #[v] w fun e w' => e = .returned (.tuple #[.agg #[.int .u32 (dig (N) 0 : Int), .int .u32 (dig (N) 1 : Int), .int .u32 (dig (N) 2 : Int), .int .u32 (dig (N) 3 : Int), .int .u32 (dig (N) 4 : Int), .int .u32 (dig (N) 5 : Int), .int .u32 (dig (N) 6 : Int), .int .u32 (dig (N) 7 : Int)], .int .i64 r]) ∧ Below w.heap.size w w'
  code : r = 0 ∨ r = 2
theorem answers (l : List UInt8) : ∃ N r, Answers l N r := by
  by_cases h : l.length = 32
  · exact ⟨cutN (numL l) % PP, 0, Nat.mod_lt _ (by decide), fun w v hb => fread_ok hb h, fun w v hb => rread_ok hb h, .inl rfl⟩
  · exact ⟨0, 2, by decide, fun w v hb => fread_no hb h, fun w v hb => rread_no hb h, .inr rfl⟩

theorem numL_le (N : Nat) : ∀ k, numL (leBytes N k) = N % 256 ^ k
  | 0 => by rw [Nat.pow_zero, Nat.mod_one]; rfl
  | k + 1 => by
    have e : N % (256 ^ k * 256) = N % 256 ^ k + 256 ^ k * (N / 256 ^ k % 256) := Nat.mod_mul
    rw [leBytes_succ, numL_snoc, numL_le N k, leBytes_len, leB, UInt8.toNat_ofNat']
    show N % 256 ^ k + (N / 256 ^ k % 256) * 256 ^ k = N % (256 ^ k * 256)
    rw [e, Nat.mul_comm (256 ^ k)]
theorem back_num {N : Nat} (hN : N < PP) : cutN (numL (leBytes N 32)) % PP = N := by
  have h1 : N < 256 ^ 32 := Nat.lt_trans hN (by decide)
  have h2 : N < 57896044618658097711785492504343953926634992332820282019728792003956564819968 := Nat.lt_trans hN (by decide)
  rw [numL_le, Nat.mod_eq_of_lt h1, cutN, Nat.mod_eq_of_lt h2, Nat.mod_eq_of_lt hN]
theorem Bw.toBs {w : World} {g : Nat} {t : TypeId} {l : List UInt8} (h : Bw w g t l) (hl : l.length ≤ maxLen) : Bs w w.heap.size (.slice (some ⟨g, 0, none⟩) l.length l.length) l :=
  ⟨_, _, rfl, Nat.le_refl _, hl, fun _ => ⟨g, 0, rfl, h.lt, fun j hj => by rw [Nat.zero_add]; exact (h.at_ hj).1⟩⟩
theorem Bw.range {w : World} {g : Nat} {t : TypeId} {l : List UInt8} (h : Bw w g t l) : w.rangeAt g 0 (l.map vb) := fun j v hv => by
  have hj : j < l.length := by simpa using (List.getElem?_eq_some_iff.1 hv).1
  rw [Nat.zero_add, (h.at_ hj).1, ← hv, List.getElem?_map, List.getElem?_eq_getElem hj]
  rfl
theorem range_below {w w' : World} {B g : Nat} {cs : List Value} (h : w.rangeAt g 0 cs) (hb : Below B w w') (hg : g < B) : w'.rangeAt g 0 cs := fun j v hv => (hb.cell (p := ⟨g, 0 + j, none⟩) hg).trans (h j v hv)
set_option maxRecDepth 100000 in
set_option maxHeartbeats 4000000 in
/-- == of arrays of 32 bytes -/
theorem run_eql32 {l m : List UInt8} (hl : l.length = 32) (hm : m.length = 32) (w : World) : (binOp .eql 35 (.agg (l.map vb).toArray) (.agg (m.map vb).toArray)).run Try.prog w = .ok (.bool (decide (l.map (fun x => (x.toNat : Int)) = m.map (fun x => (x.toNat : Int))))) w := by
  obtain ⟨info, hi⟩ := u8Info1
  rw [vb_ints, vb_ints]
  exact run_eql_arr (P := Try.prog) (t := 35) (e := 5) (n := 32) (k := .u8) (k' := .u8) Try.underlying35 hi (by kernel_rfl) (by kernel_rfl) Try.underlying5 _ _ (by simpa using hl) (by simpa using hm) w

set_option maxRecDepth 100000 in
set_option maxHeartbeats 4000000 in
theorem reads_walk {l : List UInt8} {v : Value} {w : World} (hb : Bs w w.heap.size v l) (hl : l.length ≤ 140737488355328) : Calls Try.prog 4 #[v] w fun e w' => e = .returned (.bool true) ∧ Below w.heap.size w w' := by
  have CA := Lib.hid (fun W => awakeE W)
  have HB := Lib.hid hb
  obtain ⟨N, r, HA0⟩ := answers l
  have HA := Lib.hid HA0
  have hN := HA0.lt
  have hN4 : N < W4 := Nat.lt_trans hN (by decide)
  have CI := Lib.hid (fun W => isSame hN4 W)
  have he := HA0.code
  clear hb HA0
  go_enter Try.func4, Try.ntmps4
  go_wp2_with fail
  with_reducible refine (CA.out _).mono ?_
  rintro e1 w1 ⟨rfl, hb1⟩
  have zz := hb1.size
  have CC := Lib.hid (copy_any (HB.out.below hb1 (Nat.le_refl _)) zz hl)
  have B1 := Lib.hid hb1
  clear hb1
  go_wp2_with fail
  with_reducible refine (CC.out).mono ?_
  rintro e2 w2 ⟨u, rfl, ho, hb2⟩
  have CR := Lib.hid (HA.out.prog w2 u ho.bs)
  have hbe := B1.out.trans (hb2.mono zz)
  have z2 := hb2.size
  have HBE := Lib.hid hbe
  clear hb2 CC ho B1 hbe
  go_wp2_with fail
  with_reducible refine (CR.out).mono ?_
  rintro e3 w3 ⟨rfl, hb3⟩
  have hbe := HBE.out.trans (hb3.mono (by omega))
  have z3 := hb3.size
  have HBE := Lib.hid hbe
  have y0 : w.heap.size ≤ w3.heap.size := by omega
  clear hb3 hbe CR z2 z3 zz
  go_wp2_with fail
  have hA3 : Ec (w3.alloc (.cells #[.int .u64 (l0 (N) : Int), .int .u64 (l1 (N) : Int), .int .u64 (l2 (N) : Int), .int .u64 (l3 (N) : Int)] 32)) w3.heap.size N := Ec.new _ _
  have hbe := HBE.out.alloc y0 (.cells #[.int .u64 (l0 (N) : Int), .int .u64 (l1 (N) : Int), .int .u64 (l2 (N) : Int), .int .u64 (l3 (N) : Int)] 32)
  have CS := Lib.hid (HA.out.ref (w3.alloc (.cells #[.int .u64 (l0 (N) : Int), .int .u64 (l1 (N) : Int), .int .u64 (l2 (N) : Int), .int .u64 (l3 (N) : Int)] 32)) v ((HB.out.below hbe (Nat.le_refl _)).more (by simp only [World.size_alloc]; omega)))
  have HBE := Lib.hid hbe
  obtain ⟨W3, hW3⟩ : ∃ W3, W3 = w3.alloc (.cells #[.int .u64 (l0 (N) : Int), .int .u64 (l1 (N) : Int), .int .u64 (l2 (N) : Int), .int .u64 (l3 (N) : Int)] 32) := ⟨_, rfl⟩
  have hg3 : w3.heap.size < W3.heap.size := by rw [hW3]; simp
  obtain ⟨g3, hg⟩ : ∃ g3, g3 = w3.heap.size := ⟨_, rfl⟩
  rw [← hW3] at CS HBE hA3 ⊢
  rw [← hg] at hA3 hg3 y0 ⊢
  have HA3 := Lib.hid hA3
  clear hW3 hg hA3 hbe
  with_reducible refine (CS.out).mono ?_
  rintro e4 w4 ⟨rfl, hb4⟩
  have HA4 := Lib.hid (HA3.out.below hb4 hg3)
  have hbe := HBE.out.trans (hb4.mono (by omega))
  have z4 := hb4.size
  have HBE := Lib.hid hbe
  have y4 : g3 < w4.heap.size := by omega
  clear hb4 hbe CS z4 HA3 hg3
  obtain ⟨c0, c1, c2, c3, _, _, _, _⟩ := HA4.out
  have y3 : g3 < w4.heap.size + 1 := by omega
  go_wp2_with fail
  with_reducible refine (CI.out _).mono ?_
  rintro e w5 ⟨rfl, hb5⟩
  have B5 := Lib.hid hb5
  obtain ⟨hc5, hf5⟩ := bcell hb5
  have zz5 := hb5.size
  try simp only [World.size_alloc] at zz5
  have z5_0 : w4.heap.size < w5.heap.size := by omega
  have z5_1 : g3 < w5.heap.size := by omega
  clear hb5 zz5
  have b5 := B5.out
  simp only [World.size_alloc] at b5
  have HE5 := Lib.hid ((E8.new w4 N).below B5.out (by simp))
  have HA5 := Lib.hid ((HA4.out.below ((Below.refl w4.heap.size w4).alloc (Nat.le_refl _) (.cells #[.int .u32 (dig (N) 0 : Int), .int .u32 (dig (N) 1 : Int), .int .u32 (dig (N) 2 : Int), .int .u32 (dig (N) 3 : Int), .int .u32 (dig (N) 4 : Int), .int .u32 (dig (N) 5 : Int), .int .u32 (dig (N) 6 : Int), .int .u32 (dig (N) 7 : Int)] 28)) y4).below B5.out (by simp; omega))
  have hbe := HBE.out.trans ((((Below.refl w4.heap.size w4).alloc (Nat.le_refl _) (.cells #[.int .u32 (dig (N) 0 : Int), .int .u32 (dig (N) 1 : Int), .int .u32 (dig (N) 2 : Int), .int .u32 (dig (N) 3 : Int), .int .u32 (dig (N) 4 : Int), .int .u32 (dig (N) 5 : Int), .int .u32 (dig (N) 6 : Int), .int .u32 (dig (N) 7 : Int)] 28)).trans (b5.mono (by omega))).mono (by omega))
  have HBE := Lib.hid hbe
  obtain ⟨g5, hg5⟩ : ∃ g5, g5 = w4.heap.size := ⟨_, rfl⟩
  rw [← hg5] at HE5 z5_0 y4 ⊢
  clear hbe b5 B5 hg5 c0 c1 c2 c3 y3 hc5 hf5 HA4 CI
  rcases he with rfl | rfl
  · obtain ⟨c0, c1, c2, c3, _, _, _, _⟩ := HA5.out
    have DB := Lib.hid (fun W => bytesE hN4 W)
    rw [Nat.mod_eq_of_lt hN] at DB
    obtain ⟨us, hus⟩ : ∃ us, us = ((leBytes N 32).map vb).toArray := ⟨_, rfl⟩
    rw [← hus] at DB
    have HUS := Lib.hid hus
    clear hus
    go_wp2_with fail
    with_reducible refine (DB.out _).mono ?_
    rintro e w6 ⟨rfl, hb6⟩
    have B6 := Lib.hid hb6
    obtain ⟨hc6, hf6⟩ := bcell hb6
    have zz6 := hb6.size
    try simp only [World.size_alloc] at zz6
    have z6_0 : g5 < w6.heap.size := by omega
    have z6_1 : g3 < w6.heap.size := by omega
    clear hb6 zz6
    have HE6 := Lib.hid (HE5.out.below B6.out z5_0)
    have HA6 := Lib.hid (HA5.out.below B6.out z5_1)
    have hbe := HBE.out.trans (B6.out.mono (by omega))
    have HBE := Lib.hid hbe
    clear hbe B6 hc6 hf6 c0 c1 c2 c3 DB HE5 HA5 z5_0 z5_1
    have husz : us.size = 32 := by rw [HUS.out]; simp [leBytes_len]
    have hone : Hid (us.all (·.oneCell') = true) := by rw [HUS.out]; exact Lib.hid (one_bytes _)
    have hi : Hid ((Try.prog.info? 35).map (·.size) = some us.size) := by rw [husz]; exact Lib.hid (by show _ = _; kernel_rfl)
    have ho : Hid ((#[.int .u8 0, .int .u8 0, .int .u8 0, .int .u8 0, .int .u8 0, .int .u8 0, .int .u8 0, .int .u8 0, .int .u8 0, .int .u8 0, .int .u8 0, .int .u8 0, .int .u8 0, .int .u8 0, .int .u8 0, .int .u8 0, .int .u8 0, .int .u8 0, .int .u8 0, .int .u8 0, .int .u8 0, .int .u8 0, .int .u8 0, .int .u8 0, .int .u8 0, .int .u8 0, .int .u8 0, .int .u8 0, .int .u8 0, .int .u8 0, .int .u8 0, .int .u8 0] : Array Value).size = us.size) := by rw [husz]; exact Lib.hid (by show _ = _; rfl)
    have hz : Hid ((w6.alloc (.cells #[.int .u8 0, .int .u8 0, .int .u8 0, .int .u8 0, .int .u8 0, .int .u8 0, .int .u8 0, .int .u8 0, .int .u8 0, .int .u8 0, .int .u8 0, .int .u8 0, .int .u8 0, .int .u8 0, .int .u8 0, .int .u8 0, .int .u8 0, .int .u8 0, .int .u8 0, .int .u8 0, .int .u8 0, .int .u8 0, .int .u8 0, .int .u8 0, .int .u8 0, .int .u8 0, .int .u8 0, .int .u8 0, .int .u8 0, .int .u8 0, .int .u8 0, .int .u8 0] 35)).heap[w6.heap.size]? = some (.cells #[.int .u8 0, .int .u8 0, .int .u8 0, .int .u8 0, .int .u8 0, .int .u8 0, .int .u8 0, .int .u8 0, .int .u8 0, .int .u8 0, .int .u8 0, .int .u8 0, .int .u8 0, .int .u8 0, .int .u8 0, .int .u8 0, .int .u8 0, .int .u8 0, .int .u8 0, .int .u8 0, .int .u8 0, .int .u8 0, .int .u8 0, .int .u8 0, .int .u8 0, .int .u8 0, .int .u8 0, .int .u8 0, .int .u8 0, .int .u8 0, .int .u8 0, .int .u8 0] 35 (0, 0))) := Lib.hid (heap_alloc_last w6 _)
    clear husz
    go_wp2_with (first
      | (with_reducible refine wpList_store_row rfl 35 (.tmp 7) (.tmp 34) rfl (w6.heap.size) us rfl rfl 35 _ hz.out hi.out ho.out hone.out ?_))
    rw [World.setRow_alloc_new]
    obtain ⟨W6, hW6⟩ : ∃ W6, W6 = w6.alloc (.cells us 35) := ⟨_, rfl⟩
    obtain ⟨g7, hg7⟩ : ∃ g7, g7 = w6.heap.size := ⟨_, rfl⟩
    have zW : w6.heap.size + 1 = W6.heap.size := by rw [hW6]; simp
    have hB7 : Bw W6 g7 35 (leBytes N 32) := by
      have h := heap_alloc_last w6 (.cells us 35)
      rw [HUS.out, ← HUS.out, ← hW6, ← hg7, HUS.out] at h
      exact h
    have hal : Below w6.heap.size w6 (w6.alloc (.cells us 35)) := (Below.refl _ _).alloc (Nat.le_refl _) _
    rw [← hW6] at hal
    have HE7 := Lib.hid (HE6.out.below hal z6_0)
    have HA7 := Lib.hid (HA6.out.below hal z6_1)
    have hbe := HBE.out.trans (hal.mono (by omega))
    have HBE := Lib.hid hbe
    rw [← hW6, ← hg7]
    rw [← hg7] at zW
    have hbs := hB7.toBs (by rw [leBytes_len]; unfold maxLen; omega)
    rw [leBytes_len] at hbs
    have CR := Lib.hid (fread_ok hbs (leBytes_len _ _))
    rw [back_num hN] at CR
    have HB7 := Lib.hid hB7
    have y7 : g7 < W6.heap.size := by omega
    have x5 : g5 < W6.heap.size := by omega
    have x3 : g3 < W6.heap.size := by omega
    clear hbs hB7 hal hbe hW6 HE6 HA6 hz zW z6_0 z6_1 hg7 HUS ho hi hone HA
    with_reducible refine (CR.out).mono ?_
    rintro e w8 ⟨rfl, hb8⟩
    have B8 := Lib.hid hb8
    obtain ⟨hc8, hf8⟩ := bcell hb8
    have zz8 := hb8.size
    try simp only [World.size_alloc] at zz8
    have z8_0 : g7 < w8.heap.size := by omega
    have z8_1 : g5 < w8.heap.size := by omega
    have z8_2 : g3 < w8.heap.size := by omega
    clear hb8 zz8
    have HE8 := Lib.hid (HE7.out.below B8.out x5)
    have HA8 := Lib.hid (HA7.out.below B8.out x3)
    have HB8 := Lib.hid (HB7.out.below B8.out y7)
    have hbe := HBE.out.trans (B8.out.mono (by omega))
    have HBE := Lib.hid hbe
    clear hbe B8 hc8 hf8 CR HE7 HA7 HB7 x3 x5 y7 y4
    go_wp2_with fail
    obtain ⟨cs, hcs⟩ : ∃ cs, cs = (leBytes N 32).map vb := ⟨_, rfl⟩
    have hcl : cs.length = 32 := by rw [hcs]; simp [leBytes_len]
    have hrg : w8.rangeAt g7 0 cs := by rw [hcs]; exact HB8.out.range
    have D5 := Lib.hid (fun W => rbytesE hN4 W)
    rw [Nat.mod_eq_of_lt hN, ← hcs] at D5
    have hu := Try.underlying35
    have hi : (Try.prog.info? 35).map (·.size) = some cs.length := by rw [hcl]; show _ = _; kernel_rfl
    have q1 : ∀ W, (binOp .eql 35 (.agg cs.toArray) (.agg cs.toArray)).run Try.prog W = .ok (.bool true) W := fun W => by
      rw [hcs, run_eql32 (leBytes_len _ _) (leBytes_len _ _), decide_eq_true rfl]
    have q2 : ∀ W, (binOp .eql 32 (.agg #[.int .u64 (l0 (N) : Int), .int .u64 (l1 (N) : Int), .int .u64 (l2 (N) : Int), .int .u64 (l3 (N) : Int)]) (.agg #[.int .u64 (l0 (N) : Int), .int .u64 (l1 (N) : Int), .int .u64 (l2 (N) : Int), .int .u64 (l3 (N) : Int)])).run Try.prog W = .ok (.bool true) W := fun W => by
      rw [run_eqlE hN4 hN4, decide_eq_true rfl]
    obtain ⟨X8, hX8⟩ : ∃ X8, X8 = w8.alloc (.cells #[.int .u64 (l0 (N) : Int), .int .u64 (l1 (N) : Int), .int .u64 (l2 (N) : Int), .int .u64 (l3 (N) : Int)] 32) := ⟨_, rfl⟩
    obtain ⟨g8, hg8⟩ : ∃ g8, g8 = w8.heap.size := ⟨_, rfl⟩
    have hal : Below w8.heap.size w8 (w8.alloc (.cells #[.int .u64 (l0 (N) : Int), .int .u64 (l1 (N) : Int), .int .u64 (l2 (N) : Int), .int .u64 (l3 (N) : Int)] 32)) := (Below.refl _ _).alloc (Nat.le_refl _) _
    have hG8 : Ec (w8.alloc (.cells #[.int .u64 (l0 (N) : Int), .int .u64 (l1 (N) : Int), .int .u64 (l2 (N) : Int), .int .u64 (l3 (N) : Int)] 32)) w8.heap.size N := Ec.new _ _
    have zX : w8.heap.size + 1 = X8.heap.size := by rw [hX8]; simp
    have hzw := HBE.out.size
    rw [← hX8] at hal hG8
    rw [← hg8] at hG8 zX
    have hr8 := range_below hrg hal z8_0
    have hbe := HBE.out.trans (hal.mono hzw)
    have HBE := Lib.hid hbe
    obtain ⟨c0, c1, c2, c3, _, _, _, _⟩ := HA8.out.below hal z8_2
    obtain ⟨m0, m1, m2, m3, m4, m5, m6, m7, _, _, _, _, _, _, _, _⟩ := HE8.out.below hal z8_1
    obtain ⟨d0, d1, d2, d3, _, _, _, _⟩ := hG8
    rw [← hX8, ← hg8]
    have y7 : g7 < X8.heap.size := by omega
    have y5 : g5 < X8.heap.size := by omega
    have y3 : g3 < X8.heap.size := by omega
    have y8 : g8 < X8.heap.size := by omega
    have hz8 : w.heap.size ≤ X8.heap.size := by omega
    clear hcs hrg hal hbe hX8 hg8 zX hzw HE8 HA8 HB8 z8_0 z8_1 z8_2 CA
    go_region_held3 (fun w' => w'.rangeAt g7 0 cs ∧ w'.cell? ⟨g3, 0, none⟩ = some (.int .u64 (l0 (N) : Int)) ∧ w'.cell? ⟨g3, 1, none⟩ = some (.int .u64 (l1 (N) : Int)) ∧ w'.cell? ⟨g3, 2, none⟩ = some (.int .u64 (l2 (N) : Int)) ∧ w'.cell? ⟨g3, 3, none⟩ = some (.int .u64 (l3 (N) : Int)) ∧ w'.cell? ⟨g8, 0, none⟩ = some (.int .u64 (l0 (N) : Int)) ∧ w'.cell? ⟨g8, 1, none⟩ = some (.int .u64 (l1 (N) : Int)) ∧ w'.cell? ⟨g8, 2, none⟩ = some (.int .u64 (l2 (N) : Int)) ∧ w'.cell? ⟨g8, 3, none⟩ = some (.int .u64 (l3 (N) : Int)) ∧ w'.cell? ⟨g5, 0, none⟩ = some (.int .u32 (dig (N) 0 : Int)) ∧ w'.cell? ⟨g5, 1, none⟩ = some (.int .u32 (dig (N) 1 : Int)) ∧ w'.cell? ⟨g5, 2, none⟩ = some (.int .u32 (dig (N) 2 : Int)) ∧ w'.cell? ⟨g5, 3, none⟩ = some (.int .u32 (dig (N) 3 : Int)) ∧ w'.cell? ⟨g5, 4, none⟩ = some (.int .u32 (dig (N) 4 : Int)) ∧ w'.cell? ⟨g5, 5, none⟩ = some (.int .u32 (dig (N) 5 : Int)) ∧ w'.cell? ⟨g5, 6, none⟩ = some (.int .u32 (dig (N) 6 : Int)) ∧ w'.cell? ⟨g5, 7, none⟩ = some (.int .u32 (dig (N) 7 : Int))) ((refine ⟨?_, ?_⟩) <;> (first | (go_split_ands; (try simp only [World.rangeAt_drew] at *); (first | assumption | (with_reducible exact range_below (by assumption) HLB.out (by omega))); done) | go_simp))
      (first
        | ((with_reducible refine (D5.out _).mono ?_); rintro e' w' ⟨rfl, hb⟩; (try replace hb := undrew hb); have HLB := LastB.mk hb; obtain ⟨hc, hf⟩ := bcell hb; (try simp only [World.size_drew] at hc hf); have zz := hb.size; (try simp only [World.size_drew] at zz); (try simp only [World.size_alloc] at zz); (try have ua := (Nat.lt_of_lt_of_le ua (by omega) : _ < w'.heap.size)); (try have ub := (Nat.lt_of_lt_of_le ub (by omega) : _ < w'.heap.size)); (try have uc := (Nat.lt_of_lt_of_le uc (by omega) : _ < w'.heap.size)); (try have ud := (Nat.lt_of_lt_of_le ud (by omega) : _ < w'.heap.size)); (first | (have ua := ltA zz; have ub := ltB zz) | (have hq := uc; have ud := ltC zz; clear hq) | (have hq := ub; have uc := ltC zz; clear hq) | (have hq := ua; have ub := ltC zz; clear hq) | (have ua := ltC zz) | skip); (try have ua1 := (Nat.lt_succ_of_lt ua : _ < w'.heap.size + 1)); (try have ua2 := (Nat.lt_succ_of_lt ua1 : _ < w'.heap.size + 1 + 1)); (try have ub1 := (Nat.lt_succ_of_lt ub : _ < w'.heap.size + 1)); (try have ub2 := (Nat.lt_succ_of_lt ub1 : _ < w'.heap.size + 1 + 1)); (try have uc1 := (Nat.lt_succ_of_lt uc : _ < w'.heap.size + 1)); (try have uc2 := (Nat.lt_succ_of_lt uc1 : _ < w'.heap.size + 1 + 1)); (try have ud1 := (Nat.lt_succ_of_lt ud : _ < w'.heap.size + 1)); (try have ud2 := (Nat.lt_succ_of_lt ud1 : _ < w'.heap.size + 1 + 1));  skip; have x0 : w.heap.size < w'.heap.size + 1 := (by omega); have x1 : w.heap.size < w'.heap.size + 1 + 1 := (by omega); have yg3 : g3 < w'.heap.size := (by omega); have yg5 : g5 < w'.heap.size := (by omega); have yg7 : g7 < w'.heap.size := (by omega); have yg8 : g8 < w'.heap.size := (by omega); have hB0 : Below w.heap.size w w' := (by refine Below.trans ?_ (hb.mono (by first | omega | (simp only [World.size_alloc]; omega) | (simp only [World.size_drew, World.size_alloc]; omega) | (simp only [World.size_drew]; omega))); (repeat (first | (with_reducible exact Below.refl _ _) | (with_reducible exact HBE.out) | (with_reducible refine Below.drew ?_) | ((with_reducible refine Below.alloc ?_ ?_ _); rotate_left; (first | omega | (simp only [World.size_setCell]; omega) | (simp only [World.size_alloc, World.size_setCell]; omega) | (simp only [World.size_alloc]; omega) | (simp only [World.size_drew, World.size_alloc]; omega) | (simp only [World.size_drew]; omega))) | ((with_reducible refine set4_below ?_ ?_ _ _ _ _); rotate_left; omega) | ((with_reducible refine Below.setCell ?_ ?_ _); rotate_left; (show _ ≤ _); (simp only); omega)))); have HBE := Lib.hid hB0; clear hB0 hb)
        | fail)
    all_goals
      go_wp2_with fail
      go_ret
      refine ⟨rfl, ?_⟩
      (repeat (first | (with_reducible exact Below.refl _ _) | (with_reducible exact HBE.out) | (with_reducible refine Below.drew ?_) | ((with_reducible refine Below.alloc ?_ ?_ _); rotate_left; (first | omega | (simp only [World.size_setCell]; omega) | (simp only [World.size_alloc, World.size_setCell]; omega) | (simp only [World.size_alloc]; omega) | (simp only [World.size_drew, World.size_alloc]; omega) | (simp only [World.size_drew]; omega))) | ((with_reducible refine set4_below ?_ ?_ _ _ _ _); rotate_left; omega) | ((with_reducible refine Below.setCell ?_ ?_ _); rotate_left; (show _ ≤ _); (simp only); omega)))
  · go_wp2_with fail
    go_ret
    exact ⟨rfl, HBE.out⟩
end Go.Proofs.Ytkgghakdccbfpaa
