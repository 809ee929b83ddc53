/- CurveBits, walked. -/
import Derived.Test.YtgkglielcbgpiaaVA
namespace Go.Proofs.Ytgkglielcbgpiaa
open Go.RowKit


theorem nat_hi (x t : Nat) : (x ^^^ (t &&& 7)) / 8 = x / 8 := by
  have h : (t &&& 7) / 8 = 0 := Nat.div_eq_of_lt (Nat.lt_of_le_of_lt Nat.and_le_right (by decide))
  have h2 := Nat.shiftRight_xor_distrib (a := x) (b := t &&& 7) (i := 3)
  rw [Nat.shiftRight_eq_div_pow, Nat.shiftRight_eq_div_pow, Nat.shiftRight_eq_div_pow] at h2
  rw [show (8 : Nat) = 2 ^ 3 from rfl, h2, show (2 : Nat) ^ 3 = 8 from rfl, h, Nat.xor_zero]
theorem nat_lo6 (x t : Nat) : (x ^^^ (t &&& 192)) % 64 = x % 64 := by
  rw [show (64 : Nat) = 2 ^ 6 from rfl, Nat.xor_mod_two_pow, Nat.and_mod_two_pow, show 192 % 2 ^ 6 = 0 from rfl, Nat.and_zero, Nat.xor_zero]
theorem nat_lo7 (x t : Nat) : (x ^^^ (128 * t)) % 128 = x % 128 := by
  rw [show (128 : Nat) = 2 ^ 7 from rfl, Nat.xor_mod_two_pow, Nat.mul_mod_right, Nat.xor_zero]
/-- a scalar with its fixed bits turned -/
def tkL (k : List UInt8) (t : UInt8) : List UInt8 := (k.set 0 (k.getD 0 0 ^^^ (t &&& 7))).set 31 (k.getD 31 0 ^^^ (t &&& 192))
/-- a point with its highest bit turned -/
def tuL (u : List UInt8) (b : UInt8) : List UInt8 := u.set 31 (u.getD 31 0 ^^^ b)
theorem tkL_len (k : List UInt8) (t : UInt8) : (tkL k t).length = k.length := by simp [tkL]
theorem tuL_len (k : List UInt8) (t : UInt8) : (tuL k t).length = k.length := by simp [tuL]
theorem getD_set_ne {l : List UInt8} {i j : Nat} {x : UInt8} (h : i ≠ j) : (l.set i x).getD j 0 = l.getD j 0 := by
  rw [List.getD_eq_getElem?_getD, List.getElem?_set_ne h, ← List.getD_eq_getElem?_getD]
theorem getD_set_eq {l : List UInt8} {i : Nat} {x : UInt8} (h : i < l.length) : (l.set i x).getD i 0 = x := by
  rw [List.getD_eq_getElem?_getD, List.getElem?_set_self h, Option.getD_some]
theorem clampL_tk {k : List UInt8} (t : UInt8) (hk : k.length = 32) : clampL (tkL k t) = clampL k := by
  have h0 : (tkL k t).getD 0 0 = k.getD 0 0 ^^^ (t &&& 7) := by
    unfold tkL; rw [getD_set_ne (by decide), getD_set_eq (by omega)]
  have h31 : (tkL k t).getD 31 0 = k.getD 31 0 ^^^ (t &&& 192) := by
    unfold tkL; rw [getD_set_eq (by rw [List.length_set]; omega)]
  unfold clampL
  rw [h0, h31, UInt8.toNat_xor, UInt8.toNat_xor, UInt8.toNat_and, UInt8.toNat_and, show (7 : UInt8).toNat = 7 from rfl, show (192 : UInt8).toNat = 192 from rfl, nat_hi, nat_lo6]
  unfold tkL
  rw [List.set_comm _ _ (by decide : (31 : Nat) ≠ 0), List.set_set, List.set_comm _ _ (by decide : (0 : Nat) ≠ 31), List.set_comm _ _ (by decide : (31 : Nat) ≠ 0), List.set_set]
theorem clampL_two {k : List UInt8} (hk : k.length = 32) : clampL (clampL k) = clampL k := by
  have h0 : (clampL k).getD 0 0 = UInt8.ofNat ((k.getD 0 0).toNat / 8 * 8) := by
    unfold clampL; rw [getD_set_ne (by decide), getD_set_eq (by omega)]
  have h31 : (clampL k).getD 31 0 = UInt8.ofNat ((k.getD 31 0).toNat % 64 + 64) := by
    unfold clampL; rw [getD_set_eq (by rw [List.length_set]; omega)]
  have b0 := (k.getD 0 0).toNat_lt
  have b1 := (k.getD 31 0).toNat_lt
  have e0 : (UInt8.ofNat ((k.getD 0 0).toNat / 8 * 8)).toNat / 8 * 8 = (k.getD 0 0).toNat / 8 * 8 := by
    rw [UInt8.toNat_ofNat']; omega
  have e1 : (UInt8.ofNat ((k.getD 31 0).toNat % 64 + 64)).toNat % 64 + 64 = (k.getD 31 0).toNat % 64 + 64 := by
    rw [UInt8.toNat_ofNat']; omega
  show ((clampL k).set 0 (UInt8.ofNat (((clampL k).getD 0 0).toNat / 8 * 8))).set 31 (UInt8.ofNat (((clampL k).getD 31 0).toNat % 64 + 64)) = clampL k
  rw [h0, h31, e0, e1]
  unfold clampL
  rw [List.set_comm _ _ (by decide : (31 : Nat) ≠ 0), List.set_set, List.set_set]
theorem numL_set : ∀ (l : List UInt8) (i : Nat) (x : UInt8), i < l.length → numL (l.set i x) + (l.getD i 0).toNat * 256 ^ i = numL l + x.toNat * 256 ^ i
  | [], i, _, h => by simp at h
  | y :: l, 0, x, _ => by simp [numL]; omega
  | y :: l, i + 1, x, h => by
    have ih := numL_set l i x (by simpa using h)
    rw [List.set_cons_succ, List.getD_cons_succ]
    simp only [numL]
    rw [Nat.pow_succ]
    have a1 : (l.getD i 0).toNat * (256 ^ i * 256) = 256 * ((l.getD i 0).toNat * 256 ^ i) := by rw [← Nat.mul_assoc, Nat.mul_comm]
    have a2 : x.toNat * (256 ^ i * 256) = 256 * (x.toNat * 256 ^ i) := by rw [← Nat.mul_assoc, Nat.mul_comm]
    rw [a1, a2]
    omega
theorem cutN_tu {u : List UInt8} {b : UInt8} {t : Nat} (hu : u.length = 32) (hb : b.toNat = 128 * t) : cutN (numL (tuL u b)) = cutN (numL u) := by
  have h := numL_set u 31 (u.getD 31 0 ^^^ b) (by omega)
  have h7 : (u.getD 31 0 ^^^ b).toNat % 128 = (u.getD 31 0).toNat % 128 := by rw [UInt8.toNat_xor, hb, nat_lo7]
  unfold cutN tuL
  generalize numL (u.set 31 (u.getD 31 0 ^^^ b)) = A at *
  generalize numL u = B at *
  generalize (u.getD 31 0 ^^^ b).toNat = p at *
  generalize (u.getD 31 0).toNat = q at *
  rw [show (256 : Nat) ^ 31 = 452312848583266388373324160190187140051835877600158453279131187530910662656 from rfl] at h
  omega
theorem mul_bits {k u l v : List UInt8} (hk : clampL l = clampL k) (hu : cutN (numL v) = cutN (numL u)) (h1 : k.length = 32) (h2 : u.length = 32) (h3 : l.length = 32) (h4 : v.length = 32) : mulL l v = mulL k u ∧ mulC l v = mulC k u := by
  have hq : multQ l v = multQ k u := by unfold multQ; rw [hk, hu]
  unfold mulL mulC
  rw [if_pos ⟨h3, h4⟩, if_pos ⟨h1, h2⟩, if_pos ⟨h3, h4⟩, if_pos ⟨h1, h2⟩]
  unfold multL multC
  rw [hq]
  exact ⟨rfl, rfl⟩


set_option maxRecDepth 100000 in
theorem cbits_no {k u : List UInt8} {vk vu : Value} {z : Int} {w : World} (hk : Bs w w.heap.size vk k) (hu : Bs w w.heap.size vu u) (hn : ¬ (k.length = 32 ∧ u.length = 32)) :
    Calls Try.prog 7 #[vk, vu, .int .u8 z] w fun e w' => e = .returned (.bool true) ∧ Below w.heap.size w w' := by
  obtain ⟨AU, cU, rfl⟩ := hu.shape
  obtain ⟨AK, cK, rfl⟩ := hk.shape
  have CA := Lib.hid (fun W => awake06_any W)
  have HN := Lib.hid hn
  clear hk hu hn
  go_enter Try.func7, Try.ntmps7
  go_wp2_with fail
  with_reducible refine ((CA.out) _).mono ?_
  rintro e1 w1 ⟨rfl, hb⟩
  by_cases h1 : k.length = 32
  · have h2 : ¬ u.length = 32 := fun e => HN.out ⟨h1, e⟩
    have h1' : (k.length : Int) = 32 := by omega
    have h2' : ¬ (u.length : Int) = 32 := by omega
    go_wp2_with fail
    go_ret
    exact ⟨rfl, hb⟩
  · have h1' : ¬ (k.length : Int) = 32 := by omega
    go_wp2_with fail
    go_ret
    exact ⟨rfl, hb⟩


theorem scG (w : World) (g i : Nat) (v : Value) : w.grownBy (w.setCell ⟨g, i, none⟩ v) (some g) :=
  ⟨rfl, rfl, rfl, by simp, fun k _ hne => Below.heap_setCell w ⟨g, i, none⟩ v k (fun e => hne (by rw [e]))⟩
theorem band_7 : ∀ x : Fin 256, bits .and .u8 ((x.val : Nat) : Int) 7 = ((x.val &&& 7 : Nat) : Int) := by decide +kernel
theorem band_192 : ∀ x : Fin 256, bits .and .u8 ((x.val : Nat) : Int) 192 = ((x.val &&& 192 : Nat) : Int) := by decide +kernel
theorem Own.shapeN {w : World} {B n : Nat} {v : Value} {l : List UInt8} (h : Own w B v l) (hn : l.length = n) : ∃ A c, v = .slice A n c := by
  obtain ⟨A, c, e⟩ := h.shape
  exact ⟨A, c, by rw [e, hn]⟩
theorem getD_of {l : List UInt8} {i : Nat} (h : i < l.length) : l.getD i 0 = l[i] := by rw [List.getD_eq_getElem?_getD, List.getElem?_eq_getElem h, Option.getD_some]
/-- a load of a whole array in an operation with a guard that lets it -/
theorem wpList_load_rowGd {ops : Array Oper} {rest : List Oper} {o : Oper} {a : Act} {w : World} {Q : Exit → Act → World → Prop} (hw : Region.wanted o (yielded ops a.tmps) = true) (x : Operand) (ho : o.op = .load 50 x)
    (g : Nat) (hx : a.eval x = .pointer (some ⟨g, 0, none⟩)) (cs : Array Value) (hg : w.heap[g]? = some (.cells cs 50 (0, 0))) (hi : (Try.prog.info? 50).map (·.size) = some cs.size)
    (h : wpList Try.prog ops Q rest (a.put o.dst (.agg cs)) w) : wpList Try.prog ops Q (o :: rest) a w :=
  wpList_step fun K hK => by rw [if_pos hw]; exact wp_load_row 50 x ho g hx 50 cs (0, 0) _ hg Try.underlying50 rfl hi (hK _ _ h)
theorem own_xor (a b : UInt8) : bits .xor .u8 (a.toNat : Int) (b.toNat : Int) = ((a ^^^ b).toNat : Int) := by
  rw [u8_xor_nat _ _ a.toNat_lt b.toNat_lt, UInt8.toNat_xor]
set_option maxRecDepth 100000 in
set_option maxHeartbeats 4000000 in
theorem cbits_ok {k u : List UInt8} {vk vu : Value} {t : UInt8} {w : World} (hk : Bs w w.heap.size vk k) (hu : Bs w w.heap.size vu u) (h1 : k.length = 32) (h2 : u.length = 32) :
    Calls Try.prog 7 #[vk, vu, .int .u8 (t.toNat : Int)] w fun e w' => e = .returned (.bool true) ∧ Below w.heap.size w w' := by
  obtain ⟨AU, cU, rfl⟩ := hu.shape
  obtain ⟨AK, cK, rfl⟩ := hk.shape
  obtain ⟨p, hp⟩ : ∃ p, p = t &&& 7 := ⟨_, rfl⟩
  obtain ⟨q, hq⟩ : ∃ q, q = t &&& 192 := ⟨_, rfl⟩
  obtain ⟨b, hb⟩ : ∃ b, b = UInt8.ofNat (128 * (t.toNat % 2)) := ⟨_, rfl⟩
  have ep : bits .and .u8 (t.toNat : Int) 7 = (p.toNat : Int) := by rw [hp, UInt8.toNat_and]; exact band_7 ⟨t.toNat, t.toNat_lt⟩
  have eq : bits .and .u8 (t.toNat : Int) 192 = (q.toNat : Int) := by rw [hq, UInt8.toNat_and]; exact band_192 ⟨t.toNat, t.toNat_lt⟩
  have eb0 : b.toNat = 128 * (t.toNat % 2) := by rw [hb, UInt8.toNat_ofNat']; omega
  obtain ⟨L, hL⟩ : ∃ L, L = tkL k t := ⟨_, rfl⟩
  obtain ⟨V, hV⟩ : ∃ V, V = tuL u b := ⟨_, rfl⟩
  obtain ⟨C, hC⟩ : ∃ C, C = clampL k := ⟨_, rfl⟩
  have hLl : L.length = 32 := by rw [hL, tkL_len, h1]
  have hVl : V.length = 32 := by rw [hV, tuL_len, h2]
  have hCl : C.length = 32 := by rw [hC, clampL_len, h1]
  have hLc : clampL L = C := by rw [hL, hC]; exact clampL_tk t h1
  have hCc : clampL C = clampL k := by rw [hC]; exact clampL_two h1
  have hVu : cutN (numL V) = cutN (numL u) := by rw [hV]; exact cutN_tu h2 eb0
  obtain ⟨m1, m2⟩ := mul_bits (hLc.trans hC) hVu h1 h2 hLl hVl
  obtain ⟨m3, m4⟩ := mul_bits hCc (rfl : cutN (numL u) = cutN (numL u)) h1 h2 hCl h2
  obtain ⟨cu, hcu⟩ : ∃ cu, cu = (C.map vb).toArray := ⟨_, rfl⟩
  obtain ⟨mu, hmu⟩ : ∃ mu, mu = ((mulL k u).map vb).toArray := ⟨_, rfl⟩
  obtain ⟨mc, hmc⟩ : ∃ mc, mc = mulC k u := ⟨_, rfl⟩
  have AC := Lib.hid (arr32_of hCl hcu)
  have AM := Lib.hid (arr32_of (mulL_len k u) hmu)
  have KC : Hid (∀ (v : Value) (W : World), Bs W W.heap.size v L → Calls Try.prog 30 #[v] W fun e w' => e = .returned (.tuple #[.agg cu, .int .i64 0]) ∧ Below W.heap.size W w') := Lib.hid (fun v W h => by rw [hcu, ← hLc]; exact clamp_ok h hLl)
  have KM : Hid (∀ (v v2 : Value) (W : World), Bs W W.heap.size v k → Bs W W.heap.size v2 u → Calls Try.prog 33 #[v, v2] W fun e w' => e = .returned (.tuple #[.agg mu, .int .i64 mc]) ∧ Below W.heap.size W w') := Lib.hid (fun v v2 W h h3 => by rw [hmu, hmc]; exact mult_any h h3)
  have KN : Hid (∀ (v v2 : Value) (W : World), Bs W W.heap.size v L → Bs W W.heap.size v2 V → Calls Try.prog 33 #[v, v2] W fun e w' => e = .returned (.tuple #[.agg mu, .int .i64 mc]) ∧ Below W.heap.size W w') := Lib.hid (fun v v2 W h h3 => by rw [hmu, hmc, ← m1, ← m2]; exact mult_any h h3)
  have KO : Hid (∀ (v v2 : Value) (W : World), Bs W W.heap.size v C → Bs W W.heap.size v2 u → Calls Try.prog 33 #[v, v2] W fun e w' => e = .returned (.tuple #[.agg mu, .int .i64 mc]) ∧ Below W.heap.size W w') := Lib.hid (fun v v2 W h h3 => by rw [hmu, hmc, ← m3, ← m4]; exact mult_any h h3)
  obtain ⟨x0, hx0⟩ : ∃ x0, x0 = k.getD 0 0 ^^^ p := ⟨_, rfl⟩
  obtain ⟨x1, hx1⟩ : ∃ x1, x1 = k.getD 31 0 ^^^ q := ⟨_, rfl⟩
  obtain ⟨x2, hx2⟩ : ∃ x2, x2 = u.getD 31 0 ^^^ b := ⟨_, rfl⟩
  obtain ⟨y0, hy0⟩ : ∃ y, y = k.getD 0 0 := ⟨_, rfl⟩
  obtain ⟨y1, hy1⟩ : ∃ y, y = k.getD 31 0 := ⟨_, rfl⟩
  obtain ⟨y2, hy2⟩ : ∃ y, y = u.getD 31 0 := ⟨_, rfl⟩
  have e0 : bits .xor .u8 (y0.toNat : Int) (p.toNat : Int) = (x0.toNat : Int) := by rw [hx0, hy0]; exact own_xor _ _
  have e1 : bits .xor .u8 (y1.toNat : Int) (q.toNat : Int) = (x1.toNat : Int) := by rw [hx1, hy1]; exact own_xor _ _
  have e2 : bits .xor .u8 (y2.toNat : Int) (b.toNat : Int) = (x2.toNat : Int) := by rw [hx2, hy2]; exact own_xor _ _
  have HL : Hid ((k.set 0 x0).set 31 x1 = L) := Lib.hid (by rw [hL, hx0, hx1, hp, hq]; rfl)
  have HV : Hid (u.set 31 x2 = V) := Lib.hid (by rw [hV, hx2]; rfl)
  have EP := Lib.hid ep; have EQ := Lib.hid eq; have E0 := Lib.hid e0; have E1 := Lib.hid e1; have E2 := Lib.hid e2; have EB := Lib.hid eb0
  have HY0 := Lib.hid hy0; have HY1 := Lib.hid hy1; have HY2 := Lib.hid hy2; have HCU := Lib.hid hcu; have HCL := Lib.hid hCl; have N1 := Lib.hid h1; have N2 := Lib.hid h2
  have CA := Lib.hid (fun W => awake06_any W)
  have HK := Lib.hid hk; have HU := Lib.hid hu
  have h1' : (k.length : Int) = 32 := by omega
  have h2' : (u.length : Int) = 32 := by omega
  clear hk hu hp hq hb ep eq eb0 hL hV hC hLl hVl hCl hLc hCc hVu m1 m2 m3 m4 hcu hmu hmc hx0 hx1 hx2 hy0 hy1 hy2 e0 e1 e2 h1 h2
  go_enter Try.func7, Try.ntmps7
  go_wp2_with fail
  with_reducible refine ((CA.out) _).mono ?_
  rintro e1 w1 ⟨rfl, hb⟩
  have HK1 := Lib.hid (bs_up HK.out hb); have HU1 := Lib.hid (bs_up HU.out hb); have HB1 := Lib.hid hb
  have C1 := Lib.hid (copy_any HK1.out (Nat.le_refl _) (by have := N1.out; omega))
  clear hb HK HU CA
  go_wp2_with fail
  with_reducible refine (C1.out).mono ?_
  rintro e2 w2 ⟨u2, rfl, ho, hb⟩
  have HK2 := Lib.hid (bs_up HK1.out hb); have HU2 := Lib.hid (bs_up HU1.out hb); have HB2 := Lib.hid (HB1.out.trans (hb.mono HB1.out.size))
  have HX := Lib.hid ho.bs
  have C2 := Lib.hid (copy_any HU2.out (Nat.le_refl _) (by have := N2.out; omega))
  clear hb ho C1 HK1 HU1 HB1
  go_wp2_with fail
  with_reducible refine (C2.out).mono ?_
  rintro e3 w3 ⟨u3, rfl, ho, hb⟩
  have HK3 := Lib.hid (bs_up HK2.out hb); have HU3 := Lib.hid (bs_up HU2.out hb); have HB3 := Lib.hid (HB2.out.trans (hb.mono HB2.out.size))
  have C3 := Lib.hid (KM.out u2 u3 w3 (bs_up HX.out hb) ho.bs)
  clear hb ho HX C2 HK2 HU2 HB2
  go_wp2_with fail
  with_reducible refine (C3.out).mono ?_
  rintro e4 v4 ⟨rfl, hb⟩
  have hz2 := heap_alloc_new v4 (.cells #[.int .u8 0, .int .u8 0, .int .u8 0, .int .u8 0, .int .u8 0, .int .u8 0, .int .u8 0, .int .u8 0, .int .u8 0, .int .u8 0, .int .u8 0, .int .u8 0, .int .u8 0, .int .u8 0, .int .u8 0, .int .u8 0, .int .u8 0, .int .u8 0, .int .u8 0, .int .u8 0, .int .u8 0, .int .u8 0, .int .u8 0, .int .u8 0, .int .u8 0, .int .u8 0, .int .u8 0, .int .u8 0, .int .u8 0, .int .u8 0, .int .u8 0, .int .u8 0] 50)
  have HZ2 := Lib.hid hz2
  clear hz2
  go_upto_region 6 with (first | (with_reducible refine wpList_store_row rfl 50 (.tmp 7) (.tmp 33) rfl (v4.heap.size) mu rfl rfl 50 _ HZ2.out AM.out.hi AM.out.hz AM.out.ho ?_) | fail)
  rw [World.setRow_alloc_new]
  obtain ⟨W6, hW⟩ : ∃ W6, W6 = v4.alloc (.cells mu 50) := ⟨_, rfl⟩
  obtain ⟨g7, hg⟩ : ∃ g7, g7 = v4.heap.size := ⟨_, rfl⟩
  have ha : Below v4.heap.size v4 W6 := by rw [hW]; exact (Below.refl _ _).alloc (Nat.le_refl _) _
  have hc := hb.trans (ha.mono hb.size)
  have r7 : Hid (W6.heap[g7]? = some (.cells mu 50 (0, 0))) := Lib.hid (by rw [hW, hg]; exact heap_alloc_new _ _)
  rw [← hW, ← hg]
  have HK4 := Lib.hid (bs_up HK3.out hc); have HU4 := Lib.hid (bs_up HU3.out hc); have HB4 := Lib.hid (HB3.out.trans (hc.mono HB3.out.size))
  have C4 := Lib.hid (copy_any HK4.out (Nat.le_refl _) (by have := N1.out; omega))
  clear hb ha hc hW hg HZ2 C3 HK3 HU3 HB3
  go_wp2_with fail
  with_reducible refine (C4.out).mono ?_
  rintro e5 w5 ⟨u5, rfl, ho5, hb5⟩
  have HO5 := Lib.hid ho5
  have C5 := Lib.hid (copy_any (bs_up HU4.out hb5) (Nat.le_refl _) (by have := N2.out; omega))
  have HB5 := Lib.hid hb5
  clear C4 ho5 hb5
  go_wp2_with fail
  with_reducible refine (C5.out).mono ?_
  rintro e6 w6 ⟨u6, rfl, ho6, hb6⟩
  obtain ⟨A5, c5, rfl⟩ := HO5.out.shapeN (n := 32) N1.out
  obtain ⟨A6, c6, rfl⟩ := ho6.shapeN (n := 32) N2.out
  obtain ⟨gU, rfl, hgU, _, hcu1, hfu1, hsu⟩ := ho6.at_ (j := 31) (by rw [N2.out]; decide)
  obtain ⟨gL, hA, hgL, hlL, _, _, _⟩ := HO5.out.at_ (j := 0) (by rw [N1.out]; decide)
  subst hA
  have hne : gU ≠ gL := by omega
  have ho5 := HO5.out.below hb6 (Nat.le_refl _)
  obtain ⟨_, hA, _, _, hc0, hf0, hs0⟩ := ho5.at_ (j := 0) (by rw [N1.out]; decide)
  simp only [Option.some.injEq, Addr.mk.injEq, and_true] at hA
  subst hA
  have hX6 : Below W6.heap.size W6 w6 := HB5.out.trans (hb6.mono HB5.out.size)
  rw [show k[0]'(by rw [N1.out]; decide) = y0 by rw [HY0.out]; exact (getD_of _).symm] at hc0
  have S0 := Lib.hid (hs0 x0)
  have BX := Lib.hid (hX6.setCell (p := ⟨gL, 0, none⟩) hgL (.int .u8 (x0.toNat : Int)))
  have HO6 := Lib.hid ho6
  have HNE := Lib.hid hne
  have GL := Lib.hid hgL; have GU := Lib.hid (Nat.le_trans HB5.out.size hgU)
  clear hs0 hX6 hb6 ho6 ho5 hne hgU hgL hlL hcu1 hfu1 hsu HB5 HO5 C5
  have ep := EP.out; have e0 := E0.out
  go_upto_region 8 with fail
  have HO7 := Lib.hid (HO6.out.kept (scG w6 gL 0 (.int .u8 (x0.toNat : Int))) (.inr (by show some gU ≠ some gL; intro e; exact HNE.out (Option.some.inj e))))
  clear HO6 ep e0 hc0 hf0
  generalize w6.setCell ⟨gL, 0, none⟩ (.int .u8 (x0.toNat : Int)) = w7 at S0 BX HO7 ⊢
  obtain ⟨_, hA, _, _, hc0, hf0, hs0⟩ := S0.out.at_ (j := 31) (by rw [List.length_set, N1.out]; decide)
  simp only [Option.some.injEq, Addr.mk.injEq, and_true] at hA
  subst hA
  rw [show (k.set 0 x0)[31]'(by rw [List.length_set, N1.out]; decide) = y1 by rw [HY1.out, List.getElem_set_ne (by decide)]; exact (getD_of _).symm] at hc0
  have S1 := Lib.hid (hs0 x1)
  have BY := Lib.hid (BX.out.setCell (p := ⟨gL, 31, none⟩) GL.out (.int .u8 (x1.toNat : Int)))
  rw [HL.out] at S1
  have HO8 := Lib.hid (HO7.out.kept (scG w7 gL 31 (.int .u8 (x1.toNat : Int))) (.inr (by show some gU ≠ some gL; intro e; exact HNE.out (Option.some.inj e))))
  clear hs0 S0 BX HO7
  have eq := EQ.out; have e1 := E1.out
  go_upto_region 9 with fail
  clear eq e1 hc0 hf0
  generalize w7.setCell ⟨gL, 31, none⟩ (.int .u8 (x1.toNat : Int)) = w8 at S1 BY HO8 ⊢
  obtain ⟨_, hA, _, _, hc0, hf0, hs0⟩ := HO8.out.at_ (j := 31) (by rw [N2.out]; decide)
  simp only [Option.some.injEq, Addr.mk.injEq, and_true] at hA
  subst hA
  rw [show u[31]'(by rw [N2.out]; decide) = y2 by rw [HY2.out]; exact (getD_of _).symm] at hc0
  have S2 := Lib.hid (hs0 x2)
  have BZ := Lib.hid (BY.out.setCell (p := ⟨gU, 31, none⟩) GU.out (.int .u8 (x2.toNat : Int)))
  rw [HV.out] at S2
  have S3 := Lib.hid (S1.out.kept (scG w8 gU 31 (.int .u8 (x2.toNat : Int))) (.inr (by show some gL ≠ some gU; intro e; exact HNE.out (Option.some.inj e).symm)))
  clear hs0 S1 BY HO8
  have e2 := E2.out
  have eb : (t.toNat : Int) * 128 % 256 = (b.toNat : Int) := by have := EB.out; omega
  go_upto_region 10 with fail
  clear e2 eb hc0 hf0
  generalize w8.setCell ⟨gU, 31, none⟩ (.int .u8 (x2.toNat : Int)) = w9 at S2 S3 BZ ⊢
  have hb := BZ.out
  have HK5 := Lib.hid (bs_up HK4.out hb); have HU5 := Lib.hid (bs_up HU4.out hb); have HB5 := Lib.hid (HB4.out.trans (hb.mono HB4.out.size))
  replace r7 := Lib.hid (row_up r7.out hb)
  have C6 := Lib.hid (KN.out _ _ w9 S3.out.bs S2.out.bs)
  have S4 := Lib.hid S3.out.bs
  clear hb BZ HK4 HU4 HB4 S2
  go_wp2_with fail
  with_reducible refine (C6.out).mono ?_
  rintro e10 v10 ⟨rfl, hb⟩
  have hz2 := heap_alloc_new v10 (.cells #[.int .u8 0, .int .u8 0, .int .u8 0, .int .u8 0, .int .u8 0, .int .u8 0, .int .u8 0, .int .u8 0, .int .u8 0, .int .u8 0, .int .u8 0, .int .u8 0, .int .u8 0, .int .u8 0, .int .u8 0, .int .u8 0, .int .u8 0, .int .u8 0, .int .u8 0, .int .u8 0, .int .u8 0, .int .u8 0, .int .u8 0, .int .u8 0, .int .u8 0, .int .u8 0, .int .u8 0, .int .u8 0, .int .u8 0, .int .u8 0, .int .u8 0, .int .u8 0] 50)
  have HZ2 := Lib.hid hz2
  clear hz2
  go_upto_region 11 with (first | (with_reducible refine wpList_store_row rfl 50 (.tmp 11) (.tmp 64) rfl (v10.heap.size) mu rfl rfl 50 _ HZ2.out AM.out.hi AM.out.hz AM.out.ho ?_) | fail)
  rw [World.setRow_alloc_new]
  obtain ⟨W11, hW⟩ : ∃ W11, W11 = v10.alloc (.cells mu 50) := ⟨_, rfl⟩
  obtain ⟨g11, hg⟩ : ∃ g11, g11 = v10.heap.size := ⟨_, rfl⟩
  have ha : Below v10.heap.size v10 W11 := by rw [hW]; exact (Below.refl _ _).alloc (Nat.le_refl _) _
  have hc := hb.trans (ha.mono hb.size)
  have r11 : Hid (W11.heap[g11]? = some (.cells mu 50 (0, 0))) := Lib.hid (by rw [hW, hg]; exact heap_alloc_new _ _)
  rw [← hW, ← hg]
  have HK6 := Lib.hid (bs_up HK5.out hc); have HU6 := Lib.hid (bs_up HU5.out hc); have HB6 := Lib.hid (HB5.out.trans (hc.mono HB5.out.size))
  replace r7 := Lib.hid (row_up r7.out hc)
  have C7 := Lib.hid (KC.out _ W11 (bs_up S4.out hc))
  clear hb ha hc hW hg HZ2 C6 HK5 HU5 HB5 S3 S4
  go_wp2_with fail
  with_reducible refine (C7.out).mono ?_
  rintro e11 v11 ⟨rfl, hb⟩
  have hz2 := heap_alloc_new v11 (.cells #[.int .u8 0, .int .u8 0, .int .u8 0, .int .u8 0, .int .u8 0, .int .u8 0, .int .u8 0, .int .u8 0, .int .u8 0, .int .u8 0, .int .u8 0, .int .u8 0, .int .u8 0, .int .u8 0, .int .u8 0, .int .u8 0, .int .u8 0, .int .u8 0, .int .u8 0, .int .u8 0, .int .u8 0, .int .u8 0, .int .u8 0, .int .u8 0, .int .u8 0, .int .u8 0, .int .u8 0, .int .u8 0, .int .u8 0, .int .u8 0, .int .u8 0, .int .u8 0] 50)
  have HZ2 := Lib.hid hz2
  clear hz2
  go_upto_region 12 with (first | (with_reducible refine wpList_store_row rfl 50 (.tmp 13) (.tmp 69) rfl (v11.heap.size) cu rfl rfl 50 _ HZ2.out AC.out.hi AC.out.hz AC.out.ho ?_) | fail)
  rw [World.setRow_alloc_new]
  obtain ⟨W12, hW⟩ : ∃ W12, W12 = v11.alloc (.cells cu 50) := ⟨_, rfl⟩
  obtain ⟨g13, hg⟩ : ∃ g13, g13 = v11.heap.size := ⟨_, rfl⟩
  have ha : Below v11.heap.size v11 W12 := by rw [hW]; exact (Below.refl _ _).alloc (Nat.le_refl _) _
  have hc := hb.trans (ha.mono hb.size)
  have r13 : Hid (W12.heap[g13]? = some (.cells cu 50 (0, 0))) := Lib.hid (by rw [hW, hg]; exact heap_alloc_new _ _)
  rw [← hW, ← hg]
  have HK7 := Lib.hid (bs_up HK6.out hc); have HU7 := Lib.hid (bs_up HU6.out hc); have HB7 := Lib.hid (HB6.out.trans (hc.mono HB6.out.size))
  replace r7 := Lib.hid (row_up r7.out hc)
  replace r11 := Lib.hid (row_up r11.out hc)
  have hS : Bs W12 W12.heap.size (.slice (some ⟨g13, 0, none⟩) 32 32) C := by have h := Bw.toBs (w := W12) (g := g13) (t := 50) (l := C) (by show W12.heap[g13]? = _; rw [← HCU.out]; exact r13.out) (by rw [HCL.out]; decide); rwa [HCL.out] at h
  have C8 := Lib.hid (KO.out _ _ W12 hS HU7.out)
  have hcut := fun W => cut32_all (g := g13) W
  clear hS hb ha hc hW hg HZ2 C7 HK6 HU6 HB6
  go_wp2_with fail
  with_reducible refine (C8.out).mono ?_
  rintro e12 v12 ⟨rfl, hb⟩
  have hz2 := heap_alloc_new v12 (.cells #[.int .u8 0, .int .u8 0, .int .u8 0, .int .u8 0, .int .u8 0, .int .u8 0, .int .u8 0, .int .u8 0, .int .u8 0, .int .u8 0, .int .u8 0, .int .u8 0, .int .u8 0, .int .u8 0, .int .u8 0, .int .u8 0, .int .u8 0, .int .u8 0, .int .u8 0, .int .u8 0, .int .u8 0, .int .u8 0, .int .u8 0, .int .u8 0, .int .u8 0, .int .u8 0, .int .u8 0, .int .u8 0, .int .u8 0, .int .u8 0, .int .u8 0, .int .u8 0] 50)
  have HZ2 := Lib.hid hz2
  clear hz2
  go_upto_region 13 with (first | (with_reducible refine wpList_store_row rfl 50 (.tmp 15) (.tmp 75) rfl (v12.heap.size) mu rfl rfl 50 _ HZ2.out AM.out.hi AM.out.hz AM.out.ho ?_) | fail)
  rw [World.setRow_alloc_new]
  obtain ⟨W13, hW⟩ : ∃ W13, W13 = v12.alloc (.cells mu 50) := ⟨_, rfl⟩
  obtain ⟨g15, hg⟩ : ∃ g15, g15 = v12.heap.size := ⟨_, rfl⟩
  have ha : Below v12.heap.size v12 W13 := by rw [hW]; exact (Below.refl _ _).alloc (Nat.le_refl _) _
  have hc := hb.trans (ha.mono hb.size)
  have r15 : Hid (W13.heap[g15]? = some (.cells mu 50 (0, 0))) := Lib.hid (by rw [hW, hg]; exact heap_alloc_new _ _)
  rw [← hW, ← hg]
  have HK8 := Lib.hid (bs_up HK7.out hc); have HU8 := Lib.hid (bs_up HU7.out hc); have HB8 := Lib.hid (HB7.out.trans (hc.mono HB7.out.size))
  replace r7 := Lib.hid (row_up r7.out hc)
  replace r11 := Lib.hid (row_up r11.out hc)
  have heq := AM.out.eq
  clear hcut r13 hb ha hc hW hg HZ2 C8 HK7 HU7 HB7
  go_wp2_with (first | (with_reducible refine wpList_load_row rfl 50 (.tmp 7) rfl (g7) rfl 50 mu (0, 0) _ r7.out Try.underlying50 rfl AM.out.hi ?_) | (with_reducible refine wpList_load_row rfl 50 (.tmp 11) rfl (g11) rfl 50 mu (0, 0) _ r11.out Try.underlying50 rfl AM.out.hi ?_) | (with_reducible refine wpList_load_row rfl 50 (.tmp 15) rfl (g15) rfl 50 mu (0, 0) _ r15.out Try.underlying50 rfl AM.out.hi ?_) | (with_reducible refine wpList_load_rowGd (by kernel_rfl) (.tmp 7) rfl (g7) rfl mu r7.out AM.out.hi ?_) | (with_reducible refine wpList_load_rowGd (by kernel_rfl) (.tmp 15) rfl (g15) rfl mu r15.out AM.out.hi ?_) | fail)
  go_ret
  exact ⟨rfl, HB8.out⟩


theorem u8_bounds {z : Int} (h : (Lit.int .u8 z).wf = true) : 0 ≤ z ∧ z ≤ 255 := by simpa [Lit.wf, IntKind.min, IntKind.max, IntKind.signed, IntKind.bits] using h
theorem cbits_walk {k u : List UInt8} {vk vu : Value} {z : Int} {w : World} (hk : Bs w w.heap.size vk k) (hu : Bs w w.heap.size vu u) (hz : 0 ≤ z ∧ z ≤ 255) :
    Calls Try.prog 7 #[vk, vu, .int .u8 z] w fun e w' => e = .returned (.bool true) ∧ Below w.heap.size w w' := by
  by_cases hn : k.length = 32 ∧ u.length = 32
  · have e : z = ((UInt8.ofNat z.toNat).toNat : Int) := by rw [UInt8.toNat_ofNat']; omega
    rw [e]
    exact cbits_ok hk hu hn.1 hn.2
  · exact cbits_no hk hu hn
end Go.Proofs.Ytgkglielcbgpiaa
