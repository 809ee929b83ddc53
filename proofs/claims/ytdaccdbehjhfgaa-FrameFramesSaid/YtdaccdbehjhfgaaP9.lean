/- What is framed is read back: the reading of a frame's fields; Frame by integers. -/
import Derived.Test.YtdaccdbehjhfgaaP8
namespace Go.Proofs.Ytdaccdbehjhfgaa
open Go.RowKit

theorem getP_putL (o : Int) (K n k : Nat) (hk : k ≤ K) : getP o K (putL o K n) 0 k = n % 256 ^ k := by
  induction k with
  | zero => simp [getP, Nat.mod_one]
  | succ k ih =>
    have hj : idx o K k < K := idx_lt o K k K (by omega) (Nat.le_refl _)
    have hi : idx o K (idx o K k) = k := by unfold idx; split <;> omega
    have hb : ((putL o K n).getD (0 + idx o K k) 0).toNat = n / 256 ^ k % 256 := by
      simp [putL, hj, hi, UInt8.toNat_ofNat']
    rw [getP, ih (by omega), hb, Nat.mod_pow_succ, Nat.mul_comm]
theorem getP_mid (o : Int) (K : Nat) (pre m post : List UInt8) (hm : m.length = K) : ∀ k, k ≤ K → getP o K (pre ++ (m ++ post)) pre.length k = getP o K m 0 k
  | 0, _ => rfl
  | k + 1, hk => by
    have hj : idx o K k < K := idx_lt o K k K (by omega) (Nat.le_refl _)
    rw [getP, getP, getP_mid o K pre m post hm k (by omega), Nat.zero_add]
    congr 3
    rw [List.getD_eq_getElem?_getD, List.getD_eq_getElem?_getD, List.getElem?_append_right (by omega), List.getElem?_append_left (by omega)]
    congr 2
    omega
theorem getP_at {o : Int} {K a : Nat} {l pre m post : List UInt8} (e : l = pre ++ (m ++ post)) (ha : pre.length = a) (hm : m.length = K) : getP o K l a K = getP o K m 0 K := by
  subst e; subst ha
  exact getP_mid o K pre m post hm K (Nat.le_refl _)
theorem rd_frm {k id a b : Nat} {d : List UInt8} (h : chk k id (a : Int) (b : Int) d.length = 0) (hid : id < 18446744073709551616) : rdP (frmL k id a b d) = ⟨k, id, a, b, d⟩ := by
  obtain ⟨hk1, hk3, hL, _, hab, hb16⟩ := chk_zero h
  have hz := zs_len 16
  have e16 : getP 2 1 (frmL k id a b d) 16 1 = k := by
    rw [getP_at (o := 2) (K := 1) (a := 16) (l := frmL k id a b d) (pre := zs 16) (m := [UInt8.ofNat k]) (post := [UInt8.ofNat a, UInt8.ofNat b, 0] ++ putL 2 8 id ++ putL 2 2 d.length ++ d ++ zs (450 - d.length)) (by simp [frmL]) hz rfl]
    simp [getP, idx]; omega
  have e17 : getP 2 1 (frmL k id a b d) 17 1 = a := by
    rw [getP_at (o := 2) (K := 1) (a := 17) (l := frmL k id a b d) (pre := zs 16 ++ [UInt8.ofNat k]) (m := [UInt8.ofNat a]) (post := [UInt8.ofNat b, 0] ++ putL 2 8 id ++ putL 2 2 d.length ++ d ++ zs (450 - d.length)) (by simp [frmL]) (by simp [hz]) rfl]
    simp [getP, idx]; omega
  have e18 : getP 2 1 (frmL k id a b d) 18 1 = b := by
    rw [getP_at (o := 2) (K := 1) (a := 18) (l := frmL k id a b d) (pre := zs 16 ++ [UInt8.ofNat k, UInt8.ofNat a]) (m := [UInt8.ofNat b]) (post := [0] ++ putL 2 8 id ++ putL 2 2 d.length ++ d ++ zs (450 - d.length)) (by simp [frmL]) (by simp [hz]) rfl]
    simp [getP, idx]; omega
  have e20 : getP 2 8 (frmL k id a b d) 20 8 = id := by
    rw [getP_at (o := 2) (K := 8) (a := 20) (l := frmL k id a b d) (pre := zs 16 ++ [UInt8.ofNat k, UInt8.ofNat a, UInt8.ofNat b, 0]) (m := putL 2 8 id) (post := putL 2 2 d.length ++ d ++ zs (450 - d.length)) (by simp [frmL]) (by simp [hz]) (putL_length _ _ _),
      getP_putL _ _ _ _ (Nat.le_refl _)]
    exact Nat.mod_eq_of_lt (by simpa using hid)
  have e28 : getP 2 2 (frmL k id a b d) 28 2 = d.length := by
    rw [getP_at (o := 2) (K := 2) (a := 28) (l := frmL k id a b d) (pre := zs 16 ++ [UInt8.ofNat k, UInt8.ofNat a, UInt8.ofNat b, 0] ++ putL 2 8 id) (m := putL 2 2 d.length) (post := d ++ zs (450 - d.length)) (by simp [frmL]) (by simp [hz, putL_length]) (putL_length _ _ _),
      getP_putL _ _ _ _ (Nat.le_refl _)]
    exact Nat.mod_eq_of_lt (by omega)
  have ed : cutD (frmL k id a b d) d.length = d := by
    unfold cutD
    rw [if_pos hL]
    have e : frmL k id a b d = (zs 16 ++ [UInt8.ofNat k, UInt8.ofNat a, UInt8.ofNat b, 0] ++ putL 2 8 id ++ putL 2 2 d.length) ++ (d ++ zs (450 - d.length)) := by simp [frmL]
    have hl : (zs 16 ++ [UInt8.ofNat k, UInt8.ofNat a, UInt8.ofNat b, 0] ++ putL 2 8 id ++ putL 2 2 d.length).length = 30 := by simp [hz, putL_length]
    rw [e, ← hl, List.drop_left, List.take_left]
  unfold rdP
  rw [e16, e17, e18, e20, e28, ed]
theorem eP_frm {k id a b : Nat} {d : List UInt8} (h : chk k id (a : Int) (b : Int) d.length = 0) (hid : id < 18446744073709551616) : eP (frmL k id a b d) = 0 ∧ parP (frmL k id a b d) = ⟨k, id, a, b, d⟩ := by
  have hr := rd_frm h hid
  have hL := (chk_zero h).2.2.1
  have e : eP (frmL k id a b d) = 0 := by
    unfold eP
    rw [if_neg (by rw [frmL_len hL]; simp), if_neg (by
      have hz := zs_len 16
      have e : (frmL k id a b d).take 16 = zs 16 := by
        have e2 : frmL k id a b d = zs 16 ++ ([UInt8.ofNat k, UInt8.ofNat a, UInt8.ofNat b, 0] ++ putL 2 8 id ++ putL 2 2 d.length ++ d ++ zs (450 - d.length)) := by simp [frmL]
        rw [e2, List.take_append_of_le_length (by omega), List.take_of_length_le (by omega)]
      simp [e])]
    rw [hr]
    have hc : (Pt.mk k id a b d).chk = 0 := h
    rw [if_neg (by rw [hc]; decide), if_pos (by unfold Pt.frm; rw [if_pos hc])]
  exact ⟨e, by unfold parP; rw [if_pos e, hr]⟩
/-- the frame of a part with any integers -/
def frmI (k id : Nat) (i n : Int) (d : List UInt8) : List UInt8 := if chk k id i n d.length = 0 then frmL k id i.toNat n.toNat d else []
theorem nat_of {i n : Int} {k id L : Nat} (h : chk k id i n L = 0) : ∃ a b : Nat, i = (a : Int) ∧ n = (b : Int) := by
  obtain ⟨_, _, _, h0, h1, _⟩ := chk_zero h
  exact ⟨i.toNat, n.toNat, by omega, by omega⟩
theorem frameI {k id c B : Nat} {i n : Int} {A : Option Addr} {d : List UInt8} {w : World} (hd : Bs w B (.slice A d.length c) d) (hB : B ≤ w.heap.size) (hid : id < 18446744073709551616) (hL : d.length ≤ 281474976710656) :
    Calls Try.prog 14 #[.agg #[.int .u8 (k : Int), .int .u64 (id : Int), .int .i64 i, .int .i64 n, .slice A d.length c]] w fun e w' => ∃ A2 c2, e = .returned (.tuple #[.slice A2 (frmI k id i n d).length c2, .int .i64 (chk k id i n d.length)]) ∧ Own w' w.heap.size (.slice A2 (frmI k id i n d).length c2) (frmI k id i n d) ∧ Below w.heap.size w w' := by
  unfold frmI
  by_cases h : chk k id i n d.length = 0
  · rw [if_pos h, h]
    obtain ⟨a, b, rfl, rfl⟩ := nat_of h
    simp only [Int.toNat_natCast]
    refine (frame_ok hd hB hid h).mono ?_
    rintro e w' ⟨u, rfl, ho, hb⟩
    obtain ⟨A2, c2, rfl⟩ := ho.shape
    exact ⟨A2, c2, rfl, ho, hb⟩
  · rw [if_neg h]
    refine (frame_no hL h w).mono ?_
    rintro e w' ⟨rfl, hb⟩
    exact ⟨none, 0, rfl, Own.nil _ _, hb⟩
theorem refframeI {k id c B : Nat} {i n : Int} {A : Option Addr} {d : List UInt8} {w : World} (hd : Bs w B (.slice A d.length c) d) (hB : B ≤ w.heap.size) (hid : id < 18446744073709551616) (hL : d.length ≤ 281474976710656) :
    Calls Try.prog 15 #[.agg #[.int .u8 (k : Int), .int .u64 (id : Int), .int .i64 i, .int .i64 n, .slice A d.length c]] w fun e w' => ∃ A2 c2, e = .returned (.tuple #[.slice A2 (frmI k id i n d).length c2, .int .i64 (chk k id i n d.length)]) ∧ Own w' w.heap.size (.slice A2 (frmI k id i n d).length c2) (frmI k id i n d) ∧ Below w.heap.size w w' := by
  unfold frmI
  by_cases h : chk k id i n d.length = 0
  · rw [if_pos h, h]
    obtain ⟨a, b, rfl, rfl⟩ := nat_of h
    simp only [Int.toNat_natCast]
    refine (refframe_ok hd hB hid h).mono ?_
    rintro e w' ⟨u, rfl, ho, hb⟩
    obtain ⟨A2, c2, rfl⟩ := ho.shape
    exact ⟨A2, c2, rfl, ho, hb⟩
  · rw [if_neg h]
    refine (refframe_no hL h w).mono ?_
    rintro e w' ⟨rfl, hb⟩
    exact ⟨none, 0, rfl, Own.nil _ _, hb⟩
/-- what a right frame is parsed to -/
theorem parseI {k id : Nat} {i n : Int} {d : List UInt8} (h : chk k id i n d.length = 0) (hid : id < 18446744073709551616) {u : Value} {W : World} (hu : Bs W W.heap.size u (frmI k id i n d)) :
    Calls Try.prog 17 #[u] W fun e w' => ∃ A c, e = .returned (.tuple #[.agg #[.int .u8 (k : Int), .int .u64 (id : Int), .int .i64 i, .int .i64 n, .slice A d.length c], .int .i64 0]) ∧ Own w' W.heap.size (.slice A d.length c) d ∧ Below W.heap.size W w' := by
  unfold frmI at hu
  rw [if_pos h] at hu
  obtain ⟨a, b, rfl, rfl⟩ := nat_of h
  simp only [Int.toNat_natCast] at hu
  obtain ⟨e1, e2⟩ := eP_frm h hid
  have h3 := parse_any hu (Nat.le_refl _) (by rw [frmL_len (chk_zero h).2.2.1]; decide)
  rw [e1, e2] at h3
  exact h3
end Go.Proofs.Ytdaccdbehjhfgaa
