/- The law ChachaTurns walked. -/
import Derived.Test.YthgdficgjldobaaC4
import Derived.Test.YthgdficgjldobaaC9
namespace Go.Proofs.Ythgdficgjldobaa
open Go.RowKit

theorem Bs.up {w w' : World} {v : Value} {l : List UInt8} (h : Bs w w.heap.size v l) (hb : Below w.heap.size w w') : Bs w' w'.heap.size v l := (h.below hb (Nat.le_refl _)).more hb.size
theorem Bs.updrew {w w' : World} {v : Value} {l : List UInt8} (h : Bs w w.heap.size v l) (hd : Drew w w') : Bs w' w'.heap.size v l := h.up (hd.below _)
def PTp (key : List UInt8) (ls : List (List UInt8)) (e0 : Int) (S : List UInt8) : Prop := ∀ (W : World) (v u : Value), Bs W W.heap.size v key → Rs W W.heap.size u ls → Calls Try.prog 19 #[v, u] W fun e w' => ∃ x, e = .returned (.tuple #[x, .int .i64 e0]) ∧ Bs w' w'.heap.size x S ∧ Below W.heap.size W w'
def PTr (key F : List UInt8) (e0 : Int) (S : List UInt8) : Prop := ∀ (W : World) (v u : Value), Bs W W.heap.size v key → Bs W W.heap.size u F → Calls Try.prog 21 #[v, u] W fun e w' => ∃ x, e = .returned (.tuple #[x, .int .i64 e0]) ∧ Bs w' w'.heap.size x S ∧ Below W.heap.size W w'
theorem pt_good {key : List UInt8} (ls : List (List UInt8)) (hk : key.length = 32) (hl : ls.flatten.length ≤ 65536) : PTp key ls 0 (trnL key 0 ls.flatten) ∧ PTr key ls.flatten 0 (trnL key 0 ls.flatten) :=
  ⟨fun W v u hv hu => (turn_ok hv hu (Nat.le_refl _) hk hl).mono fun e w' ⟨x, h1, h2, h3⟩ => ⟨x, h1, h2.bs, h3⟩, fun W v u hv hu => (refturn_ok hv hu (Nat.le_refl _) hk hl).mono fun e w' ⟨x, h1, h2, h3⟩ => ⟨x, h1, h2.bs, h3⟩⟩
theorem pt_bad {key : List UInt8} (ls : List (List UInt8)) (hm : key.length ≤ 281474976710656) (h : ¬ (key.length = 32 ∧ ls.flatten.length ≤ 65536)) : (PTp key ls 2 [] ∧ PTr key ls.flatten 2 []) ∨ (PTp key ls 11 [] ∧ PTr key ls.flatten 11 []) := by
  by_cases hk : key.length = 32
  · right
    have hl : 65536 < ls.flatten.length := by omega
    exact ⟨fun W v u hv hu => (turn_bound hv hu (Nat.le_refl _) hk hl).mono fun e w' hh => ⟨_, hh.1, Bs.nil _ _, hh.2⟩, fun W v u hv hu => (refturn_bound hv hu hk hl).mono fun e w' hh => ⟨_, hh.1, Bs.nil _ _, by rw [← hh.2]; exact Below.refl _ _⟩⟩
  · left
    exact ⟨fun W v u hv hu => (turn_size hv hk hm).mono fun e w' hh => ⟨_, hh.1, Bs.nil _ _, by rw [← hh.2]; exact Below.refl _ _⟩, fun W v u hv hu => (refturn_size hv hk hm).mono fun e w' hh => ⟨_, hh.1, Bs.nil _ _, by rw [← hh.2]; exact Below.refl _ _⟩⟩
set_option maxRecDepth 100000 in
set_option maxHeartbeats 4000000 in
theorem turns_walk {key : List UInt8} {ls : List (List UInt8)} {v u : Value} {w : World} (hk : Bs w w.heap.size v key) (hr : Rs w w.heap.size u ls) (hkl : key.length ≤ 1048576) (hn : ls.length ≤ 1048576) (hf : ls.flatten.length ≤ 1048576) (hl : ∀ l ∈ ls, l.length ≤ 1048576) :
    Calls Try.prog 6 #[v, u] w fun e w' => e = .returned (.bool true) ∧ Below w.heap.size w w' := by
  have CA := Lib.hid (awake_any w)
  have hcase : (∃ S, S = trnL key 0 ls.flatten ∧ key.length = 32 ∧ ls.flatten.length ≤ 65536 ∧ PTp key ls 0 S ∧ PTr key ls.flatten 0 S) ∨ (PTp key ls 2 [] ∧ PTr key ls.flatten 2 []) ∨ (PTp key ls 11 [] ∧ PTr key ls.flatten 11 []) := by
    by_cases h : key.length = 32 ∧ ls.flatten.length ≤ 65536
    · exact .inl ⟨_, rfl, h.1, h.2, pt_good ls h.1 h.2⟩
    · exact .inr (pt_bad ls (by omega) h)
  obtain ⟨F, hF⟩ : ∃ F, F = ls.flatten := ⟨_, rfl⟩
  rw [← hF] at hf hcase
  have HF := Lib.hid hF; have HK := Lib.hid hk; have HR := Lib.hid hr; have HL := Lib.hid hl
  clear hF hk hr hl
  rcases hcase with ⟨S, hS, hk32, hf64, hP, hQ⟩ | ⟨hP, hQ⟩ | ⟨hP, hQ⟩
  · have HS := Lib.hid hS; have HK32 := Lib.hid hk32; have HF64 := Lib.hid hf64
    clear hS hk32 hf64
    have HP := Lib.hid hP; have HQ := Lib.hid hQ
    clear hP hQ
    go_enter Try.func6, Try.ntmps6
    go_wp2_with fail
    with_reducible refine (CA.out).mono ?_
    rintro e1 w1 ⟨rfl, hb1⟩
    have HB1 := Lib.hid hb1
    have CJ := Lib.hid (refjoin_any (HR.out.below hb1 (Nat.le_refl _)) hb1.size (by rw [← HF.out]; omega))
    clear hb1 CA
    go_wp2_with fail
    with_reducible refine (CJ.out).mono ?_
    rintro e2 w2 ⟨uj, rfl, hj, hb2⟩
    rw [← HF.out] at hj
    have HB2 := Lib.hid (HB1.out.trans (hb2.mono HB1.out.size))
    have HJ2 := Lib.hid hj.bs
    have CK := Lib.hid (copy_any (HK.out.below HB2.out (Nat.le_refl _)) HB2.out.size (by omega))
    clear hj hb2 CJ
    go_wp2_with fail
    with_reducible refine (CK.out).mono ?_
    rintro e3 w3 ⟨uk, rfl, hk3, hb3⟩
    have HB3 := Lib.hid (HB2.out.trans (hb3.mono HB2.out.size))
    have HJ3 := Lib.hid (HJ2.out.up hb3)
    have HK3 := Lib.hid hk3.bs
    have CC := Lib.hid (copies_any (HR.out.below HB3.out (Nat.le_refl _)) HB3.out.size (by omega) (fun l hl => by have := HL.out l hl; omega))
    clear hk3 hb3 CK HJ2
    go_wp2_with fail
    with_reducible refine (CC.out).mono ?_
    rintro e33 w33 ⟨uc, rfl, hc33, hb33⟩
    have HB33 := Lib.hid (HB3.out.trans (hb33.mono HB3.out.size))
    have HJ33 := Lib.hid (HJ3.out.up hb33)
    have C4 := Lib.hid (HP.out w33 uk uc (HK3.out.up hb33) hc33.rs)
    clear hc33 hb33 CC HJ3 HK3
    go_wp2_with fail
    with_reducible refine (C4.out).mono ?_
    rintro e4 w4 ⟨x4, rfl, hx4, hb4⟩
    have HB4 := Lib.hid (HB33.out.trans (hb4.mono HB33.out.size))
    have hj4 := HJ33.out.up hb4
    have C5 := Lib.hid (HQ.out w4 v uj ((HK.out.below HB4.out (Nat.le_refl _)).more HB4.out.size) hj4)
    have HJ4 := Lib.hid hj4
    have HX4 := Lib.hid hx4
    clear hb4 hj4 hx4 C4 HJ33
    go_wp2_with fail
    with_reducible refine (C5.out).mono ?_
    rintro e5 w5 ⟨x5, rfl, hx5, hb5⟩
    have HB5 := Lib.hid (HB4.out.trans (hb5.mono HB4.out.size))
    have HX5 := Lib.hid (HX4.out.up hb5)
    have HJ5 := Lib.hid (HJ4.out.up hb5)
    have C6 := Lib.hid (equal_same HX5.out hx5)
    clear hb5 hx5 C5 HX4 HJ4
    go_wp2_with fail
    with_reducible refine (C6.out).mono ?_
    rintro e6 w6 ⟨rfl, hd6⟩
    have HB6 := Lib.hid (HB5.out.trans ((hd6.below _).mono HB5.out.size))
    have HX6 := Lib.hid (HX5.out.updrew hd6)
    have HJ66 := Lib.hid (HJ5.out.updrew hd6)
    clear hd6 C6
    obtain ⟨A4, c4, rfl⟩ := HX6.out.shape
    have C7 := Lib.hid (copy_any (HK.out.below HB6.out (Nat.le_refl _)) HB6.out.size (by omega))
    go_wp2_with fail
    with_reducible refine (C7.out).mono ?_
    rintro e7 w7 ⟨u7, rfl, ho7, hb7⟩
    have hk7 := ho7.bs
    have HX7 := Lib.hid (HX6.out.up hb7)
    have HJ7 := Lib.hid (HJ66.out.up hb7)
    have HB7 := Lib.hid (HB6.out.trans (hb7.mono HB6.out.size))
    have hal := (Below.refl w7.heap.size w7).alloc (Nat.le_refl _) (.cells #[.slice A4 S.length c4] 28)
    have hr7 : Rs (w7.alloc (.cells #[.slice A4 S.length c4] 28)) (w7.heap.size + 1) (.slice (some ⟨w7.heap.size, 0, none⟩) 1 1) [S] := Rs.lit w7 [.slice A4 S.length c4] [S] rfl (by unfold maxLen; simp) (by
      intro j h1 h2
      obtain rfl : j = 0 := by simp at h1; omega
      exact HX7.out)
    have C8 := turn_ok (B := w7.heap.size + 1) ((hk7.below hal (Nat.le_refl _)).more (by omega)) hr7 (by simp) HK32.out (by simp [HS.out, trnL_len]; exact HF64.out)
    have e1 : [S].flatten = S := by simp
    have e2 : trnL key 0 S = F := by rw [HS.out, trnL_back]
    rw [e1, e2] at C8
    have C8 := Lib.hid C8
    have HB8 := Lib.hid (HB7.out.alloc HB7.out.size (.cells #[.slice A4 S.length c4] 28))
    have HJ8 := Lib.hid (HJ7.out.up hal)
    clear ho7 hb7 hk7 hal hr7 C7 e1 e2
    go_wp2_with fail
    with_reducible refine (C8.out).mono ?_
    rintro e9 w9 ⟨u9, rfl, ho9, hb9⟩
    have HB9 := Lib.hid (HB8.out.trans (hb9.mono HB8.out.size))
    have C9 := Lib.hid (equal_same ho9.bs (HJ8.out.up hb9))
    clear ho9 hb9 C8
    go_wp2_with fail
    with_reducible refine (C9.out).mono ?_
    rintro e10 w10 ⟨rfl, hd⟩
    have HB10 := Lib.hid (HB9.out.trans ((hd.below _).mono HB9.out.size))
    clear hd C9
    go_wp2
    go_ret
    exact ⟨rfl, HB10.out⟩
  · have HP := Lib.hid hP; have HQ := Lib.hid hQ
    clear hP hQ
    go_enter Try.func6, Try.ntmps6
    go_wp2_with fail
    with_reducible refine (CA.out).mono ?_
    rintro e1 w1 ⟨rfl, hb1⟩
    have HB1 := Lib.hid hb1
    have CJ := Lib.hid (refjoin_any (HR.out.below hb1 (Nat.le_refl _)) hb1.size (by rw [← HF.out]; omega))
    clear hb1 CA
    go_wp2_with fail
    with_reducible refine (CJ.out).mono ?_
    rintro e2 w2 ⟨uj, rfl, hj, hb2⟩
    rw [← HF.out] at hj
    have HB2 := Lib.hid (HB1.out.trans (hb2.mono HB1.out.size))
    have HJ2 := Lib.hid hj.bs
    have CK := Lib.hid (copy_any (HK.out.below HB2.out (Nat.le_refl _)) HB2.out.size (by omega))
    clear hj hb2 CJ
    go_wp2_with fail
    with_reducible refine (CK.out).mono ?_
    rintro e3 w3 ⟨uk, rfl, hk3, hb3⟩
    have HB3 := Lib.hid (HB2.out.trans (hb3.mono HB2.out.size))
    have HJ3 := Lib.hid (HJ2.out.up hb3)
    have HK3 := Lib.hid hk3.bs
    have CC := Lib.hid (copies_any (HR.out.below HB3.out (Nat.le_refl _)) HB3.out.size (by omega) (fun l hl => by have := HL.out l hl; omega))
    clear hk3 hb3 CK HJ2
    go_wp2_with fail
    with_reducible refine (CC.out).mono ?_
    rintro e33 w33 ⟨uc, rfl, hc33, hb33⟩
    have HB33 := Lib.hid (HB3.out.trans (hb33.mono HB3.out.size))
    have HJ33 := Lib.hid (HJ3.out.up hb33)
    have C4 := Lib.hid (HP.out w33 uk uc (HK3.out.up hb33) hc33.rs)
    clear hc33 hb33 CC HJ3 HK3
    go_wp2_with fail
    with_reducible refine (C4.out).mono ?_
    rintro e4 w4 ⟨x4, rfl, hx4, hb4⟩
    have HB4 := Lib.hid (HB33.out.trans (hb4.mono HB33.out.size))
    have hj4 := HJ33.out.up hb4
    have C5 := Lib.hid (HQ.out w4 v uj ((HK.out.below HB4.out (Nat.le_refl _)).more HB4.out.size) hj4)
    have HJ4 := Lib.hid hj4
    have HX4 := Lib.hid hx4
    clear hb4 hj4 hx4 C4 HJ33
    go_wp2_with fail
    with_reducible refine (C5.out).mono ?_
    rintro e5 w5 ⟨x5, rfl, hx5, hb5⟩
    have HB5 := Lib.hid (HB4.out.trans (hb5.mono HB4.out.size))
    have HX5 := Lib.hid (HX4.out.up hb5)
    have HJ5 := Lib.hid (HJ4.out.up hb5)
    have C6 := Lib.hid (equal_same HX5.out hx5)
    clear hb5 hx5 C5 HX4 HJ4
    go_wp2_with fail
    with_reducible refine (C6.out).mono ?_
    rintro e6 w6 ⟨rfl, hd6⟩
    have HB6 := Lib.hid (HB5.out.trans ((hd6.below _).mono HB5.out.size))
    have HX6 := Lib.hid (HX5.out.updrew hd6)
    have HJ66 := Lib.hid (HJ5.out.updrew hd6)
    clear hd6 C6
    go_wp2
    go_ret
    exact ⟨rfl, HB6.out⟩
  · have HP := Lib.hid hP; have HQ := Lib.hid hQ
    clear hP hQ
    go_enter Try.func6, Try.ntmps6
    go_wp2_with fail
    with_reducible refine (CA.out).mono ?_
    rintro e1 w1 ⟨rfl, hb1⟩
    have HB1 := Lib.hid hb1
    have CJ := Lib.hid (refjoin_any (HR.out.below hb1 (Nat.le_refl _)) hb1.size (by rw [← HF.out]; omega))
    clear hb1 CA
    go_wp2_with fail
    with_reducible refine (CJ.out).mono ?_
    rintro e2 w2 ⟨uj, rfl, hj, hb2⟩
    rw [← HF.out] at hj
    have HB2 := Lib.hid (HB1.out.trans (hb2.mono HB1.out.size))
    have HJ2 := Lib.hid hj.bs
    have CK := Lib.hid (copy_any (HK.out.below HB2.out (Nat.le_refl _)) HB2.out.size (by omega))
    clear hj hb2 CJ
    go_wp2_with fail
    with_reducible refine (CK.out).mono ?_
    rintro e3 w3 ⟨uk, rfl, hk3, hb3⟩
    have HB3 := Lib.hid (HB2.out.trans (hb3.mono HB2.out.size))
    have HJ3 := Lib.hid (HJ2.out.up hb3)
    have HK3 := Lib.hid hk3.bs
    have CC := Lib.hid (copies_any (HR.out.below HB3.out (Nat.le_refl _)) HB3.out.size (by omega) (fun l hl => by have := HL.out l hl; omega))
    clear hk3 hb3 CK HJ2
    go_wp2_with fail
    with_reducible refine (CC.out).mono ?_
    rintro e33 w33 ⟨uc, rfl, hc33, hb33⟩
    have HB33 := Lib.hid (HB3.out.trans (hb33.mono HB3.out.size))
    have HJ33 := Lib.hid (HJ3.out.up hb33)
    have C4 := Lib.hid (HP.out w33 uk uc (HK3.out.up hb33) hc33.rs)
    clear hc33 hb33 CC HJ3 HK3
    go_wp2_with fail
    with_reducible refine (C4.out).mono ?_
    rintro e4 w4 ⟨x4, rfl, hx4, hb4⟩
    have HB4 := Lib.hid (HB33.out.trans (hb4.mono HB33.out.size))
    have hj4 := HJ33.out.up hb4
    have C5 := Lib.hid (HQ.out w4 v uj ((HK.out.below HB4.out (Nat.le_refl _)).more HB4.out.size) hj4)
    have HJ4 := Lib.hid hj4
    have HX4 := Lib.hid hx4
    clear hb4 hj4 hx4 C4 HJ33
    go_wp2_with fail
    with_reducible refine (C5.out).mono ?_
    rintro e5 w5 ⟨x5, rfl, hx5, hb5⟩
    have HB5 := Lib.hid (HB4.out.trans (hb5.mono HB4.out.size))
    have HX5 := Lib.hid (HX4.out.up hb5)
    have HJ5 := Lib.hid (HJ4.out.up hb5)
    have C6 := Lib.hid (equal_same HX5.out hx5)
    clear hb5 hx5 C5 HX4 HJ4
    go_wp2_with fail
    with_reducible refine (C6.out).mono ?_
    rintro e6 w6 ⟨rfl, hd6⟩
    have HB6 := Lib.hid (HB5.out.trans ((hd6.below _).mono HB5.out.size))
    have HX6 := Lib.hid (HX5.out.updrew hd6)
    have HJ66 := Lib.hid (HJ5.out.updrew hd6)
    clear hd6 C6
    go_wp2
    go_ret
    exact ⟨rfl, HB6.out⟩
end Go.Proofs.Ythgdficgjldobaa
