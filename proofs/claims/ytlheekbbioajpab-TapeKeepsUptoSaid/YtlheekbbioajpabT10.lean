/- The tape's NewTape and Draw. -/
import Derived.Test.YtlheekbbioajpabT9
import Derived.Test.YtlheekbbioajpabEqual
import Derived.Test.YtlheekbbioajpabRefCopyB
import Derived.Test.YtlheekbbioajpabOverT
import Derived.Test.YtlheekbbioajpabEqualsT
namespace Go.Proofs.Ytlheekbbioajpab
open Go.RowKit

theorem newtape_any {l : List UInt8} {v : Value} {w : World} {B : Nat} (hb : Bs w B v l) (hB : B ≤ w.heap.size) (hl : l.length ≤ 281474976710656) :
    Calls Try.prog 10 #[v] w fun e w' => ∃ g, e = .returned (.pointer (some ⟨g, 0, none⟩)) ∧ Cur w' w.heap.size w'.heap.size g 28 [] l 0 ∧ Below w.heap.size w w' := by
  have C := Lib.hid (newcursor_any hb hB hl)
  obtain ⟨A, c, rfl⟩ := hb.shape
  clear hb
  go_enter Try.func10, Try.ntmps10
  go_wp2_with fail
  refine (C.out).mono ?_
  rintro e w1 ⟨g, rfl, hcu, hb1⟩
  obtain ⟨A1, c1, h1, h2, h3, h4, h5, h6⟩ := hcu
  have hz1 := hb1.size
  obtain ⟨k0, k1⟩ := two_cells h6
  have hcur : Cur (w1.alloc (.cells #[.slice A1 l.length c1, .int .i64 0] 28)) w.heap.size (w1.alloc (.cells #[.slice A1 l.length c1, .int .i64 0] 28)).heap.size w1.heap.size 28 [] l 0 :=
    ⟨A1, c1, hz1, by simp, Nat.le_refl _, h4.alloc _, fun j hj => by have := (h4.lt_size j hj).2; simp; omega, heap_alloc_new w1 _⟩
  have HCUR := Lib.hid hcur
  have HB1 := Lib.hid (hb1.alloc hz1 (.cells #[.slice A1 l.length c1, .int .i64 0] 28))
  have k1' : w1.cell? ⟨g, 1, none⟩ = some (.int .i64 0) := k1
  clear hcur h4 h5 h6 hb1 k1
  go_wp2
  go_ret
  exact ⟨_, rfl, HCUR.out, HB1.out⟩

theorem draw_tape {l : List UInt8} {w : World} {B E g k : Nat} {T : TypeId} {ex : List Value} {n : Int} (h : Cur w B E g T ex l k) (hk : k ≤ l.length) (hl : l.length ≤ 281474976710656) (hn : (l.length : Int) - (k : Int) < n) :
    Calls Try.prog 13 #[.pointer (some ⟨g, 0, none⟩), .int .i64 n] w fun e w' => e = .returned (.tuple #[.slice none 0 0, .int .i64 8]) ∧ Drew w w' := by
  have C := Lib.hid (left_any h hk hl)
  clear h
  go_enter Try.func13, Try.ntmps13
  go_wp2_with fail
  refine (C.out).mono ?_
  rintro e w1 ⟨rfl, hd⟩
  go_wp2
  go_ret2
  exact ⟨rfl, hd⟩
theorem draw_neg {l : List UInt8} {w : World} {B E g k : Nat} {T : TypeId} {ex : List Value} {n : Int} (h : Cur w B E g T ex l k) (hk : k ≤ l.length) (hl : l.length ≤ 281474976710656) (hn : n < 0) :
    Calls Try.prog 13 #[.pointer (some ⟨g, 0, none⟩), .int .i64 n] w fun e w' => e = .returned (.tuple #[.slice none 0 0, .int .i64 1]) ∧ Drew w w' := by
  have C := Lib.hid (left_any h hk hl)
  have hd : decide ((l.length : Int) - (k : Int) < n) = false := by simp; omega
  clear h
  go_enter Try.func13, Try.ntmps13
  go_wp2_with fail
  refine (C.out).mono ?_
  rintro e w1 ⟨rfl, hd1⟩
  have C2 := Lib.hid (take_neg (w := w1) (g := g) hn)
  go_wp2_with fail
  refine (C2.out).mono ?_
  rintro e w2 ⟨rfl, rfl⟩
  go_wp2
  go_ret2
  exact ⟨rfl, hd1⟩
theorem draw_ok {l : List UInt8} {w : World} {B E g k N : Nat} {T : TypeId} {ex : List Value} (h : Cur w B E g T ex l k) (hl : l.length ≤ 281474976710656) (hN : k + N ≤ l.length) :
    Calls Try.prog 13 #[.pointer (some ⟨g, 0, none⟩), .int .i64 (N : Int)] w fun e w' => ∃ u, e = .returned (.tuple #[u, .int .i64 0]) ∧ Own w' w.heap.size u ((l.drop k).take N) ∧ Cur w' B E g T ex l (k + N) ∧ w.grownBy w' (some g) := by
  have C := Lib.hid (left_any h (by omega) hl)
  have HH := Lib.hid h
  have hd : decide ((l.length : Int) - (k : Int) < (N : Int)) = false := by simp; omega
  clear h
  go_enter Try.func13, Try.ntmps13
  go_wp2_with fail
  refine (C.out).mono ?_
  rintro e w1 ⟨rfl, n1, rfl⟩
  have C2 : Hid (Calls Try.prog 37 #[.pointer (some ⟨g, 0, none⟩), .int .i64 (N : Int)] (w.drewN n1) fun e w' => ∃ u, e = .returned (.tuple #[u, .int .i64 0]) ∧ Own w' w.heap.size u ((l.drop k).take N) ∧ Cur w' B E g T ex l (k + N) ∧ w.grownBy w' (some g)) :=
    Lib.hid ((take_ok (N := N) (HH.out.grown (r := none) ⟨rfl, rfl, rfl, Nat.le_refl _, fun _ _ _ => rfl⟩ (by simp) : Cur (w.drewN n1) B E g T ex l k) hl hN).mono fun e w' ⟨u, h1, h2, h3, h4⟩ => ⟨u, h1, h2, h3, grew_trans (⟨rfl, rfl, rfl, Nat.le_refl _, fun _ _ _ => rfl⟩ : w.grownBy (w.drewN n1) (some g)) h4⟩)
  go_wp2_with fail
  refine (C2.out).mono ?_
  rintro e w2 ⟨u, rfl, ho, hc, hg⟩
  have HO := Lib.hid ho; have HC := Lib.hid hc; have HG := Lib.hid hg
  clear ho hc hg
  go_wp2
  go_ret2
  exact ⟨u, rfl, HO.out, HC.out, HG.out⟩
end Go.Proofs.Ytlheekbbioajpab
