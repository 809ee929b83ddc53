/- words of the reference. -/
import Derived.Test.YthgdficgjldobaaB6
import Derived.Test.YthgdficgjldobaaCopyB
namespace Go.Proofs.Ythgdficgjldobaa
open Go.RowKit

/-- v is a slice of the call's own that holds the words l -/
def OwnW (w : World) (B : Nat) (v : Value) (l : List UInt32) : Prop := w.ownsRow B 22 1 v l.length (l.map vw)
theorem u32info1 : (Try.prog.info? 22).map (fun i => (i.zero, i.size, i.bytes)) = some (some (.int .u32 0), 1, 4) := by kernel_rfl
theorem OwnW.nil (w : World) (B : Nat) : OwnW w B (.slice none 0 0) [] := World.ownsRow_nil w B _ _
theorem OwnW.below {w w' : World} {B : Nat} {v : Value} {l : List UInt32} (h : OwnW w B v l) (hb : Below w.heap.size w w') : OwnW w' B v l := by
  obtain ⟨h1, h2⟩ := h
  refine ⟨h1, ?_⟩
  rcases h2 with h2 | ⟨g, cap, cur, hv, hg, hh, r⟩
  · exact .inl h2
  · exact .inr ⟨g, cap, cur, hv, hg, (hb.block g ((Array.getElem?_eq_some_iff.1 hh).1)).trans hh, r⟩
theorem OwnW.more {w : World} {B B' : Nat} {v : Value} {l : List UInt32} (h : OwnW w B v l) (hB : B' ≤ B) : OwnW w B' v l :=
  ⟨h.1, by
    rcases h.2 with h2 | ⟨g, cap, cur, hv, hg, r⟩
    · exact .inl h2
    · exact .inr ⟨g, cap, cur, hv, Nat.le_trans hB hg, r⟩⟩
theorem OwnW.shape {w : World} {B n : Nat} {v : Value} {l : List UInt32} (h : OwnW w B v l) (hn : l.length = n) : ∃ A c, v = .slice A n c := by
  subst hn
  rcases h.2 with ⟨rfl, h0⟩ | ⟨g, cap, cur, rfl, _⟩
  · exact ⟨_, _, by rw [h0]⟩
  · exact ⟨_, _, rfl⟩
theorem OwnW.lt {w : World} {B : Nat} {v : Value} {l : List UInt32} (h : OwnW w B v l) {k : Nat} (hk : v.ownBlock = some k) : B ≤ k ∧ k < w.heap.size := World.ownsRow.lt h k hk
theorem OwnW.at_ {w : World} {B n c j : Nat} {A : Option Addr} {l : List UInt32} (h : OwnW w B (.slice A n c) l) (hj : j < l.length) :
    ∃ g, A = some ⟨g, 0, none⟩ ∧ B ≤ g ∧ g < w.heap.size ∧ w.cell? ⟨g, j, none⟩ = some (.int .u32 ((gw l j).toNat : Int)) ∧ w.frozen? ⟨g, j, none⟩ = false ∧
      ∀ x : UInt32, OwnW (w.setCell ⟨g, j, none⟩ (.int .u32 (x.toNat : Int))) B (.slice A n c) (l.set j x) := by
  rcases h.2 with ⟨hv, hn⟩ | ⟨g, cap, cur, hv, hg, hh, hnc, hcm, hsz, htk⟩
  · omega
  · simp only [Value.slice.injEq] at hv
    obtain ⟨rfl, rfl, rfl⟩ := hv
    have hlt : g < w.heap.size := (Array.getElem?_eq_some_iff.1 hh).1
    refine ⟨g, rfl, hg, hlt, ?_, frozen_of_row w g j cur _ hh, fun x => ?_⟩
    · have h2 := World.ownsRow.cellAt h j (by omega)
      rw [h2, ← gw_at hj]
      simp [vw, hj]
    · have h3 := (World.ownsRow.stored h j (vw x)).1
      unfold OwnW
      rw [List.length_set, List.map_set]
      exact h3
/-- append of words that a slice holds -/
theorem wpList_appW {w : World} {ops : Array Oper} {rest : List Oper} {o : Oper} {a : Act} {Q : Exit → Act → World → Prop} (hgd : o.guard = none) (s x : Operand)
    (ho : o.op = .call { callee := .builtin .append, args := #[s, x], argTypes := #[73, 73] })
    {B : Nat} {v : Value} {l m : List UInt32} (hs : a.eval s = v) (hown : OwnW w B v l) (ad : Addr) (n c : Nat) (hx : a.eval x = .slice (some ad) n c) (hn : m.length = n) (hcell : ∀ j (h : j < m.length), w.cell? (ad.add j) = some (vw m[j])) (hsum : l.length + n ≤ 1048576) (hB : B ≤ w.heap.size)
    (h : ∀ v' w', OwnW w' B v' (l ++ m) → w.grownBy w' v.ownBlock → wpList Try.prog ops Q rest (a.put o.dst v') w') : wpList Try.prog ops Q (o :: rest) a w := by
  obtain ⟨i, hi, hz0, hz1, hz2⟩ := info_parts u32info1
  refine wpList_append_own w hgd s x 73 ho B 22 i (.int .u32 0) 1 4 Try.underlying73 hi hz0 hz1 hz2 rfl (by omega) v l.length (l.map vw) hs hown ad n c (m.map vw) hx (by rw [List.length_map]; omega) ?_ (vw_one m) ?_ ?_ hB ?_
  · intro j y hy
    rw [List.getElem?_map] at hy
    obtain ⟨z, hz, rfl⟩ := Option.map_eq_some_iff.1 hy
    obtain ⟨hj, rfl⟩ := List.getElem?_eq_some_iff.1 hz
    exact hcell j hj
  · unfold maxLen; omega
  · omega
  · intro v' w' hown' hg _
    refine h v' w' ?_ hg
    unfold OwnW
    rw [List.length_append, List.map_append, hn]
    exact hown'

set_option maxRecDepth 100000 in
set_option maxHeartbeats 4000000 in
theorem words_any {b : List UInt8} {v : Value} {w : World} {B n : Nat} (hb : Bs w B v b) (hB : B ≤ w.heap.size) (hl : b.length = 4 * n) (hn : n ≤ 100) :
    Calls Try.prog 37 #[v] w fun e w' => ∃ u, e = .returned u ∧ OwnW w' w.heap.size u (wds b n) ∧ Below w.heap.size w w' := by
  have HBV := Lib.hid hb; have HL := Lib.hid hl
  obtain ⟨m, hm⟩ : ∃ m, m = b.length := ⟨_, rfl⟩
  obtain ⟨A, c, rfl⟩ := hb.shape
  have hml : m = 4 * n := by rw [hm, hl]
  have HM := Lib.hid hml
  rw [← hm]
  have HBV : Hid (Bs w B (.slice A m c) b) := Lib.hid (by rw [hm]; exact HBV.out)
  clear hb hl hm hml
  go_enter Try.func37, Try.ntmps37
  go_wp2_with fail
  go_loopw [3, 4] (fun s i wr => ∃ k : Nat, k ≤ n ∧ i = .int .i64 (4 * (k : Int)) ∧ Hid (OwnW wr w.heap.size s (wds b k)) ∧ Hid (Below w.heap.size w wr)) (fun _ i _ => 4 * n - (intOf i).toNat)
  case atStart => exact ⟨0, Nat.zero_le _, rfl, Lib.hid (OwnW.nil _ _), Lib.hid (Below.refl _ _)⟩
  case round =>
    obtain ⟨k, hk, rfl, ho, hbe⟩ := hrel
    obtain ⟨AS, cS, rfl⟩ := ho.out.shape (n := k) (wds_len b k)
    have hw3 : IntKind.i64.wrap (4 * (k : Int) + 3) = 4 * (k : Int) + 3 := IntWalk.i64_in _ (by omega)
    have hw4 : IntKind.i64.wrap (4 * (k : Int) + 4) = 4 * (k : Int) + 4 := IntWalk.i64_in _ (by omega)
    by_cases hlt : k < n
    · have hI : 4 * (k : Int) + 3 < (m : Int) := by have := HM.out; omega
      have C := refget_little (K := 4) (a := 4 * k) (by omega) (by omega) (HBV.out.below hbe.out hB) (by have := HL.out; omega)
      rw [show ((4 * k : Nat) : Int) = 4 * (k : Int) by omega, show ((4 : Nat) : Int) = 4 from rfl, wd_val] at C
      have C := Lib.hid C
      have hc : IntKind.u32.wrap ((wd b k).toNat : Int) = ((wd b k).toNat : Int) := IntWalk.u32_in _ (by have := (wd b k).toNat_lt; omega)
      obtain ⟨x, hx⟩ : ∃ x, x = wd b k := ⟨_, rfl⟩
      rw [← hx] at C hc
      have HX := Lib.hid hx
      have O2 : Hid (OwnW (wr.alloc (.cells #[.int .u32 (x.toNat : Int)] 22)) w.heap.size (.slice AS k cS) (wds b k)) := Lib.hid (ho.out.below ((Below.refl _ _).alloc (Nat.le_refl _) _))
      have HC : Hid (∀ j (h : j < [x].length), (wr.alloc (.cells #[.int .u32 (x.toNat : Int)] 22)).cell? ((⟨wr.heap.size, 0, none⟩ : Addr).add j) = some (vw [x][j])) := Lib.hid (fun j h => by
        obtain rfl : j = 0 := by simpa using h
        exact cell_new wr (.int .u32 (x.toNat : Int)) 22)
      have hz := hbe.out.size
      have HBA := Lib.hid (hbe.out.alloc hz (.cells #[.int .u32 (x.toNat : Int)] 22))
      clear hx ho
      go_wp2_with fail
      with_reducible refine (C.out).mono ?_
      rintro e2 w2 ⟨rfl, rfl⟩
      clear C
      go_wp2_with (at_builtin; with_reducible refine wpList_appW rfl (.tmp 20) (.tmp 23) rfl rfl O2.out _ 1 1 rfl rfl HC.out (by rw [wds_len]; omega) (by simp; omega) ?_)
      intro v3 w3 ho3 hg3
      have HB3 := Lib.hid (HBA.out.grown hg3 HBA.out.size (fun q hq => by have := (O2.out.lt hq).1; omega))
      have HO3 : Hid (OwnW w3 w.heap.size v3 (wds b (k + 1))) := Lib.hid (by rw [wds_succ, ← HX.out]; exact ho3)
      clear ho3 hg3 O2 HC HBA hbe
      go_wp2
      go_roundw
      case rel => exact ⟨k + 1, by omega, by go_num, HO3, HB3⟩
      case measure => simp [intOf]; omega
    · have hI : ¬ 4 * (k : Int) + 3 < (m : Int) := by have := HM.out; omega
      have hkn : k = n := by omega
      have HO := Lib.hid (show OwnW wr w.heap.size (.slice AS k cS) (wds b n) by rw [← hkn]; exact ho.out)
      clear hkn ho
      go_wp2
      go_ret
      exact ⟨_, rfl, HO.out, hbe.out⟩
end Go.Proofs.Ythgdficgjldobaa
