/- Bytes that are turned in place. -/
import Derived.Test.YtifgigpflfdmfaaCopyB
import Derived.Laws.BitsAllLaws
import Derived.BigRegion
namespace Go.Proofs.Ytifgigpflfdmfaa
open Go.RowKit

theorem xor_val (a b : UInt8) : bits .xor .u8 (a.toNat : Int) (b.toNat : Int) = ((a ^^^ b).toNat : Int) := by
  rw [u8_xor_nat _ _ a.toNat_lt b.toNat_lt, UInt8.toNat_xor]

/-- bytes of the call's own, turned in place: what they are behind it does not matter -/
theorem over_any {l : List UInt8} {v : Value} {w : World} {B : Nat} (h : Own w B v l) (hl : l.length ≤ 281474976710656) :
    Calls Try.prog 37 #[v] w fun e w' => e = .returned (.tuple #[]) ∧ (∃ l', l'.length = l.length ∧ Own w' B v l') ∧ w.grownBy w' v.ownBlock := by
  obtain ⟨A, c, rfl⟩ := h.shape
  obtain ⟨n, hn⟩ : ∃ n, l.length = n := ⟨_, rfl⟩
  rw [hn] at h hl ⊢
  have HH := Lib.hid h
  have HN := Lib.hid hn
  clear h hn
  go_enter Try.func37, Try.ntmps37
  go_wp2
  go_loopw [2] (fun i wr => ∃ k : Nat, k ≤ n ∧ i = .int .i64 k ∧ Hid (∃ l', l'.length = n ∧ Own wr B (.slice A n c) l') ∧ Hid (w.grownBy wr (Value.slice A n c).ownBlock)) (fun i _ => n - (intOf i).toNat)
  case atStart => exact ⟨0, Nat.zero_le _, rfl, ⟨l, HN.out, HH.out⟩, World.grownBy.refl w _⟩
  case round =>
    obtain ⟨k, hk, rfl, hown, hgr⟩ := hrel
    by_cases hlt : k < n
    · obtain ⟨l', hl', ho⟩ := hown.out
      obtain ⟨g, rfl, _, hg2, hcell, hfrz, hset⟩ := ho.at_ (j := k) (by omega)
      obtain ⟨x, hx⟩ : ∃ x : UInt8, x = l'[k]'(by omega) := ⟨_, rfl⟩
      rw [← hx] at hcell
      have hxv : bits .xor .u8 (x.toNat : Int) 90 = ((x ^^^ 90).toNat : Int) := xor_val x 90
      have HXV := Lib.hid hxv
      have hfin : ∃ l', l'.length = n ∧ Own (wr.setCell ⟨g, k, none⟩ (.int .u8 ((x ^^^ 90).toNat : Int))) B (.slice (some ⟨g, 0, none⟩) n c) l' := ⟨l'.set k (x ^^^ 90), by simpa using hl', hset _⟩
      have HFIN := Lib.hid hfin
      have hgr2 : ∀ u, w.grownBy (wr.setCell ⟨g, k, none⟩ u) (some g) := fun u => ⟨hgr.out.os, hgr.out.tape, hgr.out.output, by have := hgr.out.size; simpa using this, fun j hj hne => (Below.heap_setCell wr ⟨g, k, none⟩ _ j (fun e => hne (by rw [e]))).trans (hgr.out.block j hj hne)⟩
      have HG2 := Lib.hid hgr2
      clear hset hx hfin hgr2 ho hown hgr hxv
      go_wp2
      go_roundw
      case rel => exact ⟨k + 1, by omega, by go_num, by rw [HXV.out]; exact HFIN.out, HG2.out _⟩
      case measure => simp [intOf]; omega
    · go_wp2
      go_end0
      exact ⟨rfl, hown.out, hgr.out⟩
end Go.Proofs.Ytifgigpflfdmfaa

namespace Go.Proofs.Ytifgigpflfdmfaa
open Go.RowKit

/-- place j of the first k lists -/
def xorAt (ls : List (List UInt8)) (j : Nat) : Nat → UInt8
  | 0 => 0
  | k + 1 => xorAt ls j k ^^^ (ls.getD k []).getD j 0
/-- have all lists the first one's length? -/
def xorOk (ls : List (List UInt8)) : Prop := ∀ l ∈ ls, l.length = (ls.getD 0 []).length
instance (ls : List (List UInt8)) : Decidable (xorOk ls) := by unfold xorOk; infer_instance
def xorE (ls : List (List UInt8)) : Int := if xorOk ls then 0 else 2
def xorR (ls : List (List UInt8)) : List UInt8 := if xorOk ls then (List.range (ls.getD 0 []).length).map fun j => xorAt ls j ls.length else []
/-- behind k lists and i places of the next one -/
def xorP (ls : List (List UInt8)) (n k i : Nat) : List UInt8 := (List.range n).map fun j => if j < i then xorAt ls j (k + 1) else xorAt ls j k
theorem xorP_len (ls : List (List UInt8)) (n k i : Nat) : (xorP ls n k i).length = n := by simp [xorP]
theorem xorP_at (ls : List (List UInt8)) {n k i : Nat} (h : i < n) : (xorP ls n k i)[i]'(by rw [xorP_len]; exact h) = xorAt ls i k := by simp [xorP]
theorem xorP_set (ls : List (List UInt8)) (n k i : Nat) : (xorP ls n k i).set i (xorAt ls i (k + 1)) = xorP ls n k (i + 1) := by
  apply List.ext_getElem (by simp [xorP_len])
  intro j h1 h2
  have hj : j < n := by simpa [xorP_len] using h2
  rw [List.getElem_set]
  simp only [xorP, List.getElem_map, List.getElem_range]
  by_cases e : i = j
  · subst e
    rw [if_pos rfl, if_pos (by omega)]
  · rw [if_neg e]
    by_cases h : j < i
    · rw [if_pos h, if_pos (by omega)]
    · rw [if_neg h, if_neg (by omega)]
theorem xorP_end (ls : List (List UInt8)) (n k i : Nat) (h : n ≤ i) : xorP ls n k i = xorP ls n (k + 1) 0 := by
  apply List.ext_getElem (by simp [xorP_len])
  intro j h1 h2
  have hj : j < n := by simpa [xorP_len] using h2
  simp only [xorP, List.getElem_map, List.getElem_range]
  rw [if_pos (by omega), if_neg (by omega)]
theorem xorP_zero (ls : List (List UInt8)) (n : Nat) : xorP ls n 0 0 = List.replicate n 0 := by
  apply List.ext_getElem (by simp [xorP_len])
  intro j h1 h2
  simp [xorP, xorAt]
theorem xorE_no {ls : List (List UInt8)} {k n : Nat} (hk : k < ls.length) (h0 : (ls.getD 0 []).length = n) (h : ls[k].length ≠ n) : xorE ls = 2 ∧ xorR ls = [] := by
  have : ¬ xorOk ls := fun ho => h (by rw [ho _ (List.getElem_mem hk), h0])
  exact ⟨if_neg this, if_neg this⟩
theorem xorE_yes {ls : List (List UInt8)} {n : Nat} (h0 : (ls.getD 0 []).length = n) (h : ∀ j (h : j < ls.length), ls[j].length = n) : xorE ls = 0 ∧ xorR ls = xorP ls n ls.length 0 := by
  have ho : xorOk ls := by
    intro l hl
    obtain ⟨j, hj, rfl⟩ := List.getElem_of_mem hl
    rw [h j hj, h0]
  refine ⟨if_pos ho, ?_⟩
  unfold xorR
  rw [if_pos ho, h0]
  simp [xorP]

theorem xor_none {v : Value} {w : World} {B : Nat} (hr : Rs w B v []) :
    Calls Try.prog 52 #[v] w fun e w' => e = .returned (.tuple #[.slice none 0 0, .int .i64 0]) ∧ w = w' := by
  obtain ⟨A, c, rfl, h1, h2, h3⟩ := hr
  go_enter Try.func52, Try.ntmps52
  go_wp2
  go_ret2
  exact ⟨rfl, rfl⟩

set_option maxHeartbeats 800000 in
theorem xor_some {ls : List (List UInt8)} {v : Value} {w : World} {B : Nat} (hr : Rs w B v ls) (hB : B ≤ w.heap.size) (hpos : 0 < ls.length) (hs : ∀ l ∈ ls, l.length ≤ 281474976710656) :
    Calls Try.prog 52 #[v] w fun e w' => ∃ u, e = .returned (.tuple #[u, .int .i64 (xorE ls)]) ∧ Own w' w.heap.size u (xorR ls) ∧ Below w.heap.size w w' := by
  obtain ⟨A, c, rfl, h1, h2, h3⟩ := hr
  unfold maxLen at h2
  obtain ⟨b, off, rfl, hbB, hc⟩ := h3 hpos
  clear h3
  obtain ⟨u0, hu0, A0, c0, rfl, g1, g2, _⟩ := hc 0 hpos
  rw [Nat.add_zero] at hu0
  have hlen0 := hs _ (List.getElem_mem hpos)
  obtain ⟨n, hn⟩ : ∃ n : Nat, n = ls[0].length := ⟨_, rfl⟩
  rw [← hn] at hu0 hlen0 g1
  have h0 : (ls.getD 0 []).length = n := by simp [hpos, hn]
  have H0 := Lib.hid h0; have HC := Lib.hid hc; have HS := Lib.hid hs
  clear hn h0 hc hs
  have hmk := run_make_row' (P := Try.prog) 22 5 (.int .u8 0) 1 Try.underlying22 u8info rfl .i64 .i64 n (by omega) (by omega)
  have hrow := World.rowIs_made w (.int .u8 0) n 5
  have hown0 : Own (w.alloc (.cells (madeCells #[Value.int .u8 0] n) 5)) w.heap.size (.slice (some ⟨w.heap.size, 0, none⟩) n n) (xorP ls n 0 0) :=
    Own.of_row (hrow.congr fun j hj => by simp [xorP, xorAt, hj, vb]) (Nat.le_refl _) (by unfold maxLen; omega) (xorP_len _ _ _ _)
  have hbel0 : Below w.heap.size w (w.alloc (.cells (madeCells #[Value.int .u8 0] n) 5)) := (Below.refl _ _).alloc (Nat.le_refl _) _
  have HO0 := Lib.hid hown0
  clear hown0 hrow
  have hne0 : ((ls.length : Int) == 0) = false := by simp; intro h; subst h; simp at hpos
  go_enter Try.func52, Try.ntmps52
  go_wp2
  clear hmk hne0
  go_loopw [19] (fun i wr => ∃ k : Nat, k ≤ ls.length ∧ i = .int .i64 k ∧ Below w.heap.size w wr ∧ Hid (Own wr w.heap.size (.slice (some ⟨w.heap.size, 0, none⟩) n n) (xorP ls n k 0)) ∧ Hid (∀ j (h : j < ls.length), j < k → ls[j].length = n)) (fun i _ => ls.length - (intOf i).toNat)
  case atStart => exact ⟨0, Nat.zero_le _, rfl, hbel0, HO0, fun j h h2 => absurd h2 (by omega)⟩
  case round =>
    obtain ⟨k, hk, rfl, hbel, hown, hall⟩ := hrel
    clear hbel0 HO0
    by_cases hlt : k < ls.length
    · obtain ⟨u, hu, hbs⟩ := HC.out k hlt
      have hu' := (hbel.cell (p := ⟨b, off + k, none⟩) (by show b < _; omega)).trans hu
      clear hu
      obtain ⟨Au, cu, rfl, q1, q2, q3⟩ := hbs
      unfold maxLen at q2
      have Q3 := Lib.hid q3; clear q3
      obtain ⟨m, hm⟩ : ∃ m : Nat, m = ls[k].length := ⟨_, rfl⟩
      rw [← hm] at hu' q1
      have HM := Lib.hid hm; clear hm
      by_cases hmn : m = n
      · subst hmn
        have hne : ((m : Int) != (m : Int)) = false := by simp
        go_wp2
        clear hne
        obtain ⟨wo, rfl⟩ : ∃ wo : World, wo = wr := ⟨_, rfl⟩
        go_loopw [30] (fun i wi => ∃ p : Nat, p ≤ m ∧ i = .int .i64 p ∧ Below w.heap.size w wi ∧ Hid (Own wi w.heap.size (.slice (some ⟨w.heap.size, 0, none⟩) m m) (xorP ls m k p))) (fun i _ => m - (intOf i).toNat)
        case atStart => exact ⟨0, Nat.zero_le _, rfl, hbel, hown⟩
        case round =>
          obtain ⟨p, hp, rfl, hbeli, howni⟩ := hrel
          by_cases hlt2 : p < m
          · obtain ⟨b2, o2, rfl, hb2, hc2⟩ := Q3.out (by rw [← HM.out]; omega)
            have hpk : p < ls[k].length := by rw [← HM.out]; exact hlt2
            have hsrc := (hbeli.cell (p := ⟨b2, o2 + p, none⟩) (by show b2 < _; omega)).trans (hc2 p hpk)
            obtain ⟨g, hgA, hg1, hg2, hcell, hfrz, hset⟩ := howni.out.at_ (j := p) (by rw [xorP_len]; exact hlt2)
            simp only [Option.some.injEq, Addr.mk.injEq, and_true] at hgA
            subst hgA
            rw [xorP_at ls hlt2] at hcell
            obtain ⟨x, hx⟩ : ∃ x : UInt8, x = xorAt ls p k := ⟨_, rfl⟩
            obtain ⟨y, hy⟩ : ∃ y : UInt8, y = ls[k][p] := ⟨_, rfl⟩
            rw [← hx] at hcell
            rw [← hy] at hsrc
            have hxy : xorAt ls p (k + 1) = x ^^^ y := by
              have e1 : (ls.getD k []).getD p 0 = ls[k][p] := by simp [hlt, hpk]
              rw [xorAt, e1, hx, hy]
            have hset2 : Own (wr.setCell ⟨w.heap.size, p, none⟩ (.int .u8 ((x ^^^ y).toNat : Int))) w.heap.size (.slice (some ⟨w.heap.size, 0, none⟩) m m) (xorP ls m k (p + 1)) := by
              rw [← xorP_set, hxy]
              exact hset _
            have HSET := Lib.hid hset2; have HXV := Lib.hid (xor_val x y)
            clear hset hset2 hx hy hxy hc2
            go_wp2
            go_roundw
            case rel => exact ⟨p + 1, by omega, by go_num, hbeli.setCell (Nat.le_refl _) _, by rw [HXV.out]; exact HSET⟩
            case measure => simp [intOf]; omega
          · have he : xorP ls m k p = xorP ls m (k + 1) 0 := xorP_end _ _ _ _ (by omega)
            have ho := howni.out
            rw [he] at ho
            have HO := Lib.hid ho
            clear he ho
            have hall2 : Hid (∀ j (h : j < ls.length), j < k + 1 → ls[j].length = m) := fun j h h2 => by
              rcases Nat.lt_or_ge j k with h3 | h3
              · exact hall.out j h h3
              · obtain rfl : j = k := by omega
                exact HM.out.symm
            go_wp2
            go_roundw
            case rel => exact ⟨k + 1, by omega, by go_num, hbeli, HO, hall2⟩
            case measure => simp [intOf]; omega
      · have hne : ((m : Int) != (n : Int)) = true := by rw [bne_iff_ne]; omega
        obtain ⟨hE, hR⟩ := xorE_no hlt H0.out (by rw [← HM.out]; exact hmn)
        have HE := Lib.hid hE; have HR := Lib.hid hR
        clear hmn hE hR
        go_wp2
        go_ret2
        exact ⟨_, by rw [HE.out]; rfl, by rw [HR.out]; exact Own.nil _ _, hbel⟩
    · obtain ⟨hE, hR⟩ := xorE_yes H0.out (fun j h => hall.out j h (by omega))
      have hkl : k = ls.length := by omega
      have ho := hown.out
      rw [hkl, ← hR] at ho
      have HO := Lib.hid ho; have HE := Lib.hid hE
      clear ho hE hR hkl hown
      go_wp2
      go_ret2
      exact ⟨_, by rw [HE.out]; rfl, HO.out, hbel⟩

theorem xor_all {ls : List (List UInt8)} {v : Value} {w : World} {B : Nat} (hr : Rs w B v ls) (hB : B ≤ w.heap.size) (hs : ∀ l ∈ ls, l.length ≤ 281474976710656) :
    Calls Try.prog 52 #[v] w fun e w' => ∃ u, e = .returned (.tuple #[u, .int .i64 (xorE ls)]) ∧ Own w' w.heap.size u (xorR ls) ∧ Below w.heap.size w w' := by
  rcases Nat.eq_zero_or_pos ls.length with h | h
  · obtain rfl : ls = [] := List.eq_nil_of_length_eq_zero h
    exact (xor_none hr).mono fun e w' h => ⟨_, h.1, Own.nil _ _, by rw [h.2]; exact Below.refl _ _⟩
  · exact xor_some hr hB h hs

end Go.Proofs.Ytifgigpflfdmfaa
