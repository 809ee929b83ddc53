/- Apart of rows that lie apart. -/
import Derived.Test.YthgdficgjldobaaD1
import Derived.Test.YthgdficgjldobaaG8
namespace Go.Proofs.Ythgdficgjldobaa
open Go.RowKit

theorem Dv.apart {w : World} {R B n : Nat} {v : Value} {ps : List (Value × List UInt8)} (h : Dv w R B v n ps) (h0 : 0 < n) (hB : B ≤ w.heap.size) (hn2 : n ≤ 1048576) (hl : ∀ p ∈ ps, p.2.length ≤ 140737488355000) :
    Calls Try.prog 33 #[v] w fun e w' => e = .returned (.bool true) ∧ Below B w w' := by
  have hlen := h.len
  have hrow := h.row
  rcases h.row.2 with ⟨_, h1⟩ | ⟨g, cap, cur, rfl, hg, hh, hnc, hcm, hsz, htk⟩
  · omega
  refine apart_list (ps := ps) hlen hB hn2 hl (fun r hr => ?_) h.acc.own (fun p hp => ?_) ((Array.getElem?_eq_some_iff.1 hh).1) (h.acc.dis.imp fun hp => hp.or) hnc hcm
  · have := hrow.cells (g := g) rfl r ps[r].1 (by simp [hr])
    rw [add_none, Nat.zero_add] at this
    exact this
  · rcases own_apart hrow (h.acc.own p hp) (by decide) with e | e
    · rw [e]; simp
    · exact e
end Go.Proofs.Ythgdficgjldobaa
