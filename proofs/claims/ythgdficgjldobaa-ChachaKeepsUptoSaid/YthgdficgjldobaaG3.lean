/- Append to a row of bytes that others may share: what reads the same bytes stays as it was. -/
import Derived.Test.YthgdficgjldobaaG2
namespace Go.Proofs.Ythgdficgjldobaa
open Go.RowKit

/-- L and K agree as far as both reach -/
def Agree (L K : List UInt8) : Prop := ∀ j (h : j < L.length) (h' : j < K.length), L[j] = K[j]
theorem Agree.pre (l m : List UInt8) : Agree l (l ++ m) := fun j h _ => (List.getElem_append_left h).symm

theorem own_splice {w : World} {g n : Nat} {cur : Array Value} {l m L : List UInt8} {B2 : Nat} {v2 : Value} (hg : w.heap[g]? = some (.cells cur 5 (0, 0))) (hn : l.length = n) (hfit : n + m.length ≤ cur.size)
    (hl : cur.toList.take n = l.map vb) (ho : Own w B2 v2 L) (hb : v2.ownBlock = some g) (ha : Agree L (l ++ m)) :
    Own (w.setRow g (cur.toList.take n ++ m.map vb ++ cur.toList.drop (n + m.length)).toArray) B2 v2 L := by
  obtain ⟨h1, h2⟩ := ho
  refine ⟨h1, ?_⟩
  rcases h2 with ⟨rfl, _⟩ | ⟨g2, cap2, cur2, rfl, hbg2, hg2, hnc2, hcm2, hcs2, htk2⟩
  · simp [Value.ownBlock] at hb
  · simp only [Value.ownBlock, Option.some.injEq] at hb
    subst hb
    rw [hg] at hg2
    simp only [Option.some.injEq, Obj.cells.injEq] at hg2
    obtain ⟨rfl, _⟩ := hg2
    refine .inr ⟨g2, cap2, _, rfl, hbg2, setRow_heap w g2 cur _ 5 _ hg, hnc2, hcm2, ?_, ?_⟩
    · simp only [List.size_toArray, List.length_append, List.length_take, List.length_drop, List.length_map, Array.length_toList]
      omega
    · have hLs : L.length ≤ cur.toList.length := by
        have e := Array.length_toList (xs := cur)
        omega
      rw [Nat.mul_one] at htk2 ⊢
      apply List.ext_getElem?
      intro j
      rw [List.getElem?_take, List.getElem?_map]
      by_cases hj : j < L.length
      · rw [if_pos hj, List.getElem?_eq_getElem hj]
        have hc : cur.toList[j]? = some (vb L[j]) := by
          have h := congrArg (·[j]?) htk2
          simp only [List.getElem?_take, hj, if_true, List.getElem?_map, List.getElem?_eq_getElem hj, Option.map_some] at h
          exact h
        have hln : (cur.toList.take n).length = n := by rw [hl, List.length_map, hn]
        by_cases h1 : j < n
        · rw [List.getElem?_append_left (by rw [List.length_append, hln]; omega), List.getElem?_append_left (by rw [hln]; exact h1), List.getElem?_take, if_pos h1, hc]
          rfl
        · by_cases h2 : j < n + m.length
          · rw [List.getElem?_append_left (by rw [List.length_append, hln, List.length_map]; exact h2), List.getElem?_append_right (by rw [hln]; omega), hln, List.getElem?_map, List.getElem?_eq_getElem (by omega)]
            have e := ha j hj (by rw [List.length_append]; omega)
            rw [List.getElem_append_right (by omega)] at e
            simp only [Option.map_some, e, hn]
          · rw [List.getElem?_append_right (by rw [List.length_append, hln, List.length_map]; omega), List.length_append, hln, List.length_map, List.getElem?_drop, show n + m.length + (j - (n + m.length)) = j by omega, hc]
            rfl
      · rw [if_neg hj, List.getElem?_eq_none (by omega)]
        rfl

theorem run_app_same {w : World} {B B' : Nat} {v u : Value} {l m : List UInt8} {ty : TypeId} (hown : Own w B v l) (hb : Bs w B' u m) (hsum : l.length + m.length ≤ 140737488355328) (hB : B ≤ w.heap.size) :
    ∃ v' w', (Builtin.append_ #[28, 28] ty #[v, u]).run Try.prog w = .ok v' w' ∧ Own w' B v' (l ++ m) ∧ w.grownBy w' v.ownBlock ∧ (v'.ownBlock = v.ownBlock ∨ v'.ownBlock = some w.heap.size) ∧
      ∀ B2 v2 L, Own w B2 v2 L → (v2.ownBlock = none ∨ v2.ownBlock ≠ v.ownBlock ∨ Agree L (l ++ m)) → Own w' B2 v2 L := by
  obtain ⟨i, hi, hz0, hz1, hz2⟩ := info_parts u8info
  obtain ⟨A, c, rfl, h1, h2, h3⟩ := hb
  by_cases hm : m.length = 0
  · obtain rfl : m = [] := List.eq_nil_of_length_eq_zero hm
    refine ⟨v, w, ?_, by simpa using hown, World.grownBy.refl w _, .inl rfl, fun _ _ _ ho _ => ho⟩
    rcases hown.2 with ⟨rfl, _⟩ | ⟨g, cap, cur, rfl, _, _, hnc, _⟩
    · cases A <;> simp [Builtin.append_, run_underlying Try.underlying28, sizeOf, typeInfo, hi, Builtin.lenOf, Builtin.firstCells, loadCells, loadCellsFrom]
    · cases A <;> simp [Builtin.append_, run_underlying Try.underlying28, sizeOf, typeInfo, hi, Builtin.lenOf, Builtin.firstCells, hnc, storeCells, loadCells, loadCellsFrom]
  · obtain ⟨b, off, rfl, _, hc⟩ := h3 (by omega)
    have hnews : ∀ (j : Nat) (y : Value), (m.map vb)[j]? = some y → w.cell? ((⟨b, off, none⟩ : Addr).add j) = some y := fun j y hy => by
      rw [List.getElem?_map] at hy
      obtain ⟨z, hz, rfl⟩ := Option.map_eq_some_iff.1 hy
      obtain ⟨hj, rfl⟩ := List.getElem?_eq_some_iff.1 hz
      rw [add_none]; exact hc j hj
    obtain ⟨v', w', hrun, g1, g2, _, g3⟩ := run_append_own_at (P := Try.prog) w B 28 ty 5 i (.int .u8 0) 1 1 Try.underlying28 hi hz0 hz1 hz2 rfl (by omega) v l.length (l.map vb) hown
      ⟨b, off, none⟩ m.length c (m.map vb) (by simp) hnews (vb_one _) (by unfold maxLen; omega) (by omega) hB
    refine ⟨v', w', hrun, by unfold Own; rw [List.map_append, List.length_append]; exact g1, g2, g3, fun B2 v2 L ho hd => ?_⟩
    rcases hd with hd | hd | hd
    · exact ho.kept g2 (.inl hd)
    · exact ho.kept g2 (.inr hd)
    · by_cases hsame : v2.ownBlock = v.ownBlock
      · rcases hown.2 with ⟨rfl, _⟩ | ⟨g, cap, cur, rfl, hbg, hg, hnc, hcm, hcs, htake⟩
        · exact ho.kept g2 (.inl hsame)
        · rw [Nat.mul_one] at hcs htake
          by_cases hroom : l.length + m.length ≤ cap
          · have hr := run_append_room (P := Try.prog) w 28 ty 5 i Try.underlying28 hi g l.length cap cur hg ⟨b, off, none⟩ m.length c (m.map vb) (by rw [hz1]; simp) hnews (vb_one _) hroom (by rw [hz1, List.length_map]; omega)
            rw [hrun] at hr
            simp only [Result.ok.injEq] at hr
            obtain ⟨_, rfl⟩ := hr
            rw [hz1, Nat.mul_one, List.length_map]
            exact own_splice hg rfl (by omega) htake ho hsame hd
          · have holds : ∀ (j : Nat) (u : Value), (l.map vb)[j]? = some u → w.cell? ((⟨g, 0, none⟩ : Addr).add j) = some u := World.ownsRow.cells hown (g := g) rfl
            have hr := run_append_grow (P := Try.prog) w 28 ty 5 i (.int .u8 0) Try.underlying28 hi hz0 ⟨g, 0, none⟩ l.length cap (l.map vb) (by rw [hz1]; simp) holds ⟨b, off, none⟩ m.length c (m.map vb) (by rw [hz1]; simp) hnews (by omega) (by omega) (growslice_fits (by omega) (by rw [hz2]; omega))
            rw [hrun] at hr
            simp only [Result.ok.injEq] at hr
            obtain ⟨_, rfl⟩ := hr
            refine ho.kept (row := none) ⟨rfl, rfl, rfl, by simp, fun k hk _ => heap_alloc_old w.drew _ hk⟩ (.inr ?_)
            rw [hsame]
            simp [Value.ownBlock]
      · exact ho.kept g2 (.inr hsame)
end Go.Proofs.Ythgdficgjldobaa
