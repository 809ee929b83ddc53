/- ShallotTags: what the walk carries. -/
import Derived.Test.YtifgigpflfdmfaaU1
namespace Go.Proofs.Ytifgigpflfdmfaa
open Go.RowKit

def sA : ByteArray := ⟨#[97]⟩
def sB : ByteArray := ⟨#[98]⟩
/-- the block of the two keys -/
def Ky (w : World) (g : Nat) (ka kb : List UInt8) : Prop := ka.length = 32 ∧ kb.length = 32 ∧ w.heap[g]? = some (.cells ((ka ++ kb).map vb).toArray 29 (0, 0))
theorem Ky.lt {w : World} {g : Nat} {ka kb : List UInt8} (h : Ky w g ka kb) : g < w.heap.size := (Array.getElem?_eq_some_iff.1 h.2.2).1
theorem Ky.below {w w' : World} {g B : Nat} {ka kb : List UInt8} (h : Ky w g ka kb) (hb : Below B w w') (hg : g < B) : Ky w' g ka kb := ⟨h.1, h.2.1, (hb.block g hg).trans h.2.2⟩
theorem Ky.a {w : World} {g : Nat} {ka kb : List UInt8} (h : Ky w g ka kb) : Bs w w.heap.size (.slice (some ⟨g, 0, none⟩) 32 32) ka := by
  have h1 := h.1
  refine ⟨_, 32, by rw [h1], by omega, by unfold maxLen; omega, fun _ => ⟨_, 0, rfl, h.lt, fun j hj => ?_⟩⟩
  rw [Nat.zero_add, cell_of_row _ _ j _ _ _ h.2.2]
  simp [hj, List.getElem?_append_left, vb]
theorem Ky.b {w : World} {g : Nat} {ka kb : List UInt8} (h : Ky w g ka kb) : Bs w w.heap.size (.slice (some ⟨g, 32, none⟩) 32 32) kb := by
  have h1 := h.1
  have h2 := h.2.1
  refine ⟨_, 32, by rw [h2], by omega, by unfold maxLen; omega, fun _ => ⟨_, 32, rfl, h.lt, fun j hj => ?_⟩⟩
  rw [cell_of_row _ _ (32 + j) _ _ _ h.2.2]
  show ((List.map vb (ka ++ kb)).toArray)[32 + j]? = _
  have e : (ka ++ kb)[32 + j]? = some kb[j] := by rw [List.getElem?_append_right (by omega), show 32 + j - ka.length = j by omega, List.getElem?_eq_getElem hj]
  rw [List.getElem?_toArray, List.getElem?_map, e]; rfl
theorem rowK_two (secret : List UInt8) : rowK secret [sA, sB] 2 = deriveL secret sA ++ deriveL secret sB := by simp [rowK, zs]
theorem cs_two (w : World) : Cs (w.alloc (.cells #[.string sA, .string sB] 9)) (w.heap.size + 1) (.slice (some ⟨w.heap.size, 0, none⟩) 2 2) ([sA, sB].map Value.string) := by
  refine ⟨_, 2, rfl, Nat.le_refl _, by unfold maxLen; omega, fun _ => ⟨_, 0, rfl, by omega, fun j hj => ?_⟩⟩
  rw [Nat.zero_add, cell_of_row _ _ j _ _ (0, 0) (heap_alloc_new w _)]
  rcases (show j = 0 ∨ j = 1 by simp at hj; omega) with rfl | rfl <;> rfl
theorem trnL_parts (key : List UInt8) (l : List UInt8) {h : Nat} (hh : h ≤ l.length) : trnL key 0 (l.take h) ++ trnL key h (l.drop h) = trnL key 0 l := by
  have hl1 : (l.take h).length = h := by simp; omega
  apply List.ext_getElem
  · rw [List.length_append, trnL_len, trnL_len, trnL_len, List.length_take, List.length_drop]; omega
  · intro j h1 h2
    rw [trnL_len] at h2
    have e1 : ∀ m : List UInt8, ∀ d i : Nat, i < m.length → (trnL key d m)[i]? = some (m.getD i 0 ^^^ kb key (d + i)) := by
      intro m d i hi
      simp only [trnL, List.getElem?_map, List.getElem?_range hi, Option.map_some]
    apply Option.some_inj.1
    rw [← List.getElem?_eq_getElem, ← List.getElem?_eq_getElem, e1 l 0 j h2]
    by_cases hj : j < h
    · rw [List.getElem?_append_left (by rw [trnL_len, hl1]; exact hj), e1 _ 0 j (by rw [hl1]; exact hj)]
      rw [List.getD_eq_getElem?_getD, List.getD_eq_getElem?_getD, List.getElem?_take, if_pos hj]
    · have hd : (l.drop h).length = l.length - h := by simp
      rw [List.getElem?_append_right (by rw [trnL_len, hl1]; omega), trnL_len, hl1, e1 _ h (j - h) (by rw [hd]; omega)]
      rw [List.getD_eq_getElem?_getD, List.getD_eq_getElem?_getD, List.getElem?_drop, show h + (j - h) = j by omega, Nat.zero_add]
/-- append of bytes in an operation with a guard that lets it -/
theorem wpList_appGd {w : World} {ops : Array Oper} {rest : List Oper} {o : Oper} {a : Act} {Q : Exit → Act → World → Prop} (hw : Region.wanted o (yielded ops a.tmps) = true) (s x : Operand)
    (ho : o.op = .call { callee := .builtin .append, args := #[s, x], argTypes := #[22, 22] })
    {B B' : Nat} {v u : Value} {l m : List UInt8} (hs : a.eval s = v) (hown : Own w B v l) (hx : a.eval x = u) (hb : Bs w B' u m) (hsum : l.length + m.length ≤ 140737488355328) (hB : B ≤ w.heap.size)
    (h : ∀ v' w', Own w' B v' (l ++ m) → w.grownBy w' v.ownBlock → wpList Try.prog ops Q rest (a.put o.dst v') w') : wpList Try.prog ops Q (o :: rest) a w :=
  wpList_step fun K hK => by rw [if_pos hw]; exact wp_app s x ho hs hown hx hb hsum hB fun v' w' h1 h2 _ => hK _ _ (h v' w' h1 h2)
theorem shortL_ne1 (key b : List UInt8) : decide ([(1 : UInt8)] = shortL key b) = false := by
  refine decide_eq_false (fun e => ?_)
  have := congrArg List.length e
  rw [shortL_len] at this
  simp at this
theorem Bs.up {w w' : World} {v : Value} {l : List UInt8} (h : Bs w w.heap.size v l) (hb : Below w.heap.size w w') : Bs w' w'.heap.size v l := (h.below hb (Nat.le_refl _)).more hb.size
theorem rs1 {a : List UInt8} {u : Value} {w : World} (ha : Bs w w.heap.size u a) : Rs (w.alloc (.cells #[u] 22)) (w.heap.size + 1) (.slice (some ⟨w.heap.size, 0, none⟩) 1 1) [a] :=
  Rs.lit w [u] [a] rfl (by unfold maxLen; simp) (by
    intro j h h'
    match j, h, h' with
    | 0, _, _ => exact ha)
theorem Bs.al {w : World} {v : Value} {l : List UInt8} (h : Bs w w.heap.size v l) (o : Obj) : Bs (w.alloc o) (w.heap.size + 1) v l := (h.alloc (Nat.le_refl _) o).more (by omega)
theorem Bs.head {w : World} {B : Nat} {A : Option Addr} {n c k : Nat} {l : List UInt8} (h : Bs w B (.slice A n c) l) (hk : k ≤ n) :
    ∃ D, Bs w B (.slice D k c) (l.take k) ∧ ∀ W, (Instr.slice 22 (.slice A n c) none (some (.int .i64 (k : Int))) none).run Try.prog W = .ok (.slice D k c) W := by
  obtain ⟨A', c', hv, g1, g2, g3⟩ := h
  simp only [Value.slice.injEq] at hv
  obtain ⟨rfl, rfl, rfl⟩ := hv
  have hlen : (l.take k).length = k := by simp; omega
  obtain ⟨D, hD, hrun⟩ := cut_h (A := A) (n := l.length) (c := c) (h := k) (by omega)
  refine ⟨D, ⟨D, c, by rw [hlen], by rw [hlen]; omega, g2, fun hp => ?_⟩, hrun⟩
  rw [hlen] at hp
  obtain ⟨b, off, rfl, hlt, hc⟩ := g3 (by omega)
  refine ⟨b, off, by rw [hD hp], hlt, fun j hj => ?_⟩
  rw [hlen] at hj
  rw [hc j (by omega)]
  simp
theorem Bs.tail {w : World} {B : Nat} {A : Option Addr} {n c k : Nat} {l : List UInt8} (h : Bs w B (.slice A n c) l) (hk : k ≤ n) :
    ∃ D, Bs w B (.slice D (n - k) (c - k)) (l.drop k) ∧ ∀ W, (Instr.slice 22 (.slice A n c) (some (.int .i64 (k : Int))) none none).run Try.prog W = .ok (.slice D (n - k) (c - k)) W := by
  obtain ⟨A', c', hv, g1, g2, g3⟩ := h
  simp only [Value.slice.injEq] at hv
  obtain ⟨rfl, rfl, rfl⟩ := hv
  have hlen : (l.drop k).length = l.length - k := by simp
  have hc1 : l.length - k ≤ c - k := by omega
  have hc2 : c - k ≤ maxLen := by omega
  obtain ⟨D, hD, hrun⟩ := cut_l (A := A) (n := l.length) (c := c) (l := k) hk g1
  refine ⟨D, ⟨D, c - k, by rw [hlen], by rw [hlen]; exact hc1, hc2, fun hp => ?_⟩, hrun⟩
  rw [hlen] at hp
  have hp1 : k < l.length := by omega
  obtain ⟨b, off, rfl, hlt, hc⟩ := g3 (by omega)
  refine ⟨b, off + k, by rw [hD hp1]; simp [Addr.add_lit], hlt, fun j hj => ?_⟩
  rw [hlen] at hj
  have hj' : k + j < l.length := by clear hD hrun hc g3; omega
  rw [Nat.add_assoc, hc _ hj']
  simp
theorem trnL_get (key : List UInt8) (m : List UInt8) (d i : Nat) (hi : i < m.length) : (trnL key d m)[i]? = some (m.getD i 0 ^^^ kb key (d + i)) := by
  simp only [trnL, List.getElem?_map, List.getElem?_range hi, Option.map_some]
theorem trnL_twice (key : List UInt8) (l : List UInt8) : trnL key 0 (trnL key 0 l) = l := by
  apply List.ext_getElem?
  intro i
  by_cases hi : i < l.length
  · rw [trnL_get _ _ _ _ (by rw [trnL_len]; exact hi), List.getD_eq_getElem?_getD, trnL_get _ _ _ _ hi, Option.getD_some, List.getD_eq_getElem?_getD, List.getElem?_eq_getElem hi, Option.getD_some]
    congr 1
    rw [UInt8.xor_assoc, UInt8.xor_self, UInt8.xor_zero]
  · rw [List.getElem?_eq_none (by rw [trnL_len, trnL_len]; omega), List.getElem?_eq_none (by omega)]
theorem own_ne2 {w : World} {B g : Nat} {v : Value} {l : List UInt8} (h : Own w B v l) (hg : g < B) : v.ownBlock = none ∨ v.ownBlock ≠ some g := by
  cases hq : v.ownBlock with
  | none => exact .inl rfl
  | some j =>
    right
    intro e
    have h1 := (World.ownsRow.lt h j hq).1
    simp only [Option.some.injEq] at e
    omega
theorem own_ge {w : World} {B : Nat} {v : Value} {l : List UInt8} (h : Own w B v l) : ∀ j, v.ownBlock = some j → B ≤ j := fun j hj => (World.ownsRow.lt h j hj).1
theorem shl8 : ∀ r : Nat, r < 8 → ∃ p : UInt8, IntKind.u8.wrap (2 ^ r) = (p.toNat : Int) := by
  intro r h
  rcases (by omega : r = 0 ∨ r = 1 ∨ r = 2 ∨ r = 3 ∨ r = 4 ∨ r = 5 ∨ r = 6 ∨ r = 7) with rfl | rfl | rfl | rfl | rfl | rfl | rfl | rfl
  · exact ⟨1, by decide⟩
  · exact ⟨2, by decide⟩
  · exact ⟨4, by decide⟩
  · exact ⟨8, by decide⟩
  · exact ⟨16, by decide⟩
  · exact ⟨32, by decide⟩
  · exact ⟨64, by decide⟩
  · exact ⟨128, by decide⟩
theorem flip_val (y : UInt8) {r : Nat} (h : r < 8) : ∃ y2 : UInt8, bits .xor .u8 (y.toNat : Int) (IntKind.u8.wrap (2 ^ r)) = (y2.toNat : Int) := by
  obtain ⟨p, hp⟩ := shl8 r h
  rw [hp]
  exact ⟨y ^^^ p, b_xor y p⟩
theorem alloc_below {w w' : World} {o : Obj} (h : Below (w.alloc o).heap.size (w.alloc o) w') : Below w.heap.size w w' := ((Below.refl _ _).alloc (Nat.le_refl _) o).trans (h.mono (by simp))
/-- the message is cut to 2000 bytes -/
def Cut2 (M : List UInt8) (W : World) (s : Value) (wr : World) : Prop := W = wr ∧ ∃ A c, s = .slice A M.length c ∧ Bs W W.heap.size s M
theorem drew2_below {w w' : World} {o : Obj} (h : Below (w.alloc o).drew.drew.heap.size (w.alloc o).drew.drew w') : Below w.heap.size w w' :=
  alloc_below ((((Drew.refl (w.alloc o)).drewN 2).below _).trans h)
theorem drew2_bs {w : World} {B : Nat} {v : Value} {l : List UInt8} (h : Bs w B v l) : Bs w.drew.drew B v l := ((Drew.refl w).drewN 2).bs h
theorem drew2_rs {w : World} {B : Nat} {v : Value} {l : List (List UInt8)} (h : Rs w B v l) : Rs w.drew.drew B v l := ((Drew.refl w).drewN 2).rs h
theorem dec_sym (a b : List UInt8) : decide (a = b) = decide (b = a) := decide_eq_decide.2 ⟨Eq.symm, Eq.symm⟩
theorem cut2_of {w : World} {M : List UInt8} {D : Option Addr} {n c : Nat} (hl : M.length = n) (h : Bs w w.heap.size (.slice D n c) M) : Cut2 M w (.slice D n c) w := ⟨rfl, D, c, by rw [hl], h⟩
end Go.Proofs.Ytifgigpflfdmfaa
