/- Short tags, and their check. -/
import Derived.Test.YtifgigpflfdmfaaRefTag
namespace Go.Proofs.Ytifgigpflfdmfaa
open Go.RowKit

def shortL (key b : List UInt8) : List UInt8 := (tagL key b).take 16
theorem shortL_len (key b : List UInt8) : (shortL key b).length = 16 := by simp [shortL, tagL_len]
theorem made16 : madeCells #[Value.int .u8 0] 16 = ((zs 16).map vb).toArray := by
  apply Array.toList_inj.1
  rw [toList_madeCells_one]
  simp [zs, vb]
theorem splice16 (l : List UInt8) (h : l.length = 16) : splice ((zs 16).map vb) 0 (l.map vb) = l.map vb := by
  simp only [splice, zs, List.take_zero, List.nil_append, List.length_map, Nat.zero_add, List.map_replicate, List.drop_replicate, h, Nat.sub_self, List.replicate_zero, List.append_nil]

set_option maxRecDepth 100000 in
set_option maxHeartbeats 1600000 in
theorem shorten_any {l : List UInt8} (hl : l.length = 32) (w : World) :
    Calls Try.prog 42 #[arr32 l] w fun e w' => ∃ u, e = .returned u ∧ Own w' w.heap.size u (l.take 16) ∧ Below w.heap.size w w' := by
  obtain ⟨cs, hcs⟩ : ∃ cs : Array Value, cs = (l.map vb).toArray := ⟨_, rfl⟩
  have hv : arr32 l = .agg cs := by rw [hcs]; rfl
  rw [hv]
  have hmk := run_make_row' (P := Try.prog) 22 5 (.int .u8 0) 1 Try.underlying22 u8info rfl .i64 .i64 16 (by omega) (by omega)
  rw [made16] at hmk
  obtain ⟨cur, hcur⟩ : ∃ cur, cur = (zs 16).map vb := ⟨_, rfl⟩
  rw [← hcur] at hmk
  have hmk2 : ∀ W, (Instr.makeSlice 22 (.int .i64 16) (.int .i64 16)).run Try.prog W = .ok (.slice (some ⟨W.heap.size, 0, none⟩) 16 16) (W.alloc (.cells cur.toArray 5)) := hmk
  have hb0 : Below w.heap.size w ((w.alloc (.cells cs 29)).alloc (.cells cur.toArray 5)) := ((Below.refl _ _).alloc (Nat.le_refl _) _).alloc (by simp) _
  have hr0 : ((w.alloc (.cells cs 29)).alloc (.cells cur.toArray 5)).heap[w.heap.size + 1]? = some (.cells cur.toArray 5 (0, 0)) := heap_alloc2_new w _ _
  have ht0 : Bw ((w.alloc (.cells cs 29)).alloc (.cells cur.toArray 5)) w.heap.size 29 l := by
    show _ = _
    rw [← hcs]
    exact (heap_alloc_old _ _ (by simp)).trans (heap_alloc_new w _)
  obtain ⟨X, hX⟩ : ∃ X, X = (l.take 16).map vb := ⟨_, rfl⟩
  have hXl : X.length = 16 := by rw [hX, List.length_map, List.length_take, hl]; rfl
  have hX1 : Hid (∀ v ∈ X, v.oneCell' = true) := by rw [hX]; exact vb_one _
  have hcl : cur.length = 16 := by rw [hcur]; simp [zs]
  have hsrc : Hid (0 < X.length → ∀ (j : Nat) (v : Value), X[j]? = some v → cs[j]? = some v) := by
    show _ → _
    intro _ j v hv
    rw [hX, List.map_take, List.getElem?_take] at hv
    split at hv
    · rw [hcs]; simpa using hv
    · cases hv
  have hfin : Hid (splice cur 0 X = (l.take 16).map vb) := by
    show _ = _
    rw [hcur, hX, splice16 _ (by simp [hl])]
  have hlt : Hid ((l.take 16).length = 16) := by show _ = _; simp [hl]
  have cutI : ∀ W, (Instr.sliceAt 29 (.pointer (some ⟨w.heap.size, 0, none⟩)) none none none).run Try.prog W = .ok (.slice (some ⟨w.heap.size, 0, none⟩) 32 32) W := fun W => cut32_all W
  have HB0 := Lib.hid hb0; have HR0 := Lib.hid hr0; have HXL := Lib.hid hXl; have HCL := Lib.hid hcl
  clear hmk hb0 hr0 ht0 hX hXl hcl hcur hv hcs
  go_enter Try.func42, Try.ntmps42
  go_wp2_with (with_reducible refine wpList_copy_splice rfl (.tmp 5) (.tmp 6) 22 22 rfl 5 Try.underlying22 u8size _ _ _ _ _ _ rfl rfl (w.heap.size + 1) 0 _ 5 HR0.out X ?_ ?_ ?_ ?_ w.heap.size w HB0.out (by omega) ?_)
  · rw [HXL.out]; rfl
  · exact hsrc.out
  · rw [HXL.out, HCL.out]; omega
  · exact hX1.out
  · intro w2 hrow2 hb2
    have hown : Own w2 w.heap.size (.slice (some ⟨w.heap.size + 1, 0, none⟩) 16 16) (l.take 16) := by
      have h : Bw w2 (w.heap.size + 1) 5 (l.take 16) := by show _ = _; rw [← hfin.out]; exact hrow2.out
      have h2 := h.own (B := w.heap.size) (by omega) (by rw [hlt.out]; unfold maxLen; omega)
      rw [hlt.out] at h2
      exact h2
    have HO := Lib.hid hown; have HB2 := Lib.hid hb2
    clear hown hrow2 hb2
    go_wp2
    go_ret
    exact ⟨_, rfl, HO.out, HB2.out⟩

theorem short_any {key : List UInt8} {ls : List (List UInt8)} {v u : Value} {w : World} {B : Nat} (hb : Bs w B v key) (hr : Rs w B u ls) (hB : B ≤ w.heap.size) (hlen : key.length ≤ 1152921504606846000) (hlen2 : ls.flatten.length ≤ 1152921504606845000) :
    Calls Try.prog 11 #[v, u] w fun e w' => ∃ x, e = .returned x ∧ Own w' w.heap.size x (shortL key ls.flatten) ∧ Below w.heap.size w w' := by
  have CT := Lib.hid (tag_any hb hr hB hlen hlen2)
  obtain ⟨F, hF⟩ : ∃ F, F = ls.flatten := ⟨_, rfl⟩
  rw [← hF] at CT ⊢
  clear hF hb hr
  go_enter Try.func11, Try.ntmps11
  go_wp2_with fail
  with_reducible refine (CT.out).mono ?_
  rintro e1 w1 ⟨rfl, hb1⟩
  have CS := Lib.hid (shorten_any (tagL_len key F) w1)
  have HB1 := Lib.hid hb1
  clear hb1
  go_wp2_with fail
  with_reducible refine (CS.out).mono ?_
  rintro e2 w2 ⟨x, rfl, hx0, hb2⟩
  have hx : Own w2 w1.heap.size x (shortL key F) := hx0
  clear hx0
  obtain ⟨Ax, cx, rfl⟩ := hx.shapeN (shortL_len key F)
  have HX := Lib.hid (hx.more HB1.out.size)
  have HB2 := Lib.hid (HB1.out.trans (hb2.mono HB1.out.size))
  clear hx hb2
  go_wp2
  go_ret
  exact ⟨_, rfl, HX.out, HB2.out⟩
theorem check_any {key tag : List UInt8} {ls : List (List UInt8)} {v t u : Value} {w : World} {B : Nat} (hb : Bs w B v key) (ht : Bs w B t tag) (hr : Rs w B u ls) (hB : B ≤ w.heap.size) (hlen : key.length ≤ 1152921504606846000) (hlen2 : ls.flatten.length ≤ 1152921504606845000) :
    Calls Try.prog 9 #[v, t, u] w fun e w' => e = .returned (.bool (decide (tag = shortL key ls.flatten))) ∧ Below w.heap.size w w' := by
  have CT := Lib.hid (short_any hb hr hB hlen hlen2)
  obtain ⟨F, hF⟩ : ∃ F, F = ls.flatten := ⟨_, rfl⟩
  rw [← hF] at CT ⊢
  obtain ⟨At, ct, hte⟩ := ht.shape
  subst hte
  have HT := Lib.hid ht
  obtain ⟨z, hz⟩ : ∃ z, z = decide (tag = shortL key F) := ⟨_, rfl⟩
  rw [← hz]
  have HZ := Lib.hid hz
  clear hF hb hr ht hz
  go_enter Try.func9, Try.ntmps9
  go_wp2_with fail
  with_reducible refine (CT.out).mono ?_
  rintro e1 w1 ⟨x, rfl, hx, hb1⟩
  obtain ⟨Ax, cx, rfl⟩ := hx.shapeN (shortL_len key F)
  have CS := same_any (HT.out.below hb1 hB) hx.bs
  rw [← HZ.out] at CS
  have HCS := Lib.hid CS; have HB1 := Lib.hid hb1
  clear CS hx hb1
  go_wp2_with fail
  refine (HCS.out).mono ?_
  rintro e2 w2 ⟨rfl, hd⟩
  have HB2 := Lib.hid (HB1.out.trans ((hd.below _).mono HB1.out.size))
  clear hd
  go_wp2
  go_ret
  exact ⟨rfl, HB2.out⟩
end Go.Proofs.Ytifgigpflfdmfaa
