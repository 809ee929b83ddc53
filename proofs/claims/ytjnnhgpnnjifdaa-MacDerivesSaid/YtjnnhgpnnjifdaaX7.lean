/- The law MacDerives, walked. -/
import Derived.Test.YtjnnhgpnnjifdaaX6
namespace Go.Proofs.Ytjnnhgpnnjifdaa
open Go.RowKit

theorem own_cs {w : World} {B : Nat} {e : TypeId} {v : Value} {xs : List Value} (h : w.ownsRow B e 1 v xs.length xs) : Cs w w.heap.size v xs := by
  obtain ⟨_, h2⟩ := h
  rcases h2 with ⟨rfl, hn⟩ | ⟨g, cap, cur, rfl, hg, hh, hnc, hcm, hsz, htk⟩
  · have : xs = [] := List.eq_nil_of_length_eq_zero hn
    subst this
    exact ⟨none, 0, rfl, Nat.le_refl _, Nat.zero_le _, fun h => absurd h (by simp)⟩
  · refine ⟨_, _, rfl, hnc, hcm, fun _ => ⟨g, 0, rfl, (Array.getElem?_eq_some_iff.1 hh).1, fun j hj => ?_⟩⟩
    rw [Nat.zero_add, cell_of_row w g j cur _ _ hh]
    have h1 : (cur.toList.take (xs.length * 1))[j]? = xs[j]? := by rw [htk]
    rw [List.getElem?_take, if_pos (by omega)] at h1
    simpa [hj] using h1
/-- append of elements of at most 16 bytes -/
theorem wpList_appS {w : World} {ops : Array Oper} {rest : List Oper} {o : Oper} {a : Act} {Q : Exit → Act → World → Prop} (hgd : o.guard = none) (s x : Operand) {t e : TypeId}
    (ho : o.op = .call { callee := .builtin .append, args := #[s, x], argTypes := #[t, t] }) (ht : Try.prog.underlying t = some (.slice e)) {z : Value} {bytes : Nat}
    (hinfo : (Try.prog.info? e).map (fun i => (i.zero, i.size, i.bytes)) = some (some z, 1, bytes)) (hz : z.cells.size = 1) (hb1 : bytes ≤ 16)
    {B B' : Nat} {v u : Value} {n : Nat} {xs ms : List Value} (hs : a.eval s = v) (hown : w.ownsRow B e 1 v n xs) (hx : a.eval x = u) (hb : Cs w B' u ms) (hone : ∀ y ∈ ms, y.oneCell' = true) (hsum : n + ms.length ≤ 8796093022208) (hB : B ≤ w.heap.size)
    (h : ∀ v' w', w'.ownsRow B e 1 v' (n + ms.length) (xs ++ ms) → w.grownBy w' v.ownBlock → (v'.ownBlock = v.ownBlock ∨ v'.ownBlock = some w.heap.size) → wpList Try.prog ops Q rest (a.put o.dst v') w') : wpList Try.prog ops Q (o :: rest) a w := by
  obtain ⟨i, hi, hz0, hz1, hz2⟩ := info_parts hinfo
  refine wpList_plain hgd fun K hK => ?_
  have key : ∃ v' w', (Builtin.append_ #[t, t] o.type #[v, u]).run Try.prog w = .ok v' w' ∧ w'.ownsRow B e 1 v' (n + ms.length) (xs ++ ms) ∧ w.grownBy w' v.ownBlock ∧ (v'.ownBlock = v.ownBlock ∨ v'.ownBlock = some w.heap.size) := by
    obtain ⟨A, c, rfl, h1, h2, h3⟩ := hb
    by_cases hm : ms.length = 0
    · obtain rfl : ms = [] := List.eq_nil_of_length_eq_zero hm
      refine ⟨v, w, ?_, by simpa using hown, World.grownBy.refl w _, .inl rfl⟩
      rcases hown.2 with ⟨rfl, _⟩ | ⟨g, cap, cur, rfl, _, _, hnc, _⟩
      · cases A <;> simp [Builtin.append_, run_underlying ht, sizeOf, typeInfo, hi, Builtin.lenOf, Builtin.firstCells, loadCells, loadCellsFrom]
      · cases A <;> simp [Builtin.append_, run_underlying ht, sizeOf, typeInfo, hi, Builtin.lenOf, Builtin.firstCells, hnc, storeCells, loadCells, loadCellsFrom]
    · obtain ⟨b, off, rfl, _, hc⟩ := h3 (by omega)
      obtain ⟨v', w', hrun, g1, g2, _, g3⟩ := run_append_own_at (P := Try.prog) w B t o.type e i z 1 bytes ht hi hz0 hz1 hz2 hz (by omega) v n xs hown
        ⟨b, off, none⟩ ms.length c ms (by simp) (fun j y hy => by
          obtain ⟨hj, rfl⟩ := List.getElem?_eq_some_iff.1 hy
          rw [add_none]; exact hc j hj) hone (by unfold maxLen; omega) (Nat.le_trans (Nat.mul_le_mul hsum hb1) (by decide)) hB
      exact ⟨v', w', hrun, g1, g2, g3⟩
  obtain ⟨v', w', hrun, g1, g2, g3⟩ := key
  unfold Oper.wp execOp
  simp only [ho, resolve, invoke, builtin, Sem.run_bind, Sem.run_pure, Result.andThen_ok, List.map_toArray, List.map_cons, List.map_nil, hs, hx, hrun]
  exact hK _ _ (h v' w' g1 g2 g3)
theorem string_info : (Try.prog.info? 9).map (fun i => (i.zero, i.size, i.bytes)) = some (some (.string ByteArray.empty), 1, 16) := by kernel_rfl
theorem strings_one (ss : List ByteArray) : ∀ u ∈ ss.map Value.string, u.oneCell' = true := by
  intro u hu
  obtain ⟨x, _, rfl⟩ := List.mem_map.1 hu
  rfl
theorem rowK_at (secret : List UInt8) : ∀ (ss : List ByteArray) (k : Nat) (h : k < ss.length) (j : Nat), j < 32 → (rowK secret ss ss.length)[k * 32 + j]? = (deriveL secret ss[k])[j]? := by
  intro ss
  have e : rowK secret ss ss.length = (ss.map (deriveL secret)).flatten := by
    rw [rowK, List.take_length, Nat.sub_self, Nat.mul_zero]
    simp [zs]
  rw [e]
  clear e
  induction ss with
  | nil => intro k h; simp at h
  | cons s r ih =>
    intro k h j hj
    rw [List.map_cons, List.flatten_cons]
    cases k with
    | zero => rw [List.getElem?_append_left (by rw [deriveL_len]; omega)]; simp
    | succ k =>
      rw [List.getElem?_append_right (by rw [deriveL_len]; omega), deriveL_len, show (k + 1) * 32 + j - 32 = k * 32 + j by omega]
      exact ih k (by simpa using h) j hj
theorem rowK_range {secret : List UInt8} {ss : List ByteArray} {w : World} {g k : Nat} (h : k < ss.length) (hg : w.heap[g]? = some (.cells ((rowK secret ss ss.length).map vb).toArray 34 (0, 0))) : w.rangeAt g (k * 32) ((deriveL secret ss[k]).map vb) := by
  intro j v hv
  rw [cell_of_row w g _ _ _ _ hg]
  rw [List.getElem?_map] at hv
  have hj : j < 32 := by
    obtain ⟨z, hz, _⟩ := Option.map_eq_some_iff.1 hv
    obtain ⟨hj, _⟩ := List.getElem?_eq_some_iff.1 hz
    rw [deriveL_len] at hj
    exact hj
  rw [List.getElem?_toArray, List.getElem?_map, rowK_at secret ss k h j hj]
  exact hv
theorem range_below {w w' : World} {B g o : Nat} {cs : List Value} (h : w.rangeAt g o cs) (hb : Below B w w') (hB : g < B) : w'.rangeAt g o cs := fun j v hv => (hb.cell (p := ⟨g, o + j, none⟩) hB).trans (h j v hv)

set_option maxRecDepth 100000 in
set_option maxHeartbeats 4000000 in
theorem derives_walk {secret : List UInt8} {ss : List ByteArray} {v u : Value} {w : World} (hk : Bs w w.heap.size v secret) (hu : Cs w w.heap.size u (ss.map Value.string)) (hkl : secret.length ≤ 140737488351232) (hn : ss.length ≤ 8796093022000) (hs : ∀ s ∈ ss, s.size ≤ 140737488351232) :
    Calls Try.prog 4 #[v, u] w fun e w' => e = .returned (.bool true) ∧ Below w.heap.size w w' := by
  have CA := Lib.hid (awake3_any w)
  obtain ⟨AK, ck, rfl⟩ := hk.shape
  have HK := Lib.hid hk; have HU := Lib.hid hu; have HS := Lib.hid hs
  obtain ⟨AU, cU, rfl⟩ : ∃ A c, u = .slice A ss.length c := by
    obtain ⟨A, c, h, _⟩ := hu
    exact ⟨A, c, by rw [List.length_map] at h; exact h⟩
  clear hk hu hs
  go_enter Try.func4, Try.ntmps4
  go_wp2_with fail
  refine (CA.out).mono ?_
  rintro e0 w0 ⟨rfl, hb0⟩
  have HB0 := Lib.hid hb0
  clear hb0 CA
  have C1 := Lib.hid (copy_any (HK.out.below HB0.out (Nat.le_refl _)) HB0.out.size (by omega))
  go_wp2_with fail
  with_reducible refine (C1.out).mono ?_
  rintro e1 w1 ⟨u1, rfl, ho1, hb1⟩
  have HB1 := Lib.hid (HB0.out.trans (hb1.mono HB0.out.size))
  have Hk1 := Lib.hid ho1.bs
  obtain ⟨A1, c1, rfl⟩ := ho1.shape
  clear ho1 hb1 C1 HB0
  have HU1 := Lib.hid (HU.out.below HB1.out (Nat.le_refl _))
  have hem : (w1.alloc (.cells #[] 9)).ownsRow w1.heap.size 9 1 (.slice (some ⟨w1.heap.size, 0, none⟩) 0 0) 0 [] := World.ownsRow_made w1 #[] 0 (Nat.le_refl _) (Nat.zero_le _) rfl
  have HEM := Lib.hid hem
  have hal : Below w1.heap.size w1 (w1.alloc (.cells #[] 9)) := (Below.refl _ _).alloc (Nat.le_refl _) _
  have HXW := Lib.hid (HU1.out.below hal HB1.out.size)
  have HAL := Lib.hid hal
  clear hem hal
  go_wp2_with (at_builtin; refine wpList_appS rfl (.tmp 12) (.tmp 13) rfl Try.underlying37 string_info rfl (by omega) rfl HEM.out rfl HXW.out (strings_one _) (by simp; omega) (by simp) ?_)
  intro u2 w2 hown2 hg2 _
  have hb2 : Below w1.heap.size w1 w2 := grown_below HAL.out hg2 (by simp) HEM.out
  have hB2 := HB1.out.trans (hb2.mono HB1.out.size)
  have hown3 : w2.ownsRow w1.heap.size 9 1 u2 (ss.map Value.string).length (ss.map Value.string) := by simpa using hown2
  have hc2 := own_cs hown3
  obtain ⟨A2, c2, rfl⟩ : ∃ A c, u2 = .slice A ss.length c := by
    obtain ⟨A, c, h, _⟩ := hc2
    exact ⟨A, c, by rw [List.length_map] at h; exact h⟩
  have C3 := Lib.hid (derive_any ((Hk1.out.below hb2 (Nat.le_refl _)).more hb2.size) hc2 (Nat.le_refl _) hkl hn HS.out)
  have HB2 := Lib.hid hB2
  clear HXW HAL HEM hg2 hown2 hown3 hc2 hb2 hB2 HB1 HU1 Hk1
  go_wp2_with fail
  with_reducible refine (C3.out).mono ?_
  rintro e3 w3 ⟨g, rfl, hg1, hg2, hrow, hb3⟩
  have HB3 := Lib.hid (HB2.out.trans (hb3.mono HB2.out.size))
  have HROW := Lib.hid hrow
  clear C3 HB2 hb3 hrow hg1
  go_wp2_with fail
  go_loopw [23] (fun i wr => ∃ k : Nat, k ≤ ss.length ∧ i = .int .i64 k ∧ Hid (Below w3.heap.size w3 wr)) (fun i _ => ss.length - (intOf i).toNat)
  case atStart => exact ⟨0, Nat.zero_le _, rfl, Lib.hid (Below.refl _ _)⟩
  case round =>
    obtain ⟨k, hk, rfl, hbe⟩ := hrel
    by_cases hlt : k < ss.length
    · obtain ⟨b, off, rfl, hbB, hc⟩ : ∃ b off, AU = some ⟨b, off, none⟩ ∧ b < w.heap.size ∧ w.cell? ⟨b, off + k, none⟩ = some (.string ss[k]) := by
        obtain ⟨A', c', hv, _, _, h3⟩ := HU.out
        simp only [Value.slice.injEq] at hv
        obtain ⟨rfl, _, _⟩ := hv
        obtain ⟨b, off, rfl, hbB, hc⟩ := h3 (by rw [List.length_map]; omega)
        have h := hc k (by rw [List.length_map]; exact hlt)
        rw [List.getElem_map] at h
        exact ⟨b, off, rfl, hbB, h⟩
      have hbw := HB3.out.trans (hbe.out.mono HB3.out.size)
      have hcell := (hbw.cell (p := ⟨b, off + k, none⟩) hbB).trans hc
      obtain ⟨s, hs⟩ : ∃ s, s = ss[k] := ⟨_, rfl⟩
      have hsl : s.size ≤ 140737488351232 := by rw [hs]; exact HS.out _ (List.getElem_mem hlt)
      rw [← hs] at hcell
      obtain ⟨CS, hCS⟩ : ∃ CS, CS = (deriveL secret s).map vb := ⟨_, rfl⟩
      have hrg : wr.rangeAt g (k * 32) CS := by rw [hCS, hs]; exact range_below (rowK_range hlt HROW.out) hbe.out hg2
      have hCl : CS.length = 32 := by rw [hCS, List.length_map, deriveL_len]
      have hci : Hid ((Try.prog.info? 34).map (·.size) = some CS.length) := Lib.hid (by rw [hCl]; show _ = _; kernel_rfl)
      have EQ : ∀ W, (Op.equalIn 10000 34 (.agg CS.toArray) (.agg CS.toArray)).run Try.prog W = .ok true W := fun W => by rw [hCS]; exact eq_arr32 _ (deriveL_len _ _) W
      have CD : Hid (Calls Try.prog 25 #[.slice AK secret.length ck, .string s] wr.drew fun e w' => e = .returned (.agg CS.toArray) ∧ Below wr.heap.size wr w') := Lib.hid (by
        have hd : Drew wr wr.drew := (Drew.refl wr).drewN 1
        have h := refderive_any (s := s) (w := wr.drew) (hd.bs (HK.out.below hbw (Nat.le_refl _))) hbw.size (by omega) (by omega)
        rw [hCS]
        exact h.mono fun e w' hh => ⟨hh.1, (hd.below _).trans hh.2⟩)
      have HBW := Lib.hid hbw
      have hgr : g < wr.heap.size := by have := hbe.out.size; omega
      have hci := hci.out
      have hu32 := Try.underlying34
      clear hbw hc hs hCS
      go_wp2_with fail
      go_region_held3 (fun w' => w'.rangeAt g (k * 32) CS ∧ True) ((refine ⟨?_, ?_⟩) <;> (first | (exact hrg) | (exact trivial) | (exact range_below hrg (by assumption) hgr) | go_simp))
        (first
          | (go_at_call 25; with_reducible refine (CD.out).mono ?_; rintro e7 w7 ⟨rfl, hb7⟩)
          | fail)
      have HB7 := Lib.hid (hbe.out.trans (hb7.mono hbe.out.size))
      clear hb7 CD hrg hcell
      go_wp2_with fail
      go_roundw
      case rel => exact ⟨k + 1, by omega, by go_num, HB7⟩
      case measure => simp [intOf]; omega
    · have hbw := HB3.out.trans (hbe.out.mono HB3.out.size)
      have HBW := Lib.hid hbw
      clear hbw hbe
      go_wp2
      go_ret
      exact ⟨rfl, HBW.out⟩
end Go.Proofs.Ytjnnhgpnnjifdaa
