/- Draws of the tape. -/
import Derived.Test.YtlheekbbioajpabT16
namespace Go.Proofs.Ytlheekbbioajpab
open Go.RowKit

set_option maxHeartbeats 800000 in
theorem take_ok2 {l : List UInt8} {w : World} {B E g k N : Nat} {T : TypeId} {ex : List Value} (h : Cur w B E g T ex l k) (hl : l.length ≤ 281474976710656) (hN : k + N ≤ l.length) :
    Calls Try.prog 37 #[.pointer (some ⟨g, 0, none⟩), .int .i64 N] w fun e w' => ∃ u, e = .returned (.tuple #[u, .int .i64 0]) ∧ Own w' w.heap.size u ((l.drop k).take N) ∧ Cur w' B E g T ex l (k + N) ∧ w.grownBy w' (some g) ∧ w'.cell? ⟨g, 0, none⟩ = w.cell? ⟨g, 0, none⟩ := by
  have c := left_any h (by omega) hl
  have C := Lib.hid c
  have HCUR := Lib.hid h
  have hg1 := h.cells
  clear c h
  go_enter Try.func37, Try.ntmps37
  go_wp2_with fail
  refine (C.out).mono ?_
  rintro e w1 ⟨rfl, n1, rfl⟩
  obtain ⟨A, c, ho, hgB, hgl, hc0, hc1, hfr, hset⟩ := HCUR.out.cells
  obtain ⟨D, hbD, hrun⟩ := Bs.piece (lo := k) (hi := k + N) (ho.bs) (by omega) (by omega)
  have e0 : k + N - k = N := by omega
  rw [e0] at hbD hrun
  have hrun' : ∀ W : World, (Instr.slice 22 (.slice A l.length c) (some (.int .i64 (k : Int))) (some (.int .i64 ((k : Int) + (N : Int)))) none).run Try.prog W = .ok (.slice D N (c - k)) W := hrun
  have e1 : IntKind.i64.wrap ((k : Int) + (N : Int)) = (k : Int) + (N : Int) := by rw [IntKind.wrap_i64]; omega
  have c1 : Hid (Calls Try.prog 41 #[.slice D N (c - k)] (w.drewN n1).drew fun e w' => ∃ u, e = .returned u ∧ Own w' w.heap.size u ((l.drop k).take N) ∧ Below w.heap.size w w') := Lib.hid ((clone_any (w := (w.drewN n1).drew) hbD (Nat.le_refl _) (by simp; omega)).mono fun e w' ⟨u, h1, h2, h3⟩ => ⟨u, h1, h2, ((below_drewN (Below.refl _ _) n1).drew).trans h3⟩)
  have d0 : (w.drewN n1).drew.cell? ⟨g, 0, none⟩ = some (.slice A l.length c) := hc0
  have d1 : (w.drewN n1).drew.cell? ⟨g, 1, none⟩ = some (.int .i64 (k : Int)) := hc1
  have HS1 : Has w g := hgl
  clear hg1 hrun ho hbD hset hfr
  go_wp2_with fail
  go_region_held3 (fun w' => w'.cell? ⟨g, 0, none⟩ = some (.slice A l.length c) ∧ w'.cell? ⟨g, 1, none⟩ = some (.int .i64 (k : Int))) (first | exact ⟨d0, d1⟩ | exact ⟨m0, m1⟩)
    (first | (go_at_call 41; refine (c1.out).mono ?_; rintro e w2 ⟨u2, rfl, ho2, hb2⟩; have m0 : w2.cell? ⟨g, 0, none⟩ = some (.slice A l.length c) := Has.cell HS1 hb2 hc0; have m1 : w2.cell? ⟨g, 1, none⟩ = some (.int .i64 (k : Int)) := Has.cell HS1 hb2 hc1) | fail)
  have hcu := HCUR.out.below hb2 (Nat.le_refl _)
  obtain ⟨A', c', _, _, _, _, _, hfr, hset⟩ := hcu.cells
  have hfin := hset (k + N)
  have hFIN := Lib.hid hfin
  have hou : Own (w2.setCell ⟨g, 1, none⟩ (.int .i64 ((k + N : Nat) : Int))) w.heap.size u2 ((l.drop k).take N) := by
    refine ⟨ho2.1, ?_⟩
    rcases ho2.2 with h | ⟨g', cap, cur, hv, hg, hh, r⟩
    · exact .inl h
    · exact .inr ⟨g', cap, cur, hv, hg, (Below.heap_setCell w2 ⟨g, 1, none⟩ _ g' (by simp; omega)).trans hh, r⟩
  have HOU := Lib.hid hou
  have hbF : w.grownBy (w2.setCell ⟨g, 1, none⟩ (.int .i64 ((k + N : Nat) : Int))) (some g) := ⟨hb2.os, hb2.tape, hb2.output, by have := hb2.size; simpa using this, fun j hj hne => (Below.heap_setCell w2 ⟨g, 1, none⟩ _ j (fun e => hne (by rw [e]))).trans (hb2.block j hj)⟩
  have hq0 : (w2.setCell ⟨g, 1, none⟩ (.int .i64 ((k + N : Nat) : Int))).cell? ⟨g, 0, none⟩ = w.cell? ⟨g, 0, none⟩ := (cell_set_ne rfl (by decide)).trans (m0.trans hc0.symm)
  have HQ0 := Lib.hid hq0
  clear hset hfin hou hcu ho2 c1 hq0
  go_wp2
  go_ret2
  exact ⟨_, rfl, HOU.out, hFIN.out, hbF, HQ0.out⟩

theorem draw_ok2 {l : List UInt8} {w : World} {B E g k N : Nat} {T : TypeId} {ex : List Value} (h : Cur w B E g T ex l k) (hl : l.length ≤ 281474976710656) (hN : k + N ≤ l.length) :
    Calls Try.prog 13 #[.pointer (some ⟨g, 0, none⟩), .int .i64 (N : Int)] w fun e w' => ∃ u, e = .returned (.tuple #[u, .int .i64 0]) ∧ Own w' w.heap.size u ((l.drop k).take N) ∧ Cur w' B E g T ex l (k + N) ∧ w.grownBy w' (some g) ∧ w'.cell? ⟨g, 0, none⟩ = w.cell? ⟨g, 0, none⟩ := by
  have C := Lib.hid (left_any h (by omega) hl)
  have HH := Lib.hid h
  have hd : decide ((l.length : Int) - (k : Int) < (N : Int)) = false := by simp; omega
  clear h
  go_enter Try.func13, Try.ntmps13
  go_wp2_with fail
  refine (C.out).mono ?_
  rintro e w1 ⟨rfl, n1, rfl⟩
  have C2 : Hid (Calls Try.prog 37 #[.pointer (some ⟨g, 0, none⟩), .int .i64 (N : Int)] (w.drewN n1) fun e w' => ∃ u, e = .returned (.tuple #[u, .int .i64 0]) ∧ Own w' w.heap.size u ((l.drop k).take N) ∧ Cur w' B E g T ex l (k + N) ∧ w.grownBy w' (some g) ∧ w'.cell? ⟨g, 0, none⟩ = w.cell? ⟨g, 0, none⟩) :=
    Lib.hid ((take_ok2 (N := N) (HH.out.grown (r := none) ⟨rfl, rfl, rfl, Nat.le_refl _, fun _ _ _ => rfl⟩ (by simp) : Cur (w.drewN n1) B E g T ex l k) hl hN).mono fun e w' ⟨u, h1, h2, h3, h4, h5⟩ => ⟨u, h1, h2, h3, grew_trans (⟨rfl, rfl, rfl, Nat.le_refl _, fun _ _ _ => rfl⟩ : w.grownBy (w.drewN n1) (some g)) h4, h5⟩)
  go_wp2_with fail
  refine (C2.out).mono ?_
  rintro e w2 ⟨u, rfl, ho, hc, hg, hq⟩
  have HO := Lib.hid ho; have HC := Lib.hid hc; have HG := Lib.hid hg; have HQ := Lib.hid hq
  clear ho hc hg hq
  go_wp2
  go_ret2
  exact ⟨u, rfl, HO.out, HC.out, HG.out, HQ.out⟩

/-- v is a slice of the call's own, whose places are slices of bytes of the call's own in blocks that are all different -/
def OwnRd (w : World) (B : Nat) (v : Value) (ls : List (List UInt8)) : Prop :=
  ∃ xs, w.ownsRow B 22 1 v ls.length xs ∧ xs.length = ls.length ∧ (∀ (j : Nat) (h : j < xs.length) (h' : j < ls.length), Own w B xs[j] ls[j]) ∧
    ∀ i j (hi : i < xs.length) (hj : j < xs.length), i < j → ∀ a, xs[i].ownBlock = some a → xs[j].ownBlock ≠ some a
theorem OwnRd.rs {w : World} {B : Nat} {v : Value} {ls : List (List UInt8)} (h : OwnRd w B v ls) : OwnRs w B v ls := by
  obtain ⟨xs, h1, h2, h3, _⟩ := h
  exact ⟨xs, h1, h2, h3⟩
theorem OwnRd.nil (w : World) (B : Nat) : OwnRd w B (.slice none 0 0) [] := ⟨[], World.ownsRow_nil w B _ _, rfl, fun j h => absurd h (by simp), fun i j h => absurd h (by simp)⟩
theorem OwnRd.grown {w w' : World} {B g : Nat} {v : Value} {ls : List (List UInt8)} (h : OwnRd w B v ls) (hg : w.grownBy w' (some g)) (hB : g < B) : OwnRd w' B v ls := by
  obtain ⟨xs, h1, h2, h3, h4⟩ := h
  refine ⟨xs, World.ownsRow.kept h1 hg ?_, h2, fun j hj hj' => (h3 j hj hj').grown hg (fun k hk e => by have := ((h3 j hj hj').lt_size k hk).1; simp only [Option.some.injEq] at e; omega), h4⟩
  cases hq : v.ownBlock with
  | none => exact .inl rfl
  | some k =>
    right
    intro e
    simp only [Option.some.injEq] at e
    have := (World.ownsRow.lt h1 k hq).1
    omega
/-- what Draws gives -/
def PDraws (w : World) (B E g : Nat) (T : TypeId) (ex : List Value) (l : List UInt8) (a : Nat) (zs : List Int) (e : Ending) (w' : World) : Prop :=
  ∃ u, e = .returned (.tuple #[u, .int .i64 (drawCode l a zs)]) ∧ OwnRd w' w.heap.size u (drawL l a zs) ∧ Cur w' B E g T ex l (drawAt l a zs) ∧ w.grownBy w' (some g)
theorem own_ne_block {w : World} {B h : Nat} {v : Value} {l : List UInt8} {cs : Array Value} {T : TypeId} (ho : Own w B v l) (hh : w.heap[h]? = some (.cells cs T (0, 0))) (hT : T ≠ 5) : ∀ j, v.ownBlock = some j → some h ≠ some j := by
  intro j hj e
  rcases ho.2 with ⟨rfl, _⟩ | ⟨g, cap, cur, rfl, _, hg, _⟩
  · simp [Value.ownBlock] at hj
  · simp only [Value.ownBlock, Option.some.injEq] at hj e
    subst hj; subst e
    rw [hg] at hh
    simp only [Option.some.injEq, Obj.cells.injEq] at hh
    exact hT hh.2.1.symm
theorem Cur.heap {w : World} {B E g k : Nat} {T : TypeId} {ex : List Value} {l : List UInt8} (h : Cur w B E g T ex l k) : ∃ cs, w.heap[g]? = some (.cells cs T (0, 0)) := by
  obtain ⟨A, c, _, _, _, _, _, h6⟩ := h
  exact ⟨_, h6⟩
theorem Cur.belowE {w w' : World} {B E g k : Nat} {T : TypeId} {ex : List Value} {l : List UInt8} (h : Cur w B E g T ex l k) (hb : Below E w w') : Cur w' B E g T ex l k := by
  obtain ⟨A, c, h1, h2, h3, h4, h5, h6⟩ := h
  refine ⟨A, c, h1, h2, Nat.le_trans h3 hb.size, ⟨h4.1, ?_⟩, h5, (hb.block g h2).trans h6⟩
  rcases h4.2 with q | ⟨g', cap, cur, hv, hg, hh, r⟩
  · exact .inl q
  · exact .inr ⟨g', cap, cur, hv, hg, (hb.block g' (h5 g' (by rw [hv]; rfl)).1).trans hh, r⟩
theorem Cur.widen {w : World} {B E g k : Nat} {T : TypeId} {ex : List Value} {l : List UInt8} (h : Cur w B E g T ex l k) : Cur w B w.heap.size g T ex l k := by
  obtain ⟨A, c, h1, h2, h3, h4, h5, h6⟩ := h
  exact ⟨A, c, h1, by omega, Nat.le_refl _, h4, fun j hj => ⟨(h4.lt_size j hj).2, (h5 j hj).2⟩, h6⟩

set_option maxRecDepth 100000 in
set_option maxHeartbeats 8000000 in
theorem draws_any {w : World} {B E B2 g a : Nat} {T : TypeId} {ex : List Value} {vs : Value} {l : List UInt8} {zs : List Int} (hc : Cur w B E g T ex l a) (hl : l.length ≤ 1048576) (ha : a ≤ l.length) (hs : Is w B2 vs zs) (hB2 : B2 ≤ w.heap.size) (hn : zs.length ≤ 1048576) :
    Calls Try.prog 15 #[.pointer (some ⟨g, 0, none⟩), vs] w (PDraws w B E g T ex l a zs) := by
  have HC := Lib.hid hc
  obtain ⟨A, c, hc1, hc2, hc3, hc4, hc5, hc6⟩ := hc
  have hgl : g < w.heap.size := by omega
  have HO := Lib.hid hc4; have HNE := Lib.hid hc5; have HBK := Lib.hid hc6
  have d0 : w.cell? ⟨g, 0, none⟩ = some (.slice A l.length c) := by rw [cell_of_row w g 0 _ _ _ hc6]; rfl
  have d1 : w.cell? ⟨g, 1, none⟩ = some (.int .i64 (a : Int)) := by rw [cell_of_row w g 1 _ _ _ hc6]; rfl
  obtain ⟨As, cs, rfl, hs1, hs2, hs3⟩ := hs
  unfold maxLen at hs2
  have HS3 := Lib.hid hs3
  have hmk := run_make_row' (P := Try.prog) 35 22 (.slice none 0 0) 24 Try.underlying35 u24info rfl .i64 .i64 zs.length (by omega) (by omega)
  have HMK := Lib.hid hmk
  clear hc4 hc5 hc6 hs3 hmk
  go_enter Try.func15, Try.ntmps15
  go_wp2_with fail
  go_loop [16] (fun i => ∃ k : Nat, k ≤ zs.length ∧ i = .int .i64 k ∧ Hid (∀ j (h : j < zs.length), j < k → ¬ zs[j] < 0)) (fun i => zs.length - (intOf i).toNat)
  case atStart => exact ⟨0, Nat.zero_le _, rfl, Lib.hid (fun j h hj => absurd hj (by omega))⟩
  case round =>
    obtain ⟨k, hk, rfl, hpos⟩ := hrel
    by_cases hlt : k < zs.length
    · obtain ⟨b, off, rfl, hbb, hc⟩ := HS3.out (by omega)
      have k0 := (hc k hlt).1
      obtain ⟨x, hx⟩ : ∃ x, zs[k] = x := ⟨_, rfl⟩
      rw [hx] at k0
      have HX := Lib.hid hx; have HKT := Lib.hid hlt
      clear hc hx
      by_cases hx0 : x < 0
      · have he : drawCode l a zs = 1 := if_pos ⟨k, hlt, by rw [HX.out]; exact hx0⟩
        have HE := Lib.hid he; clear he
        have HR1 := Lib.hid (draw_refused HE.out (by omega)).1; have HR2 := Lib.hid (draw_refused HE.out (by omega)).2
        go_wp2
        go_ret2
        exact ⟨.slice none 0 0, by rw [HE.out]; rfl, by rw [HR2.out]; exact OwnRd.nil _ _, by rw [HR1.out]; exact HC.out, World.grownBy.refl w _⟩
      · go_wp2
        go_round
        case rel => exact ⟨k + 1, by omega, by go_num, Lib.hid (fun j h hj => by
          rcases Nat.lt_or_ge j k with hjk | hjk
          · exact hpos.out j h hjk
          · obtain rfl : j = k := by omega
            rw [HX.out]; omega)⟩
        case measure => simp [intOf]; omega
    · have hno : ¬ ∃ j, ∃ h : j < zs.length, zs[j] < 0 := fun ⟨j, h, hj⟩ => hpos.out j h (by omega) hj
      have HNO := Lib.hid hno
      clear hno hpos
      have hb1 : Below w.heap.size w (w.alloc (.cells #[.slice A l.length c, .int .i64 (a : Int)] 28)) := (Below.refl _ _).alloc (Nat.le_refl _) _
      have hcu1 : Cur (w.alloc (.cells #[.slice A l.length c, .int .i64 (a : Int)] 28)) B (w.heap.size + 1) w.heap.size 28 [] l a :=
        ⟨A, c, by omega, by omega, by simp, HO.out.alloc _, fun j hj => by have := HNE.out j hj; omega, heap_alloc_new w _⟩
      have hzz : (w.alloc (.cells #[.slice A l.length c, .int .i64 (a : Int)] 28)).heap.size = w.heap.size + 1 := by simp
      have hcell0 : (w.alloc (.cells #[.slice A l.length c, .int .i64 (a : Int)] 28)).cell? ⟨w.heap.size, 0, none⟩ = some (.slice A l.length c) := by simp
      have HZZ := Lib.hid hzz; have HCU1 := Lib.hid hcu1; have HB1 := Lib.hid hb1; have HC0 := Lib.hid hcell0
      have hmk := HMK.out
      clear hb1 hcu1 hzz hcell0
      go_wp2_with fail
      have hrow := World.rowIs_made (w.alloc (.cells #[.slice A l.length c, .int .i64 (a : Int)] 28)) (.slice none 0 0) zs.length 22
      rw [HZZ.out] at hrow
      have hzz2 : ((w.alloc (.cells #[.slice A l.length c, .int .i64 (a : Int)] 28)).alloc (.cells (madeCells #[Value.slice none 0 0] zs.length) 22)).heap.size = w.heap.size + 2 := by simp
      have HR0 := Lib.hid hrow; have HZ2 := Lib.hid hzz2
      have HB2 := Lib.hid (HB1.out.alloc (by rw [HZZ.out]; omega) (.cells (madeCells #[Value.slice none 0 0] zs.length) 22))
      have HCU2 := Lib.hid (HCU1.out.grown (alloc_grew _ (.cells (madeCells #[Value.slice none 0 0] zs.length) 22) none) (by simp))
      have HC2 : Hid (((w.alloc (.cells #[.slice A l.length c, .int .i64 (a : Int)] 28)).alloc (.cells (madeCells #[Value.slice none 0 0] zs.length) 22)).cell? ⟨w.heap.size, 0, none⟩ = some (.slice A l.length c)) := Lib.hid (((Below.refl _ (w.alloc (.cells #[.slice A l.length c, .int .i64 (a : Int)] 28))).alloc (Nat.le_refl _) _).cell (p := ⟨w.heap.size, 0, none⟩) (by rw [HZZ.out]; exact Nat.lt_succ_self _) |>.trans HC0.out)
      clear hrow hzz2 hmk HB1 HCU1 HC0 HZZ d0 d1
      generalize (w.alloc (.cells #[.slice A l.length c, .int .i64 (a : Int)] 28)).alloc (.cells (madeCells #[Value.slice none 0 0] zs.length) 22) = W2 at HR0 HZ2 HB2 HCU2 HC2 ⊢
      go_loopw [31] (fun i W => ∃ (q s : Nat) (us : List Value), q ≤ zs.length ∧ i = .int .i64 q ∧ Hid (s = (nats (zs.take q)).sum) ∧ a + s ≤ l.length ∧ Hid (Cur W B (w.heap.size + 1) w.heap.size 28 [] l (a + s)) ∧ Hid (W.cell? ⟨w.heap.size, 0, none⟩ = some (.slice A l.length c)) ∧ Hid (Below w.heap.size w W) ∧
        Hid (us.length = q ∧ W.rowIs (w.heap.size + 1) 22 zs.length (fun j => us.getD j (.slice none 0 0)) ∧ (∀ j (h : j < us.length) (h' : j < (pcs l a (nats (zs.take q))).length), Own W w.heap.size us[j] (pcs l a (nats (zs.take q)))[j]) ∧ (∀ i j (hi : i < us.length) (hj : j < us.length), i < j → ∀ a, us[i].ownBlock = some a → us[j].ownBlock ≠ some a))) (fun i _ => zs.length - (intOf i).toNat)
      case atStart => exact ⟨0, 0, [], Nat.zero_le _, rfl, Lib.hid rfl, ha, HCU2, HC2, HB2, Lib.hid ⟨rfl, HR0.out.congr (fun i _ => by simp), fun j h => absurd h (by simp), fun i j h => absurd h (by simp)⟩⟩
      case round =>
        obtain ⟨q, s, us, hq, rfl, hsum, hsl, hcu, hce, hbe, hus⟩ := hrel
        obtain ⟨p, hp⟩ : ∃ p, p = a + s := ⟨_, rfl⟩
        have HP := Lib.hid hp
        rw [← hp] at hsl hcu
        clear hp
        by_cases hlt2 : q < zs.length
        · obtain ⟨b, off, rfl, hbb, hc⟩ := HS3.out (by omega)
          have k0 := (hbe.out.cell (p := ⟨b, off + q, none⟩) (by show b < _; omega)).trans (hc q hlt2).1
          have hnn : ¬ zs[q] < 0 := fun h => HNO.out ⟨q, hlt2, h⟩
          obtain ⟨N, hN⟩ : ∃ N : Nat, zs[q] = (N : Int) := ⟨(zs[q]).toNat, by omega⟩
          rw [hN] at k0
          have htk := nats_take zs q hlt2
          rw [hN, Int.toNat_natCast] at htk
          have HTK := Lib.hid htk
          clear hc hnn hN htk
          by_cases hex : p + N ≤ l.length
          · have CD := Lib.hid (draw_ok2 (N := N) hcu.out (by omega) hex)
            have HPS := Lib.hid (pcs_snoc l a (nats (zs.take q)) N)
            go_wp2_with fail
            with_reducible refine (CD.out).mono ?_
            rintro e w3 ⟨u3, rfl, ho3, hcu3, hg3, hq3⟩
            obtain ⟨hul, hrw, hue, hdi⟩ := hus.out
            have hwz := hbe.out.size
            have hr3 := hrw.of_block (hg3.block (w.heap.size + 1) hrw.lt (by simp))
            have hcl := hr3.cell hlt2
            have hfz := hr3.frozen q
            obtain ⟨old, hold⟩ : ∃ old, us.getD q (.slice none 0 0) = old := ⟨_, rfl⟩
            rw [hold] at hcl
            have i0 : (0 : Int) ≤ (q : Int) := by omega
            have i1 : (q : Int) < (zs.length : Int) := by omega
            obtain ⟨A3, c3, rfl⟩ := ho3.shape
            obtain ⟨n3, hn3⟩ : ∃ n3, n3 = (List.take N (List.drop p l)).length := ⟨_, rfl⟩
            rw [← hn3] at ho3 ⊢
            have hlt3 := hr3.lt
            obtain ⟨csh, hhh⟩ := hcu.out.heap
            have hcu4 := (hcu3.grown (set_grew w3 (w.heap.size + 1) q (.slice A3 n3 c3)) (fun j hj => by simp only [Option.some.injEq] at hj; omega))
            have hce4 := (World.cell?_setCell_far w3 ⟨w.heap.size + 1, q, none⟩ ⟨w.heap.size, 0, none⟩ (.slice A3 n3 c3) (by simp)).trans (hq3.trans hce.out)
            have hbe4 := below_set (hbe.out.grown hg3 hwz (fun j hj => by simp only [Option.some.injEq] at hj; omega)) (Nat.le_succ _) q (.slice A3 n3 c3)
            have hus4 : (us ++ [Value.slice A3 n3 c3]).length = q + 1 ∧ (w3.setCell ⟨w.heap.size + 1, q, none⟩ (.slice A3 n3 c3)).rowIs (w.heap.size + 1) 22 zs.length (fun j => (us ++ [Value.slice A3 n3 c3]).getD j (.slice none 0 0)) ∧
                (∀ j (h : j < (us ++ [Value.slice A3 n3 c3]).length) (h' : j < (pcs l a (nats (zs.take (q + 1)))).length), Own (w3.setCell ⟨w.heap.size + 1, q, none⟩ (.slice A3 n3 c3)) w.heap.size (us ++ [Value.slice A3 n3 c3])[j] (pcs l a (nats (zs.take (q + 1))))[j]) ∧
                (∀ i j (hi : i < (us ++ [Value.slice A3 n3 c3]).length) (hj : j < (us ++ [Value.slice A3 n3 c3]).length), i < j → ∀ a, (us ++ [Value.slice A3 n3 c3])[i].ownBlock = some a → (us ++ [Value.slice A3 n3 c3])[j].ownBlock ≠ some a) := by
              have hpl : (pcs l a (nats (zs.take q))).length = us.length := by rw [pcs_len, nats_len, List.length_take, hul]; omega
              have hpe : pcs l a (nats (zs.take (q + 1))) = pcs l a (nats (zs.take q)) ++ [(l.drop p).take N] := by rw [HTK.out, HPS.out, HP.out, hsum.out]
              refine ⟨by simp [hul], (hr3.set q _).congr fun i _ => (getD_snoc hul i).symm, fun j hj hj' => ?_, fun i j hi hj hij b hb1 hb2 => ?_⟩
              · by_cases hlt4 : j < us.length
                · have e1 : (us ++ [Value.slice A3 n3 c3])[j] = us[j] := List.getElem_append_left hlt4
                  have e2 : (pcs l a (nats (zs.take (q + 1))))[j] = (pcs l a (nats (zs.take q)))[j]'(by omega) := by
                    simp only [hpe]
                    exact List.getElem_append_left (by omega)
                  rw [e1, e2]
                  have hoj := hue j hlt4 (by omega)
                  exact (hoj.grown hg3 (own_ne_block hoj hhh (by decide))).setOther hr3 (by decide) q _
                · have hj2 : j = us.length := by simp at hj; omega
                  subst hj2
                  have e1 : (us ++ [Value.slice A3 n3 c3])[us.length] = Value.slice A3 n3 c3 := by simp
                  have e2 : (pcs l a (nats (zs.take (q + 1))))[us.length] = (l.drop p).take N := by
                    simp only [hpe]
                    rw [List.getElem_append_right (by omega)]
                    simp [hpl]
                  rw [e1, e2]
                  exact (ho3.more hwz).setOther hr3 (by decide) q _
              · have hi4 : i < us.length := by simp at hj; omega
                have e1 : (us ++ [Value.slice A3 n3 c3])[i] = us[i] := List.getElem_append_left hi4
                rw [e1] at hb1
                have hoi := (hue i hi4 (by omega)).lt_size b hb1
                by_cases hlt4 : j < us.length
                · have e2 : (us ++ [Value.slice A3 n3 c3])[j] = us[j] := List.getElem_append_left hlt4
                  rw [e2] at hb2
                  exact hdi i j hi4 hlt4 hij b hb1 hb2
                · have hj2 : j = us.length := by simp at hj; omega
                  subst hj2
                  have e2 : (us ++ [Value.slice A3 n3 c3])[us.length] = Value.slice A3 n3 c3 := by simp
                  rw [e2] at hb2
                  have := (ho3.lt_size b hb2).1
                  omega
            have HCU4 := Lib.hid hcu4; have HCE4 := Lib.hid hce4; have HBE4 := Lib.hid hbe4; have HUS4 := Lib.hid hus4
            clear hul hrw hue hdi hold hn3 ho3 hcu3 hg3 hq3 hr3 hcu4 hce4 hbe4 hus4 hhh hcu hce hbe hus
            go_wp2
            go_roundw
            case rel => exact ⟨q + 1, s + N, us ++ [.slice A3 n3 c3], by omega, by go_num, Lib.hid (by rw [HTK.out, List.sum_append, ← hsum.out]; simp), by have := HP.out; omega, Lib.hid (by have h := HCU4.out; rw [HP.out, Nat.add_assoc] at h; exact h), HCE4, HBE4, HUS4⟩
            case measure => simp [intOf]; omega
          · have CD := Lib.hid (draw_tape (n := (N : Int)) hcu.out (by omega) (by omega) (by omega))
            have he : drawCode l a zs = 8 := by
              have h1 := nats_sum_take zs (q + 1)
              rw [HTK.out, List.sum_append, ← hsum.out] at h1
              have h2 : (List.sum [N] : Nat) = N := by simp
              rw [drawCode, if_neg HNO.out, if_pos (by have := HP.out; omega)]
            have HE := Lib.hid he; clear he
            have HR1 := Lib.hid (draw_refused HE.out (by omega)).1; have HR2 := Lib.hid (draw_refused HE.out (by omega)).2
            go_wp2_with fail
            with_reducible refine (CD.out).mono ?_
            rintro e w3 ⟨rfl, hd3⟩
            have HBF := Lib.hid (hbe.out.trans (hd3.below _))
            clear hd3 CD
            go_wp2
            go_ret2
            exact ⟨.slice none 0 0, by rw [HE.out]; rfl, by rw [HR2.out]; exact OwnRd.nil _ _, by rw [HR1.out]; exact HC.out.grown (grown_of_below HBF.out none) (by simp), grown_of_below HBF.out _⟩
        · have hqe : zs.take q = zs := List.take_of_length_le (by omega)
          rw [hqe] at hsum hus
          have he : drawCode l a zs = 0 := by
            rw [drawCode, if_neg HNO.out, if_neg (by rw [← hsum.out]; have := HP.out; omega)]
          have HE := Lib.hid he; clear he
          have HR1 := Lib.hid (draw_done HE.out).1; have HR2 := Lib.hid (draw_done HE.out).2
          obtain ⟨hul, hrw, hue, hdi⟩ := hus.out
          have hqz : q = zs.length := by omega
          have hrd : OwnRd wr w.heap.size (.slice (some ⟨w.heap.size + 1, 0, none⟩) zs.length zs.length) (pcs l a (nats zs)) := by
            refine ⟨us, ?_, by rw [pcs_len, nats_len, hul, hqz], fun j hj hj' => hue j hj hj', hdi⟩
            rw [pcs_len, nats_len]
            exact owns_of_row hrw (Nat.le_succ _) (by unfold maxLen; omega) (by omega) fun i hi => by rw [List.getD_eq_getElem?_getD, List.getElem?_eq_getElem hi]; rfl
          have hbg := (hbe.out.block g hgl).trans HBK.out
          have e0 : wr.cell? ⟨g, 0, none⟩ = some (.slice A l.length c) := by rw [cell_of_row wr g 0 _ _ _ hbg]; rfl
          have e1 : wr.cell? ⟨g, 1, none⟩ = some (.int .i64 (a : Int)) := by rw [cell_of_row wr g 1 _ _ _ hbg]; rfl
          have f0 := frozen_of_row wr g 0 _ _ hbg
          have f1 := frozen_of_row wr g 1 _ _ hbg
          have h1 : wr.cell? ⟨w.heap.size, 1, none⟩ = some (.int .i64 (p : Int)) := by
            obtain ⟨_, _, _, _, _, _, h, _, _⟩ := hcu.out.cells
            exact h
          have h0 := hce.out
          have hgr : w.grownBy ((wr.setCell ⟨g, 0, none⟩ (.slice A l.length c)).setCell ⟨g, 1, none⟩ (.int .i64 (p : Int))) (some g) := grew_trans (grew_trans (grown_of_below hbe.out _) (set_grew _ _ _ _)) (set_grew _ _ _ _)
          have hr2 : wr.grownBy ((wr.setCell ⟨g, 0, none⟩ (.slice A l.length c)).setCell ⟨g, 1, none⟩ (.int .i64 (p : Int))) (some g) := grew_trans (set_grew _ _ _ _) (set_grew _ _ _ _)
          have hown := HO.out.grown hgr (fun j hj e => (HNE.out j hj).2 (Option.some.inj e).symm)
          have hfin : Cur ((wr.setCell ⟨g, 0, none⟩ (.slice A l.length c)).setCell ⟨g, 1, none⟩ (.int .i64 (p : Int))) B E g T ex l p := by
            refine ⟨A, c, hc1, hc2, Nat.le_trans hc3 hgr.size, hown, HNE.out, ?_⟩
            rw [heap_setCell_same _ g 1 _ _ _ (heap_setCell_same wr g 0 _ _ _ hbg)]
            simp
          have HFIN := Lib.hid hfin; have HGR := Lib.hid hgr
          have HRD := Lib.hid (hrd.grown hr2 hgl)
          have hpa : a + (nats zs).sum = p := by rw [HP.out, hsum.out]
          have HPA := Lib.hid hpa
          clear hul hrw hue hdi hqe hqz hrd hbg hown hfin hgr hr2 hpa hcu hce hbe hus
          go_wp2
          go_ret2
          exact ⟨_, by rw [HE.out]; rfl, by rw [HR2.out]; exact HRD.out, by rw [HR1.out, HPA.out]; exact HFIN.out, HGR.out⟩
end Go.Proofs.Ytlheekbbioajpab
