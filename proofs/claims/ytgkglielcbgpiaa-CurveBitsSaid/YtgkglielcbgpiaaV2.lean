/- curve's rung. -/
import Derived.Test.YtgkglielcbgpiaaV1
namespace Go.Proofs.Ytgkglielcbgpiaa
open Go.RowKit

set_option maxRecDepth 100000 in
set_option maxHeartbeats 4000000 in
theorem rung_any {x A B C D : Nat} (hx : x < W4) (hA : A < W4) (hB : B < W4) (hC : C < W4) (hD : D < W4) (w : World) :
    Calls Try.prog 71 #[.agg #[.int .u64 (l0 (x) : Int), .int .u64 (l1 (x) : Int), .int .u64 (l2 (x) : Int), .int .u64 (l3 (x) : Int)], .agg #[.int .u64 (l0 (A) : Int), .int .u64 (l1 (A) : Int), .int .u64 (l2 (A) : Int), .int .u64 (l3 (A) : Int), .int .u64 (l0 (B) : Int), .int .u64 (l1 (B) : Int), .int .u64 (l2 (B) : Int), .int .u64 (l3 (B) : Int)], .agg #[.int .u64 (l0 (C) : Int), .int .u64 (l1 (C) : Int), .int .u64 (l2 (C) : Int), .int .u64 (l3 (C) : Int), .int .u64 (l0 (D) : Int), .int .u64 (l1 (D) : Int), .int .u64 (l2 (D) : Int), .int .u64 (l3 (D) : Int)]] w fun e w' => e = .returned (.tuple #[.agg #[.int .u64 (l0 ((rungN x A B C D).1) : Int), .int .u64 (l1 ((rungN x A B C D).1) : Int), .int .u64 (l2 ((rungN x A B C D).1) : Int), .int .u64 (l3 ((rungN x A B C D).1) : Int), .int .u64 (l0 ((rungN x A B C D).2.1) : Int), .int .u64 (l1 ((rungN x A B C D).2.1) : Int), .int .u64 (l2 ((rungN x A B C D).2.1) : Int), .int .u64 (l3 ((rungN x A B C D).2.1) : Int)], .agg #[.int .u64 (l0 ((rungN x A B C D).2.2.1) : Int), .int .u64 (l1 ((rungN x A B C D).2.2.1) : Int), .int .u64 (l2 ((rungN x A B C D).2.2.1) : Int), .int .u64 (l3 ((rungN x A B C D).2.2.1) : Int), .int .u64 (l0 ((rungN x A B C D).2.2.2) : Int), .int .u64 (l1 ((rungN x A B C D).2.2.2) : Int), .int .u64 (l2 ((rungN x A B C D).2.2.2) : Int), .int .u64 (l3 ((rungN x A B C D).2.2.2) : Int)]]) ∧ Below w.heap.size w w' := by
  unfold rungN
  obtain ⟨a, qa⟩ : ∃ a, a = sumP [A, B] := ⟨_, rfl⟩
  obtain ⟨b, qb⟩ : ∃ b, b = subN A B := ⟨_, rfl⟩
  obtain ⟨c, qc⟩ : ∃ c, c = sumP [C, D] := ⟨_, rfl⟩
  obtain ⟨d, qd⟩ : ∃ d, d = subN C D := ⟨_, rfl⟩
  obtain ⟨da, qda⟩ : ∃ da, da = prodP [d, a] := ⟨_, rfl⟩
  obtain ⟨cb, qcb⟩ : ∃ cb, cb = prodP [c, b] := ⟨_, rfl⟩
  obtain ⟨aa, qaa⟩ : ∃ aa, aa = a * a % PP := ⟨_, rfl⟩
  obtain ⟨bb, qbb⟩ : ∃ bb, bb = b * b % PP := ⟨_, rfl⟩
  obtain ⟨ee, qee⟩ : ∃ ee, ee = subN aa bb := ⟨_, rfl⟩
  obtain ⟨pe, qpe⟩ : ∃ pe, pe = prodP [121665, ee] := ⟨_, rfl⟩
  obtain ⟨se, qse⟩ : ∃ se, se = sumP [aa, pe] := ⟨_, rfl⟩
  obtain ⟨E1, qE1⟩ : ∃ E1, E1 = prodP [aa, bb] := ⟨_, rfl⟩
  obtain ⟨U1, qU1⟩ : ∃ U1, U1 = prodP [ee, se] := ⟨_, rfl⟩
  obtain ⟨s, qs⟩ : ∃ s, s = sumP [da, cb] := ⟨_, rfl⟩
  obtain ⟨t, qt⟩ : ∃ t, t = subN da cb := ⟨_, rfl⟩
  obtain ⟨E2, qE2⟩ : ∃ E2, E2 = s * s % PP := ⟨_, rfl⟩
  obtain ⟨tt, qtt⟩ : ∃ tt, tt = t * t % PP := ⟨_, rfl⟩
  obtain ⟨U2, qU2⟩ : ∃ U2, U2 = prodP [x, tt] := ⟨_, rfl⟩
  simp only [← qa, ← qb, ← qc, ← qd, ← qda, ← qcb, ← qaa, ← qbb, ← qee, ← qpe, ← qse, ← qE1, ← qU1, ← qs, ← qt, ← qE2, ← qtt, ← qU2]
  have Za : Hid (a < W4) := Lib.hid (by rw [qa]; exact sumP_lt4 _)
  have Zb : Hid (b < W4) := Lib.hid (by rw [qb]; exact subN_lt _ _)
  have Zc : Hid (c < W4) := Lib.hid (by rw [qc]; exact sumP_lt4 _)
  have Zd : Hid (d < W4) := Lib.hid (by rw [qd]; exact subN_lt _ _)
  have Zda : Hid (da < W4) := Lib.hid (by rw [qda]; exact prodP_lt4 _)
  have Zcb : Hid (cb < W4) := Lib.hid (by rw [qcb]; exact prodP_lt4 _)
  have Zaa : Hid (aa < W4) := Lib.hid (by rw [qaa]; exact mod_lt4 _)
  have Zbb : Hid (bb < W4) := Lib.hid (by rw [qbb]; exact mod_lt4 _)
  have Zee : Hid (ee < W4) := Lib.hid (by rw [qee]; exact subN_lt _ _)
  have Zpe : Hid (pe < W4) := Lib.hid (by rw [qpe]; exact prodP_lt4 _)
  have Zse : Hid (se < W4) := Lib.hid (by rw [qse]; exact sumP_lt4 _)
  have ZE1 : Hid (E1 < W4) := Lib.hid (by rw [qE1]; exact prodP_lt4 _)
  have ZU1 : Hid (U1 < W4) := Lib.hid (by rw [qU1]; exact prodP_lt4 _)
  have Zs : Hid (s < W4) := Lib.hid (by rw [qs]; exact sumP_lt4 _)
  have Zt : Hid (t < W4) := Lib.hid (by rw [qt]; exact subN_lt _ _)
  have ZE2 : Hid (E2 < W4) := Lib.hid (by rw [qE2]; exact mod_lt4 _)
  have Ztt : Hid (tt < W4) := Lib.hid (by rw [qtt]; exact mod_lt4 _)
  have ZU2 : Hid (U2 < W4) := Lib.hid (by rw [qU2]; exact prodP_lt4 _)
  have Qa := Lib.hid qa
  have Qb := Lib.hid qb
  have Qc := Lib.hid qc
  have Qd := Lib.hid qd
  have Qda := Lib.hid qda
  have Qcb := Lib.hid qcb
  have Qaa := Lib.hid qaa
  have Qbb := Lib.hid qbb
  have Qee := Lib.hid qee
  have Qpe := Lib.hid qpe
  have Qse := Lib.hid qse
  have QE1 := Lib.hid qE1
  have QU1 := Lib.hid qU1
  have Qs := Lib.hid qs
  have Qt := Lib.hid qt
  have QE2 := Lib.hid qE2
  have Qtt := Lib.hid qtt
  have QU2 := Lib.hid qU2
  have Zx := Lib.hid hx
  have ZA := Lib.hid hA
  have ZB := Lib.hid hB
  have ZC := Lib.hid hC
  have ZD := Lib.hid hD
  clear qa qb qc qd qda qcb qaa qbb qee qpe qse qE1 qU1 qs qt qE2 qtt qU2 hx hA hB hC hD
  obtain ⟨W0, hW0⟩ : ∃ W0, W0 = ((((w.alloc (.cells ([.int .u64 (l0 (x) : Int), .int .u64 (l1 (x) : Int), .int .u64 (l2 (x) : Int), .int .u64 (l3 (x) : Int)] : List Value).toArray 26)).alloc (.cells ([.int .u64 (l0 (A) : Int), .int .u64 (l1 (A) : Int), .int .u64 (l2 (A) : Int), .int .u64 (l3 (A) : Int), .int .u64 (l0 (B) : Int), .int .u64 (l1 (B) : Int), .int .u64 (l2 (B) : Int), .int .u64 (l3 (B) : Int)] : List Value).toArray 29)).alloc (.cells ([.int .u64 (l0 (C) : Int), .int .u64 (l1 (C) : Int), .int .u64 (l2 (C) : Int), .int .u64 (l3 (C) : Int), .int .u64 (l0 (D) : Int), .int .u64 (l1 (D) : Int), .int .u64 (l2 (D) : Int), .int .u64 (l3 (D) : Int)] : List Value).toArray 29)).alloc (.cells ([.int .u64 0, .int .u64 0, .int .u64 0, .int .u64 0, .int .u64 0, .int .u64 0, .int .u64 0, .int .u64 0] : List Value).toArray 29)).alloc (.cells ([.int .u64 0, .int .u64 0, .int .u64 0, .int .u64 0, .int .u64 0, .int .u64 0, .int .u64 0, .int .u64 0] : List Value).toArray 29) := ⟨_, rfl⟩
  have hb0 : Below w.heap.size w W0 := by rw [hW0]; exact (((((Below.refl _ _).alloc (Nat.le_refl _) _).alloc (by simp) _).alloc (by simp; omega) _).alloc (by simp; omega) _).alloc (by simp; omega) _
  have R0 : Hid (RowL W0 w.heap.size [.int .u64 (l0 (x) : Int), .int .u64 (l1 (x) : Int), .int .u64 (l2 (x) : Int), .int .u64 (l3 (x) : Int)] 26) := Lib.hid (by rw [hW0]; exact ((((RowL.new w _ _).alloc _).alloc _).alloc _).alloc _)
  have R1 : Hid (RowL W0 (w.heap.size + 1) [.int .u64 (l0 (A) : Int), .int .u64 (l1 (A) : Int), .int .u64 (l2 (A) : Int), .int .u64 (l3 (A) : Int), .int .u64 (l0 (B) : Int), .int .u64 (l1 (B) : Int), .int .u64 (l2 (B) : Int), .int .u64 (l3 (B) : Int)] 29) := Lib.hid (by rw [hW0]; have h := (((RowL.new (w.alloc (.cells ([.int .u64 (l0 (x) : Int), .int .u64 (l1 (x) : Int), .int .u64 (l2 (x) : Int), .int .u64 (l3 (x) : Int)] : List Value).toArray 26)) [.int .u64 (l0 (A) : Int), .int .u64 (l1 (A) : Int), .int .u64 (l2 (A) : Int), .int .u64 (l3 (A) : Int), .int .u64 (l0 (B) : Int), .int .u64 (l1 (B) : Int), .int .u64 (l2 (B) : Int), .int .u64 (l3 (B) : Int)] 29).alloc (.cells ([.int .u64 (l0 (C) : Int), .int .u64 (l1 (C) : Int), .int .u64 (l2 (C) : Int), .int .u64 (l3 (C) : Int), .int .u64 (l0 (D) : Int), .int .u64 (l1 (D) : Int), .int .u64 (l2 (D) : Int), .int .u64 (l3 (D) : Int)] : List Value).toArray 29)).alloc (.cells ([.int .u64 0, .int .u64 0, .int .u64 0, .int .u64 0, .int .u64 0, .int .u64 0, .int .u64 0, .int .u64 0] : List Value).toArray 29)).alloc (.cells ([.int .u64 0, .int .u64 0, .int .u64 0, .int .u64 0, .int .u64 0, .int .u64 0, .int .u64 0, .int .u64 0] : List Value).toArray 29); simpa using h)
  have R2 : Hid (RowL W0 (w.heap.size + 1 + 1) [.int .u64 (l0 (C) : Int), .int .u64 (l1 (C) : Int), .int .u64 (l2 (C) : Int), .int .u64 (l3 (C) : Int), .int .u64 (l0 (D) : Int), .int .u64 (l1 (D) : Int), .int .u64 (l2 (D) : Int), .int .u64 (l3 (D) : Int)] 29) := Lib.hid (by rw [hW0]; have h := ((RowL.new ((w.alloc (.cells ([.int .u64 (l0 (x) : Int), .int .u64 (l1 (x) : Int), .int .u64 (l2 (x) : Int), .int .u64 (l3 (x) : Int)] : List Value).toArray 26)).alloc (.cells ([.int .u64 (l0 (A) : Int), .int .u64 (l1 (A) : Int), .int .u64 (l2 (A) : Int), .int .u64 (l3 (A) : Int), .int .u64 (l0 (B) : Int), .int .u64 (l1 (B) : Int), .int .u64 (l2 (B) : Int), .int .u64 (l3 (B) : Int)] : List Value).toArray 29)) [.int .u64 (l0 (C) : Int), .int .u64 (l1 (C) : Int), .int .u64 (l2 (C) : Int), .int .u64 (l3 (C) : Int), .int .u64 (l0 (D) : Int), .int .u64 (l1 (D) : Int), .int .u64 (l2 (D) : Int), .int .u64 (l3 (D) : Int)] 29).alloc (.cells ([.int .u64 0, .int .u64 0, .int .u64 0, .int .u64 0, .int .u64 0, .int .u64 0, .int .u64 0, .int .u64 0] : List Value).toArray 29)).alloc (.cells ([.int .u64 0, .int .u64 0, .int .u64 0, .int .u64 0, .int .u64 0, .int .u64 0, .int .u64 0, .int .u64 0] : List Value).toArray 29); simpa using h)
  have R3 : Hid (RowL W0 (w.heap.size + 1 + 1 + 1) [.int .u64 0, .int .u64 0, .int .u64 0, .int .u64 0, .int .u64 0, .int .u64 0, .int .u64 0, .int .u64 0] 29) := Lib.hid (by rw [hW0]; have h := (RowL.new (((w.alloc (.cells ([.int .u64 (l0 (x) : Int), .int .u64 (l1 (x) : Int), .int .u64 (l2 (x) : Int), .int .u64 (l3 (x) : Int)] : List Value).toArray 26)).alloc (.cells ([.int .u64 (l0 (A) : Int), .int .u64 (l1 (A) : Int), .int .u64 (l2 (A) : Int), .int .u64 (l3 (A) : Int), .int .u64 (l0 (B) : Int), .int .u64 (l1 (B) : Int), .int .u64 (l2 (B) : Int), .int .u64 (l3 (B) : Int)] : List Value).toArray 29)).alloc (.cells ([.int .u64 (l0 (C) : Int), .int .u64 (l1 (C) : Int), .int .u64 (l2 (C) : Int), .int .u64 (l3 (C) : Int), .int .u64 (l0 (D) : Int), .int .u64 (l1 (D) : Int), .int .u64 (l2 (D) : Int), .int .u64 (l3 (D) : Int)] : List Value).toArray 29)) [.int .u64 0, .int .u64 0, .int .u64 0, .int .u64 0, .int .u64 0, .int .u64 0, .int .u64 0, .int .u64 0] 29).alloc (.cells ([.int .u64 0, .int .u64 0, .int .u64 0, .int .u64 0, .int .u64 0, .int .u64 0, .int .u64 0, .int .u64 0] : List Value).toArray 29); simpa using h)
  have R4 : Hid (RowL W0 (w.heap.size + 1 + 1 + 1 + 1) [.int .u64 0, .int .u64 0, .int .u64 0, .int .u64 0, .int .u64 0, .int .u64 0, .int .u64 0, .int .u64 0] 29) := Lib.hid (by rw [hW0]; have h := RowL.new ((((w.alloc (.cells ([.int .u64 (l0 (x) : Int), .int .u64 (l1 (x) : Int), .int .u64 (l2 (x) : Int), .int .u64 (l3 (x) : Int)] : List Value).toArray 26)).alloc (.cells ([.int .u64 (l0 (A) : Int), .int .u64 (l1 (A) : Int), .int .u64 (l2 (A) : Int), .int .u64 (l3 (A) : Int), .int .u64 (l0 (B) : Int), .int .u64 (l1 (B) : Int), .int .u64 (l2 (B) : Int), .int .u64 (l3 (B) : Int)] : List Value).toArray 29)).alloc (.cells ([.int .u64 (l0 (C) : Int), .int .u64 (l1 (C) : Int), .int .u64 (l2 (C) : Int), .int .u64 (l3 (C) : Int), .int .u64 (l0 (D) : Int), .int .u64 (l1 (D) : Int), .int .u64 (l2 (D) : Int), .int .u64 (l3 (D) : Int)] : List Value).toArray 29)).alloc (.cells ([.int .u64 0, .int .u64 0, .int .u64 0, .int .u64 0, .int .u64 0, .int .u64 0, .int .u64 0, .int .u64 0] : List Value).toArray 29)) [.int .u64 0, .int .u64 0, .int .u64 0, .int .u64 0, .int .u64 0, .int .u64 0, .int .u64 0, .int .u64 0] 29; simpa using h)
  have HB := Lib.hid hb0; have HW0 := Lib.hid hW0
  clear hb0 hW0
  go_enter Try.func71, Try.ntmps71
  go_upto_region 1 with fail
  rw [show _ = W0 from HW0.out.symm]
  clear HW0
  refine wp_region_mono 13 [19, 20, 21, 22, 23, 24, 25, 26, 27, 28, 29, 8, 9] (phi [IsV (.pointer (some ⟨(w.heap.size + 1), 0, none⟩)), IsV (.agg #[.int .u64 (l0 (A) : Int), .int .u64 (l1 (A) : Int), .int .u64 (l2 (A) : Int), .int .u64 (l3 (A) : Int)]), IsV (.pointer (some ⟨(w.heap.size + 1), 4, none⟩)), IsV (.agg #[.int .u64 (l0 (B) : Int), .int .u64 (l1 (B) : Int), .int .u64 (l2 (B) : Int), .int .u64 (l3 (B) : Int)]), IsS 2 ([.int .u64 (l0 (A) : Int), .int .u64 (l1 (A) : Int), .int .u64 (l2 (A) : Int), .int .u64 (l3 (A) : Int), .int .u64 (l0 (B) : Int), .int .u64 (l1 (B) : Int), .int .u64 (l2 (B) : Int), .int .u64 (l3 (B) : Int)]) 26, IsV (.agg #[.int .u64 (l0 (a) : Int), .int .u64 (l1 (a) : Int), .int .u64 (l2 (a) : Int), .int .u64 (l3 (a) : Int)]), IsV (.pointer (some ⟨(w.heap.size + 1), 0, none⟩)), IsV (.agg #[.int .u64 (l0 (A) : Int), .int .u64 (l1 (A) : Int), .int .u64 (l2 (A) : Int), .int .u64 (l3 (A) : Int)]), IsV (.pointer (some ⟨(w.heap.size + 1), 4, none⟩)), IsV (.agg #[.int .u64 (l0 (B) : Int), .int .u64 (l1 (B) : Int), .int .u64 (l2 (B) : Int), .int .u64 (l3 (B) : Int)]), IsV (.agg #[.int .u64 (l0 (b) : Int), .int .u64 (l1 (b) : Int), .int .u64 (l2 (b) : Int), .int .u64 (l3 (b) : Int)]), IsR W0.heap.size ([.int .u64 0, .int .u64 0, .int .u64 0, .int .u64 0]) 26, IsR W0.heap.size ([.int .u64 0, .int .u64 0, .int .u64 0, .int .u64 0]) 26]) [11, 12] rfl (by kernel_rfl) rfl rfl (by kernel_rfl) rfl (by kernel_rfl) (by kernel_rfl) (phi_mono (by repeat (first | exact mono_v _ | exact mono_r _ _ _ | exact mono_s _ _ _ | exact trivial | refine ⟨?_, ?_⟩))) ?_ ?_
  · intro i hi
    rcases (show i = 0 ∨ i = 1 ∨ i = 2 ∨ i = 3 ∨ i = 4 ∨ i = 5 ∨ i = 6 ∨ i = 7 ∨ i = 8 ∨ i = 9 ∨ i = 10 ∨ i = 11 ∨ i = 12 by omega) with rfl | rfl | rfl | rfl | rfl | rfl | rfl | rfl | rfl | rfl | rfl | rfl | rfl
    · intro ac W hB hst hdep
      have e4 : ac.tmps[4]? = some (.pointer (some ⟨(w.heap.size + 1), 0, none⟩)) := hst 4 (by decide)
      exact st_field rfl rfl 29 (.tmp 4) 0 rfl (eval_of e4) (fieldR0 (w.heap.size + 1)) rfl (notE rfl)
    · intro ac W hB hst hdep
      obtain ⟨x19, e19, h19⟩ := hdep 0 (memE (by kernel_rfl)) 19 rfl
      replace h19 : x19 = .pointer (some ⟨(w.heap.size + 1), 0, none⟩) := h19
      subst h19
      exact st_load rfl rfl 26 (.tmp 19) rfl (eval_of e19) ([.int .u64 (l0 (A) : Int), .int .u64 (l1 (A) : Int), .int .u64 (l2 (A) : Int), .int .u64 (l3 (A) : Int)]) _ ((RowL.upS (w := W0.drew) R1.out hB).range 0 _ rfl) undEl rfl (by kernel_rfl) rfl (notE rfl)
    · intro ac W hB hst hdep
      have e4 : ac.tmps[4]? = some (.pointer (some ⟨(w.heap.size + 1), 0, none⟩)) := hst 4 (by decide)
      exact st_field rfl rfl 29 (.tmp 4) 1 rfl (eval_of e4) (fieldR1 (w.heap.size + 1)) rfl (notE rfl)
    · intro ac W hB hst hdep
      obtain ⟨x21, e21, h21⟩ := hdep 2 (memE (by kernel_rfl)) 21 rfl
      replace h21 : x21 = .pointer (some ⟨(w.heap.size + 1), 4, none⟩) := h21
      subst h21
      exact st_load rfl rfl 26 (.tmp 21) rfl (eval_of e21) ([.int .u64 (l0 (B) : Int), .int .u64 (l1 (B) : Int), .int .u64 (l2 (B) : Int), .int .u64 (l3 (B) : Int)]) _ ((RowL.upS (w := W0.drew) R1.out hB).range 4 _ rfl) undEl rfl (by kernel_rfl) rfl (notE rfl)
    · intro ac W hB hst hdep
      obtain ⟨x20, e20, h20⟩ := hdep 1 (memE (by kernel_rfl)) 20 rfl
      replace h20 : x20 = .agg #[.int .u64 (l0 (A) : Int), .int .u64 (l1 (A) : Int), .int .u64 (l2 (A) : Int), .int .u64 (l3 (A) : Int)] := h20
      subst h20
      obtain ⟨x22, e22, h22⟩ := hdep 3 (memE (by kernel_rfl)) 22 rfl
      replace h22 : x22 = .agg #[.int .u64 (l0 (B) : Int), .int .u64 (l1 (B) : Int), .int .u64 (l2 (B) : Int), .int .u64 (l3 (B) : Int)] := h22
      subst h22
      exact st_bs rfl rfl 86 26 2 _ rfl (show (#[(0, .tmp 20), (1, .tmp 22)] : Array (Nat × Operand)).map (fun (i, x) => (i, ac.eval x)) = #[(0, .agg #[.int .u64 (l0 (A) : Int), .int .u64 (l1 (A) : Int), .int .u64 (l2 (A) : Int), .int .u64 (l3 (A) : Int)]), (1, .agg #[.int .u64 (l0 (B) : Int), .int .u64 (l1 (B) : Int), .int .u64 (l2 (B) : Int), .int .u64 (l3 (B) : Int)])] by simp only [List.map_toArray, List.map_cons, List.map_nil, eval_of e20, eval_of e22]) (bsEl2 (A) (B)) ⟨_, rfl, heap_alloc_new _ _⟩ (notE rfl)
    · intro ac W hB hst hdep
      obtain ⟨x23, e23, h23⟩ := hdep 4 (memE (by kernel_rfl)) 23 rfl
      obtain ⟨g23, hg23, r23⟩ := (h23 : IsS 2 ([.int .u64 (l0 (A) : Int), .int .u64 (l1 (A) : Int), .int .u64 (l2 (A) : Int), .int .u64 (l3 (A) : Int), .int .u64 (l0 (B) : Int), .int .u64 (l1 (B) : Int), .int .u64 (l2 (B) : Int), .int .u64 (l3 (B) : Int)]) 26 _ _)
      subst hg23
      exact st_call rfl rfl rfl (show (#[.tmp 23] : Array Operand).map ac.eval = (#[.slice (some ⟨g23, 0, none⟩) 2 2] : Array Value) by simp only [List.map_toArray, List.map_cons, List.map_nil, Act.eval_const, eval_of e23]) (fun _ => by kernel_rfl) (Calls.mono (sumK ZA.out ZB.out Qa.out r23) fun e w' h => ⟨_, h.1, h.2, rfl⟩) (notE rfl)
    · intro ac W hB hst hdep
      have e4 : ac.tmps[4]? = some (.pointer (some ⟨(w.heap.size + 1), 0, none⟩)) := hst 4 (by decide)
      exact st_field rfl rfl 29 (.tmp 4) 0 rfl (eval_of e4) (fieldR0 (w.heap.size + 1)) rfl (notE rfl)
    · intro ac W hB hst hdep
      obtain ⟨x25, e25, h25⟩ := hdep 6 (memE (by kernel_rfl)) 25 rfl
      replace h25 : x25 = .pointer (some ⟨(w.heap.size + 1), 0, none⟩) := h25
      subst h25
      exact st_load rfl rfl 26 (.tmp 25) rfl (eval_of e25) ([.int .u64 (l0 (A) : Int), .int .u64 (l1 (A) : Int), .int .u64 (l2 (A) : Int), .int .u64 (l3 (A) : Int)]) _ ((RowL.upS (w := W0.drew) R1.out hB).range 0 _ rfl) undEl rfl (by kernel_rfl) rfl (notE rfl)
    · intro ac W hB hst hdep
      have e4 : ac.tmps[4]? = some (.pointer (some ⟨(w.heap.size + 1), 0, none⟩)) := hst 4 (by decide)
      exact st_field rfl rfl 29 (.tmp 4) 1 rfl (eval_of e4) (fieldR1 (w.heap.size + 1)) rfl (notE rfl)
    · intro ac W hB hst hdep
      obtain ⟨x27, e27, h27⟩ := hdep 8 (memE (by kernel_rfl)) 27 rfl
      replace h27 : x27 = .pointer (some ⟨(w.heap.size + 1), 4, none⟩) := h27
      subst h27
      exact st_load rfl rfl 26 (.tmp 27) rfl (eval_of e27) ([.int .u64 (l0 (B) : Int), .int .u64 (l1 (B) : Int), .int .u64 (l2 (B) : Int), .int .u64 (l3 (B) : Int)]) _ ((RowL.upS (w := W0.drew) R1.out hB).range 4 _ rfl) undEl rfl (by kernel_rfl) rfl (notE rfl)
    · intro ac W hB hst hdep
      obtain ⟨x26, e26, h26⟩ := hdep 7 (memE (by kernel_rfl)) 26 rfl
      replace h26 : x26 = .agg #[.int .u64 (l0 (A) : Int), .int .u64 (l1 (A) : Int), .int .u64 (l2 (A) : Int), .int .u64 (l3 (A) : Int)] := h26
      subst h26
      obtain ⟨x28, e28, h28⟩ := hdep 9 (memE (by kernel_rfl)) 28 rfl
      replace h28 : x28 = .agg #[.int .u64 (l0 (B) : Int), .int .u64 (l1 (B) : Int), .int .u64 (l2 (B) : Int), .int .u64 (l3 (B) : Int)] := h28
      subst h28
      exact st_call rfl rfl rfl (show (#[.tmp 26, .tmp 28] : Array Operand).map ac.eval = (#[.agg #[.int .u64 (l0 (A) : Int), .int .u64 (l1 (A) : Int), .int .u64 (l2 (A) : Int), .int .u64 (l3 (A) : Int)], .agg #[.int .u64 (l0 (B) : Int), .int .u64 (l1 (B) : Int), .int .u64 (l2 (B) : Int), .int .u64 (l3 (B) : Int)]] : Array Value) by simp only [List.map_toArray, List.map_cons, List.map_nil, Act.eval_const, eval_of e26, eval_of e28]) (fun _ => by kernel_rfl) (Calls.mono (subK ZA.out ZB.out Qb.out) fun e w' h => ⟨_, h.1, h.2, rfl⟩) (notE rfl)
    · intro ac W hB hst hdep
      exact st_alloc rfl rfl 26 rfl allocEl ⟨_, rfl, hB.size, heap_alloc_new _ _⟩
    · intro ac W hB hst hdep
      exact st_alloc rfl rfl 26 rfl allocEl ⟨_, rfl, hB.size, heap_alloc_new _ _⟩
  intro vs hvs wn hbr hv hne
  obtain ⟨v19, v20, v21, v22, v23, v24, v25, v26, v27, v28, v29, v8, v9, rfl⟩ := list13 vs hvs
  obtain rfl : v19 = .pointer (some ⟨(w.heap.size + 1), 0, none⟩) := hv 0 _ rfl
  obtain rfl : v20 = .agg #[.int .u64 (l0 (A) : Int), .int .u64 (l1 (A) : Int), .int .u64 (l2 (A) : Int), .int .u64 (l3 (A) : Int)] := hv 1 _ rfl
  obtain rfl : v21 = .pointer (some ⟨(w.heap.size + 1), 4, none⟩) := hv 2 _ rfl
  obtain rfl : v22 = .agg #[.int .u64 (l0 (B) : Int), .int .u64 (l1 (B) : Int), .int .u64 (l2 (B) : Int), .int .u64 (l3 (B) : Int)] := hv 3 _ rfl
  obtain ⟨g23, hg23, hr23⟩ : IsS 2 ([.int .u64 (l0 (A) : Int), .int .u64 (l1 (A) : Int), .int .u64 (l2 (A) : Int), .int .u64 (l3 (A) : Int), .int .u64 (l0 (B) : Int), .int .u64 (l1 (B) : Int), .int .u64 (l2 (B) : Int), .int .u64 (l3 (B) : Int)]) 26 v23 wn := hv 4 _ rfl
  obtain rfl : v24 = .agg #[.int .u64 (l0 (a) : Int), .int .u64 (l1 (a) : Int), .int .u64 (l2 (a) : Int), .int .u64 (l3 (a) : Int)] := hv 5 _ rfl
  obtain rfl : v25 = .pointer (some ⟨(w.heap.size + 1), 0, none⟩) := hv 6 _ rfl
  obtain rfl : v26 = .agg #[.int .u64 (l0 (A) : Int), .int .u64 (l1 (A) : Int), .int .u64 (l2 (A) : Int), .int .u64 (l3 (A) : Int)] := hv 7 _ rfl
  obtain rfl : v27 = .pointer (some ⟨(w.heap.size + 1), 4, none⟩) := hv 8 _ rfl
  obtain rfl : v28 = .agg #[.int .u64 (l0 (B) : Int), .int .u64 (l1 (B) : Int), .int .u64 (l2 (B) : Int), .int .u64 (l3 (B) : Int)] := hv 9 _ rfl
  obtain rfl : v29 = .agg #[.int .u64 (l0 (b) : Int), .int .u64 (l1 (b) : Int), .int .u64 (l2 (b) : Int), .int .u64 (l3 (b) : Int)] := hv 10 _ rfl
  obtain ⟨g8, hg8, hB8, hr8⟩ : IsR W0.heap.size ([.int .u64 0, .int .u64 0, .int .u64 0, .int .u64 0]) 26 v8 wn := hv 11 _ rfl
  obtain ⟨g9, hg9, hB9, hr9⟩ : IsR W0.heap.size ([.int .u64 0, .int .u64 0, .int .u64 0, .int .u64 0]) 26 v9 wn := hv 12 _ rfl
  have ne8_9 : g8 ≠ g9 := fun e => hne 11 (memE rfl) 12 (memE rfl) (by decide) (by subst hg8; subst hg9; subst e; rfl)
  subst hg23
  subst hg8
  subst hg9
  clear hvs hv hne
  simp only [List.zip_cons_cons, List.zip_nil_right, List.zip_nil_left, puts, Act.put, List.setIfInBounds_toArray, List.set_cons_zero, List.set_cons_succ]
  have hz : W0.heap.size ≤ wn.heap.size := hbr.size
  have nB_W1 := Lib.hid (HB.out.trans (hbr.mono HB.out.size))
  have nR0 := Lib.hid (R0.out.upS hbr)
  have nR2 := Lib.hid (R2.out.upS hbr)
  have nR3 := Lib.hid (R3.out.upS hbr)
  have nR4 := Lib.hid (R4.out.upS hbr)
  refine tail_store (k := 13) (by kernel_rfl) rfl rfl rfl 26 (.tmp 8) (.tmp 24) rfl g8 ([.int .u64 (l0 (a) : Int), .int .u64 (l1 (a) : Int), .int .u64 (l2 (a) : Int), .int .u64 (l3 (a) : Int)] : List Value).toArray (by kernel_rfl) (by kernel_rfl) _ _ hr8 (by kernel_rfl) rfl (by kernel_rfl) ?_
  replace hr8 := hr8.set ([.int .u64 (l0 (a) : Int), .int .u64 (l1 (a) : Int), .int .u64 (l2 (a) : Int), .int .u64 (l3 (a) : Int)])
  replace hr9 := hr9.set_ne ([.int .u64 (l0 (a) : Int), .int .u64 (l1 (a) : Int), .int .u64 (l2 (a) : Int), .int .u64 (l3 (a) : Int)] : List Value).toArray ne8_9.symm
  replace nB_W1 := Lib.hid (set_below nB_W1.out (Nat.le_trans HB.out.size hB8) ([.int .u64 (l0 (a) : Int), .int .u64 (l1 (a) : Int), .int .u64 (l2 (a) : Int), .int .u64 (l3 (a) : Int)] : List Value).toArray)
  replace nR0 := Lib.hid (nR0.out.set_ne ([.int .u64 (l0 (a) : Int), .int .u64 (l1 (a) : Int), .int .u64 (l2 (a) : Int), .int .u64 (l3 (a) : Int)] : List Value).toArray (Nat.ne_of_lt (Nat.lt_of_lt_of_le R0.out.lt hB8)))
  replace nR2 := Lib.hid (nR2.out.set_ne ([.int .u64 (l0 (a) : Int), .int .u64 (l1 (a) : Int), .int .u64 (l2 (a) : Int), .int .u64 (l3 (a) : Int)] : List Value).toArray (Nat.ne_of_lt (Nat.lt_of_lt_of_le R2.out.lt hB8)))
  replace nR3 := Lib.hid (nR3.out.set_ne ([.int .u64 (l0 (a) : Int), .int .u64 (l1 (a) : Int), .int .u64 (l2 (a) : Int), .int .u64 (l3 (a) : Int)] : List Value).toArray (Nat.ne_of_lt (Nat.lt_of_lt_of_le R3.out.lt hB8)))
  replace nR4 := Lib.hid (nR4.out.set_ne ([.int .u64 (l0 (a) : Int), .int .u64 (l1 (a) : Int), .int .u64 (l2 (a) : Int), .int .u64 (l3 (a) : Int)] : List Value).toArray (Nat.ne_of_lt (Nat.lt_of_lt_of_le R4.out.lt hB8)))
  refine tail_store (k := 14) (by kernel_rfl) rfl rfl rfl 26 (.tmp 9) (.tmp 29) rfl g9 ([.int .u64 (l0 (b) : Int), .int .u64 (l1 (b) : Int), .int .u64 (l2 (b) : Int), .int .u64 (l3 (b) : Int)] : List Value).toArray (by kernel_rfl) (by kernel_rfl) _ _ hr9 (by kernel_rfl) rfl (by kernel_rfl) ?_
  replace hr8 := hr8.set_ne ([.int .u64 (l0 (b) : Int), .int .u64 (l1 (b) : Int), .int .u64 (l2 (b) : Int), .int .u64 (l3 (b) : Int)] : List Value).toArray ne8_9
  replace hr9 := hr9.set ([.int .u64 (l0 (b) : Int), .int .u64 (l1 (b) : Int), .int .u64 (l2 (b) : Int), .int .u64 (l3 (b) : Int)])
  replace nB_W1 := Lib.hid (set_below nB_W1.out (Nat.le_trans HB.out.size hB9) ([.int .u64 (l0 (b) : Int), .int .u64 (l1 (b) : Int), .int .u64 (l2 (b) : Int), .int .u64 (l3 (b) : Int)] : List Value).toArray)
  replace nR0 := Lib.hid (nR0.out.set_ne ([.int .u64 (l0 (b) : Int), .int .u64 (l1 (b) : Int), .int .u64 (l2 (b) : Int), .int .u64 (l3 (b) : Int)] : List Value).toArray (Nat.ne_of_lt (Nat.lt_of_lt_of_le R0.out.lt hB9)))
  replace nR2 := Lib.hid (nR2.out.set_ne ([.int .u64 (l0 (b) : Int), .int .u64 (l1 (b) : Int), .int .u64 (l2 (b) : Int), .int .u64 (l3 (b) : Int)] : List Value).toArray (Nat.ne_of_lt (Nat.lt_of_lt_of_le R2.out.lt hB9)))
  replace nR3 := Lib.hid (nR3.out.set_ne ([.int .u64 (l0 (b) : Int), .int .u64 (l1 (b) : Int), .int .u64 (l2 (b) : Int), .int .u64 (l3 (b) : Int)] : List Value).toArray (Nat.ne_of_lt (Nat.lt_of_lt_of_le R3.out.lt hB9)))
  replace nR4 := Lib.hid (nR4.out.set_ne ([.int .u64 (l0 (b) : Int), .int .u64 (l1 (b) : Int), .int .u64 (l2 (b) : Int), .int .u64 (l3 (b) : Int)] : List Value).toArray (Nat.ne_of_lt (Nat.lt_of_lt_of_le R4.out.lt hB9)))
  refine wpAny_done (by kernel_rfl) ?_ _
  have Hg8 := Lib.hid hr8
  have Hg9 := Lib.hid hr9
  have M8 : Hid (W0.heap.size ≤ g8) := Lib.hid hB8
  have M9 : Hid (W0.heap.size ≤ g9) := Lib.hid hB9
  clear hbr hz hr8 hr9 hB8 hB9 ne8_9 hr23
  generalize ((wn.setRow g8 ([.int .u64 (l0 (a) : Int), .int .u64 (l1 (a) : Int), .int .u64 (l2 (a) : Int), .int .u64 (l3 (a) : Int)] : List Value).toArray).setRow g9 ([.int .u64 (l0 (b) : Int), .int .u64 (l1 (b) : Int), .int .u64 (l2 (b) : Int), .int .u64 (l3 (b) : Int)] : List Value).toArray) = W1 at *
  clear HB R0 R1 R2 R3 R4
  go_upto_region 2 with fail
  refine wp_region_mono 13 [30, 31, 32, 33, 34, 35, 36, 37, 38, 39, 40, 10, 11] (phi [IsV (.pointer (some ⟨(w.heap.size + 1 + 1), 0, none⟩)), IsV (.agg #[.int .u64 (l0 (C) : Int), .int .u64 (l1 (C) : Int), .int .u64 (l2 (C) : Int), .int .u64 (l3 (C) : Int)]), IsV (.pointer (some ⟨(w.heap.size + 1 + 1), 4, none⟩)), IsV (.agg #[.int .u64 (l0 (D) : Int), .int .u64 (l1 (D) : Int), .int .u64 (l2 (D) : Int), .int .u64 (l3 (D) : Int)]), IsS 2 ([.int .u64 (l0 (C) : Int), .int .u64 (l1 (C) : Int), .int .u64 (l2 (C) : Int), .int .u64 (l3 (C) : Int), .int .u64 (l0 (D) : Int), .int .u64 (l1 (D) : Int), .int .u64 (l2 (D) : Int), .int .u64 (l3 (D) : Int)]) 26, IsV (.agg #[.int .u64 (l0 (c) : Int), .int .u64 (l1 (c) : Int), .int .u64 (l2 (c) : Int), .int .u64 (l3 (c) : Int)]), IsV (.pointer (some ⟨(w.heap.size + 1 + 1), 0, none⟩)), IsV (.agg #[.int .u64 (l0 (C) : Int), .int .u64 (l1 (C) : Int), .int .u64 (l2 (C) : Int), .int .u64 (l3 (C) : Int)]), IsV (.pointer (some ⟨(w.heap.size + 1 + 1), 4, none⟩)), IsV (.agg #[.int .u64 (l0 (D) : Int), .int .u64 (l1 (D) : Int), .int .u64 (l2 (D) : Int), .int .u64 (l3 (D) : Int)]), IsV (.agg #[.int .u64 (l0 (d) : Int), .int .u64 (l1 (d) : Int), .int .u64 (l2 (d) : Int), .int .u64 (l3 (d) : Int)]), IsR W1.heap.size ([.int .u64 0, .int .u64 0, .int .u64 0, .int .u64 0]) 26, IsR W1.heap.size ([.int .u64 0, .int .u64 0, .int .u64 0, .int .u64 0]) 26]) [11, 12] rfl (by kernel_rfl) rfl rfl (by kernel_rfl) rfl (by kernel_rfl) (by kernel_rfl) (phi_mono (by repeat (first | exact mono_v _ | exact mono_r _ _ _ | exact mono_s _ _ _ | exact trivial | refine ⟨?_, ?_⟩))) ?_ ?_
  · intro i hi
    rcases (show i = 0 ∨ i = 1 ∨ i = 2 ∨ i = 3 ∨ i = 4 ∨ i = 5 ∨ i = 6 ∨ i = 7 ∨ i = 8 ∨ i = 9 ∨ i = 10 ∨ i = 11 ∨ i = 12 by omega) with rfl | rfl | rfl | rfl | rfl | rfl | rfl | rfl | rfl | rfl | rfl | rfl | rfl
    · intro ac W hB hst hdep
      have e5 : ac.tmps[5]? = some (.pointer (some ⟨(w.heap.size + 1 + 1), 0, none⟩)) := hst 5 (by decide)
      exact st_field rfl rfl 29 (.tmp 5) 0 rfl (eval_of e5) (fieldR0 (w.heap.size + 1 + 1)) rfl (notE rfl)
    · intro ac W hB hst hdep
      obtain ⟨x30, e30, h30⟩ := hdep 0 (memE (by kernel_rfl)) 30 rfl
      replace h30 : x30 = .pointer (some ⟨(w.heap.size + 1 + 1), 0, none⟩) := h30
      subst h30
      exact st_load rfl rfl 26 (.tmp 30) rfl (eval_of e30) ([.int .u64 (l0 (C) : Int), .int .u64 (l1 (C) : Int), .int .u64 (l2 (C) : Int), .int .u64 (l3 (C) : Int)]) _ ((RowL.upS (w := W1.drew) nR2.out hB).range 0 _ rfl) undEl rfl (by kernel_rfl) rfl (notE rfl)
    · intro ac W hB hst hdep
      have e5 : ac.tmps[5]? = some (.pointer (some ⟨(w.heap.size + 1 + 1), 0, none⟩)) := hst 5 (by decide)
      exact st_field rfl rfl 29 (.tmp 5) 1 rfl (eval_of e5) (fieldR1 (w.heap.size + 1 + 1)) rfl (notE rfl)
    · intro ac W hB hst hdep
      obtain ⟨x32, e32, h32⟩ := hdep 2 (memE (by kernel_rfl)) 32 rfl
      replace h32 : x32 = .pointer (some ⟨(w.heap.size + 1 + 1), 4, none⟩) := h32
      subst h32
      exact st_load rfl rfl 26 (.tmp 32) rfl (eval_of e32) ([.int .u64 (l0 (D) : Int), .int .u64 (l1 (D) : Int), .int .u64 (l2 (D) : Int), .int .u64 (l3 (D) : Int)]) _ ((RowL.upS (w := W1.drew) nR2.out hB).range 4 _ rfl) undEl rfl (by kernel_rfl) rfl (notE rfl)
    · intro ac W hB hst hdep
      obtain ⟨x31, e31, h31⟩ := hdep 1 (memE (by kernel_rfl)) 31 rfl
      replace h31 : x31 = .agg #[.int .u64 (l0 (C) : Int), .int .u64 (l1 (C) : Int), .int .u64 (l2 (C) : Int), .int .u64 (l3 (C) : Int)] := h31
      subst h31
      obtain ⟨x33, e33, h33⟩ := hdep 3 (memE (by kernel_rfl)) 33 rfl
      replace h33 : x33 = .agg #[.int .u64 (l0 (D) : Int), .int .u64 (l1 (D) : Int), .int .u64 (l2 (D) : Int), .int .u64 (l3 (D) : Int)] := h33
      subst h33
      exact st_bs rfl rfl 86 26 2 _ rfl (show (#[(0, .tmp 31), (1, .tmp 33)] : Array (Nat × Operand)).map (fun (i, x) => (i, ac.eval x)) = #[(0, .agg #[.int .u64 (l0 (C) : Int), .int .u64 (l1 (C) : Int), .int .u64 (l2 (C) : Int), .int .u64 (l3 (C) : Int)]), (1, .agg #[.int .u64 (l0 (D) : Int), .int .u64 (l1 (D) : Int), .int .u64 (l2 (D) : Int), .int .u64 (l3 (D) : Int)])] by simp only [List.map_toArray, List.map_cons, List.map_nil, eval_of e31, eval_of e33]) (bsEl2 (C) (D)) ⟨_, rfl, heap_alloc_new _ _⟩ (notE rfl)
    · intro ac W hB hst hdep
      obtain ⟨x34, e34, h34⟩ := hdep 4 (memE (by kernel_rfl)) 34 rfl
      obtain ⟨g34, hg34, r34⟩ := (h34 : IsS 2 ([.int .u64 (l0 (C) : Int), .int .u64 (l1 (C) : Int), .int .u64 (l2 (C) : Int), .int .u64 (l3 (C) : Int), .int .u64 (l0 (D) : Int), .int .u64 (l1 (D) : Int), .int .u64 (l2 (D) : Int), .int .u64 (l3 (D) : Int)]) 26 _ _)
      subst hg34
      exact st_call rfl rfl rfl (show (#[.tmp 34] : Array Operand).map ac.eval = (#[.slice (some ⟨g34, 0, none⟩) 2 2] : Array Value) by simp only [List.map_toArray, List.map_cons, List.map_nil, Act.eval_const, eval_of e34]) (fun _ => by kernel_rfl) (Calls.mono (sumK ZC.out ZD.out Qc.out r34) fun e w' h => ⟨_, h.1, h.2, rfl⟩) (notE rfl)
    · intro ac W hB hst hdep
      have e5 : ac.tmps[5]? = some (.pointer (some ⟨(w.heap.size + 1 + 1), 0, none⟩)) := hst 5 (by decide)
      exact st_field rfl rfl 29 (.tmp 5) 0 rfl (eval_of e5) (fieldR0 (w.heap.size + 1 + 1)) rfl (notE rfl)
    · intro ac W hB hst hdep
      obtain ⟨x36, e36, h36⟩ := hdep 6 (memE (by kernel_rfl)) 36 rfl
      replace h36 : x36 = .pointer (some ⟨(w.heap.size + 1 + 1), 0, none⟩) := h36
      subst h36
      exact st_load rfl rfl 26 (.tmp 36) rfl (eval_of e36) ([.int .u64 (l0 (C) : Int), .int .u64 (l1 (C) : Int), .int .u64 (l2 (C) : Int), .int .u64 (l3 (C) : Int)]) _ ((RowL.upS (w := W1.drew) nR2.out hB).range 0 _ rfl) undEl rfl (by kernel_rfl) rfl (notE rfl)
    · intro ac W hB hst hdep
      have e5 : ac.tmps[5]? = some (.pointer (some ⟨(w.heap.size + 1 + 1), 0, none⟩)) := hst 5 (by decide)
      exact st_field rfl rfl 29 (.tmp 5) 1 rfl (eval_of e5) (fieldR1 (w.heap.size + 1 + 1)) rfl (notE rfl)
    · intro ac W hB hst hdep
      obtain ⟨x38, e38, h38⟩ := hdep 8 (memE (by kernel_rfl)) 38 rfl
      replace h38 : x38 = .pointer (some ⟨(w.heap.size + 1 + 1), 4, none⟩) := h38
      subst h38
      exact st_load rfl rfl 26 (.tmp 38) rfl (eval_of e38) ([.int .u64 (l0 (D) : Int), .int .u64 (l1 (D) : Int), .int .u64 (l2 (D) : Int), .int .u64 (l3 (D) : Int)]) _ ((RowL.upS (w := W1.drew) nR2.out hB).range 4 _ rfl) undEl rfl (by kernel_rfl) rfl (notE rfl)
    · intro ac W hB hst hdep
      obtain ⟨x37, e37, h37⟩ := hdep 7 (memE (by kernel_rfl)) 37 rfl
      replace h37 : x37 = .agg #[.int .u64 (l0 (C) : Int), .int .u64 (l1 (C) : Int), .int .u64 (l2 (C) : Int), .int .u64 (l3 (C) : Int)] := h37
      subst h37
      obtain ⟨x39, e39, h39⟩ := hdep 9 (memE (by kernel_rfl)) 39 rfl
      replace h39 : x39 = .agg #[.int .u64 (l0 (D) : Int), .int .u64 (l1 (D) : Int), .int .u64 (l2 (D) : Int), .int .u64 (l3 (D) : Int)] := h39
      subst h39
      exact st_call rfl rfl rfl (show (#[.tmp 37, .tmp 39] : Array Operand).map ac.eval = (#[.agg #[.int .u64 (l0 (C) : Int), .int .u64 (l1 (C) : Int), .int .u64 (l2 (C) : Int), .int .u64 (l3 (C) : Int)], .agg #[.int .u64 (l0 (D) : Int), .int .u64 (l1 (D) : Int), .int .u64 (l2 (D) : Int), .int .u64 (l3 (D) : Int)]] : Array Value) by simp only [List.map_toArray, List.map_cons, List.map_nil, Act.eval_const, eval_of e37, eval_of e39]) (fun _ => by kernel_rfl) (Calls.mono (subK ZC.out ZD.out Qd.out) fun e w' h => ⟨_, h.1, h.2, rfl⟩) (notE rfl)
    · intro ac W hB hst hdep
      exact st_alloc rfl rfl 26 rfl allocEl ⟨_, rfl, hB.size, heap_alloc_new _ _⟩
    · intro ac W hB hst hdep
      exact st_alloc rfl rfl 26 rfl allocEl ⟨_, rfl, hB.size, heap_alloc_new _ _⟩
  intro vs hvs wn hbr hv hne
  obtain ⟨v30, v31, v32, v33, v34, v35, v36, v37, v38, v39, v40, v10, v11, rfl⟩ := list13 vs hvs
  obtain rfl : v30 = .pointer (some ⟨(w.heap.size + 1 + 1), 0, none⟩) := hv 0 _ rfl
  obtain rfl : v31 = .agg #[.int .u64 (l0 (C) : Int), .int .u64 (l1 (C) : Int), .int .u64 (l2 (C) : Int), .int .u64 (l3 (C) : Int)] := hv 1 _ rfl
  obtain rfl : v32 = .pointer (some ⟨(w.heap.size + 1 + 1), 4, none⟩) := hv 2 _ rfl
  obtain rfl : v33 = .agg #[.int .u64 (l0 (D) : Int), .int .u64 (l1 (D) : Int), .int .u64 (l2 (D) : Int), .int .u64 (l3 (D) : Int)] := hv 3 _ rfl
  obtain ⟨g34, hg34, hr34⟩ : IsS 2 ([.int .u64 (l0 (C) : Int), .int .u64 (l1 (C) : Int), .int .u64 (l2 (C) : Int), .int .u64 (l3 (C) : Int), .int .u64 (l0 (D) : Int), .int .u64 (l1 (D) : Int), .int .u64 (l2 (D) : Int), .int .u64 (l3 (D) : Int)]) 26 v34 wn := hv 4 _ rfl
  obtain rfl : v35 = .agg #[.int .u64 (l0 (c) : Int), .int .u64 (l1 (c) : Int), .int .u64 (l2 (c) : Int), .int .u64 (l3 (c) : Int)] := hv 5 _ rfl
  obtain rfl : v36 = .pointer (some ⟨(w.heap.size + 1 + 1), 0, none⟩) := hv 6 _ rfl
  obtain rfl : v37 = .agg #[.int .u64 (l0 (C) : Int), .int .u64 (l1 (C) : Int), .int .u64 (l2 (C) : Int), .int .u64 (l3 (C) : Int)] := hv 7 _ rfl
  obtain rfl : v38 = .pointer (some ⟨(w.heap.size + 1 + 1), 4, none⟩) := hv 8 _ rfl
  obtain rfl : v39 = .agg #[.int .u64 (l0 (D) : Int), .int .u64 (l1 (D) : Int), .int .u64 (l2 (D) : Int), .int .u64 (l3 (D) : Int)] := hv 9 _ rfl
  obtain rfl : v40 = .agg #[.int .u64 (l0 (d) : Int), .int .u64 (l1 (d) : Int), .int .u64 (l2 (d) : Int), .int .u64 (l3 (d) : Int)] := hv 10 _ rfl
  obtain ⟨g10, hg10, hB10, hr10⟩ : IsR W1.heap.size ([.int .u64 0, .int .u64 0, .int .u64 0, .int .u64 0]) 26 v10 wn := hv 11 _ rfl
  obtain ⟨g11, hg11, hB11, hr11⟩ : IsR W1.heap.size ([.int .u64 0, .int .u64 0, .int .u64 0, .int .u64 0]) 26 v11 wn := hv 12 _ rfl
  have ne10_11 : g10 ≠ g11 := fun e => hne 11 (memE rfl) 12 (memE rfl) (by decide) (by subst hg10; subst hg11; subst e; rfl)
  subst hg34
  subst hg10
  subst hg11
  clear hvs hv hne
  simp only [List.zip_cons_cons, List.zip_nil_right, List.zip_nil_left, puts, Act.put, List.setIfInBounds_toArray, List.set_cons_zero, List.set_cons_succ]
  have hz : W1.heap.size ≤ wn.heap.size := hbr.size
  have nB_W2 := Lib.hid (nB_W1.out.trans (hbr.mono nB_W1.out.size))
  have nnR0 := Lib.hid (nR0.out.upS hbr)
  have nnR3 := Lib.hid (nR3.out.upS hbr)
  have nnR4 := Lib.hid (nR4.out.upS hbr)
  have nHg8 := Lib.hid (Hg8.out.upS hbr)
  have nHg9 := Lib.hid (Hg9.out.upS hbr)
  refine tail_store (k := 13) (by kernel_rfl) rfl rfl rfl 26 (.tmp 10) (.tmp 35) rfl g10 ([.int .u64 (l0 (c) : Int), .int .u64 (l1 (c) : Int), .int .u64 (l2 (c) : Int), .int .u64 (l3 (c) : Int)] : List Value).toArray (by kernel_rfl) (by kernel_rfl) _ _ hr10 (by kernel_rfl) rfl (by kernel_rfl) ?_
  replace hr10 := hr10.set ([.int .u64 (l0 (c) : Int), .int .u64 (l1 (c) : Int), .int .u64 (l2 (c) : Int), .int .u64 (l3 (c) : Int)])
  replace hr11 := hr11.set_ne ([.int .u64 (l0 (c) : Int), .int .u64 (l1 (c) : Int), .int .u64 (l2 (c) : Int), .int .u64 (l3 (c) : Int)] : List Value).toArray ne10_11.symm
  replace nB_W2 := Lib.hid (set_below nB_W2.out (Nat.le_trans nB_W1.out.size hB10) ([.int .u64 (l0 (c) : Int), .int .u64 (l1 (c) : Int), .int .u64 (l2 (c) : Int), .int .u64 (l3 (c) : Int)] : List Value).toArray)
  replace nnR0 := Lib.hid (nnR0.out.set_ne ([.int .u64 (l0 (c) : Int), .int .u64 (l1 (c) : Int), .int .u64 (l2 (c) : Int), .int .u64 (l3 (c) : Int)] : List Value).toArray (Nat.ne_of_lt (Nat.lt_of_lt_of_le nR0.out.lt hB10)))
  replace nnR3 := Lib.hid (nnR3.out.set_ne ([.int .u64 (l0 (c) : Int), .int .u64 (l1 (c) : Int), .int .u64 (l2 (c) : Int), .int .u64 (l3 (c) : Int)] : List Value).toArray (Nat.ne_of_lt (Nat.lt_of_lt_of_le nR3.out.lt hB10)))
  replace nnR4 := Lib.hid (nnR4.out.set_ne ([.int .u64 (l0 (c) : Int), .int .u64 (l1 (c) : Int), .int .u64 (l2 (c) : Int), .int .u64 (l3 (c) : Int)] : List Value).toArray (Nat.ne_of_lt (Nat.lt_of_lt_of_le nR4.out.lt hB10)))
  replace nHg8 := Lib.hid (nHg8.out.set_ne ([.int .u64 (l0 (c) : Int), .int .u64 (l1 (c) : Int), .int .u64 (l2 (c) : Int), .int .u64 (l3 (c) : Int)] : List Value).toArray (Nat.ne_of_lt (Nat.lt_of_lt_of_le Hg8.out.lt hB10)))
  replace nHg9 := Lib.hid (nHg9.out.set_ne ([.int .u64 (l0 (c) : Int), .int .u64 (l1 (c) : Int), .int .u64 (l2 (c) : Int), .int .u64 (l3 (c) : Int)] : List Value).toArray (Nat.ne_of_lt (Nat.lt_of_lt_of_le Hg9.out.lt hB10)))
  refine tail_store (k := 14) (by kernel_rfl) rfl rfl rfl 26 (.tmp 11) (.tmp 40) rfl g11 ([.int .u64 (l0 (d) : Int), .int .u64 (l1 (d) : Int), .int .u64 (l2 (d) : Int), .int .u64 (l3 (d) : Int)] : List Value).toArray (by kernel_rfl) (by kernel_rfl) _ _ hr11 (by kernel_rfl) rfl (by kernel_rfl) ?_
  replace hr10 := hr10.set_ne ([.int .u64 (l0 (d) : Int), .int .u64 (l1 (d) : Int), .int .u64 (l2 (d) : Int), .int .u64 (l3 (d) : Int)] : List Value).toArray ne10_11
  replace hr11 := hr11.set ([.int .u64 (l0 (d) : Int), .int .u64 (l1 (d) : Int), .int .u64 (l2 (d) : Int), .int .u64 (l3 (d) : Int)])
  replace nB_W2 := Lib.hid (set_below nB_W2.out (Nat.le_trans nB_W1.out.size hB11) ([.int .u64 (l0 (d) : Int), .int .u64 (l1 (d) : Int), .int .u64 (l2 (d) : Int), .int .u64 (l3 (d) : Int)] : List Value).toArray)
  replace nnR0 := Lib.hid (nnR0.out.set_ne ([.int .u64 (l0 (d) : Int), .int .u64 (l1 (d) : Int), .int .u64 (l2 (d) : Int), .int .u64 (l3 (d) : Int)] : List Value).toArray (Nat.ne_of_lt (Nat.lt_of_lt_of_le nR0.out.lt hB11)))
  replace nnR3 := Lib.hid (nnR3.out.set_ne ([.int .u64 (l0 (d) : Int), .int .u64 (l1 (d) : Int), .int .u64 (l2 (d) : Int), .int .u64 (l3 (d) : Int)] : List Value).toArray (Nat.ne_of_lt (Nat.lt_of_lt_of_le nR3.out.lt hB11)))
  replace nnR4 := Lib.hid (nnR4.out.set_ne ([.int .u64 (l0 (d) : Int), .int .u64 (l1 (d) : Int), .int .u64 (l2 (d) : Int), .int .u64 (l3 (d) : Int)] : List Value).toArray (Nat.ne_of_lt (Nat.lt_of_lt_of_le nR4.out.lt hB11)))
  replace nHg8 := Lib.hid (nHg8.out.set_ne ([.int .u64 (l0 (d) : Int), .int .u64 (l1 (d) : Int), .int .u64 (l2 (d) : Int), .int .u64 (l3 (d) : Int)] : List Value).toArray (Nat.ne_of_lt (Nat.lt_of_lt_of_le Hg8.out.lt hB11)))
  replace nHg9 := Lib.hid (nHg9.out.set_ne ([.int .u64 (l0 (d) : Int), .int .u64 (l1 (d) : Int), .int .u64 (l2 (d) : Int), .int .u64 (l3 (d) : Int)] : List Value).toArray (Nat.ne_of_lt (Nat.lt_of_lt_of_le Hg9.out.lt hB11)))
  refine wpAny_done (by kernel_rfl) ?_ _
  have Hg10 := Lib.hid hr10
  have Hg11 := Lib.hid hr11
  have M10 : Hid (W1.heap.size ≤ g10) := Lib.hid hB10
  have M11 : Hid (W1.heap.size ≤ g11) := Lib.hid hB11
  clear hbr hz hr10 hr11 hB10 hB11 ne10_11 hr34
  generalize ((wn.setRow g10 ([.int .u64 (l0 (c) : Int), .int .u64 (l1 (c) : Int), .int .u64 (l2 (c) : Int), .int .u64 (l3 (c) : Int)] : List Value).toArray).setRow g11 ([.int .u64 (l0 (d) : Int), .int .u64 (l1 (d) : Int), .int .u64 (l2 (d) : Int), .int .u64 (l3 (d) : Int)] : List Value).toArray) = W2 at *
  clear nB_W1 nR0 nR2 nR3 nR4 Hg8 Hg9
  go_upto_region 3 with fail
  refine wp_region_mono 10 [41, 42, 43, 44, 45, 46, 47, 48, 12, 13] (phi [IsV (.agg #[.int .u64 (l0 (d) : Int), .int .u64 (l1 (d) : Int), .int .u64 (l2 (d) : Int), .int .u64 (l3 (d) : Int)]), IsV (.agg #[.int .u64 (l0 (a) : Int), .int .u64 (l1 (a) : Int), .int .u64 (l2 (a) : Int), .int .u64 (l3 (a) : Int)]), IsS 2 ([.int .u64 (l0 (d) : Int), .int .u64 (l1 (d) : Int), .int .u64 (l2 (d) : Int), .int .u64 (l3 (d) : Int), .int .u64 (l0 (a) : Int), .int .u64 (l1 (a) : Int), .int .u64 (l2 (a) : Int), .int .u64 (l3 (a) : Int)]) 26, IsV (.agg #[.int .u64 (l0 (da) : Int), .int .u64 (l1 (da) : Int), .int .u64 (l2 (da) : Int), .int .u64 (l3 (da) : Int)]), IsV (.agg #[.int .u64 (l0 (c) : Int), .int .u64 (l1 (c) : Int), .int .u64 (l2 (c) : Int), .int .u64 (l3 (c) : Int)]), IsV (.agg #[.int .u64 (l0 (b) : Int), .int .u64 (l1 (b) : Int), .int .u64 (l2 (b) : Int), .int .u64 (l3 (b) : Int)]), IsS 2 ([.int .u64 (l0 (c) : Int), .int .u64 (l1 (c) : Int), .int .u64 (l2 (c) : Int), .int .u64 (l3 (c) : Int), .int .u64 (l0 (b) : Int), .int .u64 (l1 (b) : Int), .int .u64 (l2 (b) : Int), .int .u64 (l3 (b) : Int)]) 26, IsV (.agg #[.int .u64 (l0 (cb) : Int), .int .u64 (l1 (cb) : Int), .int .u64 (l2 (cb) : Int), .int .u64 (l3 (cb) : Int)]), IsR W2.heap.size ([.int .u64 0, .int .u64 0, .int .u64 0, .int .u64 0]) 26, IsR W2.heap.size ([.int .u64 0, .int .u64 0, .int .u64 0, .int .u64 0]) 26]) [8, 9] rfl (by kernel_rfl) rfl rfl (by kernel_rfl) rfl (by kernel_rfl) (by kernel_rfl) (phi_mono (by repeat (first | exact mono_v _ | exact mono_r _ _ _ | exact mono_s _ _ _ | exact trivial | refine ⟨?_, ?_⟩))) ?_ ?_
  · intro i hi
    rcases (show i = 0 ∨ i = 1 ∨ i = 2 ∨ i = 3 ∨ i = 4 ∨ i = 5 ∨ i = 6 ∨ i = 7 ∨ i = 8 ∨ i = 9 by omega) with rfl | rfl | rfl | rfl | rfl | rfl | rfl | rfl | rfl | rfl
    · intro ac W hB hst hdep
      have e11 : ac.tmps[11]? = some (.pointer (some ⟨g11, 0, none⟩)) := hst 11 (by decide)
      exact st_load rfl rfl 26 (.tmp 11) rfl (eval_of e11) ([.int .u64 (l0 (d) : Int), .int .u64 (l1 (d) : Int), .int .u64 (l2 (d) : Int), .int .u64 (l3 (d) : Int)]) _ ((RowL.upS (w := W2.drew) Hg11.out hB).range 0 _ rfl) undEl rfl (by kernel_rfl) rfl (notE rfl)
    · intro ac W hB hst hdep
      have e8 : ac.tmps[8]? = some (.pointer (some ⟨g8, 0, none⟩)) := hst 8 (by decide)
      exact st_load rfl rfl 26 (.tmp 8) rfl (eval_of e8) ([.int .u64 (l0 (a) : Int), .int .u64 (l1 (a) : Int), .int .u64 (l2 (a) : Int), .int .u64 (l3 (a) : Int)]) _ ((RowL.upS (w := W2.drew) nHg8.out hB).range 0 _ rfl) undEl rfl (by kernel_rfl) rfl (notE rfl)
    · intro ac W hB hst hdep
      obtain ⟨x41, e41, h41⟩ := hdep 0 (memE (by kernel_rfl)) 41 rfl
      replace h41 : x41 = .agg #[.int .u64 (l0 (d) : Int), .int .u64 (l1 (d) : Int), .int .u64 (l2 (d) : Int), .int .u64 (l3 (d) : Int)] := h41
      subst h41
      obtain ⟨x42, e42, h42⟩ := hdep 1 (memE (by kernel_rfl)) 42 rfl
      replace h42 : x42 = .agg #[.int .u64 (l0 (a) : Int), .int .u64 (l1 (a) : Int), .int .u64 (l2 (a) : Int), .int .u64 (l3 (a) : Int)] := h42
      subst h42
      exact st_bs rfl rfl 86 26 2 _ rfl (show (#[(0, .tmp 41), (1, .tmp 42)] : Array (Nat × Operand)).map (fun (i, x) => (i, ac.eval x)) = #[(0, .agg #[.int .u64 (l0 (d) : Int), .int .u64 (l1 (d) : Int), .int .u64 (l2 (d) : Int), .int .u64 (l3 (d) : Int)]), (1, .agg #[.int .u64 (l0 (a) : Int), .int .u64 (l1 (a) : Int), .int .u64 (l2 (a) : Int), .int .u64 (l3 (a) : Int)])] by simp only [List.map_toArray, List.map_cons, List.map_nil, eval_of e41, eval_of e42]) (bsEl2 (d) (a)) ⟨_, rfl, heap_alloc_new _ _⟩ (notE rfl)
    · intro ac W hB hst hdep
      obtain ⟨x43, e43, h43⟩ := hdep 2 (memE (by kernel_rfl)) 43 rfl
      obtain ⟨g43, hg43, r43⟩ := (h43 : IsS 2 ([.int .u64 (l0 (d) : Int), .int .u64 (l1 (d) : Int), .int .u64 (l2 (d) : Int), .int .u64 (l3 (d) : Int), .int .u64 (l0 (a) : Int), .int .u64 (l1 (a) : Int), .int .u64 (l2 (a) : Int), .int .u64 (l3 (a) : Int)]) 26 _ _)
      subst hg43
      exact st_call rfl rfl rfl (show (#[.tmp 43] : Array Operand).map ac.eval = (#[.slice (some ⟨g43, 0, none⟩) 2 2] : Array Value) by simp only [List.map_toArray, List.map_cons, List.map_nil, Act.eval_const, eval_of e43]) (fun _ => by kernel_rfl) (Calls.mono (prodK Zd.out Za.out Qda.out r43) fun e w' h => ⟨_, h.1, h.2, rfl⟩) (notE rfl)
    · intro ac W hB hst hdep
      have e10 : ac.tmps[10]? = some (.pointer (some ⟨g10, 0, none⟩)) := hst 10 (by decide)
      exact st_load rfl rfl 26 (.tmp 10) rfl (eval_of e10) ([.int .u64 (l0 (c) : Int), .int .u64 (l1 (c) : Int), .int .u64 (l2 (c) : Int), .int .u64 (l3 (c) : Int)]) _ ((RowL.upS (w := W2.drew) Hg10.out hB).range 0 _ rfl) undEl rfl (by kernel_rfl) rfl (notE rfl)
    · intro ac W hB hst hdep
      have e9 : ac.tmps[9]? = some (.pointer (some ⟨g9, 0, none⟩)) := hst 9 (by decide)
      exact st_load rfl rfl 26 (.tmp 9) rfl (eval_of e9) ([.int .u64 (l0 (b) : Int), .int .u64 (l1 (b) : Int), .int .u64 (l2 (b) : Int), .int .u64 (l3 (b) : Int)]) _ ((RowL.upS (w := W2.drew) nHg9.out hB).range 0 _ rfl) undEl rfl (by kernel_rfl) rfl (notE rfl)
    · intro ac W hB hst hdep
      obtain ⟨x45, e45, h45⟩ := hdep 4 (memE (by kernel_rfl)) 45 rfl
      replace h45 : x45 = .agg #[.int .u64 (l0 (c) : Int), .int .u64 (l1 (c) : Int), .int .u64 (l2 (c) : Int), .int .u64 (l3 (c) : Int)] := h45
      subst h45
      obtain ⟨x46, e46, h46⟩ := hdep 5 (memE (by kernel_rfl)) 46 rfl
      replace h46 : x46 = .agg #[.int .u64 (l0 (b) : Int), .int .u64 (l1 (b) : Int), .int .u64 (l2 (b) : Int), .int .u64 (l3 (b) : Int)] := h46
      subst h46
      exact st_bs rfl rfl 86 26 2 _ rfl (show (#[(0, .tmp 45), (1, .tmp 46)] : Array (Nat × Operand)).map (fun (i, x) => (i, ac.eval x)) = #[(0, .agg #[.int .u64 (l0 (c) : Int), .int .u64 (l1 (c) : Int), .int .u64 (l2 (c) : Int), .int .u64 (l3 (c) : Int)]), (1, .agg #[.int .u64 (l0 (b) : Int), .int .u64 (l1 (b) : Int), .int .u64 (l2 (b) : Int), .int .u64 (l3 (b) : Int)])] by simp only [List.map_toArray, List.map_cons, List.map_nil, eval_of e45, eval_of e46]) (bsEl2 (c) (b)) ⟨_, rfl, heap_alloc_new _ _⟩ (notE rfl)
    · intro ac W hB hst hdep
      obtain ⟨x47, e47, h47⟩ := hdep 6 (memE (by kernel_rfl)) 47 rfl
      obtain ⟨g47, hg47, r47⟩ := (h47 : IsS 2 ([.int .u64 (l0 (c) : Int), .int .u64 (l1 (c) : Int), .int .u64 (l2 (c) : Int), .int .u64 (l3 (c) : Int), .int .u64 (l0 (b) : Int), .int .u64 (l1 (b) : Int), .int .u64 (l2 (b) : Int), .int .u64 (l3 (b) : Int)]) 26 _ _)
      subst hg47
      exact st_call rfl rfl rfl (show (#[.tmp 47] : Array Operand).map ac.eval = (#[.slice (some ⟨g47, 0, none⟩) 2 2] : Array Value) by simp only [List.map_toArray, List.map_cons, List.map_nil, Act.eval_const, eval_of e47]) (fun _ => by kernel_rfl) (Calls.mono (prodK Zc.out Zb.out Qcb.out r47) fun e w' h => ⟨_, h.1, h.2, rfl⟩) (notE rfl)
    · intro ac W hB hst hdep
      exact st_alloc rfl rfl 26 rfl allocEl ⟨_, rfl, hB.size, heap_alloc_new _ _⟩
    · intro ac W hB hst hdep
      exact st_alloc rfl rfl 26 rfl allocEl ⟨_, rfl, hB.size, heap_alloc_new _ _⟩
  intro vs hvs wn hbr hv hne
  obtain ⟨v41, v42, v43, v44, v45, v46, v47, v48, v12, v13, rfl⟩ := list10 vs hvs
  obtain rfl : v41 = .agg #[.int .u64 (l0 (d) : Int), .int .u64 (l1 (d) : Int), .int .u64 (l2 (d) : Int), .int .u64 (l3 (d) : Int)] := hv 0 _ rfl
  obtain rfl : v42 = .agg #[.int .u64 (l0 (a) : Int), .int .u64 (l1 (a) : Int), .int .u64 (l2 (a) : Int), .int .u64 (l3 (a) : Int)] := hv 1 _ rfl
  obtain ⟨g43, hg43, hr43⟩ : IsS 2 ([.int .u64 (l0 (d) : Int), .int .u64 (l1 (d) : Int), .int .u64 (l2 (d) : Int), .int .u64 (l3 (d) : Int), .int .u64 (l0 (a) : Int), .int .u64 (l1 (a) : Int), .int .u64 (l2 (a) : Int), .int .u64 (l3 (a) : Int)]) 26 v43 wn := hv 2 _ rfl
  obtain rfl : v44 = .agg #[.int .u64 (l0 (da) : Int), .int .u64 (l1 (da) : Int), .int .u64 (l2 (da) : Int), .int .u64 (l3 (da) : Int)] := hv 3 _ rfl
  obtain rfl : v45 = .agg #[.int .u64 (l0 (c) : Int), .int .u64 (l1 (c) : Int), .int .u64 (l2 (c) : Int), .int .u64 (l3 (c) : Int)] := hv 4 _ rfl
  obtain rfl : v46 = .agg #[.int .u64 (l0 (b) : Int), .int .u64 (l1 (b) : Int), .int .u64 (l2 (b) : Int), .int .u64 (l3 (b) : Int)] := hv 5 _ rfl
  obtain ⟨g47, hg47, hr47⟩ : IsS 2 ([.int .u64 (l0 (c) : Int), .int .u64 (l1 (c) : Int), .int .u64 (l2 (c) : Int), .int .u64 (l3 (c) : Int), .int .u64 (l0 (b) : Int), .int .u64 (l1 (b) : Int), .int .u64 (l2 (b) : Int), .int .u64 (l3 (b) : Int)]) 26 v47 wn := hv 6 _ rfl
  obtain rfl : v48 = .agg #[.int .u64 (l0 (cb) : Int), .int .u64 (l1 (cb) : Int), .int .u64 (l2 (cb) : Int), .int .u64 (l3 (cb) : Int)] := hv 7 _ rfl
  obtain ⟨g12, hg12, hB12, hr12⟩ : IsR W2.heap.size ([.int .u64 0, .int .u64 0, .int .u64 0, .int .u64 0]) 26 v12 wn := hv 8 _ rfl
  obtain ⟨g13, hg13, hB13, hr13⟩ : IsR W2.heap.size ([.int .u64 0, .int .u64 0, .int .u64 0, .int .u64 0]) 26 v13 wn := hv 9 _ rfl
  have ne12_13 : g12 ≠ g13 := fun e => hne 8 (memE rfl) 9 (memE rfl) (by decide) (by subst hg12; subst hg13; subst e; rfl)
  subst hg43
  subst hg47
  subst hg12
  subst hg13
  clear hvs hv hne
  simp only [List.zip_cons_cons, List.zip_nil_right, List.zip_nil_left, puts, Act.put, List.setIfInBounds_toArray, List.set_cons_zero, List.set_cons_succ]
  have hz : W2.heap.size ≤ wn.heap.size := hbr.size
  have nB_W3 := Lib.hid (nB_W2.out.trans (hbr.mono nB_W2.out.size))
  have nnnR0 := Lib.hid (nnR0.out.upS hbr)
  have nnnR3 := Lib.hid (nnR3.out.upS hbr)
  have nnnR4 := Lib.hid (nnR4.out.upS hbr)
  have nnHg8 := Lib.hid (nHg8.out.upS hbr)
  have nnHg9 := Lib.hid (nHg9.out.upS hbr)
  refine tail_store (k := 10) (by kernel_rfl) rfl rfl rfl 26 (.tmp 12) (.tmp 44) rfl g12 ([.int .u64 (l0 (da) : Int), .int .u64 (l1 (da) : Int), .int .u64 (l2 (da) : Int), .int .u64 (l3 (da) : Int)] : List Value).toArray (by kernel_rfl) (by kernel_rfl) _ _ hr12 (by kernel_rfl) rfl (by kernel_rfl) ?_
  replace hr12 := hr12.set ([.int .u64 (l0 (da) : Int), .int .u64 (l1 (da) : Int), .int .u64 (l2 (da) : Int), .int .u64 (l3 (da) : Int)])
  replace hr13 := hr13.set_ne ([.int .u64 (l0 (da) : Int), .int .u64 (l1 (da) : Int), .int .u64 (l2 (da) : Int), .int .u64 (l3 (da) : Int)] : List Value).toArray ne12_13.symm
  replace nB_W3 := Lib.hid (set_below nB_W3.out (Nat.le_trans nB_W2.out.size hB12) ([.int .u64 (l0 (da) : Int), .int .u64 (l1 (da) : Int), .int .u64 (l2 (da) : Int), .int .u64 (l3 (da) : Int)] : List Value).toArray)
  replace nnnR0 := Lib.hid (nnnR0.out.set_ne ([.int .u64 (l0 (da) : Int), .int .u64 (l1 (da) : Int), .int .u64 (l2 (da) : Int), .int .u64 (l3 (da) : Int)] : List Value).toArray (Nat.ne_of_lt (Nat.lt_of_lt_of_le nnR0.out.lt hB12)))
  replace nnnR3 := Lib.hid (nnnR3.out.set_ne ([.int .u64 (l0 (da) : Int), .int .u64 (l1 (da) : Int), .int .u64 (l2 (da) : Int), .int .u64 (l3 (da) : Int)] : List Value).toArray (Nat.ne_of_lt (Nat.lt_of_lt_of_le nnR3.out.lt hB12)))
  replace nnnR4 := Lib.hid (nnnR4.out.set_ne ([.int .u64 (l0 (da) : Int), .int .u64 (l1 (da) : Int), .int .u64 (l2 (da) : Int), .int .u64 (l3 (da) : Int)] : List Value).toArray (Nat.ne_of_lt (Nat.lt_of_lt_of_le nnR4.out.lt hB12)))
  replace nnHg8 := Lib.hid (nnHg8.out.set_ne ([.int .u64 (l0 (da) : Int), .int .u64 (l1 (da) : Int), .int .u64 (l2 (da) : Int), .int .u64 (l3 (da) : Int)] : List Value).toArray (Nat.ne_of_lt (Nat.lt_of_lt_of_le nHg8.out.lt hB12)))
  replace nnHg9 := Lib.hid (nnHg9.out.set_ne ([.int .u64 (l0 (da) : Int), .int .u64 (l1 (da) : Int), .int .u64 (l2 (da) : Int), .int .u64 (l3 (da) : Int)] : List Value).toArray (Nat.ne_of_lt (Nat.lt_of_lt_of_le nHg9.out.lt hB12)))
  refine tail_store (k := 11) (by kernel_rfl) rfl rfl rfl 26 (.tmp 13) (.tmp 48) rfl g13 ([.int .u64 (l0 (cb) : Int), .int .u64 (l1 (cb) : Int), .int .u64 (l2 (cb) : Int), .int .u64 (l3 (cb) : Int)] : List Value).toArray (by kernel_rfl) (by kernel_rfl) _ _ hr13 (by kernel_rfl) rfl (by kernel_rfl) ?_
  replace hr12 := hr12.set_ne ([.int .u64 (l0 (cb) : Int), .int .u64 (l1 (cb) : Int), .int .u64 (l2 (cb) : Int), .int .u64 (l3 (cb) : Int)] : List Value).toArray ne12_13
  replace hr13 := hr13.set ([.int .u64 (l0 (cb) : Int), .int .u64 (l1 (cb) : Int), .int .u64 (l2 (cb) : Int), .int .u64 (l3 (cb) : Int)])
  replace nB_W3 := Lib.hid (set_below nB_W3.out (Nat.le_trans nB_W2.out.size hB13) ([.int .u64 (l0 (cb) : Int), .int .u64 (l1 (cb) : Int), .int .u64 (l2 (cb) : Int), .int .u64 (l3 (cb) : Int)] : List Value).toArray)
  replace nnnR0 := Lib.hid (nnnR0.out.set_ne ([.int .u64 (l0 (cb) : Int), .int .u64 (l1 (cb) : Int), .int .u64 (l2 (cb) : Int), .int .u64 (l3 (cb) : Int)] : List Value).toArray (Nat.ne_of_lt (Nat.lt_of_lt_of_le nnR0.out.lt hB13)))
  replace nnnR3 := Lib.hid (nnnR3.out.set_ne ([.int .u64 (l0 (cb) : Int), .int .u64 (l1 (cb) : Int), .int .u64 (l2 (cb) : Int), .int .u64 (l3 (cb) : Int)] : List Value).toArray (Nat.ne_of_lt (Nat.lt_of_lt_of_le nnR3.out.lt hB13)))
  replace nnnR4 := Lib.hid (nnnR4.out.set_ne ([.int .u64 (l0 (cb) : Int), .int .u64 (l1 (cb) : Int), .int .u64 (l2 (cb) : Int), .int .u64 (l3 (cb) : Int)] : List Value).toArray (Nat.ne_of_lt (Nat.lt_of_lt_of_le nnR4.out.lt hB13)))
  replace nnHg8 := Lib.hid (nnHg8.out.set_ne ([.int .u64 (l0 (cb) : Int), .int .u64 (l1 (cb) : Int), .int .u64 (l2 (cb) : Int), .int .u64 (l3 (cb) : Int)] : List Value).toArray (Nat.ne_of_lt (Nat.lt_of_lt_of_le nHg8.out.lt hB13)))
  replace nnHg9 := Lib.hid (nnHg9.out.set_ne ([.int .u64 (l0 (cb) : Int), .int .u64 (l1 (cb) : Int), .int .u64 (l2 (cb) : Int), .int .u64 (l3 (cb) : Int)] : List Value).toArray (Nat.ne_of_lt (Nat.lt_of_lt_of_le nHg9.out.lt hB13)))
  refine wpAny_done (by kernel_rfl) ?_ _
  have Hg12 := Lib.hid hr12
  have Hg13 := Lib.hid hr13
  have M12 : Hid (W2.heap.size ≤ g12) := Lib.hid hB12
  have M13 : Hid (W2.heap.size ≤ g13) := Lib.hid hB13
  clear hbr hz hr12 hr13 hB12 hB13 ne12_13 hr43 hr47
  generalize ((wn.setRow g12 ([.int .u64 (l0 (da) : Int), .int .u64 (l1 (da) : Int), .int .u64 (l2 (da) : Int), .int .u64 (l3 (da) : Int)] : List Value).toArray).setRow g13 ([.int .u64 (l0 (cb) : Int), .int .u64 (l1 (cb) : Int), .int .u64 (l2 (cb) : Int), .int .u64 (l3 (cb) : Int)] : List Value).toArray) = W3 at *
  clear nB_W2 nnR0 nnR3 nnR4 nHg8 nHg9 Hg10 Hg11
  go_upto_region 4 with fail
  refine wp_region_mono 6 [49, 50, 51, 52, 14, 15] (phi [IsV (.agg #[.int .u64 (l0 (a) : Int), .int .u64 (l1 (a) : Int), .int .u64 (l2 (a) : Int), .int .u64 (l3 (a) : Int)]), IsV (.agg #[.int .u64 (l0 (aa) : Int), .int .u64 (l1 (aa) : Int), .int .u64 (l2 (aa) : Int), .int .u64 (l3 (aa) : Int)]), IsV (.agg #[.int .u64 (l0 (b) : Int), .int .u64 (l1 (b) : Int), .int .u64 (l2 (b) : Int), .int .u64 (l3 (b) : Int)]), IsV (.agg #[.int .u64 (l0 (bb) : Int), .int .u64 (l1 (bb) : Int), .int .u64 (l2 (bb) : Int), .int .u64 (l3 (bb) : Int)]), IsR W3.heap.size ([.int .u64 0, .int .u64 0, .int .u64 0, .int .u64 0]) 26, IsR W3.heap.size ([.int .u64 0, .int .u64 0, .int .u64 0, .int .u64 0]) 26]) [4, 5] rfl (by kernel_rfl) rfl rfl (by kernel_rfl) rfl (by kernel_rfl) (by kernel_rfl) (phi_mono (by repeat (first | exact mono_v _ | exact mono_r _ _ _ | exact mono_s _ _ _ | exact trivial | refine ⟨?_, ?_⟩))) ?_ ?_
  · intro i hi
    rcases (show i = 0 ∨ i = 1 ∨ i = 2 ∨ i = 3 ∨ i = 4 ∨ i = 5 by omega) with rfl | rfl | rfl | rfl | rfl | rfl
    · intro ac W hB hst hdep
      have e8 : ac.tmps[8]? = some (.pointer (some ⟨g8, 0, none⟩)) := hst 8 (by decide)
      exact st_load rfl rfl 26 (.tmp 8) rfl (eval_of e8) ([.int .u64 (l0 (a) : Int), .int .u64 (l1 (a) : Int), .int .u64 (l2 (a) : Int), .int .u64 (l3 (a) : Int)]) _ ((RowL.upS (w := W3.drew) nnHg8.out hB).range 0 _ rfl) undEl rfl (by kernel_rfl) rfl (notE rfl)
    · intro ac W hB hst hdep
      obtain ⟨x49, e49, h49⟩ := hdep 0 (memE (by kernel_rfl)) 49 rfl
      replace h49 : x49 = .agg #[.int .u64 (l0 (a) : Int), .int .u64 (l1 (a) : Int), .int .u64 (l2 (a) : Int), .int .u64 (l3 (a) : Int)] := h49
      subst h49
      exact st_call rfl rfl rfl (show (#[.tmp 49] : Array Operand).map ac.eval = (#[.agg #[.int .u64 (l0 (a) : Int), .int .u64 (l1 (a) : Int), .int .u64 (l2 (a) : Int), .int .u64 (l3 (a) : Int)]] : Array Value) by simp only [List.map_toArray, List.map_cons, List.map_nil, Act.eval_const, eval_of e49]) (fun _ => by kernel_rfl) (Calls.mono (sqK Za.out Qaa.out) fun e w' h => ⟨_, h.1, h.2, rfl⟩) (notE rfl)
    · intro ac W hB hst hdep
      have e9 : ac.tmps[9]? = some (.pointer (some ⟨g9, 0, none⟩)) := hst 9 (by decide)
      exact st_load rfl rfl 26 (.tmp 9) rfl (eval_of e9) ([.int .u64 (l0 (b) : Int), .int .u64 (l1 (b) : Int), .int .u64 (l2 (b) : Int), .int .u64 (l3 (b) : Int)]) _ ((RowL.upS (w := W3.drew) nnHg9.out hB).range 0 _ rfl) undEl rfl (by kernel_rfl) rfl (notE rfl)
    · intro ac W hB hst hdep
      obtain ⟨x51, e51, h51⟩ := hdep 2 (memE (by kernel_rfl)) 51 rfl
      replace h51 : x51 = .agg #[.int .u64 (l0 (b) : Int), .int .u64 (l1 (b) : Int), .int .u64 (l2 (b) : Int), .int .u64 (l3 (b) : Int)] := h51
      subst h51
      exact st_call rfl rfl rfl (show (#[.tmp 51] : Array Operand).map ac.eval = (#[.agg #[.int .u64 (l0 (b) : Int), .int .u64 (l1 (b) : Int), .int .u64 (l2 (b) : Int), .int .u64 (l3 (b) : Int)]] : Array Value) by simp only [List.map_toArray, List.map_cons, List.map_nil, Act.eval_const, eval_of e51]) (fun _ => by kernel_rfl) (Calls.mono (sqK Zb.out Qbb.out) fun e w' h => ⟨_, h.1, h.2, rfl⟩) (notE rfl)
    · intro ac W hB hst hdep
      exact st_alloc rfl rfl 26 rfl allocEl ⟨_, rfl, hB.size, heap_alloc_new _ _⟩
    · intro ac W hB hst hdep
      exact st_alloc rfl rfl 26 rfl allocEl ⟨_, rfl, hB.size, heap_alloc_new _ _⟩
  intro vs hvs wn hbr hv hne
  obtain ⟨v49, v50, v51, v52, v14, v15, rfl⟩ := list6 vs hvs
  obtain rfl : v49 = .agg #[.int .u64 (l0 (a) : Int), .int .u64 (l1 (a) : Int), .int .u64 (l2 (a) : Int), .int .u64 (l3 (a) : Int)] := hv 0 _ rfl
  obtain rfl : v50 = .agg #[.int .u64 (l0 (aa) : Int), .int .u64 (l1 (aa) : Int), .int .u64 (l2 (aa) : Int), .int .u64 (l3 (aa) : Int)] := hv 1 _ rfl
  obtain rfl : v51 = .agg #[.int .u64 (l0 (b) : Int), .int .u64 (l1 (b) : Int), .int .u64 (l2 (b) : Int), .int .u64 (l3 (b) : Int)] := hv 2 _ rfl
  obtain rfl : v52 = .agg #[.int .u64 (l0 (bb) : Int), .int .u64 (l1 (bb) : Int), .int .u64 (l2 (bb) : Int), .int .u64 (l3 (bb) : Int)] := hv 3 _ rfl
  obtain ⟨g14, hg14, hB14, hr14⟩ : IsR W3.heap.size ([.int .u64 0, .int .u64 0, .int .u64 0, .int .u64 0]) 26 v14 wn := hv 4 _ rfl
  obtain ⟨g15, hg15, hB15, hr15⟩ : IsR W3.heap.size ([.int .u64 0, .int .u64 0, .int .u64 0, .int .u64 0]) 26 v15 wn := hv 5 _ rfl
  have ne14_15 : g14 ≠ g15 := fun e => hne 4 (memE rfl) 5 (memE rfl) (by decide) (by subst hg14; subst hg15; subst e; rfl)
  subst hg14
  subst hg15
  clear hvs hv hne
  simp only [List.zip_cons_cons, List.zip_nil_right, List.zip_nil_left, puts, Act.put, List.setIfInBounds_toArray, List.set_cons_zero, List.set_cons_succ]
  have hz : W3.heap.size ≤ wn.heap.size := hbr.size
  have nB_W4 := Lib.hid (nB_W3.out.trans (hbr.mono nB_W3.out.size))
  have nnnnR0 := Lib.hid (nnnR0.out.upS hbr)
  have nnnnR3 := Lib.hid (nnnR3.out.upS hbr)
  have nnnnR4 := Lib.hid (nnnR4.out.upS hbr)
  have nHg12 := Lib.hid (Hg12.out.upS hbr)
  have nHg13 := Lib.hid (Hg13.out.upS hbr)
  refine tail_store (k := 6) (by kernel_rfl) rfl rfl rfl 26 (.tmp 14) (.tmp 50) rfl g14 ([.int .u64 (l0 (aa) : Int), .int .u64 (l1 (aa) : Int), .int .u64 (l2 (aa) : Int), .int .u64 (l3 (aa) : Int)] : List Value).toArray (by kernel_rfl) (by kernel_rfl) _ _ hr14 (by kernel_rfl) rfl (by kernel_rfl) ?_
  replace hr14 := hr14.set ([.int .u64 (l0 (aa) : Int), .int .u64 (l1 (aa) : Int), .int .u64 (l2 (aa) : Int), .int .u64 (l3 (aa) : Int)])
  replace hr15 := hr15.set_ne ([.int .u64 (l0 (aa) : Int), .int .u64 (l1 (aa) : Int), .int .u64 (l2 (aa) : Int), .int .u64 (l3 (aa) : Int)] : List Value).toArray ne14_15.symm
  replace nB_W4 := Lib.hid (set_below nB_W4.out (Nat.le_trans nB_W3.out.size hB14) ([.int .u64 (l0 (aa) : Int), .int .u64 (l1 (aa) : Int), .int .u64 (l2 (aa) : Int), .int .u64 (l3 (aa) : Int)] : List Value).toArray)
  replace nnnnR0 := Lib.hid (nnnnR0.out.set_ne ([.int .u64 (l0 (aa) : Int), .int .u64 (l1 (aa) : Int), .int .u64 (l2 (aa) : Int), .int .u64 (l3 (aa) : Int)] : List Value).toArray (Nat.ne_of_lt (Nat.lt_of_lt_of_le nnnR0.out.lt hB14)))
  replace nnnnR3 := Lib.hid (nnnnR3.out.set_ne ([.int .u64 (l0 (aa) : Int), .int .u64 (l1 (aa) : Int), .int .u64 (l2 (aa) : Int), .int .u64 (l3 (aa) : Int)] : List Value).toArray (Nat.ne_of_lt (Nat.lt_of_lt_of_le nnnR3.out.lt hB14)))
  replace nnnnR4 := Lib.hid (nnnnR4.out.set_ne ([.int .u64 (l0 (aa) : Int), .int .u64 (l1 (aa) : Int), .int .u64 (l2 (aa) : Int), .int .u64 (l3 (aa) : Int)] : List Value).toArray (Nat.ne_of_lt (Nat.lt_of_lt_of_le nnnR4.out.lt hB14)))
  replace nHg12 := Lib.hid (nHg12.out.set_ne ([.int .u64 (l0 (aa) : Int), .int .u64 (l1 (aa) : Int), .int .u64 (l2 (aa) : Int), .int .u64 (l3 (aa) : Int)] : List Value).toArray (Nat.ne_of_lt (Nat.lt_of_lt_of_le Hg12.out.lt hB14)))
  replace nHg13 := Lib.hid (nHg13.out.set_ne ([.int .u64 (l0 (aa) : Int), .int .u64 (l1 (aa) : Int), .int .u64 (l2 (aa) : Int), .int .u64 (l3 (aa) : Int)] : List Value).toArray (Nat.ne_of_lt (Nat.lt_of_lt_of_le Hg13.out.lt hB14)))
  refine tail_store (k := 7) (by kernel_rfl) rfl rfl rfl 26 (.tmp 15) (.tmp 52) rfl g15 ([.int .u64 (l0 (bb) : Int), .int .u64 (l1 (bb) : Int), .int .u64 (l2 (bb) : Int), .int .u64 (l3 (bb) : Int)] : List Value).toArray (by kernel_rfl) (by kernel_rfl) _ _ hr15 (by kernel_rfl) rfl (by kernel_rfl) ?_
  replace hr14 := hr14.set_ne ([.int .u64 (l0 (bb) : Int), .int .u64 (l1 (bb) : Int), .int .u64 (l2 (bb) : Int), .int .u64 (l3 (bb) : Int)] : List Value).toArray ne14_15
  replace hr15 := hr15.set ([.int .u64 (l0 (bb) : Int), .int .u64 (l1 (bb) : Int), .int .u64 (l2 (bb) : Int), .int .u64 (l3 (bb) : Int)])
  replace nB_W4 := Lib.hid (set_below nB_W4.out (Nat.le_trans nB_W3.out.size hB15) ([.int .u64 (l0 (bb) : Int), .int .u64 (l1 (bb) : Int), .int .u64 (l2 (bb) : Int), .int .u64 (l3 (bb) : Int)] : List Value).toArray)
  replace nnnnR0 := Lib.hid (nnnnR0.out.set_ne ([.int .u64 (l0 (bb) : Int), .int .u64 (l1 (bb) : Int), .int .u64 (l2 (bb) : Int), .int .u64 (l3 (bb) : Int)] : List Value).toArray (Nat.ne_of_lt (Nat.lt_of_lt_of_le nnnR0.out.lt hB15)))
  replace nnnnR3 := Lib.hid (nnnnR3.out.set_ne ([.int .u64 (l0 (bb) : Int), .int .u64 (l1 (bb) : Int), .int .u64 (l2 (bb) : Int), .int .u64 (l3 (bb) : Int)] : List Value).toArray (Nat.ne_of_lt (Nat.lt_of_lt_of_le nnnR3.out.lt hB15)))
  replace nnnnR4 := Lib.hid (nnnnR4.out.set_ne ([.int .u64 (l0 (bb) : Int), .int .u64 (l1 (bb) : Int), .int .u64 (l2 (bb) : Int), .int .u64 (l3 (bb) : Int)] : List Value).toArray (Nat.ne_of_lt (Nat.lt_of_lt_of_le nnnR4.out.lt hB15)))
  replace nHg12 := Lib.hid (nHg12.out.set_ne ([.int .u64 (l0 (bb) : Int), .int .u64 (l1 (bb) : Int), .int .u64 (l2 (bb) : Int), .int .u64 (l3 (bb) : Int)] : List Value).toArray (Nat.ne_of_lt (Nat.lt_of_lt_of_le Hg12.out.lt hB15)))
  replace nHg13 := Lib.hid (nHg13.out.set_ne ([.int .u64 (l0 (bb) : Int), .int .u64 (l1 (bb) : Int), .int .u64 (l2 (bb) : Int), .int .u64 (l3 (bb) : Int)] : List Value).toArray (Nat.ne_of_lt (Nat.lt_of_lt_of_le Hg13.out.lt hB15)))
  refine wpAny_done (by kernel_rfl) ?_ _
  have Hg14 := Lib.hid hr14
  have Hg15 := Lib.hid hr15
  have M14 : Hid (W3.heap.size ≤ g14) := Lib.hid hB14
  have M15 : Hid (W3.heap.size ≤ g15) := Lib.hid hB15
  clear hbr hz hr14 hr15 hB14 hB15 ne14_15 
  generalize ((wn.setRow g14 ([.int .u64 (l0 (aa) : Int), .int .u64 (l1 (aa) : Int), .int .u64 (l2 (aa) : Int), .int .u64 (l3 (aa) : Int)] : List Value).toArray).setRow g15 ([.int .u64 (l0 (bb) : Int), .int .u64 (l1 (bb) : Int), .int .u64 (l2 (bb) : Int), .int .u64 (l3 (bb) : Int)] : List Value).toArray) = W4 at *
  clear nB_W3 nnnR0 nnnR3 nnnR4 nnHg8 nnHg9 Hg12 Hg13
  go_upto_region 5 with fail
  have C5 := Lib.hid (subK (W := W4) Zaa.out Zbb.out Qee.out)
  have p0 := cell_of_row _ _ 0 _ _ _ Hg14.out
  have p1 := cell_of_row _ _ 1 _ _ _ Hg14.out
  have p2 := cell_of_row _ _ 2 _ _ _ Hg14.out
  have p3 := cell_of_row _ _ 3 _ _ _ Hg14.out
  have s0 := cell_of_row _ _ 0 _ _ _ Hg15.out
  have s1 := cell_of_row _ _ 1 _ _ _ Hg15.out
  have s2 := cell_of_row _ _ 2 _ _ _ Hg15.out
  have s3 := cell_of_row _ _ 3 _ _ _ Hg15.out
  simp at p0 p1 p2 p3 s0 s1 s2 s3
  go_wp2_with fail
  with_reducible refine (C5.out).mono ?_
  rintro e5 v5 ⟨rfl, hb5⟩
  clear p0 p1 p2 p3 s0 s1 s2 s3 C5
  obtain ⟨W5, hW5⟩ : ∃ W5, W5 = v5.alloc (.cells ([.int .u64 (l0 (ee) : Int), .int .u64 (l1 (ee) : Int), .int .u64 (l2 (ee) : Int), .int .u64 (l3 (ee) : Int)] : List Value).toArray 26) := ⟨_, rfl⟩
  obtain ⟨g16, hg16⟩ : ∃ g16, g16 = v5.heap.size := ⟨_, rfl⟩
  have ha5 : Below v5.heap.size v5 W5 := by rw [hW5]; exact (Below.refl _ _).alloc (Nat.le_refl _) _
  have hc5 : Below W4.heap.size W4 W5 := hb5.trans (ha5.mono hb5.size)
  have Hg16 : Hid (RowL W5 g16 [.int .u64 (l0 (ee) : Int), .int .u64 (l1 (ee) : Int), .int .u64 (l2 (ee) : Int), .int .u64 (l3 (ee) : Int)] 26) := Lib.hid (by rw [hW5, hg16]; exact RowL.new _ _ _)
  have HW5 := Lib.hid hW5; have HG16 := Lib.hid hg16
  have mB := Lib.hid (nB_W4.out.trans (hc5.mono nB_W4.out.size))
  have nnnnnR0 := Lib.hid (nnnnR0.out.upS hc5)
  have nnnnnR3 := Lib.hid (nnnnR3.out.upS hc5)
  have nnnnnR4 := Lib.hid (nnnnR4.out.upS hc5)
  have nnHg12 := Lib.hid (nHg12.out.upS hc5)
  have nnHg13 := Lib.hid (nHg13.out.upS hc5)
  have nHg14 := Lib.hid (Hg14.out.upS hc5)
  have nHg15 := Lib.hid (Hg15.out.upS hc5)
  clear hb5 ha5 hc5 hW5 hg16 nB_W4 nnnnR0 nnnnR3 nnnnR4 nHg12 nHg13 Hg14 Hg15
  go_upto_region 6 with fail
  rw [show _ = W5 from HW5.out.symm, show _ = g16 from HG16.out.symm]
  clear HW5 HG16
  have SZ0 : Hid (True) := Lib.hid trivial
  have SZ5 : Hid ((w.heap.size + 1 + 1 + 1 + 1) + 1 ≤ W5.heap.size) := Lib.hid (by have h := nnnnnR4.out.lt; omega)
  refine wp_region_mono 16 [56, 57, 58, 59, 60, 61, 62, 63, 64, 65, 66, 67, 68, 69, 70, 17] (phi [IsV (.agg #[.int .u64 (l0 (aa) : Int), .int .u64 (l1 (aa) : Int), .int .u64 (l2 (aa) : Int), .int .u64 (l3 (aa) : Int)]), IsV (.agg #[.int .u64 (l0 (bb) : Int), .int .u64 (l1 (bb) : Int), .int .u64 (l2 (bb) : Int), .int .u64 (l3 (bb) : Int)]), IsS 2 ([.int .u64 (l0 (aa) : Int), .int .u64 (l1 (aa) : Int), .int .u64 (l2 (aa) : Int), .int .u64 (l3 (aa) : Int), .int .u64 (l0 (bb) : Int), .int .u64 (l1 (bb) : Int), .int .u64 (l2 (bb) : Int), .int .u64 (l3 (bb) : Int)]) 26, IsV (.agg #[.int .u64 (l0 (E1) : Int), .int .u64 (l1 (E1) : Int), .int .u64 (l2 (E1) : Int), .int .u64 (l3 (E1) : Int)]), IsV (.agg #[.int .u64 (l0 (ee) : Int), .int .u64 (l1 (ee) : Int), .int .u64 (l2 (ee) : Int), .int .u64 (l3 (ee) : Int)]), IsV (.agg #[.int .u64 (l0 (aa) : Int), .int .u64 (l1 (aa) : Int), .int .u64 (l2 (aa) : Int), .int .u64 (l3 (aa) : Int)]), IsV (.agg #[.int .u64 (l0 (121665) : Int), .int .u64 (l1 (121665) : Int), .int .u64 (l2 (121665) : Int), .int .u64 (l3 (121665) : Int)]), IsV (.agg #[.int .u64 (l0 (ee) : Int), .int .u64 (l1 (ee) : Int), .int .u64 (l2 (ee) : Int), .int .u64 (l3 (ee) : Int)]), IsS 2 ([.int .u64 (l0 (121665) : Int), .int .u64 (l1 (121665) : Int), .int .u64 (l2 (121665) : Int), .int .u64 (l3 (121665) : Int), .int .u64 (l0 (ee) : Int), .int .u64 (l1 (ee) : Int), .int .u64 (l2 (ee) : Int), .int .u64 (l3 (ee) : Int)]) 26, IsV (.agg #[.int .u64 (l0 (pe) : Int), .int .u64 (l1 (pe) : Int), .int .u64 (l2 (pe) : Int), .int .u64 (l3 (pe) : Int)]), IsS 2 ([.int .u64 (l0 (aa) : Int), .int .u64 (l1 (aa) : Int), .int .u64 (l2 (aa) : Int), .int .u64 (l3 (aa) : Int), .int .u64 (l0 (pe) : Int), .int .u64 (l1 (pe) : Int), .int .u64 (l2 (pe) : Int), .int .u64 (l3 (pe) : Int)]) 26, IsV (.agg #[.int .u64 (l0 (se) : Int), .int .u64 (l1 (se) : Int), .int .u64 (l2 (se) : Int), .int .u64 (l3 (se) : Int)]), IsS 2 ([.int .u64 (l0 (ee) : Int), .int .u64 (l1 (ee) : Int), .int .u64 (l2 (ee) : Int), .int .u64 (l3 (ee) : Int), .int .u64 (l0 (se) : Int), .int .u64 (l1 (se) : Int), .int .u64 (l2 (se) : Int), .int .u64 (l3 (se) : Int)]) 26, IsV (.agg #[.int .u64 (l0 (U1) : Int), .int .u64 (l1 (U1) : Int), .int .u64 (l2 (U1) : Int), .int .u64 (l3 (U1) : Int)]), IsV (.agg #[.int .u64 (l0 (E1) : Int), .int .u64 (l1 (E1) : Int), .int .u64 (l2 (E1) : Int), .int .u64 (l3 (E1) : Int), .int .u64 (l0 (U1) : Int), .int .u64 (l1 (U1) : Int), .int .u64 (l2 (U1) : Int), .int .u64 (l3 (U1) : Int)]), IsR W5.heap.size ([.int .u64 0, .int .u64 0, .int .u64 0, .int .u64 0, .int .u64 0, .int .u64 0, .int .u64 0, .int .u64 0]) 29]) [15] rfl (by kernel_rfl) rfl rfl (by kernel_rfl) rfl (by kernel_rfl) (by kernel_rfl) (phi_mono (by repeat (first | exact mono_v _ | exact mono_r _ _ _ | exact mono_s _ _ _ | exact trivial | refine ⟨?_, ?_⟩))) ?_ ?_
  · intro i hi
    rcases (show i = 0 ∨ i = 1 ∨ i = 2 ∨ i = 3 ∨ i = 4 ∨ i = 5 ∨ i = 6 ∨ i = 7 ∨ i = 8 ∨ i = 9 ∨ i = 10 ∨ i = 11 ∨ i = 12 ∨ i = 13 ∨ i = 14 ∨ i = 15 by omega) with rfl | rfl | rfl | rfl | rfl | rfl | rfl | rfl | rfl | rfl | rfl | rfl | rfl | rfl | rfl | rfl
    · intro ac W hB hst hdep
      have e14 : ac.tmps[14]? = some (.pointer (some ⟨g14, 0, none⟩)) := hst 14 (by decide)
      exact st_load rfl rfl 26 (.tmp 14) rfl (eval_of e14) ([.int .u64 (l0 (aa) : Int), .int .u64 (l1 (aa) : Int), .int .u64 (l2 (aa) : Int), .int .u64 (l3 (aa) : Int)]) _ ((RowL.upS (w := W5.drew) nHg14.out hB).range 0 _ rfl) undEl rfl (by kernel_rfl) rfl (notE rfl)
    · intro ac W hB hst hdep
      have e15 : ac.tmps[15]? = some (.pointer (some ⟨g15, 0, none⟩)) := hst 15 (by decide)
      exact st_load rfl rfl 26 (.tmp 15) rfl (eval_of e15) ([.int .u64 (l0 (bb) : Int), .int .u64 (l1 (bb) : Int), .int .u64 (l2 (bb) : Int), .int .u64 (l3 (bb) : Int)]) _ ((RowL.upS (w := W5.drew) nHg15.out hB).range 0 _ rfl) undEl rfl (by kernel_rfl) rfl (notE rfl)
    · intro ac W hB hst hdep
      obtain ⟨x56, e56, h56⟩ := hdep 0 (memE (by kernel_rfl)) 56 rfl
      replace h56 : x56 = .agg #[.int .u64 (l0 (aa) : Int), .int .u64 (l1 (aa) : Int), .int .u64 (l2 (aa) : Int), .int .u64 (l3 (aa) : Int)] := h56
      subst h56
      obtain ⟨x57, e57, h57⟩ := hdep 1 (memE (by kernel_rfl)) 57 rfl
      replace h57 : x57 = .agg #[.int .u64 (l0 (bb) : Int), .int .u64 (l1 (bb) : Int), .int .u64 (l2 (bb) : Int), .int .u64 (l3 (bb) : Int)] := h57
      subst h57
      exact st_bs rfl rfl 86 26 2 _ rfl (show (#[(0, .tmp 56), (1, .tmp 57)] : Array (Nat × Operand)).map (fun (i, x) => (i, ac.eval x)) = #[(0, .agg #[.int .u64 (l0 (aa) : Int), .int .u64 (l1 (aa) : Int), .int .u64 (l2 (aa) : Int), .int .u64 (l3 (aa) : Int)]), (1, .agg #[.int .u64 (l0 (bb) : Int), .int .u64 (l1 (bb) : Int), .int .u64 (l2 (bb) : Int), .int .u64 (l3 (bb) : Int)])] by simp only [List.map_toArray, List.map_cons, List.map_nil, eval_of e56, eval_of e57]) (bsEl2 (aa) (bb)) ⟨_, rfl, heap_alloc_new _ _⟩ (notE rfl)
    · intro ac W hB hst hdep
      obtain ⟨x58, e58, h58⟩ := hdep 2 (memE (by kernel_rfl)) 58 rfl
      obtain ⟨g58, hg58, r58⟩ := (h58 : IsS 2 ([.int .u64 (l0 (aa) : Int), .int .u64 (l1 (aa) : Int), .int .u64 (l2 (aa) : Int), .int .u64 (l3 (aa) : Int), .int .u64 (l0 (bb) : Int), .int .u64 (l1 (bb) : Int), .int .u64 (l2 (bb) : Int), .int .u64 (l3 (bb) : Int)]) 26 _ _)
      subst hg58
      exact st_call rfl rfl rfl (show (#[.tmp 58] : Array Operand).map ac.eval = (#[.slice (some ⟨g58, 0, none⟩) 2 2] : Array Value) by simp only [List.map_toArray, List.map_cons, List.map_nil, Act.eval_const, eval_of e58]) (fun _ => by kernel_rfl) (Calls.mono (prodK Zaa.out Zbb.out QE1.out r58) fun e w' h => ⟨_, h.1, h.2, rfl⟩) (notE rfl)
    · intro ac W hB hst hdep
      have e16 : ac.tmps[16]? = some (.pointer (some ⟨g16, 0, none⟩)) := hst 16 (by decide)
      exact st_load rfl rfl 26 (.tmp 16) rfl (eval_of e16) ([.int .u64 (l0 (ee) : Int), .int .u64 (l1 (ee) : Int), .int .u64 (l2 (ee) : Int), .int .u64 (l3 (ee) : Int)]) _ ((RowL.upS (w := W5.drew) Hg16.out hB).range 0 _ rfl) undEl rfl (by kernel_rfl) rfl (notE rfl)
    · intro ac W hB hst hdep
      have e14 : ac.tmps[14]? = some (.pointer (some ⟨g14, 0, none⟩)) := hst 14 (by decide)
      exact st_load rfl rfl 26 (.tmp 14) rfl (eval_of e14) ([.int .u64 (l0 (aa) : Int), .int .u64 (l1 (aa) : Int), .int .u64 (l2 (aa) : Int), .int .u64 (l3 (aa) : Int)]) _ ((RowL.upS (w := W5.drew) nHg14.out hB).range 0 _ rfl) undEl rfl (by kernel_rfl) rfl (notE rfl)
    · intro ac W hB hst hdep
      exact st_call rfl rfl rfl (show (#[.const (.int .u64 121665)] : Array Operand).map ac.eval = (#[.int .u64 121665] : Array Value) by simp only [List.map_toArray, List.map_cons, List.map_nil, Act.eval_const]) (fun _ => by kernel_rfl) (Calls.mono (ofK _) fun e w' h => ⟨_, h.1, h.2, rfl⟩) (notE rfl)
    · intro ac W hB hst hdep
      have e16 : ac.tmps[16]? = some (.pointer (some ⟨g16, 0, none⟩)) := hst 16 (by decide)
      exact st_load rfl rfl 26 (.tmp 16) rfl (eval_of e16) ([.int .u64 (l0 (ee) : Int), .int .u64 (l1 (ee) : Int), .int .u64 (l2 (ee) : Int), .int .u64 (l3 (ee) : Int)]) _ ((RowL.upS (w := W5.drew) Hg16.out hB).range 0 _ rfl) undEl rfl (by kernel_rfl) rfl (notE rfl)
    · intro ac W hB hst hdep
      obtain ⟨x62, e62, h62⟩ := hdep 6 (memE (by kernel_rfl)) 62 rfl
      replace h62 : x62 = .agg #[.int .u64 (l0 (121665) : Int), .int .u64 (l1 (121665) : Int), .int .u64 (l2 (121665) : Int), .int .u64 (l3 (121665) : Int)] := h62
      subst h62
      obtain ⟨x63, e63, h63⟩ := hdep 7 (memE (by kernel_rfl)) 63 rfl
      replace h63 : x63 = .agg #[.int .u64 (l0 (ee) : Int), .int .u64 (l1 (ee) : Int), .int .u64 (l2 (ee) : Int), .int .u64 (l3 (ee) : Int)] := h63
      subst h63
      exact st_bs rfl rfl 86 26 2 _ rfl (show (#[(0, .tmp 62), (1, .tmp 63)] : Array (Nat × Operand)).map (fun (i, x) => (i, ac.eval x)) = #[(0, .agg #[.int .u64 (l0 (121665) : Int), .int .u64 (l1 (121665) : Int), .int .u64 (l2 (121665) : Int), .int .u64 (l3 (121665) : Int)]), (1, .agg #[.int .u64 (l0 (ee) : Int), .int .u64 (l1 (ee) : Int), .int .u64 (l2 (ee) : Int), .int .u64 (l3 (ee) : Int)])] by simp only [List.map_toArray, List.map_cons, List.map_nil, eval_of e62, eval_of e63]) (bsEl2 (121665) (ee)) ⟨_, rfl, heap_alloc_new _ _⟩ (notE rfl)
    · intro ac W hB hst hdep
      obtain ⟨x64, e64, h64⟩ := hdep 8 (memE (by kernel_rfl)) 64 rfl
      obtain ⟨g64, hg64, r64⟩ := (h64 : IsS 2 ([.int .u64 (l0 (121665) : Int), .int .u64 (l1 (121665) : Int), .int .u64 (l2 (121665) : Int), .int .u64 (l3 (121665) : Int), .int .u64 (l0 (ee) : Int), .int .u64 (l1 (ee) : Int), .int .u64 (l2 (ee) : Int), .int .u64 (l3 (ee) : Int)]) 26 _ _)
      subst hg64
      exact st_call rfl rfl rfl (show (#[.tmp 64] : Array Operand).map ac.eval = (#[.slice (some ⟨g64, 0, none⟩) 2 2] : Array Value) by simp only [List.map_toArray, List.map_cons, List.map_nil, Act.eval_const, eval_of e64]) (fun _ => by kernel_rfl) (Calls.mono (prodK (by decide) Zee.out Qpe.out r64) fun e w' h => ⟨_, h.1, h.2, rfl⟩) (notE rfl)
    · intro ac W hB hst hdep
      obtain ⟨x61, e61, h61⟩ := hdep 5 (memE (by kernel_rfl)) 61 rfl
      replace h61 : x61 = .agg #[.int .u64 (l0 (aa) : Int), .int .u64 (l1 (aa) : Int), .int .u64 (l2 (aa) : Int), .int .u64 (l3 (aa) : Int)] := h61
      subst h61
      obtain ⟨x65, e65, h65⟩ := hdep 9 (memE (by kernel_rfl)) 65 rfl
      replace h65 : x65 = .agg #[.int .u64 (l0 (pe) : Int), .int .u64 (l1 (pe) : Int), .int .u64 (l2 (pe) : Int), .int .u64 (l3 (pe) : Int)] := h65
      subst h65
      exact st_bs rfl rfl 86 26 2 _ rfl (show (#[(0, .tmp 61), (1, .tmp 65)] : Array (Nat × Operand)).map (fun (i, x) => (i, ac.eval x)) = #[(0, .agg #[.int .u64 (l0 (aa) : Int), .int .u64 (l1 (aa) : Int), .int .u64 (l2 (aa) : Int), .int .u64 (l3 (aa) : Int)]), (1, .agg #[.int .u64 (l0 (pe) : Int), .int .u64 (l1 (pe) : Int), .int .u64 (l2 (pe) : Int), .int .u64 (l3 (pe) : Int)])] by simp only [List.map_toArray, List.map_cons, List.map_nil, eval_of e61, eval_of e65]) (bsEl2 (aa) (pe)) ⟨_, rfl, heap_alloc_new _ _⟩ (notE rfl)
    · intro ac W hB hst hdep
      obtain ⟨x66, e66, h66⟩ := hdep 10 (memE (by kernel_rfl)) 66 rfl
      obtain ⟨g66, hg66, r66⟩ := (h66 : IsS 2 ([.int .u64 (l0 (aa) : Int), .int .u64 (l1 (aa) : Int), .int .u64 (l2 (aa) : Int), .int .u64 (l3 (aa) : Int), .int .u64 (l0 (pe) : Int), .int .u64 (l1 (pe) : Int), .int .u64 (l2 (pe) : Int), .int .u64 (l3 (pe) : Int)]) 26 _ _)
      subst hg66
      exact st_call rfl rfl rfl (show (#[.tmp 66] : Array Operand).map ac.eval = (#[.slice (some ⟨g66, 0, none⟩) 2 2] : Array Value) by simp only [List.map_toArray, List.map_cons, List.map_nil, Act.eval_const, eval_of e66]) (fun _ => by kernel_rfl) (Calls.mono (sumK Zaa.out Zpe.out Qse.out r66) fun e w' h => ⟨_, h.1, h.2, rfl⟩) (notE rfl)
    · intro ac W hB hst hdep
      obtain ⟨x60, e60, h60⟩ := hdep 4 (memE (by kernel_rfl)) 60 rfl
      replace h60 : x60 = .agg #[.int .u64 (l0 (ee) : Int), .int .u64 (l1 (ee) : Int), .int .u64 (l2 (ee) : Int), .int .u64 (l3 (ee) : Int)] := h60
      subst h60
      obtain ⟨x67, e67, h67⟩ := hdep 11 (memE (by kernel_rfl)) 67 rfl
      replace h67 : x67 = .agg #[.int .u64 (l0 (se) : Int), .int .u64 (l1 (se) : Int), .int .u64 (l2 (se) : Int), .int .u64 (l3 (se) : Int)] := h67
      subst h67
      exact st_bs rfl rfl 86 26 2 _ rfl (show (#[(0, .tmp 60), (1, .tmp 67)] : Array (Nat × Operand)).map (fun (i, x) => (i, ac.eval x)) = #[(0, .agg #[.int .u64 (l0 (ee) : Int), .int .u64 (l1 (ee) : Int), .int .u64 (l2 (ee) : Int), .int .u64 (l3 (ee) : Int)]), (1, .agg #[.int .u64 (l0 (se) : Int), .int .u64 (l1 (se) : Int), .int .u64 (l2 (se) : Int), .int .u64 (l3 (se) : Int)])] by simp only [List.map_toArray, List.map_cons, List.map_nil, eval_of e60, eval_of e67]) (bsEl2 (ee) (se)) ⟨_, rfl, heap_alloc_new _ _⟩ (notE rfl)
    · intro ac W hB hst hdep
      obtain ⟨x68, e68, h68⟩ := hdep 12 (memE (by kernel_rfl)) 68 rfl
      obtain ⟨g68, hg68, r68⟩ := (h68 : IsS 2 ([.int .u64 (l0 (ee) : Int), .int .u64 (l1 (ee) : Int), .int .u64 (l2 (ee) : Int), .int .u64 (l3 (ee) : Int), .int .u64 (l0 (se) : Int), .int .u64 (l1 (se) : Int), .int .u64 (l2 (se) : Int), .int .u64 (l3 (se) : Int)]) 26 _ _)
      subst hg68
      exact st_call rfl rfl rfl (show (#[.tmp 68] : Array Operand).map ac.eval = (#[.slice (some ⟨g68, 0, none⟩) 2 2] : Array Value) by simp only [List.map_toArray, List.map_cons, List.map_nil, Act.eval_const, eval_of e68]) (fun _ => by kernel_rfl) (Calls.mono (prodK Zee.out Zse.out QU1.out r68) fun e w' h => ⟨_, h.1, h.2, rfl⟩) (notE rfl)
    · intro ac W hB hst hdep
      obtain ⟨x59, e59, h59⟩ := hdep 3 (memE (by kernel_rfl)) 59 rfl
      replace h59 : x59 = .agg #[.int .u64 (l0 (E1) : Int), .int .u64 (l1 (E1) : Int), .int .u64 (l2 (E1) : Int), .int .u64 (l3 (E1) : Int)] := h59
      subst h59
      obtain ⟨x69, e69, h69⟩ := hdep 13 (memE (by kernel_rfl)) 69 rfl
      replace h69 : x69 = .agg #[.int .u64 (l0 (U1) : Int), .int .u64 (l1 (U1) : Int), .int .u64 (l2 (U1) : Int), .int .u64 (l3 (U1) : Int)] := h69
      subst h69
      exact st_build rfl rfl 29 _ rfl (show (#[(0, .tmp 59), (1, .tmp 69)] : Array (Nat × Operand)).map (fun (i, x) => (i, ac.eval x)) = #[(0, .agg #[.int .u64 (l0 (E1) : Int), .int .u64 (l1 (E1) : Int), .int .u64 (l2 (E1) : Int), .int .u64 (l3 (E1) : Int)]), (1, .agg #[.int .u64 (l0 (U1) : Int), .int .u64 (l1 (U1) : Int), .int .u64 (l2 (U1) : Int), .int .u64 (l3 (U1) : Int)])] by simp only [List.map_toArray, List.map_cons, List.map_nil, eval_of e59, eval_of e69]) (buildRt E1 U1) rfl (notE rfl)
    · intro ac W hB hst hdep
      exact st_alloc rfl rfl 29 rfl allocRt ⟨_, rfl, hB.size, heap_alloc_new _ _⟩
  intro vs hvs wn hbr hv hne
  obtain ⟨v56, v57, v58, v59, v60, v61, v62, v63, v64, v65, v66, v67, v68, v69, v70, v17, rfl⟩ := list16 vs hvs
  obtain rfl : v56 = .agg #[.int .u64 (l0 (aa) : Int), .int .u64 (l1 (aa) : Int), .int .u64 (l2 (aa) : Int), .int .u64 (l3 (aa) : Int)] := hv 0 _ rfl
  obtain rfl : v57 = .agg #[.int .u64 (l0 (bb) : Int), .int .u64 (l1 (bb) : Int), .int .u64 (l2 (bb) : Int), .int .u64 (l3 (bb) : Int)] := hv 1 _ rfl
  obtain ⟨g58, hg58, hr58⟩ : IsS 2 ([.int .u64 (l0 (aa) : Int), .int .u64 (l1 (aa) : Int), .int .u64 (l2 (aa) : Int), .int .u64 (l3 (aa) : Int), .int .u64 (l0 (bb) : Int), .int .u64 (l1 (bb) : Int), .int .u64 (l2 (bb) : Int), .int .u64 (l3 (bb) : Int)]) 26 v58 wn := hv 2 _ rfl
  obtain rfl : v59 = .agg #[.int .u64 (l0 (E1) : Int), .int .u64 (l1 (E1) : Int), .int .u64 (l2 (E1) : Int), .int .u64 (l3 (E1) : Int)] := hv 3 _ rfl
  obtain rfl : v60 = .agg #[.int .u64 (l0 (ee) : Int), .int .u64 (l1 (ee) : Int), .int .u64 (l2 (ee) : Int), .int .u64 (l3 (ee) : Int)] := hv 4 _ rfl
  obtain rfl : v61 = .agg #[.int .u64 (l0 (aa) : Int), .int .u64 (l1 (aa) : Int), .int .u64 (l2 (aa) : Int), .int .u64 (l3 (aa) : Int)] := hv 5 _ rfl
  obtain rfl : v62 = .agg #[.int .u64 (l0 (121665) : Int), .int .u64 (l1 (121665) : Int), .int .u64 (l2 (121665) : Int), .int .u64 (l3 (121665) : Int)] := hv 6 _ rfl
  obtain rfl : v63 = .agg #[.int .u64 (l0 (ee) : Int), .int .u64 (l1 (ee) : Int), .int .u64 (l2 (ee) : Int), .int .u64 (l3 (ee) : Int)] := hv 7 _ rfl
  obtain ⟨g64, hg64, hr64⟩ : IsS 2 ([.int .u64 (l0 (121665) : Int), .int .u64 (l1 (121665) : Int), .int .u64 (l2 (121665) : Int), .int .u64 (l3 (121665) : Int), .int .u64 (l0 (ee) : Int), .int .u64 (l1 (ee) : Int), .int .u64 (l2 (ee) : Int), .int .u64 (l3 (ee) : Int)]) 26 v64 wn := hv 8 _ rfl
  obtain rfl : v65 = .agg #[.int .u64 (l0 (pe) : Int), .int .u64 (l1 (pe) : Int), .int .u64 (l2 (pe) : Int), .int .u64 (l3 (pe) : Int)] := hv 9 _ rfl
  obtain ⟨g66, hg66, hr66⟩ : IsS 2 ([.int .u64 (l0 (aa) : Int), .int .u64 (l1 (aa) : Int), .int .u64 (l2 (aa) : Int), .int .u64 (l3 (aa) : Int), .int .u64 (l0 (pe) : Int), .int .u64 (l1 (pe) : Int), .int .u64 (l2 (pe) : Int), .int .u64 (l3 (pe) : Int)]) 26 v66 wn := hv 10 _ rfl
  obtain rfl : v67 = .agg #[.int .u64 (l0 (se) : Int), .int .u64 (l1 (se) : Int), .int .u64 (l2 (se) : Int), .int .u64 (l3 (se) : Int)] := hv 11 _ rfl
  obtain ⟨g68, hg68, hr68⟩ : IsS 2 ([.int .u64 (l0 (ee) : Int), .int .u64 (l1 (ee) : Int), .int .u64 (l2 (ee) : Int), .int .u64 (l3 (ee) : Int), .int .u64 (l0 (se) : Int), .int .u64 (l1 (se) : Int), .int .u64 (l2 (se) : Int), .int .u64 (l3 (se) : Int)]) 26 v68 wn := hv 12 _ rfl
  obtain rfl : v69 = .agg #[.int .u64 (l0 (U1) : Int), .int .u64 (l1 (U1) : Int), .int .u64 (l2 (U1) : Int), .int .u64 (l3 (U1) : Int)] := hv 13 _ rfl
  obtain rfl : v70 = .agg #[.int .u64 (l0 (E1) : Int), .int .u64 (l1 (E1) : Int), .int .u64 (l2 (E1) : Int), .int .u64 (l3 (E1) : Int), .int .u64 (l0 (U1) : Int), .int .u64 (l1 (U1) : Int), .int .u64 (l2 (U1) : Int), .int .u64 (l3 (U1) : Int)] := hv 14 _ rfl
  obtain ⟨g17, hg17, hB17, hr17⟩ : IsR W5.heap.size ([.int .u64 0, .int .u64 0, .int .u64 0, .int .u64 0, .int .u64 0, .int .u64 0, .int .u64 0, .int .u64 0]) 29 v17 wn := hv 15 _ rfl
  subst hg58
  subst hg64
  subst hg66
  subst hg68
  subst hg17
  clear hvs hv hne
  simp only [List.zip_cons_cons, List.zip_nil_right, List.zip_nil_left, puts, Act.put, List.setIfInBounds_toArray, List.set_cons_zero, List.set_cons_succ]
  have hz : W5.heap.size ≤ wn.heap.size := hbr.size
  have nB_W6 := Lib.hid (mB.out.trans (hbr.mono mB.out.size))
  have nnnnnnR0 := Lib.hid (nnnnnR0.out.upS hbr)
  have nnnnnnR3 := Lib.hid (nnnnnR3.out.upS hbr)
  have nnnnnnR4 := Lib.hid (nnnnnR4.out.upS hbr)
  have nnnHg12 := Lib.hid (nnHg12.out.upS hbr)
  have nnnHg13 := Lib.hid (nnHg13.out.upS hbr)
  refine tail_store (k := 16) (by kernel_rfl) rfl rfl rfl 29 (.tmp 17) (.tmp 70) rfl g17 ([.int .u64 (l0 (E1) : Int), .int .u64 (l1 (E1) : Int), .int .u64 (l2 (E1) : Int), .int .u64 (l3 (E1) : Int), .int .u64 (l0 (U1) : Int), .int .u64 (l1 (U1) : Int), .int .u64 (l2 (U1) : Int), .int .u64 (l3 (U1) : Int)] : List Value).toArray (by kernel_rfl) (by kernel_rfl) _ _ hr17 (by kernel_rfl) rfl (by kernel_rfl) ?_
  replace hr17 := hr17.set ([.int .u64 (l0 (E1) : Int), .int .u64 (l1 (E1) : Int), .int .u64 (l2 (E1) : Int), .int .u64 (l3 (E1) : Int), .int .u64 (l0 (U1) : Int), .int .u64 (l1 (U1) : Int), .int .u64 (l2 (U1) : Int), .int .u64 (l3 (U1) : Int)])
  replace nB_W6 := Lib.hid (set_below nB_W6.out (Nat.le_trans mB.out.size hB17) ([.int .u64 (l0 (E1) : Int), .int .u64 (l1 (E1) : Int), .int .u64 (l2 (E1) : Int), .int .u64 (l3 (E1) : Int), .int .u64 (l0 (U1) : Int), .int .u64 (l1 (U1) : Int), .int .u64 (l2 (U1) : Int), .int .u64 (l3 (U1) : Int)] : List Value).toArray)
  replace nnnnnnR0 := Lib.hid (nnnnnnR0.out.set_ne ([.int .u64 (l0 (E1) : Int), .int .u64 (l1 (E1) : Int), .int .u64 (l2 (E1) : Int), .int .u64 (l3 (E1) : Int), .int .u64 (l0 (U1) : Int), .int .u64 (l1 (U1) : Int), .int .u64 (l2 (U1) : Int), .int .u64 (l3 (U1) : Int)] : List Value).toArray (Nat.ne_of_lt (Nat.lt_of_lt_of_le nnnnnR0.out.lt hB17)))
  replace nnnnnnR3 := Lib.hid (nnnnnnR3.out.set_ne ([.int .u64 (l0 (E1) : Int), .int .u64 (l1 (E1) : Int), .int .u64 (l2 (E1) : Int), .int .u64 (l3 (E1) : Int), .int .u64 (l0 (U1) : Int), .int .u64 (l1 (U1) : Int), .int .u64 (l2 (U1) : Int), .int .u64 (l3 (U1) : Int)] : List Value).toArray (Nat.ne_of_lt (Nat.lt_of_lt_of_le nnnnnR3.out.lt hB17)))
  replace nnnnnnR4 := Lib.hid (nnnnnnR4.out.set_ne ([.int .u64 (l0 (E1) : Int), .int .u64 (l1 (E1) : Int), .int .u64 (l2 (E1) : Int), .int .u64 (l3 (E1) : Int), .int .u64 (l0 (U1) : Int), .int .u64 (l1 (U1) : Int), .int .u64 (l2 (U1) : Int), .int .u64 (l3 (U1) : Int)] : List Value).toArray (Nat.ne_of_lt (Nat.lt_of_lt_of_le nnnnnR4.out.lt hB17)))
  replace nnnHg12 := Lib.hid (nnnHg12.out.set_ne ([.int .u64 (l0 (E1) : Int), .int .u64 (l1 (E1) : Int), .int .u64 (l2 (E1) : Int), .int .u64 (l3 (E1) : Int), .int .u64 (l0 (U1) : Int), .int .u64 (l1 (U1) : Int), .int .u64 (l2 (U1) : Int), .int .u64 (l3 (U1) : Int)] : List Value).toArray (Nat.ne_of_lt (Nat.lt_of_lt_of_le nnHg12.out.lt hB17)))
  replace nnnHg13 := Lib.hid (nnnHg13.out.set_ne ([.int .u64 (l0 (E1) : Int), .int .u64 (l1 (E1) : Int), .int .u64 (l2 (E1) : Int), .int .u64 (l3 (E1) : Int), .int .u64 (l0 (U1) : Int), .int .u64 (l1 (U1) : Int), .int .u64 (l2 (U1) : Int), .int .u64 (l3 (U1) : Int)] : List Value).toArray (Nat.ne_of_lt (Nat.lt_of_lt_of_le nnHg13.out.lt hB17)))
  refine wpAny_done (by kernel_rfl) ?_ _
  have Hg17 := Lib.hid hr17
  have M17 : Hid (W5.heap.size ≤ g17) := Lib.hid hB17
  clear hbr hz hr17 hB17  hr58 hr64 hr66 hr68
  generalize (wn.setRow g17 ([.int .u64 (l0 (E1) : Int), .int .u64 (l1 (E1) : Int), .int .u64 (l2 (E1) : Int), .int .u64 (l3 (E1) : Int), .int .u64 (l0 (U1) : Int), .int .u64 (l1 (U1) : Int), .int .u64 (l2 (U1) : Int), .int .u64 (l3 (U1) : Int)] : List Value).toArray) = W6 at *
  clear mB nnnnnR0 nnnnnR3 nnnnnR4 nnHg12 nnHg13 nHg14 nHg15 Hg16
  have SZ6 : Hid ((w.heap.size + 1 + 1 + 1 + 1) + 1 ≤ W6.heap.size) := Lib.hid (by have h := nnnnnnR4.out.lt; omega)
  go_upto_region 7 with fail
  refine wp_region_mono 14 [71, 72, 73, 74, 75, 76, 77, 78, 79, 80, 81, 82, 83, 18] (phi [IsV (.agg #[.int .u64 (l0 (da) : Int), .int .u64 (l1 (da) : Int), .int .u64 (l2 (da) : Int), .int .u64 (l3 (da) : Int)]), IsV (.agg #[.int .u64 (l0 (cb) : Int), .int .u64 (l1 (cb) : Int), .int .u64 (l2 (cb) : Int), .int .u64 (l3 (cb) : Int)]), IsS 2 ([.int .u64 (l0 (da) : Int), .int .u64 (l1 (da) : Int), .int .u64 (l2 (da) : Int), .int .u64 (l3 (da) : Int), .int .u64 (l0 (cb) : Int), .int .u64 (l1 (cb) : Int), .int .u64 (l2 (cb) : Int), .int .u64 (l3 (cb) : Int)]) 26, IsV (.agg #[.int .u64 (l0 (s) : Int), .int .u64 (l1 (s) : Int), .int .u64 (l2 (s) : Int), .int .u64 (l3 (s) : Int)]), IsV (.agg #[.int .u64 (l0 (E2) : Int), .int .u64 (l1 (E2) : Int), .int .u64 (l2 (E2) : Int), .int .u64 (l3 (E2) : Int)]), IsV (.agg #[.int .u64 (l0 (x) : Int), .int .u64 (l1 (x) : Int), .int .u64 (l2 (x) : Int), .int .u64 (l3 (x) : Int)]), IsV (.agg #[.int .u64 (l0 (da) : Int), .int .u64 (l1 (da) : Int), .int .u64 (l2 (da) : Int), .int .u64 (l3 (da) : Int)]), IsV (.agg #[.int .u64 (l0 (cb) : Int), .int .u64 (l1 (cb) : Int), .int .u64 (l2 (cb) : Int), .int .u64 (l3 (cb) : Int)]), IsV (.agg #[.int .u64 (l0 (t) : Int), .int .u64 (l1 (t) : Int), .int .u64 (l2 (t) : Int), .int .u64 (l3 (t) : Int)]), IsV (.agg #[.int .u64 (l0 (tt) : Int), .int .u64 (l1 (tt) : Int), .int .u64 (l2 (tt) : Int), .int .u64 (l3 (tt) : Int)]), IsS 2 ([.int .u64 (l0 (x) : Int), .int .u64 (l1 (x) : Int), .int .u64 (l2 (x) : Int), .int .u64 (l3 (x) : Int), .int .u64 (l0 (tt) : Int), .int .u64 (l1 (tt) : Int), .int .u64 (l2 (tt) : Int), .int .u64 (l3 (tt) : Int)]) 26, IsV (.agg #[.int .u64 (l0 (U2) : Int), .int .u64 (l1 (U2) : Int), .int .u64 (l2 (U2) : Int), .int .u64 (l3 (U2) : Int)]), IsV (.agg #[.int .u64 (l0 (E2) : Int), .int .u64 (l1 (E2) : Int), .int .u64 (l2 (E2) : Int), .int .u64 (l3 (E2) : Int), .int .u64 (l0 (U2) : Int), .int .u64 (l1 (U2) : Int), .int .u64 (l2 (U2) : Int), .int .u64 (l3 (U2) : Int)]), IsR W6.heap.size ([.int .u64 0, .int .u64 0, .int .u64 0, .int .u64 0, .int .u64 0, .int .u64 0, .int .u64 0, .int .u64 0]) 29]) [13] rfl (by kernel_rfl) rfl rfl (by kernel_rfl) rfl (by kernel_rfl) (by kernel_rfl) (phi_mono (by repeat (first | exact mono_v _ | exact mono_r _ _ _ | exact mono_s _ _ _ | exact trivial | refine ⟨?_, ?_⟩))) ?_ ?_
  · intro i hi
    rcases (show i = 0 ∨ i = 1 ∨ i = 2 ∨ i = 3 ∨ i = 4 ∨ i = 5 ∨ i = 6 ∨ i = 7 ∨ i = 8 ∨ i = 9 ∨ i = 10 ∨ i = 11 ∨ i = 12 ∨ i = 13 by omega) with rfl | rfl | rfl | rfl | rfl | rfl | rfl | rfl | rfl | rfl | rfl | rfl | rfl | rfl
    · intro ac W hB hst hdep
      have e12 : ac.tmps[12]? = some (.pointer (some ⟨g12, 0, none⟩)) := hst 12 (by decide)
      exact st_load rfl rfl 26 (.tmp 12) rfl (eval_of e12) ([.int .u64 (l0 (da) : Int), .int .u64 (l1 (da) : Int), .int .u64 (l2 (da) : Int), .int .u64 (l3 (da) : Int)]) _ ((RowL.upS (w := W6.drew) nnnHg12.out hB).range 0 _ rfl) undEl rfl (by kernel_rfl) rfl (notE rfl)
    · intro ac W hB hst hdep
      have e13 : ac.tmps[13]? = some (.pointer (some ⟨g13, 0, none⟩)) := hst 13 (by decide)
      exact st_load rfl rfl 26 (.tmp 13) rfl (eval_of e13) ([.int .u64 (l0 (cb) : Int), .int .u64 (l1 (cb) : Int), .int .u64 (l2 (cb) : Int), .int .u64 (l3 (cb) : Int)]) _ ((RowL.upS (w := W6.drew) nnnHg13.out hB).range 0 _ rfl) undEl rfl (by kernel_rfl) rfl (notE rfl)
    · intro ac W hB hst hdep
      obtain ⟨x71, e71, h71⟩ := hdep 0 (memE (by kernel_rfl)) 71 rfl
      replace h71 : x71 = .agg #[.int .u64 (l0 (da) : Int), .int .u64 (l1 (da) : Int), .int .u64 (l2 (da) : Int), .int .u64 (l3 (da) : Int)] := h71
      subst h71
      obtain ⟨x72, e72, h72⟩ := hdep 1 (memE (by kernel_rfl)) 72 rfl
      replace h72 : x72 = .agg #[.int .u64 (l0 (cb) : Int), .int .u64 (l1 (cb) : Int), .int .u64 (l2 (cb) : Int), .int .u64 (l3 (cb) : Int)] := h72
      subst h72
      exact st_bs rfl rfl 86 26 2 _ rfl (show (#[(0, .tmp 71), (1, .tmp 72)] : Array (Nat × Operand)).map (fun (i, x) => (i, ac.eval x)) = #[(0, .agg #[.int .u64 (l0 (da) : Int), .int .u64 (l1 (da) : Int), .int .u64 (l2 (da) : Int), .int .u64 (l3 (da) : Int)]), (1, .agg #[.int .u64 (l0 (cb) : Int), .int .u64 (l1 (cb) : Int), .int .u64 (l2 (cb) : Int), .int .u64 (l3 (cb) : Int)])] by simp only [List.map_toArray, List.map_cons, List.map_nil, eval_of e71, eval_of e72]) (bsEl2 (da) (cb)) ⟨_, rfl, heap_alloc_new _ _⟩ (notE rfl)
    · intro ac W hB hst hdep
      obtain ⟨x73, e73, h73⟩ := hdep 2 (memE (by kernel_rfl)) 73 rfl
      obtain ⟨g73, hg73, r73⟩ := (h73 : IsS 2 ([.int .u64 (l0 (da) : Int), .int .u64 (l1 (da) : Int), .int .u64 (l2 (da) : Int), .int .u64 (l3 (da) : Int), .int .u64 (l0 (cb) : Int), .int .u64 (l1 (cb) : Int), .int .u64 (l2 (cb) : Int), .int .u64 (l3 (cb) : Int)]) 26 _ _)
      subst hg73
      exact st_call rfl rfl rfl (show (#[.tmp 73] : Array Operand).map ac.eval = (#[.slice (some ⟨g73, 0, none⟩) 2 2] : Array Value) by simp only [List.map_toArray, List.map_cons, List.map_nil, Act.eval_const, eval_of e73]) (fun _ => by kernel_rfl) (Calls.mono (sumK Zda.out Zcb.out Qs.out r73) fun e w' h => ⟨_, h.1, h.2, rfl⟩) (notE rfl)
    · intro ac W hB hst hdep
      obtain ⟨x74, e74, h74⟩ := hdep 3 (memE (by kernel_rfl)) 74 rfl
      replace h74 : x74 = .agg #[.int .u64 (l0 (s) : Int), .int .u64 (l1 (s) : Int), .int .u64 (l2 (s) : Int), .int .u64 (l3 (s) : Int)] := h74
      subst h74
      exact st_call rfl rfl rfl (show (#[.tmp 74] : Array Operand).map ac.eval = (#[.agg #[.int .u64 (l0 (s) : Int), .int .u64 (l1 (s) : Int), .int .u64 (l2 (s) : Int), .int .u64 (l3 (s) : Int)]] : Array Value) by simp only [List.map_toArray, List.map_cons, List.map_nil, Act.eval_const, eval_of e74]) (fun _ => by kernel_rfl) (Calls.mono (sqK Zs.out QE2.out) fun e w' h => ⟨_, h.1, h.2, rfl⟩) (notE rfl)
    · intro ac W hB hst hdep
      have e3 : ac.tmps[3]? = some (.pointer (some ⟨w.heap.size, 0, none⟩)) := hst 3 (by decide)
      exact st_load rfl rfl 26 (.tmp 3) rfl (eval_of e3) ([.int .u64 (l0 (x) : Int), .int .u64 (l1 (x) : Int), .int .u64 (l2 (x) : Int), .int .u64 (l3 (x) : Int)]) _ ((RowL.upS (w := W6.drew) nnnnnnR0.out hB).range 0 _ rfl) undEl rfl (by kernel_rfl) rfl (notE rfl)
    · intro ac W hB hst hdep
      have e12 : ac.tmps[12]? = some (.pointer (some ⟨g12, 0, none⟩)) := hst 12 (by decide)
      exact st_load rfl rfl 26 (.tmp 12) rfl (eval_of e12) ([.int .u64 (l0 (da) : Int), .int .u64 (l1 (da) : Int), .int .u64 (l2 (da) : Int), .int .u64 (l3 (da) : Int)]) _ ((RowL.upS (w := W6.drew) nnnHg12.out hB).range 0 _ rfl) undEl rfl (by kernel_rfl) rfl (notE rfl)
    · intro ac W hB hst hdep
      have e13 : ac.tmps[13]? = some (.pointer (some ⟨g13, 0, none⟩)) := hst 13 (by decide)
      exact st_load rfl rfl 26 (.tmp 13) rfl (eval_of e13) ([.int .u64 (l0 (cb) : Int), .int .u64 (l1 (cb) : Int), .int .u64 (l2 (cb) : Int), .int .u64 (l3 (cb) : Int)]) _ ((RowL.upS (w := W6.drew) nnnHg13.out hB).range 0 _ rfl) undEl rfl (by kernel_rfl) rfl (notE rfl)
    · intro ac W hB hst hdep
      obtain ⟨x77, e77, h77⟩ := hdep 6 (memE (by kernel_rfl)) 77 rfl
      replace h77 : x77 = .agg #[.int .u64 (l0 (da) : Int), .int .u64 (l1 (da) : Int), .int .u64 (l2 (da) : Int), .int .u64 (l3 (da) : Int)] := h77
      subst h77
      obtain ⟨x78, e78, h78⟩ := hdep 7 (memE (by kernel_rfl)) 78 rfl
      replace h78 : x78 = .agg #[.int .u64 (l0 (cb) : Int), .int .u64 (l1 (cb) : Int), .int .u64 (l2 (cb) : Int), .int .u64 (l3 (cb) : Int)] := h78
      subst h78
      exact st_call rfl rfl rfl (show (#[.tmp 77, .tmp 78] : Array Operand).map ac.eval = (#[.agg #[.int .u64 (l0 (da) : Int), .int .u64 (l1 (da) : Int), .int .u64 (l2 (da) : Int), .int .u64 (l3 (da) : Int)], .agg #[.int .u64 (l0 (cb) : Int), .int .u64 (l1 (cb) : Int), .int .u64 (l2 (cb) : Int), .int .u64 (l3 (cb) : Int)]] : Array Value) by simp only [List.map_toArray, List.map_cons, List.map_nil, Act.eval_const, eval_of e77, eval_of e78]) (fun _ => by kernel_rfl) (Calls.mono (subK Zda.out Zcb.out Qt.out) fun e w' h => ⟨_, h.1, h.2, rfl⟩) (notE rfl)
    · intro ac W hB hst hdep
      obtain ⟨x79, e79, h79⟩ := hdep 8 (memE (by kernel_rfl)) 79 rfl
      replace h79 : x79 = .agg #[.int .u64 (l0 (t) : Int), .int .u64 (l1 (t) : Int), .int .u64 (l2 (t) : Int), .int .u64 (l3 (t) : Int)] := h79
      subst h79
      exact st_call rfl rfl rfl (show (#[.tmp 79] : Array Operand).map ac.eval = (#[.agg #[.int .u64 (l0 (t) : Int), .int .u64 (l1 (t) : Int), .int .u64 (l2 (t) : Int), .int .u64 (l3 (t) : Int)]] : Array Value) by simp only [List.map_toArray, List.map_cons, List.map_nil, Act.eval_const, eval_of e79]) (fun _ => by kernel_rfl) (Calls.mono (sqK Zt.out Qtt.out) fun e w' h => ⟨_, h.1, h.2, rfl⟩) (notE rfl)
    · intro ac W hB hst hdep
      obtain ⟨x76, e76, h76⟩ := hdep 5 (memE (by kernel_rfl)) 76 rfl
      replace h76 : x76 = .agg #[.int .u64 (l0 (x) : Int), .int .u64 (l1 (x) : Int), .int .u64 (l2 (x) : Int), .int .u64 (l3 (x) : Int)] := h76
      subst h76
      obtain ⟨x80, e80, h80⟩ := hdep 9 (memE (by kernel_rfl)) 80 rfl
      replace h80 : x80 = .agg #[.int .u64 (l0 (tt) : Int), .int .u64 (l1 (tt) : Int), .int .u64 (l2 (tt) : Int), .int .u64 (l3 (tt) : Int)] := h80
      subst h80
      exact st_bs rfl rfl 86 26 2 _ rfl (show (#[(0, .tmp 76), (1, .tmp 80)] : Array (Nat × Operand)).map (fun (i, x) => (i, ac.eval x)) = #[(0, .agg #[.int .u64 (l0 (x) : Int), .int .u64 (l1 (x) : Int), .int .u64 (l2 (x) : Int), .int .u64 (l3 (x) : Int)]), (1, .agg #[.int .u64 (l0 (tt) : Int), .int .u64 (l1 (tt) : Int), .int .u64 (l2 (tt) : Int), .int .u64 (l3 (tt) : Int)])] by simp only [List.map_toArray, List.map_cons, List.map_nil, eval_of e76, eval_of e80]) (bsEl2 (x) (tt)) ⟨_, rfl, heap_alloc_new _ _⟩ (notE rfl)
    · intro ac W hB hst hdep
      obtain ⟨x81, e81, h81⟩ := hdep 10 (memE (by kernel_rfl)) 81 rfl
      obtain ⟨g81, hg81, r81⟩ := (h81 : IsS 2 ([.int .u64 (l0 (x) : Int), .int .u64 (l1 (x) : Int), .int .u64 (l2 (x) : Int), .int .u64 (l3 (x) : Int), .int .u64 (l0 (tt) : Int), .int .u64 (l1 (tt) : Int), .int .u64 (l2 (tt) : Int), .int .u64 (l3 (tt) : Int)]) 26 _ _)
      subst hg81
      exact st_call rfl rfl rfl (show (#[.tmp 81] : Array Operand).map ac.eval = (#[.slice (some ⟨g81, 0, none⟩) 2 2] : Array Value) by simp only [List.map_toArray, List.map_cons, List.map_nil, Act.eval_const, eval_of e81]) (fun _ => by kernel_rfl) (Calls.mono (prodK Zx.out Ztt.out QU2.out r81) fun e w' h => ⟨_, h.1, h.2, rfl⟩) (notE rfl)
    · intro ac W hB hst hdep
      obtain ⟨x75, e75, h75⟩ := hdep 4 (memE (by kernel_rfl)) 75 rfl
      replace h75 : x75 = .agg #[.int .u64 (l0 (E2) : Int), .int .u64 (l1 (E2) : Int), .int .u64 (l2 (E2) : Int), .int .u64 (l3 (E2) : Int)] := h75
      subst h75
      obtain ⟨x82, e82, h82⟩ := hdep 11 (memE (by kernel_rfl)) 82 rfl
      replace h82 : x82 = .agg #[.int .u64 (l0 (U2) : Int), .int .u64 (l1 (U2) : Int), .int .u64 (l2 (U2) : Int), .int .u64 (l3 (U2) : Int)] := h82
      subst h82
      exact st_build rfl rfl 29 _ rfl (show (#[(0, .tmp 75), (1, .tmp 82)] : Array (Nat × Operand)).map (fun (i, x) => (i, ac.eval x)) = #[(0, .agg #[.int .u64 (l0 (E2) : Int), .int .u64 (l1 (E2) : Int), .int .u64 (l2 (E2) : Int), .int .u64 (l3 (E2) : Int)]), (1, .agg #[.int .u64 (l0 (U2) : Int), .int .u64 (l1 (U2) : Int), .int .u64 (l2 (U2) : Int), .int .u64 (l3 (U2) : Int)])] by simp only [List.map_toArray, List.map_cons, List.map_nil, eval_of e75, eval_of e82]) (buildRt E2 U2) rfl (notE rfl)
    · intro ac W hB hst hdep
      exact st_alloc rfl rfl 29 rfl allocRt ⟨_, rfl, hB.size, heap_alloc_new _ _⟩
  intro vs hvs wn hbr hv hne
  obtain ⟨v71, v72, v73, v74, v75, v76, v77, v78, v79, v80, v81, v82, v83, v18, rfl⟩ := list14 vs hvs
  obtain rfl : v71 = .agg #[.int .u64 (l0 (da) : Int), .int .u64 (l1 (da) : Int), .int .u64 (l2 (da) : Int), .int .u64 (l3 (da) : Int)] := hv 0 _ rfl
  obtain rfl : v72 = .agg #[.int .u64 (l0 (cb) : Int), .int .u64 (l1 (cb) : Int), .int .u64 (l2 (cb) : Int), .int .u64 (l3 (cb) : Int)] := hv 1 _ rfl
  obtain ⟨g73, hg73, hr73⟩ : IsS 2 ([.int .u64 (l0 (da) : Int), .int .u64 (l1 (da) : Int), .int .u64 (l2 (da) : Int), .int .u64 (l3 (da) : Int), .int .u64 (l0 (cb) : Int), .int .u64 (l1 (cb) : Int), .int .u64 (l2 (cb) : Int), .int .u64 (l3 (cb) : Int)]) 26 v73 wn := hv 2 _ rfl
  obtain rfl : v74 = .agg #[.int .u64 (l0 (s) : Int), .int .u64 (l1 (s) : Int), .int .u64 (l2 (s) : Int), .int .u64 (l3 (s) : Int)] := hv 3 _ rfl
  obtain rfl : v75 = .agg #[.int .u64 (l0 (E2) : Int), .int .u64 (l1 (E2) : Int), .int .u64 (l2 (E2) : Int), .int .u64 (l3 (E2) : Int)] := hv 4 _ rfl
  obtain rfl : v76 = .agg #[.int .u64 (l0 (x) : Int), .int .u64 (l1 (x) : Int), .int .u64 (l2 (x) : Int), .int .u64 (l3 (x) : Int)] := hv 5 _ rfl
  obtain rfl : v77 = .agg #[.int .u64 (l0 (da) : Int), .int .u64 (l1 (da) : Int), .int .u64 (l2 (da) : Int), .int .u64 (l3 (da) : Int)] := hv 6 _ rfl
  obtain rfl : v78 = .agg #[.int .u64 (l0 (cb) : Int), .int .u64 (l1 (cb) : Int), .int .u64 (l2 (cb) : Int), .int .u64 (l3 (cb) : Int)] := hv 7 _ rfl
  obtain rfl : v79 = .agg #[.int .u64 (l0 (t) : Int), .int .u64 (l1 (t) : Int), .int .u64 (l2 (t) : Int), .int .u64 (l3 (t) : Int)] := hv 8 _ rfl
  obtain rfl : v80 = .agg #[.int .u64 (l0 (tt) : Int), .int .u64 (l1 (tt) : Int), .int .u64 (l2 (tt) : Int), .int .u64 (l3 (tt) : Int)] := hv 9 _ rfl
  obtain ⟨g81, hg81, hr81⟩ : IsS 2 ([.int .u64 (l0 (x) : Int), .int .u64 (l1 (x) : Int), .int .u64 (l2 (x) : Int), .int .u64 (l3 (x) : Int), .int .u64 (l0 (tt) : Int), .int .u64 (l1 (tt) : Int), .int .u64 (l2 (tt) : Int), .int .u64 (l3 (tt) : Int)]) 26 v81 wn := hv 10 _ rfl
  obtain rfl : v82 = .agg #[.int .u64 (l0 (U2) : Int), .int .u64 (l1 (U2) : Int), .int .u64 (l2 (U2) : Int), .int .u64 (l3 (U2) : Int)] := hv 11 _ rfl
  obtain rfl : v83 = .agg #[.int .u64 (l0 (E2) : Int), .int .u64 (l1 (E2) : Int), .int .u64 (l2 (E2) : Int), .int .u64 (l3 (E2) : Int), .int .u64 (l0 (U2) : Int), .int .u64 (l1 (U2) : Int), .int .u64 (l2 (U2) : Int), .int .u64 (l3 (U2) : Int)] := hv 12 _ rfl
  obtain ⟨g18, hg18, hB18, hr18⟩ : IsR W6.heap.size ([.int .u64 0, .int .u64 0, .int .u64 0, .int .u64 0, .int .u64 0, .int .u64 0, .int .u64 0, .int .u64 0]) 29 v18 wn := hv 13 _ rfl
  subst hg73
  subst hg81
  subst hg18
  clear hvs hv hne
  simp only [List.zip_cons_cons, List.zip_nil_right, List.zip_nil_left, puts, Act.put, List.setIfInBounds_toArray, List.set_cons_zero, List.set_cons_succ]
  have hz : W6.heap.size ≤ wn.heap.size := hbr.size
  have nB_W7 := Lib.hid (nB_W6.out.trans (hbr.mono nB_W6.out.size))
  have nnnnnnnR3 := Lib.hid (nnnnnnR3.out.upS hbr)
  have nnnnnnnR4 := Lib.hid (nnnnnnR4.out.upS hbr)
  have nHg17 := Lib.hid (Hg17.out.upS hbr)
  refine tail_store (k := 14) (by kernel_rfl) rfl rfl rfl 29 (.tmp 18) (.tmp 83) rfl g18 ([.int .u64 (l0 (E2) : Int), .int .u64 (l1 (E2) : Int), .int .u64 (l2 (E2) : Int), .int .u64 (l3 (E2) : Int), .int .u64 (l0 (U2) : Int), .int .u64 (l1 (U2) : Int), .int .u64 (l2 (U2) : Int), .int .u64 (l3 (U2) : Int)] : List Value).toArray (by kernel_rfl) (by kernel_rfl) _ _ hr18 (by kernel_rfl) rfl (by kernel_rfl) ?_
  replace hr18 := hr18.set ([.int .u64 (l0 (E2) : Int), .int .u64 (l1 (E2) : Int), .int .u64 (l2 (E2) : Int), .int .u64 (l3 (E2) : Int), .int .u64 (l0 (U2) : Int), .int .u64 (l1 (U2) : Int), .int .u64 (l2 (U2) : Int), .int .u64 (l3 (U2) : Int)])
  replace nB_W7 := Lib.hid (set_below nB_W7.out (Nat.le_trans nB_W6.out.size hB18) ([.int .u64 (l0 (E2) : Int), .int .u64 (l1 (E2) : Int), .int .u64 (l2 (E2) : Int), .int .u64 (l3 (E2) : Int), .int .u64 (l0 (U2) : Int), .int .u64 (l1 (U2) : Int), .int .u64 (l2 (U2) : Int), .int .u64 (l3 (U2) : Int)] : List Value).toArray)
  replace nnnnnnnR3 := Lib.hid (nnnnnnnR3.out.set_ne ([.int .u64 (l0 (E2) : Int), .int .u64 (l1 (E2) : Int), .int .u64 (l2 (E2) : Int), .int .u64 (l3 (E2) : Int), .int .u64 (l0 (U2) : Int), .int .u64 (l1 (U2) : Int), .int .u64 (l2 (U2) : Int), .int .u64 (l3 (U2) : Int)] : List Value).toArray (Nat.ne_of_lt (Nat.lt_of_lt_of_le nnnnnnR3.out.lt hB18)))
  replace nnnnnnnR4 := Lib.hid (nnnnnnnR4.out.set_ne ([.int .u64 (l0 (E2) : Int), .int .u64 (l1 (E2) : Int), .int .u64 (l2 (E2) : Int), .int .u64 (l3 (E2) : Int), .int .u64 (l0 (U2) : Int), .int .u64 (l1 (U2) : Int), .int .u64 (l2 (U2) : Int), .int .u64 (l3 (U2) : Int)] : List Value).toArray (Nat.ne_of_lt (Nat.lt_of_lt_of_le nnnnnnR4.out.lt hB18)))
  replace nHg17 := Lib.hid (nHg17.out.set_ne ([.int .u64 (l0 (E2) : Int), .int .u64 (l1 (E2) : Int), .int .u64 (l2 (E2) : Int), .int .u64 (l3 (E2) : Int), .int .u64 (l0 (U2) : Int), .int .u64 (l1 (U2) : Int), .int .u64 (l2 (U2) : Int), .int .u64 (l3 (U2) : Int)] : List Value).toArray (Nat.ne_of_lt (Nat.lt_of_lt_of_le Hg17.out.lt hB18)))
  refine wpAny_done (by kernel_rfl) ?_ _
  have Hg18 := Lib.hid hr18
  have M18 : Hid (W6.heap.size ≤ g18) := Lib.hid hB18
  clear hbr hz hr18 hB18  hr73 hr81
  generalize (wn.setRow g18 ([.int .u64 (l0 (E2) : Int), .int .u64 (l1 (E2) : Int), .int .u64 (l2 (E2) : Int), .int .u64 (l3 (E2) : Int), .int .u64 (l0 (U2) : Int), .int .u64 (l1 (U2) : Int), .int .u64 (l2 (U2) : Int), .int .u64 (l3 (U2) : Int)] : List Value).toArray) = W7 at *
  clear nB_W6 nnnnnnR0 nnnnnnR3 nnnnnnR4 nnnHg12 nnnHg13 Hg17
  go_upto_region 8 with fail
  have hsz := SZ0.out
  have n17 : g17 ≠ (w.heap.size + 1 + 1 + 1) := by have := SZ5.out; have := M17.out; omega
  have n17b : g17 ≠ (w.heap.size + 1 + 1 + 1 + 1) := by have := SZ5.out; have := M17.out; omega
  have n18 : g18 ≠ (w.heap.size + 1 + 1 + 1) := by have := SZ6.out; have := M18.out; omega
  have n18b : g18 ≠ (w.heap.size + 1 + 1 + 1 + 1) := by have := SZ6.out; have := M18.out; omega
  clear hsz
  refine wp_region_held_drew (S := fun w' => RowL w' g17 ([.int .u64 (l0 (E1) : Int), .int .u64 (l1 (E1) : Int), .int .u64 (l2 (E1) : Int), .int .u64 (l3 (E1) : Int), .int .u64 (l0 (U1) : Int), .int .u64 (l1 (U1) : Int), .int .u64 (l2 (U1) : Int), .int .u64 (l3 (U1) : Int)] : List Value) 29 ∧ RowL w' g18 ([.int .u64 (l0 (E2) : Int), .int .u64 (l1 (E2) : Int), .int .u64 (l2 (E2) : Int), .int .u64 (l3 (E2) : Int), .int .u64 (l0 (U2) : Int), .int .u64 (l1 (U2) : Int), .int .u64 (l2 (U2) : Int), .int .u64 (l3 (U2) : Int)] : List Value) 29) (by kernel_rfl) ⟨nHg17.out, Hg18.out⟩ (fun hHeld => ?_)
  refine takeD (i := 0) (oi := _) (d := some 84) (v := _) rfl (by kernel_rfl) (by kernel_rfl) (by kernel_rfl) (by kernel_rfl) (fun _ _ _ h => h) (yieldsIf_load_mid (by kernel_rfl) 29 (.tmp 17) rfl g17 0 (by kernel_rfl) ([.int .u64 (l0 (E1) : Int), .int .u64 (l1 (E1) : Int), .int .u64 (l2 (E1) : Int), .int .u64 (l3 (E1) : Int), .int .u64 (l0 (U1) : Int), .int .u64 (l1 (U1) : Int), .int .u64 (l2 (U1) : Int), .int .u64 (l3 (U1) : Int)] : List Value) _ (fun w' h => h.1.range 0 _ rfl) Try.underlying29 rfl (by kernel_rfl)) (by assumption) ?_
  refine takeD (i := 1) (oi := _) (d := some 85) (v := _) rfl (by kernel_rfl) (by kernel_rfl) (by kernel_rfl) (by kernel_rfl) (fun _ _ _ h => h) (yieldsIf_load_mid (by kernel_rfl) 29 (.tmp 18) rfl g18 0 (by kernel_rfl) ([.int .u64 (l0 (E2) : Int), .int .u64 (l1 (E2) : Int), .int .u64 (l2 (E2) : Int), .int .u64 (l3 (E2) : Int), .int .u64 (l0 (U2) : Int), .int .u64 (l1 (U2) : Int), .int .u64 (l2 (U2) : Int), .int .u64 (l3 (U2) : Int)] : List Value) _ (fun w' h => h.2.range 0 _ rfl) Try.underlying29 rfl (by kernel_rfl)) (by assumption) ?_
  simp only [Act.put, List.setIfInBounds_toArray, List.set_cons_zero, List.set_cons_succ]
  refine wpAnyH_ready (rs := [2]) (by kernel_rfl) (by simp) ?_
  refine AllReadyH.cons (o := _) rfl (fun K hK => ?_) AllReadyH.nil
  refine wp_store_row 29 (.tmp 6) (.tmp 84) rfl ((w.heap.size + 1 + 1 + 1)) ([.int .u64 (l0 (E1) : Int), .int .u64 (l1 (E1) : Int), .int .u64 (l2 (E1) : Int), .int .u64 (l3 (E1) : Int), .int .u64 (l0 (U1) : Int), .int .u64 (l1 (U1) : Int), .int .u64 (l2 (U1) : Int), .int .u64 (l3 (U1) : Int)] : List Value).toArray (by kernel_rfl) (by kernel_rfl) _ _ nnnnnnnR3.out (by kernel_rfl) rfl (by kernel_rfl) ?_
  have f3 := RowL.set (w := W7.drew) nnnnnnnR3.out ([.int .u64 (l0 (E1) : Int), .int .u64 (l1 (E1) : Int), .int .u64 (l2 (E1) : Int), .int .u64 (l3 (E1) : Int), .int .u64 (l0 (U1) : Int), .int .u64 (l1 (U1) : Int), .int .u64 (l2 (U1) : Int), .int .u64 (l3 (U1) : Int)] : List Value)
  have f4 := RowL.set_ne (w := W7.drew) nnnnnnnR4.out ([.int .u64 (l0 (E1) : Int), .int .u64 (l1 (E1) : Int), .int .u64 (l2 (E1) : Int), .int .u64 (l3 (E1) : Int), .int .u64 (l0 (U1) : Int), .int .u64 (l1 (U1) : Int), .int .u64 (l2 (U1) : Int), .int .u64 (l3 (U1) : Int)] : List Value).toArray (show (w.heap.size + 1 + 1 + 1 + 1) ≠ (w.heap.size + 1 + 1 + 1) by omega)
  have f17 := RowL.set_ne (w := W7.drew) nHg17.out ([.int .u64 (l0 (E1) : Int), .int .u64 (l1 (E1) : Int), .int .u64 (l2 (E1) : Int), .int .u64 (l3 (E1) : Int), .int .u64 (l0 (U1) : Int), .int .u64 (l1 (U1) : Int), .int .u64 (l2 (U1) : Int), .int .u64 (l3 (U1) : Int)] : List Value).toArray n17
  have f18 := RowL.set_ne (w := W7.drew) Hg18.out ([.int .u64 (l0 (E1) : Int), .int .u64 (l1 (E1) : Int), .int .u64 (l2 (E1) : Int), .int .u64 (l3 (E1) : Int), .int .u64 (l0 (U1) : Int), .int .u64 (l1 (U1) : Int), .int .u64 (l2 (U1) : Int), .int .u64 (l3 (U1) : Int)] : List Value).toArray n18
  refine hK.out _ _ ⟨f17, f18⟩ (fun hHeld => ?_)
  clear hK K
  simp only [Act.put]
  refine wpAnyH_ready (rs := [3]) (by kernel_rfl) (by simp) ?_
  refine AllReadyH.cons (o := _) rfl (fun K hK => ?_) AllReadyH.nil
  refine wp_store_row 29 (.tmp 7) (.tmp 85) rfl ((w.heap.size + 1 + 1 + 1 + 1)) ([.int .u64 (l0 (E2) : Int), .int .u64 (l1 (E2) : Int), .int .u64 (l2 (E2) : Int), .int .u64 (l3 (E2) : Int), .int .u64 (l0 (U2) : Int), .int .u64 (l1 (U2) : Int), .int .u64 (l2 (U2) : Int), .int .u64 (l3 (U2) : Int)] : List Value).toArray (by kernel_rfl) (by kernel_rfl) _ _ f4 (by kernel_rfl) rfl (by kernel_rfl) ?_
  replace f3 := RowL.set_ne f3 ([.int .u64 (l0 (E2) : Int), .int .u64 (l1 (E2) : Int), .int .u64 (l2 (E2) : Int), .int .u64 (l3 (E2) : Int), .int .u64 (l0 (U2) : Int), .int .u64 (l1 (U2) : Int), .int .u64 (l2 (U2) : Int), .int .u64 (l3 (U2) : Int)] : List Value).toArray (show (w.heap.size + 1 + 1 + 1) ≠ (w.heap.size + 1 + 1 + 1 + 1) by omega)
  replace f4 := RowL.set f4 ([.int .u64 (l0 (E2) : Int), .int .u64 (l1 (E2) : Int), .int .u64 (l2 (E2) : Int), .int .u64 (l3 (E2) : Int), .int .u64 (l0 (U2) : Int), .int .u64 (l1 (U2) : Int), .int .u64 (l2 (U2) : Int), .int .u64 (l3 (U2) : Int)] : List Value)
  have fB := Lib.hid (set_below (set_below (Below.drew nB_W7.out) (show w.heap.size ≤ (w.heap.size + 1 + 1 + 1) by omega) ([.int .u64 (l0 (E1) : Int), .int .u64 (l1 (E1) : Int), .int .u64 (l2 (E1) : Int), .int .u64 (l3 (E1) : Int), .int .u64 (l0 (U1) : Int), .int .u64 (l1 (U1) : Int), .int .u64 (l2 (U1) : Int), .int .u64 (l3 (U1) : Int)] : List Value).toArray) (show w.heap.size ≤ (w.heap.size + 1 + 1 + 1 + 1) by omega) ([.int .u64 (l0 (E2) : Int), .int .u64 (l1 (E2) : Int), .int .u64 (l2 (E2) : Int), .int .u64 (l3 (E2) : Int), .int .u64 (l0 (U2) : Int), .int .u64 (l1 (U2) : Int), .int .u64 (l2 (U2) : Int), .int .u64 (l3 (U2) : Int)] : List Value).toArray)
  refine hK.out _ _ ⟨RowL.set_ne f17 ([.int .u64 (l0 (E2) : Int), .int .u64 (l1 (E2) : Int), .int .u64 (l2 (E2) : Int), .int .u64 (l3 (E2) : Int), .int .u64 (l0 (U2) : Int), .int .u64 (l1 (U2) : Int), .int .u64 (l2 (U2) : Int), .int .u64 (l3 (U2) : Int)] : List Value).toArray n17b, RowL.set_ne f18 ([.int .u64 (l0 (E2) : Int), .int .u64 (l1 (E2) : Int), .int .u64 (l2 (E2) : Int), .int .u64 (l3 (E2) : Int), .int .u64 (l0 (U2) : Int), .int .u64 (l1 (U2) : Int), .int .u64 (l2 (U2) : Int), .int .u64 (l3 (U2) : Int)] : List Value).toArray n18b⟩ (fun hHeld => ?_)
  clear hK K hHeld f17 f18
  refine wpAnyH_done (by kernel_rfl) ?_ _
  have F3 := Lib.hid f3; have F4 := Lib.hid f4
  clear f3 f4 nB_W7 nnnnnnnR3 nnnnnnnR4 nHg17 Hg18
  generalize (W7.drew.setRow ((w.heap.size + 1 + 1 + 1)) ([.int .u64 (l0 (E1) : Int), .int .u64 (l1 (E1) : Int), .int .u64 (l2 (E1) : Int), .int .u64 (l3 (E1) : Int), .int .u64 (l0 (U1) : Int), .int .u64 (l1 (U1) : Int), .int .u64 (l2 (U1) : Int), .int .u64 (l3 (U1) : Int)] : List Value).toArray).setRow ((w.heap.size + 1 + 1 + 1 + 1)) ([.int .u64 (l0 (E2) : Int), .int .u64 (l1 (E2) : Int), .int .u64 (l2 (E2) : Int), .int .u64 (l3 (E2) : Int), .int .u64 (l0 (U2) : Int), .int .u64 (l1 (U2) : Int), .int .u64 (l2 (U2) : Int), .int .u64 (l3 (U2) : Int)] : List Value).toArray = W8 at *
  go_wp2
  refine bodyPost_ret (results_cell2 rfl _ _ ((w.heap.size + 1 + 1 + 1)) ((w.heap.size + 1 + 1 + 1 + 1)) _ _ (0, 0) (0, 0) _ _ (by kernel_rfl) (by kernel_rfl) F3.out F4.out Try.underlying29 rfl Try.underlying29 rfl (by kernel_rfl) (by kernel_rfl)) rfl ⟨rfl, fB.out⟩
end Go.Proofs.Ytgkglielcbgpiaa
