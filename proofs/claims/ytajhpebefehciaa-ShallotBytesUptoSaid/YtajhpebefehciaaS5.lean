/- fewInts and sameBytes of the law; the text of bytes is read as the bytes. -/
import Derived.Test.YtajhpebefehciaaS4
import Derived.Test.YtajhpebefehciaaHexS
namespace Go.Proofs.Ytajhpebefehciaa
open Go.RowKit

theorem ielem : Try.prog.elem 89 = 3 := by kernel_rfl
theorem islice : Try.prog.underlying 89 = some (.slice (Try.prog.elem 89)) := by rw [ielem]; exact Try.underlying89
theorem isizeOf (W : World) : (sizeOf 3).run Try.prog W = .ok 1 W := by kernel_rfl
/-- v[:h] of ints -/
theorem cut_hi {A : Option Addr} {n c h : Nat} (hn : h ≤ c) : ∃ D, (0 < h → D = A) ∧
    ∀ W, (Instr.slice 89 (.slice A n c) none (some (.int .i64 (h : Int))) none).run Try.prog W = .ok (.slice D h c) W := by
  refine ⟨if c = 0 then A else A.map (·.add (0 * 1)), fun h => by rw [if_neg (by omega)]; cases A <;> simp [Addr.add], fun W => ?_⟩
  rw [run_slice_h _ _ _ _ _ islice _ _ (by omega) (by omega), ielem, isizeOf]
  simp [Result.andThen, sliced]
theorem Is.wf {w : World} {B : Nat} {v : Value} {xs : List Int} (h : Is w B v xs) : ∀ x ∈ xs, (Lit.int .i64 x).wf = true := fun x hx => by
  obtain ⟨A', c', _, _, _, h3⟩ := h
  obtain ⟨j, hj, rfl⟩ := List.getElem_of_mem hx
  obtain ⟨b, off, _, _, hc⟩ := h3 (by omega)
  exact (hc j hj).2
theorem cuti40 {w : World} {B : Nat} {A : Option Addr} {n c : Nat} {xs : List Int} (h : Is w B (.slice A n c) xs) (hn : 40 < n) :
    ∃ D, Is w B (.slice D 40 c) (xs.take 40) ∧
      ∀ W, (Instr.slice 89 (.slice A n c) none (some (.int .i64 40)) none).run Try.prog W = .ok (.slice D 40 c) W := by
  obtain ⟨A', c', hv, g1, g2, g3⟩ := h
  simp only [Value.slice.injEq] at hv
  obtain ⟨rfl, rfl, rfl⟩ := hv
  have hlen : (xs.take 40).length = 40 := by rw [List.length_take]; omega
  obtain ⟨D, hD, hrun⟩ := cut_hi (A := A) (n := xs.length) (c := c) (h := 40) (by omega)
  obtain ⟨b, off, rfl, hb, hc⟩ := g3 (by omega)
  refine ⟨D, ⟨D, c, by rw [hlen], by omega, g2, fun _ => ⟨b, off, hD (by omega), hb, fun j hj => ?_⟩⟩, hrun⟩
  have := hc j (by omega)
  rw [List.getElem_take]
  exact this

theorem Is.shape {w : World} {B : Nat} {v : Value} {xs : List Int} (h : Is w B v xs) : ∃ A c, v = .slice A xs.length c := by
  obtain ⟨A, c, rfl, _⟩ := h
  exact ⟨A, c, rfl⟩
set_option maxRecDepth 100000 in
set_option maxHeartbeats 4000000 in
theorem few_any {xs : List Int} {v : Value} {w : World} {B : Nat} (h : Is w B v xs) (hB : B ≤ w.heap.size) (hn : xs.length ≤ 9223372036854775807) :
    Calls Try.prog 49 #[v, .int .i64 40] w fun e w' => ∃ u, e = .returned u ∧ OwnIs w' w.heap.size u (xs.take 40) ∧ Below w.heap.size w w' := by
  obtain ⟨A, c, rfl⟩ := h.shape
  obtain ⟨n, hnn⟩ : ∃ n, n = xs.length := ⟨_, rfl⟩
  rw [← hnn] at h ⊢
  rw [← hnn] at hn
  obtain ⟨ys, hys⟩ : ∃ ys, ys = xs.take 40 := ⟨_, rfl⟩
  have hyl : ys.length ≤ 40 := by rw [hys, List.length_take]; omega
  rw [← hys]
  by_cases h40 : 40 < n
  · obtain ⟨D, hd, hrun⟩ := cuti40 h h40
    rw [← hys] at hd
    have hg : decide ((40 : Int) < (n : Int)) = true := by simp; omega
    have hxw : Cs (w.alloc (.cells #[] 3)) B (.slice D 40 c) (ys.map (Value.int .i64)) := (hd.below ((Below.refl _ w).alloc (Nat.le_refl _) _) hB).cs
    have hem := OwnIs.empty w w.heap.size (Nat.le_refl _)
    have HW := Lib.hid hd.wf; have HX := Lib.hid hxw; have HEM := Lib.hid hem.1
    clear hd h hys hxw hem hnn
    go_enter Try.func49, Try.ntmps49
    go_wp2_with (at_builtin; refine wpList_appG rfl (.tmp 12) (.tmp 13) rfl Try.underlying89 int_info rfl (by omega) rfl HEM.out rfl HX.out (ints_one _) (by simp; omega) (by simp) ?_)
    intro v3 w3 hown3 hg3 _
    have hgb : Below w.heap.size w w3 := grown_below ((Below.refl _ _).alloc (Nat.le_refl _) _) hg3 (by simp) HEM.out
    have ho3 : OwnIs w3 w.heap.size v3 ys := ⟨by simpa using hown3, HW.out⟩
    have HB3 := Lib.hid hgb; have HO3 := Lib.hid ho3
    clear hown3 hg3 hgb ho3
    go_wp2
    go_ret
    exact ⟨_, rfl, HO3.out, HB3.out⟩
  · obtain rfl : ys = xs := by rw [hys, List.take_of_length_le (by omega)]
    have hg : decide ((40 : Int) < (n : Int)) = false := by simp; omega
    have hxw : Cs (w.alloc (.cells #[] 3)) B (.slice A n c) (ys.map (Value.int .i64)) := (h.below ((Below.refl _ w).alloc (Nat.le_refl _) _) hB).cs
    have hem := OwnIs.empty w w.heap.size (Nat.le_refl _)
    have HW := Lib.hid h.wf; have HX := Lib.hid hxw; have HEM := Lib.hid hem.1; have HN := Lib.hid hnn
    clear h hys hxw hem hnn
    go_enter Try.func49, Try.ntmps49
    go_wp2_with (at_builtin; refine wpList_appG rfl (.tmp 12) (.tmp 13) rfl Try.underlying89 int_info rfl (by omega) rfl HEM.out rfl HX.out (ints_one _) (by simp; omega) (by simp) ?_)
    intro v3 w3 hown3 hg3 _
    have hgb : Below w.heap.size w w3 := grown_below ((Below.refl _ _).alloc (Nat.le_refl _) _) hg3 (by simp) HEM.out
    have ho3 : OwnIs w3 w.heap.size v3 ys := ⟨by simpa using hown3, HW.out⟩
    have HB3 := Lib.hid hgb; have HO3 := Lib.hid ho3
    clear hown3 hg3 hgb ho3
    go_wp2
    go_ret
    exact ⟨_, rfl, HO3.out, HB3.out⟩
set_option maxRecDepth 100000 in
set_option maxHeartbeats 4000000 in
theorem same_any {l : List UInt8} {u v : Value} {w : World} {B1 B2 : Nat} (hu : Bs w B1 u l) (hv : Bs w B2 v l) :
    Calls Try.prog 47 #[u, v] w fun e w' => e = .returned (.bool true) ∧ w = w' := by
  have c1 := conv_bs hu
  have c2 := conv_bs hv
  obtain ⟨s, hs⟩ : ∃ s, s = bstr l := ⟨_, rfl⟩
  rw [← hs] at c1 c2
  clear hs hu hv
  go_enter Try.func47, Try.ntmps47
  go_wp2
  go_ret
  exact ⟨by simp, rfl⟩
end Go.Proofs.Ytajhpebefehciaa
