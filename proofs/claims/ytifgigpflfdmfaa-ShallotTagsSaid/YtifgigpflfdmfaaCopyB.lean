/- Copy, Copies, Equals and Join of the reference; told. -/
import Derived.Test.YtifgigpflfdmfaaEqual
import Derived.Test.YtifgigpflfdmfaaJoin
namespace Go.Proofs.Ytifgigpflfdmfaa
open Go.RowKit

theorem Own.empty (w : World) (B : Nat) (hB : B ≤ w.heap.size) : Own (w.alloc (.cells #[] 5)) B (.slice (some ⟨w.heap.size, 0, none⟩) 0 0) [] :=
  World.ownsRow_made w #[] 0 hB (Nat.zero_le _) rfl

set_option maxHeartbeats 400000 in
theorem copy_any {l : List UInt8} {v : Value} {w : World} {B : Nat} (hb : Bs w B v l) (hB : B ≤ w.heap.size) (hl : l.length ≤ 140737488355328) :
    Calls Try.prog 21 #[v] w fun e w' => ∃ u, e = .returned u ∧ Own w' w.heap.size u l ∧ Below w.heap.size w w' := by
  have he := Own.empty w w.heap.size (Nat.le_refl _)
  have hal : Below w.heap.size w (w.alloc (.cells #[] 5)) := (Below.refl _ _).alloc (Nat.le_refl _) _
  have hb' := hb.below hal hB
  go_enter Try.func21, Try.ntmps21
  go_wp2_with (at_builtin; refine wpList_app rfl (.tmp 3) (.tmp 4) rfl rfl he rfl hb' (by simpa using hl) (by simp) ?_)
  intro v' w' hown hg _
  have hbel := grown_below hal hg (by simp) he
  go_wp2
  go_ret
  exact ⟨_, rfl, hown, hbel⟩

theorem below_size {B : Nat} {w w' : World} (h : Below B w w') : w.heap.size ≤ w'.heap.size := h.size
theorem OwnRs.alloc {w : World} {B : Nat} {v : Value} {ls : List (List UInt8)} (h : OwnRs w B v ls) (o : Obj) : OwnRs (w.alloc o) B v ls :=
  h.below ((Below.refl _ _).alloc (Nat.le_refl _) o) (Nat.le_refl _)

set_option maxHeartbeats 400000 in
theorem copies_any {ls : List (List UInt8)} {v : Value} {w : World} {B : Nat} (hr : Rs w B v ls) (hB : B ≤ w.heap.size) (hl : ls.length ≤ 5864062014804) (hs : ∀ l ∈ ls, l.length ≤ 140737488355328) :
    Calls Try.prog 30 #[v] w fun e w' => ∃ u, e = .returned u ∧ OwnRs w' w.heap.size u ls ∧ Below w.heap.size w w' := by
  obtain ⟨A, c, rfl, h1, h2, h3⟩ := hr
  have H3 := Lib.hid h3; clear h3
  unfold maxLen at h2
  obtain ⟨i0, hi, hz0, hz1, hz2⟩ := info_parts u24info
  go_enter Try.func30, Try.ntmps30
  go_wp2_with (at_make; refine wpList_make_own _ rfl _ _ 60 rfl w.heap.size 22 i0 _ 1 Try.underlying60 hi hz0 hz1 _ _ _ ls.length rfl rfl rfl ?b1 ?b2 (Nat.le_refl _) ?_)
  case b1 => rw [hz2]; omega
  case b2 => unfold maxLen; omega
  intro w1 hown hgr
  have hbel : Below w.heap.size w w1 := (Below.refl _ _).grown hgr (Nat.le_refl _) (by simp)
  clear hgr
  have hO : Hid (OwnRs w1 w.heap.size (.slice (some ⟨w.heap.size, 0, none⟩) 0 ls.length) []) := ⟨[], hown, rfl, fun j h => absurd h (by simp)⟩
  clear hown hi hz0 hz1 hz2
  go_wp2
  go_loopw [3, 4] (fun s i wr => ∃ k : Nat, k ≤ ls.length ∧ i = .int .i64 k ∧ Hid (OwnRs wr w.heap.size s (ls.take k)) ∧ Below w.heap.size w wr) (fun _ i _ => ls.length - (intOf i).toNat)
  case atStart => exact ⟨0, Nat.zero_le _, rfl, hO, hbel⟩
  case round =>
    obtain ⟨k, hk, rfl, hown, hbw⟩ := hrel
    clear hO hbel
    by_cases hlt : k < ls.length
    · obtain ⟨b, off, rfl, hbB, hc⟩ := H3.out (by omega)
      obtain ⟨u, hu, hbs⟩ := hc k hlt
      have hu' := (hbw.cell (p := ⟨b, off + k, none⟩) (by show b < _; omega)).trans hu
      have hbs' := (hbs.below hbw hB)
      have hlen := hs _ (List.getElem_mem hlt)
      have hsz := hbw.size
      clear hc hu hbs
      have hO := hown.out
      obtain ⟨As, cs, es⟩ := hO.shape
      have hlk : (ls.take k).length = k := by simp; omega
      rw [hlk] at es
      subst es
      have HLK := Lib.hid hlk; clear hlk
      go_wp2_with (first
        | (go_at_call 21; refine (copy_any hbs' (by omega) hlen).mono ?_; rintro e w2 ⟨u2, rfl, ho2, hb2⟩; obtain ⟨A2, c2, rfl⟩ := ho2.shape; have hO2 := (hO.below hb2 (Nat.le_refl _)).alloc (.cells #[.slice A2 ls[k].length c2] 22); have hu2 := (ho2.more hsz).alloc (.cells #[.slice A2 ls[k].length c2] 22); have hs2 := hb2.size; clear hu' hbs')
        | (at_builtin; refine wpList_appR rfl (.tmp 14) (.tmp 20) rfl rfl hO2 ⟨w2.heap.size, 0, none⟩ rfl (cell_new _ _ _) hu2 (by rw [HLK.out]; omega) (by simp; omega) ?_))
      intro v' w' hown' hbel'
      have hb3 : Below w.heap.size w w' := ((hbw.trans (hb2.mono hsz)).alloc (by omega) _).trans hbel'
      have HO := Lib.hid hown'
      clear hO2 hu2 hb2 ho2 hown' hO hown
      go_wp2
      go_roundw
      case rel => exact ⟨k + 1, by omega, by go_num, HO, hb3⟩
      case measure => simp [intOf]; omega
    · have ho := hown.out
      rw [List.take_of_length_le (by omega)] at ho
      clear hown
      go_wp2
      go_ret
      exact ⟨_, rfl, ho, hbw⟩

end Go.Proofs.Ytifgigpflfdmfaa
