/- Join of the reference. -/
import Derived.Test.YthgdficgjldobaaJoin
namespace Go.Proofs.Ythgdficgjldobaa
open Go.RowKit

set_option maxHeartbeats 400000 in
theorem refjoin_any {ls : List (List UInt8)} {v : Value} {w : World} {B : Nat} (hr : Rs w B v ls) (hB : B ≤ w.heap.size) (hsum : ls.flatten.length ≤ 140737488355328) :
    Calls Try.prog 18 #[v] w fun e w' => ∃ u, e = .returned u ∧ Own w' w.heap.size u ls.flatten ∧ Below w.heap.size w w' := by
  obtain ⟨A, c, rfl, h1, h2, h3⟩ := hr
  have H3 := Lib.hid h3; clear h3
  unfold maxLen at h2
  go_enter Try.func18, Try.ntmps18
  go_wp2
  go_loopw [3, 4] (fun s i wr => ∃ k : Nat, k ≤ ls.length ∧ i = .int .i64 k ∧ Hid (Own wr w.heap.size s (preL ls k)) ∧ Below w.heap.size w wr) (fun _ i _ => ls.length - (intOf i).toNat)
  case atStart => exact ⟨0, Nat.zero_le _, rfl, show Own w w.heap.size _ (preL ls 0) from by simpa [preL] using Own.nil w w.heap.size, Below.refl _ _⟩
  case round =>
    obtain ⟨k, hk, rfl, hown, hbw⟩ := hrel
    by_cases hlt : k < ls.length
    · obtain ⟨b, off, rfl, hbB, hc⟩ := H3.out (by omega)
      obtain ⟨u, hu, hbs⟩ := hc k hlt
      have hu' := (hbw.cell (p := ⟨b, off + k, none⟩) (by show b < _; omega)).trans hu
      have hbs' := hbs.below hbw hB
      obtain ⟨As, cs, rfl⟩ := hown.out.shape
      obtain ⟨Au, cu, rfl⟩ := hbs'.shape
      have hle := preL_le ls (k + 1)
      rw [preL_len ls hlt] at hle
      have hsum2 : (preL ls k).length + ls[k].length ≤ 140737488355328 := by omega
      have hsz := hbw.size
      have HBS := Lib.hid hbs'
      clear hc hu hbs hbs' hle
      go_wp2_with (at_builtin; refine wpList_app rfl (.tmp 11) (.tmp 15) rfl rfl hown.out rfl HBS.out hsum2 (by omega) ?_)
      intro v' w' hown' hg _
      have hb3 := grown_below hbw hg (by omega) hown.out
      have hown2 : Own w' w.heap.size v' (preL ls (k + 1)) := by rw [preL_succ ls hlt]; exact hown'
      have HO := Lib.hid hown2
      clear hown' hown2 hg hown
      go_wp2
      go_roundw
      case rel => exact ⟨k + 1, by omega, by go_num, HO, hb3⟩
      case measure => simp [intOf]; omega
    · have ho := hown.out
      rw [preL_end ls (by omega)] at ho
      clear hown
      go_wp2
      go_ret
      exact ⟨_, rfl, ho, hbw⟩

end Go.Proofs.Ythgdficgjldobaa
