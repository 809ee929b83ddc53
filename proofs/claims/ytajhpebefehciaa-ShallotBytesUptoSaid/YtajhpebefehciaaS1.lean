/- Label and Name of sha; hashes that a struct bears. -/
import Derived.Test.YtajhpebefehciaaRefSum
import Derived.Test.YtajhpebefehciaaRefJoin
import Derived.Test.YtajhpebefehciaaArr
import Derived.Laws.IdiomStrings
import Derived.Lib.AppendStr
namespace Go.Proofs.Ytajhpebefehciaa
open Go.RowKit

theorem eq_arr32 (l : List UInt8) (h : l.length = 32) (W : World) : (Op.equalIn 10000 40 (arr32 l) (arr32 l)).run Try.prog W = .ok true W := by
  obtain ⟨i, hi⟩ : ∃ i, Try.prog.info? 5 = some i := Option.isSome_iff_exists.1 (by kernel_rfl)
  have h2 := run_eq_arr (P := Try.prog) (k := .u8) W Try.underlying40 hi (by kernel_rfl) (by kernel_rfl) Try.underlying5 (l.map fun x => (x.toNat : Int)) (l.map fun x => (x.toNat : Int)) (by simpa using h) (by simpa using h) 9998
  have e : arr32 l = .agg ((l.map fun x => (x.toNat : Int)).map (Value.int .u8)).toArray := by rw [arr32, List.map_map]; rfl
  rw [e, h2]
  simp
def bytesS (s : ByteArray) : List UInt8 := s.data.toList
theorem bytesS_len (s : ByteArray) : (bytesS s).length = s.size := by simp [bytesS]
theorem conv_any (w : World) (s : ByteArray) (hs : s.size ≤ maxLen) : ∃ c w', (convert 9 22 (.string s)).run Try.prog w = .ok (.slice (some ⟨w.heap.size, 0, none⟩) (bytesS s).length c) w' ∧
    Bs w' (w.heap.size + 1) (.slice (some ⟨w.heap.size, 0, none⟩) (bytesS s).length c) (bytesS s) ∧ Below w.heap.size w w' ∧ w'.heap.size = w.heap.size + 1 := by
  obtain ⟨C, hC⟩ : ∃ C, C = bytesRow s (grownCap w s.size 0 5) := ⟨_, rfl⟩
  have h := run_bytes_of_string w 9 22 5 s Try.underlying9 Try.underlying22 Try.underlying5
  rw [← hC, ← bytesS_len] at h
  refine ⟨_, w.drew.alloc (.cells C 5 (C.size, C.size + 1)), h, ?_, ?_, ?_⟩
  · refine ⟨_, _, rfl, by rw [bytesS_len]; exact grownCap_ge _ _ _ _, grownCap_le_maxLen _ _ _ _ (by rw [bytesS_len]; exact hs), fun _ => ⟨_, 0, rfl, by omega, fun j hj => ?_⟩⟩
    have hj2 : j < s.data.size := by have := hj; simp [bytesS] at this; exact this
    have h := cell_of_row (w.drew.alloc (.cells C 5 (C.size, C.size + 1))) w.heap.size j _ 5 _ (heap_alloc_new w.drew _)
    rw [Nat.zero_add]
    refine h.trans ?_
    rw [hC]
    have hj3 : j < s.size := hj2
    simp [bytesRow, bytesS, vb, Array.getElem?_append, hj2, hj3]
  · exact (((Drew.refl w).drewN 1).below w.heap.size).alloc (by show w.heap.size ≤ w.drew.heap.size; exact Nat.le_refl _) _
  · have h2 := World.size_alloc w.drew (.cells C 5 (C.size, C.size + 1))
    rw [h2]
    rfl
/-- rows written out, none of them in block g -/
theorem Rg.lit {w : World} {g : Nat} (us : List Value) (ls : List (List UInt8)) (hn : us.length = ls.length) (hl : ls.length ≤ maxLen) (hg : g < w.heap.size)
    (h : ∀ (j : Nat) (h : j < us.length) (h' : j < ls.length), Bs w w.heap.size us[j] ls[j] ∧ (0 < ls[j].length → us[j].ownBlock ≠ some g)) :
    Rg (w.alloc (.cells us.toArray 22)) g (.slice (some ⟨w.heap.size, 0, none⟩) ls.length ls.length) ls :=
  ⟨_, _, rfl, Nat.le_refl _, hl, fun _ => ⟨_, 0, rfl, by omega, fun j hj => ⟨us[j], w.heap.size, by
    rw [Nat.zero_add, cell_of_row _ _ j _ 22 (0, 0) (heap_alloc_new w _)]
    simp [show j < us.length by omega], ((h j (by omega) hj).1.alloc (Nat.le_refl _) _), (h j (by omega) hj).2⟩⟩⟩
theorem OwnRs.rg {w : World} {B g : Nat} {v : Value} {ls : List (List UInt8)} (h : OwnRs w B v ls) (hg : g < B) : Rg w g v ls := by
  obtain ⟨xs, hown, hxl, hel⟩ := h
  rcases hown.2 with ⟨rfl, hn⟩ | ⟨b, cap, cur, rfl, hb, hh, hnc, hcm, hsz, htk⟩
  · have : ls = [] := List.eq_nil_of_length_eq_zero hn
    subst this
    exact ⟨none, 0, rfl, Nat.le_refl _, Nat.zero_le _, fun h => absurd h (by simp)⟩
  · refine ⟨_, _, rfl, hnc, hcm, fun _ => ⟨b, 0, rfl, by omega, fun j hj => ?_⟩⟩
    have hjx : j < xs.length := by omega
    have ho := hel j hjx hj
    refine ⟨xs[j], w.heap.size, ?_, ho.bs, fun _ e => ?_⟩
    · rw [Nat.zero_add, cell_of_row w b j cur _ _ hh]
      have h1 : (cur.toList.take (ls.length * 1))[j]? = some xs[j] := by rw [htk]; exact List.getElem?_eq_getElem hjx
      rw [List.getElem?_take, if_pos (by omega)] at h1
      simpa using h1
    · have := (World.ownsRow.lt ho g e).1
      omega
/-- what a labelled hash begins with -/
def labL (s : ByteArray) : List UInt8 := UInt8.ofNat s.size :: bytesS s
theorem labL_len (s : ByteArray) : (labL s).length = s.size + 1 := by simp [labL, bytesS_len]

set_option maxRecDepth 100000 in
set_option maxHeartbeats 4000000 in
theorem label_no {s : ByteArray} (hs : 255 < s.size) (hm : s.size ≤ 1048576) (w : World) :
    Calls Try.prog 26 #[.string s] w fun e w' => e = .returned (.tuple #[.pointer none, .int .i64 2]) ∧ w' = w := by
  obtain ⟨n, hn⟩ : ∃ n, n = s.size := ⟨_, rfl⟩
  have hl : decide ((255 : Int) < (s.size : Int)) = true := by simp; omega
  clear hn
  go_enter Try.func26, Try.ntmps26
  go_wp2
  go_ret2
  exact ⟨rfl, rfl⟩

set_option maxRecDepth 100000 in
theorem labCells (s : ByteArray) : Try.zeroCells52.setIfInBounds 73 (.string s) = (cellsH (List.replicate 8 0) (List.replicate 64 0) 0 [.string s]).toArray := by
  show _ = _
  kernel_rfl
set_option maxRecDepth 100000 in
set_option maxHeartbeats 4000000 in
theorem label_ok {s : ByteArray} (hs : s.size ≤ 255) (w : World) :
    Calls Try.prog 26 #[.string s] w fun e w' => e = .returned (.tuple #[.pointer (some ⟨w.heap.size, 0, none⟩), .int .i64 0]) ∧ Hashed w' w.heap.size 52 [.string s] (labL s) ∧ Below w.heap.size w w' := by
  have hl : decide ((255 : Int) < (s.size : Int)) = false := by simp; omega
  have hw : IntKind.u8.wrap (s.size : Int) = (s.size : Int) := by rw [IntKind.wrap_u8]; omega
  obtain ⟨x, hx⟩ : ∃ x, x = UInt8.ofNat s.size := ⟨_, rfl⟩
  have hxv : (s.size : Int) = (x.toNat : Int) := by rw [hx]; simp; omega
  have HH : Hid (Hashed (w.alloc (.cells (Try.zeroCells52.setIfInBounds 73 (.string s)) 52)) w.heap.size 52 [.string s] []) := Lib.hid (by rw [labCells]; exact hashed_zero w 52 [.string s])
  have HB0 := Lib.hid ((Below.refl w.heap.size w).alloc (Nat.le_refl _) (.cells (Try.zeroCells52.setIfInBounds 73 (.string s)) 52))
  have hz0 : (w.alloc (.cells (Try.zeroCells52.setIfInBounds 73 (.string s)) 52)).heap.size = w.heap.size + 1 := by simp
  have HX := Lib.hid hx; have HXV := Lib.hid hxv
  clear hx hxv
  go_enter Try.func26, Try.ntmps26
  go_upto_region 4 with fail
  generalize w.alloc (.cells (Try.zeroCells52.setIfInBounds 73 (.string s)) 52) = W0 at HH HB0 hz0 ⊢
  have hl1 : Bs (W0.alloc (.cells #[.int .u8 (s.size : Int)] 5)) (W0.heap.size + 1) (.slice (some ⟨W0.heap.size, 0, none⟩) 1 1) [x] := by rw [HXV.out]; exact Bs.one W0 x
  have hb1 : Below W0.heap.size W0 (W0.alloc (.cells #[.int .u8 (s.size : Int)] 5)) := (Below.refl _ _).alloc (Nat.le_refl _) _
  have hz1 : (W0.alloc (.cells #[.int .u8 (s.size : Int)] 5)).heap.size = w.heap.size + 1 + 1 := by simp [hz0]
  obtain ⟨c5, W5, k5, hl5, hb5, hs5⟩ := conv_any (W0.alloc (.cells #[.int .u8 (s.size : Int)] 5)) s (by unfold maxLen; omega)
  rw [hz1] at hl5 hs5 k5
  rw [hz0] at hl1
  have hls5 : (bytesS s).length = s.size := bytesS_len s
  rw [hls5] at hl5 k5
  have hg5 : w.heap.size < W5.heap.size := by omega
  have hrg := Rg.lit (w := W5) (g := w.heap.size) [.slice (some ⟨w.heap.size + 1, 0, none⟩) 1 1, .slice (some ⟨w.heap.size + 1 + 1, 0, none⟩) s.size c5] [[x], bytesS s] rfl (by unfold maxLen; simp) hg5 (by
    intro j h h'
    match j, h, h' with
    | 0, _, _ => exact ⟨(hl1.below hb5 (by omega)).more (by omega), fun _ e => by simp [Value.ownBlock] at e⟩
    | 1, _, _ => exact ⟨hl5.more (by omega), fun _ e => by simp [Value.ownBlock] at e; omega⟩)
  have hbw : Below W0.heap.size W0 (W5.alloc (.cells #[.slice (some ⟨w.heap.size + 1, 0, none⟩) 1 1, .slice (some ⟨w.heap.size + 1 + 1, 0, none⟩) s.size c5] 22)) := (hb1.trans (hb5.mono (by omega))).alloc (by omega) _
  have hhw := HH.out.below hbw (by omega)
  have CW := write_any hhw hrg (by simp; omega)
  have hflat : [] ++ [[x], bytesS s].flatten = labL s := by rw [labL, ← HX.out]; simp
  rw [hflat, hs5, show [[x], bytesS s].length = 2 from rfl] at CW
  have HW := Lib.hid CW
  have HBW := Lib.hid (HB0.out.trans (hbw.mono (by omega)))
  clear hl1 hb1 hl5 hb5 hrg hbw hhw CW hflat HB0 HH
  go_wp2_with fail
  with_reducible refine (HW.out).mono ?_
  rintro e6 w6 ⟨rfl, hh6, hg6⟩
  have HH6 := Lib.hid hh6
  have HB6 := Lib.hid (HBW.out.grown hg6 (by simp [hs5]; omega) (fun j hj => by simp only [Option.some.injEq] at hj; omega))
  clear hh6 hg6 k5
  go_wp2
  go_ret2
  exact ⟨rfl, HH6.out, HB6.out⟩
end Go.Proofs.Ytajhpebefehciaa
