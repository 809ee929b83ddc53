/- Write, New, Twin, Len of a hash. -/
import Derived.Test.YtifgigpflfdmfaaAdd
import Derived.Deep.MidRow
namespace Go.Proofs.Ytifgigpflfdmfaa
open Go.RowKit

/-- v is a slice of slices of bytes that reads as ls, apart from block g -/
def Rg (w : World) (g : Nat) (v : Value) (ls : List (List UInt8)) : Prop :=
  ∃ A c, v = .slice A ls.length c ∧ ls.length ≤ c ∧ c ≤ maxLen ∧
    (0 < ls.length → ∃ b off, A = some ⟨b, off, none⟩ ∧ b ≠ g ∧ ∀ j (h : j < ls.length), ∃ u B, w.cell? ⟨b, off + j, none⟩ = some u ∧ Bs w B u ls[j] ∧ (0 < ls[j].length → u.ownBlock ≠ some g))
theorem Bs.apart {w : World} {B g : Nat} {v : Value} {l : List UInt8} (h : Bs w B v l) (hB : B ≤ g) (hl : 0 < l.length) : v.ownBlock ≠ some g := by
  obtain ⟨A, c, rfl, _, _, h3⟩ := h
  obtain ⟨b, off, rfl, hlt, _⟩ := h3 hl
  simp only [Value.ownBlock, ne_eq, Option.some.injEq]
  omega
theorem Rs.rg {w : World} {B g : Nat} {v : Value} {ls : List (List UInt8)} (h : Rs w B v ls) (hB : B ≤ g) : Rg w g v ls := by
  obtain ⟨A, c, rfl, h1, h2, h3⟩ := h
  refine ⟨A, c, rfl, h1, h2, fun hp => ?_⟩
  obtain ⟨b, off, rfl, hlt, hc⟩ := h3 hp
  refine ⟨b, off, rfl, by omega, fun j hj => ?_⟩
  obtain ⟨u, hu, hb⟩ := hc j hj
  exact ⟨u, B, hu, hb, fun hl => hb.apart hB hl⟩
theorem Bs.grown {w w' : World} {B g : Nat} {v : Value} {l : List UInt8} (h : Bs w B v l) (hg : w.grownBy w' (some g)) (ha : 0 < l.length → v.ownBlock ≠ some g) : Bs w' B v l := by
  obtain ⟨A, c, rfl, h1, h2, h3⟩ := h
  refine ⟨A, c, rfl, h1, h2, fun hp => ?_⟩
  obtain ⟨b, off, rfl, hlt, hc⟩ := h3 hp
  have hb := ha hp
  simp only [Value.ownBlock, ne_eq, Option.some.injEq] at hb
  exact ⟨b, off, rfl, hlt, fun j hj => hg.cell (hc j hj) (by simpa using hb)⟩
theorem Rg.grown {w w' : World} {g : Nat} {v : Value} {ls : List (List UInt8)} (h : Rg w g v ls) (hg : w.grownBy w' (some g)) : Rg w' g v ls := by
  obtain ⟨A, c, rfl, h1, h2, h3⟩ := h
  refine ⟨A, c, rfl, h1, h2, fun hp => ?_⟩
  obtain ⟨b, off, rfl, hne, hc⟩ := h3 hp
  refine ⟨b, off, rfl, hne, fun j hj => ?_⟩
  obtain ⟨u, B, hu, hb, ha⟩ := hc j hj
  exact ⟨u, B, hg.cell hu (by simpa using hne), hb.grown hg ha, ha⟩

set_option maxRecDepth 8000 in
set_option maxHeartbeats 1600000 in
theorem write_any {w : World} {g : Nat} {T : TypeId} {ex : List Value} {L : List UInt8} {ls : List (List UInt8)} {v : Value} (h : Hashed w g T ex L) (hr : Rg w g v ls) (hlen : L.length + ls.flatten.length ≤ 1152921504606846975) :
    Calls Try.prog 13 #[.pointer (some ⟨g, 0, none⟩), v] w fun e w' => e = .returned (.pointer (some ⟨g, 0, none⟩)) ∧ Hashed w' g T ex (L ++ ls.flatten) ∧ w.grownBy w' (some g) := by
  have hr0 := hr
  obtain ⟨A, c, rfl, hc1, hc2, hcell⟩ := hr0
  have HC := Lib.hid hcell; have HR := Lib.hid hr
  unfold maxLen at hc2
  clear hcell hr
  go_enter Try.func13, Try.ntmps13
  go_wp2_with fail
  go_loopw [9] (fun i wr => ∃ k : Nat, k ≤ ls.length ∧ i = .int .i64 k ∧ Hid (Hashed wr g T ex (L ++ (ls.take k).flatten)) ∧ Hid (w.grownBy wr (some g))) (fun i _ => ls.length - (intOf i).toNat)
  case atStart => exact ⟨0, Nat.zero_le _, rfl, by rw [List.take_zero, List.flatten_nil, List.append_nil]; exact Lib.hid h, Lib.hid (World.grownBy.refl _ _)⟩
  case round =>
    obtain ⟨k, hk, rfl, hH, hG⟩ := hrel
    clear h
    by_cases hlt : k < ls.length
    · obtain ⟨b, off, rfl, hne, hcc⟩ := HC.out (by omega)
      obtain ⟨u, B, hu, hb, ha⟩ := hcc k hlt
      have hu' : wr.cell? ⟨b, off + k, none⟩ = some u := hG.out.cell hu (by simpa using hne)
      have hfl : (ls.take (k + 1)).flatten = (ls.take k).flatten ++ ls[k] := by
        rw [List.take_succ_eq_append_getElem hlt, List.flatten_append]; simp
      have hle : (ls.take k).flatten.length + ls[k].length ≤ ls.flatten.length := by
        have h1 := congrArg List.length hfl
        rw [List.length_append] at h1
        have h2 : (ls.take (k + 1)).flatten.length ≤ ls.flatten.length := by
          conv => rhs; rw [← List.take_append_drop (k + 1) ls, List.flatten_append, List.length_append]
          omega
        omega
      have CA := add_any hH.out (hb.grown hG.out ha) ha (by rw [List.length_append]; omega)
      rw [List.append_assoc, ← hfl] at CA
      have HCA := Lib.hid CA
      clear CA hfl hle hcc hu
      go_wp2_with fail
      refine (HCA.out).mono ?_
      rintro e w1 ⟨rfl, h1, hg1⟩
      have H1 := Lib.hid h1
      have G1 := Lib.hid (hG.out.trans hg1)
      clear h1 hg1
      go_wp2
      go_roundw
      case rel => exact ⟨k + 1, by omega, by go_num, H1, G1⟩
      case measure => simp [intOf]; omega
    · have hkk : k = ls.length := by omega
      have hfin : Hid (Hashed wr g T ex (L ++ ls.flatten)) := by
        have h := hH.out
        rw [hkk, List.take_of_length_le (Nat.le_refl _)] at h
        exact h
      clear hH hkk
      go_wp2
      go_ret
      exact ⟨rfl, hfin.out, hG.out⟩

theorem hashed_zero (w : World) (T : TypeId) (ex : List Value) : Hashed (w.alloc (.cells (cellsH (List.replicate 8 0) (List.replicate 64 0) 0 ex).toArray T)) w.heap.size T ex [] :=
  ⟨_, _, ⟨heap_alloc_new w _, by simp, by simp⟩, HashOf.nil⟩
set_option maxRecDepth 8000 in
set_option maxHeartbeats 1600000 in
theorem new_any {w : World} {ls : List (List UInt8)} {v : Value} (hr : Rs w w.heap.size v ls) (hlen : ls.flatten.length ≤ 1152921504606846975) :
    Calls Try.prog 76 #[v] w fun e w' => e = .returned (.pointer (some ⟨w.heap.size, 0, none⟩)) ∧ Hashed w' w.heap.size 39 [] ls.flatten ∧ Below w.heap.size w w' := by
  have hb0 : Below w.heap.size w (w.alloc (.cells #[.int .u32 0, .int .u32 0, .int .u32 0, .int .u32 0, .int .u32 0, .int .u32 0, .int .u32 0, .int .u32 0, .int .u8 0, .int .u8 0, .int .u8 0, .int .u8 0, .int .u8 0, .int .u8 0, .int .u8 0, .int .u8 0, .int .u8 0, .int .u8 0, .int .u8 0, .int .u8 0, .int .u8 0, .int .u8 0, .int .u8 0, .int .u8 0, .int .u8 0, .int .u8 0, .int .u8 0, .int .u8 0, .int .u8 0, .int .u8 0, .int .u8 0, .int .u8 0, .int .u8 0, .int .u8 0, .int .u8 0, .int .u8 0, .int .u8 0, .int .u8 0, .int .u8 0, .int .u8 0, .int .u8 0, .int .u8 0, .int .u8 0, .int .u8 0, .int .u8 0, .int .u8 0, .int .u8 0, .int .u8 0, .int .u8 0, .int .u8 0, .int .u8 0, .int .u8 0, .int .u8 0, .int .u8 0, .int .u8 0, .int .u8 0, .int .u8 0, .int .u8 0, .int .u8 0, .int .u8 0, .int .u8 0, .int .u8 0, .int .u8 0, .int .u8 0, .int .u8 0, .int .u8 0, .int .u8 0, .int .u8 0, .int .u8 0, .int .u8 0, .int .u8 0, .int .u8 0, .int .i64 0] 39)) := (Below.refl _ _).alloc (Nat.le_refl _) _
  have hz : Hashed (w.alloc (.cells #[.int .u32 0, .int .u32 0, .int .u32 0, .int .u32 0, .int .u32 0, .int .u32 0, .int .u32 0, .int .u32 0, .int .u8 0, .int .u8 0, .int .u8 0, .int .u8 0, .int .u8 0, .int .u8 0, .int .u8 0, .int .u8 0, .int .u8 0, .int .u8 0, .int .u8 0, .int .u8 0, .int .u8 0, .int .u8 0, .int .u8 0, .int .u8 0, .int .u8 0, .int .u8 0, .int .u8 0, .int .u8 0, .int .u8 0, .int .u8 0, .int .u8 0, .int .u8 0, .int .u8 0, .int .u8 0, .int .u8 0, .int .u8 0, .int .u8 0, .int .u8 0, .int .u8 0, .int .u8 0, .int .u8 0, .int .u8 0, .int .u8 0, .int .u8 0, .int .u8 0, .int .u8 0, .int .u8 0, .int .u8 0, .int .u8 0, .int .u8 0, .int .u8 0, .int .u8 0, .int .u8 0, .int .u8 0, .int .u8 0, .int .u8 0, .int .u8 0, .int .u8 0, .int .u8 0, .int .u8 0, .int .u8 0, .int .u8 0, .int .u8 0, .int .u8 0, .int .u8 0, .int .u8 0, .int .u8 0, .int .u8 0, .int .u8 0, .int .u8 0, .int .u8 0, .int .u8 0, .int .i64 0] 39)) w.heap.size 39 [] [] := hashed_zero w 39 []
  have C := write_any hz ((hr.below hb0 (Nat.le_refl _)).rg (Nat.le_refl _)) (by simpa using hlen)
  rw [List.nil_append] at C
  have HC := Lib.hid C; have HB := Lib.hid hb0
  clear C hb0 hz hr
  go_enter Try.func76, Try.ntmps76
  go_wp2_with fail
  refine (HC.out).mono ?_
  rintro e w1 ⟨rfl, h1, hg1⟩
  have H1 := Lib.hid h1
  have G1 := Lib.hid (HB.out.grown hg1 HB.out.size (fun j hj => by simp only [Option.some.injEq] at hj; omega))
  clear h1 hg1
  go_wp2
  go_ret
  exact ⟨rfl, H1.out, G1.out⟩
end Go.Proofs.Ytifgigpflfdmfaa
