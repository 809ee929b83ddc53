/- Turn of a key, the program's and the reference's. -/
import Derived.Test.YtifgigpflfdmfaaC8
import Derived.Test.YtifgigpflfdmfaaMacShort
import Derived.Test.YtifgigpflfdmfaaLib
import Derived.Laws.BitsAllLaws
import Derived.Laws.BytesString
import Derived.Laws.IdiomStrings
import Derived.Test.YtifgigpflfdmfaaX6
import Derived.Test.YtifgigpflfdmfaaCopyB
import Derived.Test.YtifgigpflfdmfaaRefShort
namespace Go.Proofs.Ytifgigpflfdmfaa
open Go.RowKit

set_option maxRecDepth 100000 in
set_option maxHeartbeats 4000000 in
theorem turn_ok {ls : List (List UInt8)} {key : List UInt8} {vk v : Value} {w : World} {B : Nat} (hk : Bs w B vk key) (hr : Rs w B v ls) (hB : B ≤ w.heap.size) (hkl : key.length = 32) (hn : ls.flatten.length ≤ 65536) :
    Calls Try.prog 10 #[vk, v] w fun e w' => ∃ u, e = .returned (.tuple #[u, .int .i64 0]) ∧ Own w' w.heap.size u (trnL key 0 ls.flatten) ∧ Below w.heap.size w w' := by
  have CN := Lib.hid (new_ok hk hB hkl)
  have HR := Lib.hid hr
  have HN := Lib.hid hn
  clear hk hkl hr hn
  go_enter Try.func10, Try.ntmps10
  go_wp2_with fail
  with_reducible refine (CN.out).mono ?_
  rintro e1 w1 ⟨rfl, hf1, hb1⟩
  have CX := Lib.hid (fturn_ok hf1 (HR.out.below hb1 hB) (Nat.le_trans hB hb1.size) (by have := HN.out; omega))
  have HB1 := Lib.hid hb1
  clear hf1 hb1 CN
  go_wp2_with fail
  with_reducible refine (CX.out).mono ?_
  rintro e2 w2 ⟨u, rfl, ho, _, hg⟩
  have HO := Lib.hid (ho.more (B' := w.heap.size) HB1.out.size)
  have HB2 := Lib.hid (HB1.out.grown hg HB1.out.size (fun q hq => by simp only [Option.some.injEq] at hq; omega))
  clear ho hg CX
  go_wp2
  go_ret2
  exact ⟨_, rfl, HO.out, HB2.out⟩
theorem turn_bound {ls : List (List UInt8)} {key : List UInt8} {vk v : Value} {w : World} {B : Nat} (hk : Bs w B vk key) (hr : Rs w B v ls) (hB : B ≤ w.heap.size) (hkl : key.length = 32) (hn : 65536 < ls.flatten.length) :
    Calls Try.prog 10 #[vk, v] w fun e w' => e = .returned (.tuple #[.slice none 0 0, .int .i64 11]) ∧ Below w.heap.size w w' := by
  have CN := Lib.hid (new_ok hk hB hkl)
  have HR := Lib.hid hr
  have HN := Lib.hid hn
  clear hk hkl hr hn
  go_enter Try.func10, Try.ntmps10
  go_wp2_with fail
  with_reducible refine (CN.out).mono ?_
  rintro e1 w1 ⟨rfl, hf1, hb1⟩
  have CX := Lib.hid (fturn_no hf1 (HR.out.below hb1 hB) (by omega) (by have := HN.out; omega))
  have HB1 := Lib.hid hb1
  clear hf1 hb1 CN
  go_wp2_with fail
  with_reducible refine (CX.out).mono ?_
  rintro e2 w2 ⟨rfl, rfl⟩
  clear CX
  go_wp2
  go_ret2
  exact ⟨rfl, HB1.out⟩
theorem turn_size {key : List UInt8} {vk v : Value} {w : World} {B : Nat} (hk : Bs w B vk key) (hkl : key.length ≠ 32) (hm : key.length ≤ 281474976710656) :
    Calls Try.prog 10 #[vk, v] w fun e w' => e = .returned (.tuple #[.slice none 0 0, .int .i64 2]) ∧ w = w' := by
  have CN := Lib.hid (new_no hk hkl hm)
  clear hk hkl
  go_enter Try.func10, Try.ntmps10
  go_wp2_with fail
  with_reducible refine (CN.out).mono ?_
  rintro e1 w1 ⟨rfl, rfl⟩
  clear CN
  go_wp2
  go_ret2
  exact ⟨rfl, rfl⟩
end Go.Proofs.Ytifgigpflfdmfaa

namespace Go.Proofs.Ytifgigpflfdmfaa
open Go.RowKit

set_option maxRecDepth 100000 in
set_option maxHeartbeats 4000000 in
theorem fits_any {w : World} {g B : Nat} {o L tag : List UInt8} {v : Value} (h : Hashed w g 41 (o.map vb) L) (ho : o.length = 64) (hlen : L.length ≤ 1152921504606846000) (ht : Bs w B v tag) (hB : B ≤ w.heap.size) :
    Calls Try.prog 14 #[.pointer (some ⟨g, 0, none⟩), v] w fun e w' => e = .returned (.bool (decide (tag = (sumL (o ++ sumL L)).take 16))) ∧ Below w.heap.size w w' := by
  have CT := Lib.hid (taggerSum_any h ho hlen)
  obtain ⟨X, hX⟩ : ∃ X, X = sumL (o ++ sumL L) := ⟨_, rfl⟩
  have hXl : X.length = 32 := by rw [hX, sumL_len]
  rw [← hX] at CT ⊢
  obtain ⟨At, ct, rfl⟩ := ht.shape
  have HT := Lib.hid ht
  obtain ⟨z, hz⟩ : ∃ z, z = decide (tag = X.take 16) := ⟨_, rfl⟩
  rw [← hz]
  have HZ := Lib.hid hz; have HXL := Lib.hid hXl
  obtain ⟨cs, hcs⟩ : ∃ cs, arr32 X = .agg cs := ⟨_, rfl⟩
  rw [hcs] at CT
  have HCS := Lib.hid hcs
  clear h ht hz hX hXl hcs
  go_enter Try.func14, Try.ntmps14
  go_wp2_with fail
  with_reducible refine (CT.out).mono ?_
  rintro e1 w1 ⟨rfl, hb1⟩
  have C2 := shorten_any HXL.out w1
  rw [HCS.out] at C2
  have HC2 := Lib.hid C2; have HB1 := Lib.hid hb1
  clear C2 CT hb1
  go_wp2_with fail
  with_reducible refine (HC2.out).mono ?_
  rintro e2 w2 ⟨x, rfl, hx, hb2⟩
  obtain ⟨Ax, cx, rfl⟩ := hx.shapeN (n := 16) (by rw [List.length_take, HXL.out]; rfl)
  have hb12 := HB1.out.trans (hb2.mono HB1.out.size)
  have CS := same_any (HT.out.below hb12 hB) hx.bs
  rw [← HZ.out] at CS
  have HCS3 := Lib.hid CS; have HB2 := Lib.hid hb12
  clear CS hx hb2 hb12
  go_wp2_with fail
  refine (HCS3.out).mono ?_
  rintro e3 w3 ⟨rfl, hd⟩
  have HB3 := Lib.hid (HB2.out.trans ((hd.below _).mono HB2.out.size))
  clear hd
  go_wp2
  go_ret
  exact ⟨rfl, HB3.out⟩

theorem own_ne {w : World} {B g : Nat} {v : Value} {l : List UInt8} (h : Own w B v l) (hg : g < B) : 0 < l.length → v.ownBlock ≠ some g := fun _ e => by
  have h1 := (World.ownsRow.lt h g e).1
  omega
theorem tagger_tag (key b : List UInt8) : sumL (outerL key ++ sumL (innerL key ++ b)) = tagL key b := rfl

end Go.Proofs.Ytifgigpflfdmfaa

namespace Go.Proofs.Ytifgigpflfdmfaa
open Go.RowKit

def bstr (l : List UInt8) : ByteArray := ⟨l.toArray⟩
/-- the digit of a number below 16 -/
def hexD (n : Nat) : UInt8 := if n < 10 then UInt8.ofNat (48 + n) else UInt8.ofNat (87 + n)
def hexL (l : List UInt8) : List UInt8 := l.flatMap fun x => [hexD (x.toNat / 16), hexD (x.toNat % 16)]
theorem hexL_len (l : List UInt8) : (hexL l).length = 2 * l.length := by
  induction l with
  | nil => rfl
  | cons x r ih => simp only [hexL, List.flatMap_cons, List.length_append, List.length_cons, List.length_nil] at ih ⊢; omega
theorem hexL_snoc (l : List UInt8) (x : UInt8) : hexL (l ++ [x]) = hexL l ++ [hexD (x.toNat / 16), hexD (x.toNat % 16)] := by simp [hexL]

theorem conv_bs {w : World} {B : Nat} {v : Value} {l : List UInt8} (h : Bs w B v l) : (convert 22 9 v).run Try.prog w = .ok (.string (bstr l)) w := by
  obtain ⟨A, c, rfl, h1, h2, h3⟩ := h
  by_cases h0 : l.length = 0
  · obtain rfl : l = [] := List.eq_nil_of_length_eq_zero h0
    show (convert 22 9 (.slice A 0 c)).run Try.prog w = _
    rw [run_convert_bytes_string w 22 9 5 A 0 c Try.underlying22 Try.underlying5 Try.underlying9]
    cases A <;> simp [Conv.bytesToString, loadCells, loadCellsFrom]
    all_goals rfl
  · obtain ⟨b, off, rfl, _, hc⟩ := h3 (by omega)
    exact run_convert_bytes_back w 22 9 5 ⟨b, off, none⟩ c l Try.underlying22 Try.underlying5 Try.underlying9 (fun j hj => by rw [add_none]; exact hc j hj)

end Go.Proofs.Ytifgigpflfdmfaa

namespace Go.Proofs.Ytifgigpflfdmfaa
open Go.RowKit

theorem bstr_inj {a b : List UInt8} : bstr a = bstr b ↔ a = b := by
  constructor
  · intro h
    have := congrArg (fun s : ByteArray => s.data.toList) h
    simpa [bstr] using this
  · rintro rfl; rfl
set_option maxRecDepth 100000 in
set_option maxHeartbeats 4000000 in
theorem samebytes_any {a b : List UInt8} {u v : Value} {w : World} {B1 B2 : Nat} (hu : Bs w B1 u a) (hv : Bs w B2 v b) :
    Calls Try.prog 17 #[u, v] w fun e w' => e = .returned (.bool (decide (a = b))) ∧ w = w' := by
  have c1 := conv_bs hu
  have c2 := conv_bs hv
  obtain ⟨s, hs⟩ : ∃ s, s = bstr a := ⟨_, rfl⟩
  obtain ⟨t, ht⟩ : ∃ t, t = bstr b := ⟨_, rfl⟩
  have he : decide (a = b) = decide (s = t) := by rw [hs, ht]; exact decide_eq_decide.2 bstr_inj.symm
  rw [he]
  rw [← hs] at c1
  rw [← ht] at c2
  clear hs ht he hu hv
  go_enter Try.func17, Try.ntmps17
  go_wp2
  go_ret
  refine ⟨ret_bool ?_, rfl⟩
  show (s.toList == t.toList) = _
  rw [Bool.eq_iff_iff, beq_iff_eq, decide_eq_true_iff, Lib.toList_data, Lib.toList_data]
  exact ⟨fun h => by cases s; cases t; simpa [Array.toList_inj] using h, fun h => by rw [h]⟩
end Go.Proofs.Ytifgigpflfdmfaa
