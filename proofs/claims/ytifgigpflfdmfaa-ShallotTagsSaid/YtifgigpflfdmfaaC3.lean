/- Next, New and Stream of chacha. -/
import Derived.Test.YtifgigpflfdmfaaC2
namespace Go.Proofs.Ytifgigpflfdmfaa
open Go.RowKit

theorem scGrown (w : World) (g i : Nat) (v : Value) : w.grownBy (w.setCell ⟨g, i, none⟩ v) (some g) :=
  ⟨rfl, rfl, rfl, by simp, fun k _ hne => Below.heap_setCell w ⟨g, i, none⟩ v k (fun e => hne (by rw [e]))⟩
/-- what Next leaves: its answer in memory of its own, and the flow that many bytes on -/
def Nexted (w w' : World) (g : Nat) (T : TypeId) (ex : List Value) (key : List UInt8) (d n : Nat) (u : Value) : Prop :=
  Own w' w.heap.size u (strL key d n) ∧ Flw w' g T ex key (d + n) ∧ w.grownBy w' (some g)
set_option maxRecDepth 100000 in
set_option maxHeartbeats 4000000 in
theorem next_ok {w : World} {g d n : Nat} {T : TypeId} {ex : List Value} {key : List UInt8} (h : Flw w g T ex key d) (hn : d + n ≤ 65536) :
    Calls Try.prog 51 #[.pointer (some ⟨g, 0, none⟩), .int .i64 (n : Int)] w fun e w' => ∃ u, e = .returned (.tuple #[u, .int .i64 0]) ∧ Nexted w w' g T ex key d n u := by
  have CL := Lib.hid (left_any h (by omega))
  have CA := Lib.hid (ahead_any h hn)
  have HF := Lib.hid h
  have h1 : ¬ (n : Int) < 0 := by omega
  have h2 : ¬ (65536 : Int) < (n : Int) := by omega
  have h3 : ¬ 65536 - (d : Int) < (n : Int) := by omega
  clear h
  go_enter Try.func51, Try.ntmps51
  go_wp2_with fail
  with_reducible refine (CL.out).mono ?_
  rintro e1 w1 ⟨rfl, rfl⟩
  go_wp2_with fail
  with_reducible refine (CA.out).mono ?_
  rintro e2 w2 ⟨u, rfl, ho, hb⟩
  have hf2 := HF.out.below hb HF.out.lt
  obtain ⟨hc, hf⟩ := hf2.done
  have HS := Lib.hid (hf2.set (d + n))
  have HO := Lib.hid ho
  have HB := Lib.hid hb
  have hgl := HF.out.lt
  have hu : ∀ j, u.ownBlock = some j → w.heap.size ≤ j := fun j hj => (World.ownsRow.lt ho j hj).1
  have HU := Lib.hid hu
  have HG : Hid (∀ x, w2.grownBy (w2.setCell ⟨g, 32, none⟩ x) (some g)) := Lib.hid (fun x => scGrown w2 g 32 x)
  have hd0 : (0 : Int) ≤ (d : Int) := by omega
  clear hf2 ho hb hu CL CA
  go_wp2_with fail
  have e : (d : Int) + (n : Int) = ((d + n : Nat) : Int) := by omega
  rw [e]
  go_ret2
  refine ⟨u, rfl, HO.out.kept (HG.out _) ?_, HS.out, ?_⟩
  · rcases hv : u.ownBlock with _ | j
    · exact .inl rfl
    · right
      intro e2
      have := HU.out j hv
      simp only [Option.some.injEq] at e2
      omega
  · have h := HG.out (.int .i64 ((d + n : Nat) : Int))
    exact ⟨h.os.trans HB.out.os, h.tape.trans HB.out.tape, h.output.trans HB.out.output, Nat.le_trans HB.out.size h.size, fun k hk hne => (h.block k (Nat.lt_of_lt_of_le hk HB.out.size) hne).trans (HB.out.block k hk)⟩
theorem next_arg {w : World} {v : Value} {n : Int} (hn : n < 0 ∨ 65536 < n) :
    Calls Try.prog 51 #[v, .int .i64 n] w fun e w' => e = .returned (.tuple #[.slice none 0 0, .int .i64 1]) ∧ w = w' := by
  by_cases h : n < 0
  · go_enter Try.func51, Try.ntmps51
    go_wp2
    go_ret2
    exact ⟨rfl, rfl⟩
  · have h2 : 65536 < n := by omega
    clear hn
    go_enter Try.func51, Try.ntmps51
    go_wp2
    go_ret2
    exact ⟨rfl, rfl⟩
theorem next_bound {w : World} {g d n : Nat} {T : TypeId} {ex : List Value} {key : List UInt8} (h : Flw w g T ex key d) (hd : d ≤ 65536) (hn : n ≤ 65536) (hn2 : 65536 < d + n) :
    Calls Try.prog 51 #[.pointer (some ⟨g, 0, none⟩), .int .i64 (n : Int)] w fun e w' => e = .returned (.tuple #[.slice none 0 0, .int .i64 11]) ∧ w = w' := by
  have CL := Lib.hid (left_any h (by omega))
  have h1 : ¬ (n : Int) < 0 := by omega
  have h2 : ¬ (65536 : Int) < (n : Int) := by omega
  have h3 : 65536 - (d : Int) < (n : Int) := by omega
  clear h
  go_enter Try.func51, Try.ntmps51
  go_wp2_with fail
  with_reducible refine (CL.out).mono ?_
  rintro e1 w1 ⟨rfl, rfl⟩
  go_wp2
  go_ret2
  exact ⟨rfl, rfl⟩
theorem zflow : (#[.int .u8 0, .int .u8 0, .int .u8 0, .int .u8 0, .int .u8 0, .int .u8 0, .int .u8 0, .int .u8 0, .int .u8 0, .int .u8 0, .int .u8 0, .int .u8 0, .int .u8 0, .int .u8 0, .int .u8 0, .int .u8 0, .int .u8 0, .int .u8 0, .int .u8 0, .int .u8 0, .int .u8 0, .int .u8 0, .int .u8 0, .int .u8 0, .int .u8 0, .int .u8 0, .int .u8 0, .int .u8 0, .int .u8 0, .int .u8 0, .int .u8 0, .int .u8 0, .int .i64 0] : Array Value) = (flwC (List.replicate 32 0) 0 []).toArray := rfl
set_option maxRecDepth 100000 in
set_option maxHeartbeats 4000000 in
theorem new_ok {key : List UInt8} {v : Value} {w : World} {B : Nat} (hb : Bs w B v key) (hB : B ≤ w.heap.size) (hk : key.length = 32) :
    Calls Try.prog 15 #[v] w fun e w' => e = .returned (.tuple #[.pointer (some ⟨w.heap.size, 0, none⟩), .int .i64 0]) ∧ Flw w' w.heap.size 79 [] key 0 ∧ Below w.heap.size w w' := by
  have HBV := Lib.hid hb
  have HK := Lib.hid hk
  obtain ⟨A, c, rfl⟩ := hb.shape
  rw [hk]
  have hcutk := fun W => cut32_k (g := w.heap.size) W
  have hal : Below w.heap.size w (w.alloc (.cells #[.int .u8 0, .int .u8 0, .int .u8 0, .int .u8 0, .int .u8 0, .int .u8 0, .int .u8 0, .int .u8 0, .int .u8 0, .int .u8 0, .int .u8 0, .int .u8 0, .int .u8 0, .int .u8 0, .int .u8 0, .int .u8 0, .int .u8 0, .int .u8 0, .int .u8 0, .int .u8 0, .int .u8 0, .int .u8 0, .int .u8 0, .int .u8 0, .int .u8 0, .int .u8 0, .int .u8 0, .int .u8 0, .int .u8 0, .int .u8 0, .int .u8 0, .int .u8 0, .int .i64 0] 79)) := (Below.refl _ _).alloc (Nat.le_refl _) _
  have hb2 := hb.below hal hB
  have hrow : (w.alloc (.cells #[.int .u8 0, .int .u8 0, .int .u8 0, .int .u8 0, .int .u8 0, .int .u8 0, .int .u8 0, .int .u8 0, .int .u8 0, .int .u8 0, .int .u8 0, .int .u8 0, .int .u8 0, .int .u8 0, .int .u8 0, .int .u8 0, .int .u8 0, .int .u8 0, .int .u8 0, .int .u8 0, .int .u8 0, .int .u8 0, .int .u8 0, .int .u8 0, .int .u8 0, .int .u8 0, .int .u8 0, .int .u8 0, .int .u8 0, .int .u8 0, .int .u8 0, .int .u8 0, .int .i64 0] 79)).heap[w.heap.size]? = some (.cells ((flwC (List.replicate 32 0) 0 []).toArray) 79 (0, 0)) := by rw [heap_alloc_new w _, zflow]
  obtain ⟨cs, hcs⟩ : ∃ cs, cs = key.map vb := ⟨_, rfl⟩
  have hcl : cs.length = 32 := by rw [hcs, List.length_map, hk]
  have hone : ∀ v ∈ cs, v.oneCell' = true := by rw [hcs]; exact vb_one _
  have hpos : 0 < cs.length → (some (⟨w.heap.size, 0, none⟩ : Addr)) = some ⟨w.heap.size, 0, none⟩ ∧ ∃ ad, A = some ad ∧ ∀ j v, cs[j]? = some v → (w.alloc (.cells #[.int .u8 0, .int .u8 0, .int .u8 0, .int .u8 0, .int .u8 0, .int .u8 0, .int .u8 0, .int .u8 0, .int .u8 0, .int .u8 0, .int .u8 0, .int .u8 0, .int .u8 0, .int .u8 0, .int .u8 0, .int .u8 0, .int .u8 0, .int .u8 0, .int .u8 0, .int .u8 0, .int .u8 0, .int .u8 0, .int .u8 0, .int .u8 0, .int .u8 0, .int .u8 0, .int .u8 0, .int .u8 0, .int .u8 0, .int .u8 0, .int .u8 0, .int .u8 0, .int .i64 0] 79)).cell? (ad.add j) = some v := by
    intro _
    obtain ⟨A', c', hv, _, _, h3⟩ := hb2
    simp only [Value.slice.injEq] at hv
    obtain ⟨rfl, _, _⟩ := hv
    obtain ⟨b2, off2, rfl, _, hc2⟩ := h3 (by omega)
    refine ⟨rfl, _, rfl, fun j v hj => ?_⟩
    rw [hcs, List.getElem?_map] at hj
    obtain ⟨y, hy, rfl⟩ := Option.map_eq_some_iff.1 hj
    obtain ⟨hj2, rfl⟩ := List.getElem?_eq_some_iff.1 hy
    rw [add_none]
    exact hc2 j hj2
  have hsp : splice (flwC (List.replicate 32 0) 0 []) 0 cs = flwC key 0 [] := by
    have e := splice_end ([] : List Value) (flwC (List.replicate 32 0) 0 []) cs
    simp only [List.nil_append, List.length_nil] at e
    rw [e, hcl, hcs]
    rfl
  have HROW := Lib.hid hrow; have HPOS := Lib.hid hpos; have HONE := Lib.hid hone; have HCL := Lib.hid hcl; have HSP := Lib.hid hsp; have HAL := Lib.hid hal
  clear hb hk hb2 hrow hcs hcl hone hpos hsp hal
  go_enter Try.func15, Try.ntmps15
  go_wp2_with (with_reducible refine wpList_copy_splice rfl (.tmp 12) (.tmp 13) 22 22 rfl 5 Try.underlying22 u8size _ _ _ _ _ _ rfl rfl w.heap.size 0 (flwC (List.replicate 32 0) 0 []) 79 HROW.out cs ?_ HPOS.out ?_ HONE.out w.heap.size _ HAL.out (Nat.le_refl _) ?_)
  all_goals first
    | exact HCL.out
    | (rw [HCL.out]; rfl)
    | (rw [HCL.out]; simp [flwC]; done)
    | skip
  intro w2 hg2 hb2
  have HG2 : Hid (w2.heap[w.heap.size]? = some (.cells (flwC key 0 []).toArray 79 (0, 0))) := Lib.hid (by rw [← HSP.out]; exact hg2.out)
  clear hg2 hcutk
  go_wp2
  go_ret2
  exact ⟨rfl, ⟨HK.out, HG2.out⟩, hb2⟩
theorem new_no {key : List UInt8} {v : Value} {w : World} {B : Nat} (hb : Bs w B v key) (hk : key.length ≠ 32) (hm : key.length ≤ 281474976710656) :
    Calls Try.prog 15 #[v] w fun e w' => e = .returned (.tuple #[.pointer none, .int .i64 2]) ∧ w = w' := by
  obtain ⟨A, c, rfl⟩ := hb.shape
  obtain ⟨n, hn⟩ : ∃ n, n = key.length := ⟨_, rfl⟩
  rw [← hn] at hk hm ⊢
  have hI : ¬ (n : Int) = 32 := by omega
  clear hb hn hk
  go_enter Try.func15, Try.ntmps15
  go_wp2
  go_ret2
  exact ⟨rfl, rfl⟩
end Go.Proofs.Ytifgigpflfdmfaa
