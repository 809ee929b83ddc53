/- Decode of the reference. -/
import Derived.Test.YteonidpgplhplaaN2
import Derived.Test.YteonidpgplhplaaN9
import Derived.Test.YteonidpgplhplaaN7
import Derived.StillTailTactics
namespace Go.Proofs.Yteonidpgplhplaa
open Go.RowKit

/-- a number's bytes from the front -/
theorem getP_front (K : Nat) (l : List UInt8) (a : Nat) : ∀ k, k ≤ K → getP 2 (K + 1) l a (k + 1) = getP 2 K l a k * 256 + (l.getD (a + K) 0).toNat
  | 0, _ => by simp [getP, idx]
  | k + 1, hk => by
    rw [getP, getP_front K l a k (by omega), getP, show idx 2 (K + 1) (k + 1) = idx 2 K k by simp only [idx_big]; omega, Nat.pow_succ, Nat.add_mul]
    rw [Nat.mul_assoc ((l.getD (a + idx 2 K k) 0).toNat)]
    omega
theorem getP_next (K : Nat) (l : List UInt8) (a : Nat) : getP 2 (K + 1) l a (K + 1) = getP 2 K l a K * 256 + (l.getD (a + K) 0).toNat := getP_front K l a K (Nat.le_refl _)
theorem Bs.cell {w : World} {B n c k : Nat} {A : Option Addr} {l : List UInt8} (h : Bs w B (.slice A n c) l) (hk : k < l.length) : ∃ b off, A = some ⟨b, off, none⟩ ∧ b < B ∧ w.cell? ⟨b, off + k, none⟩ = some (.int .u8 ((l.getD k 0).toNat : Int)) := by
  obtain ⟨A', c', hv, h1, h2, h3⟩ := h
  simp only [Value.slice.injEq] at hv
  obtain ⟨rfl, _, _⟩ := hv
  obtain ⟨b, off, rfl, hlt, hc⟩ := h3 (by omega)
  refine ⟨b, off, rfl, hlt, ?_⟩
  rw [hc k hk]
  simp [hk]
/-- a 0 or a byte at the end -/
theorem rest_iff (l : List UInt8) : getP 2 2 l 30 2 = (l.getD 30 0).toNat * 256 + (l.getD 31 0).toNat := by
  simp [getP, idx]
  omega

set_option maxRecDepth 100000 in
set_option maxHeartbeats 4000000 in
theorem refdecode_any {l : List UInt8} {w : World} {B : Nat} {v : Value} (hb : Bs w B v l) (hB : B ≤ w.heap.size) :
    Calls Try.prog 17 #[v] w fun e w' => e = .returned (.tuple #[.agg (decC l).cs.toArray, .int .i64 (decE l)]) ∧ Below w.heap.size w w' := by
  have hiZ : Hid ((Try.prog.info? 26).map (·.size) = some (#[.int .u8 0, .int .u8 0, .int .u32 0, .int .u64 0, .int .u8 0, .int .u8 0, .int .u8 0, .int .u8 0, .int .u8 0, .int .u8 0, .int .u8 0, .int .u8 0, .int .u8 0, .int .u8 0, .int .u8 0, .int .u8 0, .int .u8 0, .int .u8 0, .int .u8 0, .int .u8 0] : Array Value).size) := Lib.hid (by show _ = _; kernel_rfl)
  have honeZ : Hid ((#[.int .u8 0, .int .u8 0, .int .u32 0, .int .u64 0, .int .u8 0, .int .u8 0, .int .u8 0, .int .u8 0, .int .u8 0, .int .u8 0, .int .u8 0, .int .u8 0, .int .u8 0, .int .u8 0, .int .u8 0, .int .u8 0, .int .u8 0, .int .u8 0, .int .u8 0, .int .u8 0] : Array Value).all (·.oneCell') = true) := Lib.hid (by show _ = _; kernel_rfl)
  have HB0 := Lib.hid ((Below.refl w.heap.size w).alloc (Nat.le_refl _) (.cells #[.int .u8 0, .int .u8 0, .int .u32 0, .int .u64 0, .int .u8 0, .int .u8 0, .int .u8 0, .int .u8 0, .int .u8 0, .int .u8 0, .int .u8 0, .int .u8 0, .int .u8 0, .int .u8 0, .int .u8 0, .int .u8 0, .int .u8 0, .int .u8 0, .int .u8 0, .int .u8 0] 26))
  have hz : Hid ((w.alloc (.cells #[.int .u8 0, .int .u8 0, .int .u32 0, .int .u64 0, .int .u8 0, .int .u8 0, .int .u8 0, .int .u8 0, .int .u8 0, .int .u8 0, .int .u8 0, .int .u8 0, .int .u8 0, .int .u8 0, .int .u8 0, .int .u8 0, .int .u8 0, .int .u8 0, .int .u8 0, .int .u8 0] 26)).heap[w.heap.size]? = some (.cells #[.int .u8 0, .int .u8 0, .int .u32 0, .int .u64 0, .int .u8 0, .int .u8 0, .int .u8 0, .int .u8 0, .int .u8 0, .int .u8 0, .int .u8 0, .int .u8 0, .int .u8 0, .int .u8 0, .int .u8 0, .int .u8 0, .int .u8 0, .int .u8 0, .int .u8 0, .int .u8 0] 26 (0, 0))) := Lib.hid (heap_alloc_new w _)
  have hsz0 : (w.alloc (.cells #[.int .u8 0, .int .u8 0, .int .u32 0, .int .u64 0, .int .u8 0, .int .u8 0, .int .u8 0, .int .u8 0, .int .u8 0, .int .u8 0, .int .u8 0, .int .u8 0, .int .u8 0, .int .u8 0, .int .u8 0, .int .u8 0, .int .u8 0, .int .u8 0, .int .u8 0, .int .u8 0] 26)).heap.size = w.heap.size + 1 := by simp
  obtain ⟨e, he⟩ : ∃ e, e = decE l := ⟨_, rfl⟩
  obtain ⟨D, hD⟩ : ∃ D, D = (decC l).cs.toArray := ⟨_, rfl⟩
  rw [← he, ← hD]
  have hb1 := (hb.alloc hB (.cells #[.int .u8 0, .int .u8 0, .int .u32 0, .int .u64 0, .int .u8 0, .int .u8 0, .int .u8 0, .int .u8 0, .int .u8 0, .int .u8 0, .int .u8 0, .int .u8 0, .int .u8 0, .int .u8 0, .int .u8 0, .int .u8 0, .int .u8 0, .int .u8 0, .int .u8 0, .int .u8 0] 26))
  obtain ⟨A, c, rfl⟩ := hb.shape
  by_cases hl : l.length = 32
  · obtain ⟨b, off, rfl, hbB, h0⟩ := hb1.cell (k := 0) (by omega)
    have hc16 : 32 ≤ c := by
      obtain ⟨A', c', hv, h1, _⟩ := hb
      simp only [Value.slice.injEq] at hv
      omega
    have h1 : (w.alloc (.cells #[.int .u8 0, .int .u8 0, .int .u32 0, .int .u64 0, .int .u8 0, .int .u8 0, .int .u8 0, .int .u8 0, .int .u8 0, .int .u8 0, .int .u8 0, .int .u8 0, .int .u8 0, .int .u8 0, .int .u8 0, .int .u8 0, .int .u8 0, .int .u8 0, .int .u8 0, .int .u8 0] 26)).cell? ⟨b, off + 1, none⟩ = some (.int .u8 ((l.getD 1 0).toNat : Int)) := by
      obtain ⟨b', off', e', _, h⟩ := hb1.cell (k := 1) (by omega)
      simp only [Option.some.injEq, Addr.mk.injEq] at e'
      obtain ⟨rfl, rfl, _⟩ := e'
      exact h
    have hb2 := hb1
    rw [hl] at hb2 ⊢
    have HBS := Lib.hid hb2
    obtain ⟨cm, hcm⟩ : ∃ cm, cm = cmdOf l := ⟨_, rfl⟩
    obtain ⟨ee, hee⟩ : ∃ ee, ee = cm.chk := ⟨_, rfl⟩
    have he2 : e = if getP 2 2 l 30 2 ≠ 0 ∧ ee ≠ 1 then 3 else ee := by rw [he, decE, if_neg (fun h => h hl), hee, hcm]
    have hD2 : D = if e = 0 then cm.cs.toArray else #[.int .u8 0, .int .u8 0, .int .u32 0, .int .u64 0, .int .u8 0, .int .u8 0, .int .u8 0, .int .u8 0, .int .u8 0, .int .u8 0, .int .u8 0, .int .u8 0, .int .u8 0, .int .u8 0, .int .u8 0, .int .u8 0, .int .u8 0, .int .u8 0, .int .u8 0, .int .u8 0] := by rw [hD, decC, ← he, hcm]; split <;> rfl
    rw [rest_iff] at he2
    have HCM := Lib.hid hcm; have HEE := Lib.hid hee; have HE := Lib.hid he2; have HDD := Lib.hid hD2; have HL := Lib.hid hl
    obtain ⟨k, hk⟩ : ∃ k, k = (l.getD 0 0).toNat := ⟨_, rfl⟩
    obtain ⟨f, hf⟩ : ∃ f, f = (l.getD 1 0).toNat := ⟨_, rfl⟩
    rw [← hk] at h0
    rw [← hf] at h1
    rw [Nat.add_zero] at h0
    have HK := Lib.hid hk; have HF := Lib.hid hf
    clear hcm hee he2 hD2 he hD hb hb1 hb2 hl hk hf
    go_enter Try.func17, Try.ntmps17
    go_upto_region 1 with fail
    generalize w.alloc (.cells #[.int .u8 0, .int .u8 0, .int .u32 0, .int .u64 0, .int .u8 0, .int .u8 0, .int .u8 0, .int .u8 0, .int .u8 0, .int .u8 0, .int .u8 0, .int .u8 0, .int .u8 0, .int .u8 0, .int .u8 0, .int .u8 0, .int .u8 0, .int .u8 0, .int .u8 0, .int .u8 0] 26) = W at HB0 hz hsz0 HBS h0 h1 ⊢
    have hWG : W.drew.heap.size = w.heap.size + 1 := by rw [World.size_drew, hsz0]
    have hz2 : Hid ((W.drew.alloc (.cells #[.int .u8 0, .int .u8 0, .int .u32 0, .int .u64 0, .int .u8 0, .int .u8 0, .int .u8 0, .int .u8 0, .int .u8 0, .int .u8 0, .int .u8 0, .int .u8 0, .int .u8 0, .int .u8 0, .int .u8 0, .int .u8 0, .int .u8 0, .int .u8 0, .int .u8 0, .int .u8 0] 26)).heap[w.heap.size + 1]? = some (.cells #[.int .u8 0, .int .u8 0, .int .u32 0, .int .u64 0, .int .u8 0, .int .u8 0, .int .u8 0, .int .u8 0, .int .u8 0, .int .u8 0, .int .u8 0, .int .u8 0, .int .u8 0, .int .u8 0, .int .u8 0, .int .u8 0, .int .u8 0, .int .u8 0, .int .u8 0, .int .u8 0] 26 (0, 0))) := Lib.hid (by rw [← hWG]; exact heap_alloc_new W.drew _)
    have hi2 : Hid ((Try.prog.info? 26).map (·.size) = some (#[.int .u8 (k : Int), .int .u8 (f : Int), .int .u32 0, .int .u64 0, .int .u8 0, .int .u8 0, .int .u8 0, .int .u8 0, .int .u8 0, .int .u8 0, .int .u8 0, .int .u8 0, .int .u8 0, .int .u8 0, .int .u8 0, .int .u8 0, .int .u8 0, .int .u8 0, .int .u8 0, .int .u8 0] : Array Value).size) := Lib.hid (by show _ = _; kernel_rfl)
    have ho2 : Hid ((#[.int .u8 0, .int .u8 0, .int .u32 0, .int .u64 0, .int .u8 0, .int .u8 0, .int .u8 0, .int .u8 0, .int .u8 0, .int .u8 0, .int .u8 0, .int .u8 0, .int .u8 0, .int .u8 0, .int .u8 0, .int .u8 0, .int .u8 0, .int .u8 0, .int .u8 0, .int .u8 0] : Array Value).size = (#[.int .u8 (k : Int), .int .u8 (f : Int), .int .u32 0, .int .u64 0, .int .u8 0, .int .u8 0, .int .u8 0, .int .u8 0, .int .u8 0, .int .u8 0, .int .u8 0, .int .u8 0, .int .u8 0, .int .u8 0, .int .u8 0, .int .u8 0, .int .u8 0, .int .u8 0, .int .u8 0, .int .u8 0] : Array Value).size) := Lib.hid (by show _ = _; rfl)
    have hone2 : Hid ((#[.int .u8 (k : Int), .int .u8 (f : Int), .int .u32 0, .int .u64 0, .int .u8 0, .int .u8 0, .int .u8 0, .int .u8 0, .int .u8 0, .int .u8 0, .int .u8 0, .int .u8 0, .int .u8 0, .int .u8 0, .int .u8 0, .int .u8 0, .int .u8 0, .int .u8 0, .int .u8 0, .int .u8 0] : Array Value).all (·.oneCell') = true) := Lib.hid (by show _ = _; kernel_rfl)
    have hr2 : Hid ((W.drew.alloc (.cells #[.int .u8 (k : Int), .int .u8 (f : Int), .int .u32 0, .int .u64 0, .int .u8 0, .int .u8 0, .int .u8 0, .int .u8 0, .int .u8 0, .int .u8 0, .int .u8 0, .int .u8 0, .int .u8 0, .int .u8 0, .int .u8 0, .int .u8 0, .int .u8 0, .int .u8 0, .int .u8 0, .int .u8 0] 26)).heap[w.heap.size + 1]? = some (.cells (Cm.mk k f 0 0 (List.replicate 16 0)).cs.toArray 26 (0, 0))) := Lib.hid (by rw [← hWG]; exact heap_alloc_new W.drew _)
    have hb2 : Hid (Below (w.heap.size + 1) W ((W.drew.alloc (.cells #[.int .u8 (k : Int), .int .u8 (f : Int), .int .u32 0, .int .u64 0, .int .u8 0, .int .u8 0, .int .u8 0, .int .u8 0, .int .u8 0, .int .u8 0, .int .u8 0, .int .u8 0, .int .u8 0, .int .u8 0, .int .u8 0, .int .u8 0, .int .u8 0, .int .u8 0, .int .u8 0, .int .u8 0] 26)))) := Lib.hid (((Below.refl (w.heap.size + 1) W).drew).alloc (by rw [World.size_drew]; omega) _)
    have hg2 : Hid (w.heap.size + 1 < (W.drew.alloc (.cells #[.int .u8 (k : Int), .int .u8 (f : Int), .int .u32 0, .int .u64 0, .int .u8 0, .int .u8 0, .int .u8 0, .int .u8 0, .int .u8 0, .int .u8 0, .int .u8 0, .int .u8 0, .int .u8 0, .int .u8 0, .int .u8 0, .int .u8 0, .int .u8 0, .int .u8 0, .int .u8 0, .int .u8 0] 26)).heap.size) := Lib.hid (by simp; omega)
    have hst : ∀ X : Array Value, (W.alloc (.cells #[.int .u8 0, .int .u8 0, .int .u32 0, .int .u64 0, .int .u8 0, .int .u8 0, .int .u8 0, .int .u8 0, .int .u8 0, .int .u8 0, .int .u8 0, .int .u8 0, .int .u8 0, .int .u8 0, .int .u8 0, .int .u8 0, .int .u8 0, .int .u8 0, .int .u8 0, .int .u8 0] 26)).drew.setRow (w.heap.size + 1) X = W.drew.alloc (.cells X 26) := fun X => (show (W.drew.alloc (.cells #[.int .u8 0, .int .u8 0, .int .u32 0, .int .u64 0, .int .u8 0, .int .u8 0, .int .u8 0, .int .u8 0, .int .u8 0, .int .u8 0, .int .u8 0, .int .u8 0, .int .u8 0, .int .u8 0, .int .u8 0, .int .u8 0, .int .u8 0, .int .u8 0, .int .u8 0, .int .u8 0] 26)).setRow (w.heap.size + 1) X = _ from by rw [← hWG]; exact World.setRow_alloc_new W.drew _ X _)
    have HSA : Hid ((W.drew.alloc (.cells #[.int .u8 0, .int .u8 0, .int .u32 0, .int .u64 0, .int .u8 0, .int .u8 0, .int .u8 0, .int .u8 0, .int .u8 0, .int .u8 0, .int .u8 0, .int .u8 0, .int .u8 0, .int .u8 0, .int .u8 0, .int .u8 0, .int .u8 0, .int .u8 0, .int .u8 0, .int .u8 0] 26)).cell? ⟨b, off, none⟩ = some (.int .u8 (k : Int)) ∧ (W.drew.alloc (.cells #[.int .u8 0, .int .u8 0, .int .u32 0, .int .u64 0, .int .u8 0, .int .u8 0, .int .u8 0, .int .u8 0, .int .u8 0, .int .u8 0, .int .u8 0, .int .u8 0, .int .u8 0, .int .u8 0, .int .u8 0, .int .u8 0, .int .u8 0, .int .u8 0, .int .u8 0, .int .u8 0] 26)).cell? ⟨b, off + 1, none⟩ = some (.int .u8 (f : Int))) := Lib.hid ⟨(((Below.refl W.heap.size W).drew.alloc (Nat.le_refl _) _).cell (p := ⟨b, off, none⟩) (by show b < _; omega)).trans h0, (((Below.refl W.heap.size W).drew.alloc (Nat.le_refl _) _).cell (p := ⟨b, off + 1, none⟩) (by show b < _; omega)).trans h1⟩
    have HSB : Hid ((W.drew.alloc (.cells #[.int .u8 (k : Int), .int .u8 (f : Int), .int .u32 0, .int .u64 0, .int .u8 0, .int .u8 0, .int .u8 0, .int .u8 0, .int .u8 0, .int .u8 0, .int .u8 0, .int .u8 0, .int .u8 0, .int .u8 0, .int .u8 0, .int .u8 0, .int .u8 0, .int .u8 0, .int .u8 0, .int .u8 0] 26)).cell? ⟨b, off, none⟩ = some (.int .u8 (k : Int)) ∧ (W.drew.alloc (.cells #[.int .u8 (k : Int), .int .u8 (f : Int), .int .u32 0, .int .u64 0, .int .u8 0, .int .u8 0, .int .u8 0, .int .u8 0, .int .u8 0, .int .u8 0, .int .u8 0, .int .u8 0, .int .u8 0, .int .u8 0, .int .u8 0, .int .u8 0, .int .u8 0, .int .u8 0, .int .u8 0, .int .u8 0] 26)).cell? ⟨b, off + 1, none⟩ = some (.int .u8 (f : Int))) := Lib.hid ⟨(((Below.refl W.heap.size W).drew.alloc (Nat.le_refl _) _).cell (p := ⟨b, off, none⟩) (by show b < _; omega)).trans h0, (((Below.refl W.heap.size W).drew.alloc (Nat.le_refl _) _).cell (p := ⟨b, off + 1, none⟩) (by show b < _; omega)).trans h1⟩
    go_wp2_with fail
    refine wp_region_held_drew (S := fun w' => w'.cell? ⟨b, off, none⟩ = some (.int .u8 (k : Int)) ∧ w'.cell? ⟨b, off + 1, none⟩ = some (.int .u8 (f : Int))) (by kernel_rfl) ?_ (fun hHeld => ?_)
    · exact ⟨h0, h1⟩
    refine takeD (i := 0) (oi := _) (d := some 12) (v := ?_) rfl (by kernel_rfl) (by kernel_rfl) (by kernel_rfl) (by kernel_rfl) (fun _ _ _ h => h) (Or.inl ⟨by kernel_rfl, ?_⟩) (by assumption) ?_
    rotate_left
    focus (intro w' hSw; (try dsimp only at hSw); go_simp <;> with_reducible rfl)
    try simp only [Act.put, List.setIfInBounds_toArray, List.set_cons_zero, List.set_cons_succ]
    refine takeD (i := 1) (oi := _) (d := some 13) (v := ?_) rfl (by kernel_rfl) (by kernel_rfl) (by kernel_rfl) (by kernel_rfl) (fun _ _ _ h => h) (Or.inl ⟨by kernel_rfl, ?_⟩) (by assumption) ?_
    rotate_left
    focus (intro w' hSw; (try dsimp only at hSw); go_simp <;> with_reducible rfl)
    try simp only [Act.put, List.setIfInBounds_toArray, List.set_cons_zero, List.set_cons_succ]
    refine takeD (i := 2) (oi := _) (d := some 14) (v := ?_) rfl (by kernel_rfl) (by kernel_rfl) (by kernel_rfl) (by kernel_rfl) (fun _ _ _ h => h) (Or.inl ⟨by kernel_rfl, ?_⟩) (by assumption) ?_
    rotate_left
    focus (intro w' hSw; (try dsimp only at hSw); go_simp <;> with_reducible rfl)
    try simp only [Act.put, List.setIfInBounds_toArray, List.set_cons_zero, List.set_cons_succ]
    refine takeD (i := 3) (oi := _) (d := some 15) (v := ?_) rfl (by kernel_rfl) (by kernel_rfl) (by kernel_rfl) (by kernel_rfl) (fun _ _ _ h => h) (Or.inl ⟨by kernel_rfl, ?_⟩) (by assumption) ?_
    rotate_left
    focus (intro w' hSw; (try dsimp only at hSw); go_simp <;> with_reducible rfl)
    try simp only [Act.put, List.setIfInBounds_toArray, List.set_cons_zero, List.set_cons_succ]
    refine takeD (i := 4) (oi := _) (d := some 16) (v := ?_) rfl (by kernel_rfl) (by kernel_rfl) (by kernel_rfl) (by kernel_rfl) (fun _ _ _ h => h) (Or.inl ⟨by kernel_rfl, ?_⟩) (by assumption) ?_
    rotate_left
    focus (intro w' hSw; (try dsimp only at hSw); go_simp <;> with_reducible rfl)
    try simp only [Act.put, List.setIfInBounds_toArray, List.set_cons_zero, List.set_cons_succ]
    refine takeD (i := 5) (oi := _) (d := some 17) (v := ?_) rfl (by kernel_rfl) (by kernel_rfl) (by kernel_rfl) (by kernel_rfl) (fun _ _ _ h => h) (Or.inl ⟨by kernel_rfl, ?_⟩) (by assumption) ?_
    rotate_left
    focus (intro w' hSw; (try dsimp only at hSw); go_simp <;> with_reducible rfl)
    try simp only [Act.put, List.setIfInBounds_toArray, List.set_cons_zero, List.set_cons_succ]
    refine takeD (i := 6) (oi := _) (d := some 18) (v := ?_) rfl (by kernel_rfl) (by kernel_rfl) (by kernel_rfl) (by kernel_rfl) (fun _ _ _ h => h) (Or.inl ⟨by kernel_rfl, ?_⟩) (by assumption) ?_
    rotate_left
    focus (intro w' hSw; (try dsimp only at hSw); go_simp <;> with_reducible rfl)
    try simp only [Act.put, List.setIfInBounds_toArray, List.set_cons_zero, List.set_cons_succ]
    refine wpAnyH_ready (rs := [7]) (by kernel_rfl) (by simp) ?_
    refine AllReadyH.cons (o := _) rfl (fun K hK => ?_) AllReadyH.nil
    go_simp
    refine hK.out _ _ ?_ (fun hHeld => ?_)
    · exact HSA.out
    clear hK K
    try simp only [Act.put, List.setIfInBounds_toArray, List.set_cons_zero, List.set_cons_succ]
    refine wpAnyH_ready (rs := [8]) (by kernel_rfl) (by simp) ?_
    refine AllReadyH.cons (o := _) rfl (fun K hK => ?_) AllReadyH.nil
    rw [if_pos (by kernel_rfl)]
    refine wp_store_row 26 (.tmp 4) (.tmp 18) rfl (w.heap.size + 1) #[.int .u8 (k : Int), .int .u8 (f : Int), .int .u32 0, .int .u64 0, .int .u8 0, .int .u8 0, .int .u8 0, .int .u8 0, .int .u8 0, .int .u8 0, .int .u8 0, .int .u8 0, .int .u8 0, .int .u8 0, .int .u8 0, .int .u8 0, .int .u8 0, .int .u8 0, .int .u8 0, .int .u8 0] rfl rfl 26 _ hz2.out hi2.out ho2.out hone2.out ?_
    rw [hst]
    refine hK.out _ _ ?_ (fun hHeld => ?_)
    · exact HSB.out
    clear hK K
    try simp only [Act.put, List.setIfInBounds_toArray, List.set_cons_zero, List.set_cons_succ]
    refine wpAnyH_done (by kernel_rfl) ?_ _
    clear hHeld HSA HSB
    generalize W.drew.alloc (.cells #[.int .u8 (k : Int), .int .u8 (f : Int), .int .u32 0, .int .u64 0, .int .u8 0, .int .u8 0, .int .u8 0, .int .u8 0, .int .u8 0, .int .u8 0, .int .u8 0, .int .u8 0, .int .u8 0, .int .u8 0, .int .u8 0, .int .u8 0, .int .u8 0, .int .u8 0, .int .u8 0, .int .u8 0] 26) = W2 at hr2 hb2 hg2 ⊢
    go_wp2_with fail
    clear h0 h1 hst
    clear hz2
    go_loopw [5] (fun i wr => ∃ j : Nat, j ≤ 4 ∧ i = .int .i64 ((2 + j : Nat) : Int) ∧ Hid (wr.heap[w.heap.size + 1]? = some (.cells (Cm.mk k f (getP 2 j l 2 j) 0 (List.replicate 16 0)).cs.toArray 26 (0, 0))) ∧ Hid (Below (w.heap.size + 1) W wr) ∧ Hid (w.heap.size + 1 < wr.heap.size)) (fun i _ => 6 - (intOf i).toNat)
    case atStart => exact ⟨0, Nat.zero_le _, rfl, hr2, hb2, hg2⟩
    case round =>
      obtain ⟨j, hj, rfl, hrow, hbe, hgz⟩ := hrel
      by_cases hlt : j < 4
      · obtain ⟨P, hP⟩ : ∃ P, P = getP 2 j l 2 j := ⟨_, rfl⟩
        obtain ⟨P', hP'⟩ : ∃ P', P' = getP 2 (j + 1) l 2 (j + 1) := ⟨_, rfl⟩
        have hP2 : P' = P * 256 + (l.getD (2 + j) 0).toNat := by rw [hP', hP, getP_next]
        have hPl : P' < 4294967296 := Nat.lt_of_lt_of_le (by rw [hP']; exact getP_lt 2 (j + 1) l 2 (j + 1)) (Nat.le_trans (Nat.pow_le_pow_right (by decide) (by omega : j + 1 ≤ 4)) (by decide))
        obtain ⟨x, hx⟩ : ∃ x, x = (l.getD (2 + j) 0).toNat := ⟨_, rfl⟩
        rw [← hx] at hP2
        have cb : wr.cell? ⟨b, off + (2 + j), none⟩ = some (.int .u8 (x : Int)) := by
          rw [hx]
          obtain ⟨b', off', e', hbl, h⟩ := HBS.out.cell (k := 2 + j) (by rw [HL.out]; omega)
          simp only [Option.some.injEq, Addr.mk.injEq] at e'
          obtain ⟨rfl, rfl, _⟩ := e'
          exact (hbe.out.cell (p := ⟨b, off + (2 + j), none⟩) (by show b < _; omega)).trans h
        rw [← hP] at hrow
        have cd : wr.cell? ⟨w.heap.size + 1, 2, none⟩ = some (.int .u32 (P : Int)) := by rw [cell_of_row _ _ 2 _ _ _ hrow.out]; rfl
        have fd : wr.frozen? ⟨w.heap.size + 1, 2, none⟩ = false := frozen_of_row _ _ _ _ _ hrow.out
        have w1 : IntKind.u32.wrap ((P : Int) * 256) = (P : Int) * 256 := by rw [IntKind.wrap_u32]; omega
        have w2 : IntKind.u32.wrap ((P : Int) * 256 + (x : Int)) = (P' : Int) := by rw [IntKind.wrap_u32]; omega
        have wx : IntKind.u32.wrap (x : Int) = (x : Int) := by rw [IntKind.wrap_u32]; omega
        have ei : ((2 + j : Nat) : Int) = 2 + (j : Int) := by omega
        have wi : IntKind.i64.wrap (((2 + j : Nat) : Int) + 1) = ((2 + (j + 1) : Nat) : Int) := by rw [IntKind.wrap_i64]; omega
        have l1 : decide (((2 + j : Nat) : Int) < 6) = true := by simp; omega
        have l2 : decide (0 ≤ ((2 + j : Nat) : Int)) = true := by simp; omega
        have hq := 2 + j
        obtain ⟨q, hq⟩ : ∃ q, q = 2 + j := ⟨_, rfl⟩
        rw [← hq] at cb wi l1 l2 ⊢
        have hq32 : q < 32 := by omega
        have hqi : (q : Int) < 32 := by omega
        have hq0 : (0 : Int) ≤ (q : Int) := by omega
        have HR := Lib.hid (show (wr.setCell ⟨w.heap.size + 1, 2, none⟩ (.int .u32 (P' : Int))).heap[w.heap.size + 1]? = some (.cells (Cm.mk k f P' 0 (List.replicate 16 0)).cs.toArray 26 (0, 0)) by rw [heap_setCell_same _ _ 2 _ _ _ hrow.out]; rfl)
        have HBN := Lib.hid (hbe.out.setCell (p := ⟨w.heap.size + 1, 2, none⟩) (by show _ ≤ w.heap.size + 1; omega) (.int .u32 (P' : Int)))
        have HQ := Lib.hid hq
        have HP' := Lib.hid hP'
        clear hP hP' hx hrow hbe hP2 hPl ei hq
        go_wp2_with fail
        go_still_tail 10, (by kernel_rfl)
        show wpList _ _ _ _ _ wr.drew
        go_wp2
        go_roundw
        case rel => exact ⟨j + 1, by omega, by first | rfl | go_num | (congr 1; omega), by rw [← HP'.out]; exact HR, Lib.hid HBN.out.drew, Lib.hid (by simpa using hgz.out)⟩
        case measure => have := HQ.out; simp [intOf]; omega
      · obtain rfl : j = 4 := by omega
        have e6 : ((2 + 4 : Nat) : Int) = 6 := by omega
        rw [e6]
        go_wp2_with fail
        go_loopw [6] (fun i wr => ∃ j : Nat, j ≤ 8 ∧ i = .int .i64 ((6 + j : Nat) : Int) ∧ Hid (wr.heap[w.heap.size + 1]? = some (.cells (Cm.mk k f (getP 2 4 l 2 4) (getP 2 j l 6 j) (List.replicate 16 0)).cs.toArray 26 (0, 0))) ∧ Hid (Below (w.heap.size + 1) W wr) ∧ Hid (w.heap.size + 1 < wr.heap.size)) (fun i _ => 14 - (intOf i).toNat)
        case atStart => exact ⟨0, Nat.zero_le _, rfl, hrow, hbe, hgz⟩
        case round =>
          obtain ⟨j, hj, rfl, hrow, hbe, hgz⟩ := hrel
          by_cases hlt : j < 8
          · obtain ⟨P, hP⟩ : ∃ P, P = getP 2 j l 6 j := ⟨_, rfl⟩
            obtain ⟨P', hP'⟩ : ∃ P', P' = getP 2 (j + 1) l 6 (j + 1) := ⟨_, rfl⟩
            have hP2 : P' = P * 256 + (l.getD (6 + j) 0).toNat := by rw [hP', hP, getP_next]
            have hPl : P' < 18446744073709551616 := Nat.lt_of_lt_of_le (by rw [hP']; exact getP_lt 2 (j + 1) l 6 (j + 1)) (Nat.le_trans (Nat.pow_le_pow_right (by decide) (by omega : j + 1 ≤ 8)) (by decide))
            obtain ⟨x, hx⟩ : ∃ x, x = (l.getD (6 + j) 0).toNat := ⟨_, rfl⟩
            rw [← hx] at hP2
            have cb : wr.cell? ⟨b, off + (6 + j), none⟩ = some (.int .u8 (x : Int)) := by
              rw [hx]
              obtain ⟨b', off', e', hbl, h⟩ := HBS.out.cell (k := 6 + j) (by rw [HL.out]; omega)
              simp only [Option.some.injEq, Addr.mk.injEq] at e'
              obtain ⟨rfl, rfl, _⟩ := e'
              exact (hbe.out.cell (p := ⟨b, off + (6 + j), none⟩) (by show b < _; omega)).trans h
            rw [← hP] at hrow
            have cd : wr.cell? ⟨w.heap.size + 1, 3, none⟩ = some (.int .u64 (P : Int)) := by rw [cell_of_row _ _ 3 _ _ _ hrow.out]; rfl
            have fd : wr.frozen? ⟨w.heap.size + 1, 3, none⟩ = false := frozen_of_row _ _ _ _ _ hrow.out
            have w1 : IntKind.u64.wrap ((P : Int) * 256) = (P : Int) * 256 := by rw [IntKind.wrap_u64]; omega
            have w2 : IntKind.u64.wrap ((P : Int) * 256 + (x : Int)) = (P' : Int) := by rw [IntKind.wrap_u64]; omega
            have wx : IntKind.u64.wrap (x : Int) = (x : Int) := by rw [IntKind.wrap_u64]; omega
            have ei : ((6 + j : Nat) : Int) = 6 + (j : Int) := by omega
            have wi : IntKind.i64.wrap (((6 + j : Nat) : Int) + 1) = ((6 + (j + 1) : Nat) : Int) := by rw [IntKind.wrap_i64]; omega
            have l1 : decide (((6 + j : Nat) : Int) < 14) = true := by simp; omega
            have l2 : decide (0 ≤ ((6 + j : Nat) : Int)) = true := by simp; omega
            have hq := 6 + j
            obtain ⟨q, hq⟩ : ∃ q, q = 6 + j := ⟨_, rfl⟩
            rw [← hq] at cb wi l1 l2 ⊢
            have hq32 : q < 32 := by omega
            have hqi : (q : Int) < 32 := by omega
            have hq0 : (0 : Int) ≤ (q : Int) := by omega
            have HR := Lib.hid (show (wr.setCell ⟨w.heap.size + 1, 3, none⟩ (.int .u64 (P' : Int))).heap[w.heap.size + 1]? = some (.cells (Cm.mk k f (getP 2 4 l 2 4) P' (List.replicate 16 0)).cs.toArray 26 (0, 0)) by rw [heap_setCell_same _ _ 3 _ _ _ hrow.out]; rfl)
            have HBN := Lib.hid (hbe.out.setCell (p := ⟨w.heap.size + 1, 3, none⟩) (by show _ ≤ w.heap.size + 1; omega) (.int .u64 (P' : Int)))
            have HQ := Lib.hid hq
            have HP' := Lib.hid hP'
            clear hP hP' hx hrow hbe hP2 hPl ei hq
            go_wp2_with fail
            go_still_tail 10, (by kernel_rfl)
            show wpList _ _ _ _ _ wr.drew
            go_wp2
            go_roundw
            case rel => exact ⟨j + 1, by omega, by first | rfl | go_num | (congr 1; omega), by rw [← HP'.out]; exact HR, Lib.hid HBN.out.drew, Lib.hid (by simpa using hgz.out)⟩
            case measure => have := HQ.out; simp [intOf]; omega
          · obtain rfl : j = 8 := by omega
            have e14 : ((6 + 8 : Nat) : Int) = 14 := by omega
            rw [e14]
            obtain ⟨M, hM⟩ : ∃ M, M = (l.drop 14).take 16 := ⟨_, rfl⟩
            have hMl : M.length = 16 := by rw [hM]; simp [HL.out]
            have hcmv : cm = Cm.mk k f (getP 2 4 l 2 4) (getP 2 8 l 6 8) M := by
              rw [HCM.out, cmdOf, hM, HK.out, HF.out]
              simp [getP, idx]
            obtain ⟨d, hd⟩ : ∃ d, d = getP 2 4 l 2 4 := ⟨_, rfl⟩
            obtain ⟨n, hn⟩ : ∃ n, n = getP 2 8 l 6 8 := ⟨_, rfl⟩
            rw [← hd, ← hn] at hrow hcmv
            have hok : cm.ok := by rw [HCM.out]; exact cmdOf_ok HL.out
            have CC := fun W => refcheck_any hok W
            rw [← HEE.out] at CC
            have hfm := fill_mark k f d n M hMl
            rw [← hcmv] at hfm
            have h1c := cs_one cm
            have hlen := Cm.len hok
            have hD2 := HDD.out
            obtain ⟨CS, hCS⟩ : ∃ CS, CS = cm.cs := ⟨_, rfl⟩
            rw [← hCS] at CC hfm h1c hlen hD2
            obtain ⟨CU, hCU⟩ : ∃ CU, CU = (Cm.mk k f d n (List.replicate 16 0)).cs := ⟨_, rfl⟩
            rw [← hCU] at hfm hrow
            have hul : CU.length = 20 := by rw [hCU]; rfl
            have cutM : ∀ W, (Instr.sliceAt 24 (.pointer (some ⟨w.heap.size + 1, 4, none⟩)) none none none).run Try.prog W = .ok (.slice (some ⟨w.heap.size + 1, 4, none⟩) 16 16) W := fun W => cut_mark W
            have hsrc : Hid (∀ (j : Nat) (x : Value), (M.map vb)[j]? = some x → wr.drew.cell? ((⟨b, off + 14, none⟩ : Addr).add j) = some x) := Lib.hid (fun j x hx => by
              rw [List.getElem?_map] at hx
              obtain ⟨z, hz, rfl⟩ := Option.map_eq_some_iff.1 hx
              obtain ⟨hj, rfl⟩ := List.getElem?_eq_some_iff.1 hz
              have hj16 : j < 16 := by rw [← hMl]; exact hj
              rw [add_none]
              obtain ⟨b', off', e', hbl, h⟩ := HBS.out.cell (k := 14 + j) (by rw [HL.out]; omega)
              simp only [Option.some.injEq, Addr.mk.injEq] at e'
              obtain ⟨rfl, rfl, _⟩ := e'
              have h2 := (hbe.out.cell (p := ⟨b, off + (14 + j), none⟩) (by show b < _; omega)).trans h
              rw [← Nat.add_assoc] at h2
              have e : (l.getD (14 + j) 0) = M[j] := by
                simp only [hM, List.getElem_take, List.getElem_drop]
                rw [List.getD_eq_getElem?_getD, List.getElem?_eq_getElem (by rw [HL.out]; omega)]
                rfl
              rw [e] at h2
              exact h2)
            have hX1 : Hid (∀ v ∈ M.map vb, v.oneCell' = true) := Lib.hid (vb_one _)
            have hXm : Hid ((M.map vb).length = Nat.min 16 16) := Lib.hid (by rw [List.length_map, hMl]; rfl)
            have hXf : Hid (4 + (M.map vb).length ≤ CU.toArray.size) := Lib.hid (by rw [List.length_map, hMl, List.size_toArray, hul]; decide)
            have hset : Hid ((CU.toArray.toList.take 4 ++ (M.map vb ++ CU.toArray.toList.drop (4 + (M.map vb).length))).toArray = CS.toArray) := Lib.hid (by rw [← hfm])
            have hone : Hid (CS.toArray.all (·.oneCell') = true) := Lib.hid (all_oneCell_toArray h1c)
            have hiC : Hid ((Try.prog.info? 26).map (·.size) = some CS.toArray.size) := Lib.hid (by rw [List.size_toArray, hlen]; kernel_rfl)
            have hoC : Hid ((#[.int .u8 0, .int .u8 0, .int .u32 0, .int .u64 0, .int .u8 0, .int .u8 0, .int .u8 0, .int .u8 0, .int .u8 0, .int .u8 0, .int .u8 0, .int .u8 0, .int .u8 0, .int .u8 0, .int .u8 0, .int .u8 0, .int .u8 0, .int .u8 0, .int .u8 0, .int .u8 0] : Array Value).size = CS.toArray.size) := Lib.hid (by show 20 = _; rw [List.size_toArray, hlen])
            have hrowD : Hid (wr.drew.heap[w.heap.size + 1]? = some (.cells CU.toArray 26 (0, 0))) := Lib.hid hrow.out
            have HCC := Lib.hid CC; have HD2 := Lib.hid hD2
            have hcut : ∀ W, (Instr.slice 28 (.slice (some ⟨b, off, none⟩) 32 c) (some (.int .i64 14)) (some (.int .i64 30)) none).run Try.prog W = .ok (.slice (some ⟨b, off + 14, none⟩) 16 (c - 14)) W := by
              obtain ⟨D', hD', hc'⟩ := cut_lh (A := some ⟨b, off, none⟩) (n := 32) (c := c) (l := 14) (h := 30) (by decide) (by omega)
              have e := hD' (by decide)
              rw [Option.map_some, add_none] at e
              subst e
              exact hc'
            have HBED := Lib.hid hbe.out.drew
            have hgz' := hgz.out
            clear hM hMl hcmv hd hn hok CC hfm h1c hlen hD2 hCS hCU hul hrow hbe
            go_wp2_with fail
            go_still_tail 4, (by kernel_rfl)
            show wpList _ _ _ _ _ wr.drew
            with_reducible refine wpList_copy_own rfl (.tmp 48) (.tmp 50) 28 28 rfl 5 Try.underlying28 u8size (w.heap.size + 1) 4 16 16 ⟨b, off + 14, none⟩ 16 (c - 14) rfl rfl CU.toArray 26 hrowD.out (M.map vb) hXm.out hsrc.out hXf.out hX1.out ?_
            rw [hset.out]
            have HX := Lib.hid (setRow_heap wr.drew (w.heap.size + 1) CU.toArray CS.toArray 26 _ hrowD.out)
            have HZX := Lib.hid ((setRow_other wr.drew (w.heap.size + 1) w.heap.size CS.toArray (by omega)).trans ((HBED.out.block w.heap.size (by omega)).trans hz.out))
            have HBX := Lib.hid (row_below (cs := CS.toArray) HBED.out (Nat.le_refl _))
            have hgx : w.heap.size + 1 < (wr.drew.setRow (w.heap.size + 1) CS.toArray).heap.size := (Array.getElem?_eq_some_iff.1 HX.out).1
            generalize wr.drew.setRow (w.heap.size + 1) CS.toArray = X at HX HZX HBX hgx ⊢
            have C4 := Lib.hid (HCC.out X)
            clear hrowD hsrc hset hXf hXm hX1 HBED cutM hcut HCC
            go_wp2_with (with_reducible refine wpList_load_row rfl 26 (.tmp 4) rfl (w.heap.size + 1) rfl 26 CS.toArray (0, 0) _ HX.out Try.underlying26 rfl hiC.out ?_)
            with_reducible refine (C4.out).mono ?_
            rintro e4 w4 ⟨rfl, hb4⟩
            have HZ4 := Lib.hid ((hb4.block w.heap.size (by omega)).trans HZX.out)
            have HR4 := Lib.hid ((hb4.block (w.heap.size + 1) hgx).trans HX.out)
            have HW4 := Lib.hid (HBX.out.trans (hb4.mono (Nat.le_of_lt hgx)))
            have HB4 := Lib.hid (HB0.out.trans (HW4.out.mono (by omega)))
            obtain ⟨x30, hx30⟩ : ∃ x, x = (l.getD 30 0).toNat := ⟨_, rfl⟩
            obtain ⟨x31, hx31⟩ : ∃ x, x = (l.getD 31 0).toNat := ⟨_, rfl⟩
            have c30 : w4.cell? ⟨b, off + 30, none⟩ = some (.int .u8 (x30 : Int)) := by
              rw [hx30]
              obtain ⟨b', off', e', hbl, h⟩ := HBS.out.cell (k := 30) (by rw [HL.out]; omega)
              simp only [Option.some.injEq, Addr.mk.injEq] at e'
              obtain ⟨rfl, rfl, _⟩ := e'
              exact (HW4.out.cell (p := ⟨b, off + 30, none⟩) (by show b < _; omega)).trans h
            have c31 : w4.cell? ⟨b, off + 31, none⟩ = some (.int .u8 (x31 : Int)) := by
              rw [hx31]
              obtain ⟨b', off', e', hbl, h⟩ := HBS.out.cell (k := 31) (by rw [HL.out]; omega)
              simp only [Option.some.injEq, Addr.mk.injEq] at e'
              obtain ⟨rfl, rfl, _⟩ := e'
              exact (HW4.out.cell (p := ⟨b, off + 31, none⟩) (by show b < _; omega)).trans h
            have HE2 : Hid (e = if x30 * 256 + x31 ≠ 0 ∧ ee ≠ 1 then 3 else ee) := Lib.hid (by rw [hx30, hx31]; exact HE.out)
            clear HE
            have HE := HE2
            clear hx30 hx31 hb4 HX HZX HBX C4
            by_cases he1 : ee = 1
            · subst he1
              have he : e = 1 := by rw [HE.out, if_neg (by simp)]
              subst he
              have hD : D = #[.int .u8 0, .int .u8 0, .int .u32 0, .int .u64 0, .int .u8 0, .int .u8 0, .int .u8 0, .int .u8 0, .int .u8 0, .int .u8 0, .int .u8 0, .int .u8 0, .int .u8 0, .int .u8 0, .int .u8 0, .int .u8 0, .int .u8 0, .int .u8 0, .int .u8 0, .int .u8 0] := by rw [HD2.out, if_neg (by decide)]
              subst hD
              go_wp2_with (with_reducible refine wpList_store_row rfl 26 (.tmp 2) (.tmp 70) rfl w.heap.size #[.int .u8 0, .int .u8 0, .int .u32 0, .int .u64 0, .int .u8 0, .int .u8 0, .int .u8 0, .int .u8 0, .int .u8 0, .int .u8 0, .int .u8 0, .int .u8 0, .int .u8 0, .int .u8 0, .int .u8 0, .int .u8 0, .int .u8 0, .int .u8 0, .int .u8 0, .int .u8 0] rfl rfl 26 _ HZ4.out hiZ.out rfl honeZ.out ?_)
              exact bodyPost_ret (results_cell_tmp rfl _ _ w.heap.size 26 #[.int .u8 0, .int .u8 0, .int .u32 0, .int .u64 0, .int .u8 0, .int .u8 0, .int .u8 0, .int .u8 0, .int .u8 0, .int .u8 0, .int .u8 0, .int .u8 0, .int .u8 0, .int .u8 0, .int .u8 0, .int .u8 0, .int .u8 0, .int .u8 0, .int .u8 0, .int .u8 0] (0, 0) _ _ rfl rfl (setRow_heap _ w.heap.size _ _ _ _ HZ4.out) Try.underlying26 rfl hiZ.out) rfl ⟨rfl, row_below HB4.out (Nat.le_refl _)⟩
            · have hn1 : (ee != 1) = true := by simpa using he1
              by_cases h30 : x30 = 0
              · subst h30
                by_cases h31 : x31 = 0
                · subst h31
                  by_cases he0 : ee = 0
                  · subst he0
                    have he : e = 0 := by rw [HE.out, if_neg (by simp)]
                    subst he
                    have hD : D = CS.toArray := by rw [HD2.out, if_pos rfl]
                    subst hD
                    go_wp2_with (first
                      | (with_reducible refine wpList_load_row rfl 26 (.tmp 4) rfl (w.heap.size + 1) rfl 26 CS.toArray (0, 0) _ HR4.out Try.underlying26 rfl hiC.out ?_)
                      | (with_reducible refine wpList_store_row rfl 26 (.tmp 2) (.tmp 72) rfl w.heap.size CS.toArray rfl rfl 26 _ HZ4.out hiC.out hoC.out hone.out ?_))
                    exact bodyPost_ret (results_cell_tmp rfl _ _ w.heap.size 26 CS.toArray (0, 0) _ _ rfl rfl (setRow_heap _ w.heap.size _ _ _ _ HZ4.out) Try.underlying26 rfl hiC.out) rfl ⟨rfl, row_below HB4.out (Nat.le_refl _)⟩
                  · have hn0 : (ee != 0) = true := by simpa using he0
                    have he : e = ee := by rw [HE.out, if_neg (by simp)]
                    subst he
                    have hD : D = #[.int .u8 0, .int .u8 0, .int .u32 0, .int .u64 0, .int .u8 0, .int .u8 0, .int .u8 0, .int .u8 0, .int .u8 0, .int .u8 0, .int .u8 0, .int .u8 0, .int .u8 0, .int .u8 0, .int .u8 0, .int .u8 0, .int .u8 0, .int .u8 0, .int .u8 0, .int .u8 0] := by rw [HD2.out, if_neg (he0)]
                    subst hD
                    go_wp2_with (with_reducible refine wpList_store_row rfl 26 (.tmp 2) (.tmp 70) rfl w.heap.size #[.int .u8 0, .int .u8 0, .int .u32 0, .int .u64 0, .int .u8 0, .int .u8 0, .int .u8 0, .int .u8 0, .int .u8 0, .int .u8 0, .int .u8 0, .int .u8 0, .int .u8 0, .int .u8 0, .int .u8 0, .int .u8 0, .int .u8 0, .int .u8 0, .int .u8 0, .int .u8 0] rfl rfl 26 _ HZ4.out hiZ.out rfl honeZ.out ?_)
                    exact bodyPost_ret (results_cell_tmp rfl _ _ w.heap.size 26 #[.int .u8 0, .int .u8 0, .int .u32 0, .int .u64 0, .int .u8 0, .int .u8 0, .int .u8 0, .int .u8 0, .int .u8 0, .int .u8 0, .int .u8 0, .int .u8 0, .int .u8 0, .int .u8 0, .int .u8 0, .int .u8 0, .int .u8 0, .int .u8 0, .int .u8 0, .int .u8 0] (0, 0) _ _ rfl rfl (setRow_heap _ w.heap.size _ _ _ _ HZ4.out) Try.underlying26 rfl hiZ.out) rfl ⟨rfl, row_below HB4.out (Nat.le_refl _)⟩
                · have hn31 : ((x31 : Int) != 0) = true := by simp; omega
                  have he : e = 3 := by rw [HE.out, if_pos ⟨by omega, he1⟩]
                  subst he
                  have hD : D = #[.int .u8 0, .int .u8 0, .int .u32 0, .int .u64 0, .int .u8 0, .int .u8 0, .int .u8 0, .int .u8 0, .int .u8 0, .int .u8 0, .int .u8 0, .int .u8 0, .int .u8 0, .int .u8 0, .int .u8 0, .int .u8 0, .int .u8 0, .int .u8 0, .int .u8 0, .int .u8 0] := by rw [HD2.out, if_neg (by decide)]
                  subst hD
                  go_wp2_with (with_reducible refine wpList_store_row rfl 26 (.tmp 2) (.tmp 70) rfl w.heap.size #[.int .u8 0, .int .u8 0, .int .u32 0, .int .u64 0, .int .u8 0, .int .u8 0, .int .u8 0, .int .u8 0, .int .u8 0, .int .u8 0, .int .u8 0, .int .u8 0, .int .u8 0, .int .u8 0, .int .u8 0, .int .u8 0, .int .u8 0, .int .u8 0, .int .u8 0, .int .u8 0] rfl rfl 26 _ HZ4.out hiZ.out rfl honeZ.out ?_)
                  exact bodyPost_ret (results_cell_tmp rfl _ _ w.heap.size 26 #[.int .u8 0, .int .u8 0, .int .u32 0, .int .u64 0, .int .u8 0, .int .u8 0, .int .u8 0, .int .u8 0, .int .u8 0, .int .u8 0, .int .u8 0, .int .u8 0, .int .u8 0, .int .u8 0, .int .u8 0, .int .u8 0, .int .u8 0, .int .u8 0, .int .u8 0, .int .u8 0] (0, 0) _ _ rfl rfl (setRow_heap _ w.heap.size _ _ _ _ HZ4.out) Try.underlying26 rfl hiZ.out) rfl ⟨rfl, row_below HB4.out (Nat.le_refl _)⟩
              · have hn30 : ((x30 : Int) != 0) = true := by simp; omega
                have he : e = 3 := by rw [HE.out, if_pos ⟨by omega, he1⟩]
                subst he
                have hD : D = #[.int .u8 0, .int .u8 0, .int .u32 0, .int .u64 0, .int .u8 0, .int .u8 0, .int .u8 0, .int .u8 0, .int .u8 0, .int .u8 0, .int .u8 0, .int .u8 0, .int .u8 0, .int .u8 0, .int .u8 0, .int .u8 0, .int .u8 0, .int .u8 0, .int .u8 0, .int .u8 0] := by rw [HD2.out, if_neg (by decide)]
                subst hD
                go_wp2_with (with_reducible refine wpList_store_row rfl 26 (.tmp 2) (.tmp 70) rfl w.heap.size #[.int .u8 0, .int .u8 0, .int .u32 0, .int .u64 0, .int .u8 0, .int .u8 0, .int .u8 0, .int .u8 0, .int .u8 0, .int .u8 0, .int .u8 0, .int .u8 0, .int .u8 0, .int .u8 0, .int .u8 0, .int .u8 0, .int .u8 0, .int .u8 0, .int .u8 0, .int .u8 0] rfl rfl 26 _ HZ4.out hiZ.out rfl honeZ.out ?_)
                exact bodyPost_ret (results_cell_tmp rfl _ _ w.heap.size 26 #[.int .u8 0, .int .u8 0, .int .u32 0, .int .u64 0, .int .u8 0, .int .u8 0, .int .u8 0, .int .u8 0, .int .u8 0, .int .u8 0, .int .u8 0, .int .u8 0, .int .u8 0, .int .u8 0, .int .u8 0, .int .u8 0, .int .u8 0, .int .u8 0, .int .u8 0, .int .u8 0] (0, 0) _ _ rfl rfl (setRow_heap _ w.heap.size _ _ _ _ HZ4.out) Try.underlying26 rfl hiZ.out) rfl ⟨rfl, row_below HB4.out (Nat.le_refl _)⟩
  · have he2 : e = 2 := by rw [he, decE, if_pos hl]
    have hD2 : D = #[.int .u8 0, .int .u8 0, .int .u32 0, .int .u64 0, .int .u8 0, .int .u8 0, .int .u8 0, .int .u8 0, .int .u8 0, .int .u8 0, .int .u8 0, .int .u8 0, .int .u8 0, .int .u8 0, .int .u8 0, .int .u8 0, .int .u8 0, .int .u8 0, .int .u8 0, .int .u8 0] := by rw [hD, decC, ← he, he2]; rfl
    subst hD2
    subst he2
    have hln : ((l.length : Int) != 32) = true := by simp; omega
    have HB4 := HB0
    have HZ4 := hz
    have hl64 : l.length ≤ 9223372036854775807 := by
      obtain ⟨A', c', hv, h1, h2, _⟩ := hb
      unfold maxLen at h2
      omega
    clear he hD hb hb1
    go_enter Try.func17, Try.ntmps17
    go_upto_region 1 with fail
    generalize w.alloc (.cells #[.int .u8 0, .int .u8 0, .int .u32 0, .int .u64 0, .int .u8 0, .int .u8 0, .int .u8 0, .int .u8 0, .int .u8 0, .int .u8 0, .int .u8 0, .int .u8 0, .int .u8 0, .int .u8 0, .int .u8 0, .int .u8 0, .int .u8 0, .int .u8 0, .int .u8 0, .int .u8 0] 26) = W at HB0 hz hsz0 HB4 HZ4 ⊢
    go_wp2_with (with_reducible refine wpList_store_row rfl 26 (.tmp 2) (.tmp 11) rfl w.heap.size #[.int .u8 0, .int .u8 0, .int .u32 0, .int .u64 0, .int .u8 0, .int .u8 0, .int .u8 0, .int .u8 0, .int .u8 0, .int .u8 0, .int .u8 0, .int .u8 0, .int .u8 0, .int .u8 0, .int .u8 0, .int .u8 0, .int .u8 0, .int .u8 0, .int .u8 0, .int .u8 0] rfl rfl 26 _ HZ4.out hiZ.out rfl honeZ.out ?_)
    exact bodyPost_ret (results_cell_tmp rfl _ _ w.heap.size 26 #[.int .u8 0, .int .u8 0, .int .u32 0, .int .u64 0, .int .u8 0, .int .u8 0, .int .u8 0, .int .u8 0, .int .u8 0, .int .u8 0, .int .u8 0, .int .u8 0, .int .u8 0, .int .u8 0, .int .u8 0, .int .u8 0, .int .u8 0, .int .u8 0, .int .u8 0, .int .u8 0] (0, 0) _ _ rfl rfl (setRow_heap _ w.heap.size _ _ _ _ HZ4.out) Try.underlying26 rfl hiZ.out) rfl ⟨rfl, row_below HB4.out (Nat.le_refl _)⟩
end Go.Proofs.Yteonidpgplhplaa
