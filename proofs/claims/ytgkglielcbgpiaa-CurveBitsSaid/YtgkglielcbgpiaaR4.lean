/- The reference's Norm. -/
import Derived.Test.YtgkglielcbgpiaaR3
namespace Go.Proofs.Ytgkglielcbgpiaa
open Go.RowKit

theorem nvL (V : Nat) : nvA V = #[.int .u32 (dig (V) 0 : Int), .int .u32 (dig (V) 1 : Int), .int .u32 (dig (V) 2 : Int), .int .u32 (dig (V) 3 : Int), .int .u32 (dig (V) 4 : Int), .int .u32 (dig (V) 5 : Int), .int .u32 (dig (V) 6 : Int), .int .u32 (dig (V) 7 : Int)] := rfl
theorem rprime8 (w : World) : Calls Try.prog 51 #[] w fun e w' => e = .returned (.agg #[.int .u32 (dig (PP) 0 : Int), .int .u32 (dig (PP) 1 : Int), .int .u32 (dig (PP) 2 : Int), .int .u32 (dig (PP) 3 : Int), .int .u32 (dig (PP) 4 : Int), .int .u32 (dig (PP) 5 : Int), .int .u32 (dig (PP) 6 : Int), .int .u32 (dig (PP) 7 : Int)]) ∧ Below w.heap.size w w' := primeE w
theorem rminus8 {V U : Nat} (hV : V < W4) (hU : U < W4) (w : World) : Calls Try.prog 50 #[.agg #[.int .u32 (dig (V) 0 : Int), .int .u32 (dig (V) 1 : Int), .int .u32 (dig (V) 2 : Int), .int .u32 (dig (V) 3 : Int), .int .u32 (dig (V) 4 : Int), .int .u32 (dig (V) 5 : Int), .int .u32 (dig (V) 6 : Int), .int .u32 (dig (V) 7 : Int)], .agg #[.int .u32 (dig (U) 0 : Int), .int .u32 (dig (U) 1 : Int), .int .u32 (dig (U) 2 : Int), .int .u32 (dig (U) 3 : Int), .int .u32 (dig (U) 4 : Int), .int .u32 (dig (U) 5 : Int), .int .u32 (dig (U) 6 : Int), .int .u32 (dig (U) 7 : Int)]] w fun e w' => e = .returned (.tuple #[.agg #[.int .u32 (dig (miN V U) 0 : Int), .int .u32 (dig (miN V U) 1 : Int), .int .u32 (dig (miN V U) 2 : Int), .int .u32 (dig (miN V U) 3 : Int), .int .u32 (dig (miN V U) 4 : Int), .int .u32 (dig (miN V U) 5 : Int), .int .u32 (dig (miN V U) 6 : Int), .int .u32 (dig (miN V U) 7 : Int)], .bool (boN V U == 1)]) ∧ Below w.heap.size w w' := rminusE hV hU w
/-- block g holds the digits of V -/
structure E8 (w : World) (g V : Nat) : Prop where
  c0 : w.cell? ⟨g, 0, none⟩ = some (.int .u32 (dig (V) 0 : Int))
  c1 : w.cell? ⟨g, 1, none⟩ = some (.int .u32 (dig (V) 1 : Int))
  c2 : w.cell? ⟨g, 2, none⟩ = some (.int .u32 (dig (V) 2 : Int))
  c3 : w.cell? ⟨g, 3, none⟩ = some (.int .u32 (dig (V) 3 : Int))
  c4 : w.cell? ⟨g, 4, none⟩ = some (.int .u32 (dig (V) 4 : Int))
  c5 : w.cell? ⟨g, 5, none⟩ = some (.int .u32 (dig (V) 5 : Int))
  c6 : w.cell? ⟨g, 6, none⟩ = some (.int .u32 (dig (V) 6 : Int))
  c7 : w.cell? ⟨g, 7, none⟩ = some (.int .u32 (dig (V) 7 : Int))
  f0 : w.frozen? ⟨g, 0, none⟩ = false
  f1 : w.frozen? ⟨g, 1, none⟩ = false
  f2 : w.frozen? ⟨g, 2, none⟩ = false
  f3 : w.frozen? ⟨g, 3, none⟩ = false
  f4 : w.frozen? ⟨g, 4, none⟩ = false
  f5 : w.frozen? ⟨g, 5, none⟩ = false
  f6 : w.frozen? ⟨g, 6, none⟩ = false
  f7 : w.frozen? ⟨g, 7, none⟩ = false
/-- block g holds eight noughts -/
structure E8z (w : World) (g : Nat) : Prop where
  c0 : w.cell? ⟨g, 0, none⟩ = some (.int .u32 0)
  c1 : w.cell? ⟨g, 1, none⟩ = some (.int .u32 0)
  c2 : w.cell? ⟨g, 2, none⟩ = some (.int .u32 0)
  c3 : w.cell? ⟨g, 3, none⟩ = some (.int .u32 0)
  c4 : w.cell? ⟨g, 4, none⟩ = some (.int .u32 0)
  c5 : w.cell? ⟨g, 5, none⟩ = some (.int .u32 0)
  c6 : w.cell? ⟨g, 6, none⟩ = some (.int .u32 0)
  c7 : w.cell? ⟨g, 7, none⟩ = some (.int .u32 0)
  f0 : w.frozen? ⟨g, 0, none⟩ = false
  f1 : w.frozen? ⟨g, 1, none⟩ = false
  f2 : w.frozen? ⟨g, 2, none⟩ = false
  f3 : w.frozen? ⟨g, 3, none⟩ = false
  f4 : w.frozen? ⟨g, 4, none⟩ = false
  f5 : w.frozen? ⟨g, 5, none⟩ = false
  f6 : w.frozen? ⟨g, 6, none⟩ = false
  f7 : w.frozen? ⟨g, 7, none⟩ = false
theorem E8.below {w w' : World} {g V B : Nat} (h : E8 w g V) (hb : Below B w w') (hg : g < B) : E8 w' g V :=
  ⟨(hb.cell (p := ⟨g, 0, none⟩) hg).trans h.c0, (hb.cell (p := ⟨g, 1, none⟩) hg).trans h.c1, (hb.cell (p := ⟨g, 2, none⟩) hg).trans h.c2, (hb.cell (p := ⟨g, 3, none⟩) hg).trans h.c3, (hb.cell (p := ⟨g, 4, none⟩) hg).trans h.c4, (hb.cell (p := ⟨g, 5, none⟩) hg).trans h.c5, (hb.cell (p := ⟨g, 6, none⟩) hg).trans h.c6, (hb.cell (p := ⟨g, 7, none⟩) hg).trans h.c7,
   (hb.frozen (p := ⟨g, 0, none⟩) hg).trans h.f0, (hb.frozen (p := ⟨g, 1, none⟩) hg).trans h.f1, (hb.frozen (p := ⟨g, 2, none⟩) hg).trans h.f2, (hb.frozen (p := ⟨g, 3, none⟩) hg).trans h.f3, (hb.frozen (p := ⟨g, 4, none⟩) hg).trans h.f4, (hb.frozen (p := ⟨g, 5, none⟩) hg).trans h.f5, (hb.frozen (p := ⟨g, 6, none⟩) hg).trans h.f6, (hb.frozen (p := ⟨g, 7, none⟩) hg).trans h.f7⟩
theorem E8z.below {w w' : World} {g B : Nat} (h : E8z w g) (hb : Below B w w') (hg : g < B) : E8z w' g :=
  ⟨(hb.cell (p := ⟨g, 0, none⟩) hg).trans h.c0, (hb.cell (p := ⟨g, 1, none⟩) hg).trans h.c1, (hb.cell (p := ⟨g, 2, none⟩) hg).trans h.c2, (hb.cell (p := ⟨g, 3, none⟩) hg).trans h.c3, (hb.cell (p := ⟨g, 4, none⟩) hg).trans h.c4, (hb.cell (p := ⟨g, 5, none⟩) hg).trans h.c5, (hb.cell (p := ⟨g, 6, none⟩) hg).trans h.c6, (hb.cell (p := ⟨g, 7, none⟩) hg).trans h.c7,
   (hb.frozen (p := ⟨g, 0, none⟩) hg).trans h.f0, (hb.frozen (p := ⟨g, 1, none⟩) hg).trans h.f1, (hb.frozen (p := ⟨g, 2, none⟩) hg).trans h.f2, (hb.frozen (p := ⟨g, 3, none⟩) hg).trans h.f3, (hb.frozen (p := ⟨g, 4, none⟩) hg).trans h.f4, (hb.frozen (p := ⟨g, 5, none⟩) hg).trans h.f5, (hb.frozen (p := ⟨g, 6, none⟩) hg).trans h.f6, (hb.frozen (p := ⟨g, 7, none⟩) hg).trans h.f7⟩
theorem E8.new (w : World) (V : Nat) : E8 (w.alloc (.cells #[.int .u32 (dig (V) 0 : Int), .int .u32 (dig (V) 1 : Int), .int .u32 (dig (V) 2 : Int), .int .u32 (dig (V) 3 : Int), .int .u32 (dig (V) 4 : Int), .int .u32 (dig (V) 5 : Int), .int .u32 (dig (V) 6 : Int), .int .u32 (dig (V) 7 : Int)] 34)) w.heap.size V := by constructor <;> simp [go_sem]
theorem E8z.new (w : World) : E8z (w.alloc (.cells #[.int .u32 0, .int .u32 0, .int .u32 0, .int .u32 0, .int .u32 0, .int .u32 0, .int .u32 0, .int .u32 0] 34)) w.heap.size := by constructor <;> simp [go_sem]
theorem undrew {a w : World} (h : Below a.drew.heap.size a.drew w) : Below a.heap.size a w := ⟨h.os, h.tape, h.output, h.size, h.block⟩
theorem set8_e8 {w : World} {g : Nat} (h : E8z w g) (V : Nat) : E8 (((((((((w).setCell ⟨g, 0, none⟩ (.int .u32 (dig (V) 0 : Int))).setCell ⟨g, 1, none⟩ (.int .u32 (dig (V) 1 : Int))).setCell ⟨g, 2, none⟩ (.int .u32 (dig (V) 2 : Int))).setCell ⟨g, 3, none⟩ (.int .u32 (dig (V) 3 : Int))).setCell ⟨g, 4, none⟩ (.int .u32 (dig (V) 4 : Int))).setCell ⟨g, 5, none⟩ (.int .u32 (dig (V) 5 : Int))).setCell ⟨g, 6, none⟩ (.int .u32 (dig (V) 6 : Int))).setCell ⟨g, 7, none⟩ (.int .u32 (dig (V) 7 : Int))) g V := by
  obtain ⟨c0, c1, c2, c3, c4, c5, c6, c7, f0, f1, f2, f3, f4, f5, f6, f7⟩ := h
  constructor <;> simp [go_sem, *]
theorem set8_set {w : World} {g U : Nat} (h : E8 w g U) (V : Nat) : E8 (((((((((w).setCell ⟨g, 0, none⟩ (.int .u32 (dig (V) 0 : Int))).setCell ⟨g, 1, none⟩ (.int .u32 (dig (V) 1 : Int))).setCell ⟨g, 2, none⟩ (.int .u32 (dig (V) 2 : Int))).setCell ⟨g, 3, none⟩ (.int .u32 (dig (V) 3 : Int))).setCell ⟨g, 4, none⟩ (.int .u32 (dig (V) 4 : Int))).setCell ⟨g, 5, none⟩ (.int .u32 (dig (V) 5 : Int))).setCell ⟨g, 6, none⟩ (.int .u32 (dig (V) 6 : Int))).setCell ⟨g, 7, none⟩ (.int .u32 (dig (V) 7 : Int))) g V := by
  obtain ⟨c0, c1, c2, c3, c4, c5, c6, c7, f0, f1, f2, f3, f4, f5, f6, f7⟩ := h
  constructor <;> simp [go_sem, *]
theorem set8_below {B : Nat} {a w : World} (h : Below B a w) {g : Nat} (hg : B ≤ g) (V : Nat) : Below B a (((((((((w).setCell ⟨g, 0, none⟩ (.int .u32 (dig (V) 0 : Int))).setCell ⟨g, 1, none⟩ (.int .u32 (dig (V) 1 : Int))).setCell ⟨g, 2, none⟩ (.int .u32 (dig (V) 2 : Int))).setCell ⟨g, 3, none⟩ (.int .u32 (dig (V) 3 : Int))).setCell ⟨g, 4, none⟩ (.int .u32 (dig (V) 4 : Int))).setCell ⟨g, 5, none⟩ (.int .u32 (dig (V) 5 : Int))).setCell ⟨g, 6, none⟩ (.int .u32 (dig (V) 6 : Int))).setCell ⟨g, 7, none⟩ (.int .u32 (dig (V) 7 : Int))) :=
  (((((((h.setCell hg _).setCell hg _).setCell hg _).setCell hg _).setCell hg _).setCell hg _).setCell hg _).setCell hg _
theorem set8_cell {w : World} {g : Nat} {p : Addr} (hp : p.block ≠ g) (V : Nat) : ((((((((((w).setCell ⟨g, 0, none⟩ (.int .u32 (dig (V) 0 : Int))).setCell ⟨g, 1, none⟩ (.int .u32 (dig (V) 1 : Int))).setCell ⟨g, 2, none⟩ (.int .u32 (dig (V) 2 : Int))).setCell ⟨g, 3, none⟩ (.int .u32 (dig (V) 3 : Int))).setCell ⟨g, 4, none⟩ (.int .u32 (dig (V) 4 : Int))).setCell ⟨g, 5, none⟩ (.int .u32 (dig (V) 5 : Int))).setCell ⟨g, 6, none⟩ (.int .u32 (dig (V) 6 : Int))).setCell ⟨g, 7, none⟩ (.int .u32 (dig (V) 7 : Int)))).cell? p = w.cell? p := by
  have h : ∀ (Y : World) (i : Nat) (u : Value), (Y.setCell ⟨g, i, none⟩ u).cell? p = Y.cell? p := fun Y i u => World.cell?_setCell_far Y ⟨g, i, none⟩ p u (by show g ≠ p.block; exact fun e => hp e.symm)
  rw [h, h, h, h, h, h, h, h]
theorem set8_frozen {w : World} {g : Nat} {p : Addr} (V : Nat) : ((((((((((w).setCell ⟨g, 0, none⟩ (.int .u32 (dig (V) 0 : Int))).setCell ⟨g, 1, none⟩ (.int .u32 (dig (V) 1 : Int))).setCell ⟨g, 2, none⟩ (.int .u32 (dig (V) 2 : Int))).setCell ⟨g, 3, none⟩ (.int .u32 (dig (V) 3 : Int))).setCell ⟨g, 4, none⟩ (.int .u32 (dig (V) 4 : Int))).setCell ⟨g, 5, none⟩ (.int .u32 (dig (V) 5 : Int))).setCell ⟨g, 6, none⟩ (.int .u32 (dig (V) 6 : Int))).setCell ⟨g, 7, none⟩ (.int .u32 (dig (V) 7 : Int)))).frozen? p = w.frozen? p := by
  rw [World.frozen?_setCell, World.frozen?_setCell, World.frozen?_setCell, World.frozen?_setCell, World.frozen?_setCell, World.frozen?_setCell, World.frozen?_setCell, World.frozen?_setCell]
theorem E8z.far {w : World} {g h : Nat} (k : E8z w h) (hn : h ≠ g) (V : Nat) : E8z (((((((((w).setCell ⟨g, 0, none⟩ (.int .u32 (dig (V) 0 : Int))).setCell ⟨g, 1, none⟩ (.int .u32 (dig (V) 1 : Int))).setCell ⟨g, 2, none⟩ (.int .u32 (dig (V) 2 : Int))).setCell ⟨g, 3, none⟩ (.int .u32 (dig (V) 3 : Int))).setCell ⟨g, 4, none⟩ (.int .u32 (dig (V) 4 : Int))).setCell ⟨g, 5, none⟩ (.int .u32 (dig (V) 5 : Int))).setCell ⟨g, 6, none⟩ (.int .u32 (dig (V) 6 : Int))).setCell ⟨g, 7, none⟩ (.int .u32 (dig (V) 7 : Int))) h :=
  ⟨(set8_cell hn V).trans k.c0, (set8_cell hn V).trans k.c1, (set8_cell hn V).trans k.c2, (set8_cell hn V).trans k.c3, (set8_cell hn V).trans k.c4, (set8_cell hn V).trans k.c5, (set8_cell hn V).trans k.c6, (set8_cell hn V).trans k.c7,
   (set8_frozen V).trans k.f0, (set8_frozen V).trans k.f1, (set8_frozen V).trans k.f2, (set8_frozen V).trans k.f3, (set8_frozen V).trans k.f4, (set8_frozen V).trans k.f5, (set8_frozen V).trans k.f6, (set8_frozen V).trans k.f7⟩
/-- what a round of Norm leaves -/
structure NoP (w : World) (V : Nat) (wx : World) : Prop where
  a : E8 wx w.heap.size V
  z : E8z wx (w.heap.size + 1)
  b : Below w.heap.size w wx
  h : w.heap.size + 1 < wx.heap.size
structure NoC (w : World) (D : Nat) (b : Bool) (V : Nat) (s3 s4 : Value) (wx : World) : Prop where
  g : ∃ g, s3 = .pointer (some ⟨g, 0, none⟩) ∧ w.heap.size + 1 < g ∧ E8 wx g D
  s : s4 = .bool b
  p : NoP w V wx
/-- the number that block g holds -/
def readN (w : World) (g : Nat) : Nat := valD (fun i => match w.cell? ⟨g, i, none⟩ with | some (.int _ x) => x.toNat | _ => 0) 8
theorem readN_of {w : World} {g V : Nat} (h : E8 w g V) (hV : V < W4) : readN w g = V := by
  unfold readN
  refine Eq.trans (valD_ext ?_) (nv_val hV)
  intro i hi
  rcases (by omega : i = 0 ∨ i = 1 ∨ i = 2 ∨ i = 3 ∨ i = 4 ∨ i = 5 ∨ i = 6 ∨ i = 7) with rfl | rfl | rfl | rfl | rfl | rfl | rfl | rfl
  · rw [h.c0]; exact Int.toNat_natCast _
  · rw [h.c1]; exact Int.toNat_natCast _
  · rw [h.c2]; exact Int.toNat_natCast _
  · rw [h.c3]; exact Int.toNat_natCast _
  · rw [h.c4]; exact Int.toNat_natCast _
  · rw [h.c5]; exact Int.toNat_natCast _
  · rw [h.c6]; exact Int.toNat_natCast _
  · rw [h.c7]; exact Int.toNat_natCast _

set_option maxRecDepth 100000 in
set_option maxHeartbeats 4000000 in
theorem rnormE {V : Nat} (hV : V < W4) (w : World) : Calls Try.prog 19 #[.agg #[.int .u32 (dig (V) 0 : Int), .int .u32 (dig (V) 1 : Int), .int .u32 (dig (V) 2 : Int), .int .u32 (dig (V) 3 : Int), .int .u32 (dig (V) 4 : Int), .int .u32 (dig (V) 5 : Int), .int .u32 (dig (V) 6 : Int), .int .u32 (dig (V) 7 : Int)]] w fun e w' => e = .returned (.agg #[.int .u32 (dig (V % PP) 0 : Int), .int .u32 (dig (V % PP) 1 : Int), .int .u32 (dig (V % PP) 2 : Int), .int .u32 (dig (V % PP) 3 : Int), .int .u32 (dig (V % PP) 4 : Int), .int .u32 (dig (V % PP) 5 : Int), .int .u32 (dig (V % PP) 6 : Int), .int .u32 (dig (V % PP) 7 : Int)]) ∧ Below w.heap.size w w' := by
  have HV := Lib.hid hV
  obtain ⟨N, hN⟩ : ∃ N, N = V % PP := ⟨_, rfl⟩
  rw [← hN]
  have HN := Lib.hid hN
  have C1 := Lib.hid rprime8
  clear hV hN
  go_enter Try.func19, Try.ntmps19
  go_wp2_with fail
  go_loopw [] (fun wr => ∃ U : Nat, Hid (U < W4 ∧ U % PP = N) ∧ Hid (Below w.heap.size w wr) ∧ Hid (E8 wr w.heap.size U) ∧ Hid (E8z wr (w.heap.size + 1))) (fun wr => readN wr w.heap.size)
  case atStart =>
    refine ⟨V, Lib.hid ⟨HV.out, HN.out.symm⟩, Lib.hid (((Below.refl _ _).alloc (Nat.le_refl _) _).alloc (by simp) _), Lib.hid ?_, Lib.hid ?_⟩
    · constructor <;> simp [go_sem]
    · constructor <;> simp [go_sem]
  case round =>
    obtain ⟨U, hU, hbe, hr, hz⟩ := hrel
    have y1 : w.heap.size + 1 < wr.heap.size := World.block_lt_of_cell? wr ⟨w.heap.size + 1, 0, none⟩ hz.out.c0
    have y0 : w.heap.size < wr.heap.size := by omega
    have q0 := y0
    have q1 := y1
    have C2 := Lib.hid (fun W => rminus8 hU.out.1 PP_lt W)
    have HBE := hbe
    obtain ⟨c0, c1, c2, c3, c4, c5, c6, c7, f0, f1, f2, f3, f4, f5, f6, f7⟩ := hr.out
    obtain ⟨d0, d1, d2, d3, d4, d5, d6, d7, k0, k1, k2, k3, k4, k5, k6, k7⟩ := hz.out
    go_upto_region 1 with fail
    go_cut [3, 4] (fun s3 s4 wx => NoC w (miN U PP) (boN U PP == 1) U s3 s4 wx)
    case first =>
      go_region_held3 (fun w' => w'.cell? ⟨w.heap.size, 0, none⟩ = some (.int .u32 (dig U 0 : Int)) ∧ w'.cell? ⟨w.heap.size, 1, none⟩ = some (.int .u32 (dig U 1 : Int)) ∧ w'.cell? ⟨w.heap.size, 2, none⟩ = some (.int .u32 (dig U 2 : Int)) ∧ w'.cell? ⟨w.heap.size, 3, none⟩ = some (.int .u32 (dig U 3 : Int))
        ∧ w'.cell? ⟨w.heap.size, 4, none⟩ = some (.int .u32 (dig U 4 : Int)) ∧ w'.cell? ⟨w.heap.size, 5, none⟩ = some (.int .u32 (dig U 5 : Int)) ∧ w'.cell? ⟨w.heap.size, 6, none⟩ = some (.int .u32 (dig U 6 : Int)) ∧ w'.cell? ⟨w.heap.size, 7, none⟩ = some (.int .u32 (dig U 7 : Int))) (go_simp)
        (first
        | ((with_reducible refine (C1.out _).mono ?_); rintro e' w' ⟨rfl, hb⟩; (try replace hb := undrew hb); (first | (have HZN := Lib.hid (HZN.out.below hb (by omega))) | (have HZN := Lib.hid ((E8z.new _).below hb (by simp only [World.size_alloc]; omega))) | skip); obtain ⟨hc, hf⟩ := bcell hb; (try simp only [World.size_drew] at hc hf); have zz := hb.size; (try simp only [World.size_drew] at zz); (try simp only [World.size_alloc] at zz); (first | (have zt := Nat.lt_of_lt_of_le zt zz) | (have zt := Nat.lt_of_lt_of_le zs zz) | skip); (try have zs := Nat.lt_of_succ_le zz); have y0 : w.heap.size < w'.heap.size := (by omega); have y1 : w.heap.size + 1 < w'.heap.size := (by omega); have hB0 : Below w.heap.size w w' := (by refine Below.trans ?_ (hb.mono (by first | omega | (simp only [World.size_alloc]; omega) | (simp only [World.size_drew, World.size_alloc]; omega) | (simp only [World.size_drew]; omega))); (repeat (first | (with_reducible exact Below.refl _ _) | (with_reducible exact HBE.out) | (with_reducible refine Below.drew ?_) | ((with_reducible refine Below.alloc ?_ ?_ _); rotate_left; (first | omega | (simp only [World.size_alloc]; omega) | (simp only [World.size_drew, World.size_alloc]; omega) | (simp only [World.size_drew]; omega))) | ((with_reducible refine set4_below ?_ ?_ _ _ _ _); rotate_left; omega) | ((with_reducible refine Below.setCell ?_ ?_ _); rotate_left; (show _ ≤ _); (simp only); omega)))); have HBE := Lib.hid hB0; clear hB0; have yr : wr.heap.size ≤ w'.heap.size := (by omega); have hB1 : Below wr.heap.size wr w' := (by refine Below.trans ?_ (hb.mono (by first | omega | (simp only [World.size_alloc]; omega) | (simp only [World.size_drew, World.size_alloc]; omega) | (simp only [World.size_drew]; omega))); (repeat (first | (with_reducible exact Below.refl _ _) | (with_reducible exact HBR.out) | (with_reducible refine Below.drew ?_) | ((with_reducible refine Below.alloc ?_ ?_ _); rotate_left; (first | omega | (simp only [World.size_alloc]; omega) | (simp only [World.size_drew, World.size_alloc]; omega) | (simp only [World.size_drew]; omega))) | ((with_reducible refine set4_below ?_ ?_ _ _ _ _); rotate_left; omega) | ((with_reducible refine Below.setCell ?_ ?_ _); rotate_left; (show _ ≤ _); (simp only); omega)))); have HBR := Lib.hid hB1; clear hB1 hb)
        | ((with_reducible refine (C2.out _).mono ?_); rintro e' w' ⟨rfl, hb⟩; (try replace hb := undrew hb); (first | (have HZN := Lib.hid (HZN.out.below hb (by omega))) | (have HZN := Lib.hid ((E8z.new _).below hb (by simp only [World.size_alloc]; omega))) | skip); obtain ⟨hc, hf⟩ := bcell hb; (try simp only [World.size_drew] at hc hf); have zz := hb.size; (try simp only [World.size_drew] at zz); (try simp only [World.size_alloc] at zz); (first | (have zt := Nat.lt_of_lt_of_le zt zz) | (have zt := Nat.lt_of_lt_of_le zs zz) | skip); (try have zs := Nat.lt_of_succ_le zz); have y0 : w.heap.size < w'.heap.size := (by omega); have y1 : w.heap.size + 1 < w'.heap.size := (by omega); have hB0 : Below w.heap.size w w' := (by refine Below.trans ?_ (hb.mono (by first | omega | (simp only [World.size_alloc]; omega) | (simp only [World.size_drew, World.size_alloc]; omega) | (simp only [World.size_drew]; omega))); (repeat (first | (with_reducible exact Below.refl _ _) | (with_reducible exact HBE.out) | (with_reducible refine Below.drew ?_) | ((with_reducible refine Below.alloc ?_ ?_ _); rotate_left; (first | omega | (simp only [World.size_alloc]; omega) | (simp only [World.size_drew, World.size_alloc]; omega) | (simp only [World.size_drew]; omega))) | ((with_reducible refine set4_below ?_ ?_ _ _ _ _); rotate_left; omega) | ((with_reducible refine Below.setCell ?_ ?_ _); rotate_left; (show _ ≤ _); (simp only); omega)))); have HBE := Lib.hid hB0; clear hB0; have yr : wr.heap.size ≤ w'.heap.size := (by omega); have hB1 : Below wr.heap.size wr w' := (by refine Below.trans ?_ (hb.mono (by first | omega | (simp only [World.size_alloc]; omega) | (simp only [World.size_drew, World.size_alloc]; omega) | (simp only [World.size_drew]; omega))); (repeat (first | (with_reducible exact Below.refl _ _) | (with_reducible exact HBR.out) | (with_reducible refine Below.drew ?_) | ((with_reducible refine Below.alloc ?_ ?_ _); rotate_left; (first | omega | (simp only [World.size_alloc]; omega) | (simp only [World.size_drew, World.size_alloc]; omega) | (simp only [World.size_drew]; omega))) | ((with_reducible refine set4_below ?_ ?_ _ _ _ _); rotate_left; omega) | ((with_reducible refine Below.setCell ?_ ?_ _); rotate_left; (show _ ≤ _); (simp only); omega)))); have HBR := Lib.hid hB1; clear hB1 hb)
        | fail)
      all_goals
        go_wp2_with fail
        go_meet
        have hBR : ∀ W, Below wr.heap.size wr W → NoP w U W := fun W h => ⟨hr.out.below h q0, hz.out.below h q1, hbe.out.trans (h.mono (by omega)), by have := h.size; omega⟩
        refine ⟨⟨_, rfl, ?_, ?_⟩, rfl, hBR _ ?_⟩
        · first | omega | (simp only [World.size_alloc]; omega)
        · first | (with_reducible exact E8.new _ _) | (with_reducible exact set8_e8 HZN.out _)
        · (repeat (first | (with_reducible exact Below.refl _ _) | (with_reducible exact HBR.out) | (with_reducible refine Below.drew ?_) | ((with_reducible refine Below.alloc ?_ ?_ _); rotate_left; (first | omega | (simp only [World.size_alloc]; omega) | (simp only [World.size_drew, World.size_alloc]; omega) | (simp only [World.size_drew]; omega))) | ((with_reducible refine set4_below ?_ ?_ _ _ _ _); rotate_left; omega) | ((with_reducible refine Below.setCell ?_ ?_ _); rotate_left; (show _ ≤ _); (simp only); omega)))
    case rest =>
      obtain ⟨⟨g, rfl, hg, hE⟩, rfl, hP⟩ := hcut
      have HP := Lib.hid hP
      clear c0 c1 c2 c3 c4 c5 c6 c7 f0 f1 f2 f3 f4 f5 f6 f7 d0 d1 d2 d3 d4 d5 d6 d7 k0 k1 k2 k3 k4 k5 k6 k7
      obtain ⟨c0, c1, c2, c3, c4, c5, c6, c7, f0, f1, f2, f3, f4, f5, f6, f7⟩ := hP.a
      by_cases hlt : U < PP
      · have hb1 : (boN U PP == 1) = true := by unfold boN; rw [if_pos hlt]; rfl
        have hn : N = U := by rw [← hU.out.2, Nat.mod_eq_of_lt hlt]
        rw [hb1]
        have HNU := Lib.hid hn
        obtain ⟨d0, d1, d2, d3, d4, d5, d6, d7, k0, k1, k2, k3, k4, k5, k6, k7⟩ := hP.z
        clear hP hE hb1 hlt hn C1 C2
        have hw := HP.out.h
        go_wp2_with fail
        refine bodyPost_ret (v := .agg #[.int .u32 (dig (U) 0 : Int), .int .u32 (dig (U) 1 : Int), .int .u32 (dig (U) 2 : Int), .int .u32 (dig (U) 3 : Int), .int .u32 (dig (U) 4 : Int), .int .u32 (dig (U) 5 : Int), .int .u32 (dig (U) 6 : Int), .int .u32 (dig (U) 7 : Int)]) (by simp [results, Try.results19, go_sem, *]) rfl ⟨by rw [HNU.out], ?_⟩
        exact set8_below HP.out.b (Nat.le_succ _) U
      · have hb1 : (boN U PP == 1) = false := by unfold boN; rw [if_neg hlt]; rfl
        have hm : miN U PP = U - PP := if_neg hlt
        have hUU : Hid (U - PP < W4 ∧ (U - PP) % PP = N) := Lib.hid ⟨by have := hU.out.1; omega, by rw [← hU.out.2]; exact (Nat.mod_eq_sub_mod (by omega)).symm⟩
        have hlt2 : Hid (U - PP < U) := Lib.hid (by have : 0 < PP := by decide
                                                    omega)
        rw [hb1]
        rw [hm] at hE
        obtain ⟨U', hU'⟩ : ∃ U', U' = U - PP := ⟨_, rfl⟩
        rw [← hU'] at hE hUU hlt2
        obtain ⟨e0, e1, e2, e3, e4, e5, e6, e7, _, _, _, _, _, _, _, _⟩ := hE
        clear hP hb1 hlt hm hU' C1 C2
        go_wp2_with fail
        go_roundw
        case rel =>
          exact ⟨U', hUU, Lib.hid (set8_below HP.out.b (Nat.le_refl _) U'), Lib.hid (set8_set HP.out.a U'), Lib.hid (HP.out.z.far (by omega) U')⟩
        case measure =>
          rw [readN_of (set8_set HP.out.a U') hUU.out.1, readN_of hr.out hU.out.1]
          exact hlt2.out
end Go.Proofs.Ytgkglielcbgpiaa
