/- The cursor's Number; read of command. -/
import Derived.Test.YteonidpgplhplaaN6
namespace Go.Proofs.Yteonidpgplhplaa
open Go.RowKit

theorem getP_nat (K : Nat) (l : List UInt8) (a : Nat) : (getP 2 K l a K) < 256 ^ K := getP_lt 2 K l a K
set_option maxRecDepth 100000 in
set_option maxHeartbeats 4000000 in
theorem number_ok {l : List UInt8} {w : World} {B E g k K : Nat} {T : TypeId} {ex : List Value} (h : Cur w B E g T ex l k) (hl : l.length ≤ 281474976710656) (hK1 : 1 ≤ K) (hK : K ≤ 8) (hN : k + K ≤ l.length) :
    Calls Try.prog 47 #[.pointer (some ⟨g, 0, none⟩), .int .i64 2, .int .i64 (K : Int)] w fun e w' => e = .returned (.tuple #[.int .u64 (getP 2 K l k K : Nat), .int .i64 0]) ∧ Cur w' B E g T ex l (k + K) ∧ w.grownBy w' (some g) := by
  have HH := Lib.hid h
  obtain ⟨A, c, ho, hgB, hgl, hc0, hc1, hfr, hset⟩ := h.cells
  obtain ⟨P, hP⟩ : ∃ P, P = getP 2 K l k K := ⟨_, rfl⟩
  have CG : Hid (Calls Try.prog 56 #[.int .i64 2, .slice A l.length c, .int .i64 (k : Int), .int .i64 (K : Int)] w.drew fun e w' => e = .returned (.tuple #[.int .u64 (P : Int), .int .i64 0]) ∧ w' = w.drew) := by
    rw [hP]
    exact Lib.hid ((get_big (w := w.drew) hK1 hK (ho.bs.drewN 1) hN).mono fun e w' ⟨h1, h2⟩ => ⟨h1, h2.symm⟩)
  rw [← hP]
  have d0 : w.drew.cell? ⟨g, 0, none⟩ = some (.slice A l.length c) := hc0
  have d1 : w.drew.cell? ⟨g, 1, none⟩ = some (.int .i64 (k : Int)) := hc1
  have df : w.drew.frozen? ⟨g, 1, none⟩ = false := hfr
  have e1 : IntKind.i64.wrap ((k : Int) + (K : Int)) = (k : Int) + (K : Int) := by rw [IntKind.wrap_i64]; omega
  have hfin : Cur ((w.setCell ⟨g, 1, none⟩ (.int .i64 ((k : Int) + (K : Int)))).drew) B E g T ex l (k + K) := (hset (k + K)).grown (r := none) ⟨rfl, rfl, rfl, Nat.le_refl _, fun _ _ _ => rfl⟩ (by simp)
  have HFIN := Lib.hid hfin
  have hbF : w.grownBy ((w.setCell ⟨g, 1, none⟩ (.int .i64 ((k : Int) + (K : Int)))).drew) (some g) := ⟨rfl, rfl, rfl, by simp, fun j hj hne => Below.heap_setCell w ⟨g, 1, none⟩ _ j (fun e => hne (by rw [e]))⟩
  have HBF := Lib.hid hbF
  clear hP ho hset hfin hbF h
  go_enter Try.func47, Try.ntmps47
  go_wp2_with fail
  go_region_held3 (fun w' => w'.cell? ⟨g, 0, none⟩ = some (.slice A l.length c) ∧ w'.cell? ⟨g, 1, none⟩ = some (.int .i64 (k : Int))) (exact ⟨d0, d1⟩)
    (first | (go_at_call 56; (with_reducible refine (CG.out).mono ?_); rintro e w2 ⟨rfl, rfl⟩) | fail)
  go_wp2
  go_ret2
  exact ⟨rfl, HFIN.out, HBF.out⟩
theorem results_cell_tmp {P : Program} {fn : Func} {p q : Tmp} {ty : TypeId} (h : fn.results = #[.cell p ty, .tmp q]) (tmps : Array Value) (w : World) (g : Nat) (t : TypeId) (cs : Array Value) (fr : Nat × Nat) (d : TypeDesc) (v : Value)
    (hp : tmps.getD p undef = .pointer (some ⟨g, 0, none⟩)) (hq : tmps.getD q undef = v) (hg : w.heap[g]? = some (.cells cs t fr))
    (hu : P.underlying ty = some d) (hd : (match d with | .struct _ | .array _ _ => true | _ => false) = true) (hi : (P.info? ty).map (·.size) = some cs.size) :
    (results fn tmps).run P w = .ok (.tuple #[.agg cs, v]) w := by
  have hp' : tmps[p]?.getD undef = .pointer (some ⟨g, 0, none⟩) := by simpa using hp
  have hq' : tmps[q]?.getD undef = v := by simpa using hq
  simp [results, h, hp', hq', asAddr, run_loadVar_row w g t ty cs fr d hg hu hd hi]
theorem row_below {B : Nat} {w w' : World} {g : Nat} {cs : Array Value} (h : Below B w w') (hg : B ≤ g) : Below B w (w'.setRow g cs) :=
  ⟨h.os, h.tape, h.output, by simpa [World.setRow] using h.size, fun j hj => (setRow_other w' g j _ (by omega)).trans (h.block j hj)⟩
/-- the command that 32 bytes say -/
def cmdOf (l : List UInt8) : Cm := ⟨getP 2 1 l 0 1, getP 2 1 l 1 1, getP 2 4 l 2 4, getP 2 8 l 6 8, (l.drop 14).take 16⟩
theorem cmdOf_ok {l : List UInt8} (h : l.length = 32) : (cmdOf l).ok := ⟨getP_lt 2 1 l 0 1, getP_lt 2 1 l 1 1, getP_lt 2 4 l 2 4, getP_lt 2 8 l 6 8, by simp [cmdOf, h]⟩
def zCm : Cm := ⟨0, 0, 0, 0, List.replicate 16 0⟩
theorem fill_mark (k f d n : Nat) (m : List UInt8) (hm : m.length = 16) : List.take 4 (Cm.mk k f d n (List.replicate 16 0)).cs ++ (m.map vb ++ List.drop (4 + (m.map vb).length) (Cm.mk k f d n (List.replicate 16 0)).cs) = (Cm.mk k f d n m).cs := by
  rw [List.length_map, hm]
  have e : List.drop (4 + 16) (Cm.mk k f d n (List.replicate 16 0)).cs = [] := rfl
  rw [e, List.append_nil]
  rfl

set_option maxRecDepth 100000 in
set_option maxHeartbeats 4000000 in
theorem read_any {l : List UInt8} {w : World} {B : Nat} {v : Value} (hb : Bs w B v l) (hB : B ≤ w.heap.size) (hl : l.length = 32) :
    Calls Try.prog 36 #[v] w fun e w' => e = .returned (.tuple #[.agg (cmdOf l).cs.toArray, .int .u64 (getP 2 2 l 30 2 : Nat)]) ∧ Below w.heap.size w w' := by
  obtain ⟨A, c, rfl⟩ := hb.shape
  rw [hl] at hb ⊢
  obtain ⟨k, hk⟩ : ∃ k, k = getP 2 1 l 0 1 := ⟨_, rfl⟩
  obtain ⟨f, hf⟩ : ∃ f, f = getP 2 1 l 1 1 := ⟨_, rfl⟩
  obtain ⟨d, hd⟩ : ∃ d, d = getP 2 4 l 2 4 := ⟨_, rfl⟩
  obtain ⟨n, hn⟩ : ∃ n, n = getP 2 8 l 6 8 := ⟨_, rfl⟩
  obtain ⟨r, hr⟩ : ∃ r, r = getP 2 2 l 30 2 := ⟨_, rfl⟩
  have hk8 : k < 256 := by rw [hk]; exact getP_lt 2 1 l 0 1
  have hf8 : f < 256 := by rw [hf]; exact getP_lt 2 1 l 1 1
  have hd8 : d < 4294967296 := by rw [hd]; exact getP_lt 2 4 l 2 4
  have cvk : Hid (IntKind.u8.wrap (k : Int) = (k : Int)) := Lib.hid (by rw [IntKind.wrap_u8]; omega)
  have cvf : Hid (IntKind.u8.wrap (f : Int) = (f : Int)) := Lib.hid (by rw [IntKind.wrap_u8]; omega)
  have cvd : Hid (IntKind.u32.wrap (d : Int) = (d : Int)) := Lib.hid (by rw [IntKind.wrap_u32]; omega)
  obtain ⟨C, hC⟩ : ∃ C, C = (cmdOf l).cs := ⟨_, rfl⟩
  rw [← hC, ← hr]
  have hfm := fill_mark k f d n ((l.drop 14).take 16) (by simp [hl])
  rw [show (Cm.mk k f d n ((l.drop 14).take 16)).cs = C by rw [hC, cmdOf, hk, hf, hd, hn]] at hfm
  have hCl : C.length = 20 := by rw [hC]; exact Cm.len (cmdOf_ok hl)
  have hone : Hid (C.toArray.all (·.oneCell') = true) := Lib.hid (all_oneCell_toArray (by rw [hC]; exact cs_one _))
  have HFM := Lib.hid hfm; have HCL := Lib.hid hCl
  have HB0 := Lib.hid ((Below.refl w.heap.size w).alloc (Nat.le_refl _) (.cells #[.int .u8 0, .int .u8 0, .int .u32 0, .int .u64 0, .int .u8 0, .int .u8 0, .int .u8 0, .int .u8 0, .int .u8 0, .int .u8 0, .int .u8 0, .int .u8 0, .int .u8 0, .int .u8 0, .int .u8 0, .int .u8 0, .int .u8 0, .int .u8 0, .int .u8 0, .int .u8 0] 26))
  have hz : Hid ((w.alloc (.cells #[.int .u8 0, .int .u8 0, .int .u32 0, .int .u64 0, .int .u8 0, .int .u8 0, .int .u8 0, .int .u8 0, .int .u8 0, .int .u8 0, .int .u8 0, .int .u8 0, .int .u8 0, .int .u8 0, .int .u8 0, .int .u8 0, .int .u8 0, .int .u8 0, .int .u8 0, .int .u8 0] 26)).heap[w.heap.size]? = some (.cells #[.int .u8 0, .int .u8 0, .int .u32 0, .int .u64 0, .int .u8 0, .int .u8 0, .int .u8 0, .int .u8 0, .int .u8 0, .int .u8 0, .int .u8 0, .int .u8 0, .int .u8 0, .int .u8 0, .int .u8 0, .int .u8 0, .int .u8 0, .int .u8 0, .int .u8 0, .int .u8 0] 26 (0, 0))) := Lib.hid (heap_alloc_new w _)
  have hb0 := hb.alloc hB (.cells #[.int .u8 0, .int .u8 0, .int .u32 0, .int .u64 0, .int .u8 0, .int .u8 0, .int .u8 0, .int .u8 0, .int .u8 0, .int .u8 0, .int .u8 0, .int .u8 0, .int .u8 0, .int .u8 0, .int .u8 0, .int .u8 0, .int .u8 0, .int .u8 0, .int .u8 0, .int .u8 0] 26)
  have hsz0 : (w.alloc (.cells #[.int .u8 0, .int .u8 0, .int .u32 0, .int .u64 0, .int .u8 0, .int .u8 0, .int .u8 0, .int .u8 0, .int .u8 0, .int .u8 0, .int .u8 0, .int .u8 0, .int .u8 0, .int .u8 0, .int .u8 0, .int .u8 0, .int .u8 0, .int .u8 0, .int .u8 0, .int .u8 0] 26)).heap.size = w.heap.size + 1 := by simp
  have C1 := Lib.hid (newcursor_any (hb0.more (Nat.le_trans hB (by rw [hsz0]; omega))) (Nat.le_refl _) (by rw [hl]; decide))
  have HK := Lib.hid hk; have HF := Lib.hid hf; have HD := Lib.hid hd; have HN := Lib.hid hn; have HR := Lib.hid hr
  clear hb hb0 hC hfm hCl hk8 hf8 hd8 hk hf hd hn hr
  go_enter Try.func36, Try.ntmps36
  go_upto_region 1 with fail
  generalize w.alloc (.cells #[.int .u8 0, .int .u8 0, .int .u32 0, .int .u64 0, .int .u8 0, .int .u8 0, .int .u8 0, .int .u8 0, .int .u8 0, .int .u8 0, .int .u8 0, .int .u8 0, .int .u8 0, .int .u8 0, .int .u8 0, .int .u8 0, .int .u8 0, .int .u8 0, .int .u8 0, .int .u8 0] 26) = W at HB0 hz hsz0 C1 ⊢
  go_wp2_with fail
  with_reducible refine (C1.out).mono ?_
  rintro e1 w1 ⟨g, rfl, hcu1, hb1⟩
  rw [hsz0] at hcu1
  obtain ⟨E, hE⟩ : ∃ E, E = w1.heap.size := ⟨_, rfl⟩
  rw [← hE] at hcu1
  have hg0 : w.heap.size + 1 ≤ g := by obtain ⟨_, _, h1, _⟩ := hcu1; exact h1
  have HCU1 := Lib.hid hcu1
  have HB1 := Lib.hid hb1
  have hz1 := hb1.size
  rw [hsz0] at hz1
  have HZ0 := Lib.hid hsz0
  rw [hsz0] at HB1
  clear hcu1 hb1 C1 hsz0 hE
  have C2 := number_ok (K := 1) HCU1.out (by rw [hl]; decide) (by decide) (by decide) (by rw [hl]; decide)
  rw [← HK.out] at C2
  have D2 : Hid (Calls Try.prog 47 #[.pointer (some ⟨g, 0, none⟩), .int .i64 2, .int .i64 1] w1 fun e w' => e = .returned (.tuple #[.int .u64 (k : Int), .int .i64 0]) ∧ Cur w' (w.heap.size + 1) E g 109 [] l 1 ∧ w1.grownBy w' (some g)) := Lib.hid C2
  clear C2
  go_wp2_with fail
  with_reducible refine (D2.out).mono ?_
  rintro e2 w2 ⟨rfl, hcu, hgr⟩
  have HB2 := Lib.hid (HB1.out.grown hgr (by omega) (fun j hj => by simp only [Option.some.injEq] at hj; omega))
  have HCU2 := Lib.hid hcu
  have hz2 := hgr.size
  clear hcu hgr D2 HB1 HCU1
  have C3 := number_ok (K := 1) HCU2.out (by rw [hl]; decide) (by decide) (by decide) (by rw [hl]; decide)
  rw [← HF.out] at C3
  have D3 : Hid (Calls Try.prog 47 #[.pointer (some ⟨g, 0, none⟩), .int .i64 2, .int .i64 1] w2 fun e w' => e = .returned (.tuple #[.int .u64 (f : Int), .int .i64 0]) ∧ Cur w' (w.heap.size + 1) E g 109 [] l 2 ∧ w2.grownBy w' (some g)) := Lib.hid C3
  clear C3
  go_wp2_with fail
  with_reducible refine (D3.out).mono ?_
  rintro e3 w3 ⟨rfl, hcu, hgr⟩
  have HB3 := Lib.hid (HB2.out.grown hgr (by omega) (fun j hj => by simp only [Option.some.injEq] at hj; omega))
  have HCU3 := Lib.hid hcu
  have hz3 := hgr.size
  clear hcu hgr D3 HB2 HCU2
  have C4 := number_ok (K := 4) HCU3.out (by rw [hl]; decide) (by decide) (by decide) (by rw [hl]; decide)
  rw [← HD.out] at C4
  have D4 : Hid (Calls Try.prog 47 #[.pointer (some ⟨g, 0, none⟩), .int .i64 2, .int .i64 4] w3 fun e w' => e = .returned (.tuple #[.int .u64 (d : Int), .int .i64 0]) ∧ Cur w' (w.heap.size + 1) E g 109 [] l 6 ∧ w3.grownBy w' (some g)) := Lib.hid C4
  clear C4
  go_wp2_with fail
  with_reducible refine (D4.out).mono ?_
  rintro e4 w4 ⟨rfl, hcu, hgr⟩
  have HB4 := Lib.hid (HB3.out.grown hgr (by omega) (fun j hj => by simp only [Option.some.injEq] at hj; omega))
  have HCU4 := Lib.hid hcu
  have hz4 := hgr.size
  clear hcu hgr D4 HB3 HCU3
  have C5 := number_ok (K := 8) HCU4.out (by rw [hl]; decide) (by decide) (by decide) (by rw [hl]; decide)
  rw [← HN.out] at C5
  have D5 : Hid (Calls Try.prog 47 #[.pointer (some ⟨g, 0, none⟩), .int .i64 2, .int .i64 8] w4 fun e w' => e = .returned (.tuple #[.int .u64 (n : Int), .int .i64 0]) ∧ Cur w' (w.heap.size + 1) E g 109 [] l 14 ∧ w4.grownBy w' (some g)) := Lib.hid C5
  clear C5
  go_wp2_with fail
  with_reducible refine (D5.out).mono ?_
  rintro e5 w5 ⟨rfl, hcu, hgr⟩
  have HB5 := Lib.hid (HB4.out.grown hgr (by omega) (fun j hj => by simp only [Option.some.injEq] at hj; omega))
  have HCU5 := Lib.hid hcu
  have hz5 := hgr.size
  clear hcu hgr D5 HB4 HCU4
  have C6 := take_ok (N := 16) HCU5.out (by rw [hl]; decide) (by rw [hl]; decide)
  have D6 : Hid (Calls Try.prog 48 #[.pointer (some ⟨g, 0, none⟩), .int .i64 16] w5 fun e w' => ∃ u, e = .returned (.tuple #[u, .int .i64 0]) ∧ Own w' w5.heap.size u ((l.drop 14).take 16) ∧ Cur w' (w.heap.size + 1) E g 109 [] l 30 ∧ w5.grownBy w' (some g)) := Lib.hid C6
  clear C6
  have hg5 : g < w5.heap.size := by obtain ⟨_, _, _, h2, h3, _⟩ := HCU5.out; omega
  obtain ⟨M, hM⟩ : ∃ M, M = (l.drop 14).take 16 := ⟨_, rfl⟩
  have hMl : M.length = 16 := by rw [hM]; simp [hl]
  rw [← hM] at D6
  have HM := Lib.hid hM
  clear hM
  go_wp2_with fail
  with_reducible refine (D6.out).mono ?_
  rintro e6 w6 ⟨u6, rfl, ho6, hcu, hgr⟩
  obtain ⟨A6, c6, rfl⟩ := ho6.shape
  rw [hMl] at ho6 ⊢
  have HB6 := Lib.hid (HB5.out.grown hgr (by omega) (fun j hj => by simp only [Option.some.injEq] at hj; omega))
  have HCU6 := Lib.hid hcu
  have HO6 := Lib.hid ho6
  have hz6 := hgr.size
  have HML := Lib.hid hMl
  clear hcu hgr D6 HB5 HCU5 ho6 hMl
  have C7 := number_ok (K := 2) HCU6.out (by rw [hl]; decide) (by decide) (by decide) (by rw [hl]; decide)
  rw [← HR.out] at C7
  have D7 : Hid (Calls Try.prog 47 #[.pointer (some ⟨g, 0, none⟩), .int .i64 2, .int .i64 2] w6 fun e w' => e = .returned (.tuple #[.int .u64 (r : Int), .int .i64 0]) ∧ Cur w' (w.heap.size + 1) E g 109 [] l 32 ∧ w6.grownBy w' (some g)) := Lib.hid C7
  clear C7
  go_wp2_with fail
  with_reducible refine (D7.out).mono ?_
  rintro e7 w7 ⟨rfl, hcu, hgr⟩
  have HB7 := Lib.hid (HB6.out.grown hgr (by omega) (fun j hj => by simp only [Option.some.injEq] at hj; omega))
  have HO7 := Lib.hid (HO6.out.kept hgr (by
    cases hq : (Value.slice A6 16 c6).ownBlock with
    | none => exact .inl rfl
    | some j =>
      right
      intro e
      have h1 := (HO6.out.lt_size j hq).1
      simp only [Option.some.injEq] at e
      omega))
  have hz7 := hgr.size
  clear hcu hgr D7 HB6 HCU6
  have cv1 := cvk.out
  have cv2 := cvf.out
  have cv3 := cvd.out
  have hzr : Hid (w7.heap[w.heap.size]? = some (.cells #[.int .u8 0, .int .u8 0, .int .u32 0, .int .u64 0, .int .u8 0, .int .u8 0, .int .u8 0, .int .u8 0, .int .u8 0, .int .u8 0, .int .u8 0, .int .u8 0, .int .u8 0, .int .u8 0, .int .u8 0, .int .u8 0, .int .u8 0, .int .u8 0, .int .u8 0, .int .u8 0] 26 (0, 0))) := Lib.hid ((HB7.out.block w.heap.size (by omega)).trans hz.out)
  have hz8 : Hid ((w7.alloc (.cells #[.int .u8 0, .int .u8 0, .int .u32 0, .int .u64 0, .int .u8 0, .int .u8 0, .int .u8 0, .int .u8 0, .int .u8 0, .int .u8 0, .int .u8 0, .int .u8 0, .int .u8 0, .int .u8 0, .int .u8 0, .int .u8 0, .int .u8 0, .int .u8 0, .int .u8 0, .int .u8 0] 26)).heap[w7.heap.size]? = some (.cells #[.int .u8 0, .int .u8 0, .int .u32 0, .int .u64 0, .int .u8 0, .int .u8 0, .int .u8 0, .int .u8 0, .int .u8 0, .int .u8 0, .int .u8 0, .int .u8 0, .int .u8 0, .int .u8 0, .int .u8 0, .int .u8 0, .int .u8 0, .int .u8 0, .int .u8 0, .int .u8 0] 26 (0, 0))) := Lib.hid (heap_alloc_new w7 _)
  have hi8 : Hid ((Try.prog.info? 26).map (·.size) = some (#[.int .u8 (k : Int), .int .u8 (f : Int), .int .u32 (d : Int), .int .u64 (n : Int), .int .u8 0, .int .u8 0, .int .u8 0, .int .u8 0, .int .u8 0, .int .u8 0, .int .u8 0, .int .u8 0, .int .u8 0, .int .u8 0, .int .u8 0, .int .u8 0, .int .u8 0, .int .u8 0, .int .u8 0, .int .u8 0] : Array Value).size) := Lib.hid (by show _ = _; kernel_rfl)
  have ho8 : Hid ((#[.int .u8 0, .int .u8 0, .int .u32 0, .int .u64 0, .int .u8 0, .int .u8 0, .int .u8 0, .int .u8 0, .int .u8 0, .int .u8 0, .int .u8 0, .int .u8 0, .int .u8 0, .int .u8 0, .int .u8 0, .int .u8 0, .int .u8 0, .int .u8 0, .int .u8 0, .int .u8 0] : Array Value).size = (#[.int .u8 (k : Int), .int .u8 (f : Int), .int .u32 (d : Int), .int .u64 (n : Int), .int .u8 0, .int .u8 0, .int .u8 0, .int .u8 0, .int .u8 0, .int .u8 0, .int .u8 0, .int .u8 0, .int .u8 0, .int .u8 0, .int .u8 0, .int .u8 0, .int .u8 0, .int .u8 0, .int .u8 0, .int .u8 0] : Array Value).size) := Lib.hid (by show _ = _; rfl)
  have hone8 : Hid ((#[.int .u8 (k : Int), .int .u8 (f : Int), .int .u32 (d : Int), .int .u64 (n : Int), .int .u8 0, .int .u8 0, .int .u8 0, .int .u8 0, .int .u8 0, .int .u8 0, .int .u8 0, .int .u8 0, .int .u8 0, .int .u8 0, .int .u8 0, .int .u8 0, .int .u8 0, .int .u8 0, .int .u8 0, .int .u8 0] : Array Value).all (·.oneCell') = true) := Lib.hid (by show _ = _; kernel_rfl)
  have hiC : Hid ((Try.prog.info? 26).map (·.size) = some C.toArray.size) := Lib.hid (by rw [List.size_toArray, HCL.out]; kernel_rfl)
  have hoC : Hid ((#[.int .u8 0, .int .u8 0, .int .u32 0, .int .u64 0, .int .u8 0, .int .u8 0, .int .u8 0, .int .u8 0, .int .u8 0, .int .u8 0, .int .u8 0, .int .u8 0, .int .u8 0, .int .u8 0, .int .u8 0, .int .u8 0, .int .u8 0, .int .u8 0, .int .u8 0, .int .u8 0] : Array Value).size = C.toArray.size) := Lib.hid (by show 20 = _; rw [List.size_toArray, HCL.out])
  have cutM : ∀ W, (Instr.sliceAt 24 (.pointer (some ⟨w7.heap.size, 4, none⟩)) none none none).run Try.prog W = .ok (.slice (some ⟨w7.heap.size, 4, none⟩) 16 16) W := fun W => cut_mark W
  obtain ⟨b6, off6, rfl, hsrc⟩ : ∃ b off, A6 = some ⟨b, off, none⟩ ∧ ∀ (j : Nat) (x : Value), (M.map vb)[j]? = some x → (w7.alloc (.cells #[.int .u8 (k : Int), .int .u8 (f : Int), .int .u32 (d : Int), .int .u64 (n : Int), .int .u8 0, .int .u8 0, .int .u8 0, .int .u8 0, .int .u8 0, .int .u8 0, .int .u8 0, .int .u8 0, .int .u8 0, .int .u8 0, .int .u8 0, .int .u8 0, .int .u8 0, .int .u8 0, .int .u8 0, .int .u8 0] 26)).cell? ((⟨b, off, none⟩ : Addr).add j) = some x := by
    obtain ⟨A', c', hv, h1, h2, h3⟩ := HO7.out.bs
    simp only [Value.slice.injEq] at hv
    obtain ⟨rfl, _, _⟩ := hv
    obtain ⟨b, off, rfl, hlt, hc⟩ := h3 (by rw [HML.out]; decide)
    refine ⟨b, off, rfl, fun j x hx => ?_⟩
    rw [List.getElem?_map] at hx
    obtain ⟨z, hz, rfl⟩ := Option.map_eq_some_iff.1 hx
    obtain ⟨hj, rfl⟩ := List.getElem?_eq_some_iff.1 hz
    rw [add_none]
    exact (((Below.refl w7.heap.size w7).alloc (Nat.le_refl _) (.cells #[.int .u8 (k : Int), .int .u8 (f : Int), .int .u32 (d : Int), .int .u64 (n : Int), .int .u8 0, .int .u8 0, .int .u8 0, .int .u8 0, .int .u8 0, .int .u8 0, .int .u8 0, .int .u8 0, .int .u8 0, .int .u8 0, .int .u8 0, .int .u8 0, .int .u8 0, .int .u8 0, .int .u8 0, .int .u8 0] 26)).cell (p := ⟨b, off + j, none⟩) hlt).trans (hc j hj)
  have HSRC := Lib.hid hsrc
  have hX1 : Hid (∀ v ∈ M.map vb, v.oneCell' = true) := Lib.hid (vb_one _)
  have hXm : Hid ((M.map vb).length = Nat.min 16 16) := Lib.hid (by rw [List.length_map, HML.out]; rfl)
  have hXf : Hid (4 + (M.map vb).length ≤ (#[.int .u8 (k : Int), .int .u8 (f : Int), .int .u32 (d : Int), .int .u64 (n : Int), .int .u8 0, .int .u8 0, .int .u8 0, .int .u8 0, .int .u8 0, .int .u8 0, .int .u8 0, .int .u8 0, .int .u8 0, .int .u8 0, .int .u8 0, .int .u8 0, .int .u8 0, .int .u8 0, .int .u8 0, .int .u8 0] : Array Value).size) := Lib.hid (by rw [List.length_map, HML.out]; show 20 ≤ 20; exact Nat.le_refl _)
  have hr8 : Hid ((w7.alloc (.cells #[.int .u8 (k : Int), .int .u8 (f : Int), .int .u32 (d : Int), .int .u64 (n : Int), .int .u8 0, .int .u8 0, .int .u8 0, .int .u8 0, .int .u8 0, .int .u8 0, .int .u8 0, .int .u8 0, .int .u8 0, .int .u8 0, .int .u8 0, .int .u8 0, .int .u8 0, .int .u8 0, .int .u8 0, .int .u8 0] 26)).heap[w7.heap.size]? = some (.cells #[.int .u8 (k : Int), .int .u8 (f : Int), .int .u32 (d : Int), .int .u64 (n : Int), .int .u8 0, .int .u8 0, .int .u8 0, .int .u8 0, .int .u8 0, .int .u8 0, .int .u8 0, .int .u8 0, .int .u8 0, .int .u8 0, .int .u8 0, .int .u8 0, .int .u8 0, .int .u8 0, .int .u8 0, .int .u8 0] 26 (0, 0))) := Lib.hid (heap_alloc_new w7 _)
  have hset : Hid ((w7.alloc (.cells #[.int .u8 (k : Int), .int .u8 (f : Int), .int .u32 (d : Int), .int .u64 (n : Int), .int .u8 0, .int .u8 0, .int .u8 0, .int .u8 0, .int .u8 0, .int .u8 0, .int .u8 0, .int .u8 0, .int .u8 0, .int .u8 0, .int .u8 0, .int .u8 0, .int .u8 0, .int .u8 0, .int .u8 0, .int .u8 0] 26)).setRow w7.heap.size ((#[.int .u8 (k : Int), .int .u8 (f : Int), .int .u32 (d : Int), .int .u64 (n : Int), .int .u8 0, .int .u8 0, .int .u8 0, .int .u8 0, .int .u8 0, .int .u8 0, .int .u8 0, .int .u8 0, .int .u8 0, .int .u8 0, .int .u8 0, .int .u8 0, .int .u8 0, .int .u8 0, .int .u8 0, .int .u8 0] : Array Value).toList.take 4 ++ (M.map vb ++ (#[.int .u8 (k : Int), .int .u8 (f : Int), .int .u32 (d : Int), .int .u64 (n : Int), .int .u8 0, .int .u8 0, .int .u8 0, .int .u8 0, .int .u8 0, .int .u8 0, .int .u8 0, .int .u8 0, .int .u8 0, .int .u8 0, .int .u8 0, .int .u8 0, .int .u8 0, .int .u8 0, .int .u8 0, .int .u8 0] : Array Value).toList.drop (4 + (M.map vb).length))).toArray = w7.alloc (.cells C.toArray 26)) := Lib.hid (by
    rw [World.setRow_alloc_new]
    have h := HFM.out
    rw [← HM.out] at h
    rw [← h]
    rfl)
  have hr9 : Hid ((w7.alloc (.cells C.toArray 26)).heap[w7.heap.size]? = some (.cells C.toArray 26 (0, 0))) := Lib.hid (heap_alloc_new w7 _)
  have hzr9 : Hid ((w7.alloc (.cells C.toArray 26)).heap[w.heap.size]? = some (.cells #[.int .u8 0, .int .u8 0, .int .u32 0, .int .u64 0, .int .u8 0, .int .u8 0, .int .u8 0, .int .u8 0, .int .u8 0, .int .u8 0, .int .u8 0, .int .u8 0, .int .u8 0, .int .u8 0, .int .u8 0, .int .u8 0, .int .u8 0, .int .u8 0, .int .u8 0, .int .u8 0] 26 (0, 0))) := Lib.hid ((((Below.refl w7.heap.size w7).alloc (Nat.le_refl _) (.cells C.toArray 26)).block w.heap.size (by omega)).trans hzr.out)
  have HBF := Lib.hid (((HB0.out.trans (HB7.out.mono (by omega : w.heap.size ≤ w.heap.size + 1))).alloc (by omega : w.heap.size ≤ w7.heap.size) (.cells C.toArray 26)))
  clear hsrc cvk cvf cvd HFM
  go_wp2_with (first
    | ((with_reducible refine wpList_store_row rfl 26 (.tmp 17) (.tmp 57) rfl w7.heap.size #[.int .u8 (k : Int), .int .u8 (f : Int), .int .u32 (d : Int), .int .u64 (n : Int), .int .u8 0, .int .u8 0, .int .u8 0, .int .u8 0, .int .u8 0, .int .u8 0, .int .u8 0, .int .u8 0, .int .u8 0, .int .u8 0, .int .u8 0, .int .u8 0, .int .u8 0, .int .u8 0, .int .u8 0, .int .u8 0] rfl rfl 26 _ hz8.out hi8.out ho8.out hone8.out ?_); rw [World.setRow_alloc_new])
    | ((with_reducible refine wpList_copy_own rfl (.tmp 59) (.tmp 60) 28 28 rfl 5 Try.underlying28 u8size w7.heap.size 4 16 16 ⟨b6, off6, none⟩ 16 c6 rfl rfl #[.int .u8 (k : Int), .int .u8 (f : Int), .int .u32 (d : Int), .int .u64 (n : Int), .int .u8 0, .int .u8 0, .int .u8 0, .int .u8 0, .int .u8 0, .int .u8 0, .int .u8 0, .int .u8 0, .int .u8 0, .int .u8 0, .int .u8 0, .int .u8 0, .int .u8 0, .int .u8 0, .int .u8 0, .int .u8 0] 26 hr8.out (M.map vb) hXm.out HSRC.out hXf.out hX1.out ?_); rw [hset.out])
    | (with_reducible refine wpList_load_row rfl 26 (.tmp 17) rfl w7.heap.size rfl 26 C.toArray (0, 0) _ hr9.out Try.underlying26 rfl hiC.out ?_)
    | (with_reducible refine wpList_store_row rfl 26 (.tmp 2) (.tmp 62) rfl w.heap.size C.toArray rfl rfl 26 _ hzr9.out hiC.out hoC.out hone.out ?_))
  exact bodyPost_ret (results_cell_tmp rfl _ _ w.heap.size 26 C.toArray (0, 0) _ _ rfl rfl (setRow_heap _ w.heap.size _ _ _ _ hzr9.out) Try.underlying26 rfl hiC.out) rfl ⟨rfl, row_below HBF.out (Nat.le_refl _)⟩
end Go.Proofs.Yteonidpgplhplaa
