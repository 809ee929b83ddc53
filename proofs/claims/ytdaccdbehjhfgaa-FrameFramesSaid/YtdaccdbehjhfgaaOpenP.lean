/- A part that comes in, read as data. -/
import Derived.Test.YtdaccdbehjhfgaaOpenB
import Derived.Test.YtdaccdbehjhfgaaP10
namespace Go.Proofs.Ytdaccdbehjhfgaa
open Go.ChangeShapes Go.WideShapes Go.RowKit

section
variable {H : Type} {enc : TypeId × Value → H}
set_option maxRecDepth 100000
theorem pnat8 {x : Int} (h : (Lit.int .u8 x).wf = true) : ∃ n : Nat, x = (n : Int) ∧ n < 256 := by
  have h2 : 0 ≤ x ∧ x ≤ 255 := by simpa [Lit.wf, IntKind.min, IntKind.max, IntKind.signed, IntKind.bits] using h
  exact ⟨x.toNat, by omega, by omega⟩
theorem pnat64 {x : Int} (h : (Lit.int .u64 x).wf = true) : ∃ n : Nat, x = (n : Int) ∧ n < 18446744073709551616 := by
  have := u64_bounds h
  exact ⟨x.toNat, by omega, by omega⟩
/-- a slice of bytes that lies in a datum -/
theorem trod_bs {W : World} {fuel : Nat} {cs : List Value} {d : DataW H} {p : List MemPlace} (hf : DataW.trod enc Try.prog W 0 (fun _ => true) true fuel 23 cs = some (d, p)) :
    ∃ A c l, cs = [.slice A l.length c] ∧ Bs W W.heap.size (.slice A l.length c) l ∧ SizedAs d l.length := by
  rcases open_ints Try.underlying23 Try.underlying5 (by kernel_rfl) hf with ⟨hcs, hx⟩ | ⟨x, len, cap, zs, hcs, _, hl, hm, hz, hx, hcell, hwz⟩
  · exact ⟨none, 0, [], hcs, Bs.nil _ _, .inl rfl⟩
  · simp only [if_true] at hz
    have hlen : (u8s (zs.take len)).length = len := by simp [u8s]; omega
    simp only [Prod.mk.injEq] at hx
    refine ⟨some x, cap, u8s (zs.take len), by rw [hlen]; exact hcs, ⟨some x, cap, rfl, by omega, hm, fun hp => ?_⟩, .inr ⟨_, _, hx.1, by rw [hlen]; simp [lits]; omega⟩⟩
    obtain ⟨b, off, sp⟩ := x
    have h0 := hcell 0 (by omega)
    have hsp : sp = none := by simpa [Addr.add] using World.cell?_spot h0
    subst hsp
    refine ⟨b, off, rfl, ?_, fun j hj => ?_⟩
    · exact World.block_lt_of_cell? W ⟨b, off, none⟩ (by simpa [Addr.add] using h0)
    · have hj' : j < zs.length := by omega
      have := hcell j hj'
      rw [add_none] at this
      rw [this]
      have e : (u8s (zs.take len))[j] = UInt8.ofNat (zs[j]).toNat := by simp [u8s]
      rw [e, u8_back (hwz _ (List.getElem_mem hj'))]
      simp [hj']
theorem trod_part {W : World} {fuel : Nat} {cs : List Value} {d : DataW H} {ps : List MemPlace} (h : DataW.trod enc Try.prog W 0 (fun _ => true) true fuel 25 cs = some (d, ps)) :
    ∃ (k id : Nat) (i n : Int) (A : Option Addr) (c : Nat) (l : List UInt8), cs = [.int .u8 (k : Int), .int .u64 (id : Int), .int .i64 i, .int .i64 n, .slice A l.length c] ∧ k < 256 ∧ id < 18446744073709551616 ∧ (Lit.int .i64 i).wf = true ∧ (Lit.int .i64 n).wf = true ∧
      Bs W W.heap.size (.slice A l.length c) l ∧ ∀ N, (∀ m ∈ d.weights Try.prog 25, m ≤ N) → l.length ≤ N := by
  obtain ⟨xs, n, _, hx, hl, hxl, hf⟩ := DataW.trod_struct Try.underlying25 h
  simp only [Prod.mk.injEq] at hx
  have hl5 : cs.length = 5 := by rw [hl]; kernel_rfl
  have c8 : Try.prog.cellsOf 5 = 1 := by kernel_rfl
  have c64 : Try.prog.cellsOf 22 = 1 := by kernel_rfl
  have ci : Try.prog.cellsOf 3 = 1 := by kernel_rfl
  have cb : Try.prog.cellsOf 23 = 1 := by kernel_rfl
  have hx5 : xs.length = 5 := hxl
  have f0 : DataW.trod enc Try.prog W 0 (fun _ => true) true n 5 ((cs.drop 0).take (Try.prog.cellsOf 5)) = xs[0]? := hf 0 _ rfl
  rw [c8, List.getElem?_eq_getElem (by omega)] at f0
  have f1 : DataW.trod enc Try.prog W 0 (fun _ => true) true n 22 ((cs.drop 1).take (Try.prog.cellsOf 22)) = xs[1]? := hf 1 _ rfl
  rw [c64, List.getElem?_eq_getElem (by omega)] at f1
  have f2 : DataW.trod enc Try.prog W 0 (fun _ => true) true n 3 ((cs.drop 2).take (Try.prog.cellsOf 3)) = xs[2]? := hf 2 _ rfl
  rw [ci, List.getElem?_eq_getElem (by omega)] at f2
  have f3 : DataW.trod enc Try.prog W 0 (fun _ => true) true n 3 ((cs.drop 3).take (Try.prog.cellsOf 3)) = xs[3]? := hf 3 _ rfl
  rw [ci, List.getElem?_eq_getElem (by omega)] at f3
  have f4 : DataW.trod enc Try.prog W 0 (fun _ => true) true n 23 ((cs.drop 4).take (Try.prog.cellsOf 23)) = xs[4]? := hf 4 _ rfl
  rw [cb, List.getElem?_eq_getElem (by omega)] at f4
  obtain ⟨k, e0, _, w0⟩ := DataW.trod_int Try.underlying5 f0
  obtain ⟨id, e1, _, w1⟩ := DataW.trod_int Try.underlying22 f1
  obtain ⟨i, e2, _, w2⟩ := DataW.trod_int Try.underlying3 f2
  obtain ⟨m, e3, _, w3⟩ := DataW.trod_int Try.underlying3 f3
  obtain ⟨A, c, l, e4, hb, hs⟩ := trod_bs (d := (xs[4]'(by omega)).1) (p := (xs[4]'(by omega)).2) f4
  obtain ⟨k, rfl, hk⟩ := pnat8 w0
  obtain ⟨id, rfl, hid⟩ := pnat64 w1
  refine ⟨k, id, i, m, A, c, l, ?_, hk, hid, w2, w3, hb, fun N hN => ?_⟩
  · obtain ⟨y0, y1, y2, y3, y4, rfl⟩ : ∃ y0 y1 y2 y3 y4, cs = [y0, y1, y2, y3, y4] := by
      match cs, hl5 with
      | [a, b, c, d, e], _ => exact ⟨_, _, _, _, _, rfl⟩
    simp only [List.drop_zero, List.drop_succ_cons, List.take_succ_cons, List.take_zero, List.cons.injEq, and_true] at e0 e1 e2 e3 e4
    rw [e0, e1, e2, e3, e4]
  · rw [hx.1] at hN
    simp only [DataW.weights, Try.underlying25] at hN
    rcases hs with h0 | ⟨elems, spare, he, hn⟩
    · omega
    · have h5 := hN ((elems.length + spare.length) * Try.prog.bytesOf 5) (DataW.weights_mem_each (j := 4) (t := 23) (d := (xs[4]'(by omega)).1) (by rfl) (by rw [List.getElem?_map, List.getElem?_eq_getElem (by omega)]; rfl) _ (by
        rw [he]
        simp only [DataW.weights, Try.underlying23]
        exact List.mem_cons_self))
      rw [bytes8, Nat.mul_one] at h5
      omega
theorem open_part {W : World} {r : Reach} {b0 : Nat} {v : Value} {d : DataW H} {ps : List MemPlace} (hv : Value.okWide Try.prog W r b0 25 v) (hd : DataW.Trod enc Try.prog W 0 (fun _ => true) true 25 v d ps) :
    ∃ (k id : Nat) (i n : Int) (A : Option Addr) (c : Nat) (l : List UInt8), v = .agg #[.int .u8 (k : Int), .int .u64 (id : Int), .int .i64 i, .int .i64 n, .slice A l.length c] ∧ k < 256 ∧ id < 18446744073709551616 ∧ (Lit.int .i64 i).wf = true ∧ (Lit.int .i64 n).wf = true ∧
      Bs W W.heap.size (.slice A l.length c) l ∧ ∀ N, (∀ m ∈ d.weights Try.prog 25, m ≤ N) → l.length ≤ N := by
  obtain ⟨cs, rfl, _⟩ := okWide_struct Try.underlying25 hv
  obtain ⟨fuel, hf⟩ := hd
  obtain ⟨k, id, i, n, A, c, l, e, h1, h2, h3, h4, h5, h6⟩ := trod_part hf
  refine ⟨k, id, i, n, A, c, l, ?_, h1, h2, h3, h4, h5, h6⟩
  have e' : cs.toList = [.int .u8 (k : Int), .int .u64 (id : Int), .int .i64 i, .int .i64 n, .slice A l.length c] := e
  rw [show cs = cs.toList.toArray by simp, e']
theorem reach_part {d : DataW H} {l : List UInt8} (h : ∀ N, (∀ n ∈ d.weights Try.prog 25, n ≤ N) → l.length ≤ N) {ts : List TypeId} {ds : List (DataW H)}
    (hsz : (DataW.weightsEach Try.prog ts ds).all (· ≤ reachBytes) = true) {j : Nat} (ht : ts[j]? = some 25) (hd : ds[j]? = some d) : l.length ≤ 140737488351232 :=
  h 140737488351232 fun n hn => of_decide_eq_true (List.all_eq_true.1 hsz _ (DataW.weights_mem_each ht hd n hn))
end
end Go.Proofs.Ytdaccdbehjhfgaa
