/- Pad of codec and of the reference; append(v, make([]byte, n)...); the law CodecPads, walked. -/
import Derived.Test.YtdaccdbehjhfgaaCloneT
import Derived.Test.YtdaccdbehjhfgaaJoin
import Derived.Lib.AppendZeros
namespace Go.Proofs.Ytdaccdbehjhfgaa
open Go.RowKit

def zs (m : Nat) : List UInt8 := List.replicate m 0
theorem zs_len (m : Nat) : (zs m).length = m := by simp [zs]
theorem zeroCells_zs (m : Nat) : Builtin.zeroCells (Value.int .u8 0).cells m = ((zs m).map vb).toArray := by
  apply Array.ext
  · simp [size_zeroCells, zs, Value.cells]
  · intro i h1 h2
    simp [Builtin.zeroCells, zs, vb, Value.cells, Nat.mod_one]

theorem run_appZ {w : World} {B : Nat} {v : Value} {l : List UInt8} (hown : Own w B v l) (m : Nat) (hsum : l.length + m ≤ 70368744177664) (hB : B ≤ w.heap.size) (ty : TypeId) :
    ∃ v' w', (Builtin.append_ #[23, 3] ty #[v, .int .i64 m]).run Try.prog w = .ok v' w' ∧ Own w' B v' (l ++ zs m) ∧ w.grownBy w' v.ownBlock := by
  obtain ⟨i, hi, hz0, hz1, hz2⟩ := info_parts u8info
  have ht := Try.underlying23
  have hti := Try.underlying3
  have hw : IntKind.i64.wrap (m : Int) = m := by rw [IntKind.wrap_i64]; omega
  have hneg : ¬ ((m : Int) < 0) := by omega
  have h48i : ¬ (281474976710656 < (m : Int) * (i.bytes : Int)) := by rw [hz2]; omega
  by_cases hm : m = 0
  · subst hm
    refine ⟨v, w, ?_, by simpa [zs] using hown, World.grownBy.refl w _⟩
    rcases hown.2 with ⟨rfl, _⟩ | ⟨g, cap, cur, rfl, _, _, hnc, _⟩
    · simp [Builtin.append_, run_underlying ht, run_underlying hti, sizeOf, typeInfo, hi, asInt, asIntOf, IntKind.wrap_i64]
    · simp [Builtin.append_, run_underlying ht, run_underlying hti, sizeOf, typeInfo, hi, asInt, asIntOf, hnc, storeCells, IntKind.wrap_i64]
  rcases hown.2 with ⟨rfl, hn⟩ | ⟨g, cap, cur, rfl, hg, hh, hnc, hcm, hsz, htk⟩
  · obtain rfl : l = [] := List.eq_nil_of_length_eq_zero hn
    have hr := Go.Lib.run_append_nil_zeros (P := Try.prog) w 23 3 ty 5 i (.int .u8 0) .i64 .i64 ht hti hi hz0 m (by omega) (by rw [hz1]; omega) (by omega) (by rw [hz2]; omega)
    have hge := grownCap_ge w m 0 5
    have hcm : grownCap w m 0 5 ≤ maxLen := grownCap_le_maxLen w m 0 _ (by unfold maxLen; omega)
    refine ⟨_, _, hr, ?_, ⟨rfl, rfl, rfl, by simp, fun k hk _ => by first | exact heap_alloc_old w.drew _ k hk | exact heap_alloc_old w.drew _ hk⟩⟩
    refine ⟨by simp [zs], .inr ⟨w.heap.size, _, _, by simp [zs], hB, heap_alloc_new w.drew _, by simpa [zs] using hge, hcm, ?_, ?_⟩⟩
    · simp only [Array.size_append, size_zeroCells, Value.cells]
      simp
      omega
    · rw [zeroCells_zs]
      simp [zs]
  · have hns : ¬ (m * i.size = 0) := Nat.mul_ne_zero hm (by rw [hz1]; omega)
    by_cases hroom : l.length + m ≤ cap
    · have hst := run_storeCells_at Try.prog g (l.length * i.size) 5 ((zs m).map vb) 0 cur w hh (by rw [hz1, List.length_map, zs_len, hsz]; omega) (vb_one _)
      refine ⟨.slice (some ⟨g, 0, none⟩) (l.length + m) cap, w.setRow g (cur.toList.take (l.length * i.size + 0) ++ (zs m).map vb ++ cur.toList.drop (l.length * i.size + 0 + ((zs m).map vb).length)).toArray, ?_, ?_, ?_⟩
      · simp [Builtin.append_, run_underlying ht, run_underlying hti, sizeOf, typeInfo, zeroValue, hi, hz0, asInt, asIntOf, hw, hneg, hns, h48i, hroom, zeroCells_zs, Addr.add_lit]
        have hst' : (storeCells ⟨g, l.length * i.size, none⟩ ((zs m).map vb)).run Try.prog w = _ := hst
        rw [hst']
        simp
      · refine ⟨by simp, .inr ⟨g, cap, _, by simp [zs_len], hg, setRow_heap w g cur _ _ _ hh, by simpa [zs_len] using hroom, hcm, ?_, ?_⟩⟩
        · simp only [List.size_toArray, List.length_append, List.length_take, List.length_drop, Array.length_toList, List.length_map, zs_len, hz1, hsz]
          omega
        · have e1 : cur.toList.take (l.length * i.size + 0) = l.map vb := by rw [hz1]; simpa using htk
          rw [e1]
          simp [zs_len, List.take_append, List.take_of_length_le]
      · exact ⟨rfl, rfl, rfl, by simp, fun k _ hk => setRow_other w g k _ (fun e => hk (by simp [Value.ownBlock, e]))⟩
    · have h63' : ¬ (9223372036854775807 < ((l.length : Int) + (m : Int))) := by omega
      have h48' : ¬ (281474976710656 < Builtin.nextslicecap (l.length + m) cap * i.bytes) := by
        have := growslice_fits (need := l.length + m) (old := cap) (bytes := i.bytes) (by omega) (by rw [hz2]; omega)
        omega
      have hfo := run_firstCells_some (P := Try.prog) w.drew i.size l.length ⟨g, 0, none⟩ l.length cap (l.map vb) (by rw [hz1]; simp) (by
        have := World.ownsRow.cells hown (g := g) rfl
        simpa using this)
      have hge := grownCap_ge w (l.length + m) cap 5
      have hcm2 : grownCap w (l.length + m) cap 5 ≤ maxLen := grownCap_le_maxLen w (l.length + m) cap _ (by unfold maxLen; omega)
      refine ⟨.slice (some ⟨w.heap.size, 0, none⟩) (l.length + m) (grownCap w (l.length + m) cap 5),
        w.drew.alloc (.cells ((l.map vb).toArray ++ ((zs m).map vb).toArray ++ ((zs (grownCap w (l.length + m) cap 5 - (l.length + m))).map vb).toArray) 5), ?_, ?_, ⟨rfl, rfl, rfl, by simp, fun k hk _ => by first | exact heap_alloc_old w.drew _ k hk | exact heap_alloc_old w.drew _ hk⟩⟩
      · simp [-List.append_toArray, Builtin.append_, run_underlying ht, run_underlying hti, sizeOf, typeInfo, zeroValue, hi, hz0, asInt, asIntOf, hw, hneg, hns, h63', h48', h48i, hroom, Question.forced, hfo, newRow, zeroCells_zs]
        simp [grownCap]
      · refine ⟨by simp, .inr ⟨w.heap.size, _, _, by simp [zs_len], hB, heap_alloc_new w.drew _, by simpa [zs_len] using hge, hcm2, ?_, ?_⟩⟩
        · simp [zs_len]
          omega
        · simp [zs_len, List.take_append, List.take_of_length_le]

/-- append(v, make([]byte, m)...) in a walk -/
theorem wpList_appZ {w : World} {ops : Array Oper} {rest : List Oper} {o : Oper} {a : Act} {Q : Exit → Act → World → Prop} (hgd : o.guard = none) (s x : Operand)
    (ho : o.op = .call { callee := .builtin .append, args := #[s, x], argTypes := #[23, 3] })
    {B : Nat} {v : Value} {l : List UInt8} (hs : a.eval s = v) (hown : Own w B v l) {M : Int} {m : Nat} (hx : a.eval x = .int .i64 M) (hM : M = (m : Int)) (hsum : l.length + m ≤ 70368744177664) (hB : B ≤ w.heap.size)
    (h : ∀ v' w', Own w' B v' (l ++ zs m) → w.grownBy w' v.ownBlock → wpList Try.prog ops Q rest (a.put o.dst v') w') : wpList Try.prog ops Q (o :: rest) a w := by
  subst hM
  obtain ⟨v', w', hrun, g1, g2⟩ := run_appZ hown m hsum hB o.type
  refine wpList_plain hgd fun K hK => ?_
  unfold Oper.wp execOp
  simp only [ho, resolve, invoke, builtin, Sem.run_bind, Sem.run_pure, Result.andThen_ok, List.map_toArray, List.map_cons, List.map_nil, hs, hx, hrun]
  exact hK _ _ (h v' w' g1 g2)

/-- what Pad answers -/
def padE (l : List UInt8) (n : Int) : Int := if n < 0 ∨ 16777216 < n then 1 else if n < (l.length : Int) then 2 else 0
def padR (l : List UInt8) (n : Int) : List UInt8 := if padE l n = 0 then l ++ zs (n.toNat - l.length) else []

set_option maxHeartbeats 400000 in
theorem pad_ok {l : List UInt8} {v : Value} {w : World} {B : Nat} {N : Nat} (hb : Bs w B v l) (hB : B ≤ w.heap.size) (hN : N ≤ 16777216) (hl : l.length ≤ N) :
    Calls Try.prog 40 #[v, .int .i64 N] w fun e w' => ∃ u, e = .returned (.tuple #[u, .int .i64 0]) ∧ Own w' w.heap.size u (l ++ zs (N - l.length)) ∧ Below w.heap.size w w' := by
  obtain ⟨A, c, rfl, h1, h2, h3⟩ := hb
  have H3 := Lib.hid h3; clear h3
  unfold maxLen at h2
  obtain ⟨n, hn⟩ : ∃ n : Nat, n = l.length := ⟨_, rfl⟩
  rw [← hn] at h1 hl ⊢
  have HN := Lib.hid hn; clear hn
  have hmk := run_make_row' (P := Try.prog) 23 5 (.int .u8 0) 1 Try.underlying23 u8info rfl .i64 .i64 N (by omega) (by omega)
  have hrow : Hid ((w.alloc (.cells (madeCells #[Value.int .u8 0] N) 5)).heap[w.heap.size]? = some (.cells (madeCells #[Value.int .u8 0] N).toList.toArray 5 (0, 0))) := by
    show _ = _
    rw [heap_alloc_new, Array.toArray_toList]
  obtain ⟨Z, hZ⟩ : ∃ Z, Z = (madeCells #[Value.int .u8 0] N).toList := ⟨_, rfl⟩
  rw [← hZ] at hrow
  have hZ2 : Z = (zs N).map vb := by rw [hZ, toList_madeCells_one]; simp [zs, vb]
  have HZ := Lib.hid hZ2
  clear hZ hZ2
  have hbel : Below w.heap.size w (w.alloc (.cells (madeCells #[Value.int .u8 0] N) 5)) := (Below.refl _ _).alloc (Nat.le_refl _) _
  obtain ⟨X, hX⟩ : ∃ X, X = l.map vb := ⟨_, rfl⟩
  have HX := Lib.hid hX; clear hX
  have g1 : decide ((16777216 : Int) < (N : Int)) = false := by simp; omega
  go_enter Try.func40, Try.ntmps40
  go_wp2_with (with_reducible refine wpList_copy_splice rfl (.tmp 19) (.tmp 20) 23 23 rfl 5 Try.underlying23 u8size _ _ _ _ _ _ rfl rfl w.heap.size 0 _ 5 hrow.out X ?_ ?_ ?_ ?_ w.heap.size w hbel (Nat.le_refl _) ?_)
  case refine_1 => simp only [HX.out, List.length_map, ← HN.out]; exact (Nat.min_eq_left hl).symm
  case refine_2 =>
    intro hp
    have hp' : 0 < l.length := by simpa [HX.out] using hp
    obtain ⟨b2, off2, rfl, _, hc2⟩ := H3.out hp'
    refine ⟨_, rfl, fun i x hx => ?_⟩
    rw [HX.out, List.getElem?_map] at hx
    obtain ⟨y, hy, rfl⟩ := Option.map_eq_some_iff.1 hx
    obtain ⟨hi, rfl⟩ := List.getElem?_eq_some_iff.1 hy
    rw [add_none]; exact (hbel.cell (by show b2 < _; omega)).trans (hc2 i hi)
  case refine_3 => simp only [HX.out, List.length_map, ← HN.out, HZ.out, zs_len]; omega
  case refine_4 => rw [HX.out]; exact vb_one _
  case refine_5 =>
    intro w2 hg2 hb2
    have hs : splice Z 0 X = (l ++ zs (N - n)).map vb := by
      have hd : Z.drop (0 + X.length) = (zs (N - n)).map vb := by
        rw [HZ.out, HX.out, List.length_map, ← HN.out]
        simp [zs]
      rw [splice, hd, HX.out]; simp
    have HS := Lib.hid hs; clear hs
    have hlen : (l ++ zs (N - n)).length = N := by rw [List.length_append, zs_len, ← HN.out]; omega
    have hown := Own.of_cells (B := w.heap.size) (l := l ++ zs (N - n)) hg2.out (Nat.le_refl _) (by rw [hlen]; unfold maxLen; omega) HS.out
    rw [hlen] at hown
    have HO := Lib.hid hown; clear hown hg2 hlen
    go_wp2
    go_ret2
    exact ⟨_, rfl, HO.out, hb2⟩

theorem pad_all {l : List UInt8} {v : Value} {w : World} {B : Nat} {n : Int} (hb : Bs w B v l) (hB : B ≤ w.heap.size) :
    Calls Try.prog 40 #[v, .int .i64 n] w fun e w' => ∃ u, e = .returned (.tuple #[u, .int .i64 (padE l n)]) ∧ Own w' w.heap.size u (padR l n) ∧ Below w.heap.size w w' := by
  by_cases h1 : n < 0 ∨ 16777216 < n
  · have hE : padE l n = 1 := by unfold padE; rw [if_pos h1]
    have hR : padR l n = [] := by unfold padR; rw [if_neg (by rw [hE]; decide)]
    rw [hE, hR]
    clear hE hR
    obtain ⟨A, c, rfl⟩ := hb.shape
    rcases h1 with h1 | h1
    · go_enter Try.func40, Try.ntmps40
      go_wp2
      go_ret2
      exact ⟨_, rfl, Own.nil _ _, Below.refl _ _⟩
    · have h2 : decide (n < 0) = false := by simp; omega
      go_enter Try.func40, Try.ntmps40
      go_wp2
      go_ret2
      exact ⟨_, rfl, Own.nil _ _, Below.refl _ _⟩
  · obtain ⟨N, rfl⟩ := Int.eq_ofNat_of_zero_le (show 0 ≤ n by omega)
    by_cases h2 : (N : Int) < l.length
    · have hE : padE l N = 2 := by unfold padE; rw [if_neg h1, if_pos h2]
      have hR : padR l N = [] := by unfold padR; rw [if_neg (by rw [hE]; decide)]
      rw [hE, hR]
      clear hE hR
      obtain ⟨A, c, rfl⟩ := hb.shape
      have g1 : decide ((16777216 : Int) < (N : Int)) = false := by simp; omega
      clear h1
      go_enter Try.func40, Try.ntmps40
      go_wp2
      go_ret2
      exact ⟨_, rfl, Own.nil _ _, Below.refl _ _⟩
    · have hE : padE l N = 0 := by unfold padE; rw [if_neg h1, if_neg h2]
      have hR : padR l N = l ++ zs (N - l.length) := by unfold padR; rw [if_pos hE]; simp
      rw [hE, hR]
      exact pad_ok hb hB (by omega) (by omega)

end Go.Proofs.Ytdaccdbehjhfgaa
