/- Derive of mac. -/
import Derived.Test.YtifgigpflfdmfaaX4E
import Derived.Test.YtifgigpflfdmfaaX5
namespace Go.Proofs.Ytifgigpflfdmfaa
open Go.RowKit

/-- the keys' bytes after k rounds -/
def rowK (secret : List UInt8) (ss : List ByteArray) (k : Nat) : List UInt8 := ((ss.take k).map (deriveL secret)).flatten ++ zs (32 * (ss.length - k))
theorem keys_len (secret : List UInt8) : ∀ ss : List ByteArray, ((ss.map (deriveL secret)).flatten).length = 32 * ss.length
  | [] => rfl
  | s :: r => by rw [List.map_cons, List.flatten_cons, List.length_append, deriveL_len, keys_len secret r, List.length_cons]; omega
theorem rowK_len (secret : List UInt8) (ss : List ByteArray) {k : Nat} (h : k ≤ ss.length) : (rowK secret ss k).length = 32 * ss.length := by
  rw [rowK, List.length_append, keys_len, zs_len, List.length_take]
  have : min k ss.length = k := Nat.min_eq_left h
  omega
theorem rowK_zero (secret : List UInt8) (ss : List ByteArray) : rowK secret ss 0 = zs (ss.length * 32) := by
  rw [rowK, List.take_zero, List.map_nil, List.flatten_nil, List.nil_append, Nat.sub_zero, Nat.mul_comm]
theorem zs_drop (n m : Nat) : (zs n).drop m = zs (n - m) := by simp [zs]
theorem rowK_succ (secret : List UInt8) (ss : List ByteArray) {k : Nat} (h : k < ss.length) (CU CS : List Value) (hCU : CU = (rowK secret ss k).map vb) (hCS : CS = (deriveL secret ss[k]).map vb) :
    List.take (k * 32) CU ++ (CS ++ List.drop (k * 32 + CS.length) CU) = (rowK secret ss (k + 1)).map vb := by
  have hl : CS.length = 32 := by rw [hCS, List.length_map, deriveL_len]
  have hk : (((ss.take k).map (deriveL secret)).flatten).length = k * 32 := by rw [keys_len, List.length_take, Nat.min_eq_left (by omega)]; omega
  rw [hl, hCU, hCS, ← List.map_take, ← List.map_drop, ← List.map_append, ← List.map_append]
  congr 1
  rw [rowK, ← hk, List.take_left' rfl, ← List.drop_drop, List.drop_left' rfl, zs_drop, rowK, List.take_add_one, List.getElem?_eq_getElem h]
  simp only [Option.toList_some, List.map_append, List.map_cons, List.map_nil, List.flatten_append, List.flatten_cons, List.flatten_nil, List.append_nil, List.append_assoc]
  congr 3
  omega
theorem made32 (n : Nat) : madeCells #[.int .u8 0, .int .u8 0, .int .u8 0, .int .u8 0, .int .u8 0, .int .u8 0, .int .u8 0, .int .u8 0, .int .u8 0, .int .u8 0, .int .u8 0, .int .u8 0, .int .u8 0, .int .u8 0, .int .u8 0, .int .u8 0, .int .u8 0, .int .u8 0, .int .u8 0, .int .u8 0, .int .u8 0, .int .u8 0, .int .u8 0, .int .u8 0, .int .u8 0, .int .u8 0, .int .u8 0, .int .u8 0, .int .u8 0, .int .u8 0, .int .u8 0, .int .u8 0] n = ((zs n).map vb).toArray := by
  have e : (#[.int .u8 0, .int .u8 0, .int .u8 0, .int .u8 0, .int .u8 0, .int .u8 0, .int .u8 0, .int .u8 0, .int .u8 0, .int .u8 0, .int .u8 0, .int .u8 0, .int .u8 0, .int .u8 0, .int .u8 0, .int .u8 0, .int .u8 0, .int .u8 0, .int .u8 0, .int .u8 0, .int .u8 0, .int .u8 0, .int .u8 0, .int .u8 0, .int .u8 0, .int .u8 0, .int .u8 0, .int .u8 0, .int .u8 0, .int .u8 0, .int .u8 0, .int .u8 0] : Array Value) = Array.replicate 32 (.int .u8 0) := rfl
  rw [e]
  apply Array.ext
  · simp [size_madeCells, zs_len]
  · intro i h1 h2
    have hm : i % 32 < 32 := Nat.mod_lt _ (by omega)
    simp [madeCells, zs, vb, hm]
theorem cut32_at {g o : Nat} (W : World) : (Instr.sliceAt 29 (.pointer (some ⟨g, o, none⟩)) none none none).run Try.prog W = .ok (.slice (some ⟨g, o, none⟩) 32 32) W := by
  rw [run_sliceAt_array_all _ _ _ arr32u, elem32, u8sizeOf, len32]
  simp [Result.andThen, slicedAt, Addr.add_lit]
theorem make32 (n : Nat) (hn : n ≤ 8796093022000) (W : World) : (Instr.makeSlice 23 (.int .i64 (n : Int)) (.int .i64 (n : Int))).run Try.prog W = .ok (.slice (some ⟨W.heap.size, 0, none⟩) n n) (W.alloc (.cells ((zs (n * 32)).map vb).toArray 29)) := by
  obtain ⟨i, hi, hz⟩ : ∃ i, Try.prog.info? 29 = some i ∧ (i.zero = some (.agg #[.int .u8 0, .int .u8 0, .int .u8 0, .int .u8 0, .int .u8 0, .int .u8 0, .int .u8 0, .int .u8 0, .int .u8 0, .int .u8 0, .int .u8 0, .int .u8 0, .int .u8 0, .int .u8 0, .int .u8 0, .int .u8 0, .int .u8 0, .int .u8 0, .int .u8 0, .int .u8 0, .int .u8 0, .int .u8 0, .int .u8 0, .int .u8 0, .int .u8 0, .int .u8 0, .int .u8 0, .int .u8 0, .int .u8 0, .int .u8 0, .int .u8 0, .int .u8 0]) ∧ i.size = 32 ∧ i.bytes = 32) := by
    have h : (Try.prog.info? 29).map (fun i => (i.zero, i.size, i.bytes)) = some (some (.agg #[.int .u8 0, .int .u8 0, .int .u8 0, .int .u8 0, .int .u8 0, .int .u8 0, .int .u8 0, .int .u8 0, .int .u8 0, .int .u8 0, .int .u8 0, .int .u8 0, .int .u8 0, .int .u8 0, .int .u8 0, .int .u8 0, .int .u8 0, .int .u8 0, .int .u8 0, .int .u8 0, .int .u8 0, .int .u8 0, .int .u8 0, .int .u8 0, .int .u8 0, .int .u8 0, .int .u8 0, .int .u8 0, .int .u8 0, .int .u8 0, .int .u8 0, .int .u8 0]), 32, 32) := by kernel_rfl
    obtain ⟨i, hi, hz⟩ := Option.map_eq_some_iff.1 h
    simp only [Prod.mk.injEq] at hz
    exact ⟨i, hi, hz⟩
  have h := run_make (P := Try.prog) W 23 29 i _ Try.underlying23 hi hz.1 .i64 .i64 n n (by omega) (Int.le_refl _) (by rw [hz.2.2]; omega) (by omega)
  rw [hz.2.1, Int.toNat_natCast] at h
  rw [← made32]
  exact h

set_option maxRecDepth 100000 in
set_option maxHeartbeats 4000000 in
theorem derive_any {secret : List UInt8} {ss : List ByteArray} {v u : Value} {w : World} {B : Nat} (hb : Bs w B v secret) (hu : Cs w B u (ss.map Value.string)) (hB : B ≤ w.heap.size) (hlen : secret.length ≤ 140737488351232) (hn : ss.length ≤ 8796093022000) (hs : ∀ s ∈ ss, s.size ≤ 140737488351232) :
    Calls Try.prog 8 #[v, u] w fun e w' => ∃ g, e = .returned (.slice (some ⟨g, 0, none⟩) ss.length ss.length) ∧ w.heap.size ≤ g ∧ g < w'.heap.size ∧ w'.heap[g]? = some (.cells ((rowK secret ss ss.length).map vb).toArray 29 (0, 0)) ∧ Below w.heap.size w w' := by
  obtain ⟨W1, hW1⟩ : ∃ W1, W1 = w.alloc (.cells #[.int .u8 115, .int .u8 104, .int .u8 97, .int .u8 108, .int .u8 108, .int .u8 111, .int .u8 116] 5 (7, 8)) := ⟨_, rfl⟩
  have hz1 : W1.heap.size = w.heap.size + 1 := by rw [hW1]; simp
  have hb1 : Below w.heap.size w W1 := by rw [hW1]; exact (Below.refl _ _).alloc (Nat.le_refl _) _
  have hl1 : Bs W1 (w.heap.size + 1) (.slice (some ⟨w.heap.size, 0, none⟩) 7 7) [115, 104, 97, 108, 108, 111, 116] := by
    rw [hW1]
    exact Bs.litF w [115, 104, 97, 108, 108, 111, 116] (7, 8) (by unfold maxLen; simp)
  have k1 : (convert 22 22 (.slice (some ⟨w.heap.size, 0, none⟩) 7 7)).run Try.prog (w.alloc (.cells #[.int .u8 115, .int .u8 104, .int .u8 97, .int .u8 108, .int .u8 108, .int .u8 111, .int .u8 116] 5)) = .ok (.slice (some ⟨w.heap.size, 0, none⟩) 7 7) W1 := by
    rw [hW1]
    exact Lib.run_convert_bytes_const (P := Try.prog) w 22 5 #[.int .u8 115, .int .u8 104, .int .u8 97, .int .u8 108, .int .u8 108, .int .u8 111, .int .u8 116] 7 7 Try.underlying22 Try.underlying5
  obtain ⟨cs, hcs⟩ : ∃ cs : Array Value, cs = ((tagL [115, 104, 97, 108, 108, 111, 116] secret).map vb).toArray := ⟨_, rfl⟩
  have hcz : cs.size = 32 := by rw [hcs]; simp [tagL_len]
  have hi : Hid ((Try.prog.info? 29).map (·.size) = some cs.size) := by rw [hcz]; show _ = _; kernel_rfl
  have ho : Hid ((#[.int .u8 0, .int .u8 0, .int .u8 0, .int .u8 0, .int .u8 0, .int .u8 0, .int .u8 0, .int .u8 0, .int .u8 0, .int .u8 0, .int .u8 0, .int .u8 0, .int .u8 0, .int .u8 0, .int .u8 0, .int .u8 0, .int .u8 0, .int .u8 0, .int .u8 0, .int .u8 0, .int .u8 0, .int .u8 0, .int .u8 0, .int .u8 0, .int .u8 0, .int .u8 0, .int .u8 0, .int .u8 0, .int .u8 0, .int .u8 0, .int .u8 0, .int .u8 0] : Array Value).size = cs.size) := by rw [hcz]; show _ = _; rfl
  have hone : Hid (cs.all (·.oneCell') = true) := by rw [hcs]; exact one_bytes _
  have ct := extract_any (hl1.more (B' := W1.heap.size) (by rw [hz1]; exact Nat.le_refl _)) ((hb.below hb1 hB).more (by rw [hz1]; omega)) (Nat.le_refl _) (by simp) (by omega)
  have CT : Hid (Calls Try.prog 39 #[.slice (some ⟨w.heap.size, 0, none⟩) 7 7, v] W1 fun e w' => e = .returned (.agg cs) ∧ Below W1.heap.size W1 w') := Lib.hid (by rw [hcs]; exact ct)
  have HCE := Lib.hid hcs; have HB1 := Lib.hid hb1; have HZ1 := Lib.hid hz1; have HU := Lib.hid hu; have HS := Lib.hid hs
  obtain ⟨AU, cU, rfl⟩ : ∃ A c, u = .slice A ss.length c := by
    obtain ⟨A, c, h, _⟩ := hu
    exact ⟨A, c, by rw [List.length_map] at h; exact h⟩
  have hmk := make32 ss.length hn
  obtain ⟨MK, hMK⟩ : ∃ MK, MK = ((zs (ss.length * 32)).map vb).toArray := ⟨_, rfl⟩
  rw [← hMK] at hmk
  have HMK := Lib.hid hMK
  clear ct hcs hcz hl1 hb1 hz1 hW1 hb hu hs hMK
  go_enter Try.func8, Try.ntmps8
  go_wp2_with fail
  clear k1
  with_reducible refine (CT.out).mono ?_
  rintro e2 w2 ⟨rfl, hb2⟩
  have hz : Hid ((w2.alloc (.cells #[.int .u8 0, .int .u8 0, .int .u8 0, .int .u8 0, .int .u8 0, .int .u8 0, .int .u8 0, .int .u8 0, .int .u8 0, .int .u8 0, .int .u8 0, .int .u8 0, .int .u8 0, .int .u8 0, .int .u8 0, .int .u8 0, .int .u8 0, .int .u8 0, .int .u8 0, .int .u8 0, .int .u8 0, .int .u8 0, .int .u8 0, .int .u8 0, .int .u8 0, .int .u8 0, .int .u8 0, .int .u8 0, .int .u8 0, .int .u8 0, .int .u8 0, .int .u8 0] 29)).heap[w2.heap.size]? = some (.cells #[.int .u8 0, .int .u8 0, .int .u8 0, .int .u8 0, .int .u8 0, .int .u8 0, .int .u8 0, .int .u8 0, .int .u8 0, .int .u8 0, .int .u8 0, .int .u8 0, .int .u8 0, .int .u8 0, .int .u8 0, .int .u8 0, .int .u8 0, .int .u8 0, .int .u8 0, .int .u8 0, .int .u8 0, .int .u8 0, .int .u8 0, .int .u8 0, .int .u8 0, .int .u8 0, .int .u8 0, .int .u8 0, .int .u8 0, .int .u8 0, .int .u8 0, .int .u8 0] 29 (0, 0))) := Lib.hid (heap_alloc_new w2 _)
  obtain ⟨W3, hW3⟩ : ∃ W3, W3 = w2.alloc (.cells cs 29) := ⟨_, rfl⟩
  have hs3 : W3.heap.size = w2.heap.size + 1 := by rw [hW3]; simp
  have hb3 : Below w.heap.size w W3 := by rw [hW3]; exact (HB1.out.trans (hb2.mono HB1.out.size)).alloc (by have := HB1.out.size; have := hb2.size; omega) _
  have hc3 : W3.heap[w2.heap.size]? = some (.cells cs 29 (0, 0)) := by rw [hW3]; exact heap_alloc_new w2 _
  have hr3 : Bs W3 W3.heap.size (.slice (some ⟨w2.heap.size, 0, none⟩) 32 32) (tagL [115, 104, 97, 108, 108, 111, 116] secret) := by
    have h : Bw W3 w2.heap.size 29 (tagL [115, 104, 97, 108, 108, 111, 116] secret) := by rw [HCE.out] at hc3; exact hc3
    have h2 := h.bs (by rw [tagL_len]; unfold maxLen; omega)
    rw [tagL_len] at h2
    exact h2
  have HW3 := Lib.hid hW3; have HB3 := Lib.hid hb3; have HR3 := Lib.hid hr3
  have hz13 : w.heap.size + 2 ≤ W3.heap.size := by have := HZ1.out; have := hb2.size; omega
  clear hb3 hc3 hr3 hb2 hW3 CT hs3
  go_wp2_with ((with_reducible refine wpList_store_row rfl 29 (.tmp 5) (.tmp 14) rfl w2.heap.size cs rfl rfl 29 _ hz.out hi.out ho.out hone.out ?_); rw [World.setRow_alloc_new, ← HW3.out])
  clear hmk
  obtain ⟨W4, hW4⟩ : ∃ W4, W4 = W3.alloc (.cells MK 29) := ⟨_, rfl⟩
  have h4 : Hid (W4.heap[W3.heap.size]? = some (.cells ((rowK secret ss 0).map vb).toArray 29 (0, 0))) := Lib.hid (by rw [hW4, HMK.out, rowK_zero]; exact heap_alloc_new W3 _)
  have HB4 : Hid (Below W3.heap.size W3 W4) := Lib.hid (by rw [hW4]; exact (Below.refl _ _).alloc (Nat.le_refl _) _)
  have hz4 : W4.heap.size = W3.heap.size + 1 := by rw [hW4]; simp
  have HZ4 := Lib.hid hz4
  rw [← hW4]
  clear hW4 hz4 hz HW3
  go_loopw [20] (fun i wr => ∃ k : Nat, k ≤ ss.length ∧ i = .int .i64 k ∧ Hid (wr.heap[W3.heap.size]? = some (.cells ((rowK secret ss k).map vb).toArray 29 (0, 0))) ∧ Hid (Below W3.heap.size W3 wr) ∧ Hid (W4.heap.size ≤ wr.heap.size)) (fun i _ => ss.length - (intOf i).toNat)
  case atStart => exact ⟨0, Nat.zero_le _, rfl, h4, HB4, Lib.hid (Nat.le_refl _)⟩
  case round =>
    obtain ⟨k, hk, rfl, hrow, hbe, hsz⟩ := hrel
    clear h4 HB4
    by_cases hlt : k < ss.length
    · obtain ⟨b, off, rfl, hbB, hc⟩ : ∃ b off, AU = some ⟨b, off, none⟩ ∧ b < B ∧ w.cell? ⟨b, off + k, none⟩ = some (.string ss[k]) := by
        obtain ⟨A', c', hv, _, _, h3⟩ := HU.out
        simp only [Value.slice.injEq] at hv
        obtain ⟨rfl, _, _⟩ := hv
        obtain ⟨b, off, rfl, hbB, hc⟩ := h3 (by rw [List.length_map]; omega)
        have h := hc k (by rw [List.length_map]; exact hlt)
        rw [List.getElem_map] at h
        exact ⟨b, off, rfl, hbB, h⟩
      have hbw := HB3.out.trans (hbe.out.mono HB3.out.size)
      have hcell := (hbw.cell (p := ⟨b, off + k, none⟩) (by show b < _; omega)).trans hc
      obtain ⟨s, hs⟩ : ∃ s, s = ss[k] := ⟨_, rfl⟩
      have hsl : s.size ≤ 140737488351232 := by rw [hs]; exact HS.out _ (List.getElem_mem hlt)
      rw [← hs] at hcell
      obtain ⟨c5, W5, k5, hl5, hb5, hs5⟩ := conv_any wr s (by unfold maxLen; omega)
      have hb5' : Below w.heap.size W5 (W5.alloc (.cells #[.slice (some ⟨wr.heap.size, 0, none⟩) (bytesS s).length c5] 22)) := (Below.refl _ _).alloc (by have := hbw.size; omega) _
      have hz6 : (W5.alloc (.cells #[.slice (some ⟨wr.heap.size, 0, none⟩) (bytesS s).length c5] 22)).heap.size = wr.heap.size + 2 := by simp [hs5]
      have hrs := Rs.lit W5 [.slice (some ⟨wr.heap.size, 0, none⟩) (bytesS s).length c5] [bytesS s] rfl (by unfold maxLen; simp) (by
        intro j h1 h2
        obtain rfl : j = 0 := by simpa using h1
        rw [hs5]
        exact hl5)
      have hroot := ((HR3.out.below hbe.out (Nat.le_refl _)).below (hb5.mono hbe.out.size) (Nat.le_refl _)).alloc (by have := hbe.out.size; omega) (.cells #[.slice (some ⟨wr.heap.size, 0, none⟩) (bytesS s).length c5] 22)
      have ce := expand_ok (n := 32) (hroot.more (B' := W5.heap.size + 1) (by have := hbe.out.size; omega)) hrs (by rw [hz6, hs5]; exact Nat.le_refl _) (by rw [tagL_len]; omega) (by simp [bytesS_len]; omega) (by omega)
      rw [show ((32 : Nat) : Int) = 32 from rfl, show [bytesS s].flatten = bytesS s by simp, hz6] at ce
      have CE : Hid (Calls Try.prog 40 #[.slice (some ⟨w2.heap.size, 0, none⟩) 32 32, .int .i64 32, .slice (some ⟨W5.heap.size, 0, none⟩) 1 1] (W5.alloc (.cells #[.slice (some ⟨wr.heap.size, 0, none⟩) (bytesS s).length c5] 22)) fun e w' => ∃ r, e = .returned (.tuple #[r, .int .i64 0]) ∧ Own w' (wr.heap.size + 2) r (deriveL secret s) ∧ Below (wr.heap.size + 2) (W5.alloc (.cells #[.slice (some ⟨wr.heap.size, 0, none⟩) (bytesS s).length c5] 22)) w') := Lib.hid ce
      have HB6 := Lib.hid (hbe.out.trans ((hb5.mono hbe.out.size).alloc (by have := hbe.out.size; omega) (.cells #[.slice (some ⟨wr.heap.size, 0, none⟩) (bytesS s).length c5] 22)))
      have HZ6 := Lib.hid hz6
      have HR6 := Lib.hid (alloc_block2 ((hb5.block W3.heap.size (by have := hsz.out; have := HZ4.out; omega)).trans hrow.out) (.cells #[.slice (some ⟨wr.heap.size, 0, none⟩) (bytesS s).length c5] 22))
      have hzr := hsz.out; have hz4 := HZ4.out
      have HSK := Lib.hid hs
      have cutC : ∀ W, (Instr.sliceAt 29 (.pointer (some ⟨w2.heap.size, 0, none⟩)) none none none).run Try.prog W = .ok (.slice (some ⟨w2.heap.size, 0, none⟩) 32 32) W := fun W => cut32_all W
      clear hbw hc hb5' hz6 hrs hroot ce hl5 hb5 hrow hbe hs5 hs
      go_wp2_with fail
      with_reducible refine (CE.out).mono ?_
      rintro e7 w7 ⟨u7, rfl, ho7, hb7⟩
      clear k5 cutC
      obtain ⟨X, hX⟩ : ∃ X, X = (deriveL secret s).map vb := ⟨_, rfl⟩
      have hXl : X.length = 32 := by rw [hX, List.length_map, deriveL_len]
      obtain ⟨b7, off7, c7, rfl, hsrc7⟩ := bytes_vb w7 ho7.bs (by rw [deriveL_len]; omega)
      rw [deriveL_len]
      obtain ⟨CU, hCU⟩ : ∃ CU, CU = (rowK secret ss k).map vb := ⟨_, rfl⟩
      have hCl : CU.length = ss.length * 32 := by rw [hCU, List.length_map, rowK_len secret ss hk, Nat.mul_comm]
      have hz7 := hb7.size
      have hr7 : Hid (w7.heap[W3.heap.size]? = some (.cells CU.toArray 29 (0, 0))) := Lib.hid (by rw [hCU]; exact (hb7.block W3.heap.size (by omega)).trans HR6.out)
      have hfold : Hid (List.take (k * 32) CU ++ (X ++ List.drop (k * 32 + X.length) CU) = (rowK secret ss (k + 1)).map vb) := Lib.hid (rowK_succ secret ss hlt CU X hCU (by rw [hX, HSK.out]))
      have hsrc : Hid (∀ (j : Nat) (x : Value), X[j]? = some x → w7.cell? ((⟨b7, off7, none⟩ : Addr).add j) = some x) := Lib.hid (by rw [hX]; exact hsrc7)
      have hX1 : Hid (∀ v ∈ X, v.oneCell' = true) := Lib.hid (by rw [hX]; exact vb_one _)
      have hXm : Hid (X.length = Nat.min 32 32) := Lib.hid (by rw [hXl]; rfl)
      have hXf : Hid (k * 32 + X.length ≤ CU.toArray.size) := Lib.hid (by rw [hXl, List.size_toArray, hCl]; omega)
      have cutD : ∀ W, (Instr.sliceAt 29 (.pointer (some ⟨W3.heap.size, k * 32, none⟩)) none none none).run Try.prog W = .ok (.slice (some ⟨W3.heap.size, k * 32, none⟩) 32 32) W := fun W => cut32_at W
      have HB7 := Lib.hid (HB6.out.trans (hb7.mono (by omega)))
      have HZ7 := Lib.hid hz7
      clear hX hXl hsrc7 ho7 hCU hCl hb7 CE HR6 HB6
      go_wp2_with (with_reducible refine wpList_copy_own rfl (.tmp 36) (.tmp 37) 22 22 rfl 5 Try.underlying22 u8size W3.heap.size (k * 32) 32 32 ⟨b7, off7, none⟩ 32 c7 rfl rfl CU.toArray 29 hr7.out X hXm.out hsrc.out hXf.out hX1.out ?_)
      rw [hfold.out]
      have HR8 := Lib.hid (setRow_heap w7 W3.heap.size _ ((rowK secret ss (k + 1)).map vb).toArray 29 _ hr7.out)
      have HB8 := Lib.hid (below_setRow HB7.out (Nat.le_refl _) ((rowK secret ss (k + 1)).map vb).toArray)
      have HS8 : Hid (W4.heap.size ≤ (w7.setRow W3.heap.size ((rowK secret ss (k + 1)).map vb).toArray).heap.size) := Lib.hid (by have h := (Array.getElem?_eq_some_iff.1 HR8.out).1; have := HZ4.out; omega)
      clear hr7 hfold hsrc HB7 HZ7 hz7
      go_roundw
      case rel => exact ⟨k + 1, by omega, by go_num, HR8, HB8, HS8⟩
      case measure => simp [intOf]; omega
    · have HE : Hid (k = ss.length) := Lib.hid (by omega)
      have hge := HB3.out.size
      have HBE := Lib.hid (HB3.out.trans (hbe.out.mono HB3.out.size))
      have hltE := hsz.out
      have hz4 := HZ4.out
      have HROW := Lib.hid (HE.out ▸ hrow.out)
      clear hrow hbe hsz
      go_wp2
      go_ret
      exact ⟨W3.heap.size, rfl, hge, by omega, HROW.out, HBE.out⟩
end Go.Proofs.Ytifgigpflfdmfaa
