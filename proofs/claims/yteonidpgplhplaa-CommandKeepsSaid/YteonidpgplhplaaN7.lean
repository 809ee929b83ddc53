/- The law's fixed fact; CommandTells, walked. -/
import Derived.Test.YteonidpgplhplaaN6
import Derived.Test.YteonidpgplhplaaEqual
namespace Go.Proofs.Yteonidpgplhplaa
open Go.RowKit

theorem Bs.take {w : World} {B n c h : Nat} {A : Option Addr} {l : List UInt8} (hb : Bs w B (.slice A n c) l) (hh : h ≤ l.length) : Bs w B (.slice A h c) (l.take h) := by
  obtain ⟨A', c', hv, h1, h2, h3⟩ := hb
  simp only [Value.slice.injEq] at hv
  obtain ⟨rfl, _, rfl⟩ := hv
  have hl : (l.take h).length = h := by rw [List.length_take]; omega
  refine ⟨A, c, by rw [hl], by rw [hl]; omega, h2, fun hp => ?_⟩
  rw [hl] at hp
  obtain ⟨b, off, rfl, hlt2, hc⟩ := h3 (by omega)
  refine ⟨b, off, rfl, hlt2, fun j hj => ?_⟩
  rw [hl] at hj
  rw [hc j (by omega)]
  simp
def cAwake : Cm := ⟨1, 7, 258, 5, List.replicate 16 0⟩
theorem cAwake_ok : cAwake.ok := ⟨by decide, by decide, by decide, by decide, rfl⟩
def cTwo : Cm := ⟨2, 0, 0, 0, List.replicate 16 0⟩

set_option maxRecDepth 100000 in
set_option maxHeartbeats 4000000 in
theorem awake_any (w : World) :
    Calls Try.prog 9 #[] w fun e w' => e = .returned (.bool true) ∧ Below w.heap.size w w' := by
  have C1 : Hid (Calls Try.prog 10 #[.agg #[.int .u8 1, .int .u8 7, .int .u32 258, .int .u64 5, .int .u8 0, .int .u8 0, .int .u8 0, .int .u8 0, .int .u8 0, .int .u8 0, .int .u8 0, .int .u8 0, .int .u8 0, .int .u8 0, .int .u8 0, .int .u8 0, .int .u8 0, .int .u8 0, .int .u8 0, .int .u8 0]] w fun e w' => ∃ v, e = .returned (.tuple #[v, .int .i64 0]) ∧ Own w' w.heap.size v cAwake.enc ∧ Below w.heap.size w w') := Lib.hid (encode_ok cAwake_ok (by decide +kernel) w)
  go_enter Try.func9, Try.ntmps9
  go_wp2_with fail
  with_reducible refine (C1.out).mono ?_
  rintro e1 w1 ⟨v1, rfl, ho1, hb1⟩
  have hle : cAwake.enc.length = 32 := Cm.enc_len cAwake_ok
  obtain ⟨A1, c1, rfl⟩ := ho1.shape
  rw [hle] at ho1 ⊢
  have hb := (ho1.bs).take (h := 14) (by rw [hle]; decide)
  have e14 : cAwake.enc.take 14 = [1, 7, 0, 0, 1, 2, 0, 0, 0, 0, 0, 0, 0, 5] := by decide +kernel
  rw [e14] at hb
  have hc14 : 14 ≤ c1 := by
    obtain ⟨A', c', hv, h1, _⟩ := ho1.bs
    simp only [Value.slice.injEq] at hv
    obtain ⟨_, _, rfl⟩ := hv
    omega
  have hl2 : Bs (w1.alloc (.cells #[.int .u8 1, .int .u8 7, .int .u8 0, .int .u8 0, .int .u8 1, .int .u8 2, .int .u8 0, .int .u8 0, .int .u8 0, .int .u8 0, .int .u8 0, .int .u8 0, .int .u8 0, .int .u8 5] 5)) (w1.heap.size + 1) (.slice (some ⟨w1.heap.size, 0, none⟩) 14 14) [1, 7, 0, 0, 1, 2, 0, 0, 0, 0, 0, 0, 0, 5] :=
    Bs.lit w1 [1, 7, 0, 0, 1, 2, 0, 0, 0, 0, 0, 0, 0, 5] (by unfold maxLen; simp)
  have CE := Lib.hid (equal_same (hb.alloc (Nat.le_refl _) (.cells #[.int .u8 1, .int .u8 7, .int .u8 0, .int .u8 0, .int .u8 1, .int .u8 2, .int .u8 0, .int .u8 0, .int .u8 0, .int .u8 0, .int .u8 0, .int .u8 0, .int .u8 0, .int .u8 5] 5)) hl2)
  have HB1 := Lib.hid (hb1.alloc hb1.size (.cells #[.int .u8 1, .int .u8 7, .int .u8 0, .int .u8 0, .int .u8 1, .int .u8 2, .int .u8 0, .int .u8 0, .int .u8 0, .int .u8 0, .int .u8 0, .int .u8 0, .int .u8 0, .int .u8 5] 5))
  clear ho1 hb hl2 hb1 C1
  go_wp2_with fail
  refine (CE.out).mono ?_
  rintro e2 w2 ⟨rfl, hd2⟩
  have HB2 := Lib.hid (HB1.out.trans ((hd2.below _).mono HB1.out.size))
  clear hd2
  go_wp2
  go_ret
  exact ⟨rfl, HB2.out⟩

theorem undrew1 {W w' : World} (h : Below W.drew.heap.size W.drew w') : Below W.heap.size W w' := by
  rw [World.size_drew] at h
  exact ((Below.refl W.heap.size W).drew).trans h
/-- an operation that yields is taken first, its slot written out -/
theorem takeD {P : Program} {ops : Array Oper} {Q : Exit → Act → World → Prop} {md : Region.Mode} {S : World → Prop} {i : Nat} {oi : Oper} {d : Option Nat} {v : Value} {fuel : Nat} {listed : Array Bool} {a : Act} {w : World} (hi : ops[i]? = some oi) (hd : oi.dst = d)
    (hs : Region.noSelect ops = true) (hf : Region.free md ops listed i = true) (hr : (Region.ready md ops listed).contains i = true)
    (hQ : ∀ c a w, Q (.panic c) (a.put d v) w → Q (.panic c) a w) (hy : YieldsIf P ops S oi v a) (hS : S w)
    (h : wpAnyH P md ops Q S fuel (listed.setIfInBounds i true) (a.put d v) w) : wpAnyH P md ops Q S (fuel + 1) listed a w := by
  subst hd
  exact wpAnyH_take hi hs hf hr hQ hy hS h
theorem sc_below {W W' : World} {B g L k : Nat} {CS MS : List Value} {kk dd nn : Int} (h : W.rangeAt g (k * 20) CS ∧ W.rangeAt L 0 CS ∧ W.rangeAt g (k * 20 + 4) MS ∧ W.rangeAt L 4 MS ∧ W.cell? ⟨L, 0, none⟩ = some (.int .u8 kk) ∧ W.cell? ⟨L, 2, none⟩ = some (.int .u32 dd) ∧ W.cell? ⟨L, 3, none⟩ = some (.int .u64 nn) ∧ W.cell? ⟨g, k * 20 + 3, none⟩ = some (.int .u64 nn)) (hb : Below B W W') (hg : g < B) (hL : L < B) : W'.rangeAt g (k * 20) CS ∧ W'.rangeAt L 0 CS ∧ W'.rangeAt g (k * 20 + 4) MS ∧ W'.rangeAt L 4 MS ∧ W'.cell? ⟨L, 0, none⟩ = some (.int .u8 kk) ∧ W'.cell? ⟨L, 2, none⟩ = some (.int .u32 dd) ∧ W'.cell? ⟨L, 3, none⟩ = some (.int .u64 nn) ∧ W'.cell? ⟨g, k * 20 + 3, none⟩ = some (.int .u64 nn) :=
  ⟨range_below h.1 hb hg, range_below h.2.1 hb hL, range_below h.2.2.1 hb hg, range_below h.2.2.2.1 hb hL, (hb.cell (p := ⟨L, 0, none⟩) hL).trans h.2.2.2.2.1, (hb.cell (p := ⟨L, 2, none⟩) hL).trans h.2.2.2.2.2.1, (hb.cell (p := ⟨L, 3, none⟩) hL).trans h.2.2.2.2.2.2.1, (hb.cell (p := ⟨g, k * 20 + 3, none⟩) hg).trans h.2.2.2.2.2.2.2⟩

set_option maxRecDepth 100000 in
set_option maxHeartbeats 4000000 in
theorem tells_walk {cs : List Cm} {v : Value} {w : World} (hv : Gs w w.heap.size v 20 (cs.map Cm.cs)) (hok : ∀ c ∈ cs, c.ok) (hn : cs.length ≤ 4398046511103) :
    Calls Try.prog 6 #[v] w fun e w' => e = .returned (.bool true) ∧ Below w.heap.size w w' := by
  have CA := Lib.hid (awake_any w)
  have CL2 : Hid (∀ W, Calls Try.prog 22 #[.agg #[.int .u8 2, .int .u8 0, .int .u32 0, .int .u64 0, .int .u8 0, .int .u8 0, .int .u8 0, .int .u8 0, .int .u8 0, .int .u8 0, .int .u8 0, .int .u8 0, .int .u8 0, .int .u8 0, .int .u8 0, .int .u8 0, .int .u8 0, .int .u8 0, .int .u8 0, .int .u8 0]] W fun e w' => e = .returned (.bool true) ∧ Below W.heap.size W w') := Lib.hid (fun W => last_any (c := cTwo) W)
  obtain ⟨A, c, rfl⟩ := hv.shape
  have HV := Lib.hid hv; have HOK := Lib.hid hok
  obtain ⟨n, hnn⟩ : ∃ n, n = cs.length := ⟨_, rfl⟩
  rw [List.length_map, ← hnn] at HV ⊢
  rw [← hnn] at hn
  have HNN := Lib.hid hnn
  clear hv hok hnn
  go_enter Try.func6, Try.ntmps6
  go_wp2_with fail
  refine (CA.out).mono ?_
  rintro e0 w0 ⟨rfl, hb0⟩
  have HB0 := Lib.hid hb0
  have CL := Lib.hid (CL2.out w0)
  clear hb0 CA CL2
  go_wp2_with fail
  refine (CL.out).mono ?_
  rintro e1 w1 ⟨rfl, hb1⟩
  have HB1 := Lib.hid (HB0.out.trans (hb1.mono HB0.out.size))
  clear hb1 HB0 CL
  have hv1 := (HV.out.below HB1.out (Nat.le_refl _)).below ((Below.refl w.heap.size w1).alloc HB1.out.size (.cells #[] 26)) (Nat.le_refl _)
  have HV1 := Lib.hid hv1
  have HE1 := Lib.hid (OwnGs.empty w1 w1.heap.size 26 20 (Nat.le_refl _))
  have HB2 := Lib.hid (HB1.out.alloc HB1.out.size (.cells #[] 26))
  have hone : Hid (∀ x ∈ cs.map Cm.cs, ∀ u ∈ x, u.oneCell' = true) := Lib.hid (fun x hx => by
    obtain ⟨c, _, rfl⟩ := List.mem_map.1 hx
    exact cs_one c)
  have hs1 : Hid (([] : List (List Value)).length + (cs.map Cm.cs).length ≤ maxLen) := Lib.hid (by rw [List.length_map, ← HNN.out]; unfold maxLen; simp; omega)
  have hs2 : Hid ((([] : List (List Value)).length + (cs.map Cm.cs).length) * 32 ≤ 140737488355328) := Lib.hid (by rw [List.length_map, ← HNN.out]; simp; omega)
  have hz1 : w1.heap.size ≤ (w1.alloc (.cells #[] 26)).heap.size := by simp
  have HZ1 := Lib.hid hz1
  clear hv1 hz1
  go_wp2_with (at_builtin; refine wpList_appGs rfl (.tmp 14) (.tmp 15) rfl Try.underlying45 cmd_info rfl (by decide) rfl HE1.out rfl HV1.out hone.out hs2.out hs1.out HZ1.out ?_)
  intro v3 w3 ho3 _ hb3
  have HB3 := Lib.hid (HB2.out.trans (hb3.mono HB1.out.size))
  replace ho3 : OwnGs w3 w1.heap.size 26 v3 20 (cs.map Cm.cs) := ho3
  obtain ⟨A3, c3, hv3⟩ := ho3.shape
  rw [List.length_map, ← HNN.out] at hv3
  subst hv3
  have CT := Lib.hid (tell_any ho3.gs HOK.out (Nat.le_refl _) (by rw [← HNN.out]; omega))
  rw [← HNN.out] at CT
  clear ho3 hb3 HB2 HE1 HV1 hone hs1 hs2 HB1
  go_wp2_with fail
  with_reducible refine (CT.out).mono ?_
  rintro e4 w4 ⟨g, rfl, hg1, hg2, hrow, hb4⟩
  have HB4 := Lib.hid (HB3.out.trans (hb4.mono HB3.out.size))
  have HROW := Lib.hid hrow
  have hgw : w.heap.size ≤ g := Nat.le_trans HB3.out.size hg1
  clear hb4 hrow CT HB3 hg1
  go_wp2_with fail
  go_loopw [25] (fun i wr => ∃ k : Nat, k ≤ n ∧ i = .int .i64 k ∧ Hid (Below w4.heap.size w4 wr)) (fun i _ => n - (intOf i).toNat)
  case atStart => exact ⟨0, Nat.zero_le _, rfl, Lib.hid (Below.refl _ _)⟩
  case round =>
    obtain ⟨k, hk, rfl, hbe⟩ := hrel
    by_cases hlt : k < n
    · have hkl : k < cs.length := by rw [← HNN.out]; exact hlt
      obtain ⟨x, hx⟩ : ∃ x, x = cs[k] := ⟨_, rfl⟩
      have hxo : x.ok := by rw [hx]; exact HOK.out _ (List.getElem_mem hkl)
      obtain ⟨b, off, rfl, hbB, hrg⟩ := HV.out.at_ (k := k) (by rw [List.length_map]; exact hkl)
      rw [List.getElem_map, ← hx] at hrg
      have hrow := HROW.out k hkl hlt
      rw [← hx] at hrow
      have hrg2 := range_below (range_below hrg HB4.out hbB) hbe.out (by have := HB4.out.size; omega)
      have hrow2 := range_below hrow hbe.out hg2
      have hxl := Cm.len hxo
      have h1c := cs_one x
      have hd32 := hxo.d
      have hm16 := hxo.m
      have hal := (Below.refl wr.heap.size wr).alloc (Nat.le_refl _) (.cells x.cs.toArray 26)
      have hgr : g < wr.heap.size := Nat.lt_of_lt_of_le hg2 hbe.out.size
      have hrt := range_below hrow2 hal hgr
      have hrl := range_new wr x.cs 26
      have hat := CmAt.of_range hrt
      have hal2 := CmAt.of_range hrl
      have CLX := fun W => last_any (c := x) W
      have CWX := fun W => wait_any hxo W
      have HNE : ∀ W, (binOp .neq 26 (.agg x.cs.toArray) (.agg x.cs.toArray)).run Try.prog W = .ok (.bool false) W := fun W => by
        rw [run_neq_struct, eq_cmd hxo]
        rfl
      have HNM : ∀ W, (binOp .neq 24 (.agg (x.m.map vb).toArray) (.agg (x.m.map vb).toArray)).run Try.prog W = .ok (.bool false) W := fun W => by
        rw [run_neq_struct, eq_mark x.m x.m hxo.m hxo.m]
        simp
      obtain ⟨kk, hkk⟩ : ∃ kk, kk = (x.k : Int) := ⟨_, rfl⟩
      obtain ⟨dd, hdd⟩ : ∃ dd, dd = x.d := ⟨_, rfl⟩
      obtain ⟨nn, hnn⟩ : ∃ nn, nn = (x.n : Int) := ⟨_, rfl⟩
      obtain ⟨MS, hMS⟩ : ∃ MS, MS = x.m.map vb := ⟨_, rfl⟩
      have hS0 : (wr.alloc (.cells x.cs.toArray 26)).rangeAt g (k * 20) x.cs ∧ (wr.alloc (.cells x.cs.toArray 26)).rangeAt wr.heap.size 0 x.cs ∧ (wr.alloc (.cells x.cs.toArray 26)).rangeAt g (k * 20 + 4) MS ∧ (wr.alloc (.cells x.cs.toArray 26)).rangeAt wr.heap.size 4 MS ∧ (wr.alloc (.cells x.cs.toArray 26)).cell? ⟨wr.heap.size, 0, none⟩ = some (.int .u8 kk) ∧ (wr.alloc (.cells x.cs.toArray 26)).cell? ⟨wr.heap.size, 2, none⟩ = some (.int .u32 (dd : Int)) ∧ (wr.alloc (.cells x.cs.toArray 26)).cell? ⟨wr.heap.size, 3, none⟩ = some (.int .u64 nn) ∧ (wr.alloc (.cells x.cs.toArray 26)).cell? ⟨g, k * 20 + 3, none⟩ = some (.int .u64 nn) := by
        rw [hMS, hkk, hdd, hnn]
        have q0 := hal2.m; have q2 := hal2.d; have q3 := hal2.n
        rw [Nat.zero_add] at q0 q2 q3
        exact ⟨hrt, hrl, hat.m, q0, hal2.k, q2, q3, hat.n⟩
      have hml : MS.length = 16 := by rw [hMS, List.length_map, hm16]
      rw [← hMS] at HNM
      obtain ⟨CS, hCS⟩ : ∃ CS, CS = x.cs := ⟨_, rfl⟩
      rw [← hCS] at hrg2 hxl h1c hS0 CLX CWX HNE
      rw [← hkk] at CLX
      rw [← hdd] at CWX hd32
      have HRG := Lib.hid hrg2; have HXL := Lib.hid hxl; have HML := Lib.hid hml; have HS0 := Lib.hid hS0
      have HCLX := Lib.hid CLX; have HCWX := Lib.hid CWX; have HNEH := Lib.hid HNE; have HNMH := Lib.hid HNM
      have HCV : Hid (IntKind.i64.wrap (dd : Int) = (dd : Int)) := Lib.hid (by rw [IntKind.wrap_i64]; omega)
      have u26 := Try.underlying26
      have i26 : (Try.prog.info? 26).map (·.size) = some CS.length := by rw [hxl]; kernel_rfl
      have hi : Hid ((Try.prog.info? 26).map (·.size) = some CS.toArray.size) := Lib.hid (by rw [List.size_toArray]; exact i26)
      have HI := Lib.hid i26
      obtain ⟨ZC, hzc⟩ : ∃ ZC : Array Value, ZC = (Cm.mk 0 0 0 0 (List.replicate 16 0)).cs.toArray := ⟨_, rfl⟩
      have hzv : ∀ W, (zeroValue 26).run Try.prog W = .ok (.agg ZC) W := by
        obtain ⟨i, hi, hz0, _⟩ := info3 cmd_info
        intro W
        rw [hzc]
        simp [zeroValue, typeInfo, hi, hz0]
      have HZS : Hid (ZC.size = 20) := Lib.hid (by rw [hzc]; rfl)
      have hz : Hid ((wr.alloc (.cells ZC 26)).heap[wr.heap.size]? = some (.cells ZC 26 (0, 0))) := Lib.hid (heap_alloc_new wr _)
      have ho : Hid (ZC.size = CS.toArray.size) := Lib.hid (by rw [HZS.out, List.size_toArray, hxl])
      have hone : Hid (CS.toArray.all (·.oneCell') = true) := Lib.hid (all_oneCell_toArray h1c)
      have HBA := Lib.hid (hbe.out.alloc hbe.out.size (.cells CS.toArray 26))
      have hgA : g < (wr.alloc (.cells CS.toArray 26)).heap.size := by simp; omega
      have hLA : wr.heap.size < (wr.alloc (.cells CS.toArray 26)).heap.size := by simp
      clear hrg hrow hrg2 hrow2 hxl h1c CLX CWX hkk hdd hnn hal hrt hrl hat hal2 hCS HNE HNM i26 hzc hx hMS hml hS0
      go_upto_region 9 with (first
        | (with_reducible refine wpList_load_mid rfl 26 (.tmp 28) rfl b (off + k * 20) rfl CS _ HRG.out u26 rfl HI.out ?_)
        | ((with_reducible refine wpList_store_row rfl 26 (.tmp 5) (.tmp 29) rfl wr.heap.size CS.toArray rfl rfl 26 _ hz.out hi.out ho.out hone.out ?_); rw [World.setRow_alloc_new]))
      generalize wr.alloc (.cells CS.toArray 26) = W at HS0 HBA hgA hLA ⊢
      clear hz hzv
      have HNE := HNEH.out
      have HNM := HNMH.out
      have hcv := HCV.out
      have CL5 := Lib.hid ((HCLX.out W.drew).mono (fun e w' ⟨h1, h2⟩ => (⟨h1, undrew1 h2⟩ : e = Ending.returned (.bool (kk != 1)) ∧ Below W.heap.size W w')))
      have u55 := Try.underlying55
      have u24 := Try.underlying24
      have i26 := HI.out
      have i55 : (Try.prog.info? 55).map (·.size) = some CS.length := by rw [HXL.out]; kernel_rfl
      have i24 : (Try.prog.info? 24).map (·.size) = some MS.length := by rw [HML.out]; kernel_rfl
      go_wp2_with fail
      refine wp_region_held_drew (S := fun w' => w'.rangeAt g (k * 20) CS ∧ w'.rangeAt wr.heap.size 0 CS ∧ w'.rangeAt g (k * 20 + 4) MS ∧ w'.rangeAt wr.heap.size 4 MS ∧ w'.cell? ⟨wr.heap.size, 0, none⟩ = some (.int .u8 kk) ∧ w'.cell? ⟨wr.heap.size, 2, none⟩ = some (.int .u32 (dd : Int)) ∧ w'.cell? ⟨wr.heap.size, 3, none⟩ = some (.int .u64 nn) ∧ w'.cell? ⟨g, k * 20 + 3, none⟩ = some (.int .u64 nn)) (by kernel_rfl) ?_ (fun hHeld => ?_)
      · exact HS0.out
      refine takeD (i := 0) (oi := _) (d := some 30) (v := ?_) rfl (by kernel_rfl) (by kernel_rfl) (by kernel_rfl) (by kernel_rfl) (fun _ _ _ h => h) (Or.inl ⟨by kernel_rfl, ?_⟩) (by assumption) ?_
      rotate_left
      focus (intro w' hSw; (try dsimp only at hSw); go_simp <;> with_reducible rfl)
      try simp only [Act.put, List.setIfInBounds_toArray, List.set_cons_zero, List.set_cons_succ]
      refine takeD (i := 1) (oi := _) (d := some 31) (v := ?_) rfl (by kernel_rfl) (by kernel_rfl) (by kernel_rfl) (by kernel_rfl) (fun _ _ _ h => h) (Or.inl ⟨by kernel_rfl, ?_⟩) (by assumption) ?_
      rotate_left
      focus (intro w' hSw; (try dsimp only at hSw); go_simp <;> with_reducible rfl)
      try simp only [Act.put, List.setIfInBounds_toArray, List.set_cons_zero, List.set_cons_succ]
      refine takeD (i := 2) (oi := _) (d := some 32) (v := ?_) rfl (by kernel_rfl) (by kernel_rfl) (by kernel_rfl) (by kernel_rfl) (fun _ _ _ h => h) (Or.inl ⟨by kernel_rfl, ?_⟩) (by assumption) ?_
      rotate_left
      focus (intro w' hSw; (try dsimp only at hSw); go_simp <;> with_reducible rfl)
      try simp only [Act.put, List.setIfInBounds_toArray, List.set_cons_zero, List.set_cons_succ]
      refine takeD (i := 3) (oi := _) (d := some 33) (v := ?_) rfl (by kernel_rfl) (by kernel_rfl) (by kernel_rfl) (by kernel_rfl) (fun _ _ _ h => h) (Or.inl ⟨by kernel_rfl, ?_⟩) (by assumption) ?_
      rotate_left
      focus (intro w' hSw; (try dsimp only at hSw); go_simp <;> with_reducible rfl)
      try simp only [Act.put, List.setIfInBounds_toArray, List.set_cons_zero, List.set_cons_succ]
      refine takeD (i := 4) (oi := _) (d := some 34) (v := _) rfl (by kernel_rfl) (by kernel_rfl) (by kernel_rfl) (by kernel_rfl) (fun _ _ _ h => h) (yieldsIf_load_mid (by kernel_rfl) _ _ rfl _ _ rfl CS _ (fun w' h => h.1) u26 rfl i26) (by assumption) ?_
      try simp only [Act.put, List.setIfInBounds_toArray, List.set_cons_zero, List.set_cons_succ]
      refine takeD (i := 5) (oi := _) (d := some 35) (v := _) rfl (by kernel_rfl) (by kernel_rfl) (by kernel_rfl) (by kernel_rfl) (fun _ _ _ h => h) (yieldsIf_load_mid (by kernel_rfl) _ _ rfl _ _ rfl CS _ (fun w' h => h.2.1) u26 rfl i26) (by assumption) ?_
      try simp only [Act.put, List.setIfInBounds_toArray, List.set_cons_zero, List.set_cons_succ]
      refine takeD (i := 6) (oi := _) (d := some 36) (v := ?_) rfl (by kernel_rfl) (by kernel_rfl) (by kernel_rfl) (by kernel_rfl) (fun _ _ _ h => h) (Or.inl ⟨by kernel_rfl, ?_⟩) (by assumption) ?_
      rotate_left
      focus (intro w' hSw; (try dsimp only at hSw); go_simp <;> with_reducible rfl)
      try simp only [Act.put, List.setIfInBounds_toArray, List.set_cons_zero, List.set_cons_succ]
      refine takeD (i := 7) (oi := _) (d := some 37) (v := ?_) rfl (by kernel_rfl) (by kernel_rfl) (by kernel_rfl) (by kernel_rfl) (fun _ _ _ h => h) (Or.inl ⟨by kernel_rfl, ?_⟩) (by assumption) ?_
      rotate_left
      focus (intro w' hSw; (try dsimp only at hSw); go_simp <;> with_reducible rfl)
      try simp only [Act.put, List.setIfInBounds_toArray, List.set_cons_zero, List.set_cons_succ]
      refine takeD (i := 8) (oi := _) (d := some 38) (v := ?_) rfl (by kernel_rfl) (by kernel_rfl) (by kernel_rfl) (by kernel_rfl) (fun _ _ _ h => h) (Or.inl ⟨by kernel_rfl, ?_⟩) (by assumption) ?_
      rotate_left
      focus (intro w' hSw; (try dsimp only at hSw); go_simp <;> with_reducible rfl)
      try simp only [Act.put, List.setIfInBounds_toArray, List.set_cons_zero, List.set_cons_succ]
      refine takeD (i := 9) (oi := _) (d := some 39) (v := ?_) rfl (by kernel_rfl) (by kernel_rfl) (by kernel_rfl) (by kernel_rfl) (fun _ _ _ h => h) (Or.inl ⟨by kernel_rfl, ?_⟩) (by assumption) ?_
      rotate_left
      focus (intro w' hSw; (try dsimp only at hSw); go_simp <;> with_reducible rfl)
      try simp only [Act.put, List.setIfInBounds_toArray, List.set_cons_zero, List.set_cons_succ]
      refine takeD (i := 10) (oi := _) (d := some 40) (v := ?_) rfl (by kernel_rfl) (by kernel_rfl) (by kernel_rfl) (by kernel_rfl) (fun _ _ _ h => h) (Or.inl ⟨by kernel_rfl, ?_⟩) (by assumption) ?_
      rotate_left
      focus (intro w' hSw; (try dsimp only at hSw); go_simp <;> with_reducible rfl)
      try simp only [Act.put, List.setIfInBounds_toArray, List.set_cons_zero, List.set_cons_succ]
      refine takeD (i := 11) (oi := _) (d := some 41) (v := _) rfl (by kernel_rfl) (by kernel_rfl) (by kernel_rfl) (by kernel_rfl) (fun _ _ _ h => h) (yieldsIf_load_mid (by kernel_rfl) _ _ rfl _ _ rfl CS _ (fun w' h => h.1) u55 rfl i55) (by assumption) ?_
      try simp only [Act.put, List.setIfInBounds_toArray, List.set_cons_zero, List.set_cons_succ]
      refine takeD (i := 13) (oi := _) (d := some 43) (v := ?_) rfl (by kernel_rfl) (by kernel_rfl) (by kernel_rfl) (by kernel_rfl) (fun _ _ _ h => h) (Or.inl ⟨by kernel_rfl, ?_⟩) (by assumption) ?_
      rotate_left
      focus (intro w' hSw; (try dsimp only at hSw); go_simp <;> with_reducible rfl)
      try simp only [Act.put, List.setIfInBounds_toArray, List.set_cons_zero, List.set_cons_succ]
      refine takeD (i := 14) (oi := _) (d := some 44) (v := ?_) rfl (by kernel_rfl) (by kernel_rfl) (by kernel_rfl) (by kernel_rfl) (fun _ _ _ h => h) (Or.inl ⟨by kernel_rfl, ?_⟩) (by assumption) ?_
      rotate_left
      focus (intro w' hSw; (try dsimp only at hSw); go_simp <;> with_reducible rfl)
      try simp only [Act.put, List.setIfInBounds_toArray, List.set_cons_zero, List.set_cons_succ]
      refine takeD (i := 15) (oi := _) (d := some 45) (v := ?_) rfl (by kernel_rfl) (by kernel_rfl) (by kernel_rfl) (by kernel_rfl) (fun _ _ _ h => h) (Or.inl ⟨by kernel_rfl, ?_⟩) (by assumption) ?_
      rotate_left
      focus (intro w' hSw; (try dsimp only at hSw); go_simp <;> with_reducible rfl)
      try simp only [Act.put, List.setIfInBounds_toArray, List.set_cons_zero, List.set_cons_succ]
      refine wpAnyH_ready (rs := [12]) (by kernel_rfl) (by simp) ?_
      refine AllReadyH.cons (o := _) rfl (fun K hK => ?_) AllReadyH.nil
      go_simp
      with_reducible refine (CL5.out).mono ?_
      rintro e5 w5 ⟨rfl, hb5⟩
      have HB5 := Lib.hid hb5
      have hz5 := hb5.size
      clear hb5
      refine hK.out _ _ ?_ (fun hHeld => ?_)
      · exact sc_below HS0.out HB5.out hgA hLA
      clear hK K
      try simp only [Act.put, List.setIfInBounds_toArray, List.set_cons_zero, List.set_cons_succ]
      refine takeD (i := 16) (oi := _) (d := some 46) (v := ?_) rfl (by kernel_rfl) (by kernel_rfl) (by kernel_rfl) (by kernel_rfl) (fun _ _ _ h => h) (Or.inl ⟨by kernel_rfl, ?_⟩) (by assumption) ?_
      rotate_left
      focus (intro w' hSw; (try dsimp only at hSw); go_simp <;> with_reducible rfl)
      try simp only [Act.put, List.setIfInBounds_toArray, List.set_cons_zero, List.set_cons_succ]
      refine takeD (i := 17) (oi := _) (d := some 47) (v := ?_) rfl (by kernel_rfl) (by kernel_rfl) (by kernel_rfl) (by kernel_rfl) (fun _ _ _ h => h) (Or.inl ⟨by kernel_rfl, ?_⟩) (by assumption) ?_
      rotate_left
      focus (intro w' hSw; (try dsimp only at hSw); go_simp <;> with_reducible rfl)
      try simp only [Act.put, List.setIfInBounds_toArray, List.set_cons_zero, List.set_cons_succ]
      refine takeD (i := 18) (oi := _) (d := some 48) (v := ?_) rfl (by kernel_rfl) (by kernel_rfl) (by kernel_rfl) (by kernel_rfl) (fun _ _ _ h => h) (Or.inl ⟨by kernel_rfl, ?_⟩) (by assumption) ?_
      rotate_left
      focus (intro w' hSw; (try dsimp only at hSw); go_simp <;> with_reducible rfl)
      try simp only [Act.put, List.setIfInBounds_toArray, List.set_cons_zero, List.set_cons_succ]
      refine takeD (i := 19) (oi := _) (d := some 49) (v := ?_) rfl (by kernel_rfl) (by kernel_rfl) (by kernel_rfl) (by kernel_rfl) (fun _ _ _ h => h) (Or.inl ⟨by kernel_rfl, ?_⟩) (by assumption) ?_
      rotate_left
      focus (intro w' hSw; (try dsimp only at hSw); go_simp <;> with_reducible rfl)
      try simp only [Act.put, List.setIfInBounds_toArray, List.set_cons_zero, List.set_cons_succ]
      refine takeD (i := 20) (oi := _) (d := some 50) (v := ?_) rfl (by kernel_rfl) (by kernel_rfl) (by kernel_rfl) (by kernel_rfl) (fun _ _ _ h => h) (Or.inl ⟨by kernel_rfl, ?_⟩) (by assumption) ?_
      rotate_left
      focus (intro w' hSw; (try dsimp only at hSw); go_simp <;> with_reducible rfl)
      try simp only [Act.put, List.setIfInBounds_toArray, List.set_cons_zero, List.set_cons_succ]
      refine takeD (i := 21) (oi := _) (d := some 51) (v := ?_) rfl (by kernel_rfl) (by kernel_rfl) (by kernel_rfl) (by kernel_rfl) (fun _ _ _ h => h) (Or.inl ⟨by kernel_rfl, ?_⟩) (by assumption) ?_
      rotate_left
      focus (intro w' hSw; (try dsimp only at hSw); go_simp <;> with_reducible rfl)
      try simp only [Act.put, List.setIfInBounds_toArray, List.set_cons_zero, List.set_cons_succ]
      refine takeD (i := 22) (oi := _) (d := some 52) (v := _) rfl (by kernel_rfl) (by kernel_rfl) (by kernel_rfl) (by kernel_rfl) (fun _ _ _ h => h) (yieldsIf_load_mid (by kernel_rfl) _ _ rfl _ _ rfl CS _ (fun w' h => h.1) u55 rfl i55) (by assumption) ?_
      try simp only [Act.put, List.setIfInBounds_toArray, List.set_cons_zero, List.set_cons_succ]
      refine takeD (i := 24) (oi := _) (d := some 54) (v := ?_) rfl (by kernel_rfl) (by kernel_rfl) (by kernel_rfl) (by kernel_rfl) (fun _ _ _ h => h) (Or.inl ⟨by kernel_rfl, ?_⟩) (by assumption) ?_
      rotate_left
      focus (intro w' hSw; (try dsimp only at hSw); go_simp <;> with_reducible rfl)
      try simp only [Act.put, List.setIfInBounds_toArray, List.set_cons_zero, List.set_cons_succ]
      refine takeD (i := 25) (oi := _) (d := some 55) (v := ?_) rfl (by kernel_rfl) (by kernel_rfl) (by kernel_rfl) (by kernel_rfl) (fun _ _ _ h => h) (Or.inl ⟨by kernel_rfl, ?_⟩) (by assumption) ?_
      rotate_left
      focus (intro w' hSw; (try dsimp only at hSw); go_simp <;> with_reducible rfl)
      try simp only [Act.put, List.setIfInBounds_toArray, List.set_cons_zero, List.set_cons_succ]
      refine takeD (i := 26) (oi := _) (d := some 56) (v := ?_) rfl (by kernel_rfl) (by kernel_rfl) (by kernel_rfl) (by kernel_rfl) (fun _ _ _ h => h) (Or.inl ⟨by kernel_rfl, ?_⟩) (by assumption) ?_
      rotate_left
      focus (intro w' hSw; (try dsimp only at hSw); go_simp <;> with_reducible rfl)
      try simp only [Act.put, List.setIfInBounds_toArray, List.set_cons_zero, List.set_cons_succ]
      refine wpAnyH_ready (rs := [23]) (by kernel_rfl) (by simp) ?_
      refine AllReadyH.cons (o := _) rfl (fun K hK => ?_) AllReadyH.nil
      go_simp
      with_reducible refine (HCWX.out _).mono ?_
      rintro e6 w6 ⟨rfl, hb6⟩
      have HB6 := Lib.hid hb6
      clear hb6
      refine hK.out _ _ ?_ (fun hHeld => ?_)
      · exact sc_below (sc_below HS0.out HB5.out hgA hLA) HB6.out (by omega) (by omega)
      clear hK K
      try simp only [Act.put, List.setIfInBounds_toArray, List.set_cons_zero, List.set_cons_succ]
      refine takeD (i := 27) (oi := _) (d := some 57) (v := ?_) rfl (by kernel_rfl) (by kernel_rfl) (by kernel_rfl) (by kernel_rfl) (fun _ _ _ h => h) (Or.inl ⟨by kernel_rfl, ?_⟩) (by assumption) ?_
      rotate_left
      focus (intro w' hSw; (try dsimp only at hSw); go_simp <;> with_reducible rfl)
      try simp only [Act.put, List.setIfInBounds_toArray, List.set_cons_zero, List.set_cons_succ]
      refine takeD (i := 28) (oi := _) (d := some 58) (v := ?_) rfl (by kernel_rfl) (by kernel_rfl) (by kernel_rfl) (by kernel_rfl) (fun _ _ _ h => h) (Or.inl ⟨by kernel_rfl, ?_⟩) (by assumption) ?_
      rotate_left
      focus (intro w' hSw; (try dsimp only at hSw); go_simp <;> with_reducible rfl)
      try simp only [Act.put, List.setIfInBounds_toArray, List.set_cons_zero, List.set_cons_succ]
      refine takeD (i := 29) (oi := _) (d := some 59) (v := ?_) rfl (by kernel_rfl) (by kernel_rfl) (by kernel_rfl) (by kernel_rfl) (fun _ _ _ h => h) (Or.inl ⟨by kernel_rfl, ?_⟩) (by assumption) ?_
      rotate_left
      focus (intro w' hSw; (try dsimp only at hSw); go_simp <;> with_reducible rfl)
      try simp only [Act.put, List.setIfInBounds_toArray, List.set_cons_zero, List.set_cons_succ]
      refine takeD (i := 30) (oi := _) (d := some 60) (v := ?_) rfl (by kernel_rfl) (by kernel_rfl) (by kernel_rfl) (by kernel_rfl) (fun _ _ _ h => h) (Or.inl ⟨by kernel_rfl, ?_⟩) (by assumption) ?_
      rotate_left
      focus (intro w' hSw; (try dsimp only at hSw); go_simp <;> with_reducible rfl)
      try simp only [Act.put, List.setIfInBounds_toArray, List.set_cons_zero, List.set_cons_succ]
      refine takeD (i := 31) (oi := _) (d := some 61) (v := ?_) rfl (by kernel_rfl) (by kernel_rfl) (by kernel_rfl) (by kernel_rfl) (fun _ _ _ h => h) (Or.inl ⟨by kernel_rfl, ?_⟩) (by assumption) ?_
      rotate_left
      focus (intro w' hSw; (try dsimp only at hSw); go_simp <;> with_reducible rfl)
      try simp only [Act.put, List.setIfInBounds_toArray, List.set_cons_zero, List.set_cons_succ]
      refine takeD (i := 32) (oi := _) (d := some 62) (v := ?_) rfl (by kernel_rfl) (by kernel_rfl) (by kernel_rfl) (by kernel_rfl) (fun _ _ _ h => h) (Or.inl ⟨by kernel_rfl, ?_⟩) (by assumption) ?_
      rotate_left
      focus (intro w' hSw; (try dsimp only at hSw); go_simp <;> with_reducible rfl)
      try simp only [Act.put, List.setIfInBounds_toArray, List.set_cons_zero, List.set_cons_succ]
      refine takeD (i := 33) (oi := _) (d := some 63) (v := ?_) rfl (by kernel_rfl) (by kernel_rfl) (by kernel_rfl) (by kernel_rfl) (fun _ _ _ h => h) (Or.inl ⟨by kernel_rfl, ?_⟩) (by assumption) ?_
      rotate_left
      focus (intro w' hSw; (try dsimp only at hSw); go_simp <;> with_reducible rfl)
      try simp only [Act.put, List.setIfInBounds_toArray, List.set_cons_zero, List.set_cons_succ]
      refine takeD (i := 34) (oi := _) (d := some 64) (v := ?_) rfl (by kernel_rfl) (by kernel_rfl) (by kernel_rfl) (by kernel_rfl) (fun _ _ _ h => h) (Or.inl ⟨by kernel_rfl, ?_⟩) (by assumption) ?_
      rotate_left
      focus (intro w' hSw; (try dsimp only at hSw); go_simp <;> with_reducible rfl)
      try simp only [Act.put, List.setIfInBounds_toArray, List.set_cons_zero, List.set_cons_succ]
      refine takeD (i := 35) (oi := _) (d := some 65) (v := ?_) rfl (by kernel_rfl) (by kernel_rfl) (by kernel_rfl) (by kernel_rfl) (fun _ _ _ h => h) (Or.inl ⟨by kernel_rfl, ?_⟩) (by assumption) ?_
      rotate_left
      focus (intro w' hSw; (try dsimp only at hSw); go_simp <;> with_reducible rfl)
      try simp only [Act.put, List.setIfInBounds_toArray, List.set_cons_zero, List.set_cons_succ]
      refine takeD (i := 36) (oi := _) (d := some 66) (v := ?_) rfl (by kernel_rfl) (by kernel_rfl) (by kernel_rfl) (by kernel_rfl) (fun _ _ _ h => h) (Or.inl ⟨by kernel_rfl, ?_⟩) (by assumption) ?_
      rotate_left
      focus (intro w' hSw; (try dsimp only at hSw); go_simp <;> with_reducible rfl)
      try simp only [Act.put, List.setIfInBounds_toArray, List.set_cons_zero, List.set_cons_succ]
      refine takeD (i := 37) (oi := _) (d := some 67) (v := ?_) rfl (by kernel_rfl) (by kernel_rfl) (by kernel_rfl) (by kernel_rfl) (fun _ _ _ h => h) (Or.inl ⟨by kernel_rfl, ?_⟩) (by assumption) ?_
      rotate_left
      focus (intro w' hSw; (try dsimp only at hSw); go_simp <;> with_reducible rfl)
      try simp only [Act.put, List.setIfInBounds_toArray, List.set_cons_zero, List.set_cons_succ]
      refine takeD (i := 38) (oi := _) (d := some 68) (v := ?_) rfl (by kernel_rfl) (by kernel_rfl) (by kernel_rfl) (by kernel_rfl) (fun _ _ _ h => h) (Or.inl ⟨by kernel_rfl, ?_⟩) (by assumption) ?_
      rotate_left
      focus (intro w' hSw; (try dsimp only at hSw); go_simp <;> with_reducible rfl)
      try simp only [Act.put, List.setIfInBounds_toArray, List.set_cons_zero, List.set_cons_succ]
      refine takeD (i := 39) (oi := _) (d := some 69) (v := ?_) rfl (by kernel_rfl) (by kernel_rfl) (by kernel_rfl) (by kernel_rfl) (fun _ _ _ h => h) (Or.inl ⟨by kernel_rfl, ?_⟩) (by assumption) ?_
      rotate_left
      focus (intro w' hSw; (try dsimp only at hSw); go_simp <;> with_reducible rfl)
      try simp only [Act.put, List.setIfInBounds_toArray, List.set_cons_zero, List.set_cons_succ]
      refine takeD (i := 40) (oi := _) (d := some 70) (v := ?_) rfl (by kernel_rfl) (by kernel_rfl) (by kernel_rfl) (by kernel_rfl) (fun _ _ _ h => h) (Or.inl ⟨by kernel_rfl, ?_⟩) (by assumption) ?_
      rotate_left
      focus (intro w' hSw; (try dsimp only at hSw); go_simp <;> with_reducible rfl)
      try simp only [Act.put, List.setIfInBounds_toArray, List.set_cons_zero, List.set_cons_succ]
      refine takeD (i := 41) (oi := _) (d := some 71) (v := ?_) rfl (by kernel_rfl) (by kernel_rfl) (by kernel_rfl) (by kernel_rfl) (fun _ _ _ h => h) (Or.inl ⟨by kernel_rfl, ?_⟩) (by assumption) ?_
      rotate_left
      focus (intro w' hSw; (try dsimp only at hSw); go_simp <;> with_reducible rfl)
      try simp only [Act.put, List.setIfInBounds_toArray, List.set_cons_zero, List.set_cons_succ]
      refine takeD (i := 42) (oi := _) (d := some 72) (v := ?_) rfl (by kernel_rfl) (by kernel_rfl) (by kernel_rfl) (by kernel_rfl) (fun _ _ _ h => h) (Or.inl ⟨by kernel_rfl, ?_⟩) (by assumption) ?_
      rotate_left
      focus (intro w' hSw; (try dsimp only at hSw); go_simp <;> with_reducible rfl)
      try simp only [Act.put, List.setIfInBounds_toArray, List.set_cons_zero, List.set_cons_succ]
      refine takeD (i := 43) (oi := _) (d := some 73) (v := ?_) rfl (by kernel_rfl) (by kernel_rfl) (by kernel_rfl) (by kernel_rfl) (fun _ _ _ h => h) (Or.inl ⟨by kernel_rfl, ?_⟩) (by assumption) ?_
      rotate_left
      focus (intro w' hSw; (try dsimp only at hSw); go_simp <;> with_reducible rfl)
      try simp only [Act.put, List.setIfInBounds_toArray, List.set_cons_zero, List.set_cons_succ]
      refine takeD (i := 44) (oi := _) (d := some 74) (v := ?_) rfl (by kernel_rfl) (by kernel_rfl) (by kernel_rfl) (by kernel_rfl) (fun _ _ _ h => h) (Or.inl ⟨by kernel_rfl, ?_⟩) (by assumption) ?_
      rotate_left
      focus (intro w' hSw; (try dsimp only at hSw); go_simp <;> with_reducible rfl)
      try simp only [Act.put, List.setIfInBounds_toArray, List.set_cons_zero, List.set_cons_succ]
      refine takeD (i := 45) (oi := _) (d := some 75) (v := ?_) rfl (by kernel_rfl) (by kernel_rfl) (by kernel_rfl) (by kernel_rfl) (fun _ _ _ h => h) (Or.inl ⟨by kernel_rfl, ?_⟩) (by assumption) ?_
      rotate_left
      focus (intro w' hSw; (try dsimp only at hSw); go_simp <;> with_reducible rfl)
      try simp only [Act.put, List.setIfInBounds_toArray, List.set_cons_zero, List.set_cons_succ]
      refine takeD (i := 46) (oi := _) (d := some 76) (v := _) rfl (by kernel_rfl) (by kernel_rfl) (by kernel_rfl) (by kernel_rfl) (fun _ _ _ h => h) (yieldsIf_load_mid (by kernel_rfl) _ _ rfl _ _ rfl MS _ (fun w' h => h.2.2.1) u24 rfl i24) (by assumption) ?_
      try simp only [Act.put, List.setIfInBounds_toArray, List.set_cons_zero, List.set_cons_succ]
      refine takeD (i := 47) (oi := _) (d := some 77) (v := ?_) rfl (by kernel_rfl) (by kernel_rfl) (by kernel_rfl) (by kernel_rfl) (fun _ _ _ h => h) (Or.inl ⟨by kernel_rfl, ?_⟩) (by assumption) ?_
      rotate_left
      focus (intro w' hSw; (try dsimp only at hSw); go_simp <;> with_reducible rfl)
      try simp only [Act.put, List.setIfInBounds_toArray, List.set_cons_zero, List.set_cons_succ]
      refine takeD (i := 48) (oi := _) (d := some 78) (v := _) rfl (by kernel_rfl) (by kernel_rfl) (by kernel_rfl) (by kernel_rfl) (fun _ _ _ h => h) (yieldsIf_load_mid (by kernel_rfl) _ _ rfl _ _ rfl MS _ (fun w' h => h.2.2.2.1) u24 rfl i24) (by assumption) ?_
      try simp only [Act.put, List.setIfInBounds_toArray, List.set_cons_zero, List.set_cons_succ]
      refine takeD (i := 49) (oi := _) (d := some 79) (v := ?_) rfl (by kernel_rfl) (by kernel_rfl) (by kernel_rfl) (by kernel_rfl) (fun _ _ _ h => h) (Or.inl ⟨by kernel_rfl, ?_⟩) (by assumption) ?_
      rotate_left
      focus (intro w' hSw; (try dsimp only at hSw); go_simp <;> with_reducible rfl)
      try simp only [Act.put, List.setIfInBounds_toArray, List.set_cons_zero, List.set_cons_succ]
      refine takeD (i := 50) (oi := _) (d := some 80) (v := ?_) rfl (by kernel_rfl) (by kernel_rfl) (by kernel_rfl) (by kernel_rfl) (fun _ _ _ h => h) (Or.inl ⟨by kernel_rfl, ?_⟩) (by assumption) ?_
      rotate_left
      focus (intro w' hSw; (try dsimp only at hSw); go_simp <;> with_reducible rfl)
      try simp only [Act.put, List.setIfInBounds_toArray, List.set_cons_zero, List.set_cons_succ]
      refine wpAnyH_done (by kernel_rfl) ?_ _
      have HBF := Lib.hid ((HBA.out.trans (HB5.out.mono (HBA.out.size))).trans (HB6.out.mono (by have := HBA.out.size; omega)))
      go_wp2_with fail
      go_roundw
      case rel => exact ⟨k + 1, by omega, by go_num, HBF⟩
      case measure => simp [intOf]; omega
    · have HBE := Lib.hid (HB4.out.trans (hbe.out.mono HB4.out.size))
      clear hbe
      go_wp2
      go_ret
      exact ⟨rfl, HBE.out⟩
end Go.Proofs.Yteonidpgplhplaa
