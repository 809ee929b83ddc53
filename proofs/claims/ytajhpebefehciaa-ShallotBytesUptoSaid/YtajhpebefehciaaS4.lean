/- ShaKeeps, walked. -/
import Derived.Test.YtajhpebefehciaaS3
import Derived.Test.YtajhpebefehciaaG7
import Derived.Test.YtajhpebefehciaaShaPadS
namespace Go.Proofs.Ytajhpebefehciaa
open Go.RowKit

/-- two copies with room behind them, and what came in -/
structure KX (w0 : World) (gX gY : Nat) (a b : List UInt8) (w : World) : Prop where
  bel : Below w0.heap.size w0 w
  X : Own w w0.heap.size (.slice (some ⟨gX, 0, none⟩) (a.length + 40) (a.length + 40)) (fullS a)
  Y : Own w w0.heap.size (.slice (some ⟨gY, 0, none⟩) (b.length + 40) (b.length + 40)) (fullS b)
theorem KX.ltX {w0 : World} {gX gY : Nat} {a b : List UInt8} {w : World} (k : KX w0 gX gY a b w) : gX < w.heap.size := (own_lt k.X (k := gX) rfl).2
theorem KX.ltY {w0 : World} {gX gY : Nat} {a b : List UInt8} {w : World} (k : KX w0 gX gY a b w) : gY < w.heap.size := (own_lt k.Y (k := gY) rfl).2
theorem KX.below {w0 : World} {gX gY : Nat} {a b : List UInt8} {w w' : World} (k : KX w0 gX gY a b w) (hb : Below w.heap.size w w') : KX w0 gX gY a b w' :=
  ⟨k.bel.trans (hb.mono k.bel.size), k.X.below hb (Nat.le_refl _), k.Y.below hb (Nat.le_refl _)⟩
theorem KX.alloc {w0 : World} {gX gY : Nat} {a b : List UInt8} {w : World} (k : KX w0 gX gY a b w) (o : Obj) : KX w0 gX gY a b (w.alloc o) := k.below ((Below.refl _ _).alloc (Nat.le_refl _) o)
theorem KX.grown {w0 : World} {gX gY g : Nat} {a b : List UInt8} {w w' : World} (k : KX w0 gX gY a b w) (hg : w.grownBy w' (some g)) (h0 : w0.heap.size ≤ g) (hx : gX ≠ g) (hy : gY ≠ g) : KX w0 gX gY a b w' :=
  ⟨k.bel.grown hg k.bel.size (fun j hj => by simp only [Option.some.injEq] at hj; omega), k.X.kept hg (.inr (by simpa [Value.ownBlock] using hx)), k.Y.kept hg (.inr (by simpa [Value.ownBlock] using hy))⟩
theorem KX.bx {w0 : World} {gX gY : Nat} {a b : List UInt8} {w : World} (k : KX w0 gX gY a b w) : Bs w w.heap.size (.slice (some ⟨gX, 0, none⟩) a.length (a.length + 40)) a := by
  have h := (k.X.pre (n := a.length) (by rw [fullS_len]; omega)).bs
  rwa [fullS_take] at h
theorem KX.by_ {w0 : World} {gX gY : Nat} {a b : List UInt8} {w : World} (k : KX w0 gX gY a b w) : Bs w w.heap.size (.slice (some ⟨gY, 0, none⟩) b.length (b.length + 40)) b := by
  have h := (k.Y.pre (n := b.length) (by rw [fullS_len]; omega)).bs
  rwa [fullS_take] at h
theorem KX.sum2 {w0 : World} {gX gY : Nat} {a b : List UInt8} {W : World} (k : KX w0 gX gY a b W) (hla : a.length ≤ 1048576) (hlb : b.length ≤ 1048576) :
    Calls Try.prog 29 #[.slice (some ⟨W.heap.size, 0, none⟩) 2 2] (W.alloc (.cells #[.slice (some ⟨gX, 0, none⟩) a.length (a.length + 40), .slice (some ⟨gY, 0, none⟩) b.length (b.length + 40)] 22)) fun e w' => e = .returned (arr32 (sumL (a ++ b))) ∧ Below W.heap.size W w' := by
  have hr := Rs.lit W [.slice (some ⟨gX, 0, none⟩) a.length (a.length + 40), .slice (some ⟨gY, 0, none⟩) b.length (b.length + 40)] [a, b] rfl (by unfold maxLen; simp) (by
    intro j h h'
    match j, h, h' with
    | 0, _, _ => exact k.bx
    | 1, _, _ => exact k.by_)
  have C := shaSum_any hr (by simp) (by simp; omega)
  rw [show [a, b].flatten = a ++ b by simp] at C
  exact C.mono fun e w' ⟨h1, h2⟩ => ⟨h1, ((Below.refl _ _).alloc (Nat.le_refl _) _).trans (h2.mono (by simp))⟩
theorem KX.new1 {w0 : World} {gX gY : Nat} {a b : List UInt8} {W : World} (k : KX w0 gX gY a b W) (hla : a.length ≤ 1048576) :
    Calls Try.prog 23 #[.slice (some ⟨W.heap.size, 0, none⟩) 1 1] (W.alloc (.cells #[.slice (some ⟨gX, 0, none⟩) a.length (a.length + 40)] 22)) fun e w' => ∃ g, e = .returned (.pointer (some ⟨g, 0, none⟩)) ∧ W.heap.size < g ∧ Hashed w' g 38 [] a ∧ Below W.heap.size W w' := by
  have hr := Rs.lit W [.slice (some ⟨gX, 0, none⟩) a.length (a.length + 40)] [a] rfl (by unfold maxLen; simp) (by
    intro j h h'
    match j, h, h' with
    | 0, _, _ => exact k.bx)
  have hs : (W.alloc (.cells #[.slice (some ⟨gX, 0, none⟩) a.length (a.length + 40)] 22)).heap.size = W.heap.size + 1 := by simp
  have C := new_any (w := W.alloc (.cells #[.slice (some ⟨gX, 0, none⟩) a.length (a.length + 40)] 22)) (by rw [hs]; exact hr) (by simp; omega)
  rw [show [a].flatten = a by simp] at C
  exact C.mono fun e w' ⟨h1, h2, h3⟩ => ⟨_, h1, by rw [hs]; omega, h2, ((Below.refl _ _).alloc (Nat.le_refl _) _).trans (h3.mono (by simp))⟩


set_option maxRecDepth 100000 in
set_option maxHeartbeats 4000000 in
theorem keeps_walk {a b : List UInt8} {u v : Value} {w : World} (ha : Bs w w.heap.size u a) (hb : Bs w w.heap.size v b) (hla : a.length ≤ 1048576) (hlb : b.length ≤ 1048576) :
    Calls Try.prog 6 #[u, v] w fun e w' => e = .returned (.bool true) ∧ Below w.heap.size w w' := by
  have CA := Lib.hid (awake2_any w)
  obtain ⟨AA, cA, rfl⟩ := ha.shape
  obtain ⟨AB, cB, rfl⟩ := hb.shape
  have HA := Lib.hid ha; have HBB := Lib.hid hb
  clear ha hb
  go_enter Try.func6, Try.ntmps6
  go_wp2_with fail
  with_reducible refine (CA.out).mono ?_
  rintro e0 w0 ⟨rfl, hb0⟩
  have hz0 := hb0.size
  have HB0 := Lib.hid hb0
  have C1 := Lib.hid (spare_any (HA.out.below hb0 (Nat.le_refl _)) hz0 (by omega))
  clear hb0 CA
  go_wp2_with fail
  with_reducible refine (C1.out).mono ?_
  rintro e1 w1 ⟨gX, rfl, hgx, hox, hb1⟩
  have hz1 := hb1.size
  have hb01 := HB0.out.trans (hb1.mono hz0)
  have HX1 := Lib.hid hox
  have hgx1 : gX < w1.heap.size := (own_lt hox (k := gX) rfl).2
  have C2 := Lib.hid (spare_any (HBB.out.below hb01 (Nat.le_refl _)) (by omega) (by omega))
  have HB1 := Lib.hid hb01
  clear hox hb1 hb01 C1 HB0
  go_wp2_with fail
  with_reducible refine (C2.out).mono ?_
  rintro e2 w2 ⟨gY, rfl, hgy, hoy, hb2⟩
  have K2 : Hid (KX w gX gY a b w2) := Lib.hid ⟨HB1.out.trans (hb2.mono (by omega)), (HX1.out.below hb2 (Nat.le_refl _)).more (by omega), hoy.more (by omega)⟩
  have hxy : gX < gY := by omega
  have hgy2 : gY < w2.heap.size := K2.out.ltY
  obtain ⟨M, hM⟩ : ∃ M, M = a ++ b := ⟨_, rfl⟩
  have hMl : M.length ≤ a.length + b.length := by rw [hM, List.length_append]; exact Nat.le_refl _
  obtain ⟨SS, hSS⟩ : ∃ SS, SS = (sumL M).map vb := ⟨_, rfl⟩
  have hS : arr32 (sumL M) = .agg SS.toArray := by rw [hSS]; rfl
  have hSl : SS.length = 32 := by rw [hSS, List.length_map, sumL_len]
  have EQS : ∀ W, (Op.equalIn 10000 40 (.agg SS.toArray) (.agg SS.toArray)).run Try.prog W = .ok true W := fun W => by rw [← hS]; exact eq_arr32 _ (sumL_len _) W
  have HS := Lib.hid hS; have HM := Lib.hid hM
  have hone : Hid (SS.toArray.all (·.oneCell') = true) := Lib.hid (all_oneCell_toArray (by rw [hSS]; exact vb_one _))
  have hi32 : Hid ((Try.prog.info? 40).map (·.size) = some SS.toArray.size) := Lib.hid (by rw [List.size_toArray, hSl]; kernel_rfl)
  have I32 : Hid ((Try.prog.info? 40).map (·.size) = some SS.length) := Lib.hid (by rw [hSl]; kernel_rfl)
  have ho32 : Hid ((#[.int .u8 0, .int .u8 0, .int .u8 0, .int .u8 0, .int .u8 0, .int .u8 0, .int .u8 0, .int .u8 0, .int .u8 0, .int .u8 0, .int .u8 0, .int .u8 0, .int .u8 0, .int .u8 0, .int .u8 0, .int .u8 0, .int .u8 0, .int .u8 0, .int .u8 0, .int .u8 0, .int .u8 0, .int .u8 0, .int .u8 0, .int .u8 0, .int .u8 0, .int .u8 0, .int .u8 0, .int .u8 0, .int .u8 0, .int .u8 0, .int .u8 0, .int .u8 0] : Array Value).size = SS.toArray.size) := Lib.hid (by show 32 = _; rw [List.size_toArray, hSl])
  have CS1 := K2.out.sum2 hla hlb
  rw [← hM, hS] at CS1
  have CS1 := Lib.hid CS1
  clear hoy hb2 C2 HX1 HB1 hSS hS hM
  go_wp2_with fail
  with_reducible refine (CS1.out).mono ?_
  rintro e3 w3 ⟨rfl, hb3⟩
  have hz3 := hb3.size
  have K3 := Lib.hid (K2.out.below hb3)
  have K4' := Lib.hid (K3.out.alloc (.cells SS.toArray 40))
  have R4' := Lib.hid (World.rangeAt_of_new w3 SS 40)
  have hz32 : Hid ((w3.alloc (.cells #[.int .u8 0, .int .u8 0, .int .u8 0, .int .u8 0, .int .u8 0, .int .u8 0, .int .u8 0, .int .u8 0, .int .u8 0, .int .u8 0, .int .u8 0, .int .u8 0, .int .u8 0, .int .u8 0, .int .u8 0, .int .u8 0, .int .u8 0, .int .u8 0, .int .u8 0, .int .u8 0, .int .u8 0, .int .u8 0, .int .u8 0, .int .u8 0, .int .u8 0, .int .u8 0, .int .u8 0, .int .u8 0, .int .u8 0, .int .u8 0, .int .u8 0, .int .u8 0] 40)).heap[w3.heap.size]? = some (.cells #[.int .u8 0, .int .u8 0, .int .u8 0, .int .u8 0, .int .u8 0, .int .u8 0, .int .u8 0, .int .u8 0, .int .u8 0, .int .u8 0, .int .u8 0, .int .u8 0, .int .u8 0, .int .u8 0, .int .u8 0, .int .u8 0, .int .u8 0, .int .u8 0, .int .u8 0, .int .u8 0, .int .u8 0, .int .u8 0, .int .u8 0, .int .u8 0, .int .u8 0, .int .u8 0, .int .u8 0, .int .u8 0, .int .u8 0, .int .u8 0, .int .u8 0, .int .u8 0] 40 (0, 0))) := Lib.hid (heap_alloc_new w3 _)
  have hs4 : w3.heap.size < (w3.alloc (.cells SS.toArray 40)).heap.size := by simp
  clear hb3 CS1 K2 K3
  go_upto_region 6 with ((with_reducible refine wpList_store_row rfl 40 (.tmp 9) (.tmp 32) rfl w3.heap.size SS.toArray rfl rfl 40 _ hz32.out hi32.out ho32.out hone.out ?_); rw [World.setRow_alloc_new])
  obtain ⟨o1, ho1⟩ : ∃ o1, o1 = w3.heap.size := ⟨_, rfl⟩
  rw [← ho1] at hs4 R4' ⊢
  generalize w3.alloc (.cells SS.toArray 40) = w4 at K4' R4' hs4 ⊢
  have CN := Lib.hid (K4'.out.new1 hla)
  have ho1y : gY < o1 := by omega
  clear ho1 hz32
  go_wp2_with fail
  with_reducible refine (CN.out).mono ?_
  rintro e5 w5 ⟨g, rfl, hgw, hh5, hb5⟩
  have hz5 := hb5.size
  have K5 := Lib.hid (K4'.out.below hb5)
  have R5 := Lib.hid (range_below R4'.out hb5 (by omega))
  have hg5 := hh5.lt
  have CW := write_one hh5 K5.out.by_ (Nat.le_refl _) (fun _ => by simp [Value.ownBlock]; omega) (by omega)
  rw [← HM.out] at CW
  have CW := Lib.hid CW
  clear hh5 hb5 CN K4' R4'
  go_wp2_with fail
  with_reducible refine (CW.out).mono ?_
  rintro e6 w6 ⟨rfl, hh6, hg6⟩
  have hz6 := hg6.size
  have K6 := Lib.hid (K5.out.grown hg6 (by have := K5.out.bel.size; omega) (by omega) (by omega))
  have R6 := Lib.hid (range_grown R5.out hg6 (by omega))
  have CS2 := sum_any hh6 (by omega)
  rw [HS.out] at CS2
  have CS2 := Lib.hid CS2
  have HH6 := Lib.hid hh6
  clear hh6 hg6 CW K5 R5
  go_wp2_with fail
  with_reducible refine (CS2.out).mono ?_
  rintro e7 w7 ⟨rfl, hb7⟩
  have hz7 := hb7.size
  have hal7 : Below w7.heap.size w7 (w7.alloc (.cells SS.toArray 40)) := (Below.refl _ _).alloc (Nat.le_refl _) _
  have hb8 := hb7.trans (hal7.mono hz7)
  have K8' := Lib.hid (K6.out.below hb8)
  have HH8' := Lib.hid (HH6.out.below hb8 HH6.out.lt)
  have R8' := Lib.hid (And.intro (range_below R6.out hb8 (by omega)) (World.rangeAt_of_new w7 SS 40))
  have hz32 : Hid ((w7.alloc (.cells #[.int .u8 0, .int .u8 0, .int .u8 0, .int .u8 0, .int .u8 0, .int .u8 0, .int .u8 0, .int .u8 0, .int .u8 0, .int .u8 0, .int .u8 0, .int .u8 0, .int .u8 0, .int .u8 0, .int .u8 0, .int .u8 0, .int .u8 0, .int .u8 0, .int .u8 0, .int .u8 0, .int .u8 0, .int .u8 0, .int .u8 0, .int .u8 0, .int .u8 0, .int .u8 0, .int .u8 0, .int .u8 0, .int .u8 0, .int .u8 0, .int .u8 0, .int .u8 0] 40)).heap[w7.heap.size]? = some (.cells #[.int .u8 0, .int .u8 0, .int .u8 0, .int .u8 0, .int .u8 0, .int .u8 0, .int .u8 0, .int .u8 0, .int .u8 0, .int .u8 0, .int .u8 0, .int .u8 0, .int .u8 0, .int .u8 0, .int .u8 0, .int .u8 0, .int .u8 0, .int .u8 0, .int .u8 0, .int .u8 0, .int .u8 0, .int .u8 0, .int .u8 0, .int .u8 0, .int .u8 0, .int .u8 0, .int .u8 0, .int .u8 0, .int .u8 0, .int .u8 0, .int .u8 0, .int .u8 0] 40 (0, 0))) := Lib.hid (heap_alloc_new w7 _)
  have hs8 : w7.heap.size < (w7.alloc (.cells SS.toArray 40)).heap.size := by simp
  clear hb7 hal7 hb8 CS2 K6 HH6 R6
  go_upto_region 8 with ((with_reducible refine wpList_store_row rfl 40 (.tmp 11) (.tmp 40) rfl w7.heap.size SS.toArray rfl rfl 40 _ hz32.out hi32.out ho32.out hone.out ?_); rw [World.setRow_alloc_new])
  obtain ⟨o2, ho2⟩ : ∃ o2, o2 = w7.heap.size := ⟨_, rfl⟩
  rw [← ho2] at hs8 R8' ⊢
  generalize w7.alloc (.cells SS.toArray 40) = w8 at K8' R8' HH8' hs8 ⊢
  have CX := Lib.hid (write_one HH8'.out K8'.out.bx (Nat.le_refl _) (fun _ => by simp [Value.ownBlock]; omega) (by omega))
  have ho2y : gY < o2 := by omega
  have ho2g : g < o2 := by omega
  clear hz32 ho2
  go_wp2_with fail
  with_reducible refine (CX.out).mono ?_
  rintro e8 w8b ⟨rfl, hh8, hg8⟩
  have hz8 := hg8.size
  have K8 := Lib.hid (K8'.out.grown hg8 (by have := K8'.out.bel.size; omega) (by omega) (by omega))
  have R8 := Lib.hid (And.intro (range_grown R8'.out.1 hg8 (by omega)) (range_grown R8'.out.2 hg8 (by omega)))
  have HH8 := Lib.hid hh8
  obtain ⟨E, hE⟩ : ∃ E : Int, E = (if (a.length : Int) < 0 ∨ 16777216 < (a.length : Int) then 1 else 0) := ⟨_, rfl⟩
  obtain ⟨R, hR⟩ : ∃ R, R = (if (a.length : Int) < 0 ∨ 16777216 < (a.length : Int) then [] else padS (a.length : Int).toNat) := ⟨_, rfl⟩
  have hRl : R.length ≤ 1000 := by
    rw [hR]
    split
    · simp
    · have h := padZ_lt (a.length : Int).toNat
      have e : (padS (a.length : Int).toNat).length = padZ (a.length : Int).toNat + 9 := by simp [padS, zs_len, putL_length]
      rw [e]
      omega
  have CP : ∀ W, Calls Try.prog 30 #[.int .i64 (a.length : Int)] W fun e w' => ∃ v, e = .returned (.tuple #[v, .int .i64 E]) ∧ Own w' W.heap.size v R ∧ Below W.heap.size W w' := fun W => by
    rw [hE, hR]
    exact shapad_all a.length W (fun N hN => padding_any N (by omega) W)
  have CP := Lib.hid CP
  clear hh8 hg8 CX K8' R8' HH8' hE hR
  go_wp2_with fail
  with_reducible refine (CP.out _).mono ?_
  rintro e9 w9 ⟨P9, rfl, ho9, hb9⟩
  obtain ⟨A9, c9, rfl⟩ := ho9.shape
  have hz9 := hb9.size
  have K9 := Lib.hid (K8.out.below hb9)
  have HH9 := Lib.hid (HH8.out.below hb9 HH8.out.lt)
  have R9 := Lib.hid (And.intro (range_below R8.out.1 hb9 (by omega)) (range_below R8.out.2 hb9 (by omega)))
  have HP9 := Lib.hid ho9
  clear ho9 hb9 K8 HH8 R8
  go_wp2_with fail
  with_reducible refine (CP.out _).mono ?_
  rintro e10 w10 ⟨P10, rfl, ho10, hb10⟩
  obtain ⟨A10, c10, rfl⟩ := ho10.shape
  have hz10 := hb10.size
  have HPQ := Lib.hid (own_block_ne HP9.out ho10 (Nat.le_refl _))
  have hpl : ∀ j, (Value.slice A9 R.length c9).ownBlock = some j → w8b.heap.size ≤ j := fun j hj => (own_lt HP9.out hj).1
  have hql : ∀ j, (Value.slice A10 R.length c10).ownBlock = some j → w9.heap.size ≤ j := fun j hj => (own_lt ho10 hj).1
  have HPL := Lib.hid hpl; have HQL := Lib.hid hql
  have HPU : Hid (∀ j, (Value.slice A9 R.length c9).ownBlock = some j → j < w10.heap.size) := Lib.hid (fun j hj => by have := (own_lt HP9.out hj).2; omega)
  have HQU : Hid (∀ j, (Value.slice A10 R.length c10).ownBlock = some j → j < w10.heap.size) := Lib.hid (fun j hj => (own_lt ho10 hj).2)
  have K10 := Lib.hid (K9.out.below hb10)
  have K10d := Lib.hid (K10.out.below ((Below.refl w10.heap.size w10).drew))
  have HH10d : Hid (Hashed w10.drew g 38 [] (M ++ a)) := Lib.hid ((HH9.out.below hb10 HH9.out.lt).below ((Below.refl w10.heap.size w10).drew) (by omega))
  have RR : Hid (w10.drew.rangeAt o1 0 SS ∧ w10.drew.rangeAt o2 0 SS) := Lib.hid (And.intro ((World.rangeAt_drew w10 o1 0 SS).2 (range_below R9.out.1 hb10 (by omega))) ((World.rangeAt_drew w10 o2 0 SS).2 (range_below R9.out.2 hb10 (by omega))))
  have HP10d : Hid (Own w10.drew w.heap.size (.slice A9 R.length c9) R) := Lib.hid (((HP9.out.below hb10 (Nat.le_refl _)).more (by have := K9.out.bel.size; have := K10.out.bel.size; omega)).drewN 1)
  have HQ10d : Hid (Own w10.drew w.heap.size (.slice A10 R.length c10) R) := Lib.hid ((ho10.more (by have := K9.out.bel.size; omega)).drewN 1)
  have CK1 := Lib.hid (kept_any K10d.out.X.bs (HA.out.below K10d.out.bel (Nat.le_refl _)) (by omega))
  have hl1 : o1 < w10.drew.heap.size := by rw [World.size_drew]; omega
  have hl2 : o2 < w10.drew.heap.size := by rw [World.size_drew]; omega
  have u32 := Try.underlying40
  have i32 := I32.out
  have hw10 : w10.drew.heap.size = w10.heap.size := World.size_drew w10
  clear hb10 ho10 hpl hql CP K9 K10 HH9 R9 HP9
  go_wp2_with fail
  refine wp_region_held_drew (S := fun w' => w'.rangeAt o1 0 SS ∧ w'.rangeAt o2 0 SS) (by kernel_rfl) ?_ (fun hHeld => ?_)
  · exact RR.out
  refine takeD (i := 0) (oi := _) (d := some 57) (v := _) rfl (by kernel_rfl) (by kernel_rfl) (by kernel_rfl) (by kernel_rfl) (fun _ _ _ h => h) (yieldsIf_load_mid (by kernel_rfl) _ _ rfl _ _ rfl SS _ (fun w' h => h.1) u32 rfl i32) (by assumption) ?_
  try simp only [Act.put, List.setIfInBounds_toArray, List.set_cons_zero, List.set_cons_succ]
  refine takeD (i := 1) (oi := _) (d := some 58) (v := _) rfl (by kernel_rfl) (by kernel_rfl) (by kernel_rfl) (by kernel_rfl) (fun _ _ _ h => h) (yieldsIf_load_mid (by kernel_rfl) _ _ rfl _ _ rfl SS _ (fun w' h => h.2) u32 rfl i32) (by assumption) ?_
  try simp only [Act.put, List.setIfInBounds_toArray, List.set_cons_zero, List.set_cons_succ]
  refine takeD (i := 2) (oi := _) (d := some 59) (v := ?_) rfl (by kernel_rfl) (by kernel_rfl) (by kernel_rfl) (by kernel_rfl) (fun _ _ _ h => h) (Or.inl ⟨by kernel_rfl, ?_⟩) (by assumption) ?_
  rotate_left
  focus (intro w' hSw; (try dsimp only at hSw); go_simp <;> with_reducible rfl)
  try simp only [Act.put, List.setIfInBounds_toArray, List.set_cons_zero, List.set_cons_succ]
  refine takeD (i := 3) (oi := _) (d := some 60) (v := ?_) rfl (by kernel_rfl) (by kernel_rfl) (by kernel_rfl) (by kernel_rfl) (fun _ _ _ h => h) (Or.inl ⟨by kernel_rfl, ?_⟩) (by assumption) ?_
  rotate_left
  focus (intro w' hSw; (try dsimp only at hSw); go_simp <;> with_reducible rfl)
  try simp only [Act.put, List.setIfInBounds_toArray, List.set_cons_zero, List.set_cons_succ]
  refine takeD (i := 4) (oi := _) (d := some 61) (v := ?_) rfl (by kernel_rfl) (by kernel_rfl) (by kernel_rfl) (by kernel_rfl) (fun _ _ _ h => h) (Or.inl ⟨by kernel_rfl, ?_⟩) (by assumption) ?_
  rotate_left
  focus (intro w' hSw; (try dsimp only at hSw); go_simp <;> with_reducible rfl)
  try simp only [Act.put, List.setIfInBounds_toArray, List.set_cons_zero, List.set_cons_succ]
  refine takeD (i := 5) (oi := _) (d := some 62) (v := ?_) rfl (by kernel_rfl) (by kernel_rfl) (by kernel_rfl) (by kernel_rfl) (fun _ _ _ h => h) (Or.inl ⟨by kernel_rfl, ?_⟩) (by assumption) ?_
  rotate_left
  focus (intro w' hSw; (try dsimp only at hSw); go_simp <;> with_reducible rfl)
  try simp only [Act.put, List.setIfInBounds_toArray, List.set_cons_zero, List.set_cons_succ]
  refine wpAnyH_ready (rs := [6]) (by kernel_rfl) (by simp) ?_
  refine AllReadyH.cons (o := _) rfl (fun K hK => ?_) AllReadyH.nil
  go_simp
  with_reducible refine (CK1.out).mono ?_
  rintro e11 w11 ⟨rfl, hd11⟩
  have hb11 := hd11.below w10.drew.heap.size
  have K11 := Lib.hid (K10d.out.below hb11)
  have HH11 := Lib.hid (HH10d.out.below hb11 HH10d.out.lt)
  have HP11 := Lib.hid (HP10d.out.below hb11 (Nat.le_refl _))
  have HQ11 := Lib.hid (HQ10d.out.below hb11 (Nat.le_refl _))
  have R11 := Lib.hid (And.intro (range_below RR.out.1 hb11 hl1) (range_below RR.out.2 hb11 hl2))
  have hz11 := hb11.size
  have CK2 := Lib.hid (kept_any K11.out.Y.bs (HBB.out.below K11.out.bel (Nat.le_refl _)) (by omega))
  clear hd11 hb11 CK1 K10d HH10d HP10d HQ10d
  refine hK.out _ _ ?_ (fun hHeld => ?_)
  · exact R11.out
  clear hK K
  try simp only [Act.put, List.setIfInBounds_toArray, List.set_cons_zero, List.set_cons_succ]
  refine takeD (i := 7) (oi := _) (d := some 64) (v := ?_) rfl (by kernel_rfl) (by kernel_rfl) (by kernel_rfl) (by kernel_rfl) (fun _ _ _ h => h) (Or.inl ⟨by kernel_rfl, ?_⟩) (by assumption) ?_
  rotate_left
  focus (intro w' hSw; (try dsimp only at hSw); go_simp <;> with_reducible rfl)
  try simp only [Act.put, List.setIfInBounds_toArray, List.set_cons_zero, List.set_cons_succ]
  refine takeD (i := 8) (oi := _) (d := some 65) (v := ?_) rfl (by kernel_rfl) (by kernel_rfl) (by kernel_rfl) (by kernel_rfl) (fun _ _ _ h => h) (Or.inl ⟨by kernel_rfl, ?_⟩) (by assumption) ?_
  rotate_left
  focus (intro w' hSw; (try dsimp only at hSw); go_simp <;> with_reducible rfl)
  try simp only [Act.put, List.setIfInBounds_toArray, List.set_cons_zero, List.set_cons_succ]
  refine takeD (i := 9) (oi := _) (d := some 66) (v := ?_) rfl (by kernel_rfl) (by kernel_rfl) (by kernel_rfl) (by kernel_rfl) (fun _ _ _ h => h) (Or.inl ⟨by kernel_rfl, ?_⟩) (by assumption) ?_
  rotate_left
  focus (intro w' hSw; (try dsimp only at hSw); go_simp <;> with_reducible rfl)
  try simp only [Act.put, List.setIfInBounds_toArray, List.set_cons_zero, List.set_cons_succ]
  refine takeD (i := 10) (oi := _) (d := some 67) (v := ?_) rfl (by kernel_rfl) (by kernel_rfl) (by kernel_rfl) (by kernel_rfl) (fun _ _ _ h => h) (Or.inl ⟨by kernel_rfl, ?_⟩) (by assumption) ?_
  rotate_left
  focus (intro w' hSw; (try dsimp only at hSw); go_simp <;> with_reducible rfl)
  try simp only [Act.put, List.setIfInBounds_toArray, List.set_cons_zero, List.set_cons_succ]
  refine takeD (i := 11) (oi := _) (d := some 68) (v := ?_) rfl (by kernel_rfl) (by kernel_rfl) (by kernel_rfl) (by kernel_rfl) (fun _ _ _ h => h) (Or.inl ⟨by kernel_rfl, ?_⟩) (by assumption) ?_
  rotate_left
  focus (intro w' hSw; (try dsimp only at hSw); go_simp <;> with_reducible rfl)
  try simp only [Act.put, List.setIfInBounds_toArray, List.set_cons_zero, List.set_cons_succ]
  refine wpAnyH_ready (rs := [12]) (by kernel_rfl) (by simp) ?_
  refine AllReadyH.cons (o := _) rfl (fun K hK => ?_) AllReadyH.nil
  go_simp
  with_reducible refine (CK2.out).mono ?_
  rintro e12 w12 ⟨rfl, hd12⟩
  have hb12 := hd12.below w11.heap.size
  have K12 := Lib.hid (K11.out.below hb12)
  have HH12 := Lib.hid (HH11.out.below hb12 HH11.out.lt)
  have HP12 := Lib.hid (HP11.out.below hb12 (Nat.le_refl _))
  have HQ12 := Lib.hid (HQ11.out.below hb12 (Nat.le_refl _))
  have R12 := Lib.hid (And.intro (range_below R11.out.1 hb12 (by omega)) (range_below R11.out.2 hb12 (by omega)))
  have hz12 := hb12.size
  have CS3 := K12.out.sum2 hla hlb
  rw [← HM.out, HS.out] at CS3
  have CS3 := Lib.hid CS3
  have R12b := Lib.hid (And.intro (range_below R12.out.1 ((Below.refl w12.heap.size w12).alloc (Nat.le_refl _) (.cells #[.slice (some ⟨gX, 0, none⟩) a.length (a.length + 40), .slice (some ⟨gY, 0, none⟩) b.length (b.length + 40)] 22)) (by omega)) (range_below R12.out.2 ((Below.refl w12.heap.size w12).alloc (Nat.le_refl _) (.cells #[.slice (some ⟨gX, 0, none⟩) a.length (a.length + 40), .slice (some ⟨gY, 0, none⟩) b.length (b.length + 40)] 22)) (by omega)))
  clear hd12 hb12 CK2 K11 HH11 HP11 HQ11 R11
  refine hK.out _ _ ?_ (fun hHeld => ?_)
  · exact R12.out
  clear hK K
  try simp only [Act.put, List.setIfInBounds_toArray, List.set_cons_zero, List.set_cons_succ]
  refine takeD (i := 13) (oi := _) (d := some 70) (v := ?_) rfl (by kernel_rfl) (by kernel_rfl) (by kernel_rfl) (by kernel_rfl) (fun _ _ _ h => h) (Or.inl ⟨by kernel_rfl, ?_⟩) (by assumption) ?_
  rotate_left
  focus (intro w' hSw; (try dsimp only at hSw); go_simp <;> with_reducible rfl)
  try simp only [Act.put, List.setIfInBounds_toArray, List.set_cons_zero, List.set_cons_succ]
  refine takeD (i := 14) (oi := _) (d := some 71) (v := ?_) rfl (by kernel_rfl) (by kernel_rfl) (by kernel_rfl) (by kernel_rfl) (fun _ _ _ h => h) (Or.inl ⟨by kernel_rfl, ?_⟩) (by assumption) ?_
  rotate_left
  focus (intro w' hSw; (try dsimp only at hSw); go_simp <;> with_reducible rfl)
  try simp only [Act.put, List.setIfInBounds_toArray, List.set_cons_zero, List.set_cons_succ]
  refine takeD (i := 15) (oi := _) (d := some 72) (v := ?_) rfl (by kernel_rfl) (by kernel_rfl) (by kernel_rfl) (by kernel_rfl) (fun _ _ _ h => h) (Or.inl ⟨by kernel_rfl, ?_⟩) (by assumption) ?_
  rotate_left
  focus (intro w' hSw; (try dsimp only at hSw); go_simp <;> with_reducible rfl)
  try simp only [Act.put, List.setIfInBounds_toArray, List.set_cons_zero, List.set_cons_succ]
  refine takeD (i := 16) (oi := _) (d := some 73) (v := ?_) rfl (by kernel_rfl) (by kernel_rfl) (by kernel_rfl) (by kernel_rfl) (fun _ _ _ h => h) (Or.inl ⟨by kernel_rfl, ?_⟩) (by assumption) ?_
  rotate_left
  focus (intro w' hSw; (try dsimp only at hSw); go_simp <;> with_reducible rfl)
  try simp only [Act.put, List.setIfInBounds_toArray, List.set_cons_zero, List.set_cons_succ]
  refine takeD (i := 17) (oi := _) (d := some 74) (v := ?_) rfl (by kernel_rfl) (by kernel_rfl) (by kernel_rfl) (by kernel_rfl) (fun _ _ _ h => h) (Or.inl ⟨by kernel_rfl, ?_⟩) (by assumption) ?_
  rotate_left
  focus (intro w' hSw; (try dsimp only at hSw); go_simp <;> with_reducible rfl)
  try simp only [Act.put, List.setIfInBounds_toArray, List.set_cons_zero, List.set_cons_succ]
  refine takeD (i := 20) (oi := _) (d := some 77) (v := _) rfl (by kernel_rfl) (by kernel_rfl) (by kernel_rfl) (by kernel_rfl) (fun _ _ _ h => h) (yieldsIf_load_mid (by kernel_rfl) _ _ rfl _ _ rfl SS _ (fun w' h => h.1) u32 rfl i32) (by assumption) ?_
  try simp only [Act.put, List.setIfInBounds_toArray, List.set_cons_zero, List.set_cons_succ]
  refine wpAnyH_ready (rs := [18]) (by kernel_rfl) (by simp) ?_
  refine AllReadyH.cons (o := _) rfl (fun K hK => ?_) AllReadyH.nil
  go_simp
  refine hK.out _ _ ?_ (fun hHeld => ?_)
  · exact R12b.out
  clear hK K
  try simp only [Act.put, List.setIfInBounds_toArray, List.set_cons_zero, List.set_cons_succ]
  refine wpAnyH_ready (rs := [19]) (by kernel_rfl) (by simp) ?_
  refine AllReadyH.cons (o := _) rfl (fun K hK => ?_) AllReadyH.nil
  go_simp
  with_reducible refine (CS3.out).mono ?_
  rintro e13 w13 ⟨rfl, hb13⟩
  have K13 := Lib.hid (K12.out.below hb13)
  have HH13 := Lib.hid (HH12.out.below hb13 HH12.out.lt)
  have HP13 := Lib.hid (HP12.out.below hb13 (Nat.le_refl _))
  have HQ13 := Lib.hid (HQ12.out.below hb13 (Nat.le_refl _))
  have R13 := Lib.hid (And.intro (range_below R12.out.1 hb13 (by omega)) (range_below R12.out.2 hb13 (by omega)))
  have hz13 := hb13.size
  clear hb13 CS3 K12 HH12 HP12 HQ12 R12b
  refine hK.out _ _ ?_ (fun hHeld => ?_)
  · exact R13.out
  clear hK K
  try simp only [Act.put, List.setIfInBounds_toArray, List.set_cons_zero, List.set_cons_succ]
  refine takeD (i := 21) (oi := _) (d := some 78) (v := ?_) rfl (by kernel_rfl) (by kernel_rfl) (by kernel_rfl) (by kernel_rfl) (fun _ _ _ h => h) (Or.inl ⟨by kernel_rfl, ?_⟩) (by assumption) ?_
  rotate_left
  focus (intro w' hSw; (try dsimp only at hSw); go_simp <;> with_reducible rfl)
  try simp only [Act.put, List.setIfInBounds_toArray, List.set_cons_zero, List.set_cons_succ]
  refine takeD (i := 22) (oi := _) (d := some 79) (v := ?_) rfl (by kernel_rfl) (by kernel_rfl) (by kernel_rfl) (by kernel_rfl) (fun _ _ _ h => h) (Or.inl ⟨by kernel_rfl, ?_⟩) (by assumption) ?_
  rotate_left
  focus (intro w' hSw; (try dsimp only at hSw); go_simp <;> with_reducible rfl)
  try simp only [Act.put, List.setIfInBounds_toArray, List.set_cons_zero, List.set_cons_succ]
  refine wpAnyH_done (by kernel_rfl) ?_ _
  clear RR R12 R13 u32 i32 hHeld
  have hgx2 : gX < w13.heap.size := K13.out.ltX
  have COX := Lib.hid (over_pre (n := a.length) K13.out.X (by rw [fullS_len]; omega) (by rw [fullS_len]; omega))
  go_wp2_with fail
  with_reducible refine (COX.out).mono ?_
  rintro e14 w14 ⟨rfl, ⟨lx, hlx, ho14⟩, hg14⟩
  have hz14 := hg14.size
  have hgxb : w.heap.size ≤ gX := by have := (own_lt K13.out.X (k := gX) rfl).1; omega
  have hgyb : w.heap.size ≤ gY := by omega
  have hy14 := K13.out.Y.kept hg14 (.inr (by simp [Value.ownBlock]; omega))
  have HB14 := Lib.hid (K13.out.bel.grown hg14 K13.out.bel.size (fun j hj => by simp only [Option.some.injEq] at hj; omega))
  have HX14 := Lib.hid ho14
  have HH14 := Lib.hid (HH13.out.grown hg14 (fun e => by simp only [Option.some.injEq] at e; omega))
  have HP14 := Lib.hid (HP13.out.kept hg14 (.inr (fun e => by have := HPL.out _ e; omega)))
  have HQ14 := Lib.hid (HQ13.out.kept hg14 (.inr (fun e => by have := HQL.out _ e; omega)))
  have COY := Lib.hid (over_pre (n := b.length) hy14 (by rw [fullS_len]; omega) (by rw [fullS_len]; omega))
  clear hg14 ho14 hy14 COX K13 HH13 HP13 HQ13
  go_wp2_with fail
  with_reducible refine (COY.out).mono ?_
  rintro e15 w15 ⟨rfl, ⟨ly, hly, ho15⟩, hg15⟩
  have hz15 := hg15.size
  have HX15 := Lib.hid (HX14.out.kept hg15 (.inr (by simp [Value.ownBlock]; omega)))
  have HY15 := Lib.hid ho15
  have HB15 := Lib.hid (HB14.out.grown hg15 HB14.out.size (fun j hj => by simp only [Option.some.injEq] at hj; omega))
  have HH15 := Lib.hid (HH14.out.grown hg15 (fun e => by simp only [Option.some.injEq] at e; omega))
  have HP15 := Lib.hid (HP14.out.kept hg15 (.inr (fun e => by have := HPL.out _ e; omega)))
  have HQ15 := Lib.hid (HQ14.out.kept hg15 (.inr (fun e => by have := HQL.out _ e; omega)))
  have CC := Lib.hid (copy_any (HA.out.below HB15.out (Nat.le_refl _)) HB15.out.size (by omega))
  have h15 := HB15.out.size
  clear hg15 ho15 COY HX14 HH14 HP14 HQ14 HB14
  go_wp2_with fail
  with_reducible refine (CC.out).mono ?_
  rintro e16 w16 ⟨u16, rfl, ho16, hb16⟩
  obtain ⟨A16, c16, rfl⟩ := ho16.shape
  have hz16 := hb16.size
  have HB16 := Lib.hid (HB15.out.trans (hb16.mono h15))
  have HX16 := Lib.hid (HX15.out.below hb16 (Nat.le_refl _))
  have HY16 := Lib.hid (HY15.out.below hb16 (Nat.le_refl _))
  have HH16 := Lib.hid (HH15.out.below hb16 HH15.out.lt)
  have HP16 := Lib.hid (HP15.out.below hb16 (Nat.le_refl _))
  have HQ16 := Lib.hid (HQ15.out.below hb16 (Nat.le_refl _))
  have HO16 := Lib.hid ho16
  have HV16 := Lib.hid (HBB.out.below HB16.out (Nat.le_refl _))
  have h1 : Hid (a.length + b.length ≤ 140737488355328) := Lib.hid (by omega)
  have h2 : Hid (w15.heap.size ≤ w16.heap.size) := Lib.hid (by omega)
  clear ho16 hb16 CC HX15 HY15 HH15 HP15 HQ15 HB15
  go_wp2_with (at_builtin; with_reducible refine wpList_app rfl (.tmp 85) (.tmp 86) rfl rfl HO16.out rfl HV16.out h1.out h2.out ?_)
  intro v17 w17 ho17 hg17 _
  have hlt17 : ∀ j, (Value.slice A16 a.length c16).ownBlock = some j → w15.heap.size ≤ j := fun j hj => (World.ownsRow.lt HO16.out j hj).1
  have hz17 := hg17.size
  rw [← HM.out] at ho17
  obtain ⟨A17, c17, rfl⟩ := ho17.shape
  have HB17 := Lib.hid (HB16.out.grown hg17 HB16.out.size (fun j hj => by have := hlt17 j hj; omega))
  have HX17 := Lib.hid (HX16.out.kept hg17 (.inr (fun e => by have := hlt17 gX e.symm; have := (own_lt HX16.out (k := gX) rfl).1; omega)))
  have HY17 := Lib.hid (HY16.out.kept hg17 (.inr (fun e => by have := hlt17 gY e.symm; omega)))
  have HH17 := Lib.hid (HH16.out.grown hg17 (fun e => by have := hlt17 _ e; omega))
  have HP17 := Lib.hid (HP16.out.kept hg17 (blk_ne HPU.out hlt17 (by omega)))
  have HQ17 := Lib.hid (HQ16.out.kept hg17 (blk_ne HQU.out hlt17 (by omega)))
  have HO17 := Lib.hid ho17
  have HV17 := Lib.hid (HA.out.below HB17.out (Nat.le_refl _))
  have h3 : Hid (M.length + a.length ≤ 140737488355328) := Lib.hid (by omega)
  have h4 : Hid (w15.heap.size ≤ w17.heap.size) := Lib.hid (by omega)
  clear ho17 hg17 hlt17 HO16 HV16 HX16 HY16 HH16 HP16 HQ16 HB16
  go_wp2_with (at_builtin; with_reducible refine wpList_app rfl (.tmp 87) (.tmp 88) rfl rfl HO17.out rfl HV17.out h3.out h4.out ?_)
  intro v18 w18 ho18 hg18 _
  have hlt18 : ∀ j, (Value.slice A17 M.length c17).ownBlock = some j → w15.heap.size ≤ j := fun j hj => (World.ownsRow.lt HO17.out j hj).1
  have hz18 := hg18.size
  obtain ⟨F, hF⟩ : ∃ F, F = M ++ a := ⟨_, rfl⟩
  have hFl : F.length ≤ M.length + a.length := by rw [hF, List.length_append]; exact Nat.le_refl _
  rw [← hF] at ho18
  obtain ⟨A18, c18, rfl⟩ := ho18.shape
  have HB18 := Lib.hid (HB17.out.grown hg18 HB17.out.size (fun j hj => by have := hlt18 j hj; omega))
  have HX18 := Lib.hid (HX17.out.kept hg18 (.inr (fun e => by have := hlt18 gX e.symm; omega)))
  have HY18 := Lib.hid (HY17.out.kept hg18 (.inr (fun e => by have := hlt18 gY e.symm; omega)))
  have hh18 := HH17.out.grown hg18 (fun e => by have := hlt18 _ e; omega)
  rw [← hF] at hh18
  have HP18 := Lib.hid (HP17.out.kept hg18 (blk_ne HPU.out hlt18 (by omega)))
  have HQ18 := Lib.hid (HQ17.out.kept hg18 (blk_ne HQU.out hlt18 (by omega)))
  have HO18 := Lib.hid ho18
  obtain ⟨SF, hSF⟩ : ∃ SF, arr32 (sumL F) = .agg SF := ⟨_, rfl⟩
  have EQF : ∀ W, (Op.equalIn 10000 40 (.agg SF) (.agg SF)).run Try.prog W = .ok true W := fun W => by rw [← hSF]; exact eq_arr32 _ (sumL_len _) W
  have C19 := sum_any hh18 (by omega)
  rw [hSF] at C19
  have HC19 := Lib.hid C19; have HSF := Lib.hid hSF
  clear ho18 hg18 hlt18 hh18 C19 hSF hF HO17 HV17 HX17 HY17 HH17 HP17 HQ17 HB17 EQS
  go_wp2_with fail
  with_reducible refine (HC19.out).mono ?_
  rintro e19 w19 ⟨rfl, hb19⟩
  have hz19 := hb19.size
  have C20 := refSum_any (HO18.out.bs.below hb19 (Nat.le_refl _)) hz19 (by omega)
  rw [HSF.out] at C20
  have HC20 := Lib.hid C20
  have HB19 := Lib.hid hb19
  clear hb19 C20
  go_wp2_with fail
  with_reducible refine (HC20.out).mono ?_
  rintro e20 w20 ⟨rfl, hb20⟩
  have hz20 := hb20.size
  have hb21 := HB19.out.trans (hb20.mono hz19)
  have hal : Below w20.heap.size w20 (w20.alloc (.cells #[.slice A9 R.length c9, .slice A10 R.length c10, .slice (some ⟨gX, 0, none⟩) (a.length + 40) (a.length + 40), .slice (some ⟨gY, 0, none⟩) (b.length + 40) (b.length + 40)] 22)) := (Below.refl _ _).alloc (Nat.le_refl _) _
  have hx21 := HX18.out.below hb21 (Nat.le_refl _)
  have hy21 := HY18.out.below hb21 (Nat.le_refl _)
  have hp21 := HP18.out.below hb21 (Nat.le_refl _)
  have hq21 := HQ18.out.below hb21 (Nat.le_refl _)
  have hB21 := HB18.out.trans (hb21.mono HB18.out.size)
  have CAP := apart_list (ps := [(.slice A9 R.length c9, R), (.slice A10 R.length c10, R), (.slice (some ⟨gX, 0, none⟩) (a.length + 40) (a.length + 40), lx), (.slice (some ⟨gY, 0, none⟩) (b.length + 40) (b.length + 40), ly)]) (bl := w20.heap.size) (c := 4) (n := 4) (w := w20.alloc (.cells #[.slice A9 R.length c9, .slice A10 R.length c10, .slice (some ⟨gX, 0, none⟩) (a.length + 40) (a.length + 40), .slice (some ⟨gY, 0, none⟩) (b.length + 40) (b.length + 40)] 22)) (B := w.heap.size) rfl
    (by rw [World.size_alloc]; have := hB21.size; omega) (by omega) (by
      simp only [List.mem_cons, List.not_mem_nil, or_false]
      rintro p (rfl | rfl | rfl | rfl)
      · show R.length ≤ _; omega
      · show R.length ≤ _; omega
      · show lx.length ≤ _; rw [hlx, fullS_len]; omega
      · show ly.length ≤ _; rw [hly, fullS_len]; omega) (by
      intro r h
      rw [cell_of_row _ _ r _ _ (0, 0) (heap_alloc_new w20 _)]
      match r, h with
      | 0, _ => rfl
      | 1, _ => rfl
      | 2, _ => rfl
      | 3, _ => rfl) (by
      simp only [List.mem_cons, List.not_mem_nil, or_false]
      rintro p (rfl | rfl | rfl | rfl)
      · exact hp21.alloc _
      · exact hq21.alloc _
      · exact hx21.alloc _
      · exact hy21.alloc _) (by
      simp only [List.mem_cons, List.not_mem_nil, or_false]
      rintro p (rfl | rfl | rfl | rfl)
      · exact own_block_new hp21 (Nat.le_refl _)
      · exact own_block_new hq21 (Nat.le_refl _)
      · exact own_block_new hx21 (Nat.le_refl _)
      · exact own_block_new hy21 (Nat.le_refl _)) (by rw [World.size_alloc]; omega) (by
      have p1 : (Value.slice A9 R.length c9).ownBlock ≠ some gX := fun e => by have := HPL.out _ e; omega
      have p2 : (Value.slice A9 R.length c9).ownBlock ≠ some gY := fun e => by have := HPL.out _ e; omega
      have q1 : (Value.slice A10 R.length c10).ownBlock ≠ some gX := fun e => by have := HQL.out _ e; omega
      have q2 : (Value.slice A10 R.length c10).ownBlock ≠ some gY := fun e => by have := HQL.out _ e; omega
      refine List.pairwise_cons.2 ⟨?_, List.pairwise_cons.2 ⟨?_, List.pairwise_cons.2 ⟨?_, List.pairwise_singleton _ _⟩⟩⟩
      all_goals simp only [List.mem_cons, List.not_mem_nil, or_false]
      · rintro p (rfl | rfl | rfl)
        · exact HPQ.out
        · exact .inr p1
        · exact .inr p2
      · rintro p (rfl | rfl)
        · exact .inr q1
        · exact .inr q2
      · rintro p rfl
        exact .inr (by simp [Value.ownBlock]; omega)) (by omega) (by unfold maxLen; omega)
  have CAP := Lib.hid CAP
  have HBF := Lib.hid (hB21.trans (hal.mono hB21.size))
  clear hb20 hb21 hal hx21 hy21 hp21 hq21 hB21 HC20 HC19
  go_wp2_with fail
  with_reducible refine (CAP.out).mono ?_
  rintro e22 w22 ⟨rfl, hb22⟩
  go_wp2
  go_ret
  exact ⟨rfl, HBF.out.trans hb22⟩
end Go.Proofs.Ytajhpebefehciaa
