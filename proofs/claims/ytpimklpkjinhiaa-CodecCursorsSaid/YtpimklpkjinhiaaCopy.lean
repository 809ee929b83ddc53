/- Copy, Copies, Equals and Join of the reference; told. -/
import Derived.Test.YtpimklpkjinhiaaEqual
import Derived.Test.YtpimklpkjinhiaaJoin
namespace Go.Proofs.Ytpimklpkjinhiaa
open Go.RowKit

theorem Own.empty (w : World) (B : Nat) (hB : B ≤ w.heap.size) : Own (w.alloc (.cells #[] 5)) B (.slice (some ⟨w.heap.size, 0, none⟩) 0 0) [] :=
  World.ownsRow_made w #[] 0 hB (Nat.zero_le _) rfl

set_option maxHeartbeats 400000 in
theorem copy_any {l : List UInt8} {v : Value} {w : World} {B : Nat} (hb : Bs w B v l) (hB : B ≤ w.heap.size) (hl : l.length ≤ 140737488355328) :
    Calls Try.prog 18 #[v] w fun e w' => ∃ u, e = .returned u ∧ Own w' w.heap.size u l ∧ Below w.heap.size w w' := by
  have he := Own.empty w w.heap.size (Nat.le_refl _)
  have hal : Below w.heap.size w (w.alloc (.cells #[] 5)) := (Below.refl _ _).alloc (Nat.le_refl _) _
  have hb' := hb.below hal hB
  go_enter Try.func18, Try.ntmps18
  go_wp2_with (at_builtin; refine wpList_app rfl (.tmp 3) (.tmp 4) rfl rfl he rfl hb' (by simpa using hl) (by simp) ?_)
  intro v' w' hown hg _
  have hbel := grown_below hal hg (by simp) he
  go_wp2
  go_ret
  exact ⟨_, rfl, hown, hbel⟩

theorem below_size {B : Nat} {w w' : World} (h : Below B w w') : w.heap.size ≤ w'.heap.size := h.size
theorem OwnRs.alloc {w : World} {B : Nat} {v : Value} {ls : List (List UInt8)} (h : OwnRs w B v ls) (o : Obj) : OwnRs (w.alloc o) B v ls :=
  h.below ((Below.refl _ _).alloc (Nat.le_refl _) o) (Nat.le_refl _)

set_option maxHeartbeats 400000 in
theorem copies_any {ls : List (List UInt8)} {v : Value} {w : World} {B : Nat} (hr : Rs w B v ls) (hB : B ≤ w.heap.size) (hl : ls.length ≤ 5864062014804) (hs : ∀ l ∈ ls, l.length ≤ 140737488355328) :
    Calls Try.prog 21 #[v] w fun e w' => ∃ u, e = .returned u ∧ OwnRs w' w.heap.size u ls ∧ Below w.heap.size w w' := by
  obtain ⟨A, c, rfl, h1, h2, h3⟩ := hr
  have H3 := Lib.hid h3; clear h3
  unfold maxLen at h2
  obtain ⟨i0, hi, hz0, hz1, hz2⟩ := info_parts u24info
  go_enter Try.func21, Try.ntmps21
  go_wp2_with (at_make; refine wpList_make_own _ rfl _ _ 41 rfl w.heap.size 24 i0 _ 1 Try.underlying41 hi hz0 hz1 _ _ _ ls.length rfl rfl rfl ?b1 ?b2 (Nat.le_refl _) ?_)
  case b1 => rw [hz2]; omega
  case b2 => unfold maxLen; omega
  intro w1 hown hgr
  have hbel : Below w.heap.size w w1 := (Below.refl _ _).grown hgr (Nat.le_refl _) (by simp)
  clear hgr
  have hO : Hid (OwnRs w1 w.heap.size (.slice (some ⟨w.heap.size, 0, none⟩) 0 ls.length) []) := ⟨[], hown, rfl, fun j h => absurd h (by simp)⟩
  clear hown hi hz0 hz1 hz2
  go_wp2
  go_loopw [3, 4] (fun s i wr => ∃ k : Nat, k ≤ ls.length ∧ i = .int .i64 k ∧ Hid (OwnRs wr w.heap.size s (ls.take k)) ∧ Below w.heap.size w wr) (fun _ i _ => ls.length - (intOf i).toNat)
  case atStart => exact ⟨0, Nat.zero_le _, rfl, hO, hbel⟩
  case round =>
    obtain ⟨k, hk, rfl, hown, hbw⟩ := hrel
    clear hO hbel
    by_cases hlt : k < ls.length
    · obtain ⟨b, off, rfl, hbB, hc⟩ := H3.out (by omega)
      obtain ⟨u, hu, hbs⟩ := hc k hlt
      have hu' := (hbw.cell (p := ⟨b, off + k, none⟩) (by show b < _; omega)).trans hu
      have hbs' := (hbs.below hbw hB)
      have hlen := hs _ (List.getElem_mem hlt)
      have hsz := hbw.size
      clear hc hu hbs
      have hO := hown.out
      obtain ⟨As, cs, es⟩ := hO.shape
      have hlk : (ls.take k).length = k := by simp; omega
      rw [hlk] at es
      subst es
      have HLK := Lib.hid hlk; clear hlk
      go_wp2_with (first
        | (go_at_call 18; refine (copy_any hbs' (by omega) hlen).mono ?_; rintro e w2 ⟨u2, rfl, ho2, hb2⟩; obtain ⟨A2, c2, rfl⟩ := ho2.shape; have hO2 := (hO.below hb2 (Nat.le_refl _)).alloc (.cells #[.slice A2 ls[k].length c2] 24); have hu2 := (ho2.more hsz).alloc (.cells #[.slice A2 ls[k].length c2] 24); have hs2 := hb2.size; clear hu' hbs')
        | (at_builtin; refine wpList_appR rfl (.tmp 14) (.tmp 20) rfl rfl hO2 ⟨w2.heap.size, 0, none⟩ rfl (cell_new _ _ _) hu2 (by rw [HLK.out]; omega) (by simp; omega) ?_))
      intro v' w' hown' hbel'
      have hb3 : Below w.heap.size w w' := ((hbw.trans (hb2.mono hsz)).alloc (by omega) _).trans hbel'
      have HO := Lib.hid hown'
      clear hO2 hu2 hb2 ho2 hown' hO hown
      go_wp2
      go_roundw
      case rel => exact ⟨k + 1, by omega, by go_num, HO, hb3⟩
      case measure => simp [intOf]; omega
    · have ho := hown.out
      rw [List.take_of_length_le (by omega)] at ho
      clear hown
      go_wp2
      go_ret
      exact ⟨_, rfl, ho, hbw⟩

set_option maxHeartbeats 400000 in
theorem equals_any {ls ms : List (List UInt8)} {va vb : Value} {w : World} {B1 B2 : Nat} (ha : Rs w B1 va ls) (hb : Rs w B2 vb ms) :
    Calls Try.prog 25 #[va, vb] w fun e w' => e = .returned (.bool (decide (ls = ms))) ∧ Drew w w' := by
  obtain ⟨A, c, rfl, hac, hcm, hA⟩ := ha
  obtain ⟨A', c', rfl, hbc, hcm', hA'⟩ := hb
  by_cases hl : ls.length = ms.length
  · have hl1 : ls.length ≤ ms.length := by omega
    have hl2 : ms.length ≤ ls.length := by omega
    have HL := Lib.hid hl; clear hl
    unfold maxLen at hcm hcm'
    have HA := Lib.hid hA; have HA' := Lib.hid hA'; clear hA hA'
    go_enter Try.func25, Try.ntmps25
    go_wp2
    go_loopw [5] (fun i wr => ∃ k : Nat, k ≤ ls.length ∧ i = .int .i64 k ∧ (∀ j (h1 : j < ls.length) (h2 : j < ms.length), j < k → ls[j] = ms[j]) ∧ Drew w wr) (fun i _ => ls.length - (intOf i).toNat)
    case atStart => exact ⟨0, Nat.zero_le _, rfl, fun j _ _ h => absurd h (by omega), Drew.refl _⟩
    case round =>
      obtain ⟨k, hk, rfl, hsame, hdr0⟩ := hrel
      have hdr : Drew w wr := hdr0
      clear hdr0
      have HS := Lib.hid hsame; clear hsame
      by_cases hlt : k < ls.length
      · obtain ⟨b1, o1, rfl, _, hc1⟩ := HA.out (by omega)
        obtain ⟨b2, o2, rfl, _, hc2⟩ := HA'.out (by omega)
        obtain ⟨u1, g1, d1⟩ := hc1 k hlt
        obtain ⟨u2, g2, d2⟩ := hc2 k (by omega)
        have g1' := hdr.cell g1
        have g2' := hdr.cell g2
        have D1 := Lib.hid (hdr.bs d1); have D2 := Lib.hid (hdr.bs d2); clear d1 d2 hc1 hc2 g1 g2
        obtain ⟨x, hx⟩ : ∃ x, decide (ls[k] = ms[k]'(by omega)) = x := ⟨_, rfl⟩
        have call : ∀ n, Calls Try.prog 22 #[u1, u2] (wr.drewN n) fun e w' => e = .returned (.bool x) ∧ Drew (wr.drewN n) w' := fun n => hx ▸ equal_any (D1.out.drewN n) (D2.out.drewN n)
        have HC := Lib.hid call; have HX := Lib.hid hx; clear call hx
        go_wp2
        go_quiet ((go_at_call 22; exact Drew.quiet (HC.out _)))
        cases x
        · have hd : decide (ls = ms) = false := by
            have := HX.out
            simp only [decide_eq_false_iff_not] at this ⊢
            intro h
            subst h
            exact this rfl
          have HD := Lib.hid hd; clear hd
          go_wp2
          go_ret
          exact ⟨ret_bool HD.out.symm, hdr.drewN _⟩
        · have he : ls[k] = ms[k]'(by omega) := of_decide_eq_true HX.out
          have HE := Lib.hid he; clear he
          go_wp2
          go_roundw
          case rel => exact ⟨k + 1, by omega, by go_num, fun j h1 h2 h3 => by
            rcases Nat.lt_or_ge j k with h | h
            · exact HS.out j h1 h2 h
            · obtain rfl : j = k := by omega
              exact HE.out, hdr.drewN _⟩
          case measure => simp [intOf]; omega
      · go_wp2
        go_ret
        have he : ls = ms := List.ext_getElem HL.out fun j h1 h2 => HS.out j h1 h2 (by omega)
        exact ⟨ret_bool (by simp [he]), hdr⟩
  · have hd : decide (ls = ms) = false := by simp; intro h; exact hl (by rw [h])
    have HD := Lib.hid hd; clear hd
    have hne : ((ls.length : Int) != (ms.length : Int)) = true := by rw [bne_iff_ne]; omega
    clear hl
    go_enter Try.func25, Try.ntmps25
    go_wp2
    go_ret
    exact ⟨ret_bool HD.out.symm, Drew.refl _⟩

theorem told_any {a b : List UInt8} {va vb : Value} {x y : Int} {w : World} {B1 B2 : Nat} (ha : Bs w B1 va a) (hb : Bs w B2 vb b) :
    Calls Try.prog 16 #[va, .int .i64 x, vb, .int .i64 y] w fun e w' => e = .returned (.bool (decide (a = b) && x == y)) ∧ Drew w w' := by
  cases h : decide (a = b)
  · go_enter Try.func16, Try.ntmps16
    go_wp2_with (go_at_call 22; refine (equal_any ha hb).mono ?_; rintro e w2 ⟨rfl, hd⟩; rw [h])
    go_ret
    exact ⟨rfl, hd⟩
  · go_enter Try.func16, Try.ntmps16
    go_wp2_with (go_at_call 22; refine (equal_any ha hb).mono ?_; rintro e w2 ⟨rfl, hd⟩; rw [h])
    go_ret
    exact ⟨by simp, hd⟩
end Go.Proofs.Ytpimklpkjinhiaa
