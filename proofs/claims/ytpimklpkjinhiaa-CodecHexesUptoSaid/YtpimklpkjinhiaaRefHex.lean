/- Hex and Unhex of the reference. -/
import Derived.Test.YtpimklpkjinhiaaHex
import Derived.Deep.RegionHeld3
import Derived.Deep.AppendLies
namespace Go.Proofs.Ytpimklpkjinhiaa
open Go.RowKit

theorem hexD_val {m : Nat} (h : m < 16) : ((hexD m).toNat : Int) = if m < 10 then 48 + (m : Int) else 97 + (m : Int) - 10 := by
  unfold hexD
  split <;> rw [UInt8.toNat_ofNat'] <;> omega
theorem letter_any (m : Nat) (h : m < 16) (w : World) :
    Calls Try.prog 54 #[.int .u8 (m : Int)] w fun e w' => e = .returned (.int .u8 ((hexD m).toNat : Int)) ∧ w' = w := by
  have hv := hexD_val h
  by_cases h10 : m < 10
  · rw [if_pos h10] at hv
    have HV := Lib.hid hv; clear hv
    go_enter Try.func54, Try.ntmps54
    go_wp2
    go_ret
    exact ⟨by rw [HV.out]; rfl, rfl⟩
  · rw [if_neg h10] at hv
    have HV := Lib.hid hv; clear hv
    have h11 : (10 : Int) ≤ (m : Int) := by omega
    clear h10
    go_enter Try.func54, Try.ntmps54
    go_wp2
    go_ret
    exact ⟨by rw [HV.out]; rfl, rfl⟩

set_option maxHeartbeats 800000 in
theorem refhex_any {l : List UInt8} {v : Value} {w : World} {B : Nat} (hb : Bs w B v l) (hB : B ≤ w.heap.size) (hl : l.length ≤ 70368744177660) :
    Calls Try.prog 34 #[v] w fun e w' => e = .returned (.string (bstr (hexL l))) ∧ Below w.heap.size w w' := by
  obtain ⟨A, c, rfl, h1, h2, h3⟩ := hb
  have H3 := Lib.hid h3; clear h3
  unfold maxLen at h2
  go_enter Try.func34, Try.ntmps34
  go_wp2
  go_loopw [3, 4] (fun s i wr => ∃ k : Nat, k ≤ l.length ∧ i = .int .i64 k ∧ Below w.heap.size w wr ∧ Hid (Own wr w.heap.size s (hexL (l.take k)))) (fun _ i _ => l.length - (intOf i).toNat)
  case atStart => exact ⟨0, Nat.zero_le _, rfl, Below.refl _ _, show Own w w.heap.size _ (hexL (l.take 0)) from by simpa [hexL] using Own.nil w w.heap.size⟩
  case round =>
    obtain ⟨k, hk, rfl, hbel, hown⟩ := hrel
    by_cases hlt : k < l.length
    · obtain ⟨b, off, rfl, hbB, hc⟩ := H3.out (by omega)
      have hsrc := (hbel.cell (p := ⟨b, off + k, none⟩) (by show b < _; omega)).trans (hc k hlt)
      have hlk : (hexL (l.take k)).length = 2 * k := by rw [hexL_len, List.length_take]; omega
      have hcat : hexL (l.take (k + 1)) = hexL (l.take k) ++ [hexD (l[k].toNat / 16), hexD (l[k].toNat % 16)] := by
        rw [List.take_succ_eq_append_getElem hlt, hexL_snoc]
      have HLK := Lib.hid hlk; have HCAT := Lib.hid hcat
      clear hc hlk hcat
      obtain ⟨x, hx⟩ : ∃ x : Nat, x = l[k].toNat := ⟨_, rfl⟩
      have hx256 : x < 256 := by rw [hx]; exact l[k].toNat_lt
      rw [← hx] at hsrc HCAT
      clear hx
      obtain ⟨As, cs, rfl⟩ := hown.out.shape
      have l1 : ∀ W, Calls Try.prog 54 #[.int .u8 ((x : Int) / 16)] W fun e w' => e = .returned (.int .u8 ((hexD (x / 16)).toNat : Int)) ∧ w' = W := fun W => letter_any (x / 16) (by omega) W
      have l2 : ∀ W, Calls Try.prog 54 #[.int .u8 ((x : Int) % 16)] W fun e w' => e = .returned (.int .u8 ((hexD (x % 16)).toNat : Int)) ∧ w' = W := fun W => letter_any (x % 16) (by omega) W
      have L1 := Lib.hid l1; have L2 := Lib.hid l2; clear l1 l2
      have hk0 : (0 : Int) ≤ (k : Int) := Int.natCast_nonneg _
      have hk1 : (k : Int) < (l.length : Int) := by omega
      have hsz := hbel.size
      have ha1 : Own (wr.alloc (.cells #[.int .u8 ((hexD (x / 16)).toNat : Int), .int .u8 ((hexD (x % 16)).toNat : Int)] 5)).drew w.heap.size (.slice As (hexL (l.take k)).length cs) (hexL (l.take k)) := (hown.out.alloc _)
      have ha2 : Bs (wr.alloc (.cells #[.int .u8 ((hexD (x / 16)).toNat : Int), .int .u8 ((hexD (x % 16)).toNat : Int)] 5)).drew (wr.heap.size + 1) (.slice (some ⟨wr.heap.size, 0, none⟩) 2 2) [hexD (x / 16), hexD (x % 16)] := Bs.lit wr [hexD (x / 16), hexD (x % 16)] (by unfold maxLen; simp)
      have e1 : (x : Int).tdiv 16 = (x : Int) / 16 := Int.tdiv_eq_ediv_of_nonneg (by omega)
      have e2 : (x : Int).tmod 16 = (x : Int) % 16 := Int.tmod_eq_emod_of_nonneg (by omega)
      have e3 : IntKind.u8.wrap ((x : Int) / 16) = (x : Int) / 16 := by rw [IntKind.wrap_u8']; omega
      have e4 : IntKind.u8.wrap ((x : Int) % 16) = (x : Int) % 16 := by rw [IntKind.wrap_u8']; omega
      have HA1 := Lib.hid ha1; have HA2 := Lib.hid ha2; clear ha1 ha2
      go_wp2_with fail
      go_region_held3 (fun w' => w'.cell? ⟨b, off + k, none⟩ = some (.int .u8 (x : Int))) (first | go_keep | exact n0)
        (first
          | (go_at_call 54; (first | (with_reducible refine (L1.out _).mono ?_) | (with_reducible refine (L2.out _).mono ?_)); rintro e w' ⟨rfl, rfl⟩)
          | (refine step_app rfl (.tmp 11) (.tmp 24) rfl rfl HA1.out rfl HA2.out (by rw [HLK.out]; simp; omega) (by simp; omega) ?_; intro v' w3 hown3 hg3 _; have hb3 : Below w.heap.size w w3 := grown_below (hbel.alloc hsz _).drew hg3 (by simp; omega) HA1.out; have n0 : w3.cell? ⟨b, off + k, none⟩ = some (.int .u8 (x : Int)) := (hb3.cell (p := ⟨b, off + k, none⟩) (by show b < _; omega)).trans ((hbel.cell (p := ⟨b, off + k, none⟩) (by show b < _; omega)).symm.trans hsrc)))
      have ho4 : Hid (Own w3 w.heap.size v' (hexL (l.take (k + 1)))) := by
        show Own _ _ _ _
        rw [HCAT.out]; exact hown3
      clear hown3 hg3
      go_wp2
      go_roundw
      case rel => exact ⟨k + 1, by omega, by go_num, hb3, ho4⟩
      case measure => simp [intOf]; omega
    · have ho := hown.out
      rw [List.take_of_length_le (by omega)] at ho
      have hconv := conv_bs ho.bs
      clear ho hown
      go_wp2
      go_ret
      exact ⟨rfl, hbel⟩

theorem hexD_eq {c : UInt8} {m : Nat} (h : m < 16) : (hexD m = c) ↔ (isD c = true ∧ valD c = m) := by
  have hv := hexD_val h
  constructor
  · rintro rfl
    simp only [isD, valD, Bool.or_eq_true, Bool.and_eq_true, decide_eq_true_eq]
    by_cases h10 : m < 10
    · rw [if_pos h10] at hv
      refine ⟨by omega, ?_⟩
      rw [if_pos (by omega)]; omega
    · rw [if_neg h10] at hv
      refine ⟨by omega, ?_⟩
      rw [if_neg (by omega)]; omega
  · rintro ⟨h1, h2⟩
    simp only [isD, Bool.or_eq_true, Bool.and_eq_true, decide_eq_true_eq] at h1
    apply UInt8.toNat_inj.1
    unfold valD at h2
    by_cases h3 : c.toNat ≤ 57
    · rw [if_pos h3] at h2
      rw [if_pos (by omega)] at hv
      omega
    · rw [if_neg h3] at h2
      rw [if_neg (by omega)] at hv
      omega
/-- what the search for a digit has found behind m numbers -/
def found (c : UInt8) (m : Nat) : Int := if isD c = true ∧ valD c < m then (valD c : Int) else -1
theorem found_zero (c : UInt8) : found c 0 = -1 := by simp [found]
theorem found_hit {c : UInt8} {m : Nat} (hm : m < 16) (h : hexD m = c) : found c (m + 1) = m := by
  obtain ⟨h1, h2⟩ := (hexD_eq hm).1 h
  unfold found
  rw [if_pos ⟨h1, by omega⟩, h2]
theorem found_miss {c : UInt8} {m : Nat} (hm : m < 16) (h : hexD m ≠ c) : found c (m + 1) = found c m := by
  unfold found
  by_cases h1 : isD c = true ∧ valD c < m
  · rw [if_pos ⟨h1.1, by omega⟩, if_pos h1]
  · rw [if_neg h1, if_neg]
    rintro ⟨h2, h3⟩
    exact h ((hexD_eq hm).2 ⟨h2, by
      have : ¬ valD c < m := fun h4 => h1 ⟨h2, h4⟩
      omega⟩)
theorem found_end {c : UInt8} (m : Nat) (h : 16 ≤ m) : found c m = if isD c = true then (valD c : Int) else -1 := by
  unfold found
  by_cases h1 : isD c = true
  · have := valD_lt h1
    rw [if_pos ⟨h1, by omega⟩, if_pos h1]
  · rw [if_neg (fun h => h1 h.1), if_neg h1]

theorem refunhex_odd {s : ByteArray} (h : (s.size : Int) % 2 = 1) (hm : s.size ≤ 9223372036854775807) (w : World) :
    Calls Try.prog 35 #[.string s] w fun e w' => e = .returned (.tuple #[.slice none 0 0, .int .i64 2]) ∧ w = w' := by
  have g : ((s.size : Int) % 2 == 1) = true := by rw [beq_iff_eq]; exact h
  clear h
  go_enter Try.func35, Try.ntmps35
  go_wp2
  go_ret2
  exact ⟨rfl, rfl⟩

/-- the number kept behind i digits -/
def accU (l : List UInt8) : Nat → Nat
  | 0 => 0
  | i + 1 => accU l i % 16 * 16 + valD (l.getD i 0)

set_option maxHeartbeats 1600000 in
theorem refunhex_even {l : List UInt8} {n : Nat} (hl : l.length = 2 * n) (hm : n ≤ 70368744177664) (w : World) :
    Calls Try.prog 35 #[.string (bstr l)] w fun e w' => ∃ u, e = .returned (.tuple #[u, .int .i64 (unhexE l)]) ∧ Own w' w.heap.size u (unhexR l) ∧ Below w.heap.size w w' := by
  obtain ⟨s, hs⟩ : ∃ s, s = bstr l := ⟨_, rfl⟩
  have hsz : s.size = 2 * n := by rw [hs, bstr_size, hl]
  have hat : ∀ i (h : i < s.size) (h2 : i < l.length), s[i]'h = l[i]'h2 := by subst hs; intro i h h2; exact bstr_at l i h
  rw [← hs]
  clear hs
  have HL := Lib.hid hl; have HAT := Lib.hid hat
  clear hl hat
  have g : ((s.size : Int) % 2 == 1) = false := by rw [beq_eq_false_iff_ne]; omega
  have hsz1 : s.size ≤ 2 * n := by omega
  have hsz2 : 2 * n ≤ s.size := by omega
  clear hsz
  go_enter Try.func35, Try.ntmps35
  go_wp2
  go_loopw [4, 5, 6, 7, 8] (fun o m i _ _ wr => ∃ k : Nat, k ≤ 2 * n ∧ i = .int .i64 k ∧ Below w.heap.size w wr ∧ Hid (Own wr w.heap.size o (unL l (k / 2))) ∧ (∃ q : Nat, m = .int .i64 q ∧ q < 256 ∧ Hid (q = accU l k)) ∧ Hid (∀ j (h : j < l.length), j < k → isD l[j] = true)) (fun _ _ i _ _ _ => 2 * n - (intOf i).toNat)
  case atStart => exact ⟨0, Nat.zero_le _, rfl, Below.refl _ _, show Own w w.heap.size _ (unL l 0) from by simpa [unL] using Own.nil w w.heap.size, ⟨0, rfl, by omega, rfl⟩, fun j h h2 => absurd h2 (by omega)⟩
  case round =>
    obtain ⟨k, hk, rfl, hbel, hown, ⟨q, rfl, hq, hqa⟩, hall⟩ := hrel
    by_cases hlt : k < 2 * n
    · have k1 : k < l.length := by rw [HL.out]; omega
      obtain ⟨x, hx⟩ : ∃ x : UInt8, s[k]'(by omega) = x := ⟨_, rfl⟩
      have hxl : l[k] = x := by rw [← hx]; exact (HAT.out _ _ _).symm
      have HXL := Lib.hid hxl
      clear hxl
      have hfz := found_zero x
      have HFZ := Lib.hid hfz; clear hfz
      obtain ⟨As, cs, es⟩ := hown.out.shape
      subst es
      go_wp2
      obtain ⟨wo, rfl⟩ : ∃ wo : World, wo = wr := ⟨_, rfl⟩
      go_loopw [7, 8] (fun d j wi => ∃ m : Nat, m ≤ 16 ∧ j = .int .i64 m ∧ d = .int .i64 (found x m) ∧ Hid (Drew wo wi)) (fun _ j _ => 16 - (intOf j).toNat)
      case atStart => exact ⟨0, by omega, rfl, by rw [HFZ.out], Drew.refl _⟩
      case round =>
        obtain ⟨m, hm16, rfl, rfl, hdr⟩ := hrel
        by_cases hlt2 : m < 16
        · have e1 : IntKind.u8.wrap (m : Int) = (m : Int) := by rw [IntKind.wrap_u8']; omega
          have cl : ∀ N, Calls Try.prog 54 #[.int .u8 (m : Int)] (wr.drewN N) fun e w' => e = .returned (.int .u8 ((hexD m).toNat : Int)) ∧ ∃ M, w' = wr.drewN M := fun N => Calls.quiet_of_same (letter_any m hlt2 _)
          have CL := Lib.hid cl; clear cl
          have hk0 : (0 : Int) ≤ (k : Int) := Int.natCast_nonneg _
          have hk1 : (k : Int) < (s.size : Int) := by omega
          by_cases hhit : hexD m = x
          · have hf := found_hit hlt2 hhit
            have hb : (((hexD m).toNat : Int) == (x.toNat : Int)) = true := by rw [hhit]; simp
            have HF := Lib.hid hf
            clear hhit hf
            go_wp2
            go_quiet ((go_at_call 54; exact CL.out _))
            go_wp2
            go_roundw
            case rel => exact ⟨m + 1, by omega, by go_num, by rw [HF.out], hdr.out.drewN _⟩
            case measure => simp [intOf]; omega
          · have hf := found_miss hlt2 hhit
            have hb : (((hexD m).toNat : Int) == (x.toNat : Int)) = false := by
              rw [beq_eq_false_iff_ne]
              intro h
              exact hhit (UInt8.toNat_inj.1 (by omega))
            have HF := Lib.hid hf
            clear hhit hf
            go_wp2
            go_quiet ((go_at_call 54; exact CL.out _))
            go_wp2
            go_roundw
            case rel => exact ⟨m + 1, by omega, by go_num, by rw [HF.out], hdr.out.drewN _⟩
            case measure => simp [intOf]; omega
        · have hfe := found_end (c := x) m (by omega)
          cases hd : isD x
          · rw [hd, if_neg (by decide)] at hfe
            have hno : ¬ ∀ z ∈ l, isD z = true := fun h => by
              have h1 := h _ (List.getElem_mem k1)
              rw [HXL.out, hd] at h1
              exact absurd h1 (by decide)
            have he : unhexE l = 3 := by
              unfold unhexE
              rw [if_neg (by rw [HL.out]; omega), if_neg hno]
            have hr : unhexR l = [] := by unfold unhexR; rw [if_neg (by rw [he]; decide)]
            have HE := Lib.hid he; have HR := Lib.hid hr
            rw [hfe]
            clear hfe hno he hr hd
            go_wp2
            go_ret2
            exact ⟨_, by rw [HE.out]; rfl, by rw [HR.out]; exact Own.nil _ _, hbel.trans (hdr.out.below _)⟩
          · rw [hd, if_pos rfl] at hfe
            rw [hfe]
            have hvx := valD_lt hd
            obtain ⟨vx, hvxe⟩ : ∃ v : Nat, v = valD x := ⟨_, rfl⟩
            rw [← hvxe] at hvx ⊢
            have hacc : q % 16 * 16 + vx = accU l (k + 1) := by
              have e2 : l.getD k 0 = x := by simp [k1, HXL.out]
              rw [accU, e2, ← hvxe, ← hqa.out]
            have hall2 : Hid (∀ j (h : j < l.length), j < k + 1 → isD l[j] = true) := fun j h h2 => by
              rcases Nat.lt_or_ge j k with h3 | h3
              · exact hall.out j h h3
              · obtain rfl : j = k := by omega
                rw [HXL.out]; exact hd
            have HACC := Lib.hid hacc
            have hbi : Below w.heap.size w wr := hbel.trans (hdr.out.below _)
            have hoi : Hid (Own wr w.heap.size (.slice As (unL l (k / 2)).length cs) (unL l (k / 2))) := hdr.out.own hown.out
            have hszi := hbi.size
            have hulen : (unL l (k / 2)).length = k / 2 := by simp [unL]
            have HUL := Lib.hid hulen
            clear hfe hvxe hd hacc hulen hown
            by_cases hodd : k % 2 = 1
            · have g1 : ((k : Int) % 2 == 1) = true := by rw [beq_iff_eq]; omega
              have hcat : unL l ((k + 1) / 2) = unL l (k / 2) ++ [UInt8.ofNat (q % 16 * 16 + vx)] := by
                have h1 : (k + 1) / 2 = k / 2 + 1 := by omega
                have h2 : k = 2 * (k / 2) + 1 := by omega
                have h3 : UInt8.ofNat (q % 16 * 16 + vx) = unD l (k / 2) := by
                  rw [HACC.out, unD, ← h2]
                  have h5 : 2 * (k / 2) + 1 + 1 = k + 1 := by omega
                  have h6 : accU l (k + 1) = accU l k % 16 * 16 + valD (l.getD k 0) := rfl
                  have h7 : accU l k = accU l (2 * (k / 2)) % 16 * 16 + valD (l.getD (2 * (k / 2)) 0) := by
                    conv => lhs; rw [h2]
                    rfl
                  rw [h6, h7]
                  have h8 : valD (l.getD (2 * (k / 2)) 0) < 16 := valD_lt (by
                    have := hall.out (2 * (k / 2)) (by omega) (by omega)
                    simpa [show 2 * (k / 2) < l.length by omega] using this)
                  congr 1
                  omega
                rw [h1, unL, List.range_succ, List.map_append, h3]
                rfl
              have HCAT := Lib.hid hcat
              have hrng : (q : Int) % 16 * 16 + (vx : Int) = ((q % 16 * 16 + vx : Nat) : Int) := by omega
              obtain ⟨y, hy⟩ : ∃ y : Nat, y = q % 16 * 16 + vx := ⟨_, rfl⟩
              have hy256 : y < 256 := by omega
              rw [← hy] at hrng HACC HCAT
              have e5 : IntKind.u8.wrap (y : Int) = (y : Int) := by rw [IntKind.wrap_u8']; omega
              have hone : Bs (wr.alloc (.cells #[.int .u8 (y : Int)] 5)) (wr.heap.size + 1) (.slice (some ⟨wr.heap.size, 0, none⟩) 1 1) [UInt8.ofNat y] := by
                have h := Bs.one wr (UInt8.ofNat y)
                have hv : vb (UInt8.ofNat y) = .int .u8 (y : Int) := by simp [vb, UInt8.toNat_ofNat']; omega
                rw [hv] at h
                exact h
              have HONE := Lib.hid hone; have HOI := Lib.hid (hoi.out.alloc (.cells #[.int .u8 (y : Int)] 5))
              clear hy hcat hone hodd
              go_wp2_with (at_builtin; refine wpList_app rfl (.tmp 41) (.tmp 44) rfl rfl HOI.out rfl HONE.out (by rw [HUL.out]; simp; omega) (by simp; omega) ?_)
              intro v' w3 hown3 hg3 _
              have hb3 : Below w.heap.size w w3 := grown_below (hbi.alloc hszi _) hg3 (by simp; omega) HOI.out
              have ho4 : Hid (Own w3 w.heap.size v' (unL l ((k + 1) / 2))) := by
                show Own _ _ _ _
                rw [HCAT.out]; exact hown3
              clear hown3 hg3
              go_wp2
              go_roundw
              case rel => exact ⟨k + 1, by omega, by go_num, hb3, ho4, ⟨y, rfl, hy256, HACC⟩, hall2⟩
              case measure => simp [intOf]; omega
            · have g1 : ((k : Int) % 2 == 1) = false := by rw [beq_eq_false_iff_ne]; omega
              have hhalf : (k + 1) / 2 = k / 2 := by omega
              have HH := Lib.hid hhalf
              have hrng : (q : Int) % 16 * 16 + (vx : Int) = ((q % 16 * 16 + vx : Nat) : Int) := by omega
              obtain ⟨y, hy⟩ : ∃ y : Nat, y = q % 16 * 16 + vx := ⟨_, rfl⟩
              have hy256 : y < 256 := by omega
              rw [← hy] at hrng HACC
              clear hy hodd hhalf
              go_wp2
              go_roundw
              case rel => exact ⟨k + 1, by omega, by go_num, hbi, by rw [HH.out]; exact hoi, ⟨y, rfl, hy256, HACC⟩, hall2⟩
              case measure => simp [intOf]; omega
    · have hgood : unhexE l = 0 ∧ unhexR l = unL l (k / 2) := by
        have hyes : ∀ z ∈ l, isD z = true := fun z hz => by
          obtain ⟨j, hj, rfl⟩ := List.getElem_of_mem hz
          exact hall.out j hj (by rw [HL.out] at hj; omega)
        have he : unhexE l = 0 := by
          unfold unhexE
          rw [if_neg (by rw [HL.out]; omega), if_pos hyes]
        refine ⟨he, ?_⟩
        unfold unhexR
        rw [if_pos he, HL.out, show k = 2 * n by omega]
      have HE := Lib.hid hgood.1
      have ho := hown.out
      rw [← hgood.2] at ho
      have HO := Lib.hid ho
      clear hgood ho hown
      go_wp2
      go_ret2
      exact ⟨_, by rw [HE.out]; rfl, HO.out, hbel⟩
end Go.Proofs.Ytpimklpkjinhiaa
