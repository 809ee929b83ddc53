/- at and digits of the reference. -/
import Derived.Test.YtnkbgokimafaeaaZ3
namespace Go.Proofs.Ytnkbgokimafaeaa
open Go.RowKit

theorem at2_any {l : List Nat} {v : Value} {w : World} {B i : Nat} (h : Us w B v l) (hl : l.length ≤ 1048576) (hi : i ≤ 1048576) :
    Calls Try.prog 11 #[v, .int .i64 (i : Int)] w fun e w' => e = .returned (.int .u64 (FL l i : Int)) ∧ w = w' := by
  obtain ⟨A, c, rfl, h1, h2, h3⟩ := h
  by_cases hlt : i < l.length
  · obtain ⟨b, off, rfl, hb, hc⟩ := h3 (by omega)
    have hcell := hc i hlt
    have e : w.cell? ⟨b, off + i, none⟩ = some (.int .u64 (l[i] : Int)) := hcell
    rw [FL_at hlt]
    have hI : (i : Int) < (l.length : Int) := by omega
    have h0 : (0 : Int) ≤ (i : Int) := by omega
    clear hc hcell h3
    go_enter Try.func11, Try.ntmps11
    go_wp2
    go_ret
    exact ⟨rfl, rfl⟩
  · rw [FL_out (by omega)]
    have hI : ¬ (i : Int) < (l.length : Int) := by omega
    clear h3
    go_enter Try.func11, Try.ntmps11
    go_wp2
    go_ret
    exact ⟨rfl, rfl⟩
set_option maxRecDepth 100000 in
set_option maxHeartbeats 4000000 in
theorem digits_any {N : Nat} (hN : N < 18446744073709551616) (w : World) :
    Calls Try.prog 9 #[.int .u64 (N : Int)] w fun e w' => ∃ v l, e = .returned v ∧ OwnU w' w.heap.size v l ∧ okD l ∧ vL l = N ∧ l.length ≤ 4 ∧ Below w.heap.size w w' := by
  go_enter Try.func9, Try.ntmps9
  go_wp2_with fail
  go_loopw [0, 3] (fun n s wr => ∃ (m : Nat) (ds : List Nat), n = .int .u64 (m : Int) ∧ Hid (OwnU wr w.heap.size s ds) ∧ Hid (okD ds) ∧ Hid (vL ds + m * 65536 ^ ds.length = N) ∧ Hid (m ≤ N) ∧ Hid (ds.length ≤ 4) ∧ Hid (Below w.heap.size w wr)) (fun n _ _ => (intOf n).toNat)
  case atStart => exact ⟨N, [], rfl, Lib.hid (OwnU.nil _ _), Lib.hid okD.nil, Lib.hid (by rw [vL_nil]; simp), Lib.hid (Nat.le_refl _), Lib.hid (by simp), Lib.hid (Below.refl _ _)⟩
  case round =>
    obtain ⟨m, ds, rfl, ho, hok, hv, hmN, hl4, hbe⟩ := hrel
    by_cases hm : 0 < m
    · have hlen := digit_len hv.out hm hN
      obtain ⟨AS, cS, rfl⟩ := ho.out.shape (n := ds.length) rfl
      have hI : (0 : Int) < (m : Int) := by omega
      have hd : Hid ((m : Int) % 65536 = ((m % 65536 : Nat) : Int)) := Lib.hid (by omega)
      have em : ((m % 65536 : Nat) : Int) = (m : Int) % 65536 := by omega
      have DN : Hid (OwnU (wr.alloc (.cells #[.int .u64 ((m : Int) % 65536)] 30)) w.heap.size (.slice AS ds.length cS) ds) := Lib.hid (ho.out.below ((Below.refl _ _).alloc (Nat.le_refl _) _))
      have HC := Lib.hid (cell_new wr (.int .u64 ((m : Int) % 65536)) 30)
      have hz := hbe.out.size
      have HBA := Lib.hid (hbe.out.alloc hz (.cells #[.int .u64 ((m : Int) % 65536)] 30))
      have hdv := digit_step hv.out
      have HDV := Lib.hid hdv
      have HOK := Lib.hid (hok.out.snoc (d := m % 65536) (by omega))
      have HEM : Hid ((m : Int) % 65536 = ((m % 65536 : Nat) : Int)) := Lib.hid em.symm
      clear hdv em
      go_wp2_with (at_builtin; with_reducible refine wpList_appU rfl (.tmp 6) (.tmp 9) rfl rfl DN.out _ rfl HC.out HEM.out (by omega) (by simp; omega) ?_)
      intro v' w' ho' hg'
      have hb' := HBA.out.grown hg' (by simp; omega) (fun j hj => by have := (DN.out.lt hj).1; omega)
      have HO' := Lib.hid ho'; have HB' := Lib.hid hb'
      have hqd : IntKind.u64.wrap ((m : Int) / 65536) = ((m / 65536 : Nat) : Int) := by
        have hm9 := hmN.out
        rw [IntKind.wrap_u64]
        omega
      clear ho' hg' hb' DN HC HBA ho hbe hv hok
      go_wp2
      go_roundw
      case rel => exact ⟨m / 65536, ds ++ [m % 65536], rfl, HO', HOK, HDV, Lib.hid (by have := hmN.out; have := Nat.div_le_self m 65536; omega), Lib.hid (by rw [List.length_append, List.length_singleton]; omega), HB'⟩
      case measure => simp [intOf]; omega
    · obtain rfl : m = 0 := by omega
      have hv0 := hv.out
      rw [Nat.zero_mul, Nat.add_zero] at hv0
      go_wp2
      go_ret
      exact ⟨_, ds, rfl, ho.out, hok.out, hv0, hl4.out, hbe.out⟩
end Go.Proofs.Ytnkbgokimafaeaa
