/- A family of marked slices, each index in memory of its own; append keeps it. -/
import Derived.Test.YthgdficgjldobaaG4
namespace Go.Proofs.Ythgdficgjldobaa
open Go.RowKit

/-- every slice of the family reads as the marks of its index; slices of different indices share no block; none lies in block bl -/
structure Fam (w : World) (B bl : Nat) (S : Nat → Value → Nat → Prop) : Prop where
  own : ∀ r v m, S r v m → Own w B v (mkL r m)
  dis : ∀ r v m s v' m', S r v m → S s v' m' → r ≠ s → v.ownBlock = none ∨ v.ownBlock ≠ v'.ownBlock
  off : ∀ r v m, S r v m → v.ownBlock ≠ some bl
theorem Fam.kept {w w' : World} {B bl : Nat} {S : Nat → Value → Nat → Prop} {row : Option Nat} (h : Fam w B bl S) (hg : w.grownBy w' row) (hr : ∀ r v m, S r v m → v.ownBlock = none ∨ v.ownBlock ≠ row) : Fam w' B bl S :=
  ⟨fun r v m hs => (h.own r v m hs).kept hg (hr r v m hs), h.dis, h.off⟩
theorem Fam.alloc {w : World} {B bl : Nat} {S : Nat → Value → Nat → Prop} (h : Fam w B bl S) (o : Obj) : Fam (w.alloc o) B bl S := ⟨fun r v m hs => (h.own r v m hs).alloc o, h.dis, h.off⟩
theorem Fam.sub {w : World} {B bl : Nat} {S S' : Nat → Value → Nat → Prop} (h : Fam w B bl S) (hs : ∀ r v m, S' r v m → S r v m) : Fam w B bl S' :=
  ⟨fun r v m k => h.own r v m (hs r v m k), fun r v m s v' m' k k' => h.dis r v m s v' m' (hs _ _ _ k) (hs _ _ _ k'), fun r v m k => h.off r v m (hs _ _ _ k)⟩
/-- S and one slice more -/
def With (S : Nat → Value → Nat → Prop) (i : Nat) (x : Value) (n : Nat) : Nat → Value → Nat → Prop := fun r v m => S r v m ∨ (r = i ∧ v = x ∧ m = n)

theorem own_lt {w : World} {B : Nat} {v : Value} {l : List UInt8} (h : Own w B v l) {k : Nat} (hk : v.ownBlock = some k) : B ≤ k ∧ k < w.heap.size := World.ownsRow.lt h k hk

/-- append to a slice of the family -/
theorem wpList_fam {w : World} {ops : Array Oper} {rest : List Oper} {o : Oper} {a : Act} {Q : Exit → Act → World → Prop} (hgd : o.guard = none) (s x : Operand)
    (ho : o.op = .call { callee := .builtin .append, args := #[s, x], argTypes := #[28, 28] })
    {B B' bl i n q : Nat} {S : Nat → Value → Nat → Prop} {v u : Value} {m : List UInt8} (hf : Fam w B bl S) (hs : a.eval s = v) (hv : S i v n) (hx : a.eval x = u) (hb : Bs w B' u m) (hm : m = (List.range q).map fun k => markA i (n + k))
    (hsum : n + q ≤ 140737488355328) (hB : B ≤ w.heap.size) (hbl : bl < w.heap.size)
    (h : ∀ v' w', Fam w' B bl (With S i v' (n + q)) → w.grownBy w' v.ownBlock → wpList Try.prog ops Q rest (a.put o.dst v') w') : wpList Try.prog ops Q (o :: rest) a w := by
  refine wpList_plain hgd fun K hK => ?_
  have hown := hf.own i v n hv
  have hml : m.length = q := by rw [hm]; simp
  obtain ⟨v', w', hrun, g1, g2, g3, g4⟩ := run_app_same (ty := o.type) hown hb (by rw [mkL_len, hml]; exact hsum) hB
  have e : mkL i n ++ m = mkL i (n + q) := by rw [hm]; exact mkL_app i n q
  rw [e] at g1 g4
  have hS : ∀ r v2 k, S r v2 k → Own w' B v2 (mkL r k) := fun r v2 k hk => g4 B v2 _ (hf.own r v2 k hk) (by
    by_cases er : r = i
    · subst er
      exact .inr (.inr (mkL_agree r k (n + q)))
    · rcases hf.dis r v2 k i v n hk hv er with h1 | h1
      · exact .inl h1
      · exact .inr (.inl h1))
  have hfresh : ∀ r v2 k, S r v2 k → v2.ownBlock ≠ some w.heap.size := fun r v2 k hk e2 => by
    have := (own_lt (hf.own r v2 k hk) e2).2
    omega
  have hfam : Fam w' B bl (With S i v' (n + q)) := by
    refine ⟨?_, ?_, ?_⟩
    · rintro r v2 k (hk | ⟨rfl, rfl, rfl⟩)
      · exact hS r v2 k hk
      · exact g1
    · rintro r v2 k s v3 k3 (hk | ⟨rfl, rfl, rfl⟩) (hk3 | ⟨rfl, rfl, rfl⟩) hne
      · exact hf.dis r v2 k s v3 k3 hk hk3 hne
      · rcases g3 with g3 | g3
        · rw [g3]; exact hf.dis r v2 k _ v n hk hv hne
        · right; rw [g3]; exact hfresh r v2 k hk
      · rcases g3 with g3 | g3
        · rw [g3]; exact hf.dis _ v n s v3 k3 hv hk3 hne
        · right; rw [g3]; exact fun e2 => hfresh s v3 k3 hk3 e2.symm
      · exact absurd rfl hne
    · rintro r v2 k (hk | ⟨rfl, rfl, rfl⟩)
      · exact hf.off r v2 k hk
      · rcases g3 with g3 | g3
        · rw [g3]; exact hf.off _ v n hv
        · rw [g3]; intro e2; simp only [Option.some.injEq] at e2; omega
  unfold Oper.wp execOp
  simp only [ho, resolve, invoke, builtin, Sem.run_bind, Sem.run_pure, Result.andThen_ok, List.map_toArray, List.map_cons, List.map_nil, hs, hx, hrun]
  exact hK _ _ (h v' w' hfam g2)
end Go.Proofs.Ythgdficgjldobaa
