/-
  How many of some slopes may be taken of their times, and in how many ways: the iterator.
  A range over an iterator that itself ranges over iterators; its body always goes on.
  A sum gathers all terms that an iterator tells.
-/
import Derived.Test.YtbkighpmkadmmaaHaa
import Derived.Test.YtbkighpmkadmmaaHar
import Derived.RangeFuncNested
import Derived.RangeFuncLeaves
import Derived.Deep.RegionWith
import Derived.WalkKit
import Derived.OwnWalkIn
import Derived.TacticsInMore
import Derived.LoopNIn
import Derived.LoopIn
import Derived.Test.YtbkighpmkadmmaaHas
namespace Go.Proofs.Ytbkighpmkadmmaa
open Go.RowKit
set_option linter.unusedVariables false
attribute [local go_sem] Oper.semAt_some

/-- how many are taken, and in how many ways. -/
abbrev TK (lim : Nat) : Type := { p : Int × Int // 0 ≤ p.1 ∧ p.1 ≤ (lim : Int) ∧ 0 ≤ p.2 ∧ p.2 ≤ 100 }
def wy (s t k : Int) : Int := fMul (fChoose s k) (fFall t k)
theorem fMul_range (a b : Int) : 0 ≤ fMul a b ∧ fMul a b ≤ 100 := by
  unfold fMul
  split <;> omega
def takeK (lim : Nat) (s t : Int) (k : Nat) : TK lim := ⟨((if k ≤ lim then (k : Int) else 0), wy s t k), by
  have := fMul_range (fChoose s k) (fFall t k)
  refine ⟨?_, ?_, this.1, this.2⟩
  · show 0 ≤ (if k ≤ lim then (k : Int) else 0)
    split <;> omega
  · show (if k ≤ lim then (k : Int) else 0) ≤ _
    split <;> omega⟩
def uptoK (lim : Nat) (s t : Int) (k : Nat) : List (TK lim) := (List.range k).map (takeK lim s t)
theorem uptoK_succ (lim : Nat) (s t : Int) (k : Nat) : uptoK lim s t k ++ [takeK lim s t k] = uptoK lim s t (k + 1) := by simp [uptoK, List.range_succ]
end Go.Proofs.Ytbkighpmkadmmaa
namespace Go.Proofs.Ytbkighpmkadmmaa
open Go.RowKit
set_option linter.unusedVariables false

end Go.Proofs.Ytbkighpmkadmmaa
namespace Go.Proofs.Ytbkighpmkadmmaa
open Go.RowKit Go.Maps
set_option linter.unusedVariables false
attribute [local go_sem] Oper.semAt_some

/-- a term of numbers of the field and a monomial that is ok. -/
abbrev TO : Type := { t : T // t.m.ok = true ∧ 0 ≤ t.c ∧ t.c ≤ 100 }
theorem flat_len {α β : Type} (k : Nat) (f : α → List β) (h : ∀ x, (f x).length = k) : ∀ l : List α, (l.flatMap f).length = l.length * k
  | [] => by simp
  | x :: r => by rw [List.flatMap_cons, List.length_append, h, flat_len k f h r, List.length_cons, Nat.add_mul]; omega
/-- block Bx holds a term. -/
def TermAt (W : World) (Bx : Nat) (t : T) : Prop := W.heap[Bx]? = some (.cells #[.int .i64 t.c, .int .i64 t.m.x, .int .i64 t.m.y, .int .i64 t.m.d, .int .i64 t.m.e] 33 (0, 0))
theorem TermAt.cells {W : World} {Bx : Nat} {t : T} (h : TermAt W Bx t) : W.cell? ⟨Bx, 0, none⟩ = some (.int .i64 t.c) ∧ W.cell? ⟨Bx, 1, none⟩ = some (.int .i64 t.m.x) ∧ W.cell? ⟨Bx, 2, none⟩ = some (.int .i64 t.m.y) ∧ W.cell? ⟨Bx, 3, none⟩ = some (.int .i64 t.m.d) ∧ W.cell? ⟨Bx, 4, none⟩ = some (.int .i64 t.m.e) := by
  unfold TermAt at h
  refine ⟨?_, ?_, ?_, ?_, ?_⟩ <;> (unfold World.cell?; simp only [h]; rfl)
end Go.Proofs.Ytbkighpmkadmmaa
