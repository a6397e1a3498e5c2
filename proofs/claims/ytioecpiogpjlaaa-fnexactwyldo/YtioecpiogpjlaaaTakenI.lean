/-
  How many of some slopes may be taken of their times, and in how many ways: the iterator.
-/
import Derived.Test.YtioecpiogpjlaaaWalks
import Derived.Test.YtioecpiogpjlaaaRoundR
import Derived.RangeFuncNested
import Derived.RangeFuncLeaves
import Derived.Deep.RegionWith
import Derived.WalkKit
import Derived.OwnWalkIn
import Derived.TacticsInMore
import Derived.LoopNIn
import Derived.LoopIn
namespace Go.Proofs.Ytioecpiogpjlaaa
open Go.RowKit
set_option linter.unusedVariables false
attribute [local go_sem] Oper.semAt_some

/-- every block of cells lies as it lay. -/
def cellsK (W W' : World) : Prop := W.heap.size ≤ W'.heap.size ∧ ∀ (k : Nat) (o : Obj), W.heap[k]? = some o → o.isCells = true → W'.heap[k]? = some o
theorem cellsK_refl (W : World) : cellsK W W := ⟨Nat.le_refl _, fun _ _ h _ => h⟩
theorem cellsK_t {A B C : World} (h : cellsK A B) (k : cellsK B C) : cellsK A C := ⟨Nat.le_trans h.1 k.1, fun i o hi ho => k.2 i o (h.2 i o hi ho) ho⟩
theorem cellsK_b {w : World} (W : World) (l : Nat) (o o' : Obj) (_ : w.heap.size ≤ l) (h : W.heap[l]? = some o) (hc : o.isCells = false) (_ : o.isWalk = false) : cellsK W (W.putObj l o') :=
  ⟨by rw [World.putObj_size]; exact Nat.le_refl _, fun k o2 hk hc2 => (World.putObj_heap_other (fun e => by subst e; rw [h] at hk; cases hk; rw [hc] at hc2; cases hc2)).trans hk⟩
theorem cellsK_alloc (W : World) (o : Obj) : cellsK W (W.alloc o) := ⟨by simp, fun k o2 hk _ => (Below.heap_alloc W o k (Array.getElem?_eq_some_iff.1 hk).1).trans hk⟩
theorem cellsK_drew (W : World) : cellsK W W.drew := ⟨Nat.le_refl _, fun _ _ h _ => h⟩
theorem cellsK_grown {W W' : World} {row : Option Nat} (hg : W.grownBy W' row) (hr : ∀ k, row = some k → ∀ o, W.heap[k]? = some o → o.isCells = false) : cellsK W W' :=
  ⟨hg.size, fun k o hk hc => (hg.block k (Array.getElem?_eq_some_iff.1 hk).1 (fun e => by have := hr k e.symm o hk; rw [this] at hc; cases hc)).trans hk⟩
theorem boxed_cells {W W' : World} {B : Nat} {t : TypeId} {v : Value} (h : Boxed W B t v) (hk : cellsK W W') : Boxed W' B t v := hk.2 B _ h rfl
theorem drewG (w : World) : w.grownBy w.drew none := ⟨rfl, rfl, rfl, Nat.le_refl _, fun _ _ _ => rfl⟩
/-- how many are taken, and in how many ways. -/
abbrev TK (lim : Nat) : Type := { p : Int × Int // 0 ≤ p.1 ∧ p.1 ≤ (lim : Int) ∧ 0 ≤ p.2 ∧ p.2 ≤ 100 }
def encK {lim : Nat} (x : TK lim) : Array Value := #[.int .i64 x.1.1, .int .i64 x.1.2]
def wy (s t k : Int) : Int := fMul (fChoose s k) (fFall t k)
theorem fMul_range (a b : Int) : 0 ≤ fMul a b ∧ fMul a b ≤ 100 := by
  unfold fMul
  split <;> omega
def takeK (lim : Nat) (s t : Int) (k : Nat) : TK lim := ⟨((if k ≤ lim then (k : Int) else 0), wy s t k), by
  have := fMul_range (fChoose s k) (fFall t k)
  refine ⟨?_, ?_, this.1, this.2⟩
  · show 0 ≤ (if k ≤ lim then (k : Int) else 0)
    split <;> omega
  · show (if k ≤ lim then (k : Int) else 0) ≤ _
    split <;> omega⟩
def uptoK (lim : Nat) (s t : Int) (k : Nat) : List (TK lim) := (List.range k).map (takeK lim s t)
theorem uptoK_succ (lim : Nat) (s t : Int) (k : Nat) : uptoK lim s t k ++ [takeK lim s t k] = uptoK lim s t (k + 1) := by simp [uptoK, List.range_succ]
theorem uptoK_len (lim : Nat) (s t : Int) (k : Nat) : (uptoK lim s t k).length = k := by simp [uptoK]
end Go.Proofs.Ytioecpiogpjlaaa
