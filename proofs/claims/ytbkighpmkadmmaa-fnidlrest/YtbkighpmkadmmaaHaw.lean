/-
  A region within a round that draws its order: all but the last two operations read only; then a round of another loop is run (yield).
  The product of two terms, told term by term: the list.
  The product of two terms, told term by term: the iterator.
-/
import Derived.Test.YtbkighpmkadmmaaHar
import Derived.Test.YtbkighpmkadmmaaHav
namespace Go.Proofs.Ytbkighpmkadmmaa
open Go.RowKit
set_option linter.unusedVariables false

end Go.Proofs.Ytbkighpmkadmmaa
namespace Go.Proofs.Ytbkighpmkadmmaa
open Go.RowKit
set_option linter.unusedVariables false

def limX (a b : T) : Nat := (min a.m.d b.m.x).toNat
def limY (a b : T) : Nat := (min a.m.e b.m.y).toNat
/-- two terms, and what their monomials are together. -/
structure Two (a b : T) (g : M) : Prop where
  ok1 : a.m.ok = true
  ok2 : b.m.ok = true
  ok3 : g.ok = true
  gx : g.x = a.m.x + b.m.x
  gy : g.y = a.m.y + b.m.y
  gd : g.d = a.m.d + b.m.d
  ge : g.e = a.m.e + b.m.e
  c1 : 0 ≤ a.c ∧ a.c ≤ 100
  c2 : 0 ≤ b.c ∧ b.c ≤ 100
theorem Two.lx {a b : T} {g : M} (h : Two a b g) : (limX a b : Int) = min a.m.d b.m.x := by
  have h1 := M.ok_iff.1 h.ok1
  have h2 := M.ok_iff.1 h.ok2
  unfold limX
  omega
theorem Two.ly {a b : T} {g : M} (h : Two a b g) : (limY a b : Int) = min a.m.e b.m.y := by
  have h1 := M.ok_iff.1 h.ok1
  have h2 := M.ok_iff.1 h.ok2
  unfold limY
  omega
def termT (a b : T) (g : M) (px : TK (limX a b)) (py : TK (limY a b)) : T := ⟨a.c * b.c % 101 * px.1.2 % 101 * py.1.2 % 101, ⟨g.x - px.1.1, g.y - py.1.1, g.d - px.1.1, g.e - py.1.1⟩⟩
theorem termT_ok {a b : T} {g : M} (h : Two a b g) (px : TK (limX a b)) (py : TK (limY a b)) : (termT a b g px py).m.ok = true ∧ 0 ≤ (termT a b g px py).c ∧ (termT a b g px py).c ≤ 100 := by
  have h1 := M.ok_iff.1 h.ok1
  have h2 := M.ok_iff.1 h.ok2
  have h3 := M.ok_iff.1 h.ok3
  have hx := px.2
  have hy := py.2
  have lx := h.lx
  have ly := h.ly
  have gx := h.gx
  have gy := h.gy
  have gd := h.gd
  have ge := h.ge
  refine ⟨M.ok_iff.2 ?_, ?_, ?_⟩
  · simp only [termT]
    omega
  · show 0 ≤ a.c * b.c % 101 * px.1.2 % 101 * py.1.2 % 101
    omega
  · show a.c * b.c % 101 * px.1.2 % 101 * py.1.2 % 101 ≤ 100
    omega
def termK {a b : T} {g : M} (h : Two a b g) (px : TK (limX a b)) (py : TK (limY a b)) : TO := ⟨termT a b g px py, termT_ok h px py⟩
def allY (a b : T) : List (TK (limY a b)) := uptoK (limY a b) a.m.e b.m.y (limY a b + 1)
def allX (a b : T) : List (TK (limX a b)) := uptoK (limX a b) a.m.d b.m.x (limX a b + 1)
def emit {a b : T} {g : M} (h : Two a b g) (pre : List (TK (limX a b))) : List TO := pre.flatMap fun px => (allY a b).map (termK h px)
theorem emit_snoc {a b : T} {g : M} (h : Two a b g) (pre : List (TK (limX a b))) (x : TK (limX a b)) : emit h (pre ++ [x]) = emit h pre ++ (allY a b).map (termK h x) := by simp [emit]
end Go.Proofs.Ytbkighpmkadmmaa
namespace Go.Proofs.Ytbkighpmkadmmaa
open Go.RowKit
set_option linter.unusedVariables false
attribute [local go_sem] Oper.semAt_some

end Go.Proofs.Ytbkighpmkadmmaa
