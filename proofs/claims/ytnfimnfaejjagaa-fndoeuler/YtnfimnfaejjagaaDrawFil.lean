/-
  Draws for tops and parts; their functions as lists.
-/
import Derived.Test.YtnfimnfaejjagaaAlgFil
import Derived.Test.YtnfimnfaejjagaaGay
namespace Go.Proofs.Ytnfimnfaejjagaa
open Go.RowKit
set_option linter.unusedVariables false

def One5 (w : World) (e : Ending) (w' : World) : Prop := ∃ (a1 : Option Addr) (c1 : Nat) (A : List T), e = .returned (.slice a1 A.length c1) ∧ RL w' a1 c1 A ∧ A.length ≤ 5 ∧ Below w.heap.size w w'
variable {w : World} {a : Option Addr} {ca : Nat} {L : List T}
theorem partI_L (v : Int) (ha : RL w a ca L) : Calls Try.prog 31 #[.slice a L.length ca, .int .i64 v] w (One1 w (partV v L)) :=
  (filPartI w a L.length ca (lf L) v ha).mono fun _ _ ⟨a', c', h1, h2, h3⟩ => ⟨a', c', h1, h2, h3.1⟩
theorem mo_high {L : List T} (h : okL L = true) : moL dgr L ≤ 60 := by
  rcases moL_at (q := dgr) h with h1 | ⟨t, ht, h1⟩
  · omega
  · have := M.ok_iff.1 ((okL_falls h).2.2 t ht).1
    rw [h1]
    unfold dgr
    omega
end Go.Proofs.Ytnfimnfaejjagaa
