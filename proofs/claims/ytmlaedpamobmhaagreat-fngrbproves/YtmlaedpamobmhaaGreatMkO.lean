/-
  What GrbMake hands back, laid open; boxes of bases.
-/
import Derived.Test.YtmlaedpamobmhaaGreatPbt
import Derived.Test.YtmlaedpamobmhaaGreatPbv
import Derived.Test.YtmlaedpamobmhaaGreatPby
import Derived.Test.YtmlaedpamobmhaaGreatPbh
namespace Go.Proofs.YtmlaedpamobmhaaGreat
open Go.RowKit Go.Deep Go.Joins
set_option linter.unusedVariables false

abbrev C3k (b : Nat) (v0 v1 v2 : Value) (u : World) : Prop := u.cell? ⟨b, 0, none⟩ = some v0 ∧ u.cell? ⟨b, 1, none⟩ = some v1 ∧ u.cell? ⟨b, 2, none⟩ = some v2
theorem C3k.below {b : Nat} {v0 v1 v2 : Value} {u u' : World} (h : C3k b v0 v1 v2 u) (hb : Below u.heap.size u u') : C3k b v0 v1 v2 u' :=
  ⟨(hb.cell (p := ⟨b, 0, none⟩) (World.block_lt_of_cell? u _ h.1)).trans h.1, (hb.cell (p := ⟨b, 1, none⟩) (World.block_lt_of_cell? u _ h.2.1)).trans h.2.1, (hb.cell (p := ⟨b, 2, none⟩) (World.block_lt_of_cell? u _ h.2.2)).trans h.2.2⟩
theorem rsum_I {w : World} {a1 : Option Addr} {n1 c1 : Nat} {ad1 : Nat → Option Addr} {ln1 cp1 : Nat → Nat} {f1 : Nat → Nat → T} (h1 : RdS w a1 n1 c1 ad1 ln1 cp1 f1) {a2 : Option Addr} {n2 c2 : Nat} {ad2 : Nat → Option Addr} {ln2 cp2 : Nat → Nat} {f2 : Nat → Nat → T} (h2 : RdS w a2 n2 c2 ad2 ln2 cp2 f2) : Calls Tryz.prog 16 #[.slice a1 n1 c1, .slice a2 n2 c2] w (Two2 w (redSum n1 ln1 f1 n2 ln2 f2)) :=
  (redSumI w a1 n1 c1 ad1 ln1 cp1 f1 h1 a2 n2 c2 ad2 ln2 cp2 f2 h2).mono fun _ _ h => two_out h
end Go.Proofs.YtmlaedpamobmhaaGreat
