/-
  Operators as lists: sums, differences, so many times, the most that is counted.
-/
import Derived.Test.YtdidlcjhodejjaaGreatMJaa
import Derived.Test.YtdidlcjhodejjaaGreatMIaa
import Derived.Test.YtdidlcjhodejjaaGreatMGaa
namespace Go.Proofs.YtdidlcjhodejjaaGreat
open Go.RowKit
set_option linter.unusedVariables false
theorem DW {L K:List T}:sq L K=true↔L=K:=by
 constructor
 ·intro ht;simp only[sq,aO,decide_eq_true_eq]at ht;refine List.ext_getElem ht.1 (fun i h1 h2=>?_);have:=ht.2 i h1
  rw[jA h1,jA h2]at this;exact T.eqB_iff.1 this
 ·intro h;rw[h];exact rH K
open Go.RowKit Go.Deep Go.Joins
def YG (n:Nat) (L:Nat→List T) (n':Nat) (L':Nat→List T):Bool:=decide (n=n'∧∀i,i<n→sq (L i) (L' i)=true)
theorem AL {n:Nat} {L:Nat→List T} {n':Nat} {L':Nat→List T}:YG n L n' L'=true↔n=n'∧∀i,i<n→L i=L' i:=by unfold YG;rw[decide_eq_true_iff];exact⟨fun h=>⟨h.1,fun i hi=>DW.1 (h.2 i hi)⟩,fun h=>⟨h.1,fun i hi=>DW.2 (h.2 i hi)⟩⟩
theorem yM {n:Nat} {L:Nat→List T} {n':Nat} {L':Nat→List T} (h:¬(n=n'∧∀i,i<n→L i=L' i)):YG n L n' L'=false:=by
 cases e:YG n L n' L'
 ·rfl
 ·exact absurd (AL.1 e) h
end Go.Proofs.YtdidlcjhodejjaaGreat
