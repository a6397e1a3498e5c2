/-
  Lists of operators as lists; whether two are the same (laws.heList).
-/
import Derived.Test.YtdidlcjhodejjaaGreatUax
import Derived.Test.YtdidlcjhodejjaaGreatUap
import Derived.Test.YtdidlcjhodejjaaGreatUbg
import Derived.Test.YtdidlcjhodejjaaGreatUbf
import Derived.Test.YtdidlcjhodejjaaGreatUbb
namespace Go.Proofs.YtdidlcjhodejjaaGreat
open Go.RowKit Go.Deep Go.Joins
set_option linter.unusedVariables false
def lsq (n:Nat) (L:Nat→List T) (n':Nat) (L':Nat→List T):Bool:=decide (n=n'∧∀ i,i<n→sq (L i) (L' i)=true)
theorem lsq_iff {n:Nat} {L:Nat→List T} {n':Nat} {L':Nat→List T}:lsq n L n' L'=true ↔ n=n'∧∀ i,i<n→L i=L' i:=by
 unfold lsq
 rw [decide_eq_true_iff]
 exact ⟨fun h=>⟨h.1,fun i hi=>sq_iff.1 (h.2 i hi)⟩,fun h=>⟨h.1,fun i hi=>sq_iff.2 (h.2 i hi)⟩⟩
theorem lsq_no {n:Nat} {L:Nat→List T} {n':Nat} {L':Nat→List T} (h:¬ (n=n'∧∀ i,i<n→L i=L' i)):lsq n L n' L'=false:=by
 cases e:lsq n L n' L'
 ·rfl
 ·exact absurd (lsq_iff.1 e) h
end Go.Proofs.YtdidlcjhodejjaaGreat
namespace Go.Proofs.YtdidlcjhodejjaaGreat
open Go.RowKit Go.Deep Go.Joins
set_option linter.unusedVariables false
theorem redAll_is {o:Int} {p:List T} {n:Nat} {L:Nat→List T} (ho:1≤o∧o≤3) (hp:okL p=true) (hl:lstOk n (lN L) (fN L)=true):redAll o p n (lN L) (fN L)=dvRun o n (lN L) (fN L) 300 (dvOf p):=if_pos ⟨ho,hp,hl⟩
theorem sprS_L2 {w:World} (o:Int) {a b:Option Addr} {ca cb:Nat} {A B:List T} (ha:RL w a ca A) (hb:RL w b cb B):Calls Tryz.prog 137 #[.int .i64 o,.slice a A.length ca,.slice b B.length cb] w (Two2 w (sprPoly o (lf A) A.length (lf B) B.length)):=
 (sprPolyS w o a b A.length ca B.length cb (lf A) (lf B) ha hb).mono fun _ _ h=>two_owns (sprPoly_len _ _ _ _ _) h
end Go.Proofs.YtdidlcjhodejjaaGreat
namespace Go.Proofs.YtdidlcjhodejjaaGreat
open Go.RowKit Go.Deep Go.Joins Go.Maps
set_option linter.unusedVariables false
end Go.Proofs.YtdidlcjhodejjaaGreat
namespace Go.Proofs.YtdidlcjhodejjaaGreat
open Go.RowKit Go.Deep Go.Joins
set_option linter.unusedVariables false
end Go.Proofs.YtdidlcjhodejjaaGreat
