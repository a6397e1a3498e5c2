/-
  What is true of a division: what is taken and what is left is all; nothing is greater; what is left is free, and is left
-/
import Derived.Test.YtncffcaabnjioaaGreatMbi
namespace Go.Proofs.YtncffcaabnjioaaGreat
open Go.RowKit Go.Deep Go.Joins
set_option linter.unusedVariables false
def Au (w:World) (n:Nat) (R:Option Dv) (e:Ending) (w':World):Prop:=∃qa qc ad cp la lc,e= .returned (.tuple #[.slice qa (uV n R) qc,.slice la (nO R).length lc,.bool R.isSome])∧Below w.heap.size w w'∧fZ w' qa (uV n R) qc ad (lN (xZ R)) cp (fN (xZ R))∧RL w' la lc (nO R)
theorem QP {w:World} {o:Int} {pa:Option Addr} {pc:Nat} {p:List T} {a:Option Addr} {n cap:Nat} {ad:Nat→Option Addr} {cp:Nat→Nat} {L:Nat→List T} (hp:RL w pa pc p) (h:fZ w a n cap ad (lN L) cp (fN L)) {R:Option Dv} (hR:aP o p n (lN L) (fN L)=R):Calls Tryz.prog 12 #[.int .i64 o,.slice pa p.length pc,.slice a n cap] w (Au w n R):=
 (wY w o pa pc p a n cap ad (lN L) cp (fN L) hp h hR).mono fun e w' ⟨qa,qc,ad,cp,Rb,B,la,lc,mid,he,hb,h1,h2,_⟩=>⟨qa,qc,ad,cp,la,lc,he,hb,h1.rd,h2.1⟩
theorem jF {w:World} {o:Int} {pa:Option Addr} {pc:Nat} {p:List T} {a:Option Addr} {n cap:Nat} {ad:Nat→Option Addr} {cp:Nat→Nat} {L:Nat→List T} (hp:RL w pa pc p) (h:fZ w a n cap ad (lN L) cp (fN L)) {S:Dv} (hR:aP o p n (lN L) (fN L)=some S):Calls Tryz.prog 12 #[.int .i64 o,.slice pa p.length pc,.slice a n cap] w fun e w'=>∃qa qc ad cp la lc,e= .returned (.tuple #[.slice qa n qc,.slice la S.r.length lc,.bool true])∧Below w.heap.size w w'∧fZ w' qa n qc ad (lN S.q) cp (fN S.q)∧RL w' la lc S.r:=QP hp h hR
theorem AU {w:World} {o:Int} {pa:Option Addr} {pc:Nat} {p:List T} {a:Option Addr} {n cap:Nat} {ad:Nat→Option Addr} {cp:Nat→Nat} {L:Nat→List T} (hp:RL w pa pc p) (h:fZ w a n cap ad (lN L) cp (fN L)) (hR:aP o p n (lN L) (fN L)=none):Calls Tryz.prog 12 #[.int .i64 o,.slice pa p.length pc,.slice a n cap] w fun e w'=>∃qa qc ad cp la lc,e= .returned (.tuple #[.slice qa 0 qc,.slice la 0 lc,.bool false])∧Below w.heap.size w w'∧fZ w' qa 0 qc ad (lN (fun _=>[])) cp (fN (fun _=>[]))∧RL w' la lc []:=QP hp h hR
end Go.Proofs.YtncffcaabnjioaaGreat
