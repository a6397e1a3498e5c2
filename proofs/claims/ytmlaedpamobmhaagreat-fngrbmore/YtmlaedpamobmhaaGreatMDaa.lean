/-
  What GrbMake hands back, laid open; boxes of bases.
-/
import Derived.Test.YtmlaedpamobmhaaGreatMBah
namespace Go.Proofs.YtmlaedpamobmhaaGreat
open Go.RowKit Go.Deep Go.Joins
set_option linter.unusedVariables false
theorem BO {w:World} {a:Option Addr} {n c:Nat} {ad:Nat→Option Addr} {cp:Nat→Nat} {L L':Nat→List T} (h:eJ w a n c ad (lN L) cp (fN L)) (e:∀i,i<n→L i=L' i):eJ w a n c ad (lN L') cp (fN L'):=by
 have e1:∀i,i<n→lN L' i=lN L i:=fun i hi=>by unfold lN;rw[e i hi]
 have e2:∀i,i<n→fN L' i=fN L i:=fun i hi=>by unfold fN;rw[e i hi]
 refine⟨h.1,h.2.1,h.2.2.1.imp id (fun⟨b,off,h1,h2,h3⟩=>⟨b,off,h1,h2,fun i hi=>by rw[e1 i hi];exact h3 i hi⟩),fun i hi=>by rw[e1 i hi,e2 i hi];exact h.2.2.2 i hi⟩
theorem BR {w:World} {a:Option Addr} {n c m:Nat} {ad:Nat→Option Addr} {cp:Nat→Nat} {L:Nat→List T} (h:eJ w a n c ad (lN L) cp (fN L)) (hm:m≤n):eJ w a m c ad (lN L) cp (fN L):=by
 obtain⟨h1,h2,h3,h4⟩:=h;refine⟨by omega,by omega,?_,fun i hi=>h4 i (by omega)⟩;rcases h3 with h0|⟨b,off,e,hlt,hc⟩
 ·exact .inl (by omega)
 ·exact .inr ⟨b,off,e,hlt,fun i hi=>hc i (by omega)⟩
end Go.Proofs.YtmlaedpamobmhaaGreat
