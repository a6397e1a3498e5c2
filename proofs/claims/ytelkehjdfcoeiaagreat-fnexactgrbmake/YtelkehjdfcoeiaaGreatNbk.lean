/-
  A basis on its way in the model's world: a row of operators, a row of proofs; what stays true where one more is put behind.
-/
import Derived.Test.YtelkehjdfcoeiaaGreatNbj
namespace Go.Proofs.YtelkehjdfcoeiaaGreat
open Go.RowKit Go.Deep Go.Joins
set_option linter.unusedVariables false
def NB (Y:Nat→Prop) (tvL tvP:Value) (b:Nat):Prop:=tvL.ownBlock≠some b∧tvP.ownBlock≠some b∧¬Y b
def xC (N:Nat→Prop) (w:World) (a:Option Addr) (c:Nat) (L:List T):Prop:=RL w a c L∧(L.length=0∨∀b off,a=some ⟨b,off,none⟩→N b)
def uI (N:Nat→Prop) (w:World) (a:Option Addr) (g c:Nat) (ad:Nat→Option Addr) (cp:Nat→Nat) (P:Nat→List T):Prop:=eH w a g c ad (lN P) cp (fN P)∧(g=0∨∀b off,a=some ⟨b,off,none⟩→N b)∧∀j,j<g→(P j).length=0∨∀b off,ad j=some ⟨b,off,none⟩→N b
structure jG (Y:Nat→Prop) (w:World) (lo:Nat) (tvL tvP:Value) (g nL:Nat) (L:Nat→List T) (nP:Nat) (P:Nat→Nat→List T) (LS PS:List Value):Prop where
 rL:w.ownsRow lo 41 1 tvL nL LS
 rP:w.ownsRow lo 24 1 tvP nP PS
 eL:∀i,i<nL→∃a c,LS[i]? =some (.slice a (L i).length c)∧xC (NB Y tvL tvP) w a c (L i)
 eP:∀i,i<nP→∃a c ad cp,PS[i]? =some (.slice a g c)∧uI (NB Y tvL tvP) w a g c ad cp (P i)
 nL:∀k,tvL.ownBlock=some k→tvP.ownBlock≠some k∧¬Y k
 nP:∀k,tvP.ownBlock=some k→¬Y k
theorem xC.fr {N P:Nat→Prop} {w w':World} {a:Option Addr} {c:Nat} {L:List T} (h:xC N w a c L) (hf:Fr P w w') (hp:∀b,N b→¬P b):xC N w' a c L:=⟨hf.rd h.1 (h.2.imp id (fun q b off e=>hp b (q b off e))),h.2⟩
theorem uI.fr {N P:Nat→Prop} {w w':World} {a:Option Addr} {g c:Nat} {ad:Nat→Option Addr} {cp:Nat→Nat} {Q:Nat→List T} (h:uI N w a g c ad cp Q) (hf:Fr P w w') (hp:∀b,N b→¬P b):uI N w' a g c ad cp Q:=by
 refine⟨⟨h.1.1,h.1.2.1,?_,fun i hi=>hf.rd (h.1.2.2.2 i hi) ((h.2.2 i hi).imp id (fun q b off e=>hp b (q b off e)))⟩,h.2⟩;rcases h.1.2.2.1 with h0|⟨b,off,e,hlt,hc⟩
 ·exact .inl h0
 ·rcases h.2.1 with h0|hn
  ·exact .inl h0
  ·exact .inr ⟨b,off,e,iZ hlt hf.size,fun i hi=>(hf.cell hlt (hp b (hn b off e))).trans (hc i hi)⟩
theorem xC.mono {N N':Nat→Prop} {w:World} {a:Option Addr} {c:Nat} {L:List T} (h:xC N w a c L) (hn:∀b,b<w.heap.size→N b→N' b):xC N' w a c L:=⟨h.1,by
 rcases h.1.2.2 with h0|⟨b,off,e,hlt,_⟩
 ·exact .inl h0
 ·exact h.2.imp id (fun q b' off' e'=>hn b' (by rw[e]at e';cases e';exact hlt) (q b' off' e'))⟩
theorem uI.mono {N N':Nat→Prop} {w:World} {a:Option Addr} {g c:Nat} {ad:Nat→Option Addr} {cp:Nat→Nat} {Q:Nat→List T} (h:uI N w a g c ad cp Q) (hn:∀b,b<w.heap.size→N b→N' b):uI N' w a g c ad cp Q:=by
 refine⟨h.1,?_,fun j hj=>?_⟩
 ·rcases h.1.2.2.1 with h0|⟨b,off,e,hlt,_⟩
  ·exact .inl h0
  ·exact h.2.1.imp id (fun q b' off' e'=>hn b' (by rw[e]at e';cases e';exact hlt) (q b' off' e'))
 ·rcases(h.1.2.2.2 j hj).2.2 with h0|⟨b,off,e,hlt,_⟩
  ·exact .inl h0
  ·exact(h.2.2 j hj).imp id (fun q b' off' e'=>hn b' (by rw[e]at e';cases e';exact hlt) (q b' off' e'))
theorem jG.fr {Y P:Nat→Prop} {w w':World} {lo:Nat} {tvL tvP:Value} {g nL:Nat} {L:Nat→List T} {nP:Nat} {Q:Nat→Nat→List T} {LS PS:List Value} (h:jG Y w lo tvL tvP g nL L nP Q LS PS) (hf:Fr P w w') (hp:∀b,P b→Y b):jG Y w' lo tvL tvP g nL L nP Q LS PS where
 rL:=hf.owns h.rL (fun k hk q=>(h.nL k hk).2 (hp k q))
 rP:=hf.owns h.rP (fun k hk q=>h.nP k hk (hp k q))
 eL:=fun i hi=>(h.eL i hi).imp fun a ⟨c,e,hr⟩=>⟨c,e,hr.fr hf (fun b nb q=>nb.2.2 (hp b q))⟩
 eP:=fun i hi=>(h.eP i hi).imp fun a ⟨c,ad,cp,e,hr⟩=>⟨c,ad,cp,e,hr.fr hf (fun b nb q=>nb.2.2 (hp b q))⟩
 nL:=h.nL
 nP:=h.nP
theorem jG.below {Y:Nat→Prop} {w w':World} {lo:Nat} {tvL tvP:Value} {g nL:Nat} {L:Nat→List T} {nP:Nat} {Q:Nat→Nat→List T} {LS PS:List Value} (h:jG Y w lo tvL tvP g nL L nP Q LS PS) (hb:Below w.heap.size w w'):jG Y w' lo tvL tvP g nL L nP Q LS PS:=h.fr (P:=fun _=>False) (aO hb) (fun _ q=>q.elim)
theorem jG.yet {Y Y':Nat→Prop} {w:World} {lo:Nat} {tvL tvP:Value} {g nL:Nat} {L:Nat→List T} {nP:Nat} {Q:Nat→Nat→List T} {LS PS:List Value} (h:jG Y w lo tvL tvP g nL L nP Q LS PS) (hy:∀b,b<w.heap.size→Y' b→Y b):jG Y' w lo tvL tvP g nL L nP Q LS PS where
 rL:=h.rL
 rP:=h.rP
 eL:=fun i hi=>(h.eL i hi).imp fun a ⟨c,e,hr⟩=>⟨c,e,hr.mono (fun b hb nb=>⟨nb.1,nb.2.1,fun q=>nb.2.2 (hy b hb q)⟩)⟩
 eP:=fun i hi=>(h.eP i hi).imp fun a ⟨c,ad,cp,e,hr⟩=>⟨c,ad,cp,e,hr.mono (fun b hb nb=>⟨nb.1,nb.2.1,fun q=>nb.2.2 (hy b hb q)⟩)⟩
 nL:=fun k hk=>⟨(h.nL k hk).1,fun q=>(h.nL k hk).2 (hy k (h.rL.lt k hk).2 q)⟩
 nP:=fun k hk q=>h.nP k hk (hy k (h.rP.lt k hk).2 q)
theorem jG.readL {Y:Nat→Prop} {w:World} {lo:Nat} {tvL tvP:Value} {g nL:Nat} {L:Nat→List T} {nP:Nat} {Q:Nat→Nat→List T} {LS PS:List Value} (h:jG Y w lo tvL tvP g nL L nP Q LS PS) (hn:nL≤100):∃a c ad cp,tvL= .slice a nL c∧eH w a nL c ad (lN L) cp (fN L):=by
 have each:∀i,i<nL→∃t:Option Addr×Nat,LS[i]? =some (.slice t.1 (L i).length t.2)∧RL w t.1 t.2 (L i):=fun i hi=>by obtain⟨a,c,e,hr,_⟩:=h.eL i hi;exact⟨(a,c),e,hr⟩
 haveI:Inhabited (Option Addr×Nat):=⟨(none,0)⟩
 obtain⟨q,hq⟩:=choose_lt each;rcases h.rL.2 with⟨hv,h0⟩|⟨b,cap,cur,hv,hlo,hg,hnc,_⟩
 ·exact⟨none,0,fun i=>(q i).1,fun i=>(q i).2,by rw[hv,h0],by omega,by omega,.inl h0,fun i hi=>(hq i hi).2⟩
 ·have hr:=h.rL;rw[hv]at hr;refine⟨some ⟨b,0,none⟩,cap,fun i=>(q i).1,fun i=>(q i).2,hv,hnc,by omega,.inr ⟨b,0,rfl,(hr.lt b rfl).2,fun i hi=>?_⟩,fun i hi=>(hq i hi).2⟩;rw[Nat.zero_add,hr.cellAt i (by omega),(hq i hi).1]
theorem jG.readP {Y:Nat→Prop} {w:World} {lo:Nat} {tvL tvP:Value} {g nL:Nat} {L:Nat→List T} {nP:Nat} {Q:Nat→Nat→List T} {LS PS:List Value} (h:jG Y w lo tvL tvP g nL L nP Q LS PS) (hn:nP≤100):∃a c A C AD CP,tvP= .slice a nP c∧R3 w a nP c g A C AD CP Q:=by
 have each:∀i,i<nP→∃t:(Option Addr×Nat)×(Nat→Option Addr)×(Nat→Nat),PS[i]? =some (.slice t.1.1 g t.1.2)∧eH w t.1.1 g t.1.2 t.2.1 (lN (Q i)) t.2.2 (fN (Q i)):=fun i hi=>by obtain⟨a,c,ad,cp,e,hr,_⟩:=h.eP i hi;exact⟨((a,c),ad,cp),e,hr⟩
 haveI:Inhabited ((Option Addr×Nat)×(Nat→Option Addr)×(Nat→Nat)):=⟨((none,0),fun _=>none,fun _=>0)⟩
 obtain⟨q,hq⟩:=choose_lt each;rcases h.rP.2 with⟨hv,h0⟩|⟨b,cap,cur,hv,hlo,hg,hnc,_⟩
 ·exact⟨none,0,fun i=>(q i).1.1,fun i=>(q i).1.2,fun i=>(q i).2.1,fun i=>(q i).2.2,by rw[hv,h0],by omega,by omega,.inl h0,fun i hi=>(hq i hi).2⟩
 ·have hr:=h.rP;rw[hv]at hr;refine⟨some ⟨b,0,none⟩,cap,fun i=>(q i).1.1,fun i=>(q i).1.2,fun i=>(q i).2.1,fun i=>(q i).2.2,hv,hnc,by omega,.inr ⟨b,0,rfl,(hr.lt b rfl).2,fun i hi=>?_⟩,fun i hi=>(hq i hi).2⟩;rw[Nat.zero_add,hr.cellAt i (by omega),(hq i hi).1]
theorem mO {LS:List Value} {v:Value} {i:Nat} (h:i<LS.length):(LS++[v])[i]? =LS[i]? :=by rw[List.getElem?_append_left h]
theorem mN {LS:List Value} {v:Value} {i:Nat} (h:i=LS.length):(LS++[v])[i]? =some v:=by subst h;simp
theorem rN {w:World} {lo:Nat} {e:TypeId} {v:Value} {n:Nat} {LS:List Value} (h:w.ownsRow lo e 1 v n LS):LS.length=n:=by have:=h.1;omega
theorem jG.appL {Y:Nat→Prop} {w1 w5:World} {lo:Nat} {tvL tvP:Value} {g nL:Nat} {L:Nat→List T} {nP:Nat} {Q:Nat→Nat→List T} {LS PS:List Value} (h:jG Y w1 lo tvL tvP g nL L nP Q LS PS) (hY:∀b,Y b→b<w1.heap.size) {a:Option Addr} {c:Nat} {r:List T} (hr:xC (NB Y tvL tvP) w1 a c r) {g0 cap0:Nat} (hgrow:(w1.alloc (.cells #[.slice a r.length c] 41)).grownBy w5 tvL.ownBlock) (hown:w5.ownsRow lo 41 1 (.slice (some ⟨g0,0,none⟩) (nL+1) cap0) (nL+1) (LS++[.slice a r.length c])) (hat:tvL.ownBlock=some g0∨g0=(w1.alloc (.cells #[.slice a r.length c] 41)).heap.size):jG Y w5 lo (.slice (some ⟨g0,0,none⟩) (nL+1) cap0) tvP g (nL+1) (bK L nL r) nP Q (LS++[.slice a r.length c]) PS:=by
 have b1:=aC w1 (.cells #[.slice a r.length c] 41);have f5:Fr (fun k=>tvL.ownBlock=some k) w1 w5:=((Fr.refl _ w1).next b1).grown hgrow (fun k e _=>e)
 have hg0:tvL.ownBlock=some g0∨g0=w1.heap.size+1:=hat.imp id (fun e=>by rw[e];simp);have ll:=rN h.rL
 have hs5:=f5.size
 have key:∀b,b<w1.heap.size→NB Y tvL tvP b→NB Y (.slice (some ⟨g0,0,none⟩) (nL+1) cap0) tvP b:=fun b hb nb=>⟨fun q=>by
  have e:g0=b:=by simpa[Value.ownBlock]using q
  rcases hg0 with q'|q'
  ·exact nb.1 (by rw[q',e])
  ·omega,nb.2.1,nb.2.2⟩
 have goL:∀(a:Option Addr) (c:Nat) (X:List T),xC (NB Y tvL tvP) w1 a c X→xC (NB Y (.slice (some ⟨g0,0,none⟩) (nL+1) cap0) tvP) w5 a c X:=fun a c X hx=>
  ((hx.mono (N':=fun b=>NB Y tvL tvP b∧b<w1.heap.size) (fun b hb nb=>⟨nb,hb⟩)).fr f5 (fun b nb q=>nb.1.1 q)).mono (fun b _ nb=>key b nb.2 nb.1)
 have goS:∀(a:Option Addr) (c:Nat) (ad:Nat→Option Addr) (cp:Nat→Nat) (X:Nat→List T),uI (NB Y tvL tvP) w1 a g c ad cp X→uI (NB Y (.slice (some ⟨g0,0,none⟩) (nL+1) cap0) tvP) w5 a g c ad cp X:=fun a c ad cp X hx=>
  ((hx.mono (N':=fun b=>NB Y tvL tvP b∧b<w1.heap.size) (fun b hb nb=>⟨nb,hb⟩)).fr f5 (fun b nb q=>nb.1.1 q)).mono (fun b _ nb=>key b nb.2 nb.1)
 refine⟨hown,f5.owns h.rP (fun k hk q=>(h.nL k q).1 hk),fun i hi=>?_,fun i hi=>(h.eP i hi).imp fun a ⟨c,ad,cp,e,hr⟩=>⟨c,ad,cp,e,goS a c ad cp _ hr⟩,fun k hk=>?_,h.nP⟩
 ·by_cases e:i=nL
  ·subst e;refine⟨a,c,?_,?_⟩
   ·rw[mN ll.symm];unfold bK;rw[if_pos rfl]
   ·unfold bK;rw[if_pos rfl];exact goL a c r hr
  ·obtain⟨a',c',e1,hr'⟩:=h.eL i (by omega);refine⟨a',c',?_,?_⟩
   ·rw[mO (by omega),e1];unfold bK;rw[if_neg e]
   ·unfold bK;rw[if_neg e];exact goL a' c' _ hr'
 ·have e:g0=k:=by simpa[Value.ownBlock]using hk
  subst e;rcases hg0 with q|q
  ·exact h.nL g0 q
  ·exact⟨fun q'=>by have:=(h.rP.lt g0 q').2;omega,fun q'=>by have:=hY g0 q';omega⟩
theorem jG.appP {Y:Nat→Prop} {w1 w5:World} {lo:Nat} {tvL tvP:Value} {g nL:Nat} {L:Nat→List T} {nP:Nat} {Q:Nat→Nat→List T} {LS PS:List Value} (h:jG Y w1 lo tvL tvP g nL L nP Q LS PS) (hY:∀b,Y b→b<w1.heap.size) {a:Option Addr} {c:Nat} {ad:Nat→Option Addr} {cp:Nat→Nat} {R:Nat→List T} (hr:uI (NB Y tvL tvP) w1 a g c ad cp R) {g0 cap0:Nat} (hgrow:(w1.alloc (.cells #[.slice a g c] 24)).grownBy w5 tvP.ownBlock) (hown:w5.ownsRow lo 24 1 (.slice (some ⟨g0,0,none⟩) (nP+1) cap0) (nP+1) (PS++[.slice a g c])) (hat:tvP.ownBlock=some g0∨g0=(w1.alloc (.cells #[.slice a g c] 24)).heap.size):jG Y w5 lo tvL (.slice (some ⟨g0,0,none⟩) (nP+1) cap0) g nL L (nP+1) (oG Q nP R) LS (PS++[.slice a g c]):=by
 have b1:=aC w1 (.cells #[.slice a g c] 24);have f5:Fr (fun k=>tvP.ownBlock=some k) w1 w5:=((Fr.refl _ w1).next b1).grown hgrow (fun k e _=>e)
 have hg0:tvP.ownBlock=some g0∨g0=w1.heap.size+1:=hat.imp id (fun e=>by rw[e];simp);have ll:=rN h.rP
 have key:∀b,b<w1.heap.size→NB Y tvL tvP b→NB Y tvL (.slice (some ⟨g0,0,none⟩) (nP+1) cap0) b:=fun b hb nb=>⟨nb.1,fun q=>by
  have e:g0=b:=by simpa[Value.ownBlock]using q
  rcases hg0 with q'|q'
  ·exact nb.2.1 (by rw[q',e])
  ·omega,nb.2.2⟩
 have goL:∀(a:Option Addr) (c:Nat) (X:List T),xC (NB Y tvL tvP) w1 a c X→xC (NB Y tvL (.slice (some ⟨g0,0,none⟩) (nP+1) cap0)) w5 a c X:=fun a c X hx=>
  ((hx.mono (N':=fun b=>NB Y tvL tvP b∧b<w1.heap.size) (fun b hb nb=>⟨nb,hb⟩)).fr f5 (fun b nb q=>nb.1.2.1 q)).mono (fun b _ nb=>key b nb.2 nb.1)
 have goS:∀(a:Option Addr) (c:Nat) (ad:Nat→Option Addr) (cp:Nat→Nat) (X:Nat→List T),uI (NB Y tvL tvP) w1 a g c ad cp X→uI (NB Y tvL (.slice (some ⟨g0,0,none⟩) (nP+1) cap0)) w5 a g c ad cp X:=fun a c ad cp X hx=>
  ((hx.mono (N':=fun b=>NB Y tvL tvP b∧b<w1.heap.size) (fun b hb nb=>⟨nb,hb⟩)).fr f5 (fun b nb q=>nb.1.2.1 q)).mono (fun b _ nb=>key b nb.2 nb.1)
 refine⟨f5.owns h.rL (fun k hk q=>(h.nL k hk).1 q),hown,fun i hi=>(h.eL i hi).imp fun a ⟨c,e,hr⟩=>⟨c,e,goL a c _ hr⟩,fun i hi=>?_,fun k hk=>?_,fun k hk=>?_⟩
 ·by_cases e:i=nP
  ·subst e;refine⟨a,c,ad,cp,?_,?_⟩
   ·rw[mN ll.symm]
   ·unfold oG;rw[if_pos rfl];exact goS a c ad cp R hr
  ·obtain⟨a',c',ad',cp',e1,hr'⟩:=h.eP i (by omega);refine⟨a',c',ad',cp',?_,?_⟩
   ·rw[mO (by omega),e1]
   ·unfold oG;rw[if_neg e];exact goS a' c' ad' cp' _ hr'
 ·refine⟨fun q=>?_,(h.nL k hk).2⟩;have e:g0=k:=by simpa[Value.ownBlock]using q
  subst e;rcases hg0 with q'|q'
  ·exact(h.nL g0 hk).1 q'
  ·have:=(h.rL.lt g0 hk).2;omega
 ·have e:g0=k:=by simpa[Value.ownBlock]using hk
  subst e;rcases hg0 with q|q
  ·exact h.nP g0 q
  ·exact fun q'=>by have:=hY g0 q';omega
end Go.Proofs.YtelkehjdfcoeiaaGreat
