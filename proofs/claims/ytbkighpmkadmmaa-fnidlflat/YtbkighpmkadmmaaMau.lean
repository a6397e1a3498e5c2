/-
  A basis on its way in the model's world: a row of operators, a row of proofs; what stays true where one more is put behi
-/
import Derived.Test.YtbkighpmkadmmaaMat
set_option maxHeartbeats 16000000
set_option maxRecDepth 100000
namespace Go.Proofs.Ytbkighpmkadmmaa
open Go.RowKit Go.Deep Go.Joins
set_option linter.unusedVariables false
def NB (Y:Nat→Prop) (tvL tvP:Value) (b:Nat):Prop:=tvL.ownBlock≠some b∧tvP.ownBlock≠some b∧¬Y b
def wQ (N:Nat→Prop) (w:World) (a:Option Addr) (c:Nat) (L:List T):Prop:=RL w a c L∧(L.length=0∨∀b off,a=some ⟨b,off,none⟩→N b)
def oT (N:Nat→Prop) (w:World) (a:Option Addr) (g c:Nat) (ad:Nat→Option Addr) (cp:Nat→Nat) (P:Nat→List T):Prop:=gO w a g c ad (lN P) cp (fN P)∧(g=0∨∀b off,a=some ⟨b,off,none⟩→N b)∧∀j,j<g→(P j).length=0∨∀b off,ad j=some ⟨b,off,none⟩→N b
structure jX (Y:Nat→Prop) (w:World) (lo:Nat) (tvL tvP:Value) (g nL:Nat) (L:Nat→List T) (nP:Nat) (P:Nat→Nat→List T) (LS PS:List Value):Prop where
 rL:w.ownsRow lo 29 1 tvL nL LS
 rP:w.ownsRow lo 23 1 tvP nP PS
 eL:∀i,i<nL→∃a c,LS[i]? =some (.slice a (L i).length c)∧wQ (NB Y tvL tvP) w a c (L i)
 eP:∀i,i<nP→∃a c ad cp,PS[i]? =some (.slice a g c)∧oT (NB Y tvL tvP) w a g c ad cp (P i)
 nL:∀k,tvL.ownBlock=some k→tvP.ownBlock≠some k∧¬Y k
 nP:∀k,tvP.ownBlock=some k→¬Y k
theorem wQ.fr {N P:Nat→Prop} {w w':World} {a:Option Addr} {c:Nat} {L:List T} (h:wQ N w a c L) (hf:Fr P w w') (hp:∀b,N b→¬P b):wQ N w' a c L:=⟨hf.rd h.1 (h.2.imp id (fun q b off e=>hp b (q b off e))),h.2⟩
theorem oT.fr {N P:Nat→Prop} {w w':World} {a:Option Addr} {g c:Nat} {ad:Nat→Option Addr} {cp:Nat→Nat} {Q:Nat→List T} (h:oT N w a g c ad cp Q) (hf:Fr P w w') (hp:∀b,N b→¬P b):oT N w' a g c ad cp Q:=by
 refine⟨⟨h.1.1,h.1.2.1,?_,fun i hi=>hf.rd (h.1.2.2.2 i hi) ((h.2.2 i hi).imp id (fun q b off e=>hp b (q b off e)))⟩,h.2⟩;rcases h.1.2.2.1 with h0|⟨b,off,e,hlt,hc⟩
 ·exact .inl h0
 ·rcases h.2.1 with h0|hn
  ·exact .inl h0
  ·exact .inr ⟨b,off,e,lD hlt hf.size,fun i hi=>(hf.cell hlt (hp b (hn b off e))).trans (hc i hi)⟩
theorem wQ.mono {N N':Nat→Prop} {w:World} {a:Option Addr} {c:Nat} {L:List T} (h:wQ N w a c L) (hn:∀b,b<w.heap.size→N b→N' b):wQ N' w a c L:=⟨h.1,by
 rcases h.1.2.2 with h0|⟨b,off,e,hlt,_⟩
 ·exact .inl h0
 ·exact h.2.imp id (fun q b' off' e'=>hn b' (by rw[e]at e';cases e';exact hlt) (q b' off' e'))⟩
theorem oT.mono {N N':Nat→Prop} {w:World} {a:Option Addr} {g c:Nat} {ad:Nat→Option Addr} {cp:Nat→Nat} {Q:Nat→List T} (h:oT N w a g c ad cp Q) (hn:∀b,b<w.heap.size→N b→N' b):oT N' w a g c ad cp Q:=by
 refine⟨h.1,?_,fun j hj=>?_⟩
 ·rcases h.1.2.2.1 with h0|⟨b,off,e,hlt,_⟩
  ·exact .inl h0
  ·exact h.2.1.imp id (fun q b' off' e'=>hn b' (by rw[e]at e';cases e';exact hlt) (q b' off' e'))
 ·rcases(h.1.2.2.2 j hj).2.2 with h0|⟨b,off,e,hlt,_⟩
  ·exact .inl h0
  ·exact(h.2.2 j hj).imp id (fun q b' off' e'=>hn b' (by rw[e]at e';cases e';exact hlt) (q b' off' e'))
theorem jX.fr {Y P:Nat→Prop} {w w':World} {lo:Nat} {tvL tvP:Value} {g nL:Nat} {L:Nat→List T} {nP:Nat} {Q:Nat→Nat→List T} {LS PS:List Value} (h:jX Y w lo tvL tvP g nL L nP Q LS PS) (hf:Fr P w w') (hp:∀b,P b→Y b):jX Y w' lo tvL tvP g nL L nP Q LS PS where
 rL:=hf.owns h.rL (fun k hk q=>(h.nL k hk).2 (hp k q))
 rP:=hf.owns h.rP (fun k hk q=>h.nP k hk (hp k q))
 eL:=fun i hi=>(h.eL i hi).imp fun a ⟨c,e,hr⟩=>⟨c,e,hr.fr hf (fun b nb q=>nb.2.2 (hp b q))⟩
 eP:=fun i hi=>(h.eP i hi).imp fun a ⟨c,ad,cp,e,hr⟩=>⟨c,ad,cp,e,hr.fr hf (fun b nb q=>nb.2.2 (hp b q))⟩
 nL:=h.nL
 nP:=h.nP
theorem jX.below {Y:Nat→Prop} {w w':World} {lo:Nat} {tvL tvP:Value} {g nL:Nat} {L:Nat→List T} {nP:Nat} {Q:Nat→Nat→List T} {LS PS:List Value} (h:jX Y w lo tvL tvP g nL L nP Q LS PS) (hb:Below w.heap.size w w'):jX Y w' lo tvL tvP g nL L nP Q LS PS:=h.fr (P:=fun _=>False) (eK hb) (fun _ q=>q.elim)
theorem jX.yet {Y Y':Nat→Prop} {w:World} {lo:Nat} {tvL tvP:Value} {g nL:Nat} {L:Nat→List T} {nP:Nat} {Q:Nat→Nat→List T} {LS PS:List Value} (h:jX Y w lo tvL tvP g nL L nP Q LS PS) (hy:∀b,b<w.heap.size→Y' b→Y b):jX Y' w lo tvL tvP g nL L nP Q LS PS where
 rL:=h.rL
 rP:=h.rP
 eL:=fun i hi=>(h.eL i hi).imp fun a ⟨c,e,hr⟩=>⟨c,e,hr.mono (fun b hb nb=>⟨nb.1,nb.2.1,fun q=>nb.2.2 (hy b hb q)⟩)⟩
 eP:=fun i hi=>(h.eP i hi).imp fun a ⟨c,ad,cp,e,hr⟩=>⟨c,ad,cp,e,hr.mono (fun b hb nb=>⟨nb.1,nb.2.1,fun q=>nb.2.2 (hy b hb q)⟩)⟩
 nL:=fun k hk=>⟨(h.nL k hk).1,fun q=>(h.nL k hk).2 (hy k (h.rL.lt k hk).2 q)⟩
 nP:=fun k hk q=>h.nP k hk (hy k (h.rP.lt k hk).2 q)
theorem jX.readL {Y:Nat→Prop} {w:World} {lo:Nat} {tvL tvP:Value} {g nL:Nat} {L:Nat→List T} {nP:Nat} {Q:Nat→Nat→List T} {LS PS:List Value} (h:jX Y w lo tvL tvP g nL L nP Q LS PS) (hn:nL≤100):∃a c ad cp,tvL= .slice a nL c∧gO w a nL c ad (lN L) cp (fN L):=by
 have each:∀i,i<nL→∃t:Option Addr×Nat,LS[i]? =some (.slice t.1 (L i).length t.2)∧RL w t.1 t.2 (L i):=fun i hi=>by obtain⟨a,c,e,hr,_⟩:=h.eL i hi;exact⟨(a,c),e,hr⟩
 haveI:Inhabited (Option Addr×Nat):=⟨(none,0)⟩
 obtain⟨q,hq⟩:=choose_lt each;rcases h.rL.2 with⟨hv,h0⟩|⟨b,cap,cur,hv,hlo,hg,hnc,_⟩
 ·exact⟨none,0,fun i=>(q i).1,fun i=>(q i).2,by rw[hv,h0],by omega,by omega,.inl h0,fun i hi=>(hq i hi).2⟩
 ·have hr:=h.rL;rw[hv]at hr;refine⟨some ⟨b,0,none⟩,cap,fun i=>(q i).1,fun i=>(q i).2,hv,hnc,by omega,.inr ⟨b,0,rfl,(hr.lt b rfl).2,fun i hi=>?_⟩,fun i hi=>(hq i hi).2⟩;rw[Nat.zero_add,hr.cellAt i (by omega),(hq i hi).1]
theorem jX.readP {Y:Nat→Prop} {w:World} {lo:Nat} {tvL tvP:Value} {g nL:Nat} {L:Nat→List T} {nP:Nat} {Q:Nat→Nat→List T} {LS PS:List Value} (h:jX Y w lo tvL tvP g nL L nP Q LS PS) (hn:nP≤100):∃a c A C AD CP,tvP= .slice a nP c∧R3 w a nP c g A C AD CP Q:=by
 have each:∀i,i<nP→∃t:(Option Addr×Nat)×(Nat→Option Addr)×(Nat→Nat),PS[i]? =some (.slice t.1.1 g t.1.2)∧gO w t.1.1 g t.1.2 t.2.1 (lN (Q i)) t.2.2 (fN (Q i)):=fun i hi=>by obtain⟨a,c,ad,cp,e,hr,_⟩:=h.eP i hi;exact⟨((a,c),ad,cp),e,hr⟩
 haveI:Inhabited ((Option Addr×Nat)×(Nat→Option Addr)×(Nat→Nat)):=⟨((none,0),fun _=>none,fun _=>0)⟩
 obtain⟨q,hq⟩:=choose_lt each;rcases h.rP.2 with⟨hv,h0⟩|⟨b,cap,cur,hv,hlo,hg,hnc,_⟩
 ·exact⟨none,0,fun i=>(q i).1.1,fun i=>(q i).1.2,fun i=>(q i).2.1,fun i=>(q i).2.2,by rw[hv,h0],by omega,by omega,.inl h0,fun i hi=>(hq i hi).2⟩
 ·have hr:=h.rP;rw[hv]at hr;refine⟨some ⟨b,0,none⟩,cap,fun i=>(q i).1.1,fun i=>(q i).1.2,fun i=>(q i).2.1,fun i=>(q i).2.2,hv,hnc,by omega,.inr ⟨b,0,rfl,(hr.lt b rfl).2,fun i hi=>?_⟩,fun i hi=>(hq i hi).2⟩;rw[Nat.zero_add,hr.cellAt i (by omega),(hq i hi).1]
theorem pW {LS:List Value} {v:Value} {i:Nat} (h:i<LS.length):(LS++[v])[i]? =LS[i]? :=by rw[List.getElem?_append_left h]
theorem pV {LS:List Value} {v:Value} {i:Nat} (h:i=LS.length):(LS++[v])[i]? =some v:=by subst h;simp
theorem zJ {w:World} {lo:Nat} {e:TypeId} {v:Value} {n:Nat} {LS:List Value} (h:w.ownsRow lo e 1 v n LS):LS.length=n:=by have:=h.1;omega
theorem jX.appL {Y:Nat→Prop} {w1 w5:World} {lo:Nat} {tvL tvP:Value} {g nL:Nat} {L:Nat→List T} {nP:Nat} {Q:Nat→Nat→List T} {LS PS:List Value} (h:jX Y w1 lo tvL tvP g nL L nP Q LS PS) (hY:∀b,Y b→b<w1.heap.size) {a:Option Addr} {c:Nat} {r:List T} (hr:wQ (NB Y tvL tvP) w1 a c r) {g0 cap0:Nat} (hgrow:(w1.alloc (.cells #[.slice a r.length c] 29)).grownBy w5 tvL.ownBlock) (hown:w5.ownsRow lo 29 1 (.slice (some ⟨g0,0,none⟩) (nL+1) cap0) (nL+1) (LS++[.slice a r.length c])) (hat:tvL.ownBlock=some g0∨g0=(w1.alloc (.cells #[.slice a r.length c] 29)).heap.size):jX Y w5 lo (.slice (some ⟨g0,0,none⟩) (nL+1) cap0) tvP g (nL+1) (cU L nL r) nP Q (LS++[.slice a r.length c]) PS:=by
 have b1:=aC w1 (.cells #[.slice a r.length c] 29);have f5:Fr (fun k=>tvL.ownBlock=some k) w1 w5:=((Fr.refl _ w1).next b1).grown hgrow (fun k e _=>e)
 have hg0:tvL.ownBlock=some g0∨g0=w1.heap.size+1:=hat.imp id (fun e=>by rw[e];simp);have ll:=zJ h.rL
 have hs5:=f5.size
 have key:∀b,b<w1.heap.size→NB Y tvL tvP b→NB Y (.slice (some ⟨g0,0,none⟩) (nL+1) cap0) tvP b:=fun b hb nb=>⟨fun q=>by
  have e:g0=b:=by simpa[Value.ownBlock]using q
  rcases hg0 with q'|q'
  ·exact nb.1 (by rw[q',e])
  ·omega,nb.2.1,nb.2.2⟩
 have goL:∀(a:Option Addr) (c:Nat) (X:List T),wQ (NB Y tvL tvP) w1 a c X→wQ (NB Y (.slice (some ⟨g0,0,none⟩) (nL+1) cap0) tvP) w5 a c X:=fun a c X hx=>
  ((hx.mono (N':=fun b=>NB Y tvL tvP b∧b<w1.heap.size) (fun b hb nb=>⟨nb,hb⟩)).fr f5 (fun b nb q=>nb.1.1 q)).mono (fun b _ nb=>key b nb.2 nb.1)
 have goS:∀(a:Option Addr) (c:Nat) (ad:Nat→Option Addr) (cp:Nat→Nat) (X:Nat→List T),oT (NB Y tvL tvP) w1 a g c ad cp X→oT (NB Y (.slice (some ⟨g0,0,none⟩) (nL+1) cap0) tvP) w5 a g c ad cp X:=fun a c ad cp X hx=>
  ((hx.mono (N':=fun b=>NB Y tvL tvP b∧b<w1.heap.size) (fun b hb nb=>⟨nb,hb⟩)).fr f5 (fun b nb q=>nb.1.1 q)).mono (fun b _ nb=>key b nb.2 nb.1)
 refine⟨hown,f5.owns h.rP (fun k hk q=>(h.nL k q).1 hk),fun i hi=>?_,fun i hi=>(h.eP i hi).imp fun a ⟨c,ad,cp,e,hr⟩=>⟨c,ad,cp,e,goS a c ad cp _ hr⟩,fun k hk=>?_,h.nP⟩
 ·by_cases e:i=nL
  ·subst e;refine⟨a,c,?_,?_⟩
   ·rw[pV ll.symm];unfold cU;rw[if_pos rfl]
   ·unfold cU;rw[if_pos rfl];exact goL a c r hr
  ·obtain⟨a',c',e1,hr'⟩:=h.eL i (by omega);refine⟨a',c',?_,?_⟩
   ·rw[pW (by omega),e1];unfold cU;rw[if_neg e]
   ·unfold cU;rw[if_neg e];exact goL a' c' _ hr'
 ·have e:g0=k:=by simpa[Value.ownBlock]using hk
  subst e;rcases hg0 with q|q
  ·exact h.nL g0 q
  ·exact⟨fun q'=>by have:=(h.rP.lt g0 q').2;omega,fun q'=>by have:=hY g0 q';omega⟩
theorem jX.appP {Y:Nat→Prop} {w1 w5:World} {lo:Nat} {tvL tvP:Value} {g nL:Nat} {L:Nat→List T} {nP:Nat} {Q:Nat→Nat→List T} {LS PS:List Value} (h:jX Y w1 lo tvL tvP g nL L nP Q LS PS) (hY:∀b,Y b→b<w1.heap.size) {a:Option Addr} {c:Nat} {ad:Nat→Option Addr} {cp:Nat→Nat} {R:Nat→List T} (hr:oT (NB Y tvL tvP) w1 a g c ad cp R) {g0 cap0:Nat} (hgrow:(w1.alloc (.cells #[.slice a g c] 23)).grownBy w5 tvP.ownBlock) (hown:w5.ownsRow lo 23 1 (.slice (some ⟨g0,0,none⟩) (nP+1) cap0) (nP+1) (PS++[.slice a g c])) (hat:tvP.ownBlock=some g0∨g0=(w1.alloc (.cells #[.slice a g c] 23)).heap.size):jX Y w5 lo tvL (.slice (some ⟨g0,0,none⟩) (nP+1) cap0) g nL L (nP+1) (nD Q nP R) LS (PS++[.slice a g c]):=by
 have b1:=aC w1 (.cells #[.slice a g c] 23);have f5:Fr (fun k=>tvP.ownBlock=some k) w1 w5:=((Fr.refl _ w1).next b1).grown hgrow (fun k e _=>e)
 have hg0:tvP.ownBlock=some g0∨g0=w1.heap.size+1:=hat.imp id (fun e=>by rw[e];simp);have ll:=zJ h.rP
 have key:∀b,b<w1.heap.size→NB Y tvL tvP b→NB Y tvL (.slice (some ⟨g0,0,none⟩) (nP+1) cap0) b:=fun b hb nb=>⟨nb.1,fun q=>by
  have e:g0=b:=by simpa[Value.ownBlock]using q
  rcases hg0 with q'|q'
  ·exact nb.2.1 (by rw[q',e])
  ·omega,nb.2.2⟩
 have goL:∀(a:Option Addr) (c:Nat) (X:List T),wQ (NB Y tvL tvP) w1 a c X→wQ (NB Y tvL (.slice (some ⟨g0,0,none⟩) (nP+1) cap0)) w5 a c X:=fun a c X hx=>
  ((hx.mono (N':=fun b=>NB Y tvL tvP b∧b<w1.heap.size) (fun b hb nb=>⟨nb,hb⟩)).fr f5 (fun b nb q=>nb.1.2.1 q)).mono (fun b _ nb=>key b nb.2 nb.1)
 have goS:∀(a:Option Addr) (c:Nat) (ad:Nat→Option Addr) (cp:Nat→Nat) (X:Nat→List T),oT (NB Y tvL tvP) w1 a g c ad cp X→oT (NB Y tvL (.slice (some ⟨g0,0,none⟩) (nP+1) cap0)) w5 a g c ad cp X:=fun a c ad cp X hx=>
  ((hx.mono (N':=fun b=>NB Y tvL tvP b∧b<w1.heap.size) (fun b hb nb=>⟨nb,hb⟩)).fr f5 (fun b nb q=>nb.1.2.1 q)).mono (fun b _ nb=>key b nb.2 nb.1)
 refine⟨f5.owns h.rL (fun k hk q=>(h.nL k hk).1 q),hown,fun i hi=>(h.eL i hi).imp fun a ⟨c,e,hr⟩=>⟨c,e,goL a c _ hr⟩,fun i hi=>?_,fun k hk=>?_,fun k hk=>?_⟩
 ·by_cases e:i=nP
  ·subst e;refine⟨a,c,ad,cp,?_,?_⟩
   ·rw[pV ll.symm]
   ·unfold nD;rw[if_pos rfl];exact goS a c ad cp R hr
  ·obtain⟨a',c',ad',cp',e1,hr'⟩:=h.eP i (by omega);refine⟨a',c',ad',cp',?_,?_⟩
   ·rw[pW (by omega),e1]
   ·unfold nD;rw[if_neg e];exact goS a' c' ad' cp' _ hr'
 ·refine⟨fun q=>?_,(h.nL k hk).2⟩;have e:g0=k:=by simpa[Value.ownBlock]using q
  subst e;rcases hg0 with q'|q'
  ·exact(h.nL g0 hk).1 q'
  ·have:=(h.rL.lt g0 hk).2;omega
 ·have e:g0=k:=by simpa[Value.ownBlock]using hk
  subst e;rcases hg0 with q|q
  ·exact h.nP g0 q
  ·exact fun q'=>by have:=hY g0 q';omega
theorem DA:(Try.prog.info? 23).map (fun i=>(i.zero,i.size,i.bytes))=some (some (.slice none 0 0),1,24):=by kernel_rfl
def JJ (Y:Nat→Prop) (w:World) (lo:Nat) (tvL tvP:Value) (d:Bool) (g:Nat) (B:Bs) (E:Option Bs) (r:Ending) (w':World):Prop:=
 (E=none∧r= .returned (.tuple #[.agg #[tvL,tvP,.bool d],.bool false])∧Below w.heap.size w w')∨(∃B' tvL' tvP' LS PS,E=some B'∧r= .returned (.tuple #[.agg #[tvL',tvP',.bool d],.bool true])∧Fr (fun k=>tvL.ownBlock=some k∨tvP.ownBlock=some k) w w'∧jX Y w' lo tvL' tvP' g B'.m B'.L B'.m B'.P LS PS)
def cY (w:World) (b:Nat) (v0 v1 v2:Value):Prop:=(w.cell? ⟨b,0,none⟩=some v0∧w.cell? ⟨b,1,none⟩=some v1∧w.cell? ⟨b,2,none⟩=some v2)∧∀j,w.frozen? ⟨b,j,none⟩=false
theorem cY.lt {w:World} {b:Nat} {v0 v1 v2:Value} (h:cY w b v0 v1 v2):b<w.heap.size:=fG w _ h.1.1
theorem cY.fr {P:Nat→Prop} {w w':World} {b:Nat} {v0 v1 v2:Value} (h:cY w b v0 v1 v2) (hf:Fr P w w') (hp:¬P b):cY w' b v0 v1 v2:=
 ⟨⟨(hf.cell h.lt hp).trans h.1.1,(hf.cell h.lt hp).trans h.1.2.1,(hf.cell h.lt hp).trans h.1.2.2⟩,fun j=>(hf.frozen h.lt hp).trans (h.2 j)⟩
theorem cY.below {w w':World} {b:Nat} {v0 v1 v2:Value} (h:cY w b v0 v1 v2) (hb:Below w.heap.size w w'):cY w' b v0 v1 v2:=h.fr (P:=fun _=>False) (eK hb) (fun q=>q)
theorem cY.box (w:World) (y:TypeId) (v0 v1 v2:Value):cY (w.alloc (.cells #[v0,v1,v2] y)) w.heap.size v0 v1 v2:=
 ⟨⟨by rw[World.cell?_alloc_at _ _ _ _ rfl];rfl,by rw[World.cell?_alloc_at _ _ _ _ rfl];rfl,by rw[World.cell?_alloc_at _ _ _ _ rfl];rfl⟩,fun j=>by rw[World.frozen?_alloc_at _ _ _ _ rfl]⟩
abbrev GB (bx:Nat) (lv:Value) (lb x y:Nat) (v1 v2:Value) (u:World):Prop:=u.cell? ⟨bx,0,none⟩=some lv∧u.cell? ⟨lb,x,none⟩=some v1∧u.cell? ⟨lb,y,none⟩=some v2
theorem GB.below {u u':World} {bx:Nat} {lv:Value} {lb x y:Nat} {v1 v2:Value} (h:GB bx lv lb x y v1 v2 u) (hb:Below u.heap.size u u'):GB bx lv lb x y v1 v2 u':=
 ⟨(hb.cell (p:=⟨bx,0,none⟩) (fG u _ h.1)).trans h.1,(hb.cell (p:=⟨lb,x,none⟩) (fG u _ h.2.1)).trans h.2.1,(hb.cell (p:=⟨lb,y,none⟩) (fG u _ h.2.2)).trans h.2.2⟩
abbrev GC (w1:World) (bx:Nat) (lv:Value) (lb x y:Nat) (v1 v2:Value) (u:World):Prop:=Below w1.heap.size w1 u∧u.cell? ⟨bx,0,none⟩=some lv∧u.cell? ⟨lb,x,none⟩=some v1∧u.cell? ⟨lb,y,none⟩=some v2
section
variable {w1 u u':World} {bx:Nat} {lv:Value} {lb x y:Nat} {v1 v2:Value}
theorem oD (hb:Below u.heap.size u u') (h:GC w1 bx lv lb x y v1 v2 u):GC w1 bx lv lb x y v1 v2 u':=⟨h.1.trans (hb.mono h.1.size),GB.below h.2 hb⟩
theorem gR {A:Obj} (h:GC w1 bx lv lb x y v1 v2 u):GC w1 bx lv lb x y v1 v2 (u.alloc A):=oD (aC u A) h
theorem qD (h:GC w1 bx lv lb x y v1 v2 u):GC w1 bx lv lb x y v1 v2 u.drew:=oD (cM _ _).drew h
theorem LA (h0:GC w1 bx lv lb x y v1 v2 w1) (h1:bx<w1.heap.size) (h2:lb<w1.heap.size) (hb:Below w1.heap.size w1 u):GC w1 bx lv lb x y v1 v2 u:=⟨hb,(hb.cell (p:=⟨bx,0,none⟩) h1).trans h0.2.1,(hb.cell (p:=⟨lb,x,none⟩) h2).trans h0.2.2.1,(hb.cell (p:=⟨lb,y,none⟩) h2).trans h0.2.2.2⟩
theorem JK {o:Obj} (h:Below w1.heap.size w1 u):Below w1.heap.size w1 (u.alloc o):=h.alloc h.size o
theorem JL {G o:Nat} {v:Value} (h:Below w1.heap.size w1 u) (hG:w1.heap.size≤G):Below w1.heap.size w1 (u.setCell ⟨G,o,none⟩ v):=h.setCell hG _
end
theorem FP       {w v : World} (hv : Below ((w.alloc (.cells #[.int .i64 0, .int .i64 0, .int .i64 0, .int .i64 0, .int .i64 0] 33)).alloc (.cells #[.int .i64 0, .int .i64 0, .int .i64 0, .int .i64 0, .int .i64 0] 33)).drew.heap.size ((w.alloc (.cells #[.int .i64 0, .int .i64 0, .int .i64 0, .int .i64 0, .int .i64 0] 33)).alloc (.cells #[.int .i64 0, .int .i64 0, .int .i64 0, .int .i64 0, .int .i64 0] 33)).drew v) : bI   v w.heap.size ⟨0, ⟨0, 0, 0, 0⟩⟩ ∧ bI   v (w.heap.size + 1) ⟨0, ⟨0, 0, 0, 0⟩⟩ :=
  ⟨(((bI.box   w 33 ⟨0, ⟨0, 0, 0, 0⟩⟩).below (aC      _ _)).below (cM         _ _).drew).below hv, by
    have := ((bI.box   (w.alloc (.cells #[.int .i64 0, .int .i64 0, .int .i64 0, .int .i64 0, .int .i64 0] 33)) 33 ⟨0, ⟨0, 0, 0, 0⟩⟩).below (cM         _ _).drew).below hv
    rwa [show (w.alloc (.cells #[.int .i64 0, .int .i64 0, .int .i64 0, .int .i64 0, .int .i64 0] 33)).heap.size = w.heap.size + 1 by simp] at this⟩
theorem DV {w v:World} (hv:Below (w.alloc (.cells #[.int .i64 0,.int .i64 0,.int .i64 0,.int .i64 0,.int .i64 0] 33)).drew.heap.size (w.alloc (.cells #[.int .i64 0,.int .i64 0,.int .i64 0,.int .i64 0,.int .i64 0] 33)).drew v):bI v w.heap.size ⟨0,⟨0,0,0,0⟩⟩:=((bI.box w 33 ⟨0,⟨0,0,0,0⟩⟩).below (cM _ _).drew).below hv
theorem FF {o:Int} {g:Nat} {B:Bs} {i k:Nat} {s:List T} (h:FB o (B.L i) (B.L k)=(s,false)):dD o g B i k=none:=by unfold dD;rw[h]
theorem yA {o:Int} {g:Nat} {B:Bs} {i k:Nat} {s:List T} (h:FB o (B.L i) (B.L k)=(s,true)) (hr:dF o s B.m (lN B.L) (fN B.L)=none):dD o g B i k=none:=by unfold dD;rw[h];simp only[hr]
theorem yC {o:Int} {g:Nat} {B:Bs} {i k:Nat} {s:List T} {S:Dv} (h:FB o (B.L i) (B.L k)=(s,true)) (hr:dF o s B.m (lN B.L) (fN B.L)=some S) (h0:S.r.length=0):dD o g B i k=some B:=by unfold dD;rw[h];simp only[hr,if_pos h0]
theorem xX {o:Int} {g:Nat} {B:Bs} {i k:Nat} {s:List T} {S:Dv} (h:FB o (B.L i) (B.L k)=(s,true)) (hr:dF o s B.m (lN B.L) (fN B.L)=some S) (h0:S.r.length≠0) (hm:B.m=12):dD o g B i k=none:=by unfold dD;rw[h];simp only[hr,if_neg h0,if_pos hm]
theorem xZ {o:Int} {g:Nat} {B:Bs} {i k:Nat} {s:List T} {S:Dv} (h:FB o (B.L i) (B.L k)=(s,true)) (hr:dF o s B.m (lN B.L) (fN B.L)=some S) (h0:S.r.length≠0) (hm:B.m≠12) (hd:jU g B.P i k (FC o (B.L i) (B.L k)) (FZ o (B.L i) (B.L k)) B.m S.q=none):dD o g B i k=none:=by unfold dD;rw[h];simp only[hr,if_neg h0,if_neg hm,hd]
theorem xY {o:Int} {g:Nat} {B:Bs} {i k:Nat} {s:List T} {S:Dv} {R:Nat→List T} (h:FB o (B.L i) (B.L k)=(s,true)) (hr:dF o s B.m (lN B.L) (fN B.L)=some S) (h0:S.r.length≠0) (hm:B.m≠12) (hd:jU g B.P i k (FC o (B.L i) (B.L k)) (FZ o (B.L i) (B.L k)) B.m S.q=some R):dD o g B i k=some (GD B S.r R):=by unfold dD;rw[h];simp only[hr,if_neg h0,if_neg hm,hd]
theorem gA {a w:World} {B:Nat} (h:Below a.heap.size a w) (hB:a.heap.size≤B) (u0 u1 u2:Value):Below a.heap.size a (((w.setCell ⟨B,0,none⟩ u0).setCell ⟨B,1,none⟩ u1).setCell ⟨B,2,none⟩ u2):=((h.setCell hB _).setCell hB _).setCell hB _
theorem cY.set0 {w:World} {b:Nat} {v0 v1 v2:Value} (h:cY w b v0 v1 v2) (v:Value):cY (w.setCell ⟨b,0,none⟩ v) b v v1 v2:=⟨⟨tM h.1.1,(iB (LG (by decide))).trans h.1.2.1,(iB (LG (by decide))).trans h.1.2.2⟩,fun j=>(World.frozen?_setCell ..).trans (h.2 j)⟩
theorem cY.set1 {w:World} {b:Nat} {v0 v1 v2:Value} (h:cY w b v0 v1 v2) (v:Value):cY (w.setCell ⟨b,1,none⟩ v) b v0 v v2:=⟨⟨(iB (LG (by decide))).trans h.1.1,tM h.1.2.1,(iB (LG (by decide))).trans h.1.2.2⟩,fun j=>(World.frozen?_setCell ..).trans (h.2 j)⟩
theorem NB.far {Y:Nat→Prop} {tvL tvP:Value} {m:Nat} (h1:∀k,tvL.ownBlock=some k→k<m) (h2:∀k,tvP.ownBlock=some k→k<m) (h3:∀k,Y k→k<m) {b:Nat} (hb:m≤b):NB Y tvL tvP b:=⟨fun e=>by have:=h1 b e;omega,fun e=>by have:=h2 b e;omega,fun e=>by have:=h3 b e;omega⟩
theorem vX {lo hi:Nat} {w:World} {a:Option Addr} {n c:Nat} {ad:Nat→Option Addr} {cp:Nat→Nat} {R:Nat→List T} {Rb:Nat} {B:Nat→Nat} (h:qO lo w a n c ad (lN R) cp (fN R) Rb B) (hhi:w.heap.size≤hi):oT (fun b=>lo≤b∧b<hi) w a n c ad cp R:=by
 refine⟨h.rd,?_,fun j hj=>?_⟩
 ·rcases h.row with h0|⟨off,e,hlo⟩
  ·exact .inl h0
  ·rcases h.rd.2.2.1 with h0|⟨b,off',e',hlt,_⟩
   ·exact .inl h0
   ·refine .inr fun b2 o2 e2=>?_;rw[e]at e2 e';cases e2;cases e';exact⟨hlo,by omega⟩
 ·rcases h.el j hj with h0|⟨off,e,hlo,_⟩
  ·exact .inl h0
  ·rcases(h.rd.2.2.2 j hj).2.2 with h0|⟨b,off',e',hlt,_⟩
   ·exact .inl h0
   ·refine .inr fun b2 o2 e2=>?_;rw[e]at e2 e';cases e2;cases e';exact⟨hlo,by omega⟩
theorem IW {m:Nat} {w:World} {a:Option Addr} {c:Nat} {L:List T} (h:RL w a c L) (hf:∀x,x<m→BZ a L.length x):wQ (fun b=>m≤b) w a c L:=⟨h,by
 by_cases h0:L.length=0
 ·exact .inl h0
 ·refine .inr fun b off e=>?_;by_cases hb:b<m
  ·rcases hf b hb with q|q
   ·exact absurd q h0
   ·exact absurd rfl (q b off e)
  ·omega⟩
structure M8 (Y:Nat→Prop) (w:World) (lo:Nat) (vL vP:Value) (d:Bool) (g:Nat) (B:Bs) (r:List T) (LS PS:List Value) (ya:Option Addr) (yc:Nat) (yad:Nat→Option Addr) (ycp:Nat→Nat) (RW:Nat→List T) (g1 cap1:Nat) (w8:World):Prop where
 box0:cY w8 w.heap.size vL vP (.bool d)
 book:jX Y (w8.setCell ⟨w.heap.size,0,none⟩ (.slice (some ⟨g1,0,none⟩) (B.m+1) cap1)) lo (.slice (some ⟨g1,0,none⟩) (B.m+1) cap1) vP g (B.m+1) (cU B.L B.m r) B.m B.P LS PS
 box:cY (w8.setCell ⟨w.heap.size,0,none⟩ (.slice (some ⟨g1,0,none⟩) (B.m+1) cap1)) w.heap.size (.slice (some ⟨g1,0,none⟩) (B.m+1) cap1) vP (.bool d)
 res:cY (w8.setCell ⟨w.heap.size,0,none⟩ (.slice (some ⟨g1,0,none⟩) (B.m+1) cap1)) (w.heap.size+1) (.slice none 0 0) (.slice none 0 0) (.bool false)
 row:oT (NB Y (.slice (some ⟨g1,0,none⟩) (B.m+1) cap1) vP) (w8.setCell ⟨w.heap.size,0,none⟩ (.slice (some ⟨g1,0,none⟩) (B.m+1) cap1)) ya g yc yad ycp RW
 fr:Fr (fun k=>vL.ownBlock=some k∨vP.ownBlock=some k) w (w8.setCell ⟨w.heap.size,0,none⟩ (.slice (some ⟨g1,0,none⟩) (B.m+1) cap1))
 lo8:w.heap.size≤w8.heap.size
 at1:vL.ownBlock=some g1∨w.heap.size≤g1
theorem M8.news {Y:Nat→Prop} {w:World} {lo:Nat} {vL vP:Value} {d:Bool} {g:Nat} {B:Bs} {r:List T} {LS PS:List Value} {ya:Option Addr} {yc:Nat} {yad:Nat→Option Addr} {ycp:Nat→Nat} {RW:Nat→List T} {g1 cap1:Nat} {w8:World} (h:M8 Y w lo vL vP d g B r LS PS ya yc yad ycp RW g1 cap1 w8):∀j u,[Value.slice ya g yc][j]? =some u→((w8.setCell ⟨w.heap.size,0,none⟩ (.slice (some ⟨g1,0,none⟩) (B.m+1) cap1)).alloc (.cells #[.slice ya g yc] 23)).cell? ((⟨w8.heap.size,0,none⟩:Addr).add j)=some u:=by
 have:=World.news_of_block (heap_alloc_new (w8.setCell ⟨w.heap.size,0,none⟩ (.slice (some ⟨g1,0,none⟩) (B.m+1) cap1)) (.cells #[.slice ya g yc] 23))
 rwa[World.size_setCell]at this
structure M9 (Y:Nat→Prop) (w:World) (lo:Nat) (vL vP:Value) (d:Bool) (g:Nat) (B:Bs) (r:List T) (LS PS:List Value) (RW:Nat→List T) (g1 cap1 g2 cap2:Nat) (w10:World):Prop where
 box0:cY w10 w.heap.size (.slice (some ⟨g1,0,none⟩) (B.m+1) cap1) vP (.bool d)
 res:cY w10 (w.heap.size+1) (.slice none 0 0) (.slice none 0 0) (.bool false)
 book:jX Y w10 lo (.slice (some ⟨g1,0,none⟩) (B.m+1) cap1) (.slice (some ⟨g2,0,none⟩) (B.m+1) cap2) g (B.m+1) (cU B.L B.m r) (B.m+1) (nD B.P B.m RW) LS PS
 fr:Fr (fun k=>vL.ownBlock=some k∨vP.ownBlock=some k) w w10
 at1:vL.ownBlock=some g1∨w.heap.size≤g1
 at2:vP.ownBlock=some g2∨w.heap.size≤g2
theorem M8.next {Y:Nat→Prop} {w:World} {lo:Nat} {vL vP:Value} {d:Bool} {g:Nat} {B:Bs} {r:List T} {LS PS:List Value} {ya:Option Addr} {yc:Nat} {yad:Nat→Option Addr} {ycp:Nat→Nat} {RW:Nat→List T} {g1 cap1:Nat} {w8:World} (h:M8 Y w lo vL vP d g B r LS PS ya yc yad ycp RW g1 cap1 w8) (hYs:∀b,Y b→b<w.heap.size+2) (hY:Y w.heap.size∧Y (w.heap.size+1)) (hlo:lo≤w.heap.size) {g2 cap2:Nat} {w10:World} (ho:w10.ownsRow lo 23 1 (.slice (some ⟨g2,0,none⟩) (B.m+1) cap2) (B.m+1) (PS++[.slice ya g yc])) (hg:((w8.setCell ⟨w.heap.size,0,none⟩ (.slice (some ⟨g1,0,none⟩) (B.m+1) cap1)).alloc (.cells #[.slice ya g yc] 23)).grownBy w10 vP.ownBlock) (ha:vP.ownBlock=some g2∨g2=((w8.setCell ⟨w.heap.size,0,none⟩ (.slice (some ⟨g1,0,none⟩) (B.m+1) cap1)).alloc (.cells #[.slice ya g yc] 23)).heap.size):M9 Y w lo vL vP d g B r LS (PS++[.slice ya g yc]) RW g1 cap1 g2 cap2 w10:=by
 have hb:=h.box.lt;have hr:=h.res.lt
 have f10:=((Fr.refl (fun k=>vP.ownBlock=some k) (w8.setCell ⟨w.heap.size,0,none⟩ (.slice (some ⟨g1,0,none⟩) (B.m+1) cap1))).next (aC _ (.cells #[.slice ya g yc] 23))).grown hg (fun k e _=>e);have nY:∀b,Y b→vP.ownBlock≠some b:=fun b q e=>h.book.nP b e q
 refine⟨h.box.fr f10 (nY _ hY.1),h.res.fr f10 (nY _ hY.2),h.book.appP (fun b q=>?_) h.row hg ho ha,h.fr.trans (f10.mono (fun k _ e=>.inr e)),h.at1,ha.imp id (fun e=>?_)⟩
 ·have:=hYs b q;omega
 ·rw[e,World.size_alloc];have:=h.lo8
  rw[World.size_setCell];omega
theorem M9.fin {Y:Nat→Prop} {w:World} {lo:Nat} {vL vP:Value} {d:Bool} {g:Nat} {B:Bs} {r:List T} {LS PS:List Value} {RW:Nat→List T} {g1 cap1 g2 cap2:Nat} {w10:World} (h:M9 Y w lo vL vP d g B r LS PS RW g1 cap1 g2 cap2 w10) (hY:Y w.heap.size∧Y (w.heap.size+1)) {Y0:Nat→Prop} (hYu:∀b,Y0 b→Y b) {E:Option Bs} (hE:E=some (GD B r RW)) {u0 u1 u2 u3:Value} (hlo:lo≤w.heap.size):JJ Y0 w lo vL vP d g B E (.returned (.tuple #[.agg #[.slice (some ⟨g1,0,none⟩) (B.m+1) cap1,.slice (some ⟨g2,0,none⟩) (B.m+1) cap2,.bool d],.bool true])) ((((w10.setCell ⟨w.heap.size,1,none⟩ u0).setCell ⟨w.heap.size+1,0,none⟩ u1).setCell ⟨w.heap.size+1,1,none⟩ u2).setCell ⟨w.heap.size+1,2,none⟩ u3):=by exact .inr ⟨_,_,_,LS,PS,hE,rfl,(((h.fr.set (fun q=>by omega)).set (fun q=>by omega)).set (fun q=>by omega)).set (fun q=>by omega),(h.book.fr (((((Fr.refl Y w10).set (fun _=>hY.1)).set (fun _=>hY.2)).set (fun _=>hY.2)).set (fun _=>hY.2)) (fun b q=>q)).yet (fun b _ q=>hYu b q)⟩
theorem GX (Y0 : Nat → Prop) (w : World) (hY0 : ∀ b, Y0 b → b < w.heap.size) (lo : Nat) (tvL tvP : Value) (d : Bool) (g : Nat) (hg : g ≤ 12) (B : Bs) (LS PS : List Value) (o : Int) (hB : wR o g B) (h : jX Y0 w lo tvL tvP g B.m B.L B.m B.P LS PS) (i k : Nat) (hi : i < B.m) (hk : k < B.m) (hlo : lo ≤ w.heap.size) : Calls Try.prog 81 #[.int .i64 o, .agg #[tvL, tvP, .bool d], .int .i64 (i : Int), .int .i64 (k : Int)] w (JJ Y0 w lo tvL tvP d g B (dD o g B i k)) := by
  obtain⟨i0,hi0,hz0,hz1,hz2⟩:=info_parts sM
  obtain⟨i1,hi1,hy0,hy1,hy2⟩:=info_parts DA
  have m12:=(aZ hB.l).1
  obtain⟨la,lc,ad,cp,rfl,hRL⟩:=h.readL (by omega)
  obtain⟨pa,pc,A,C,AD,CP,rfl,hRP⟩:=h.readP (by omega)
  have hil:(i:Int)<(B.m:Int):=by omega
  have hkl:(k:Int)<(B.m:Int):=by omega
  have hml:(B.m:Int)≤12:=by omega
  rcases hRL.2.2.1 with h0|⟨lb,off,rfl,hlb,hcl⟩
  · omega
  have HW:=aA h
  have HOK:=aA hB
  have HL0:=aA hRL
  have HP0:=aA hRP
  have HC0:=aA hcl
  obtain⟨vl,hvl⟩:∃v:Value,v= .slice (some ⟨lb,off,none⟩) B.m lc:=⟨_,rfl⟩
  have HBX0:=aA (((cY.box w 71 (.slice (some ⟨lb,off,none⟩) B.m lc) (.slice pa B.m pc) (.bool d)).below (aC _ (.cells #[.slice none 0 0,.slice none 0 0,.bool false] 71))))
  have HRX0:=aA (cY.box (w.alloc (.cells #[.slice (some ⟨lb,off,none⟩) B.m lc,.slice pa B.m pc,.bool d] 71)) 71 (.slice none 0 0) (.slice none 0 0) (.bool false))
  have HBW0:=aA (aS w (.cells #[.slice (some ⟨lb,off,none⟩) B.m lc,.slice pa B.m pc,.bool d] 71) (.cells #[.slice none 0 0,.slice none 0 0,.bool false] 71))
  clear h hB hRL hRP hcl
  go_enter Try.func81,Try.ntmps81
  go_wp2_with fail
  rw[show(w.alloc (.cells #[.slice (some ⟨lb,off,none⟩) B.m lc,.slice pa B.m pc,.bool d] 71)).heap.size=w.heap.size+1 by simp]at HRX0
  generalize(w.alloc (.cells #[.slice (some ⟨lb,off,none⟩) B.m lc,.slice pa B.m pc,.bool d] 71)).alloc (.cells #[.slice none 0 0,.slice none 0 0,.bool false] 71)=w1 at HBX0 HRX0 HBW0⊢
  obtain⟨⟨k0,k1,k2⟩,kz⟩:=HBX0.out
  have HL1:=aA (HL0.out.below HBW0.out)
  have c1:w1.cell? ⟨lb,off+i,none⟩=some (.slice (ad i) (B.L i).length (cp i)):=(HBW0.out.cell (p:=⟨lb,off+i,none⟩) hlb).trans (HC0.out i hi)
  have c2:w1.cell? ⟨lb,off+k,none⟩=some (.slice (ad k) (B.L k).length (cp k)):=(HBW0.out.cell (p:=⟨lb,off+k,none⟩) hlb).trans (HC0.out k hk)
  obtain⟨u,hu⟩:∃u,FC o (B.L i) (B.L k)=u:=⟨_,rfl⟩
  obtain⟨v,hv⟩:∃v,FZ o (B.L i) (B.L k)=v:=⟨_,rfl⟩
  obtain⟨sk,hsk⟩:∃b,dC o (B.L i).length (lf (B.L i)) (B.L k).length (lf (B.L k))=b:=⟨_,rfl⟩
  have hsp:∀W:World,Below w1.heap.size w1 W→Calls Try.prog 33 #[.int .i64 o,.slice (ad i) (B.L i).length (cp i),.slice (ad k) (B.L k).length (cp k)] W fun r w'=>r= .returned (.tuple #[.agg #[.int .i64 u.c,.int .i64 u.m.x,.int .i64 u.m.y,.int .i64 u.m.d,.int .i64 u.m.e],.agg #[.int .i64 v.c,.int .i64 v.m.x,.int .i64 v.m.y,.int .i64 v.m.d,.int .i64 v.m.e],.bool sk])∧Below W.heap.size W w':=fun W hW=>by
    have:=rQ W o (ad i) (B.L i).length (cp i) (lf (B.L i)) (ad k) (B.L k).length (cp k) (lf (B.L k)) ((HL1.out.2.2.2 i hi).below hW) ((HL1.out.2.2.2 k hk).below hW)
    rw[hsk,show cV o (B.L i).length (lf (B.L i)) (B.L k).length (lf (B.L k))=u from hu,show cW o (B.L i).length (lf (B.L i)) (B.L k).length (lf (B.L k))=v from hv]at this
    exact this
  have HSP:=aA hsp
  have HU:=aA hu
  have HV:=aA hv
  clear hsp hu hv hsk hvl
  have hbx:w.heap.size<w1.heap.size:=fG w1 _ k0
  have hlb1:lb<w1.heap.size:=by omega
  have hS0:GC w1 w.heap.size (.slice (some ⟨lb,off,none⟩) B.m lc) lb (off+i) (off+k) (.slice (ad i) (B.L i).length (cp i)) (.slice (ad k) (B.L k).length (cp k)) w1:=⟨cM _ _,k0,c1,c2⟩
  refine Code.wp_mono (Q:=NoPanic fun e a z=>e=Exit.normal∧∃(g10 g11:Nat) (x20 x21 x22 x23 x24 x25 x26 x27 x28 x29 x30 x31 x32 x33 x34 x35:Value),a={tmps:=#[.int .i64 o,.agg #[.slice (some ⟨lb,off,none⟩) B.m lc,.slice pa B.m pc,.bool d],.int .i64 (i:Int),.int .i64 (k:Int),undef,.pointer (some ⟨w.heap.size,0,none⟩),undef,undef,.pointer (some ⟨w.heap.size+1,0,none⟩),.bool false,.pointer (some ⟨g10,0,none⟩),.pointer (some ⟨g11,0,none⟩),.bool sk,undef,undef,undef,undef,undef,undef,undef,x20,x21,x22,x23,x24,x25,x26,x27,x28,x29,x30,x31,x32,x33,x34,x35,undef,undef,undef,undef,undef,undef,undef,undef,undef,undef,undef,undef,undef,undef,undef,undef,undef,undef,undef,undef,undef,undef,undef,undef,undef,undef,undef,undef,undef,undef,undef,undef,undef,undef,undef,undef,undef,undef,undef,undef,undef,undef,undef,undef,undef,undef,undef,undef,undef,undef,undef,undef,undef,undef,undef,undef,undef,undef,undef,undef,undef,undef,undef,undef,undef,undef,undef,undef,undef,undef,undef],defers:=[]}∧C5 z g10 u∧C5 z g11 v∧Below w1.heap.size w1 z) ?_ ?_
  rotate_left
  · go_region_held3 (fun q=>Below w1.heap.size w1 q∧q.cell? ⟨w.heap.size,0,none⟩=some (.slice (some ⟨lb,off,none⟩) B.m lc)∧q.cell? ⟨lb,off+i,none⟩=some (.slice (ad i) (B.L i).length (cp i))∧q.cell? ⟨lb,off+k,none⟩=some (.slice (ad k) (B.L k).length (cp k))) (first|(((with_reducible refine LA hS0 hbx hlb1 ?_);(repeat(first|with_reducible exact HB4.out|with_reducible refine JK ?_|((with_reducible refine JL ?_ ?_);rotate_left;(first|with_reducible exact Nat.le_refl _|with_reducible exact hs4|with_reducible exact Nat.le_succ _|with_reducible exact Nat.le_succ_of_le hs4)))));done)|with_reducible exact hS0|with_reducible exact qD hS0|with_reducible exact gR hS0|with_reducible exact oD hb4 (by assumption)|with_reducible exact qD (gR hS0)|with_reducible exact gR (gR hS0)|with_reducible exact qD (gR (gR hS0))) (first|(go_at_call 33;refine(HSP.out _ ?_).mono ?_;(first|with_reducible exact(cM _ w1).drew|with_reducible exact(aC w1 (.cells #[.int .i64 0,.int .i64 0,.int .i64 0,.int .i64 0,.int .i64 0] 33)).drew|with_reducible exact(aS w1 (.cells #[.int .i64 0,.int .i64 0,.int .i64 0,.int .i64 0,.int .i64 0] 33) (.cells #[.int .i64 0,.int .i64 0,.int .i64 0,.int .i64 0,.int .i64 0] 33)).drew);rintro r w4 ⟨rfl,hb4⟩;(have hB4:Below w1.heap.size w1 w4:=by first|with_reducible exact aB (cM _ w1).drew hb4|with_reducible exact aB (aC w1 (.cells #[.int .i64 0,.int .i64 0,.int .i64 0,.int .i64 0,.int .i64 0] 33)).drew hb4|with_reducible exact aB (aS w1 (.cells #[.int .i64 0,.int .i64 0,.int .i64 0,.int .i64 0,.int .i64 0] 33) (.cells #[.int .i64 0,.int .i64 0,.int .i64 0,.int .i64 0,.int .i64 0] 33)).drew hb4);(try(first|((with_reducible have hz4:=FP (w:=w1) hb4);obtain⟨⟨⟨z0,z1,z2,z3,z4⟩,zf⟩,⟨⟨y0,y1,y2,y3,y4⟩,yf⟩⟩:=hz4;have hl4:w1.heap.size<w4.heap.size:=fG w4 _ z0;have hl5:w1.heap.size+1<w4.heap.size:=fG w4 _ y0)|((with_reducible have hz4:=DV (w:=w1) hb4);obtain⟨⟨z0,z1,z2,z3,z4⟩,zf⟩:=hz4;have hl4:w1.heap.size<w4.heap.size:=fG w4 _ z0;have hn4:w4.heap.size≠w1.heap.size:=Nat.ne_of_gt hl4;have hn5:w1.heap.size≠w4.heap.size:=Nat.ne_of_lt hl4;obtain⟨⟨a0,a1,a2,a3,a4⟩,af⟩:=bI.below (⟨⟨z0,z1,z2,z3,z4⟩,zf⟩:bI w4 w1.heap.size ⟨0,⟨0,0,0,0⟩⟩) (aC w4 (.cells #[.int .i64 0,.int .i64 0,.int .i64 0,.int .i64 0,.int .i64 0] 33));obtain⟨⟨b0,b1,b2,b3,b4⟩,bf⟩:=bI.below (⟨⟨z0,z1,z2,z3,z4⟩,zf⟩:bI w4 w1.heap.size ⟨0,⟨0,0,0,0⟩⟩) (aC w4 (.cells #[.int .i64 u.c,.int .i64 u.m.x,.int .i64 u.m.y,.int .i64 u.m.d,.int .i64 u.m.e] 33)))));have hs4:=hB4.size;have HB4:=aA hB4;clear hB4))
    all_goals(
      refine NoPanic.normal ⟨rfl,_,_,_,_,_,_,_,_,_,_,_,_,_,_,_,_,_,_,rfl,⟨by go_simp,by go_simp,by go_simp,by go_simp,by go_simp⟩,⟨by go_simp,by go_simp,by go_simp,by go_simp,by go_simp⟩,?_⟩
      (repeat(first|with_reducible exact HB4.out|with_reducible refine JK ?_|((with_reducible refine JL ?_ ?_);rotate_left;(first|with_reducible exact Nat.le_refl _|with_reducible exact hs4|with_reducible exact Nat.le_succ _|with_reducible exact Nat.le_succ_of_le hs4)))))
  · rintro e a z hqz
    obtain⟨rfl,g10,g11,x20,x21,x22,x23,x24,x25,x26,x27,x28,x29,x30,x31,x32,x33,x34,x35,rfl,hu5,hv5,hbz⟩:=NoPanic.imp _ _ _ hqz
    have HU5:=aA hu5
    have HV5:=aA hv5
    have dz:Below z.heap.size z z.drew:=(cM _ _).drew
    have HBZ:=aA (aB hbz dz)
    have HSZ:Hid (GB w.heap.size (.slice (some ⟨lb,off,none⟩) B.m lc) lb (off+i) (off+k) (.slice (ad i) (B.L i).length (cp i)) (.slice (ad k) (B.L k).length (cp k)) z.drew):=⟨(HBZ.out.cell (p:=⟨w.heap.size,0,none⟩) hbx).trans k0,(HBZ.out.cell (p:=⟨lb,off+i,none⟩) hlb1).trans c1,(HBZ.out.cell (p:=⟨lb,off+k,none⟩) hlb1).trans c2⟩
    have RA:=aA ((HL1.out.2.2.2 i hi).below HBZ.out)
    have RC:=aA ((HL1.out.2.2.2 k hk).below HBZ.out)
    obtain⟨s,sb,hs⟩:∃s sb,FB o (B.L i) (B.L k)=(s,sb):=⟨_,_,rfl⟩
    have hc:=IZ (w:=z.drew) o (A:=B.L i) (B:=B.L k) RA.out RC.out
    rw[show cE o (lf (B.L i)) (B.L i).length (lf (B.L k)) (B.L k).length=(s,sb)from hs]at hc
    have HC:=aA hc
    have HS:=aA hs
    clear hqz hu5 hv5 hbz dz hc hs k0 k1 k2 kz c1 c2 RA RC
    cases sb
    · have HE:=aA (FF (g:=g) HS.out)
      have hS:=HSZ.out
      go_wp2_with fail
      go_region_held3 (fun q=>GB w.heap.size (.slice (some ⟨lb,off,none⟩) B.m lc) lb (off+i) (off+k) (.slice (ad i) (B.L i).length (cp i)) (.slice (ad k) (B.L k).length (cp k)) q) (first|with_reducible exact hS|with_reducible exact GB.below hS b5) (first|(go_at_call 107;refine HC.out.mono ?_;rintro e w5 ⟨za,zc,rfl,b5,hz⟩))
      have HB5:=aA (aB HBZ.out b5)
      have HBXe:=aA (HBX0.out.below HB5.out)
      have HRXe:=aA (HRX0.out.below HB5.out)
      have HBE:=aA (aB HBW0.out HB5.out)
      clear hS b5 hz HC
      obtain⟨⟨e0,e1,e2⟩,ez⟩:=HBXe.out
      obtain⟨⟨f0,f1,f2⟩,fz⟩:=HRXe.out
      go_wp2
      refine cN (v:=.tuple #[.agg #[.slice (some ⟨lb,off,none⟩) B.m lc,.slice pa B.m pc,.bool d],.bool false]) (by simp[results,Try.results81,go_sem, *]) rfl ?_
      exact .inl ⟨HE.out,rfl,gA HBE.out (Nat.le_succ _) _ _ _⟩
    · have hS:=HSZ.out
      go_wp2_with fail
      go_region_held3 (fun q=>GB w.heap.size (.slice (some ⟨lb,off,none⟩) B.m lc) lb (off+i) (off+k) (.slice (ad i) (B.L i).length (cp i)) (.slice (ad k) (B.L k).length (cp k)) q) (first|with_reducible exact hS|with_reducible exact GB.below hS b5) (first|(go_at_call 107;refine HC.out.mono ?_;rintro e w5 ⟨za,zc,rfl,b5,hz⟩))
      have HZ5:=aA hz
      have HB5:=aA (aB HBZ.out b5)
      have HOKS:=aA (FE HS.out)
      have HU5b:=aA ((HU5.out.below (cM _ _).drew).below b5)
      have HV5b:=aA ((HV5.out.below (cM _ _).drew).below b5)
      have HL5:=aA (HL1.out.below HB5.out)
      have HBX5:=aA (HBX0.out.below HB5.out)
      obtain⟨⟨a0,a1,a2⟩,az⟩:=HBX5.out
      obtain⟨R,hR⟩:∃R,dK o B.m (lN B.L) (fN B.L) 300 (mK s)=R:=⟨_,rfl⟩
      have hcl:=GS w5 o za zc s (some ⟨lb,off,none⟩) B.m lc ad (lN B.L) cp (fN B.L) hz HL5.out HOK.out.ho.1 HOK.out.ho.2 HOKS.out HOK.out.l
      rw[hR]at hcl
      have HCL:=aA hcl
      have HRA:Hid (dF o s B.m (lN B.L) (fN B.L)=R):=(BH HOK.out.ho HOKS.out HOK.out.l).trans hR
      clear hS b5 hz HC hcl hR HU5 HV5
      go_wp2_with fail
      refine HCL.out.mono ?_
      rintro e w6 ⟨b6,h6⟩
      have HB6:=aA (aB HB5.out b6)
      clear a0 a1 a2 az
      rcases h6 with⟨S,qa,qc,adQ,cpQ,ra,rc,rfl,rfl,hq6,hr6,hf6⟩|⟨rfl,qa,qc,ra,rc,rfl⟩
      rotate_left
      · have HE:=aA (yA (g:=g) HS.out HRA.out)
        have HBXe:=aA (HBX0.out.below HB6.out)
        have HRXe:=aA (HRX0.out.below HB6.out)
        have HBE:=aA (aB HBW0.out HB6.out)
        clear b6 HCL
        obtain⟨⟨e0,e1,e2⟩,ez⟩:=HBXe.out
        obtain⟨⟨f0,f1,f2⟩,fz⟩:=HRXe.out
        go_wp2
        refine cN (v:=.tuple #[.agg #[.slice (some ⟨lb,off,none⟩) B.m lc,.slice pa B.m pc,.bool d],.bool false]) (by simp[results,Try.results81,go_sem, *]) rfl ?_
        exact .inl ⟨HE.out,rfl,gA HBE.out (Nat.le_succ _) _ _ _⟩
      have HQ6:=aA hq6
      have HR6:=aA hr6
      have HF6:=aA hf6
      have hS300:S.r.length≤300:=(dT HRA.out).1.r.2
      have HBXe:=aA (HBX0.out.below HB6.out)
      have HRXe:=aA (HRX0.out.below HB6.out)
      have HBE:=aA (aB HBW0.out HB6.out)
      have HU6:=aA (HU5b.out.below b6)
      have HV6:=aA (HV5b.out.below b6)
      have hs56:w5.heap.size≤w6.heap.size:=b6.size
      have hs15:w1.heap.size≤w5.heap.size:=HB5.out.size
      clear b6 HCL hq6 hr6 hf6 HU5b HV5b
      by_cases h0:S.r.length=0
      · have HE:=aA (yC (g:=g) HS.out HRA.out h0)
        have hn0:¬(0:Int)<(S.r.length:Int):=by omega
        have hq0:((S.r.length:Int)==0)=true:=by simpa using h0
        clear h0
        obtain⟨⟨e0,e1,e2⟩,ez⟩:=HBXe.out
        obtain⟨⟨f0,f1,f2⟩,fz⟩:=HRXe.out
        go_wp2
        refine cN (v:=.tuple #[.agg #[.slice (some ⟨lb,off,none⟩) B.m lc,.slice pa B.m pc,.bool d],.bool true]) (by simp[results,Try.results81,go_sem, *]) rfl ?_
        exact .inr ⟨B,_,_,LS,PS,HE.out,rfl,eK (gA HBE.out (Nat.le_succ _) _ _ _),HW.out.below (gA HBE.out (Nat.le_succ _) _ _ _)⟩
      by_cases h12:B.m=12
      · have HE:=aA (xX (g:=g) HS.out HRA.out h0 h12)
        have hn0:(0:Int)<(S.r.length:Int):=by omega
        have hm12:((B.m:Int)==12)=true:=by simp[h12]
        clear h0 h12
        obtain⟨⟨e0,e1,e2⟩,ez⟩:=HBXe.out
        obtain⟨⟨f0,f1,f2⟩,fz⟩:=HRXe.out
        go_wp2
        refine cN (v:=.tuple #[.agg #[.slice (some ⟨lb,off,none⟩) B.m lc,.slice pa B.m pc,.bool d],.bool false]) (by simp[results,Try.results81,go_sem, *]) rfl ?_
        exact .inl ⟨HE.out,rfl,gA HBE.out (Nat.le_succ _) _ _ _⟩
      have hn0:(0:Int)<(S.r.length:Int):=by omega
      have hm12:((B.m:Int)==12)=false:=by simp;omega
      have hq0:((S.r.length:Int)==0)=false:=beq_eq_false_iff_ne.2 (by omega)
      have HH:=aA (And.intro h0 h12)
      have hm11:B.m≤11:=by omega
      clear h0 h12
      obtain⟨⟨gok,gn,gv⟩,gu1,gv1⟩:=nZ HS.out
      have HGU:Hid (u.m.ok=true∧1≤u.c∧u.c≤100):=by rw[←HU.out];exact gu1
      have HGV:Hid (v.m.ok=true∧1≤v.c∧v.c≤100):=by rw[←HV.out];exact gv1
      have HQok:Hid (∀t,t<B.m→bZ (S.q t)=true):=fun t _=>dX (by have:=((dT HRA.out).1.q t).2;omega) ((dT HRA.out).1.q t).1
      obtain⟨E,hE⟩:∃E,jU g B.P i k u v B.m S.q=E:=⟨_,rfl⟩
      have hcm:=GV w6 o g B.m hg m12 (.slice (some ⟨lb,off,none⟩) B.m lc) rfl pa pc d A C AD CP B.P (HP0.out.below HBE.out) HOK.out.p i k hi hk u v HGU.out HGV.out qa qc adQ cpQ S.q HQ6.out HQok.out (some ⟨lb,off,none⟩) lc rfl
      rw[hE]at hcm
      have HCM:=aA hcm
      have HED:Hid (jU g B.P i k (FC o (B.L i) (B.L k)) (FZ o (B.L i) (B.L k)) B.m S.q=E):=by rw[HU.out,HV.out];exact hE
      obtain⟨⟨a0,a1,a2⟩,az⟩:=HBXe.out
      obtain⟨u0,u1,u2,u3,u4⟩:=HU6.out
      obtain⟨v0,v1,v2,v3,v4⟩:=HV6.out
      clear gok gn gv gu1 gv1 hcm hE
      go_wp2_with fail
      refine HCM.out.mono ?_
      rintro e w7 ⟨b7,h7⟩
      have HB7:=aA (aB HB6.out b7)
      have HBX7:=aA (HBXe.out.below b7)
      have HRX7:=aA (HRXe.out.below b7)
      clear a0 a1 a2 az u0 u1 u2 u3 u4 v0 v1 v2 v3 v4 HBXe HRXe
      rcases h7 with⟨RW,ya,yc,yad,ycp,ylo,yRb,yB,rfl,rfl,hylo,hyo⟩|⟨rfl,ya,yc,rfl⟩
      rotate_left
      · have HE:=aA (xZ (g:=g) HS.out HRA.out HH.out.1 HH.out.2 HED.out)
        have HBXe:=HBX7
        have HRXe:=HRX7
        have HBE7:=aA (aB HBE.out b7)
        clear b7 HCM
        obtain⟨⟨e0,e1,e2⟩,ez⟩:=HBXe.out
        obtain⟨⟨f0,f1,f2⟩,fz⟩:=HRXe.out
        go_wp2
        refine cN (v:=.tuple #[.agg #[.slice (some ⟨lb,off,none⟩) B.m lc,.slice pa B.m pc,.bool d],.bool false]) (by simp[results,Try.results81,go_sem, *]) rfl ?_
        exact .inl ⟨HE.out,rfl,gA HBE7.out (Nat.le_succ _) _ _ _⟩
      have HE:=aA (xY (g:=g) HS.out HRA.out HH.out.1 HH.out.2 HED.out)
      have HBE7:=aA (aB HBE.out b7)
      have HR7:=aA (HR6.out.below b7)
      have hs67:w6.heap.size≤w7.heap.size:=b7.size
      obtain⟨Y,hY⟩:∃Y:Nat→Prop,Y=fun b=>Y0 b∨b=w.heap.size∨b=w.heap.size+1:=⟨_,rfl⟩
      have hYs:∀b,Y b→b<w.heap.size+2:=fun b q=>by rw[hY]at q;rcases q with q|q|q<;>(first|(have:=hY0 b q;omega)|omega)
      have hYu:∀b,Y0 b→Y b:=fun b q=>by rw[hY];exact .inl q
      have hY1:Y w.heap.size:=by rw[hY];exact .inr (.inl rfl)
      have hY2:Y (w.heap.size+1):=by rw[hY];exact .inr (.inr rfl)
      have hsw1:w.heap.size+1<w1.heap.size:=HRX0.out.lt
      have HBK:=aA ((HW.out.yet (Y':=Y) (fun b hb q=>by rw[hY]at q;rcases q with q|q|q<;>(first|exact q|omega))).below HBE7.out)
      have HOL:=aA HW.out.rL.lt
      have HOP:=aA HW.out.rP.lt
      have HRL:Hid (wQ (NB Y (.slice (some ⟨lb,off,none⟩) B.m lc) (.slice pa B.m pc)) w7 ra rc S.r):=(IW HR7.out HF6.out).mono (fun b _ hb=>NB.far (m:=w5.heap.size) (fun k e=>by have:=(HOL.out k e).2;omega) (fun k e=>by have:=(HOP.out k e).2;omega) (fun k q=>by have:=hYs k q;omega) hb)
      have HRS:=aA (vX (hi:=w7.heap.size) hyo (Nat.le_refl _))
      have HYL:=aA hylo
      have hmax:B.m+1≤maxLen:=by unfold maxLen;omega
      have hlo7:lo≤w7.heap.size:=by omega
      obtain⟨⟨a0,a1,a2⟩,az⟩:=HBX7.out
      clear b7 hyo hylo HCM hY
      have HYs:=aA hYs
      have HYb:=aA (And.intro hY1 hY2)
      have HYU:=aA hYu
      clear hYs hY1 hY2 hYu
      have hn1:w.heap.size+1≠w.heap.size:=by omega
      have hn2:w.heap.size≠w.heap.size+1:=by omega
      have HNX:Hid (∀(g1 cap1:Nat) (w8:World),w8.ownsRow lo 29 1 (.slice (some ⟨g1,0,none⟩) (B.m+1) cap1) (B.m+1) (LS++[.slice ra S.r.length rc])→(w7.alloc (.cells #[.slice ra S.r.length rc] 29)).grownBy w8 (Value.ownBlock (.slice (some ⟨lb,off,none⟩) B.m lc))→(Value.ownBlock (.slice (some ⟨lb,off,none⟩) B.m lc)=some g1∨g1=(w7.alloc (.cells #[.slice ra S.r.length rc] 29)).heap.size)→
          M8 Y w lo (.slice (some ⟨lb,off,none⟩) B.m lc) (.slice pa B.m pc) d g B S.r (LS++[.slice ra S.r.length rc]) PS ya yc yad ycp RW g1 cap1 w8):=fun g1 cap1 w8 ho hg ha=>by
        have f8:Fr (fun k=>Value.ownBlock (.slice (some ⟨lb,off,none⟩) B.m lc)=some k) w7 w8:=((Fr.refl _ w7).next (aC w7 _)).grown hg (fun k e _=>e)
        have x8:=HBX7.out.fr f8 (fun q=>by have:=(HOL.out _ q).2;omega)
        have r8:=HRX7.out.fr f8 (fun q=>by have:=(HOL.out _ q).2;omega)
        have k8:=HBK.out.appL (fun b q=>by have:=HYs.out b q;omega) HRL.out hg ho ha
        have sY:Fr Y w8 (w8.setCell ⟨w.heap.size,0,none⟩ (.slice (some ⟨g1,0,none⟩) (B.m+1) cap1)):=(Fr.refl Y w8).set (fun _=>HYb.out.1)
        have sB:Fr (fun b=>b=w.heap.size) w8 (w8.setCell ⟨w.heap.size,0,none⟩ (.slice (some ⟨g1,0,none⟩) (B.m+1) cap1)):=(Fr.refl _ w8).set (fun _=>rfl)
        have hs78:=f8.size
        have hg1:Value.ownBlock (.slice (some ⟨lb,off,none⟩) B.m lc)=some g1∨g1=w7.heap.size+1:=ha.imp id (fun e=>by rw[e];simp)
        refine⟨x8,k8.fr sY (fun b q=>q),x8.set0 _,r8.fr sB (fun q=>by omega),?_,((eK HBE7.out).trans (f8.mono (fun k _ e=>.inl e))).set (fun q=>absurd q (Nat.lt_irrefl _)),by omega,hg1.imp id (fun e=>by omega)⟩
        refine((HRS.out.fr f8 (fun b hb q=>by have:=(HOL.out _ q).2;have:=hb.1;have:=HYL.out;omega)).fr sB (fun b hb q=>by have:=hb.1;have:=HYL.out;omega)).mono (fun b _ hb=>⟨fun q=>?_,fun q=>?_,fun q=>?_⟩)
        · have e:g1=b:=by simpa[Value.ownBlock]using q
          have:=hb.1
          have:=hb.2
          have:=HYL.out
          rcases hg1 with q'|q'
          · have:=(HOL.out _ q').2;omega
          · omega
        · have:=(HOP.out _ q).2
          have:=hb.1
          have:=HYL.out
          omega
        · have:=HYs.out _ q
          have:=hb.1
          have:=HYL.out
          omega
      have hsw7:w.heap.size≤w7.heap.size:=HBE7.out.size
      clear HBX0 HRX0 HBW0 HL0 HP0 HC0 HL1 HSP HBZ HSZ HB5 HL5 HBX5 HB6 HBE HU6 HV6 HH HGU HGV HQok HQ6 HR6 HF6 HR7 HED HRA HS HOKS HU HV HB7
      go_wp2_with (first|(at_builtin;refine wpList_append_lies _ rfl (.tmp 95) (.tmp 97) 23 rfl lo 29 i0 _ 1 24 Try.underlying23 hi0 hz0 hz1 hz2 rfl (by omega) _ B.m LS rfl (HBK.out.rL.alloc _) ⟨w7.heap.size,0,none⟩ 1 1 [.slice ra S.r.length rc] rfl rfl (World.news_of_block (heap_alloc_new w7 _)) (gD _ _ _) (by omega) hmax (by omega) (by simp;omega) _ rfl ?_;intro g1 cap1 w8 hown2 hgrow2 hat2 hlt2;have HP8:=aA (HNX.out g1 cap1 w8 hown2 hgrow2 hat2);have HN8:=aA (HP8.out.news);obtain⟨⟨e0,e1,e2⟩,ez⟩:=HP8.out.box0;clear a0 a1 a2 az hown2 hgrow2 hat2 hlt2)|(at_builtin;refine wpList_append_lies _ rfl (.tmp 101) (.tmp 103) 69 rfl lo 23 i1 _ 1 24 Try.underlying69 hi1 hy0 hy1 hy2 rfl (by omega) _ B.m PS rfl (HP8.out.book.rP.alloc _) ⟨w8.heap.size,0,none⟩ 1 1 [.slice ya g yc] rfl rfl HN8.out (gD _ _ _) (by omega) hmax (by omega) (by have:=HP8.out.lo8;simp;omega) _ rfl ?_;intro g2 cap2 w10 hown3 hgrow3 hat3 hlt3;have HP9:=aA (HP8.out.next HYs.out HYb.out (by omega) hown3 hgrow3 hat3);obtain⟨⟨e0,e1,e2⟩,ez⟩:=HP9.out.box0;obtain⟨⟨f0,f1,f2⟩,fz⟩:=HP9.out.res;clear hown3 hgrow3 hat3 hlt3))
      refine cN (v:=.tuple #[.agg #[.slice (some ⟨g1,0,none⟩) (B.m+1) cap1,.slice (some ⟨g2,0,none⟩) (B.m+1) cap2,.bool d],.bool true]) (by simp[results,Try.results81,go_sem, *]) rfl ?_
      exact HP9.out.fin HYb.out HYU.out HE.out (by omega)
end Go.Proofs.Ytbkighpmkadmmaa
namespace Go.Proofs.Ytbkighpmkadmmaa
open Go.RowKit Go.Deep Go.Joins
set_option linter.unusedVariables false
set_option linter.unusedSimpArgs false
theorem AG (b o j:Nat):(⟨b,o,none⟩:Addr).add j=⟨b,o+j,none⟩:=by unfold Addr.add;split<;>simp_all
theorem CA {w:World} {b off cap:Nat} {L:List T} (h:Rd w (some ⟨b,off,none⟩) L.length cap (lf L)):∀j u,(aG L)[j]? =some u→w.cell? ((⟨b,off,none⟩:Addr).add j)=some u:=by
 intro j u hu;have hj:j<L.length*5:=by rw[←aU];exact(List.getElem?_eq_some_iff.1 hu).1
 rw[nK L j hj]at hu;cases hu;rw[AG];rcases h.2.2 with h0|⟨b',off',he,_,hc⟩
 ·omega
 ·cases he;obtain⟨c0,c1,c2,c3,c4⟩:=hc (j / 5) (by omega);have h5:j%5=0∨j%5=1∨j%5=2∨j%5=3∨j%5=4:=by omega
  rcases h5 with h|h|h|h|h
  ·rw[show j=j / 5*5 by omega,cf0];exact c0
  ·rw[show j=j / 5*5+1 by omega,JM,←Nat.add_assoc];exact c1
  ·rw[show j=j / 5*5+2 by omega,JN,←Nat.add_assoc];exact c2
  ·rw[show j=j / 5*5+3 by omega,LO,←Nat.add_assoc];exact c3
  ·rw[show j=j / 5*5+4 by omega,LP,←Nat.add_assoc];exact c4
theorem kB:∀L:List T,∀u∈aG L,u.oneCell'=true
 |[],u,hu=>by simp[aG]at hu
 |t::r,u,hu=>by
  rw[show t::r=[t]++r from rfl,bC]at hu;rcases List.mem_append.1 hu with h|h
  ·exact cC t u h
  ·exact kB r u h
theorem xP (w:World):(w.alloc (.cells #[] 33)).ownsRow w.heap.size 33 5 (.slice (some ⟨w.heap.size,0,none⟩) 0 0) 0 (aG []):=
 ⟨rfl,.inr ⟨w.heap.size,0,#[],rfl,Nat.le_refl _,heap_alloc_new w (.cells #[] 33),Nat.le_refl _,gT _,rfl,rfl⟩⟩
end Go.Proofs.Ytbkighpmkadmmaa
