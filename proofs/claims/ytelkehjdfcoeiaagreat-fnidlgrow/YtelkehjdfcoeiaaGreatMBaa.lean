/-
  What the functions over operators hand back, as lists.
-/
import Derived.Test.YtelkehjdfcoeiaaGreatMbu
set_option maxHeartbeats 4000000
set_option maxRecDepth 100000
namespace Go.Proofs.YtelkehjdfcoeiaaGreat
open Go.RowKit
set_option linter.unusedVariables false
theorem TC {w:World} {X:List T×Bool} {e:Ending} {w':World} (h:∃a' cap',e= .returned (.tuple #[.slice a' X.1.length cap',.bool X.2])∧Below w.heap.size w w'∧jG w.heap.size w' a' cap' X.1):JI w X e w':=by obtain⟨a',c',h1,h2,h3⟩:=h;exact⟨a',c',h1,h2,h3.1⟩
variable {w:World} {a b:Option Addr} {ca cb:Nat} {L K:List T}
end Go.Proofs.YtelkehjdfcoeiaaGreat
namespace Go.Proofs.YtelkehjdfcoeiaaGreat
open Go.RowKit
set_option linter.unusedVariables false
theorem Hz (L:List T) (hL:∀t∈L,t.m.nn) {m:M} (hm:m.nn):uM (Rp aK L) m=mN (dl m) L:=by
 show su L (fun t=>zz t.c*(mo aK t.m).f (Oc m) 0 0)=su L (fun t=>zz t.c*dl m t.m);refine fH (fun t ht=>?_);have:=JN (hL t ht) hm
 unfold uM at this;rw[this]
theorem QG {L:List T} (hL:aL L) {m:M} (hm:m.ok=true):uM (Rp aK L) m=zz (aM L m):=by rw[←ZB hL hm];exact Hz L (fun t ht=>nX (hL.2 t ht).1) (nX hm)
theorem FX {L:List T} (hL:aL L) (h:Rp aK L=Lq.nil):L=[]:=by
 cases L with
 |nil=>rfl
 |cons t r=>
  have ht:=hL.2 t (List.mem_cons_self ..);have h1:=QG hL ht.1
  rw[h,OD,bH]at h1;exact absurd h1.symm (sA ht.2.1 ht.2.2)
theorem Fg (o:Int) (a b:M):pE o a b∨a=b∨pE o b a:=by
 by_cases e:a.x=b.x∧a.y=b.y∧a.d=b.d∧a.e=b.e
 ·exact .inr (.inl (oK e.1 e.2.1 e.2.2.1 e.2.2.2))
 ·unfold pE;generalize kf o a=p;generalize kf o b=q;omega
variable (o:Int) (n:Nat) (L:Nat→List T)
variable {o n L}
theorem sT.cf_top (h:sT o n L) {j:Nat} (hj:j<n) {m:M} (hm:m.nn):uM (Lq.mul (mo aK m) (Rp aK (L j))) (m.sum (eT o L j))=zz (aU o (L j)).c:=by
 have hδ:=jZ hm (h.nn hj);rw[AG,wJ (h.falls hj) (h.mem hj) (fun t ht hne=>?_)]
 ·obtain⟨A,h1,h2⟩:=uC aK h.ho hm (h.nn hj);have e:uM (Lq.mul (mo aK m) (mo aK (eT o L j))) (m.sum (eT o L j))=1:=by rw[h2,rF,h1.cf hδ vT,JN hδ hδ];unfold dl;rw[if_pos (dQ.2 rfl)];decide
  have e':uM (Lq.mul (mo aK m) (mo aK (aU o (L j)).m)) (m.sum (eT o L j))=1:=e;rw[e']
  grind
 ·have h4:=nX ((h.falls hj).2 t ht).1;obtain⟨A,h1,h2⟩:=uC aK h.ho hm h4;have h3:=BH m (h.top hj ht hne)
  have e:uM (Lq.mul (mo aK m) (mo aK t.m)) (m.sum (eT o L j))=0:=by
   rw[h2,rF,h1.cf hδ (fun q=>vT (pF q h3)),JN (jZ hm h4) hδ];unfold dl;rw[if_neg]
   ·decide
   ·intro q;rw[dQ.1 q]at h3;exact vT h3
  rw[e]
  grind
def Tp (o:Int) (n:Nat) (L:Nat→List T) (δ:M) (tp:List (Fq×Nat)):Prop:=∀q∈tp,q.2<n∧M.le (eT o L q.2) δ
theorem Nk {δ δ':M} {tp:List (Fq×Nat)} (h:Tp o n L δ tp) (hd:pE o δ δ'):Lo o n L δ' (tv o L δ tp):=by
 induction tp with
 |nil=>exact Lo.nil
 |cons q r ih=>
  obtain⟨h1,h2⟩:=h q (List.mem_cons_self ..);exact Lo.cons q.1 _ q.2 h1 (kC h2) (by rw[kR];exact hd) (ih (fun s hs=>h s (List.mem_cons_of_mem _ hs)))
def Le (o:Int) (n:Nat) (L:Nat→List T) (δ:M) (A:Lq):Prop:=∃tp B,Tp o n L δ tp∧Lo o n L δ B∧A=Lq.sum (tv o L δ tp) B
theorem Le.lo {δ δ':M} {A:Lq} (h:Le o n L δ A) (hd:pE o δ δ'):Lo o n L δ' A:=by obtain⟨tp,B,h1,h2,rfl⟩:=h;exact(Nk h1 hd).sum (h2.mono (.inl hd))
theorem Lo.max (hL:sT o n L) {δ:M} {A:Lq} (h:Lo o n L δ A):A=Lq.nil∨∃δ',δ'.nn∧pE o δ' δ∧Le o n L δ' A:=by
 induction h with
 |nil=>exact .inl rfl
 |cons c m j h1 h2 h3 h4 ih=>
  have hμ:=jZ h2 (hL.nn h1);have hle:M.le (eT o L j) (m.sum (eT o L j)):=by obtain⟨a1,a2,a3,a4⟩:=h2;unfold M.sum;exact⟨by simp only;omega,by simp only;omega,by simp only;omega,by simp only;omega⟩
  have esub:M.sub (m.sum (eT o L j)) (eT o L j)=m:=by unfold M.sub M.sum;refine oK ?_ ?_ ?_ ?_<;>(simp only;omega)
  right;rcases ih with e|⟨δ',d1,d2,d3⟩
  ·refine⟨_,hμ,h3,[(c,j)],Lq.nil,fun q hq=>?_,Lo.nil,?_⟩
   ·rw[List.mem_singleton.1 hq];exact⟨h1,hle⟩
   ·rw[e];show _=Lq.sum (Lq.sum (Lq.sc c (Lq.mul (mo aK (M.sub (m.sum (eT o L j)) (eT o L j))) (Rp aK (L j)))) Lq.nil) Lq.nil
    rw[esub,Lq.sum_nil,Lq.sum_nil]
  ·rcases Fg o (m.sum (eT o L j)) δ' with q|q|q
   ·obtain⟨tp,B,e1,e2,rfl⟩:=d3;refine⟨δ',d1,d2,tp,Lq.sum (Lq.sc c (Lq.mul (mo aK m) (Rp aK (L j)))) B,e1,Lo.cons c m j h1 h2 q e2,?_⟩;rw[←Lq.sum_assoc,Lq.sum_comm _ (tv o L δ' tp),Lq.sum_assoc]
   ·obtain⟨tp,B,e1,e2,rfl⟩:=d3;refine⟨δ',d1,d2,(c,j)::tp,B,fun z hz=>?_,e2,?_⟩
    ·rcases List.mem_cons.1 hz with rfl|hz
     ·exact⟨h1,by rw[←q];exact hle⟩
     ·exact e1 z hz
    ·show _=Lq.sum (Lq.sum (Lq.sc c (Lq.mul (mo aK (M.sub δ' (eT o L j))) (Rp aK (L j)))) (tv o L δ' tp)) B;rw[←q,esub,Lq.sum_assoc]
   ·refine⟨_,hμ,h3,[(c,j)],_,fun z hz=>?_,d3.lo q,?_⟩
    ·rw[List.mem_singleton.1 hz];exact⟨h1,hle⟩
    ·show _=Lq.sum (Lq.sum (Lq.sc c (Lq.mul (mo aK (M.sub (m.sum (eT o L j)) (eT o L j))) (Rp aK (L j)))) Lq.nil) _;rw[esub,Lq.sum_nil]
theorem BD (c:Fq) (h:c≠0):∃u:Fq,u*c=1:=by
 have key:∀c:Fq,c≠0→∃u:Fq,u*c=1:=by decide+kernel
 exact key c h
def Jm (o:Int) (m:M):Nat×Nat×Nat×Nat×Nat:=((kf o m).toNat,m.d.toNat,m.e.toNat,m.x.toNat,m.y.toNat)
theorem Ij {o:Int} {m:M} (h:m.nn):0≤kf o m:=by
 obtain⟨h1,h2,h3,h4⟩:=h;unfold kf;split
 ·omega
 ·split<;>omega
theorem BM {a b:Nat} (h:a<b):WellFoundedRelation.rel a b:=h
theorem QT {P:M→Prop} (h:∀δ:M,δ.nn→(∀δ':M,δ'.nn→pE o δ' δ→P δ')→P δ):∀δ:M,δ.nn→P δ:=by
 have wf:=(inferInstance:WellFoundedRelation (Nat×Nat×Nat×Nat×Nat)).wf;have key:∀k:Nat×Nat×Nat×Nat×Nat,∀δ:M,δ.nn→Jm o δ=k→P δ:=fun k=>by
  induction k using wf.induction with
  |_ k ih=>
   intro δ hδ hk;refine h δ hδ (fun δ' hn hlt=>ih (Jm o δ') ?_ δ' hn rfl);rw[←hk];have p1:=Ij (o:=o) hδ
   have p2:=Ij (o:=o) hn;obtain⟨q1,q2,q3,q4⟩:=hδ;obtain⟨r1,r2,r3,r4⟩:=hn;unfold pE at hlt;show Prod.Lex _ _ _ _
   unfold Jm;rcases hlt with hlt|⟨e1,hlt⟩
   ·exact Prod.Lex.left _ _ (BM (by omega))
   ·rw[e1];refine Prod.Lex.right _ ?_;show Prod.Lex _ _ _ _
    rcases hlt with hlt|⟨e2,hlt⟩
    ·exact Prod.Lex.left _ _ (BM (by omega))
    ·rw[e2];refine Prod.Lex.right _ ?_;show Prod.Lex _ _ _ _
     rcases hlt with hlt|⟨e3,hlt⟩
     ·exact Prod.Lex.left _ _ (BM (by omega))
     ·rw[e3];refine Prod.Lex.right _ ?_;show Prod.Lex _ _ _ _
      rcases hlt with hlt|⟨e4,hlt⟩
      ·exact Prod.Lex.left _ _ (BM (by omega))
      ·rw[e4];refine Prod.Lex.right _ ?_;exact BM (by omega)
 exact fun δ hδ=>key _ δ hδ rfl
theorem UA (hL:sT o n L) (hP:∀i k,i<k→k<n→wW o n L i k):∀δ:M,δ.nn→∀A,Le o n L δ A→A≠Lq.nil→∃m j,m.nn∧j<n∧M.le (eT o L j) m∧uM A m≠0:=by
 refine QT (o:=o) (P:=fun δ=>∀A,Le o n L δ A→A≠Lq.nil→∃m j,m.nn∧j<n∧M.le (eT o L j) m∧uM A m≠0) (fun δ hδ ih A hA hne=>?_);obtain⟨tp,B,h1,h2,e⟩:=hA;have low:∀A,Lo o n L δ A→A≠Lq.nil→∃m j,m.nn∧j<n∧M.le (eT o L j) m∧uM A m≠0:=fun A hA hne=>by
  rcases hA.max hL with q|⟨δ',d1,d2,d3⟩
  ·exact absurd q hne
  ·exact ih δ' d1 d2 A d3 hne
 have pair':∀i k,i<n→k<n→i≠k→M.le (eT o L i) δ→M.le (eT o L k) δ→∀c:Fq,∃d:Fq,Lo o n L δ (Lq.sum (Lq.sc c (Lq.mul (mo aK (M.sub δ (eT o L i))) (Rp aK (L i)))) (Lq.sc d (Lq.mul (mo aK (M.sub δ (eT o L k))) (Rp aK (L k))))):=fun i k hi hk hik di dk c=>by
  obtain⟨u,hu⟩:=BD (zz (aU o (L i)).c) (sA (hL.good hi).2.1 (hL.good hi).2.2);obtain⟨v,hv⟩:=BD (zz (aU o (L k)).c) (sA (hL.good hk).2.1 (hL.good hk).2.2);rcases Nat.lt_or_gt_of_ne hik with q|q
  ·have:=((hP i k q hk).up hL hi hk di dk hu hv).sc (c*zz (aU o (L i)).c);refine⟨c*zz (aU o (L i)).c*-v,?_⟩;rw[Lq.sc_sum,Lq.sc_sc,Lq.sc_sc]at this
   rwa[show c*zz (aU o (L i)).c*u=c from by grind]at this
  ·have:=((hP k i q hi).up hL hk hi dk di hv hu).sc (-(c*zz (aU o (L i)).c));refine⟨-(c*zz (aU o (L i)).c)*v,?_⟩;rw[Lq.sc_sum,Lq.sc_sc,Lq.sc_sc,Lq.sum_comm]at this
   rwa[show -(c*zz (aU o (L i)).c)*-u=c from by grind]at this
 revert A B
 induction htp:tp.length generalizing tp with
 |zero=>
  intro A hne B h2 e;rw[List.length_eq_zero_iff.1 htp]at e;have:A=B:=by rw[e];show Lq.sum Lq.nil B=B;rw[Lq.sum_comm,Lq.sum_nil]
  subst this;exact low A h2 hne
 |succ N iN=>
  intro A hne B h2 e;match tp,htp,h1,e with
  |[(c,j)],_,h1,e=>
   obtain⟨j1,j2⟩:=h1 (c,j) (List.mem_singleton.2 rfl);by_cases hc:c=0
   ·refine iN [] (fun q hq=>by cases hq) (by have:=‹[(c,j)].length=N+1›;simp at this⊢;omega) A hne B h2 ?_;rw[e,hc];show Lq.sum (Lq.sum (Lq.sc 0 _) Lq.nil) B=Lq.sum Lq.nil B
    rw[Lq.sc_zero,Lq.sum_nil]
   ·refine⟨δ,j,hδ,j1,j2,?_⟩;rw[e];show uM (Lq.sum (Lq.sum (Lq.sc c (Lq.mul (mo aK (M.sub δ (eT o L j))) (Rp aK (L j)))) Lq.nil) B) δ≠0
    rw[Lq.sum_nil,rF,JO,h2.cf0 hL hδ];have h5:=hL.cf_top j1 (kC j2)
    rw[kR]at h5;rw[h5];intro q;have q':c*zz (aU o (L j)).c=0:=by grind
    rcases AQ _ _ q' with q|q
    ·exact hc q
    ·exact sA (hL.good j1).2.1 (hL.good j1).2.2 q
  |(c,j)::(d,k)::r,hlen,h1,e=>
   obtain⟨j1,j2⟩:=h1 (c,j) (List.mem_cons_self ..);obtain⟨k1,k2⟩:=h1 (d,k) (List.mem_cons_of_mem _ (List.mem_cons_self ..));by_cases hjk:j=k
   ·subst hjk;refine iN ((c+d,j)::r) (fun q hq=>?_) (by simpa using hlen) A hne B h2 ?_
    ·rcases List.mem_cons.1 hq with rfl|hq
     ·exact⟨j1,j2⟩
     ·exact h1 q (List.mem_cons_of_mem _ (List.mem_cons_of_mem _ hq))
    ·rw[e];show Lq.sum (Lq.sum (Lq.sc c _) (Lq.sum (Lq.sc d _) (tv o L δ r))) B=Lq.sum (Lq.sum (Lq.sc (c+d) _) (tv o L δ r)) B
     rw[Lq.sc_add];simp only[Lq.sum_assoc]
   ·obtain⟨d',hd'⟩:=pair' j k j1 k1 hjk j2 k2 c;refine iN ((d-d',k)::r) (fun q hq=>?_) (by simpa using hlen) A hne (Lq.sum (Lq.sum (Lq.sc c (Lq.mul (mo aK (M.sub δ (eT o L j))) (Rp aK (L j)))) (Lq.sc d' (Lq.mul (mo aK (M.sub δ (eT o L k))) (Rp aK (L k))))) B) (hd'.sum h2) ?_
    ·rcases List.mem_cons.1 hq with rfl|hq
     ·exact⟨k1,k2⟩
     ·exact h1 q (List.mem_cons_of_mem _ (List.mem_cons_of_mem _ hq))
    ·rw[e];refine Lq.ext fun w p q=>?_;simp only[tv,NL,Cl]
     grind
end Go.Proofs.YtelkehjdfcoeiaaGreat
namespace Go.Proofs.YtelkehjdfcoeiaaGreat
open Go.RowKit Go.Deep Go.Joins
set_option linter.unusedVariables false
inductive eJ (n:Nat) (L:Nat→List T):Lq→Prop
 |nil:eJ n L Lq.nil
 |cons {A:Lq} (c:Fq) (m:M) (j:Nat):j<n→m.nn→eJ n L A→eJ n L (Lq.sum (Lq.sc c (Lq.mul (mo aK m) (Rp aK (L j)))) A)
section
variable {o:Int} {n:Nat} {L:Nat→List T}
theorem eJ.sum {A B:Lq} (h:eJ n L A) (h':eJ n L B):eJ n L (Lq.sum A B):=by
 induction h with
 |nil=>rw[GU];exact h'
 |cons c m j h1 h2 h3 ih=>rw[Lq.sum_assoc];exact eJ.cons c m j h1 h2 ih
theorem eJ.sc {A:Lq} (d:Fq) (h:eJ n L A):eJ n L (Lq.sc d A):=by
 induction h with
 |nil=>rw[Cm];exact eJ.nil
 |cons c m j h1 h2 h3 ih=>rw[Lq.sc_sum,Lq.sc_sc];exact eJ.cons _ m j h1 h2 ih
theorem eJ.one (c:Fq) {m:M} {j:Nat} (h1:j<n) (h2:m.nn):eJ n L (Lq.sc c (Lq.mul (mo aK m) (Rp aK (L j)))):=by
 have:=eJ.cons c m j h1 h2 (eJ.nil (n:=n) (L:=L))
 rwa[Lq.sum_nil]at this
theorem Lo.idl {δ:M} {A:Lq} (h:Lo o n L δ A):eJ n L A:=by
 induction h with
 |nil=>exact eJ.nil
 |cons c m j h1 h2 h3 h4 ih=>exact eJ.cons c m j h1 h2 ih
theorem Lw.idl {μ:M} {A:Lq} {j:Nat} (hj:j<n) (h:Lw aK o μ A):eJ n L (Lq.mul A (Rp aK (L j))):=by
 induction h with
 |nil=>rw[Lq.nil_mul];exact eJ.nil
 |cons c m h1 h2 h3 ih=>rw[Lq.sum_mul,Lq.sc_mul];exact eJ.cons c m j hj h1 ih
theorem eJ.mulMo {A:Lq} (h:eJ n L A) {s:M} (hs:s.nn):eJ n L (Lq.mul (mo aK s) A):=by
 induction h with
 |nil=>rw[Lq.mul_nil];exact eJ.nil
 |cons c m j h1 h2 h3 ih=>
  rw[Lq.mul_sum,Lq.mul_sc,←Lq.mul_assoc];obtain⟨B,hB,e⟩:=uC aK (o:=1) ⟨by omega,by omega⟩ hs h2;rw[e,Lq.sum_mul];refine eJ.sum (eJ.sc c (eJ.sum ?_ (hB.idl h1))) ih;have:=eJ.one (L:=L) 1 h1 (jZ hs h2)
  rwa[Lq.sc_one]at this
theorem eJ.mulRp {A:Lq} (h:eJ n L A):∀q:List T,(∀t∈q,t.m.nn)→eJ n L (Lq.mul (Rp aK q) A)
 |[],_=>by rw[pT,Lq.nil_mul];exact eJ.nil
 |t::r,hq=>by rw[QB,Lq.sum_mul,Lq.sc_mul];exact eJ.sum (eJ.sc _ (h.mulMo (hq t (List.mem_cons_self ..)))) (eJ.mulRp h r (fun s hs=>hq s (List.mem_cons_of_mem _ hs)))
theorem nW {j:Nat} (hj:j<n):eJ n L (Rp aK (L j)):=by
 have:=eJ.one (L:=L) 1 hj (m:=⟨0,0,0,0⟩) ⟨by decide,by decide,by decide,by decide⟩
 rwa[Lq.sc_one,GR]at this
theorem eJ.trans {n':Nat} {L':Nat→List T} (hg:∀j,j<n→eJ n' L' (Rp aK (L j))) {A:Lq} (h:eJ n L A):eJ n' L' A:=by
 induction h with
 |nil=>exact eJ.nil
 |cons c m j h1 h2 h3 ih=>exact eJ.sum (eJ.sc c ((hg j h1).mulMo h2)) ih
theorem AP {q:List T} (h:aL q):∀t∈q,t.m.nn:=fun t ht=>nX (h.2 t ht).1
theorem eJ.sumN {f:Nat→Lq}:∀k,(∀i,i<k→eJ n L (f i))→eJ n L (Lq.sumN f k)
 |0,_=>eJ.nil
 |k+1,h=>eJ.sum (eJ.sumN k (fun i hi=>h i (by omega))) (h k (by omega))
theorem eJ.qsum {q:Nat→List T} (hq:∀i,i<n→aL (q i)):eJ n L (qsum aK n L q):=eJ.sumN n fun i hi=>(nW hi).mulRp _ (AP (hq i hi))
theorem YT (o:Int) {a b:M} (hb:b.nn):pE o a ((a.sum b).sum ⟨1,0,0,0⟩):=by
 obtain⟨h1,h2,h3,h4⟩:=hb;unfold pE kf M.sum;simp only;by_cases o1:o=1
 ·simp only[if_pos o1];omega
 ·by_cases o3:o=3
  ·simp only[if_neg o1,if_pos o3];omega
  ·simp only[if_neg o1,if_neg o3];refine Or.inr ⟨trivial,?_⟩;by_cases q1:b.d=0
   ·refine Or.inr ⟨by omega,?_⟩;by_cases q2:b.e=0
    ·exact Or.inr ⟨by omega,Or.inl (by omega)⟩
    ·exact Or.inl (by omega)
   ·exact Or.inl (by omega)
theorem eJ.lo (hL:sT o n L) {A:Lq} (h:eJ n L A):∃δ:M,δ.nn∧Lo o n L δ A:=by
 induction h with
 |nil=>exact⟨⟨0,0,0,0⟩,⟨by decide,by decide,by decide,by decide⟩,Lo.nil⟩
 |cons c m j h1 h2 h3 ih=>
  obtain⟨δ,d1,d2⟩:=ih;have hμ:=jZ h2 (hL.nn h1)
  refine⟨((m.sum (eT o L j)).sum δ).sum ⟨1,0,0,0⟩,jZ (jZ hμ d1) ⟨by decide,by decide,by decide,by decide⟩,Lo.cons c m j h1 h2 (YT o d1) (d2.mono (.inl ?_))⟩;rw[M.sum_comm (m.sum (eT o L j)) δ];exact YT o hμ
theorem eJ.le (hL:sT o n L) {A:Lq} (h:eJ n L A):A=Lq.nil∨∃δ:M,δ.nn∧Le o n L δ A:=by
 obtain⟨δ,_,h2⟩:=h.lo hL;rcases h2.max hL with q|⟨δ',d1,_,d3⟩
 ·exact .inl q
 ·exact .inr ⟨δ',d1,d3⟩
def WT (o:Int) (n:Nat) (L:Nat→List T):Prop:=∀A,eJ n L A→A≠Lq.nil→∃m j,m.nn∧j<n∧M.le (eT o L j) m∧uM A m≠0
theorem It (hL:sT o n L) (hP:∀i k,i<k→k<n→wW o n L i k):WT o n L:=fun A hA hne=>by
 rcases hA.le hL with q|⟨δ,d1,d2⟩
 ·exact absurd q hne
 ·exact UA hL hP δ d1 A d2 hne
theorem RD (φ:M→Fq):∀r:List T,mN φ r≠0→∃t∈r,φ t.m≠0
 |[],h=>absurd rfl h
 |t::r,h=>by
  by_cases e:φ t.m=0
  ·have h':mN φ r≠0:=fun q=>h (by show zz t.c*φ t.m+mN φ r=0;rw[e,q];grind);obtain⟨s,hs,hh⟩:=RD φ r h';exact⟨s,List.mem_cons_of_mem _ hs,hh⟩
  ·exact⟨t,List.mem_cons_self ..,e⟩
theorem XS {r:List T} (hr:aL r) {m:M} (hm:m.nn) (h:uM (Rp aK r) m≠0):∃t∈r,t.m=m:=by
 rw[Hz r (AP hr) hm]at h;obtain⟨t,ht,hh⟩:=RD _ r h;refine⟨t,ht,?_⟩;unfold dl at hh;by_cases e:eF m t.m=true
 ·exact(dQ.1 e).symm
 ·rw[if_neg e]at hh;exact absurd rfl hh
theorem YA {a b:M} (ha:a.ok=true) (hb:b.ok=true) (h:M.le a b):M.dvd a b=true:=by unfold M.dvd;rw[ha,hb];exact decide_eq_true h
theorem WT.free (hB:WT o n L) (hL:sT o n L) {r:List T} (hr:aL r) (hi:eJ n L (Rp aK r)) (hf:∀t∈r,∀i,i<n→M.dvd (aU o (L i)).m t.m=false):r=[]:=by
 by_cases h0:r=[]
 ·exact h0
 ·obtain⟨m,j,h1,h2,h3,h4⟩:=hB _ hi (fun e=>h0 (FX hr e));obtain⟨t,ht,e⟩:=XS hr h1 h4;have:=hf t ht j h2
  rw[YA (hL.good h2).1 (hr.2 t ht).1 (by rw[e];exact h3)]at this;cases this
theorem CD {p:List T} {S:Dv} (h:aY o p n (lN L) (fN L)=some S):eJ n L (qsum aK n L S.q):=eJ.qsum fun i _=>((cU h).1.q i).1
theorem WT.left (hB:WT o n L) {p:List T} {S:Dv} (h:aY o p n (lN L) (fN L)=some S) (hi:eJ n L (Rp aK p)):S.r=[]:=by obtain⟨ho,_,hl,_⟩:=iZ h;refine hB.free (nE ho hl) (cU h).1.r.1 ?_ (CE h);rw[zF h];exact hi.sum ((CD h).sc _)
end
end Go.Proofs.YtelkehjdfcoeiaaGreat
namespace Go.Proofs.YtelkehjdfcoeiaaGreat
open Go.RowKit Go.Deep Go.Joins
set_option linter.unusedVariables false
section
variable {o:Int} {n:Nat} {L:Nat→List T}
def Dy (o:Int) (n:Nat) (L:Nat→List T) (A:Lq):Prop:=∃m j,m.nn∧j<n∧M.le (eT o L j) m∧uM A m≠0∧∀m',m'.nn→pE o m m'→uM A m'=0
theorem OC (hL:sT o n L) (hP:∀i k,i<k→k<n→wW o n L i k):∀δ:M,δ.nn→∀A,Le o n L δ A→A≠Lq.nil→Dy o n L A:=by
 refine QT (o:=o) (P:=fun δ=>∀A,Le o n L δ A→A≠Lq.nil→Dy o n L A) (fun δ hδ ih A hA hne=>?_);obtain⟨tp,B,h1,h2,e⟩:=hA;have low:∀A,Lo o n L δ A→A≠Lq.nil→Dy o n L A:=fun A hA hne=>by
  rcases hA.max hL with q|⟨δ',d1,d2,d3⟩
  ·exact absurd q hne
  ·exact ih δ' d1 d2 A d3 hne
 have pair':∀i k,i<n→k<n→i≠k→M.le (eT o L i) δ→M.le (eT o L k) δ→∀c:Fq,∃d:Fq,Lo o n L δ (Lq.sum (Lq.sc c (Lq.mul (mo aK (M.sub δ (eT o L i))) (Rp aK (L i)))) (Lq.sc d (Lq.mul (mo aK (M.sub δ (eT o L k))) (Rp aK (L k))))):=fun i k hi hk hik di dk c=>by
  obtain⟨u,hu⟩:=BD (zz (aU o (L i)).c) (sA (hL.good hi).2.1 (hL.good hi).2.2);obtain⟨v,hv⟩:=BD (zz (aU o (L k)).c) (sA (hL.good hk).2.1 (hL.good hk).2.2);rcases Nat.lt_or_gt_of_ne hik with q|q
  ·have:=((hP i k q hk).up hL hi hk di dk hu hv).sc (c*zz (aU o (L i)).c);refine⟨c*zz (aU o (L i)).c*-v,?_⟩;rw[Lq.sc_sum,Lq.sc_sc,Lq.sc_sc]at this
   rwa[show c*zz (aU o (L i)).c*u=c from by grind]at this
  ·have:=((hP k i q hi).up hL hk hi dk di hv hu).sc (-(c*zz (aU o (L i)).c));refine⟨-(c*zz (aU o (L i)).c)*v,?_⟩;rw[Lq.sc_sum,Lq.sc_sc,Lq.sc_sc,Lq.sum_comm]at this
   rwa[show -(c*zz (aU o (L i)).c)*-u=c from by grind]at this
 revert A B
 induction htp:tp.length generalizing tp with
 |zero=>
  intro A hne B h2 e;rw[List.length_eq_zero_iff.1 htp]at e;have:A=B:=by rw[e];show Lq.sum Lq.nil B=B;rw[Lq.sum_comm,Lq.sum_nil]
  subst this;exact low A h2 hne
 |succ N iN=>
  intro A hne B h2 e;match tp,htp,h1,e with
  |[(c,j)],_,h1,e=>
   obtain⟨j1,j2⟩:=h1 (c,j) (List.mem_singleton.2 rfl);by_cases hc:c=0
   ·refine iN [] (fun q hq=>by cases hq) (by have:=‹[(c,j)].length=N+1›;simp at this⊢;omega) A hne B h2 ?_;rw[e,hc];show Lq.sum (Lq.sum (Lq.sc 0 _) Lq.nil) B=Lq.sum Lq.nil B
    rw[Lq.sc_zero,Lq.sum_nil]
   ·refine⟨δ,j,hδ,j1,j2,?_,fun m' hm' hlt=>?_⟩
    ·rw[e];show uM (Lq.sum (Lq.sum (Lq.sc c (Lq.mul (mo aK (M.sub δ (eT o L j))) (Rp aK (L j)))) Lq.nil) B) δ≠0
     rw[Lq.sum_nil,rF,JO,h2.cf0 hL hδ];have h5:=hL.cf_top j1 (kC j2)
     rw[kR]at h5;rw[h5];intro q;have q':c*zz (aU o (L j)).c=0:=by grind
     rcases AQ _ _ q' with q|q
     ·exact hc q
     ·exact sA (hL.good j1).2.1 (hL.good j1).2.2 q
    ·rw[e];show uM (Lq.sum (Lq.sum (Lq.sc c (Lq.mul (mo aK (M.sub δ (eT o L j))) (Rp aK (L j)))) Lq.nil) B) m'=0
     rw[Lq.sum_nil,rF,JO,(h2.mono (.inl hlt)).cf0 hL hm',hL.cf_off j1 (kC j2) hm' (by rw[kR];exact hlt)]
     grind
  |(c,j)::(d,k)::r,hlen,h1,e=>
   obtain⟨j1,j2⟩:=h1 (c,j) (List.mem_cons_self ..);obtain⟨k1,k2⟩:=h1 (d,k) (List.mem_cons_of_mem _ (List.mem_cons_self ..));by_cases hjk:j=k
   ·subst hjk;refine iN ((c+d,j)::r) (fun q hq=>?_) (by simpa using hlen) A hne B h2 ?_
    ·rcases List.mem_cons.1 hq with rfl|hq
     ·exact⟨j1,j2⟩
     ·exact h1 q (List.mem_cons_of_mem _ (List.mem_cons_of_mem _ hq))
    ·rw[e];show Lq.sum (Lq.sum (Lq.sc c _) (Lq.sum (Lq.sc d _) (tv o L δ r))) B=Lq.sum (Lq.sum (Lq.sc (c+d) _) (tv o L δ r)) B
     rw[Lq.sc_add];simp only[Lq.sum_assoc]
   ·obtain⟨d',hd'⟩:=pair' j k j1 k1 hjk j2 k2 c;refine iN ((d-d',k)::r) (fun q hq=>?_) (by simpa using hlen) A hne (Lq.sum (Lq.sum (Lq.sc c (Lq.mul (mo aK (M.sub δ (eT o L j))) (Rp aK (L j)))) (Lq.sc d' (Lq.mul (mo aK (M.sub δ (eT o L k))) (Rp aK (L k))))) B) (hd'.sum h2) ?_
    ·rcases List.mem_cons.1 hq with rfl|hq
     ·exact⟨k1,k2⟩
     ·exact h1 q (List.mem_cons_of_mem _ (List.mem_cons_of_mem _ hq))
    ·rw[e];refine Lq.ext fun w p q=>?_;simp only[tv,NL,Cl]
     grind
def zU (o:Int) (n:Nat) (L:Nat→List T):Prop:=∀A,eJ n L A→A≠Lq.nil→Dy o n L A
theorem Ed (hL:sT o n L) (hP:∀i k,i<k→k<n→wW o n L i k):zU o n L:=fun A hA hne=>by
 rcases hA.le hL with q|⟨δ,d1,d2⟩
 ·exact absurd q hne
 ·exact OC hL hP δ d1 A d2 hne
theorem zU.bas (h:zU o n L):WT o n L:=fun A hA hne=>by
 obtain⟨m,j,h1,h2,h3,h4,_⟩:=h A hA hne;exact⟨m,j,h1,h2,h3,h4⟩
theorem Jp {p:List T} (ho:1≤o∧o≤3) (hp:cF p=true) (h0:p.length≠0) {t:T} (ht:t∈p):t.m=(aU o p).m∨pE o t.m (aU o p).m:=by
 have h1:=oD ho hp h0 t ht;have f:=(aD hp).2
 have h2:=(f.2 t ht).1;have h3:=(dJ (o:=o) f h0).1
 rcases Int.lt_or_eq_of_le h1 with q|q
 ·exact .inr (zO ho h2 h3 q)
 ·exact .inl (jE _ _ h2 h3 q)
theorem zU.lead (h:zU o n L) (hL:sT o n L) {p:List T} (hp:cF p=true) (h0:p.length≠0) (hi:eJ n L (Rp aK p)):∃j,j<n∧M.dvd (eT o L j) (aU o p).m=true:=by
 have f:=(aD hp).2;obtain⟨m,j,h1,h2,h3,h4,h5⟩:=h _ hi (fun e=>h0 (by rw[FX f e];rfl));obtain⟨t,ht,e⟩:=XS f h1 h4;have hm:=gJ (o:=o) h0
 have hg:=dJ (o:=o) f h0;refine⟨j,h2,?_⟩;rcases Jp hL.ho hp h0 ht with q|q
 ·rw[←q,e];exact YA (hL.good h2).1 (by rw[←e];exact(f.2 t ht).1) h3
 ·rw[e]at q;have h6:=h5 _ (nX hg.1) q
  rw[QG f hg.1,(eN f hm).1]at h6;exact absurd h6 (sA hg.2.1 hg.2.2)
end
end Go.Proofs.YtelkehjdfcoeiaaGreat
namespace Go.Proofs.YtelkehjdfcoeiaaGreat
open Go.RowKit Go.Deep Go.Joins
set_option linter.unusedVariables false
theorem YB {o:Int} {a b:M} (h:M.dvd a b=true):eO o a≤eO o b:=by
 obtain⟨h1,h2,x,y,d,e⟩:=eX h;have:=M.ok_iff.1 h1
 have:=M.ok_iff.1 h2;unfold eO fI wT iB;split
 ·omega
 ·split<;>omega
theorem xF {a b c:M} (h1:M.dvd a b=true) (h2:M.dvd b c=true):M.dvd a c=true:=by obtain⟨a1,b1,x1,y1,d1,e1⟩:=eX h1;obtain⟨_,c1,x2,y2,d2,e2⟩:=eX h2;exact uP a1 c1 ⟨by omega,by omega,by omega,by omega⟩
theorem En {a b:M} (h1:M.dvd a b=true) (h2:M.dvd b a=true):a=b:=by obtain⟨a1,b1,x1,y1,d1,e1⟩:=eX h1;obtain⟨_,c1,x2,y2,d2,e2⟩:=eX h2;exact oK (by omega) (by omega) (by omega) (by omega)
def wV (n:Nat) (L:Nat→List T) (l:List (List T)):Prop:=∀p∈l,eJ n L (Rp aK p)
theorem wV.lof {n:Nat} {L:Nat→List T} {l:List (List T)} (h:wV n L l) {A:Lq} (hA:eJ l.length (bY l) A):eJ n L A:=hA.trans fun j hj=>h _ (eE hj)
theorem VG {o:Int} {n:Nat} {L:Nat→List T} {p:List T} {oth:List (List T)} {Y:List T} (h:pI o p oth=some Y) (hp:eJ n L (Rp aK p)) (ho:wV n L oth):eJ n L (Rp aK Y):=by
 unfold pI at h;split at h
 ·rename_i S hS;split at h
  ·cases h
  ·rename_i hr0;cases h;obtain⟨_,_,e⟩:=zJ (o:=o) (jX hS).1 hr0;rw[e,yC,zF hS];exact eJ.sc _ (hp.sum (eJ.sc _ (ho.lof (CD hS))))
 ·cases h
theorem yP {o:Int} {n:Nat} {L:Nat→List T}:∀{u i:Nat} {l l':List (List T)},i+u=l.length→wV n L l→iF o u i l=some l'→wV n L l'
 |0,i,l,l',hu,h,hr=>by have hr':some l=some l':=hr;cases hr';exact h
 |u+1,i,l,l',hu,h,hr=>by
  cases hY:pI o (bY l i) (gD l i)with
  |none=>rw[mO hY]at hr;cases hr
  |some Y=>
   rw[nG hY]at hr;have hil:i<l.length:=by omega
   refine yP (by rw[CB hil];omega) (fun p hp=>?_) hr;rcases LX hp with rfl|hp
   ·exact VG hY (h _ (eE hil)) (fun q hq=>h _ (LI hq))
   ·exact h p hp
theorem iM {o:Int} {n:Nat} {L:Nat→List T} {l:List (List T)} (h:aT o n L=some l):wV n L l:=by
 obtain⟨_,_,hr⟩:=dP h;refine yP (Nat.zero_add _) (fun p hp=>?_) hr;rcases rV.1 hp with h1|h1
 ·cases h1
 ·obtain⟨i,hi,_,rfl⟩:=rT h1;exact nW hi
def XW (m:M):Nat:=(m.x+m.y+m.d+m.e).toNat
theorem VL {k:Nat→M} {n:Nat} (hk:∀j,j<n→(k j).ok=true):∀N j:Nat,j<n→XW (k j)*n+j=N→∃i,i<n∧jR k n i=true∧M.dvd (k i) (k j)=true:=by
 intro N;induction N using Nat.strongRecOn with
 |_ N ih=>
  intro j hj hN;by_cases hn:jR k n j=true
  ·exact⟨j,hj,hn,JU (hk j hj)⟩
  ·have hex:∃t,t<n∧(t≠j∧M.dvd (k t) (k j)=true∧(eF (k t) (k j)=false∨t<j)):=by refine Classical.byContradiction fun hno=>hn (decide_eq_true fun t ht hh=>hno ⟨t,ht,hh⟩)
   obtain⟨t,ht,h1,h2,h3⟩:=hex;obtain⟨a1,b1,x1,y1,d1,e1⟩:=eX h2;have oa:=M.ok_iff.1 a1
   have ob:=M.ok_iff.1 b1;have hlt:XW (k t)*n+t<N:=by
    rw[←hN];by_cases e:k t=k j
    ·rw[e];have:t<j:=by
      rcases h3 with q|q
      ·rw[dQ.2 e]at q;cases q
      ·exact q
     omega
    ·have hd:XW (k t)+1≤XW (k j):=by
      unfold XW;rcases Nat.lt_or_ge ((k t).x+(k t).y+(k t).d+(k t).e).toNat ((k j).x+(k j).y+(k j).d+(k j).e).toNat with q|q
      ·exact q
      ·exact absurd (oK (by omega) (by omega) (by omega) (by omega)) e
     have:=Nat.mul_le_mul_right n hd;rw[Nat.add_mul,Nat.one_mul]at this;omega
   obtain⟨i,hi,h4,h5⟩:=ih _ hlt t ht rfl;exact⟨i,hi,h4,xF h5 h2⟩
theorem MV {α:Type} {nd:Nat→Bool} {f:Nat→α} {i:Nat} (hn:nd i=true):∀{n},i<n→f i∈gS nd f n
 |0,h=>by omega
 |n+1,h=>by
  unfold gS;by_cases e:i=n
  ·subst e;rw[if_pos hn];exact List.mem_append_right _ (List.mem_singleton.2 rfl)
  ·have:=MV (f:=f) hn (n:=n) (by omega);split
   ·exact List.mem_append_left _ this
   ·exact this
theorem gL {o:Int} {n:Nat} {L:Nat→List T} {l:List (List T)} (h:aT o n L=some l) {j:Nat} (hj:j<n):∃k,k<l.length∧M.dvd (nF o (bY l k)) (eT o L j)=true:=by
 obtain⟨ho,hl,hr⟩:=dP h;have hs:=vJ h
 obtain⟨i,hi,h1,h2⟩:=VL (k:=fun i=>(aU o (L i)).m) (n:=n) (fun j hj=>kS (o:=o) ⟨((aQ hl).2 j hj).2,((aQ hl).2 j hj).1⟩) _ j hj rfl;have hm:L i∈cH o n L:=rV.2 (.inr (MV h1 hi))
 obtain⟨k,hk,e⟩:=List.mem_iff_getElem.1 hm;refine⟨k,by rw[hs.len];exact hk,?_⟩
 rw[hs.lead k hk,show bY (cH o n L) k=L i by
  show(cH o n L).getD k []=_
  rw[List.getD_eq_getElem?_getD,List.getElem?_eq_getElem hk];exact e]
 exact h2
theorem KW:∀{a b:List Int},a.Pairwise (· <·)→b.Pairwise (· <·)→(∀x,x∈a↔x∈b)→a=b
 |[],[],_,_,_=>rfl
 |[],y::b,_,_,h=>by have:=(h y).2 (List.mem_cons_self ..);cases this
 |x::a,[],_,_,h=>by have:=(h x).1 (List.mem_cons_self ..);cases this
 |x::a,y::b,ha,hb,h=>by
  obtain⟨a1,a2⟩:=List.pairwise_cons.1 ha;obtain⟨b1,b2⟩:=List.pairwise_cons.1 hb;have e:x=y:=by
   rcases List.mem_cons.1 ((h x).1 (List.mem_cons_self ..))with q|q
   ·exact q
   ·rcases List.mem_cons.1 ((h y).2 (List.mem_cons_self ..))with q'|q'
    ·exact q'.symm
    ·have:=a1 _ q';have:=b1 _ q;omega
  subst e;rw[KW a2 b2 (fun z=>⟨fun hz=>?_,fun hz=>?_⟩)]
  ·rcases List.mem_cons.1 ((h z).1 (List.mem_cons_of_mem _ hz))with q|q
   ·have:=a1 _ hz;omega
   ·exact q
  ·rcases List.mem_cons.1 ((h z).2 (List.mem_cons_of_mem _ hz))with q|q
   ·have:=b1 _ hz;omega
   ·exact q
theorem yO {o:Int} {n n':Nat} {L L':Nat→List T} {l l':List (List T)} (hB:zU o n L) (hB':zU o n' L') (h:aT o n L=some l) (h':aT o n' L'=some l') (h1:∀j,j<n→eJ n' L' (Rp aK (L j))) (h2:∀j,j<n'→eJ n L (Rp aK (L' j))) {k:Nat} (hk:k<l.length):∃i,i<l'.length∧nF o (bY l' i)=nF o (bY l k):=by
 have hL:=gM h;have hL':=gM h'
 obtain⟨ho,hl,_⟩:=dP h;obtain⟨_,hl',_⟩:=dP h';have up:∀{k},k<l.length→∃i,i<l'.length∧M.dvd (nF o (bY l' i)) (nF o (bY l k))=true:=fun{k} hk=>by have hp:=hL.ok _ (eE hk);obtain⟨j,hj,hd⟩:=hB'.lead (nE ho hl') hp.1 hp.2 ((iM h _ (eE hk)).trans h1);obtain⟨i,hi,hd'⟩:=gL h' hj;exact⟨i,hi,xF hd' hd⟩
 have dn:∀{i},i<l'.length→∃k,k<l.length∧M.dvd (nF o (bY l k)) (nF o (bY l' i))=true:=fun{i} hi=>by have hp:=hL'.ok _ (eE hi);obtain⟨j,hj,hd⟩:=hB.lead (nE ho hl) hp.1 hp.2 ((iM h' _ (eE hi)).trans h2);obtain⟨k,hk,hd'⟩:=gL h hj;exact⟨k,hk,xF hd' hd⟩
 obtain⟨i,hi,d1⟩:=up hk;obtain⟨k',hk',d2⟩:=dn hi;have e:k'=k:=by
  rcases Classical.em (k'=k)with q|q
  ·exact q
  ·have:=hL.anti k' k hk' hk q;rw[xF d2 d1]at this;cases this
 rw[e]at d2;exact⟨i,hi,En d1 d2⟩
theorem Fw {l l':List (List T)} (hl:l.length=l'.length) (h:∀k,k<l.length→bY l k=bY l' k):l=l':=by
 refine List.ext_getElem hl fun k h1 h2=>?_;have:=h k h1
 unfold bY at this;rw[List.getD_eq_getElem?_getD,List.getD_eq_getElem?_getD,List.getElem?_eq_getElem h1,List.getElem?_eq_getElem h2]at this;exact this
def MK (o:Int) (l:List (List T)):List Int:=l.map (fun p=>eO o (nF o p))
theorem Cc {o:Int} {l:List (List T)} (h:XD o l):(MK o l).Pairwise (· <·):=by
 refine List.pairwise_iff_getElem.2 fun i j hi hj hij=>?_;unfold MK at hi hj⊢;rw[List.length_map]at hi hj;rw[List.getElem_map,List.getElem_map];have:=h.rise i j hij hj
 unfold bY at this;rw[List.getD_eq_getElem?_getD,List.getD_eq_getElem?_getD,List.getElem?_eq_getElem hi,List.getElem?_eq_getElem hj]at this;exact this
theorem Cb {o:Int} {l:List (List T)} {k:Nat} (hk:k<l.length):(MK o l)[k]? =some (eO o (nF o (bY l k))):=by
 unfold MK;rw[List.getElem?_map,List.getElem?_eq_getElem hk];show some _=some (eO o (nF o (l.getD k [])))
 rw[List.getD_eq_getElem?_getD,List.getElem?_eq_getElem hk];rfl
theorem zQ {o:Int} {l:List (List T)} {x:Int}:x∈MK o l↔∃k,k<l.length∧x=eO o (nF o (bY l k)):=by
 constructor
 ·intro h;obtain⟨p,hp,rfl⟩:=List.mem_map.1 h;obtain⟨k,hk,rfl⟩:=List.mem_iff_getElem.1 hp;refine⟨k,hk,?_⟩;show _=eO o (nF o (l.getD k []))
  rw[List.getD_eq_getElem?_getD,List.getElem?_eq_getElem hk];rfl
 ·rintro⟨k,hk,rfl⟩;exact List.mem_map.2 ⟨_,eE hk,rfl⟩
theorem VC {o:Int} {n n':Nat} {L L':Nat→List T} {l l':List (List T)} (hB:zU o n L) (hB':zU o n' L') (h:aT o n L=some l) (h':aT o n' L'=some l') (h1:∀j,j<n→eJ n' L' (Rp aK (L j))) (h2:∀j,j<n'→eJ n L (Rp aK (L' j))):l=l':=by
 have hL:=gM h;have hL':=gM h'
 obtain⟨ho,hl,_⟩:=dP h;have e:MK o l=MK o l':=KW (Cc hL) (Cc hL') fun x=>by
  constructor
  ·intro hx;obtain⟨k,hk,rfl⟩:=zQ.1 hx;obtain⟨i,hi,e⟩:=yO hB hB' h h' h1 h2 hk;exact zQ.2 ⟨i,hi,by rw[e]⟩
  ·intro hx;obtain⟨k,hk,rfl⟩:=zQ.1 hx;obtain⟨i,hi,e⟩:=yO hB' hB h' h h2 h1 hk;exact zQ.2 ⟨i,hi,by rw[e]⟩
 have hlen:l.length=l'.length:=by
  have:=congrArg List.length e;unfold MK at this
  rwa[List.length_map,List.length_map]at this
 have hlm:∀k,k<l.length→nF o (bY l k)=nF o (bY l' k):=fun k hk=>by
  have hk':k<l'.length:=by omega
  have q:=Cb (o:=o) hk;rw[e,Cb hk']at q;exact(jE _ _ (kS (o:=o) (hL'.ok _ (eE hk'))) (kS (o:=o) (hL.ok _ (eE hk))) (Option.some.inj q)).symm
 refine Fw hlen fun k hk=>?_;have hk':k<l'.length:=by omega
 have oP:=hL.ok _ (eE hk);have oQ:=hL'.ok _ (eE hk')
 have fP:=(aD oP.1).2;have fQ:=(aD oQ.1).2
 have cP:=hL.one k hk;have cQ:=hL'.one k hk'
 have mP:=gJ (o:=o) oP.2;have mQ:=gJ (o:=o) oQ.2
 have fD:=cO fP fQ;refine(yR fP fQ).1 (hB.bas.free (nE ho hl) fD.1 ?_ (fun t ht j hj=>?_))
 ·rw[wZ aK fP fQ];exact(iM h _ (eE hk)).sum (eJ.sc _ ((iM h' _ (eE hk')).trans h2))
 ·cases hc:M.dvd (aU o (L j)).m t.m
  ·rfl
  ·exfalso;obtain⟨i,hi,hd⟩:=gL h hj;have hd2:=xF hd hc
   have hne:t.m≠nF o (bY l k):=fun q=>by have c1:=(eN fD.1 ht).2;rw[q,fD.2,(eN fP mP).1,hlm k hk,(eN fQ mQ).1,cP,cQ]at c1;exact c1 rfl
   rcases sJ fP fQ ht with⟨a,ha,ea⟩|⟨a,ha,ea⟩
   ·by_cases hik:i=k
    ·subst hik;have q1:eO o (aU o (bY l i)).m≤eO o t.m:=YB (o:=o) hd2
     have q2:=oD ho oP.1 oP.2 a ha;rw[←ea]at q1 hne;exact hne (jE _ _ (fP.2 a ha).1 (kS (o:=o) oP) (by show eO o a.m=eO o (aU o (bY l i)).m;omega))
    ·have:=hL.free k hk a ha i hi hik;rw[ea,hd2]at this;cases this
   ·rw[hlm i hi]at hd2;by_cases hik:i=k
    ·subst hik;have q1:eO o (aU o (bY l' i)).m≤eO o t.m:=YB (o:=o) hd2
     have q2:=oD ho oQ.1 oQ.2 a ha;rw[←ea]at q1 hne;rw[hlm i hk]at hne;exact hne (jE _ _ (fQ.2 a ha).1 (kS (o:=o) oQ) (by show eO o a.m=eO o (aU o (bY l' i)).m;omega))
    ·have:=hL'.free k hk' a ha i (by omega) hik;rw[ea,hd2]at this;cases this
theorem De {k m i:Nat} (hk:k<m) (hi:i<k):cG k+i<cG m:=by
 have h1:cG (k+1)≤cG m:=wM hk;have h2:cG (k+1)=cG k+k:=rfl
 omega
theorem Mk.bas {o:Int} {g:Nat} {L0:Nat→List T} {B:Bs} {j:Nat} (h:Mk o g L0 B j) (hj:cG B.m≤j):WT o B.m B.L:=It (nE h.ok.ho h.ok.l) fun i k hi hk=>h.pr i k hi hk (by have:=De hk hi;omega)
theorem Mk.idl {o:Int} {g:Nat} {L0:Nat→List T} {B:Bs} {j:Nat} (h:Mk o g L0 B j) {i:Nat} (hi:i<B.m):eJ g L0 (Rp aK (B.L i)):=by rw[←h.pf i hi];exact eJ.qsum fun t ht=>(aD (h.ok.p i hi t ht)).2
theorem Mk.basT {o:Int} {g:Nat} {L0:Nat→List T} {B:Bs} {j:Nat} (h:Mk o g L0 B j) (hj:cG B.m≤j):zU o B.m B.L:=Ed (nE h.ok.ho h.ok.l) fun i k hi hk=>h.pr i k hi hk (by have:=De hk hi;omega)
theorem iU {o:Int} {n:Nat} {L:Nat→List T} {l:List (List T)} (h:bQ o n L=some l):(1≤o∧o≤3)∧bB n (lN L) (fN L)=true∧(1≤n∧n≤3)∧∃m BL,zU o m BL∧(∀j,j<m→eJ n L (Rp aK (BL j)))∧(∀j,j<n→eJ m BL (Rp aK (L j)))∧aT o m BL=some l:=by
 obtain⟨⟨⟨m,BL,BP⟩,d⟩,hX⟩:∃X,eS o n L 60=X:=⟨_,rfl⟩
 rw[tR hX]at h;split at h
 ·rename_i hd;rcases AV hX with⟨_,h1,_⟩|⟨⟨h1,h2,h3,h4⟩,j,hm,hj⟩
  ·rw[h1]at hd;cases hd
  ·refine⟨h1,h2,h3,m,BL,hm.basT (hj hd),fun i hi=>hm.idl hi,fun i hi=>?_,h⟩;have e:BL i=L i:=hm.pre i hi
   rw[←e];exact nW (lB hi hm.le)
 ·cases h
theorem EJ {o:Int} {n n':Nat} {L L':Nat→List T} {l l':List (List T)} (h:bQ o n L=some l) (h':bQ o n' L'=some l') (h1:∀j,j<n→eJ n' L' (Rp aK (L j))) (h2:∀j,j<n'→eJ n L (Rp aK (L' j))):l=l':=by
 obtain⟨_,_,_,m,BL,b1,b2,b3,b4⟩:=iU h;obtain⟨_,_,_,m',BL',c1,c2,c3,c4⟩:=iU h';refine VC b1 c1 b4 c4 (fun j hj=>?_) (fun j hj=>?_)
 ·exact((b2 j hj).trans h1).trans c3
 ·exact((c2 j hj).trans h2).trans b3
set_option linter.unusedSimpArgs false
def Ou (w:World) (e:Ending) (w':World):Prop:=∃(o:Int) (a:Option Addr) (n c:Nat) (ad:Nat→Option Addr) (cp:Nat→Nat) (L:Nat→List T),e= .returned (.tuple #[.int .i64 o,.slice a n c])∧eQ w' a n c ad (lN L) cp (fN L)∧n≤5∧Below w.heap.size w w'
theorem DY (w:World) (a:Option Addr) (len cap:Nat) (h:QC w a len cap):Calls Tryz.prog 16 #[.slice a len cap] w (Ou w):=by
 go_enter Tryz.func16,Tryz.ntmps16;go_wp2_with fail;refine(BT _ _ _ _ h).mono ?_;rintro e w1 ⟨rfl,hR1,b1⟩;have HA0:Hid (A1 w w1 0):=⟨0,Nat.le_refl _,hR1,b1⟩
 clear h hR1 b1;go_wp2_with fail;refine(Mj HA0.out (by omega)).mono ?_;rintro e w2 ⟨o,rfl,hA,_⟩;have HA2:=aA hA
 clear hA HA0;go_wp2_with fail;refine(An 2 HA2.out (by omega) (by omega) (by omega)).mono ?_;rintro e w3 ⟨x,rfl,x0,x1,hA,_⟩;have HA3:=aA hA
 have hwx:IntKind.i64.wrap (2+x)=2+x:=by rw[IntKind.wrap_i64];omega
 clear hA HA2;go_wp2_with fail;refine(Ik (2+x) HA3.out (by omega) (by omega) (by omega)).mono ?_;rintro e w4 ⟨la,n,lc,lad,lcp,L,rfl,hn,hr,hA,_⟩;have HR:=aA (zS hr)
 have HB:=aA hA.bel;clear hr hA HA3;go_wp2;refine cD (results_tmp2 rfl _ _ _) rfl ?_;exact⟨o,la,n,lc,lad,lcp,L,rfl,HR.out,hn,HB.out⟩
theorem YM {w:World} {o:Int} {a:Option Addr} {n cap:Nat} {ad:Nat→Option Addr} {cp:Nat→Nat} {L:Nat→List T} (h:eQ w a n cap ad (lN L) cp (fN L)) {l:List (List T)} {so:Bool} (hl:wU (bQ o n L)=l) (hs:(bQ o n L).isSome=so):Calls Tryz.prog 18 #[.int .i64 o,.slice a n cap] w (XB w l so):=by refine(OQ w o a n cap ad cp L h).mono ?_;rintro r w' ⟨qa,qc,qad,qcp,e,hb,hO⟩;rw[hl,hs]at e;rw[hl]at hO;exact⟨qa,qc,qad,qcp,e,hb,hO⟩
theorem vM {o:Int} {n:Nat} {L:Nat→List T} {l:List (List T)} (hl:wU (bQ o n L)=l) (hs:(bQ o n L).isSome=true):bQ o n L=some l:=by
 cases h:bQ o n L with
 |none=>rw[h]at hs;cases hs
 |some x=>rw[h]at hl;rw[←hl];rfl
end Go.Proofs.YtelkehjdfcoeiaaGreat
