/-
  What the laws over monomials lean on: the thing that holds of the program, and monomials in a world that grew.
-/
import Derived.Test.YtdidlcjhodejjaaGreatMNaa
import Derived.Test.YtdidlcjhodejjaaGreatMOaa
set_option maxHeartbeats 8000000
set_option maxRecDepth 100000
namespace Go.Proofs.YtdidlcjhodejjaaGreat
open Go.RowKit
set_option linter.unusedVariables false
theorem SC {o x y d e x' y' d' e' n:Int} (h:M.cmp o ⟨x,y,d,e⟩ ⟨x',y',d',e'⟩=n) (w:World):Calls Tryz.prog 36 #[.int .i64 o,.agg #[.int .i64 x,.int .i64 y,.int .i64 d,.int .i64 e],.agg #[.int .i64 x',.int .i64 y',.int .i64 d',.int .i64 e']] w fun r w'=>r= .returned (.int .i64 n)∧Below w.heap.size w w':=by have:=UL o x y d e x' y' d' e' w;rw[h]at this;exact this
open Go.RowKit Go.Deep Go.Joins
def tQ (o:Int) (np:Nat) (p:Nat→T) (n:Nat) (ln:Nat→Nat) (f:Nat→Nat→T):Bool:=decide ((1≤o∧o≤3)∧aN np p=true∧aT n ln f=true∧∀k,k<np→∀i,i<n→M.dvd (kC o ln f i).m (p k).m=false)
theorem Tb (w:World) (a:Option Addr) (n cap:Nat) (f:Nat→T) (g:Nat) (lb:Array Value) (p:T→Bool) (Q:World→Prop) (eg:∀args w,(callFunc g args).run Tryz.prog w= .ok (.enter g args) w) (hW:Ad g lb p Q f n) (hQ:∀W',Below w.heap.size w W'→Q W') (h:Rd w a n cap f):Calls Tryz.prog 73 #[.slice a n cap,.func (.func g) #[] lb] w fun r w'=>r= .returned (.bool (decide (0≤jS p f n)))∧Below w.heap.size w w':=by
 have HI:=aA (Qf w a n cap f g lb p Q eg hW hQ h);clear hW hQ h;obtain⟨z,hz⟩:∃z,jS p f n=z:=⟨_,rfl⟩
 rw[hz];by_cases h0:0≤z
 ·rw[decide_eq_true h0];go_enter Tryz.func73,Tryz.ntmps73;go_wp2_with fail;refine HI.out.mono ?_;rw[hz];rintro r w1 ⟨rfl,hb⟩;have HB:=aA hb
  clear hb HI hz;go_wp2;go_ret;exact⟨rfl,HB.out⟩
 ·rw[decide_eq_false h0];go_enter Tryz.func73,Tryz.ntmps73;go_wp2_with fail;refine HI.out.mono ?_;rw[hz];rintro r w1 ⟨rfl,hb⟩;have HB:=aA hb
  clear hb HI hz;go_wp2;go_ret;exact⟨congrArg (fun z=>Ending.returned (Value.bool z)) (decide_eq_false (by omega)),HB.out⟩
theorem Qd (t:T) (a:Option Addr) (n cap:Nat) (f:Nat→T) (B:Nat) (W:World) (h:Rd W a n cap f) (hc:W.cell? ⟨B,0,none⟩=some (.slice a n cap)):Calls Tryz.prog 74 #[.agg #[.int .i64 t.c,.int .i64 t.m.x,.int .i64 t.m.y,.int .i64 t.m.d,.int .i64 t.m.e],.pointer (some ⟨B,0,none⟩)] W fun r w'=>r= .returned (.bool (decide (0≤jS (fun s=>M.dvd s.m t.m) f n)))∧Below W.heap.size W w':=by
 have l1:=cX W _ hc;have B1w:=aA (aC W (.cells #[.int .i64 t.c,.int .i64 t.m.x,.int .i64 t.m.y,.int .i64 t.m.d,.int .i64 t.m.e] 42))
 obtain⟨z,hz⟩:∃z,jS (fun s=>M.dvd s.m t.m) f n=z:=⟨_,rfl⟩
 rw[hz];have hcall:Calls Tryz.prog 75 #[.slice a n cap,.agg #[.int .i64 t.m.x,.int .i64 t.m.y,.int .i64 t.m.d,.int .i64 t.m.e]] (W.alloc (.cells #[.int .i64 t.c,.int .i64 t.m.x,.int .i64 t.m.y,.int .i64 t.m.d,.int .i64 t.m.e] 42)) fun r w'=>r= .returned (.int .i64 z)∧Below (W.alloc (.cells #[.int .i64 t.c,.int .i64 t.m.x,.int .i64 t.m.y,.int .i64 t.m.d,.int .i64 t.m.e] 42)).heap.size (W.alloc (.cells #[.int .i64 t.c,.int .i64 t.m.x,.int .i64 t.m.y,.int .i64 t.m.d,.int .i64 t.m.e] 42)) w':=by rw[←hz];exact IC _ a n cap f t.m (h.below B1w.out)
 have HC:=aA hcall;clear h hz hcall;by_cases h0:0≤z
 ·rw[decide_eq_true h0];go_enter Tryz.func74,Tryz.ntmps74;go_wp2_with fail;refine HC.out.mono ?_;rintro r w1 ⟨rfl,hb⟩;have HB:=aA (aB B1w.out hb)
  clear hb hc HC;go_wp2;go_ret;exact⟨rfl,HB.out⟩
 ·rw[decide_eq_false h0];go_enter Tryz.func74,Tryz.ntmps74;go_wp2_with fail;refine HC.out.mono ?_;rintro r w1 ⟨rfl,hb⟩;have HB:=aA (aB B1w.out hb)
  clear hb hc HC;go_wp2;go_ret;exact⟨congrArg (fun z=>Ending.returned (Value.bool z)) (decide_eq_false (by omega)),HB.out⟩
theorem Nq (o:Int) (L:Nat→List T) (i:Nat):kC o (lN L) (fN L) i=aV o (L i):=rfl
theorem PE {o:Int} {n:Nat} {L:Nat→List T}:∀(v:Nat) (S:Dv),cG S.p=true→aK S.r→S.p.length≤v→(∀t∈S.p,∀i,i<n→M.dvd (aV o (L i)).m t.m=false)→∃r,eR o n (lN L) (fN L) v S=some ⟨[],S.q,r⟩∧aK r∧∀m,aM r m=(aM S.r m+aM S.p m)%101
 |0,S,hp,hr,hv,hf=>by
  have h0:S.p.length=0:=by omega
  have e:S.p=[]:=List.length_eq_zero_iff.1 h0;refine⟨S.r,?_,hr,fun m=>?_⟩
  ·rw[lG h0];cases S;cases e;rfl
  ·rw[e,nZ];have:=bM hr m;omega
 |v+1,S,hp,hr,hv,hf=>by
  by_cases h0:S.p.length=0
  ·have e:S.p=[]:=List.length_eq_zero_iff.1 h0;refine⟨S.r,?_,hr,fun m=>?_⟩
   ·rw[lG h0];cases S;cases e;rfl
   ·rw[e,nZ];have:=bM hr m;omega
  ·have hl:=gN (o:=o) h0;have hg:=dU (o:=o) (aD hp).2 h0
   have hst:dS o n (lN L) (fN L) S=some (iW o S):=by unfold dS;rw[if_neg];intro hk;obtain⟨i,hi,h1⟩:=qT.1 hk;exact absurd ((hf _ hl i hi).symm.trans h1) (by simp)
   have hlt:=sP (aD hp).2 hl;have fs:=cW (aD hp).2 (dH hg)
   have fr:=cU hr (dH hg);have h4:=(aD hp).1
   obtain⟨r,e1,e2,e3⟩:=PE v (iW o S) (gE (show(cY S.p [aV o S.p]).length≤400 by omega) fs.1) fr.1 (show(cY S.p [aV o S.p]).length≤v by omega) (fun t ht i hi=>by
    rcases tK (aD hp).2 (dH hg) (show t∈cY S.p [aV o S.p]from ht)with⟨a,ha,e⟩|⟨b,hb,e⟩
    ·rw[←e];exact hf a ha i hi
    ·rw[←e,List.mem_singleton.1 hb];exact hf _ hl i hi)
   refine⟨r,by rw[lH h0 hst];exact e1,e2,fun m=>?_⟩;rw[e3];show(aM (dJ S.r [aV o S.p]) m+aM (cY S.p [aV o S.p]) m)%101=_
   rw[fr.2,fs.2];omega
theorem OT {o:Int} {p:List T} {n:Nat} {L:Nat→List T} (ho:1≤o∧o≤3) (hp:cG p=true) (hl:aT n (lN L) (fN L)=true) (hv:p.length≤300) (hf:∀t∈p,∀i,i<n→M.dvd (aV o (L i)).m t.m=false):aW o p n (lN L) (fN L)=some ⟨[],fun _=>[],p⟩:=by
 unfold aW;rw[if_pos ⟨ho,hp,hl⟩];obtain⟨r,e1,e2,e3⟩:=PE (o:=o) (n:=n) (L:=L) 300 (lB p) hp eQ hv hf;rw[e1]
 have:r=p:=lI e2 (aD hp).2 (fun m _=>by
  rw[e3];show(aM [] m+aM p m)%101=_
  rw[nZ];have:=bM (aD hp).2 m
  omega)
 rw[this];rfl
end Go.Proofs.YtdidlcjhodejjaaGreat
namespace Go.Proofs.YtdidlcjhodejjaaGreat
open Go.RowKit
set_option linter.unusedVariables false
theorem Lp (L:List T) (hL:∀t∈L,t.m.nn) {m:M} (hm:m.nn):zH (Rp aQ L) m=nM (dl m) L:=by
 show su L (fun t=>zz t.c*(mo aQ t.m).f (Ta m) 0 0)=su L (fun t=>zz t.c*dl m t.m);refine fE (fun t ht=>?_);have:=MD (hL t ht) hm
 unfold zH at this;rw[this]
theorem Hm {L:List T} (hL:aK L) {m:M} (hm:m.ok=true):zH (Rp aQ L) m=zz (aM L m):=by rw[←Dc hL hm];exact Lp L (fun t ht=>qN (hL.2 t ht).1) (qN hm)
theorem Hn {L:List T} (hL:aK L) (h:Rp aQ L=Lq.nil):L=[]:=by
 cases L with
 |nil=>rfl
 |cons t r=>
  have ht:=hL.2 t (List.mem_cons_self ..);have h1:=Hm hL ht.1
  rw[h,QP,bO]at h1;exact absurd h1.symm (IQ ht.2.1 ht.2.2)
theorem Io (o:Int) (a b:M):qU o a b∨a=b∨qU o b a:=by
 by_cases e:a.x=b.x∧a.y=b.y∧a.d=b.d∧a.e=b.e
 ·exact .inr (.inl (qM e.1 e.2.1 e.2.2.1 e.2.2.2))
 ·unfold qU;generalize kf o a=p;generalize kf o b=q;omega
variable (o:Int) (n:Nat) (L:Nat→List T)
variable {o n L}
theorem vJ.cf_top (h:vJ o n L) {j:Nat} (hj:j<n) {m:M} (hm:m.nn):zH (Lq.mul (mo aQ m) (Rp aQ (L j))) (m.sum (fV o L j))=zz (aV o (L j)).c:=by
 have hδ:=kR hm (h.nn hj);rw[BM,xJ (h.falls hj) (h.mem hj) (fun t ht hne=>?_)]
 ·obtain⟨A,h1,h2⟩:=vA aQ h.ho hm (h.nn hj);have e:zH (Lq.mul (mo aQ m) (mo aQ (fV o L j))) (m.sum (fV o L j))=1:=by rw[h2,yC,h1.cf hδ wM,MD hδ hδ];unfold dl;rw[if_pos (dF.2 rfl)];decide
  have e':zH (Lq.mul (mo aQ m) (mo aQ (aV o (L j)).m)) (m.sum (fV o L j))=1:=e;rw[e']
  grind
 ·have h4:=qN ((h.falls hj).2 t ht).1;obtain⟨A,h1,h2⟩:=vA aQ h.ho hm h4;have h3:=CM m (h.top hj ht hne)
  have e:zH (Lq.mul (mo aQ m) (mo aQ t.m)) (m.sum (fV o L j))=0:=by
   rw[h2,yC,h1.cf hδ (fun q=>wM (pV q h3)),MD (kR hm h4) hδ];unfold dl;rw[if_neg]
   ·decide
   ·intro q;rw[dF.1 q]at h3;exact wM h3
  rw[e]
  grind
def Tp (o:Int) (n:Nat) (L:Nat→List T) (δ:M) (tp:List (Fq×Nat)):Prop:=∀q∈tp,q.2<n∧M.le (fV o L q.2) δ
theorem Ry {δ δ':M} {tp:List (Fq×Nat)} (h:Tp o n L δ tp) (hd:qU o δ δ'):Lo o n L δ' (tv o L δ tp):=by
 induction tp with
 |nil=>exact Lo.nil
 |cons q r ih=>
  obtain⟨h1,h2⟩:=h q (List.mem_cons_self ..);exact Lo.cons q.1 _ q.2 h1 (rV h2) (by rw[pP];exact hd) (ih (fun s hs=>h s (List.mem_cons_of_mem _ hs)))
def Le (o:Int) (n:Nat) (L:Nat→List T) (δ:M) (A:Lq):Prop:=∃tp B,Tp o n L δ tp∧Lo o n L δ B∧A=Lq.sum (tv o L δ tp) B
theorem Le.lo {δ δ':M} {A:Lq} (h:Le o n L δ A) (hd:qU o δ δ'):Lo o n L δ' A:=by obtain⟨tp,B,h1,h2,rfl⟩:=h;exact(Ry h1 hd).sum (h2.mono (.inl hd))
theorem Lo.max (hL:vJ o n L) {δ:M} {A:Lq} (h:Lo o n L δ A):A=Lq.nil∨∃δ',δ'.nn∧qU o δ' δ∧Le o n L δ' A:=by
 induction h with
 |nil=>exact .inl rfl
 |cons c m j h1 h2 h3 h4 ih=>
  have hμ:=kR h2 (hL.nn h1);have hle:M.le (fV o L j) (m.sum (fV o L j)):=by obtain⟨a1,a2,a3,a4⟩:=h2;unfold M.sum;exact⟨by simp only;omega,by simp only;omega,by simp only;omega,by simp only;omega⟩
  have esub:M.sub (m.sum (fV o L j)) (fV o L j)=m:=by unfold M.sub M.sum;refine qM ?_ ?_ ?_ ?_<;>(simp only;omega)
  right;rcases ih with e|⟨δ',d1,d2,d3⟩
  ·refine⟨_,hμ,h3,[(c,j)],Lq.nil,fun q hq=>?_,Lo.nil,?_⟩
   ·rw[List.mem_singleton.1 hq];exact⟨h1,hle⟩
   ·rw[e];show _=Lq.sum (Lq.sum (Lq.sc c (Lq.mul (mo aQ (M.sub (m.sum (fV o L j)) (fV o L j))) (Rp aQ (L j)))) Lq.nil) Lq.nil
    rw[esub,Lq.sum_nil,Lq.sum_nil]
  ·rcases Io o (m.sum (fV o L j)) δ' with q|q|q
   ·obtain⟨tp,B,e1,e2,rfl⟩:=d3;refine⟨δ',d1,d2,tp,Lq.sum (Lq.sc c (Lq.mul (mo aQ m) (Rp aQ (L j)))) B,e1,Lo.cons c m j h1 h2 q e2,?_⟩;rw[←Lq.sum_assoc,Lq.sum_comm _ (tv o L δ' tp),Lq.sum_assoc]
   ·obtain⟨tp,B,e1,e2,rfl⟩:=d3;refine⟨δ',d1,d2,(c,j)::tp,B,fun z hz=>?_,e2,?_⟩
    ·rcases List.mem_cons.1 hz with rfl|hz
     ·exact⟨h1,by rw[←q];exact hle⟩
     ·exact e1 z hz
    ·show _=Lq.sum (Lq.sum (Lq.sc c (Lq.mul (mo aQ (M.sub δ' (fV o L j))) (Rp aQ (L j)))) (tv o L δ' tp)) B;rw[←q,esub,Lq.sum_assoc]
   ·refine⟨_,hμ,h3,[(c,j)],_,fun z hz=>?_,d3.lo q,?_⟩
    ·rw[List.mem_singleton.1 hz];exact⟨h1,hle⟩
    ·show _=Lq.sum (Lq.sum (Lq.sc c (Lq.mul (mo aQ (M.sub (m.sum (fV o L j)) (fV o L j))) (Rp aQ (L j)))) Lq.nil) _;rw[esub,Lq.sum_nil]
theorem Cr (c:Fq) (h:c≠0):∃u:Fq,u*c=1:=by
 have key:∀c:Fq,c≠0→∃u:Fq,u*c=1:=by decide+kernel
 exact key c h
def Nm (o:Int) (m:M):Nat×Nat×Nat×Nat×Nat:=((kf o m).toNat,m.d.toNat,m.e.toNat,m.x.toNat,m.y.toNat)
theorem Ma {o:Int} {m:M} (h:m.nn):0≤kf o m:=by
 obtain⟨h1,h2,h3,h4⟩:=h;unfold kf;split
 ·omega
 ·split<;>omega
theorem CS {a b:Nat} (h:a<b):WellFoundedRelation.rel a b:=h
theorem Im {P:M→Prop} (h:∀δ:M,δ.nn→(∀δ':M,δ'.nn→qU o δ' δ→P δ')→P δ):∀δ:M,δ.nn→P δ:=by
 have wf:=(inferInstance:WellFoundedRelation (Nat×Nat×Nat×Nat×Nat)).wf;have key:∀k:Nat×Nat×Nat×Nat×Nat,∀δ:M,δ.nn→Nm o δ=k→P δ:=fun k=>by
  induction k using wf.induction with
  |_ k ih=>
   intro δ hδ hk;refine h δ hδ (fun δ' hn hlt=>ih (Nm o δ') ?_ δ' hn rfl);rw[←hk];have p1:=Ma (o:=o) hδ
   have p2:=Ma (o:=o) hn;obtain⟨q1,q2,q3,q4⟩:=hδ;obtain⟨r1,r2,r3,r4⟩:=hn;unfold qU at hlt;show Prod.Lex _ _ _ _
   unfold Nm;rcases hlt with hlt|⟨e1,hlt⟩
   ·exact Prod.Lex.left _ _ (CS (by omega))
   ·rw[e1];refine Prod.Lex.right _ ?_;show Prod.Lex _ _ _ _
    rcases hlt with hlt|⟨e2,hlt⟩
    ·exact Prod.Lex.left _ _ (CS (by omega))
    ·rw[e2];refine Prod.Lex.right _ ?_;show Prod.Lex _ _ _ _
     rcases hlt with hlt|⟨e3,hlt⟩
     ·exact Prod.Lex.left _ _ (CS (by omega))
     ·rw[e3];refine Prod.Lex.right _ ?_;show Prod.Lex _ _ _ _
      rcases hlt with hlt|⟨e4,hlt⟩
      ·exact Prod.Lex.left _ _ (CS (by omega))
      ·rw[e4];refine Prod.Lex.right _ ?_;exact CS (by omega)
 exact fun δ hδ=>key _ δ hδ rfl
theorem WV (hL:vJ o n L) (hP:∀i k,i<k→k<n→AY o n L i k):∀δ:M,δ.nn→∀A,Le o n L δ A→A≠Lq.nil→∃m j,m.nn∧j<n∧M.le (fV o L j) m∧zH A m≠0:=by
 refine Im (o:=o) (P:=fun δ=>∀A,Le o n L δ A→A≠Lq.nil→∃m j,m.nn∧j<n∧M.le (fV o L j) m∧zH A m≠0) (fun δ hδ ih A hA hne=>?_);obtain⟨tp,B,h1,h2,e⟩:=hA;have low:∀A,Lo o n L δ A→A≠Lq.nil→∃m j,m.nn∧j<n∧M.le (fV o L j) m∧zH A m≠0:=fun A hA hne=>by
  rcases hA.max hL with q|⟨δ',d1,d2,d3⟩
  ·exact absurd q hne
  ·exact ih δ' d1 d2 A d3 hne
 have pair':∀i k,i<n→k<n→i≠k→M.le (fV o L i) δ→M.le (fV o L k) δ→∀c:Fq,∃d:Fq,Lo o n L δ (Lq.sum (Lq.sc c (Lq.mul (mo aQ (M.sub δ (fV o L i))) (Rp aQ (L i)))) (Lq.sc d (Lq.mul (mo aQ (M.sub δ (fV o L k))) (Rp aQ (L k))))):=fun i k hi hk hik di dk c=>by
  obtain⟨u,hu⟩:=Cr (zz (aV o (L i)).c) (IQ (hL.good hi).2.1 (hL.good hi).2.2);obtain⟨v,hv⟩:=Cr (zz (aV o (L k)).c) (IQ (hL.good hk).2.1 (hL.good hk).2.2);rcases Nat.lt_or_gt_of_ne hik with q|q
  ·have:=((hP i k q hk).up hL hi hk di dk hu hv).sc (c*zz (aV o (L i)).c);refine⟨c*zz (aV o (L i)).c*-v,?_⟩;rw[Lq.sc_sum,Lq.sc_sc,Lq.sc_sc]at this
   rwa[show c*zz (aV o (L i)).c*u=c from by grind]at this
  ·have:=((hP k i q hi).up hL hk hi dk di hv hu).sc (-(c*zz (aV o (L i)).c));refine⟨-(c*zz (aV o (L i)).c)*v,?_⟩;rw[Lq.sc_sum,Lq.sc_sc,Lq.sc_sc,Lq.sum_comm]at this
   rwa[show -(c*zz (aV o (L i)).c)*-u=c from by grind]at this
 revert A B
 induction htp:tp.length generalizing tp with
 |zero=>
  intro A hne B h2 e;rw[List.length_eq_zero_iff.1 htp]at e;have:A=B:=by rw[e];show Lq.sum Lq.nil B=B;rw[Lq.sum_comm,Lq.sum_nil]
  subst this;exact low A h2 hne
 |succ N iN=>
  intro A hne B h2 e;match tp,htp,h1,e with
  |[(c,j)],_,h1,e=>
   obtain⟨j1,j2⟩:=h1 (c,j) (List.mem_singleton.2 rfl);by_cases hc:c=0
   ·refine iN [] (fun q hq=>by cases hq) (by have:=‹[(c,j)].length=N+1›;simp at this⊢;omega) A hne B h2 ?_;rw[e,hc];show Lq.sum (Lq.sum (Lq.sc 0 _) Lq.nil) B=Lq.sum Lq.nil B
    rw[Lq.sc_zero,Lq.sum_nil]
   ·refine⟨δ,j,hδ,j1,j2,?_⟩;rw[e];show zH (Lq.sum (Lq.sum (Lq.sc c (Lq.mul (mo aQ (M.sub δ (fV o L j))) (Rp aQ (L j)))) Lq.nil) B) δ≠0
    rw[Lq.sum_nil,yC,Ay,h2.cf0 hL hδ];have h5:=hL.cf_top j1 (rV j2)
    rw[pP]at h5;rw[h5];intro q;have q':c*zz (aV o (L j)).c=0:=by grind
    rcases JD _ _ q' with q|q
    ·exact hc q
    ·exact IQ (hL.good j1).2.1 (hL.good j1).2.2 q
  |(c,j)::(d,k)::r,hlen,h1,e=>
   obtain⟨j1,j2⟩:=h1 (c,j) (List.mem_cons_self ..);obtain⟨k1,k2⟩:=h1 (d,k) (List.mem_cons_of_mem _ (List.mem_cons_self ..));by_cases hjk:j=k
   ·subst hjk;refine iN ((c+d,j)::r) (fun q hq=>?_) (by simpa using hlen) A hne B h2 ?_
    ·rcases List.mem_cons.1 hq with rfl|hq
     ·exact⟨j1,j2⟩
     ·exact h1 q (List.mem_cons_of_mem _ (List.mem_cons_of_mem _ hq))
    ·rw[e];show Lq.sum (Lq.sum (Lq.sc c _) (Lq.sum (Lq.sc d _) (tv o L δ r))) B=Lq.sum (Lq.sum (Lq.sc (c+d) _) (tv o L δ r)) B
     rw[Lq.sc_add];simp only[Lq.sum_assoc]
   ·obtain⟨d',hd'⟩:=pair' j k j1 k1 hjk j2 k2 c;refine iN ((d-d',k)::r) (fun q hq=>?_) (by simpa using hlen) A hne (Lq.sum (Lq.sum (Lq.sc c (Lq.mul (mo aQ (M.sub δ (fV o L j))) (Rp aQ (L j)))) (Lq.sc d' (Lq.mul (mo aQ (M.sub δ (fV o L k))) (Rp aQ (L k))))) B) (hd'.sum h2) ?_
    ·rcases List.mem_cons.1 hq with rfl|hq
     ·exact⟨k1,k2⟩
     ·exact h1 q (List.mem_cons_of_mem _ (List.mem_cons_of_mem _ hq))
    ·rw[e];refine Lq.ext fun w p q=>?_;simp only[tv,VW,Kf]
     grind
end Go.Proofs.YtdidlcjhodejjaaGreat
namespace Go.Proofs.YtdidlcjhodejjaaGreat
open Go.RowKit Go.Deep Go.Joins
set_option linter.unusedVariables false
inductive gY (n:Nat) (L:Nat→List T):Lq→Prop
 |nil:gY n L Lq.nil
 |cons {A:Lq} (c:Fq) (m:M) (j:Nat):j<n→m.nn→gY n L A→gY n L (Lq.sum (Lq.sc c (Lq.mul (mo aQ m) (Rp aQ (L j)))) A)
section
variable {o:Int} {n:Nat} {L:Nat→List T}
theorem gY.sum {A B:Lq} (h:gY n L A) (h':gY n L B):gY n L (Lq.sum A B):=by
 induction h with
 |nil=>rw[KA];exact h'
 |cons c m j h1 h2 h3 ih=>rw[Lq.sum_assoc];exact gY.cons c m j h1 h2 ih
theorem gY.sc {A:Lq} (d:Fq) (h:gY n L A):gY n L (Lq.sc d A):=by
 induction h with
 |nil=>rw[Fp];exact gY.nil
 |cons c m j h1 h2 h3 ih=>rw[Lq.sc_sum,Lq.sc_sc];exact gY.cons _ m j h1 h2 ih
theorem gY.one (c:Fq) {m:M} {j:Nat} (h1:j<n) (h2:m.nn):gY n L (Lq.sc c (Lq.mul (mo aQ m) (Rp aQ (L j)))):=by
 have:=gY.cons c m j h1 h2 (gY.nil (n:=n) (L:=L))
 rwa[Lq.sum_nil]at this
theorem Lo.idl {δ:M} {A:Lq} (h:Lo o n L δ A):gY n L A:=by
 induction h with
 |nil=>exact gY.nil
 |cons c m j h1 h2 h3 h4 ih=>exact gY.cons c m j h1 h2 ih
theorem Lw.idl {μ:M} {A:Lq} {j:Nat} (hj:j<n) (h:Lw aQ o μ A):gY n L (Lq.mul A (Rp aQ (L j))):=by
 induction h with
 |nil=>rw[Lq.nil_mul];exact gY.nil
 |cons c m h1 h2 h3 ih=>rw[Lq.sum_mul,Lq.sc_mul];exact gY.cons c m j hj h1 ih
theorem gY.mulMo {A:Lq} (h:gY n L A) {s:M} (hs:s.nn):gY n L (Lq.mul (mo aQ s) A):=by
 induction h with
 |nil=>rw[Lq.mul_nil];exact gY.nil
 |cons c m j h1 h2 h3 ih=>
  rw[Lq.mul_sum,Lq.mul_sc,←Lq.mul_assoc];obtain⟨B,hB,e⟩:=vA aQ (o:=1) ⟨by omega,by omega⟩ hs h2;rw[e,Lq.sum_mul];refine gY.sum (gY.sc c (gY.sum ?_ (hB.idl h1))) ih;have:=gY.one (L:=L) 1 h1 (kR hs h2)
  rwa[Lq.sc_one]at this
theorem gY.mulRp {A:Lq} (h:gY n L A):∀q:List T,(∀t∈q,t.m.nn)→gY n L (Lq.mul (Rp aQ q) A)
 |[],_=>by rw[qP,Lq.nil_mul];exact gY.nil
 |t::r,hq=>by rw[TI,Lq.sum_mul,Lq.sc_mul];exact gY.sum (gY.sc _ (h.mulMo (hq t (List.mem_cons_self ..)))) (gY.mulRp h r (fun s hs=>hq s (List.mem_cons_of_mem _ hs)))
theorem IR {j:Nat} (hj:j<n):gY n L (Rp aQ (L j)):=by
 have:=gY.one (L:=L) 1 hj (m:=⟨0,0,0,0⟩) ⟨by decide,by decide,by decide,by decide⟩
 rwa[Lq.sc_one,JX]at this
theorem gY.trans {n':Nat} {L':Nat→List T} (hg:∀j,j<n→gY n' L' (Rp aQ (L j))) {A:Lq} (h:gY n L A):gY n' L' A:=by
 induction h with
 |nil=>exact gY.nil
 |cons c m j h1 h2 h3 ih=>exact gY.sum (gY.sc c ((hg j h1).mulMo h2)) ih
theorem MT {q:List T} (h:aK q):∀t∈q,t.m.nn:=fun t ht=>qN (h.2 t ht).1
theorem gY.sumN {f:Nat→Lq}:∀k,(∀i,i<k→gY n L (f i))→gY n L (Lq.sumN f k)
 |0,_=>gY.nil
 |k+1,h=>gY.sum (gY.sumN k (fun i hi=>h i (by omega))) (h k (by omega))
theorem gY.qsum {q:Nat→List T} (hq:∀i,i<n→aK (q i)):gY n L (qsum aQ n L q):=gY.sumN n fun i hi=>(IR hi).mulRp _ (MT (hq i hi))
theorem Cs (o:Int) {a b:M} (hb:b.nn):qU o a ((a.sum b).sum ⟨1,0,0,0⟩):=by
 obtain⟨h1,h2,h3,h4⟩:=hb;unfold qU kf M.sum;simp only;by_cases o1:o=1
 ·simp only[if_pos o1];omega
 ·by_cases o3:o=3
  ·simp only[if_neg o1,if_pos o3];omega
  ·simp only[if_neg o1,if_neg o3];refine Or.inr ⟨trivial,?_⟩;by_cases q1:b.d=0
   ·refine Or.inr ⟨by omega,?_⟩;by_cases q2:b.e=0
    ·exact Or.inr ⟨by omega,Or.inl (by omega)⟩
    ·exact Or.inl (by omega)
   ·exact Or.inl (by omega)
theorem gY.lo (hL:vJ o n L) {A:Lq} (h:gY n L A):∃δ:M,δ.nn∧Lo o n L δ A:=by
 induction h with
 |nil=>exact⟨⟨0,0,0,0⟩,⟨by decide,by decide,by decide,by decide⟩,Lo.nil⟩
 |cons c m j h1 h2 h3 ih=>
  obtain⟨δ,d1,d2⟩:=ih;have hμ:=kR h2 (hL.nn h1)
  refine⟨((m.sum (fV o L j)).sum δ).sum ⟨1,0,0,0⟩,kR (kR hμ d1) ⟨by decide,by decide,by decide,by decide⟩,Lo.cons c m j h1 h2 (Cs o d1) (d2.mono (.inl ?_))⟩;rw[M.sum_comm (m.sum (fV o L j)) δ];exact Cs o hμ
theorem gY.le (hL:vJ o n L) {A:Lq} (h:gY n L A):A=Lq.nil∨∃δ:M,δ.nn∧Le o n L δ A:=by
 obtain⟨δ,_,h2⟩:=h.lo hL;rcases h2.max hL with q|⟨δ',d1,_,d3⟩
 ·exact .inl q
 ·exact .inr ⟨δ',d1,d3⟩
def Mg (o:Int) (n:Nat) (L:Nat→List T):Prop:=∀A,gY n L A→A≠Lq.nil→∃m j,m.nn∧j<n∧M.le (fV o L j) m∧zH A m≠0
theorem Ml (hL:vJ o n L) (hP:∀i k,i<k→k<n→AY o n L i k):Mg o n L:=fun A hA hne=>by
 rcases hA.le hL with q|⟨δ,d1,d2⟩
 ·exact absurd q hne
 ·exact WV hL hP δ d1 A d2 hne
theorem UH (φ:M→Fq):∀r:List T,nM φ r≠0→∃t∈r,φ t.m≠0
 |[],h=>absurd rfl h
 |t::r,h=>by
  by_cases e:φ t.m=0
  ·have h':nM φ r≠0:=fun q=>h (by show zz t.c*φ t.m+nM φ r=0;rw[e,q];grind);obtain⟨s,hs,hh⟩:=UH φ r h';exact⟨s,List.mem_cons_of_mem _ hs,hh⟩
  ·exact⟨t,List.mem_cons_self ..,e⟩
theorem Mr {r:List T} (hr:aK r) {m:M} (hm:m.nn) (h:zH (Rp aQ r) m≠0):∃t∈r,t.m=m:=by
 rw[Lp r (MT hr) hm]at h;obtain⟨t,ht,hh⟩:=UH _ r h;refine⟨t,ht,?_⟩;unfold dl at hh;by_cases e:eF m t.m=true
 ·exact(dF.1 e).symm
 ·rw[if_neg e]at hh;exact absurd rfl hh
theorem Mu {a b:M} (ha:a.ok=true) (hb:b.ok=true) (h:M.le a b):M.dvd a b=true:=by unfold M.dvd;rw[ha,hb];exact decide_eq_true h
theorem Mg.free (hB:Mg o n L) (hL:vJ o n L) {r:List T} (hr:aK r) (hi:gY n L (Rp aQ r)) (hf:∀t∈r,∀i,i<n→M.dvd (aV o (L i)).m t.m=false):r=[]:=by
 by_cases h0:r=[]
 ·exact h0
 ·obtain⟨m,j,h1,h2,h3,h4⟩:=hB _ hi (fun e=>h0 (Hn hr e));obtain⟨t,ht,e⟩:=Mr hr h1 h4;have:=hf t ht j h2
  rw[Mu (hL.good h2).1 (hr.2 t ht).1 (by rw[e];exact h3)]at this;cases this
theorem DM {p:List T} {S:Dv} (h:aW o p n (lN L) (fN L)=some S):gY n L (qsum aQ n L S.q):=gY.qsum fun i _=>((dG h).1.q i).1
theorem Mg.left (hB:Mg o n L) {p:List T} {S:Dv} (h:aW o p n (lN L) (fN L)=some S) (hi:gY n L (Rp aQ p)):S.r=[]:=by obtain⟨ho,_,hl,_⟩:=jI h;refine hB.free (yJ ho hl) (dG h).1.r.1 ?_ (xF h);rw[AK h];exact hi.sum ((DM h).sc _)
end
end Go.Proofs.YtdidlcjhodejjaaGreat
namespace Go.Proofs.YtdidlcjhodejjaaGreat
open Go.RowKit Go.Deep Go.Joins
set_option linter.unusedVariables false
theorem Ke {L:List T} (hL:cG L=true):Sj 1 L=L:=by
 rw[SZ (by omega) (by omega) hL,nF];have hf:=(aD hL).2.2
 conv=>rhs;rw[←List.map_id L]
 refine List.map_congr_left fun t ht=>?_;have:=hf t ht
 cases t;simp only[id,T.mk.injEq,and_true];simp only at this;omega
theorem Cd {a b c:M} (h1:M.dvd a b=true) (h2:M.dvd b c=true):M.dvd a c=true:=by obtain⟨a1,b1,x1,y1,d1,e1⟩:=jJ h1;obtain⟨_,c1,x2,y2,d2,e2⟩:=jJ h2;exact vN a1 c1 ⟨by omega,by omega,by omega,by omega⟩
def xU (n:Nat) (L:Nat→List T) (l:List (List T)):Prop:=∀p∈l,gY n L (Rp aQ p)
theorem xU.lof {n:Nat} {L:Nat→List T} {l:List (List T)} (h:xU n L l) {A:Lq} (hA:gY l.length (bC l) A):gY n L A:=hA.trans fun j hj=>h _ (eY hj)
theorem YE {o:Int} {n:Nat} {L:Nat→List T} {p:List T} {oth:List (List T)} {Y:List T} (h:mQ o p oth=some Y) (hp:gY n L (Rp aQ p)) (ho:xU n L oth):gY n L (Rp aQ Y):=by
 unfold mQ at h;split at h
 ·rename_i S hS;split at h
  ·cases h
  ·rename_i hr0;cases h;obtain⟨_,_,e⟩:=wS (o:=o) (iD hS).1 hr0;rw[e,FL,AK hS];exact gY.sc _ (hp.sum (gY.sc _ (ho.lof (DM hS))))
 ·cases h
theorem zQ {o:Int} {n:Nat} {L:Nat→List T}:∀{u i:Nat} {l l':List (List T)},i+u=l.length→xU n L l→gD o u i l=some l'→xU n L l'
 |0,i,l,l',hu,h,hr=>by have hr':some l=some l':=hr;cases hr';exact h
 |u+1,i,l,l',hu,h,hr=>by
  cases hY:mQ o (bC l i) (eN l i)with
  |none=>rw[lL hY]at hr;cases hr
  |some Y=>
   rw[kF hY]at hr;have hil:i<l.length:=by omega
   refine zQ (by rw[qE hil];omega) (fun p hp=>?_) hr;rcases ON hp with rfl|hp
   ·exact YE hY (h _ (eY hil)) (fun q hq=>h _ (NX hq))
   ·exact h p hp
theorem uD {o:Int} {n:Nat} {L:Nat→List T} {l:List (List T)} (h:aU o n L=some l):xU n L l:=by
 obtain⟨_,_,hr⟩:=gP h;refine zQ (Nat.zero_add _) (fun p hp=>?_) hr;rcases qJ.1 hp with h1|h1
 ·cases h1
 ·obtain⟨i,hi,_,rfl⟩:=sN h1;exact IR hi
theorem Db {o:Int} {p:List T} {oth:List (List T)} {Y:List T} (h:mQ o p oth=some Y):Y.length≤300:=by
 unfold mQ at h;split at h
 ·rename_i S hS;split at h
  ·cases h
  ·rename_i hr0;cases h;have h1:=iD hS
   rw[(wS (o:=o) h1.1 hr0).2.1];exact h1.2
 ·cases h
theorem CR {o:Int}:∀{u i:Nat} {l l':List (List T)},i+u=l.length→(∀k,k<i→(bC l k).length≤300)→gD o u i l=some l'→∀k,k<l.length→(bC l' k).length≤300
 |0,i,l,l',hu,h,hr=>by have hr':some l=some l':=hr;cases hr';exact fun k hk=>h k (by omega)
 |u+1,i,l,l',hu,h,hr=>by
  cases hY:mQ o (bC l i) (eN l i)with
  |none=>rw[lL hY]at hr;cases hr
  |some Y=>
   rw[kF hY]at hr;have hil:i<l.length:=by omega
   have:=CR (by rw[qE hil];omega) (fun k hk=>?_) hr
   ·rwa[qE hil]at this
   ·rw[wR hil];by_cases e:k=i
    ·rw[if_pos e];exact Db hY
    ·rw[if_neg e];exact h k (by omega)
theorem JH {o:Int} {n:Nat} {L:Nat→List T} {l:List (List T)} (h:aU o n L=some l) {k:Nat} (hk:k<l.length):(bC l k).length≤300:=by
 obtain⟨_,_,hr⟩:=gP h;have hs:=(mZ h).len
 exact CR (Nat.zero_add _) (fun k hk=>absurd hk (rT _)) hr k (by omega)
def Bo (m:M):Nat:=(m.x+m.y+m.d+m.e).toNat
theorem YK {k:Nat→M} {n:Nat} (hk:∀j,j<n→(k j).ok=true):∀N j:Nat,j<n→Bo (k j)*n+j=N→∃i,i<n∧jP k n i=true∧M.dvd (k i) (k j)=true:=by
 intro N;induction N using Nat.strongRecOn with
 |_ N ih=>
  intro j hj hN;by_cases hn:jP k n j=true
  ·exact⟨j,hj,hn,ML (hk j hj)⟩
  ·have hex:∃t,t<n∧(t≠j∧M.dvd (k t) (k j)=true∧(eF (k t) (k j)=false∨t<j)):=by refine Classical.byContradiction fun hno=>hn (decide_eq_true fun t ht hh=>hno ⟨t,ht,hh⟩)
   obtain⟨t,ht,h1,h2,h3⟩:=hex;obtain⟨a1,b1,x1,y1,d1,e1⟩:=jJ h2;have oa:=M.ok_iff.1 a1
   have ob:=M.ok_iff.1 b1;have hlt:Bo (k t)*n+t<N:=by
    rw[←hN];by_cases e:k t=k j
    ·rw[e];have:t<j:=by
      rcases h3 with q|q
      ·rw[dF.2 e]at q;cases q
      ·exact q
     omega
    ·have hd:Bo (k t)+1≤Bo (k j):=by
      unfold Bo;rcases Nat.lt_or_ge ((k t).x+(k t).y+(k t).d+(k t).e).toNat ((k j).x+(k j).y+(k j).d+(k j).e).toNat with q|q
      ·exact q
      ·exact absurd (qM (by omega) (by omega) (by omega) (by omega)) e
     have:=Nat.mul_le_mul_right n hd;rw[Nat.add_mul,Nat.one_mul]at this;omega
   obtain⟨i,hi,h4,h5⟩:=ih _ hlt t ht rfl;exact⟨i,hi,h4,Cd h5 h2⟩
theorem PK {α:Type} {nd:Nat→Bool} {f:Nat→α} {i:Nat} (hn:nd i=true):∀{n},i<n→f i∈fJ nd f n
 |0,h=>by omega
 |n+1,h=>by
  unfold fJ;by_cases e:i=n
  ·subst e;rw[if_pos hn];exact List.mem_append_right _ (List.mem_singleton.2 rfl)
  ·have:=PK (f:=f) hn (n:=n) (by omega);split
   ·exact List.mem_append_left _ this
   ·exact this
theorem CC {o:Int} {n:Nat} {L:Nat→List T} {l:List (List T)} (h:aU o n L=some l) {j:Nat} (hj:j<n):∃k,k<l.length∧M.dvd (oT o (bC l k)) (fV o L j)=true:=by
 obtain⟨ho,hl,hr⟩:=gP h;have hs:=mZ h
 obtain⟨i,hi,h1,h2⟩:=YK (k:=fun i=>(aV o (L i)).m) (n:=n) (fun j hj=>mP (o:=o) ⟨((aL hl).2 j hj).2,((aL hl).2 j hj).1⟩) _ j hj rfl;have hm:L i∈bU o n L:=qJ.2 (.inr (PK h1 hi))
 obtain⟨k,hk,e⟩:=List.mem_iff_getElem.1 hm;refine⟨k,by rw[hs.len];exact hk,?_⟩
 rw[hs.lead k hk,show bC (bU o n L) k=L i by
  show(bU o n L).getD k []=_
  rw[List.getD_eq_getElem?_getD,List.getElem?_eq_getElem hk];exact e]
 exact h2
theorem RN {o:Int} {n:Nat} {L:Nat→List T} {l:List (List T)} (hB:Mg o n L) (h:aU o n L=some l) {p:List T} {S:Dv} (hS:aW o p l.length (lN (bC l)) (fN (bC l))=some S) (hi:gY n L (Rp aQ p)):S.r=[]:=by
 obtain⟨ho,hl,hr⟩:=gP h;refine hB.free (yJ ho hl) (dG hS).1.r.1 ?_ (fun t ht j hj=>?_)
 ·rw[AK hS];exact hi.sum (gY.sc _ ((uD h).lof (DM hS)))
 ·obtain⟨k,hk,hd⟩:=CC h hj;cases hc:M.dvd (aV o (L j)).m t.m
  ·rfl
  ·have h1:=xF hS t ht k hk;have h2:=Cd hd hc
   rw[h2]at h1;cases h1
theorem Jb {l l':List (List T)} (hl:l.length=l'.length) (h:∀k,k<l.length→bC l k=bC l' k):l=l':=by
 refine List.ext_getElem hl fun k h1 h2=>?_;have:=h k h1
 unfold bC at this;rw[List.getD_eq_getElem?_getD,List.getD_eq_getElem?_getD,List.getElem?_eq_getElem h1,List.getElem?_eq_getElem h2]at this;exact this
theorem PI {α:Type} {nd:Nat→Bool} {f:Nat→α}:∀{n},(∀i,i<n→nd i=true)→fJ nd f n=(List.range n).map f
 |0,h=>rfl
 |n+1,h=>by unfold fJ;rw[if_pos (h n (by omega)),PI (n:=n) (fun i hi=>h i (by omega)),List.range_succ,List.map_append];rfl
theorem GL (l:List (List T)):(List.range l.length).map (bC l)=l:=by
 refine List.ext_getElem (by simp) fun k h1 h2=>?_;rw[List.getElem_map,List.getElem_range];show l.getD k []=_
 rw[List.getD_eq_getElem?_getD,List.getElem?_eq_getElem h2];rfl
theorem NE {α:Type} {lt:α→α→Bool} {x:α}:∀{l:List α},(∀y∈l,lt x y=false)→eX lt x l=l++[x]
 |[],_=>rfl
 |y::r,h=>by unfold eX;rw[if_neg (by rw[h y (List.mem_cons_self ..)];simp),NE (l:=r) (fun z hz=>h z (List.mem_cons_of_mem _ hz))];rfl
theorem VR {α:Type} {lt:α→α→Bool}:∀{l acc:List α},(acc++l).Pairwise (fun a b=>lt b a=false)→iT lt acc l=acc++l
 |[],acc,_=>by rw[List.append_nil];rfl
 |x::r,acc,h=>by
  show iT lt (eX lt x acc) r=_;have h1:=List.pairwise_append.1 h
  rw[NE (fun y hy=>h1.2.2 y hy x (List.mem_cons_self ..)),VR (by rw[List.append_assoc];exact h),List.append_assoc];rfl
theorem RO {o:Int} {l:List (List T)} (h:FG o l):bU o l.length (bC l)=l:=by
 unfold bU
 rw[PI (nd:=jP (fun i=>(aV o (bC l i)).m) l.length) (fun i hi=>decide_eq_true fun j hj hh=>by
  have:=h.anti j i hj hi hh.1;rw[show M.dvd (oT o (bC l j)) (oT o (bC l i))=true from hh.2.1]at this
  cases this),GL]
 refine(VR (acc:=[]) ?_).trans (List.nil_append _);rw[List.nil_append];refine List.pairwise_iff_getElem.2 fun i j hi hj hij=>decide_eq_false ?_;have:=h.rise i j hij hj
 unfold bC at this;rw[List.getD_eq_getElem?_getD,List.getD_eq_getElem?_getD,List.getElem?_eq_getElem hi,List.getElem?_eq_getElem hj]at this;have e:fH o (aV o l[i]).m<fH o (aV o l[j]).m:=this
 omega
theorem YX {l:List (List T)} {i:Nat} (h:i<l.length):jH l i (bC l i)=l:=by
 refine Jb (qE h) fun k hk=>?_;rw[wR h];by_cases e:k=i
 ·rw[if_pos e,e]
 ·rw[if_neg e]
theorem YF {o:Int} {l:List (List T)} (h:FG o l) {i:Nat} (hi:i<l.length) (hn:(bC l i).length≤300):mQ o (bC l i) (eN l i)=some (bC l i):=by
 have oP:=h.ok _ (eY hi)
 have hR:=OT (o:=o) (p:=bC l i) (n:=(eN l i).length) (L:=bC (eN l i)) h.ho oP.1 (wT (KC h.ok) (by rw[jF hi];have:=h.le;omega)) hn (fun t ht j hj=>by
  obtain⟨k,hk,hki,e⟩:=KD (eY hj);rw[←e]
  exact h.free i hi t ht k hk hki)
 unfold mQ;rw[hR];show(if(bC l i).length=0 then none else some (pY o (bC l i)))=_
 rw[if_neg oP.2];unfold pY;rw[h.one i hi,show kN 1=1 from by decide+kernel,Ke oP.1]
theorem zS {o:Int} {l:List (List T)} (h:FG o l) (hn:∀k,k<l.length→(bC l k).length≤300):∀{u i:Nat},i+u=l.length→gD o u i l=some l
 |0,i,_=>rfl
 |u+1,i,hu=>by rw[kF (YF h (by omega) (hn i (by omega))),YX (by omega)];exact zS h hn (by omega)
theorem CB {o:Int} {n:Nat} {L:Nat→List T} {l:List (List T)} (h:aU o n L=some l):aU o l.length (bC l)=some l:=by have hL:=iZ h;unfold aU;rw[if_pos ⟨hL.ho,wT hL.ok hL.le⟩,RO hL];exact zS hL (fun k hk=>JH h hk) (Nat.zero_add _)
theorem FA {o:Int} {l:List (List T)} (h:FG o l) {i:Nat} (hi:i<l.length):tQ o (bC l i).length (lf (bC l i)) (eN l i).length (lN (bC (eN l i))) (fN (bC (eN l i)))=true:=by refine decide_eq_true ⟨h.ho,(h.ok _ (eY hi)).1,wT (KC h.ok) (by rw[jF hi];have:=h.le;omega),fun k hk j hj=>?_⟩;obtain⟨t,ht,hti,e⟩:=KD (eY hj);rw[Nq,←e];exact h.free i hi _ (lK hk) t ht hti
theorem XZ {o:Int} {l:List (List T)} (h:FG o l) {i j:Nat} (hij:i<j) (hj:j<l.length):M.cmp o (oT o (bC l i)) (oT o (bC l j))<0:=by
 have o1:=mP (o:=o) (h.ok _ (eY (l:=l) (i:=i) (by omega)));have o2:=mP (o:=o) (h.ok _ (eY hj))
 unfold M.cmp;rw[if_pos ⟨h.ho,o1,o2⟩];exact(SL h.ho o1 o2).2 (h.rise i j hij hj)
theorem NM (n:Nat) (L:Nat→List T):YG n L n L=true:=decide_eq_true ⟨rfl,fun i _=>rH (L i)⟩
theorem UB (w:World) (a a':Option Addr) (n cap n' cap':Nat) (ad ad':Nat→Option Addr) (cp cp':Nat→Nat) (L L':Nat→List T) (h:cZ w a n cap ad (lN L) cp (fN L)) (h':cZ w a' n' cap' ad' (lN L') cp' (fN L')):Calls Tryz.prog 34 #[.slice a n cap,.slice a' n' cap'] w (ZP w (.bool (YG n L n' L'))):=by
 have hn:(n:Int)≤140737488351232:=by have:=h.2.1;omega
 have hn':(n':Int)≤140737488351232:=by have:=h'.2.1;omega
 obtain⟨r,hr⟩:∃r,YG n L n' L'=r:=⟨_,rfl⟩
 rw[hr];have HR:=aA hr
 have HH:=aA h;have HH':=aA h'
 clear h h' hr;unfold ZP;by_cases hnn:n=n'
 ·subst hnn;have hne:((n:Int)!=(n:Int))=false:=by simp
  go_enter Tryz.func34,Tryz.ntmps34;go_wp2;go_loopw [5] (fun v wr=>∃i:Nat,i≤n∧v= .int .i64 (i:Int)∧Below w.heap.size w wr∧∀j,j<i→L j=L' j) (fun v _=>n-(intOf v).toNat);case atStart=>exact⟨0,Nat.zero_le _,rfl,bL _ _,fun j hj=>by omega⟩
  case round=>
   obtain⟨i,hi,rfl,hB,hJ⟩:=hrel;have HJ:=aA hJ
   clear hJ;by_cases hlt:i<n
   ·rcases HH.out.2.2.1 with h0|⟨b,off,rfl,hblt,hcl⟩
    ·omega
    rcases HH'.out.2.2.1 with h0|⟨b',off',rfl,hblt',hcl'⟩
    ·omega
    have hil:(i:Int)<(n:Int):=by omega
    have hbr:b<wr.heap.size:=jY hblt hB.size;have hbr':b'<wr.heap.size:=jY hblt' hB.size
    have ne:=bJ.there wr;obtain⟨l,hl⟩:∃l,(L i).length=l:=⟨_,rfl⟩
    obtain⟨l',hl'⟩:∃l',(L' i).length=l':=⟨_,rfl⟩
    have g0:wr.cell? ⟨b,off+i,none⟩=some (.slice (ad i) l (cp i)):=(hB.cell (p:=⟨b,off+i,none⟩) hblt).trans (by rw[←hl];exact hcl i hlt);have g1:wr.cell? ⟨b',off'+i,none⟩=some (.slice (ad' i) l' (cp' i)):=(hB.cell (p:=⟨b',off'+i,none⟩) hblt').trans (by rw[←hl'];exact hcl' i hlt)
    have s0:∀u:bJ wr,u.1.cell? ⟨b,off+i,none⟩=some (.slice (ad i) l (cp i)):=fun u=>(u.cell hbr).trans g0;have s1:∀u:bJ wr,u.1.cell? ⟨b',off'+i,none⟩=some (.slice (ad' i) l' (cp' i)):=fun u=>(u.cell hbr').trans g1
    have HK:=aA ((HH.out.2.2.2 i hlt).below hB);have HK':=aA ((HH'.out.2.2.2 i hlt).below hB)
    have HB:=aA hB;obtain⟨q,hq⟩:∃q,sq (L i) (L' i)=q:=⟨_,rfl⟩
    have HQ:=aA hq;have hcall:∀u:bJ wr,Calls Tryz.prog 32 #[.slice (ad i) l (cp i),.slice (ad' i) l' (cp' i)] u.1 fun r w'=>r= .returned (.bool q)∧Below u.1.heap.size u.1 w':=fun u=>by have:=Nc (w:=u.1) (a:=ad i) (ca:=cp i) (L:=L i) (b:=ad' i) (cb:=cp' i) (K:=L' i) (HK.out.below u.2) (HK'.out.below u.2);rw[hq,hl,hl']at this;exact this
    clear hcl hcl' hB g0 g1 hq hl hl';go_wp2_with fail;refine aG (by kernel_rfl) (by kernel_rfl) ?_;repeat(go_big_quiet_step (first|(go_at_call 32;exact aJ (hcall _))|fail))
    refine wpQuiet_nil ?_;rintro _ ⟨v,rfl⟩;have HV:=aA v.2
    clear s0 s1 ne hcall;cases q
    ·have hr:r=false:=by
      rw[←HR.out];refine yM (fun hh=>?_);have h1:=HQ.out
      rw[hh.2 i hlt,rH]at h1;cases h1
     subst hr;go_wp2;go_ret;exact⟨rfl,aB HB.out HV.out⟩
    ·have he:=DW.1 HQ.out;have HE:=aA he
     clear he;go_wp2;go_roundw
     case rel=>exact⟨i+1,by omega,by go_num,aB HB.out HV.out,fun j hj=>by
      by_cases e:j=i
      ·rw[e];exact HE.out
      ·exact HJ.out j (by omega)⟩
     case measure=>simp[intOf];omega
   ·have hnl:¬(i:Int)<(n:Int):=by omega
    have hr:r=true:=by rw[←HR.out];exact AL.2 ⟨rfl,fun j hj=>HJ.out j (by omega)⟩
    subst hr;go_wp2;go_ret;exact⟨rfl,hB⟩
 ·have hne:((n:Int)!=(n':Int))=true:=by simp;omega
  have hr:r=false:=by rw[←HR.out];exact yM (fun hh=>hnn hh.1)
  subst hr;go_enter Tryz.func34,Tryz.ntmps34;go_wp2;go_ret;exact⟨rfl,bL _ _⟩
def Oe (o:Int) (n:Nat) (L:Nat→List T) (i k:Nat):Nat:=
 match dV o (lf (L i)) (L i).length (lf (L k)) (L k).length with
 |(s,true)=>(match aW o s n (lN L) (fN L)with
  |some S=>if S.r.length=0 then 2 else 1
  |none=>0)
 |(_,false)=>0
def CD (o:Int) (n:Nat) (L:Nat→List T):Bool:=decide ((1≤o∧o≤3)∧aT n (lN L) (fN L)=true∧∀k,k<n→∀i,i<k→Oe o n L i k=2)
theorem Ju {o:Int} {n:Nat} {L:Nat→List T} {i k:Nat} (h:Oe o n L i k=2):∃s S,dV o (lf (L i)) (L i).length (lf (L k)) (L k).length=(s,true)∧aW o s n (lN L) (fN L)=some S∧S.r=[]:=by
 unfold Oe at h;split at h
 ·rename_i s hs;split at h
  ·rename_i S hS;split at h
   ·rename_i h0;exact⟨s,S,hs,hS,List.length_eq_zero_iff.1 h0⟩
   ·omega
  ·omega
 ·omega
theorem Mm {o:Int} {n:Nat} {L:Nat→List T} (h:CD o n L=true):Mg o n L∧(1≤o∧o≤3)∧aT n (lN L) (fN L)=true:=by
 obtain⟨ho,hl,hp⟩:=of_decide_eq_true h;have hL:=yJ ho hl
 refine⟨Ml hL fun i k hi hk=>?_,ho,hl⟩;obtain⟨s,S,h1,h2,h3⟩:=Ju (hp k hk i hi);exact GY hL (by omega) hk h1 h2 h3
theorem UA {S:Dv} (h:S.r=[]):FZ (some S)=true:=by show(true&&decide (S.r.length=0))=true;rw[h];rfl
theorem Rk (w:World) (lo Q z:Nat) (lv:Value) (m:Nat) (kf:Nat→T) (B:Nat→Nat) (a e:Nat) (h:lQ w lo Q z lv m kf B a e) (hae:a≤e) (b:Nat) (hb:jK w b (oW kf e) none) (hlo:lo≤b) (hbQ:b≠Q) (hbl:lv.ownBlock≠some b) (hbB:∀j,a≤j→j<e→B j≠b):Calls Tryz.prog 121 #[.pointer (some ⟨Q,z,none⟩),.pointer (some ⟨b,0,none⟩)] w fun r w'=>r= .returned (.tuple #[])∧lQ w' lo Q z lv m kf (AE B e b) a (e+1)∧Fr (fun k=>k=Q∨(a<e∧k=B (e-1))) w w':=by
 have HP:=aA (h.push hae hb hlo hbQ hbl hbB);obtain⟨tv,ht,ht2⟩:=h.ct;have c0:=h.cf
 have z1:=h.fz.2.1;have z2:=h.fz.2.2
 by_cases hlt:a<e
 ·obtain rfl:=ht2 hlt;have e0:qF B a e=some ⟨B a,0,none⟩:=if_pos hlt
  rw[e0]at c0;have hp:=h.pr (e-1) (by omega) (by omega)
  have k1:=hp.nx;have k2:=hp.fz
  have hne:B (e-1)≠Q:=(h.bk (e-1) (by omega) (by omega)).2.1;have HQ:=HP.out
  rw[if_pos hlt]at HQ;have HF:Hid (Fr (fun k=>k=Q∨(a<e∧k=B (e-1))) w ((w.setCell ⟨B (e-1),12,none⟩ (.pointer (some ⟨b,0,none⟩))).setCell ⟨Q,z+2,none⟩ (.pointer (some ⟨b,0,none⟩)))):=((Fr.refl _ w).set (fun _=>.inr ⟨hlt,rfl⟩)).set (fun _=>.inl rfl)
  have HQ2:=aA HQ;obtain⟨L,hL⟩:∃L,B (e-1)=L:=⟨_,rfl⟩
  rw[hL]at ht k1 k2 hne;have HL:=aA hL
  clear h hp HQ ht2 e0 HP hb hL hbB;go_enter Tryz.func121,Tryz.ntmps121;go_wp2
  go_end0
  refine⟨rfl,?_⟩;have h1:=HQ2.out
  have h2:=HF.out;rw[HL.out]at h1;rw[←HL.out]at h1⊢;exact⟨h1,h2⟩
 ·have e0:qF B a e=none:=if_neg hlt;rw[e0]at c0;have HQ:=HP.out
  rw[if_neg hlt]at HQ;have HF:Hid (Fr (fun k=>k=Q∨(a<e∧k=B (e-1))) w ((w.setCell ⟨Q,z+1,none⟩ (.pointer (some ⟨b,0,none⟩))).setCell ⟨Q,z+2,none⟩ (.pointer (some ⟨b,0,none⟩)))):=((Fr.refl _ w).set (fun _=>.inl rfl)).set (fun _=>.inl rfl)
  have HQ2:=aA HQ;clear h HQ ht2 e0 HP hb hbB;go_enter Tryz.func121,Tryz.ntmps121;go_wp2
  go_end0
  exact⟨rfl,HQ2.out,HF.out⟩
theorem Tf (w:World) (lo Q z:Nat) (lv:Value) (m:Nat) (kf:Nat→T) (B:Nat→Nat) (a e:Nat) (h:lQ w lo Q z lv m kf B a e) (hlt:a<e):Calls Tryz.prog 80 #[.pointer (some ⟨Q,z,none⟩)] w fun r w'=>r= .returned (.pointer (some ⟨B a,0,none⟩))∧lQ w' lo Q z lv m kf B (a+1) e∧jK w' (B a) (oW kf a) (qF B (a+1) e)∧Fr (fun k=>k=Q) w w':=by
 have HP:=aA (h.pop hlt);have c0:=h.cf
 have z1:=h.fz.2.1;have e0:qF B a e=some ⟨B a,0,none⟩:=if_pos hlt
 rw[e0]at c0;have hp:=h.pr a (Nat.le_refl _) hlt
 have k1:=hp.nx;have k2:(if a+1<e then some (⟨B (a+1),0,none⟩:Addr)else none)=qF B (a+1) e:=rfl
 rw[k2]at k1;have hne:B a≠Q:=(h.bk a (Nat.le_refl _) hlt).2.1
 have HF:Hid (Fr (fun k=>k=Q) w (w.setCell ⟨Q,z+1,none⟩ (.pointer (qF B (a+1) e)))):=(Fr.refl _ w).set (fun _=>rfl);clear h hp e0 k2;go_enter Tryz.func80,Tryz.ntmps80;go_wp2;go_ret;exact⟨rfl,HP.out.1,HP.out.2,HF.out⟩
theorem Mk.idl {o:Int} {g:Nat} {L0:Nat→List T} {B:Bs} {j:Nat} (h:Mk o g L0 B j) {i:Nat} (hi:i<B.m):gY g L0 (Rp aQ (B.L i)):=by rw[←h.pf i hi];exact gY.qsum fun t ht=>(aD (h.ok.p i hi t ht)).2
theorem Ic {o:Int} {np:Nat} {p:Nat→T} {n:Nat} {ln:Nat→Nat} {f:Nat→Nat→T} (o1:1≤o) (o2:o≤3) (hop:aN np p=true) (hls:aT n ln f=true):tQ o np p n ln f= !decide (0≤jS (fun t=>decide (0≤jS (fun s=>M.dvd s.m t.m) (lf (kD o ln f n)) n)) p np):=by
 have key:0≤jS (fun t=>decide (0≤jS (fun s=>M.dvd s.m t.m) (lf (kD o ln f n)) n)) p np↔∃k,k<np∧∃i,i<n∧M.dvd (kC o ln f i).m (p k).m=true:=by
  rw[qT];refine⟨fun⟨k,hk,hd⟩=>?_,fun⟨k,hk,i,hi,hd⟩=>?_⟩
  ·obtain⟨i,hi,h⟩:=qT.1 (of_decide_eq_true hd);refine⟨k,hk,i,hi,?_⟩;rw[←oS o ln f n i hi];exact h
  ·refine⟨k,hk,decide_eq_true (qT.2 ⟨i,hi,?_⟩)⟩;show M.dvd (lf (kD o ln f n) i).m (p k).m=true
   rw[oS o ln f n i hi];exact hd
 by_cases h:0≤jS (fun t=>decide (0≤jS (fun s=>M.dvd s.m t.m) (lf (kD o ln f n)) n)) p np
 ·rw[decide_eq_true h];obtain⟨k,hk,i,hi,hd⟩:=key.1 h;exact decide_eq_false (fun hh=>by have:=hh.2.2.2 k hk i hi;rw[hd]at this;cases this)
 ·rw[decide_eq_false h]
  exact decide_eq_true ⟨⟨o1,o2⟩,hop,hls,fun k hk i hi=>by
   cases hd:M.dvd (kC o ln f i).m (p k).m
   ·rfl
   ·exact absurd (key.2 ⟨k,hk,i,hi,hd⟩) h⟩
theorem Fb (w:World) (o:Int) (pa:Option Addr) (np pc:Nat) (p:Nat→T) (hp:Rd w pa np pc p) (a:Option Addr) (n cap:Nat) (ad:Nat→Option Addr) (ln cp:Nat→Nat) (f:Nat→Nat→T) (h:cZ w a n cap ad ln cp f):Calls Tryz.prog 35 #[.int .i64 o,.slice pa np pc,.slice a n cap] w fun r w'=>r= .returned (.bool (tQ o np p n ln f))∧Below w.heap.size w w':=by
 have HP:=aA hp;have HH:=aA h
 clear hp h;by_cases ho:1≤o∧o≤3
 ·obtain⟨o1,o2⟩:=ho;cases hls:aT n ln f
  ·have e:tQ o np p n ln f=false:=decide_eq_false (fun hh=>by have:=hh.2.2.1;rw[hls]at this;cases this);rw[e];clear e;go_enter Tryz.func35,Tryz.ntmps35;go_wp2_with fail;refine(jM _ _ _ _ _ _ _ _ _ HH.out o1 o2 hls).mono ?_;rintro r w1 ⟨rfl,hb⟩;have HB:=aA (aB hb (aC w1 (.cells #[.slice none 0 0] 45)))
   clear hb;go_wp2;go_ret;exact⟨rfl,HB.out⟩
  ·have HL:=aA (kM w o a n cap ad ln cp f HH.out o1 o2 hls);have hn12:n≤12:=(aL hls).1
   have hlen:=fU o ln f n;cases hop:aN np p
   ·have e:tQ o np p n ln f=false:=decide_eq_false (fun hh=>by have:=hh.2.1;rw[hop]at this;cases this);rw[e];clear e hlen;go_enter Tryz.func35,Tryz.ntmps35;go_wp2_with fail;refine HL.out.mono ?_;rintro r w1 ⟨v,rfl,hb,hown⟩;have hl1:v.oneCell'=true:=by rcases hown.2 with⟨hv,_⟩|⟨g,cap,cur,hv,_⟩<;>(rw[hv];rfl)
    obtain⟨a1,c1,rfl,hout⟩:=aH hown (by rw[fU];omega);have HB:=aA (aB hb (aC w1 (.cells #[.slice a1 (kD o ln f n).length c1] 45)))
    clear hb hown hout HL hl1;go_wp2_with fail;refine(eO _ _ _ _ p (HP.out.below HB.out)).mono ?_;rw[hop];rintro r w2 ⟨rfl,hb2⟩;have HB2:=aA (aB HB.out hb2)
    clear hb2;go_wp2;go_ret;exact⟨rfl,HB2.out⟩
   ·obtain⟨bv,hbv⟩:∃bv,decide (0≤jS (fun t=>decide (0≤jS (fun s=>M.dvd s.m t.m) (lf (kD o ln f n)) n)) p np)=bv:=⟨_,rfl⟩
    rw[Ic o1 o2 hop hls,hbv];have HV:=aA hbv
    have HN:=aA hlen;clear hbv hlen;go_enter Tryz.func35,Tryz.ntmps35;go_wp2_with fail;refine HL.out.mono ?_;rintro r w1 ⟨v,rfl,hb,hown⟩;obtain⟨a1,c1,rfl,hout⟩:=aH hown (by rw[fU];omega);have hrd:=hout.1
    rw[HN.out]at hrd⊢;have HB:=aA (aB hb (aC w1 (.cells #[.slice a1 n c1] 45)))
    have HRD:=aA (hrd.below (aC w1 (.cells #[.slice a1 n c1] 45)));have HCL:Hid ((w1.alloc (.cells #[.slice a1 n c1] 45)).cell? ⟨w1.heap.size,0,none⟩=some (.slice a1 n c1)):=by show _=_;rw[World.cell?_alloc_at _ _ _ _ rfl];rfl
    have hsz:w1.heap.size<(w1.alloc (.cells #[.slice a1 n c1] 45)).heap.size:=by simp
    have HSZ:=aA hsz;clear hb hown hout HL hrd hsz;go_wp2_with fail;refine(eO _ _ _ _ p (HP.out.below HB.out)).mono ?_;rw[hop];rintro r w2 ⟨rfl,hb2⟩;have HB2:=aA (aB HB.out hb2)
    have HRD2:=aA (HRD.out.below hb2);have HCL2:=aA ((hb2.cell (p:=⟨w1.heap.size,0,none⟩) HSZ.out).trans HCL.out)
    have hsz2:w1.heap.size<w2.heap.size:=jY HSZ.out hb2.size;have HC:=aA (Tb w2 pa np pc p 74 #[.pointer (some ⟨w1.heap.size,0,none⟩)] (fun t=>decide (0≤jS (fun s=>M.dvd s.m t.m) (lf (kD o ln f n)) n)) (fun W=>Rd W a1 n c1 (lf (kD o ln f n))∧W.cell? ⟨w1.heap.size,0,none⟩=some (.slice a1 n c1)) (enters_of Tryz.func74 (by kernel_rfl) rfl) (fun k W hk hQ=>Qd (p k) a1 n c1 (lf (kD o ln f n)) _ W hQ.1 hQ.2) (fun W' hb=>⟨HRD2.out.below hb,(hb.cell (p:=⟨w1.heap.size,0,none⟩) hsz2).trans HCL2.out⟩) (HP.out.below HB2.out))
    clear hb2 hsz2 HRD HCL HRD2 HCL2 HSZ HB;go_wp2_with fail;refine HC.out.mono ?_;rw[HV.out];rintro r w3 ⟨rfl,hb3⟩;have HB3:=aA (aB HB2.out hb3)
    clear hb3 HC HV;cases bv
    ·go_wp2;go_ret;exact⟨rfl,HB3.out⟩
    ·go_wp2;go_ret;exact⟨rfl,HB3.out⟩
 ·have e:tQ o np p n ln f=false:=decide_eq_false (fun hh=>ho hh.1);have hout:o<1∨3<o:=by omega
  rw[e];clear ho e;go_enter Tryz.func35,Tryz.ntmps35;go_wp2_with fail;refine(iS _ _ _ _ _ hout).mono ?_;rintro r w1 ⟨rfl,hb⟩;have HB:=aA (aB hb (aC w1 (.cells #[.slice none 0 0] 45)))
  clear hb hout;go_wp2;go_ret;exact⟨rfl,HB.out⟩
end Go.Proofs.YtdidlcjhodejjaaGreat
