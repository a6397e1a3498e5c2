/-
  What is made of a list; when a list is a basis; what is left by a basis.
-/
import Derived.Test.YtelkehjdfcoeiaaGreatNbf
namespace Go.Proofs.YtelkehjdfcoeiaaGreat
open Go.RowKit Go.Deep Go.Joins
set_option linter.unusedVariables false
theorem YO (d:Fq):Lq.sc d Lq.nil=Lq.nil:=Lq.ext fun u n k=>by show d*(0:Fq)=0;grind
theorem IY (A:Lq):Lq.sum Lq.nil A=A:=by rw[Lq.sum_comm,Lq.sum_nil]
section
variable {o:Int} {n:Nat} {L:Nat→List T}
theorem SU (g:sF) (t:T) (r:List T):Rp g (t::r)=Lq.sum (Lq.sc (zz t.c) (mo g t.m)) (Rp g r):=Lq.ext fun u n k=>rfl
theorem IOz (A:Lq):Lq.mul (mo aS ⟨0,0,0,0⟩) A=A:=rfl
theorem M.sum_comm (a b:M):a.sum b=b.sum a:=by unfold M.sum;refine sG ?_ ?_ ?_ ?_<;>(simp only;omega)
theorem FQ (ho:1≤o∧o≤3) (hl:aW n (lN L) (fN L)=true):xA o n L:=⟨ho,fun j hj=>⟨((aU hl).2 j hj).2,((aU hl).2 j hj).1⟩⟩
theorem WS:zz 100= -1:=by decide
theorem UH {p:List T} {S:Dv} (h:dA o p n (lN L) (fN L)=some S):Rp aS S.r=Lq.sum (Rp aS p) (Lq.sc (-1) (iD aS n L S.q)):=by
 rw[←qE aS h];refine Lq.ext fun u a b=>?_;simp only[SB,YN]
 grind
theorem Lo.rp {δ:M} {j:Nat} (hj:j<n):∀q:List T,(∀t∈q,t.m.nn∧rH o (t.m.sum (iC o L j)) δ)→Lo o n L δ (Lq.mul (Rp aS q) (Rp aS (L j)))
 |[],_=>by rw[nK,Lq.nil_mul];exact Lo.nil
 |t::r,hq=>by rw[SU,Lq.sum_mul,Lq.sc_mul];obtain⟨h1,h2⟩:=hq t (List.mem_cons_self ..);exact Lo.cons _ t.m j hj h1 h2 (Lo.rp hj r (fun s hs=>hq s (List.mem_cons_of_mem _ hs)))
theorem Lo.sumN {δ:M} {f:Nat→Lq}:∀k,(∀i,i<k→Lo o n L δ (f i))→Lo o n L δ (Lq.sumN f k)
 |0,_=>Lo.nil
 |k+1,h=>Lo.sum (Lo.sumN k (fun i hi=>h i (by omega))) (h k (by omega))
theorem YF (a b:Int):mx a b=if a≤b then b else a:=by unfold mx;split<;>split<;>omega
theorem NS {a b:M} (ha:a.ok=true) (hb:b.ok=true):M.both a b=M.lcm a b:=by unfold M.both M.lcm;rw[if_pos ⟨ha,hb⟩];simp only[YF]
theorem DG {a b c:M} (h:M.mul a b=(c,true)):a.sum b=c∧c.ok=true:=by
 unfold M.mul at h;split at h
 ·rename_i hh;cases h;exact⟨rfl,hh.2.2⟩
 ·cases h
theorem ZO {a b:Int} (h:c3 a b<0):a<b:=by unfold c3 at h;split at h<;>(try split at h)<;>omega
theorem JS {a b c:M} (h:a.sum b=c):a=M.sub c b:=by rw[←h];unfold M.sub M.sum;refine sG ?_ ?_ ?_ ?_<;>(simp only;omega)
theorem WL {a b:Int} (ha:1≤a∧a≤100) (hb:1≤b∧b≤100) (h:nT a b=1):zz a*zz b=1:=by rw[gY (by omega) ha.2 (by omega) hb.2]at h;rw[←lR,←jE,h];rfl
theorem AU (hL:xA o n L) {i k:Nat} (hi:i<n) (hk:k<n) {s:List T} (hs:dH o (lf (L i)) (L i).length (lf (L k)) (L k).length=(s,true)):∃U V:T,U=eR o (L i).length (lf (L i)) (L k).length (lf (L k))∧V=eS o (L i).length (lf (L i)) (L k).length (lf (L k))∧zz U.c*zz (dD o (L i)).c=1∧zz V.c*zz (dD o (L k)).c=1∧U.m=M.sub (M.lcm (iC o L i) (iC o L k)) (iC o L i)∧V.m=M.sub (M.lcm (iC o L i) (iC o L k)) (iC o L k)∧Rp aS s=Lq.sum (Lq.sc (zz U.c) (Lq.mul (mo aS U.m) (Rp aS (L i)))) (Lq.sc (-(zz V.c)) (Lq.mul (mo aS V.m) (Rp aS (L k))))∧(M.lcm (iC o L i) (iC o L k)).ok=true∧∀t∈s,iR o t.m<iR o (M.lcm (iC o L i) (iC o L k)):=by
 obtain⟨hok,X,Y,hX,hY,oX,oY,es,hl⟩:=lQ hs;obtain⟨gU,gV⟩:=rV hok;obtain⟨m1,m2,c1,c2,_⟩:=JP hok;have hb:=MP hs
 have li:bF o (L i).length (lf (L i))=dD o (L i):=(sP hL.ho (hL.fl i hi).1 (hL.fl i hi).2).symm;have lk:bF o (L k).length (lf (L k))=dD o (L k):=(sP hL.ho (hL.fl k hk).1 (hL.fl k hk).2).symm
 have eB:kT o (L i).length (lf (L i)) (L k).length (lf (L k))=M.lcm (iC o L i) (iC o L k):=by unfold kT;rw[li,lk];exact NS (hL.good hi).1 (hL.good hk).1
 rw[eB,li]at m1;rw[eB,lk]at m2;rw[li]at c1;rw[lk]at c2;rw[eB]at hb;obtain⟨s1,k1⟩:=DG m1;obtain⟨s2,_⟩:=DG m2;refine⟨_,_,rfl,rfl,WL gU.2 (hL.good hi).2 c1,WL gV.2 (hL.good hk).2 c2,JS s1,JS s2,?_,k1,fun t ht=>?_⟩
 ·rw[es,uS aS (aD oX).2 (aD oY).2,sJ aS hX,sJ aS hY,uR,uR,Lq.sc_mul,Lq.sc_mul,Lq.sc_sc,WS];congr 2
  grind
 ·have fs:aH s:=(aD (RU hs)).2;have:=hb t ht
  unfold M.cmp at this;rw[if_pos ⟨hL.ho,(fs.2 t ht).1,k1⟩,AN hL.ho (fs.2 t ht).1 k1]at this;exact ZO this
theorem JQ (hL:xA o n L) {s:List T} {S:Dv} (hr:dA o s n (lN L) (fN L)=some S) {μ:M} (hμ:μ.ok=true) (hs:∀t∈s,iR o t.m<iR o μ):Lo o n L μ (iD aS n L S.q)∧∀t∈S.r,iR o t.m<iR o μ:=by
 obtain⟨r1,r2⟩:=QT hr (N:=iR o μ-1) (fun t ht=>by have:=hs t ht;omega);refine⟨Lo.sumN n fun i hi=>Lo.rp hi _ (fun t ht=>?_),fun t ht=>by have:=r1 t ht;omega⟩;obtain⟨h1,h2⟩:=r2 i hi t ht;have fq:=(dB hr).1.q i
 exact⟨yX (fq.1.2 t ht).1,AM hL.ho h1 hμ (by show iR o (t.m.sum (dD o (L i)).m)<_;omega)⟩
theorem DO (hL:xA o n L) {i k:Nat} (hi:i<n) (hk:k<n) {s:List T} (hs:dH o (lf (L i)) (L i).length (lf (L k)) (L k).length=(s,true)) (h:Lo o n L (M.lcm (iC o L i) (iC o L k)) (Rp aS s)):yY o n L i k:=fun u v hu hv=>by
 obtain⟨U,V,_,_,u1,v1,um,vm,e,_⟩:=AU hL hi hk hs;have eu:u=zz U.c:=by
  have:u*(zz (dD o (L i)).c*zz U.c)=zz U.c:=by rw[←Fin.mul_assoc,hu];grind
  have u1':zz (dD o (L i)).c*zz U.c=1:=by grind
  rw[u1']at this
  grind
 have ev:v=zz V.c:=by
  have:v*(zz (dD o (L k)).c*zz V.c)=zz V.c:=by rw[←Fin.mul_assoc,hv];grind
  have u1':zz (dD o (L k)).c*zz V.c=1:=by grind
  rw[u1']at this
  grind
 rw[e]at h;rw[eu,ev,←um,←vm];exact h
theorem LU (hL:xA o n L) {i k:Nat} (hi:i<n) (hk:k<n) {s:List T} (hs:dH o (lf (L i)) (L i).length (lf (L k)) (L k).length=(s,true)) {S:Dv} (hr:dA o s n (lN L) (fN L)=some S) (h0:S.r=[]):yY o n L i k:=by obtain⟨U,V,_,_,u1,v1,um,vm,e,k1,hb⟩:=AU hL hi hk hs;refine DO hL hi hk hs ?_;rw[←qE aS hr,h0,nK,Lq.sum_nil];exact(JQ hL hr k1 hb).1
end
end Go.Proofs.YtelkehjdfcoeiaaGreat
namespace Go.Proofs.YtelkehjdfcoeiaaGreat
open Go.RowKit Go.Deep Go.Joins
set_option linter.unusedVariables false
theorem JX {q X P:List T} (hq:cJ q=true) (hX:cJ X=true) (h:bN (lf q) (lf X) X.length q.length=some P):kO q X=(P,true):=by unfold kO aZ;rw[if_pos ⟨hq,hX⟩,h];rfl
theorem OU (g:sF) {R q X Y:List T} (hR:cJ R=true) (hq:cJ q=true) (hX:cJ X=true) (h:cT R q X=some Y):Rp g Y=Lq.sum (Rp g R) (Lq.sc (-1) (Lq.mul (Rp g q) (Rp g X))):=by
 unfold cT at h;split at h
 ·rename_i P hP;split at h
  ·have hw:=JX hq hX hP;cases h;rw[uS g (aD hR).2 (aD (wW hw)).2,sJ g hw,WS]
  ·cases h
 ·cases h
theorem CW {row:Nat→List T} {q:List T} {oth:Nat→List T} {g:Nat} (hrow:∀i,i<g→cJ (row i)=true) (hq:cJ q=true) (ho:∀i,i<g→cJ (oth i)=true):∀j R,j≤g→bU row q oth j=some R→∀i,i<j→Rp aS (R i)=Lq.sum (Rp aS (row i)) (Lq.sc (-1) (Lq.mul (Rp aS q) (Rp aS (oth i))))
 |0,R,_,_,i,hi=>by omega
 |j+1,R,hj,h,i,hi=>by
  cases hr:bU row q oth j with
  |none=>have:=mQ hr 1;rw[this]at h;cases h
  |some R1=>
   cases he:cT (row j) q (oth j)with
   |none=>have:=oN (g:=j+1) (by omega) hr he;rw[this]at h;cases h
   |some Y=>
    rw[pV hr he]at h;cases h;unfold bK;split
    ·rename_i e;subst e;exact OU aS (hrow i (by omega)) hq (ho i (by omega)) he
    ·exact CW hrow hq ho j R1 (by omega) hr i (by omega)
theorem MF {g:Nat} {L0 row oth R:Nat→List T} {A:Lq} (h:∀i,i<g→Rp aS (R i)=Lq.sum (Rp aS (row i)) (Lq.sc (-1) (Lq.mul A (Rp aS (oth i))))):iD aS g L0 R=Lq.sum (iD aS g L0 row) (Lq.sc (-1) (Lq.mul A (iD aS g L0 oth))):=by unfold iD;rw[Lq.mul_sumN,iI,←Lq.sumN_sum];exact Lq.sumN_congr fun i hi=>by rw[h i hi,Lq.sum_mul,Lq.sc_mul,Lq.mul_assoc]
theorem pU {g:Nat} {L0 row oth R:Nat→List T} {q:List T} (hrow:∀i,i<g→cJ (row i)=true) (hq:cJ q=true) (ho:∀i,i<g→cJ (oth i)=true) (h:bU row q oth g=some R):iD aS g L0 R=Lq.sum (iD aS g L0 row) (Lq.sc (-1) (Lq.mul (Rp aS q) (iD aS g L0 oth))):=
 MF (CW hrow hq ho g R (Nat.le_refl _) h)
theorem VW (c:Int):zz (101-c)= -(zz c):=by
 have h:zz (101-c)+zz c=0:=by rw[←GT,show 101-c+c=101 by omega];rfl
 grind
theorem yI {g m:Nat} {L0 L:Nat→List T} {P:Nat→Nat→List T} {i k:Nat} {u v:T} {qs:Nat→List T} (hi:i<m) (hk:k<m) (hP:∀i,i<m→∀j,j<g→cJ (P i j)=true) (hu:cJ [dE u]=true) (hv:cJ [v]=true) (hq:∀t,t<m→cJ (qs t)=true) (hpf:∀i,i<m→iD aS g L0 (P i)=Rp aS (L i)):∀t R,t≤m→gS g P qs (eW g P i k u v) t=some R→iD aS g L0 R=Lq.sum (Lq.sum (Lq.sc (zz u.c) (Lq.mul (mo aS u.m) (Rp aS (L i)))) (Lq.sc (-(zz v.c)) (Lq.mul (mo aS v.m) (Rp aS (L k))))) (Lq.sc (-1) (iD aS t L qs))
 |0,R,_,h=>by
  change eW g P i k u v=some R at h;unfold eW at h;split at h
  ·cases h
  ·rename_i R1 h1;have ok1:=mB (fun _ _=>lB) hu (hP i hi) g R1 (Nat.le_refl _) h1
   rw[pU ok1 hv (hP k hk) h,pU (fun _ _=>lB) hu (hP i hi) h1,hpf i hi,hpf k hk,DU,uR,uR];have e:iD aS 0 L qs=Lq.nil:=rfl
   rw[e,YO,Lq.sum_nil,IY,Lq.sc_mul,Lq.sc_mul,Lq.sc_sc,Lq.sc_sc];show Lq.sum (Lq.sc (-1*zz (101-u.c)) _) _=_
   rw[VW,show(-1:Fq)*-(zz u.c)=zz u.c by grind,show(-1:Fq)*zz v.c= -(zz v.c) by grind];rfl
 |t+1,R,ht,h=>by
  cases hr:gS g P qs (eW g P i k u v) t with
  |none=>have:=iK hr 1;rw[this]at h;cases h
  |some R1=>
   have h':bU R1 (qs t) (P t) g=some R:=by
    have:gS g P qs (eW g P i k u v) (t+1)=bU R1 (qs t) (P t) g:=by show(match gS g P qs (eW g P i k u v) t with|none=>none|some R=>bU R (qs t) (P t) g)=_;rw[hr]
    rw[←this];exact h
   rw[pU (uL hi hk hP hu hv hq t R1 (by omega) hr) (hq t (by omega)) (hP t (by omega)) h',yI hi hk hP hu hv hq hpf t R1 (by omega) hr,hpf t (by omega)];have e:iD aS (t+1) L qs=Lq.sum (iD aS t L qs) (Lq.mul (Rp aS (qs t)) (Rp aS (L t))):=rfl
   rw[e];refine Lq.ext fun u a b=>?_;simp only[SB,YN]
   grind
theorem oC {o:Int} {L L':Nat→List T} {j:Nat} (h:L' j=L j):iC o L' j=iC o L j:=by unfold iC;rw[h]
theorem Lo.grow {o:Int} {n n':Nat} {L L':Nat→List T} (hn:n≤n') (h:∀j,j<n→L' j=L j) {δ:M} {A:Lq} (hA:Lo o n L δ A):Lo o n' L' δ A:=by
 induction hA with
 |nil=>exact Lo.nil
 |cons c m j h1 h2 h3 h4 ih=>
  rw[←h j h1];exact Lo.cons c m j (by omega) h2 (by rw[oC (h j h1)];exact h3) ih
theorem yY.grow {o:Int} {n n':Nat} {L L':Nat→List T} (hn:n≤n') (h:∀j,j<n→L' j=L j) {i k:Nat} (hi:i<n) (hk:k<n) (hP:yY o n L i k):yY o n' L' i k:=fun u v hu hv=>by
 rw[h i hi]at hu;rw[h k hk]at hv;rw[oC (h i hi),oC (h k hk),h i hi,h k hk];exact(hP u v hu hv).grow hn h
theorem BD {L:Nat→List T} {m:Nat} {r:List T} {j:Nat} (h:j<m):bK L m r j=L j:=by unfold bK;rw[if_neg (by omega)]
theorem BC {L:Nat→List T} {m:Nat} {r:List T}:bK L m r m=r:=by unfold bK;rw[if_pos rfl]
theorem VT {P:Nat→Nat→List T} {m:Nat} {R:Nat→List T} {j:Nat} (h:j<m):oG P m R j=P j:=by unfold oG;rw[if_neg (by omega)]
theorem VS {P:Nat→Nat→List T} {m:Nat} {R:Nat→List T}:oG P m R m=R:=by unfold oG;rw[if_pos rfl]
structure Mk (o:Int) (g:Nat) (L0:Nat→List T) (B:Bs) (j:Nat):Prop where
 ok:wZ o g B
 le:g≤B.m
 pre:∀i,i<g→B.L i=L0 i
 pf:∀i,i<B.m→iD aS g L0 (B.P i)=Rp aS (B.L i)
 pr:∀i k,i<k→k<B.m→bA k+i<j→yY o B.m B.L i k
theorem EO {o:Int} {g:Nat} {B B':Bs} {i k:Nat} (hs:eG o g B i k=some B'):∃s S,JO o (B.L i) (B.L k)=(s,true)∧dA o s B.m (lN B.L) (fN B.L)=some S∧((S.r=[]∧B'=B)∨(S.r.length≠0∧∃R,lL g B.P i k (FC o (B.L i) (B.L k)) (GN o (B.L i) (B.L k)) B.m S.q=some R∧B'=zE B S.r R)):=by
 unfold eG at hs;split at hs
 ·rename_i s hsp;split at hs
  ·rename_i S hS;refine⟨s,S,hsp,hS,?_⟩;split at hs
   ·rename_i h0;cases hs;exact .inl ⟨List.length_eq_zero_iff.1 h0,rfl⟩
   ·rename_i h0;split at hs
    ·cases hs
    ·split at hs
     ·rename_i R hR;cases hs;exact .inr ⟨h0,R,hR,rfl⟩
     ·cases hs
  ·cases hs
 ·cases hs
theorem Mk.step {o:Int} {g:Nat} {L0:Nat→List T} {B B':Bs} {j:Nat} (h:Mk o g L0 B j) (hj:j<bA B.m) (hs:eG o g B (pq j).1 (pq j).2=some B'):Mk o g L0 B' (j+1):=by
 obtain⟨k,i,hk,hik,ej⟩:=GS B.m j hj;have epq:pq j=(i,k):=by rw[ej];exact oD k i hik
 rw[epq]at hs;have hs':eG o g B i k=some B':=hs
 have hi:i<B.m:=by omega
 have hok':=rW h.ok hi hk hs';have hL:=FQ h.ok.ho h.ok.l
 obtain⟨s,S,hsp,hS,hc⟩:=EO hs';have one:∀i' k',i'<k'→bA k'+i'<j+1→bA k'+i'<j∨(i'=i∧k'=k):=fun i' k' h1 h2=>by
  by_cases e:bA k'+i'=j
  ·have:=oD k' i' h1;rw[e,epq]at this;cases this;exact .inr ⟨rfl,rfl⟩
  ·exact .inl (by omega)
 obtain⟨U,V,eU,eV,u1,v1,um,vm,e,k1,hb⟩:=AU hL hi hk hsp;obtain⟨lo1,lo2⟩:=JQ hL hS k1 hb;rcases hc with⟨h0,rfl⟩|⟨h0,R,hR,rfl⟩
 ·refine⟨hok',h.le,h.pre,h.pf,fun i' k' h1 h2 h3=>?_⟩;rcases one i' k' h1 h3 with q|⟨rfl,rfl⟩
  ·exact h.pr i' k' h1 h2 q
  ·exact LU hL hi hk hsp hS h0
 ·have hok2:=hok';have hle:=h.le
  refine⟨hok',by show g≤B.m+1;omega,fun i' hi'=>(BD (by omega)).trans (h.pre i' hi'),fun i' hi'=>?_,fun i' k' h1 h2 h3=>?_⟩
  ·show iD aS g L0 (oG B.P B.m R i')=Rp aS (bK B.L B.m S.r i');by_cases ei:i'=B.m
   ·subst ei;rw[VS,BC];obtain⟨⟨_,g2,g3⟩,_⟩:=oZ hsp;rw[yI hi hk h.ok.p g2 g3 (fun t _=>fO (by have:=((dB hS).1.q t).2;omega) ((dB hS).1.q t).1) h.pf B.m R (Nat.le_refl _) hR,UH hS,e,eU,eV]
   ·have hi2:i'<B.m+1:=hi';rw[VT (by omega),BD (by omega)];exact h.pf i' (by omega)
  ·have grow:∀j,j<B.m→bK B.L B.m S.r j=B.L j:=fun j hj=>BD hj;have hk':k'<B.m:=by
    have h2':k'<B.m+1:=h2;by_cases ek:k'=B.m
    ·subst ek;omega
    ·omega
   show yY o (B.m+1) (bK B.L B.m S.r) i' k';rcases one i' k' h1 h3 with q|⟨rfl,rfl⟩
   ·exact(h.pr i' k' h1 hk' q).grow (by omega) grow (by omega) hk'
   ·have hL':=FQ hok2.ho hok2.l;have hL2:xA o (B.m+1) (bK B.L B.m S.r):=hL'
    refine DO hL2 (by omega) (by omega) (s:=s) (by rw[grow i' hi,grow k' hk];exact hsp) ?_;rw[oC (grow i' hi),oC (grow k' hk),←qE aS hS];refine(lo1.grow (by omega) grow).sum ?_;have hmem:dD o S.r∈S.r:=jL h0
    have hr:=(dB hS).1.r.1
    have:=Lo.one (o:=o) (n:=B.m+1) (L:=bK B.L B.m S.r) (δ:=M.lcm (iC o B.L i') (iC o B.L k')) 1 (m:=⟨0,0,0,0⟩) (j:=B.m) (by omega) ⟨by decide,by decide,by decide,by decide⟩ (by
     have e0:M.sum ⟨0,0,0,0⟩ (iC o (bK B.L B.m S.r) B.m)=(dD o S.r).m:=by unfold iC;rw[BC];unfold M.sum;refine sG ?_ ?_ ?_ ?_<;>(simp only;omega)
     rw[e0]
     exact AM hL.ho (hr.2 _ hmem).1 k1 (lo2 _ hmem))
    rw[Lq.sc_one,IOz,BC]at this;exact this
theorem CR {o:Int} {g:Nat} {L0:Nat→List T}:∀(f:Nat) (B:Bs) (j:Nat),Mk o g L0 B j→∀B' d,kQ o g f B j=(B',d)→∃j',Mk o g L0 B' j'∧(d=true→bA B'.m≤j')
 |0,B,j,h,B',d,e=>by unfold kQ at e;cases e;exact⟨j,h,fun q=>of_decide_eq_true q⟩
 |f+1,B,j,h,B',d,e=>by
  unfold kQ at e;split at e
  ·rename_i hj;split at e
   ·cases e;exact⟨j,h,fun q=>by cases q⟩
   ·rename_i B2 hs;exact CR f B2 (j+1) (h.step hj hs) B' d e
  ·cases e;exact⟨j,h,fun _=>by omega⟩
theorem ES (f:Nat→Lq) (i:Nat):∀n,i<n→(∀j,j<n→j≠i→f j=Lq.nil)→Lq.sumN f n=f i
 |0,h,_=>by omega
 |n+1,h,h0=>by
  show Lq.sum (Lq.sumN f n) (f n)=f i;by_cases e:i=n
  ·subst e;have:Lq.sumN f i=Lq.sumN (fun _=>Lq.nil) i:=Lq.sumN_congr fun j hj=>h0 j (by omega) (by omega)
   rw[this,tL,IY]
  ·rw[ES f i n (by omega) (fun j hj=>h0 j (by omega)),h0 n (by omega) (fun q=>e q.symm),Lq.sum_nil]
theorem PP {n:Nat} {L:Nat→List T} {i:Nat} (hi:i<n):iD aS n L (dF i)=Rp aS (L i):=by
 unfold iD
 rw[ES _ i n hi (fun j hj hne=>by
  unfold dF
  rw[if_neg hne,nK,Lq.nil_mul])]
 unfold dF;rw[if_pos rfl,uR,Lq.sc_mul,IOz];exact Lq.sc_one _
theorem Mk.start {o:Int} {n:Nat} {L:Nat→List T} (ho:1≤o∧o≤3) (hl:aW n (lN L) (fN L)=true):Mk o n L (CN n L) 0:=
 ⟨zL ho hl,Nat.le_refl _,fun _ _=>rfl,fun i hi=>PP hi,fun i k _ _ h=>by omega⟩
theorem FN {o:Int} {n:Nat} {L:Nat→List T} {fuel:Int} {B:Bs} {d:Bool} (h:iA o n L fuel=(B,d)):(B.m=0∧d=false∧¬((1≤o∧o≤3)∧aW n (lN L) (fN L)=true∧(1≤n∧n≤3)∧(0≤fuel∧fuel≤60)))∨(((1≤o∧o≤3)∧aW n (lN L) (fN L)=true∧(1≤n∧n≤3)∧(0≤fuel∧fuel≤60))∧∃j,Mk o n L B j∧(d=true→bA B.m≤j)):=by
 unfold iA at h;split at h
 ·rename_i hc;exact .inr ⟨hc,CR fuel.toNat _ 0 (Mk.start hc.1 hc.2.1) B d h⟩
 ·rename_i hc;cases h;exact .inl ⟨rfl,rfl,hc⟩
def iE (f:Nat→Option (List T)):Nat→Option (Nat→List T)
 |0=>some (fun _=>[])
 |j+1=>match iE f j with
  |none=>none
  |some R=>match f j with
   |none=>none
   |some Y=>some (bK R j Y)
theorem tF {f:Nat→Option (List T)} {j:Nat} {R:Nat→List T} {Y:List T} (h:iE f j=some R) (hf:f j=some Y):iE f (j+1)=some (bK R j Y):=by
 show(match iE f j with|none=>none|some R=>match f j with|none=>none|some Y=>some (bK R j Y))=_;rw[h];show(match f j with|none=>none|some Y=>some (bK R j Y))=_
 rw[hf]
theorem JL {f:Nat→Option (List T)} {j:Nat} (h:iE f j=none):iE f (j+1)=none:=by show(match iE f j with|none=>none|some R=>match f j with|none=>none|some Y=>some (bK R j Y))=_;rw[h]
theorem EC {f:Nat→Option (List T)} {j:Nat} (h:f j=none):iE f (j+1)=none:=by show(match iE f j with|none=>none|some R=>match f j with|none=>none|some Y=>some (bK R j Y))=_;rw[h];cases iE f j<;>rfl
theorem mD {f:Nat→Option (List T)} {i:Nat} (h:f i=none):∀g,i<g→iE f g=none
 |0,hi=>by omega
 |g+1,hi=>by
  by_cases e:i=g
  ·subst e;exact EC h
  ·exact JL (mD h g (by omega))
theorem ED {f:Nat→Option (List T)}:∀g R,iE f g=some R→∀i,i<g→f i=some (R i)
 |0,R,_,i,hi=>by omega
 |g+1,R,h,i,hi=>by
  cases hr:iE f g with
  |none=>rw[JL hr]at h;cases h
  |some R1=>
   cases hf:f g with
   |none=>rw[EC hf]at h;cases h
   |some Y=>
    rw[tF hr hf]at h;cases h;unfold bK;split
    ·rename_i e;rw[e];exact hf
    ·exact ED g R1 hr i (by omega)
theorem qG {f f':Nat→Option (List T)}:∀g,(∀i,i<g→f i=f' i)→iE f g=iE f' g
 |0,_=>rfl
 |g+1,h=>by
  show(match iE f g with|none=>none|some R=>match f g with|none=>none|some Y=>some (bK R g Y))=(match iE f' g with|none=>none|some R=>match f' g with|none=>none|some Y=>some (bK R g Y))
  rw[qG g (fun i hi=>h i (by omega)),h g (by omega)]
theorem sT (row:Nat→List T) (q:List T) (oth:Nat→List T):∀g,bU row q oth g=iE (fun i=>cT (row i) q (oth i)) g
 |0=>rfl
 |g+1=>by show(match bU row q oth g with|none=>none|some R=>match cT (row g) q (oth g)with|none=>none|some Y=>some (bK R g Y))=_;rw[sT row q oth g];rfl
theorem EF (f:Nat→Option (List T)) (q:List T) (oth:Nat→List T) (g:Nat):(match iE f g with|none=>none|some R=>bU R q oth g)=iE (fun i=>(f i).bind (fun s=>cT s q (oth i))) g:=by
 cases hr:iE f g with
 |none=>
  show none=_;have:∃i,i<g∧f i=none:=by
   have key:∀g,(∀i,i<g→f i≠none)→iE f g≠none:=fun g=>by
    induction g with
    |zero=>intro _ h;cases h
    |succ g ih=>
     intro h;cases hg:iE f g with
     |none=>exact absurd hg (ih (fun i hi=>h i (by omega)))
     |some R=>
      cases hf:f g with
      |none=>exact absurd hf (h g (by omega))
      |some Y=>rw[tF hg hf];simp
   by_cases e:∃i,i<g∧f i=none
   ·exact e
   ·exact absurd hr (key g (fun i hi q=>e ⟨i,hi,q⟩))
  obtain⟨i,hi,e⟩:=this;exact(mD (by rw[e];rfl) g hi).symm
 |some R=>
  show bU R q oth g=_;rw[sT];exact qG g fun i hi=>by rw[ED g R hr i hi];rfl
def CB (P:Nat→Nat→List T) (i k:Nat) (u v:T) (q:Nat→List T) (j:Nat):Nat→Option (List T)
 |0=>(cT [] [dE u] (P i j)).bind (fun s=>cT s [v] (P k j))
 |t+1=>(CB P i k u v q j t).bind (fun s=>cT s (q t) (P t j))
theorem yH {g:Nat} {P:Nat→Nat→List T} {i k:Nat} {u v:T} {q:Nat→List T}:∀t,gS g P q (eW g P i k u v) t=iE (fun j=>CB P i k u v q j t) g
 |0=>by
  show eW g P i k u v=_;have e:eW g P i k u v=(match iE (fun j=>cT [] [dE u] (P i j)) g with|none=>none|some R=>bU R [v] (P k) g):=by unfold eW;rw[sT];rfl
  rw[e,EF];rfl
 |t+1=>by show(match gS g P q (eW g P i k u v) t with|none=>none|some R=>bU R (q t) (P t) g)=_;rw[yH t,EF];rfl
def AF (F X:List T):Option (List T):=match kO F X with
 |(Y,true)=>some Y
 |(_,false)=>none
def JE (s q X:List T):Option (List T):=match kO q X with
 |(Y,true)=>(match rZ s Y with
  |(Z,true)=>some Z
  |(_,false)=>none)
 |(_,false)=>none
def JC (F:List T) (P0:Nat→List T) (qs:Nat→List T) (Q:Nat→Nat→List T) (j:Nat):Nat→Option (List T)
 |0=>AF F (P0 j)
 |t+1=>(JC F P0 qs Q j t).bind (fun s=>JE s (qs t) (Q t j))
theorem DP {s q X:List T} (hs:cJ s=true) (hq:cJ q=true) (hX:cJ X=true):JE s q X=cT s q X:=by
 unfold JE cT kO aZ;rw[if_pos ⟨hq,hX⟩];cases hm:bN (lf q) (lf X) X.length q.length with
 |none=>rfl
 |some Y=>
  have oY:=wW (JX hq hX hm);show(match rZ s Y with|(Z,true)=>some Z|(_,false)=>none)=if(bY s Y).length≤400 then some (bY s Y)else none
  by_cases hl:(bY s Y).length≤400
  ·rw[AW hs oY hl,if_pos hl]
  ·rw[if_neg hl];rcases tK s Y with e|⟨_,_,h3,_⟩
   ·rw[e]
   ·exact absurd h3 hl
theorem RE {P:List T} (h:aH P):bY [] (jA 100 P)=P:=by
 have h1:=fM (c:=100) (by omega) (by omega) h;have h2:=cB dL h1
 refine jU h2.1 h (fun m _=>?_);have r:=bD h m
 rw[h2.2,uZ,EG];omega
theorem PZ {u:T} {X:List T} (hu:u.m.ok=true∧1≤u.c∧u.c≤100) (hX:cJ X=true):AF [u] X=cT [] [dE u] X:=by
 have ou:=gB hu;have en:dE u=uH 100 u:=by unfold dE uH;congr 1;omega
 have hm:=uM (f:=lf [u]) (f2:=lf [dE u]) (la:=1) (c:=100) (by omega) (by omega) (bL (show aK 1 (lf [u])=true from ou)).2 (bL (show aK X.length (lf X)=true from hX)).2 (fun i hi=>by
  have e:i=0:=by omega
  subst e;show dE u=uH 100 u
  exact en) 1 (Nat.le_refl _)
 unfold AF cT kO aZ;rw[if_pos ⟨ou,hX⟩];show(match iN (bN (lf [u]) (lf X) X.length 1)with|(Y,true)=>some Y|(_,false)=>none)=(match bN (lf [dE u]) (lf X) X.length 1 with|some P=>if(bY [] P).length≤400 then some (bY [] P)else none|none=>none)
 rw[hm];cases hk:bN (lf [u]) (lf X) X.length 1 with
 |none=>rfl
 |some Y=>
  have fY:=cE (bL (show aK 1 (lf [u])=true from ou)).2 (bL (show aK X.length (lf X)=true from hX)).2 1 Y (Nat.le_refl _) hk;show some Y=if(bY [] (jA 100 Y)).length≤400 then some (bY [] (jA 100 Y))else none
  rw[RE fY,if_pos (eJ _ Y hk)]
def DH (v:T) (q:Nat→List T):Nat→List T
 |0=>[v]
 |t+1=>q t
def LR (P:Nat→Nat→List T) (k:Nat):Nat→Nat→List T
 |0=>P k
 |t+1=>P t
theorem NZ {P:Nat→Nat→List T} {i k m g:Nat} {u v:T} {q:Nat→List T} (hi:i<m) (hk:k<m) (hP:∀i,i<m→∀j,j<g→cJ (P i j)=true) (hu:cJ [dE u]=true) (hv:cJ [v]=true) (hq:∀t,t<m→cJ (q t)=true) {j:Nat} (hj:j<g):∀t s,t≤m→CB P i k u v q j t=some s→cJ s=true
 |0,s,_,h=>by
  change (cT [] [dE u] (P i j)).bind (fun s=>cT s [v] (P k j))=some s at h;cases h1:cT [] [dE u] (P i j)with
  |none=>rw[h1]at h;cases h
  |some s1=>
   rw[h1]at h;exact nX (nX lB hu (hP i hi j hj) h1) hv (hP k hk j hj) h
 |t+1,s,ht,h=>by
  change (CB P i k u v q j t).bind (fun s=>cT s (q t) (P t j))=some s at h;cases h1:CB P i k u v q j t with
  |none=>rw[h1]at h;cases h
  |some s1=>
   rw[h1]at h;exact nX (NZ hi hk hP hu hv hq hj t s1 (by omega) h1) (hq t (by omega)) (hP t (by omega) j hj) h
theorem JD {P:Nat→Nat→List T} {i k m g:Nat} {u v:T} {q:Nat→List T} (hi:i<m) (hk:k<m) (hP:∀i,i<m→∀j,j<g→cJ (P i j)=true) (hu:u.m.ok=true∧1≤u.c∧u.c≤100) (hv:v.m.ok=true∧1≤v.c∧v.c≤100) (hq:∀t,t<m→cJ (q t)=true) {j:Nat} (hj:j<g):∀t,t≤m→JC [u] (P i) (DH v q) (LR P k) j (t+1)=CB P i k u v q j t
 |0,_=>by
  have g1:=vS hu.2.1 hu.2.2;have hn:cJ [dE u]=true:=gB ⟨hu.1,g1.1,g1.2⟩
  show(AF [u] (P i j)).bind (fun s=>JE s [v] (P k j))=(cT [] [dE u] (P i j)).bind (fun s=>cT s [v] (P k j));rw[PZ hu (hP i hi j hj)];cases h1:cT [] [dE u] (P i j)with
  |none=>rfl
  |some s1=>exact DP (nX lB hn (hP i hi j hj) h1) (gB hv) (hP k hk j hj)
 |t+1,ht=>by
  have g1:=vS hu.2.1 hu.2.2;have hn:cJ [dE u]=true:=gB ⟨hu.1,g1.1,g1.2⟩
  show(JC [u] (P i) (DH v q) (LR P k) j (t+1)).bind (fun s=>JE s (q t) (P t j))=(CB P i k u v q j t).bind (fun s=>cT s (q t) (P t j));rw[JD hi hk hP hu hv hq hj t (by omega)];cases h1:CB P i k u v q j t with
  |none=>rfl
  |some s1=>exact DP (NZ hi hk hP hn (gB hv) hq hj t s1 (by omega) h1) (hq t (by omega)) (hP t (by omega) j hj)
theorem UP {P:Nat→Nat→List T} {i k m g:Nat} {u v:T} {q:Nat→List T} (hi:i<m) (hk:k<m) (hP:∀i,i<m→∀j,j<g→cJ (P i j)=true) (hu:u.m.ok=true∧1≤u.c∧u.c≤100) (hv:v.m.ok=true∧1≤v.c∧v.c≤100) (hq:∀t,t<m→cJ (q t)=true):iE (fun j=>JC [u] (P i) (DH v q) (LR P k) j (m+1)) g=lL g P i k u v m q:=by unfold lL;rw[yH];exact qG g fun j hj=>JD hi hk hP hu hv hq hj m (Nat.le_refl _)
end Go.Proofs.YtelkehjdfcoeiaaGreat
