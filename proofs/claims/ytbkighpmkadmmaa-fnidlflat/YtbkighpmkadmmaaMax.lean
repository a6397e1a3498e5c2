/-
  What is made of a list; when a list is a basis; what is left by a basis.
-/
import Derived.Test.YtbkighpmkadmmaaMaw
import Derived.Test.YtbkighpmkadmmaaMav
set_option maxHeartbeats 4000000
set_option maxRecDepth 100000
namespace Go.Proofs.Ytbkighpmkadmmaa
open Go.RowKit Go.Deep Go.Joins
set_option linter.unusedVariables false
theorem KZ (d:Fq):Lq.sc d Lq.nil=Lq.nil:=Lq.ext fun u n k=>by show d*(0:Fq)=0;grind
theorem zH (A:Lq):Lq.sum Lq.nil A=A:=by rw[Lq.sum_comm,Lq.sum_nil]
section
variable {o:Int} {n:Nat} {L:Nat→List T}
theorem GA (g:nE) (t:T) (r:List T):Rp g (t::r)=Lq.sum (Lq.sc (zz t.c) (mo g t.m)) (Rp g r):=Lq.ext fun u n k=>rfl
theorem zC (A:Lq):Lq.mul (mo aN ⟨0,0,0,0⟩) A=A:=rfl
theorem M.sum_comm (a b:M):a.sum b=b.sum a:=by unfold M.sum;refine jY ?_ ?_ ?_ ?_<;>(simp only;omega)
theorem DD (ho:1≤o∧o≤3) (hl:aY n (lN L) (fN L)=true):qN o n L:=⟨ho,fun j hj=>⟨((aZ hl).2 j hj).2,((aZ hl).2 j hj).1⟩⟩
theorem JW:zz 100= -1:=by decide
theorem IA {p:List T} {S:Dv} (h:dF o p n (lN L) (fN L)=some S):Rp aN S.r=Lq.sum (Rp aN p) (Lq.sc (-1) (eW aN n L S.q)):=by
 rw[←mB aN h];refine Lq.ext fun u a b=>?_;simp only[FL,KY]
 grind
theorem Lo.rp {δ:M} {j:Nat} (hj:j<n):∀q:List T,(∀t∈q,t.m.nn∧kF o (t.m.sum (dR o L j)) δ)→Lo o n L δ (Lq.mul (Rp aN q) (Rp aN (L j)))
 |[],_=>by rw[jZ,Lq.nil_mul];exact Lo.nil
 |t::r,hq=>by rw[GA,Lq.sum_mul,Lq.sc_mul];obtain⟨h1,h2⟩:=hq t (List.mem_cons_self ..);exact Lo.cons _ t.m j hj h1 h2 (Lo.rp hj r (fun s hs=>hq s (List.mem_cons_of_mem _ hs)))
theorem Lo.sumN {δ:M} {f:Nat→Lq}:∀k,(∀i,i<k→Lo o n L δ (f i))→Lo o n L δ (Lq.sumN f k)
 |0,_=>Lo.nil
 |k+1,h=>Lo.sum (Lo.sumN k (fun i hi=>h i (by omega))) (h k (by omega))
theorem KT (a b:Int):mx a b=if a≤b then b else a:=by unfold mx;split<;>split<;>omega
theorem CG {a b:M} (ha:a.ok=true) (hb:b.ok=true):M.both a b=M.lcm a b:=by unfold M.both M.lcm;rw[if_pos ⟨ha,hb⟩];simp only[KT]
theorem vN {a b c:M} (h:M.mul a b=(c,true)):a.sum b=c∧c.ok=true:=by
 unfold M.mul at h;split at h
 ·rename_i hh;cases h;exact⟨rfl,hh.2.2⟩
 ·cases h
theorem LN {a b:Int} (h:c3 a b<0):a<b:=by unfold c3 at h;split at h<;>(try split at h)<;>omega
theorem zX {a b c:M} (h:a.sum b=c):a=M.sub c b:=by rw[←h];unfold M.sub M.sum;refine jY ?_ ?_ ?_ ?_<;>(simp only;omega)
theorem JS {a b:Int} (ha:1≤a∧a≤100) (hb:1≤b∧b≤100) (h:lO a b=1):zz a*zz b=1:=by rw[fF (by omega) ha.2 (by omega) hb.2]at h;rw[←iP,←gF,h];rfl
theorem tR (hL:qN o n L) {i k:Nat} (hi:i<n) (hk:k<n) {s:List T} (hs:cE o (lf (L i)) (L i).length (lf (L k)) (L k).length=(s,true)):∃U V:T,U=cV o (L i).length (lf (L i)) (L k).length (lf (L k))∧V=cW o (L i).length (lf (L i)) (L k).length (lf (L k))∧zz U.c*zz (dY o (L i)).c=1∧zz V.c*zz (dY o (L k)).c=1∧U.m=M.sub (M.lcm (dR o L i) (dR o L k)) (dR o L i)∧V.m=M.sub (M.lcm (dR o L i) (dR o L k)) (dR o L k)∧Rp aN s=Lq.sum (Lq.sc (zz U.c) (Lq.mul (mo aN U.m) (Rp aN (L i)))) (Lq.sc (-(zz V.c)) (Lq.mul (mo aN V.m) (Rp aN (L k))))∧(M.lcm (dR o L i) (dR o L k)).ok=true∧∀t∈s,gI o t.m<gI o (M.lcm (dR o L i) (dR o L k)):=by
 obtain⟨hok,X,Y,hX,hY,oX,oY,es,hl⟩:=iN hs;obtain⟨gU,gV⟩:=nC hok;obtain⟨m1,m2,c1,c2,_⟩:=zT hok;have hb:=BM hs
 have li:bB o (L i).length (lf (L i))=dY o (L i):=(xG hL.ho (hL.fl i hi).1 (hL.fl i hi).2).symm;have lk:bB o (L k).length (lf (L k))=dY o (L k):=(xG hL.ho (hL.fl k hk).1 (hL.fl k hk).2).symm
 have eB:iZ o (L i).length (lf (L i)) (L k).length (lf (L k))=M.lcm (dR o L i) (dR o L k):=by unfold iZ;rw[li,lk];exact CG (hL.good hi).1 (hL.good hk).1
 rw[eB,li]at m1;rw[eB,lk]at m2;rw[li]at c1;rw[lk]at c2;rw[eB]at hb;obtain⟨s1,k1⟩:=vN m1;obtain⟨s2,_⟩:=vN m2;refine⟨_,_,rfl,rfl,JS gU.2 (hL.good hi).2 c1,JS gV.2 (hL.good hk).2 c2,zX s1,zX s2,?_,k1,fun t ht=>?_⟩
 ·rw[es,pK aN (aH oX).2 (aH oY).2,nH aN hX,nH aN hY,pJ,pJ,Lq.sc_mul,Lq.sc_mul,Lq.sc_sc,JW];congr 2
  grind
 ·have fs:aJ s:=(aH (FE hs)).2;have:=hb t ht
  unfold M.cmp at this;rw[if_pos ⟨hL.ho,(fs.2 t ht).1,k1⟩,tH hL.ho (fs.2 t ht).1 k1]at this;exact LN this
theorem zU (hL:qN o n L) {s:List T} {S:Dv} (hr:dF o s n (lN L) (fN L)=some S) {μ:M} (hμ:μ.ok=true) (hs:∀t∈s,gI o t.m<gI o μ):Lo o n L μ (eW aN n L S.q)∧∀t∈S.r,gI o t.m<gI o μ:=by
 obtain⟨r1,r2⟩:=EQ hr (N:=gI o μ-1) (fun t ht=>by have:=hs t ht;omega);refine⟨Lo.sumN n fun i hi=>Lo.rp hi _ (fun t ht=>?_),fun t ht=>by have:=r1 t ht;omega⟩;obtain⟨h1,h2⟩:=r2 i hi t ht;have fq:=(dT hr).1.q i
 exact⟨rZ (fq.1.2 t ht).1,tG hL.ho h1 hμ (by show gI o (t.m.sum (dY o (L i)).m)<_;omega)⟩
theorem vS (hL:qN o n L) {i k:Nat} (hi:i<n) (hk:k<n) {s:List T} (hs:cE o (lf (L i)) (L i).length (lf (L k)) (L k).length=(s,true)) (h:Lo o n L (M.lcm (dR o L i) (dR o L k)) (Rp aN s)):sA o n L i k:=fun u v hu hv=>by
 obtain⟨U,V,_,_,u1,v1,um,vm,e,_⟩:=tR hL hi hk hs;have eu:u=zz U.c:=by
  have:u*(zz (dY o (L i)).c*zz U.c)=zz U.c:=by rw[←Fin.mul_assoc,hu];grind
  have u1':zz (dY o (L i)).c*zz U.c=1:=by grind
  rw[u1']at this
  grind
 have ev:v=zz V.c:=by
  have:v*(zz (dY o (L k)).c*zz V.c)=zz V.c:=by rw[←Fin.mul_assoc,hv];grind
  have u1':zz (dY o (L k)).c*zz V.c=1:=by grind
  rw[u1']at this
  grind
 rw[e]at h;rw[eu,ev,←um,←vm];exact h
theorem BA (hL:qN o n L) {i k:Nat} (hi:i<n) (hk:k<n) {s:List T} (hs:cE o (lf (L i)) (L i).length (lf (L k)) (L k).length=(s,true)) {S:Dv} (hr:dF o s n (lN L) (fN L)=some S) (h0:S.r=[]):sA o n L i k:=by obtain⟨U,V,_,_,u1,v1,um,vm,e,k1,hb⟩:=tR hL hi hk hs;refine vS hL hi hk hs ?_;rw[←mB aN hr,h0,jZ,Lq.sum_nil];exact(zU hL hr k1 hb).1
end
end Go.Proofs.Ytbkighpmkadmmaa
namespace Go.Proofs.Ytbkighpmkadmmaa
open Go.RowKit Go.Deep Go.Joins
set_option linter.unusedVariables false
theorem JF {q X P:List T} (hq:bZ q=true) (hX:bZ X=true) (h:bR (lf q) (lf X) X.length q.length=some P):mD q X=(P,true):=by unfold mD cJ;rw[if_pos ⟨hq,hX⟩,h];rfl
theorem DE (g:nE) {R q X Y:List T} (hR:bZ R=true) (hq:bZ q=true) (hX:bZ X=true) (h:eQ R q X=some Y):Rp g Y=Lq.sum (Rp g R) (Lq.sc (-1) (Lq.mul (Rp g q) (Rp g X))):=by
 unfold eQ at h;split at h
 ·rename_i P hP;split at h
  ·have hw:=JF hq hX hP;cases h;rw[pK g (aH hR).2 (aH (rV hw)).2,nH g hw,JW]
  ·cases h
 ·cases h
theorem vD {row:Nat→List T} {q:List T} {oth:Nat→List T} {g:Nat} (hrow:∀i,i<g→bZ (row i)=true) (hq:bZ q=true) (ho:∀i,i<g→bZ (oth i)=true):∀j R,j≤g→bN row q oth j=some R→∀i,i<j→Rp aN (R i)=Lq.sum (Rp aN (row i)) (Lq.sc (-1) (Lq.mul (Rp aN q) (Rp aN (oth i))))
 |0,R,_,_,i,hi=>by omega
 |j+1,R,hj,h,i,hi=>by
  cases hr:bN row q oth j with
  |none=>have:=jK hr 1;rw[this]at h;cases h
  |some R1=>
   cases he:eQ (row j) q (oth j)with
   |none=>have:=kW (g:=j+1) (by omega) hr he;rw[this]at h;cases h
   |some Y=>
    rw[lU hr he]at h;cases h;unfold cU;split
    ·rename_i e;subst e;exact DE aN (hrow i (by omega)) hq (ho i (by omega)) he
    ·exact vD hrow hq ho j R1 (by omega) hr i (by omega)
theorem BG {g:Nat} {L0 row oth R:Nat→List T} {A:Lq} (h:∀i,i<g→Rp aN (R i)=Lq.sum (Rp aN (row i)) (Lq.sc (-1) (Lq.mul A (Rp aN (oth i))))):eW aN g L0 R=Lq.sum (eW aN g L0 row) (Lq.sc (-1) (Lq.mul A (eW aN g L0 oth))):=by unfold eW;rw[Lq.mul_sumN,eZ,←Lq.sumN_sum];exact Lq.sumN_congr fun i hi=>by rw[h i hi,Lq.sum_mul,Lq.sc_mul,Lq.mul_assoc]
theorem lT {g:Nat} {L0 row oth R:Nat→List T} {q:List T} (hrow:∀i,i<g→bZ (row i)=true) (hq:bZ q=true) (ho:∀i,i<g→bZ (oth i)=true) (h:bN row q oth g=some R):eW aN g L0 R=Lq.sum (eW aN g L0 row) (Lq.sc (-1) (Lq.mul (Rp aN q) (eW aN g L0 oth))):=
 BG (vD hrow hq ho g R (Nat.le_refl _) h)
theorem JG (c:Int):zz (101-c)= -(zz c):=by
 have h:zz (101-c)+zz c=0:=by rw[←yF,show 101-c+c=101 by omega];rfl
 grind
theorem rC {g m:Nat} {L0 L:Nat→List T} {P:Nat→Nat→List T} {i k:Nat} {u v:T} {qs:Nat→List T} (hi:i<m) (hk:k<m) (hP:∀i,i<m→∀j,j<g→bZ (P i j)=true) (hu:bZ [gH u]=true) (hv:bZ [v]=true) (hq:∀t,t<m→bZ (qs t)=true) (hpf:∀i,i<m→eW aN g L0 (P i)=Rp aN (L i)):∀t R,t≤m→eY g P qs (eC g P i k u v) t=some R→eW aN g L0 R=Lq.sum (Lq.sum (Lq.sc (zz u.c) (Lq.mul (mo aN u.m) (Rp aN (L i)))) (Lq.sc (-(zz v.c)) (Lq.mul (mo aN v.m) (Rp aN (L k))))) (Lq.sc (-1) (eW aN t L qs))
 |0,R,_,h=>by
  change eC g P i k u v=some R at h;unfold eC at h;split at h
  ·cases h
  ·rename_i R1 h1;have ok1:=iU (fun _ _=>lA) hu (hP i hi) g R1 (Nat.le_refl _) h1
   rw[lT ok1 hv (hP k hk) h,lT (fun _ _=>lA) hu (hP i hi) h1,hpf i hi,hpf k hk,vT,pJ,pJ];have e:eW aN 0 L qs=Lq.nil:=rfl
   rw[e,KZ,Lq.sum_nil,zH,Lq.sc_mul,Lq.sc_mul,Lq.sc_sc,Lq.sc_sc];show Lq.sum (Lq.sc (-1*zz (101-u.c)) _) _=_
   rw[JG,show(-1:Fq)*-(zz u.c)=zz u.c by grind,show(-1:Fq)*zz v.c= -(zz v.c) by grind];rfl
 |t+1,R,ht,h=>by
  cases hr:eY g P qs (eC g P i k u v) t with
  |none=>have:=fE hr 1;rw[this]at h;cases h
  |some R1=>
   have h':bN R1 (qs t) (P t) g=some R:=by
    have:eY g P qs (eC g P i k u v) (t+1)=bN R1 (qs t) (P t) g:=by show(match eY g P qs (eC g P i k u v) t with|none=>none|some R=>bN R (qs t) (P t) g)=_;rw[hr]
    rw[←this];exact h
   rw[lT (pE hi hk hP hu hv hq t R1 (by omega) hr) (hq t (by omega)) (hP t (by omega)) h',rC hi hk hP hu hv hq hpf t R1 (by omega) hr,hpf t (by omega)];have e:eW aN (t+1) L qs=Lq.sum (eW aN t L qs) (Lq.mul (Rp aN (qs t)) (Rp aN (L t))):=rfl
   rw[e];refine Lq.ext fun u a b=>?_;simp only[FL,KY]
   grind
theorem kJ {o:Int} {L L':Nat→List T} {j:Nat} (h:L' j=L j):dR o L' j=dR o L j:=by unfold dR;rw[h]
theorem Lo.grow {o:Int} {n n':Nat} {L L':Nat→List T} (hn:n≤n') (h:∀j,j<n→L' j=L j) {δ:M} {A:Lq} (hA:Lo o n L δ A):Lo o n' L' δ A:=by
 induction hA with
 |nil=>exact Lo.nil
 |cons c m j h1 h2 h3 h4 ih=>
  rw[←h j h1];exact Lo.cons c m j (by omega) h2 (by rw[kJ (h j h1)];exact h3) ih
theorem sA.grow {o:Int} {n n':Nat} {L L':Nat→List T} (hn:n≤n') (h:∀j,j<n→L' j=L j) {i k:Nat} (hi:i<n) (hk:k<n) (hP:sA o n L i k):sA o n' L' i k:=fun u v hu hv=>by
 rw[h i hi]at hu;rw[h k hk]at hv;rw[kJ (h i hi),kJ (h k hk),h i hi,h k hk];exact(hP u v hu hv).grow hn h
theorem tV {L:Nat→List T} {m:Nat} {r:List T} {j:Nat} (h:j<m):cU L m r j=L j:=by unfold cU;rw[if_neg (by omega)]
theorem tU {L:Nat→List T} {m:Nat} {r:List T}:cU L m r m=r:=by unfold cU;rw[if_pos rfl]
theorem JD {P:Nat→Nat→List T} {m:Nat} {R:Nat→List T} {j:Nat} (h:j<m):nD P m R j=P j:=by unfold nD;rw[if_neg (by omega)]
theorem JC {P:Nat→Nat→List T} {m:Nat} {R:Nat→List T}:nD P m R m=R:=by unfold nD;rw[if_pos rfl]
structure Mk (o:Int) (g:Nat) (L0:Nat→List T) (B:Bs) (j:Nat):Prop where
 ok:wR o g B
 le:g≤B.m
 pre:∀i,i<g→B.L i=L0 i
 pf:∀i,i<B.m→eW aN g L0 (B.P i)=Rp aN (B.L i)
 pr:∀i k,i<k→k<B.m→gJ k+i<j→sA o B.m B.L i k
theorem wF {o:Int} {g:Nat} {B B':Bs} {i k:Nat} (hs:dD o g B i k=some B'):∃s S,FB o (B.L i) (B.L k)=(s,true)∧dF o s B.m (lN B.L) (fN B.L)=some S∧((S.r=[]∧B'=B)∨(S.r.length≠0∧∃R,jU g B.P i k (FC o (B.L i) (B.L k)) (FZ o (B.L i) (B.L k)) B.m S.q=some R∧B'=GD B S.r R)):=by
 unfold dD at hs;split at hs
 ·rename_i s hsp;split at hs
  ·rename_i S hS;refine⟨s,S,hsp,hS,?_⟩;split at hs
   ·rename_i h0;cases hs;exact .inl ⟨List.length_eq_zero_iff.1 h0,rfl⟩
   ·rename_i h0;split at hs
    ·cases hs
    ·split at hs
     ·rename_i R hR;cases hs;exact .inr ⟨h0,R,hR,rfl⟩
     ·cases hs
  ·cases hs
 ·cases hs
theorem Mk.step {o:Int} {g:Nat} {L0:Nat→List T} {B B':Bs} {j:Nat} (h:Mk o g L0 B j) (hj:j<gJ B.m) (hs:dD o g B (pq j).1 (pq j).2=some B'):Mk o g L0 B' (j+1):=by
 obtain⟨k,i,hk,hik,ej⟩:=FO B.m j hj;have epq:pq j=(i,k):=by rw[ej];exact nX k i hik
 rw[epq]at hs;have hs':dD o g B i k=some B':=hs
 have hi:i<B.m:=by omega
 have hok':=qE h.ok hi hk hs';have hL:=DD h.ok.ho h.ok.l
 obtain⟨s,S,hsp,hS,hc⟩:=wF hs';have one:∀i' k',i'<k'→gJ k'+i'<j+1→gJ k'+i'<j∨(i'=i∧k'=k):=fun i' k' h1 h2=>by
  by_cases e:gJ k'+i'=j
  ·have:=nX k' i' h1;rw[e,epq]at this;cases this;exact .inr ⟨rfl,rfl⟩
  ·exact .inl (by omega)
 obtain⟨U,V,eU,eV,u1,v1,um,vm,e,k1,hb⟩:=tR hL hi hk hsp;obtain⟨lo1,lo2⟩:=zU hL hS k1 hb;rcases hc with⟨h0,rfl⟩|⟨h0,R,hR,rfl⟩
 ·refine⟨hok',h.le,h.pre,h.pf,fun i' k' h1 h2 h3=>?_⟩;rcases one i' k' h1 h3 with q|⟨rfl,rfl⟩
  ·exact h.pr i' k' h1 h2 q
  ·exact BA hL hi hk hsp hS h0
 ·have hok2:=hok';have hle:=h.le
  refine⟨hok',by show g≤B.m+1;omega,fun i' hi'=>(tV (by omega)).trans (h.pre i' hi'),fun i' hi'=>?_,fun i' k' h1 h2 h3=>?_⟩
  ·show eW aN g L0 (nD B.P B.m R i')=Rp aN (cU B.L B.m S.r i');by_cases ei:i'=B.m
   ·subst ei;rw[JC,tU];obtain⟨⟨_,g2,g3⟩,_⟩:=nZ hsp;rw[rC hi hk h.ok.p g2 g3 (fun t _=>dX (by have:=((dT hS).1.q t).2;omega) ((dT hS).1.q t).1) h.pf B.m R (Nat.le_refl _) hR,IA hS,e,eU,eV]
   ·have hi2:i'<B.m+1:=hi';rw[JD (by omega),tV (by omega)];exact h.pf i' (by omega)
  ·have grow:∀j,j<B.m→cU B.L B.m S.r j=B.L j:=fun j hj=>tV hj;have hk':k'<B.m:=by
    have h2':k'<B.m+1:=h2;by_cases ek:k'=B.m
    ·subst ek;omega
    ·omega
   show sA o (B.m+1) (cU B.L B.m S.r) i' k';rcases one i' k' h1 h3 with q|⟨rfl,rfl⟩
   ·exact(h.pr i' k' h1 hk' q).grow (by omega) grow (by omega) hk'
   ·have hL':=DD hok2.ho hok2.l;have hL2:qN o (B.m+1) (cU B.L B.m S.r):=hL'
    refine vS hL2 (by omega) (by omega) (s:=s) (by rw[grow i' hi,grow k' hk];exact hsp) ?_;rw[kJ (grow i' hi),kJ (grow k' hk),←mB aN hS];refine(lo1.grow (by omega) grow).sum ?_;have hmem:dY o S.r∈S.r:=jJ h0
    have hr:=(dT hS).1.r.1
    have:=Lo.one (o:=o) (n:=B.m+1) (L:=cU B.L B.m S.r) (δ:=M.lcm (dR o B.L i') (dR o B.L k')) 1 (m:=⟨0,0,0,0⟩) (j:=B.m) (by omega) ⟨by decide,by decide,by decide,by decide⟩ (by
     have e0:M.sum ⟨0,0,0,0⟩ (dR o (cU B.L B.m S.r) B.m)=(dY o S.r).m:=by unfold dR;rw[tU];unfold M.sum;refine jY ?_ ?_ ?_ ?_<;>(simp only;omega)
     rw[e0]
     exact tG hL.ho (hr.2 _ hmem).1 k1 (lo2 _ hmem))
    rw[Lq.sc_one,zC,tU]at this;exact this
theorem uY {o:Int} {g:Nat} {L0:Nat→List T}:∀(f:Nat) (B:Bs) (j:Nat),Mk o g L0 B j→∀B' d,lF o g f B j=(B',d)→∃j',Mk o g L0 B' j'∧(d=true→gJ B'.m≤j')
 |0,B,j,h,B',d,e=>by unfold lF at e;cases e;exact⟨j,h,fun q=>of_decide_eq_true q⟩
 |f+1,B,j,h,B',d,e=>by
  unfold lF at e;split at e
  ·rename_i hj;split at e
   ·cases e;exact⟨j,h,fun q=>by cases q⟩
   ·rename_i B2 hs;exact uY f B2 (j+1) (h.step hj hs) B' d e
  ·cases e;exact⟨j,h,fun _=>by omega⟩
theorem wI (f:Nat→Lq) (i:Nat):∀n,i<n→(∀j,j<n→j≠i→f j=Lq.nil)→Lq.sumN f n=f i
 |0,h,_=>by omega
 |n+1,h,h0=>by
  show Lq.sum (Lq.sumN f n) (f n)=f i;by_cases e:i=n
  ·subst e;have:Lq.sumN f i=Lq.sumN (fun _=>Lq.nil) i:=Lq.sumN_congr fun j hj=>h0 j (by omega) (by omega)
   rw[this,oF,zH]
  ·rw[wI f i n (by omega) (fun j hj=>h0 j (by omega)),h0 n (by omega) (fun q=>e q.symm),Lq.sum_nil]
theorem DU {n:Nat} {L:Nat→List T} {i:Nat} (hi:i<n):eW aN n L (jO i)=Rp aN (L i):=by
 unfold eW
 rw[wI _ i n hi (fun j hj hne=>by
  unfold jO
  rw[if_neg hne,jZ,Lq.nil_mul])]
 unfold jO;rw[if_pos rfl,pJ,Lq.sc_mul,zC];exact Lq.sc_one _
theorem Mk.start {o:Int} {n:Nat} {L:Nat→List T} (ho:1≤o∧o≤3) (hl:aY n (lN L) (fN L)=true):Mk o n L (CV n L) 0:=
 ⟨yQ ho hl,Nat.le_refl _,fun _ _=>rfl,fun i hi=>DU hi,fun i k _ _ h=>by omega⟩
theorem wY {o:Int} {n:Nat} {L:Nat→List T} {fuel:Int} {B:Bs} {d:Bool} (h:iD o n L fuel=(B,d)):(B.m=0∧d=false∧¬((1≤o∧o≤3)∧aY n (lN L) (fN L)=true∧(1≤n∧n≤3)∧(0≤fuel∧fuel≤60)))∨(((1≤o∧o≤3)∧aY n (lN L) (fN L)=true∧(1≤n∧n≤3)∧(0≤fuel∧fuel≤60))∧∃j,Mk o n L B j∧(d=true→gJ B.m≤j)):=by
 unfold iD at h;split at h
 ·rename_i hc;exact .inr ⟨hc,uY fuel.toNat _ 0 (Mk.start hc.1 hc.2.1) B d h⟩
 ·rename_i hc;cases h;exact .inl ⟨rfl,rfl,hc⟩
end Go.Proofs.Ytbkighpmkadmmaa
namespace Go.Proofs.Ytbkighpmkadmmaa
open Go.RowKit
set_option linter.unusedVariables false
theorem LY (u:Int) (u0:0≤u) (u1:u<11):∃x,#[Value.int .i64 1,.int .i64 2,.int .i64 3,.int .i64 1,.int .i64 2,.int .i64 3,.int .i64 1,.int .i64 2,.int .i64 3,.int .i64 0,.int .i64 4][u.toNat]? =some (.int .i64 x):=by
 have hu:u=0∨u=1∨u=2∨u=3∨u=4∨u=5∨u=6∨u=7∨u=8∨u=9∨u=10:=by omega
 rcases hu with rfl|rfl|rfl|rfl|rfl|rfl|rfl|rfl|rfl|rfl|rfl<;>exact⟨_,rfl⟩
theorem AY (w:World) (B p:Nat) (h:fV w B p) (hp:p≤90000):Calls Try.prog 53 #[.pointer (some ⟨B,0,none⟩)] w fun e w'=>∃x,e= .returned (.int .i64 x)∧fV w' B (p+1)∧aE B w w':=by
 have hB:=h.lt;go_enter Try.func53,Try.ntmps53;go_wp2_with fail;refine(aT _ B p 11 (h.alloc _) (by omega) (by omega) (by omega)).mono ?_;rintro e w1 ⟨j,rfl,j0,j1,hk⟩;obtain⟨x,hx⟩:=LY j j0 j1;have hc:w1.cell? ⟨w.heap.size,j.toNat,none⟩=some (.int .i64 x):=by rw[hk.beside.cell (by simp) (by omega),World.cell?_alloc_at _ _ _ _ rfl];exact hx
 have hr:=hk.rdr (h.alloc _);have hb:=(bK B w _).trans hk.beside
 clear hk hx h;go_wp2;go_ret;exact⟨_,rfl,hr,hb⟩
open Go.RowKit Go.Deep Go.Joins
theorem Wr.set {w:World} {a:Option Addr} {n:Nat} {f:Nat→T} {lo B o:Nat} {v:Value} (h:Wr w a n f) (hf:n=0∨∃g off,a=some ⟨g,off,none⟩∧lo≤g) (hB:B<lo):Wr (w.setCell ⟨B,o,none⟩ v) a n f:=by
 rcases h with h0|⟨g,off,N,F,rfl,hR,hN,hF⟩
 ·exact .inl h0
 ·rcases hf with h0|⟨g',off',he,hlo⟩
  ·exact .inl h0
  ·cases he;have hne:g≠B:=by omega
   exact .inr ⟨g,off,N,F,rfl,hR.of_block (Below.heap_setCell _ _ _ _ hne),hN,hF⟩
theorem vU {w:World} {a:Option Addr} {n cap g o:Nat} {f:Nat→T} {v:Value} (h:Rd w a n cap f) (hne:n=0∨∀b off,a=some ⟨b,off,none⟩→b≠g):Rd (w.setCell ⟨g,o,none⟩ v) a n cap f:=
 h.grown (row:=some g) ⟨rfl,rfl,rfl,by simp[World.setCell],fun k _ hk=>Below.heap_setCell _ _ _ _ (fun e=>hk (by rw[e]))⟩ (hne.imp id (fun k b off he hb=>k b off he (by cases hb;rfl)))
theorem oS.set {lo:Nat} {w:World} {a:Option Addr} {cap:Nat} {L:List T} {B o:Nat} {v:Value} (h:oS lo w a cap L) (hB:B<lo):oS lo (w.setCell ⟨B,o,none⟩ v) a cap L:=
 ⟨vU h.1 (h.2.2.imp id (fun⟨g,off,he,hlo⟩ b off' hb=>by rw[he]at hb;cases hb;omega)),h.2.1.set h.2.2 hB,h.2.2⟩
theorem oS.nil (lo:Nat) (w:World):oS lo w none 0 []:=⟨⟨Nat.le_refl _,by simp,.inl rfl⟩,.inl rfl,.inl rfl⟩
theorem oS.low {lo lo':Nat} {w:World} {a:Option Addr} {cap:Nat} {L:List T} (h:oS lo w a cap L) (hl:lo'≤lo):oS lo' w a cap L:=⟨h.1,h.2.1,h.2.2.imp id (fun⟨g,off,he,hlo⟩=>⟨g,off,he,kM hl hlo⟩)⟩
theorem qV {B:Nat} {w w':World} (h:aE B w w'):Fr (fun k=>k=B) w w':=⟨h.os,h.tape,h.output,h.size,fun k hk hn=>h.block k hk hn⟩
theorem oT.beside {B:Nat} {w w':World} {a:Option Addr} {g c:Nat} {ad:Nat→Option Addr} {cp:Nat→Nat} {Q:Nat→List T} (h:oT (fun b=>b≠B) w a g c ad cp Q) (hb:aE B w w'):oT (fun b=>b≠B) w' a g c ad cp Q:=h.fr (qV hb) (fun b hn e=>hn e)
theorem oT.below {N:Nat→Prop} {w w':World} {a:Option Addr} {g c:Nat} {ad:Nat→Option Addr} {cp:Nat→Nat} {Q:Nat→List T} (h:oT N w a g c ad cp Q) (hb:Below w.heap.size w w'):oT N w' a g c ad cp Q:=h.fr (P:=fun _=>False) (eK hb) (fun _ _ q=>q)
theorem EU {w:World} {B lo lo':Nat} {g':Option Nat} {v:Value} {LS:List Value} (h:w.ownsRow lo 29 1 v LS.length LS) (hE:∀e∈LS,El w lo' g' e) (hl:LS.length≤100) (h1:B<lo) (h2:B<lo'):∃a c ad cp L,v= .slice a LS.length c∧oT (fun b=>b≠B) w a LS.length c ad cp L:=by
 have each:∀i,i<LS.length→∃t:(Option Addr×Nat)×List T,LS[i]? =some (.slice t.1.1 t.2.length t.1.2)∧RL w t.1.1 t.1.2 t.2∧(t.2.length=0∨∀b off,t.1.1=some ⟨b,off,none⟩→b≠B):=fun i hi=>by obtain⟨a,n,c,f,e,hr,_,hb⟩:=hE (LS[i]) (List.getElem_mem hi);obtain⟨X,rfl,hX⟩:=IF hr;exact⟨((a,c),X),by rw[List.getElem?_eq_getElem hi,e],hX,hb.imp id (fun⟨b,off,e1,hlo,_⟩ b' off' e2=>by rw[e1]at e2;cases e2;omega)⟩
 haveI:Inhabited ((Option Addr×Nat)×List T):=⟨((none,0),[])⟩
 obtain⟨q,hq⟩:=choose_lt each;rcases h.2 with⟨hv,h0⟩|⟨b,cap,cur,hv,hlo,hg,hnc,_⟩
 ·exact⟨none,0,fun i=>(q i).1.1,fun i=>(q i).1.2,fun i=>(q i).2,by rw[hv,h0],⟨by omega,by omega,.inl h0,fun i hi=>(hq i hi).2.1⟩,.inl h0,fun i hi=>(hq i hi).2.2⟩
 ·have hr:=h;rw[hv]at hr;refine⟨some ⟨b,0,none⟩,cap,fun i=>(q i).1.1,fun i=>(q i).1.2,fun i=>(q i).2,hv,⟨hnc,by omega,.inr ⟨b,0,rfl,(hr.lt b rfl).2,fun i hi=>?_⟩,fun i hi=>(hq i hi).2.1⟩,.inr (fun b' off' e=>?_),fun i hi=>(hq i hi).2.2⟩
  ·rw[Nat.zero_add,hr.cellAt i (by omega),(hq i hi).1]
  ·cases e;omega
theorem ET {Y:Nat→Prop} {w:World} {lo:Nat} {tvL tvP:Value} {g nL:Nat} {L:Nat→List T} {nP:Nat} {Q:Nat→Nat→List T} {LS PS:List Value} (h:jX Y w lo tvL tvP g nL L nP Q LS PS) (hn:nL≤100) {B:Nat} (hB:Y B):∃a c ad cp,tvL= .slice a nL c∧oT (fun b=>b≠B) w a nL c ad cp L:=by
 have each:∀i,i<nL→∃t:Option Addr×Nat,LS[i]? =some (.slice t.1 (L i).length t.2)∧wQ (NB Y tvL tvP) w t.1 t.2 (L i):=fun i hi=>by obtain⟨a,c,e,hr⟩:=h.eL i hi;exact⟨(a,c),e,hr⟩
 haveI:Inhabited (Option Addr×Nat):=⟨(none,0)⟩
 obtain⟨q,hq⟩:=choose_lt each;have el:∀i,i<nL→(L i).length=0∨∀b off,(q i).1=some ⟨b,off,none⟩→b≠B:=fun i hi=>((hq i hi).2.2).imp id (fun k b off e q'=>(k b off e).2.2 (by rw[q'];exact hB))
 rcases h.rL.2 with⟨hv,h0⟩|⟨b,cap,cur,hv,hlo,hg,hnc,_⟩
 ·exact⟨none,0,fun i=>(q i).1,fun i=>(q i).2,by rw[hv,h0],⟨by omega,by omega,.inl h0,fun i hi=>(hq i hi).2.1⟩,.inl h0,el⟩
 ·have hr:=h.rL;rw[hv]at hr;refine⟨some ⟨b,0,none⟩,cap,fun i=>(q i).1,fun i=>(q i).2,hv,⟨hnc,by omega,.inr ⟨b,0,rfl,(hr.lt b rfl).2,fun i hi=>?_⟩,fun i hi=>(hq i hi).2.1⟩,.inr (fun b' off' e q'=>?_),el⟩
  ·rw[Nat.zero_add,hr.cellAt i (by omega),(hq i hi).1]
  ·cases e;exact(h.nL b (by rw[hv];rfl)).2 (by rw[q'];exact hB)
def LH (w:World) (B p:Nat) (e:Ending) (w':World):Prop:=∃(o:Int) (a:Option Addr) (n c:Nat) (ad:Nat→Option Addr) (cp:Nat→Nat) (L:Nat→List T) (q:Nat),e= .returned (.tuple #[.int .i64 o,.slice a n c])∧oT (fun b=>b≠B) w' a n c ad cp L∧n≤12∧q≤p+1010∧fV w' B q∧aE B w w'
theorem AP {o:Int} {n:Nat} {L:Nat→List T} {fuel:Int}:(iD o n L fuel).1.m≤12:=by
 obtain⟨B,d,h⟩:∃B d,iD o n L fuel=(B,d):=⟨_,_,rfl⟩
 rw[h];rcases wY h with⟨h0,_⟩|⟨_,j,hm,_⟩
 ·show B.m≤12;omega
 ·exact(aZ hm.ok.l).1
theorem CF (w:World) (B p:Nat) (h:fV w B p) (hp:p≤700):Calls Try.prog 47 #[.pointer (some ⟨B,0,none⟩)] w (LH w B p):=by
 have hB:=h.lt;go_enter Try.func47,Try.ntmps47;go_wp2_with fail;refine(AY w _ _ h (by omega)).mono ?_;rintro e w2 ⟨o,rfl,hR2,s2⟩;have hs2:=s2.size
 have HS2:=aA s2;clear h s2;go_wp2_with fail;refine(DG w2 _ _ 2 24 hR2 (by omega) (by omega) (by omega) (by omega) (by omega)).mono ?_;rintro e w4 ⟨v,LS,q',rfl,ho,hlen,hE,hq',hR4,s4⟩;obtain⟨aa,ca,ada,cpa,L,rfl,hra⟩:=EU (B:=B) ho hE (by omega) (by omega) (by omega);have hs4:=s4.size
 have HS4:=aA (HS2.out.trans s4);have HRA:=aA hra
 have HR4:=aA hR4;clear hR2 hR4 s4 hra ho hE HS2;go_wp2_with fail;refine(CW w4 o aa LS.length ca ada cpa L HRA.out.1 60).mono ?_;have hm12:=AP (o:=o) (n:=LS.length) (L:=L) (fuel:=60)
 obtain⟨X,d,hX⟩:∃X d,iD o LS.length L 60=(X,d):=⟨_,_,rfl⟩
 rw[hX]at hm12⊢;rintro e w5 ⟨tvL,tvP,LS5,PS5,rfl,hb5,hk5⟩;have hm12':X.m≤12:=hm12
 obtain⟨la,lc,lad,lcp,rfl,hrl⟩:=ET hk5 (show X.m≤100 by omega) (B:=B) (show B<w4.heap.size by omega);obtain⟨pa,pc,pA,pC,pAD,pCP,rfl,_⟩:=hk5.readP (show X.m≤100 by omega);have hs5:=hb5.size
 have HRA5:=aA (HRA.out.below hb5);have HRL5:=aA hrl
 have HR5:=aA (HR4.out.grown (uH hb5 none) (fun _ e=>by cases e));have HS5:Hid (aE B w w5):=HS4.out.trans ⟨hb5.os,hb5.tape,hb5.output,hb5.size,fun k hk _=>hb5.block k hk⟩
 have hBw:B<w5.heap.size:=by omega
 clear HRA HR4 HS4 hb5 hk5 hrl hX hm12;have bx:=aC w5 (.cells #[.slice la X.m lc,.slice pa X.m pc,.bool d] 71)
 have HX6:=aA (cY.box w5 71 (.slice la X.m lc) (.slice pa X.m pc) (.bool d));have HR6:=aA (HR5.out.alloc (.cells #[.slice la X.m lc,.slice pa X.m pc,.bool d] 71))
 have HRA6:=aA (HRA5.out.below bx);have HRL6:=aA (HRL5.out.below bx)
 have HS6:=aA (HS5.out.alloc (.cells #[.slice la X.m lc,.slice pa X.m pc,.bool d] 71));clear HRA5 HRL5 HR5 HS5 bx;go_wp2_with fail;refine(aT _ B _ 3 HR6.out (by omega) (by omega) (by omega)).mono ?_;rintro e w7 ⟨x,rfl,hx0,hx3,hp7⟩;have s7:=hp7.beside
 have HR7:=aA (hp7.rdr HR6.out);have HRA7:=aA (HRA6.out.beside s7)
 have HRL7:=aA (HRL6.out.beside s7);have HS7:=aA (HS6.out.trans s7)
 obtain⟨⟨c0,c1,c2⟩,cz⟩:=HX6.out.fr (qV s7) (by omega);clear hp7 s7 HRA6 HRL6 HR6 HS6 HX6;by_cases hx:0<x
 ·cases d
  ·go_wp2;refine cN (v:=.tuple #[.int .i64 o,.slice aa LS.length ca]) (by simp[results,Try.results47,go_sem, *]) rfl ?_;exact⟨o,aa,LS.length,ca,ada,cpa,L,_,rfl,HRA7.out,by omega,by omega,HR7.out,HS7.out⟩
  ·go_wp2_with fail;have hS:w7.drew.cell? ⟨w5.heap.size,0,none⟩=some (.slice la X.m lc):=c0
   go_region_held3 (fun u=>u.cell? ⟨w5.heap.size,0,none⟩=some (.slice la X.m lc)) (with_reducible exact hS) (fail)
   go_wp2;refine cN (v:=.tuple #[.int .i64 o,.slice la X.m lc]) (by simp[results,Try.results47,go_sem, *]) rfl ?_;exact⟨o,la,X.m,lc,lad,lcp,X.L,_,rfl,HRL7.out.below (cM _ _).drew,hm12',by omega,HR7.out.drewN 1,HS7.out.drew⟩
 ·go_wp2;refine cN (v:=.tuple #[.int .i64 o,.slice aa LS.length ca]) (by simp[results,Try.results47,go_sem, *]) rfl ?_;exact⟨o,aa,LS.length,ca,ada,cpa,L,_,rfl,HRA7.out,by omega,by omega,HR7.out,HS7.out⟩
end Go.Proofs.Ytbkighpmkadmmaa
