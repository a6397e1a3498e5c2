/-
  The greatest term of a product in each order, as it is told.
-/
import Derived.Test.YtelkehjdfcoeiaaGreatNau
set_option maxHeartbeats 8000000
set_option maxRecDepth 100000
namespace Go.Proofs.YtelkehjdfcoeiaaGreat
open Go.RowKit
set_option linter.unusedVariables false
def iR (o:Int) (m:M):Int:=if o=1 then dI m else if o=3 then tE m else fF m
theorem AN {o:Int} {a b:M} (ho:1≤o∧o≤3) (ha:a.ok=true) (hb:b.ok=true):M.ord o a b=c3 (iR o a) (iR o b):=by
 obtain⟨h1,h2⟩:=ho;have h:o=1∨o=2∨o=3:=by omega
 rcases h with rfl|rfl|rfl
 ·rw[←vZ ha hb];simp[iR]
 ·rw[←GL ha hb];simp[iR]
 ·rw[←GK ha hb];simp[iR]
theorem AO (o:Int):Wt (iR o):=fun a b i k=>by
 unfold iR dI tE fF M.sum;split
 ·simp only;omega
 ·split
  ·simp only;omega
  ·simp only;omega
theorem OE {a b c d:Int} (hb:0≤b∧b≤15) (hd:0≤d∧d≤15) (h:a*16+b=c*16+d):a=c∧b=d:=by omega
theorem WI {a b c d:Int} (hb:0≤b∧b≤65535) (hd:0≤d∧d≤65535) (h:a*65536+b=c*65536+d):b=d:=by omega
theorem JI {a:M} (ha:a.ok=true):0≤fF a∧fF a≤65535:=by obtain⟨x1,x2,y1,y2,d1,d2,e1,e2⟩:=M.ok_iff.1 ha;unfold fF;omega
theorem QV {a b:M} (ha:a.ok=true) (hb:b.ok=true) (h:fF a=fF b):a=b:=by
 obtain⟨x1,x2,y1,y2,d1,d2,e1,e2⟩:=M.ok_iff.1 ha;obtain⟨x3,x4,y3,y4,d3,d4,e3,e4⟩:=M.ok_iff.1 hb;unfold fF at h;have k1:=OE ⟨y1,y2⟩ ⟨y3,y4⟩ h
 have k2:=OE ⟨x1,x2⟩ ⟨x3,x4⟩ k1.1;have k3:=OE ⟨e1,e2⟩ ⟨e3,e4⟩ k2.1
 have q1:=k1.2;have q2:=k2.2
 have q3:=k3.2;have q4:=k3.1
 revert q1 q2 q3 q4
 cases a;cases b;intro q1 q2 q3 q4;simp only at q1 q2 q3 q4;rw[q1,q2,q3,q4]
theorem oV {o:Int} (a b:M) (ha:a.ok=true) (hb:b.ok=true) (h:iR o a=iR o b):a=b:=by
 refine QV ha hb ?_;have ba:=JI ha
 have bb:=JI hb;unfold iR at h;split at h
 ·exact WI ba bb h
 ·split at h
  ·exact WI ba bb h
  ·exact h
theorem XC {a b:Int}:0<c3 a b↔b<a:=by unfold c3;split<;>(try split)<;>omega
theorem sS {o:Int} {f:Nat→T} {n:Nat} (ho:1≤o∧o≤3) (hm:∀i,i<n→(f i).m.ok=true):∀(u i k:Nat),i+u≤n→k<n→aR o f u i k<n∧iR o (f k).m≤iR o (f (aR o f u i k)).m∧∀j,i≤j→j<i+u→iR o (f j).m≤iR o (f (aR o f u i k)).m
 |0,i,k,_,hk=>⟨hk,Int.le_refl _,fun j h1 h2=>by omega⟩
 |u+1,i,k,hi,hk=>by
  have hc:=XC (a:=iR o (f i).m) (b:=iR o (f k).m);rw[←AN ho (hm i (by omega)) (hm k hk)]at hc;simp only[aR];split
  ·rename_i h;obtain⟨h1,h2,h3⟩:=sS ho hm u (i+1) i (by omega) (by omega);have h4:=hc.1 h
   refine⟨h1,by omega,fun j hj1 hj2=>?_⟩;by_cases hji:j=i
   ·rw[hji];exact h2
   ·exact h3 j (by omega) (by omega)
  ·rename_i h;obtain⟨h1,h2,h3⟩:=sS ho hm u (i+1) k (by omega) hk;have h4:¬iR o (f k).m<iR o (f i).m:=fun q=>h (hc.2 q)
   refine⟨h1,h2,fun j hj1 hj2=>?_⟩;by_cases hji:j=i
   ·rw[hji];omega
   ·exact h3 j (by omega) (by omega)
def pS (o:Int) (L:List T):T:=bF o L.length (lf L)
def xG (o:Int) (L:List T):Bool:=aY o L.length (lf L)
theorem iB {o:Int} {L:List T}:xG o L=true↔(1≤o∧o≤3)∧cJ L=true∧L≠[]:=by
 unfold xG aY;rw[Bool.and_eq_true,Bool.and_eq_true,decide_eq_true_eq,decide_eq_true_eq];constructor
 ·rintro⟨⟨h1,h2⟩,h3⟩;exact⟨h1,h2,fun e=>by rw[e]at h3;simp at h3⟩
 ·rintro⟨h1,h2,h3⟩;exact⟨⟨h1,h2⟩,List.length_pos_iff.2 h3⟩
theorem sQ {o:Int} {L:List T} (h:xG o L=true):pS o L∈L∧∀t∈L,iR o t.m≤iR o (pS o L).m:=by
 obtain⟨ho,oL,hne⟩:=iB.1 h;have hpos:=List.length_pos_iff.2 hne
 have fl:=dR (show aK L.length (lf L)=true from oL);have e:pS o L=lf L (aT o (lf L) L.length):=eI h
 have hm:∀i,i<L.length→(lf L i).m.ok=true:=fun i hi=>(fl.2 i hi).1;have key:=sS (o:=o) (f:=lf L) (n:=L.length) ho hm (L.length-1) 1 0 (by omega) hpos
 have e2:aT o (lf L) L.length=aR o (lf L) (L.length-1) 1 0:=rfl;rw[e,e2];refine⟨?_,fun t ht=>?_⟩
 ·rw[iH key.1];exact List.getElem_mem _
 ·obtain⟨i,hi,rfl⟩:=List.mem_iff_getElem.1 ht;by_cases h0:i=0
  ·subst h0;have:=key.2.1
   rwa[iH hpos]at this
  ·have:=key.2.2 i (by omega) (by omega)
   rwa[iH hi]at this
theorem SI {B P:List T} (h:kO [] B=(P,true)):P=[]:=by have h1:=sJ AS h;rw[nK,Lq.nil_mul]at h1;exact sV (mG h) h1
theorem SJ {A P:List T} (h:kO A []=(P,true)):P=[]:=by have h1:=sJ AS h;rw[nK,Lq.mul_nil]at h1;exact sV (mG h) h1
theorem OS (o:Int):xG o []=false:=by
 cases h:xG o []
 ·rfl
 ·exact absurd rfl (iB.1 h).2.2
theorem UG {o:Int} (ho:1≤o∧o≤3) {A B P:List T} (h:kO A B=(P,true)):xG o P=(xG o A&&xG o B)∧(xG o A=true→xG o B=true→M.mul ⟨(pS o A).m.x,(pS o A).m.y,(pS o A).m.d,(pS o A).m.e⟩ ⟨(pS o B).m.x,(pS o B).m.y,(pS o B).m.d,(pS o B).m.e⟩=((pS o P).m,true)∧nT (pS o A).c (pS o B).c=(pS o P).c):=by
 obtain⟨oA,oB⟩:=BE h;cases hA:xG o A
 ·have eA:A=[]:=by
   by_cases e:A=[]
   ·exact e
   ·rw[iB.2 ⟨ho,oA,e⟩]at hA;cases hA
  subst eA;rw[SI h,OS];exact⟨rfl,fun q=>by cases q⟩
 ·cases hB:xG o B
  ·have eB:B=[]:=by
    by_cases e:B=[]
    ·exact e
    ·rw[iB.2 ⟨ho,oB,e⟩]at hB;cases hB
   subst eB;rw[SJ h,OS];exact⟨rfl,fun _ q=>by cases q⟩
  ·obtain⟨a1,a2⟩:=sQ hA;obtain⟨b1,b2⟩:=sQ hB;have hp:=yF (AO o) oV h a1 b1 a2 b2
   have hne:P≠[]:=fun e=>by rw[e]at hp;cases hp.1
   have hP:xG o P=true:=iB.2 ⟨ho,wW h,hne⟩;refine⟨hP,fun _ _=>?_⟩;obtain⟨p1,p2⟩:=sQ hP;have fP:=mG h
   have r1:=fP.2 _ p1;have hs:=(BF h).2 _ a1 _ b1
   have l1:=hp.2 _ p1;have l2:=p2 _ hp.1
   dsimp only at l2;have em:(pS o P).m=(pS o A).m.sum (pS o B).m:=by refine oV (o:=o) _ _ r1.1 hs ?_;exact Int.le_antisymm l1 l2
   have ra:=(aD oA).2.2 _ a1;have rb:=(aD oB).2.2 _ b1
   have ec:(pS o P).c=(pS o A).c*(pS o B).c%101:=by
    have h1:∀X:List T,aH X→∀t∈X,∀s∈X,t.m=s.m→t=s:=fun X hX=>by
     induction X with
     |nil=>intro t ht;cases ht
     |cons z r ih=>
      intro t ht s hs e;have hp:=(List.pairwise_cons.1 hX.1).1
      rcases List.mem_cons.1 ht with rfl|ht'
      ·rcases List.mem_cons.1 hs with rfl|hs'
       ·rfl
       ·have:=hp s hs';rw[e]at this;omega
      ·rcases List.mem_cons.1 hs with rfl|hs'
       ·have:=hp t ht';rw[e]at this;omega
       ·exact ih hX.tail t ht' s hs' e
    rw[h1 P fP _ p1 _ hp.1 em]
   refine⟨?_,?_⟩
   ·rw[em];have e3:∀m:M,(⟨m.x,m.y,m.d,m.e⟩:M)=m:=fun m=>by cases m;rfl
    rw[e3,e3];unfold M.mul;simp[ra.1,rb.1,hs]
   ·rw[ec,gY (by omega) ra.2.2 (by omega) rb.2.2]
theorem mI {m:M}:∀{L:List T},aI L m≠0→∃t∈L,t.m=m
 |[],h=>absurd rfl h
 |t::r,h=>by
  rw[aI]at h;split at h
  ·rename_i he;exact⟨t,List.mem_cons_self ..,bM.1 he⟩
  ·obtain⟨s,hs,e⟩:=mI h;exact⟨s,List.mem_cons_of_mem _ hs,e⟩
theorem yL {L:List T} (h:aH L) {t:T} (ht:t∈L):aI L t.m=t.c∧aI L t.m≠0:=by
 have h1:aI L t.m=t.c:=by
  induction L with
  |nil=>cases ht
  |cons s r ih=>
   rw[aI];rcases List.mem_cons.1 ht with rfl|ht'
   ·rw[if_pos (bM.2 rfl)]
   ·have h1:=h.head t ht';rw[if_neg (fun e=>by rw[bM.1 e]at h1;omega)];exact ih h.tail ht'
 have h2:=h.2 t ht;exact⟨h1,by omega⟩
theorem UU {a c b:M} (h:M.mul a c=(b,true)):b.ok=true:=by
 unfold M.mul at h;split at h
 ·rename_i q;cases h;exact q.2.2
 ·cases h
theorem lQ {o:Int} {A B L:List T} (h:dH o (lf A) A.length (lf B) B.length=(L,true)):eQ o A.length (lf A) B.length (lf B)=true∧∃X Y,kO [eR o A.length (lf A) B.length (lf B)] A=(X,true)∧kO [eS o A.length (lf A) B.length (lf B)] B=(Y,true)∧cJ X=true∧cJ Y=true∧L=bY X Y∧L.length≤400:=by
 unfold dH at h;by_cases hk:eQ o A.length (lf A) B.length (lf B)=true
 ·refine⟨hk,?_⟩;rw[if_pos hk]at h;unfold kV at h;by_cases h2:(aZ (lf [eR o A.length (lf A) B.length (lf B)]) 1 (lf A) A.length).2=true∧(aZ (lf [eS o A.length (lf A) B.length (lf B)]) 1 (lf B) B.length).2=true
  ·rw[if_pos h2]at h;obtain⟨X,hX⟩:∃X,kO [eR o A.length (lf A) B.length (lf B)] A=(X,true):=by
    rcases SH [eR o A.length (lf A) B.length (lf B)] A with e|e
    ·exact absurd h2.1 (by rw[show aZ (lf [eR o A.length (lf A) B.length (lf B)]) 1 (lf A) A.length=([],false)from e];simp)
    ·exact e
   obtain⟨Y,hY⟩:∃Y,kO [eS o A.length (lf A) B.length (lf B)] B=(Y,true):=by
    rcases SH [eS o A.length (lf A) B.length (lf B)] B with e|e
    ·exact absurd h2.2 (by rw[show aZ (lf [eS o A.length (lf A) B.length (lf B)]) 1 (lf B) B.length=([],false)from e];simp)
    ·exact e
   rw[show aZ (lf [eR o A.length (lf A) B.length (lf B)]) 1 (lf A) A.length=(X,true)from hX,show aZ (lf [eS o A.length (lf A) B.length (lf B)]) 1 (lf B) B.length=(Y,true)from hY]at h;rcases tK X Y with e|⟨_,_,hl,e⟩
   ·rw[show iO (lf X) X.length (lf Y) Y.length=([],false)from e]at h;cases h
   ·rw[show iO (lf X) X.length (lf Y) Y.length=(bY X Y,true)from e]at h;have hL:bY X Y=L:=by cases h;rfl
    exact⟨X,Y,hX,hY,wW hX,wW hY,hL.symm,by rw[←hL];exact hl⟩
  ·rw[if_neg h2]at h;cases h
 ·rw[if_neg hk]at h;cases h
theorem RU {o:Int} {A B L:List T} (h:dH o (lf A) A.length (lf B) B.length=(L,true)):cJ L=true:=by obtain⟨hk,X,Y,hX,hY,oX,oY,rfl,hl⟩:=lQ h;exact fO hl (cB (aD oX).2 (aD oY).2).1
theorem EU {o:Int} {u:T} {A X:List T} (gu:u.m.ok=true∧1≤u.c∧u.c≤100) (hA:xG o A=true) (h:kO [u] A=(X,true)) {b:M} (hb:M.mul u.m (pS o A).m=(b,true)) (hc:nT u.c (pS o A).c=1):aI X b=1∧∀t∈X,iR o t.m≤iR o b:=by
 obtain⟨ho,oA,_⟩:=iB.1 hA;have hu:xG o [u]=true:=iB.2 ⟨ho,gB gu,by simp⟩
 obtain⟨e1,e2⟩:=UG ho h;rw[hu,hA]at e1;have hX:xG o X=true:=e1
 obtain⟨e3,e4⟩:=e2 hu hA;have eu:pS o [u]=u:=by have:=(sQ hu).1;simpa using this
 rw[eu]at e3 e4;have eb:(pS o X).m=b:=by have:=e3.symm.trans (show M.mul ⟨u.m.x,u.m.y,u.m.d,u.m.e⟩ ⟨(pS o A).m.x,(pS o A).m.y,(pS o A).m.d,(pS o A).m.e⟩=(b,true)from hb);cases this;rfl
 obtain⟨t1,t2⟩:=sQ hX;have hm:=(yL (aD (wW h)).2 t1).1
 rw[eb]at t2 hm;refine⟨?_,t2⟩;rw[hm,←e4,hc]
theorem MP {o:Int} {A B L:List T} (h:dH o (lf A) A.length (lf B) B.length=(L,true)):∀t∈L,M.cmp o t.m (kT o A.length (lf A) B.length (lf B))<0:=by
 obtain⟨hk,X,Y,hX,hY,oX,oY,rfl,hl⟩:=lQ h;obtain⟨gU,gV⟩:=rV hk;obtain⟨m1,m2,c1,c2,_⟩:=JP hk;have hk':=hk
 unfold eQ at hk';rw[Bool.and_eq_true]at hk';obtain⟨x1,x2⟩:=EU gU (show xG o A=true from hk'.1) hX m1 c1;obtain⟨y1,y2⟩:=EU gV (show xG o B=true from hk'.2) hY m2 c2;have fX:=(aD oX).2
 have fY:=(aD oY).2;obtain⟨fL,cL⟩:=cB fX fY;have ho:=(jM hk'.1).1
 have hbok:(kT o A.length (lf A) B.length (lf B)).ok=true:=UU m1;generalize kT o A.length (lf A) B.length (lf B)=b at *;intro t ht;have tok:=(fL.2 t ht).1
 obtain⟨q1,q2⟩:=yL fL ht;have hne:t.m≠b:=fun e=>by apply q2;rw[e,cL b,x1,y1];decide
 have hle:iR o t.m≤iR o b:=by
  by_cases hx:aI X t.m=0
  ·by_cases hy:aI Y t.m=0
   ·exact absurd (by rw[cL,hx,hy];decide) q2
   ·obtain⟨s,hs,e⟩:=mI hy;rw[←e];exact y2 s hs
  ·obtain⟨s,hs,e⟩:=mI hx;rw[←e];exact x2 s hs
 have hlt:iR o t.m≠iR o b:=fun e=>hne (oV _ _ tok hbok e);unfold M.cmp;rw[if_pos ⟨ho,tok,hbok⟩,AN ho tok hbok];unfold c3;split
 ·omega
 ·split<;>omega
open Go.RowKit Go.Deep Go.Joins
theorem aU {n:Nat} {ln:Nat→Nat} {f:Nat→Nat→T} (h:aW n ln f=true):n≤12∧∀i,i<n→ln i≠0∧aK (ln i) (f i)=true:=of_decide_eq_true h
def mP (p:T→Bool) (f:Nat→T):Nat→Int
 |0=> -1
 |n+1=>if 0≤mP p f n then mP p f n else if p (f n)=true then(n:Int)else -1
theorem rA {p:T→Bool} {f:Nat→T}:∀{k:Nat},(∀j,j<k→p (f j)=false)→mP p f k= -1
 |0,_=>rfl
 |k+1,h=>by have h1:=rA (p:=p) (f:=f) (k:=k) (fun j hj=>h j (by omega));unfold mP;rw[h1,if_neg (by omega),if_neg (by rw[h k (by omega)];decide)]
theorem uK {p:T→Bool} {f:Nat→T} {k:Nat} (h:∀j,j<k→p (f j)=false) (hk:p (f k)=true):∀n,k<n→mP p f n=(k:Int)
 |0,h0=>by omega
 |n+1,h0=>by
  by_cases e:k=n
  ·subst e;unfold mP;rw[rA h,if_neg (by omega),if_pos hk]
  ·have h1:=uK h hk n (by omega);unfold mP;rw[h1,if_pos (by omega)]
theorem zO {p:T→Bool} {f:Nat→T}:∀{n:Nat},0≤mP p f n↔∃i,i<n∧p (f i)=true
 |0=>⟨fun h=>absurd (show(0:Int)≤ -1 from h) (by decide),fun⟨_,h,_⟩=>by omega⟩
 |n+1=>by
  have ih:=zO (p:=p) (f:=f) (n:=n);unfold mP;by_cases h:0≤mP p f n
  ·rw[if_pos h];exact⟨fun _=>by obtain⟨i,hi,hp⟩:=ih.1 h;exact⟨i,by omega,hp⟩,fun _=>h⟩
  ·rw[if_neg h];by_cases hp:p (f n)=true
   ·rw[if_pos hp];exact⟨fun _=>⟨n,by omega,hp⟩,fun _=>by omega⟩
   ·rw[if_neg hp];refine⟨fun hh=>absurd hh (by decide),fun⟨i,hi,hpi⟩=>?_⟩;by_cases e:i=n
    ·subst e;exact absurd hpi hp
    ·exact absurd (ih.2 ⟨i,by omega,hpi⟩) h
def WX (g:Nat) (lb:Array Value) (p:T→Bool) (Q:World→Prop) (f:Nat→T) (n:Nat):Prop:=
 ∀(k:Nat) (W:World),k<n→Q W→Calls Tryz.prog g (#[.agg #[.int .i64 (f k).c,.int .i64 (f k).m.x,.int .i64 (f k).m.y,.int .i64 (f k).m.d,.int .i64 (f k).m.e]]++lb) W fun r w'=>r= .returned (.bool (p (f k)))∧Below W.heap.size W w'
theorem Cq (w:World) (a:Option Addr) (n cap:Nat) (f:Nat→T) (g:Nat) (lb:Array Value) (p:T→Bool) (Q:World→Prop) (eg:∀args w,(callFunc g args).run Tryz.prog w= .ok (.enter g args) w) (hW:WX g lb p Q f n) (hQ:∀W',Below w.heap.size w W'→Q W') (h:Rd w a n cap f):Calls Tryz.prog 166 #[.slice a n cap,.func (.func g) #[] lb] w fun r w'=>r= .returned (.int .i64 (mP p f n))∧Below w.heap.size w w':=by
 have HA:=aA h;have HW:=aA hW
 have HQ:=aA hQ;have hn:(n:Int)≤140737488351232:=by have:=h.2.1;omega
 clear h hW hQ;go_enter Tryz.func166,Tryz.ntmps166;go_wp2;go_loopw [8] (fun v wr=>∃k:Nat,k≤n∧v= .int .i64 (k:Int)∧Below w.heap.size w wr∧∀j,j<k→p (f j)=false) (fun v _=>n-(intOf v).toNat);case atStart=>exact⟨0,Nat.zero_le _,rfl,bQ _ _,fun j hj=>by omega⟩
 case round=>
  obtain⟨k,hk,rfl,hB,hJ⟩:=hrel;have HJ:=aA hJ
  have HB:=aA hB;clear hJ;by_cases hlt:k<n
  ·have hkn:(k:Int)<(n:Int):=by omega
   have hri:=HA.out.below hB;rcases hri.2.2 with h0|⟨b,off,hpe,hblt,hcl⟩
   ·omega
   obtain⟨g0,g1,g2,g3,g4⟩:=hcl k hlt;have HCALL:=aA (HW.out k wr hlt (HQ.out _ hB))
   clear hcl hri hB;subst hpe;cases hpk:p (f k)
   ·have HP:=aA hpk;go_wp2_with fail;refine HCALL.out.mono ?_;rw[hpk];rintro r w4 ⟨rfl,hb4⟩;have HB4:=aA (aB HB.out hb4)
    clear hb4 g0 g1 g2 g3 g4 hpk;go_wp2;go_roundw
    case rel=>exact⟨k+1,by omega,by go_num,HB4.out,fun j hj=>by
     by_cases e:j=k
     ·rw[e];exact HP.out
     ·exact HJ.out j (by omega)⟩
    case measure=>simp[intOf];omega
   ·have HE:Hid (mP p f n=(k:Int)):=uK HJ.out hpk n hlt;go_wp2_with fail;refine HCALL.out.mono ?_;rw[hpk];rintro r w4 ⟨rfl,hb4⟩;have HB4:=aA (aB HB.out hb4)
    clear hb4 g0 g1 g2 g3 g4 hpk;go_wp2;go_ret;exact⟨congrArg (fun z=>Ending.returned (Value.int IntKind.i64 z)) HE.out.symm,HB4.out⟩
  ·have hnl:¬(k:Int)<(n:Int):=by omega
   have hie:k=n:=by omega
   subst hie;have HE:Hid (mP p f k= -1):=rA HJ.out
   go_wp2;go_ret;exact⟨congrArg (fun z=>Ending.returned (Value.int IntKind.i64 z)) HE.out.symm,HB.out⟩
theorem XK (t:T) (m:M) (B:Nat) (W:World) (h:M4 W B m.x m.y m.d m.e):Calls Tryz.prog 167 #[.agg #[.int .i64 t.c,.int .i64 t.m.x,.int .i64 t.m.y,.int .i64 t.m.d,.int .i64 t.m.e],.pointer (some ⟨B,0,none⟩)] W fun r w'=>r= .returned (.bool (M.dvd t.m m))∧Below W.heap.size W w':=by
 obtain⟨bv,hbv⟩:∃bv,M.dvd ⟨t.m.x,t.m.y,t.m.d,t.m.e⟩ ⟨m.x,m.y,m.d,m.e⟩=bv:=⟨_,rfl⟩
 rw[show M.dvd t.m m=bv from hbv];have HD:=aA hbv
 have B1w:=aA (aC W (.cells #[.int .i64 t.c,.int .i64 t.m.x,.int .i64 t.m.y,.int .i64 t.m.d,.int .i64 t.m.e] 86));have hlt:=h.lt
 obtain⟨c1,c2,c3,c4⟩:=h;clear hbv;go_enter Tryz.func167,Tryz.ntmps167;go_wp2_with fail;refine(kI HD.out _).mono ?_;rintro r w1 ⟨rfl,hb⟩;have HB:=aA (aB B1w.out hb)
 clear hb c1 c2 c3 c4;go_wp2;go_ret;exact⟨rfl,HB.out⟩
theorem MJ (w:World) (a:Option Addr) (n cap:Nat) (f:Nat→T) (m:M) (h:Rd w a n cap f):Calls Tryz.prog 139 #[.slice a n cap,.agg #[.int .i64 m.x,.int .i64 m.y,.int .i64 m.d,.int .i64 m.e]] w fun r w'=>r= .returned (.int .i64 (mP (fun t=>M.dvd t.m m) f n))∧Below w.heap.size w w':=by
 have HI:=aA (Cq (w.alloc (.cells #[.int .i64 m.x,.int .i64 m.y,.int .i64 m.d,.int .i64 m.e] 84)) a n cap f 167 #[.pointer (some ⟨w.heap.size,0,none⟩)] (fun t=>M.dvd t.m m) (fun W=>M4 W w.heap.size m.x m.y m.d m.e) (enters_of Tryz.func167 (by kernel_rfl) rfl) (fun k W hk hQ=>XK (f k) m _ W hQ) (fun W' hb=>(M4.box w 84 m.x m.y m.d m.e).below hb) (h.below (aC w _)));have HB0:=aA (aC w (.cells #[.int .i64 m.x,.int .i64 m.y,.int .i64 m.d,.int .i64 m.e] 84))
 clear h;go_enter Tryz.func139,Tryz.ntmps139;go_wp2_with fail;refine HI.out.mono ?_;rintro r w1 ⟨rfl,hb⟩;have HB:=aA (aB HB0.out hb)
 clear hb HI HB0;go_wp2;go_ret;exact⟨rfl,HB.out⟩
def nH (o:Int) (ln:Nat→Nat) (f:Nat→Nat→T):Nat→List T
 |0=>[]
 |i+1=>nH o ln f i++[kS o ln f i]
theorem mA (o:Int) (ln:Nat→Nat) (f:Nat→Nat→T):∀i,(nH o ln f i).length=i
 |0=>rfl
 |i+1=>by unfold nH;rw[List.length_append,mA o ln f i];rfl
theorem zU (o:Int) (ln:Nat→Nat) (f:Nat→Nat→T):∀n i,i<n→lf (nH o ln f n) i=kS o ln f i
 |0,i,h=>by omega
 |n+1,i,h=>by
  have hl:=mA o ln f n;unfold nH lf;by_cases e:i=n
  ·subst e;rw[List.getD_eq_getElem?_getD,List.getElem?_append_right (by omega),hl];simp
  ·have:=zU o ln f n i (by omega);unfold lf at this;rw[List.getD_eq_getElem?_getD]at this⊢;rw[List.getElem?_append_left (by omega)];exact this
theorem pK (w:World) (o:Int) (a:Option Addr) (n cap:Nat) (ho:o<1∨3<o):Calls Tryz.prog 35 #[.int .i64 o,.slice a n cap] w fun r w'=>r= .returned (.tuple #[.slice none 0 0,.bool false])∧Below w.heap.size w w':=by
 go_enter Tryz.func35,Tryz.ntmps35;go_wp2_with fail;refine(mW _ _ ho).mono ?_;rintro r w1 ⟨rfl,hb1⟩;have HB:=aA hb1
 clear hb1;go_wp2;refine cV (v:=.tuple #[.slice none 0 0,.bool false]) (by simp[results,Tryz.results35,go_sem, *]) rfl ⟨rfl,HB.out⟩
theorem rU (w:World) (o:Int) (a:Option Addr) (n cap:Nat) (ad:Nat→Option Addr) (ln cp:Nat→Nat) (f:Nat→Nat→T) (h:eH w a n cap ad ln cp f) (o1:1≤o) (o2:o≤3) (hls:aW n ln f=false):Calls Tryz.prog 35 #[.int .i64 o,.slice a n cap] w fun r w'=>r= .returned (.tuple #[.slice none 0 0,.bool false])∧Below w.heap.size w w':=by
 have HH:=aA h;clear h;go_enter Tryz.func35,Tryz.ntmps35;go_wp2_with fail;refine(gT _ _ o1 o2).mono ?_;rintro r w1 ⟨fv,rfl,hb1⟩;have HB:=aA hb1
 have HR:=aA (HH.out.below hb1);clear hb1;go_wp2_with fail;refine(OW _ _ _ _ _ _ _ _ HR.out).mono ?_;rw[hls];rintro r w2 ⟨rfl,hb2⟩;have HB2:=aA (aB HB.out hb2)
 clear hb2;go_wp2;refine cV (v:=.tuple #[.slice none 0 0,.bool false]) (by simp[results,Tryz.results35,go_sem, *]) rfl ⟨rfl,HB2.out⟩
theorem oU (w:World) (o:Int) (a:Option Addr) (n cap:Nat) (ad:Nat→Option Addr) (ln cp:Nat→Nat) (f:Nat→Nat→T) (h:eH w a n cap ad ln cp f) (o1:1≤o) (o2:o≤3) (hls:aW n ln f=true):Calls Tryz.prog 35 #[.int .i64 o,.slice a n cap] w fun r w'=>∃v,r= .returned (.tuple #[v,.bool true])∧Below w.heap.size w w'∧w'.ownsRow w.heap.size 86 5 v (nH o ln f n).length (aE (nH o ln f n)):=by
 obtain⟨i0,hi0,hz0,hz1,hz2⟩:=info_parts vJ;have HH:=aA h
 have hall:=aU hls;have HO:=aA hall.2
 have hn:(n:Int)≤12:=by have:=hall.1;omega
 clear h hall;go_enter Tryz.func35,Tryz.ntmps35;go_wp2_with fail;refine(gT _ _ o1 o2).mono ?_;rintro r w1 ⟨fv,rfl,hb1⟩;have HB:=aA hb1
 have HR:=aA (HH.out.below hb1);clear hb1;go_wp2_with fail;refine(OW _ _ _ _ _ _ _ _ HR.out).mono ?_;rw[hls];rintro r w2 ⟨rfl,hb2⟩;have HB2:=aA (aB HB.out hb2)
 clear hb2 HB HR hls;go_wp2;go_loopw [8,27] (fun v i wr=>∃k:Nat,k≤n∧i= .int .i64 (k:Int)∧Below w.heap.size w wr∧wr.ownsRow w.heap.size 86 5 v (nH o ln f k).length (aE (nH o ln f k))) (fun _ i _=>n-(intOf i).toNat);case atStart=>exact⟨0,Nat.zero_le _,rfl,HB2.out,LT w2 _⟩
 case round=>
  obtain⟨k,hk,rfl,hB,hown⟩:=hrel;have HB3:=aA hB
  have HO3:=aA hown;clear hown;by_cases hlt:k<n
  ·rcases HH.out.2.2.1 with h0|⟨b,off,rfl,hblt,hcl⟩
   ·omega
   have hkl:(k:Int)<(n:Int):=by omega
   have g0:wr.cell? ⟨b,off+k,none⟩=some (.slice (ad k) (ln k) (cp k)):=(hB.cell (p:=⟨b,off+k,none⟩) hblt).trans (hcl k hlt);have HK:=aA ((HH.out.2.2.2 k hlt).below hB)
   have hwl:=mA o ln f k;obtain⟨t,ht⟩:∃t,kS o ln f k=t:=⟨_,rfl⟩
   have HT:=aA ht;have hok:=HO.out k hlt
   have hlo:aY o (ln k) (f k)=true:=by unfold aY;rw[hok.2,decide_eq_true (show 1≤o∧o≤3 from⟨o1,o2⟩),decide_eq_true (show 0<ln k by omega)];rfl
   have hlt':bF o (ln k) (f k)=t:=(eI hlo).trans ht;have HC:=aA (DQ wr o (ad k) (ln k) (cp k) (f k) HK.out)
   clear hcl hB hok ht;go_wp2_with fail;refine HC.out.mono ?_;rw[hlt',hlo];rintro r w4 ⟨rfl,hb4⟩;have hB4:=aB HB3.out hb4
   have hO4:=dY HO3.out hb4;clear hb4 g0 hlt' hlo HC HK;have e2:nH o ln f (k+1)=nH o ln f k++[t]:=by rw[←HT.out];rfl
   have HE:=aA e2;have HL:=aA hwl
   have hB5:=hB4.alloc hB4.size (.cells #[.int .i64 t.c,.int .i64 t.m.x,.int .i64 t.m.y,.int .i64 t.m.d,.int .i64 t.m.e] 86);have hO5:=hO4.alloc (.cells #[.int .i64 t.c,.int .i64 t.m.x,.int .i64 t.m.y,.int .i64 t.m.d,.int .i64 t.m.e] 86)
   have hnew:((w4.alloc (.cells #[.int .i64 t.c,.int .i64 t.m.x,.int .i64 t.m.y,.int .i64 t.m.d,.int .i64 t.m.e] 86)).alloc (.cells #[.int .i64 t.c,.int .i64 t.m.x,.int .i64 t.m.y,.int .i64 t.m.d,.int .i64 t.m.e] 86)).heap[w4.heap.size+1]? =some (.cells #[.int .i64 t.c,.int .i64 t.m.x,.int .i64 t.m.y,.int .i64 t.m.d,.int .i64 t.m.e] 86):=by have:=heap_alloc_new (w4.alloc (.cells #[.int .i64 t.c,.int .i64 t.m.x,.int .i64 t.m.y,.int .i64 t.m.d,.int .i64 t.m.e] 86)) (.cells #[.int .i64 t.c,.int .i64 t.m.x,.int .i64 t.m.y,.int .i64 t.m.d,.int .i64 t.m.e] 86);rw[World.size_alloc]at this;exact this
   have HN:=aA hnew;clear e2 HT hnew;go_wp2_with (at_builtin;refine wpList_append_lies _ rfl (.tmp 37) (.tmp 39) 41 rfl w.heap.size 86 i0 _ 5 40 Tryz.underlying41 hi0 hz0 hz1 hz2 rfl (by omega) _ (nH o ln f k).length (aE (nH o ln f k)) rfl (hO5.alloc _) ⟨w4.heap.size+1,0,none⟩ 1 1 (aE [t]) rfl (by rw[bJ];rfl) (by rw[dX];exact World.news_of_block HN.out) (fK _) (by omega) (by unfold maxLen;omega) (by omega) (by have:=hB4.size;simp;omega) _ rfl ?_;intro g0 cap0 w5 hown1 hgrow hat hlt1;have HB:=aA ((hB5.alloc hB5.size _).grown hgrow (gW hB4.size (by simp;omega)) (fun k hk=>(hO4.lt k hk).1));have HO1:=aA hown1;clear hown1 hgrow hat hlt1 hO4 hO5);go_roundw
   case rel=>exact⟨k+1,by omega,by go_num,HB.out,by
    have h:=HO1.out;rw[HE.out,cK,List.length_append];rw[HL.out]at h⊢
    exact h⟩
   case measure=>simp[intOf];omega
  ·have hnl:¬(k:Int)<(n:Int):=by omega
   have hie:k=n:=by omega
   subst hie;go_wp2;refine cV (v:=.tuple #[u8,.bool true]) (by simp[results,Tryz.results35,go_sem, *]) rfl ⟨_,rfl,HB3.out,HO3.out⟩
end Go.Proofs.YtelkehjdfcoeiaaGreat
