/-
  The greatest terms of a product: whatever is counted so that a slope and its time count at least 1 together.
-/
import Derived.Test.YtelkehjdfcoeiaaGreatMau
namespace Go.Proofs.YtelkehjdfcoeiaaGreat
open Go.RowKit
set_option linter.unusedVariables false
theorem ML (φ:M→Fq) {K:List T} {a:T} {f:Nat→T} {lb:Nat} (hK:aL K) (ha:a.m.ok=true∧0≤a.c∧a.c≤100) (hg:pR f lb):∀k K',k≤lb→gQ K a f k=some K'→mN φ K'=mN φ K+su (List.range k) (fun j=>mN φ (dL a (f j)))
 |0,K',_,h=>by cases h;show _=mN φ K+0;grind
 |k+1,K',hk,h=>by
  rw[gQ]at h;cases hr:gQ K a f k with
  |none=>rw[hr]at h;cases h
  |some K1=>
   rw[hr]at h;change iC K1 a (f k)=some K' at h;have h1:=ML φ hK ha hg k K1 (by omega) hr
   have hf1:=lL hK ha hg k K1 (by omega) hr;unfold iC at h;split at h
   ·rename_i hok;cases h;have h2:=hg k (by omega)
    have tw:tM a (f k) (a.m.sum (f k).m):=⟨ha.1,h2.1,hok.1,rfl,rfl,rfl,rfl,ha.2,h2.2⟩
    rw[QZ φ hf1 (gY tw).1,h1,List.range_succ,mT];show _=_+(_+(_+0))
    grind
   ·cases h
theorem MM {K:List T} {a:T} {f:Nat→T}:∀k K',gQ K a f k=some K'→∀j,j<k→(a.m.sum (f j).m).ok=true
 |0,_,_,j,hj=>by omega
 |k+1,K',h,j,hj=>by
  rw[gQ]at h;cases hr:gQ K a f k with
  |none=>rw[hr]at h;cases h
  |some K1=>
   rw[hr]at h;change iC K1 a (f k)=some K' at h;unfold iC at h;split at h
   ·rename_i hok;by_cases e:j=k
    ·rw[e];exact hok.1
    ·exact MM k K1 hr j (by omega)
   ·cases h
theorem BS (φ:M→Fq) {f f':Nat→T} {la lb:Nat} (hf:pR f la) (hg:pR f' lb):∀i K,i≤la→cM f f' lb i=some K→mN φ K=su (List.range i) (fun k=>su (List.range lb) (fun j=>mN φ (dL (f k) (f' j))))∧∀k,k<i→∀j,j<lb→((f k).m.sum (f' j).m).ok=true
 |0,K,_,h=>by cases h;exact⟨rfl,fun k hk=>by omega⟩
 |i+1,K,hi,h=>by
  rw[cM]at h;cases hr:cM f f' lb i with
  |none=>rw[hr]at h;cases h
  |some K1=>
   rw[hr]at h;have h1:=BS φ hf hg i K1 (by omega) hr
   refine⟨?_,fun k hk j hj=>?_⟩
   ·rw[ML φ (dK hf hg i K1 (by omega) hr) (hf i (by omega)) hg lb K (Nat.le_refl _) h,h1.1,List.range_succ,mT];show _=_+(_+0)
    grind
   ·by_cases e:k=i
    ·rw[e];exact MM lb K h j hj
    ·exact h1.2 k (by omega) j hj
theorem Cz (L:List T) (f:T→Fq):su L f=su (List.range L.length) (fun i=>f (lf L i)):=by
 have e:L=(List.range L.length).map (lf L):=by refine List.ext_getElem (by simp) (fun i h1 h2=>?_);rw[List.getElem_map,List.getElem_range,jV h1]
 have:=xW (lf L) f (List.range L.length);rw[←e]at this;exact this
theorem JA {A B P:List T} (h:lO A B=(P,true)):(∀φ,mN φ P=su A (fun a=>su B (fun b=>mN φ (dL a b))))∧∀a∈A,∀b∈B,(a.m.sum b.m).ok=true:=by
 unfold lO bT at h;split at h
 ·rename_i hok;obtain⟨l1,g1⟩:=cJ hok.1;obtain⟨l2,g2⟩:=cJ hok.2;cases hm:cM (lf A) (lf B) B.length A.length with
  |none=>rw[hm]at h;simp[kW]at h
  |some K=>
   rw[hm]at h;have e:K=P:=by simpa[kW]using h
   refine⟨fun φ=>?_,fun a ha b hb=>?_⟩
   ·rw[←e,(BS φ g1 g2 _ K (Nat.le_refl _) hm).1,Cz A];refine fH (fun i _=>?_);rw[Cz B]
   ·obtain⟨i,hi,rfl⟩:=List.mem_iff_getElem.1 ha;obtain⟨j,hj,rfl⟩:=List.mem_iff_getElem.1 hb;have:=(BS (fun _=>0) g1 g2 _ K (Nat.le_refl _) hm).2 i hi j hj
    rwa[jV hi,jV hj]at this
 ·simp at h
def Wt (W:M→Int):Prop:=∀(a b:M) (i k:Nat),W ⟨a.x+b.x-i,a.y+b.y-k,a.d+b.d-i,a.e+b.e-k⟩≤W a+W b-i-k∧W (a.sum b)=W a+W b
theorem Aj (φ:M→Fq) {a b:T} {m:M} (h:tM a b m):mN φ (dL a b)=su (List.range (iK a b+1)) (fun i=>su (List.range (jK a b+1)) (fun k=>zz (oI a b i k).c*φ (oI a b i k).m)):=by
 show mN φ (gP (gG a b (iK a b+1)) [])=_;rw[uA _ _ (rH h) eY,GK];unfold mN gG oT;rw[IP];have z:∀x:Fq,0+x=x:=by intro x;grind
 rw[z];refine fH (fun i _=>?_);rw[xW]
theorem CV (f:Nat→Fq):∀n,(∀i,0<i→f i=0)→su (List.range (n+1)) f=f 0
 |0,_=>by show f 0+0=f 0;grind
 |n+1,h=>by
  rw[List.range_succ,mT,CV f n h];show f 0+(f (n+1)+0)=f 0
  rw[h (n+1) (by omega)];grind
theorem TG {d x:Int} (d0:0≤d) (d1:d≤15) (x0:0≤x) (x1:x≤15):zz (wy d x 0)=1:=by
 have h:=Dn (d:=d) (x:=x) (i:=0) d0 d1 x0 x1 (by omega) (by omega);have e:((0:Nat):Int)=0:=rfl
 rw[e]at h;rw[h];unfold wN;rw[AH];rfl
theorem Ak {W:M→Int} (hW:Wt W) (φ:M→Fq) {a b:T} {m:M} (h:tM a b m) {n:Int} (hn:W a.m+W b.m≤n) (hφ:∀m,W m<n→φ m=0):mN φ (dL a b)=zz a.c*zz b.c*φ (a.m.sum b.m):=by
 obtain⟨ax0,ax1,ay0,ay1,ad0,ad1,ae0,ae1⟩:=M.ok_iff.1 h.ok1;obtain⟨bx0,bx1,by0,by1,bd0,bd1,be0,be1⟩:=M.ok_iff.1 h.ok2;have zr:∀x:Fq,x*0=0:=by intro x;grind
 have low:∀i k:Nat,0<i+k→φ (oI a b i k).m=0:=fun i k hik=>by
  have:=(hW a.m b.m i k).1;refine hφ _ ?_;show W ⟨a.m.x+b.m.x-i,a.m.y+b.m.y-k,a.m.d+b.m.d-i,a.m.e+b.m.e-k⟩<n
  omega
 rw[Aj φ h,CV _ _ (fun i hi=>qL _ _ (fun k _=>by rw[low i k (by omega),zr])),CV _ _ (fun k hk=>by rw[low 0 k (by omega),zr])];have e:(oI a b 0 0).m=a.m.sum b.m:=by
  show(⟨a.m.x+b.m.x-((0:Nat):Int),a.m.y+b.m.y-((0:Nat):Int),a.m.d+b.m.d-((0:Nat):Int),a.m.e+b.m.e-((0:Nat):Int)⟩:M)=⟨a.m.x+b.m.x,a.m.y+b.m.y,a.m.d+b.m.d,a.m.e+b.m.e⟩
  simp
 rw[e];congr 1;show zz (a.c*b.c%101*wy a.m.d b.m.x ((0:Nat):Int)%101*wy a.m.e b.m.y ((0:Nat):Int)%101)=_
 have e0:((0:Nat):Int)=0:=rfl;rw[e0,lU,oW,lU,oW,lU,oW,TG ad0 ad1 bx0 bx1,TG ae0 ae1 by0 by1]
 grind
theorem Kp {A B P:List T} (h:lO A B=(P,true)) {a b:T} (ha:a∈A) (hb:b∈B):tM a b (a.m.sum b.m):=by
 obtain⟨oA,oB⟩:=IZ h;have r1:=(aD oA).2.2 a ha
 have r2:=(aD oB).2.2 b hb;exact⟨r1.1,r2.1,(JA h).2 a ha b hb,rfl,rfl,rfl,rfl,⟨by omega,r1.2.2⟩,by omega,r2.2.2⟩
theorem Kr {W:M→Int} (hW:Wt W) {A B P:List T} (h:lO A B=(P,true)) {n:Int} (hn:∀a∈A,∀b∈B,W a.m+W b.m≤n) (φ:M→Fq) (hφ:∀m,W m<n→φ m=0):mN φ P=su A (fun a=>su B (fun b=>zz a.c*zz b.c*φ (a.m.sum b.m))):=by rw[(JA h).1];refine fH (fun a ha=>fH (fun b hb=>?_));exact Ak hW φ (Kp h ha hb) (hn a ha b hb) hφ
def dl (m:M) (x:M):Fq:=if eF m x=true then 1 else 0
theorem ZB {P:List T} (hP:aL P) {m:M} (hm:m.ok=true):mN (dl m) P=zz (aM P m):=by
 rw[qB _ hP];have e:su box (fun x=>zz (aM P x)*dl m x)=su box (fun x=>if eF m x=true then zz (aM P m)else 0):=by
  refine fH (fun x _=>?_);unfold dl;by_cases h:eF m x=true
  ·rw[if_pos h,if_pos h,dQ.1 h];grind
  ·rw[if_neg h,if_neg h];grind
 rw[e,sS m _ box xA (FW hm)]
theorem EP {W:M→Int} (hW:Wt W) (hinj:∀a b:M,a.ok=true→b.ok=true→W a=W b→a=b) {A B P:List T} (h:lO A B=(P,true)) {a0 b0:T} (ha0:a0∈A) (hb0:b0∈B) (hA:∀a∈A,W a.m≤W a0.m) (hB:∀b∈B,W b.m≤W b0.m):(⟨a0.c*b0.c%101,a0.m.sum b0.m⟩:T)∈P∧∀t∈P,W t.m≤W (a0.m.sum b0.m):=by
 obtain⟨oA,oB⟩:=IZ h;have fA:=(aD oA).2
 have fB:=(aD oB).2;have fP:=nR h
 have ra:=fA.2 a0 ha0;have rb:=fB.2 b0 hb0
 have hs:=(JA h).2 a0 ha0 b0 hb0;have hsum:=(hW a0.m b0.m 0 0).2
 have key:∀m:M,m.ok=true→W (a0.m.sum b0.m)≤W m→zz (aM P m)=zz a0.c*zz b0.c*dl m (a0.m.sum b0.m):=fun m hm hle=>by
  rw[←ZB fP hm,Kr hW h (n:=W a0.m+W b0.m) (fun a ha b hb=>by have:=hA a ha;have:=hB b hb;omega) (dl m) (fun x hx=>by
   unfold dl;rw[if_neg];intro e;rw[dQ.1 e]at hle
   omega)]
  have zr:∀x:Fq,x*0=0:=by intro x;grind
  have off:∀a∈A,∀b∈B,(a.m≠a0.m∨b.m≠b0.m)→dl m (a.m.sum b.m)=0:=fun a ha b hb hne=>by
   unfold dl;rw[if_neg];intro e;rw[dQ.1 e,(hW a.m b.m 0 0).2]at hle;have h1:=hA a ha
   have h2:=hB b hb;rcases hne with hne|hne
   ·exact hne (hinj _ _ (fA.2 a ha).1 ra.1 (by omega))
   ·exact hne (hinj _ _ (fB.2 b hb).1 rb.1 (by omega))
  rw[wJ fA ha0 (fun a ha hne=>qL _ _ (fun b hb=>by rw[off a ha b hb (.inl hne),zr])),wJ fB hb0 (fun b hb hne=>by rw[off a0 ha0 b hb (.inr hne),zr])]
 have c0:aM P (a0.m.sum b0.m)=a0.c*b0.c%101:=by
  have h1:=key _ hs (Int.le_refl _);have e1:dl (a0.m.sum b0.m) (a0.m.sum b0.m)=1:=by unfold dl;rw[if_pos (dQ.2 rfl)]
  rw[e1]at h1;have h2:zz (aM P (a0.m.sum b0.m))=zz (a0.c*b0.c%101):=by rw[h1,lU,oW];grind
  exact Dm (cC fP _) ⟨by omega,by omega⟩ h2
 have cne:a0.c*b0.c%101≠0:=by
  have:=QM (a:=a0.c) (b:=b0.c) (by omega) (by omega) (by omega) (by omega)
  rwa[jO (by omega) ra.2.2 (by omega) rb.2.2]at this
 have mem:∀X:List T,∀m,aM X m≠0→∃s∈X,s.m=m∧s.c=aM X m:=fun X m=>by
  induction X with
  |nil=>intro h;exact absurd rfl h
  |cons s r ih=>
   intro h;rw[aM]at h⊢;by_cases e:eF s.m m=true
   ·exact⟨s,List.mem_cons_self ..,dQ.1 e,by rw[if_pos e]⟩
   ·rw[if_neg e]at h⊢;obtain⟨x,hx,he⟩:=ih h;exact⟨x,List.mem_cons_of_mem _ hx,he⟩
 refine⟨?_,fun t ht=>?_⟩
 ·obtain⟨s,hs1,hs2,hs3⟩:=mem P (a0.m.sum b0.m) (by rw[c0];exact cne);have:s=⟨a0.c*b0.c%101,a0.m.sum b0.m⟩:=by cases s;simp only at hs2 hs3;rw[hs2,hs3,c0]
  rw[←this];exact hs1
 ·have rt:=fP.2 t ht;by_cases hle:W t.m≤W (a0.m.sum b0.m)
  ·exact hle
  ·exfalso;have h1:=key t.m rt.1 (by omega)
   have e1:dl t.m (a0.m.sum b0.m)=0:=by unfold dl;rw[if_neg];intro e;rw[dQ.1 e]at hle;exact hle (Int.le_refl _)
   rw[e1]at h1;have ht2:aM P t.m=t.c:=by
    have hp:∀X:List T,aL X→t∈X→aM X t.m=t.c:=fun X hX hx=>by
     induction X with
     |nil=>cases hx
     |cons s r ih=>
      rw[aM];rcases List.mem_cons.1 hx with rfl|hx'
      ·rw[if_pos (dQ.2 rfl)]
      ·have h1:=(List.pairwise_cons.1 hX.1).1 t hx';rw[if_neg (fun e=>by rw[dQ.1 e]at h1;omega)];exact ih hX.tail hx'
    exact hp P fP ht
   rw[ht2]at h1;exact sA rt.2.1 rt.2.2 (by rw[h1];grind)
def eO (o:Int) (m:M):Int:=if o=1 then fI m else if o=3 then wT m else iB m
theorem zP {o:Int} {a b:M} (ho:1≤o∧o≤3) (ha:a.ok=true) (hb:b.ok=true):M.ord o a b=c3 (eO o a) (eO o b):=by
 obtain⟨h1,h2⟩:=ho;have h:o=1∨o=2∨o=3:=by omega
 rcases h with rfl|rfl|rfl
 ·rw[←xS ha hb];simp[eO]
 ·rw[←IF ha hb];simp[eO]
 ·rw[←IE ha hb];simp[eO]
theorem CF (o:Int):Wt (eO o):=fun a b i k=>by
 unfold eO fI wT iB M.sum;split
 ·simp only;omega
 ·split
  ·simp only;omega
  ·simp only;omega
theorem XX {a b c d:Int} (hb:0≤b∧b≤15) (hd:0≤d∧d≤15) (h:a*16+b=c*16+d):a=c∧b=d:=by omega
theorem Ic {a b c d:Int} (hb:0≤b∧b≤65535) (hd:0≤d∧d≤65535) (h:a*65536+b=c*65536+d):b=d:=by omega
theorem SN {a:M} (ha:a.ok=true):0≤iB a∧iB a≤65535:=by obtain⟨x1,x2,y1,y2,d1,d2,e1,e2⟩:=M.ok_iff.1 ha;unfold iB;omega
theorem Ca {a b:M} (ha:a.ok=true) (hb:b.ok=true) (h:iB a=iB b):a=b:=by
 obtain⟨x1,x2,y1,y2,d1,d2,e1,e2⟩:=M.ok_iff.1 ha;obtain⟨x3,x4,y3,y4,d3,d4,e3,e4⟩:=M.ok_iff.1 hb;unfold iB at h;have k1:=XX ⟨y1,y2⟩ ⟨y3,y4⟩ h
 have k2:=XX ⟨x1,x2⟩ ⟨x3,x4⟩ k1.1;have k3:=XX ⟨e1,e2⟩ ⟨e3,e4⟩ k2.1
 have q1:=k1.2;have q2:=k2.2
 have q3:=k3.2;have q4:=k3.1
 revert q1 q2 q3 q4
 cases a;cases b;intro q1 q2 q3 q4;simp only at q1 q2 q3 q4;rw[q1,q2,q3,q4]
theorem jE {o:Int} (a b:M) (ha:a.ok=true) (hb:b.ok=true) (h:eO o a=eO o b):a=b:=by
 refine Ca ha hb ?_;have ba:=SN ha
 have bb:=SN hb;unfold eO at h;split at h
 ·exact Ic ba bb h
 ·split at h
  ·exact Ic ba bb h
  ·exact h
theorem Iv {a b:Int}:0<c3 a b↔b<a:=by unfold c3;split<;>(try split)<;>omega
theorem xK {o:Int} {f:Nat→T} {n:Nat} (ho:1≤o∧o≤3) (hm:∀i,i<n→(f i).m.ok=true):∀(u i k:Nat),i+u≤n→k<n→aW o f u i k<n∧eO o (f k).m≤eO o (f (aW o f u i k)).m∧∀j,i≤j→j<i+u→eO o (f j).m≤eO o (f (aW o f u i k)).m
 |0,i,k,_,hk=>⟨hk,Int.le_refl _,fun j h1 h2=>by omega⟩
 |u+1,i,k,hi,hk=>by
  have hc:=Iv (a:=eO o (f i).m) (b:=eO o (f k).m);rw[←zP ho (hm i (by omega)) (hm k hk)]at hc;simp only[aW];split
  ·rename_i h;obtain⟨h1,h2,h3⟩:=xK ho hm u (i+1) i (by omega) (by omega);have h4:=hc.1 h
   refine⟨h1,by omega,fun j hj1 hj2=>?_⟩;by_cases hji:j=i
   ·rw[hji];exact h2
   ·exact h3 j (by omega) (by omega)
  ·rename_i h;obtain⟨h1,h2,h3⟩:=xK ho hm u (i+1) k (by omega) hk;have h4:¬eO o (f k).m<eO o (f i).m:=fun q=>h (hc.2 q)
   refine⟨h1,h2,fun j hj1 hj2=>?_⟩;by_cases hji:j=i
   ·rw[hji];omega
   ·exact h3 j (by omega) (by omega)
def tU (o:Int) (L:List T):T:=bN o L.length (lf L)
def DM (o:Int) (L:List T):Bool:=bF o L.length (lf L)
theorem iQ {o:Int} {L:List T}:DM o L=true↔(1≤o∧o≤3)∧cF L=true∧L≠[]:=by
 unfold DM bF;rw[Bool.and_eq_true,Bool.and_eq_true,decide_eq_true_eq,decide_eq_true_eq];constructor
 ·rintro⟨⟨h1,h2⟩,h3⟩;exact⟨h1,h2,fun e=>by rw[e]at h3;simp at h3⟩
 ·rintro⟨h1,h2,h3⟩;exact⟨⟨h1,h2⟩,List.length_pos_iff.2 h3⟩
theorem xJ {o:Int} {L:List T} (h:DM o L=true):tU o L∈L∧∀t∈L,eO o t.m≤eO o (tU o L).m:=by
 obtain⟨ho,oL,hne⟩:=iQ.1 h;have hpos:=List.length_pos_iff.2 hne
 have fl:=fW (show aO L.length (lf L)=true from oL);have e:tU o L=lf L (bC o (lf L) L.length):=eK h
 have hm:∀i,i<L.length→(lf L i).m.ok=true:=fun i hi=>(fl.2 i hi).1;have key:=xK (o:=o) (f:=lf L) (n:=L.length) ho hm (L.length-1) 1 0 (by omega) hpos
 have e2:bC o (lf L) L.length=aW o (lf L) (L.length-1) 1 0:=rfl;rw[e,e2];refine⟨?_,fun t ht=>?_⟩
 ·rw[jV key.1];exact List.getElem_mem _
 ·obtain⟨i,hi,rfl⟩:=List.mem_iff_getElem.1 ht;by_cases h0:i=0
  ·subst h0;have:=key.2.1
   rwa[jV hpos]at this
  ·have:=key.2.2 i (by omega) (by omega)
   rwa[jV hi]at this
theorem Dh {B P:List T} (h:lO [] B=(P,true)):P=[]:=by have h1:=tL IOz h;rw[pT,Lq.nil_mul]at h1;exact xO (nR h) h1
theorem Di {A P:List T} (h:lO A []=(P,true)):P=[]:=by have h1:=tL IOz h;rw[pT,Lq.mul_nil]at h1;exact xO (nR h) h1
theorem YV (o:Int):DM o []=false:=by
 cases h:DM o []
 ·rfl
 ·exact absurd rfl (iQ.1 h).2.2
theorem Fm {o:Int} (ho:1≤o∧o≤3) {A B P:List T} (h:lO A B=(P,true)):DM o P=(DM o A&&DM o B)∧(DM o A=true→DM o B=true→M.mul ⟨(tU o A).m.x,(tU o A).m.y,(tU o A).m.d,(tU o A).m.e⟩ ⟨(tU o B).m.x,(tU o B).m.y,(tU o B).m.d,(tU o B).m.e⟩=((tU o P).m,true)∧qT (tU o A).c (tU o B).c=(tU o P).c):=by
 obtain⟨oA,oB⟩:=IZ h;cases hA:DM o A
 ·have eA:A=[]:=by
   by_cases e:A=[]
   ·exact e
   ·rw[iQ.2 ⟨ho,oA,e⟩]at hA;cases hA
  subst eA;rw[Dh h,YV];exact⟨rfl,fun q=>by cases q⟩
 ·cases hB:DM o B
  ·have eB:B=[]:=by
    by_cases e:B=[]
    ·exact e
    ·rw[iQ.2 ⟨ho,oB,e⟩]at hB;cases hB
   subst eB;rw[Di h,YV];exact⟨rfl,fun _ q=>by cases q⟩
  ·obtain⟨a1,a2⟩:=xJ hA;obtain⟨b1,b2⟩:=xJ hB;have hp:=EP (CF o) jE h a1 b1 a2 b2
   have hne:P≠[]:=fun e=>by rw[e]at hp;cases hp.1
   have hP:DM o P=true:=iQ.2 ⟨ho,DG h,hne⟩;refine⟨hP,fun _ _=>?_⟩;obtain⟨p1,p2⟩:=xJ hP;have fP:=nR h
   have r1:=fP.2 _ p1;have hs:=(JA h).2 _ a1 _ b1
   have l1:=hp.2 _ p1;have l2:=p2 _ hp.1
   dsimp only at l2;have em:(tU o P).m=(tU o A).m.sum (tU o B).m:=by refine jE (o:=o) _ _ r1.1 hs ?_;exact Int.le_antisymm l1 l2
   have ra:=(aD oA).2.2 _ a1;have rb:=(aD oB).2.2 _ b1
   have ec:(tU o P).c=(tU o A).c*(tU o B).c%101:=by
    have h1:∀X:List T,aL X→∀t∈X,∀s∈X,t.m=s.m→t=s:=fun X hX=>by
     induction X with
     |nil=>intro t ht;cases ht
     |cons z r ih=>
      intro t ht s hs e;have hp:=(List.pairwise_cons.1 hX.1).1
      rcases List.mem_cons.1 ht with rfl|ht'
      ·rcases List.mem_cons.1 hs with rfl|hs'
       ·rfl
       ·have:=hp s hs';rw[e]at this;omega
      ·rcases List.mem_cons.1 hs with rfl|hs'
       ·have:=hp t ht';rw[e]at this;omega
       ·exact ih hX.tail t ht' s hs' e
    rw[h1 P fP _ p1 _ hp.1 em]
   refine⟨?_,?_⟩
   ·rw[em];have e3:∀m:M,(⟨m.x,m.y,m.d,m.e⟩:M)=m:=fun m=>by cases m;rfl
    rw[e3,e3];unfold M.mul;simp[ra.1,rb.1,hs]
   ·rw[ec,jO (by omega) ra.2.2 (by omega) rb.2.2]
open Go.RowKit Go.Deep Go.Joins
structure Dv where
 p:List T
 q:Nat→List T
 r:List T
def aU (o:Int) (L:List T):T:=lf L (bC o (lf L) L.length)
def AK (o:Int) (n:Nat) (ln:Nat→Nat) (f:Nat→Nat→T) (m:M):Int:=pY (fun t=>M.dvd t.m m) (nT o ln f) n
def nO (q:Nat→List T) (k:Nat) (L:List T) (i:Nat):List T:=if i=k then L else q i
def UG (o:Int) (ln:Nat→Nat) (f:Nat→Nat→T) (S:Dv) (k:Nat):T:=gH (aU o S.p) (nT o ln f k)
def jH (o:Int) (ln:Nat→Nat) (f:Nat→Nat→T) (S:Dv) (k:Nat):Option Dv:=
 match cM (lf [UG o ln f S k]) (f k) (ln k) 1 with
 |none=>none
 |some Y=>if(dC S.p Y).length≤400 then some ⟨dC S.p Y,nO S.q k (dG (S.q k) [UG o ln f S k]),S.r⟩else none
def jN (o:Int) (S:Dv):Dv:=⟨dC S.p [aU o S.p],S.q,dG S.r [aU o S.p]⟩
def dU (o:Int) (n:Nat) (ln:Nat→Nat) (f:Nat→Nat→T) (S:Dv):Option Dv:=
 if 0≤AK o n ln f (aU o S.p).m then jH o ln f S (AK o n ln f (aU o S.p).m).toNat else some (jN o S)
def fK (o:Int) (n:Nat) (ln:Nat→Nat) (f:Nat→Nat→T):Nat→Dv→Option Dv
 |0,S=>if S.p.length=0 then some S else none
 |u+1,S=>if S.p.length=0 then some S else match dU o n ln f S with
  |none=>none
  |some S'=>fK o n ln f u S'
def lR (p:List T):Dv:=⟨p,fun _=>[],[]⟩
def aY (o:Int) (p:List T) (n:Nat) (ln:Nat→Nat) (f:Nat→Nat→T):Option Dv:=
 if(1≤o∧o≤3)∧cF p=true∧bB n ln f=true then fK o n ln f 300 (lR p)else none
structure kM (u:Nat) (S:Dv):Prop where
 p:cF S.p=true
 q:∀k,aL (S.q k)∧(S.q k).length≤u
 r:aL S.r∧S.r.length≤u
theorem kM.start {p:List T} (h:cF p=true):kM 0 (lR p):=⟨h,fun _=>⟨eY,Nat.le_refl _⟩,eY,Nat.le_refl _⟩
theorem pV {o:Int} {n:Nat} {ln:Nat→Nat} {f:Nat→Nat→T} {u:Nat} {S:Dv} (h:S.p.length=0):fK o n ln f u S=some S:=by cases u<;>exact if_pos h
theorem DZ {o:Int} {n:Nat} {ln:Nat→Nat} {f:Nat→Nat→T} {S:Dv} (h:S.p.length≠0):fK o n ln f 0 S=none:=if_neg h
theorem vA {o:Int} {n:Nat} {ln:Nat→Nat} {f:Nat→Nat→T} {u:Nat} {S:Dv} (h:S.p.length≠0) (hs:dU o n ln f S=none):fK o n ln f (u+1) S=none:=by show(if S.p.length=0 then some S else match dU o n ln f S with|none=>none|some S'=>fK o n ln f u S')=none;rw[if_neg h,hs]
theorem mZ {o:Int} {n:Nat} {ln:Nat→Nat} {f:Nat→Nat→T} {u:Nat} {S S':Dv} (h:S.p.length≠0) (hs:dU o n ln f S=some S'):fK o n ln f (u+1) S=fK o n ln f u S':=by show(if S.p.length=0 then some S else match dU o n ln f S with|none=>none|some S'=>fK o n ln f u S')=_;rw[if_neg h,hs]
theorem gJ {o:Int} {L:List T} (h:L.length≠0):aU o L∈L:=kU (sF (by omega))
theorem dJ {o:Int} {L:List T} (hL:aL L) (h:L.length≠0):(aU o L).m.ok=true∧1≤(aU o L).c∧(aU o L).c≤100:=hL.2 _ (gJ h)
theorem xI {o:Int} {L:List T} (ho:1≤o∧o≤3) (hL:cF L=true) (h:L.length≠0):aU o L=tU o L:=by have:bF o L.length (lf L)=true:=iQ.2 ⟨ho,hL,fun e=>h (by rw[e];rfl)⟩;unfold tU;rw[eK this];rfl
theorem oD {o:Int} {L:List T} (ho:1≤o∧o≤3) (hL:cF L=true) (h:L.length≠0):∀t∈L,eO o t.m≤eO o (aU o L).m:=by have:DM o L=true:=iQ.2 ⟨ho,hL,fun e=>h (by rw[e];rfl)⟩;rw[xI ho hL h];exact(xJ this).2
theorem xH {o:Int} {n:Nat} {ln:Nat→Nat} {f:Nat→Nat→T} (hl:bB n ln f=true) {k:Nat} (hk:k<n):(nT o ln f k).m.ok=true∧1≤(nT o ln f k).c∧(nT o ln f k).c≤100:=by obtain⟨h0,h1⟩:=(aQ hl).2 k hk;exact(fW h1).2 _ (sF (by omega))
theorem PB {a b:Int} (h1:1≤a) (h2:a≤100) (h3:1≤b) (h4:b≤100):1≤a*b%101∧a*b%101≤100:=by
 have h0:a*b%101≠0:=fun e=>by
  obtain⟨x,hx⟩:∃x:Nat,a=x:=⟨a.toNat,by omega⟩
  obtain⟨y,hy⟩:∃y:Nat,b=y:=⟨b.toNat,by omega⟩
  subst hx hy;have:=EZ ⟨x,by omega⟩ ⟨y,by omega⟩ (by simp only;exact_mod_cast e)
  simp at this;omega
 omega
theorem uD {t l:T} (ht:t.m.ok=true∧1≤t.c∧t.c≤100) (hl:l.m.ok=true∧1≤l.c∧l.c≤100) (hd:l.m.dvd t.m=true):(gH t l).m.ok=true∧1≤(gH t l).c∧(gH t l).c≤100:=by
 have h1:=xU (b:=t.m) hl hd;have h2:=PB ht.2.1 ht.2.2 (vG hl.2.1 hl.2.2) (nZ l.c).2
 exact⟨h1.1,h2.1,h2.2⟩
theorem mL {o:Int} {n:Nat} {ln:Nat→Nat} {f:Nat→Nat→T} {m:M} (h:0≤AK o n ln f m):(AK o n ln f m).toNat<n∧M.dvd (nT o ln f (AK o n ln f m).toNat).m m=true:=by
 unfold AK at h⊢;obtain⟨i,hi,hp⟩:=GD.1 h;obtain⟨j,hj,h1,h2⟩:∃j,j<n∧(∀i,i<j→(fun t:T=>M.dvd t.m m) (nT o ln f i)=false)∧(fun t:T=>M.dvd t.m m) (nT o ln f j)=true:=by
  clear h
  revert i
  induction n with
  |zero=>intro i hi;omega
  |succ n ih=>
   intro i hi hp;by_cases hx:∃i,i<n∧(fun t:T=>M.dvd t.m m) (nT o ln f i)=true
   ·obtain⟨i',h1,h2⟩:=hx;obtain⟨j,hj,h3,h4⟩:=ih i' h1 h2;exact⟨j,by omega,h3,h4⟩
   ·have hin:i=n:=by
     rcases Nat.lt_or_ge i n with h|h
     ·exact absurd ⟨i,h,hp⟩ hx
     ·omega
    subst hin;refine⟨i,hi,fun k hk=>?_,hp⟩;cases hb:(fun t:T=>M.dvd t.m m) (nT o ln f k)with
    |false=>rfl
    |true=>exact absurd ⟨k,hk,hb⟩ hx
 rw[zD h1 h2 n hj];exact⟨by simpa using hj,by simpa using h2⟩
theorem dW {t:T} (h:t.m.ok=true∧1≤t.c∧t.c≤100):aL [t]:=(aD (iX h)).2
theorem JT {o:Int} {n:Nat} {ln:Nat→Nat} {f:Nat→Nat→T} (hl:bB n ln f=true) {S:Dv} (hp:cF S.p=true) (h:S.p.length≠0) (hk:0≤AK o n ln f (aU o S.p).m):(UG o ln f S (AK o n ln f (aU o S.p).m).toNat).m.ok=true∧1≤(UG o ln f S (AK o n ln f (aU o S.p).m).toNat).c∧(UG o ln f S (AK o n ln f (aU o S.p).m).toNat).c≤100:=
 uD (dJ (aD hp).2 h) (xH hl (mL hk).1) (mL hk).2
theorem BR {t:T} (ht:t.m.ok=true∧1≤t.c∧t.c≤100) {g:Nat→T} {m:Nat} (hg:aO m g=true) {Y:List T} (h:cM (lf [t]) g m 1=some Y):cF Y=true:=
 gO (gN _ Y h) (dK (cJ (show aO 1 (lf [t])=true from iX ht)).2 (cJ hg).2 _ Y (Nat.le_refl _) h)
theorem kM.take {o:Int} {n:Nat} {ln:Nat→Nat} {f:Nat→Nat→T} (hl:bB n ln f=true) {u:Nat} {S S':Dv} (h:kM u S) (h0:S.p.length≠0) (hk:0≤AK o n ln f (aU o S.p).m) (hs:jH o ln f S (AK o n ln f (aU o S.p).m).toNat=some S'):kM (u+1) S':=by
 have hg:=JT hl h.p h0 hk;have hkn:=(mL hk).1
 generalize(AK o n ln f (aU o S.p).m).toNat=k at hs hg hkn;unfold jH at hs;split at hs
 ·cases hs
 ·rename_i Y hY;split at hs
  ·rename_i hle;cases hs;have fY:=BR hg ((aQ hl).2 k hkn).2 hY
   refine⟨gO hle (cO (aD h.p).2 (aD fY).2).1,fun i=>?_,h.r.1,Nat.le_succ_of_le h.r.2⟩;show aL (nO S.q k _ i)∧(nO S.q k _ i).length≤u+1
   unfold nO;split
   ·refine⟨(cW (h.q k).1 (dW hg)).1,?_⟩;have h1:=rA (S.q k) [UG o ln f S k]
    have h2:=(h.q k).2;simp only[List.length_singleton]at h1;omega
   ·exact⟨(h.q i).1,Nat.le_succ_of_le (h.q i).2⟩
  ·cases hs
theorem kM.leave {o:Int} {u:Nat} {S:Dv} (h:kM u S) (h0:S.p.length≠0) (hle:(dC S.p [aU o S.p]).length≤400):kM (u+1) (jN o S):=by
 have hg:=dJ (o:=o) (aD h.p).2 h0;refine⟨gO hle (cO (aD h.p).2 (dW hg)).1,fun i=>⟨(h.q i).1,Nat.le_succ_of_le (h.q i).2⟩,(cW h.r.1 (dW hg)).1,?_⟩;have h1:=rA S.r [aU o S.p]
 have h2:=h.r.2;simp only[List.length_singleton]at h1;show(dG S.r [aU o S.p]).length≤u+1
 omega
theorem eN {L:List T} (h:aL L) {t:T} (ht:t∈L):aM L t.m=t.c∧aM L t.m≠0:=by
 have h1:aM L t.m=t.c:=by
  induction L with
  |nil=>cases ht
  |cons s r ih=>
   rw[aM];rcases List.mem_cons.1 ht with rfl|ht'
   ·rw[if_pos (cK.2 rfl)]
   ·have h1:=h.head t ht';rw[if_neg (fun e=>by rw[cK.1 e]at h1;omega)];exact ih h.tail ht'
 have h2:=h.2 t ht;exact⟨h1,by omega⟩
theorem yS {L:List T} (hL:aL L) {t:T} (ht:t∈L):(dC L [t]).length<L.length:=by
 have ht':=hL.2 t ht;have hf:=cO hL (dW ht')
 have hm:=eN hL ht;have key:dC L [t]=L.filter (fun s=> !eF s.m t.m):=by
  refine mM hf.1 ⟨hL.1.filter _,fun s hs=>hL.2 s (List.mem_filter.1 hs).1⟩ (fun m hmo=>?_);rw[hf.2 m];by_cases e:t.m=m
  ·subst e;have h1:aM [t] t.m=t.c:=bH _ _
   rw[h1,hm.1];have h2:aM (L.filter (fun s=> !eF s.m t.m)) t.m=0:=by
    by_cases hz:aM (L.filter (fun s=> !eF s.m t.m)) t.m=0
    ·exact hz
    ·obtain⟨s,hs,he⟩:=List.mem_map.1 (lE hz);have:=(List.mem_filter.1 hs).2
     rw[cK.2 he]at this;cases this
   rw[h2];omega
  ·have h1:aM [t] m=0:=by rw[iE e];rfl
   have hb:=cC hL m;rw[h1];have h2:aM (L.filter (fun s=> !eF s.m t.m)) m=aM L m:=by
    by_cases hz:aM L m=0
    ·rw[hz];by_cases hz2:aM (L.filter (fun s=> !eF s.m t.m)) m=0
     ·exact hz2
     ·obtain⟨s,hs,he⟩:=List.mem_map.1 (lE hz2);have h3:=(eN hL (List.mem_filter.1 hs).1).2
      rw[show s.m=m from he]at h3;exact absurd hz h3
    ·obtain⟨s,hs,he⟩:=List.mem_map.1 (lE hz);have he:s.m=m:=he
     subst he;have h4:s∈L.filter (fun s=> !eF s.m t.m):=List.mem_filter.2 ⟨hs,by rw[Gc.2 (fun e'=>e e'.symm)];rfl⟩
     rw[(eN hL hs).1,(eN (L:=L.filter (fun s=> !eF s.m t.m)) ⟨hL.1.filter _,fun s hs=>hL.2 s (List.mem_filter.1 hs).1⟩ h4).1]
   rw[h2];omega
 rw[key];refine List.length_filter_lt_length_iff_exists.2 ⟨t,ht,?_⟩;rw[cK.2 rfl];decide
theorem oZ {o:Int} {n:Nat} {ln:Nat→Nat} {f:Nat→Nat→T} (hl:bB n ln f=true) {u:Nat} {S S':Dv} (h:kM u S) (h0:S.p.length≠0) (hs:dU o n ln f S=some S'):kM (u+1) S':=by
 unfold dU at hs;split at hs
 ·exact h.take hl h0 (by assumption) hs
 ·cases hs;have:=yS (aD h.p).2 (gJ (o:=o) h0)
  have h4:=(aD h.p).1;exact h.leave h0 (by omega)
theorem vB {o:Int} {n:Nat} {ln:Nat→Nat} {f:Nat→Nat→T} (hl:bB n ln f=true):∀{v u:Nat} {S S':Dv},kM u S→fK o n ln f v S=some S'→kM (u+v) S'∧S'.p=[]
 |0,u,S,S',h,hr=>by
  unfold fK at hr;split at hr
  ·rename_i h0;cases hr;exact⟨h,List.length_eq_zero_iff.1 h0⟩
  ·cases hr
 |v+1,u,S,S',h,hr=>by
  by_cases h0:S.p.length=0
  ·rw[pV h0]at hr;cases hr;exact⟨⟨h.p,fun k=>⟨(h.q k).1,by have:=(h.q k).2;omega⟩,h.r.1,by have:=h.r.2;omega⟩,List.length_eq_zero_iff.1 h0⟩
  ·cases hs:dU o n ln f S with
   |none=>rw[vA h0 hs]at hr;cases hr
   |some S1=>
    rw[mZ h0 hs]at hr;have:=vB hl (oZ hl h h0 hs) hr
    rw[show u+(v+1)=u+1+v by omega];exact this
abbrev C2 (b1 o1:Nat) (v1:Value) (b2 o2:Nat) (v2:Value) (u:World):Prop:=u.cell? ⟨b1,o1,none⟩=some v1∧u.cell? ⟨b2,o2,none⟩=some v2
theorem C2.below {b1 o1 b2 o2:Nat} {v1 v2:Value} {u u':World} (h:C2 b1 o1 v1 b2 o2 v2 u) (hb:Below u.heap.size u u'):C2 b1 o1 v1 b2 o2 v2 u':=
 ⟨(hb.cell (p:=⟨b1,o1,none⟩) (dD u _ h.1)).trans h.1,(hb.cell (p:=⟨b2,o2,none⟩) (dD u _ h.2)).trans h.2⟩
abbrev fN (L:Nat→List T):Nat→Nat→T:=fun i=>lf (L i)
abbrev lN (L:Nat→List T):Nat→Nat:=fun i=>(L i).length
theorem ZT {t:T} {B Y:List T} (ht:cF [t]=true) (hB:cF B=true) (h:cM (lf [t]) (lf B) B.length 1=some Y):lO [t] B=(Y,true):=by
 unfold lO bT;rw[if_pos ⟨ht,hB⟩];show kW (cM (lf [t]) (lf B) B.length 1)=_
 rw[h];rfl
theorem zI {A B:List T} (hA:aL A) (hB:aL B) {s:T} (hs:s∈dG A B):(∃a∈A,a.m=s.m)∨(∃b∈B,b.m=s.m):=by
 obtain⟨hf,hc⟩:=cW hA hB;have h1:=(eN hf hs).2
 rw[hc]at h1;by_cases ha:aM A s.m=0
 ·by_cases hb:aM B s.m=0
  ·rw[ha,hb]at h1;exact absurd rfl h1
  ·obtain⟨b,h2,h3⟩:=List.mem_map.1 (lE hb);exact .inr ⟨b,h2,h3⟩
 ·obtain⟨a,h2,h3⟩:=List.mem_map.1 (lE ha);exact .inl ⟨a,h2,h3⟩
theorem ZJ {c:Int} {A:List T} {s:T} (hs:s∈iS c A):∃a∈A,a.m=s.m:=by rw[qK]at hs;obtain⟨a,h1,rfl⟩:=List.mem_map.1 hs;exact⟨a,h1,rfl⟩
theorem sJ {A B:List T} (hA:aL A) (hB:aL B) {s:T} (hs:s∈dC A B):(∃a∈A,a.m=s.m)∨(∃b∈B,b.m=s.m):=by
 rcases zI hA (gR (by omega) (by omega) hB) hs with h|⟨b,h1,h2⟩
 ·exact .inl h
 ·obtain⟨a,h3,h4⟩:=ZJ h1;exact .inr ⟨a,h3,h4.trans h2⟩
theorem kD {o:Int} {n:Nat} {L:Nat→List T} (hl:bB n (lN L) (fN L)=true) {S S':Dv} (hp:cF S.p=true) (h0:S.p.length≠0) (hs:dU o n (lN L) (fN L) S=some S'):(∃k Y,k<n∧M.dvd (aU o (L k)).m (aU o S.p).m=true∧cF [gH (aU o S.p) (aU o (L k))]=true∧lO [gH (aU o S.p) (aU o (L k))] (L k)=(Y,true)∧(dC S.p Y).length≤400∧S'=⟨dC S.p Y,nO S.q k (dG (S.q k) [gH (aU o S.p) (aU o (L k))]),S.r⟩)∨((∀i,i<n→M.dvd (aU o (L i)).m (aU o S.p).m=false)∧S'=jN o S):=by
 unfold dU at hs;split at hs
 ·rename_i hk;have hf:=mL hk
  have hg:=JT hl hp h0 hk;generalize(AK o n (lN L) (fN L) (aU o S.p).m).toNat=k at hs hf hg;unfold jH at hs;split at hs
  ·cases hs
  ·rename_i Y hY;split at hs
   ·rename_i hle;cases hs;have ho:=iX hg
    exact .inl ⟨k,Y,hf.1,hf.2,ho,ZT ho ((aQ hl).2 k hf.1).2 hY,hle,rfl⟩
   ·cases hs
 ·rename_i hk;cases hs;refine .inr ⟨fun i hi=>?_,rfl⟩;cases hd:M.dvd (aU o (L i)).m (aU o S.p).m
  ·rfl
  ·exact absurd (GD.2 ⟨i,hi,hd⟩) hk
theorem yH {o:Int} {n:Nat} {L:Nat→List T} (hl:bB n (lN L) (fN L)=true) (I:Dv→Prop) (hI:∀u S S',kM u S→S.p.length≠0→I S→dU o n (lN L) (fN L) S=some S'→I S'):∀{v u:Nat} {S S':Dv},kM u S→I S→fK o n (lN L) (fN L) v S=some S'→I S'
 |0,u,S,S',h,hi,hr=>by
  unfold fK at hr;split at hr
  ·cases hr;exact hi
  ·cases hr
 |v+1,u,S,S',h,hi,hr=>by
  by_cases h0:S.p.length=0
  ·rw[pV h0]at hr;cases hr;exact hi
  ·cases hs:dU o n (lN L) (fN L) S with
   |none=>rw[vA h0 hs]at hr;cases hr
   |some S1=>
    rw[mZ h0 hs]at hr;exact yH hl I hI (oZ hl h h0 hs) (hI u S S1 h h0 hi hs) hr
theorem iZ {o:Int} {p:List T} {n:Nat} {L:Nat→List T} {S:Dv} (h:aY o p n (lN L) (fN L)=some S):(1≤o∧o≤3)∧cF p=true∧bB n (lN L) (fN L)=true∧fK o n (lN L) (fN L) 300 (lR p)=some S:=by
 unfold aY at h;split at h
 ·rename_i hh;exact⟨hh.1,hh.2.1,hh.2.2,h⟩
 ·cases h
theorem mH {o:Int} {p:List T} {n:Nat} {L:Nat→List T} {S:Dv} (h:aY o p n (lN L) (fN L)=some S) (I:Dv→Prop) (h0:I (lR p)) (hI:∀u S S',kM u S→S.p.length≠0→I S→dU o n (lN L) (fN L) S=some S'→I S'):I S:=by obtain⟨_,h2,h3,h4⟩:=iZ h;exact yH h3 I hI (kM.start h2) h0 h4
theorem cU {o:Int} {p:List T} {n:Nat} {L:Nat→List T} {S:Dv} (h:aY o p n (lN L) (fN L)=some S):kM 300 S∧S.p=[]:=by
 obtain⟨_,h2,h3,h4⟩:=iZ h;have:=vB h3 (kM.start h2) h4
 exact⟨by simpa using this.1,this.2⟩
theorem NK (F:Nat→Lq) (X:Lq) (k:Nat):∀n,k<n→Lq.sumN (fun i=>if i=k then Lq.sum (F i) X else F i) n=Lq.sum (Lq.sumN F n) X
 |0,h=>by omega
 |n+1,h=>by
  rw[Lq.sumN,Lq.sumN];by_cases e:k=n
  ·subst e;rw[if_pos rfl,Lq.sumN_congr (g:=F) (fun i hi=>if_neg (by omega)),Lq.sum_assoc]
  ·rw[NK F X k n (by omega),if_neg (fun h=>e h.symm),Lq.sum_assoc,Lq.sum_assoc,Lq.sum_comm X]
def qsum (g:wS) (n:Nat) (L:Nat→List T) (q:Nat→List T):Lq:=Lq.sumN (fun i=>Lq.mul (Rp g (q i)) (Rp g (L i))) n
theorem xY:∀n,Lq.sumN (fun _=>Lq.nil) n=Lq.nil
 |0=>rfl
 |n+1=>by rw[Lq.sumN,xY n,Lq.sum_nil]
theorem MA (g:wS) (n:Nat) (L:Nat→List T):qsum g n L (fun _=>[])=Lq.nil:=by unfold qsum;rw[Lq.sumN_congr (g:=fun _=>Lq.nil) (fun i _=>by rw[pT,Lq.nil_mul]),xY]
theorem Bh (g:wS) {n:Nat} {L q:Nat→List T} {k:Nat} {t:T} (hk:k<n) (hq:aL (q k)) (ht:cF [t]=true):qsum g n L (nO q k (dG (q k) [t]))=Lq.sum (qsum g n L q) (Lq.mul (Rp g [t]) (Rp g (L k))):=by
 unfold qsum;rw[←NK _ _ k n hk];refine Lq.sumN_congr (fun i _=>?_);unfold nO;split
 ·rename_i e;subst e;rw[wY g hq (aD ht).2,Lq.sum_mul]
 ·rfl
theorem uG (g:wS) {o:Int} {p:List T} {n:Nat} {L:Nat→List T} {S:Dv} (h:aY o p n (lN L) (fN L)=some S):Lq.sum (qsum g n L S.q) (Rp g S.r)=Rp g p:=by
 obtain⟨_,h2,h3,h4⟩:=iZ h
 have key:=mH h (fun S=>Lq.sum (qsum g n L S.q) (Lq.sum (Rp g S.r) (Rp g S.p))=Rp g p) (by
  show Lq.sum (qsum g n L (fun _=>[])) (Lq.sum (Rp g []) (Rp g p))=_;rw[MA,pT]
  exact Lq.ext fun u i j=>by show(0:Fq)+(0+_)=_;grind) (fun u S S' hok h0 hI hs=>by
  rw[←hI];rcases kD h3 hok.p h0 hs with⟨k,Y,hk,_,ho,hY,_,rfl⟩|⟨_,rfl⟩
  ·show Lq.sum (qsum g n L (nO S.q k _)) (Lq.sum (Rp g S.r) (Rp g (dC S.p Y)))=_;rw[Bh g hk (hok.q k).1 ho,wZ g (aD hok.p).2 (nR hY),tL g hY];exact Lq.ext fun u i j=>by
    show _+_+(_+(_+zz 100*_))=_+(_+_)
    have e:zz 100=100:=rfl;rw[e]
    grind
  ·show Lq.sum (qsum g n L S.q) (Lq.sum (Rp g (dG S.r [aU o S.p])) (Rp g (dC S.p [aU o S.p])))=_;have f1:=dW (dJ (o:=o) (aD hok.p).2 h0)
   rw[wY g hok.r.1 f1,wZ g (aD hok.p).2 f1];exact Lq.ext fun u i j=>by
    show _+(_+_+(_+zz 100*_))=_+(_+_)
    have e:zz 100=100:=rfl;rw[e]
    grind)
 have hp:=(cU h).2;rw[hp,pT,Lq.sum_nil]at key;exact key
theorem CE {o:Int} {p:List T} {n:Nat} {L:Nat→List T} {S:Dv} (h:aY o p n (lN L) (fN L)=some S):∀t∈S.r,∀i,i<n→M.dvd (aU o (L i)).m t.m=false:=by
 obtain⟨_,h2,h3,h4⟩:=iZ h;refine mH h (fun S=>∀t∈S.r,∀i,i<n→M.dvd (aU o (L i)).m t.m=false) (fun t ht=>by cases ht) (fun u S S' hok h0 hI hs=>?_);rcases kD h3 hok.p h0 hs with⟨k,Y,_,_,_,_,_,rfl⟩|⟨hno,rfl⟩
 ·exact hI
 ·intro t ht i hi;rcases zI hok.r.1 (dW (dJ (o:=o) (aD hok.p).2 h0)) ht with⟨a,ha,e⟩|⟨b,hb,e⟩
  ·rw[←e];exact hI a ha i hi
  ·rw[←e,List.mem_singleton.1 hb];exact hno i hi
theorem LL {t l:T} (hd:M.dvd l.m t.m=true):(gH t l).m.sum l.m=t.m:=by
 have h:=CX hd;unfold M.mul at h;split at h
 ·exact congrArg Prod.fst h
 ·exact absurd (congrArg Prod.snd h) (by simp)
theorem LW {o:Int} (ho:1≤o∧o≤3) {t:T} {B Y:List T} (hB:cF B=true) (hB0:B.length≠0) (h:lO [t] B=(Y,true)):∀s∈Y,eO o s.m≤eO o t.m+eO o (aU o B).m:=fun s hs=>by
 have:=(EP (CF o) jE h (List.mem_singleton.2 rfl) (gJ (o:=o) hB0) (fun a ha=>by rw[List.mem_singleton.1 ha];exact Int.le_refl _) (oD ho hB hB0)).2 s hs;rw[(CF o t.m (aU o B).m 0 0).2]at this;exact this
theorem MG {o:Int} {p:List T} {n:Nat} {L:Nat→List T} {S:Dv} (h:aY o p n (lN L) (fN L)=some S) {N:Int} (hN:∀t∈p,eO o t.m≤N):(∀t∈S.r,eO o t.m≤N)∧∀i,i<n→∀s∈S.q i,(s.m.sum (aU o (L i)).m).ok=true∧eO o (s.m.sum (aU o (L i)).m)≤N:=by
 obtain⟨h1,h2,h3,h4⟩:=iZ h
 have key:=mH h (fun S=>(∀t∈S.p,eO o t.m≤N)∧(∀t∈S.r,eO o t.m≤N)∧∀i,i<n→∀s∈S.q i,(s.m.sum (aU o (L i)).m).ok=true∧eO o (s.m.sum (aU o (L i)).m)≤N) ⟨hN,⟨fun t ht=>absurd ht (List.not_mem_nil),fun i _ s hs=>absurd hs (List.not_mem_nil)⟩⟩ (fun u S S' hok h0 hI hs=>by
  obtain⟨i1,i2,i3⟩:=hI;have hl:=gJ (o:=o) h0
  have hg:=dJ (o:=o) (aD hok.p).2 h0;rcases kD h3 hok.p h0 hs with⟨k,Y,hk,hd,ho,hY,_,rfl⟩|⟨hno,rfl⟩
  ·have hk2:=(aQ h3).2 k hk;have htop:=LW h1 hk2.2 hk2.1 hY
   have hsum:=LL hd;have hw:=(CF o (gH (aU o S.p) (aU o (L k))).m (aU o (L k)).m 0 0).2
   rw[hsum]at hw;refine⟨fun t ht=>?_,i2,fun i hi s hs=>?_⟩
   ·rcases sJ (aD hok.p).2 (nR hY) ht with⟨a,ha,e⟩|⟨b,hb,e⟩
    ·rw[←e];exact i1 a ha
    ·rw[←e];have:=htop b hb
     have:=i1 _ hl;omega
   ·change s∈nO S.q k _ i at hs;unfold nO at hs;split at hs
    ·rename_i e;subst e;rcases zI (hok.q i).1 (aD ho).2 hs with⟨a,ha,e⟩|⟨b,hb,e⟩
     ·rw[←e];exact i3 i hi a ha
     ·rw[←e,List.mem_singleton.1 hb,hsum];exact⟨hg.1,i1 _ hl⟩
    ·exact i3 i hi s hs
  ·refine⟨fun t ht=>?_,fun t ht=>?_,i3⟩
   ·rcases sJ (aD hok.p).2 (dW hg) ht with⟨a,ha,e⟩|⟨b,hb,e⟩
    ·rw[←e];exact i1 a ha
    ·rw[←e,List.mem_singleton.1 hb];exact i1 _ hl
   ·rcases zI hok.r.1 (dW hg) ht with⟨a,ha,e⟩|⟨b,hb,e⟩
    ·rw[←e];exact i2 a ha
    ·rw[←e,List.mem_singleton.1 hb];exact i1 _ hl)
 exact⟨key.2.1,key.2.2⟩
theorem YZ (c:Int) (L:List T) {i:Nat} (h:i<L.length):lf (iS c L) i=uI c (lf L i):=by
 have h2:i<(iS c L).length:=by rw[eG];exact h
 rw[jV h2,jV h];simp only[qK,List.getElem_map];rfl
theorem rN (o:Int) (f g:Nat→T):∀(u i k n:Nat),i+u≤n→k<n→(∀j,j<n→(f j).m=(g j).m)→aW o f u i k=aW o g u i k
 |0,i,k,n,_,_,_=>rfl
 |u+1,i,k,n,hi,hk,h=>by
  simp only[aW];rw[h i (by omega),h k hk];split
  ·exact rN o f g u (i+1) i n (by omega) (by omega) h
  ·exact rN o f g u (i+1) k n (by omega) hk h
theorem Jq (o c:Int) {L:List T} (h0:L.length≠0):aU o (iS c L)=uI c (aU o L):=by
 have e:bC o (lf (iS c L)) (iS c L).length=bC o (lf L) L.length:=by rw[eG];exact rN o _ _ (L.length-1) 1 0 L.length (by omega) (by omega) (fun j hj=>by rw[YZ c L hj];rfl)
 unfold aU;rw[e,YZ c L (sF (by omega))]
end Go.Proofs.YtelkehjdfcoeiaaGreat
