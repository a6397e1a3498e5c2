/-
  The greatest terms of a product: whatever is counted so that a slope and its time count at least 1 together.
-/
import Derived.Test.YtmlaedpamobmhaaGreatMaw
namespace Go.Proofs.YtmlaedpamobmhaaGreat
open Go.RowKit
set_option linter.unusedVariables false
theorem GU (φ:M→Fq) {K:List T} {a:T} {f:Nat→T} {lb:Nat} (hK:aK K) (ha:a.m.ok=true∧0≤a.c∧a.c≤100) (hg:nG f lb):∀k K',k≤lb→fT K a f k=some K'→kW φ K'=kW φ K+su (List.range k) (fun j=>kW φ (dG a (f j)))
 |0,K',_,h=>by cases h;show _=kW φ K+0;grind
 |k+1,K',hk,h=>by
  rw[fT]at h;cases hr:fT K a f k with
  |none=>rw[hr]at h;cases h
  |some K1=>
   rw[hr]at h;change gB K1 a (f k)=some K' at h;have h1:=GU φ hK ha hg k K1 (by omega) hr
   have hf1:=jX hK ha hg k K1 (by omega) hr;unfold gB at h;split at h
   ·rename_i hok;cases h;have h2:=hg k (by omega)
    have tw:qG a (f k) (a.m.sum (f k).m):=⟨ha.1,h2.1,hok.1,rfl,rfl,rfl,rfl,ha.2,h2.2⟩
    rw[LX φ hf1 (fZ tw).1,h1,List.range_succ,lA];show _=_+(_+(_+0))
    grind
   ·cases h
theorem GV {K:List T} {a:T} {f:Nat→T}:∀k K',fT K a f k=some K'→∀j,j<k→(a.m.sum (f j).m).ok=true
 |0,_,_,j,hj=>by omega
 |k+1,K',h,j,hj=>by
  rw[fT]at h;cases hr:fT K a f k with
  |none=>rw[hr]at h;cases h
  |some K1=>
   rw[hr]at h;change gB K1 a (f k)=some K' at h;unfold gB at h;split at h
   ·rename_i hok;by_cases e:j=k
    ·rw[e];exact hok.1
    ·exact GV k K1 hr j (by omega)
   ·cases h
theorem yK (φ:M→Fq) {f f':Nat→T} {la lb:Nat} (hf:nG f la) (hg:nG f' lb):∀i K,i≤la→cC f f' lb i=some K→kW φ K=su (List.range i) (fun k=>su (List.range lb) (fun j=>kW φ (dG (f k) (f' j))))∧∀k,k<i→∀j,j<lb→((f k).m.sum (f' j).m).ok=true
 |0,K,_,h=>by cases h;exact⟨rfl,fun k hk=>by omega⟩
 |i+1,K,hi,h=>by
  rw[cC]at h;cases hr:cC f f' lb i with
  |none=>rw[hr]at h;cases h
  |some K1=>
   rw[hr]at h;have h1:=yK φ hf hg i K1 (by omega) hr
   refine⟨?_,fun k hk j hj=>?_⟩
   ·rw[GU φ (cV hf hg i K1 (by omega) hr) (hf i (by omega)) hg lb K (Nat.le_refl _) h,h1.1,List.range_succ,lA];show _=_+(_+0)
    grind
   ·by_cases e:k=i
    ·rw[e];exact GV lb K h j hj
    ·exact h1.2 k (by omega) j hj
theorem WC (L:List T) (f:T→Fq):su L f=su (List.range L.length) (fun i=>f (lf L i)):=by
 have e:L=(List.range L.length).map (lf L):=by refine List.ext_getElem (by simp) (fun i h1 h2=>?_);rw[List.getElem_map,List.getElem_range,iP h1]
 have:=vC (lf L) f (List.range L.length);rw[←e]at this;exact this
theorem EH {A B P:List T} (h:mA A B=(P,true)):(∀φ,kW φ P=su A (fun a=>su B (fun b=>kW φ (dG a b))))∧∀a∈A,∀b∈B,(a.m.sum b.m).ok=true:=by
 unfold mA aS at h;split at h
 ·rename_i hok;obtain⟨l1,g1⟩:=cB hok.1;obtain⟨l2,g2⟩:=cB hok.2;cases hm:cC (lf A) (lf B) B.length A.length with
  |none=>rw[hm]at h;simp[iK]at h
  |some K=>
   rw[hm]at h;have e:K=P:=by simpa[iK]using h
   refine⟨fun φ=>?_,fun a ha b hb=>?_⟩
   ·rw[←e,(yK φ g1 g2 _ K (Nat.le_refl _) hm).1,WC A];refine eO (fun i _=>?_);rw[WC B]
   ·obtain⟨i,hi,rfl⟩:=List.mem_iff_getElem.1 ha;obtain⟨j,hj,rfl⟩:=List.mem_iff_getElem.1 hb;have:=(yK (fun _=>0) g1 g2 _ K (Nat.le_refl _) hm).2 i hi j hj
    rwa[iP hi,iP hj]at this
 ·simp at h
def Wt (W:M→Int):Prop:=∀(a b:M) (i k:Nat),W ⟨a.x+b.x-i,a.y+b.y-k,a.d+b.d-i,a.e+b.e-k⟩≤W a+W b-i-k∧W (a.sum b)=W a+W b
theorem UN (φ:M→Fq) {a b:T} {m:M} (h:qG a b m):kW φ (dG a b)=su (List.range (gI a b+1)) (fun i=>su (List.range (iE a b+1)) (fun k=>zz (mH a b i k).c*φ (mH a b i k).m)):=by
 show kW φ (fR (fK a b (gI a b+1)) [])=_;rw[rG _ _ (oZ h) eW,DC];unfold kW fK mR;rw[DY];have z:∀x:Fq,0+x=x:=by intro x;grind
 rw[z];refine eO (fun i _=>?_);rw[vC]
theorem zH (f:Nat→Fq):∀n,(∀i,0<i→f i=0)→su (List.range (n+1)) f=f 0
 |0,_=>by show f 0+0=f 0;grind
 |n+1,h=>by
  rw[List.range_succ,lA,zH f n h];show f 0+(f (n+1)+0)=f 0
  rw[h (n+1) (by omega)];grind
theorem NW {d x:Int} (d0:0≤d) (d1:d≤15) (x0:0≤x) (x1:x≤15):zz (wy d x 0)=1:=by
 have h:=WQ (d:=d) (x:=x) (i:=0) d0 d1 x0 x1 (by omega) (by omega);have e:((0:Nat):Int)=0:=rfl
 rw[e]at h;rw[h];unfold wN;rw[xK];rfl
theorem UO {W:M→Int} (hW:Wt W) (φ:M→Fq) {a b:T} {m:M} (h:qG a b m) {n:Int} (hn:W a.m+W b.m≤n) (hφ:∀m,W m<n→φ m=0):kW φ (dG a b)=zz a.c*zz b.c*φ (a.m.sum b.m):=by
 obtain⟨ax0,ax1,ay0,ay1,ad0,ad1,ae0,ae1⟩:=M.ok_iff.1 h.ok1;obtain⟨bx0,bx1,by0,by1,bd0,bd1,be0,be1⟩:=M.ok_iff.1 h.ok2;have zr:∀x:Fq,x*0=0:=by intro x;grind
 have low:∀i k:Nat,0<i+k→φ (mH a b i k).m=0:=fun i k hik=>by
  have:=(hW a.m b.m i k).1;refine hφ _ ?_;show W ⟨a.m.x+b.m.x-i,a.m.y+b.m.y-k,a.m.d+b.m.d-i,a.m.e+b.m.e-k⟩<n
  omega
 rw[UN φ h,zH _ _ (fun i hi=>oK _ _ (fun k _=>by rw[low i k (by omega),zr])),zH _ _ (fun k hk=>by rw[low 0 k (by omega),zr])];have e:(mH a b 0 0).m=a.m.sum b.m:=by
  show(⟨a.m.x+b.m.x-((0:Nat):Int),a.m.y+b.m.y-((0:Nat):Int),a.m.d+b.m.d-((0:Nat):Int),a.m.e+b.m.e-((0:Nat):Int)⟩:M)=⟨a.m.x+b.m.x,a.m.y+b.m.y,a.m.d+b.m.d,a.m.e+b.m.e⟩
  simp
 rw[e];congr 1;show zz (a.c*b.c%101*wy a.m.d b.m.x ((0:Nat):Int)%101*wy a.m.e b.m.y ((0:Nat):Int)%101)=_
 have e0:((0:Nat):Int)=0:=rfl;rw[e0,kH,mU,kH,mU,kH,mU,NW ad0 ad1 bx0 bx1,NW ae0 ae1 by0 by1]
 grind
theorem Dl {A B P:List T} (h:mA A B=(P,true)) {a b:T} (ha:a∈A) (hb:b∈B):qG a b (a.m.sum b.m):=by
 obtain⟨oA,oB⟩:=EG h;have r1:=(aF oA).2.2 a ha
 have r2:=(aF oB).2.2 b hb;exact⟨r1.1,r2.1,(EH h).2 a ha b hb,rfl,rfl,rfl,rfl,⟨by omega,r1.2.2⟩,by omega,r2.2.2⟩
theorem Dn {W:M→Int} (hW:Wt W) {A B P:List T} (h:mA A B=(P,true)) {n:Int} (hn:∀a∈A,∀b∈B,W a.m+W b.m≤n) (φ:M→Fq) (hφ:∀m,W m<n→φ m=0):kW φ P=su A (fun a=>su B (fun b=>zz a.c*zz b.c*φ (a.m.sum b.m))):=by rw[(EH h).1];refine eO (fun a ha=>eO (fun b hb=>?_));exact UO hW φ (Dl h ha hb) (hn a ha b hb) hφ
def dl (m:M) (x:M):Fq:=if gP m x=true then 1 else 0
theorem TH {P:List T} (hP:aK P) {m:M} (hm:m.ok=true):kW (dl m) P=zz (aM P m):=by
 rw[nW _ hP];have e:su box (fun x=>zz (aM P x)*dl m x)=su box (fun x=>if gP m x=true then zz (aM P m)else 0):=by
  refine eO (fun x _=>?_);unfold dl;by_cases h:gP m x=true
  ·rw[if_pos h,if_pos h,dV.1 h];grind
  ·rw[if_neg h,if_neg h];grind
 rw[e,qE m _ box uC (CN hm)]
theorem AX {W:M→Int} (hW:Wt W) (hinj:∀a b:M,a.ok=true→b.ok=true→W a=W b→a=b) {A B P:List T} (h:mA A B=(P,true)) {a0 b0:T} (ha0:a0∈A) (hb0:b0∈B) (hA:∀a∈A,W a.m≤W a0.m) (hB:∀b∈B,W b.m≤W b0.m):(⟨a0.c*b0.c%101,a0.m.sum b0.m⟩:T)∈P∧∀t∈P,W t.m≤W (a0.m.sum b0.m):=by
 obtain⟨oA,oB⟩:=EG h;have fA:=(aF oA).2
 have fB:=(aF oB).2;have fP:=nF h
 have ra:=fA.2 a0 ha0;have rb:=fB.2 b0 hb0
 have hs:=(EH h).2 a0 ha0 b0 hb0;have hsum:=(hW a0.m b0.m 0 0).2
 have key:∀m:M,m.ok=true→W (a0.m.sum b0.m)≤W m→zz (aM P m)=zz a0.c*zz b0.c*dl m (a0.m.sum b0.m):=fun m hm hle=>by
  rw[←TH fP hm,Dn hW h (n:=W a0.m+W b0.m) (fun a ha b hb=>by have:=hA a ha;have:=hB b hb;omega) (dl m) (fun x hx=>by
   unfold dl;rw[if_neg];intro e;rw[dV.1 e]at hle
   omega)]
  have zr:∀x:Fq,x*0=0:=by intro x;grind
  have off:∀a∈A,∀b∈B,(a.m≠a0.m∨b.m≠b0.m)→dl m (a.m.sum b.m)=0:=fun a ha b hb hne=>by
   unfold dl;rw[if_neg];intro e;rw[dV.1 e,(hW a.m b.m 0 0).2]at hle;have h1:=hA a ha
   have h2:=hB b hb;rcases hne with hne|hne
   ·exact hne (hinj _ _ (fA.2 a ha).1 ra.1 (by omega))
   ·exact hne (hinj _ _ (fB.2 b hb).1 rb.1 (by omega))
  rw[tR fA ha0 (fun a ha hne=>oK _ _ (fun b hb=>by rw[off a ha b hb (.inl hne),zr])),tR fB hb0 (fun b hb hne=>by rw[off a0 ha0 b hb (.inr hne),zr])]
 have c0:aM P (a0.m.sum b0.m)=a0.c*b0.c%101:=by
  have h1:=key _ hs (Int.le_refl _);have e1:dl (a0.m.sum b0.m) (a0.m.sum b0.m)=1:=by unfold dl;rw[if_pos (dV.2 rfl)]
  rw[e1]at h1;have h2:zz (aM P (a0.m.sum b0.m))=zz (a0.c*b0.c%101):=by rw[h1,kH,mU];grind
  exact WP (bZ fP _) ⟨by omega,by omega⟩ h2
 have cne:a0.c*b0.c%101≠0:=by
  have:=LM (a:=a0.c) (b:=b0.c) (by omega) (by omega) (by omega) (by omega)
  rwa[iU (by omega) ra.2.2 (by omega) rb.2.2]at this
 have mem:∀X:List T,∀m,aM X m≠0→∃s∈X,s.m=m∧s.c=aM X m:=fun X m=>by
  induction X with
  |nil=>intro h;exact absurd rfl h
  |cons s r ih=>
   intro h;rw[aM]at h⊢;by_cases e:gP s.m m=true
   ·exact⟨s,List.mem_cons_self ..,dV.1 e,by rw[if_pos e]⟩
   ·rw[if_neg e]at h⊢;obtain⟨x,hx,he⟩:=ih h;exact⟨x,List.mem_cons_of_mem _ hx,he⟩
 refine⟨?_,fun t ht=>?_⟩
 ·obtain⟨s,hs1,hs2,hs3⟩:=mem P (a0.m.sum b0.m) (by rw[c0];exact cne);have:s=⟨a0.c*b0.c%101,a0.m.sum b0.m⟩:=by cases s;simp only at hs2 hs3;rw[hs2,hs3,c0]
  rw[←this];exact hs1
 ·have rt:=fP.2 t ht;by_cases hle:W t.m≤W (a0.m.sum b0.m)
  ·exact hle
  ·exfalso;have h1:=key t.m rt.1 (by omega)
   have e1:dl t.m (a0.m.sum b0.m)=0:=by unfold dl;rw[if_neg];intro e;rw[dV.1 e]at hle;exact hle (Int.le_refl _)
   rw[e1]at h1;have ht2:aM P t.m=t.c:=by
    have hp:∀X:List T,aK X→t∈X→aM X t.m=t.c:=fun X hX hx=>by
     induction X with
     |nil=>cases hx
     |cons s r ih=>
      rw[aM];rcases List.mem_cons.1 hx with rfl|hx'
      ·rw[if_pos (dV.2 rfl)]
      ·have h1:=(List.pairwise_cons.1 hX.1).1 t hx';rw[if_neg (fun e=>by rw[dV.1 e]at h1;omega)];exact ih hX.tail hx'
    exact hp P fP ht
   rw[ht2]at h1;exact CE rt.2.1 rt.2.2 (by rw[h1];grind)
def jO (o:Int) (m:M):Int:=if o=1 then eQ m else if o=3 then uY m else gE m
theorem DO {o:Int} {a b:M} (ho:1≤o∧o≤3) (ha:a.ok=true) (hb:b.ok=true):M.ord o a b=c3 (jO o a) (jO o b):=by
 obtain⟨h1,h2⟩:=ho;have h:o=1∨o=2∨o=3:=by omega
 rcases h with rfl|rfl|rfl
 ·rw[←yS ha hb];simp[jO]
 ·rw[←KJ ha hb];simp[jO]
 ·rw[←KI ha hb];simp[jO]
theorem DP (o:Int):Wt (jO o):=fun a b i k=>by
 unfold jO eQ uY gE M.sum;split
 ·simp only;omega
 ·split
  ·simp only;omega
  ·simp only;omega
theorem SP {a b c d:Int} (hb:0≤b∧b≤15) (hd:0≤d∧d≤15) (h:a*16+b=c*16+d):a=c∧b=d:=by omega
theorem Aj {a b c d:Int} (hb:0≤b∧b≤65535) (hd:0≤d∧d≤65535) (h:a*65536+b=c*65536+d):b=d:=by omega
theorem NA {a:M} (ha:a.ok=true):0≤gE a∧gE a≤65535:=by obtain⟨x1,x2,y1,y2,d1,d2,e1,e2⟩:=M.ok_iff.1 ha;unfold gE;omega
theorem VM {a b:M} (ha:a.ok=true) (hb:b.ok=true) (h:gE a=gE b):a=b:=by
 obtain⟨x1,x2,y1,y2,d1,d2,e1,e2⟩:=M.ok_iff.1 ha;obtain⟨x3,x4,y3,y4,d3,d4,e3,e4⟩:=M.ok_iff.1 hb;unfold gE at h;have k1:=SP ⟨y1,y2⟩ ⟨y3,y4⟩ h
 have k2:=SP ⟨x1,x2⟩ ⟨x3,x4⟩ k1.1;have k3:=SP ⟨e1,e2⟩ ⟨e3,e4⟩ k2.1
 have q1:=k1.2;have q2:=k2.2
 have q3:=k3.2;have q4:=k3.1
 revert q1 q2 q3 q4
 cases a;cases b;intro q1 q2 q3 q4;simp only at q1 q2 q3 q4;rw[q1,q2,q3,q4]
theorem pZ {o:Int} (a b:M) (ha:a.ok=true) (hb:b.ok=true) (h:jO o a=jO o b):a=b:=by
 refine VM ha hb ?_;have ba:=NA ha
 have bb:=NA hb;unfold jO at h;split at h
 ·exact Aj ba bb h
 ·split at h
  ·exact Aj ba bb h
  ·exact h
theorem Bo {a b:Int}:0<c3 a b↔b<a:=by unfold c3;split<;>(try split)<;>omega
theorem uQ {o:Int} {f:Nat→T} {n:Nat} (ho:1≤o∧o≤3) (hm:∀i,i<n→(f i).m.ok=true):∀(u i k:Nat),i+u≤n→k<n→bA o f u i k<n∧jO o (f k).m≤jO o (f (bA o f u i k)).m∧∀j,i≤j→j<i+u→jO o (f j).m≤jO o (f (bA o f u i k)).m
 |0,i,k,_,hk=>⟨hk,Int.le_refl _,fun j h1 h2=>by omega⟩
 |u+1,i,k,hi,hk=>by
  have hc:=Bo (a:=jO o (f i).m) (b:=jO o (f k).m);rw[←DO ho (hm i (by omega)) (hm k hk)]at hc;simp only[bA];split
  ·rename_i h;obtain⟨h1,h2,h3⟩:=uQ ho hm u (i+1) i (by omega) (by omega);have h4:=hc.1 h
   refine⟨h1,by omega,fun j hj1 hj2=>?_⟩;by_cases hji:j=i
   ·rw[hji];exact h2
   ·exact h3 j (by omega) (by omega)
  ·rename_i h;obtain⟨h1,h2,h3⟩:=uQ ho hm u (i+1) k (by omega) hk;have h4:¬jO o (f k).m<jO o (f i).m:=fun q=>h (hc.2 q)
   refine⟨h1,h2,fun j hj1 hj2=>?_⟩;by_cases hji:j=i
   ·rw[hji];omega
   ·exact h3 j (by omega) (by omega)
def qY (o:Int) (L:List T):T:=bL o L.length (lf L)
def AA (o:Int) (L:List T):Bool:=bD o L.length (lf L)
theorem iI {o:Int} {L:List T}:AA o L=true↔(1≤o∧o≤3)∧cM L=true∧L≠[]:=by
 unfold AA bD;rw[Bool.and_eq_true,Bool.and_eq_true,decide_eq_true_eq,decide_eq_true_eq];constructor
 ·rintro⟨⟨h1,h2⟩,h3⟩;exact⟨h1,h2,fun e=>by rw[e]at h3;simp at h3⟩
 ·rintro⟨h1,h2,h3⟩;exact⟨⟨h1,h2⟩,List.length_pos_iff.2 h3⟩
theorem uO {o:Int} {L:List T} (h:AA o L=true):qY o L∈L∧∀t∈L,jO o t.m≤jO o (qY o L).m:=by
 obtain⟨ho,oL,hne⟩:=iI.1 h;have hpos:=List.length_pos_iff.2 hne
 have fl:=dR (show aL L.length (lf L)=true from oL);have e:qY o L=lf L (bB o (lf L) L.length):=eX h
 have hm:∀i,i<L.length→(lf L i).m.ok=true:=fun i hi=>(fl.2 i hi).1;have key:=uQ (o:=o) (f:=lf L) (n:=L.length) ho hm (L.length-1) 1 0 (by omega) hpos
 have e2:bB o (lf L) L.length=bA o (lf L) (L.length-1) 1 0:=rfl;rw[e,e2];refine⟨?_,fun t ht=>?_⟩
 ·rw[iP key.1];exact List.getElem_mem _
 ·obtain⟨i,hi,rfl⟩:=List.mem_iff_getElem.1 ht;by_cases h0:i=0
  ·subst h0;have:=key.2.1
   rwa[iP hpos]at this
  ·have:=key.2.2 i (by omega) (by omega)
   rwa[iP hi]at this
theorem WK {B P:List T} (h:mA [] B=(P,true)):P=[]:=by have h1:=qR DX h;rw[nJ,Lq.nil_mul]at h1;exact uT (nF h) h1
theorem WL {A P:List T} (h:mA A []=(P,true)):P=[]:=by have h1:=qR DX h;rw[nJ,Lq.mul_nil]at h1;exact uT (nF h) h1
theorem TD (o:Int):AA o []=false:=by
 cases h:AA o []
 ·rfl
 ·exact absurd rfl (iI.1 h).2.2
theorem YH {o:Int} (ho:1≤o∧o≤3) {A B P:List T} (h:mA A B=(P,true)):AA o P=(AA o A&&AA o B)∧(AA o A=true→AA o B=true→M.mul ⟨(qY o A).m.x,(qY o A).m.y,(qY o A).m.d,(qY o A).m.e⟩ ⟨(qY o B).m.x,(qY o B).m.y,(qY o B).m.d,(qY o B).m.e⟩=((qY o P).m,true)∧pD (qY o A).c (qY o B).c=(qY o P).c):=by
 obtain⟨oA,oB⟩:=EG h;cases hA:AA o A
 ·have eA:A=[]:=by
   by_cases e:A=[]
   ·exact e
   ·rw[iI.2 ⟨ho,oA,e⟩]at hA;cases hA
  subst eA;rw[WK h,TD];exact⟨rfl,fun q=>by cases q⟩
 ·cases hB:AA o B
  ·have eB:B=[]:=by
    by_cases e:B=[]
    ·exact e
    ·rw[iI.2 ⟨ho,oB,e⟩]at hB;cases hB
   subst eB;rw[WL h,TD];exact⟨rfl,fun _ q=>by cases q⟩
  ·obtain⟨a1,a2⟩:=uO hA;obtain⟨b1,b2⟩:=uO hB;have hp:=AX (DP o) pZ h a1 b1 a2 b2
   have hne:P≠[]:=fun e=>by rw[e]at hp;cases hp.1
   have hP:AA o P=true:=iI.2 ⟨ho,zT h,hne⟩;refine⟨hP,fun _ _=>?_⟩;obtain⟨p1,p2⟩:=uO hP;have fP:=nF h
   have r1:=fP.2 _ p1;have hs:=(EH h).2 _ a1 _ b1
   have l1:=hp.2 _ p1;have l2:=p2 _ hp.1
   dsimp only at l2;have em:(qY o P).m=(qY o A).m.sum (qY o B).m:=by refine pZ (o:=o) _ _ r1.1 hs ?_;exact Int.le_antisymm l1 l2
   have ra:=(aF oA).2.2 _ a1;have rb:=(aF oB).2.2 _ b1
   have ec:(qY o P).c=(qY o A).c*(qY o B).c%101:=by
    have h1:∀X:List T,aK X→∀t∈X,∀s∈X,t.m=s.m→t=s:=fun X hX=>by
     induction X with
     |nil=>intro t ht;cases ht
     |cons z r ih=>
      intro t ht s hs e;have hp:=(List.pairwise_cons.1 hX.1).1
      rcases List.mem_cons.1 ht with rfl|ht'
      ·rcases List.mem_cons.1 hs with rfl|hs'
       ·rfl
       ·have:=hp s hs';rw[e]at this;omega
      ·rcases List.mem_cons.1 hs with rfl|hs'
       ·have:=hp t ht';rw[e]at this;omega
       ·exact ih hX.tail t ht' s hs' e
    rw[h1 P fP _ p1 _ hp.1 em]
   refine⟨?_,?_⟩
   ·rw[em];have e3:∀m:M,(⟨m.x,m.y,m.d,m.e⟩:M)=m:=fun m=>by cases m;rfl
    rw[e3,e3];unfold M.mul;simp[ra.1,rb.1,hs]
   ·rw[ec,iU (by omega) ra.2.2 (by omega) rb.2.2]
open Go.RowKit Go.Deep Go.Joins
end Go.Proofs.YtmlaedpamobmhaaGreat
