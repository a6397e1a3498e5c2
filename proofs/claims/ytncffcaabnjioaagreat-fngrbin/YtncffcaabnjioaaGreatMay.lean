/-
  The greatest terms of a product: whatever is counted so that a slope and its time count at least 1 together.
-/
import Derived.Test.YtncffcaabnjioaaGreatMav
namespace Go.Proofs.YtncffcaabnjioaaGreat
open Go.RowKit
set_option linter.unusedVariables false
theorem DY (φ:M→Fq) {K:List T} {a:T} {f:Nat→T} {lb:Nat} (hK:aK K) (ha:a.m.ok=true∧0≤a.c∧a.c≤100) (hg:mO f lb):∀k K',k≤lb→eY K a f k=some K'→kK φ K'=kK φ K+su (List.range k) (fun j=>kK φ (cM a (f j)))
 |0,K',_,h=>by cases h;show _=kK φ K+0;grind
 |k+1,K',hk,h=>by
  rw[eY]at h;cases hr:eY K a f k with
  |none=>rw[hr]at h;cases h
  |some K1=>
   rw[hr]at h;change fI K1 a (f k)=some K' at h;have h1:=DY φ hK ha hg k K1 (by omega) hr
   have hf1:=jI hK ha hg k K1 (by omega) hr;unfold fI at h;split at h
   ·rename_i hok;cases h;have h2:=hg k (by omega)
    have tw:pY a (f k) (a.m.sum (f k).m):=⟨ha.1,h2.1,hok.1,rfl,rfl,rfl,rfl,ha.2,h2.2⟩
    rw[IL φ hf1 (fG tw).1,h1,List.range_succ,kM];show _=_+(_+(_+0))
    grind
   ·cases h
theorem DZ {K:List T} {a:T} {f:Nat→T}:∀k K',eY K a f k=some K'→∀j,j<k→(a.m.sum (f j).m).ok=true
 |0,_,_,j,hj=>by omega
 |k+1,K',h,j,hj=>by
  rw[eY]at h;cases hr:eY K a f k with
  |none=>rw[hr]at h;cases h
  |some K1=>
   rw[hr]at h;change fI K1 a (f k)=some K' at h;unfold fI at h;split at h
   ·rename_i hok;by_cases e:j=k
    ·rw[e];exact hok.1
    ·exact DZ k K1 hr j (by omega)
   ·cases h
theorem wS (φ:M→Fq) {f f':Nat→T} {la lb:Nat} (hf:mO f la) (hg:mO f' lb):∀i K,i≤la→bY f f' lb i=some K→kK φ K=su (List.range i) (fun k=>su (List.range lb) (fun j=>kK φ (cM (f k) (f' j))))∧∀k,k<i→∀j,j<lb→((f k).m.sum (f' j).m).ok=true
 |0,K,_,h=>by cases h;exact⟨rfl,fun k hk=>by omega⟩
 |i+1,K,hi,h=>by
  rw[bY]at h;cases hr:bY f f' lb i with
  |none=>rw[hr]at h;cases h
  |some K1=>
   rw[hr]at h;have h1:=wS φ hf hg i K1 (by omega) hr
   refine⟨?_,fun k hk j hj=>?_⟩
   ·rw[DY φ (dA hf hg i K1 (by omega) hr) (hf i (by omega)) hg lb K (Nat.le_refl _) h,h1.1,List.range_succ,kM];show _=_+(_+0)
    grind
   ·by_cases e:k=i
    ·rw[e];exact DZ lb K h j hj
    ·exact h1.2 k (by omega) j hj
theorem RY (L:List T) (f:T→Fq):su L f=su (List.range L.length) (fun i=>f (lf L i)):=by
 have e:L=(List.range L.length).map (lf L):=by refine List.ext_getElem (by simp) (fun i h1 h2=>?_);rw[List.getElem_map,List.getElem_range,iA h1]
 have:=tW (lf L) f (List.range L.length);rw[←e]at this;exact this
theorem CA {A B P:List T} (h:lF A B=(P,true)):(∀φ,kK φ P=su A (fun a=>su B (fun b=>kK φ (cM a b))))∧∀a∈A,∀b∈B,(a.m.sum b.m).ok=true:=by
 unfold lF bJ at h;split at h
 ·rename_i hok;obtain⟨l1,g1⟩:=bV hok.1;obtain⟨l2,g2⟩:=bV hok.2;cases hm:bY (lf A) (lf B) B.length A.length with
  |none=>rw[hm]at h;simp[iR]at h
  |some K=>
   rw[hm]at h;have e:K=P:=by simpa[iR]using h
   refine⟨fun φ=>?_,fun a ha b hb=>?_⟩
   ·rw[←e,(wS φ g1 g2 _ K (Nat.le_refl _) hm).1,RY A];refine dX (fun i _=>?_);rw[RY B]
   ·obtain⟨i,hi,rfl⟩:=List.mem_iff_getElem.1 ha;obtain⟨j,hj,rfl⟩:=List.mem_iff_getElem.1 hb;have:=(wS (fun _=>0) g1 g2 _ K (Nat.le_refl _) hm).2 i hi j hj
    rwa[iA hi,iA hj]at this
 ·simp at h
def Wt (W:M→Int):Prop:=∀(a b:M) (i k:Nat),W ⟨a.x+b.x-i,a.y+b.y-k,a.d+b.d-i,a.e+b.e-k⟩≤W a+W b-i-k∧W (a.sum b)=W a+W b
theorem PW (φ:M→Fq) {a b:T} {m:M} (h:pY a b m):kK φ (cM a b)=su (List.range (fR a b+1)) (fun i=>su (List.range (gO a b+1)) (fun k=>zz (lM a b i k).c*φ (lM a b i k).m)):=by
 show kK φ (eX (eR a b (fR a b+1)) [])=_;rw[qR _ _ (oO h) eT,AL];unfold kK eR lW;rw[BM];have z:∀x:Fq,0+x=x:=by intro x;grind
 rw[z];refine dX (fun i _=>?_);rw[tW]
theorem xI (f:Nat→Fq):∀n,(∀i,0<i→f i=0)→su (List.range (n+1)) f=f 0
 |0,_=>by show f 0+0=f 0;grind
 |n+1,h=>by
  rw[List.range_succ,kM,xI f n h];show f 0+(f (n+1)+0)=f 0
  rw[h (n+1) (by omega)];grind
theorem JT {d x:Int} (d0:0≤d) (d1:d≤15) (x0:0≤x) (x1:x≤15):zz (wy d x 0)=1:=by
 have h:=SO (d:=d) (x:=x) (i:=0) d0 d1 x0 x1 (by omega) (by omega);have e:((0:Nat):Int)=0:=rfl
 rw[e]at h;rw[h];unfold wN;rw[vV];rfl
theorem PX {W:M→Int} (hW:Wt W) (φ:M→Fq) {a b:T} {m:M} (h:pY a b m) {n:Int} (hn:W a.m+W b.m≤n) (hφ:∀m,W m<n→φ m=0):kK φ (cM a b)=zz a.c*zz b.c*φ (a.m.sum b.m):=by
 obtain⟨ax0,ax1,ay0,ay1,ad0,ad1,ae0,ae1⟩:=M.ok_iff.1 h.ok1;obtain⟨bx0,bx1,by0,by1,bd0,bd1,be0,be1⟩:=M.ok_iff.1 h.ok2;have zr:∀x:Fq,x*0=0:=by intro x;grind
 have low:∀i k:Nat,0<i+k→φ (lM a b i k).m=0:=fun i k hik=>by
  have:=(hW a.m b.m i k).1;refine hφ _ ?_;show W ⟨a.m.x+b.m.x-i,a.m.y+b.m.y-k,a.m.d+b.m.d-i,a.m.e+b.m.e-k⟩<n
  omega
 rw[PW φ h,xI _ _ (fun i hi=>nT _ _ (fun k _=>by rw[low i k (by omega),zr])),xI _ _ (fun k hk=>by rw[low 0 k (by omega),zr])];have e:(lM a b 0 0).m=a.m.sum b.m:=by
  show(⟨a.m.x+b.m.x-((0:Nat):Int),a.m.y+b.m.y-((0:Nat):Int),a.m.d+b.m.d-((0:Nat):Int),a.m.e+b.m.e-((0:Nat):Int)⟩:M)=⟨a.m.x+b.m.x,a.m.y+b.m.y,a.m.d+b.m.d,a.m.e+b.m.e⟩
  simp
 rw[e];congr 1;show zz (a.c*b.c%101*wy a.m.d b.m.x ((0:Nat):Int)%101*wy a.m.e b.m.y ((0:Nat):Int)%101)=_
 have e0:((0:Nat):Int)=0:=rfl;rw[e0,jU,mD,jU,mD,jU,mD,JT ad0 ad1 bx0 bx1,JT ae0 ae1 by0 by1]
 grind
theorem YI {A B P:List T} (h:lF A B=(P,true)) {a b:T} (ha:a∈A) (hb:b∈B):pY a b (a.m.sum b.m):=by
 obtain⟨oA,oB⟩:=BZ h;have r1:=(aE oA).2.2 a ha
 have r2:=(aE oB).2.2 b hb;exact⟨r1.1,r2.1,(CA h).2 a ha b hb,rfl,rfl,rfl,rfl,⟨by omega,r1.2.2⟩,by omega,r2.2.2⟩
theorem YK {W:M→Int} (hW:Wt W) {A B P:List T} (h:lF A B=(P,true)) {n:Int} (hn:∀a∈A,∀b∈B,W a.m+W b.m≤n) (φ:M→Fq) (hφ:∀m,W m<n→φ m=0):kK φ P=su A (fun a=>su B (fun b=>zz a.c*zz b.c*φ (a.m.sum b.m))):=by rw[(CA h).1];refine dX (fun a ha=>dX (fun b hb=>?_));exact PX hW φ (YI h ha hb) (hn a ha b hb) hφ
def dl (m:M) (x:M):Fq:=if gB m x=true then 1 else 0
theorem OY {P:List T} (hP:aK P) {m:M} (hm:m.ok=true):kK (dl m) P=zz (aL P m):=by
 rw[nD _ hP];have e:su box (fun x=>zz (aL P x)*dl m x)=su box (fun x=>if gB m x=true then zz (aL P m)else 0):=by
  refine dX (fun x _=>?_);unfold dl;by_cases h:gB m x=true
  ·rw[if_pos h,if_pos h,dL.1 h];grind
  ·rw[if_neg h,if_neg h];grind
 rw[e,pU m _ box sV (zV hm)]
theorem yS {W:M→Int} (hW:Wt W) (hinj:∀a b:M,a.ok=true→b.ok=true→W a=W b→a=b) {A B P:List T} (h:lF A B=(P,true)) {a0 b0:T} (ha0:a0∈A) (hb0:b0∈B) (hA:∀a∈A,W a.m≤W a0.m) (hB:∀b∈B,W b.m≤W b0.m):(⟨a0.c*b0.c%101,a0.m.sum b0.m⟩:T)∈P∧∀t∈P,W t.m≤W (a0.m.sum b0.m):=by
 obtain⟨oA,oB⟩:=BZ h;have fA:=(aE oA).2
 have fB:=(aE oB).2;have fP:=mN h
 have ra:=fA.2 a0 ha0;have rb:=fB.2 b0 hb0
 have hs:=(CA h).2 a0 ha0 b0 hb0;have hsum:=(hW a0.m b0.m 0 0).2
 have key:∀m:M,m.ok=true→W (a0.m.sum b0.m)≤W m→zz (aL P m)=zz a0.c*zz b0.c*dl m (a0.m.sum b0.m):=fun m hm hle=>by
  rw[←OY fP hm,YK hW h (n:=W a0.m+W b0.m) (fun a ha b hb=>by have:=hA a ha;have:=hB b hb;omega) (dl m) (fun x hx=>by
   unfold dl;rw[if_neg];intro e;rw[dL.1 e]at hle
   omega)]
  have zr:∀x:Fq,x*0=0:=by intro x;grind
  have off:∀a∈A,∀b∈B,(a.m≠a0.m∨b.m≠b0.m)→dl m (a.m.sum b.m)=0:=fun a ha b hb hne=>by
   unfold dl;rw[if_neg];intro e;rw[dL.1 e,(hW a.m b.m 0 0).2]at hle;have h1:=hA a ha
   have h2:=hB b hb;rcases hne with hne|hne
   ·exact hne (hinj _ _ (fA.2 a ha).1 ra.1 (by omega))
   ·exact hne (hinj _ _ (fB.2 b hb).1 rb.1 (by omega))
  rw[sN fA ha0 (fun a ha hne=>nT _ _ (fun b hb=>by rw[off a ha b hb (.inl hne),zr])),sN fB hb0 (fun b hb hne=>by rw[off a0 ha0 b hb (.inr hne),zr])]
 have c0:aL P (a0.m.sum b0.m)=a0.c*b0.c%101:=by
  have h1:=key _ hs (Int.le_refl _);have e1:dl (a0.m.sum b0.m) (a0.m.sum b0.m)=1:=by unfold dl;rw[if_pos (dL.2 rfl)]
  rw[e1]at h1;have h2:zz (aL P (a0.m.sum b0.m))=zz (a0.c*b0.c%101):=by rw[h1,jU,mD];grind
  exact SN (bR fP _) ⟨by omega,by omega⟩ h2
 have cne:a0.c*b0.c%101≠0:=by
  have:=IC (a:=a0.c) (b:=b0.c) (by omega) (by omega) (by omega) (by omega)
  rwa[iD (by omega) ra.2.2 (by omega) rb.2.2]at this
 have mem:∀X:List T,∀m,aL X m≠0→∃s∈X,s.m=m∧s.c=aL X m:=fun X m=>by
  induction X with
  |nil=>intro h;exact absurd rfl h
  |cons s r ih=>
   intro h;rw[aL]at h⊢;by_cases e:gB s.m m=true
   ·exact⟨s,List.mem_cons_self ..,dL.1 e,by rw[if_pos e]⟩
   ·rw[if_neg e]at h⊢;obtain⟨x,hx,he⟩:=ih h;exact⟨x,List.mem_cons_of_mem _ hx,he⟩
 refine⟨?_,fun t ht=>?_⟩
 ·obtain⟨s,hs1,hs2,hs3⟩:=mem P (a0.m.sum b0.m) (by rw[c0];exact cne);have:s=⟨a0.c*b0.c%101,a0.m.sum b0.m⟩:=by cases s;simp only at hs2 hs3;rw[hs2,hs3,c0]
  rw[←this];exact hs1
 ·have rt:=fP.2 t ht;by_cases hle:W t.m≤W (a0.m.sum b0.m)
  ·exact hle
  ·exfalso;have h1:=key t.m rt.1 (by omega)
   have e1:dl t.m (a0.m.sum b0.m)=0:=by unfold dl;rw[if_neg];intro e;rw[dL.1 e]at hle;exact hle (Int.le_refl _)
   rw[e1]at h1;have ht2:aL P t.m=t.c:=by
    have hp:∀X:List T,aK X→t∈X→aL X t.m=t.c:=fun X hX hx=>by
     induction X with
     |nil=>cases hx
     |cons s r ih=>
      rw[aL];rcases List.mem_cons.1 hx with rfl|hx'
      ·rw[if_pos (dL.2 rfl)]
      ·have h1:=(List.pairwise_cons.1 hX.1).1 t hx';rw[if_neg (fun e=>by rw[dL.1 e]at h1;omega)];exact ih hX.tail hx'
    exact hp P fP ht
   rw[ht2]at h1;exact zL rt.2.1 rt.2.2 (by rw[h1];grind)
def iX (o:Int) (m:M):Int:=if o=1 then dY m else if o=3 then tS m else fK m
theorem AY {o:Int} {a b:M} (ho:1≤o∧o≤3) (ha:a.ok=true) (hb:b.ok=true):M.ord o a b=c3 (iX o a) (iX o b):=by
 obtain⟨h1,h2⟩:=ho;have h:o=1∨o=2∨o=3:=by omega
 rcases h with rfl|rfl|rfl
 ·rw[←xC ha hb];simp[iX]
 ·rw[←GF ha hb];simp[iX]
 ·rw[←GE ha hb];simp[iX]
theorem AZ (o:Int):Wt (iX o):=fun a b i k=>by
 unfold iX dY tS fK M.sum;split
 ·simp only;omega
 ·split
  ·simp only;omega
  ·simp only;omega
theorem NZ {a b c d:Int} (hb:0≤b∧b≤15) (hd:0≤d∧d≤15) (h:a*16+b=c*16+d):a=c∧b=d:=by omega
theorem WF {a b c d:Int} (hb:0≤b∧b≤65535) (hd:0≤d∧d≤65535) (h:a*65536+b=c*65536+d):b=d:=by omega
theorem JE {a:M} (ha:a.ok=true):0≤fK a∧fK a≤65535:=by obtain⟨x1,x2,y1,y2,d1,d2,e1,e2⟩:=M.ok_iff.1 ha;unfold fK;omega
theorem QT {a b:M} (ha:a.ok=true) (hb:b.ok=true) (h:fK a=fK b):a=b:=by
 obtain⟨x1,x2,y1,y2,d1,d2,e1,e2⟩:=M.ok_iff.1 ha;obtain⟨x3,x4,y3,y4,d3,d4,e3,e4⟩:=M.ok_iff.1 hb;unfold fK at h;have k1:=NZ ⟨y1,y2⟩ ⟨y3,y4⟩ h
 have k2:=NZ ⟨x1,x2⟩ ⟨x3,x4⟩ k1.1;have k3:=NZ ⟨e1,e2⟩ ⟨e3,e4⟩ k2.1
 have q1:=k1.2;have q2:=k2.2
 have q3:=k3.2;have q4:=k3.1
 revert q1 q2 q3 q4
 cases a;cases b;intro q1 q2 q3 q4;simp only at q1 q2 q3 q4;rw[q1,q2,q3,q4]
theorem pS {o:Int} (a b:M) (ha:a.ok=true) (hb:b.ok=true) (h:iX o a=iX o b):a=b:=by
 refine QT ha hb ?_;have ba:=JE ha
 have bb:=JE hb;unfold iX at h;split at h
 ·exact WF ba bb h
 ·split at h
  ·exact WF ba bb h
  ·exact h
theorem WV {a b:Int}:0<c3 a b↔b<a:=by unfold c3;split<;>(try split)<;>omega
theorem tL {o:Int} {f:Nat→T} {n:Nat} (ho:1≤o∧o≤3) (hm:∀i,i<n→(f i).m.ok=true):∀(u i k:Nat),i+u≤n→k<n→aV o f u i k<n∧iX o (f k).m≤iX o (f (aV o f u i k)).m∧∀j,i≤j→j<i+u→iX o (f j).m≤iX o (f (aV o f u i k)).m
 |0,i,k,_,hk=>⟨hk,Int.le_refl _,fun j h1 h2=>by omega⟩
 |u+1,i,k,hi,hk=>by
  have hc:=WV (a:=iX o (f i).m) (b:=iX o (f k).m);rw[←AY ho (hm i (by omega)) (hm k hk)]at hc;simp only[aV];split
  ·rename_i h;obtain⟨h1,h2,h3⟩:=tL ho hm u (i+1) i (by omega) (by omega);have h4:=hc.1 h
   refine⟨h1,by omega,fun j hj1 hj2=>?_⟩;by_cases hji:j=i
   ·rw[hji];exact h2
   ·exact h3 j (by omega) (by omega)
  ·rename_i h;obtain⟨h1,h2,h3⟩:=tL ho hm u (i+1) k (by omega) hk;have h4:¬iX o (f k).m<iX o (f i).m:=fun q=>h (hc.2 q)
   refine⟨h1,h2,fun j hj1 hj2=>?_⟩;by_cases hji:j=i
   ·rw[hji];omega
   ·exact h3 j (by omega) (by omega)
def qN (o:Int) (L:List T):T:=bO o L.length (lf L)
def AJ (o:Int) (L:List T):Bool:=bH o L.length (lf L)
theorem iV {o:Int} {L:List T}:AJ o L=true↔(1≤o∧o≤3)∧cT L=true∧L≠[]:=by
 unfold AJ bH;rw[Bool.and_eq_true,Bool.and_eq_true,decide_eq_true_eq,decide_eq_true_eq];constructor
 ·rintro⟨⟨h1,h2⟩,h3⟩;exact⟨h1,h2,fun e=>by rw[e]at h3;simp at h3⟩
 ·rintro⟨h1,h2,h3⟩;exact⟨⟨h1,h2⟩,List.length_pos_iff.2 h3⟩
theorem tJ {o:Int} {L:List T} (h:AJ o L=true):qN o L∈L∧∀t∈L,iX o t.m≤iX o (qN o L).m:=by
 obtain⟨ho,oL,hne⟩:=iV.1 h;have hpos:=List.length_pos_iff.2 hne
 have fl:=dE (show aN L.length (lf L)=true from oL);have e:qN o L=lf L (aX o (lf L) L.length):=eF h
 have hm:∀i,i<L.length→(lf L i).m.ok=true:=fun i hi=>(fl.2 i hi).1;have key:=tL (o:=o) (f:=lf L) (n:=L.length) ho hm (L.length-1) 1 0 (by omega) hpos
 have e2:aX o (lf L) L.length=aV o (lf L) (L.length-1) 1 0:=rfl;rw[e,e2];refine⟨?_,fun t ht=>?_⟩
 ·rw[iA key.1];exact List.getElem_mem _
 ·obtain⟨i,hi,rfl⟩:=List.mem_iff_getElem.1 ht;by_cases h0:i=0
  ·subst h0;have:=key.2.1
   rwa[iA hpos]at this
  ·have:=key.2.2 i (by omega) (by omega)
   rwa[iA hi]at this
theorem SH {B P:List T} (h:lF [] B=(P,true)):P=[]:=by have h1:=qI BK h;rw[lP,Lq.nil_mul]at h1;exact tN (mN h) h1
theorem SI {A P:List T} (h:lF A []=(P,true)):P=[]:=by have h1:=qI BK h;rw[lP,Lq.mul_nil]at h1;exact tN (mN h) h1
theorem OU (o:Int):AJ o []=false:=by
 cases h:AJ o []
 ·rfl
 ·exact absurd rfl (iV.1 h).2.2
theorem UK {o:Int} (ho:1≤o∧o≤3) {A B P:List T} (h:lF A B=(P,true)):AJ o P=(AJ o A&&AJ o B)∧(AJ o A=true→AJ o B=true→M.mul ⟨(qN o A).m.x,(qN o A).m.y,(qN o A).m.d,(qN o A).m.e⟩ ⟨(qN o B).m.x,(qN o B).m.y,(qN o B).m.d,(qN o B).m.e⟩=((qN o P).m,true)∧oQ (qN o A).c (qN o B).c=(qN o P).c):=by
 obtain⟨oA,oB⟩:=BZ h;cases hA:AJ o A
 ·have eA:A=[]:=by
   by_cases e:A=[]
   ·exact e
   ·rw[iV.2 ⟨ho,oA,e⟩]at hA;cases hA
  subst eA;rw[SH h,OU];exact⟨rfl,fun q=>by cases q⟩
 ·cases hB:AJ o B
  ·have eB:B=[]:=by
    by_cases e:B=[]
    ·exact e
    ·rw[iV.2 ⟨ho,oB,e⟩]at hB;cases hB
   subst eB;rw[SI h,OU];exact⟨rfl,fun _ q=>by cases q⟩
  ·obtain⟨a1,a2⟩:=tJ hA;obtain⟨b1,b2⟩:=tJ hB;have hp:=yS (AZ o) pS h a1 b1 a2 b2
   have hne:P≠[]:=fun e=>by rw[e]at hp;cases hp.1
   have hP:AJ o P=true:=iV.2 ⟨ho,xW h,hne⟩;refine⟨hP,fun _ _=>?_⟩;obtain⟨p1,p2⟩:=tJ hP;have fP:=mN h
   have r1:=fP.2 _ p1;have hs:=(CA h).2 _ a1 _ b1
   have l1:=hp.2 _ p1;have l2:=p2 _ hp.1
   dsimp only at l2;have em:(qN o P).m=(qN o A).m.sum (qN o B).m:=by refine pS (o:=o) _ _ r1.1 hs ?_;exact Int.le_antisymm l1 l2
   have ra:=(aE oA).2.2 _ a1;have rb:=(aE oB).2.2 _ b1
   have ec:(qN o P).c=(qN o A).c*(qN o B).c%101:=by
    have h1:∀X:List T,aK X→∀t∈X,∀s∈X,t.m=s.m→t=s:=fun X hX=>by
     induction X with
     |nil=>intro t ht;cases ht
     |cons z r ih=>
      intro t ht s hs e;have hp:=(List.pairwise_cons.1 hX.1).1
      rcases List.mem_cons.1 ht with rfl|ht'
      ·rcases List.mem_cons.1 hs with rfl|hs'
       ·rfl
       ·have:=hp s hs';rw[e]at this;omega
      ·rcases List.mem_cons.1 hs with rfl|hs'
       ·have:=hp t ht';rw[e]at this;omega
       ·exact ih hX.tail t ht' s hs' e
    rw[h1 P fP _ p1 _ hp.1 em]
   refine⟨?_,?_⟩
   ·rw[em];have e3:∀m:M,(⟨m.x,m.y,m.d,m.e⟩:M)=m:=fun m=>by cases m;rfl
    rw[e3,e3];unfold M.mul;simp[ra.1,rb.1,hs]
   ·rw[ec,iD (by omega) ra.2.2 (by omega) rb.2.2]
open Go.RowKit Go.Deep Go.Joins
end Go.Proofs.YtncffcaabnjioaaGreat
