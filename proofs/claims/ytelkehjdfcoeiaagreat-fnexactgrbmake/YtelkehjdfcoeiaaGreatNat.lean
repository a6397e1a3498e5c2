/-
  Linear maps of what is counted from two sides, over the field of 101 numbers; a slope goes past a power of its time.
-/
import Derived.Test.YtelkehjdfcoeiaaGreatNap
namespace Go.Proofs.YtelkehjdfcoeiaaGreat
set_option linter.unusedVariables false
abbrev Fq:=Fin 101
def zz (a:Int):Fq:=Fin.ofNat 101 (a%101).toNat
theorem jE (a:Int):zz (a%101)=zz a:=by unfold zz;rw[Int.emod_emod_of_dvd _ (Int.dvd_refl 101)]
theorem GT (a b:Int):zz (a+b)=zz a+zz b:=by unfold zz;apply Fin.ext;simp[Fin.val_add];omega
theorem SM {a b:Int} (ha:0≤a∧a≤100) (hb:0≤b∧b≤100) (h:zz a=zz b):a=b:=by unfold zz at h;have:=congrArg Fin.val h;simp at this;omega
theorem lR (a b:Int):zz (a*b)=zz a*zz b:=by
 unfold zz;apply Fin.ext;simp[Fin.val_mul];have h1:=Int.mul_emod a b 101
 have h2:((a%101).toNat:Int)=a%101:=by omega
 have h3:((b%101).toNat:Int)=b%101:=by omega
 have h4:(((a%101).toNat*(b%101).toNat%101:Nat):Int)=(a%101)*(b%101)%101:=by rw[Int.natCast_emod,Int.natCast_mul,h2,h3];rfl
 omega
theorem JZ:zz 0=0:=rfl
theorem WT {a:Int} (h1:1≤a) (h2:a≤100):zz a≠0:=fun h=>by
 have:=SM (a:=a) (b:=0) ⟨by omega,h2⟩ ⟨by omega,by omega⟩ h;omega
def su {α:Type}:List α→(α→Fq)→Fq
 |[],_=>0
 |t::r,f=>f t+su r f
theorem wI {α:Type} (f g:α→Fq):∀L:List α,su L (fun t=>f t+g t)=su L f+su L g
 |[]=>by simp[su]
 |t::r=>by rw[su,su,su,wI f g r];grind
theorem GQ {α:Type} (c:Fq) (f:α→Fq):∀L:List α,su L (fun t=>c*f t)=c*su L f
 |[]=>by show(0:Fq)=c*0;grind
 |t::r=>by rw[su,su,GQ c f r];grind
theorem nA {α:Type} (f:α→Fq):∀L:List α,(∀t∈L,f t=0)→su L f=0
 |[],_=>rfl
 |t::r,h=>by rw[su,nA f r (fun s hs=>h s (List.mem_cons_of_mem _ hs)),h t (List.mem_cons_self ..)];rfl
theorem dT {α:Type} {f g:α→Fq}:∀{L:List α},(∀t∈L,f t=g t)→su L f=su L g
 |[],_=>rfl
 |t::r,h=>by rw[su,su,dT (L:=r) (fun s hs=>h s (List.mem_cons_of_mem _ hs)),h t (List.mem_cons_self ..)]
theorem jX {α:Type} (f:α→Fq):∀L K:List α,su (L++K) f=su L f+su K f
 |[],K=>by simp[su]
 |t::r,K=>by rw[List.cons_append,su,su,jX f r K];grind
theorem tJ {α β:Type} (h:α→β) (f:β→Fq):∀L:List α,su (L.map h) f=su L (fun t=>f (h t))
 |[]=>rfl
 |t::r=>by rw[List.map_cons,su,su,tJ h f r]
theorem AV {α β:Type} (h:α→List β) (f:β→Fq):∀L:List α,su (L.flatMap h) f=su L (fun t=>su (h t) f)
 |[]=>rfl
 |t::r=>by rw[List.flatMap_cons,jX,su,AV h f r]
abbrev Vq:=Nat→Nat→Fq
def va (u v:Vq):Vq:=fun n k=>u n k+v n k
def vs (c:Fq) (u:Vq):Vq:=fun n k=>c*u n k
structure Lq where
 f:Vq→Vq
 add:∀u v,f (va u v)=va (f u) (f v)
 smul:∀c u,f (vs c u)=vs c (f u)
theorem Lq.ext {A B:Lq} (h:∀u n k,A.f u n k=B.f u n k):A=B:=by have:A.f=B.f:=funext fun u=>funext fun n=>funext fun k=>h u n k;cases A;cases B;cases this;rfl
def v0:Vq:=fun _ _=>0
theorem Lq.zero (A:Lq):A.f v0=v0:=by
 have h:=A.smul 0 v0;have e:vs 0 v0=v0:=by funext n k;simp[vs,v0]
 rw[e]at h;rw[h];funext n k;show 0*_=(0:Fq);grind
namespace Lq
def mul (A B:Lq):Lq:=⟨fun u=>B.f (A.f u),fun u v=>by rw[A.add,B.add],fun c u=>by rw[A.smul,B.smul]⟩
def sum (A B:Lq):Lq:=⟨fun u=>va (A.f u) (B.f u),fun u v=>by rw[A.add,B.add];funext n k;simp only[va];grind,fun c u=>by rw[A.smul,B.smul];funext n k;simp only[va,vs];grind⟩
def sc (c:Fq) (A:Lq):Lq:=⟨fun u=>vs c (A.f u),fun u v=>by rw[A.add];funext n k;simp only[va,vs];grind,fun d u=>by rw[A.smul];funext n k;simp only[vs];grind⟩
def one:Lq:=⟨fun u=>u,fun _ _=>rfl,fun _ _=>rfl⟩
def nil:Lq:=⟨fun _=>v0,fun u v=>by funext n k;simp[va,v0],fun c u=>by funext n k;show(0:Fq)=c*0;grind⟩
def pow (A:Lq):Nat→Lq
 |0=>one
 |n+1=>mul (pow A n) A
theorem mul_assoc (A B C:Lq):mul (mul A B) C=mul A (mul B C):=rfl
theorem one_mul (A:Lq):mul one A=A:=rfl
theorem mul_one (A:Lq):mul A one=A:=rfl
theorem sum_mul (A B C:Lq):mul (sum A B) C=sum (mul A C) (mul B C):=Lq.ext fun u n k=>by show C.f (va _ _) n k=_;rw[C.add];rfl
theorem mul_sum (A B C:Lq):mul C (sum A B)=sum (mul C A) (mul C B):=rfl
theorem sc_mul (c:Fq) (A B:Lq):mul (sc c A) B=sc c (mul A B):=Lq.ext fun u n k=>by show B.f (vs _ _) n k=_;rw[B.smul];rfl
theorem mul_sc (c:Fq) (A B:Lq):mul A (sc c B)=sc c (mul A B):=rfl
theorem sc_sc (c d:Fq) (A:Lq):sc c (sc d A)=sc (c*d) A:=Lq.ext fun u n k=>by show c*(d*_)=c*d*_;grind
theorem sc_one (A:Lq):sc 1 A=A:=Lq.ext fun u n k=>by show 1*_=_;grind
theorem sc_zero (A:Lq):sc 0 A=nil:=Lq.ext fun u n k=>by show 0*_=(0:Fq);grind
theorem sc_sum (c:Fq) (A B:Lq):sc c (sum A B)=sum (sc c A) (sc c B):=Lq.ext fun u n k=>by show c*(_+_)=c*_+c*_;grind
theorem sc_add (c d:Fq) (A:Lq):sc (c+d) A=sum (sc c A) (sc d A):=Lq.ext fun u n k=>by show(c+d)*_=c*_+d*_;grind
theorem sum_comm (A B:Lq):sum A B=sum B A:=Lq.ext fun u n k=>by show _+_=_+_;grind
theorem sum_assoc (A B C:Lq):sum (sum A B) C=sum A (sum B C):=Lq.ext fun u n k=>by show _+_+_=_+(_+_);grind
theorem sum_nil (A:Lq):sum A nil=A:=Lq.ext fun u n k=>by show _+(0:Fq)=_;grind
theorem nil_mul (A:Lq):mul nil A=nil:=Lq.ext fun u n k=>by show A.f v0 n k=_;rw[A.zero];rfl
theorem mul_nil (A:Lq):mul A nil=nil:=rfl
theorem pow_succ' (A:Lq):∀n,pow A (n+1)=mul A (pow A n)
 |0=>rfl
 |n+1=>by show mul (pow A (n+1)) A=mul A (mul (pow A n) A);rw[pow_succ' A n,mul_assoc]
theorem pow_add (A:Lq) (n:Nat):∀m,pow A (n+m)=mul (pow A n) (pow A m)
 |0=>rfl
 |m+1=>by rw[←Nat.add_assoc,pow,pow_add A n m,pow,mul_assoc]
def Com (A B:Lq):Prop:=mul A B=mul B A
theorem Com.symm {A B:Lq} (h:Com A B):Com B A:=Eq.symm h
theorem Com.one (A:Lq):Com A Lq.one:=rfl
theorem Com.mul {A B C:Lq} (h1:Com A B) (h2:Com A C):Com A (Lq.mul B C):=by unfold Com at *;rw[←mul_assoc,h1,mul_assoc,h2,mul_assoc]
theorem Com.pow {A B:Lq} (h:Com A B):∀n,Com A (Lq.pow B n)
 |0=>Com.one A
 |n+1=>(h.pow n).mul h
theorem Com.pows {A B:Lq} (h:Com A B) (m n:Nat):Com (Lq.pow A m) (Lq.pow B n):=((h.pow n).symm.pow m).symm
def sumN (f:Nat→Lq):Nat→Lq
 |0=>nil
 |n+1=>sum (sumN f n) (f n)
theorem sumN_sum (f g:Nat→Lq):∀n,sumN (fun i=>sum (f i) (g i)) n=sum (sumN f n) (sumN g n)
 |0=>(sum_nil nil).symm
 |n+1=>by rw[sumN,sumN,sumN,sumN_sum f g n];exact Lq.ext fun u n k=>by show _+_+(_+_)=_+_+(_+_);grind
theorem mul_sumN (A:Lq) (f:Nat→Lq):∀n,mul A (sumN f n)=sumN (fun i=>mul A (f i)) n
 |0=>rfl
 |n+1=>by rw[sumN,mul_sum,mul_sumN A f n];rfl
theorem sumN_congr {f g:Nat→Lq}:∀{n},(∀i,i<n→f i=g i)→sumN f n=sumN g n
 |0,_=>rfl
 |n+1,h=>by rw[sumN,sumN,sumN_congr (n:=n) (fun i hi=>h i (by omega)),h n (by omega)]
theorem sumN_head (f:Nat→Lq):∀n,sumN f (n+1)=sum (f 0) (sumN (fun i=>f (i+1)) n)
 |0=>by rw[sumN,sumN,sumN,sum_comm]
 |n+1=>by rw[sumN,sumN_head f n,sumN,sum_assoc]
theorem sumN_cut {f:Nat→Lq} {m n:Nat} (h:m≤n) (h0:∀i,m≤i→f i=nil):sumN f n=sumN f m:=by
 induction n with
 |zero=>rw[show m=0 by omega]
 |succ n ih=>
  by_cases e:m=n+1
  ·rw[e]
  ·rw[sumN,h0 n (by omega),sum_nil,ih (by omega)]
end Lq
def WH:Nat→Nat→Nat
 |_,0=>1
 |0,_+1=>0
 |n+1,k+1=>WH n (k+1)+WH n k
def IE (c:Nat):Nat→Nat
 |0=>1
 |i+1=>IE c i*(c-i)
theorem qP:∀n k,n<k→WH n k=0
 |0,k+1,_=>by rw[WH]
 |n+1,k+1,h=>by rw[WH,qP n (k+1) (by omega),qP n k (by omega)]
theorem uX (n:Nat):WH n 0=1:=by cases n<;>rfl
theorem qZ (c:Nat):∀i,c<i→IE c i=0
 |i+1,h=>by
  rw[IE];by_cases e:c=i
  ·rw[e];simp
  ·rw[qZ c i (by omega)];simp
def nf (n:Nat):Fq:=Fin.ofNat 101 n
theorem sU (a b:Nat):nf (a+b)=nf a+nf b:=by unfold nf;apply Fin.ext;simp[Fin.val_add]
theorem FZ (a b:Nat):nf (a*b)=nf a*nf b:=by unfold nf;apply Fin.ext;simp[Fin.val_mul]
theorem mT:nf 1=1:=rfl
theorem gP:nf 0=0:=rfl
def ZL (x d:Lq):Prop:=Lq.mul d x=Lq.sum (Lq.mul x d) Lq.one
theorem JW {x d:Lq} (h:ZL x d):∀c,Lq.mul d (Lq.pow x c)=Lq.sum (Lq.mul (Lq.pow x c) d) (Lq.sc (nf c) (Lq.pow x (c-1)))
 |0=>by rw[gP,Lq.sc_zero,Lq.sum_nil];rfl
 |c+1=>by
  rw[Lq.pow,←Lq.mul_assoc,JW h c,Lq.sum_mul,Lq.mul_assoc,h,Lq.mul_sum,Lq.mul_one,Lq.sc_mul,←Lq.mul_assoc,Lq.sum_assoc,sU,Lq.sc_add,mT,Lq.sc_one];congr 1;show Lq.sum (Lq.pow x c) _=Lq.sum _ (Lq.pow x (c+1-1))
  rw[Lq.sum_comm];congr 1;cases c with
  |zero=>rw[gP,Lq.sc_zero,Lq.sc_zero]
  |succ c=>rfl
def wN (b c i:Nat):Nat:=WH b i*IE c i
theorem yV {x d:Lq} (h:ZL x d) (c:Nat):∀b,Lq.mul (Lq.pow d b) (Lq.pow x c)=Lq.sumN (fun i=>Lq.sc (nf (wN b c i)) (Lq.mul (Lq.pow x (c-i)) (Lq.pow d (b-i)))) (b+1)
 |0=>by
  show Lq.pow x c=Lq.sum Lq.nil (Lq.sc (nf (wN 0 c 0)) (Lq.mul (Lq.pow x (c-0)) Lq.one));rw[Lq.sum_comm,Lq.sum_nil];show _=Lq.sc (nf 1) _
  rw[mT,Lq.sc_one];rfl
 |b+1=>by
  rw[Lq.pow_succ',Lq.mul_assoc,yV h c b,Lq.mul_sumN];have e1:Lq.sumN (fun i=>Lq.mul d (Lq.sc (nf (wN b c i)) (Lq.mul (Lq.pow x (c-i)) (Lq.pow d (b-i))))) (b+1)=Lq.sumN (fun i=>Lq.sum (Lq.sc (nf (wN b c i)) (Lq.mul (Lq.pow x (c-i)) (Lq.pow d (b+1-i)))) (Lq.sc (nf (wN b c i*(c-i))) (Lq.mul (Lq.pow x (c-(i+1))) (Lq.pow d (b-i))))) (b+1):=by refine Lq.sumN_congr (fun i hi=>?_);rw[Lq.mul_sc,←Lq.mul_assoc,JW h,Lq.sum_mul,Lq.sc_sum,Lq.mul_assoc,←Lq.pow_succ',Lq.sc_mul,Lq.sc_sc,FZ,show b-i+1=b+1-i by omega,show c-i-1=c-(i+1) by omega]
  rw[e1,Lq.sumN_sum];rw[Lq.sumN_head (fun i=>Lq.sc (nf (wN (b+1) c i)) (Lq.mul (Lq.pow x (c-i)) (Lq.pow d (b+1-i))))];have e2:Lq.sumN (fun i=>Lq.sc (nf (wN (b+1) c (i+1))) (Lq.mul (Lq.pow x (c-(i+1))) (Lq.pow d (b+1-(i+1))))) (b+1)=Lq.sum (Lq.sumN (fun i=>Lq.sc (nf (wN b c (i+1))) (Lq.mul (Lq.pow x (c-(i+1))) (Lq.pow d (b+1-(i+1))))) (b+1)) (Lq.sumN (fun i=>Lq.sc (nf (wN b c i*(c-i))) (Lq.mul (Lq.pow x (c-(i+1))) (Lq.pow d (b-i)))) (b+1)):=by
   rw[←Lq.sumN_sum];refine Lq.sumN_congr (fun i hi=>?_);have:wN (b+1) c (i+1)=wN b c (i+1)+wN b c i*(c-i):=by unfold wN;rw[WH,IE,Nat.add_mul,Nat.mul_assoc]
   rw[this,sU,Lq.sc_add,show b+1-(i+1)=b-i by omega]
  rw[e2,←Lq.sum_assoc];congr 1;rw[show wN (b+1) c 0=wN b c 0 by simp[wN,uX],←Lq.sumN_head (fun i=>Lq.sc (nf (wN b c i)) (Lq.mul (Lq.pow x (c-i)) (Lq.pow d (b+1-i)))),Lq.sumN.eq_2 _ (b+1)];have:wN b c (b+1)=0:=by unfold wN;rw[qP b (b+1) (by omega),Nat.zero_mul]
  rw[this,gP,Lq.sc_zero,Lq.sum_nil]
open Go.RowKit
set_option linter.unusedVariables false
def XB (n:Nat):M:=⟨((n / 4096:Nat):Int),((n / 256%16:Nat):Int),((n / 16%16:Nat):Int),((n%16:Nat):Int)⟩
def box:List M:=(List.range 65536).map XB
theorem zH {m:M} (h:m.ok=true):m∈box:=by obtain⟨x1,x2,y1,y2,d1,d2,e1,e2⟩:=M.ok_iff.1 h;refine List.mem_map.2 ⟨m.x.toNat*4096+m.y.toNat*256+m.d.toNat*16+m.e.toNat,List.mem_range.2 (by omega),?_⟩;cases m;simp only[XB,M.mk.injEq]at *;refine⟨by omega,by omega,by omega,by omega⟩
theorem sK:box.Nodup:=by unfold box;rw[List.Nodup,List.pairwise_map];refine(List.nodup_range (n:=65536)).imp (fun{a b} hab e=>hab ?_);simp only[XB,M.mk.injEq]at e;omega
theorem dG {a b:M}:fZ a b=true↔a=b:=by cases a;cases b;simp[fZ]
theorem pB (m:M) (v:Fq):∀S:List M,S.Nodup→m∈S→su S (fun x=>if fZ m x=true then v else 0)=v
 |[],_,h=>by cases h
 |t::r,hn,h=>by
  rw[List.nodup_cons]at hn;rw[su];by_cases e:fZ m t=true
  ·rw[if_pos e,nA _ r (fun s hs=>if_neg (fun e2=>hn.1 (by rw[←dG.1 e,dG.1 e2];exact hs)))]
   grind
  ·rw[if_neg e,pB m v r hn.2 (by
    rcases List.mem_cons.1 h with h|h
    ·exact absurd (dG.2 h) e
    ·exact h)]
   grind
def lA (φ:M→Fq) (L:List T):Fq:=su L (fun t=>zz t.c*φ t.m)
theorem zV (φ:M→Fq):lA φ []=0:=rfl
theorem mR (φ:M→Fq):∀{L:List T},aH L→lA φ L=su box (fun m=>zz (aI L m)*φ m)
 |[],_=>by
  rw[zV,nA];intro t _;show zz 0*φ t=0
  rw[JZ];grind
 |t::r,h=>by
  have hr:=mR φ h.tail;have ht:=h.2 t (List.mem_cons_self ..)
  have h0:aI r t.m=0:=jS (List.pairwise_cons.1 h.1).1;have e:su box (fun m=>zz (aI (t::r) m)*φ m)=su box (fun m=>(if fZ t.m m=true then zz t.c*φ t.m else 0)+zz (aI r m)*φ m):=by
   refine dT (fun m _=>?_);rw[aI];by_cases e:fZ t.m m=true
   ·rw[if_pos e,if_pos e,←dG.1 e,h0,JZ];grind
   ·rw[if_neg e,if_neg e];grind
  rw[e,wI,pB t.m _ box sK (zH ht.1),←hr];rfl
theorem IL (φ:M→Fq) {L K:List T} (hL:aH L) (hK:aH K):lA φ (cG L K)=lA φ L+lA φ K:=by have h:=cM hL hK;rw[mR φ h.1,mR φ hL,mR φ hK,←wI];refine dT (fun m _=>?_);rw[h.2,jE,GT];grind
theorem XW (φ:M→Fq) (c:Int) (L:List T):lA φ (jA c L)=zz c*lA φ L:=by
 unfold lA;rw[mZ,tJ,←GQ];refine dT (fun t _=>?_);show zz (c*t.c%101)*φ t.m=_
 rw[jE,lR];grind
theorem UK (φ:M→Fq) {L:List T} (hL:aH L) {c:Int} {m:M} (hm:m.ok=true) (c0:0≤c) (c1:c≤100):lA φ (lO c m L)=lA φ L+zz c*φ m:=by
 have h:=qD hL hm c0 c1;have e:su box (fun x=>zz (aI (lO c m L) x)*φ x)=su box (fun x=>(if fZ m x=true then zz c*φ m else 0)+zz (aI L x)*φ x):=by
  refine dT (fun x _=>?_);rw[h.2,kM];by_cases e:x=m
  ·rw[if_pos (dS.2 e),if_pos (dG.2 e.symm),jE,GT,e];grind
  ·rw[if_neg (fun q=>e (dS.1 q)),if_neg (fun q=>e (dG.1 q).symm)];grind
 rw[mR φ h.1,e,wI,pB m _ box sK (zH hm),mR φ hL]
 grind
theorem pW (φ:M→Fq):∀(xs:List T) {L:List T},ZK xs→aH L→lA φ (eN xs L)=lA φ L+lA φ xs
 |[],L,_,hL=>by show lA φ L=lA φ L+0;grind
 |t::r,L,hx,hL=>by
  have h1:=hx t (List.mem_cons_self ..);show lA φ (eN r (lO t.c t.m L))=_
  rw[pW φ r (fun s hs=>hx s (List.mem_cons_of_mem _ hs)) (qD hL h1.1 h1.2.1 h1.2.2).1,UK φ hL h1.1 h1.2.1 h1.2.2];show _=lA φ L+(zz t.c*φ t.m+lA φ r)
  grind
theorem UL (φ ψ:M→Fq) (L:List T):lA (fun m=>φ m+ψ m) L=lA φ L+lA ψ L:=by unfold lA;rw[←wI];exact dT (fun t _=>by grind)
theorem UJ (c:Fq) (φ:M→Fq) (L:List T):lA (fun m=>c*φ m) L=c*lA φ L:=by unfold lA;rw[←GQ];exact dT (fun t _=>by grind)
structure sF where
 x:Lq
 y:Lq
 d:Lq
 e:Lq
 wx:ZL x d
 wy:ZL y e
 xy:Lq.Com x y
 xe:Lq.Com x e
 dy:Lq.Com d y
 de:Lq.Com d e
def mo (g:sF) (m:M):Lq:=Lq.mul (Lq.mul (Lq.pow g.x m.x.toNat) (Lq.pow g.y m.y.toNat)) (Lq.mul (Lq.pow g.d m.d.toNat) (Lq.pow g.e m.e.toNat))
def Rp (g:sF) (L:List T):Lq:=⟨fun u n k=>lA (fun m=>(mo g m).f u n k) L,fun u v=>by
 funext n k;show lA (fun m=>(mo g m).f (va u v) n k) L=_
 rw[show(fun m=>(mo g m).f (va u v) n k)=(fun m=>(mo g m).f u n k+(mo g m).f v n k)from funext fun m=>by rw[(mo g m).add];rfl,UL];rfl,fun c u=>by
 funext n k;show lA (fun m=>(mo g m).f (vs c u) n k) L=_
 rw[show(fun m=>(mo g m).f (vs c u) n k)=(fun m=>c*(mo g m).f u n k)from funext fun m=>by rw[(mo g m).smul];rfl,UJ]
 rfl⟩
theorem nK (g:sF):Rp g []=Lq.nil:=rfl
theorem sI (g:sF) {L K:List T} (hL:aH L) (hK:aH K):Rp g (cG L K)=Lq.sum (Rp g L) (Rp g K):=Lq.ext fun u n k=>IL (fun m=>(mo g m).f u n k) hL hK
theorem BR (g:sF) (c:Int) (L:List T):Rp g (jA c L)=Lq.sc (zz c) (Rp g L):=Lq.ext fun u n k=>XW (fun m=>(mo g m).f u n k) c L
theorem uS (g:sF) {L K:List T} (hL:aH L) (hK:aH K):Rp g (bY L K)=Lq.sum (Rp g L) (Lq.sc (zz 100) (Rp g K)):=by unfold bY;rw[sI g hL (fM (by omega) (by omega) hK),BR]
theorem uR (g:sF) (t:T):Rp g [t]=Lq.sc (zz t.c) (mo g t.m):=Lq.ext fun u n k=>by
 show zz t.c*_+0=zz t.c*_
 grind
theorem AY (f:Nat→Lq) (u:Vq) (p q:Nat):∀n,(Lq.sumN f n).f u p q=su (List.range n) (fun i=>(f i).f u p q)
 |0=>rfl
 |n+1=>by
  rw[List.range_succ,jX,←AY f u p q n];show _+_=_+(_+0)
  grind
theorem YY {b c i:Nat} (h:min b c<i):wN b c i=0:=by
 unfold wN;by_cases hb:b<i
 ·rw[qP b i hb,Nat.zero_mul]
 ·rw[qZ c i (by omega),Nat.mul_zero]
theorem oT {x d:Lq} (h:ZL x d) (b c:Nat):Lq.mul (Lq.pow d b) (Lq.pow x c)=Lq.sumN (fun i=>Lq.sc (nf (wN b c i)) (Lq.mul (Lq.pow x (c-i)) (Lq.pow d (b-i)))) (min b c+1):=by rw[yV h];refine Lq.sumN_cut (by omega) (fun i hi=>?_);rw[YY (by omega),gP,Lq.sc_zero]
theorem Dd:∀D X i:Fin 16,i.val≤D.val→i.val≤X.val→zz (wy (D.val:Int) (X.val:Int) (i.val:Int))=nf (wN D.val X.val i.val):=by decide+kernel
theorem SN {d x:Int} {i:Nat} (d0:0≤d) (d1:d≤15) (x0:0≤x) (x1:x≤15) (hi:(i:Int)≤d) (hx:(i:Int)≤x):zz (wy d x i)=nf (wN d.toNat x.toNat i):=by have h:=Dd ⟨d.toNat,by omega⟩ ⟨x.toNat,by omega⟩ ⟨i,by omega⟩ (by show i≤d.toNat;omega) (by show i≤x.toNat;omega);simp only[Int.toNat_of_nonneg d0,Int.toNat_of_nonneg x0]at h;exact h
theorem iT (B:Lq) (f:Nat→Lq):∀n,Lq.mul (Lq.sumN f n) B=Lq.sumN (fun i=>Lq.mul (f i) B) n
 |0=>Lq.nil_mul B
 |n+1=>by rw[Lq.sumN,Lq.sum_mul,iT B f n];rfl
theorem iI (c:Fq) (f:Nat→Lq):∀n,Lq.sc c (Lq.sumN f n)=Lq.sumN (fun i=>Lq.sc c (f i)) n
 |0=>Lq.ext fun u n k=>by show c*(0:Fq)=0;grind
 |n+1=>by rw[Lq.sumN,Lq.sc_sum,iI c f n];rfl
theorem JN {xa ya x' d' y' e' db eb:Lq} (h1:Lq.Com ya x') (h2:Lq.Com d' y') (h3:Lq.Com e' db):Lq.mul (Lq.mul xa ya) (Lq.mul (Lq.mul x' d') (Lq.mul (Lq.mul y' e') (Lq.mul db eb)))=Lq.mul (Lq.mul (Lq.mul xa x') (Lq.mul ya y')) (Lq.mul (Lq.mul d' db) (Lq.mul e' eb)):=
 calc _=Lq.mul xa (Lq.mul (Lq.mul ya x') (Lq.mul (Lq.mul d' y') (Lq.mul (Lq.mul e' db) eb))):=rfl
  _=Lq.mul xa (Lq.mul (Lq.mul x' ya) (Lq.mul (Lq.mul y' d') (Lq.mul (Lq.mul db e') eb))):=by rw[h1,h2,h3]
  _=_:=rfl
theorem YB (g:sF) (a b:T) (ha:a.m.ok=true) (hb:b.m.ok=true):Lq.mul (mo g a.m) (mo g b.m)=Lq.sumN (fun i=>Lq.sumN (fun k=>Lq.sc (nf (wN a.m.d.toNat b.m.x.toNat i)*nf (wN a.m.e.toNat b.m.y.toNat k)) (mo g (lD a b i k).m)) (gK a b+1)) (fI a b+1):=by
 obtain⟨ax0,ax1,ay0,ay1,ad0,ad1,ae0,ae1⟩:=M.ok_iff.1 ha;obtain⟨bx0,bx1,by0,by1,bd0,bd1,be0,be1⟩:=M.ok_iff.1 hb;have e1:Lq.mul (mo g a.m) (mo g b.m)=Lq.mul (Lq.mul (Lq.pow g.x a.m.x.toNat) (Lq.pow g.y a.m.y.toNat)) (Lq.mul (Lq.mul (Lq.pow g.d a.m.d.toNat) (Lq.pow g.x b.m.x.toNat)) (Lq.mul (Lq.mul (Lq.pow g.e a.m.e.toNat) (Lq.pow g.y b.m.y.toNat)) (Lq.mul (Lq.pow g.d b.m.d.toNat) (Lq.pow g.e b.m.e.toNat)))):=by
  have h:=g.xe.symm.pows a.m.e.toNat b.m.x.toNat
  calc _=Lq.mul (Lq.mul (Lq.pow g.x a.m.x.toNat) (Lq.pow g.y a.m.y.toNat)) (Lq.mul (Lq.pow g.d a.m.d.toNat) (Lq.mul (Lq.mul (Lq.pow g.e a.m.e.toNat) (Lq.pow g.x b.m.x.toNat)) (Lq.mul (Lq.pow g.y b.m.y.toNat) (Lq.mul (Lq.pow g.d b.m.d.toNat) (Lq.pow g.e b.m.e.toNat))))):=rfl
   _=Lq.mul (Lq.mul (Lq.pow g.x a.m.x.toNat) (Lq.pow g.y a.m.y.toNat)) (Lq.mul (Lq.pow g.d a.m.d.toNat) (Lq.mul (Lq.mul (Lq.pow g.x b.m.x.toNat) (Lq.pow g.e a.m.e.toNat)) (Lq.mul (Lq.pow g.y b.m.y.toNat) (Lq.mul (Lq.pow g.d b.m.d.toNat) (Lq.pow g.e b.m.e.toNat))))):=by rw[h]
   _=_:=rfl
 have lx:fI a b=min a.m.d.toNat b.m.x.toNat:=by unfold fI;omega
 have ly:gK a b=min a.m.e.toNat b.m.y.toNat:=by unfold gK;omega
 rw[e1,oT g.wx,oT g.wy,iT,Lq.mul_sumN,lx,ly];refine Lq.sumN_congr (fun i hi=>?_);rw[Lq.sc_mul,Lq.mul_sc,iT,Lq.mul_sumN,Lq.mul_sumN,iI];refine Lq.sumN_congr (fun k hk=>?_);rw[Lq.sc_mul,Lq.mul_sc,Lq.mul_sc,Lq.sc_sc,JN (g.xy.symm.pows _ _) (g.dy.pows _ _) (g.de.symm.pows _ _),←Lq.pow_add,←Lq.pow_add,←Lq.pow_add,←Lq.pow_add];unfold mo lD;simp only;rw[show a.m.x.toNat+(b.m.x.toNat-i)=(a.m.x+b.m.x-(i:Int)).toNat by omega,show a.m.y.toNat+(b.m.y.toNat-k)=(a.m.y+b.m.y-(k:Int)).toNat by omega,show a.m.d.toNat-i+b.m.d.toNat=(a.m.d+b.m.d-(i:Int)).toNat by omega,show a.m.e.toNat-k+b.m.e.toNat=(a.m.e+b.m.e-(k:Int)).toNat by omega]
theorem zC (g:sF) {a b:T} {m:M} (h:pL a b m):Rp g (cF a b)=Lq.sc (zz a.c*zz b.c) (Lq.mul (mo g a.m) (mo g b.m)):=by
 obtain⟨ax0,ax1,ay0,ay1,ad0,ad1,ae0,ae1⟩:=M.ok_iff.1 h.ok1;obtain⟨bx0,bx1,by0,by1,bd0,bd1,be0,be1⟩:=M.ok_iff.1 h.ok2;rw[YB g a b h.ok1 h.ok2,iI];refine Lq.ext fun u p q=>?_;show lA (fun m=>(mo g m).f u p q) (eN (eF a b (fI a b+1)) [])=_
 rw[pW _ _ (nR h) dL,zV,AY];unfold lA eF lP;rw[AV];have z:∀x:Fq,0+x=x:=by intro x;grind
 rw[z];refine dT (fun i hi=>?_);rw[List.mem_range]at hi;rw[tJ,iI,AY];refine dT (fun k hk=>?_);rw[List.mem_range]at hk;have hx:fI a b=min a.m.d.toNat b.m.x.toNat:=by unfold fI;omega
 have hy:gK a b=min a.m.e.toNat b.m.y.toNat:=by unfold gK;omega
 show zz (lD a b i k).c*_=zz a.c*zz b.c*(nf _*nf _*_);have hc:zz (lD a b i k).c=zz a.c*zz b.c*nf (wN a.m.d.toNat b.m.x.toNat i)*nf (wN a.m.e.toNat b.m.y.toNat k):=by show zz (a.c*b.c%101*wy a.m.d b.m.x i%101*wy a.m.e b.m.y k%101)=_;rw[jE,lR,jE,lR,jE,lR,SN ad0 ad1 bx0 bx1 (by omega) (by omega),SN ae0 ae1 by0 by1 (by omega) (by omega)]
 rw[hc]
 grind
def Rn (g:sF) (f:Nat→T) (n:Nat):Lq:=Lq.sumN (fun i=>Lq.sc (zz (f i).c) (mo g (f i).m)) n
theorem uJ (g:sF) (L:List T):Rp g L=Rn g (lf L) L.length:=by
 refine Lq.ext fun u p q=>?_;unfold Rn;rw[AY];show su L _=_
 have e:L=(List.range L.length).map (lf L):=by refine List.ext_getElem (by simp) (fun i h1 h2=>?_);rw[List.getElem_map,List.getElem_range,iH h1]
 have key:∀(f:T→Fq),su L f=su (List.range L.length) (fun i=>f (lf L i)):=fun f=>by have:=tJ (lf L) f (List.range L.length);rw[←e]at this;exact this
 rw[key];rfl
theorem JJ (g:sF) {K:List T} {a:T} {f:Nat→T} {lb:Nat} (hK:aH K) (ha:a.m.ok=true∧0≤a.c∧a.c≤100) (hg:mH f lb):∀k K',k≤lb→eO K a f k=some K'→Rp g K'=Lq.sum (Rp g K) (Lq.mul (Lq.sc (zz a.c) (mo g a.m)) (Rn g f k))
 |0,K',_,h=>by cases h;unfold Rn;rw[Lq.sumN,Lq.mul_nil,Lq.sum_nil]
 |k+1,K',hk,h=>by
  rw[eO]at h;cases hr:eO K a f k with
  |none=>rw[hr]at h;cases h
  |some K1=>
   rw[hr]at h;change fC K1 a (f k)=some K' at h;have h1:=JJ g hK ha hg k K1 (by omega) hr
   have hf1:=iY hK ha hg k K1 (by omega) hr;unfold fC at h;split at h
   ·rename_i hok;cases h;have h2:=hg k (by omega)
    have tw:pL a (f k) (a.m.sum (f k).m):=⟨ha.1,h2.1,hok.1,rfl,rfl,rfl,rfl,ha.2,h2.2⟩
    rw[sI g hf1 (eX tw).1,h1,zC g tw];unfold Rn;rw[Lq.sumN,Lq.mul_sum,Lq.sum_assoc,Lq.mul_sc,Lq.sc_mul,Lq.sc_mul,Lq.sc_sc,show zz (f k).c*zz a.c=zz a.c*zz (f k).c by grind]
   ·cases h
theorem IU (g:sF) {f f':Nat→T} {la lb:Nat} (hf:mH f la) (hg:mH f' lb):∀i K,i≤la→bN f f' lb i=some K→Rp g K=Lq.mul (Rn g f i) (Rn g f' lb)
 |0,K,_,h=>by cases h;unfold Rn;rw[Lq.sumN,Lq.nil_mul];rfl
 |i+1,K,hi,h=>by
  rw[bN]at h;cases hr:bN f f' lb i with
  |none=>rw[hr]at h;cases h
  |some K1=>
   rw[hr]at h;have h1:=IU g hf hg i K1 (by omega) hr
   rw[JJ g (cE hf hg i K1 (by omega) hr) (hf i (by omega)) hg lb K (Nat.le_refl _) h,h1];unfold Rn;rw[Lq.sumN.eq_2,Lq.sum_mul]
theorem sJ (g:sF) {A B P:List T} (h:kO A B=(P,true)):Rp g P=Lq.mul (Rp g A) (Rp g B):=by
 unfold kO aZ at h;split at h
 ·rename_i hok;obtain⟨l1,g1⟩:=bL hok.1;obtain⟨l2,g2⟩:=bL hok.2;cases hm:bN (lf A) (lf B) B.length A.length with
  |none=>rw[hm]at h;simp[iN]at h
  |some K=>
   rw[hm]at h;have:K=P:=by simpa[iN]using h
   rw[←this,uJ,uJ g B];rw[uJ];rw[←uJ g K];exact IU g g1 g2 _ K (Nat.le_refl _) hm
 ·simp at h
def tX:Lq:=⟨fun u n k=>u (n+1) k,fun _ _=>rfl,fun _ _=>rfl⟩
def tY:Lq:=⟨fun u n k=>u n (k+1),fun _ _=>rfl,fun _ _=>rfl⟩
def sX:Lq:=⟨fun u n k=>nf n*u (n-1) k,fun u v=>by funext n k;simp only[va];grind,fun c u=>by funext n k;simp only[vs];grind⟩
def sY:Lq:=⟨fun u n k=>nf k*u n (k-1),fun u v=>by funext n k;simp only[va];grind,fun c u=>by funext n k;simp only[vs];grind⟩
def AS:sF where
 x:=tX
 y:=tY
 d:=sX
 e:=sY
 wx:=Lq.ext fun u n k=>by
  show nf (n+1)*u (n+1-1) k=nf n*u (n-1+1) k+u n k;rw[sU,mT,show n+1-1=n by omega];cases n with
  |zero=>rw[gP];grind
  |succ n=>rw[show n+1-1+1=n+1 by omega];grind
 wy:=Lq.ext fun u n k=>by
  show nf (k+1)*u n (k+1-1)=nf k*u n (k-1+1)+u n k;rw[sU,mT,show k+1-1=k by omega];cases k with
  |zero=>rw[gP];grind
  |succ k=>rw[show k+1-1+1=k+1 by omega];grind
 xy:=rfl
 xe:=rfl
 dy:=rfl
 de:=Lq.ext fun u n k=>by
  show nf k*(nf n*u (n-1) (k-1))=nf n*(nf k*u (n-1) (k-1))
  grind
theorem QI (u:Vq) (n k:Nat):∀j,(Lq.pow tX j).f u n k=u (n+j) k
 |0=>rfl
 |j+1=>by rw[Lq.pow_succ'];show(Lq.pow tX j).f (tX.f u) n k=_;rw[QI];rfl
theorem QK (u:Vq) (n k:Nat):∀j,(Lq.pow tY j).f u n k=u n (k+j)
 |0=>rfl
 |j+1=>by rw[Lq.pow_succ'];show(Lq.pow tY j).f (tY.f u) n k=_;rw[QK];rfl
theorem QG:∀(j:Nat) (u:Vq) (n k:Nat),(Lq.pow sX j).f u n k=nf (IE n j)*u (n-j) k
 |0,u,n,k=>by show u n k=nf 1*u n k;rw[mT];grind
 |j+1,u,n,k=>by
  rw[Lq.pow_succ'];show(Lq.pow sX j).f (sX.f u) n k=_
  rw[QG j];show nf (IE n j)*(nf (n-j)*u (n-j-1) k)=nf (IE n j*(n-j))*u (n-(j+1)) k
  rw[FZ,show n-j-1=n-(j+1) by omega];grind
theorem QH:∀(j:Nat) (u:Vq) (n k:Nat),(Lq.pow sY j).f u n k=nf (IE k j)*u n (k-j)
 |0,u,n,k=>by show u n k=nf 1*u n k;rw[mT];grind
 |j+1,u,n,k=>by
  rw[Lq.pow_succ'];show(Lq.pow sY j).f (sY.f u) n k=_
  rw[QH j];show nf (IE k j)*(nf (k-j)*u n (k-j-1))=nf (IE k j*(k-j))*u n (k-(j+1))
  rw[FZ,show k-j-1=k-(j+1) by omega];grind
theorem PE (m:M) (u:Vq) (n k:Nat):(mo AS m).f u n k=nf (IE n m.d.toNat)*nf (IE k m.e.toNat)*u (n-m.d.toNat+m.x.toNat) (k-m.e.toNat+m.y.toNat):=by
 show(Lq.pow sY m.e.toNat).f ((Lq.pow sX m.d.toNat).f ((Lq.pow tY m.y.toNat).f ((Lq.pow tX m.x.toNat).f u))) n k=_;rw[QH,QG,QK,QI]
 grind
theorem wJ {P:List T} (hP:aH P) {t0:T} (h0:t0∈P) {f:T→Fq} (hf:∀t∈P,t.m≠t0.m→f t=0):su P f=f t0:=by
 induction P with
 |nil=>cases h0
 |cons t r ih=>
  rw[su];have hp:=(List.pairwise_cons.1 hP.1).1
  rcases List.mem_cons.1 h0 with rfl|h1
  ·rw[nA f r (fun s hs=>hf s (List.mem_cons_of_mem _ hs) (fun e=>by have:=hp s hs;rw[e]at this;omega))]
   grind
  ·rw[ih hP.tail h1 (fun s hs=>hf s (List.mem_cons_of_mem _ hs)),hf t (List.mem_cons_self ..) (fun e=>by have:=hp t0 h1;rw[e]at this;omega)]
   grind
theorem FM:∀a b:Fq,a*b=0→a=0∨b=0:=by decide+kernel
theorem WM:∀D:Fin 16,nf (IE D.val D.val)≠0:=by decide+kernel
theorem CX {α:Type} (f:α→Nat):∀L:List α,L≠[]→∃t∈L,∀s∈L,f t≤f s
 |[],h=>absurd rfl h
 |[t],_=>⟨t,List.mem_singleton.2 rfl,fun s hs=>by rw[List.mem_singleton.1 hs];exact Nat.le_refl _⟩
 |t::s::r,_=>by
  obtain⟨m,hm,hl⟩:=CX f (s::r) (by simp);by_cases h:f t≤f m
  ·exact⟨t,List.mem_cons_self ..,fun x hx=>by
    rcases List.mem_cons.1 hx with rfl|hx
    ·exact Nat.le_refl _
    ·exact gW h (hl x hx)⟩
  ·exact⟨m,List.mem_cons_of_mem _ hm,fun x hx=>by
    rcases List.mem_cons.1 hx with rfl|hx
    ·omega
    ·exact hl x hx⟩
theorem KU {P:List T} (hP:aH P) (hne:P≠[]):∃t0∈P,(Rp AS P).f (fun n k=>if n=t0.m.x.toNat∧k=t0.m.y.toNat then 1 else 0) t0.m.d.toNat t0.m.e.toNat≠0:=by
 obtain⟨t0,h0,hmin⟩:=CX (fun t:T=>t.m.d.toNat+t.m.e.toNat) P hne;refine⟨t0,h0,?_⟩;have r0:=hP.2 t0 h0
 obtain⟨x0,x1,y0,y1,d0,d1,e0,e1⟩:=M.ok_iff.1 r0.1;show su P (fun t=>zz t.c*(mo AS t.m).f _ t0.m.d.toNat t0.m.e.toNat)≠0
 rw[wJ hP h0 (fun t ht hm=>?_)]
 ·rw[PE];have hz:(if t0.m.d.toNat-t0.m.d.toNat+t0.m.x.toNat=t0.m.x.toNat∧t0.m.e.toNat-t0.m.e.toNat+t0.m.y.toNat=t0.m.y.toNat then(1:Fq)else 0)=1:=if_pos ⟨by omega,by omega⟩
  simp only[hz];intro h;rcases FM _ _ h with h|h
  ·exact WT r0.2.1 r0.2.2 h
  ·rcases FM _ _ h with h|h
   ·rcases FM _ _ h with h|h
    ·exact WM ⟨t0.m.d.toNat,by omega⟩ h
    ·exact WM ⟨t0.m.e.toNat,by omega⟩ h
   ·exact absurd h (by decide)
 ·rw[PE];have r1:=hP.2 t ht
  obtain⟨u0,u1,v0,v1,f0,f1,g0,g1⟩:=M.ok_iff.1 r1.1;have hm2:t0.m.d.toNat+t0.m.e.toNat≤t.m.d.toNat+t.m.e.toNat:=hmin t ht
  have zl:∀x:Fq,0*x=0:=by intro x;grind
  have zr:∀x:Fq,x*0=0:=by intro x;grind
  by_cases hd:t0.m.d.toNat<t.m.d.toNat
  ·rw[qZ _ _ hd,gP,zl,zl,zr]
  ·by_cases he:t0.m.e.toNat<t.m.e.toNat
   ·rw[qZ _ _ he,gP,zr,zl,zr]
   ·rw[if_neg,zr,zr];rintro⟨hx,hy⟩;refine hm ?_;have a1:t.m.x=t0.m.x:=by omega
    have a2:t.m.y=t0.m.y:=by omega
    have a3:t.m.d=t0.m.d:=by omega
    have a4:t.m.e=t0.m.e:=by omega
    revert a1 a2 a3 a4
    cases t.m;cases t0.m;intro a1 a2 a3 a4;simp only at a1 a2 a3 a4;rw[a1,a2,a3,a4]
theorem sV {P:List T} (hP:aH P) (h:Rp AS P=Lq.nil):P=[]:=by
 by_cases hne:P=[]
 ·exact hne
 ·obtain⟨t0,_,h1⟩:=KU hP hne;rw[h]at h1;exact absurd rfl h1
theorem CF {P Q:List T} (hP:aH P) (hQ:aH Q) (h:Rp AS P=Rp AS Q):P=Q:=by
 refine(ER hP hQ).1 (sV (cB hP hQ).1 ?_);rw[uS AS hP hQ,h];refine Lq.ext fun u n k=>?_;show _+zz 100*_=(0:Fq)
 have:zz 100=100:=rfl;rw[this]
 grind
theorem wW {A B P:List T} (h:kO A B=(P,true)):cJ P=true:=by
 rcases EY A B with h1|⟨Q,h1,o⟩
 ·rw[h1]at h;simp at h
 ·rw[h1]at h;simp only[Prod.mk.injEq,and_true]at h;rw[←h];exact o
theorem SH (A B:List T):kO A B=([],false)∨∃P,kO A B=(P,true):=(EY A B).imp id (fun⟨P,h,_⟩=>⟨P,h⟩)
theorem mG {A B P:List T} (h:kO A B=(P,true)):aH P:=(aD (wW h)).2
theorem BE {A B P:List T} (h:kO A B=(P,true)):cJ A=true∧cJ B=true:=by
 unfold kO aZ at h;split at h
 ·rename_i hh;exact hh
 ·simp at h
def uH (c:Int) (t:T):T:=⟨c*t.c%101,t.m⟩
theorem SY {c:Int} (c1:1≤c) (c2:c≤100) {K X:List T} (hK:aH K) (hX:aH X):cG (jA c K) (jA c X)=jA c (cG K X):=by
 have f1:=fM c1 c2 hK;have f2:=fM c1 c2 hX
 refine CF (cM f1 f2).1 (fM c1 c2 (cM hK hX).1) ?_;rw[sI _ f1 f2,BR,BR,BR,sI _ hK hX,Lq.sc_sum]
theorem VB {c:Int} (c1:1≤c) (c2:c≤100) {a b:T} {m:M} (h:pL a b m):pL (uH c a) b m∧cF (uH c a) b=jA c (cF a b):=by
 have h2:pL (uH c a) b m:=⟨h.ok1,h.ok2,h.ok3,h.gx,h.gy,h.gd,h.ge,⟨by show 0≤c*a.c%101;omega,by show c*a.c%101≤100;omega⟩,h.c2⟩
 refine⟨h2,CF (eX h2).1 (fM c1 c2 (eX h).1) ?_⟩;rw[zC _ h2,BR,zC _ h,Lq.sc_sc];congr 1;show zz (c*a.c%101)*zz b.c=_
 rw[jE,lR];grind
theorem JK {c:Int} (c1:1≤c) (c2:c≤100) {K:List T} {a:T} {f:Nat→T} {lb:Nat} (hK:aH K) (ha:a.m.ok=true∧0≤a.c∧a.c≤100) (hg:mH f lb):∀k,k≤lb→eO (jA c K) (uH c a) f k=(eO K a f k).map (jA c)
 |0,_=>rfl
 |k+1,hk=>by
  rw[eO,eO,JK c1 c2 hK ha hg k (by omega)];cases hr:eO K a f k with
  |none=>rfl
  |some K1=>
   show fC (jA c K1) (uH c a) (f k)=(fC K1 a (f k)).map (jA c);have hf1:=iY hK ha hg k K1 (by omega) hr
   have h2:=hg k (by omega);unfold fC;show(if(a.m.sum (f k).m).ok=true∧(cG (jA c K1) (cF (uH c a) (f k))).length≤400 then some (cG (jA c K1) (cF (uH c a) (f k)))else none)=_
   by_cases hok:(a.m.sum (f k).m).ok=true
   ·have tw:pL a (f k) (a.m.sum (f k).m):=⟨ha.1,h2.1,hok,rfl,rfl,rfl,rfl,ha.2,h2.2⟩
    rw[(VB c1 c2 tw).2,SY c1 c2 hf1 (eX tw).1,fU];by_cases hl:(cG K1 (cF a (f k))).length≤400
    ·rw[if_pos ⟨hok,hl⟩,if_pos ⟨hok,hl⟩];rfl
    ·rw[if_neg (fun h=>hl h.2),if_neg (fun h=>hl h.2)];rfl
   ·rw[if_neg (fun h=>hok h.1),if_neg (fun h=>hok h.1)];rfl
theorem uM {c:Int} (c1:1≤c) (c2:c≤100) {f f' f2:Nat→T} {la lb:Nat} (hf:mH f la) (hg:mH f' lb) (he:∀i,i<la→f2 i=uH c (f i)):∀i,i≤la→bN f2 f' lb i=(bN f f' lb i).map (jA c)
 |0,_=>by show some []=some (jA c []);rw[show jA c []=[]from by rw[mZ];rfl]
 |i+1,hi=>by
  rw[bN,bN,uM c1 c2 hf hg he i (by omega)];cases hr:bN f f' lb i with
  |none=>rfl
  |some K1=>
   show eO (jA c K1) (f2 i) f' lb=(eO K1 (f i) f' lb).map (jA c);rw[he i (by omega)];exact JK c1 c2 (cE hf hg i K1 (by omega) hr) (hf i (by omega)) hg lb (Nat.le_refl _)
theorem SB (A B:Lq) (u:Vq) (n k:Nat):(Lq.sum A B).f u n k=A.f u n k+B.f u n k:=rfl
theorem YN (c:Fq) (A:Lq) (u:Vq) (n k:Nat):(Lq.sc c A).f u n k=c*A.f u n k:=rfl
end Go.Proofs.YtelkehjdfcoeiaaGreat
