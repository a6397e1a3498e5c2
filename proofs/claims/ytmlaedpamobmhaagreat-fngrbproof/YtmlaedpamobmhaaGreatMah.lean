/-
  Linear maps of what is counted from two sides, over the field of 101 numbers; a slope goes past a power of its time.
-/
import Derived.Test.YtmlaedpamobmhaaGreatMag
import Derived.Sort.Row
import Derived.Shelf.SlSortCmp.QuietGrown
set_option maxHeartbeats 1000000
namespace Go.Proofs.YtmlaedpamobmhaaGreat
set_option linter.unusedVariables false
abbrev Fq:=Fin 101
def zz (a:Int):Fq:=Fin.ofNat 101 (a%101).toNat
theorem kH (a:Int):zz (a%101)=zz a:=by unfold zz;rw[Int.emod_emod_of_dvd _ (Int.dvd_refl 101)]
theorem KW (a b:Int):zz (a+b)=zz a+zz b:=by unfold zz;apply Fin.ext;simp[Fin.val_add];omega
theorem WP {a b:Int} (ha:0≤a∧a≤100) (hb:0≤b∧b≤100) (h:zz a=zz b):a=b:=by unfold zz at h;have:=congrArg Fin.val h;simp at this;omega
theorem mU (a b:Int):zz (a*b)=zz a*zz b:=by
 unfold zz;apply Fin.ext;simp[Fin.val_mul];have h1:=Int.mul_emod a b 101
 have h2:((a%101).toNat:Int)=a%101:=by omega
 have h3:((b%101).toNat:Int)=b%101:=by omega
 have h4:(((a%101).toNat*(b%101).toNat%101:Nat):Int)=(a%101)*(b%101)%101:=by rw[Int.natCast_emod,Int.natCast_mul,h2,h3];rfl
 omega
theorem NY:zz 0=0:=rfl
theorem CE {a:Int} (h1:1≤a) (h2:a≤100):zz a≠0:=fun h=>by
 have:=WP (a:=a) (b:=0) ⟨by omega,h2⟩ ⟨by omega,by omega⟩ h;omega
def su {α:Type}:List α→(α→Fq)→Fq
 |[],_=>0
 |t::r,f=>f t+su r f
theorem zG {α:Type} (f g:α→Fq):∀L:List α,su L (fun t=>f t+g t)=su L f+su L g
 |[]=>by simp[su]
 |t::r=>by rw[su,su,su,zG f g r];grind
theorem KT {α:Type} (c:Fq) (f:α→Fq):∀L:List α,su L (fun t=>c*f t)=c*su L f
 |[]=>by show(0:Fq)=c*0;grind
 |t::r=>by rw[su,su,KT c f r];grind
theorem oK {α:Type} (f:α→Fq):∀L:List α,(∀t∈L,f t=0)→su L f=0
 |[],_=>rfl
 |t::r,h=>by rw[su,oK f r (fun s hs=>h s (List.mem_cons_of_mem _ hs)),h t (List.mem_cons_self ..)];rfl
theorem eO {α:Type} {f g:α→Fq}:∀{L:List α},(∀t∈L,f t=g t)→su L f=su L g
 |[],_=>rfl
 |t::r,h=>by rw[su,su,eO (L:=r) (fun s hs=>h s (List.mem_cons_of_mem _ hs)),h t (List.mem_cons_self ..)]
theorem lA {α:Type} (f:α→Fq):∀L K:List α,su (L++K) f=su L f+su K f
 |[],K=>by simp[su]
 |t::r,K=>by rw[List.cons_append,su,su,lA f r K];grind
theorem vC {α β:Type} (h:α→β) (f:β→Fq):∀L:List α,su (L.map h) f=su L (fun t=>f (h t))
 |[]=>rfl
 |t::r=>by rw[List.map_cons,su,su,vC h f r]
theorem DY {α β:Type} (h:α→List β) (f:β→Fq):∀L:List α,su (L.flatMap h) f=su L (fun t=>su (h t) f)
 |[]=>rfl
 |t::r=>by rw[List.flatMap_cons,lA,su,DY h f r]
abbrev Vq:=Nat→Nat→Fq
def va (u v:Vq):Vq:=fun n k=>u n k+v n k
def vs (c:Fq) (u:Vq):Vq:=fun n k=>c*u n k
structure Lq where
 f:Vq→Vq
 add:∀u v,f (va u v)=va (f u) (f v)
 smul:∀c u,f (vs c u)=vs c (f u)
theorem Lq.ext {A B:Lq} (h:∀u n k,A.f u n k=B.f u n k):A=B:=by have:A.f=B.f:=funext fun u=>funext fun n=>funext fun k=>h u n k;cases A;cases B;cases this;rfl
def v0:Vq:=fun _ _=>0
theorem Lq.zero (A:Lq):A.f v0=v0:=by
 have h:=A.smul 0 v0;have e:vs 0 v0=v0:=by funext n k;simp[vs,v0]
 rw[e]at h;rw[h];funext n k;show 0*_=(0:Fq);grind
namespace Lq
def mul (A B:Lq):Lq:=⟨fun u=>B.f (A.f u),fun u v=>by rw[A.add,B.add],fun c u=>by rw[A.smul,B.smul]⟩
def sum (A B:Lq):Lq:=⟨fun u=>va (A.f u) (B.f u),fun u v=>by rw[A.add,B.add];funext n k;simp only[va];grind,fun c u=>by rw[A.smul,B.smul];funext n k;simp only[va,vs];grind⟩
def sc (c:Fq) (A:Lq):Lq:=⟨fun u=>vs c (A.f u),fun u v=>by rw[A.add];funext n k;simp only[va,vs];grind,fun d u=>by rw[A.smul];funext n k;simp only[vs];grind⟩
def one:Lq:=⟨fun u=>u,fun _ _=>rfl,fun _ _=>rfl⟩
def nil:Lq:=⟨fun _=>v0,fun u v=>by funext n k;simp[va,v0],fun c u=>by funext n k;show(0:Fq)=c*0;grind⟩
def pow (A:Lq):Nat→Lq
 |0=>one
 |n+1=>mul (pow A n) A
theorem mul_assoc (A B C:Lq):mul (mul A B) C=mul A (mul B C):=rfl
theorem one_mul (A:Lq):mul one A=A:=rfl
theorem mul_one (A:Lq):mul A one=A:=rfl
theorem sum_mul (A B C:Lq):mul (sum A B) C=sum (mul A C) (mul B C):=Lq.ext fun u n k=>by show C.f (va _ _) n k=_;rw[C.add];rfl
theorem mul_sum (A B C:Lq):mul C (sum A B)=sum (mul C A) (mul C B):=rfl
theorem sc_mul (c:Fq) (A B:Lq):mul (sc c A) B=sc c (mul A B):=Lq.ext fun u n k=>by show B.f (vs _ _) n k=_;rw[B.smul];rfl
theorem mul_sc (c:Fq) (A B:Lq):mul A (sc c B)=sc c (mul A B):=rfl
theorem sc_sc (c d:Fq) (A:Lq):sc c (sc d A)=sc (c*d) A:=Lq.ext fun u n k=>by show c*(d*_)=c*d*_;grind
theorem sc_one (A:Lq):sc 1 A=A:=Lq.ext fun u n k=>by show 1*_=_;grind
theorem sc_zero (A:Lq):sc 0 A=nil:=Lq.ext fun u n k=>by show 0*_=(0:Fq);grind
theorem sc_sum (c:Fq) (A B:Lq):sc c (sum A B)=sum (sc c A) (sc c B):=Lq.ext fun u n k=>by show c*(_+_)=c*_+c*_;grind
theorem sc_add (c d:Fq) (A:Lq):sc (c+d) A=sum (sc c A) (sc d A):=Lq.ext fun u n k=>by show(c+d)*_=c*_+d*_;grind
theorem sum_comm (A B:Lq):sum A B=sum B A:=Lq.ext fun u n k=>by show _+_=_+_;grind
theorem sum_assoc (A B C:Lq):sum (sum A B) C=sum A (sum B C):=Lq.ext fun u n k=>by show _+_+_=_+(_+_);grind
theorem sum_nil (A:Lq):sum A nil=A:=Lq.ext fun u n k=>by show _+(0:Fq)=_;grind
theorem nil_mul (A:Lq):mul nil A=nil:=Lq.ext fun u n k=>by show A.f v0 n k=_;rw[A.zero];rfl
theorem mul_nil (A:Lq):mul A nil=nil:=rfl
theorem pow_succ' (A:Lq):∀n,pow A (n+1)=mul A (pow A n)
 |0=>rfl
 |n+1=>by show mul (pow A (n+1)) A=mul A (mul (pow A n) A);rw[pow_succ' A n,mul_assoc]
theorem pow_add (A:Lq) (n:Nat):∀m,pow A (n+m)=mul (pow A n) (pow A m)
 |0=>rfl
 |m+1=>by rw[←Nat.add_assoc,pow,pow_add A n m,pow,mul_assoc]
def Com (A B:Lq):Prop:=mul A B=mul B A
theorem Com.symm {A B:Lq} (h:Com A B):Com B A:=Eq.symm h
theorem Com.one (A:Lq):Com A Lq.one:=rfl
theorem Com.mul {A B C:Lq} (h1:Com A B) (h2:Com A C):Com A (Lq.mul B C):=by unfold Com at *;rw[←mul_assoc,h1,mul_assoc,h2,mul_assoc]
theorem Com.pow {A B:Lq} (h:Com A B):∀n,Com A (Lq.pow B n)
 |0=>Com.one A
 |n+1=>(h.pow n).mul h
theorem Com.pows {A B:Lq} (h:Com A B) (m n:Nat):Com (Lq.pow A m) (Lq.pow B n):=((h.pow n).symm.pow m).symm
def sumN (f:Nat→Lq):Nat→Lq
 |0=>nil
 |n+1=>sum (sumN f n) (f n)
theorem sumN_sum (f g:Nat→Lq):∀n,sumN (fun i=>sum (f i) (g i)) n=sum (sumN f n) (sumN g n)
 |0=>(sum_nil nil).symm
 |n+1=>by rw[sumN,sumN,sumN,sumN_sum f g n];exact Lq.ext fun u n k=>by show _+_+(_+_)=_+_+(_+_);grind
theorem mul_sumN (A:Lq) (f:Nat→Lq):∀n,mul A (sumN f n)=sumN (fun i=>mul A (f i)) n
 |0=>rfl
 |n+1=>by rw[sumN,mul_sum,mul_sumN A f n];rfl
theorem sumN_congr {f g:Nat→Lq}:∀{n},(∀i,i<n→f i=g i)→sumN f n=sumN g n
 |0,_=>rfl
 |n+1,h=>by rw[sumN,sumN,sumN_congr (n:=n) (fun i hi=>h i (by omega)),h n (by omega)]
theorem sumN_head (f:Nat→Lq):∀n,sumN f (n+1)=sum (f 0) (sumN (fun i=>f (i+1)) n)
 |0=>by rw[sumN,sumN,sumN,sum_comm]
 |n+1=>by rw[sumN,sumN_head f n,sumN,sum_assoc]
theorem sumN_cut {f:Nat→Lq} {m n:Nat} (h:m≤n) (h0:∀i,m≤i→f i=nil):sumN f n=sumN f m:=by
 induction n with
 |zero=>rw[show m=0 by omega]
 |succ n ih=>
  by_cases e:m=n+1
  ·rw[e]
  ·rw[sumN,h0 n (by omega),sum_nil,ih (by omega)]
end Lq
def Ai:Nat→Nat→Nat
 |_,0=>1
 |0,_+1=>0
 |n+1,k+1=>Ai n (k+1)+Ai n k
def LO (c:Nat):Nat→Nat
 |0=>1
 |i+1=>LO c i*(c-i)
theorem sH:∀n k,n<k→Ai n k=0
 |0,k+1,_=>by rw[Ai]
 |n+1,k+1,h=>by rw[Ai,sH n (k+1) (by omega),sH n k (by omega)]
theorem xK (n:Nat):Ai n 0=1:=by cases n<;>rfl
theorem sQ (c:Nat):∀i,c<i→LO c i=0
 |i+1,h=>by
  rw[LO];by_cases e:c=i
  ·rw[e];simp
  ·rw[sQ c i (by omega)];simp
def nf (n:Nat):Fq:=Fin.ofNat 101 n
theorem uS (a b:Nat):nf (a+b)=nf a+nf b:=by unfold nf;apply Fin.ext;simp[Fin.val_add]
theorem JU (a b:Nat):nf (a*b)=nf a*nf b:=by unfold nf;apply Fin.ext;simp[Fin.val_mul]
theorem nZ:nf 1=1:=rfl
theorem iJ:nf 0=0:=rfl
def Ee (x d:Lq):Prop:=Lq.mul d x=Lq.sum (Lq.mul x d) Lq.one
theorem NU {x d:Lq} (h:Ee x d):∀c,Lq.mul d (Lq.pow x c)=Lq.sum (Lq.mul (Lq.pow x c) d) (Lq.sc (nf c) (Lq.pow x (c-1)))
 |0=>by rw[iJ,Lq.sc_zero,Lq.sum_nil];rfl
 |c+1=>by
  rw[Lq.pow,←Lq.mul_assoc,NU h c,Lq.sum_mul,Lq.mul_assoc,h,Lq.mul_sum,Lq.mul_one,Lq.sc_mul,←Lq.mul_assoc,Lq.sum_assoc,uS,Lq.sc_add,nZ,Lq.sc_one];congr 1;show Lq.sum (Lq.pow x c) _=Lq.sum _ (Lq.pow x (c+1-1))
  rw[Lq.sum_comm];congr 1;cases c with
  |zero=>rw[iJ,Lq.sc_zero,Lq.sc_zero]
  |succ c=>rfl
def wN (b c i:Nat):Nat:=Ai b i*LO c i
theorem CD {x d:Lq} (h:Ee x d) (c:Nat):∀b,Lq.mul (Lq.pow d b) (Lq.pow x c)=Lq.sumN (fun i=>Lq.sc (nf (wN b c i)) (Lq.mul (Lq.pow x (c-i)) (Lq.pow d (b-i)))) (b+1)
 |0=>by
  show Lq.pow x c=Lq.sum Lq.nil (Lq.sc (nf (wN 0 c 0)) (Lq.mul (Lq.pow x (c-0)) Lq.one));rw[Lq.sum_comm,Lq.sum_nil];show _=Lq.sc (nf 1) _
  rw[nZ,Lq.sc_one];rfl
 |b+1=>by
  rw[Lq.pow_succ',Lq.mul_assoc,CD h c b,Lq.mul_sumN];have e1:Lq.sumN (fun i=>Lq.mul d (Lq.sc (nf (wN b c i)) (Lq.mul (Lq.pow x (c-i)) (Lq.pow d (b-i))))) (b+1)=Lq.sumN (fun i=>Lq.sum (Lq.sc (nf (wN b c i)) (Lq.mul (Lq.pow x (c-i)) (Lq.pow d (b+1-i)))) (Lq.sc (nf (wN b c i*(c-i))) (Lq.mul (Lq.pow x (c-(i+1))) (Lq.pow d (b-i))))) (b+1):=by refine Lq.sumN_congr (fun i hi=>?_);rw[Lq.mul_sc,←Lq.mul_assoc,NU h,Lq.sum_mul,Lq.sc_sum,Lq.mul_assoc,←Lq.pow_succ',Lq.sc_mul,Lq.sc_sc,JU,show b-i+1=b+1-i by omega,show c-i-1=c-(i+1) by omega]
  rw[e1,Lq.sumN_sum];rw[Lq.sumN_head (fun i=>Lq.sc (nf (wN (b+1) c i)) (Lq.mul (Lq.pow x (c-i)) (Lq.pow d (b+1-i))))];have e2:Lq.sumN (fun i=>Lq.sc (nf (wN (b+1) c (i+1))) (Lq.mul (Lq.pow x (c-(i+1))) (Lq.pow d (b+1-(i+1))))) (b+1)=Lq.sum (Lq.sumN (fun i=>Lq.sc (nf (wN b c (i+1))) (Lq.mul (Lq.pow x (c-(i+1))) (Lq.pow d (b+1-(i+1))))) (b+1)) (Lq.sumN (fun i=>Lq.sc (nf (wN b c i*(c-i))) (Lq.mul (Lq.pow x (c-(i+1))) (Lq.pow d (b-i)))) (b+1)):=by
   rw[←Lq.sumN_sum];refine Lq.sumN_congr (fun i hi=>?_);have:wN (b+1) c (i+1)=wN b c (i+1)+wN b c i*(c-i):=by unfold wN;rw[Ai,LO,Nat.add_mul,Nat.mul_assoc]
   rw[this,uS,Lq.sc_add,show b+1-(i+1)=b-i by omega]
  rw[e2,←Lq.sum_assoc];congr 1;rw[show wN (b+1) c 0=wN b c 0 by simp[wN,xK],←Lq.sumN_head (fun i=>Lq.sc (nf (wN b c i)) (Lq.mul (Lq.pow x (c-i)) (Lq.pow d (b+1-i)))),Lq.sumN.eq_2 _ (b+1)];have:wN b c (b+1)=0:=by unfold wN;rw[sH b (b+1) (by omega),Nat.zero_mul]
  rw[this,iJ,Lq.sc_zero,Lq.sum_nil]
open Go.RowKit
set_option linter.unusedVariables false
def Bn (n:Nat):M:=⟨((n / 4096:Nat):Int),((n / 256%16:Nat):Int),((n / 16%16:Nat):Int),((n%16:Nat):Int)⟩
def box:List M:=(List.range 65536).map Bn
theorem CN {m:M} (h:m.ok=true):m∈box:=by obtain⟨x1,x2,y1,y2,d1,d2,e1,e2⟩:=M.ok_iff.1 h;refine List.mem_map.2 ⟨m.x.toNat*4096+m.y.toNat*256+m.d.toNat*16+m.e.toNat,List.mem_range.2 (by omega),?_⟩;cases m;simp only[Bn,M.mk.injEq]at *;refine⟨by omega,by omega,by omega,by omega⟩
theorem uC:box.Nodup:=by unfold box;rw[List.Nodup,List.pairwise_map];refine(List.nodup_range (n:=65536)).imp (fun{a b} hab e=>hab ?_);simp only[Bn,M.mk.injEq]at e;omega
theorem dV {a b:M}:gP a b=true↔a=b:=by cases a;cases b;simp[gP]
theorem qE (m:M) (v:Fq):∀S:List M,S.Nodup→m∈S→su S (fun x=>if gP m x=true then v else 0)=v
 |[],_,h=>by cases h
 |t::r,hn,h=>by
  rw[List.nodup_cons]at hn;rw[su];by_cases e:gP m t=true
  ·rw[if_pos e,oK _ r (fun s hs=>if_neg (fun e2=>hn.1 (by rw[←dV.1 e,dV.1 e2];exact hs)))]
   grind
  ·rw[if_neg e,qE m v r hn.2 (by
    rcases List.mem_cons.1 h with h|h
    ·exact absurd (dV.2 h) e
    ·exact h)]
   grind
def kW (φ:M→Fq) (L:List T):Fq:=su L (fun t=>zz t.c*φ t.m)
theorem DC (φ:M→Fq):kW φ []=0:=rfl
theorem nW (φ:M→Fq):∀{L:List T},aK L→kW φ L=su box (fun m=>zz (aM L m)*φ m)
 |[],_=>by
  rw[DC,oK];intro t _;show zz 0*φ t=0
  rw[NY];grind
 |t::r,h=>by
  have hr:=nW φ h.tail;have ht:=h.2 t (List.mem_cons_self ..)
  have h0:aM r t.m=0:=kT (List.pairwise_cons.1 h.1).1;have e:su box (fun m=>zz (aM (t::r) m)*φ m)=su box (fun m=>(if gP t.m m=true then zz t.c*φ t.m else 0)+zz (aM r m)*φ m):=by
   refine eO (fun m _=>?_);rw[aM];by_cases e:gP t.m m=true
   ·rw[if_pos e,if_pos e,←dV.1 e,h0,NY];grind
   ·rw[if_neg e,if_neg e];grind
  rw[e,zG,qE t.m _ box uC (CN ht.1),←hr];rfl
theorem LX (φ:M→Fq) {L K:List T} (hL:aK L) (hK:aK K):kW φ (bT L K)=kW φ L+kW φ K:=by have h:=dD hL hK;rw[nW φ h.1,nW φ hL,nW φ hK,←zG];refine eO (fun m _=>?_);rw[h.2,kH,KW];grind
theorem Cp (φ:M→Fq) (c:Int) (L:List T):kW φ (kC c L)=zz c*kW φ L:=by
 unfold kW;rw[oJ,vC,←KT];refine eO (fun t _=>?_);show zz (c*t.c%101)*φ t.m=_
 rw[kH,mU];grind
theorem YK (φ:M→Fq) {L:List T} (hL:aK L) {c:Int} {m:M} (hm:m.ok=true) (c0:0≤c) (c1:c≤100):kW φ (jU c m L)=kW φ L+zz c*φ m:=by
 have h:=rN hL hm c0 c1;have e:su box (fun x=>zz (aM (jU c m L) x)*φ x)=su box (fun x=>(if gP m x=true then zz c*φ m else 0)+zz (aM L x)*φ x):=by
  refine eO (fun x _=>?_);rw[h.2,lV];by_cases e:x=m
  ·rw[if_pos (fG.2 e),if_pos (dV.2 e.symm),kH,KW,e];grind
  ·rw[if_neg (fun q=>e (fG.1 q)),if_neg (fun q=>e (dV.1 q).symm)];grind
 rw[nW φ h.1,e,zG,qE m _ box uC (CN hm),nW φ hL]
 grind
theorem rG (φ:M→Fq):∀(xs:List T) {L:List T},Ed xs→aK L→kW φ (fR xs L)=kW φ L+kW φ xs
 |[],L,_,hL=>by show kW φ L=kW φ L+0;grind
 |t::r,L,hx,hL=>by
  have h1:=hx t (List.mem_cons_self ..);show kW φ (fR r (jU t.c t.m L))=_
  rw[rG φ r (fun s hs=>hx s (List.mem_cons_of_mem _ hs)) (rN hL h1.1 h1.2.1 h1.2.2).1,YK φ hL h1.1 h1.2.1 h1.2.2];show _=kW φ L+(zz t.c*φ t.m+kW φ r)
  grind
theorem YL (φ ψ:M→Fq) (L:List T):kW (fun m=>φ m+ψ m) L=kW φ L+kW ψ L:=by unfold kW;rw[←zG];exact eO (fun t _=>by grind)
theorem YJ (c:Fq) (φ:M→Fq) (L:List T):kW (fun m=>c*φ m) L=c*kW φ L:=by unfold kW;rw[←KT];exact eO (fun t _=>by grind)
structure rV where
 x:Lq
 y:Lq
 d:Lq
 e:Lq
 wx:Ee x d
 wy:Ee y e
 xy:Lq.Com x y
 xe:Lq.Com x e
 dy:Lq.Com d y
 de:Lq.Com d e
def mo (g:rV) (m:M):Lq:=Lq.mul (Lq.mul (Lq.pow g.x m.x.toNat) (Lq.pow g.y m.y.toNat)) (Lq.mul (Lq.pow g.d m.d.toNat) (Lq.pow g.e m.e.toNat))
def Rp (g:rV) (L:List T):Lq:=⟨fun u n k=>kW (fun m=>(mo g m).f u n k) L,fun u v=>by
 funext n k;show kW (fun m=>(mo g m).f (va u v) n k) L=_
 rw[show(fun m=>(mo g m).f (va u v) n k)=(fun m=>(mo g m).f u n k+(mo g m).f v n k)from funext fun m=>by rw[(mo g m).add];rfl,YL];rfl,fun c u=>by
 funext n k;show kW (fun m=>(mo g m).f (vs c u) n k) L=_
 rw[show(fun m=>(mo g m).f (vs c u) n k)=(fun m=>c*(mo g m).f u n k)from funext fun m=>by rw[(mo g m).smul];rfl,YJ]
 rfl⟩
theorem nJ (g:rV):Rp g []=Lq.nil:=rfl
theorem qQ (g:rV) {L K:List T} (hL:aK L) (hK:aK K):Rp g (bT L K)=Lq.sum (Rp g L) (Rp g K):=Lq.ext fun u n k=>LX (fun m=>(mo g m).f u n k) hL hK
theorem EN (g:rV) (c:Int) (L:List T):Rp g (kC c L)=Lq.sc (zz c) (Rp g L):=Lq.ext fun u n k=>Cp (fun m=>(mo g m).f u n k) c L
theorem uB (g:rV) {L K:List T} (hL:aK L) (hK:aK K):Rp g (dB L K)=Lq.sum (Rp g L) (Lq.sc (zz 100) (Rp g K)):=by unfold dB;rw[qQ g hL (gK (by omega) (by omega) hK),EN]
theorem xC (g:rV) (t:T):Rp g [t]=Lq.sc (zz t.c) (mo g t.m):=Lq.ext fun u n k=>by
 show zz t.c*_+0=zz t.c*_
 grind
theorem EB (f:Nat→Lq) (u:Vq) (p q:Nat):∀n,(Lq.sumN f n).f u p q=su (List.range n) (fun i=>(f i).f u p q)
 |0=>rfl
 |n+1=>by
  rw[List.range_succ,lA,←EB f u p q n];show _+_=_+(_+0)
  grind
theorem Dm {b c i:Nat} (h:min b c<i):wN b c i=0:=by
 unfold wN;by_cases hb:b<i
 ·rw[sH b i hb,Nat.zero_mul]
 ·rw[sQ c i (by omega),Nat.mul_zero]
theorem pX {x d:Lq} (h:Ee x d) (b c:Nat):Lq.mul (Lq.pow d b) (Lq.pow x c)=Lq.sumN (fun i=>Lq.sc (nf (wN b c i)) (Lq.mul (Lq.pow x (c-i)) (Lq.pow d (b-i)))) (min b c+1):=by rw[CD h];refine Lq.sumN_cut (by omega) (fun i hi=>?_);rw[Dm (by omega),iJ,Lq.sc_zero]
open Go.RowKit Go.Sort
structure Gr (w u:World):Prop where
 below:Below w.heap.size w u
 drawn:w.drawn≤u.drawn
theorem Gr.refl (w:World):Gr w w:=⟨bQ _ _,Nat.le_refl _⟩
theorem Gr.trans {a b c:World} (h:Gr a b) (k:Gr b c):Gr a c:=⟨h.below.trans (k.below.mono h.below.size),jJ h.drawn k.drawn⟩
theorem Gr.alloc (w:World) (o:Obj):Gr w (w.alloc o):=⟨aC w o,by simp⟩
theorem Gr.drew (w:World):Gr w w.drew:=⟨(bQ _ _).drew,by simp⟩
theorem Gr.form {w u:World} (h:Gr w u):∃q os,u=grow (w.drewN q) os:=by
 refine⟨u.drawn-w.drawn,u.heap.extract w.heap.size u.heap.size,?_⟩;obtain⟨⟨h1,h2,h3,h4,h5⟩,h6⟩:=h;cases u with
 |mk heap tape drawn os output=>
  simp only at h1 h2 h3 h4 h5 h6;subst h1 h2 h3;have hh:w.heap++heap.extract w.heap.size heap.size=heap:=by
   apply Array.ext_getElem?;intro i;by_cases hi:i<w.heap.size
   ·rw[Array.getElem?_append_left hi,h5 i hi]
   ·rw[Array.getElem?_append_right (by omega),Array.getElem?_extract];split
    ·congr 1;omega
    ·exact(Array.getElem?_eq_none (by omega)).symm
  have hd:w.drawn+(drawn-w.drawn)=drawn:=by omega
  simp only[grow,World.drewN];rw[hh,hd]
def lD (w:World):Type:=Subtype (fun u:World=>Gr w u)
theorem lD.there (w:World):Nonempty (lD w):=⟨⟨w,Gr.refl _⟩⟩
theorem pM {P:Program} {id:Nat} {Q:Exit→Act→World→Prop} {a:Act} {w:World} {l:List Oper} (hm:P.follows .mixedOrders=true) (hB:Region.lexB .any l.toArray=true) (h:wpQuiet P l.toArray (fun u=>∃x:lD w,u=x.1) (fun a'=>∀w',(∃x:lD w,w'=x.1)→Q .normal a' w') l a):(Code.region id l.toArray true).wp P Q a w:=
 wp_region_quiet (C:=fun u=>∃x:lD w,u=x.1) hm hB ⟨⟨_,Gr.drew _⟩,rfl⟩ (by simpa using h)
theorem OZ {P:Program} {f:FuncId} {args:Array Value} {w:World} {x:lD w} {v:Value} (h:Calls P f args x.1 fun e w'=>e= .returned v∧w'=x.1):Calls P f args x.1 fun e w''=>e= .returned v∧∃y:lD w,w''=y.1:=
 h.mono fun _ _ ⟨he,hm⟩=>⟨he,x,hm⟩
theorem nR {P:Program} {f:FuncId} {args:Array Value} {w:World} {x:lD w} {v:Value} (h:Calls P f args x.1 fun e w'=>e= .returned v∧Gr x.1 w'):Calls P f args x.1 fun e w''=>e= .returned v∧∃y:lD w,w''=y.1:=
 h.mono fun _ w' ⟨he,hm⟩=>⟨he,⟨w',x.2.trans hm⟩,rfl⟩
theorem sM {w:World} {t:TypeId} (cs:Array Value) (k:Nat) (v:Value) (h:cs[k]? =some v):∀u:lD (w.alloc (.cells cs t)),u.1.cell? ⟨w.heap.size,k,none⟩=some v:=fun u=>by
 have:=kK (w:=w) (t:=t) cs k v h ⟨u.1,u.2.below⟩;exact this
theorem XL (x y d e:Int) (w:World) (h:M.ok ⟨x,y,d,e⟩=true):Calls Tryz.prog 122 #[.agg #[.int .i64 x,.int .i64 y,.int .i64 d,.int .i64 e]] w fun r w'=>r= .returned (.int .i64 (x+y+d+e))∧Gr w w':=by obtain⟨x1,x2,y1,y2,d1,d2,e1,e2⟩:=M.ok_iff.1 h;simp only at x1 x2 y1 y2 d1 d2 e1 e2;clear h;go_enter Tryz.func122,Tryz.ntmps122;go_wp2;go_ret;exact⟨rfl,Gr.alloc w _⟩
theorem VF (x y d e:Int) (w:World) (h:M.ok ⟨x,y,d,e⟩=true):Calls Tryz.prog 109 #[.agg #[.int .i64 x,.int .i64 y,.int .i64 d,.int .i64 e]] w fun r w'=>r= .returned (.int .i64 (gE ⟨x,y,d,e⟩))∧Gr w w':=by obtain⟨x1,x2,y1,y2,d1,d2,e1,e2⟩:=M.ok_iff.1 h;simp only at x1 x2 y1 y2 d1 d2 e1 e2;clear h;simp only[gE];go_enter Tryz.func109,Tryz.ntmps109;go_wp2;go_ret;exact⟨rfl,Gr.alloc w _⟩
theorem GO (x y d e:Int) (w:World) (h:M.ok ⟨x,y,d,e⟩=true):Calls Tryz.prog 88 #[.agg #[.int .i64 x,.int .i64 y,.int .i64 d,.int .i64 e]] w fun r w'=>r= .returned (.int .i64 (eQ ⟨x,y,d,e⟩))∧Gr w w':=by
 obtain⟨x1,x2,y1,y2,d1,d2,e1,e2⟩:=M.ok_iff.1 h;simp only at x1 x2 y1 y2 d1 d2 e1 e2;have HK:=aA h
 have k1:0≤gE ⟨x,y,d,e⟩:=by simp only[gE];omega
 have k2:gE ⟨x,y,d,e⟩≤65535:=by simp only[gE];omega
 have r1:eQ ⟨x,y,d,e⟩=(x+y+d+e)*65536+gE ⟨x,y,d,e⟩:=rfl;rw[r1];clear h r1;go_enter Tryz.func88,Tryz.ntmps88;go_wp2_with fail;have B1:=aA (Gr.alloc w (.cells #[.int .i64 x,.int .i64 y,.int .i64 d,.int .i64 e] 52))
 have ne:=lD.there (w.alloc (.cells #[.int .i64 x,.int .i64 y,.int .i64 d,.int .i64 e] 52));have s0:=sM (w:=w) (t:=52) #[.int .i64 x,.int .i64 y,.int .i64 d,.int .i64 e] 0 _ rfl
 have s1:=sM (w:=w) (t:=52) #[.int .i64 x,.int .i64 y,.int .i64 d,.int .i64 e] 1 _ rfl;have s2:=sM (w:=w) (t:=52) #[.int .i64 x,.int .i64 y,.int .i64 d,.int .i64 e] 2 _ rfl
 have s3:=sM (w:=w) (t:=52) #[.int .i64 x,.int .i64 y,.int .i64 d,.int .i64 e] 3 _ rfl;refine pM (by kernel_rfl) (by kernel_rfl) ?_;repeat(go_big_quiet_step (first|(go_at_call 122;exact nR (XL _ _ _ _ _ HK.out))|(go_at_call 109;exact nR (VF _ _ _ _ _ HK.out))))
 refine wpQuiet_nil ?_;rintro _ ⟨u,rfl⟩;go_wp2;go_ret;exact⟨rfl,B1.out.trans u.2⟩
end Go.Proofs.YtmlaedpamobmhaaGreat
