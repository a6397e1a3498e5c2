/-
  Linear maps of what is counted from two sides, over the field of 101 numbers; a slope goes past a power of its time.
-/
import Derived.Test.YtncffcaabnjioaaGreatMag
import Derived.Sort.Row
import Derived.Shelf.SlSortCmp.QuietGrown
import Derived.Shelf.SlSortCmp.InsertionK
import Derived.Shelf.Lay
import Derived.Ground.SlsfProg
import Derived.RangeFuncSeq
import Derived.RangeFuncGives
import Derived.Sort.MapsRangeIn
import Derived.Sort.KeysCollected
import Derived.Shelf.AbstractIn
import Derived.OwnWalkIn
import Derived.TacticsInMore
import Derived.RegionIn
import Derived.LoopNIn
import Derived.LoopIn
set_option maxHeartbeats 2000000
set_option maxRecDepth 100000
namespace Go.Proofs.YtncffcaabnjioaaGreat
set_option linter.unusedVariables false
abbrev Fq:=Fin 101
def zz (a:Int):Fq:=Fin.ofNat 101 (a%101).toNat
theorem jU (a:Int):zz (a%101)=zz a:=by unfold zz;rw[Int.emod_emod_of_dvd _ (Int.dvd_refl 101)]
theorem GR (a b:Int):zz (a+b)=zz a+zz b:=by unfold zz;apply Fin.ext;simp[Fin.val_add];omega
theorem SN {a b:Int} (ha:0≤a∧a≤100) (hb:0≤b∧b≤100) (h:zz a=zz b):a=b:=by unfold zz at h;have:=congrArg Fin.val h;simp at this;omega
theorem mD (a b:Int):zz (a*b)=zz a*zz b:=by
 unfold zz;apply Fin.ext;simp[Fin.val_mul];have h1:=Int.mul_emod a b 101
 have h2:((a%101).toNat:Int)=a%101:=by omega
 have h3:((b%101).toNat:Int)=b%101:=by omega
 have h4:(((a%101).toNat*(b%101).toNat%101:Nat):Int)=(a%101)*(b%101)%101:=by rw[Int.natCast_emod,Int.natCast_mul,h2,h3];rfl
 omega
theorem JV:zz 0=0:=rfl
theorem zL {a:Int} (h1:1≤a) (h2:a≤100):zz a≠0:=fun h=>by
 have:=SN (a:=a) (b:=0) ⟨by omega,h2⟩ ⟨by omega,by omega⟩ h;omega
def su {α:Type}:List α→(α→Fq)→Fq
 |[],_=>0
 |t::r,f=>f t+su r f
theorem xH {α:Type} (f g:α→Fq):∀L:List α,su L (fun t=>f t+g t)=su L f+su L g
 |[]=>by simp[su]
 |t::r=>by rw[su,su,su,xH f g r];grind
theorem GO {α:Type} (c:Fq) (f:α→Fq):∀L:List α,su L (fun t=>c*f t)=c*su L f
 |[]=>by show(0:Fq)=c*0;grind
 |t::r=>by rw[su,su,GO c f r];grind
theorem nT {α:Type} (f:α→Fq):∀L:List α,(∀t∈L,f t=0)→su L f=0
 |[],_=>rfl
 |t::r,h=>by rw[su,nT f r (fun s hs=>h s (List.mem_cons_of_mem _ hs)),h t (List.mem_cons_self ..)];rfl
theorem dX {α:Type} {f g:α→Fq}:∀{L:List α},(∀t∈L,f t=g t)→su L f=su L g
 |[],_=>rfl
 |t::r,h=>by rw[su,su,dX (L:=r) (fun s hs=>h s (List.mem_cons_of_mem _ hs)),h t (List.mem_cons_self ..)]
theorem kM {α:Type} (f:α→Fq):∀L K:List α,su (L++K) f=su L f+su K f
 |[],K=>by simp[su]
 |t::r,K=>by rw[List.cons_append,su,su,kM f r K];grind
theorem tW {α β:Type} (h:α→β) (f:β→Fq):∀L:List α,su (L.map h) f=su L (fun t=>f (h t))
 |[]=>rfl
 |t::r=>by rw[List.map_cons,su,su,tW h f r]
theorem BM {α β:Type} (h:α→List β) (f:β→Fq):∀L:List α,su (L.flatMap h) f=su L (fun t=>su (h t) f)
 |[]=>rfl
 |t::r=>by rw[List.flatMap_cons,kM,su,BM h f r]
abbrev Vq:=Nat→Nat→Fq
def va (u v:Vq):Vq:=fun n k=>u n k+v n k
def vs (c:Fq) (u:Vq):Vq:=fun n k=>c*u n k
structure Lq where
 f:Vq→Vq
 add:∀u v,f (va u v)=va (f u) (f v)
 smul:∀c u,f (vs c u)=vs c (f u)
theorem Lq.ext {A B:Lq} (h:∀u n k,A.f u n k=B.f u n k):A=B:=by have:A.f=B.f:=funext fun u=>funext fun n=>funext fun k=>h u n k;cases A;cases B;cases this;rfl
def v0:Vq:=fun _ _=>0
theorem Lq.zero (A:Lq):A.f v0=v0:=by
 have h:=A.smul 0 v0;have e:vs 0 v0=v0:=by funext n k;simp[vs,v0]
 rw[e]at h;rw[h];funext n k;show 0*_=(0:Fq);grind
namespace Lq
def mul (A B:Lq):Lq:=⟨fun u=>B.f (A.f u),fun u v=>by rw[A.add,B.add],fun c u=>by rw[A.smul,B.smul]⟩
def sum (A B:Lq):Lq:=⟨fun u=>va (A.f u) (B.f u),fun u v=>by rw[A.add,B.add];funext n k;simp only[va];grind,fun c u=>by rw[A.smul,B.smul];funext n k;simp only[va,vs];grind⟩
def sc (c:Fq) (A:Lq):Lq:=⟨fun u=>vs c (A.f u),fun u v=>by rw[A.add];funext n k;simp only[va,vs];grind,fun d u=>by rw[A.smul];funext n k;simp only[vs];grind⟩
def one:Lq:=⟨fun u=>u,fun _ _=>rfl,fun _ _=>rfl⟩
def nil:Lq:=⟨fun _=>v0,fun u v=>by funext n k;simp[va,v0],fun c u=>by funext n k;show(0:Fq)=c*0;grind⟩
def pow (A:Lq):Nat→Lq
 |0=>one
 |n+1=>mul (pow A n) A
theorem mul_assoc (A B C:Lq):mul (mul A B) C=mul A (mul B C):=rfl
theorem one_mul (A:Lq):mul one A=A:=rfl
theorem mul_one (A:Lq):mul A one=A:=rfl
theorem sum_mul (A B C:Lq):mul (sum A B) C=sum (mul A C) (mul B C):=Lq.ext fun u n k=>by show C.f (va _ _) n k=_;rw[C.add];rfl
theorem mul_sum (A B C:Lq):mul C (sum A B)=sum (mul C A) (mul C B):=rfl
theorem sc_mul (c:Fq) (A B:Lq):mul (sc c A) B=sc c (mul A B):=Lq.ext fun u n k=>by show B.f (vs _ _) n k=_;rw[B.smul];rfl
theorem mul_sc (c:Fq) (A B:Lq):mul A (sc c B)=sc c (mul A B):=rfl
theorem sc_sc (c d:Fq) (A:Lq):sc c (sc d A)=sc (c*d) A:=Lq.ext fun u n k=>by show c*(d*_)=c*d*_;grind
theorem sc_one (A:Lq):sc 1 A=A:=Lq.ext fun u n k=>by show 1*_=_;grind
theorem sc_zero (A:Lq):sc 0 A=nil:=Lq.ext fun u n k=>by show 0*_=(0:Fq);grind
theorem sc_sum (c:Fq) (A B:Lq):sc c (sum A B)=sum (sc c A) (sc c B):=Lq.ext fun u n k=>by show c*(_+_)=c*_+c*_;grind
theorem sc_add (c d:Fq) (A:Lq):sc (c+d) A=sum (sc c A) (sc d A):=Lq.ext fun u n k=>by show(c+d)*_=c*_+d*_;grind
theorem sum_comm (A B:Lq):sum A B=sum B A:=Lq.ext fun u n k=>by show _+_=_+_;grind
theorem sum_assoc (A B C:Lq):sum (sum A B) C=sum A (sum B C):=Lq.ext fun u n k=>by show _+_+_=_+(_+_);grind
theorem sum_nil (A:Lq):sum A nil=A:=Lq.ext fun u n k=>by show _+(0:Fq)=_;grind
theorem nil_mul (A:Lq):mul nil A=nil:=Lq.ext fun u n k=>by show A.f v0 n k=_;rw[A.zero];rfl
theorem mul_nil (A:Lq):mul A nil=nil:=rfl
theorem pow_succ' (A:Lq):∀n,pow A (n+1)=mul A (pow A n)
 |0=>rfl
 |n+1=>by show mul (pow A (n+1)) A=mul A (mul (pow A n) A);rw[pow_succ' A n,mul_assoc]
theorem pow_add (A:Lq) (n:Nat):∀m,pow A (n+m)=mul (pow A n) (pow A m)
 |0=>rfl
 |m+1=>by rw[←Nat.add_assoc,pow,pow_add A n m,pow,mul_assoc]
def Com (A B:Lq):Prop:=mul A B=mul B A
theorem Com.symm {A B:Lq} (h:Com A B):Com B A:=Eq.symm h
theorem Com.one (A:Lq):Com A Lq.one:=rfl
theorem Com.mul {A B C:Lq} (h1:Com A B) (h2:Com A C):Com A (Lq.mul B C):=by unfold Com at *;rw[←mul_assoc,h1,mul_assoc,h2,mul_assoc]
theorem Com.pow {A B:Lq} (h:Com A B):∀n,Com A (Lq.pow B n)
 |0=>Com.one A
 |n+1=>(h.pow n).mul h
theorem Com.pows {A B:Lq} (h:Com A B) (m n:Nat):Com (Lq.pow A m) (Lq.pow B n):=((h.pow n).symm.pow m).symm
def sumN (f:Nat→Lq):Nat→Lq
 |0=>nil
 |n+1=>sum (sumN f n) (f n)
theorem sumN_sum (f g:Nat→Lq):∀n,sumN (fun i=>sum (f i) (g i)) n=sum (sumN f n) (sumN g n)
 |0=>(sum_nil nil).symm
 |n+1=>by rw[sumN,sumN,sumN,sumN_sum f g n];exact Lq.ext fun u n k=>by show _+_+(_+_)=_+_+(_+_);grind
theorem mul_sumN (A:Lq) (f:Nat→Lq):∀n,mul A (sumN f n)=sumN (fun i=>mul A (f i)) n
 |0=>rfl
 |n+1=>by rw[sumN,mul_sum,mul_sumN A f n];rfl
theorem sumN_congr {f g:Nat→Lq}:∀{n},(∀i,i<n→f i=g i)→sumN f n=sumN g n
 |0,_=>rfl
 |n+1,h=>by rw[sumN,sumN,sumN_congr (n:=n) (fun i hi=>h i (by omega)),h n (by omega)]
theorem sumN_head (f:Nat→Lq):∀n,sumN f (n+1)=sum (f 0) (sumN (fun i=>f (i+1)) n)
 |0=>by rw[sumN,sumN,sumN,sum_comm]
 |n+1=>by rw[sumN,sumN_head f n,sumN,sum_assoc]
theorem sumN_cut {f:Nat→Lq} {m n:Nat} (h:m≤n) (h0:∀i,m≤i→f i=nil):sumN f n=sumN f m:=by
 induction n with
 |zero=>rw[show m=0 by omega]
 |succ n ih=>
  by_cases e:m=n+1
  ·rw[e]
  ·rw[sumN,h0 n (by omega),sum_nil,ih (by omega)]
end Lq
def WE:Nat→Nat→Nat
 |_,0=>1
 |0,_+1=>0
 |n+1,k+1=>WE n (k+1)+WE n k
def IE (c:Nat):Nat→Nat
 |0=>1
 |i+1=>IE c i*(c-i)
theorem rJ:∀n k,n<k→WE n k=0
 |0,k+1,_=>by rw[WE]
 |n+1,k+1,h=>by rw[WE,rJ n (k+1) (by omega),rJ n k (by omega)]
theorem vV (n:Nat):WE n 0=1:=by cases n<;>rfl
theorem rT (c:Nat):∀i,c<i→IE c i=0
 |i+1,h=>by
  rw[IE];by_cases e:c=i
  ·rw[e];simp
  ·rw[rT c i (by omega)];simp
def nf (n:Nat):Fq:=Fin.ofNat 101 n
theorem tM (a b:Nat):nf (a+b)=nf a+nf b:=by unfold nf;apply Fin.ext;simp[Fin.val_add]
theorem FT (a b:Nat):nf (a*b)=nf a*nf b:=by unfold nf;apply Fin.ext;simp[Fin.val_mul]
theorem nF:nf 1=1:=rfl
theorem gT:nf 0=0:=rfl
def YX (x d:Lq):Prop:=Lq.mul d x=Lq.sum (Lq.mul x d) Lq.one
theorem JS {x d:Lq} (h:YX x d):∀c,Lq.mul d (Lq.pow x c)=Lq.sum (Lq.mul (Lq.pow x c) d) (Lq.sc (nf c) (Lq.pow x (c-1)))
 |0=>by rw[gT,Lq.sc_zero,Lq.sum_nil];rfl
 |c+1=>by
  rw[Lq.pow,←Lq.mul_assoc,JS h c,Lq.sum_mul,Lq.mul_assoc,h,Lq.mul_sum,Lq.mul_one,Lq.sc_mul,←Lq.mul_assoc,Lq.sum_assoc,tM,Lq.sc_add,nF,Lq.sc_one];congr 1;show Lq.sum (Lq.pow x c) _=Lq.sum _ (Lq.pow x (c+1-1))
  rw[Lq.sum_comm];congr 1;cases c with
  |zero=>rw[gT,Lq.sc_zero,Lq.sc_zero]
  |succ c=>rfl
def wN (b c i:Nat):Nat:=WE b i*IE c i
theorem zK {x d:Lq} (h:YX x d) (c:Nat):∀b,Lq.mul (Lq.pow d b) (Lq.pow x c)=Lq.sumN (fun i=>Lq.sc (nf (wN b c i)) (Lq.mul (Lq.pow x (c-i)) (Lq.pow d (b-i)))) (b+1)
 |0=>by
  show Lq.pow x c=Lq.sum Lq.nil (Lq.sc (nf (wN 0 c 0)) (Lq.mul (Lq.pow x (c-0)) Lq.one));rw[Lq.sum_comm,Lq.sum_nil];show _=Lq.sc (nf 1) _
  rw[nF,Lq.sc_one];rfl
 |b+1=>by
  rw[Lq.pow_succ',Lq.mul_assoc,zK h c b,Lq.mul_sumN];have e1:Lq.sumN (fun i=>Lq.mul d (Lq.sc (nf (wN b c i)) (Lq.mul (Lq.pow x (c-i)) (Lq.pow d (b-i))))) (b+1)=Lq.sumN (fun i=>Lq.sum (Lq.sc (nf (wN b c i)) (Lq.mul (Lq.pow x (c-i)) (Lq.pow d (b+1-i)))) (Lq.sc (nf (wN b c i*(c-i))) (Lq.mul (Lq.pow x (c-(i+1))) (Lq.pow d (b-i))))) (b+1):=by refine Lq.sumN_congr (fun i hi=>?_);rw[Lq.mul_sc,←Lq.mul_assoc,JS h,Lq.sum_mul,Lq.sc_sum,Lq.mul_assoc,←Lq.pow_succ',Lq.sc_mul,Lq.sc_sc,FT,show b-i+1=b+1-i by omega,show c-i-1=c-(i+1) by omega]
  rw[e1,Lq.sumN_sum];rw[Lq.sumN_head (fun i=>Lq.sc (nf (wN (b+1) c i)) (Lq.mul (Lq.pow x (c-i)) (Lq.pow d (b+1-i))))];have e2:Lq.sumN (fun i=>Lq.sc (nf (wN (b+1) c (i+1))) (Lq.mul (Lq.pow x (c-(i+1))) (Lq.pow d (b+1-(i+1))))) (b+1)=Lq.sum (Lq.sumN (fun i=>Lq.sc (nf (wN b c (i+1))) (Lq.mul (Lq.pow x (c-(i+1))) (Lq.pow d (b+1-(i+1))))) (b+1)) (Lq.sumN (fun i=>Lq.sc (nf (wN b c i*(c-i))) (Lq.mul (Lq.pow x (c-(i+1))) (Lq.pow d (b-i)))) (b+1)):=by
   rw[←Lq.sumN_sum];refine Lq.sumN_congr (fun i hi=>?_);have:wN (b+1) c (i+1)=wN b c (i+1)+wN b c i*(c-i):=by unfold wN;rw[WE,IE,Nat.add_mul,Nat.mul_assoc]
   rw[this,tM,Lq.sc_add,show b+1-(i+1)=b-i by omega]
  rw[e2,←Lq.sum_assoc];congr 1;rw[show wN (b+1) c 0=wN b c 0 by simp[wN,vV],←Lq.sumN_head (fun i=>Lq.sc (nf (wN b c i)) (Lq.mul (Lq.pow x (c-i)) (Lq.pow d (b+1-i)))),Lq.sumN.eq_2 _ (b+1)];have:wN b c (b+1)=0:=by unfold wN;rw[rJ b (b+1) (by omega),Nat.zero_mul]
  rw[this,gT,Lq.sc_zero,Lq.sum_nil]
open Go.RowKit
set_option linter.unusedVariables false
def WU (n:Nat):M:=⟨((n / 4096:Nat):Int),((n / 256%16:Nat):Int),((n / 16%16:Nat):Int),((n%16:Nat):Int)⟩
def box:List M:=(List.range 65536).map WU
theorem zV {m:M} (h:m.ok=true):m∈box:=by obtain⟨x1,x2,y1,y2,d1,d2,e1,e2⟩:=M.ok_iff.1 h;refine List.mem_map.2 ⟨m.x.toNat*4096+m.y.toNat*256+m.d.toNat*16+m.e.toNat,List.mem_range.2 (by omega),?_⟩;cases m;simp only[WU,M.mk.injEq]at *;refine⟨by omega,by omega,by omega,by omega⟩
theorem sV:box.Nodup:=by unfold box;rw[List.Nodup,List.pairwise_map];refine(List.nodup_range (n:=65536)).imp (fun{a b} hab e=>hab ?_);simp only[WU,M.mk.injEq]at e;omega
theorem dL {a b:M}:gB a b=true↔a=b:=by cases a;cases b;simp[gB]
theorem pU (m:M) (v:Fq):∀S:List M,S.Nodup→m∈S→su S (fun x=>if gB m x=true then v else 0)=v
 |[],_,h=>by cases h
 |t::r,hn,h=>by
  rw[List.nodup_cons]at hn;rw[su];by_cases e:gB m t=true
  ·rw[if_pos e,nT _ r (fun s hs=>if_neg (fun e2=>hn.1 (by rw[←dL.1 e,dL.1 e2];exact hs)))]
   grind
  ·rw[if_neg e,pU m v r hn.2 (by
    rcases List.mem_cons.1 h with h|h
    ·exact absurd (dL.2 h) e
    ·exact h)]
   grind
def kK (φ:M→Fq) (L:List T):Fq:=su L (fun t=>zz t.c*φ t.m)
theorem AL (φ:M→Fq):kK φ []=0:=rfl
theorem nD (φ:M→Fq):∀{L:List T},aK L→kK φ L=su box (fun m=>zz (aL L m)*φ m)
 |[],_=>by
  rw[AL,nT];intro t _;show zz 0*φ t=0
  rw[JV];grind
 |t::r,h=>by
  have hr:=nD φ h.tail;have ht:=h.2 t (List.mem_cons_self ..)
  have h0:aL r t.m=0:=kI (List.pairwise_cons.1 h.1).1;have e:su box (fun m=>zz (aL (t::r) m)*φ m)=su box (fun m=>(if gB t.m m=true then zz t.c*φ t.m else 0)+zz (aL r m)*φ m):=by
   refine dX (fun m _=>?_);rw[aL];by_cases e:gB t.m m=true
   ·rw[if_pos e,if_pos e,←dL.1 e,h0,JV];grind
   ·rw[if_neg e,if_neg e];grind
  rw[e,xH,pU t.m _ box sV (zV ht.1),←hr];rfl
theorem IL (φ:M→Fq) {L K:List T} (hL:aK L) (hK:aK K):kK φ (cF L K)=kK φ L+kK φ K:=by have h:=cV hL hK;rw[nD φ h.1,nD φ hL,nD φ hK,←xH];refine dX (fun m _=>?_);rw[h.2,jU,GR];grind
theorem XM (φ:M→Fq) (c:Int) (L:List T):kK φ (kE c L)=zz c*kK φ L:=by
 unfold kK;rw[nS,tW,←GO];refine dX (fun t _=>?_);show zz (c*t.c%101)*φ t.m=_
 rw[jU,mD];grind
theorem UN (φ:M→Fq) {L:List T} (hL:aK L) {c:Int} {m:M} (hm:m.ok=true) (c0:0≤c) (c1:c≤100):kK φ (jD c m L)=kK φ L+zz c*φ m:=by
 have h:=qX hL hm c0 c1;have e:su box (fun x=>zz (aL (jD c m L) x)*φ x)=su box (fun x=>(if gB m x=true then zz c*φ m else 0)+zz (aL L x)*φ x):=by
  refine dX (fun x _=>?_);rw[h.2,lD];by_cases e:x=m
  ·rw[if_pos (eN.2 e),if_pos (dL.2 e.symm),jU,GR,e];grind
  ·rw[if_neg (fun q=>e (eN.1 q)),if_neg (fun q=>e (dL.1 q).symm)];grind
 rw[nD φ h.1,e,xH,pU m _ box sV (zV hm),nD φ hL]
 grind
theorem qR (φ:M→Fq):∀(xs:List T) {L:List T},YW xs→aK L→kK φ (eX xs L)=kK φ L+kK φ xs
 |[],L,_,hL=>by show kK φ L=kK φ L+0;grind
 |t::r,L,hx,hL=>by
  have h1:=hx t (List.mem_cons_self ..);show kK φ (eX r (jD t.c t.m L))=_
  rw[qR φ r (fun s hs=>hx s (List.mem_cons_of_mem _ hs)) (qX hL h1.1 h1.2.1 h1.2.2).1,UN φ hL h1.1 h1.2.1 h1.2.2];show _=kK φ L+(zz t.c*φ t.m+kK φ r)
  grind
theorem UO (φ ψ:M→Fq) (L:List T):kK (fun m=>φ m+ψ m) L=kK φ L+kK ψ L:=by unfold kK;rw[←xH];exact dX (fun t _=>by grind)
theorem UM (c:Fq) (φ:M→Fq) (L:List T):kK (fun m=>c*φ m) L=c*kK φ L:=by unfold kK;rw[←GO];exact dX (fun t _=>by grind)
structure sS where
 x:Lq
 y:Lq
 d:Lq
 e:Lq
 wx:YX x d
 wy:YX y e
 xy:Lq.Com x y
 xe:Lq.Com x e
 dy:Lq.Com d y
 de:Lq.Com d e
def mo (g:sS) (m:M):Lq:=Lq.mul (Lq.mul (Lq.pow g.x m.x.toNat) (Lq.pow g.y m.y.toNat)) (Lq.mul (Lq.pow g.d m.d.toNat) (Lq.pow g.e m.e.toNat))
def Rp (g:sS) (L:List T):Lq:=⟨fun u n k=>kK (fun m=>(mo g m).f u n k) L,fun u v=>by
 funext n k;show kK (fun m=>(mo g m).f (va u v) n k) L=_
 rw[show(fun m=>(mo g m).f (va u v) n k)=(fun m=>(mo g m).f u n k+(mo g m).f v n k)from funext fun m=>by rw[(mo g m).add];rfl,UO];rfl,fun c u=>by
 funext n k;show kK (fun m=>(mo g m).f (vs c u) n k) L=_
 rw[show(fun m=>(mo g m).f (vs c u) n k)=(fun m=>c*(mo g m).f u n k)from funext fun m=>by rw[(mo g m).smul];rfl,UM]
 rfl⟩
theorem lP (g:sS):Rp g []=Lq.nil:=rfl
theorem qH (g:sS) {L K:List T} (hL:aK L) (hK:aK K):Rp g (cF L K)=Lq.sum (Rp g L) (Rp g K):=Lq.ext fun u n k=>IL (fun m=>(mo g m).f u n k) hL hK
theorem CD (g:sS) (c:Int) (L:List T):Rp g (kE c L)=Lq.sc (zz c) (Rp g L):=Lq.ext fun u n k=>XM (fun m=>(mo g m).f u n k) c L
theorem oI (g:sS) {L K:List T} (hL:aK L) (hK:aK K):Rp g (cQ L K)=Lq.sum (Rp g L) (Lq.sc (zz 100) (Rp g K)):=by unfold cQ;rw[qH g hL (gG (by omega) (by omega) hK),CD]
theorem vN (g:sS) (t:T):Rp g [t]=Lq.sc (zz t.c) (mo g t.m):=Lq.ext fun u n k=>by
 show zz t.c*_+0=zz t.c*_
 grind
theorem BP (f:Nat→Lq) (u:Vq) (p q:Nat):∀n,(Lq.sumN f n).f u p q=su (List.range n) (fun i=>(f i).f u p q)
 |0=>rfl
 |n+1=>by
  rw[List.range_succ,kM,←BP f u p q n];show _+_=_+(_+0)
  grind
theorem YJ {b c i:Nat} (h:min b c<i):wN b c i=0:=by
 unfold wN;by_cases hb:b<i
 ·rw[rJ b i hb,Nat.zero_mul]
 ·rw[rT c i (by omega),Nat.mul_zero]
theorem pQ {x d:Lq} (h:YX x d) (b c:Nat):Lq.mul (Lq.pow d b) (Lq.pow x c)=Lq.sumN (fun i=>Lq.sc (nf (wN b c i)) (Lq.mul (Lq.pow x (c-i)) (Lq.pow d (b-i)))) (min b c+1):=by rw[zK h];refine Lq.sumN_cut (by omega) (fun i hi=>?_);rw[YJ (by omega),gT,Lq.sc_zero]
open Go.RowKit Go.Sort
structure Gr (w u:World):Prop where
 below:Below w.heap.size w u
 drawn:w.drawn≤u.drawn
theorem Gr.refl (w:World):Gr w w:=⟨cE _ _,Nat.le_refl _⟩
theorem Gr.trans {a b c:World} (h:Gr a b) (k:Gr b c):Gr a c:=⟨h.below.trans (k.below.mono h.below.size),jW h.drawn k.drawn⟩
theorem Gr.alloc (w:World) (o:Obj):Gr w (w.alloc o):=⟨aC w o,by simp⟩
theorem Gr.drew (w:World):Gr w w.drew:=⟨(cE _ _).drew,by simp⟩
theorem Gr.form {w u:World} (h:Gr w u):∃q os,u=grow (w.drewN q) os:=by
 refine⟨u.drawn-w.drawn,u.heap.extract w.heap.size u.heap.size,?_⟩;obtain⟨⟨h1,h2,h3,h4,h5⟩,h6⟩:=h;cases u with
 |mk heap tape drawn os output=>
  simp only at h1 h2 h3 h4 h5 h6;subst h1 h2 h3;have hh:w.heap++heap.extract w.heap.size heap.size=heap:=by
   apply Array.ext_getElem?;intro i;by_cases hi:i<w.heap.size
   ·rw[Array.getElem?_append_left hi,h5 i hi]
   ·rw[Array.getElem?_append_right (by omega),Array.getElem?_extract];split
    ·congr 1;omega
    ·exact(Array.getElem?_eq_none (by omega)).symm
  have hd:w.drawn+(drawn-w.drawn)=drawn:=by omega
  simp only[grow,World.drewN];rw[hh,hd]
def kP (w:World):Type:=Subtype (fun u:World=>Gr w u)
theorem kP.there (w:World):Nonempty (kP w):=⟨⟨w,Gr.refl _⟩⟩
theorem pB {P:Program} {id:Nat} {Q:Exit→Act→World→Prop} {a:Act} {w:World} {l:List Oper} (hm:P.follows .mixedOrders=true) (hB:Region.lexB .any l.toArray=true) (h:wpQuiet P l.toArray (fun u=>∃x:kP w,u=x.1) (fun a'=>∀w',(∃x:kP w,w'=x.1)→Q .normal a' w') l a):(Code.region id l.toArray true).wp P Q a w:=
 wp_region_quiet (C:=fun u=>∃x:kP w,u=x.1) hm hB ⟨⟨_,Gr.drew _⟩,rfl⟩ (by simpa using h)
theorem KX {P:Program} {f:FuncId} {args:Array Value} {w:World} {x:kP w} {v:Value} (h:Calls P f args x.1 fun e w'=>e= .returned v∧w'=x.1):Calls P f args x.1 fun e w''=>e= .returned v∧∃y:kP w,w''=y.1:=
 h.mono fun _ _ ⟨he,hm⟩=>⟨he,x,hm⟩
theorem mW {P:Program} {f:FuncId} {args:Array Value} {w:World} {x:kP w} {v:Value} (h:Calls P f args x.1 fun e w'=>e= .returned v∧Gr x.1 w'):Calls P f args x.1 fun e w''=>e= .returned v∧∃y:kP w,w''=y.1:=
 h.mono fun _ w' ⟨he,hm⟩=>⟨he,⟨w',x.2.trans hm⟩,rfl⟩
theorem rO {w:World} {t:TypeId} (cs:Array Value) (k:Nat) (v:Value) (h:cs[k]? =some v):∀u:kP (w.alloc (.cells cs t)),u.1.cell? ⟨w.heap.size,k,none⟩=some v:=fun u=>by
 have:=jY (w:=w) (t:=t) cs k v h ⟨u.1,u.2.below⟩;exact this
theorem TL (x y d e:Int) (w:World) (h:M.ok ⟨x,y,d,e⟩=true):Calls Tryz.prog 138 #[.agg #[.int .i64 x,.int .i64 y,.int .i64 d,.int .i64 e]] w fun r w'=>r= .returned (.int .i64 (x+y+d+e))∧Gr w w':=by obtain⟨x1,x2,y1,y2,d1,d2,e1,e2⟩:=M.ok_iff.1 h;simp only at x1 x2 y1 y2 d1 d2 e1 e2;clear h;go_enter Tryz.func138,Tryz.ntmps138;go_wp2;go_ret;exact⟨rfl,Gr.alloc w _⟩
theorem QM (x y d e:Int) (w:World) (h:M.ok ⟨x,y,d,e⟩=true):Calls Tryz.prog 114 #[.agg #[.int .i64 x,.int .i64 y,.int .i64 d,.int .i64 e]] w fun r w'=>r= .returned (.int .i64 (fK ⟨x,y,d,e⟩))∧Gr w w':=by obtain⟨x1,x2,y1,y2,d1,d2,e1,e2⟩:=M.ok_iff.1 h;simp only at x1 x2 y1 y2 d1 d2 e1 e2;clear h;simp only[fK];go_enter Tryz.func114,Tryz.ntmps114;go_wp2;go_ret;exact⟨rfl,Gr.alloc w _⟩
theorem DW (x y d e:Int) (w:World) (h:M.ok ⟨x,y,d,e⟩=true):Calls Tryz.prog 97 #[.agg #[.int .i64 x,.int .i64 y,.int .i64 d,.int .i64 e]] w fun r w'=>r= .returned (.int .i64 (dY ⟨x,y,d,e⟩))∧Gr w w':=by
 obtain⟨x1,x2,y1,y2,d1,d2,e1,e2⟩:=M.ok_iff.1 h;simp only at x1 x2 y1 y2 d1 d2 e1 e2;have HK:=aA h
 have k1:0≤fK ⟨x,y,d,e⟩:=by simp only[fK];omega
 have k2:fK ⟨x,y,d,e⟩≤65535:=by simp only[fK];omega
 have r1:dY ⟨x,y,d,e⟩=(x+y+d+e)*65536+fK ⟨x,y,d,e⟩:=rfl;rw[r1];clear h r1;go_enter Tryz.func97,Tryz.ntmps97;go_wp2_with fail;have B1:=aA (Gr.alloc w (.cells #[.int .i64 x,.int .i64 y,.int .i64 d,.int .i64 e] 45))
 have ne:=kP.there (w.alloc (.cells #[.int .i64 x,.int .i64 y,.int .i64 d,.int .i64 e] 45));have s0:=rO (w:=w) (t:=45) #[.int .i64 x,.int .i64 y,.int .i64 d,.int .i64 e] 0 _ rfl
 have s1:=rO (w:=w) (t:=45) #[.int .i64 x,.int .i64 y,.int .i64 d,.int .i64 e] 1 _ rfl;have s2:=rO (w:=w) (t:=45) #[.int .i64 x,.int .i64 y,.int .i64 d,.int .i64 e] 2 _ rfl
 have s3:=rO (w:=w) (t:=45) #[.int .i64 x,.int .i64 y,.int .i64 d,.int .i64 e] 3 _ rfl;refine pB (by kernel_rfl) (by kernel_rfl) ?_;repeat(go_big_quiet_step (first|(go_at_call 138;exact mW (TL _ _ _ _ _ HK.out))|(go_at_call 114;exact mW (QM _ _ _ _ _ HK.out))))
 refine wpQuiet_nil ?_;rintro _ ⟨u,rfl⟩;go_wp2;go_ret;exact⟨rfl,B1.out.trans u.2⟩
theorem kP.cell {w:World} (x:kP w) {b o:Nat} (h:b<w.heap.size):x.1.cell? ⟨b,o,none⟩=w.cell? ⟨b,o,none⟩:=x.2.below.cell (p:=⟨b,o,none⟩) h
theorem FA (Br:Nat) (x y d e x' y' d' e':Int) (w:World) (h:M.ok ⟨x,y,d,e⟩=true) (h':M.ok ⟨x',y',d',e'⟩=true) (hB:Br<w.heap.size) (hr:w.cell? ⟨Br,0,none⟩=some (.func (.func 97) #[] #[])):Calls Tryz.prog 144 #[.agg #[.int .i64 x,.int .i64 y,.int .i64 d,.int .i64 e],.agg #[.int .i64 x',.int .i64 y',.int .i64 d',.int .i64 e'],.pointer (some ⟨Br,0,none⟩)] w fun r w'=>r= .returned (.int .i64 (c3 (dY ⟨x,y,d,e⟩) (dY ⟨x',y',d',e'⟩)))∧Gr w w':=by
 have HA:=aA h;have HB:=aA h'
 clear h h';go_enter Tryz.func144,Tryz.ntmps144;go_wp2_with fail;have B1:=aA ((Gr.alloc w (.cells #[.int .i64 x,.int .i64 y,.int .i64 d,.int .i64 e] 45)).trans (Gr.alloc _ (.cells #[.int .i64 x',.int .i64 y',.int .i64 d',.int .i64 e'] 45)))
 have r0:((w.alloc (.cells #[.int .i64 x,.int .i64 y,.int .i64 d,.int .i64 e] 45)).alloc (.cells #[.int .i64 x',.int .i64 y',.int .i64 d',.int .i64 e'] 45)).cell? ⟨Br,0,none⟩=some (.func (.func 97) #[] #[]):=(B1.out.below.cell (p:=⟨Br,0,none⟩) hB).trans hr;have a0:((w.alloc (.cells #[.int .i64 x,.int .i64 y,.int .i64 d,.int .i64 e] 45)).alloc (.cells #[.int .i64 x',.int .i64 y',.int .i64 d',.int .i64 e'] 45)).cell? ⟨w.heap.size,0,none⟩=some (.int .i64 x):=by go_simp
 have a1:((w.alloc (.cells #[.int .i64 x,.int .i64 y,.int .i64 d,.int .i64 e] 45)).alloc (.cells #[.int .i64 x',.int .i64 y',.int .i64 d',.int .i64 e'] 45)).cell? ⟨w.heap.size,1,none⟩=some (.int .i64 y):=by go_simp
 have a2:((w.alloc (.cells #[.int .i64 x,.int .i64 y,.int .i64 d,.int .i64 e] 45)).alloc (.cells #[.int .i64 x',.int .i64 y',.int .i64 d',.int .i64 e'] 45)).cell? ⟨w.heap.size,2,none⟩=some (.int .i64 d):=by go_simp
 have a3:((w.alloc (.cells #[.int .i64 x,.int .i64 y,.int .i64 d,.int .i64 e] 45)).alloc (.cells #[.int .i64 x',.int .i64 y',.int .i64 d',.int .i64 e'] 45)).cell? ⟨w.heap.size,3,none⟩=some (.int .i64 e):=by go_simp
 have b0:((w.alloc (.cells #[.int .i64 x,.int .i64 y,.int .i64 d,.int .i64 e] 45)).alloc (.cells #[.int .i64 x',.int .i64 y',.int .i64 d',.int .i64 e'] 45)).cell? ⟨w.heap.size+1,0,none⟩=some (.int .i64 x'):=by go_simp
 have b1:((w.alloc (.cells #[.int .i64 x,.int .i64 y,.int .i64 d,.int .i64 e] 45)).alloc (.cells #[.int .i64 x',.int .i64 y',.int .i64 d',.int .i64 e'] 45)).cell? ⟨w.heap.size+1,1,none⟩=some (.int .i64 y'):=by go_simp
 have b2:((w.alloc (.cells #[.int .i64 x,.int .i64 y,.int .i64 d,.int .i64 e] 45)).alloc (.cells #[.int .i64 x',.int .i64 y',.int .i64 d',.int .i64 e'] 45)).cell? ⟨w.heap.size+1,2,none⟩=some (.int .i64 d'):=by go_simp
 have b3:((w.alloc (.cells #[.int .i64 x,.int .i64 y,.int .i64 d,.int .i64 e] 45)).alloc (.cells #[.int .i64 x',.int .i64 y',.int .i64 d',.int .i64 e'] 45)).cell? ⟨w.heap.size+1,3,none⟩=some (.int .i64 e'):=by go_simp
 have z:((w.alloc (.cells #[.int .i64 x,.int .i64 y,.int .i64 d,.int .i64 e] 45)).alloc (.cells #[.int .i64 x',.int .i64 y',.int .i64 d',.int .i64 e'] 45)).heap.size=w.heap.size+2:=by simp
 generalize(w.alloc (.cells #[.int .i64 x,.int .i64 y,.int .i64 d,.int .i64 e] 45)).alloc (.cells #[.int .i64 x',.int .i64 y',.int .i64 d',.int .i64 e'] 45)=wb at *;have ne:=kP.there wb
 have sr:∀u:kP wb,u.1.cell? ⟨Br,0,none⟩=some (.func (.func 97) #[] #[]):=fun u=>(u.cell (by omega)).trans r0;have s0:∀u:kP wb,u.1.cell? ⟨w.heap.size,0,none⟩=some (.int .i64 x):=fun u=>(u.cell (by omega)).trans a0
 have s1:∀u:kP wb,u.1.cell? ⟨w.heap.size,1,none⟩=some (.int .i64 y):=fun u=>(u.cell (by omega)).trans a1;have s2:∀u:kP wb,u.1.cell? ⟨w.heap.size,2,none⟩=some (.int .i64 d):=fun u=>(u.cell (by omega)).trans a2
 have s3:∀u:kP wb,u.1.cell? ⟨w.heap.size,3,none⟩=some (.int .i64 e):=fun u=>(u.cell (by omega)).trans a3;have t0:∀u:kP wb,u.1.cell? ⟨w.heap.size+1,0,none⟩=some (.int .i64 x'):=fun u=>(u.cell (by omega)).trans b0
 have t1:∀u:kP wb,u.1.cell? ⟨w.heap.size+1,1,none⟩=some (.int .i64 y'):=fun u=>(u.cell (by omega)).trans b1;have t2:∀u:kP wb,u.1.cell? ⟨w.heap.size+1,2,none⟩=some (.int .i64 d'):=fun u=>(u.cell (by omega)).trans b2
 have t3:∀u:kP wb,u.1.cell? ⟨w.heap.size+1,3,none⟩=some (.int .i64 e'):=fun u=>(u.cell (by omega)).trans b3;clear a0 a1 a2 a3 b0 b1 b2 b3 r0;refine pB (by kernel_rfl) (by kernel_rfl) ?_;repeat(go_big_quiet_step (first|(go_at_call 72;exact KX (NY _ _ _))|(go_at_call_of 97 (Value.int IntKind.i64 x);exact mW (DW _ _ _ _ _ HA.out))|(go_at_call 97;exact mW (DW _ _ _ _ _ HB.out))))
 refine wpQuiet_nil ?_;rintro _ ⟨u,rfl⟩;go_wp2;go_ret;exact⟨rfl,B1.out.trans u.2⟩
open Go.RowKit Go.Sort Go.Shelf Go.Lib
abbrev OM:Type:={m:M // m.ok=true}
def dZ (m:OM):List Value:=[.int .i64 m.1.x,.int .i64 m.1.y,.int .i64 m.1.d,.int .i64 m.1.e]
instance:Inhabited OM:=⟨⟨⟨0,0,0,0⟩,by decide⟩⟩
theorem NW (Br blk off size:Nat) (w:World) (hB:Br<w.heap.size) (hne:Br≠blk) (hr:w.cell? ⟨Br,0,none⟩=some (.func (.func 97) #[] #[])):CmpLays Tryz.prog 144 #[.pointer (some ⟨Br,0,none⟩)] dZ 4 (fun x y=>c3 (dY x.1) (dY y.1)) blk off size w:=by
 intro m os dk hdk x y;have hr':(sortWorldK dZ 4 w blk off m dk os).cell? ⟨Br,0,none⟩=some (.func (.func 97) #[] #[]):=by unfold sortWorldK;rw[cell?_grow _ _ _ (by rw[size_putRowK];exact hB),cell?_putRowK_other _ _ _ blk off dk _ hne];exact hr
 have hB':Br<(sortWorldK dZ 4 w blk off m dk os).heap.size:=by unfold sortWorldK;rw[size_grow,size_putRowK];exact lG hB (Nat.le_add_right _ _)
 refine(FA Br _ _ _ _ _ _ _ _ _ x.2 y.2 hB' hr').mono ?_;rintro e w' ⟨rfl,hg⟩;exact⟨rfl,hg.form⟩
theorem Ar (x y:OM):ltOf (fun x y:OM=>c3 (dY x.1) (dY y.1)) x y=decide (dY x.1<dY y.1):=by
 unfold ltOf c3;by_cases h1:dY x.1<dY y.1
 ·simp[h1]
 ·by_cases h2:dY y.1<dY x.1<;>simp[h1,h2]
theorem Bu:SWO (ltOf fun x y:OM=>c3 (dY x.1) (dY y.1)) where
 irrefl x:=by rw[Ar];simp
 trans x y z h1 h2:=by rw[Ar]at *;simp at *;omega
 ntrans x y z h1 h2:=by rw[Ar]at *;simp at *;omega
shelf_lay_g SlLaysF0.n6 Slsf 6 at Tryz 163 as sortM
end Go.Proofs.YtncffcaabnjioaaGreat
namespace Go.Proofs.YtncffcaabnjioaaGreat
open Go.RowKit Go.Maps Go.Sort
set_option linter.unusedVariables false
abbrev KV (m:M):Value:=.agg #[.int .i64 m.x,.int .i64 m.y,.int .i64 m.d,.int .i64 m.e]
def kO (D0:DataW Unit) (left:Lit→Bool) (ss:List M):Prop:=ss.Nodup∧(∀m∈ss,m.ok=true)∧∀m:M,m.ok=true→(m∈ss↔(Maps.has D0 (dK m)=true∧left (dK m)=false))
theorem kO.start (D0:DataW Unit):kO D0 (Maps.has D0) []:=⟨List.nodup_nil,fun m h=>by simp at h,fun m hm=>by cases Maps.has D0 (dK m)<;>simp⟩
theorem yR {a b:M}:(dK a).sameKey (dK b)=true↔dK a=dK b:=by simp[dK,Lit.sameKey]
theorem kO.step {D0:DataW Unit} {left:Lit→Bool} {ss:List M} (h:kO D0 left ss) {x:M} (hx:x.ok=true) {y:DataW Unit} (hlk:left (dK x)=true) (hat:∀zd,D0.atKey (dK x) zd=y):kO D0 (fun z=>left z&& !z.sameKey (dK x)) (ss++[x]):=by
 have hhas:Maps.has D0 (dK x)=true:=has_true_of_atKey hat;have hnew:x∉ss:=fun hx'=>by have:=((h.2.2 x hx).1 hx').2;rw[hlk]at this;cases this
 refine⟨List.nodup_append.2 ⟨h.1,by simp,fun a ha b hb=>by simp at hb;subst hb;exact fun e=>hnew (e▸ha)⟩,fun m hm=>?_,fun m hm=>?_⟩
 ·rcases List.mem_append.1 hm with h1|h1
  ·exact h.2.1 m h1
  ·simp at h1;rw[h1];exact hx
 ·by_cases hy:m=x
  ·subst hy;have:(dK m).sameKey (dK m)=true:=yR.2 rfl
   simp[hhas,this]
  ·have hne:(dK m).sameKey (dK x)=false:=by
    cases hb:(dK m).sameKey (dK x)with
    |false=>rfl
    |true=>exact absurd (rZ hm hx (yR.1 hb)) hy
   simp[h.2.2 m hm,hy,hne]
theorem XI {F:Fence} {n:Nat} (h10:F.fn 164) (hro:F.round=none) (hn:1≤n) (l Bm b nn:Nat) (D0:DataW Unit) (J:List M→World→Prop) (hks:∀kl,Maps.has D0 kl=true→∃m:M,m.ok=true∧kl=dK m) (hY:∀pre x W,J pre W→pre.length<Maps.size D0→YieldAt F (n-1) Tryz.prog l #[KV x] W fun e W'=>e= .returned (.bool true)∧J (pre++[x]) W'∧KeepsWalks W W') (W:World) (hJ:AbidesFrom W.heap.size J) (hm:W.cell? ⟨Bm,0,none⟩=some (.map (some b))) (hown:W.ownsMap Tryz.prog 45 (plainElem Tryz.prog 81) b nn D0) (h0:J [] W):CallsIn F n Tryz.prog 164 #[.func (.yield l) #[] #[],.pointer (some ⟨Bm,0,none⟩)] W fun e W'=>(∃v,e= .returned v)∧∃ss:List M,(ss.Nodup∧(∀m∈ss,m.ok=true)∧∀m:M,m.ok=true→(m∈ss↔Maps.has D0 (dK m)=true))∧ss.length≤Maps.size D0∧J ss W':=by
 refine callsIn_of_wp Tryz.func164 rfl h10 ?_ hro;simp only[Tryz.ntmps164,List.size_toArray,List.length_cons,List.length_nil,Nat.reduceAdd,Nat.reduceSub,Array.replicate_succ,Array.replicate_zero,List.push_toArray,List.append_toArray,List.nil_append,List.cons_append]
 gi_wp2_with (first
  |(gi_at_range;refine wpListIn_range_own _ rfl _ 76 rfl 45 81 jZ Tryz.underlying76 _ b nn _ rfl hown ?_;intro w0 hrg0 hg0 hs0)
  |gi_in)
 go_frame
 gi_loopw [3] (fun _ wr=>∃(left:Lit→Bool) (vW:Nat) (ss:List M),wr.ranges Tryz.prog 45 (plainElem Tryz.prog 81) b W.heap.size nn D0 left vW∧ss.length+vW≤Maps.size D0∧kO D0 left ss∧J ss wr)
  (fun _ wr=>wr.rangeLeft b W.heap.size)
 case atStart=>
  exact⟨_,_,[],hrg0,by simp,kO.start D0,hJ [] W w0 none h0 hg0 (fun r e=>by cases e)⟩
 case round=>
  obtain⟨left,vW,ss,hrg,hcs,hC,hJs⟩:=hrel
  gi_wp2_with (first
   |(gi_at_next;refine wpListIn_next_ranges _ rfl _ rfl 45 jZ (plainElem Tryz.prog 81) (id:Value→Value) id (fun key kl hk=>⟨key,rfl⟩) (fun v _ _=>⟨v,rfl⟩) b W.heap.size nn _ _ _ rfl hrg ?_ ?_)
   |gi_in)
  ·intro hc0 hl0
   gi_wp2
   go_end0
   exact⟨⟨_,rfl⟩,ss,⟨hC.1,hC.2.1,fun m hm=>by rw[hC.2.2 m hm,hl0];simp⟩,by omega,hJs⟩
  ·intro x c kl yd yp w2 cnt2 hkey hlk hv hat hrg2 hlt hg2 hs2 hen;obtain⟨m,hmo,rfl⟩:=hks kl (has_true_of_atKey hat);obtain rfl:x=KV m:=jZ.inj hkey (lU hmo);have hJ2:J ss w2:=hJ ss wr w2 (some W.heap.size) hJs hg2 (fun r e=>by cases e;exact⟨Nat.le_refl _,hrg.iter_walk⟩)
   have hJ3:=hJ ss w2 _ none hJ2 (World.grownBy_alloc w2 (.cells #[.int .i64 m.x,.int .i64 m.y,.int .i64 m.d,.int .i64 m.e] 45) none) (fun r e=>by cases e);have hrg2':=hrg2.of_walks (KeepsWalks.alloc w2 (.cells #[.int .i64 m.x,.int .i64 m.y,.int .i64 m.d,.int .i64 m.e] 45))
   have hlt':(w2.alloc (.cells #[.int .i64 m.x,.int .i64 m.y,.int .i64 m.d,.int .i64 m.e] 45)).rangeLeft b W.heap.size=cnt2:=hrg2'.left_eq;obtain⟨fn,tmps,assign,body,hy,hR⟩:=hY ss m _ hJ3 (by omega);clear hs2
   gi_wp2
   refine hR.mono ?_;rintro e W3 ⟨rfl,hJ4,hk3⟩
   gi_wp2
   have hrg3:=hrg2'.of_walks hk3;go_roundw;case rel=>exact⟨_,cnt2,ss++[m],hrg3,by simp;omega,hC.step hmo hlk hat,hJ4⟩
   case measure=>rw[hrg3.left_eq,hrg.left_eq];exact hlt
def EU (D0:DataW Unit) (ss:List M):Prop:=ss.Nodup∧(∀m∈ss,m.ok=true)∧(∀m:M,m.ok=true→(m∈ss↔Maps.has D0 (dK m)=true))∧ss.length≤Maps.size D0
theorem LL {F:Fence} {n:Nat} (h10:F.fn 164) (hro:F.round=none) (hn:1≤n) (Bm b nn:Nat) (D0:DataW Unit) (w:World) (hBm:Bm<w.heap.size) (hks:∀kl,Maps.has D0 kl=true→∃m:M,m.ok=true∧kl=dK m) (hm:w.cell? ⟨Bm,0,none⟩=some (.map (some b))) (hown:w.ownsMap Tryz.prog 45 (plainElem Tryz.prog 81) b nn D0):SeqGives F n Tryz.prog 164 #[.pointer (some ⟨Bm,0,none⟩)] KV (EU D0) (Maps.size D0) w:=fun l J W hW hJ hY h0=>by
 have hown':W.ownsMap Tryz.prog 45 (plainElem Tryz.prog 81) b nn D0:=by have hbl:=hown.lt;obtain⟨es,clock,hb,Ft,hs,hD⟩:=hown;exact⟨es,clock,(hW.block b hbl).trans hb,Ft,hs,hD⟩
 refine(XI h10 hro hn l Bm b nn D0 J hks hY W hJ ((hW.cell (p:=⟨Bm,0,none⟩) hBm).trans hm) hown' h0).mono ?_;rintro e W' ⟨h1,ss,⟨h2,h3,h4⟩,h5,h6⟩;exact⟨h1,ss,⟨h2,h3,h4,h5⟩,h6⟩
theorem ZJ {F:Fence} {n:Nat} (h7:F.fn 143) (hro:F.round=none) (mb:Option Nat) (w:World):CallsIn F n Tryz.prog 143 #[.map mb] w fun e w'=>e= .returned (.func (.func 164) #[] #[.pointer (some ⟨w.heap.size,0,none⟩)])∧w'=w.alloc (.cells #[.map mb] 76):=by
 refine callsIn_of_wp Tryz.func143 rfl h7 ?_ hro;simp only[Tryz.ntmps143,List.size_toArray,List.length_cons,List.length_nil,Nat.reduceAdd,Nat.reduceSub,Array.replicate_succ,Array.replicate_zero,List.push_toArray,List.append_toArray,List.nil_append,List.cons_append]
 gi_wp2
 go_ret;exact⟨rfl,rfl⟩
end Go.Proofs.YtncffcaabnjioaaGreat
