/-
  Operators as lists: sums, differences, so many times, the most that is counted.
-/
import Derived.Test.YtdidlcjhodejjaaGreatUaj
import Derived.Test.YtdidlcjhodejjaaGreatUad
import Derived.Test.YtdidlcjhodejjaaGreatUag
import Derived.Test.YtdidlcjhodejjaaGreatUaa
import Derived.Test.YtdidlcjhodejjaaGreatUab
import Derived.Sort.Row
import Derived.Shelf.SlSortCmp.QuietGrown
namespace Go.Proofs.YtdidlcjhodejjaaGreat
open Go.RowKit
set_option linter.unusedVariables false
def RL (w:World) (a:Option Addr) (c:Nat) (L:List T):Prop:=Rd w a L.length c (lf L)
theorem RL.below {w w':World} {a:Option Addr} {c:Nat} {L:List T} (h:RL w a c L) (hb:Below w.heap.size w w'):RL w' a c L:=Rd.below h hb
theorem lf_eq {L:List T} {i:Nat} (h:i<L.length):lf L i=L[i]:=by unfold lf;rw [List.getD_eq_getElem?_getD,List.getElem?_eq_getElem h];rfl
def okL (L:List T):Bool:=polOk L.length (lf L)
theorem okL_falls {L:List T} (h:okL L=true):L.length≤400∧Falls L:=by
 have hF:=fl_of_ok h
 have hl:L.length≤400:=by unfold okL at h;simp only [polOk,decide_eq_true_eq] at h;exact h.1
 refine ⟨hl,List.pairwise_iff_getElem.2 (fun i j hi hj hij=>?_),fun t ht=>?_⟩
 ·have:=hF.1 i j hij hj
  rwa [lf_eq hi,lf_eq hj] at this
 ·obtain ⟨i,hi,rfl⟩:=List.mem_iff_getElem.1 ht
  have:=hF.2 i hi
  rwa [lf_eq hi] at this
theorem okL_of {L:List T} (hl:L.length≤400) (h:Falls L):okL L=true:=by
 unfold okL polOk
 rw [decide_eq_true_eq]
 refine ⟨hl,fun i hi=>?_⟩
 have h1:=h.2 (L[i]) (List.getElem_mem hi)
 simp only [okAt,Bool.and_eq_true,Bool.or_eq_true,decide_eq_true_eq]
 rw [lf_eq hi]
 refine ⟨⟨h1.2,h1.1⟩,?_⟩
 by_cases h0:i=0
 ·exact .inl h0
 ·refine .inr ?_
  have hi1:i - 1<L.length:=by omega
  rw [lf_eq hi1]
  exact (ord_pos (h.2 _ (List.getElem_mem hi1)).1 h1.1).2 ((List.pairwise_iff_getElem.1 h.1) (i - 1) i hi1 hi (by omega))
theorem okL_nil:okL []=true:=okL_of (by simp) falls_nil
theorem addL_len (L K:List T):(addL L K).length≤L.length+K.length:=by have:=addT_len (lf L) L.length (lf K) K.length 0 0;simpa [addL] using this
theorem coef_nil (m:M):coef [] m=0:=rfl
def scL (c:Int) (L:List T):List T:=scT c (lf L) L.length
theorem scL_len (c:Int) (L:List T):(scL c L).length=L.length:=scT_len _ _ _
theorem scL_map (c:Int) (L:List T):scL c L=L.map (fun t=>⟨c * t.c % 101,t.m⟩):=by
 refine List.ext_getElem (by simp [scL_len]) (fun i h1 h2=>?_)
 have hi:i<L.length:=by rw [scL_len] at h1;exact h1
 rw [← lf_eq h1,scL,lf_scT _ _ _ _ hi,lf_eq hi]
 simp
theorem scL_falls {c:Int} {L:List T} (c1:1≤c) (c2:c≤100) (h:Falls L):Falls (scL c L):=by
 rw [scL_map]
 refine ⟨by rw [List.pairwise_map];exact h.1,fun t ht=>?_⟩
 obtain ⟨s,hs,rfl⟩:=List.mem_map.1 ht
 have hr:=h.2 s hs
 have hne:=fMul_ne (a:=c) (b:=s.c) (by omega) (by omega) (by omega) (by omega)
 rw [fMul_in (by omega) c2 (by omega) hr.2.2] at hne
 exact ⟨hr.1,by show 1≤c * s.c % 101;omega,by show c * s.c % 101≤100;omega⟩
theorem scL_coef (c:Int) (m:M):∀ L:List T,coef (scL c L) m=c * coef L m % 101:=by
 intro L
 rw [scL_map]
 induction L with
 | nil=>simp [coef]
 | cons t r ih=>
  rw [List.map_cons,coef,coef]
  split
  ·rfl
  ·exact ih
def scV (c:Int) (L:List T):List T:=polScale c (lf L) L.length
theorem scV_is {c:Int} {L:List T} (c1:1≤c) (c2:c≤100) (h:okL L=true):scV c L=scL c L:=if_pos ⟨by omega,h,by omega⟩
def subL (L K:List T):List T:=addL L (scL 100 K)
def subV (L K:List T):List T × Bool:=polSub (lf L) L.length (lf K) K.length
theorem subT_is (L K:List T):addT (lf L) L.length (negT (lf K) K.length) K.length 0 0=subL L K:=by
 unfold subL addL
 rw [scL_len]
 rfl
theorem subV_ok {L K:List T} (hL:okL L=true) (hK:okL K=true) (h:(subL L K).length≤400):subV L K=(subL L K,true):=by
 unfold subV polSub
 rw [subT_is]
 exact if_pos ⟨hL,hK,h⟩
theorem subV_case (L K:List T):subV L K=([],false)∨(okL L=true∧okL K=true∧(subL L K).length≤400∧subV L K=(subL L K,true)):=by
 by_cases h:okL L=true∧okL K=true∧(subL L K).length≤400
 ·exact .inr ⟨h.1,h.2.1,h.2.2,subV_ok h.1 h.2.1 h.2.2⟩
 ·refine .inl ?_
  unfold subV polSub
  rw [subT_is]
  exact if_neg h
theorem subL_len (L K:List T):(subL L K).length≤L.length+K.length:=by have:=addL_len L (scL 100 K);rw [scL_len] at this;exact this
theorem subL_facts {L K:List T} (hL:Falls L) (hK:Falls K):Falls (subL L K)∧∀ m,coef (subL L K) m=(coef L m+100 * coef K m % 101) % 101:=by
 have h:=addL_facts hL (scL_falls (c:=100) (by omega) (by omega) hK)
 refine ⟨h.1,fun m=>?_⟩
 show coef (addL L (scL 100 K)) m=_
 rw [h.2,scL_coef]
theorem sub_self {L:List T} (hL:Falls L):subL L L=[]:=by
 have h1:=subL_facts hL hL
 refine falls_one h1.1 falls_nil (fun m _=>?_)
 have r1:=coef_range hL m
 rw [h1.2,coef_nil]
 omega
theorem sub_nil_iff {L K:List T} (hL:Falls L) (hK:Falls K):subL L K=[] ↔ L=K:=by
 constructor
 ·intro h
  have h1:=subL_facts hL hK
  refine falls_one hL hK (fun m _=>?_)
  have h2:=h1.2 m
  rw [h,coef_nil] at h2
  have r1:=coef_range hL m
  have r2:=coef_range hK m
  omega
 ·intro h
  rw [h]
  exact sub_self hK
def sq (L K:List T):Bool:=termsEq L.length (lf L) K.length (lf K)
theorem sq_same (L:List T):sq L L=true:=termsEq_same _ _
theorem sq_iff {L K:List T}:sq L K=true ↔ L=K:=by
 constructor
 ·intro ht
  simp only [sq,termsEq,decide_eq_true_eq] at ht
  refine List.ext_getElem ht.1 (fun i h1 h2=>?_)
  have:=ht.2 i h1
  rw [lf_eq h1,lf_eq h2] at this
  exact T.eqB_iff.1 this
 ·intro h
  rw [h]
  exact sq_same K
end Go.Proofs.YtdidlcjhodejjaaGreat
namespace Go.Proofs.YtdidlcjhodejjaaGreat
set_option linter.unusedVariables false
abbrev Fq:=Fin 101
def zz (a:Int):Fq:=Fin.ofNat 101 (a % 101).toNat
theorem zz_mod (a:Int):zz (a % 101)=zz a:=by unfold zz;rw [Int.emod_emod_of_dvd _ (Int.dvd_refl 101)]
theorem zz_add (a b:Int):zz (a+b)=zz a+zz b:=by
 unfold zz;apply Fin.ext;simp [Fin.val_add];omega
theorem zz_inj {a b:Int} (ha:0≤a∧a≤100) (hb:0≤b∧b≤100) (h:zz a=zz b):a=b:=by
 unfold zz at h;have:=congrArg Fin.val h;simp at this;omega
theorem zz_mul (a b:Int):zz (a * b)=zz a * zz b:=by
 unfold zz;apply Fin.ext;simp [Fin.val_mul]
 have h1:=Int.mul_emod a b 101
 have h2:((a % 101).toNat:Int)=a % 101:=by omega
 have h3:((b % 101).toNat:Int)=b % 101:=by omega
 have h4:(((a % 101).toNat * (b % 101).toNat % 101:Nat):Int)=(a % 101) * (b % 101) % 101:=by
  rw [Int.natCast_emod,Int.natCast_mul,h2,h3];rfl
 omega
theorem zz_zero:zz 0=0:=rfl
theorem zz_ne {a:Int} (h1:1≤a) (h2:a≤100):zz a≠0:=fun h=>by
 have:=zz_inj (a:=a) (b:=0) ⟨by omega,h2⟩ ⟨by omega,by omega⟩ h
 omega
def su {α:Type}:List α→(α→Fq)→Fq
 | [],_=>0
 | t :: r,f=>f t+su r f
theorem su_add {α:Type} (f g:α→Fq):∀ L:List α,su L (fun t=>f t+g t)=su L f+su L g
 | []=>by simp [su]
 | t :: r=>by rw [su,su,su,su_add f g r];grind
theorem su_mul {α:Type} (c:Fq) (f:α→Fq):∀ L:List α,su L (fun t=>c * f t)=c * su L f
 | []=>by show (0:Fq)=c * 0;grind
 | t :: r=>by rw [su,su,su_mul c f r];grind
theorem su_zero {α:Type} (f:α→Fq):∀ L:List α,(∀ t∈L,f t=0)→su L f=0
 | [],_=>rfl
 | t :: r,h=>by rw [su,su_zero f r (fun s hs=>h s (List.mem_cons_of_mem _ hs)),h t (List.mem_cons_self ..)];rfl
theorem su_congr {α:Type} {f g:α→Fq}:∀ {L:List α},(∀ t∈L,f t=g t)→su L f=su L g
 | [],_=>rfl
 | t :: r,h=>by rw [su,su,su_congr (L:=r) (fun s hs=>h s (List.mem_cons_of_mem _ hs)),h t (List.mem_cons_self ..)]
theorem su_append {α:Type} (f:α→Fq):∀ L K:List α,su (L ++ K) f=su L f+su K f
 | [],K=>by simp [su]
 | t :: r,K=>by rw [List.cons_append,su,su,su_append f r K];grind
theorem su_map {α β:Type} (h:α→β) (f:β→Fq):∀ L:List α,su (L.map h) f=su L (fun t=>f (h t))
 | []=>rfl
 | t :: r=>by rw [List.map_cons,su,su,su_map h f r]
theorem su_flat {α β:Type} (h:α→List β) (f:β→Fq):∀ L:List α,su (L.flatMap h) f=su L (fun t=>su (h t) f)
 | []=>rfl
 | t :: r=>by rw [List.flatMap_cons,su_append,su,su_flat h f r]
abbrev Vq:=Nat→Nat→Fq
def va (u v:Vq):Vq:=fun n k=>u n k+v n k
def vs (c:Fq) (u:Vq):Vq:=fun n k=>c * u n k
structure Lq where
 f:Vq→Vq
 add:∀ u v,f (va u v)=va (f u) (f v)
 smul:∀ c u,f (vs c u)=vs c (f u)
theorem Lq.ext {A B:Lq} (h:∀ u n k,A.f u n k=B.f u n k):A=B:=by
 have:A.f=B.f:=funext fun u=>funext fun n=>funext fun k=>h u n k
 cases A;cases B;cases this;rfl
def v0:Vq:=fun _ _=>0
theorem Lq.zero (A:Lq):A.f v0=v0:=by
 have h:=A.smul 0 v0
 have e:vs 0 v0=v0:=by funext n k;simp [vs,v0]
 rw [e] at h
 rw [h];funext n k;show 0 * _=(0:Fq);grind
namespace Lq
def mul (A B:Lq):Lq:=⟨fun u=>B.f (A.f u),fun u v=>by rw [A.add,B.add],fun c u=>by rw [A.smul,B.smul]⟩
def sum (A B:Lq):Lq:=⟨fun u=>va (A.f u) (B.f u),fun u v=>by rw [A.add,B.add];funext n k;simp only [va];grind,fun c u=>by rw [A.smul,B.smul];funext n k;simp only [va,vs];grind⟩
def sc (c:Fq) (A:Lq):Lq:=⟨fun u=>vs c (A.f u),fun u v=>by rw [A.add];funext n k;simp only [va,vs];grind,fun d u=>by rw [A.smul];funext n k;simp only [vs];grind⟩
def one:Lq:=⟨fun u=>u,fun _ _=>rfl,fun _ _=>rfl⟩
def nil:Lq:=⟨fun _=>v0,fun u v=>by funext n k;simp [va,v0],fun c u=>by funext n k;show (0:Fq)=c * 0;grind⟩
def pow (A:Lq):Nat→Lq
 | 0=>one
 | n+1=>mul (pow A n) A
theorem mul_assoc (A B C:Lq):mul (mul A B) C=mul A (mul B C):=rfl
theorem one_mul (A:Lq):mul one A=A:=rfl
theorem mul_one (A:Lq):mul A one=A:=rfl
theorem sum_mul (A B C:Lq):mul (sum A B) C=sum (mul A C) (mul B C):=Lq.ext fun u n k=>by show C.f (va _ _) n k=_;rw [C.add];rfl
theorem mul_sum (A B C:Lq):mul C (sum A B)=sum (mul C A) (mul C B):=rfl
theorem sc_mul (c:Fq) (A B:Lq):mul (sc c A) B=sc c (mul A B):=Lq.ext fun u n k=>by show B.f (vs _ _) n k=_;rw [B.smul];rfl
theorem mul_sc (c:Fq) (A B:Lq):mul A (sc c B)=sc c (mul A B):=rfl
theorem sc_sc (c d:Fq) (A:Lq):sc c (sc d A)=sc (c * d) A:=Lq.ext fun u n k=>by show c * (d * _)=c * d * _;grind
theorem sc_one (A:Lq):sc 1 A=A:=Lq.ext fun u n k=>by show 1 * _=_;grind
theorem sc_zero (A:Lq):sc 0 A=nil:=Lq.ext fun u n k=>by show 0 * _=(0:Fq);grind
theorem sc_sum (c:Fq) (A B:Lq):sc c (sum A B)=sum (sc c A) (sc c B):=Lq.ext fun u n k=>by show c * (_+_)=c * _+c * _;grind
theorem sc_add (c d:Fq) (A:Lq):sc (c+d) A=sum (sc c A) (sc d A):=Lq.ext fun u n k=>by show (c+d) * _=c * _+d * _;grind
theorem sum_comm (A B:Lq):sum A B=sum B A:=Lq.ext fun u n k=>by show _+_=_+_;grind
theorem sum_assoc (A B C:Lq):sum (sum A B) C=sum A (sum B C):=Lq.ext fun u n k=>by show _+_+_=_+(_+_);grind
theorem sum_nil (A:Lq):sum A nil=A:=Lq.ext fun u n k=>by show _+(0:Fq)=_;grind
theorem nil_mul (A:Lq):mul nil A=nil:=Lq.ext fun u n k=>by show A.f v0 n k=_;rw [A.zero];rfl
theorem mul_nil (A:Lq):mul A nil=nil:=rfl
theorem pow_succ' (A:Lq):∀ n,pow A (n+1)=mul A (pow A n)
 | 0=>rfl
 | n+1=>by show mul (pow A (n+1)) A=mul A (mul (pow A n) A);rw [pow_succ' A n,mul_assoc]
theorem pow_add (A:Lq) (n:Nat):∀ m,pow A (n+m)=mul (pow A n) (pow A m)
 | 0=>rfl
 | m+1=>by rw [← Nat.add_assoc,pow,pow_add A n m,pow,mul_assoc]
def Com (A B:Lq):Prop:=mul A B=mul B A
theorem Com.symm {A B:Lq} (h:Com A B):Com B A:=Eq.symm h
theorem Com.one (A:Lq):Com A Lq.one:=rfl
theorem Com.mul {A B C:Lq} (h1:Com A B) (h2:Com A C):Com A (Lq.mul B C):=by
 unfold Com at *
 rw [← mul_assoc,h1,mul_assoc,h2,mul_assoc]
theorem Com.pow {A B:Lq} (h:Com A B):∀ n,Com A (Lq.pow B n)
 | 0=>Com.one A
 | n+1=>(h.pow n).mul h
theorem Com.pows {A B:Lq} (h:Com A B) (m n:Nat):Com (Lq.pow A m) (Lq.pow B n):=((h.pow n).symm.pow m).symm
def sumN (f:Nat→Lq):Nat→Lq
 | 0=>nil
 | n+1=>sum (sumN f n) (f n)
theorem sumN_sum (f g:Nat→Lq):∀ n,sumN (fun i=>sum (f i) (g i)) n=sum (sumN f n) (sumN g n)
 | 0=>(sum_nil nil).symm
 | n+1=>by rw [sumN,sumN,sumN,sumN_sum f g n];exact Lq.ext fun u n k=>by show _+_+(_+_)=_+_+(_+_);grind
theorem mul_sumN (A:Lq) (f:Nat→Lq):∀ n,mul A (sumN f n)=sumN (fun i=>mul A (f i)) n
 | 0=>rfl
 | n+1=>by rw [sumN,mul_sum,mul_sumN A f n];rfl
theorem sumN_congr {f g:Nat→Lq}:∀ {n},(∀ i,i<n→f i=g i)→sumN f n=sumN g n
 | 0,_=>rfl
 | n+1,h=>by rw [sumN,sumN,sumN_congr (n:=n) (fun i hi=>h i (by omega)),h n (by omega)]
theorem sumN_head (f:Nat→Lq):∀ n,sumN f (n+1)=sum (f 0) (sumN (fun i=>f (i+1)) n)
 | 0=>by rw [sumN,sumN,sumN,sum_comm]
 | n+1=>by rw [sumN,sumN_head f n,sumN,sum_assoc]
theorem sumN_cut {f:Nat→Lq} {m n:Nat} (h:m≤n) (h0:∀ i,m≤i→f i=nil):sumN f n=sumN f m:=by
 induction n with
 | zero=>rw [show m=0 by omega]
 | succ n ih=>
  by_cases e:m=n+1
  ·rw [e]
  ·rw [sumN,h0 n (by omega),sum_nil,ih (by omega)]
end Lq
def chN:Nat→Nat→Nat
 | _,0=>1
 | 0,_+1=>0
 | n+1,k+1=>chN n (k+1)+chN n k
def faN (c:Nat):Nat→Nat
 | 0=>1
 | i+1=>faN c i * (c - i)
theorem chN_high:∀ n k,n<k→chN n k=0
 | 0,k+1,_=>by rw [chN]
 | n+1,k+1,h=>by rw [chN,chN_high n (k+1) (by omega),chN_high n k (by omega)]
theorem chN_zero (n:Nat):chN n 0=1:=by cases n <;> rfl
theorem faN_high (c:Nat):∀ i,c<i→faN c i=0
 | i+1,h=>by
  rw [faN]
  by_cases e:c=i
  ·rw [e];simp
  ·rw [faN_high c i (by omega)];simp
def nf (n:Nat):Fq:=Fin.ofNat 101 n
theorem nf_add (a b:Nat):nf (a+b)=nf a+nf b:=by unfold nf;apply Fin.ext;simp [Fin.val_add]
theorem nf_mul (a b:Nat):nf (a * b)=nf a * nf b:=by unfold nf;apply Fin.ext;simp [Fin.val_mul]
theorem nf_one:nf 1=1:=rfl
theorem nf_zero:nf 0=0:=rfl
def Wey (x d:Lq):Prop:=Lq.mul d x=Lq.sum (Lq.mul x d) Lq.one
theorem wey_pow {x d:Lq} (h:Wey x d):∀ c,Lq.mul d (Lq.pow x c)=Lq.sum (Lq.mul (Lq.pow x c) d) (Lq.sc (nf c) (Lq.pow x (c - 1)))
 | 0=>by rw [nf_zero,Lq.sc_zero,Lq.sum_nil];rfl
 | c+1=>by
  rw [Lq.pow,← Lq.mul_assoc,wey_pow h c,Lq.sum_mul,Lq.mul_assoc,h,Lq.mul_sum,Lq.mul_one,Lq.sc_mul,← Lq.mul_assoc,Lq.sum_assoc,nf_add,Lq.sc_add,nf_one,Lq.sc_one]
  congr 1
  show Lq.sum (Lq.pow x c) _=Lq.sum _ (Lq.pow x (c+1 - 1))
  rw [Lq.sum_comm]
  congr 1
  cases c with
  | zero=>rw [nf_zero,Lq.sc_zero,Lq.sc_zero]
  | succ c=>rfl
def wN (b c i:Nat):Nat:=chN b i * faN c i
theorem wey_order {x d:Lq} (h:Wey x d) (c:Nat):∀ b,Lq.mul (Lq.pow d b) (Lq.pow x c)=Lq.sumN (fun i=>Lq.sc (nf (wN b c i)) (Lq.mul (Lq.pow x (c - i)) (Lq.pow d (b - i)))) (b+1)
 | 0=>by
  show Lq.pow x c=Lq.sum Lq.nil (Lq.sc (nf (wN 0 c 0)) (Lq.mul (Lq.pow x (c - 0)) Lq.one))
  rw [Lq.sum_comm,Lq.sum_nil]
  show _=Lq.sc (nf 1) _
  rw [nf_one,Lq.sc_one];rfl
 | b+1=>by
  rw [Lq.pow_succ',Lq.mul_assoc,wey_order h c b,Lq.mul_sumN]
  have e1:Lq.sumN (fun i=>Lq.mul d (Lq.sc (nf (wN b c i)) (Lq.mul (Lq.pow x (c - i)) (Lq.pow d (b - i))))) (b+1)=Lq.sumN (fun i=>Lq.sum (Lq.sc (nf (wN b c i)) (Lq.mul (Lq.pow x (c - i)) (Lq.pow d (b+1 - i)))) (Lq.sc (nf (wN b c i * (c - i))) (Lq.mul (Lq.pow x (c - (i+1))) (Lq.pow d (b - i))))) (b+1):=by
   refine Lq.sumN_congr (fun i hi=>?_)
   rw [Lq.mul_sc,← Lq.mul_assoc,wey_pow h,Lq.sum_mul,Lq.sc_sum,Lq.mul_assoc,← Lq.pow_succ',Lq.sc_mul,Lq.sc_sc,nf_mul,show b - i+1=b+1 - i by omega,show c - i - 1=c - (i+1) by omega]
  rw [e1,Lq.sumN_sum]
  rw [Lq.sumN_head (fun i=>Lq.sc (nf (wN (b+1) c i)) (Lq.mul (Lq.pow x (c - i)) (Lq.pow d (b+1 - i))))]
  have e2:Lq.sumN (fun i=>Lq.sc (nf (wN (b+1) c (i+1))) (Lq.mul (Lq.pow x (c - (i+1))) (Lq.pow d (b+1 - (i+1))))) (b+1)=Lq.sum (Lq.sumN (fun i=>Lq.sc (nf (wN b c (i+1))) (Lq.mul (Lq.pow x (c - (i+1))) (Lq.pow d (b+1 - (i+1))))) (b+1)) (Lq.sumN (fun i=>Lq.sc (nf (wN b c i * (c - i))) (Lq.mul (Lq.pow x (c - (i+1))) (Lq.pow d (b - i)))) (b+1)):=by
   rw [← Lq.sumN_sum]
   refine Lq.sumN_congr (fun i hi=>?_)
   have:wN (b+1) c (i+1)=wN b c (i+1)+wN b c i * (c - i):=by
    unfold wN
    rw [chN,faN,Nat.add_mul,Nat.mul_assoc]
   rw [this,nf_add,Lq.sc_add,show b+1 - (i+1)=b - i by omega]
  rw [e2,← Lq.sum_assoc]
  congr 1
  rw [show wN (b+1) c 0=wN b c 0 by simp [wN,chN_zero],← Lq.sumN_head (fun i=>Lq.sc (nf (wN b c i)) (Lq.mul (Lq.pow x (c - i)) (Lq.pow d (b+1 - i)))),Lq.sumN.eq_2 _ (b+1)]
  have:wN b c (b+1)=0:=by unfold wN;rw [chN_high b (b+1) (by omega),Nat.zero_mul]
  rw [this,nf_zero,Lq.sc_zero,Lq.sum_nil]
end Go.Proofs.YtdidlcjhodejjaaGreat
namespace Go.Proofs.YtdidlcjhodejjaaGreat
open Go.RowKit
set_option linter.unusedVariables false
def boxD (n:Nat):M:=⟨((n / 4096:Nat):Int),((n / 256 % 16:Nat):Int),((n / 16 % 16:Nat):Int),((n % 16:Nat):Int)⟩
def box:List M:=(List.range 65536).map boxD
theorem box_mem {m:M} (h:m.ok=true):m∈box:=by
 obtain ⟨x1,x2,y1,y2,d1,d2,e1,e2⟩:=M.ok_iff.1 h
 refine List.mem_map.2 ⟨m.x.toNat * 4096+m.y.toNat * 256+m.d.toNat * 16+m.e.toNat,List.mem_range.2 (by omega),?_⟩
 cases m
 simp only [boxD,M.mk.injEq] at *
 refine ⟨by omega,by omega,by omega,by omega⟩
theorem box_nodup:box.Nodup:=by
 unfold box
 rw [List.Nodup,List.pairwise_map]
 refine (List.nodup_range (n:=65536)).imp (fun {a b} hab e=>hab ?_)
 simp only [boxD,M.mk.injEq] at e
 omega
theorem meqB_eq {a b:M}:meqB a b=true ↔ a=b:=by
 cases a;cases b;simp [meqB]
theorem su_single (m:M) (v:Fq):∀ S:List M,S.Nodup→m∈S→su S (fun x=>if meqB m x=true then v else 0)=v
 | [],_,h=>by cases h
 | t :: r,hn,h=>by
  rw [List.nodup_cons] at hn
  rw [su]
  by_cases e:meqB m t=true
  ·rw [if_pos e,su_zero _ r (fun s hs=>if_neg (fun e2=>hn.1 (by rw [← meqB_eq.1 e,meqB_eq.1 e2];exact hs)))]
   grind
  ·rw [if_neg e,su_single m v r hn.2 (by
    rcases List.mem_cons.1 h with h | h
    ·exact absurd (meqB_eq.2 h) e
    ·exact h)]
   grind
def lin (φ:M→Fq) (L:List T):Fq:=su L (fun t=>zz t.c * φ t.m)
theorem lin_nil (φ:M→Fq):lin φ []=0:=rfl
theorem lin_box (φ:M→Fq):∀ {L:List T},Falls L→lin φ L=su box (fun m=>zz (coef L m) * φ m)
 | [],_=>by
  rw [lin_nil,su_zero]
  intro t _
  show zz 0 * φ t=0
  rw [zz_zero];grind
 | t :: r,h=>by
  have hr:=lin_box φ h.tail
  have ht:=h.2 t (List.mem_cons_self ..)
  have h0:coef r t.m=0:=coef_high (List.pairwise_cons.1 h.1).1
  have e:su box (fun m=>zz (coef (t :: r) m) * φ m)=su box (fun m=>(if meqB t.m m=true then zz t.c * φ t.m else 0)+zz (coef r m) * φ m):=by
   refine su_congr (fun m _=>?_)
   rw [coef]
   by_cases e:meqB t.m m=true
   ·rw [if_pos e,if_pos e,← meqB_eq.1 e,h0,zz_zero];grind
   ·rw [if_neg e,if_neg e];grind
  rw [e,su_add,su_single t.m _ box box_nodup (box_mem ht.1),← hr]
  rfl
theorem lin_add (φ:M→Fq) {L K:List T} (hL:Falls L) (hK:Falls K):lin φ (addL L K)=lin φ L+lin φ K:=by
 have h:=addL_facts hL hK
 rw [lin_box φ h.1,lin_box φ hL,lin_box φ hK,← su_add]
 refine su_congr (fun m _=>?_)
 rw [h.2,zz_mod,zz_add];grind
theorem lin_sc (φ:M→Fq) (c:Int) (L:List T):lin φ (scL c L)=zz c * lin φ L:=by
 unfold lin
 rw [scL_map,su_map,← su_mul]
 refine su_congr (fun t _=>?_)
 show zz (c * t.c % 101) * φ t.m=_
 rw [zz_mod,zz_mul];grind
theorem lin_put (φ:M→Fq) {L:List T} (hL:Falls L) {c:Int} {m:M} (hm:m.ok=true) (c0:0≤c) (c1:c≤100):lin φ (putT c m L)=lin φ L+zz c * φ m:=by
 have h:=putT_facts hL hm c0 c1
 have e:su box (fun x=>zz (coef (putT c m L) x) * φ x)=su box (fun x=>(if meqB m x=true then zz c * φ m else 0)+zz (coef L x) * φ x):=by
  refine su_congr (fun x _=>?_)
  rw [h.2,updC]
  by_cases e:x=m
  ·rw [if_pos (meq_iff.2 e),if_pos (meqB_eq.2 e.symm),zz_mod,zz_add,e];grind
  ·rw [if_neg (fun q=>e (meq_iff.1 q)),if_neg (fun q=>e (meqB_eq.1 q).symm)];grind
 rw [lin_box φ h.1,e,su_add,su_single m _ box box_nodup (box_mem hm),lin_box φ hL]
 grind
theorem lin_putAll (φ:M→Fq):∀ (xs:List T) {L:List T},TOK xs→Falls L→lin φ (putAll xs L)=lin φ L+lin φ xs
 | [],L,_,hL=>by show lin φ L=lin φ L+0;grind
 | t :: r,L,hx,hL=>by
  have h1:=hx t (List.mem_cons_self ..)
  show lin φ (putAll r (putT t.c t.m L))=_
  rw [lin_putAll φ r (fun s hs=>hx s (List.mem_cons_of_mem _ hs)) (putT_facts hL h1.1 h1.2.1 h1.2.2).1,lin_put φ hL h1.1 h1.2.1 h1.2.2]
  show _=lin φ L+(zz t.c * φ t.m+lin φ r)
  grind
theorem lin_sum (φ ψ:M→Fq) (L:List T):lin (fun m=>φ m+ψ m) L=lin φ L+lin ψ L:=by
 unfold lin
 rw [← su_add]
 exact su_congr (fun t _=>by grind)
theorem lin_mul (c:Fq) (φ:M→Fq) (L:List T):lin (fun m=>c * φ m) L=c * lin φ L:=by
 unfold lin
 rw [← su_mul]
 exact su_congr (fun t _=>by grind)
structure Gen where
 x:Lq
 y:Lq
 d:Lq
 e:Lq
 wx:Wey x d
 wy:Wey y e
 xy:Lq.Com x y
 xe:Lq.Com x e
 dy:Lq.Com d y
 de:Lq.Com d e
def mo (g:Gen) (m:M):Lq:=Lq.mul (Lq.mul (Lq.pow g.x m.x.toNat) (Lq.pow g.y m.y.toNat)) (Lq.mul (Lq.pow g.d m.d.toNat) (Lq.pow g.e m.e.toNat))
def Rp (g:Gen) (L:List T):Lq:=⟨fun u n k=>lin (fun m=>(mo g m).f u n k) L,fun u v=>by
  funext n k
  show lin (fun m=>(mo g m).f (va u v) n k) L=_
  rw [show (fun m=>(mo g m).f (va u v) n k)=(fun m=>(mo g m).f u n k+(mo g m).f v n k) from funext fun m=>by rw [(mo g m).add];rfl,lin_sum]
  rfl,fun c u=>by
  funext n k
  show lin (fun m=>(mo g m).f (vs c u) n k) L=_
  rw [show (fun m=>(mo g m).f (vs c u) n k)=(fun m=>c * (mo g m).f u n k) from funext fun m=>by rw [(mo g m).smul];rfl,lin_mul]
  rfl⟩
theorem Rp_nil (g:Gen):Rp g []=Lq.nil:=rfl
theorem Rp_add (g:Gen) {L K:List T} (hL:Falls L) (hK:Falls K):Rp g (addL L K)=Lq.sum (Rp g L) (Rp g K):=Lq.ext fun u n k=>lin_add (fun m=>(mo g m).f u n k) hL hK
theorem Rp_sc (g:Gen) (c:Int) (L:List T):Rp g (scL c L)=Lq.sc (zz c) (Rp g L):=Lq.ext fun u n k=>lin_sc (fun m=>(mo g m).f u n k) c L
theorem Rp_sub (g:Gen) {L K:List T} (hL:Falls L) (hK:Falls K):Rp g (subL L K)=Lq.sum (Rp g L) (Lq.sc (zz 100) (Rp g K)):=by
 unfold subL
 rw [Rp_add g hL (scL_falls (by omega) (by omega) hK),Rp_sc]
theorem Rp_one (g:Gen) (t:T):Rp g [t]=Lq.sc (zz t.c) (mo g t.m):=Lq.ext fun u n k=>by
 show zz t.c * _+0=zz t.c * _
 grind
theorem sumN_f (f:Nat→Lq) (u:Vq) (p q:Nat):∀ n,(Lq.sumN f n).f u p q=su (List.range n) (fun i=>(f i).f u p q)
 | 0=>rfl
 | n+1=>by
  rw [List.range_succ,su_append,← sumN_f f u p q n]
  show _+_=_+(_+0)
  grind
theorem wN_out {b c i:Nat} (h:min b c<i):wN b c i=0:=by
 unfold wN
 by_cases hb:b<i
 ·rw [chN_high b i hb,Nat.zero_mul]
 ·rw [faN_high c i (by omega),Nat.mul_zero]
theorem order_cut {x d:Lq} (h:Wey x d) (b c:Nat):Lq.mul (Lq.pow d b) (Lq.pow x c)=Lq.sumN (fun i=>Lq.sc (nf (wN b c i)) (Lq.mul (Lq.pow x (c - i)) (Lq.pow d (b - i)))) (min b c+1):=by
 rw [wey_order h]
 refine Lq.sumN_cut (by omega) (fun i hi=>?_)
 rw [wN_out (by omega),nf_zero,Lq.sc_zero]
end Go.Proofs.YtdidlcjhodejjaaGreat
namespace Go.Proofs.YtdidlcjhodejjaaGreat
open Go.RowKit Go.Sort
set_option linter.unusedVariables false
structure Gr (w u:World):Prop where
 below:Below w.heap.size w u
 drawn:w.drawn≤u.drawn
theorem Gr.refl (w:World):Gr w w:=⟨Below.refl _ _,Nat.le_refl _⟩
theorem Gr.trans {a b c:World} (h:Gr a b) (k:Gr b c):Gr a c:=⟨h.below.trans (k.below.mono h.below.size),Nat.le_trans h.drawn k.drawn⟩
theorem Gr.alloc (w:World) (o:Obj):Gr w (w.alloc o):=⟨bel_one w o,by simp⟩
theorem Gr.drew (w:World):Gr w w.drew:=⟨(Below.refl _ _).drew,by simp⟩
theorem Gr.form {w u:World} (h:Gr w u):∃ q os,u=grow (w.drewN q) os:=by
 refine ⟨u.drawn - w.drawn,u.heap.extract w.heap.size u.heap.size,?_⟩
 obtain ⟨⟨h1,h2,h3,h4,h5⟩,h6⟩:=h
 cases u with
 | mk heap tape drawn os output=>
  simp only at h1 h2 h3 h4 h5 h6
  subst h1 h2 h3
  have hh:w.heap ++ heap.extract w.heap.size heap.size=heap:=by
   apply Array.ext_getElem?
   intro i
   by_cases hi:i<w.heap.size
   ·rw [Array.getElem?_append_left hi,h5 i hi]
   ·rw [Array.getElem?_append_right (by omega),Array.getElem?_extract]
    split
    ·congr 1;omega
    ·exact (Array.getElem?_eq_none (by omega)).symm
  have hd:w.drawn+(drawn - w.drawn)=drawn:=by omega
  simp only [grow,World.drewN]
  rw [hh,hd]
def ExtG (w:World):Type:=Subtype (fun u:World=>Gr w u)
theorem ExtG.there (w:World):Nonempty (ExtG w):=⟨⟨w,Gr.refl _⟩⟩
theorem wp_region_extG {P:Program} {id:Nat} {Q:Exit→Act→World→Prop} {a:Act} {w:World} {l:List Oper} (hm:P.follows .mixedOrders=true) (hB:Region.lexB .any l.toArray=true)
  (h:wpQuiet P l.toArray (fun u=>∃ x:ExtG w,u=x.1) (fun a'=>∀ w',(∃ x:ExtG w,w'=x.1)→Q .normal a' w') l a):(Code.region id l.toArray true).wp P Q a w:=
 wp_region_quiet (C:=fun u=>∃ x:ExtG w,u=x.1) hm hB ⟨⟨_,Gr.drew _⟩,rfl⟩ (by simpa using h)
theorem extG_same {P:Program} {f:FuncId} {args:Array Value} {w:World} {x:ExtG w} {v:Value}
  (h:Calls P f args x.1 fun e w'=>e=.returned v∧w'=x.1):Calls P f args x.1 fun e w''=>e=.returned v∧∃ y:ExtG w,w''=y.1:=
 h.mono fun _ _ ⟨he,hm⟩=>⟨he,x,hm⟩
theorem extG_grows {P:Program} {f:FuncId} {args:Array Value} {w:World} {x:ExtG w} {v:Value}
  (h:Calls P f args x.1 fun e w'=>e=.returned v∧Gr x.1 w'):Calls P f args x.1 fun e w''=>e=.returned v∧∃ y:ExtG w,w''=y.1:=
 h.mono fun _ w' ⟨he,hm⟩=>⟨he,⟨w',x.2.trans hm⟩,rfl⟩
theorem extG_box {w:World} {t:TypeId} (cs:Array Value) (k:Nat) (v:Value) (h:cs[k]?=some v):∀ u:ExtG (w.alloc (.cells cs t)),u.1.cell? ⟨w.heap.size,k,none⟩=some v:=fun u=>by
 have:=ext_box (w:=w) (t:=t) cs k v h ⟨u.1,u.2.below⟩
 exact this
set_option maxHeartbeats 400000 in
theorem degreeG (x y d e:Int) (w:World) (h:M.ok ⟨x,y,d,e⟩=true) :
  Calls Tryz.prog 144 #[.agg #[.int .i64 x,.int .i64 y,.int .i64 d,.int .i64 e]] w fun r w'=>r=.returned (.int .i64 (x+y+d+e))∧Gr w w':=by
 obtain ⟨x1,x2,y1,y2,d1,d2,e1,e2⟩:=M.ok_iff.1 h
 simp only at x1 x2 y1 y2 d1 d2 e1 e2
 clear h
 go_enter Tryz.func144,Tryz.ntmps144
 go_wp2
 go_ret
 exact ⟨rfl,Gr.alloc w _⟩
set_option maxHeartbeats 400000 in
theorem rankLexG (x y d e:Int) (w:World) (h:M.ok ⟨x,y,d,e⟩=true) :
  Calls Tryz.prog 104 #[.agg #[.int .i64 x,.int .i64 y,.int .i64 d,.int .i64 e]] w fun r w'=>r=.returned (.int .i64 (rkL ⟨x,y,d,e⟩))∧Gr w w':=by
 obtain ⟨x1,x2,y1,y2,d1,d2,e1,e2⟩:=M.ok_iff.1 h
 simp only at x1 x2 y1 y2 d1 d2 e1 e2
 clear h
 simp only [rkL]
 go_enter Tryz.func104,Tryz.ntmps104
 go_wp2
 go_ret
 exact ⟨rfl,Gr.alloc w _⟩
set_option maxHeartbeats 1000000 in
theorem rankDegG (x y d e:Int) (w:World) (h:M.ok ⟨x,y,d,e⟩=true) :
  Calls Tryz.prog 103 #[.agg #[.int .i64 x,.int .i64 y,.int .i64 d,.int .i64 e]] w fun r w'=>r=.returned (.int .i64 (rkD ⟨x,y,d,e⟩))∧Gr w w':=by
 obtain ⟨x1,x2,y1,y2,d1,d2,e1,e2⟩:=M.ok_iff.1 h
 simp only at x1 x2 y1 y2 d1 d2 e1 e2
 have HK:=Hid.mk' h
 have k1:0≤rkL ⟨x,y,d,e⟩:=by simp only [rkL];omega
 have k2:rkL ⟨x,y,d,e⟩≤65535:=by simp only [rkL];omega
 have r1:rkD ⟨x,y,d,e⟩=(x+y+d+e) * 65536+rkL ⟨x,y,d,e⟩:=rfl
 rw [r1]
 clear h r1
 go_enter Tryz.func103,Tryz.ntmps103
 go_wp2_with fail
 have B1:=Hid.mk' (Gr.alloc w (.cells #[.int .i64 x,.int .i64 y,.int .i64 d,.int .i64 e] 40))
 have ne:=ExtG.there (w.alloc (.cells #[.int .i64 x,.int .i64 y,.int .i64 d,.int .i64 e] 40))
 have s0:=extG_box (w:=w) (t:=40) #[.int .i64 x,.int .i64 y,.int .i64 d,.int .i64 e] 0 _ rfl
 have s1:=extG_box (w:=w) (t:=40) #[.int .i64 x,.int .i64 y,.int .i64 d,.int .i64 e] 1 _ rfl
 have s2:=extG_box (w:=w) (t:=40) #[.int .i64 x,.int .i64 y,.int .i64 d,.int .i64 e] 2 _ rfl
 have s3:=extG_box (w:=w) (t:=40) #[.int .i64 x,.int .i64 y,.int .i64 d,.int .i64 e] 3 _ rfl
 refine wp_region_extG (by kernel_rfl) (by kernel_rfl) ?_
 repeat (go_big_quiet_step (first | (go_at_call 144;exact extG_grows (degreeG _ _ _ _ _ HK.out)) | (go_at_call 104;exact extG_grows (rankLexG _ _ _ _ _ HK.out))))
 refine wpQuiet_nil ?_
 rintro _ ⟨u,rfl⟩
 go_wp2
 go_ret
 exact ⟨rfl,B1.out.trans u.2⟩
end Go.Proofs.YtdidlcjhodejjaaGreat
