/-
  An operator is its numbers: two lists of terms that fall, with the same numbers, are one.
-/
import Derived.Test.YtdidlcjhodejjaaGreatUac
import Derived.Test.YtdidlcjhodejjaaGreatUad
import Derived.Test.YtdidlcjhodejjaaGreatRows
import Derived.WalkKit
import Derived.Deep.QuietTactic
import Derived.BigQuiet
import Derived.Deep.RegionWith
import Derived.WalkSmall
namespace Go.Proofs.YtdidlcjhodejjaaGreat
open Go.RowKit
set_option linter.unusedVariables false
def meqB (a b:M):Bool:=decide (a.x=b.x∧a.y=b.y∧a.d=b.d∧a.e=b.e)
theorem meqB_iff {a b:M}:meqB a b=true ↔ a=b:=by cases a;cases b;simp [meqB]
theorem meqB_no {a b:M}:meqB a b=false ↔ a≠b:=by rw [← Bool.not_eq_true,meqB_iff]
theorem dg16 {p q y z:Int} (hy:0≤y∧y≤15) (hz:0≤z∧z≤15) (h:p * 16+y=q * 16+z):p=q∧y=z:=by omega
theorem dg64 {p q y z:Int} (hy:0≤y∧y≤65535) (hz:0≤z∧z≤65535) (h:p * 65536+y=q * 65536+z):y=z:=by omega
theorem rkD_inj {a b:M} (ha:a.ok=true) (hb:b.ok=true) (h:rkD a=rkD b):a=b:=by
 have ka:=M.ok_iff.1 ha
 have kb:=M.ok_iff.1 hb
 have la:0≤rkL a∧rkL a≤65535:=by unfold rkL;omega
 have lb:0≤rkL b∧rkL b≤65535:=by unfold rkL;omega
 unfold rkD at h
 have h:=dg64 la lb h
 unfold rkL at h
 obtain ⟨h,h1⟩:=dg16 ⟨ka.2.2.1,ka.2.2.2.1⟩ ⟨kb.2.2.1,kb.2.2.2.1⟩ h
 obtain ⟨h,h2⟩:=dg16 ⟨ka.1,ka.2.1⟩ ⟨kb.1,kb.2.1⟩ h
 obtain ⟨h,h3⟩:=dg16 ⟨ka.2.2.2.2.2.2.1,ka.2.2.2.2.2.2.2⟩ ⟨kb.2.2.2.2.2.2.1,kb.2.2.2.2.2.2.2⟩ h
 cases a;cases b
 simp only at h h1 h2 h3
 subst h h1 h2 h3
 rfl
def coef:List T→M→Int
 | [],_=>0
 | t :: r,m=>if meqB t.m m=true then t.c else coef r m
def Falls (L:List T):Prop:=L.Pairwise (fun a b=>rkD b.m<rkD a.m)∧∀ t∈L,t.m.ok=true∧1≤t.c∧t.c≤100
theorem coef_high {m:M}:∀ {L:List T},(∀ t∈L,rkD t.m<rkD m)→coef L m=0
 | [],_=>rfl
 | t :: r,h=>by
  have h1:=h t (List.mem_cons_self ..)
  rw [coef,if_neg (fun e=>by rw [meqB_iff.1 e] at h1;omega)]
  exact coef_high (fun s hs=>h s (List.mem_cons_of_mem _ hs))
theorem coef_cons_ne {t:T} {r:List T} {m:M} (h:t.m≠m):coef (t :: r) m=coef r m:=by rw [coef,if_neg (fun e=>h (meqB_iff.1 e))]
theorem coef_cons_same (t:T) (r:List T):coef (t :: r) t.m=t.c:=by rw [coef,if_pos (meqB_iff.2 rfl)]
theorem Falls.tail {t:T} {r:List T} (h:Falls (t :: r)):Falls r:=⟨(List.pairwise_cons.1 h.1).2,fun s hs=>h.2 s (List.mem_cons_of_mem _ hs)⟩
theorem Falls.head {t:T} {r:List T} (h:Falls (t :: r)):∀ s∈r,rkD s.m<rkD t.m:=(List.pairwise_cons.1 h.1).1
theorem falls_one:∀ {L K:List T},Falls L→Falls K→(∀ m,m.ok=true→coef L m=coef K m)→L=K
 | [],[],_,_,_=>rfl
 | [],t :: r,_,hK,h=>by
  have h1:=hK.2 t (List.mem_cons_self ..)
  have h2:=h t.m h1.1
  rw [coef_cons_same,coef] at h2
  omega
 | t :: r,[],hL,_,h=>by
  have h1:=hL.2 t (List.mem_cons_self ..)
  have h2:=h t.m h1.1
  rw [coef_cons_same,coef] at h2
  omega
 | s :: p,t :: r,hL,hK,h=>by
  have hs:=hL.2 s (List.mem_cons_self ..)
  have ht:=hK.2 t (List.mem_cons_self ..)
  rcases Int.lt_trichotomy (rkD s.m) (rkD t.m) with hlt | heq | hgt
  ·have h2:=h t.m ht.1
   rw [coef_cons_same,coef_high (fun u hu=>by
    rcases List.mem_cons.1 hu with rfl | hu
    ·exact hlt
    ·have:=hL.head u hu;omega)] at h2
   omega
  ·have hm:s.m=t.m:=rkD_inj hs.1 ht.1 heq
   have hc:s.c=t.c:=by
    have h2:=h s.m hs.1
    rw [coef_cons_same,hm,coef_cons_same] at h2
    exact h2
   have hst:s=t:=by cases s;cases t;simp only at hm hc;subst hm hc;rfl
   subst hst
   have hrest:∀ m,m.ok=true→coef p m=coef r m:=fun m hok=>by
    by_cases hm2:s.m=m
    ·subst hm2
     rw [coef_high hL.head,coef_high hK.head]
    ·have h2:=h m hok
     rw [coef_cons_ne hm2,coef_cons_ne hm2] at h2
     exact h2
   rw [falls_one hL.tail hK.tail hrest]
  ·have h2:=h s.m hs.1
   rw [coef_cons_same,coef_high (fun u hu=>by
    rcases List.mem_cons.1 hu with rfl | hu
    ·exact hgt
    ·have:=hK.head u hu;omega)] at h2
   omega
end Go.Proofs.YtdidlcjhodejjaaGreat
namespace Go.Proofs.YtdidlcjhodejjaaGreat
open Go.RowKit
set_option linter.unusedVariables false
def fromC (f:Nat→T):Nat→Nat→M→Int
 | 0,_,_=>0
 | u+1,i,m=>if meqB (f i).m m=true then (f i).c else fromC f u (i+1) m
theorem fromC_none {f:Nat→T} {m:M}:∀ (u i:Nat),(∀ j,i≤j→j<i+u→(f j).m≠m)→fromC f u i m=0
 | 0,_,_=>rfl
 | u+1,i,h=>by
  rw [fromC,if_neg (fun e=>h i (Nat.le_refl _) (by omega) (meqB_iff.1 e))]
  exact fromC_none u (i+1) (fun j h1 h2=>h j (by omega) (by omega))
def Fl (f:Nat→T) (n:Nat):Prop:=(∀ j i,j<i→i<n→rkD (f i).m<rkD (f j).m)∧∀ i,i<n→(f i).m.ok=true∧1≤(f i).c∧(f i).c≤100
theorem Fl.high {f:Nat→T} {n i:Nat} {m:M} (h:Fl f n) (hi:i<n→rkD (f i).m<rkD m):fromC f (n - i) i m=0:=by
 refine fromC_none _ _ (fun j h1 h2 e=>?_)
 have hin:i<n:=by omega
 have h3:=hi hin
 by_cases hji:j=i
 ·rw [hji] at e;rw [e] at h3;omega
 ·have:=h.1 i j (by omega) (by omega)
  rw [e] at this;omega
theorem fromC_step {f:Nat→T} {n i:Nat} (m:M) (hi:i<n):fromC f (n - i) i m=if meqB (f i).m m=true then (f i).c else fromC f (n - (i+1)) (i+1) m:=by
 rw [show n - i=(n - (i+1))+1 by omega,fromC]
theorem falls_cons {t:T} {r:List T} (h:Falls r) (h1:∀ s∈r,rkD s.m<rkD t.m) (h2:t.m.ok=true∧1≤t.c∧t.c≤100):Falls (t :: r):=
 ⟨List.pairwise_cons.2 ⟨h1,h.1⟩,fun s hs=>by rcases List.mem_cons.1 hs with rfl | hs;exact h2;exact h.2 s hs⟩
theorem mrg_facts {f:Nat→T} {la:Nat} {g:Nat→T} {lb:Nat} (F:Fl f la) (G:Fl g lb):∀ (u i k:Nat),la - i+(lb - k)≤u →
  (∀ t∈mrgI f la g lb u i k,(∃ j,i≤j∧j<la∧t.m=(f j).m)∨(∃ j,k≤j∧j<lb∧t.m=(g j).m))∧Falls (mrgI f la g lb u i k)∧∀ m,coef (mrgI f la g lb u i k) m=(fromC f (la - i) i m+fromC g (lb - k) k m) % 101
 | 0,i,k,hu=>by
  refine ⟨fun t ht=>by simp [mrgI] at ht,⟨List.Pairwise.nil,fun t ht=>by simp [mrgI] at ht⟩,fun m=>?_⟩
  rw [show la - i=0 by omega,show lb - k=0 by omega]
  rfl
 | u+1,i,k,hu=>by
  have up:∀ (n i:Nat),n - i=0→∀ m,fromC f (n - i) i m=0:=fun n i h m=>by rw [h];rfl
  have low:∀ {t:T} {i' k':Nat} {r:Int},((∃ j,i'≤j∧j<la∧t.m=(f j).m)∨(∃ j,k'≤j∧j<lb∧t.m=(g j).m))→(i'<la→rkD (f i').m<r)→(k'<lb→rkD (g k').m<r)→rkD t.m<r:=by
   intro t i' k' r h h1 h2
   rcases h with ⟨j,a1,a2,a3⟩ | ⟨j,a1,a2,a3⟩
   ·rw [a3]
    by_cases hj:j=i'
    ·rw [hj];exact h1 (by omega)
    ·have:=F.1 i' j (by omega) a2;have:=h1 (by omega);omega
   ·rw [a3]
    by_cases hj:j=k'
    ·rw [hj];exact h2 (by omega)
    ·have:=G.1 k' j (by omega) a2;have:=h2 (by omega);omega
  -- f i stands ahead of all that is left
  have fi:i<la→(k<lb→rkD (g k).m<rkD (f i).m)→(∀ t∈f i :: mrgI f la g lb u (i+1) k,(∃ j,i≤j∧j<la∧t.m=(f j).m)∨(∃ j,k≤j∧j<lb∧t.m=(g j).m))∧Falls (f i :: mrgI f la g lb u (i+1) k)∧∀ m,coef (f i :: mrgI f la g lb u (i+1) k) m=(fromC f (la - i) i m+fromC g (lb - k) k m) % 101:=by
   intro hi hk
   obtain ⟨p1,p2,p3⟩:=mrg_facts F G u (i+1) k (by omega)
   refine ⟨fun t ht=>?_,falls_cons p2 (fun s hs=>low (p1 s hs) (fun h=>F.1 i (i+1) (by omega) h) hk) (F.2 i hi),fun m=>?_⟩
   ·rcases List.mem_cons.1 ht with rfl | ht
    ·exact .inl ⟨i,Nat.le_refl _,hi,rfl⟩
    ·exact (p1 t ht).imp (fun ⟨j,a1,a2,a3⟩=>⟨j,by omega,a2,a3⟩) id
   ·rw [fromC_step m hi]
    by_cases hm:meqB (f i).m m=true
    ·have:=meqB_iff.1 hm
     subst this
     have h0:=F.2 i hi
     rw [coef_cons_same,if_pos hm,G.high hk,Int.add_zero]
     omega
    ·rw [coef,if_neg hm,if_neg hm];exact p3 m
  have gk:k<lb→(i<la→rkD (f i).m<rkD (g k).m)→(∀ t∈g k :: mrgI f la g lb u i (k+1),(∃ j,i≤j∧j<la∧t.m=(f j).m)∨(∃ j,k≤j∧j<lb∧t.m=(g j).m))∧Falls (g k :: mrgI f la g lb u i (k+1))∧∀ m,coef (g k :: mrgI f la g lb u i (k+1)) m=(fromC f (la - i) i m+fromC g (lb - k) k m) % 101:=by
   intro hk hi
   obtain ⟨p1,p2,p3⟩:=mrg_facts F G u i (k+1) (by omega)
   refine ⟨fun t ht=>?_,falls_cons p2 (fun s hs=>low (p1 s hs) hi (fun h=>G.1 k (k+1) (by omega) h)) (G.2 k hk),fun m=>?_⟩
   ·rcases List.mem_cons.1 ht with rfl | ht
    ·exact .inr ⟨k,Nat.le_refl _,hk,rfl⟩
    ·exact (p1 t ht).imp id (fun ⟨j,a1,a2,a3⟩=>⟨j,by omega,a2,a3⟩)
   ·rw [fromC_step (f:=g) m hk]
    by_cases hm:meqB (g k).m m=true
    ·have:=meqB_iff.1 hm
     subst this
     have h0:=G.2 k hk
     rw [coef_cons_same,if_pos hm,F.high hi,Int.zero_add]
     omega
    ·rw [coef,if_neg hm,if_neg hm];exact p3 m
  simp only [mrgI]
  by_cases hik:i<la∧k<lb
  ·rw [if_pos hik]
   have hrk:=rk_deg (F.2 i hik.1).1 (G.2 k hik.2).1
   by_cases h1:0<M.ord 1 (f i).m (g k).m
   ·rw [if_pos h1]
    exact fi hik.1 (fun _=>(ord_pos (F.2 i hik.1).1 (G.2 k hik.2).1).1 h1)
   ·rw [if_neg h1]
    by_cases h2:M.ord 1 (f i).m (g k).m<0
    ·rw [if_pos h2]
     refine gk hik.2 (fun _=>?_)
     rw [← hrk] at h2
     unfold c3 at h2
     split at h2
     ·assumption
     ·split at h2 <;> omega
    ·rw [if_neg h2]
     have heq:rkD (f i).m=rkD (g k).m:=by
      have h3:M.ord 1 (f i).m (g k).m=0:=by omega
      rw [← hrk] at h3
      unfold c3 at h3
      split at h3
      ·omega
      ·split at h3 <;> omega
     have hmm:=rkD_inj (F.2 i hik.1).1 (G.2 k hik.2).1 heq
     obtain ⟨p1,p2,p3⟩:=mrg_facts F G u (i+1) (k+1) (by omega)
     have hsum:∀ m,(fromC f (la - i) i m+fromC g (lb - k) k m) % 101=if meqB (f i).m m=true then ((f i).c+(g k).c) % 101 else (fromC f (la - (i+1)) (i+1) m+fromC g (lb - (k+1)) (k+1) m) % 101:=fun m=>by
      rw [fromC_step m hik.1,fromC_step (f:=g) m hik.2,← hmm]
      split <;> rfl
     have hhi:coef (mrgI f la g lb u (i+1) (k+1)) (f i).m=0:=by
      rw [p3,F.high (fun h=>F.1 i (i+1) (by omega) h),G.high (fun h=>by rw [hmm];exact G.1 k (k+1) (by omega) h)]
      rfl
     have q1:∀ t∈mrgI f la g lb u (i+1) (k+1),(∃ j,i≤j∧j<la∧t.m=(f j).m)∨(∃ j,k≤j∧j<lb∧t.m=(g j).m):=fun t ht=>(p1 t ht).imp (fun ⟨j,a1,a2,a3⟩=>⟨j,by omega,a2,a3⟩) (fun ⟨j,a1,a2,a3⟩=>⟨j,by omega,a2,a3⟩)
     by_cases hz:((f i).c+(g k).c) % 101≠0
     ·rw [if_pos hz]
      refine ⟨fun t ht=>?_,falls_cons p2 (fun s hs=>low (p1 s hs) (fun h=>F.1 i (i+1) (by omega) h) (fun h=>by rw [hmm];exact G.1 k (k+1) (by omega) h)) ⟨(F.2 i hik.1).1,by dsimp only;omega,by dsimp only;omega⟩,fun m=>?_⟩
      ·rcases List.mem_cons.1 ht with rfl | ht
       ·exact .inl ⟨i,Nat.le_refl _,hik.1,rfl⟩
       ·exact q1 t ht
      ·rw [hsum m,coef]
       by_cases hm:meqB (f i).m m=true
       ·rw [if_pos hm,if_pos hm]
       ·rw [if_neg hm,if_neg hm];exact p3 m
     ·rw [if_neg hz]
      refine ⟨q1,p2,fun m=>?_⟩
      rw [hsum m]
      by_cases hm:meqB (f i).m m=true
      ·have:=meqB_iff.1 hm
       subst this
       rw [if_pos hm,hhi];omega
      ·rw [if_neg hm];exact p3 m
  ·rw [if_neg hik]
   by_cases hi:i<la
   ·rw [if_pos hi]
    exact fi hi (fun h=>absurd ⟨hi,h⟩ hik)
   ·rw [if_neg hi]
    by_cases hk:k<lb
    ·rw [if_pos hk]
     exact gk hk (fun h=>absurd h hi)
    ·rw [if_neg hk]
     refine ⟨fun t ht=>(by cases ht),⟨List.Pairwise.nil,fun t ht=>(by cases ht)⟩,fun m=>?_⟩
     rw [show la - i=0 by omega,show lb - k=0 by omega]
     rfl
end Go.Proofs.YtdidlcjhodejjaaGreat
namespace Go.Proofs.YtdidlcjhodejjaaGreat
open Go.RowKit
set_option linter.unusedVariables false
theorem fl_of_ok {n:Nat} {f:Nat→T} (h:polOk n f=true):Fl f n:=by
 have hp:=h
 simp only [polOk,decide_eq_true_eq] at hp
 have h1:∀ i,i<n→(f i).m.ok=true∧1≤(f i).c∧(f i).c≤100:=fun i hi=>by
  have:=hp.2 i hi
  simp only [okAt,Bool.and_eq_true,decide_eq_true_eq] at this
  exact ⟨this.1.2,this.1.1⟩
 refine ⟨fun j i hji hi=>?_,h1⟩
 induction i with
 | zero=>omega
 | succ i ih=>
  have h2:=hp.2 (i+1) hi
  simp only [okAt,Bool.and_eq_true,Bool.or_eq_true,decide_eq_true_eq] at h2
  have h3:=h2.2.resolve_left (by omega)
  rw [show i+1 - 1=i by omega] at h3
  have h4:=(ord_pos (h1 i (by omega)).1 (h1 (i+1) hi).1).1 h3
  by_cases hji2:j=i
  ·rw [hji2];exact h4
  ·have:=ih (by omega) (by omega)
   omega
end Go.Proofs.YtdidlcjhodejjaaGreat
namespace Go.Proofs.YtdidlcjhodejjaaGreat
open Go.RowKit
set_option linter.unusedVariables false
end Go.Proofs.YtdidlcjhodejjaaGreat
