/-
  The least basis, as lists: no greatest monomial divides another one; each is free of the others, with 1 times its greate
-/
import Derived.Test.YtdidlcjhodejjaaGreatUbb
import Derived.Test.YtdidlcjhodejjaaGreatUbf
import Derived.Test.YtdidlcjhodejjaaGreatUav
import Derived.Test.YtdidlcjhodejjaaGreatUai
namespace Go.Proofs.YtdidlcjhodejjaaGreat
open Go.RowKit Go.Deep Go.Joins
set_option linter.unusedVariables false
theorem red_keep {o:Int} {p:List T} {n:Nat} {L:Nat→List T} {S:Dv} (h:redAll o p n (lN L) (fN L)=some S) (h0:p.length≠0) (hno:∀ i,i<n→M.dvd (ldL o (L i)).m (ldL o p).m=false):S.r.length≠0∧ldL o S.r=ldL o p:=by
 obtain ⟨h1,h2,h3,h4⟩:=redAll_some h
 have hm:=ldL_mem (o:=o) h0
 have hg:=ldL_good (o:=o) (okL_falls h2).2 h0
 have htop:=ldL_top h1 h2 h0
 generalize ht:ldL o p=t0 at *
 have key:=redAll_keeps h (fun S=>S=dvOf p∨((∀ t∈S.p,rkW o t.m<rkW o t0.m)∧coef S.r t0.m=t0.c)) (.inl rfl) (fun u S S' hok hs0 hI hs=>by
  rcases hI with rfl | ⟨i1,i2⟩
  ·rcases dvStep_cases h3 hok.p hs0 hs with ⟨k,Y,hk,hd,_⟩ | ⟨_,rfl⟩
   ·have hd':M.dvd (ldL o (L k)).m (ldL o p).m=true:=hd
    rw [ht,hno k hk] at hd';cases hd'
   ·right
    show (∀ t∈subL p [ldL o p],rkW o t.m<rkW o t0.m)∧coef (addL [] [ldL o p]) t0.m=t0.c
    rw [ht]
    have f1:=subL_facts (okL_falls h2).2 (fallsOne hg)
    have f2:=addL_facts falls_nil (fallsOne hg)
    have c1:coef [t0] t0.m=t0.c:=coef_cons_same t0 []
    refine ⟨fun t htm=>?_,by rw [f2.2,c1];show (0+t0.c) % 101=t0.c;omega⟩
    have hle:rkW o t.m≤rkW o t0.m:=by
     rcases mem_sub (okL_falls h2).2 (fallsOne hg) htm with ⟨a,ha,e⟩ | ⟨b,hb,e⟩
     ·rw [← e];exact htop a ha
     ·rw [← e,List.mem_singleton.1 hb];exact Int.le_refl _
    rcases Int.lt_or_le (rkW o t.m) (rkW o t0.m) with q | q
    ·exact q
    ·have e:=rkW_inj (o:=o) t.m t0.m (f1.1.2 t htm).1 hg.1 (by omega)
     have h5:=(mem_coefV f1.1 htm).2
     rw [e,f1.2,c1,(mem_coefV (okL_falls h2).2 hm).1] at h5
     exact absurd (by omega) h5
  ·have hl:=ldL_mem (o:=o) hs0
   have hgl:=ldL_good (o:=o) (okL_falls hok.p).2 hs0
   right
   rcases dvStep_cases h3 hok.p hs0 hs with ⟨k,Y,hk,hd,ho,hY,_,rfl⟩ | ⟨_,rfl⟩
   ·have hk2:=(lstOk_all h3).2 k hk
    have hpt:=prod_top h1 hk2.2 hk2.1 hY
    have hsum:=over_sum hd
    have hw:=(rkW_wt o (overT (ldL o S.p) (ldL o (L k))).m (ldL o (L k)).m 0 0).2
    rw [hsum] at hw
    refine ⟨fun t htm=>?_,i2⟩
    rcases mem_sub (okL_falls hok.p).2 (wm_falls hY) htm with ⟨a,ha,e⟩ | ⟨b,hb,e⟩
    ·rw [← e];exact i1 a ha
    ·rw [← e]
     have:=hpt b hb
     have:=i1 _ hl
     omega
   ·refine ⟨fun t htm=>?_,?_⟩
    ·rcases mem_sub (okL_falls hok.p).2 (fallsOne hgl) htm with ⟨a,ha,e⟩ | ⟨b,hb,e⟩
     ·rw [← e];exact i1 a ha
     ·rw [← e,List.mem_singleton.1 hb];exact i1 _ hl
    ·show coef (addL S.r [ldL o S.p]) t0.m=t0.c
     have hne:(ldL o S.p).m≠t0.m:=fun e=>by have:=i1 _ hl;rw [e] at this;omega
     rw [(addL_facts hok.r.1 (fallsOne hgl)).2,i2,coef_cons_ne hne,coef_nil]
     omega)
 obtain ⟨hd,hpn⟩:=redAll_ok h
 rcases key with e | ⟨_,k2⟩
 ·rw [e] at hpn
  have:p=[]:=hpn
  rw [this] at h0
  exact absurd rfl h0
 ·have hne:coef S.r t0.m≠0:=by rw [k2];omega
  obtain ⟨t,htm,e⟩:=coef_ne_mem1 hne
  have hr0:S.r.length≠0:=fun q=>by rw [List.length_eq_zero_iff.1 q] at htm;cases htm
  refine ⟨hr0,?_⟩
  have hrok:=(redAll_rest h).1
  have q1:=(red_lead h htop).1 _ (ldL_mem (o:=o) hr0)
  have q2:=ldL_top h1 hrok hr0 t htm
  rw [e] at q2
  have hgr:=ldL_good (o:=o) (okL_falls hrok).2 hr0
  have em:=rkW_inj (o:=o) (ldL o S.r).m t0.m hgr.1 hg.1 (by omega)
  have ec:=(mem_coefV (okL_falls hrok).2 (ldL_mem (o:=o) hr0)).1
  rw [em,k2] at ec
  cases hq:ldL o S.r
  rw [hq] at em ec
  cases t0
  simp_all
theorem scT1_one {t:T} (c1:1≤t.c) (c2:t.c≤100):(scT1 (fInv t.c) t).c=1∧(scT1 (fInv t.c) t).m=t.m:=by
 refine ⟨?_,rfl⟩
 have h1:=fMul_inv (b:=t.c) ⟨by omega,c2⟩ (by omega)
 have h2:=fInv_bd t.c
 unfold fMul at h1
 rw [if_pos (by omega)] at h1
 exact h1
theorem lftL_lead {o:Int} {p:List T} {oth:List (List T)} {Y:List T} (h:lftL o p oth=some Y) (h0:p.length≠0) (hno:∀ q∈oth,M.dvd (ldL o q).m (ldL o p).m=false):(ldL o Y).m=(ldL o p).m∧(ldL o Y).c=1∧(∀ t∈Y,∀ q∈oth,M.dvd (ldL o q).m t.m=false):=by
 unfold lftL at h
 split at h
 ·rename_i S hS
  split at h
  ·cases h
  ·rename_i hr0
   cases h
   obtain ⟨k1,k2⟩:=red_keep hS h0 (fun i hi=>hno _ (lof_mem hi))
   have hrok:=(redAll_rest hS).1
   obtain ⟨_,_,e⟩:=monL_ok (o:=o) hrok hr0
   have hg:=ldL_good (o:=o) (okL_falls hrok).2 hr0
   rw [e,ldL_sc o _ hr0]
   obtain ⟨q1,q2⟩:=scT1_one hg.2.1 hg.2.2
   refine ⟨by rw [q2,k2],q1,fun t ht q hq=>?_⟩
   obtain ⟨a,ha,ea⟩:=mem_sc ht
   obtain ⟨i,hi,rfl⟩:=List.mem_iff_getElem.1 hq
   have:=red_free hS a ha i hi
   rw [show Lof oth i=oth[i] by show oth.getD i []=_;rw [List.getD_eq_getElem?_getD,List.getElem?_eq_getElem hi];rfl] at this
   rw [← ea];exact this
 ·cases h
end Go.Proofs.YtdidlcjhodejjaaGreat
namespace Go.Proofs.YtdidlcjhodejjaaGreat
open Go.RowKit Go.Deep Go.Joins
set_option linter.unusedVariables false
abbrev lmO (o:Int) (p:List T):M:=(ldL o p).m
def Anti (o:Int) (l:List (List T)):Prop:=l.Pairwise (fun a b=>M.dvd (lmO o a) (lmO o b)=false∧M.dvd (lmO o b) (lmO o a)=false)
theorem dvd_self {m:M} (h:m.ok=true):M.dvd m m=true:=by unfold M.dvd;simp [h]
theorem need_pair {k:Nat→M} {n i j:Nat} (hi:i<n) (hj:j<n) (hij:i≠j) (h1:need k n i=true) (h2:need k n j=true):M.dvd (k i) (k j)=false:=by
 cases hd:M.dvd (k i) (k j)
 ·rfl
 ·have q1:=of_decide_eq_true h1
  have q2:=of_decide_eq_true h2
  by_cases e:meqB (k i) (k j)=true
  ·have e':=meqB_eq.1 e
   by_cases hl:i<j
   ·exact absurd ⟨hij,hd,.inr hl⟩ (q2 i hi)
   ·exact absurd ⟨fun q=>hij q.symm,by rw [e'] at hd ⊢;exact hd,.inr (by omega)⟩ (q1 j hj)
  ·exact absurd ⟨hij,hd,.inl (by cases h:meqB (k i) (k j);rfl;exact absurd h e)⟩ (q2 i hi)
theorem sel_anti {o:Int} {n:Nat} {L:Nat→List T}:∀ j,j≤n→Anti o (selN (need (fun i=>(ldL o (L i)).m) n) L j)
 | 0,_=>List.Pairwise.nil
 | j+1,hj=>by
  unfold selN
  split
  ·rename_i hn
   refine List.pairwise_append.2 ⟨sel_anti j (by omega),List.pairwise_singleton _ _,fun a ha b hb=>?_⟩
   obtain ⟨i,hi,hni,rfl⟩:=selN_mem ha
   rw [List.mem_singleton.1 hb]
   exact ⟨need_pair (k:=fun i=>(ldL o (L i)).m) (by omega) (by omega) (by omega) hni hn,need_pair (k:=fun i=>(ldL o (L i)).m) (by omega) (by omega) (by omega) hn hni⟩
  ·exact sel_anti j (by omega)
theorem insN_perm {α:Type} (lt:α→α→Bool) (x:α):∀ l:List α,(insN lt x l).Perm (x :: l)
 | []=>List.Perm.refl _
 | y :: r=>by
  show (if lt x y=true then x :: y :: r else y :: insN lt x r).Perm _
  split
  ·exact List.Perm.refl _
  ·exact ((insN_perm lt x r).cons y).trans (List.Perm.swap x y r)
theorem srtN_perm {α:Type} (lt:α→α→Bool):∀ l acc:List α,(srtN lt acc l).Perm (acc ++ l)
 | [],acc=>by rw [List.append_nil];exact List.Perm.refl _
 | x :: r,acc=>by
  refine (srtN_perm lt r (insN lt x acc)).trans ?_
  refine ((insN_perm lt x acc).append_right r).trans ?_
  exact (List.perm_middle (a:=x) (l₁:=acc) (l₂:=r)).symm
theorem least_anti (o:Int) (n:Nat) (L:Nat→List T):Anti o (leastL o n L):=by
 refine ((srtN_perm (ltO o) _ []).pairwise_iff (fun h=>⟨h.2,h.1⟩)).2 ?_
 rw [List.nil_append]
 exact sel_anti n (Nat.le_refl _)
def RiseL (o:Int) (l:List (List T)):Prop:=l.Pairwise (fun a b=>rkW o (lmO o a)≤rkW o (lmO o b))
theorem insN_riseL {o:Int} {x:List T}:∀ {l:List (List T)},RiseL o l→RiseL o (insN (ltO o) x l)
 | [],_=>List.pairwise_singleton _ _
 | y :: r,h=>by
  obtain ⟨h1,h2⟩:=List.pairwise_cons.1 h
  show RiseL o (if ltO o x y=true then x :: y :: r else y :: insN (ltO o) x r)
  by_cases e:ltO o x y=true
  ·rw [if_pos e]
   have e':rkW o (lmO o x)<rkW o (lmO o y):=of_decide_eq_true e
   refine List.pairwise_cons.2 ⟨fun z hz=>?_,h⟩
   rcases List.mem_cons.1 hz with rfl | hz
   ·omega
   ·have:=h1 z hz
    omega
  ·rw [if_neg e]
   have e':rkW o (lmO o y)≤rkW o (lmO o x):=by
    rcases Int.lt_or_le (rkW o (lmO o x)) (rkW o (lmO o y)) with q | q
    ·exact absurd (decide_eq_true q) e
    ·exact q
   refine List.pairwise_cons.2 ⟨fun z hz=>?_,insN_riseL h2⟩
   rcases insN_mem.1 hz with rfl | hz
   ·exact e'
   ·exact h1 z hz
theorem srtN_riseL {o:Int}:∀ {l acc:List (List T)},RiseL o acc→RiseL o (srtN (ltO o) acc l)
 | [],acc,h=>h
 | x :: r,acc,h=>srtN_riseL (l:=r) (insN_riseL h)
theorem lof_put {l:List (List T)} {i:Nat} {Y:List T} (h:i<l.length) (j:Nat):Lof (putL l i Y) j=if j=i then Y else Lof l j:=by
 show (putL l i Y).getD j []=if j=i then Y else l.getD j []
 rw [putL_set h,List.getD_eq_getElem?_getD,List.getD_eq_getElem?_getD,List.getElem?_set]
 by_cases e:i=j
 ·subst e;simp [h]
 ·rw [if_neg e,if_neg (fun q=>e q.symm)]
theorem lof_oth {l:List (List T)} {i j:Nat} (hj:j<l.length) (hij:j≠i):Lof l j∈othL l i:=by
 show l.getD j []∈l.take i ++ l.drop (i+1)
 rw [List.getD_eq_getElem?_getD,List.getElem?_eq_getElem hj]
 show l[j]∈_
 rcases Nat.lt_or_ge j i with h | h
 ·exact List.mem_append_left _ (List.mem_iff_getElem.2 ⟨j,by rw [List.length_take];omega,by rw [List.getElem_take]⟩)
 ·refine List.mem_append_right _ (List.mem_iff_getElem.2 ⟨j - (i+1),by rw [List.length_drop];omega,?_⟩)
  rw [List.getElem_drop]
  congr 1
  omega
theorem oth_lof {l:List (List T)} {i:Nat} {q:List T} (h:q∈othL l i):∃ j,j<l.length∧j≠i∧Lof l j=q:=by
 rcases List.mem_append.1 h with h | h
 ·obtain ⟨j,hj,rfl⟩:=List.mem_iff_getElem.1 h
  rw [List.length_take] at hj
  refine ⟨j,by omega,by omega,?_⟩
  show l.getD j []=_
  rw [List.getD_eq_getElem?_getD,List.getElem?_eq_getElem (by omega),List.getElem_take];rfl
 ·obtain ⟨j,hj,rfl⟩:=List.mem_iff_getElem.1 h
  rw [List.length_drop] at hj
  refine ⟨i+1+j,by omega,by omega,?_⟩
  show l.getD (i+1+j) []=_
  rw [List.getD_eq_getElem?_getD,List.getElem?_eq_getElem (by omega),List.getElem_drop];rfl
structure LsO (o:Int) (N i:Nat) (l l0:List (List T)):Prop where
 len:l.length=N
 ok:okA l
 lead:∀ j,j<N→lmO o (Lof l j)=lmO o (Lof l0 j)
 anti:∀ j k,j<N→k<N→j≠k→M.dvd (lmO o (Lof l j)) (lmO o (Lof l k))=false
 done:∀ k,k<i→(ldL o (Lof l k)).c=1∧∀ t∈Lof l k,∀ j,j<N→j≠k→M.dvd (lmO o (Lof l j)) t.m=false
theorem LsO.step {o:Int} {N i:Nat} {l l0:List (List T)} (h:LsO o N i l l0) (hi:i<N) {Y:List T} (hY:lftL o (Lof l i) (othL l i)=some Y):LsO o N (i+1) (putL l i Y) l0:=by
 have hil:i<l.length:=by rw [h.len];exact hi
 obtain ⟨k1,k2,k3⟩:=lftL_lead hY (h.ok _ (lof_mem hil)).2 (fun q hq=>by
  obtain ⟨j,hj,hji,rfl⟩:=oth_lof hq
  exact h.anti j i (by rw [← h.len];exact hj) hi hji)
 have hm:∀ j,lmO o (Lof (putL l i Y) j)=lmO o (Lof l j):=fun j=>by
  rw [lof_put hil]
  by_cases e:j=i
  ·rw [if_pos e,e];exact k1
  ·rw [if_neg e]
 refine ⟨by rw [putL_len hil];exact h.len,putL_ok h.ok (lftL_ok hY),fun j hj=>by rw [hm];exact h.lead j hj,fun j k hj hk hjk=>by rw [hm,hm];exact h.anti j k hj hk hjk,fun k hk=>?_⟩
 have e2:∀ j,lmO o (Lof (putL l i Y) j)=lmO o (Lof l j):=hm
 by_cases e:k=i
 ·subst e
  have e3:Lof (putL l k Y) k=Y:=by rw [lof_put hil,if_pos rfl]
  rw [e3]
  refine ⟨k2,fun t ht j hj hjk=>?_⟩
  rw [e2]
  exact k3 t ht _ (lof_oth (by rw [h.len];exact hj) hjk)
 ·have e3:Lof (putL l i Y) k=Lof l k:=by rw [lof_put hil,if_neg e]
  rw [e3]
  obtain ⟨d1,d2⟩:=h.done k (by omega)
  exact ⟨d1,fun t ht j hj hjk=>by rw [e2];exact d2 t ht j hj hjk⟩
theorem LsO.run {o:Int} {N:Nat} {l0:List (List T)}:∀ {u i:Nat} {l l':List (List T)},i+u=N→LsO o N i l l0→lstRun o u i l=some l'→LsO o N N l' l0
 | 0,i,l,l',hu,h,hr=>by
  have hr':some l=some l':=hr
  cases hr'
  have:i=N:=by omega
  subst this
  exact h
 | u+1,i,l,l',hu,h,hr=>by
  cases hY:lftL o (Lof l i) (othL l i) with
  | none=>rw [lstRun_no hY] at hr;cases hr
  | some Y=>rw [lstRun_yes hY] at hr;exact LsO.run (by omega) (h.step (by omega) hY) hr
theorem pw_lof {R:List T→List T→Prop} {l:List (List T)} (h:l.Pairwise R) {i j:Nat} (hij:i<j) (hj:j<l.length):R (Lof l i) (Lof l j):=by
 have:=List.pairwise_iff_getElem.1 h i j (by omega) hj hij
 show R (l.getD i []) (l.getD j [])
 rw [List.getD_eq_getElem?_getD,List.getD_eq_getElem?_getD,List.getElem?_eq_getElem hj,List.getElem?_eq_getElem (show i<l.length by omega)]
 exact this
structure Least (o:Int) (l:List (List T)):Prop where
 ho:1≤o∧o≤3
 le:l.length≤12
 ok:okA l
 anti:∀ j k,j<l.length→k<l.length→j≠k→M.dvd (lmO o (Lof l j)) (lmO o (Lof l k))=false
 one:∀ k,k<l.length→(ldL o (Lof l k)).c=1
 free:∀ k,k<l.length→∀ t∈Lof l k,∀ j,j<l.length→j≠k→M.dvd (lmO o (Lof l j)) t.m=false
 rise:∀ j k,j<k→k<l.length→rkW o (lmO o (Lof l j))<rkW o (lmO o (Lof l k))
theorem grbLeast_parts {o:Int} {n:Nat} {L:Nat→List T} {l:List (List T)} (h:grbLeast o n L=some l):(1≤o∧o≤3)∧lstOk n (lN L) (fN L)=true∧lstRun o (leastL o n L).length 0 (leastL o n L)=some l:=by
 unfold grbLeast at h
 split at h
 ·rename_i hh;exact ⟨hh.1,hh.2,h⟩
 ·cases h
theorem grbLeast_lso {o:Int} {n:Nat} {L:Nat→List T} {l:List (List T)} (h:grbLeast o n L=some l):LsO o (leastL o n L).length (leastL o n L).length l (leastL o n L):=by
 obtain ⟨ho,hl,hr⟩:=grbLeast_parts h
 obtain ⟨k1,k2⟩:=leastL_ok (o:=o) hl
 refine LsO.run (Nat.zero_add _) ⟨rfl,k1,fun _ _=>rfl,fun j k hj hk hjk=>?_,fun k hk=>absurd hk (Nat.not_lt_zero _)⟩ hr
 have ha:=least_anti o n L
 rcases Nat.lt_or_gt_of_ne hjk with q | q
 ·exact (pw_lof ha q hk).1
 ·exact (pw_lof ha q hj).2
theorem grbLeast_least {o:Int} {n:Nat} {L:Nat→List T} {l:List (List T)} (h:grbLeast o n L=some l):Least o l:=by
 obtain ⟨ho,hl,hr⟩:=grbLeast_parts h
 obtain ⟨k1,k2⟩:=leastL_ok (o:=o) hl
 have hs:=grbLeast_lso h
 have hle:=hs.len
 refine ⟨ho,by omega,hs.ok,fun j k hj hk=>hs.anti j k (by omega) (by omega),fun k hk=>(hs.done k (by omega)).1,fun k hk t ht j hj=>(hs.done k (by omega)).2 t ht j (by omega),fun j k hjk hk=>?_⟩
 rw [hs.lead j (by omega),hs.lead k (by omega)]
 have hr:RiseL o (leastL o n L):=srtN_riseL List.Pairwise.nil
 have h1:=pw_lof hr hjk (by omega)
 have h2:=(pw_lof (least_anti o n L) hjk (by omega)).1
 have o1:=ldL_ok (o:=o) (k1 _ (lof_mem (l:=leastL o n L) (i:=j) (by omega)))
 have o2:=ldL_ok (o:=o) (k1 _ (lof_mem (l:=leastL o n L) (i:=k) (by omega)))
 rcases Int.lt_or_le (rkW o (lmO o (Lof (leastL o n L) j))) (rkW o (lmO o (Lof (leastL o n L) k))) with q | q
 ·exact q
 ·have e:=rkW_inj (o:=o) _ _ o1 o2 (show rkW o (lmO o (Lof (leastL o n L) j))=rkW o (lmO o (Lof (leastL o n L) k)) by omega)
  have e':lmO o (Lof (leastL o n L) j)=lmO o (Lof (leastL o n L) k):=e
  rw [e',dvd_self o2] at h2
  cases h2
end Go.Proofs.YtdidlcjhodejjaaGreat
namespace Go.Proofs.YtdidlcjhodejjaaGreat
open Go.RowKit Go.Deep Go.Joins
set_option linter.unusedVariables false
end Go.Proofs.YtdidlcjhodejjaaGreat
namespace Go.Proofs.YtdidlcjhodejjaaGreat
open Go.RowKit Go.Deep Go.Joins
set_option linter.unusedVariables false
set_option maxRecDepth 100000 in
set_option maxHeartbeats 8000000 in
theorem diffI (w:World) (u v:T) (a b:Option Addr) (n ca m cb:Nat) (f g:Nat→T) (ha:Rd w a n ca f) (hb:Rd w b m cb g) :
  Calls Tryz.prog 125 #[.agg #[.int .i64 u.c,.int .i64 u.m.x,.int .i64 u.m.y,.int .i64 u.m.d,.int .i64 u.m.e,.int .i64 v.c,.int .i64 v.m.x,.int .i64 v.m.y,.int .i64 v.m.d,.int .i64 v.m.e],.slice a n ca,.slice b m cb] w fun r w'=>∃ a' cap',r=.returned (.tuple #[.slice a' (diffV u v f n g m).1.length cap',.bool (diffV u v f n g m).2])∧Below w.heap.size w w'∧Out w.heap.size w' a' cap' (diffV u v f n g m).1:=by
 have HA:=Hid.mk' ha
 have HB:=Hid.mk' hb
 have hla:(n:Int)≤140737488351232:=by have:=ha.2.1;omega
 have hlb:(m:Int)≤140737488351232:=by have:=hb.2.1;omega
 have hc1:=fun (W:World) (A:Nat) (h:RL W (some ⟨A,0,none⟩) 1 [u]) (h':Rd W a n ca f)=>wylMulI W (some ⟨A,0,none⟩) a 1 1 n ca (lf [u]) f h h'
 have hc2:=fun (W:World) (A:Nat) (h:RL W (some ⟨A,0,none⟩) 1 [v]) (h':Rd W b m cb g)=>wylMulI W (some ⟨A,0,none⟩) b 1 1 m cb (lf [v]) g h h'
 have hl1:=wylMul_len (lf [u]) 1 f n
 have hl2:=wylMul_len (lf [v]) 1 g m
 clear ha hb
 unfold diffV
 generalize wylMul (lf [u]) 1 f n=p at *
 generalize wylMul (lf [v]) 1 g m=q at *
 obtain ⟨X,k1⟩:=p
 obtain ⟨Y,k2⟩:=q
 dsimp only at hc1 hc2 hl1 hl2 ⊢
 have hru:=one_RL (w.alloc (.cells #[.int .i64 u.c,.int .i64 u.m.x,.int .i64 u.m.y,.int .i64 u.m.d,.int .i64 u.m.e,.int .i64 v.c,.int .i64 v.m.x,.int .i64 v.m.y,.int .i64 v.m.d,.int .i64 v.m.e] 144)) u
 rw [World.size_alloc] at hru
 have HRU:=Hid.mk' hru
 have HB0:=Hid.mk' (bel_two w (.cells #[.int .i64 u.c,.int .i64 u.m.x,.int .i64 u.m.y,.int .i64 u.m.d,.int .i64 u.m.e,.int .i64 v.c,.int .i64 v.m.x,.int .i64 v.m.y,.int .i64 v.m.d,.int .i64 v.m.e] 144) (.cells #[.int .i64 u.c,.int .i64 u.m.x,.int .i64 u.m.y,.int .i64 u.m.d,.int .i64 u.m.e] 42))
 clear hru
 have hnil:∀ (W:World),Out w.heap.size W none 0 ([]:List T):=fun W=>⟨⟨Nat.le_refl _,by simp,.inl rfl⟩,.inl rfl,.inl rfl⟩
 have HN:=Hid.mk' hnil
 clear hnil
 by_cases hk:k1=true∧k2=true
 ·obtain ⟨rfl,rfl⟩:=hk
  rw [if_pos ⟨rfl,rfl⟩]
  go_enter Tryz.func125,Tryz.ntmps125
  go_wp2_with fail
  refine (hc1 _ _ HRU.out (HA.out.below HB0.out)).mono ?_
  rintro r w1 ⟨a1,c1,rfl,hb1,ho1⟩
  obtain ⟨hcc,hff⟩:=bcell hb1
  have HB1:=Hid.mk' (bel_next HB0.out hb1)
  have HX1:=Hid.mk' ho1.1
  have HBV:=Hid.mk' (HB1.out.alloc HB1.out.size (.cells #[.int .i64 v.c,.int .i64 v.m.x,.int .i64 v.m.y,.int .i64 v.m.d,.int .i64 v.m.e] 42))
  clear hb1 ho1
  go_wp2_with fail
  clear hcc hff
  refine (hc2 _ _ (one_RL w1 v) (HB.out.below HBV.out)).mono ?_
  rintro r w2 ⟨a2,c2,rfl,hb2,ho2⟩
  have HB2:=Hid.mk' (bel_next HBV.out hb2)
  have HX2:=Hid.mk' ((HX1.out.below (bel_one w1 (.cells #[.int .i64 v.c,.int .i64 v.m.x,.int .i64 v.m.y,.int .i64 v.m.d,.int .i64 v.m.e] 42))).below hb2)
  have HY2:=Hid.mk' ho2.1
  clear hb2 ho2 HX1 HB1 HBV
  go_wp2_with (go_at_call 155;refine (polSubI _ _ _ _ _ _ _ (lf X) (lf Y) HX2.out HY2.out).mono ?_;rintro r w3 ⟨a3,c3,rfl,hb3,ho3⟩)
  refine bodyPost_ret (results_tmp2 rfl _ _ _) rfl ?_
  exact ⟨a3,c3,rfl,bel_next HB2.out hb3,out_low ho3 HB2.out.size⟩
 ·rw [if_neg hk]
  have hk':(!k1 || !k2)=true:=by cases k1 <;> cases k2 <;> simp at hk ⊢
  go_enter Tryz.func125,Tryz.ntmps125
  go_wp2_with fail
  refine (hc1 _ _ HRU.out (HA.out.below HB0.out)).mono ?_
  rintro r w1 ⟨a1,c1,rfl,hb1,ho1⟩
  obtain ⟨hcc,hff⟩:=bcell hb1
  have HB1:=Hid.mk' (bel_next HB0.out hb1)
  have HX1:=Hid.mk' ho1.1
  have HBV:=Hid.mk' (HB1.out.alloc HB1.out.size (.cells #[.int .i64 v.c,.int .i64 v.m.x,.int .i64 v.m.y,.int .i64 v.m.d,.int .i64 v.m.e] 42))
  clear hb1 ho1
  go_wp2_with fail
  clear hcc hff
  refine (hc2 _ _ (one_RL w1 v) (HB.out.below HBV.out)).mono ?_
  rintro r w2 ⟨a2,c2,rfl,hb2,ho2⟩
  have HB2:=Hid.mk' (bel_next HBV.out hb2)
  have HX2:=Hid.mk' ((HX1.out.below (bel_one w1 (.cells #[.int .i64 v.c,.int .i64 v.m.x,.int .i64 v.m.y,.int .i64 v.m.d,.int .i64 v.m.e] 42))).below hb2)
  have HY2:=Hid.mk' ho2.1
  clear hb2 ho2 HX1 HB1 HBV
  cases k1
  ·go_wp2
   refine bodyPost_ret (results_tmp2 rfl _ _ _) rfl ?_
   exact ⟨none,0,rfl,HB2.out,HN.out w2⟩
  ·cases k2
   ·go_wp2
    refine bodyPost_ret (results_tmp2 rfl _ _ _) rfl ?_
    exact ⟨none,0,rfl,HB2.out,HN.out w2⟩
   ·exact absurd ⟨rfl,rfl⟩ hk
set_option maxRecDepth 100000 in
set_option maxHeartbeats 8000000 in
theorem sprPolyS (w:World) (o:Int) (a b:Option Addr) (n ca m cb:Nat) (f g:Nat→T) (ha:Rd w a n ca f) (hb:Rd w b m cb g) :
  Calls Tryz.prog 137 #[.int .i64 o,.slice a n ca,.slice b m cb] w fun r w'=>∃ v,r=.returned (.tuple #[v,.bool (sprPoly o f n g m).2])∧Below w.heap.size w w'∧w'.ownsRow w.heap.size 42 5 v (sprPoly o f n g m).1.length (cellsL (sprPoly o f n g m).1):=by
 have HA:=Hid.mk' ha
 have HB:=Hid.mk' hb
 have hla:(n:Int)≤140737488351232:=by have:=ha.2.1;omega
 have hlb:(m:Int)≤140737488351232:=by have:=hb.2.1;omega
 have hcall:=sprTermsS w o a n ca f b m cb g ha hb
 clear ha hb
 unfold sprPoly
 obtain ⟨U,hU⟩:∃ U,sprU o n f m g=U:=⟨_,rfl⟩
 obtain ⟨V,hV⟩:∃ V,sprV o n f m g=V:=⟨_,rfl⟩
 cases hok:sprOk o n f m g
 ·rw [hU,hV,hok] at hcall
  rw [if_neg (by simp)]
  clear hU hV hok
  go_enter Tryz.func137,Tryz.ntmps137
  go_wp2_with fail
  refine hcall.mono ?_
  rintro r w1 ⟨rfl,hb1⟩
  have HB1:=Hid.mk' hb1
  clear hb1 hcall
  have HB2:=Hid.mk' (HB1.out.alloc HB1.out.size (.cells #[.int .i64 U.c,.int .i64 U.m.x,.int .i64 U.m.y,.int .i64 U.m.d,.int .i64 U.m.e] 42))
  have HB3:=Hid.mk' (HB2.out.alloc HB2.out.size (.cells #[.int .i64 V.c,.int .i64 V.m.x,.int .i64 V.m.y,.int .i64 V.m.d,.int .i64 V.m.e] 42))
  have hnn:=owns_none ((w1.alloc (.cells #[.int .i64 U.c,.int .i64 U.m.x,.int .i64 U.m.y,.int .i64 U.m.d,.int .i64 U.m.e] 42)).alloc (.cells #[.int .i64 V.c,.int .i64 V.m.x,.int .i64 V.m.y,.int .i64 V.m.d,.int .i64 V.m.e] 42)) w.heap.size HB3.out.size
  rw [World.size_alloc,World.size_alloc] at hnn
  have HNN:=Hid.mk' hnn
  clear hnn
  go_wp2
  refine bodyPost_ret (results_tmp2 rfl _ _ _) rfl ?_
  exact ⟨_,rfl,HB3.out.alloc HB3.out.size _,HNN.out⟩
 ·obtain ⟨gU,gV⟩:=spr_good hok
  have hk:=hok
  unfold sprOk at hk
  rw [Bool.and_eq_true] at hk
  have p1:=(leadOk_parts hk.1).2.1
  have p2:=(leadOk_parts hk.2).2.1
  rw [hU] at gU
  rw [hV] at gV
  rw [hU,hV,hok] at hcall
  rw [if_pos rfl,hU,hV,less_diff gU gV p1 p2]
  obtain ⟨l1,g1⟩:=good_ok p1
  have gs:Good (lf [U]) 1:=fun i hi=>by
   obtain rfl:i=0:=by omega
   exact ⟨gU.1,by show 0≤U.c;omega,gU.2.2⟩
  have hm:=fun (W:World) (A:Nat) (h:RL W (some ⟨A,0,none⟩) 1 [U]) (h':Rd W a n ca f)=>mulS4 W (some ⟨A,0,none⟩) a 1 1 n ca (lf [U]) f h h' (by omega) l1 gs g1
  have HGS:=Hid.mk' gs
  have HG1:=Hid.mk' g1
  have HP2:=Hid.mk' p2
  have HGV:=Hid.mk' gV
  clear hU hV hok hk gU gV gs g1 p1 p2
  cases hX:mulM (lf [U]) f n 1 with
  | none=>
   rw [hX] at hm
   simp only [mulO] at hm
   go_enter Tryz.func137,Tryz.ntmps137
   go_wp2_with fail
   refine hcall.mono ?_
   rintro r w1 ⟨rfl,hb1⟩
   have HB1:=Hid.mk' hb1
   clear hb1 hcall
   have HB2:=Hid.mk' (HB1.out.alloc HB1.out.size (.cells #[.int .i64 U.c,.int .i64 U.m.x,.int .i64 U.m.y,.int .i64 U.m.d,.int .i64 U.m.e] 42))
   have HB3:=Hid.mk' (HB2.out.alloc HB2.out.size (.cells #[.int .i64 V.c,.int .i64 V.m.x,.int .i64 V.m.y,.int .i64 V.m.d,.int .i64 V.m.e] 42))
   have HB4:=Hid.mk' (HB3.out.alloc HB3.out.size (.cells #[.int .i64 U.c,.int .i64 U.m.x,.int .i64 U.m.y,.int .i64 U.m.d,.int .i64 U.m.e] 42))
   have hru:=one_RL ((w1.alloc (.cells #[.int .i64 U.c,.int .i64 U.m.x,.int .i64 U.m.y,.int .i64 U.m.d,.int .i64 U.m.e] 42)).alloc (.cells #[.int .i64 V.c,.int .i64 V.m.x,.int .i64 V.m.y,.int .i64 V.m.d,.int .i64 V.m.e] 42)) U
   rw [World.size_alloc,World.size_alloc] at hru
   have HRU:=Hid.mk' hru
   clear hru
   go_wp2_with fail
   refine (hm _ _ HRU.out (HA.out.below HB4.out)).mono ?_
   rintro r w2 ⟨v2,rfl,hb2,ho2⟩
   have HB5:=Hid.mk' (bel_next HB4.out hb2)
   clear hb2 ho2 hm
   go_wp2
   refine bodyPost_ret (results_tmp2 rfl _ _ _) rfl ?_
   exact ⟨_,rfl,HB5.out.alloc HB5.out.size _,owns_none _ w.heap.size HB5.out.size⟩
  | some X=>
   have fX:=mulM_falls2 HGS.out HG1.out 1 X (Nat.le_refl _) hX
   have lX:=mulM_len 1 X hX
   have HFX:=Hid.mk' fX
   rw [hX] at hm
   simp only [mulO] at hm
   have hless:=fun (W:World) (pa:Option Addr) (pc:Nat) (h:RL W pa pc X) (h':Rd W b m cb g)=>l7LessS W pa pc X V b m cb g h lX HFX.out HGV.out h' HP2.out
   dsimp only
   generalize lessV X V g m=D at hless ⊢
   clear fX hX
   go_enter Tryz.func137,Tryz.ntmps137
   go_wp2_with fail
   refine hcall.mono ?_
   rintro r w1 ⟨rfl,hb1⟩
   have HB1:=Hid.mk' hb1
   clear hb1 hcall
   have HB2:=Hid.mk' (HB1.out.alloc HB1.out.size (.cells #[.int .i64 U.c,.int .i64 U.m.x,.int .i64 U.m.y,.int .i64 U.m.d,.int .i64 U.m.e] 42))
   have HC3:=Hid.mk' (C5.box (w1.alloc (.cells #[.int .i64 U.c,.int .i64 U.m.x,.int .i64 U.m.y,.int .i64 U.m.d,.int .i64 U.m.e] 42)) 42 V)
   have HB3:=Hid.mk' (HB2.out.alloc HB2.out.size (.cells #[.int .i64 V.c,.int .i64 V.m.x,.int .i64 V.m.y,.int .i64 V.m.d,.int .i64 V.m.e] 42))
   have HB4:=Hid.mk' (HB3.out.alloc HB3.out.size (.cells #[.int .i64 U.c,.int .i64 U.m.x,.int .i64 U.m.y,.int .i64 U.m.d,.int .i64 U.m.e] 42))
   have hru:=one_RL ((w1.alloc (.cells #[.int .i64 U.c,.int .i64 U.m.x,.int .i64 U.m.y,.int .i64 U.m.d,.int .i64 U.m.e] 42)).alloc (.cells #[.int .i64 V.c,.int .i64 V.m.x,.int .i64 V.m.y,.int .i64 V.m.d,.int .i64 V.m.e] 42)) U
   rw [World.size_alloc,World.size_alloc] at hru
   have HRU:=Hid.mk' hru
   clear hru
   go_wp2_with fail
   refine (hm _ _ HRU.out (HA.out.below HB4.out)).mono ?_
   rintro r w2 ⟨v2,rfl,hb2,ho2⟩
   obtain ⟨a2,c2,rfl,hout⟩:=out_of_owns ho2 (by omega)
   have HB5:=Hid.mk' (bel_next HB4.out hb2)
   have hC5:=(HC3.out.below (bel_one _ (.cells #[.int .i64 U.c,.int .i64 U.m.x,.int .i64 U.m.y,.int .i64 U.m.d,.int .i64 U.m.e] 42))).below hb2
   have HX2:=Hid.mk' hout.1
   rw [World.size_alloc] at hC5
   obtain ⟨r0,r1,r2,r3,r4⟩:=hC5
   clear hb2 ho2 hm hout
   go_wp2_with fail
   clear r0 r1 r2 r3 r4
   refine (hless _ _ _ HX2.out (HB.out.below HB5.out)).mono ?_
   rintro r w3 ⟨v3,rfl,hb3,ho3⟩
   have HB6:=Hid.mk' (bel_next HB5.out hb3)
   have HO6:=Hid.mk' (ownsRow_low ho3 HB5.out.size)
   clear hb3 ho3
   go_wp2
   refine bodyPost_ret (results_tmp2 rfl _ _ _) rfl ?_
   exact ⟨_,rfl,HB6.out,HO6.out⟩
end Go.Proofs.YtdidlcjhodejjaaGreat
