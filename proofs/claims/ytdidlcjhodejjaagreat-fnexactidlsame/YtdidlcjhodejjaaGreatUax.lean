/-
  A division on its way, as lists: what a step does, and what stays true.
-/
import Derived.Test.YtdidlcjhodejjaaGreatUav
import Derived.Test.YtdidlcjhodejjaaGreatUaw
import Derived.Test.YtdidlcjhodejjaaGreatUai
import Derived.Test.YtdidlcjhodejjaaGreatUaf
import Derived.Test.YtdidlcjhodejjaaGreatUau
import Derived.Test.YtdidlcjhodejjaaGreatUal
import Derived.Maps.RangeWalk
import Derived.Deep.RegionWith
namespace Go.Proofs.YtdidlcjhodejjaaGreat
open Go.RowKit Go.Deep Go.Joins
set_option linter.unusedVariables false
structure Dv where
 p:List T
 q:Nat→List T
 r:List T
def ldL (o:Int) (L:List T):T:=lf L (leadAt o (lf L) L.length)
def dvK (o:Int) (n:Nat) (ln:Nat→Nat) (f:Nat→Nat→T) (m:M):Int:=idxF (fun t=>M.dvd t.m m) (ldAt o ln f) n
def updQ (q:Nat→List T) (k:Nat) (L:List T) (i:Nat):List T:=if i=k then L else q i
def dvT (o:Int) (ln:Nat→Nat) (f:Nat→Nat→T) (S:Dv) (k:Nat):T:=overT (ldL o S.p) (ldAt o ln f k)
def dvTake (o:Int) (ln:Nat→Nat) (f:Nat→Nat→T) (S:Dv) (k:Nat):Option Dv:=
 match mulM (lf [dvT o ln f S k]) (f k) (ln k) 1 with
 | none=>none
 | some Y=>if (subL S.p Y).length≤400 then some ⟨subL S.p Y,updQ S.q k (addL (S.q k) [dvT o ln f S k]),S.r⟩ else none
def dvLeave (o:Int) (S:Dv):Dv:=⟨subL S.p [ldL o S.p],S.q,addL S.r [ldL o S.p]⟩
def dvStep (o:Int) (n:Nat) (ln:Nat→Nat) (f:Nat→Nat→T) (S:Dv):Option Dv:=
 if 0≤dvK o n ln f (ldL o S.p).m then dvTake o ln f S (dvK o n ln f (ldL o S.p).m).toNat else some (dvLeave o S)
def dvRun (o:Int) (n:Nat) (ln:Nat→Nat) (f:Nat→Nat→T):Nat→Dv→Option Dv
 | 0,S=>if S.p.length=0 then some S else none
 | u+1,S=>if S.p.length=0 then some S else match dvStep o n ln f S with
  | none=>none
  | some S'=>dvRun o n ln f u S'
def dvOf (p:List T):Dv:=⟨p,fun _=>[],[]⟩
def redAll (o:Int) (p:List T) (n:Nat) (ln:Nat→Nat) (f:Nat→Nat→T):Option Dv:=
 if (1≤o∧o≤3)∧okL p=true∧lstOk n ln f=true then dvRun o n ln f 300 (dvOf p) else none
structure DvOk (u:Nat) (S:Dv):Prop where
 p:okL S.p=true
 q:∀ k,Falls (S.q k)∧(S.q k).length≤u
 r:Falls S.r∧S.r.length≤u
theorem DvOk.start {p:List T} (h:okL p=true):DvOk 0 (dvOf p):=⟨h,fun _=>⟨falls_nil,Nat.le_refl _⟩,falls_nil,Nat.le_refl _⟩
theorem dvRun_done {o:Int} {n:Nat} {ln:Nat→Nat} {f:Nat→Nat→T} {u:Nat} {S:Dv} (h:S.p.length=0):dvRun o n ln f u S=some S:=by
 cases u <;> exact if_pos h
theorem dvRun_out {o:Int} {n:Nat} {ln:Nat→Nat} {f:Nat→Nat→T} {S:Dv} (h:S.p.length≠0):dvRun o n ln f 0 S=none:=if_neg h
theorem dvRun_no {o:Int} {n:Nat} {ln:Nat→Nat} {f:Nat→Nat→T} {u:Nat} {S:Dv} (h:S.p.length≠0) (hs:dvStep o n ln f S=none):dvRun o n ln f (u+1) S=none:=by
 show (if S.p.length=0 then some S else match dvStep o n ln f S with | none=>none | some S'=>dvRun o n ln f u S')=none
 rw [if_neg h,hs]
theorem dvRun_step {o:Int} {n:Nat} {ln:Nat→Nat} {f:Nat→Nat→T} {u:Nat} {S S':Dv} (h:S.p.length≠0) (hs:dvStep o n ln f S=some S'):dvRun o n ln f (u+1) S=dvRun o n ln f u S':=by
 show (if S.p.length=0 then some S else match dvStep o n ln f S with | none=>none | some S'=>dvRun o n ln f u S')=_
 rw [if_neg h,hs]
theorem ldL_mem {o:Int} {L:List T} (h:L.length≠0):ldL o L∈L:=lf_mem (leadAt_lt (by omega))
theorem ldL_good {o:Int} {L:List T} (hL:Falls L) (h:L.length≠0):(ldL o L).m.ok=true∧1≤(ldL o L).c∧(ldL o L).c≤100:=hL.2 _ (ldL_mem h)
theorem ldL_is {o:Int} {L:List T} (ho:1≤o∧o≤3) (hL:okL L=true) (h:L.length≠0):ldL o L=ldT o L:=by
 have:leadOk o L.length (lf L)=true:=ldB_iff.2 ⟨ho,hL,fun e=>h (by rw [e];rfl)⟩
 unfold ldT
 rw [leadT_yes this]
 rfl
theorem ldL_top {o:Int} {L:List T} (ho:1≤o∧o≤3) (hL:okL L=true) (h:L.length≠0):∀ t∈L,rkW o t.m≤rkW o (ldL o L).m:=by
 have:ldB o L=true:=ldB_iff.2 ⟨ho,hL,fun e=>h (by rw [e];rfl)⟩
 rw [ldL_is ho hL h]
 exact (ld_top this).2
theorem ldAt_good {o:Int} {n:Nat} {ln:Nat→Nat} {f:Nat→Nat→T} (hl:lstOk n ln f=true) {k:Nat} (hk:k<n):(ldAt o ln f k).m.ok=true∧1≤(ldAt o ln f k).c∧(ldAt o ln f k).c≤100:=by
 obtain ⟨h0,h1⟩:=(lstOk_all hl).2 k hk
 exact (fl_of_ok h1).2 _ (leadAt_lt (by omega))
theorem mul_pos101 {a b:Int} (h1:1≤a) (h2:a≤100) (h3:1≤b) (h4:b≤100):1≤a * b % 101∧a * b % 101≤100:=by
 have h0:a * b % 101≠0:=fun e=>by
  obtain ⟨x,hx⟩:∃ x:Nat,a=x:=⟨a.toNat,by omega⟩
  obtain ⟨y,hy⟩:∃ y:Nat,b=y:=⟨b.toNat,by omega⟩
  subst hx hy
  have:=prime_nat ⟨x,by omega⟩ ⟨y,by omega⟩ (by simp only;exact_mod_cast e)
  simp at this
  omega
 omega
theorem overT_good {t l:T} (ht:t.m.ok=true∧1≤t.c∧t.c≤100) (hl:l.m.ok=true∧1≤l.c∧l.c≤100) (hd:l.m.dvd t.m=true):(overT t l).m.ok=true∧1≤(overT t l).c∧(overT t l).c≤100:=by
 have h1:=sprT_good (b:=t.m) hl hd
 have h2:=mul_pos101 ht.2.1 ht.2.2 (fInv_pos hl.2.1 hl.2.2) (fInv_bd l.c).2
 exact ⟨h1.1,h2.1,h2.2⟩
theorem dvK_facts {o:Int} {n:Nat} {ln:Nat→Nat} {f:Nat→Nat→T} {m:M} (h:0≤dvK o n ln f m):(dvK o n ln f m).toNat<n∧M.dvd (ldAt o ln f (dvK o n ln f m).toNat).m m=true:=by
 unfold dvK at h ⊢
 obtain ⟨i,hi,hp⟩:=idx_iff.1 h
 obtain ⟨j,hj,h1,h2⟩:∃ j,j<n∧(∀ i,i<j→(fun t:T=>M.dvd t.m m) (ldAt o ln f i)=false)∧(fun t:T=>M.dvd t.m m) (ldAt o ln f j)=true:=by
  clear h
  revert i
  induction n with
  | zero=>intro i hi;omega
  | succ n ih=>
   intro i hi hp
   by_cases hx:∃ i,i<n∧(fun t:T=>M.dvd t.m m) (ldAt o ln f i)=true
   ·obtain ⟨i',h1,h2⟩:=hx
    obtain ⟨j,hj,h3,h4⟩:=ih i' h1 h2
    exact ⟨j,by omega,h3,h4⟩
   ·have hin:i=n:=by
     rcases Nat.lt_or_ge i n with h | h
     ·exact absurd ⟨i,h,hp⟩ hx
     ·omega
    subst hin
    refine ⟨i,hi,fun k hk=>?_,hp⟩
    cases hb:(fun t:T=>M.dvd t.m m) (ldAt o ln f k) with
    | false=>rfl
    | true=>exact absurd ⟨k,hk,hb⟩ hx
 rw [idx_hit h1 h2 n hj]
 exact ⟨by simpa using hj,by simpa using h2⟩
theorem fallsOne {t:T} (h:t.m.ok=true∧1≤t.c∧t.c≤100):Falls [t]:=(okL_falls (one_ok h)).2
theorem dvT_good {o:Int} {n:Nat} {ln:Nat→Nat} {f:Nat→Nat→T} (hl:lstOk n ln f=true) {S:Dv} (hp:okL S.p=true) (h:S.p.length≠0) (hk:0≤dvK o n ln f (ldL o S.p).m) :
  (dvT o ln f S (dvK o n ln f (ldL o S.p).m).toNat).m.ok=true∧1≤(dvT o ln f S (dvK o n ln f (ldL o S.p).m).toNat).c∧(dvT o ln f S (dvK o n ln f (ldL o S.p).m).toNat).c≤100:=
 overT_good (ldL_good (okL_falls hp).2 h) (ldAt_good hl (dvK_facts hk).1) (dvK_facts hk).2
theorem mul1_falls {t:T} (ht:t.m.ok=true∧1≤t.c∧t.c≤100) {g:Nat→T} {m:Nat} (hg:polOk m g=true) {Y:List T} (h:mulM (lf [t]) g m 1=some Y):okL Y=true:=
 okL_of (mulM_len _ Y h) (mulM_falls2 (good_ok (show polOk 1 (lf [t])=true from one_ok ht)).2 (good_ok hg).2 _ Y (Nat.le_refl _) h)
theorem DvOk.take {o:Int} {n:Nat} {ln:Nat→Nat} {f:Nat→Nat→T} (hl:lstOk n ln f=true) {u:Nat} {S S':Dv} (h:DvOk u S) (h0:S.p.length≠0) (hk:0≤dvK o n ln f (ldL o S.p).m) (hs:dvTake o ln f S (dvK o n ln f (ldL o S.p).m).toNat=some S'):DvOk (u+1) S':=by
 have hg:=dvT_good hl h.p h0 hk
 have hkn:=(dvK_facts hk).1
 generalize (dvK o n ln f (ldL o S.p).m).toNat=k at hs hg hkn
 unfold dvTake at hs
 split at hs
 ·cases hs
 ·rename_i Y hY
  split at hs
  ·rename_i hle
   cases hs
   have fY:=mul1_falls hg ((lstOk_all hl).2 k hkn).2 hY
   refine ⟨okL_of hle (subL_facts (okL_falls h.p).2 (okL_falls fY).2).1,fun i=>?_,h.r.1,Nat.le_succ_of_le h.r.2⟩
   show Falls (updQ S.q k _ i)∧(updQ S.q k _ i).length≤u+1
   unfold updQ
   split
   ·refine ⟨(addL_facts (h.q k).1 (fallsOne hg)).1,?_⟩
    have h1:=addL_len (S.q k) [dvT o ln f S k]
    have h2:=(h.q k).2
    simp only [List.length_singleton] at h1
    omega
   ·exact ⟨(h.q i).1,Nat.le_succ_of_le (h.q i).2⟩
  ·cases hs
theorem DvOk.leave {o:Int} {u:Nat} {S:Dv} (h:DvOk u S) (h0:S.p.length≠0) (hle:(subL S.p [ldL o S.p]).length≤400):DvOk (u+1) (dvLeave o S):=by
 have hg:=ldL_good (o:=o) (okL_falls h.p).2 h0
 refine ⟨okL_of hle (subL_facts (okL_falls h.p).2 (fallsOne hg)).1,fun i=>⟨(h.q i).1,Nat.le_succ_of_le (h.q i).2⟩,(addL_facts h.r.1 (fallsOne hg)).1,?_⟩
 have h1:=addL_len S.r [ldL o S.p]
 have h2:=h.r.2
 simp only [List.length_singleton] at h1
 show (addL S.r [ldL o S.p]).length≤u+1
 omega
theorem mem_coefV {L:List T} (h:Falls L) {t:T} (ht:t∈L):coef L t.m=t.c∧coef L t.m≠0:=by
 have h1:coef L t.m=t.c:=by
  induction L with
  | nil=>cases ht
  | cons s r ih=>
   rw [coef]
   rcases List.mem_cons.1 ht with rfl | ht'
   ·rw [if_pos (meqB_iff.2 rfl)]
   ·have h1:=h.head t ht'
    rw [if_neg (fun e=>by rw [meqB_iff.1 e] at h1;omega)]
    exact ih h.tail ht'
 have h2:=h.2 t ht
 exact ⟨h1,by omega⟩
theorem sub_one_len {L:List T} (hL:Falls L) {t:T} (ht:t∈L):(subL L [t]).length<L.length:=by
 have ht':=hL.2 t ht
 have hf:=subL_facts hL (fallsOne ht')
 have hm:=mem_coefV hL ht
 have key:subL L [t]=L.filter (fun s=>!meqB s.m t.m):=by
  refine falls_one hf.1 ⟨hL.1.filter _,fun s hs=>hL.2 s (List.mem_filter.1 hs).1⟩ (fun m hmo=>?_)
  rw [hf.2 m]
  by_cases e:t.m=m
  ·subst e
   have h1:coef [t] t.m=t.c:=coef_cons_same _ _
   rw [h1,hm.1]
   have h2:coef (L.filter (fun s=>!meqB s.m t.m)) t.m=0:=by
    by_cases hz:coef (L.filter (fun s=>!meqB s.m t.m)) t.m=0
    ·exact hz
    ·obtain ⟨s,hs,he⟩:=List.mem_map.1 (coef_mem hz)
     have:=(List.mem_filter.1 hs).2
     rw [meqB_iff.2 he] at this
     cases this
   rw [h2];omega
  ·have h1:coef [t] m=0:=by rw [coef_cons_ne e];rfl
   have hb:=coef_range hL m
   rw [h1]
   have h2:coef (L.filter (fun s=>!meqB s.m t.m)) m=coef L m:=by
    by_cases hz:coef L m=0
    ·rw [hz]
     by_cases hz2:coef (L.filter (fun s=>!meqB s.m t.m)) m=0
     ·exact hz2
     ·obtain ⟨s,hs,he⟩:=List.mem_map.1 (coef_mem hz2)
      have h3:=(mem_coefV hL (List.mem_filter.1 hs).1).2
      rw [show s.m=m from he] at h3
      exact absurd hz h3
    ·obtain ⟨s,hs,he⟩:=List.mem_map.1 (coef_mem hz)
     have he:s.m=m:=he
     subst he
     have h4:s∈L.filter (fun s=>!meqB s.m t.m):=List.mem_filter.2 ⟨hs,by rw [meqB_no.2 (fun e'=>e e'.symm)];rfl⟩
     rw [(mem_coefV hL hs).1,(mem_coefV (L:=L.filter (fun s=>!meqB s.m t.m)) ⟨hL.1.filter _,fun s hs=>hL.2 s (List.mem_filter.1 hs).1⟩ h4).1]
   rw [h2];omega
 rw [key]
 refine List.length_filter_lt_length_iff_exists.2 ⟨t,ht,?_⟩
 rw [meqB_iff.2 rfl];decide
theorem dvStep_ok {o:Int} {n:Nat} {ln:Nat→Nat} {f:Nat→Nat→T} (hl:lstOk n ln f=true) {u:Nat} {S S':Dv} (h:DvOk u S) (h0:S.p.length≠0) (hs:dvStep o n ln f S=some S'):DvOk (u+1) S':=by
 unfold dvStep at hs
 split at hs
 ·exact h.take hl h0 (by assumption) hs
 ·cases hs
  have:=sub_one_len (okL_falls h.p).2 (ldL_mem (o:=o) h0)
  have h4:=(okL_falls h.p).1
  exact h.leave h0 (by omega)
theorem dvRun_ok {o:Int} {n:Nat} {ln:Nat→Nat} {f:Nat→Nat→T} (hl:lstOk n ln f=true):∀ {v u:Nat} {S S':Dv},DvOk u S→dvRun o n ln f v S=some S'→DvOk (u+v) S'∧S'.p=[]
 | 0,u,S,S',h,hr=>by
  unfold dvRun at hr
  split at hr
  ·rename_i h0
   cases hr
   exact ⟨h,List.length_eq_zero_iff.1 h0⟩
  ·cases hr
 | v+1,u,S,S',h,hr=>by
  by_cases h0:S.p.length=0
  ·rw [dvRun_done h0] at hr
   cases hr
   exact ⟨⟨h.p,fun k=>⟨(h.q k).1,by have:=(h.q k).2;omega⟩,h.r.1,by have:=h.r.2;omega⟩,List.length_eq_zero_iff.1 h0⟩
  ·cases hs:dvStep o n ln f S with
   | none=>rw [dvRun_no h0 hs] at hr;cases hr
   | some S1=>
    rw [dvRun_step h0 hs] at hr
    have:=dvRun_ok hl (dvStep_ok hl h h0 hs) hr
    rw [show u+(v+1)=u+1+v by omega]
    exact this
end Go.Proofs.YtdidlcjhodejjaaGreat
namespace Go.Proofs.YtdidlcjhodejjaaGreat
open Go.RowKit Go.Deep Go.Joins
set_option linter.unusedVariables false
end Go.Proofs.YtdidlcjhodejjaaGreat
namespace Go.Proofs.YtdidlcjhodejjaaGreat
open Go.RowKit Go.Deep Go.Joins
set_option linter.unusedVariables false
abbrev fN (L:Nat→List T):Nat→Nat→T:=fun i=>lf (L i)
abbrev lN (L:Nat→List T):Nat→Nat:=fun i=>(L i).length
theorem mulM1_wm {t:T} {B Y:List T} (ht:okL [t]=true) (hB:okL B=true) (h:mulM (lf [t]) (lf B) B.length 1=some Y):wmV [t] B=(Y,true):=by
 unfold wmV wylMul
 rw [if_pos ⟨ht,hB⟩]
 show mulO (mulM (lf [t]) (lf B) B.length 1)=_
 rw [h];rfl
theorem mem_add {A B:List T} (hA:Falls A) (hB:Falls B) {s:T} (hs:s∈addL A B):(∃ a∈A,a.m=s.m)∨(∃ b∈B,b.m=s.m):=by
 obtain ⟨hf,hc⟩:=addL_facts hA hB
 have h1:=(mem_coefV hf hs).2
 rw [hc] at h1
 by_cases ha:coef A s.m=0
 ·by_cases hb:coef B s.m=0
  ·rw [ha,hb] at h1;exact absurd rfl h1
  ·obtain ⟨b,h2,h3⟩:=List.mem_map.1 (coef_mem hb)
   exact .inr ⟨b,h2,h3⟩
 ·obtain ⟨a,h2,h3⟩:=List.mem_map.1 (coef_mem ha)
  exact .inl ⟨a,h2,h3⟩
theorem mem_sc {c:Int} {A:List T} {s:T} (hs:s∈scL c A):∃ a∈A,a.m=s.m:=by
 rw [scL_map] at hs
 obtain ⟨a,h1,rfl⟩:=List.mem_map.1 hs
 exact ⟨a,h1,rfl⟩
theorem mem_sub {A B:List T} (hA:Falls A) (hB:Falls B) {s:T} (hs:s∈subL A B):(∃ a∈A,a.m=s.m)∨(∃ b∈B,b.m=s.m):=by
 rcases mem_add hA (scL_falls (by omega) (by omega) hB) hs with h | ⟨b,h1,h2⟩
 ·exact .inl h
 ·obtain ⟨a,h3,h4⟩:=mem_sc h1
  exact .inr ⟨a,h3,h4.trans h2⟩
theorem dvStep_cases {o:Int} {n:Nat} {L:Nat→List T} (hl:lstOk n (lN L) (fN L)=true) {S S':Dv} (hp:okL S.p=true) (h0:S.p.length≠0) (hs:dvStep o n (lN L) (fN L) S=some S') :
  (∃ k Y,k<n∧M.dvd (ldL o (L k)).m (ldL o S.p).m=true∧okL [overT (ldL o S.p) (ldL o (L k))]=true∧wmV [overT (ldL o S.p) (ldL o (L k))] (L k)=(Y,true)∧(subL S.p Y).length≤400∧S'=⟨subL S.p Y,updQ S.q k (addL (S.q k) [overT (ldL o S.p) (ldL o (L k))]),S.r⟩) ∨
  ((∀ i,i<n→M.dvd (ldL o (L i)).m (ldL o S.p).m=false)∧S'=dvLeave o S):=by
 unfold dvStep at hs
 split at hs
 ·rename_i hk
  have hf:=dvK_facts hk
  have hg:=dvT_good hl hp h0 hk
  generalize (dvK o n (lN L) (fN L) (ldL o S.p).m).toNat=k at hs hf hg
  unfold dvTake at hs
  split at hs
  ·cases hs
  ·rename_i Y hY
   split at hs
   ·rename_i hle
    cases hs
    have ho:=one_ok hg
    exact .inl ⟨k,Y,hf.1,hf.2,ho,mulM1_wm ho ((lstOk_all hl).2 k hf.1).2 hY,hle,rfl⟩
   ·cases hs
 ·rename_i hk
  cases hs
  refine .inr ⟨fun i hi=>?_,rfl⟩
  cases hd:M.dvd (ldL o (L i)).m (ldL o S.p).m
  ·rfl
  ·exact absurd (idx_iff.2 ⟨i,hi,hd⟩) hk
theorem dvRun_keeps {o:Int} {n:Nat} {L:Nat→List T} (hl:lstOk n (lN L) (fN L)=true) (I:Dv→Prop) (hI:∀ u S S',DvOk u S→S.p.length≠0→I S→dvStep o n (lN L) (fN L) S=some S'→I S') :
  ∀ {v u:Nat} {S S':Dv},DvOk u S→I S→dvRun o n (lN L) (fN L) v S=some S'→I S'
 | 0,u,S,S',h,hi,hr=>by
  unfold dvRun at hr
  split at hr
  ·cases hr;exact hi
  ·cases hr
 | v+1,u,S,S',h,hi,hr=>by
  by_cases h0:S.p.length=0
  ·rw [dvRun_done h0] at hr
   cases hr
   exact hi
  ·cases hs:dvStep o n (lN L) (fN L) S with
   | none=>rw [dvRun_no h0 hs] at hr;cases hr
   | some S1=>
    rw [dvRun_step h0 hs] at hr
    exact dvRun_keeps hl I hI (dvStep_ok hl h h0 hs) (hI u S S1 h h0 hi hs) hr
theorem redAll_some {o:Int} {p:List T} {n:Nat} {L:Nat→List T} {S:Dv} (h:redAll o p n (lN L) (fN L)=some S):(1≤o∧o≤3)∧okL p=true∧lstOk n (lN L) (fN L)=true∧dvRun o n (lN L) (fN L) 300 (dvOf p)=some S:=by
 unfold redAll at h
 split at h
 ·rename_i hh
  exact ⟨hh.1,hh.2.1,hh.2.2,h⟩
 ·cases h
theorem redAll_keeps {o:Int} {p:List T} {n:Nat} {L:Nat→List T} {S:Dv} (h:redAll o p n (lN L) (fN L)=some S) (I:Dv→Prop) (h0:I (dvOf p)) (hI:∀ u S S',DvOk u S→S.p.length≠0→I S→dvStep o n (lN L) (fN L) S=some S'→I S'):I S:=by
 obtain ⟨_,h2,h3,h4⟩:=redAll_some h
 exact dvRun_keeps h3 I hI (DvOk.start h2) h0 h4
theorem redAll_ok {o:Int} {p:List T} {n:Nat} {L:Nat→List T} {S:Dv} (h:redAll o p n (lN L) (fN L)=some S):DvOk 300 S∧S.p=[]:=by
 obtain ⟨_,h2,h3,h4⟩:=redAll_some h
 have:=dvRun_ok h3 (DvOk.start h2) h4
 exact ⟨by simpa using this.1,this.2⟩
theorem sumN_upd (F:Nat→Lq) (X:Lq) (k:Nat):∀ n,k<n→Lq.sumN (fun i=>if i=k then Lq.sum (F i) X else F i) n=Lq.sum (Lq.sumN F n) X
 | 0,h=>by omega
 | n+1,h=>by
  rw [Lq.sumN,Lq.sumN]
  by_cases e:k=n
  ·subst e
   rw [if_pos rfl,Lq.sumN_congr (g:=F) (fun i hi=>if_neg (by omega)),Lq.sum_assoc]
  ·rw [sumN_upd F X k n (by omega),if_neg (fun h=>e h.symm),Lq.sum_assoc,Lq.sum_assoc,Lq.sum_comm X]
def qsum (g:Gen) (n:Nat) (L:Nat→List T) (q:Nat→List T):Lq:=Lq.sumN (fun i=>Lq.mul (Rp g (q i)) (Rp g (L i))) n
theorem sumN_nils:∀ n,Lq.sumN (fun _=>Lq.nil) n=Lq.nil
 | 0=>rfl
 | n+1=>by rw [Lq.sumN,sumN_nils n,Lq.sum_nil]
theorem qsum_nil (g:Gen) (n:Nat) (L:Nat→List T):qsum g n L (fun _=>[])=Lq.nil:=by
 unfold qsum
 rw [Lq.sumN_congr (g:=fun _=>Lq.nil) (fun i _=>by rw [Rp_nil,Lq.nil_mul]),sumN_nils]
theorem qsum_upd (g:Gen) {n:Nat} {L q:Nat→List T} {k:Nat} {t:T} (hk:k<n) (hq:Falls (q k)) (ht:okL [t]=true):qsum g n L (updQ q k (addL (q k) [t]))=Lq.sum (qsum g n L q) (Lq.mul (Rp g [t]) (Rp g (L k))):=by
 unfold qsum
 rw [← sumN_upd _ _ k n hk]
 refine Lq.sumN_congr (fun i _=>?_)
 unfold updQ
 split
 ·rename_i e
  subst e
  rw [Rp_add g hq (okL_falls ht).2,Lq.sum_mul]
 ·rfl
theorem redAll_all (g:Gen) {o:Int} {p:List T} {n:Nat} {L:Nat→List T} {S:Dv} (h:redAll o p n (lN L) (fN L)=some S):Lq.sum (qsum g n L S.q) (Rp g S.r)=Rp g p:=by
 obtain ⟨_,h2,h3,h4⟩:=redAll_some h
 have key:=redAll_keeps h (fun S=>Lq.sum (qsum g n L S.q) (Lq.sum (Rp g S.r) (Rp g S.p))=Rp g p) (by
  show Lq.sum (qsum g n L (fun _=>[])) (Lq.sum (Rp g []) (Rp g p))=_
  rw [qsum_nil,Rp_nil]
  exact Lq.ext fun u i j=>by show (0:Fq)+(0+_)=_;grind) (fun u S S' hok h0 hI hs=>by
  rw [← hI]
  rcases dvStep_cases h3 hok.p h0 hs with ⟨k,Y,hk,_,ho,hY,_,rfl⟩ | ⟨_,rfl⟩
  ·show Lq.sum (qsum g n L (updQ S.q k _)) (Lq.sum (Rp g S.r) (Rp g (subL S.p Y)))=_
   rw [qsum_upd g hk (hok.q k).1 ho,Rp_sub g (okL_falls hok.p).2 (wm_falls hY),Rp_mul g hY]
   exact Lq.ext fun u i j=>by
    show _+_+(_+(_+zz 100 * _))=_+(_+_)
    have e:zz 100=100:=rfl
    rw [e]
    grind
  ·show Lq.sum (qsum g n L S.q) (Lq.sum (Rp g (addL S.r [ldL o S.p])) (Rp g (subL S.p [ldL o S.p])))=_
   have f1:=fallsOne (ldL_good (o:=o) (okL_falls hok.p).2 h0)
   rw [Rp_add g hok.r.1 f1,Rp_sub g (okL_falls hok.p).2 f1]
   exact Lq.ext fun u i j=>by
    show _+(_+_+(_+zz 100 * _))=_+(_+_)
    have e:zz 100=100:=rfl
    rw [e]
    grind)
 have hp:=(redAll_ok h).2
 rw [hp,Rp_nil,Lq.sum_nil] at key
 exact key
theorem red_free {o:Int} {p:List T} {n:Nat} {L:Nat→List T} {S:Dv} (h:redAll o p n (lN L) (fN L)=some S):∀ t∈S.r,∀ i,i<n→M.dvd (ldL o (L i)).m t.m=false:=by
 obtain ⟨_,h2,h3,h4⟩:=redAll_some h
 refine redAll_keeps h (fun S=>∀ t∈S.r,∀ i,i<n→M.dvd (ldL o (L i)).m t.m=false) (fun t ht=>by cases ht) (fun u S S' hok h0 hI hs=>?_)
 rcases dvStep_cases h3 hok.p h0 hs with ⟨k,Y,_,_,_,_,_,rfl⟩ | ⟨hno,rfl⟩
 ·exact hI
 ·intro t ht i hi
  rcases mem_add hok.r.1 (fallsOne (ldL_good (o:=o) (okL_falls hok.p).2 h0)) ht with ⟨a,ha,e⟩ | ⟨b,hb,e⟩
  ·rw [← e];exact hI a ha i hi
  ·rw [← e,List.mem_singleton.1 hb];exact hno i hi
theorem over_sum {t l:T} (hd:M.dvd l.m t.m=true):(overT t l).m.sum l.m=t.m:=by
 have h:=sum_over hd
 unfold M.mul at h
 split at h
 ·exact congrArg Prod.fst h
 ·exact absurd (congrArg Prod.snd h) (by simp)
theorem prod_top {o:Int} (ho:1≤o∧o≤3) {t:T} {B Y:List T} (hB:okL B=true) (hB0:B.length≠0) (h:wmV [t] B=(Y,true)):∀ s∈Y,rkW o s.m≤rkW o t.m+rkW o (ldL o B).m:=fun s hs=>by
 have:=(lead_prod (rkW_wt o) rkW_inj h (List.mem_singleton.2 rfl) (ldL_mem (o:=o) hB0) (fun a ha=>by rw [List.mem_singleton.1 ha];exact Int.le_refl _) (ldL_top ho hB hB0)).2 s hs
 rw [(rkW_wt o t.m (ldL o B).m 0 0).2] at this
 exact this
theorem red_lead {o:Int} {p:List T} {n:Nat} {L:Nat→List T} {S:Dv} (h:redAll o p n (lN L) (fN L)=some S) {N:Int} (hN:∀ t∈p,rkW o t.m≤N):(∀ t∈S.r,rkW o t.m≤N)∧∀ i,i<n→∀ s∈S.q i,(s.m.sum (ldL o (L i)).m).ok=true∧rkW o (s.m.sum (ldL o (L i)).m)≤N:=by
 obtain ⟨h1,h2,h3,h4⟩:=redAll_some h
 have key:=redAll_keeps h (fun S=>(∀ t∈S.p,rkW o t.m≤N)∧(∀ t∈S.r,rkW o t.m≤N)∧∀ i,i<n→∀ s∈S.q i,(s.m.sum (ldL o (L i)).m).ok=true∧rkW o (s.m.sum (ldL o (L i)).m)≤N) ⟨hN,⟨fun t ht=>absurd ht (List.not_mem_nil),fun i _ s hs=>absurd hs (List.not_mem_nil)⟩⟩ (fun u S S' hok h0 hI hs=>by
  obtain ⟨i1,i2,i3⟩:=hI
  have hl:=ldL_mem (o:=o) h0
  have hg:=ldL_good (o:=o) (okL_falls hok.p).2 h0
  rcases dvStep_cases h3 hok.p h0 hs with ⟨k,Y,hk,hd,ho,hY,_,rfl⟩ | ⟨hno,rfl⟩
  ·have hk2:=(lstOk_all h3).2 k hk
   have htop:=prod_top h1 hk2.2 hk2.1 hY
   have hsum:=over_sum hd
   have hw:=(rkW_wt o (overT (ldL o S.p) (ldL o (L k))).m (ldL o (L k)).m 0 0).2
   rw [hsum] at hw
   refine ⟨fun t ht=>?_,i2,fun i hi s hs=>?_⟩
   ·rcases mem_sub (okL_falls hok.p).2 (wm_falls hY) ht with ⟨a,ha,e⟩ | ⟨b,hb,e⟩
    ·rw [← e];exact i1 a ha
    ·rw [← e]
     have:=htop b hb
     have:=i1 _ hl
     omega
   ·change s∈updQ S.q k _ i at hs
    unfold updQ at hs
    split at hs
    ·rename_i e
     subst e
     rcases mem_add (hok.q i).1 (okL_falls ho).2 hs with ⟨a,ha,e⟩ | ⟨b,hb,e⟩
     ·rw [← e];exact i3 i hi a ha
     ·rw [← e,List.mem_singleton.1 hb,hsum]
      exact ⟨hg.1,i1 _ hl⟩
    ·exact i3 i hi s hs
  ·refine ⟨fun t ht=>?_,fun t ht=>?_,i3⟩
   ·rcases mem_sub (okL_falls hok.p).2 (fallsOne hg) ht with ⟨a,ha,e⟩ | ⟨b,hb,e⟩
    ·rw [← e];exact i1 a ha
    ·rw [← e,List.mem_singleton.1 hb];exact i1 _ hl
   ·rcases mem_add hok.r.1 (fallsOne hg) ht with ⟨a,ha,e⟩ | ⟨b,hb,e⟩
    ·rw [← e];exact i2 a ha
    ·rw [← e,List.mem_singleton.1 hb];exact i1 _ hl)
 exact ⟨key.2.1,key.2.2⟩
theorem lf_sc (c:Int) (L:List T) {i:Nat} (h:i<L.length):lf (scL c L) i=scT1 c (lf L i):=by
 have h2:i<(scL c L).length:=by rw [scL_len];exact h
 rw [lf_eq h2,lf_eq h]
 simp only [scL_map,List.getElem_map]
 rfl
theorem leadFrom_sc (o:Int) (f g:Nat→T):∀ (u i k n:Nat),i+u≤n→k<n→(∀ j,j<n→(f j).m=(g j).m)→leadFrom o f u i k=leadFrom o g u i k
 | 0,i,k,n,_,_,_=>rfl
 | u+1,i,k,n,hi,hk,h=>by
  simp only [leadFrom]
  rw [h i (by omega),h k hk]
  split
  ·exact leadFrom_sc o f g u (i+1) i n (by omega) (by omega) h
  ·exact leadFrom_sc o f g u (i+1) k n (by omega) hk h
theorem ldL_sc (o c:Int) {L:List T} (h0:L.length≠0):ldL o (scL c L)=scT1 c (ldL o L):=by
 have e:leadAt o (lf (scL c L)) (scL c L).length=leadAt o (lf L) L.length:=by
  rw [scL_len]
  exact leadFrom_sc o _ _ (L.length - 1) 1 0 L.length (by omega) (by omega) (fun j hj=>by rw [lf_sc c L hj];rfl)
 unfold ldL
 rw [e,lf_sc c L (leadAt_lt (by omega))]
end Go.Proofs.YtdidlcjhodejjaaGreat
namespace Go.Proofs.YtdidlcjhodejjaaGreat
open Go.RowKit Go.Deep Go.Joins Go.Maps
set_option linter.unusedVariables false
theorem Own5.grown {w w':World} {b:Nat} {t:T} {row:Option Nat} (h:Own5 w b t) (hg:w.grownBy w' row) (hne:some b≠row):Own5 w' b t:=by
 have hl:=h.1.lt
 have hb:=hg.block b hl hne
 obtain ⟨⟨h0,h1,h2,h3,h4⟩,h5⟩:=h
 exact ⟨⟨(World.cell?_of_block (a:=⟨b,0,none⟩) hb).trans h0,(World.cell?_of_block (a:=⟨b,1,none⟩) hb).trans h1,(World.cell?_of_block (a:=⟨b,2,none⟩) hb).trans h2,(World.cell?_of_block (a:=⟨b,3,none⟩) hb).trans h3,(World.cell?_of_block (a:=⟨b,4,none⟩) hb).trans h4⟩,fun j=>(World.frozen?_of_block (a:=⟨b,j,none⟩) hb).trans (h5 j)⟩
theorem grownSet (w:World) (b i:Nat) (v:Value):w.grownBy (w.setCell ⟨b,i,none⟩ v) (some b):=
 ⟨(Below.refl 0 w).setCell (p:=⟨b,i,none⟩) (Nat.zero_le _) v |>.os,(Below.refl 0 w).setCell (p:=⟨b,i,none⟩) (Nat.zero_le _) v |>.tape,(Below.refl 0 w).setCell (p:=⟨b,i,none⟩) (Nat.zero_le _) v |>.output,(Below.refl 0 w).setCell (p:=⟨b,i,none⟩) (Nat.zero_le _) v |>.size,fun k _ hk=>Below.heap_setCell _ _ _ k (fun e=>hk (by rw [e]))⟩
theorem grown_s5 (w:World) (B:Nat) (v0 v1 v2 v3 v4:Value):w.grownBy (((((w.setCell ⟨B,0,none⟩ v0).setCell ⟨B,1,none⟩ v1).setCell ⟨B,2,none⟩ v2).setCell ⟨B,3,none⟩ v3).setCell ⟨B,4,none⟩ v4) (some B):=
 ((((grownSet w B 0 v0).trans (grownSet _ B 1 v1)).trans (grownSet _ B 2 v2)).trans (grownSet _ B 3 v3)).trans (grownSet _ B 4 v4)
def Met (rk:M→Int) (c:M→Int) (ss:List M) (G:T):Prop:=(ss=[]∧G=zeroT)∨(1≤G.c∧G.m.ok=true∧G.m∈ss∧G.c=c G.m∧∀ m∈ss,rk m≤rk G.m)
theorem Met.first {rk c:M→Int} {G:T} (h:Met rk c [] G):G=zeroT:=by
 rcases h with ⟨_,h⟩ | ⟨_,_,h,_⟩
 ·exact h
 ·simp at h
theorem Met.put {rk c:M→Int} {ss:List M} {G:T} {m:M} (h:Met rk c ss G) (hm:m.ok=true) (hc:1≤c m) (hg:G.c=0∨rk G.m<rk m):Met rk c (ss ++ [m]) ⟨c m,m⟩:=by
 refine .inr ⟨hc,hm,by simp,rfl,fun x hx=>?_⟩
 rcases List.mem_append.1 hx with hx | hx
 ·rcases h with ⟨rfl,_⟩ | ⟨h1,_,_,_,h5⟩
  ·simp at hx
  ·rcases hg with hg | hg
   ·omega
   ·have:=h5 x hx
    show rk x≤rk m
    omega
 ·simp at hx;rw [hx];exact Int.le_refl _
theorem Met.keep {rk c:M→Int} {ss:List M} {G:T} {m:M} (h:Met rk c ss G) (h1:1≤G.c) (hg:¬ rk G.m<rk m):Met rk c (ss ++ [m]) G:=by
 rcases h with ⟨_,rfl⟩ | ⟨_,h0,h2,h3,h5⟩
 ·exact absurd h1 (by decide)
 ·refine .inr ⟨h1,h0,List.mem_append_left _ h2,h3,fun x hx=>?_⟩
  rcases List.mem_append.1 hx with hx | hx
  ·exact h5 x hx
  ·simp at hx;rw [hx];omega
theorem Met.all {o:Int} {p:List T} (ho:1≤o∧o≤3) (hp:okL p=true) (h0:p.length≠0) {ss:List M} {G:T} (h:Met (rkW o) (coef p) ss G) (hs:∀ m:M,m.ok=true→(m∈ss ↔ coef p m≠0)):G=ldL o p:=by
 have hl:=ldL_mem (o:=o) h0
 have hf:=(okL_falls hp).2
 have hlm:=hf.2 _ hl
 have hcl:=mem_coefV hf hl
 have hin:(ldL o p).m∈ss:=(hs _ hlm.1).2 hcl.2
 rcases h with ⟨rfl,_⟩ | ⟨h1,h2,h3,h4,h5⟩
 ·simp at hin
 ·have hc:coef p G.m≠0:=(hs _ h2).1 h3
  obtain ⟨t,ht,he⟩:=List.mem_map.1 (coef_mem hc)
  have he:t.m=G.m:=he
  have e1:=h5 _ hin
  have e2:=ldL_top ho hp h0 t ht
  rw [he] at e2
  have e3:G.m=(ldL o p).m:=rkW_inj _ _ h2 hlm.1 (Int.le_antisymm e2 e1)
  have e4:G.c=(ldL o p).c:=by rw [h4,e3,hcl.1]
  cases hG:G with | mk gc gm=>
  cases hL:ldL o p with | mk lc lm=>
  rw [hG,hL] at e3 e4
  simp at e3 e4
  rw [e3,e4]
theorem CollM.all {D:DataW Unit} {left:Lit→Bool} {ss:List M} {c:M→Int} (h:CollM D left ss) (hl:∀ kl,left kl=false) (hat:∀ m:M,m.ok=true→D.atKey (keyM m) (.lit (.int .i64 0))=.lit (.int .i64 (c m))∧(Maps.has D (keyM m)=true ↔ c m≠0)):∀ m:M,m.ok=true→(m∈ss ↔ c m≠0):=fun m hm=>by
 rw [h.2.2 m hm,hl]
 simp [(hat m hm).2]
set_option maxRecDepth 100000 in
set_option maxHeartbeats 8000000 in
theorem greatest1 (w:World) (b n:Nat) (c:M→Int) (h:SumR w b n c) :
  Calls Tryz.prog 148 #[.map (some b),.func (.func 103) #[] #[]] w fun r w'=>∃ G:T,r=.returned (.agg #[.int .i64 G.c,.int .i64 G.m.x,.int .i64 G.m.y,.int .i64 G.m.d,.int .i64 G.m.e])∧Below w.heap.size w w'∧∃ ss,Met rkD c ss G∧∀ m:M,m.ok=true→(m∈ss ↔ c m≠0):=by
 obtain ⟨D,hown,hc,hat,hks⟩:=h
 have hblt:=hown.lt
 have HKS:=Hid.mk' hks
 have HAT:=Hid.mk' hat
 have HC:=Hid.mk' hc
 have HO2:=Hid.mk' ((hown.alloc (.cells #[.int .i64 0,.int .i64 0,.int .i64 0,.int .i64 0,.int .i64 0] 42)).alloc (.cells #[.int .i64 0,.int .i64 0,.int .i64 0,.int .i64 0,.int .i64 0] 42))
 have HB0:=Hid.mk' (bel_two w (.cells #[.int .i64 0,.int .i64 0,.int .i64 0,.int .i64 0,.int .i64 0] 42) (.cells #[.int .i64 0,.int .i64 0,.int .i64 0,.int .i64 0,.int .i64 0] 42))
 have HZ0:=Hid.mk' ((Own5.box w 42 zeroT).below (bel_one _ (.cells #[.int .i64 0,.int .i64 0,.int .i64 0,.int .i64 0,.int .i64 0] 42)))
 have HG0:=Hid.mk' (Own5.box (w.alloc (.cells #[.int .i64 0,.int .i64 0,.int .i64 0,.int .i64 0,.int .i64 0] 42)) 42 zeroT)
 clear hks hat hown hc
 go_enter Tryz.func148,Tryz.ntmps148
 go_wp2_with (first
  | (at_range;refine wpList_range_own _ rfl _ 170 rfl 40 138 lawM Tryz.underlying170 _ b n D rfl HO2.out ?_;intro w0 hrg0 hg0 hs0)
  | go_in)
 have hs2:((w.alloc (.cells #[.int .i64 0,.int .i64 0,.int .i64 0,.int .i64 0,.int .i64 0] 42)).alloc (.cells #[.int .i64 0,.int .i64 0,.int .i64 0,.int .i64 0,.int .i64 0] 42)).heap.size=w.heap.size+2:=by simp
 have HB1:=Hid.mk' (bel_grown HB0.out hg0 (by simp))
 have HZ1:=Hid.mk' (HZ0.out.grown hg0 (by simp))
 have HG1:=Hid.mk' (HG0.out.grown hg0 (by simp))
 have HRG:=Hid.mk' hrg0
 rw [hs2] at HRG
 simp only [World.size_alloc] at HG1
 clear HB0 HZ0 HG0 HO2 hrg0 hg0 hs0
 go_frame
 rw [hs2]
 go_loopw [6] (fun _ wr=>∃ (left:Lit→Bool) (cnt:Nat) (ss:List M) (G:T),wr.ranges Tryz.prog 40 (plainElem Tryz.prog 138) b (w.heap.size+2) n D left cnt∧CollM D left ss∧Below w.heap.size w wr∧Own5 wr w.heap.size zeroT∧Own5 wr (w.heap.size+1) G∧Met rkD c ss G)
  (fun _ wr=>wr.rangeLeft b (w.heap.size+2))
 case atStart=>exact ⟨_,_,[],zeroT,HRG.out,CollM.start D,HB1.out,HZ1.out,HG1.out,.inl ⟨rfl,rfl⟩⟩
 case round=>
  obtain ⟨left,cnt,ss,G,hrg,hC,hB,hZ,hG,hM⟩:=hrel
  have HCO:=Hid.mk' hC
  have HB:=Hid.mk' hB
  have HZ:=Hid.mk' hZ
  have HGG:=Hid.mk' hG
  have HM:=Hid.mk' hM
  have HRR:=Hid.mk' hrg
  have hGl:w.heap.size+1<wr.heap.size:=hG.1.lt
  clear hC hB hZ hG hM
  go_wp2_with (first
   | (at_next;refine wpList_next_ranges _ rfl _ rfl 40 lawM (plainElem Tryz.prog 138) (id:Value→Value) (Value.int .i64) (fun key kl hk=>⟨key,rfl⟩) (fun v y hv=>by obtain ⟨c,rfl,_⟩:=plainElem_int_inv Tryz.underlying138 hv;exact ⟨c,rfl⟩) b (w.heap.size+2) n _ _ _ rfl HRR.out ?_ ?_)
   | go_in)
  ·intro hc0 hl0
   obtain ⟨⟨z0,z1,z2,z3,z4⟩,fz⟩:=HZ.out
   obtain ⟨⟨l0,l1,l2,l3,l4⟩,_⟩:=HGG.out
   simp only [zeroT] at z0 z1 z2 z3 z4
   have HAL:=Hid.mk' (HCO.out.all hl0 HAT.out)
   clear hl0 hrg HZ HGG
   go_wp2
   refine bodyPost_ret (v:=.agg #[.int .i64 G.c,.int .i64 G.m.x,.int .i64 G.m.y,.int .i64 G.m.d,.int .i64 G.m.e]) (by simp [results,Tryz.results148,go_sem, *]) rfl ⟨G,rfl,?_,ss,HM.out,HAL.out⟩
   exact bel_s5 HB.out (Nat.le_refl _) _ _ _ _ _
  ·intro x cv kl yd yp w2 cnt2 hkey hlk hv hatx hrg2 hlt hg2 hsz2 hen
   obtain ⟨m,hmo,rfl⟩:=HKS.out kl (has_true_of_atKey hatx)
   obtain rfl:x=enM m:=lawM.inj hkey (keyOfM hmo)
   obtain rfl:cv=c m:=by
    obtain ⟨c',e,e2,_⟩:=plainElem_int_inv Tryz.underlying138 hv
    cases e
    cases e2
    have h1:=(HAT.out m hmo).1
    rw [hatx] at h1
    simpa using h1
   have hcm:1≤c m:=by
    have h1:=(HAT.out m hmo).2.1 (has_true_of_atKey hatx)
    have h2:=(HC.out m).1
    omega
   have hcm2:=(HC.out m).2
   have HRG2:=Hid.mk' (hrg2.alloc (.cells #[.int .i64 m.x,.int .i64 m.y,.int .i64 m.d,.int .i64 m.e] 40))
   have HLT:=Hid.mk' (show cnt2<wr.rangeLeft b (w.heap.size+2) by rw [hrg.left_eq];exact hlt)
   have HCO2:=Hid.mk' (HCO.out.step hmo hlk hatx)
   have hB2:=bel_grown HB.out hg2 (fun k e=>by cases e;omega)
   have HB2:=Hid.mk' (hB2.alloc hB2.size (.cells #[.int .i64 m.x,.int .i64 m.y,.int .i64 m.d,.int .i64 m.e] 40))
   have HZ2:=Hid.mk' ((HZ.out.grown hg2 (by simp)).below (bel_one w2 (.cells #[.int .i64 m.x,.int .i64 m.y,.int .i64 m.d,.int .i64 m.e] 40)))
   have HG2:=Hid.mk' ((HGG.out.grown hg2 (by simp)).below (bel_one w2 (.cells #[.int .i64 m.x,.int .i64 m.y,.int .i64 m.d,.int .i64 m.e] 40)))
   have HM2:=Hid.mk' (M4.box w2 40 m.x m.y m.d m.e)
   have hsw:w.heap.size+1<w2.heap.size:=by rw [hsz2];exact hGl
   have hrw:w.heap.size+2<w2.heap.size:=hrg2.lt
   have hbw:b<w2.heap.size:=hrg2.owns.lt
   clear hlk hatx hrg hrg2 hlt hg2 hsz2 hkey hv hB2 HRR HB HZ HGG HCO hGl
   go_wp2_with fail
   generalize (w2.alloc (.cells #[.int .i64 m.x,.int .i64 m.y,.int .i64 m.d,.int .i64 m.e] 40))=wq at HRG2 HB2 HZ2 HG2 HM2 ⊢
   have ne:=Ext.there wq
   have s0:∀ u:Ext wq,u.1.cell? ⟨w2.heap.size,0,none⟩=some (.int .i64 m.x):=fun u=>(u.cell HM2.out.lt).trans HM2.out.1
   have s1:∀ u:Ext wq,u.1.cell? ⟨w2.heap.size,1,none⟩=some (.int .i64 m.y):=fun u=>(u.cell HM2.out.lt).trans HM2.out.2.1
   have s2:∀ u:Ext wq,u.1.cell? ⟨w2.heap.size,2,none⟩=some (.int .i64 m.d):=fun u=>(u.cell HM2.out.lt).trans HM2.out.2.2.1
   have s3:∀ u:Ext wq,u.1.cell? ⟨w2.heap.size,3,none⟩=some (.int .i64 m.e):=fun u=>(u.cell HM2.out.lt).trans HM2.out.2.2.2
   have t0:∀ u:Ext wq,u.1.cell? ⟨w.heap.size+1,0,none⟩=some (.int .i64 G.c):=fun u=>(u.cell HG2.out.1.lt).trans HG2.out.1.1
   have t1:∀ u:Ext wq,u.1.cell? ⟨w.heap.size+1,1,none⟩=some (.int .i64 G.m.x):=fun u=>(u.cell HG2.out.1.lt).trans HG2.out.1.2.1
   have t2:∀ u:Ext wq,u.1.cell? ⟨w.heap.size+1,2,none⟩=some (.int .i64 G.m.y):=fun u=>(u.cell HG2.out.1.lt).trans HG2.out.1.2.2.1
   have t3:∀ u:Ext wq,u.1.cell? ⟨w.heap.size+1,3,none⟩=some (.int .i64 G.m.d):=fun u=>(u.cell HG2.out.1.lt).trans HG2.out.1.2.2.2.1
   have t4:∀ u:Ext wq,u.1.cell? ⟨w.heap.size+1,4,none⟩=some (.int .i64 G.m.e):=fun u=>(u.cell HG2.out.1.lt).trans HG2.out.1.2.2.2.2
   by_cases hG0:G.c=0
   ·have hgz:((G.c:Int) == 0)=true:=by simpa using hG0
    have HMT:=Hid.mk' (HM.out.put hmo hcm (.inl hG0))
    clear HM hG0
    refine wp_region_ext (by kernel_rfl) (by kernel_rfl) ?_
    repeat (go_big_quiet_step (fail))
    refine wpQuiet_nil ?_
    rintro _ ⟨v,rfl⟩
    have HBV:=Hid.mk' (HB2.out.trans (v.2.mono HB2.out.size))
    have HZV:=Hid.mk' (HZ2.out.below v.2)
    have HGV:=Hid.mk' (HG2.out.below v.2)
    have HMV:=Hid.mk' (HM2.out.below v.2)
    have HRV:=Hid.mk' (HRG2.out.kept (below_grown v.2 none) (by simp) (by simp))
    obtain ⟨u,hu⟩:∃ u,v.1=u:=⟨_,rfl⟩
    rw [hu] at HBV HZV HGV HMV HRV ⊢
    clear hu s0 s1 s2 s3 t0 t1 t2 t3 t4 ne v
    obtain ⟨q0,q1,q2,q3⟩:=HMV.out
    obtain ⟨⟨l0,l1,l2,l3,l4⟩,lz⟩:=HGV.out
    have HRW:=Hid.mk' (HRV.out.kept (grown_s5 u (w.heap.size+1) (.int .i64 (c m)) (.int .i64 m.x) (.int .i64 m.y) (.int .i64 m.d) (.int .i64 m.e)) (by simp;omega) (by simp))
    clear HRV
    go_wp2
    go_roundw
    case rel=>
     refine ⟨_,cnt2,ss ++ [m],⟨c m,m⟩,HRW.out,HCO2.out,bel_s5 HBV.out (by omega) _ _ _ _ _,HZV.out.far (by omega),⟨⟨by go_simp,by go_simp,by go_simp,by go_simp,by go_simp⟩,fun j=>by go_simp⟩,HMT.out⟩
    case measure=>rw [HRW.out.left_eq];exact HLT.out
   ·have hgz:((G.c:Int) == 0)=false:=by simpa using hG0
    obtain ⟨hg1,hgo⟩:1≤G.c∧G.m.ok=true:=by
     rcases HM.out with ⟨_,e⟩ | ⟨e1,e2,_⟩
     ·rw [e] at hG0;exact absurd rfl hG0
     ·exact ⟨e1,e2⟩
    by_cases hq:rkD G.m<rkD m
    ·have dq:decide (rkD ⟨G.m.x,G.m.y,G.m.d,G.m.e⟩<rkD ⟨m.x,m.y,m.d,m.e⟩)=true:=decide_eq_true hq
     have HMT:=Hid.mk' (HM.out.put hmo hcm (.inr hq))
     clear HM hG0 hq
     refine wp_region_ext (by kernel_rfl) (by kernel_rfl) ?_
     repeat (go_big_quiet_step (first | (go_at_call 103;exact ext_grows (rankDegI _ _ _ _ _ hmo)) | (go_at_call 103;exact ext_grows (rankDegI _ _ _ _ _ hgo))))
     refine wpQuiet_nil ?_
     rintro _ ⟨v,rfl⟩
     have HBV:=Hid.mk' (HB2.out.trans (v.2.mono HB2.out.size))
     have HZV:=Hid.mk' (HZ2.out.below v.2)
     have HGV:=Hid.mk' (HG2.out.below v.2)
     have HMV:=Hid.mk' (HM2.out.below v.2)
     have HRV:=Hid.mk' (HRG2.out.kept (below_grown v.2 none) (by simp) (by simp))
     obtain ⟨u,hu⟩:∃ u,v.1=u:=⟨_,rfl⟩
     rw [hu] at HBV HZV HGV HMV HRV ⊢
     clear hu s0 s1 s2 s3 t0 t1 t2 t3 t4 ne v
     obtain ⟨q0,q1,q2,q3⟩:=HMV.out
     obtain ⟨⟨l0,l1,l2,l3,l4⟩,lz⟩:=HGV.out
     have HRW:=Hid.mk' (HRV.out.kept (grown_s5 u (w.heap.size+1) (.int .i64 (c m)) (.int .i64 m.x) (.int .i64 m.y) (.int .i64 m.d) (.int .i64 m.e)) (by simp;omega) (by simp))
     clear HRV
     go_wp2
     go_roundw
     case rel=>
      refine ⟨_,cnt2,ss ++ [m],⟨c m,m⟩,HRW.out,HCO2.out,bel_s5 HBV.out (by omega) _ _ _ _ _,HZV.out.far (by omega),⟨⟨by go_simp,by go_simp,by go_simp,by go_simp,by go_simp⟩,fun j=>by go_simp⟩,HMT.out⟩
     case measure=>rw [HRW.out.left_eq];exact HLT.out
    ·have dq:decide (rkD ⟨G.m.x,G.m.y,G.m.d,G.m.e⟩<rkD ⟨m.x,m.y,m.d,m.e⟩)=false:=decide_eq_false hq
     have HMT:=Hid.mk' (HM.out.keep hg1 hq)
     clear HM hG0 hq
     refine wp_region_ext (by kernel_rfl) (by kernel_rfl) ?_
     repeat (go_big_quiet_step (first | (go_at_call 103;exact ext_grows (rankDegI _ _ _ _ _ hmo)) | (go_at_call 103;exact ext_grows (rankDegI _ _ _ _ _ hgo))))
     refine wpQuiet_nil ?_
     rintro _ ⟨v,rfl⟩
     have HBV:=Hid.mk' (HB2.out.trans (v.2.mono HB2.out.size))
     have HZV:=Hid.mk' (HZ2.out.below v.2)
     have HGV:=Hid.mk' (HG2.out.below v.2)
     have HRV:=Hid.mk' (HRG2.out.kept (below_grown v.2 none) (by simp) (by simp))
     obtain ⟨u,hu⟩:∃ u,v.1=u:=⟨_,rfl⟩
     rw [hu] at HBV HZV HGV HRV ⊢
     clear hu s0 s1 s2 s3 t0 t1 t2 t3 t4 ne v
     go_wp2
     go_roundw
     case rel=>exact ⟨_,cnt2,ss ++ [m],G,HRV.out,HCO2.out,HBV.out,HZV.out,HGV.out,HMT.out⟩
     case measure=>rw [HRV.out.left_eq];exact HLT.out
set_option maxRecDepth 100000 in
set_option maxHeartbeats 8000000 in
theorem greatest2 (w:World) (b n:Nat) (c:M→Int) (h:SumR w b n c) :
  Calls Tryz.prog 148 #[.map (some b),.func (.func 104) #[] #[]] w fun r w'=>∃ G:T,r=.returned (.agg #[.int .i64 G.c,.int .i64 G.m.x,.int .i64 G.m.y,.int .i64 G.m.d,.int .i64 G.m.e])∧Below w.heap.size w w'∧∃ ss,Met rkL c ss G∧∀ m:M,m.ok=true→(m∈ss ↔ c m≠0):=by
 obtain ⟨D,hown,hc,hat,hks⟩:=h
 have hblt:=hown.lt
 have HKS:=Hid.mk' hks
 have HAT:=Hid.mk' hat
 have HC:=Hid.mk' hc
 have HO2:=Hid.mk' ((hown.alloc (.cells #[.int .i64 0,.int .i64 0,.int .i64 0,.int .i64 0,.int .i64 0] 42)).alloc (.cells #[.int .i64 0,.int .i64 0,.int .i64 0,.int .i64 0,.int .i64 0] 42))
 have HB0:=Hid.mk' (bel_two w (.cells #[.int .i64 0,.int .i64 0,.int .i64 0,.int .i64 0,.int .i64 0] 42) (.cells #[.int .i64 0,.int .i64 0,.int .i64 0,.int .i64 0,.int .i64 0] 42))
 have HZ0:=Hid.mk' ((Own5.box w 42 zeroT).below (bel_one _ (.cells #[.int .i64 0,.int .i64 0,.int .i64 0,.int .i64 0,.int .i64 0] 42)))
 have HG0:=Hid.mk' (Own5.box (w.alloc (.cells #[.int .i64 0,.int .i64 0,.int .i64 0,.int .i64 0,.int .i64 0] 42)) 42 zeroT)
 clear hks hat hown hc
 go_enter Tryz.func148,Tryz.ntmps148
 go_wp2_with (first
  | (at_range;refine wpList_range_own _ rfl _ 170 rfl 40 138 lawM Tryz.underlying170 _ b n D rfl HO2.out ?_;intro w0 hrg0 hg0 hs0)
  | go_in)
 have hs2:((w.alloc (.cells #[.int .i64 0,.int .i64 0,.int .i64 0,.int .i64 0,.int .i64 0] 42)).alloc (.cells #[.int .i64 0,.int .i64 0,.int .i64 0,.int .i64 0,.int .i64 0] 42)).heap.size=w.heap.size+2:=by simp
 have HB1:=Hid.mk' (bel_grown HB0.out hg0 (by simp))
 have HZ1:=Hid.mk' (HZ0.out.grown hg0 (by simp))
 have HG1:=Hid.mk' (HG0.out.grown hg0 (by simp))
 have HRG:=Hid.mk' hrg0
 rw [hs2] at HRG
 simp only [World.size_alloc] at HG1
 clear HB0 HZ0 HG0 HO2 hrg0 hg0 hs0
 go_frame
 rw [hs2]
 go_loopw [6] (fun _ wr=>∃ (left:Lit→Bool) (cnt:Nat) (ss:List M) (G:T),wr.ranges Tryz.prog 40 (plainElem Tryz.prog 138) b (w.heap.size+2) n D left cnt∧CollM D left ss∧Below w.heap.size w wr∧Own5 wr w.heap.size zeroT∧Own5 wr (w.heap.size+1) G∧Met rkL c ss G)
  (fun _ wr=>wr.rangeLeft b (w.heap.size+2))
 case atStart=>exact ⟨_,_,[],zeroT,HRG.out,CollM.start D,HB1.out,HZ1.out,HG1.out,.inl ⟨rfl,rfl⟩⟩
 case round=>
  obtain ⟨left,cnt,ss,G,hrg,hC,hB,hZ,hG,hM⟩:=hrel
  have HCO:=Hid.mk' hC
  have HB:=Hid.mk' hB
  have HZ:=Hid.mk' hZ
  have HGG:=Hid.mk' hG
  have HM:=Hid.mk' hM
  have HRR:=Hid.mk' hrg
  have hGl:w.heap.size+1<wr.heap.size:=hG.1.lt
  clear hC hB hZ hG hM
  go_wp2_with (first
   | (at_next;refine wpList_next_ranges _ rfl _ rfl 40 lawM (plainElem Tryz.prog 138) (id:Value→Value) (Value.int .i64) (fun key kl hk=>⟨key,rfl⟩) (fun v y hv=>by obtain ⟨c,rfl,_⟩:=plainElem_int_inv Tryz.underlying138 hv;exact ⟨c,rfl⟩) b (w.heap.size+2) n _ _ _ rfl HRR.out ?_ ?_)
   | go_in)
  ·intro hc0 hl0
   obtain ⟨⟨z0,z1,z2,z3,z4⟩,fz⟩:=HZ.out
   obtain ⟨⟨l0,l1,l2,l3,l4⟩,_⟩:=HGG.out
   simp only [zeroT] at z0 z1 z2 z3 z4
   have HAL:=Hid.mk' (HCO.out.all hl0 HAT.out)
   clear hl0 hrg HZ HGG
   go_wp2
   refine bodyPost_ret (v:=.agg #[.int .i64 G.c,.int .i64 G.m.x,.int .i64 G.m.y,.int .i64 G.m.d,.int .i64 G.m.e]) (by simp [results,Tryz.results148,go_sem, *]) rfl ⟨G,rfl,?_,ss,HM.out,HAL.out⟩
   exact bel_s5 HB.out (Nat.le_refl _) _ _ _ _ _
  ·intro x cv kl yd yp w2 cnt2 hkey hlk hv hatx hrg2 hlt hg2 hsz2 hen
   obtain ⟨m,hmo,rfl⟩:=HKS.out kl (has_true_of_atKey hatx)
   obtain rfl:x=enM m:=lawM.inj hkey (keyOfM hmo)
   obtain rfl:cv=c m:=by
    obtain ⟨c',e,e2,_⟩:=plainElem_int_inv Tryz.underlying138 hv
    cases e
    cases e2
    have h1:=(HAT.out m hmo).1
    rw [hatx] at h1
    simpa using h1
   have hcm:1≤c m:=by
    have h1:=(HAT.out m hmo).2.1 (has_true_of_atKey hatx)
    have h2:=(HC.out m).1
    omega
   have hcm2:=(HC.out m).2
   have HRG2:=Hid.mk' (hrg2.alloc (.cells #[.int .i64 m.x,.int .i64 m.y,.int .i64 m.d,.int .i64 m.e] 40))
   have HLT:=Hid.mk' (show cnt2<wr.rangeLeft b (w.heap.size+2) by rw [hrg.left_eq];exact hlt)
   have HCO2:=Hid.mk' (HCO.out.step hmo hlk hatx)
   have hB2:=bel_grown HB.out hg2 (fun k e=>by cases e;omega)
   have HB2:=Hid.mk' (hB2.alloc hB2.size (.cells #[.int .i64 m.x,.int .i64 m.y,.int .i64 m.d,.int .i64 m.e] 40))
   have HZ2:=Hid.mk' ((HZ.out.grown hg2 (by simp)).below (bel_one w2 (.cells #[.int .i64 m.x,.int .i64 m.y,.int .i64 m.d,.int .i64 m.e] 40)))
   have HG2:=Hid.mk' ((HGG.out.grown hg2 (by simp)).below (bel_one w2 (.cells #[.int .i64 m.x,.int .i64 m.y,.int .i64 m.d,.int .i64 m.e] 40)))
   have HM2:=Hid.mk' (M4.box w2 40 m.x m.y m.d m.e)
   have hsw:w.heap.size+1<w2.heap.size:=by rw [hsz2];exact hGl
   have hrw:w.heap.size+2<w2.heap.size:=hrg2.lt
   have hbw:b<w2.heap.size:=hrg2.owns.lt
   clear hlk hatx hrg hrg2 hlt hg2 hsz2 hkey hv hB2 HRR HB HZ HGG HCO hGl
   go_wp2_with fail
   generalize (w2.alloc (.cells #[.int .i64 m.x,.int .i64 m.y,.int .i64 m.d,.int .i64 m.e] 40))=wq at HRG2 HB2 HZ2 HG2 HM2 ⊢
   have ne:=Ext.there wq
   have s0:∀ u:Ext wq,u.1.cell? ⟨w2.heap.size,0,none⟩=some (.int .i64 m.x):=fun u=>(u.cell HM2.out.lt).trans HM2.out.1
   have s1:∀ u:Ext wq,u.1.cell? ⟨w2.heap.size,1,none⟩=some (.int .i64 m.y):=fun u=>(u.cell HM2.out.lt).trans HM2.out.2.1
   have s2:∀ u:Ext wq,u.1.cell? ⟨w2.heap.size,2,none⟩=some (.int .i64 m.d):=fun u=>(u.cell HM2.out.lt).trans HM2.out.2.2.1
   have s3:∀ u:Ext wq,u.1.cell? ⟨w2.heap.size,3,none⟩=some (.int .i64 m.e):=fun u=>(u.cell HM2.out.lt).trans HM2.out.2.2.2
   have t0:∀ u:Ext wq,u.1.cell? ⟨w.heap.size+1,0,none⟩=some (.int .i64 G.c):=fun u=>(u.cell HG2.out.1.lt).trans HG2.out.1.1
   have t1:∀ u:Ext wq,u.1.cell? ⟨w.heap.size+1,1,none⟩=some (.int .i64 G.m.x):=fun u=>(u.cell HG2.out.1.lt).trans HG2.out.1.2.1
   have t2:∀ u:Ext wq,u.1.cell? ⟨w.heap.size+1,2,none⟩=some (.int .i64 G.m.y):=fun u=>(u.cell HG2.out.1.lt).trans HG2.out.1.2.2.1
   have t3:∀ u:Ext wq,u.1.cell? ⟨w.heap.size+1,3,none⟩=some (.int .i64 G.m.d):=fun u=>(u.cell HG2.out.1.lt).trans HG2.out.1.2.2.2.1
   have t4:∀ u:Ext wq,u.1.cell? ⟨w.heap.size+1,4,none⟩=some (.int .i64 G.m.e):=fun u=>(u.cell HG2.out.1.lt).trans HG2.out.1.2.2.2.2
   by_cases hG0:G.c=0
   ·have hgz:((G.c:Int) == 0)=true:=by simpa using hG0
    have HMT:=Hid.mk' (HM.out.put hmo hcm (.inl hG0))
    clear HM hG0
    refine wp_region_ext (by kernel_rfl) (by kernel_rfl) ?_
    repeat (go_big_quiet_step (fail))
    refine wpQuiet_nil ?_
    rintro _ ⟨v,rfl⟩
    have HBV:=Hid.mk' (HB2.out.trans (v.2.mono HB2.out.size))
    have HZV:=Hid.mk' (HZ2.out.below v.2)
    have HGV:=Hid.mk' (HG2.out.below v.2)
    have HMV:=Hid.mk' (HM2.out.below v.2)
    have HRV:=Hid.mk' (HRG2.out.kept (below_grown v.2 none) (by simp) (by simp))
    obtain ⟨u,hu⟩:∃ u,v.1=u:=⟨_,rfl⟩
    rw [hu] at HBV HZV HGV HMV HRV ⊢
    clear hu s0 s1 s2 s3 t0 t1 t2 t3 t4 ne v
    obtain ⟨q0,q1,q2,q3⟩:=HMV.out
    obtain ⟨⟨l0,l1,l2,l3,l4⟩,lz⟩:=HGV.out
    have HRW:=Hid.mk' (HRV.out.kept (grown_s5 u (w.heap.size+1) (.int .i64 (c m)) (.int .i64 m.x) (.int .i64 m.y) (.int .i64 m.d) (.int .i64 m.e)) (by simp;omega) (by simp))
    clear HRV
    go_wp2
    go_roundw
    case rel=>
     refine ⟨_,cnt2,ss ++ [m],⟨c m,m⟩,HRW.out,HCO2.out,bel_s5 HBV.out (by omega) _ _ _ _ _,HZV.out.far (by omega),⟨⟨by go_simp,by go_simp,by go_simp,by go_simp,by go_simp⟩,fun j=>by go_simp⟩,HMT.out⟩
    case measure=>rw [HRW.out.left_eq];exact HLT.out
   ·have hgz:((G.c:Int) == 0)=false:=by simpa using hG0
    obtain ⟨hg1,hgo⟩:1≤G.c∧G.m.ok=true:=by
     rcases HM.out with ⟨_,e⟩ | ⟨e1,e2,_⟩
     ·rw [e] at hG0;exact absurd rfl hG0
     ·exact ⟨e1,e2⟩
    by_cases hq:rkL G.m<rkL m
    ·have dq:decide (rkL ⟨G.m.x,G.m.y,G.m.d,G.m.e⟩<rkL ⟨m.x,m.y,m.d,m.e⟩)=true:=decide_eq_true hq
     have HMT:=Hid.mk' (HM.out.put hmo hcm (.inr hq))
     clear HM hG0 hq
     refine wp_region_ext (by kernel_rfl) (by kernel_rfl) ?_
     repeat (go_big_quiet_step (first | (go_at_call 104;exact ext_grows (rankLexI _ _ _ _ _ hmo)) | (go_at_call 104;exact ext_grows (rankLexI _ _ _ _ _ hgo))))
     refine wpQuiet_nil ?_
     rintro _ ⟨v,rfl⟩
     have HBV:=Hid.mk' (HB2.out.trans (v.2.mono HB2.out.size))
     have HZV:=Hid.mk' (HZ2.out.below v.2)
     have HGV:=Hid.mk' (HG2.out.below v.2)
     have HMV:=Hid.mk' (HM2.out.below v.2)
     have HRV:=Hid.mk' (HRG2.out.kept (below_grown v.2 none) (by simp) (by simp))
     obtain ⟨u,hu⟩:∃ u,v.1=u:=⟨_,rfl⟩
     rw [hu] at HBV HZV HGV HMV HRV ⊢
     clear hu s0 s1 s2 s3 t0 t1 t2 t3 t4 ne v
     obtain ⟨q0,q1,q2,q3⟩:=HMV.out
     obtain ⟨⟨l0,l1,l2,l3,l4⟩,lz⟩:=HGV.out
     have HRW:=Hid.mk' (HRV.out.kept (grown_s5 u (w.heap.size+1) (.int .i64 (c m)) (.int .i64 m.x) (.int .i64 m.y) (.int .i64 m.d) (.int .i64 m.e)) (by simp;omega) (by simp))
     clear HRV
     go_wp2
     go_roundw
     case rel=>
      refine ⟨_,cnt2,ss ++ [m],⟨c m,m⟩,HRW.out,HCO2.out,bel_s5 HBV.out (by omega) _ _ _ _ _,HZV.out.far (by omega),⟨⟨by go_simp,by go_simp,by go_simp,by go_simp,by go_simp⟩,fun j=>by go_simp⟩,HMT.out⟩
     case measure=>rw [HRW.out.left_eq];exact HLT.out
    ·have dq:decide (rkL ⟨G.m.x,G.m.y,G.m.d,G.m.e⟩<rkL ⟨m.x,m.y,m.d,m.e⟩)=false:=decide_eq_false hq
     have HMT:=Hid.mk' (HM.out.keep hg1 hq)
     clear HM hG0 hq
     refine wp_region_ext (by kernel_rfl) (by kernel_rfl) ?_
     repeat (go_big_quiet_step (first | (go_at_call 104;exact ext_grows (rankLexI _ _ _ _ _ hmo)) | (go_at_call 104;exact ext_grows (rankLexI _ _ _ _ _ hgo))))
     refine wpQuiet_nil ?_
     rintro _ ⟨v,rfl⟩
     have HBV:=Hid.mk' (HB2.out.trans (v.2.mono HB2.out.size))
     have HZV:=Hid.mk' (HZ2.out.below v.2)
     have HGV:=Hid.mk' (HG2.out.below v.2)
     have HRV:=Hid.mk' (HRG2.out.kept (below_grown v.2 none) (by simp) (by simp))
     obtain ⟨u,hu⟩:∃ u,v.1=u:=⟨_,rfl⟩
     rw [hu] at HBV HZV HGV HRV ⊢
     clear hu s0 s1 s2 s3 t0 t1 t2 t3 t4 ne v
     go_wp2
     go_roundw
     case rel=>exact ⟨_,cnt2,ss ++ [m],G,HRV.out,HCO2.out,HBV.out,HZV.out,HGV.out,HMT.out⟩
     case measure=>rw [HRV.out.left_eq];exact HLT.out
set_option maxRecDepth 100000 in
set_option maxHeartbeats 8000000 in
theorem greatest3 (w:World) (b n:Nat) (c:M→Int) (h:SumR w b n c) :
  Calls Tryz.prog 148 #[.map (some b),.func (.func 105) #[] #[]] w fun r w'=>∃ G:T,r=.returned (.agg #[.int .i64 G.c,.int .i64 G.m.x,.int .i64 G.m.y,.int .i64 G.m.d,.int .i64 G.m.e])∧Below w.heap.size w w'∧∃ ss,Met rkO c ss G∧∀ m:M,m.ok=true→(m∈ss ↔ c m≠0):=by
 obtain ⟨D,hown,hc,hat,hks⟩:=h
 have hblt:=hown.lt
 have HKS:=Hid.mk' hks
 have HAT:=Hid.mk' hat
 have HC:=Hid.mk' hc
 have HO2:=Hid.mk' ((hown.alloc (.cells #[.int .i64 0,.int .i64 0,.int .i64 0,.int .i64 0,.int .i64 0] 42)).alloc (.cells #[.int .i64 0,.int .i64 0,.int .i64 0,.int .i64 0,.int .i64 0] 42))
 have HB0:=Hid.mk' (bel_two w (.cells #[.int .i64 0,.int .i64 0,.int .i64 0,.int .i64 0,.int .i64 0] 42) (.cells #[.int .i64 0,.int .i64 0,.int .i64 0,.int .i64 0,.int .i64 0] 42))
 have HZ0:=Hid.mk' ((Own5.box w 42 zeroT).below (bel_one _ (.cells #[.int .i64 0,.int .i64 0,.int .i64 0,.int .i64 0,.int .i64 0] 42)))
 have HG0:=Hid.mk' (Own5.box (w.alloc (.cells #[.int .i64 0,.int .i64 0,.int .i64 0,.int .i64 0,.int .i64 0] 42)) 42 zeroT)
 clear hks hat hown hc
 go_enter Tryz.func148,Tryz.ntmps148
 go_wp2_with (first
  | (at_range;refine wpList_range_own _ rfl _ 170 rfl 40 138 lawM Tryz.underlying170 _ b n D rfl HO2.out ?_;intro w0 hrg0 hg0 hs0)
  | go_in)
 have hs2:((w.alloc (.cells #[.int .i64 0,.int .i64 0,.int .i64 0,.int .i64 0,.int .i64 0] 42)).alloc (.cells #[.int .i64 0,.int .i64 0,.int .i64 0,.int .i64 0,.int .i64 0] 42)).heap.size=w.heap.size+2:=by simp
 have HB1:=Hid.mk' (bel_grown HB0.out hg0 (by simp))
 have HZ1:=Hid.mk' (HZ0.out.grown hg0 (by simp))
 have HG1:=Hid.mk' (HG0.out.grown hg0 (by simp))
 have HRG:=Hid.mk' hrg0
 rw [hs2] at HRG
 simp only [World.size_alloc] at HG1
 clear HB0 HZ0 HG0 HO2 hrg0 hg0 hs0
 go_frame
 rw [hs2]
 go_loopw [6] (fun _ wr=>∃ (left:Lit→Bool) (cnt:Nat) (ss:List M) (G:T),wr.ranges Tryz.prog 40 (plainElem Tryz.prog 138) b (w.heap.size+2) n D left cnt∧CollM D left ss∧Below w.heap.size w wr∧Own5 wr w.heap.size zeroT∧Own5 wr (w.heap.size+1) G∧Met rkO c ss G)
  (fun _ wr=>wr.rangeLeft b (w.heap.size+2))
 case atStart=>exact ⟨_,_,[],zeroT,HRG.out,CollM.start D,HB1.out,HZ1.out,HG1.out,.inl ⟨rfl,rfl⟩⟩
 case round=>
  obtain ⟨left,cnt,ss,G,hrg,hC,hB,hZ,hG,hM⟩:=hrel
  have HCO:=Hid.mk' hC
  have HB:=Hid.mk' hB
  have HZ:=Hid.mk' hZ
  have HGG:=Hid.mk' hG
  have HM:=Hid.mk' hM
  have HRR:=Hid.mk' hrg
  have hGl:w.heap.size+1<wr.heap.size:=hG.1.lt
  clear hC hB hZ hG hM
  go_wp2_with (first
   | (at_next;refine wpList_next_ranges _ rfl _ rfl 40 lawM (plainElem Tryz.prog 138) (id:Value→Value) (Value.int .i64) (fun key kl hk=>⟨key,rfl⟩) (fun v y hv=>by obtain ⟨c,rfl,_⟩:=plainElem_int_inv Tryz.underlying138 hv;exact ⟨c,rfl⟩) b (w.heap.size+2) n _ _ _ rfl HRR.out ?_ ?_)
   | go_in)
  ·intro hc0 hl0
   obtain ⟨⟨z0,z1,z2,z3,z4⟩,fz⟩:=HZ.out
   obtain ⟨⟨l0,l1,l2,l3,l4⟩,_⟩:=HGG.out
   simp only [zeroT] at z0 z1 z2 z3 z4
   have HAL:=Hid.mk' (HCO.out.all hl0 HAT.out)
   clear hl0 hrg HZ HGG
   go_wp2
   refine bodyPost_ret (v:=.agg #[.int .i64 G.c,.int .i64 G.m.x,.int .i64 G.m.y,.int .i64 G.m.d,.int .i64 G.m.e]) (by simp [results,Tryz.results148,go_sem, *]) rfl ⟨G,rfl,?_,ss,HM.out,HAL.out⟩
   exact bel_s5 HB.out (Nat.le_refl _) _ _ _ _ _
  ·intro x cv kl yd yp w2 cnt2 hkey hlk hv hatx hrg2 hlt hg2 hsz2 hen
   obtain ⟨m,hmo,rfl⟩:=HKS.out kl (has_true_of_atKey hatx)
   obtain rfl:x=enM m:=lawM.inj hkey (keyOfM hmo)
   obtain rfl:cv=c m:=by
    obtain ⟨c',e,e2,_⟩:=plainElem_int_inv Tryz.underlying138 hv
    cases e
    cases e2
    have h1:=(HAT.out m hmo).1
    rw [hatx] at h1
    simpa using h1
   have hcm:1≤c m:=by
    have h1:=(HAT.out m hmo).2.1 (has_true_of_atKey hatx)
    have h2:=(HC.out m).1
    omega
   have hcm2:=(HC.out m).2
   have HRG2:=Hid.mk' (hrg2.alloc (.cells #[.int .i64 m.x,.int .i64 m.y,.int .i64 m.d,.int .i64 m.e] 40))
   have HLT:=Hid.mk' (show cnt2<wr.rangeLeft b (w.heap.size+2) by rw [hrg.left_eq];exact hlt)
   have HCO2:=Hid.mk' (HCO.out.step hmo hlk hatx)
   have hB2:=bel_grown HB.out hg2 (fun k e=>by cases e;omega)
   have HB2:=Hid.mk' (hB2.alloc hB2.size (.cells #[.int .i64 m.x,.int .i64 m.y,.int .i64 m.d,.int .i64 m.e] 40))
   have HZ2:=Hid.mk' ((HZ.out.grown hg2 (by simp)).below (bel_one w2 (.cells #[.int .i64 m.x,.int .i64 m.y,.int .i64 m.d,.int .i64 m.e] 40)))
   have HG2:=Hid.mk' ((HGG.out.grown hg2 (by simp)).below (bel_one w2 (.cells #[.int .i64 m.x,.int .i64 m.y,.int .i64 m.d,.int .i64 m.e] 40)))
   have HM2:=Hid.mk' (M4.box w2 40 m.x m.y m.d m.e)
   have hsw:w.heap.size+1<w2.heap.size:=by rw [hsz2];exact hGl
   have hrw:w.heap.size+2<w2.heap.size:=hrg2.lt
   have hbw:b<w2.heap.size:=hrg2.owns.lt
   clear hlk hatx hrg hrg2 hlt hg2 hsz2 hkey hv hB2 HRR HB HZ HGG HCO hGl
   go_wp2_with fail
   generalize (w2.alloc (.cells #[.int .i64 m.x,.int .i64 m.y,.int .i64 m.d,.int .i64 m.e] 40))=wq at HRG2 HB2 HZ2 HG2 HM2 ⊢
   have ne:=Ext.there wq
   have s0:∀ u:Ext wq,u.1.cell? ⟨w2.heap.size,0,none⟩=some (.int .i64 m.x):=fun u=>(u.cell HM2.out.lt).trans HM2.out.1
   have s1:∀ u:Ext wq,u.1.cell? ⟨w2.heap.size,1,none⟩=some (.int .i64 m.y):=fun u=>(u.cell HM2.out.lt).trans HM2.out.2.1
   have s2:∀ u:Ext wq,u.1.cell? ⟨w2.heap.size,2,none⟩=some (.int .i64 m.d):=fun u=>(u.cell HM2.out.lt).trans HM2.out.2.2.1
   have s3:∀ u:Ext wq,u.1.cell? ⟨w2.heap.size,3,none⟩=some (.int .i64 m.e):=fun u=>(u.cell HM2.out.lt).trans HM2.out.2.2.2
   have t0:∀ u:Ext wq,u.1.cell? ⟨w.heap.size+1,0,none⟩=some (.int .i64 G.c):=fun u=>(u.cell HG2.out.1.lt).trans HG2.out.1.1
   have t1:∀ u:Ext wq,u.1.cell? ⟨w.heap.size+1,1,none⟩=some (.int .i64 G.m.x):=fun u=>(u.cell HG2.out.1.lt).trans HG2.out.1.2.1
   have t2:∀ u:Ext wq,u.1.cell? ⟨w.heap.size+1,2,none⟩=some (.int .i64 G.m.y):=fun u=>(u.cell HG2.out.1.lt).trans HG2.out.1.2.2.1
   have t3:∀ u:Ext wq,u.1.cell? ⟨w.heap.size+1,3,none⟩=some (.int .i64 G.m.d):=fun u=>(u.cell HG2.out.1.lt).trans HG2.out.1.2.2.2.1
   have t4:∀ u:Ext wq,u.1.cell? ⟨w.heap.size+1,4,none⟩=some (.int .i64 G.m.e):=fun u=>(u.cell HG2.out.1.lt).trans HG2.out.1.2.2.2.2
   by_cases hG0:G.c=0
   ·have hgz:((G.c:Int) == 0)=true:=by simpa using hG0
    have HMT:=Hid.mk' (HM.out.put hmo hcm (.inl hG0))
    clear HM hG0
    refine wp_region_ext (by kernel_rfl) (by kernel_rfl) ?_
    repeat (go_big_quiet_step (fail))
    refine wpQuiet_nil ?_
    rintro _ ⟨v,rfl⟩
    have HBV:=Hid.mk' (HB2.out.trans (v.2.mono HB2.out.size))
    have HZV:=Hid.mk' (HZ2.out.below v.2)
    have HGV:=Hid.mk' (HG2.out.below v.2)
    have HMV:=Hid.mk' (HM2.out.below v.2)
    have HRV:=Hid.mk' (HRG2.out.kept (below_grown v.2 none) (by simp) (by simp))
    obtain ⟨u,hu⟩:∃ u,v.1=u:=⟨_,rfl⟩
    rw [hu] at HBV HZV HGV HMV HRV ⊢
    clear hu s0 s1 s2 s3 t0 t1 t2 t3 t4 ne v
    obtain ⟨q0,q1,q2,q3⟩:=HMV.out
    obtain ⟨⟨l0,l1,l2,l3,l4⟩,lz⟩:=HGV.out
    have HRW:=Hid.mk' (HRV.out.kept (grown_s5 u (w.heap.size+1) (.int .i64 (c m)) (.int .i64 m.x) (.int .i64 m.y) (.int .i64 m.d) (.int .i64 m.e)) (by simp;omega) (by simp))
    clear HRV
    go_wp2
    go_roundw
    case rel=>
     refine ⟨_,cnt2,ss ++ [m],⟨c m,m⟩,HRW.out,HCO2.out,bel_s5 HBV.out (by omega) _ _ _ _ _,HZV.out.far (by omega),⟨⟨by go_simp,by go_simp,by go_simp,by go_simp,by go_simp⟩,fun j=>by go_simp⟩,HMT.out⟩
    case measure=>rw [HRW.out.left_eq];exact HLT.out
   ·have hgz:((G.c:Int) == 0)=false:=by simpa using hG0
    obtain ⟨hg1,hgo⟩:1≤G.c∧G.m.ok=true:=by
     rcases HM.out with ⟨_,e⟩ | ⟨e1,e2,_⟩
     ·rw [e] at hG0;exact absurd rfl hG0
     ·exact ⟨e1,e2⟩
    by_cases hq:rkO G.m<rkO m
    ·have dq:decide (rkO ⟨G.m.x,G.m.y,G.m.d,G.m.e⟩<rkO ⟨m.x,m.y,m.d,m.e⟩)=true:=decide_eq_true hq
     have HMT:=Hid.mk' (HM.out.put hmo hcm (.inr hq))
     clear HM hG0 hq
     refine wp_region_ext (by kernel_rfl) (by kernel_rfl) ?_
     repeat (go_big_quiet_step (first | (go_at_call 105;exact ext_grows (rankOutI _ _ _ _ _ hmo)) | (go_at_call 105;exact ext_grows (rankOutI _ _ _ _ _ hgo))))
     refine wpQuiet_nil ?_
     rintro _ ⟨v,rfl⟩
     have HBV:=Hid.mk' (HB2.out.trans (v.2.mono HB2.out.size))
     have HZV:=Hid.mk' (HZ2.out.below v.2)
     have HGV:=Hid.mk' (HG2.out.below v.2)
     have HMV:=Hid.mk' (HM2.out.below v.2)
     have HRV:=Hid.mk' (HRG2.out.kept (below_grown v.2 none) (by simp) (by simp))
     obtain ⟨u,hu⟩:∃ u,v.1=u:=⟨_,rfl⟩
     rw [hu] at HBV HZV HGV HMV HRV ⊢
     clear hu s0 s1 s2 s3 t0 t1 t2 t3 t4 ne v
     obtain ⟨q0,q1,q2,q3⟩:=HMV.out
     obtain ⟨⟨l0,l1,l2,l3,l4⟩,lz⟩:=HGV.out
     have HRW:=Hid.mk' (HRV.out.kept (grown_s5 u (w.heap.size+1) (.int .i64 (c m)) (.int .i64 m.x) (.int .i64 m.y) (.int .i64 m.d) (.int .i64 m.e)) (by simp;omega) (by simp))
     clear HRV
     go_wp2
     go_roundw
     case rel=>
      refine ⟨_,cnt2,ss ++ [m],⟨c m,m⟩,HRW.out,HCO2.out,bel_s5 HBV.out (by omega) _ _ _ _ _,HZV.out.far (by omega),⟨⟨by go_simp,by go_simp,by go_simp,by go_simp,by go_simp⟩,fun j=>by go_simp⟩,HMT.out⟩
     case measure=>rw [HRW.out.left_eq];exact HLT.out
    ·have dq:decide (rkO ⟨G.m.x,G.m.y,G.m.d,G.m.e⟩<rkO ⟨m.x,m.y,m.d,m.e⟩)=false:=decide_eq_false hq
     have HMT:=Hid.mk' (HM.out.keep hg1 hq)
     clear HM hG0 hq
     refine wp_region_ext (by kernel_rfl) (by kernel_rfl) ?_
     repeat (go_big_quiet_step (first | (go_at_call 105;exact ext_grows (rankOutI _ _ _ _ _ hmo)) | (go_at_call 105;exact ext_grows (rankOutI _ _ _ _ _ hgo))))
     refine wpQuiet_nil ?_
     rintro _ ⟨v,rfl⟩
     have HBV:=Hid.mk' (HB2.out.trans (v.2.mono HB2.out.size))
     have HZV:=Hid.mk' (HZ2.out.below v.2)
     have HGV:=Hid.mk' (HG2.out.below v.2)
     have HRV:=Hid.mk' (HRG2.out.kept (below_grown v.2 none) (by simp) (by simp))
     obtain ⟨u,hu⟩:∃ u,v.1=u:=⟨_,rfl⟩
     rw [hu] at HBV HZV HGV HRV ⊢
     clear hu s0 s1 s2 s3 t0 t1 t2 t3 t4 ne v
     go_wp2
     go_roundw
     case rel=>exact ⟨_,cnt2,ss ++ [m],G,HRV.out,HCO2.out,HBV.out,HZV.out,HGV.out,HMT.out⟩
     case measure=>rw [HRV.out.left_eq];exact HLT.out
def rkF (o:Int):Nat:=if o=1 then 103 else if o=3 then 105 else 104
theorem rkW1:rkW 1=rkD:=by funext m;rfl
theorem rkW2:rkW 2=rkL:=by funext m;rfl
theorem rkW3:rkW 3=rkO:=by funext m;rfl
theorem greatestI (o:Int) (ho:1≤o∧o≤3) (w:World) (b n:Nat) (p:List T) (h:SumR w b n (coef p)) (hp:okL p=true) (h0:p.length≠0) (t:T) (ht:ldL o p=t) :
  Calls Tryz.prog 148 #[.map (some b),.func (.func (rkF o)) #[] #[]] w fun r w'=>r=.returned (.agg #[.int .i64 t.c,.int .i64 t.m.x,.int .i64 t.m.y,.int .i64 t.m.d,.int .i64 t.m.e])∧Below w.heap.size w w':=by
 have ho3:o=1∨o=2∨o=3:=by omega
 rcases ho3 with rfl | rfl | rfl
 ·refine (greatest1 w b n (coef p) h).mono ?_
  rintro r w' ⟨G,rfl,hb,ss,hm,hs⟩
  rw [← rkW1] at hm
  have:=hm.all ho hp h0 hs
  rw [ht] at this
  subst this
  exact ⟨rfl,hb⟩
 ·refine (greatest2 w b n (coef p) h).mono ?_
  rintro r w' ⟨G,rfl,hb,ss,hm,hs⟩
  rw [← rkW2] at hm
  have:=hm.all ho hp h0 hs
  rw [ht] at this
  subst this
  exact ⟨rfl,hb⟩
 ·refine (greatest3 w b n (coef p) h).mono ?_
  rintro r w' ⟨G,rfl,hb,ss,hm,hs⟩
  rw [← rkW3] at hm
  have:=hm.all ho hp h0 hs
  rw [ht] at this
  subst this
  exact ⟨rfl,hb⟩
theorem ordRankV (o:Int) (w:World) (h1:1≤o) (h2:o≤3):Calls Tryz.prog 62 #[.int .i64 o] w fun r w'=>r=.returned (.tuple #[.func (.func (rkF o)) #[] #[],.bool true])∧Below w.heap.size w w':=by
 have ho3:o=1∨o=2∨o=3:=by omega
 rcases ho3 with rfl | rfl | rfl
 ·exact ordRankI1 w
 ·exact ordRankI2 w
 ·exact ordRankI3 w
end Go.Proofs.YtdidlcjhodejjaaGreat
