/-
  A list of operators of whose pairs nothing is left by smaller ones is a basis: whatever is made of it, and is not 0, has
-/
import Derived.Test.YtdidlcjhodejjaaGreatUbe
import Derived.Test.YtdidlcjhodejjaaGreatUax
import Derived.Test.YtdidlcjhodejjaaGreatUav
import Derived.Test.YtdidlcjhodejjaaGreatUaw
namespace Go.Proofs.YtdidlcjhodejjaaGreat
open Go.RowKit
set_option linter.unusedVariables false
variable (o:Int) (n:Nat) (L:Nat→List T)
def lmL (j:Nat):M:=(ldL o (L j)).m
structure Lds:Prop where
 ho:1≤o∧o≤3
 fl:∀ j,j<n→okL (L j)=true∧(L j).length≠0
variable {o n L}
theorem Lds.mem (h:Lds o n L) {j:Nat} (hj:j<n):ldL o (L j)∈L j:=ldL_mem (h.fl j hj).2
theorem Lds.falls (h:Lds o n L) {j:Nat} (hj:j<n):Falls (L j):=(okL_falls (h.fl j hj).1).2
theorem Lds.good (h:Lds o n L) {j:Nat} (hj:j<n):(ldL o (L j)).m.ok=true∧1≤(ldL o (L j)).c∧(ldL o (L j)).c≤100:=(h.falls hj).2 _ (h.mem hj)
inductive Lo (o:Int) (n:Nat) (L:Nat→List T) (δ:M):Lq→Prop
 | nil:Lo o n L δ Lq.nil
 | cons {A:Lq} (c:Fq) (m:M) (j:Nat):j<n→m.nn→klt o (m.sum (lmL o L j)) δ→Lo o n L δ A→Lo o n L δ (Lq.sum (Lq.sc c (Lq.mul (mo regG m) (Rp regG (L j)))) A)
theorem Lo.sum {δ:M} {A B:Lq} (h:Lo o n L δ A) (h':Lo o n L δ B):Lo o n L δ (Lq.sum A B):=by
 induction h with
 | nil=>rw [Lq.sum_comm,Lq.sum_nil];exact h'
 | cons c m j h1 h2 h3 h4 ih=>rw [Lq.sum_assoc];exact Lo.cons c m j h1 h2 h3 ih
theorem Lo.sc {δ:M} {A:Lq} (d:Fq) (h:Lo o n L δ A):Lo o n L δ (Lq.sc d A):=by
 induction h with
 | nil=>
  rw [show Lq.sc d Lq.nil=Lq.nil from Lq.ext fun u n k=>by show d * (0:Fq)=0;grind]
  exact Lo.nil
 | cons c m j h1 h2 h3 h4 ih=>rw [Lq.sc_sum,Lq.sc_sc];exact Lo.cons _ m j h1 h2 h3 ih
theorem Lo.mono {δ δ':M} {A:Lq} (h:Lo o n L δ A) (hd:klt o δ δ'∨δ=δ'):Lo o n L δ' A:=by
 induction h with
 | nil=>exact Lo.nil
 | cons c m j h1 h2 h3 h4 ih=>
  refine Lo.cons c m j h1 h2 ?_ ih
  rcases hd with hd | hd
  ·exact klt_trans h3 hd
  ·rw [← hd];exact h3
theorem Lo.one {δ:M} (c:Fq) {m:M} {j:Nat} (h1:j<n) (h2:m.nn) (h3:klt o (m.sum (lmL o L j)) δ):Lo o n L δ (Lq.sc c (Lq.mul (mo regG m) (Rp regG (L j)))):=by
 have:=Lo.cons c m j h1 h2 h3 (Lo.nil (o:=o) (n:=n) (L:=L) (δ:=δ))
 rwa [Lq.sum_nil] at this
def M.sub (b a:M):M:=⟨b.x - a.x,b.y - a.y,b.d - a.d,b.e - a.e⟩
def M.lcm (a b:M):M:=⟨if a.x≤b.x then b.x else a.x,if a.y≤b.y then b.y else a.y,if a.d≤b.d then b.d else a.d,if a.e≤b.e then b.e else a.e⟩
def Pair (o:Int) (n:Nat) (L:Nat→List T) (i k:Nat):Prop:=∀ u v:Fq,u * zz (ldL o (L i)).c=1→v * zz (ldL o (L k)).c=1→Lo o n L (M.lcm (lmL o L i) (lmL o L k)) (Lq.sum (Lq.sc u (Lq.mul (mo regG (M.sub (M.lcm (lmL o L i) (lmL o L k)) (lmL o L i))) (Rp regG (L i)))) (Lq.sc (-v) (Lq.mul (mo regG (M.sub (M.lcm (lmL o L i) (lmL o L k)) (lmL o L k))) (Rp regG (L k)))))
end Go.Proofs.YtdidlcjhodejjaaGreat
namespace Go.Proofs.YtdidlcjhodejjaaGreat
open Go.RowKit
set_option linter.unusedVariables false
theorem coef_ne_mem1 {m:M}:∀ {L:List T},coef L m≠0→∃ t∈L,t.m=m
 | [],h=>absurd rfl h
 | t :: r,h=>by
  rw [coef] at h
  split at h
  ·rename_i he
   exact ⟨t,List.mem_cons_self ..,meqB_iff.1 he⟩
  ·obtain ⟨s,hs,e⟩:=coef_ne_mem1 h
   exact ⟨s,List.mem_cons_of_mem _ hs,e⟩
theorem mem_coef1 {L:List T} (h:Falls L) {t:T} (ht:t∈L):coef L t.m=t.c∧coef L t.m≠0:=by
 have h1:coef L t.m=t.c:=by
  induction L with
  | nil=>cases ht
  | cons s r ih=>
   rw [coef]
   rcases List.mem_cons.1 ht with rfl | ht'
   ·rw [if_pos (meqB_iff.2 rfl)]
   ·have h1:=h.head t ht'
    rw [if_neg (fun e=>by rw [meqB_iff.1 e] at h1;omega)]
    exact ih h.tail ht'
 have h2:=h.2 t ht
 exact ⟨h1,by omega⟩
theorem mul_okM {a c b:M} (h:M.mul a c=(b,true)):b.ok=true:=by
 unfold M.mul at h
 split at h
 ·rename_i q;cases h;exact q.2.2
 ·cases h
theorem sprPoly_parts {o:Int} {A B L:List T} (h:sprPoly o (lf A) A.length (lf B) B.length=(L,true)) :
  sprOk o A.length (lf A) B.length (lf B)=true∧∃ X Y,wmV [sprU o A.length (lf A) B.length (lf B)] A=(X,true)∧wmV [sprV o A.length (lf A) B.length (lf B)] B=(Y,true)∧okL X=true∧okL Y=true∧L=subL X Y∧L.length≤400:=by
 unfold sprPoly at h
 by_cases hk:sprOk o A.length (lf A) B.length (lf B)=true
 ·refine ⟨hk,?_⟩
  rw [if_pos hk] at h
  unfold diffV at h
  by_cases h2:(wylMul (lf [sprU o A.length (lf A) B.length (lf B)]) 1 (lf A) A.length).2=true∧(wylMul (lf [sprV o A.length (lf A) B.length (lf B)]) 1 (lf B) B.length).2=true
  ·rw [if_pos h2] at h
   obtain ⟨X,hX⟩:∃ X,wmV [sprU o A.length (lf A) B.length (lf B)] A=(X,true):=by
    rcases wmV_if [sprU o A.length (lf A) B.length (lf B)] A with e | e
    ·exact absurd h2.1 (by rw [show wylMul (lf [sprU o A.length (lf A) B.length (lf B)]) 1 (lf A) A.length=([],false) from e];simp)
    ·exact e
   obtain ⟨Y,hY⟩:∃ Y,wmV [sprV o A.length (lf A) B.length (lf B)] B=(Y,true):=by
    rcases wmV_if [sprV o A.length (lf A) B.length (lf B)] B with e | e
    ·exact absurd h2.2 (by rw [show wylMul (lf [sprV o A.length (lf A) B.length (lf B)]) 1 (lf B) B.length=([],false) from e];simp)
    ·exact e
   rw [show wylMul (lf [sprU o A.length (lf A) B.length (lf B)]) 1 (lf A) A.length=(X,true) from hX,show wylMul (lf [sprV o A.length (lf A) B.length (lf B)]) 1 (lf B) B.length=(Y,true) from hY] at h
   rcases subV_case X Y with e | ⟨_,_,hl,e⟩
   ·rw [show polSub (lf X) X.length (lf Y) Y.length=([],false) from e] at h
    cases h
   ·rw [show polSub (lf X) X.length (lf Y) Y.length=(subL X Y,true) from e] at h
    have hL:subL X Y=L:=by cases h;rfl
    exact ⟨X,Y,hX,hY,wm_ok hX,wm_ok hY,hL.symm,by rw [← hL];exact hl⟩
  ·rw [if_neg h2] at h;cases h
 ·rw [if_neg hk] at h;cases h
theorem spr_ok {o:Int} {A B L:List T} (h:sprPoly o (lf A) A.length (lf B) B.length=(L,true)):okL L=true:=by
 obtain ⟨hk,X,Y,hX,hY,oX,oY,rfl,hl⟩:=sprPoly_parts h
 exact okL_of hl (subL_facts (okL_falls oX).2 (okL_falls oY).2).1
theorem top_prod {o:Int} {u:T} {A X:List T} (gu:u.m.ok=true∧1≤u.c∧u.c≤100) (hA:ldB o A=true) (h:wmV [u] A=(X,true)) {b:M} (hb:M.mul u.m (ldT o A).m=(b,true)) (hc:fMul u.c (ldT o A).c=1) :
  coef X b=1∧∀ t∈X,rkW o t.m≤rkW o b:=by
 obtain ⟨ho,oA,_⟩:=ldB_iff.1 hA
 have hu:ldB o [u]=true:=ldB_iff.2 ⟨ho,one_ok gu,by simp⟩
 obtain ⟨e1,e2⟩:=ld_prod ho h
 rw [hu,hA] at e1
 have hX:ldB o X=true:=e1
 obtain ⟨e3,e4⟩:=e2 hu hA
 have eu:ldT o [u]=u:=by
  have:=(ld_top hu).1
  simpa using this
 rw [eu] at e3 e4
 have eb:(ldT o X).m=b:=by
  have:=e3.symm.trans (show M.mul ⟨u.m.x,u.m.y,u.m.d,u.m.e⟩ ⟨(ldT o A).m.x,(ldT o A).m.y,(ldT o A).m.d,(ldT o A).m.e⟩=(b,true) from hb)
  cases this;rfl
 obtain ⟨t1,t2⟩:=ld_top hX
 have hm:=(mem_coef1 (okL_falls (wm_ok h)).2 t1).1
 rw [eb] at t2 hm
 refine ⟨?_,t2⟩
 rw [hm,← e4,hc]
theorem spr_below {o:Int} {A B L:List T} (h:sprPoly o (lf A) A.length (lf B) B.length=(L,true)):∀ t∈L,M.cmp o t.m (sprB o A.length (lf A) B.length (lf B))<0:=by
 obtain ⟨hk,X,Y,hX,hY,oX,oY,rfl,hl⟩:=sprPoly_parts h
 obtain ⟨gU,gV⟩:=spr_good hk
 obtain ⟨m1,m2,c1,c2,_⟩:=spr_law hk
 have hk':=hk
 unfold sprOk at hk'
 rw [Bool.and_eq_true] at hk'
 obtain ⟨x1,x2⟩:=top_prod gU (show ldB o A=true from hk'.1) hX m1 c1
 obtain ⟨y1,y2⟩:=top_prod gV (show ldB o B=true from hk'.2) hY m2 c2
 have fX:=(okL_falls oX).2
 have fY:=(okL_falls oY).2
 obtain ⟨fL,cL⟩:=subL_facts fX fY
 have ho:=(leadOk_parts hk'.1).1
 have hbok:(sprB o A.length (lf A) B.length (lf B)).ok=true:=mul_okM m1
 generalize sprB o A.length (lf A) B.length (lf B)=b at *
 intro t ht
 have tok:=(fL.2 t ht).1
 obtain ⟨q1,q2⟩:=mem_coef1 fL ht
 have hne:t.m≠b:=fun e=>by
  apply q2
  rw [e,cL b,x1,y1]
  decide
 have hle:rkW o t.m≤rkW o b:=by
  by_cases hx:coef X t.m=0
  ·by_cases hy:coef Y t.m=0
   ·exact absurd (by rw [cL,hx,hy];decide) q2
   ·obtain ⟨s,hs,e⟩:=coef_ne_mem1 hy
    rw [← e];exact y2 s hs
  ·obtain ⟨s,hs,e⟩:=coef_ne_mem1 hx
   rw [← e];exact x2 s hs
 have hlt:rkW o t.m≠rkW o b:=fun e=>hne (rkW_inj _ _ tok hbok e)
 unfold M.cmp
 rw [if_pos ⟨ho,tok,hbok⟩,rkW_ord ho tok hbok]
 unfold c3
 split
 ·omega
 ·split <;> omega
end Go.Proofs.YtdidlcjhodejjaaGreat
namespace Go.Proofs.YtdidlcjhodejjaaGreat
open Go.RowKit Go.Deep Go.Joins
set_option linter.unusedVariables false
theorem sc_nil (d:Fq):Lq.sc d Lq.nil=Lq.nil:=Lq.ext fun u n k=>by show d * (0:Fq)=0;grind
theorem nil_sum (A:Lq):Lq.sum Lq.nil A=A:=by rw [Lq.sum_comm,Lq.sum_nil]
section
variable {o:Int} {n:Nat} {L:Nat→List T}
theorem Rp_cons (g:Gen) (t:T) (r:List T):Rp g (t :: r)=Lq.sum (Lq.sc (zz t.c) (mo g t.m)) (Rp g r):=Lq.ext fun u n k=>rfl
theorem mo_zero (A:Lq):Lq.mul (mo regG ⟨0,0,0,0⟩) A=A:=rfl
theorem lds_of (ho:1≤o∧o≤3) (hl:lstOk n (lN L) (fN L)=true):Lds o n L:=⟨ho,fun j hj=>⟨((lstOk_all hl).2 j hj).2,((lstOk_all hl).2 j hj).1⟩⟩
theorem zz100:zz 100=-1:=by decide
theorem left_Rp {p:List T} {S:Dv} (h:redAll o p n (lN L) (fN L)=some S):Rp regG S.r=Lq.sum (Rp regG p) (Lq.sc (-1) (qsum regG n L S.q)):=by
 rw [← redAll_all regG h]
 refine Lq.ext fun u a b=>?_
 simp only [sum_f,sc_f]
 grind
theorem Lo.rp {δ:M} {j:Nat} (hj:j<n):∀ q:List T,(∀ t∈q,t.m.nn∧klt o (t.m.sum (lmL o L j)) δ)→Lo o n L δ (Lq.mul (Rp regG q) (Rp regG (L j)))
 | [],_=>by rw [Rp_nil,Lq.nil_mul];exact Lo.nil
 | t :: r,hq=>by
  rw [Rp_cons,Lq.sum_mul,Lq.sc_mul]
  obtain ⟨h1,h2⟩:=hq t (List.mem_cons_self ..)
  exact Lo.cons _ t.m j hj h1 h2 (Lo.rp hj r (fun s hs=>hq s (List.mem_cons_of_mem _ hs)))
theorem Lo.sumN {δ:M} {f:Nat→Lq}:∀ k,(∀ i,i<k→Lo o n L δ (f i))→Lo o n L δ (Lq.sumN f k)
 | 0,_=>Lo.nil
 | k+1,h=>Lo.sum (Lo.sumN k (fun i hi=>h i (by omega))) (h k (by omega))
theorem mx_lcm (a b:Int):mx a b=if a≤b then b else a:=by
 unfold mx;split <;> split <;> omega
theorem both_lcm {a b:M} (ha:a.ok=true) (hb:b.ok=true):M.both a b=M.lcm a b:=by
 unfold M.both M.lcm
 rw [if_pos ⟨ha,hb⟩]
 simp only [mx_lcm]
theorem mul_sum' {a b c:M} (h:M.mul a b=(c,true)):a.sum b=c∧c.ok=true:=by
 unfold M.mul at h
 split at h
 ·rename_i hh
  cases h
  exact ⟨rfl,hh.2.2⟩
 ·cases h
theorem c3_lt {a b:Int} (h:c3 a b<0):a<b:=by unfold c3 at h;split at h <;> (try split at h) <;> omega
theorem sum_sub {a b c:M} (h:a.sum b=c):a=M.sub c b:=by
 rw [← h]
 unfold M.sub M.sum
 refine M.eta4 ?_ ?_ ?_ ?_ <;> (simp only;omega)
theorem fM_zz {a b:Int} (ha:1≤a∧a≤100) (hb:1≤b∧b≤100) (h:fMul a b=1):zz a * zz b=1:=by
 rw [fMul_in (by omega) ha.2 (by omega) hb.2] at h
 rw [← zz_mul,← zz_mod,h]
 rfl
theorem std_rep (hL:Lds o n L) {i k:Nat} (hi:i<n) (hk:k<n) {s:List T} (hs:sprPoly o (lf (L i)) (L i).length (lf (L k)) (L k).length=(s,true)) :
  ∃ U V:T,U=sprU o (L i).length (lf (L i)) (L k).length (lf (L k))∧V=sprV o (L i).length (lf (L i)) (L k).length (lf (L k))∧zz U.c * zz (ldL o (L i)).c=1∧zz V.c * zz (ldL o (L k)).c=1∧U.m=M.sub (M.lcm (lmL o L i) (lmL o L k)) (lmL o L i)∧V.m=M.sub (M.lcm (lmL o L i) (lmL o L k)) (lmL o L k) ∧
   Rp regG s=Lq.sum (Lq.sc (zz U.c) (Lq.mul (mo regG U.m) (Rp regG (L i)))) (Lq.sc (-(zz V.c)) (Lq.mul (mo regG V.m) (Rp regG (L k))))∧(M.lcm (lmL o L i) (lmL o L k)).ok=true∧∀ t∈s,rkW o t.m<rkW o (M.lcm (lmL o L i) (lmL o L k)):=by
 obtain ⟨hok,X,Y,hX,hY,oX,oY,es,hl⟩:=sprPoly_parts hs
 obtain ⟨gU,gV⟩:=spr_good hok
 obtain ⟨m1,m2,c1,c2,_⟩:=spr_law hok
 have hb:=spr_below hs
 have li:leadT o (L i).length (lf (L i))=ldL o (L i):=(ldL_is hL.ho (hL.fl i hi).1 (hL.fl i hi).2).symm
 have lk:leadT o (L k).length (lf (L k))=ldL o (L k):=(ldL_is hL.ho (hL.fl k hk).1 (hL.fl k hk).2).symm
 have eB:sprB o (L i).length (lf (L i)) (L k).length (lf (L k))=M.lcm (lmL o L i) (lmL o L k):=by
  unfold sprB
  rw [li,lk]
  exact both_lcm (hL.good hi).1 (hL.good hk).1
 rw [eB,li] at m1
 rw [eB,lk] at m2
 rw [li] at c1
 rw [lk] at c2
 rw [eB] at hb
 obtain ⟨s1,k1⟩:=mul_sum' m1
 obtain ⟨s2,_⟩:=mul_sum' m2
 refine ⟨_,_,rfl,rfl,fM_zz gU.2 (hL.good hi).2 c1,fM_zz gV.2 (hL.good hk).2 c2,sum_sub s1,sum_sub s2,?_,k1,fun t ht=>?_⟩
 ·rw [es,Rp_sub regG (okL_falls oX).2 (okL_falls oY).2,Rp_mul regG hX,Rp_mul regG hY,Rp_one,Rp_one,Lq.sc_mul,Lq.sc_mul,Lq.sc_sc,zz100]
  congr 2
  grind
 ·have fs:Falls s:=(okL_falls (spr_ok hs)).2
  have:=hb t ht
  unfold M.cmp at this
  rw [if_pos ⟨hL.ho,(fs.2 t ht).1,k1⟩,rkW_ord hL.ho (fs.2 t ht).1 k1] at this
  exact c3_lt this
theorem std_div (hL:Lds o n L) {s:List T} {S:Dv} (hr:redAll o s n (lN L) (fN L)=some S) {μ:M} (hμ:μ.ok=true) (hs:∀ t∈s,rkW o t.m<rkW o μ):Lo o n L μ (qsum regG n L S.q)∧∀ t∈S.r,rkW o t.m<rkW o μ:=by
 obtain ⟨r1,r2⟩:=red_lead hr (N:=rkW o μ - 1) (fun t ht=>by have:=hs t ht;omega)
 refine ⟨Lo.sumN n fun i hi=>Lo.rp hi _ (fun t ht=>?_),fun t ht=>by have:=r1 t ht;omega⟩
 obtain ⟨h1,h2⟩:=r2 i hi t ht
 have fq:=(redAll_ok hr).1.q i
 exact ⟨M.nn_ok (fq.1.2 t ht).1,rkW_klt hL.ho h1 hμ (by show rkW o (t.m.sum (ldL o (L i)).m)<_;omega)⟩
theorem pair_std (hL:Lds o n L) {i k:Nat} (hi:i<n) (hk:k<n) {s:List T} (hs:sprPoly o (lf (L i)) (L i).length (lf (L k)) (L k).length=(s,true)) (h:Lo o n L (M.lcm (lmL o L i) (lmL o L k)) (Rp regG s)):Pair o n L i k:=fun u v hu hv=>by
 obtain ⟨U,V,_,_,u1,v1,um,vm,e,_⟩:=std_rep hL hi hk hs
 have eu:u=zz U.c:=by
  have:u * (zz (ldL o (L i)).c * zz U.c)=zz U.c:=by rw [← Fin.mul_assoc,hu];grind
  have u1':zz (ldL o (L i)).c * zz U.c=1:=by grind
  rw [u1'] at this
  grind
 have ev:v=zz V.c:=by
  have:v * (zz (ldL o (L k)).c * zz V.c)=zz V.c:=by rw [← Fin.mul_assoc,hv];grind
  have u1':zz (ldL o (L k)).c * zz V.c=1:=by grind
  rw [u1'] at this
  grind
 rw [e] at h
 rw [eu,ev,← um,← vm]
 exact h
theorem pair_done (hL:Lds o n L) {i k:Nat} (hi:i<n) (hk:k<n) {s:List T} (hs:sprPoly o (lf (L i)) (L i).length (lf (L k)) (L k).length=(s,true)) {S:Dv} (hr:redAll o s n (lN L) (fN L)=some S) (h0:S.r=[]):Pair o n L i k:=by
 obtain ⟨U,V,_,_,u1,v1,um,vm,e,k1,hb⟩:=std_rep hL hi hk hs
 refine pair_std hL hi hk hs ?_
 rw [← redAll_all regG hr,h0,Rp_nil,Lq.sum_nil]
 exact (std_div hL hr k1 hb).1
end
end Go.Proofs.YtdidlcjhodejjaaGreat
namespace Go.Proofs.YtdidlcjhodejjaaGreat
open Go.RowKit Go.Deep Go.Joins
set_option linter.unusedVariables false
section
variable {o:Int} {n:Nat} {L:Nat→List T}
end
end Go.Proofs.YtdidlcjhodejjaaGreat
