/-
  A list of operators of whose pairs nothing is left by smaller ones is a basis: whatever is made of it, and is not 0, has a monomial that a greatest one of the list divides.
-/
import Derived.Test.YtelkehjdfcoeiaaGreatMbg
namespace Go.Proofs.YtelkehjdfcoeiaaGreat
open Go.RowKit
set_option linter.unusedVariables false
def Fv (a b:M) (i k:Nat):M:=⟨a.x+b.x-(i:Int),a.y+b.y-(k:Int),a.d+b.d-(i:Int),a.e+b.e-(k:Int)⟩
theorem ZC (a b:M):Fv a b 0 0=a.sum b:=by unfold Fv M.sum;simp
theorem Gd (g:wS) (a b:M) (ha:a.nn) (hb:b.nn):Lq.mul (mo g a) (mo g b)=Lq.sumN (fun i=>Lq.sumN (fun k=>Lq.sc (nf (wN a.d.toNat b.x.toNat i)*nf (wN a.e.toNat b.y.toNat k)) (mo g (Fv a b i k))) (min a.e.toNat b.y.toNat+1)) (min a.d.toNat b.x.toNat+1):=by
 obtain⟨ax0,ay0,ad0,ae0⟩:=ha;obtain⟨bx0,by0,bd0,be0⟩:=hb;have e1:Lq.mul (mo g a) (mo g b)=Lq.mul (Lq.mul (Lq.pow g.x a.x.toNat) (Lq.pow g.y a.y.toNat)) (Lq.mul (Lq.mul (Lq.pow g.d a.d.toNat) (Lq.pow g.x b.x.toNat)) (Lq.mul (Lq.mul (Lq.pow g.e a.e.toNat) (Lq.pow g.y b.y.toNat)) (Lq.mul (Lq.pow g.d b.d.toNat) (Lq.pow g.e b.e.toNat)))):=by
  have h:=g.xe.symm.pows a.e.toNat b.x.toNat
  calc _=Lq.mul (Lq.mul (Lq.pow g.x a.x.toNat) (Lq.pow g.y a.y.toNat)) (Lq.mul (Lq.pow g.d a.d.toNat) (Lq.mul (Lq.mul (Lq.pow g.e a.e.toNat) (Lq.pow g.x b.x.toNat)) (Lq.mul (Lq.pow g.y b.y.toNat) (Lq.mul (Lq.pow g.d b.d.toNat) (Lq.pow g.e b.e.toNat))))):=rfl
   _=Lq.mul (Lq.mul (Lq.pow g.x a.x.toNat) (Lq.pow g.y a.y.toNat)) (Lq.mul (Lq.pow g.d a.d.toNat) (Lq.mul (Lq.mul (Lq.pow g.x b.x.toNat) (Lq.pow g.e a.e.toNat)) (Lq.mul (Lq.pow g.y b.y.toNat) (Lq.mul (Lq.pow g.d b.d.toNat) (Lq.pow g.e b.e.toNat))))):=by rw[h]
   _=_:=rfl
 rw[e1,sM g.wx,sM g.wy,lD,Lq.mul_sumN];refine Lq.sumN_congr (fun i hi=>?_);rw[Lq.sc_mul,Lq.mul_sc,lD,Lq.mul_sumN,Lq.mul_sumN,kQ];refine Lq.sumN_congr (fun k hk=>?_);rw[Lq.sc_mul,Lq.mul_sc,Lq.mul_sc,Lq.sc_sc,SR (g.xy.symm.pows _ _) (g.dy.pows _ _) (g.de.symm.pows _ _),←Lq.pow_add,←Lq.pow_add,←Lq.pow_add,←Lq.pow_add];unfold mo Fv;simp only;rw[show a.x.toNat+(b.x.toNat-i)=(a.x+b.x-(i:Int)).toNat by omega,show a.y.toNat+(b.y.toNat-k)=(a.y+b.y-(k:Int)).toNat by omega,show a.d.toNat-i+b.d.toNat=(a.d+b.d-(i:Int)).toNat by omega,show a.e.toNat-k+b.e.toNat=(a.e+b.e-(k:Int)).toNat by omega]
theorem TD (b c:Nat):wN b c 0=1:=by unfold wN;rw[AH];rfl
inductive Lw (g:wS) (o:Int) (μ:M):Lq→Prop
 |nil:Lw g o μ Lq.nil
 |cons {A:Lq} (c:Fq) (m:M):m.nn→pE o m μ→Lw g o μ A→Lw g o μ (Lq.sum (Lq.sc c (mo g m)) A)
theorem Lw.sum {g:wS} {o:Int} {μ:M} {A B:Lq} (h:Lw g o μ A) (h':Lw g o μ B):Lw g o μ (Lq.sum A B):=by
 induction h with
 |nil=>rw[Lq.sum_comm,Lq.sum_nil];exact h'
 |cons c m h1 h2 h3 ih=>rw[Lq.sum_assoc];exact Lw.cons c m h1 h2 ih
theorem Lw.one {g:wS} {o:Int} {μ:M} (c:Fq) {m:M} (h1:m.nn) (h2:pE o m μ):Lw g o μ (Lq.sc c (mo g m)):=by
 have:=Lw.cons (g:=g) c m h1 h2 Lw.nil
 rwa[Lq.sum_nil]at this
theorem Lw.sumN {g:wS} {o:Int} {μ:M} {f:Nat→Lq}:∀n,(∀i,i<n→Lw g o μ (f i))→Lw g o μ (Lq.sumN f n)
 |0,_=>Lw.nil
 |n+1,h=>by rw[Lq.sumN];exact(Lw.sumN n (fun i hi=>h i (by omega))).sum (h n (by omega))
theorem uC (g:wS) {o:Int} (ho:1≤o∧o≤3) {a b:M} (ha:a.nn) (hb:b.nn):∃A,Lw g o (a.sum b) A∧Lq.mul (mo g a) (mo g b)=Lq.sum (mo g (a.sum b)) A:=by
 have hnn:∀i k:Nat,i<min a.d.toNat b.x.toNat+1→k<min a.e.toNat b.y.toNat+1→(Fv a b i k).nn:=fun i k hi hk=>by obtain⟨ax0,ay0,ad0,ae0⟩:=ha;obtain⟨bx0,by0,bd0,be0⟩:=hb;refine⟨?_,?_,?_,?_⟩<;>(unfold Fv;simp only;omega)
 have hlt:∀i k:Nat,0<i+k→pE o (Fv a b i k) (a.sum b):=fun i k h=>Ff ho a b (by omega) (by omega) (by omega);rw[Gd g a b ha hb,Lq.sumN_head,Lq.sumN_head];refine⟨Lq.sum (Lq.sumN (fun i=>Lq.sc (nf (wN a.d.toNat b.x.toNat 0)*nf (wN a.e.toNat b.y.toNat (i+1))) (mo g (Fv a b 0 (i+1)))) (min a.e.toNat b.y.toNat)) (Lq.sumN (fun i=>Lq.sumN (fun k=>Lq.sc (nf (wN a.d.toNat b.x.toNat (i+1))*nf (wN a.e.toNat b.y.toNat k)) (mo g (Fv a b (i+1) k))) (min a.e.toNat b.y.toNat+1)) (min a.d.toNat b.x.toNat)),?_,?_⟩
 ·refine Lw.sum (Lw.sumN _ (fun i hi=>Lw.one _ (hnn _ _ (by omega) (by omega)) (hlt _ _ (by omega)))) (Lw.sumN _ (fun i hi=>Lw.sumN _ (fun k hk=>Lw.one _ (hnn _ _ (by omega) (by omega)) (hlt _ _ (by omega)))))
 ·rw[Lq.sum_assoc,TD,TD,qD,ZC,show(1:Fq)*1=1 from rfl,Lq.sc_one]
theorem Lw.cf {o:Int} {μ m:M} {A:Lq} (h:Lw aK o μ A) (hm:m.nn) (hl:¬pE o m μ):uM A m=0:=by
 induction h with
 |nil=>exact OD m
 |cons c a h1 h2 h3 ih=>
  rw[rF,JO,ih,JN h1 hm];unfold dl;rw[if_neg]
  ·grind
  ·intro e;rw[dQ.1 e]at hl;exact hl h2
variable (o:Int) (n:Nat) (L:Nat→List T)
def eT (j:Nat):M:=(aU o (L j)).m
structure sT:Prop where
 ho:1≤o∧o≤3
 fl:∀j,j<n→cF (L j)=true∧(L j).length≠0
variable {o n L}
theorem sT.mem (h:sT o n L) {j:Nat} (hj:j<n):aU o (L j)∈L j:=gJ (h.fl j hj).2
theorem sT.falls (h:sT o n L) {j:Nat} (hj:j<n):aL (L j):=(aD (h.fl j hj).1).2
theorem sT.good (h:sT o n L) {j:Nat} (hj:j<n):(aU o (L j)).m.ok=true∧1≤(aU o (L j)).c∧(aU o (L j)).c≤100:=(h.falls hj).2 _ (h.mem hj)
theorem sT.nn (h:sT o n L) {j:Nat} (hj:j<n):(eT o L j).nn:=nX (h.good hj).1
theorem sT.top (h:sT o n L) {j:Nat} (hj:j<n) {t:T} (ht:t∈L j) (hne:t.m≠eT o L j):pE o t.m (eT o L j):=by
 have h1:=oD h.ho (h.fl j hj).1 (h.fl j hj).2 t ht;have h2:=((h.falls hj).2 t ht).1
 have h3:=(h.good hj).1;refine zO h.ho h2 h3 ?_;rcases Int.lt_or_eq_of_le h1 with h4|h4
 ·exact h4
 ·exact absurd (jE _ _ h2 h3 h4) hne
theorem AG (A:Lq) (m:M):∀K:List T,uM (Lq.mul A (Rp aK K)) m=su K (fun t=>zz t.c*uM (Lq.mul A (mo aK t.m)) m)
 |[]=>rfl
 |t::r=>by rw[su,←AG A m r];rfl
theorem sT.cf_off (h:sT o n L) {j:Nat} (hj:j<n) {m δ:M} (hm:m.nn) (hδ:δ.nn) (hl:pE o (m.sum (eT o L j)) δ):uM (Lq.mul (mo aK m) (Rp aK (L j))) δ=0:=by
 rw[AG];refine qL _ _ (fun t ht=>?_);have h4:=nX ((h.falls hj).2 t ht).1
 obtain⟨A,h1,h2⟩:=uC aK h.ho hm h4;have h3:pE o (m.sum t.m) δ:=by
  by_cases e:t.m=eT o L j
  ·rw[e];exact hl
  ·exact pF (BH m (h.top hj ht e)) hl
 rw[h2,rF,h1.cf hδ (fun q=>vT (pF q h3)),JN (jZ hm h4) hδ];unfold dl;rw[if_neg]
 ·grind
 ·intro q;rw[dQ.1 q]at h3;exact vT h3
inductive Lo (o:Int) (n:Nat) (L:Nat→List T) (δ:M):Lq→Prop
 |nil:Lo o n L δ Lq.nil
 |cons {A:Lq} (c:Fq) (m:M) (j:Nat):j<n→m.nn→pE o (m.sum (eT o L j)) δ→Lo o n L δ A→Lo o n L δ (Lq.sum (Lq.sc c (Lq.mul (mo aK m) (Rp aK (L j)))) A)
theorem Lo.sum {δ:M} {A B:Lq} (h:Lo o n L δ A) (h':Lo o n L δ B):Lo o n L δ (Lq.sum A B):=by
 induction h with
 |nil=>rw[Lq.sum_comm,Lq.sum_nil];exact h'
 |cons c m j h1 h2 h3 h4 ih=>rw[Lq.sum_assoc];exact Lo.cons c m j h1 h2 h3 ih
theorem Lo.sc {δ:M} {A:Lq} (d:Fq) (h:Lo o n L δ A):Lo o n L δ (Lq.sc d A):=by
 induction h with
 |nil=>
  rw[show Lq.sc d Lq.nil=Lq.nil from Lq.ext fun u n k=>by show d*(0:Fq)=0;grind];exact Lo.nil
 |cons c m j h1 h2 h3 h4 ih=>rw[Lq.sc_sum,Lq.sc_sc];exact Lo.cons _ m j h1 h2 h3 ih
theorem Lo.mono {δ δ':M} {A:Lq} (h:Lo o n L δ A) (hd:pE o δ δ'∨δ=δ'):Lo o n L δ' A:=by
 induction h with
 |nil=>exact Lo.nil
 |cons c m j h1 h2 h3 h4 ih=>
  refine Lo.cons c m j h1 h2 ?_ ih;rcases hd with hd|hd
  ·exact pF h3 hd
  ·rw[←hd];exact h3
theorem Lo.one {δ:M} (c:Fq) {m:M} {j:Nat} (h1:j<n) (h2:m.nn) (h3:pE o (m.sum (eT o L j)) δ):Lo o n L δ (Lq.sc c (Lq.mul (mo aK m) (Rp aK (L j)))):=by
 have:=Lo.cons c m j h1 h2 h3 (Lo.nil (o:=o) (n:=n) (L:=L) (δ:=δ))
 rwa[Lq.sum_nil]at this
theorem Lw.lo {μ δ:M} {A:Lq} {j:Nat} (hj:j<n) (h:Lw aK o μ A) (hd:pE o (μ.sum (eT o L j)) δ∨μ.sum (eT o L j)=δ):Lo o n L δ (Lq.mul A (Rp aK (L j))):=by
 induction h with
 |nil=>rw[Lq.nil_mul];exact Lo.nil
 |cons c m h1 h2 h3 ih=>
  rw[Lq.sum_mul,Lq.sc_mul];refine Lo.cons c m j hj h1 ?_ ih;rcases hd with hd|hd
  ·exact pF (QR _ h2) hd
  ·rw[←hd];exact QR _ h2
theorem Lo.mul (hL:sT o n L) {δ s:M} {A:Lq} (hs:s.nn) (h:Lo o n L δ A):Lo o n L (s.sum δ) (Lq.mul (mo aK s) A):=by
 induction h with
 |nil=>rw[Lq.mul_nil];exact Lo.nil
 |cons c m j h1 h2 h3 h4 ih=>
  rw[Lq.mul_sum,Lq.mul_sc,←Lq.mul_assoc];obtain⟨B,hB,e⟩:=uC aK hL.ho hs h2;rw[e,Lq.sum_mul];have has:(s.sum m).sum (eT o L j)=s.sum (m.sum (eT o L j)):=by unfold M.sum;refine oK ?_ ?_ ?_ ?_<;>(simp only;omega)
  have h5:pE o ((s.sum m).sum (eT o L j)) (s.sum δ):=by rw[has];exact BH s h3
  refine Lo.sum (Lo.sc c (Lo.sum ?_ (hB.lo h1 (.inl h5)))) ih;have:=Lo.one (o:=o) (n:=n) (L:=L) (δ:=s.sum δ) 1 h1 (jZ hs h2) h5
  rwa[Lq.sc_one]at this
def M.le (a b:M):Prop:=a.x≤b.x∧a.y≤b.y∧a.d≤b.d∧a.e≤b.e
def M.sub (b a:M):M:=⟨b.x-a.x,b.y-a.y,b.d-a.d,b.e-a.e⟩
theorem kR {a b:M}:(M.sub b a).sum a=b:=by unfold M.sub M.sum;refine oK ?_ ?_ ?_ ?_<;>(simp only;omega)
theorem kC {a b:M} (h:M.le a b):(M.sub b a).nn:=by obtain⟨h1,h2,h3,h4⟩:=h;unfold M.sub;exact⟨by simp only;omega,by simp only;omega,by simp only;omega,by simp only;omega⟩
def tv (o:Int) (L:Nat→List T) (δ:M):List (Fq×Nat)→Lq
 |[]=>Lq.nil
 |(c,j)::r=>Lq.sum (Lq.sc c (Lq.mul (mo aK (M.sub δ (eT o L j))) (Rp aK (L j)))) (tv o L δ r)
theorem Lo.cf0 (hL:sT o n L) {δ:M} {A:Lq} (hδ:δ.nn) (h:Lo o n L δ A):uM A δ=0:=by
 induction h with
 |nil=>exact OD δ
 |cons c m j h1 h2 h3 h4 ih=>rw[rF,JO,hL.cf_off h1 h2 hδ h3,ih];grind
def M.lcm (a b:M):M:=⟨if a.x≤b.x then b.x else a.x,if a.y≤b.y then b.y else a.y,if a.d≤b.d then b.d else a.d,if a.e≤b.e then b.e else a.e⟩
theorem zX (a b:M):M.le a (M.lcm a b)∧M.le b (M.lcm a b):=by unfold M.le M.lcm;simp only;refine⟨⟨?_,?_,?_,?_⟩,?_,?_,?_,?_⟩<;>(split<;>omega)
theorem XE {a b c:M} (h1:M.le a c) (h2:M.le b c):M.le (M.lcm a b) c:=by obtain⟨a1,a2,a3,a4⟩:=h1;obtain⟨b1,b2,b3,b4⟩:=h2;unfold M.le M.lcm;simp only;refine⟨?_,?_,?_,?_⟩<;>(split<;>omega)
def wW (o:Int) (n:Nat) (L:Nat→List T) (i k:Nat):Prop:=∀u v:Fq,u*zz (aU o (L i)).c=1→v*zz (aU o (L k)).c=1→Lo o n L (M.lcm (eT o L i) (eT o L k)) (Lq.sum (Lq.sc u (Lq.mul (mo aK (M.sub (M.lcm (eT o L i) (eT o L k)) (eT o L i))) (Rp aK (L i)))) (Lq.sc (-v) (Lq.mul (mo aK (M.sub (M.lcm (eT o L i) (eT o L k)) (eT o L k))) (Rp aK (L k)))))
theorem TN {a b c:M}:(M.sub c b).sum (M.sub b a)=M.sub c a:=by unfold M.sub M.sum;refine oK ?_ ?_ ?_ ?_<;>(simp only;omega)
theorem wW.up (hL:sT o n L) {i k:Nat} (hi:i<n) (hk:k<n) (h:wW o n L i k) {δ:M} (hδi:M.le (eT o L i) δ) (hδk:M.le (eT o L k) δ) {u v:Fq} (hu:u*zz (aU o (L i)).c=1) (hv:v*zz (aU o (L k)).c=1):Lo o n L δ (Lq.sum (Lq.sc u (Lq.mul (mo aK (M.sub δ (eT o L i))) (Rp aK (L i)))) (Lq.sc (-v) (Lq.mul (mo aK (M.sub δ (eT o L k))) (Rp aK (L k))))):=by
 have hb:=XE hδi hδk;have hs:=kC hb
 obtain⟨l1,l2⟩:=zX (eT o L i) (eT o L k);obtain⟨A,a1,a2⟩:=uC aK hL.ho hs (kC l1);obtain⟨B,b1,b2⟩:=uC aK hL.ho hs (kC l2);rw[TN]at a1 a2 b1 b2;have key:=(h u v hu hv).mul hL hs
 rw[kR]at key;have la:=(a1.lo hi (.inr (kR))).sc (-u)
 have lb:=(b1.lo hk (.inr (kR))).sc v;have tot:=(key.sum la).sum lb
 have e:Lq.sum (Lq.sum (Lq.mul (mo aK (M.sub δ (M.lcm (eT o L i) (eT o L k)))) (Lq.sum (Lq.sc u (Lq.mul (mo aK (M.sub (M.lcm (eT o L i) (eT o L k)) (eT o L i))) (Rp aK (L i)))) (Lq.sc (-v) (Lq.mul (mo aK (M.sub (M.lcm (eT o L i) (eT o L k)) (eT o L k))) (Rp aK (L k)))))) (Lq.sc (-u) (Lq.mul A (Rp aK (L i))))) (Lq.sc v (Lq.mul B (Rp aK (L k))))=Lq.sum (Lq.sc u (Lq.mul (mo aK (M.sub δ (eT o L i))) (Rp aK (L i)))) (Lq.sc (-v) (Lq.mul (mo aK (M.sub δ (eT o L k))) (Rp aK (L k)))):=by
  rw[Lq.mul_sum,Lq.mul_sc,Lq.mul_sc,←Lq.mul_assoc,←Lq.mul_assoc,a2,b2,Lq.sum_mul,Lq.sum_mul];refine Lq.ext fun w p q=>?_;simp only[NL,Cl]
  grind
 rw[e]at tot;exact tot
end Go.Proofs.YtelkehjdfcoeiaaGreat
namespace Go.Proofs.YtelkehjdfcoeiaaGreat
open Go.RowKit
set_option linter.unusedVariables false
theorem mC {m:M}:∀{L:List T},aM L m≠0→∃t∈L,t.m=m
 |[],h=>absurd rfl h
 |t::r,h=>by
  rw[aM]at h;split at h
  ·rename_i he;exact⟨t,List.mem_cons_self ..,cK.1 he⟩
  ·obtain⟨s,hs,e⟩:=mC h;exact⟨s,List.mem_cons_of_mem _ hs,e⟩
theorem EV {L:List T} (h:aL L) {t:T} (ht:t∈L):aM L t.m=t.c∧aM L t.m≠0:=by
 have h1:aM L t.m=t.c:=by
  induction L with
  |nil=>cases ht
  |cons s r ih=>
   rw[aM];rcases List.mem_cons.1 ht with rfl|ht'
   ·rw[if_pos (cK.2 rfl)]
   ·have h1:=h.head t ht';rw[if_neg (fun e=>by rw[cK.1 e]at h1;omega)];exact ih h.tail ht'
 have h2:=h.2 t ht;exact⟨h1,by omega⟩
theorem Gg {a c b:M} (h:M.mul a c=(b,true)):b.ok=true:=by
 unfold M.mul at h;split at h
 ·rename_i q;cases h;exact q.2.2
 ·cases h
theorem oU {o:Int} {A B L:List T} (h:cZ o (lf A) A.length (lf B) B.length=(L,true)):fM o A.length (lf A) B.length (lf B)=true∧∃X Y,lO [eZ o A.length (lf A) B.length (lf B)] A=(X,true)∧lO [fC o A.length (lf A) B.length (lf B)] B=(Y,true)∧cF X=true∧cF Y=true∧L=dC X Y∧L.length≤400:=by
 unfold cZ at h;by_cases hk:fM o A.length (lf A) B.length (lf B)=true
 ·refine⟨hk,?_⟩;rw[if_pos hk]at h;unfold mY at h;by_cases h2:(bT (lf [eZ o A.length (lf A) B.length (lf B)]) 1 (lf A) A.length).2=true∧(bT (lf [fC o A.length (lf A) B.length (lf B)]) 1 (lf B) B.length).2=true
  ·rw[if_pos h2]at h;obtain⟨X,hX⟩:∃X,lO [eZ o A.length (lf A) B.length (lf B)] A=(X,true):=by
    rcases Dg [eZ o A.length (lf A) B.length (lf B)] A with e|e
    ·exact absurd h2.1 (by rw[show bT (lf [eZ o A.length (lf A) B.length (lf B)]) 1 (lf A) A.length=([],false)from e];simp)
    ·exact e
   obtain⟨Y,hY⟩:∃Y,lO [fC o A.length (lf A) B.length (lf B)] B=(Y,true):=by
    rcases Dg [fC o A.length (lf A) B.length (lf B)] B with e|e
    ·exact absurd h2.2 (by rw[show bT (lf [fC o A.length (lf A) B.length (lf B)]) 1 (lf B) B.length=([],false)from e];simp)
    ·exact e
   rw[show bT (lf [eZ o A.length (lf A) B.length (lf B)]) 1 (lf A) A.length=(X,true)from hX,show bT (lf [fC o A.length (lf A) B.length (lf B)]) 1 (lf B) B.length=(Y,true)from hY]at h;rcases xX X Y with e|⟨_,_,hl,e⟩
   ·rw[show kZ (lf X) X.length (lf Y) Y.length=([],false)from e]at h;cases h
   ·rw[show kZ (lf X) X.length (lf Y) Y.length=(dC X Y,true)from e]at h;have hL:dC X Y=L:=by cases h;rfl
    exact⟨X,Y,hX,hY,DG hX,DG hY,hL.symm,by rw[←hL];exact hl⟩
  ·rw[if_neg h2]at h;cases h
 ·rw[if_neg hk]at h;cases h
theorem Cv {o:Int} {A B L:List T} (h:cZ o (lf A) A.length (lf B) B.length=(L,true)):cF L=true:=by obtain⟨hk,X,Y,hX,hY,oX,oY,rfl,hl⟩:=oU h;exact gO hl (cO (aD oX).2 (aD oY).2).1
theorem NM {o:Int} {u:T} {A X:List T} (gu:u.m.ok=true∧1≤u.c∧u.c≤100) (hA:DM o A=true) (h:lO [u] A=(X,true)) {b:M} (hb:M.mul u.m (tU o A).m=(b,true)) (hc:qT u.c (tU o A).c=1):aM X b=1∧∀t∈X,eO o t.m≤eO o b:=by
 obtain⟨ho,oA,_⟩:=iQ.1 hA;have hu:DM o [u]=true:=iQ.2 ⟨ho,iX gu,by simp⟩
 obtain⟨e1,e2⟩:=Fm ho h;rw[hu,hA]at e1;have hX:DM o X=true:=e1
 obtain⟨e3,e4⟩:=e2 hu hA;have eu:tU o [u]=u:=by have:=(xJ hu).1;simpa using this
 rw[eu]at e3 e4;have eb:(tU o X).m=b:=by have:=e3.symm.trans (show M.mul ⟨u.m.x,u.m.y,u.m.d,u.m.e⟩ ⟨(tU o A).m.x,(tU o A).m.y,(tU o A).m.d,(tU o A).m.e⟩=(b,true)from hb);cases this;rfl
 obtain⟨t1,t2⟩:=xJ hX;have hm:=(EV (aD (DG h)).2 t1).1
 rw[eb]at t2 hm;refine⟨?_,t2⟩;rw[hm,←e4,hc]
theorem WM {o:Int} {A B L:List T} (h:cZ o (lf A) A.length (lf B) B.length=(L,true)):∀t∈L,M.cmp o t.m (nM o A.length (lf A) B.length (lf B))<0:=by
 obtain⟨hk,X,Y,hX,hY,oX,oY,rfl,hl⟩:=oU h;obtain⟨gU,gV⟩:=wG hk;obtain⟨m1,m2,c1,c2,_⟩:=SV hk;have hk':=hk
 unfold fM at hk';rw[Bool.and_eq_true]at hk';obtain⟨x1,x2⟩:=NM gU (show DM o A=true from hk'.1) hX m1 c1;obtain⟨y1,y2⟩:=NM gV (show DM o B=true from hk'.2) hY m2 c2;have fX:=(aD oX).2
 have fY:=(aD oY).2;obtain⟨fL,cL⟩:=cO fX fY;have ho:=(mF hk'.1).1
 have hbok:(nM o A.length (lf A) B.length (lf B)).ok=true:=Gg m1;generalize nM o A.length (lf A) B.length (lf B)=b at *;intro t ht;have tok:=(fL.2 t ht).1
 obtain⟨q1,q2⟩:=EV fL ht;have hne:t.m≠b:=fun e=>by apply q2;rw[e,cL b,x1,y1];decide
 have hle:eO o t.m≤eO o b:=by
  by_cases hx:aM X t.m=0
  ·by_cases hy:aM Y t.m=0
   ·exact absurd (by rw[cL,hx,hy];decide) q2
   ·obtain⟨s,hs,e⟩:=mC hy;rw[←e];exact y2 s hs
  ·obtain⟨s,hs,e⟩:=mC hx;rw[←e];exact x2 s hs
 have hlt:eO o t.m≠eO o b:=fun e=>hne (jE _ _ tok hbok e);unfold M.cmp;rw[if_pos ⟨ho,tok,hbok⟩,zP ho tok hbok];unfold c3;split
 ·omega
 ·split<;>omega
open Go.RowKit Go.Deep Go.Joins
theorem Cm (d:Fq):Lq.sc d Lq.nil=Lq.nil:=Lq.ext fun u n k=>by show d*(0:Fq)=0;grind
theorem GU (A:Lq):Lq.sum Lq.nil A=A:=by rw[Lq.sum_comm,Lq.sum_nil]
section
variable {o:Int} {n:Nat} {L:Nat→List T}
theorem QB (g:wS) (t:T) (r:List T):Rp g (t::r)=Lq.sum (Lq.sc (zz t.c) (mo g t.m)) (Rp g r):=Lq.ext fun u n k=>rfl
theorem GR (A:Lq):Lq.mul (mo aK ⟨0,0,0,0⟩) A=A:=rfl
theorem M.sum_comm (a b:M):a.sum b=b.sum a:=by unfold M.sum;refine oK ?_ ?_ ?_ ?_<;>(simp only;omega)
theorem nE (ho:1≤o∧o≤3) (hl:bB n (lN L) (fN L)=true):sT o n L:=⟨ho,fun j hj=>⟨((aQ hl).2 j hj).2,((aQ hl).2 j hj).1⟩⟩
theorem Io:zz 100= -1:=by decide
theorem zF {p:List T} {S:Dv} (h:aY o p n (lN L) (fN L)=some S):Rp aK S.r=Lq.sum (Rp aK p) (Lq.sc (-1) (qsum aK n L S.q)):=by
 rw[←uG aK h];refine Lq.ext fun u a b=>?_;simp only[NL,Cl]
 grind
theorem Lo.rp {δ:M} {j:Nat} (hj:j<n):∀q:List T,(∀t∈q,t.m.nn∧pE o (t.m.sum (eT o L j)) δ)→Lo o n L δ (Lq.mul (Rp aK q) (Rp aK (L j)))
 |[],_=>by rw[pT,Lq.nil_mul];exact Lo.nil
 |t::r,hq=>by rw[QB,Lq.sum_mul,Lq.sc_mul];obtain⟨h1,h2⟩:=hq t (List.mem_cons_self ..);exact Lo.cons _ t.m j hj h1 h2 (Lo.rp hj r (fun s hs=>hq s (List.mem_cons_of_mem _ hs)))
theorem Lo.sumN {δ:M} {f:Nat→Lq}:∀k,(∀i,i<k→Lo o n L δ (f i))→Lo o n L δ (Lq.sumN f k)
 |0,_=>Lo.nil
 |k+1,h=>Lo.sum (Lo.sumN k (fun i hi=>h i (by omega))) (h k (by omega))
theorem Kb (a b:Int):mx a b=if a≤b then b else a:=by unfold mx;split<;>split<;>omega
theorem XR {a b:M} (ha:a.ok=true) (hb:b.ok=true):M.both a b=M.lcm a b:=by unfold M.both M.lcm;rw[if_pos ⟨ha,hb⟩];simp only[Kb]
theorem LE {a b c:M} (h:M.mul a b=(c,true)):a.sum b=c∧c.ok=true:=by
 unfold M.mul at h;split at h
 ·rename_i hh;cases h;exact⟨rfl,hh.2.2⟩
 ·cases h
theorem Lp {a b:Int} (h:c3 a b<0):a<b:=by unfold c3 at h;split at h<;>(try split at h)<;>omega
theorem SZ {a b c:M} (h:a.sum b=c):a=M.sub c b:=by rw[←h];unfold M.sub M.sum;refine oK ?_ ?_ ?_ ?_<;>(simp only;omega)
theorem Ig {a b:Int} (ha:1≤a∧a≤100) (hb:1≤b∧b≤100) (h:qT a b=1):zz a*zz b=1:=by rw[jO (by omega) ha.2 (by omega) hb.2]at h;rw[←oW,←lU,h];rfl
theorem zT (hL:sT o n L) {i k:Nat} (hi:i<n) (hk:k<n) {s:List T} (hs:cZ o (lf (L i)) (L i).length (lf (L k)) (L k).length=(s,true)):∃U V:T,U=eZ o (L i).length (lf (L i)) (L k).length (lf (L k))∧V=fC o (L i).length (lf (L i)) (L k).length (lf (L k))∧zz U.c*zz (aU o (L i)).c=1∧zz V.c*zz (aU o (L k)).c=1∧U.m=M.sub (M.lcm (eT o L i) (eT o L k)) (eT o L i)∧V.m=M.sub (M.lcm (eT o L i) (eT o L k)) (eT o L k)∧Rp aK s=Lq.sum (Lq.sc (zz U.c) (Lq.mul (mo aK U.m) (Rp aK (L i)))) (Lq.sc (-(zz V.c)) (Lq.mul (mo aK V.m) (Rp aK (L k))))∧(M.lcm (eT o L i) (eT o L k)).ok=true∧∀t∈s,eO o t.m<eO o (M.lcm (eT o L i) (eT o L k)):=by
 obtain⟨hok,X,Y,hX,hY,oX,oY,es,hl⟩:=oU hs;obtain⟨gU,gV⟩:=wG hok;obtain⟨m1,m2,c1,c2,_⟩:=SV hok;have hb:=WM hs
 have li:bN o (L i).length (lf (L i))=aU o (L i):=(xI hL.ho (hL.fl i hi).1 (hL.fl i hi).2).symm;have lk:bN o (L k).length (lf (L k))=aU o (L k):=(xI hL.ho (hL.fl k hk).1 (hL.fl k hk).2).symm
 have eB:nM o (L i).length (lf (L i)) (L k).length (lf (L k))=M.lcm (eT o L i) (eT o L k):=by unfold nM;rw[li,lk];exact XR (hL.good hi).1 (hL.good hk).1
 rw[eB,li]at m1;rw[eB,lk]at m2;rw[li]at c1;rw[lk]at c2;rw[eB]at hb;obtain⟨s1,k1⟩:=LE m1;obtain⟨s2,_⟩:=LE m2;refine⟨_,_,rfl,rfl,Ig gU.2 (hL.good hi).2 c1,Ig gV.2 (hL.good hk).2 c2,SZ s1,SZ s2,?_,k1,fun t ht=>?_⟩
 ·rw[es,wZ aK (aD oX).2 (aD oY).2,tL aK hX,tL aK hY,zZ,zZ,Lq.sc_mul,Lq.sc_mul,Lq.sc_sc,Io];congr 2
  grind
 ·have fs:aL s:=(aD (Cv hs)).2;have:=hb t ht
  unfold M.cmp at this;rw[if_pos ⟨hL.ho,(fs.2 t ht).1,k1⟩,zP hL.ho (fs.2 t ht).1 k1]at this;exact Lp this
theorem SX (hL:sT o n L) {s:List T} {S:Dv} (hr:aY o s n (lN L) (fN L)=some S) {μ:M} (hμ:μ.ok=true) (hs:∀t∈s,eO o t.m<eO o μ):Lo o n L μ (qsum aK n L S.q)∧∀t∈S.r,eO o t.m<eO o μ:=by
 obtain⟨r1,r2⟩:=MG hr (N:=eO o μ-1) (fun t ht=>by have:=hs t ht;omega);refine⟨Lo.sumN n fun i hi=>Lo.rp hi _ (fun t ht=>?_),fun t ht=>by have:=r1 t ht;omega⟩;obtain⟨h1,h2⟩:=r2 i hi t ht;have fq:=(cU hr).1.q i
 exact⟨nX (fq.1.2 t ht).1,zO hL.ho h1 hμ (by show eO o (t.m.sum (aU o (L i)).m)<_;omega)⟩
theorem LP (hL:sT o n L) {i k:Nat} (hi:i<n) (hk:k<n) {s:List T} (hs:cZ o (lf (L i)) (L i).length (lf (L k)) (L k).length=(s,true)) (h:Lo o n L (M.lcm (eT o L i) (eT o L k)) (Rp aK s)):wW o n L i k:=fun u v hu hv=>by
 obtain⟨U,V,_,_,u1,v1,um,vm,e,_⟩:=zT hL hi hk hs;have eu:u=zz U.c:=by
  have:u*(zz (aU o (L i)).c*zz U.c)=zz U.c:=by rw[←Fin.mul_assoc,hu];grind
  have u1':zz (aU o (L i)).c*zz U.c=1:=by grind
  rw[u1']at this
  grind
 have ev:v=zz V.c:=by
  have:v*(zz (aU o (L k)).c*zz V.c)=zz V.c:=by rw[←Fin.mul_assoc,hv];grind
  have u1':zz (aU o (L k)).c*zz V.c=1:=by grind
  rw[u1']at this
  grind
 rw[e]at h;rw[eu,ev,←um,←vm];exact h
theorem VO (hL:sT o n L) {i k:Nat} (hi:i<n) (hk:k<n) {s:List T} (hs:cZ o (lf (L i)) (L i).length (lf (L k)) (L k).length=(s,true)) {S:Dv} (hr:aY o s n (lN L) (fN L)=some S) (h0:S.r=[]):wW o n L i k:=by obtain⟨U,V,_,_,u1,v1,um,vm,e,k1,hb⟩:=zT hL hi hk hs;refine LP hL hi hk hs ?_;rw[←uG aK hr,h0,pT,Lq.sum_nil];exact(SX hL hr k1 hb).1
end
end Go.Proofs.YtelkehjdfcoeiaaGreat
namespace Go.Proofs.YtelkehjdfcoeiaaGreat
open Go.RowKit Go.Deep Go.Joins
set_option linter.unusedVariables false
theorem Bu {o:Int} {p:List T} {n:Nat} {L:Nat→List T} {S:Dv} (h:aY o p n (lN L) (fN L)=some S) (h0:p.length≠0) (hno:∀i,i<n→M.dvd (aU o (L i)).m (aU o p).m=false):S.r.length≠0∧aU o S.r=aU o p:=by
 obtain⟨h1,h2,h3,h4⟩:=iZ h;have hm:=gJ (o:=o) h0
 have hg:=dJ (o:=o) (aD h2).2 h0;have htop:=oD h1 h2 h0
 generalize ht:aU o p=t0 at *
 have key:=mH h (fun S=>S=lR p∨((∀t∈S.p,eO o t.m<eO o t0.m)∧aM S.r t0.m=t0.c)) (.inl rfl) (fun u S S' hok hs0 hI hs=>by
  rcases hI with rfl|⟨i1,i2⟩
  ·rcases kD h3 hok.p hs0 hs with⟨k,Y,hk,hd,_⟩|⟨_,rfl⟩
   ·have hd':M.dvd (aU o (L k)).m (aU o p).m=true:=hd;rw[ht,hno k hk]at hd';cases hd'
   ·right;show(∀t∈dC p [aU o p],eO o t.m<eO o t0.m)∧aM (dG [] [aU o p]) t0.m=t0.c
    rw[ht];have f1:=cO (aD h2).2 (dW hg)
    have f2:=cW eY (dW hg);have c1:aM [t0] t0.m=t0.c:=bH t0 []
    refine⟨fun t htm=>?_,by rw[f2.2,c1];show(0+t0.c)%101=t0.c;omega⟩;have hle:eO o t.m≤eO o t0.m:=by
     rcases sJ (aD h2).2 (dW hg) htm with⟨a,ha,e⟩|⟨b,hb,e⟩
     ·rw[←e];exact htop a ha
     ·rw[←e,List.mem_singleton.1 hb];exact Int.le_refl _
    rcases Int.lt_or_le (eO o t.m) (eO o t0.m)with q|q
    ·exact q
    ·have e:=jE (o:=o) t.m t0.m (f1.1.2 t htm).1 hg.1 (by omega);have h5:=(eN f1.1 htm).2
     rw[e,f1.2,c1,(eN (aD h2).2 hm).1]at h5;exact absurd (by omega) h5
  ·have hl:=gJ (o:=o) hs0;have hgl:=dJ (o:=o) (aD hok.p).2 hs0
   right;rcases kD h3 hok.p hs0 hs with⟨k,Y,hk,hd,ho,hY,_,rfl⟩|⟨_,rfl⟩
   ·have hk2:=(aQ h3).2 k hk;have hpt:=LW h1 hk2.2 hk2.1 hY
    have hsum:=LL hd;have hw:=(CF o (gH (aU o S.p) (aU o (L k))).m (aU o (L k)).m 0 0).2
    rw[hsum]at hw;refine⟨fun t htm=>?_,i2⟩;rcases sJ (aD hok.p).2 (nR hY) htm with⟨a,ha,e⟩|⟨b,hb,e⟩
    ·rw[←e];exact i1 a ha
    ·rw[←e];have:=hpt b hb
     have:=i1 _ hl;omega
   ·refine⟨fun t htm=>?_,?_⟩
    ·rcases sJ (aD hok.p).2 (dW hgl) htm with⟨a,ha,e⟩|⟨b,hb,e⟩
     ·rw[←e];exact i1 a ha
     ·rw[←e,List.mem_singleton.1 hb];exact i1 _ hl
    ·show aM (dG S.r [aU o S.p]) t0.m=t0.c;have hne:(aU o S.p).m≠t0.m:=fun e=>by have:=i1 _ hl;rw[e]at this;omega
     rw[(cW hok.r.1 (dW hgl)).2,i2,iE hne,uX]
     omega)
 obtain⟨hd,hpn⟩:=cU h;rcases key with e|⟨_,k2⟩
 ·rw[e]at hpn;have:p=[]:=hpn
  rw[this]at h0;exact absurd rfl h0
 ·have hne:aM S.r t0.m≠0:=by rw[k2];omega
  obtain⟨t,htm,e⟩:=mC hne;have hr0:S.r.length≠0:=fun q=>by rw[List.length_eq_zero_iff.1 q]at htm;cases htm
  refine⟨hr0,?_⟩;have hrok:=(jX h).1
  have q1:=(MG h htop).1 _ (gJ (o:=o) hr0);have q2:=oD h1 hrok hr0 t htm
  rw[e]at q2;have hgr:=dJ (o:=o) (aD hrok).2 hr0
  have em:=jE (o:=o) (aU o S.r).m t0.m hgr.1 hg.1 (by omega);have ec:=(eN (aD hrok).2 (gJ (o:=o) hr0)).1
  rw[em,k2]at ec;cases hq:aU o S.r;rw[hq]at em ec;cases t0
  simp_all
theorem Cj {t:T} (c1:1≤t.c) (c2:t.c≤100):(uI (kE t.c) t).c=1∧(uI (kE t.c) t).m=t.m:=by
 refine⟨?_,rfl⟩;have h1:=vH (b:=t.c) ⟨by omega,c2⟩ (by omega)
 have h2:=nZ t.c;unfold qT at h1;rw[if_pos (by omega)]at h1;exact h1
theorem VF {o:Int} {p:List T} {oth:List (List T)} {Y:List T} (h:pI o p oth=some Y) (h0:p.length≠0) (hno:∀q∈oth,M.dvd (aU o q).m (aU o p).m=false):(aU o Y).m=(aU o p).m∧(aU o Y).c=1∧(∀t∈Y,∀q∈oth,M.dvd (aU o q).m t.m=false):=by
 unfold pI at h;split at h
 ·rename_i S hS;split at h
  ·cases h
  ·rename_i hr0;cases h;obtain⟨k1,k2⟩:=Bu hS h0 (fun i hi=>hno _ (eE hi));have hrok:=(jX hS).1
   obtain⟨_,_,e⟩:=zJ (o:=o) hrok hr0;have hg:=dJ (o:=o) (aD hrok).2 hr0
   rw[e,Jq o _ hr0];obtain⟨q1,q2⟩:=Cj hg.2.1 hg.2.2;refine⟨by rw[q2,k2],q1,fun t ht q hq=>?_⟩;obtain⟨a,ha,ea⟩:=ZJ ht;obtain⟨i,hi,rfl⟩:=List.mem_iff_getElem.1 hq;have:=CE hS a ha i hi
   rw[show bY oth i=oth[i] by show oth.getD i []=_;rw[List.getD_eq_getElem?_getD,List.getElem?_eq_getElem hi];rfl]at this;rw[←ea];exact this
 ·cases h
abbrev nF (o:Int) (p:List T):M:=(aU o p).m
def Lb (o:Int) (l:List (List T)):Prop:=l.Pairwise (fun a b=>M.dvd (nF o a) (nF o b)=false∧M.dvd (nF o b) (nF o a)=false)
theorem JU {m:M} (h:m.ok=true):M.dvd m m=true:=by unfold M.dvd;simp[h]
theorem EW {k:Nat→M} {n i j:Nat} (hi:i<n) (hj:j<n) (hij:i≠j) (h1:jR k n i=true) (h2:jR k n j=true):M.dvd (k i) (k j)=false:=by
 cases hd:M.dvd (k i) (k j)
 ·rfl
 ·have q1:=of_decide_eq_true h1;have q2:=of_decide_eq_true h2
  by_cases e:eF (k i) (k j)=true
  ·have e':=dQ.1 e;by_cases hl:i<j
   ·exact absurd ⟨hij,hd,.inr hl⟩ (q2 i hi)
   ·exact absurd ⟨fun q=>hij q.symm,by rw[e']at hd⊢;exact hd,.inr (by omega)⟩ (q1 j hj)
  ·exact absurd ⟨hij,hd,.inl (by cases h:eF (k i) (k j);rfl;exact absurd h e)⟩ (q2 i hi)
theorem CI {o:Int} {n:Nat} {L:Nat→List T}:∀j,j≤n→Lb o (gS (jR (fun i=>(aU o (L i)).m) n) L j)
 |0,_=>List.Pairwise.nil
 |j+1,hj=>by
  unfold gS;split
  ·rename_i hn;refine List.pairwise_append.2 ⟨CI j (by omega),List.pairwise_singleton _ _,fun a ha b hb=>?_⟩;obtain⟨i,hi,hni,rfl⟩:=rT ha;rw[List.mem_singleton.1 hb];exact⟨EW (k:=fun i=>(aU o (L i)).m) (by omega) (by omega) (by omega) hni hn,EW (k:=fun i=>(aU o (L i)).m) (by omega) (by omega) (by omega) hn hni⟩
  ·exact CI j (by omega)
theorem EK {α:Type} (lt:α→α→Bool) (x:α):∀l:List α,(fJ lt x l).Perm (x::l)
 |[]=>List.Perm.refl _
 |y::r=>by
  show(if lt x y=true then x::y::r else y::fJ lt x r).Perm _;split
  ·exact List.Perm.refl _
  ·exact((EK lt x r).cons y).trans (List.Perm.swap x y r)
theorem FF {α:Type} (lt:α→α→Bool):∀l acc:List α,(jA lt acc l).Perm (acc++l)
 |[],acc=>by rw[List.append_nil];exact List.Perm.refl _
 |x::r,acc=>by refine(FF lt r (fJ lt x acc)).trans ?_;refine((EK lt x acc).append_right r).trans ?_;exact(List.perm_middle (a:=x) (l₁:=acc) (l₂:=r)).symm
theorem BJ (o:Int) (n:Nat) (L:Nat→List T):Lb o (cH o n L):=by refine((FF (RE o) _ []).pairwise_iff (fun h=>⟨h.2,h.1⟩)).2 ?_;rw[List.nil_append];exact CI n (Nat.le_refl _)
def DS (o:Int) (l:List (List T)):Prop:=l.Pairwise (fun a b=>eO o (nF o a)≤eO o (nF o b))
theorem BC {o:Int} {x:List T}:∀{l:List (List T)},DS o l→DS o (fJ (RE o) x l)
 |[],_=>List.pairwise_singleton _ _
 |y::r,h=>by
  obtain⟨h1,h2⟩:=List.pairwise_cons.1 h;show DS o (if RE o x y=true then x::y::r else y::fJ (RE o) x r)
  by_cases e:RE o x y=true
  ·rw[if_pos e];have e':eO o (nF o x)<eO o (nF o y):=of_decide_eq_true e
   refine List.pairwise_cons.2 ⟨fun z hz=>?_,h⟩;rcases List.mem_cons.1 hz with rfl|hz
   ·omega
   ·have:=h1 z hz;omega
  ·rw[if_neg e];have e':eO o (nF o y)≤eO o (nF o x):=by
    rcases Int.lt_or_le (eO o (nF o x)) (eO o (nF o y))with q|q
    ·exact absurd (decide_eq_true q) e
    ·exact q
   refine List.pairwise_cons.2 ⟨fun z hz=>?_,BC h2⟩;rcases vO.1 hz with rfl|hz
   ·exact e'
   ·exact h1 z hz
theorem CM {o:Int}:∀{l acc:List (List T)},DS o acc→DS o (jA (RE o) acc l)
 |[],acc,h=>h
 |x::r,acc,h=>CM (l:=r) (BC h)
theorem GN {l:List (List T)} {i:Nat} {Y:List T} (h:i<l.length) (j:Nat):bY (jD l i Y) j=if j=i then Y else bY l j:=by
 show(jD l i Y).getD j []=if j=i then Y else l.getD j [];rw[LY h,List.getD_eq_getElem?_getD,List.getD_eq_getElem?_getD,List.getElem?_set];by_cases e:i=j
 ·subst e;simp[h]
 ·rw[if_neg e,if_neg (fun q=>e q.symm)]
theorem Fx {l:List (List T)} {i j:Nat} (hj:j<l.length) (hij:j≠i):bY l j∈gD l i:=by
 show l.getD j []∈l.take i++l.drop (i+1);rw[List.getD_eq_getElem?_getD,List.getElem?_eq_getElem hj];show l[j]∈_
 rcases Nat.lt_or_ge j i with h|h
 ·exact List.mem_append_left _ (List.mem_iff_getElem.2 ⟨j,by rw[List.length_take];omega,by rw[List.getElem_take]⟩)
 ·refine List.mem_append_right _ (List.mem_iff_getElem.2 ⟨j-(i+1),by rw[List.length_drop];omega,?_⟩);rw[List.getElem_drop];congr 1;omega
theorem Gl {l:List (List T)} {i:Nat} {q:List T} (h:q∈gD l i):∃j,j<l.length∧j≠i∧bY l j=q:=by
 rcases List.mem_append.1 h with h|h
 ·obtain⟨j,hj,rfl⟩:=List.mem_iff_getElem.1 h;rw[List.length_take]at hj;refine⟨j,by omega,by omega,?_⟩;show l.getD j []=_
  rw[List.getD_eq_getElem?_getD,List.getElem?_eq_getElem (by omega),List.getElem_take];rfl
 ·obtain⟨j,hj,rfl⟩:=List.mem_iff_getElem.1 h;rw[List.length_drop]at hj;refine⟨i+1+j,by omega,by omega,?_⟩;show l.getD (i+1+j) []=_
  rw[List.getD_eq_getElem?_getD,List.getElem?_eq_getElem (by omega),List.getElem_drop];rfl
structure Du (o:Int) (N i:Nat) (l l0:List (List T)):Prop where
 len:l.length=N
 ok:RU l
 lead:∀j,j<N→nF o (bY l j)=nF o (bY l0 j)
 anti:∀j k,j<N→k<N→j≠k→M.dvd (nF o (bY l j)) (nF o (bY l k))=false
 done:∀k,k<i→(aU o (bY l k)).c=1∧∀t∈bY l k,∀j,j<N→j≠k→M.dvd (nF o (bY l j)) t.m=false
theorem Du.step {o:Int} {N i:Nat} {l l0:List (List T)} (h:Du o N i l l0) (hi:i<N) {Y:List T} (hY:pI o (bY l i) (gD l i)=some Y):Du o N (i+1) (jD l i Y) l0:=by
 have hil:i<l.length:=by rw[h.len];exact hi
 obtain⟨k1,k2,k3⟩:=VF hY (h.ok _ (eE hil)).2 (fun q hq=>by
  obtain⟨j,hj,hji,rfl⟩:=Gl hq
  exact h.anti j i (by rw[←h.len];exact hj) hi hji)
 have hm:∀j,nF o (bY (jD l i Y) j)=nF o (bY l j):=fun j=>by
  rw[GN hil];by_cases e:j=i
  ·rw[if_pos e,e];exact k1
  ·rw[if_neg e]
 refine⟨by rw[CB hil];exact h.len,zN h.ok (vV hY),fun j hj=>by rw[hm];exact h.lead j hj,fun j k hj hk hjk=>by rw[hm,hm];exact h.anti j k hj hk hjk,fun k hk=>?_⟩;have e2:∀j,nF o (bY (jD l i Y) j)=nF o (bY l j):=hm
 by_cases e:k=i
 ·subst e;have e3:bY (jD l k Y) k=Y:=by rw[GN hil,if_pos rfl]
  rw[e3];refine⟨k2,fun t ht j hj hjk=>?_⟩;rw[e2];exact k3 t ht _ (Fx (by rw[h.len];exact hj) hjk)
 ·have e3:bY (jD l i Y) k=bY l k:=by rw[GN hil,if_neg e]
  rw[e3];obtain⟨d1,d2⟩:=h.done k (by omega);exact⟨d1,fun t ht j hj hjk=>by rw[e2];exact d2 t ht j hj hjk⟩
theorem Du.run {o:Int} {N:Nat} {l0:List (List T)}:∀{u i:Nat} {l l':List (List T)},i+u=N→Du o N i l l0→iF o u i l=some l'→Du o N N l' l0
 |0,i,l,l',hu,h,hr=>by
  have hr':some l=some l':=hr;cases hr';have:i=N:=by omega
  subst this;exact h
 |u+1,i,l,l',hu,h,hr=>by
  cases hY:pI o (bY l i) (gD l i)with
  |none=>rw[mO hY]at hr;cases hr
  |some Y=>rw[nG hY]at hr;exact Du.run (by omega) (h.step (by omega) hY) hr
theorem IA {R:List T→List T→Prop} {l:List (List T)} (h:l.Pairwise R) {i j:Nat} (hij:i<j) (hj:j<l.length):R (bY l i) (bY l j):=by
 have:=List.pairwise_iff_getElem.1 h i j (by omega) hj hij;show R (l.getD i []) (l.getD j [])
 rw[List.getD_eq_getElem?_getD,List.getD_eq_getElem?_getD,List.getElem?_eq_getElem hj,List.getElem?_eq_getElem (show i<l.length by omega)];exact this
structure XD (o:Int) (l:List (List T)):Prop where
 ho:1≤o∧o≤3
 le:l.length≤12
 ok:RU l
 anti:∀j k,j<l.length→k<l.length→j≠k→M.dvd (nF o (bY l j)) (nF o (bY l k))=false
 one:∀k,k<l.length→(aU o (bY l k)).c=1
 free:∀k,k<l.length→∀t∈bY l k,∀j,j<l.length→j≠k→M.dvd (nF o (bY l j)) t.m=false
 rise:∀j k,j<k→k<l.length→eO o (nF o (bY l j))<eO o (nF o (bY l k))
theorem dP {o:Int} {n:Nat} {L:Nat→List T} {l:List (List T)} (h:aT o n L=some l):(1≤o∧o≤3)∧bB n (lN L) (fN L)=true∧iF o (cH o n L).length 0 (cH o n L)=some l:=by
 unfold aT at h;split at h
 ·rename_i hh;exact⟨hh.1,hh.2,h⟩
 ·cases h
theorem vJ {o:Int} {n:Nat} {L:Nat→List T} {l:List (List T)} (h:aT o n L=some l):Du o (cH o n L).length (cH o n L).length l (cH o n L):=by
 obtain⟨ho,hl,hr⟩:=dP h;obtain⟨k1,k2⟩:=sH (o:=o) hl;refine Du.run (Nat.zero_add _) ⟨rfl,k1,fun _ _=>rfl,fun j k hj hk hjk=>?_,fun k hk=>absurd hk (tD _)⟩ hr;have ha:=BJ o n L
 rcases Nat.lt_or_gt_of_ne hjk with q|q
 ·exact(IA ha q hk).1
 ·exact(IA ha q hj).2
theorem gM {o:Int} {n:Nat} {L:Nat→List T} {l:List (List T)} (h:aT o n L=some l):XD o l:=by
 obtain⟨ho,hl,hr⟩:=dP h;obtain⟨k1,k2⟩:=sH (o:=o) hl;have hs:=vJ h
 have hle:=hs.len;refine⟨ho,by omega,hs.ok,fun j k hj hk=>hs.anti j k (by omega) (by omega),fun k hk=>(hs.done k (by omega)).1,fun k hk t ht j hj=>(hs.done k (by omega)).2 t ht j (by omega),fun j k hjk hk=>?_⟩;rw[hs.lead j (by omega),hs.lead k (by omega)];have hr:DS o (cH o n L):=CM List.Pairwise.nil
 have h1:=IA hr hjk (by omega);have h2:=(IA (BJ o n L) hjk (by omega)).1
 have o1:=kS (o:=o) (k1 _ (eE (l:=cH o n L) (i:=j) (by omega)));have o2:=kS (o:=o) (k1 _ (eE (l:=cH o n L) (i:=k) (by omega)))
 rcases Int.lt_or_le (eO o (nF o (bY (cH o n L) j))) (eO o (nF o (bY (cH o n L) k)))with q|q
 ·exact q
 ·have e:=jE (o:=o) _ _ o1 o2 (show eO o (nF o (bY (cH o n L) j))=eO o (nF o (bY (cH o n L) k)) by omega);have e':nF o (bY (cH o n L) j)=nF o (bY (cH o n L) k):=e
  rw[e',JU o2]at h2;cases h2
end Go.Proofs.YtelkehjdfcoeiaaGreat
