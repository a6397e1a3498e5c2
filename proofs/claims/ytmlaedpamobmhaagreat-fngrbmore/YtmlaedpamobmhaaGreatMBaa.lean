/-
  An operator is its numbers: two lists of terms that fall, with the same numbers, are one.
  The four cells of a monomial.
  Monomials that come in, are copied and are held against each other.
-/
import Derived.Test.YtmlaedpamobmhaaGreatMbj
set_option maxHeartbeats 4000000
set_option maxRecDepth 100000
namespace Go.Proofs.YtmlaedpamobmhaaGreat
open Go.RowKit
set_option linter.unusedVariables false
open Go.RowKit Go.Deep Go.Joins
def M.eqB (a b:M):Bool:=decide (a.x=b.x∧a.y=b.y∧a.d=b.d∧a.e=b.e)
theorem M.eqB_iff {a b:M}:a.eqB b=true↔a=b:=by cases a;cases b;simp[M.eqB]
def T.eqB (a b:T):Bool:=decide (a.c=b.c)&&a.m.eqB b.m
theorem T.eqB_iff {a b:T}:a.eqB b=true↔a=b:=by cases a;cases b;simp[T.eqB,M.eqB_iff]
def eF (n:Nat) (f:Nat→T) (n':Nat) (f':Nat→T):Bool:=decide (n=n'∧∀i,i<n→(f i).eqB (f' i)=true)
def mO (f:Nat→T) (la:Nat) (g:Nat→T) (lb:Nat):List T×Bool:=
 if aL la f=true∧aL lb g=true∧(fC f la g lb 0 0).length≤400 then(fC f la g lb 0 0,true)else([],false)
theorem EC (n:Nat) (f:Nat→T):eF n f n f=true:=by simp only[eF,decide_eq_true_eq];exact⟨trivial,fun i _=>T.eqB_iff.2 rfl⟩
def wB (L K:List T):List T×Bool:=mO (lf L) L.length (lf K) K.length
theorem WY {L K:List T} (hL:cM L=true) (hK:cM K=true) (h:(bT L K).length≤400):wB L K=(bT L K,true):=if_pos ⟨hL,hK,h⟩
def sq (L K:List T):Bool:=eF L.length (lf L) K.length (lf K)
theorem wV (L:List T):sq L L=true:=EC _ _
theorem KR {L K:List T}:sq L K=true↔L=K:=by
 constructor
 ·intro ht;simp only[sq,eF,decide_eq_true_eq]at ht;refine List.ext_getElem ht.1 (fun i h1 h2=>?_);have:=ht.2 i h1
  rw[iP h1,iP h2]at this;exact T.eqB_iff.1 this
 ·intro h;rw[h];exact wV K
theorem XV (w:World) (a a':Option Addr) (n cap n' cap':Nat) (f f':Nat→T) (h:Rd w a n cap f) (h':Rd w a' n' cap' f'):Calls Tryz.prog 17 #[.slice a n cap,.slice a' n' cap'] w fun r w'=>r= .returned (.bool (eF n f n' f'))∧Below w.heap.size w w':=by
 obtain⟨h1,h2,h3⟩:=h;obtain⟨h1',h2',h3'⟩:=h';have hn:(n:Int)≤140737488351232:=by omega
 have hn':(n':Int)≤140737488351232:=by omega
 by_cases hnn:n=n'
 ·subst hnn;go_enter Tryz.func17,Tryz.ntmps17;go_wp2;go_loopw [5] (fun i wr=>∃(k:Nat),k≤n∧i= .int .i64 k∧Below w.heap.size w wr∧Hid (∀j,j<k→(f j).eqB (f' j)=true)) (fun i _=>n-(intOf i).toNat);case atStart=>exact⟨0,gY _,rfl,bQ _ _,fun j hj=>absurd hj (NX _)⟩
  case round=>
   obtain⟨k,hk,rfl,hB,hok⟩:=hrel;by_cases hlt:k<n
   ·rcases h3 with h0|⟨b,off,rfl,hblt,hcl⟩
    ·omega
    rcases h3' with h0|⟨b',off',rfl,hblt',hcl'⟩
    ·omega
    have hkn:(k:Int)<(n:Int):=by omega
    obtain⟨g0,g1,g2,g3,g4⟩:=(hcl k hlt).below hB hblt;obtain⟨p0,p1,p2,p3,p4⟩:=(hcl' k hlt).below hB hblt';clear hcl hcl';by_cases hc:(f k).c=(f' k).c
    ·skip
     by_cases hx:(f k).m.x=(f' k).m.x
     ·skip
      by_cases hy:(f k).m.y=(f' k).m.y
      ·skip
       by_cases hd:(f k).m.d=(f' k).m.d
       ·skip
        by_cases he:(f k).m.e=(f' k).m.e
        ·skip
         have HN:Hid (∀j,j<k+1→(f j).eqB (f' j)=true):=fun j hj=>by
          by_cases hjk:j=k
          ·rw[hjk];simp[T.eqB,M.eqB,hc,hx,hy,hd,he]
          ·exact hok.out j (by omega)
         clear hok;go_wp2_with fail
         go_quiet (fail)
         go_wp2;go_roundw;case rel=>exact⟨k+1,by omega,by go_num,below_drewN hB _,HN⟩
         case measure=>simp[intOf];omega
        ·skip
         have HN:Hid (eF n f n f'=false):=by
          show _=_;simp only[eF,decide_eq_false_iff_not];intro hh;have:=hh.2 k hlt
          simp[T.eqB,M.eqB,he]at this
         clear hok;go_wp2_with fail
         go_quiet (fail)
         go_wp2;go_ret;exact⟨by rw[HN.out];rfl,below_drewN hB _⟩
       ·skip
        have HN:Hid (eF n f n f'=false):=by
         show _=_;simp only[eF,decide_eq_false_iff_not];intro hh;have:=hh.2 k hlt
         simp[T.eqB,M.eqB,hd]at this
        clear hok;go_wp2_with fail
        go_quiet (fail)
        go_wp2;go_ret;exact⟨by rw[HN.out];rfl,below_drewN hB _⟩
      ·skip
       have HN:Hid (eF n f n f'=false):=by
        show _=_;simp only[eF,decide_eq_false_iff_not];intro hh;have:=hh.2 k hlt
        simp[T.eqB,M.eqB,hy]at this
       clear hok;go_wp2_with fail
       go_quiet (fail)
       go_wp2;go_ret;exact⟨by rw[HN.out];rfl,below_drewN hB _⟩
     ·skip
      have HN:Hid (eF n f n f'=false):=by
       show _=_;simp only[eF,decide_eq_false_iff_not];intro hh;have:=hh.2 k hlt
       simp[T.eqB,M.eqB,hx]at this
      clear hok;go_wp2_with fail
      go_quiet (fail)
      go_wp2;go_ret;exact⟨by rw[HN.out];rfl,below_drewN hB _⟩
    ·skip
     have HN:Hid (eF n f n f'=false):=by
      show _=_;simp only[eF,decide_eq_false_iff_not];intro hh;have:=hh.2 k hlt
      simp[T.eqB,M.eqB,hc]at this
     clear hok;go_wp2_with fail
     go_quiet (fail)
     go_wp2;go_ret;exact⟨by rw[HN.out];rfl,below_drewN hB _⟩
   ·have HP:Hid (eF n f n f'=true):=by show _=_;simp only[eF,decide_eq_true_eq];exact⟨trivial,fun i hi=>hok.out i (by omega)⟩
    clear hok;go_wp2;go_ret;exact⟨by rw[HP.out];rfl,hB⟩
 ·have hp:eF n f n' f'=false:=by simp only[eF,decide_eq_false_iff_not];exact fun h=>hnn h.1
  rw[hp];have hb:((n:Int)!=(n':Int))=true:=by simp;omega
  clear hp;go_enter Tryz.func17,Tryz.ntmps17;go_wp2;go_ret;exact⟨rfl,bQ _ _⟩
variable {w:World} {a b:Option Addr} {ca cb:Nat} {L K:List T}
theorem Eo (ha:RL w a ca L) (hb:RL w b cb K):Calls Tryz.prog 17 #[.slice a L.length ca,.slice b K.length cb] w (LE w (.bool (sq L K))):=XV w a b L.length ca K.length cb (lf L) (lf K) ha hb
end Go.Proofs.YtmlaedpamobmhaaGreat
namespace Go.Proofs.YtmlaedpamobmhaaGreat
open Go.RowKit
set_option linter.unusedVariables false
attribute [local go_sem] Oper.semAt_some
end Go.Proofs.YtmlaedpamobmhaaGreat
namespace Go.Proofs.YtmlaedpamobmhaaGreat
open Go.RowKit Go.Deep Go.Joins
set_option linter.unusedVariables false
def jY (K:List T) (q:Nat→T) (lq:Nat) (l:Nat→T) (ll:Nat):Option (List T):=
 if(aS q lq l ll).2=true then(if(wB K (aS q lq l ll).1).2=true then some (wB K (aS q lq l ll).1).1 else none)else none
def jZ (ln1:Nat→Nat) (f1:Nat→Nat→T) (ln2:Nat→Nat) (f2:Nat→Nat→T):Nat→Option (List T)
 |0=>some []
 |i+1=>match jZ ln1 f1 ln2 f2 i with
  |some K=>jY K (f1 i) (ln1 i) (f2 i) (ln2 i)
  |none=>none
def iX (n1:Nat) (ln1:Nat→Nat) (f1:Nat→Nat→T) (n2:Nat) (ln2:Nat→Nat) (f2:Nat→Nat→T):List T×Bool:=if n1=n2∧n2≤12 then iK (jZ ln1 f1 ln2 f2 n2)else([],false)
theorem zF {K:List T} (hK:cM K=true) (q:Nat→T) (lq:Nat) (l:Nat→T) (ll:Nat):((aL lq q=false∨(aL lq q=true∧aL ll l=false))∧aS q lq l ll=([],false)∧jY K q lq l ll=none)∨(aL lq q=true∧aL ll l=true∧cC q l ll lq=none∧aS q lq l ll=([],false)∧jY K q lq l ll=none)∨(∃P,aL lq q=true∧aL ll l=true∧cC q l ll lq=some P∧aS q lq l ll=(P,true)∧cM P=true∧400<(bT K P).length∧wB K P=([],false)∧jY K q lq l ll=none)∨(∃P,aL lq q=true∧aL ll l=true∧cC q l ll lq=some P∧aS q lq l ll=(P,true)∧cM P=true∧(bT K P).length≤400∧wB K P=(bT K P,true)∧jY K q lq l ll=some (bT K P)∧cM (bT K P)=true):=by
 cases h1:aL lq q
 ·have e:aS q lq l ll=([],false):=if_neg (fun hh=>by rw[h1]at hh;simp at hh);exact .inl ⟨.inl rfl,e,by unfold jY;rw[e];rfl⟩
 ·cases h2:aL ll l
  ·have e:aS q lq l ll=([],false):=if_neg (fun hh=>by rw[h2]at hh;simp at hh);exact .inl ⟨.inr ⟨rfl,rfl⟩,e,by unfold jY;rw[e];rfl⟩
  ·have e0:aS q lq l ll=iK (cC q l ll lq):=if_pos ⟨h1,h2⟩;cases hm:cC q l ll lq with
   |none=>
    have e:aS q lq l ll=([],false):=by rw[e0,hm];rfl
    exact .inr (.inl ⟨rfl,rfl,rfl,e,by unfold jY;rw[e];rfl⟩)
   |some P=>
    have e:aS q lq l ll=(P,true):=by rw[e0,hm];rfl
    have hP:cM P=true:=fO (fH _ P hm) (cV (cB h1).2 (cB h2).2 _ P (Nat.le_refl _) hm);by_cases h4:(bT K P).length≤400
    ·have ea:=WY hK hP h4;refine .inr (.inr (.inr ⟨P,rfl,rfl,rfl,e,hP,h4,ea,?_,fO h4 (dD (aF hK).2 (aF hP).2).1⟩));unfold jY;rw[e];show(if(true=true)then(if(wB K P).2=true then some (wB K P).1 else none)else none)=_
     rw[ea];rfl
    ·have ea:wB K P=([],false):=if_neg (fun hh=>h4 hh.2.2);refine .inr (.inr (.inl ⟨P,rfl,rfl,rfl,e,hP,by omega,ea,?_⟩));unfold jY;rw[e];show(if(true=true)then(if(wB K P).2=true then some (wB K P).1 else none)else none)=_
     rw[ea];rfl
theorem rS {ln1:Nat→Nat} {f1:Nat→Nat→T} {ln2:Nat→Nat} {f2:Nat→Nat→T} {i:Nat} (h:jZ ln1 f1 ln2 f2 i=none):∀d,jZ ln1 f1 ln2 f2 (i+d)=none
 |0=>h
 |d+1=>by show(match jZ ln1 f1 ln2 f2 (i+d)with|some K=>jY K (f1 (i+d)) (ln1 (i+d)) (f2 (i+d)) (ln2 (i+d))|none=>none)=none;rw[rS h d]
theorem rT {ln1:Nat→Nat} {f1:Nat→Nat→T} {ln2:Nat→Nat} {f2:Nat→Nat→T} {i:Nat} {K:List T} (h:jZ ln1 f1 ln2 f2 i=some K):jZ ln1 f1 ln2 f2 (i+1)=jY K (f1 i) (ln1 i) (f2 i) (ln2 i):=by show(match jZ ln1 f1 ln2 f2 i with|some K=>jY K (f1 i) (ln1 i) (f2 i) (ln2 i)|none=>none)=_;rw[h]
open Go.RowKit
theorem Ah (L:List T) (hL:∀t∈L,t.m.nn) {m:M} (hm:m.nn):vK (Rp aN L) m=kW (dl m) L:=by
 show su L (fun t=>zz t.c*(mo aN t.m).f (Gw m) 0 0)=su L (fun t=>zz t.c*dl m t.m);refine eO (fun t ht=>?_);have:=ET (hL t ht) hm
 unfold vK at this;rw[this]
theorem XH {L:List T} (hL:aK L) {m:M} (hm:m.ok=true):vK (Rp aN L) m=zz (aM L m):=by rw[←TH hL hm];exact Ah L (fun t ht=>nH (hL.2 t ht).1) (nH hm)
theorem LI {L:List T} (hL:aK L) (h:Rp aN L=Lq.nil):L=[]:=by
 cases L with
 |nil=>rfl
 |cons t r=>
  have ht:=hL.2 t (List.mem_cons_self ..);have h1:=XH hL ht.1
  rw[h,JE,bK]at h1;exact absurd h1.symm (CE ht.2.1 ht.2.2)
theorem YC (o:Int) (a b:M):nU o a b∨a=b∨nU o b a:=by
 by_cases e:a.x=b.x∧a.y=b.y∧a.d=b.d∧a.e=b.e
 ·exact .inr (.inl (oQ e.1 e.2.1 e.2.2.1 e.2.2.2))
 ·unfold nU;generalize kf o a=p;generalize kf o b=q;omega
variable (o:Int) (n:Nat) (L:Nat→List T)
variable {o n L}
theorem rW.cf_top (h:rW o n L) {j:Nat} (hj:j<n) {m:M} (hm:m.nn):vK (Lq.mul (mo aN m) (Rp aN (L j))) (m.sum (fI o L j))=zz (dH o (L j)).c:=by
 have hδ:=iT hm (h.nn hj);rw[xJ,tR (h.falls hj) (h.mem hj) (fun t ht hne=>?_)]
 ·obtain⟨A,h1,h2⟩:=rI aN h.ho hm (h.nn hj);have e:vK (Lq.mul (mo aN m) (mo aN (fI o L j))) (m.sum (fI o L j))=1:=by rw[h2,uF,h1.cf hδ sW,ET hδ hδ];unfold dl;rw[if_pos (dV.2 rfl)];decide
  have e':vK (Lq.mul (mo aN m) (mo aN (dH o (L j)).m)) (m.sum (fI o L j))=1:=e;rw[e']
  grind
 ·have h4:=nH ((h.falls hj).2 t ht).1;obtain⟨A,h1,h2⟩:=rI aN h.ho hm h4;have h3:=yD m (h.top hj ht hne)
  have e:vK (Lq.mul (mo aN m) (mo aN t.m)) (m.sum (fI o L j))=0:=by
   rw[h2,uF,h1.cf hδ (fun q=>sW (mZ q h3)),ET (iT hm h4) hδ];unfold dl;rw[if_neg]
   ·decide
   ·intro q;rw[dV.1 q]at h3;exact sW h3
  rw[e]
  grind
def Tp (o:Int) (n:Nat) (L:Nat→List T) (δ:M) (tp:List (Fq×Nat)):Prop:=∀q∈tp,q.2<n∧M.le (fI o L q.2) δ
theorem Gf {δ δ':M} {tp:List (Fq×Nat)} (h:Tp o n L δ tp) (hd:nU o δ δ'):Lo o n L δ' (tv o L δ tp):=by
 induction tp with
 |nil=>exact Lo.nil
 |cons q r ih=>
  obtain⟨h1,h2⟩:=h q (List.mem_cons_self ..);exact Lo.cons q.1 _ q.2 h1 (lE h2) (by rw[mV];exact hd) (ih (fun s hs=>h s (List.mem_cons_of_mem _ hs)))
def Le (o:Int) (n:Nat) (L:Nat→List T) (δ:M) (A:Lq):Prop:=∃tp B,Tp o n L δ tp∧Lo o n L δ B∧A=Lq.sum (tv o L δ tp) B
theorem Le.lo {δ δ':M} {A:Lq} (h:Le o n L δ A) (hd:nU o δ δ'):Lo o n L δ' A:=by obtain⟨tp,B,h1,h2,rfl⟩:=h;exact(Gf h1 hd).sum (h2.mono (.inl hd))
theorem Lo.max (hL:rW o n L) {δ:M} {A:Lq} (h:Lo o n L δ A):A=Lq.nil∨∃δ',δ'.nn∧nU o δ' δ∧Le o n L δ' A:=by
 induction h with
 |nil=>exact .inl rfl
 |cons c m j h1 h2 h3 h4 ih=>
  have hμ:=iT h2 (hL.nn h1);have hle:M.le (fI o L j) (m.sum (fI o L j)):=by obtain⟨a1,a2,a3,a4⟩:=h2;unfold M.sum;exact⟨by simp only;omega,by simp only;omega,by simp only;omega,by simp only;omega⟩
  have esub:M.sub (m.sum (fI o L j)) (fI o L j)=m:=by unfold M.sub M.sum;refine oQ ?_ ?_ ?_ ?_<;>(simp only;omega)
  right;rcases ih with e|⟨δ',d1,d2,d3⟩
  ·refine⟨_,hμ,h3,[(c,j)],Lq.nil,fun q hq=>?_,Lo.nil,?_⟩
   ·rw[List.mem_singleton.1 hq];exact⟨h1,hle⟩
   ·rw[e];show _=Lq.sum (Lq.sum (Lq.sc c (Lq.mul (mo aN (M.sub (m.sum (fI o L j)) (fI o L j))) (Rp aN (L j)))) Lq.nil) Lq.nil
    rw[esub,Lq.sum_nil,Lq.sum_nil]
  ·rcases YC o (m.sum (fI o L j)) δ' with q|q|q
   ·obtain⟨tp,B,e1,e2,rfl⟩:=d3;refine⟨δ',d1,d2,tp,Lq.sum (Lq.sc c (Lq.mul (mo aN m) (Rp aN (L j)))) B,e1,Lo.cons c m j h1 h2 q e2,?_⟩;rw[←Lq.sum_assoc,Lq.sum_comm _ (tv o L δ' tp),Lq.sum_assoc]
   ·obtain⟨tp,B,e1,e2,rfl⟩:=d3;refine⟨δ',d1,d2,(c,j)::tp,B,fun z hz=>?_,e2,?_⟩
    ·rcases List.mem_cons.1 hz with rfl|hz
     ·exact⟨h1,by rw[←q];exact hle⟩
     ·exact e1 z hz
    ·show _=Lq.sum (Lq.sum (Lq.sc c (Lq.mul (mo aN (M.sub δ' (fI o L j))) (Rp aN (L j)))) (tv o L δ' tp)) B;rw[←q,esub,Lq.sum_assoc]
   ·refine⟨_,hμ,h3,[(c,j)],_,fun z hz=>?_,d3.lo q,?_⟩
    ·rw[List.mem_singleton.1 hz];exact⟨h1,hle⟩
    ·show _=Lq.sum (Lq.sum (Lq.sc c (Lq.mul (mo aN (M.sub (m.sum (fI o L j)) (fI o L j))) (Rp aN (L j)))) Lq.nil) _;rw[esub,Lq.sum_nil]
theorem SZ (c:Fq) (h:c≠0):∃u:Fq,u*c=1:=by
 have key:∀c:Fq,c≠0→∃u:Fq,u*c=1:=by decide+kernel
 exact key c h
def Cl (o:Int) (m:M):Nat×Nat×Nat×Nat×Nat:=((kf o m).toNat,m.d.toNat,m.e.toNat,m.x.toNat,m.y.toNat)
theorem Ar {o:Int} {m:M} (h:m.nn):0≤kf o m:=by
 obtain⟨h1,h2,h3,h4⟩:=h;unfold kf;split
 ·omega
 ·split<;>omega
theorem yG {a b:Nat} (h:a<b):WellFoundedRelation.rel a b:=h
theorem YA {P:M→Prop} (h:∀δ:M,δ.nn→(∀δ':M,δ'.nn→nU o δ' δ→P δ')→P δ):∀δ:M,δ.nn→P δ:=by
 have wf:=(inferInstance:WellFoundedRelation (Nat×Nat×Nat×Nat×Nat)).wf;have key:∀k:Nat×Nat×Nat×Nat×Nat,∀δ:M,δ.nn→Cl o δ=k→P δ:=fun k=>by
  induction k using wf.induction with
  |_ k ih=>
   intro δ hδ hk;refine h δ hδ (fun δ' hn hlt=>ih (Cl o δ') ?_ δ' hn rfl);rw[←hk];have p1:=Ar (o:=o) hδ
   have p2:=Ar (o:=o) hn;obtain⟨q1,q2,q3,q4⟩:=hδ;obtain⟨r1,r2,r3,r4⟩:=hn;unfold nU at hlt;show Prod.Lex _ _ _ _
   unfold Cl;rcases hlt with hlt|⟨e1,hlt⟩
   ·exact Prod.Lex.left _ _ (yG (by omega))
   ·rw[e1];refine Prod.Lex.right _ ?_;show Prod.Lex _ _ _ _
    rcases hlt with hlt|⟨e2,hlt⟩
    ·exact Prod.Lex.left _ _ (yG (by omega))
    ·rw[e2];refine Prod.Lex.right _ ?_;show Prod.Lex _ _ _ _
     rcases hlt with hlt|⟨e3,hlt⟩
     ·exact Prod.Lex.left _ _ (yG (by omega))
     ·rw[e3];refine Prod.Lex.right _ ?_;show Prod.Lex _ _ _ _
      rcases hlt with hlt|⟨e4,hlt⟩
      ·exact Prod.Lex.left _ _ (yG (by omega))
      ·rw[e4];refine Prod.Lex.right _ ?_;exact yG (by omega)
 exact fun δ hδ=>key _ δ hδ rfl
theorem OP (hL:rW o n L) (hP:∀i k,i<k→k<n→xA o n L i k):∀δ:M,δ.nn→∀A,Le o n L δ A→A≠Lq.nil→∃m j,m.nn∧j<n∧M.le (fI o L j) m∧vK A m≠0:=by
 refine YA (o:=o) (P:=fun δ=>∀A,Le o n L δ A→A≠Lq.nil→∃m j,m.nn∧j<n∧M.le (fI o L j) m∧vK A m≠0) (fun δ hδ ih A hA hne=>?_);obtain⟨tp,B,h1,h2,e⟩:=hA;have low:∀A,Lo o n L δ A→A≠Lq.nil→∃m j,m.nn∧j<n∧M.le (fI o L j) m∧vK A m≠0:=fun A hA hne=>by
  rcases hA.max hL with q|⟨δ',d1,d2,d3⟩
  ·exact absurd q hne
  ·exact ih δ' d1 d2 A d3 hne
 have pair':∀i k,i<n→k<n→i≠k→M.le (fI o L i) δ→M.le (fI o L k) δ→∀c:Fq,∃d:Fq,Lo o n L δ (Lq.sum (Lq.sc c (Lq.mul (mo aN (M.sub δ (fI o L i))) (Rp aN (L i)))) (Lq.sc d (Lq.mul (mo aN (M.sub δ (fI o L k))) (Rp aN (L k))))):=fun i k hi hk hik di dk c=>by
  obtain⟨u,hu⟩:=SZ (zz (dH o (L i)).c) (CE (hL.good hi).2.1 (hL.good hi).2.2);obtain⟨v,hv⟩:=SZ (zz (dH o (L k)).c) (CE (hL.good hk).2.1 (hL.good hk).2.2);rcases Nat.lt_or_gt_of_ne hik with q|q
  ·have:=((hP i k q hk).up hL hi hk di dk hu hv).sc (c*zz (dH o (L i)).c);refine⟨c*zz (dH o (L i)).c*-v,?_⟩;rw[Lq.sc_sum,Lq.sc_sc,Lq.sc_sc]at this
   rwa[show c*zz (dH o (L i)).c*u=c from by grind]at this
  ·have:=((hP k i q hi).up hL hk hi dk di hv hu).sc (-(c*zz (dH o (L i)).c));refine⟨-(c*zz (dH o (L i)).c)*v,?_⟩;rw[Lq.sc_sum,Lq.sc_sc,Lq.sc_sc,Lq.sum_comm]at this
   rwa[show -(c*zz (dH o (L i)).c)*-u=c from by grind]at this
 revert A B
 induction htp:tp.length generalizing tp with
 |zero=>
  intro A hne B h2 e;rw[List.length_eq_zero_iff.1 htp]at e;have:A=B:=by rw[e];show Lq.sum Lq.nil B=B;rw[Lq.sum_comm,Lq.sum_nil]
  subst this;exact low A h2 hne
 |succ N iN=>
  intro A hne B h2 e;match tp,htp,h1,e with
  |[(c,j)],_,h1,e=>
   obtain⟨j1,j2⟩:=h1 (c,j) (List.mem_singleton.2 rfl);by_cases hc:c=0
   ·refine iN [] (fun q hq=>by cases hq) (by have:=‹[(c,j)].length=N+1›;simp at this⊢;omega) A hne B h2 ?_;rw[e,hc];show Lq.sum (Lq.sum (Lq.sc 0 _) Lq.nil) B=Lq.sum Lq.nil B
    rw[Lq.sc_zero,Lq.sum_nil]
   ·refine⟨δ,j,hδ,j1,j2,?_⟩;rw[e];show vK (Lq.sum (Lq.sum (Lq.sc c (Lq.mul (mo aN (M.sub δ (fI o L j))) (Rp aN (L j)))) Lq.nil) B) δ≠0
    rw[Lq.sum_nil,uF,SI,h2.cf0 hL hδ];have h5:=hL.cf_top j1 (lE j2)
    rw[mV]at h5;rw[h5];intro q;have q':c*zz (dH o (L j)).c=0:=by grind
    rcases CR _ _ q' with q|q
    ·exact hc q
    ·exact CE (hL.good j1).2.1 (hL.good j1).2.2 q
  |(c,j)::(d,k)::r,hlen,h1,e=>
   obtain⟨j1,j2⟩:=h1 (c,j) (List.mem_cons_self ..);obtain⟨k1,k2⟩:=h1 (d,k) (List.mem_cons_of_mem _ (List.mem_cons_self ..));by_cases hjk:j=k
   ·subst hjk;refine iN ((c+d,j)::r) (fun q hq=>?_) (by simpa using hlen) A hne B h2 ?_
    ·rcases List.mem_cons.1 hq with rfl|hq
     ·exact⟨j1,j2⟩
     ·exact h1 q (List.mem_cons_of_mem _ (List.mem_cons_of_mem _ hq))
    ·rw[e];show Lq.sum (Lq.sum (Lq.sc c _) (Lq.sum (Lq.sc d _) (tv o L δ r))) B=Lq.sum (Lq.sum (Lq.sc (c+d) _) (tv o L δ r)) B
     rw[Lq.sc_add];simp only[Lq.sum_assoc]
   ·obtain⟨d',hd'⟩:=pair' j k j1 k1 hjk j2 k2 c;refine iN ((d-d',k)::r) (fun q hq=>?_) (by simpa using hlen) A hne (Lq.sum (Lq.sum (Lq.sc c (Lq.mul (mo aN (M.sub δ (fI o L j))) (Rp aN (L j)))) (Lq.sc d' (Lq.mul (mo aN (M.sub δ (fI o L k))) (Rp aN (L k))))) B) (hd'.sum h2) ?_
    ·rcases List.mem_cons.1 hq with rfl|hq
     ·exact⟨k1,k2⟩
     ·exact h1 q (List.mem_cons_of_mem _ (List.mem_cons_of_mem _ hq))
    ·rw[e];refine Lq.ext fun w p q=>?_;simp only[tv,NN,ZK]
     grind
end Go.Proofs.YtmlaedpamobmhaaGreat
namespace Go.Proofs.YtmlaedpamobmhaaGreat
open Go.RowKit Go.Deep Go.Joins
set_option linter.unusedVariables false
theorem IP (g:rV) {L q:Nat→List T}:∀n K,jZ (lN q) (fN q) (lN L) (fN L) n=some K→Rp g K=qsum g n L q∧cM K=true
 |0,K,h=>by cases h;exact⟨rfl,jM⟩
 |n+1,K,h=>by
  cases hs:jZ (lN q) (fN q) (lN L) (fN L) n with
  |none=>have:=rS hs 1;rw[this]at h;cases h
  |some K1=>
   rw[rT hs]at h;obtain⟨h1,h2⟩:=IP g n K1 hs;rcases zF h2 (lf (q n)) (q n).length (lf (L n)) (L n).length with⟨_,_,e⟩|⟨_,_,_,_,e⟩|⟨P,_,_,_,_,_,_,_,e⟩|⟨P,_,_,hm,hw,hP,hl,_,e,ho⟩
   ·rw[e]at h;cases h
   ·rw[e]at h;cases h
   ·rw[e]at h;cases h
   ·rw[e]at h;cases h;refine⟨?_,ho⟩;rw[qQ g (aF h2).2 (aF hP).2,h1,qR g (show mA (q n) (L n)=(P,true)from hw)];rfl
theorem QI (g:rV) {L q:Nat→List T} {n:Nat} {K:List T} (h:iX n (lN q) (fN q) n (lN L) (fN L)=(K,true)):Rp g K=qsum g n L q∧cM K=true:=by
 unfold iX at h;split at h
 ·cases hs:jZ (lN q) (fN q) (lN L) (fN L) n with
  |none=>rw[hs]at h;cases h
  |some K1=>
   rw[hs]at h;have:K1=K:=by simpa[iK]using h
   subst this;exact IP g n K1 hs
 ·cases h
theorem VJ {o:Int} {p:List T} {n:Nat} {L:Nat→List T} {S:Dv} (h:bJ o p n (lN L) (fN L)=some S):∀t∈S.r,∀i,i<n→M.dvd (dH o (L i)).m t.m=false:=by
 obtain⟨_,h2,h3,h4⟩:=iS h;refine oG h (fun S=>∀t∈S.r,∀i,i<n→M.dvd (dH o (L i)).m t.m=false) (fun t ht=>by cases ht) (fun u S S' hok h0 hI hs=>?_);rcases nO h3 hok.p h0 hs with⟨k,Y,_,_,_,_,_,rfl⟩|⟨hno,rfl⟩
 ·exact hI
 ·intro t ht i hi;rcases wQ hok.r.1 (fM (iW (o:=o) (aF hok.p).2 h0)) ht with⟨a,ha,e⟩|⟨b,hb,e⟩
  ·rw[←e];exact hI a ha i hi
  ·rw[←e,List.mem_singleton.1 hb];exact hno i hi
def Cr (n:Nat) (L:Nat→List T) (n':Nat) (L':Nat→List T):Bool:=decide (n=n'∧∀i,i<n→sq (L i) (L' i)=true)
theorem TL (n:Nat) (L:Nat→List T):Cr n L n L=true:=decide_eq_true ⟨rfl,fun i _=>wV (L i)⟩
theorem MB {n:Nat} {L:Nat→List T} {n':Nat} {L':Nat→List T}:Cr n L n' L'=true↔n=n'∧∀i,i<n→L i=L' i:=by unfold Cr;rw[decide_eq_true_iff];exact⟨fun h=>⟨h.1,fun i hi=>KR.1 (h.2 i hi)⟩,fun h=>⟨h.1,fun i hi=>KR.2 (h.2 i hi)⟩⟩
theorem TJ {n:Nat} {L:Nat→List T} {n':Nat} {L':Nat→List T} (h:¬(n=n'∧∀i,i<n→L i=L' i)):Cr n L n' L'=false:=by
 cases e:Cr n L n' L'
 ·rfl
 ·exact absurd (MB.1 e) h
theorem XU (w:World) (a a':Option Addr) (n cap n' cap':Nat) (ad ad':Nat→Option Addr) (cp cp':Nat→Nat) (L L':Nat→List T) (h:eJ w a n cap ad (lN L) cp (fN L)) (h':eJ w a' n' cap' ad' (lN L') cp' (fN L')):Calls Tryz.prog 14 #[.slice a n cap,.slice a' n' cap'] w (LE w (.bool (Cr n L n' L'))):=by
 have hn:(n:Int)≤140737488351232:=by have:=h.2.1;omega
 have hn':(n':Int)≤140737488351232:=by have:=h'.2.1;omega
 obtain⟨r,hr⟩:∃r,Cr n L n' L'=r:=⟨_,rfl⟩
 rw[hr];have HR:=aA hr
 have HH:=aA h;have HH':=aA h'
 clear h h' hr;unfold LE;by_cases hnn:n=n'
 ·subst hnn;have hne:((n:Int)!=(n:Int))=false:=by simp
  go_enter Tryz.func14,Tryz.ntmps14;go_wp2;go_loopw [5] (fun v wr=>∃i:Nat,i≤n∧v= .int .i64 (i:Int)∧Below w.heap.size w wr∧∀j,j<i→L j=L' j) (fun v _=>n-(intOf v).toNat);case atStart=>exact⟨0,gY _,rfl,bQ _ _,fun j hj=>by omega⟩
  case round=>
   obtain⟨i,hi,rfl,hB,hJ⟩:=hrel;have HJ:=aA hJ
   clear hJ;by_cases hlt:i<n
   ·rcases HH.out.2.2.1 with h0|⟨b,off,rfl,hblt,hcl⟩
    ·omega
    rcases HH'.out.2.2.1 with h0|⟨b',off',rfl,hblt',hcl'⟩
    ·omega
    have hil:(i:Int)<(n:Int):=by omega
    have hbr:b<wr.heap.size:=iZ hblt hB.size;have hbr':b'<wr.heap.size:=iZ hblt' hB.size
    have ne:=cH.there wr;obtain⟨l,hl⟩:∃l,(L i).length=l:=⟨_,rfl⟩
    obtain⟨l',hl'⟩:∃l',(L' i).length=l':=⟨_,rfl⟩
    have g0:wr.cell? ⟨b,off+i,none⟩=some (.slice (ad i) l (cp i)):=(hB.cell (p:=⟨b,off+i,none⟩) hblt).trans (by rw[←hl];exact hcl i hlt);have g1:wr.cell? ⟨b',off'+i,none⟩=some (.slice (ad' i) l' (cp' i)):=(hB.cell (p:=⟨b',off'+i,none⟩) hblt').trans (by rw[←hl'];exact hcl' i hlt)
    have s0:∀u:cH wr,u.1.cell? ⟨b,off+i,none⟩=some (.slice (ad i) l (cp i)):=fun u=>(u.cell hbr).trans g0;have s1:∀u:cH wr,u.1.cell? ⟨b',off'+i,none⟩=some (.slice (ad' i) l' (cp' i)):=fun u=>(u.cell hbr').trans g1
    have HK:=aA ((HH.out.2.2.2 i hlt).below hB);have HK':=aA ((HH'.out.2.2.2 i hlt).below hB)
    have HB:=aA hB;obtain⟨q,hq⟩:∃q,sq (L i) (L' i)=q:=⟨_,rfl⟩
    have HQ:=aA hq;have hcall:∀u:cH wr,Calls Tryz.prog 17 #[.slice (ad i) l (cp i),.slice (ad' i) l' (cp' i)] u.1 fun r w'=>r= .returned (.bool q)∧Below u.1.heap.size u.1 w':=fun u=>by have:=Eo (w:=u.1) (a:=ad i) (ca:=cp i) (L:=L i) (b:=ad' i) (cb:=cp' i) (K:=L' i) (HK.out.below u.2) (HK'.out.below u.2);rw[hq,hl,hl']at this;exact this
    clear hcl hcl' hB g0 g1 hq hl hl';go_wp2_with fail;refine aH (by kernel_rfl) (by kernel_rfl) ?_;repeat(go_big_quiet_step (first|(go_at_call 17;exact aJ (hcall _))|fail))
    refine wpQuiet_nil ?_;rintro _ ⟨v,rfl⟩;have HV:=aA v.2
    clear s0 s1 ne hcall;cases q
    ·have hr:r=false:=by
      rw[←HR.out];refine TJ (fun hh=>?_);have h1:=HQ.out
      rw[hh.2 i hlt,wV]at h1;cases h1
     subst hr;go_wp2;go_ret;exact⟨rfl,aB HB.out HV.out⟩
    ·have he:=KR.1 HQ.out;have HE:=aA he
     clear he;go_wp2;go_roundw
     case rel=>exact⟨i+1,by omega,by go_num,aB HB.out HV.out,fun j hj=>by
      by_cases e:j=i
      ·rw[e];exact HE.out
      ·exact HJ.out j (by omega)⟩
     case measure=>simp[intOf];omega
   ·have hnl:¬(i:Int)<(n:Int):=by omega
    have hr:r=true:=by rw[←HR.out];exact MB.2 ⟨rfl,fun j hj=>HJ.out j (by omega)⟩
    subst hr;go_wp2;go_ret;exact⟨rfl,hB⟩
 ·have hne:((n:Int)!=(n':Int))=true:=by simp;omega
  have hr:r=false:=by rw[←HR.out];exact TJ (fun hh=>hnn hh.1)
  subst hr;go_enter Tryz.func14,Tryz.ntmps14;go_wp2;go_ret;exact⟨rfl,bQ _ _⟩
open Go.RowKit
theorem QC {kf kf':Nat→T} {m j:Nat} (h:∀i,i<m→kf i=kf' i) (hj:j<aT m):mF kf j=mF kf' j:=by obtain⟨h1,h2⟩:=yO hj;unfold mF;rw[h _ (Nat.lt_trans h1 h2),h _ h2]
end Go.Proofs.YtmlaedpamobmhaaGreat
