/-
  An operator is its numbers: two lists of terms that fall, with the same numbers, are one.
  The four cells of a monomial.
  Monomials that come in, are copied and are held against each other.
-/
import Derived.Test.YtncffcaabnjioaaGreatMBaa
import Derived.Test.YtncffcaabnjioaaGreatMDaa
import Derived.Test.YtncffcaabnjioaaGreatMbp
set_option maxHeartbeats 4000000
set_option maxRecDepth 100000
namespace Go.Proofs.YtncffcaabnjioaaGreat
open Go.RowKit
set_option linter.unusedVariables false
open Go.RowKit Go.Deep Go.Joins
def M.eqB (a b:M):Bool:=decide (a.x=b.x∧a.y=b.y∧a.d=b.d∧a.e=b.e)
theorem M.eqB_iff {a b:M}:a.eqB b=true↔a=b:=by cases a;cases b;simp[M.eqB]
end Go.Proofs.YtncffcaabnjioaaGreat
namespace Go.Proofs.YtncffcaabnjioaaGreat
open Go.RowKit
set_option linter.unusedVariables false
def T.eqB (a b:T):Bool:=decide (a.c=b.c)&&a.m.eqB b.m
theorem T.eqB_iff {a b:T}:a.eqB b=true↔a=b:=by cases a;cases b;simp[T.eqB,M.eqB_iff]
def dR (n:Nat) (f:Nat→T) (n':Nat) (f':Nat→T):Bool:=decide (n=n'∧∀i,i<n→(f i).eqB (f' i)=true)
theorem BR (n:Nat) (f:Nat→T):dR n f n f=true:=by simp only[dR,decide_eq_true_eq];exact⟨trivial,fun i _=>T.eqB_iff.2 rfl⟩
def sq (L K:List T):Bool:=dR L.length (lf L) K.length (lf K)
theorem JK (L:List T):sq L L=true:=BR _ _
theorem YC {L K:List T}:sq L K=true↔L=K:=by
 constructor
 ·intro ht;simp only[sq,dR,decide_eq_true_eq]at ht;refine List.ext_getElem ht.1 (fun i h1 h2=>?_);have:=ht.2 i h1
  rw[iA h1,iA h2]at this;exact T.eqB_iff.1 this
 ·intro h;rw[h];exact JK K
theorem TY (w:World) (a a':Option Addr) (n cap n' cap':Nat) (f f':Nat→T) (h:Rd w a n cap f) (h':Rd w a' n' cap' f'):Calls Tryz.prog 19 #[.slice a n cap,.slice a' n' cap'] w fun r w'=>r= .returned (.bool (dR n f n' f'))∧Below w.heap.size w w':=by
 obtain⟨h1,h2,h3⟩:=h;obtain⟨h1',h2',h3'⟩:=h';have hn:(n:Int)≤140737488351232:=by omega
 have hn':(n':Int)≤140737488351232:=by omega
 by_cases hnn:n=n'
 ·subst hnn;go_enter Tryz.func19,Tryz.ntmps19;go_wp2;go_loopw [5] (fun i wr=>∃(k:Nat),k≤n∧i= .int .i64 k∧Below w.heap.size w wr∧Hid (∀j,j<k→(f j).eqB (f' j)=true)) (fun i _=>n-(intOf i).toNat);case atStart=>exact⟨0,gL _,rfl,cE _ _,fun j hj=>absurd hj (MY _)⟩
  case round=>
   obtain⟨k,hk,rfl,hB,hok⟩:=hrel;by_cases hlt:k<n
   ·rcases h3 with h0|⟨b,off,rfl,hblt,hcl⟩
    ·omega
    rcases h3' with h0|⟨b',off',rfl,hblt',hcl'⟩
    ·omega
    have hkn:(k:Int)<(n:Int):=by omega
    obtain⟨g0,g1,g2,g3,g4⟩:=(hcl k hlt).below hB hblt;obtain⟨p0,p1,p2,p3,p4⟩:=(hcl' k hlt).below hB hblt';clear hcl hcl';by_cases hc:(f k).c=(f' k).c
    ·skip
     by_cases hx:(f k).m.x=(f' k).m.x
     ·skip
      by_cases hy:(f k).m.y=(f' k).m.y
      ·skip
       by_cases hd:(f k).m.d=(f' k).m.d
       ·skip
        by_cases he:(f k).m.e=(f' k).m.e
        ·skip
         have HN:Hid (∀j,j<k+1→(f j).eqB (f' j)=true):=fun j hj=>by
          by_cases hjk:j=k
          ·rw[hjk];simp[T.eqB,M.eqB,hc,hx,hy,hd,he]
          ·exact hok.out j (by omega)
         clear hok;go_wp2_with fail
         go_quiet (fail)
         go_wp2;go_roundw;case rel=>exact⟨k+1,by omega,by go_num,below_drewN hB _,HN⟩
         case measure=>simp[intOf];omega
        ·skip
         have HN:Hid (dR n f n f'=false):=by
          show _=_;simp only[dR,decide_eq_false_iff_not];intro hh;have:=hh.2 k hlt
          simp[T.eqB,M.eqB,he]at this
         clear hok;go_wp2_with fail
         go_quiet (fail)
         go_wp2;go_ret;exact⟨by rw[HN.out];rfl,below_drewN hB _⟩
       ·skip
        have HN:Hid (dR n f n f'=false):=by
         show _=_;simp only[dR,decide_eq_false_iff_not];intro hh;have:=hh.2 k hlt
         simp[T.eqB,M.eqB,hd]at this
        clear hok;go_wp2_with fail
        go_quiet (fail)
        go_wp2;go_ret;exact⟨by rw[HN.out];rfl,below_drewN hB _⟩
      ·skip
       have HN:Hid (dR n f n f'=false):=by
        show _=_;simp only[dR,decide_eq_false_iff_not];intro hh;have:=hh.2 k hlt
        simp[T.eqB,M.eqB,hy]at this
       clear hok;go_wp2_with fail
       go_quiet (fail)
       go_wp2;go_ret;exact⟨by rw[HN.out];rfl,below_drewN hB _⟩
     ·skip
      have HN:Hid (dR n f n f'=false):=by
       show _=_;simp only[dR,decide_eq_false_iff_not];intro hh;have:=hh.2 k hlt
       simp[T.eqB,M.eqB,hx]at this
      clear hok;go_wp2_with fail
      go_quiet (fail)
      go_wp2;go_ret;exact⟨by rw[HN.out];rfl,below_drewN hB _⟩
    ·skip
     have HN:Hid (dR n f n f'=false):=by
      show _=_;simp only[dR,decide_eq_false_iff_not];intro hh;have:=hh.2 k hlt
      simp[T.eqB,M.eqB,hc]at this
     clear hok;go_wp2_with fail
     go_quiet (fail)
     go_wp2;go_ret;exact⟨by rw[HN.out];rfl,below_drewN hB _⟩
   ·have HP:Hid (dR n f n f'=true):=by show _=_;simp only[dR,decide_eq_true_eq];exact⟨trivial,fun i hi=>hok.out i (by omega)⟩
    clear hok;go_wp2;go_ret;exact⟨by rw[HP.out];rfl,hB⟩
 ·have hp:dR n f n' f'=false:=by simp only[dR,decide_eq_false_iff_not];exact fun h=>hnn h.1
  rw[hp];have hb:((n:Int)!=(n':Int))=true:=by simp;omega
  clear hp;go_enter Tryz.func19,Tryz.ntmps19;go_wp2;go_ret;exact⟨rfl,cE _ _⟩
variable {w:World} {a b:Option Addr} {ca cb:Nat} {L K:List T}
theorem BN (ha:RL w a ca L) (hb:RL w b cb K):Calls Tryz.prog 18 #[.slice a L.length ca,.slice b K.length cb] w (zS w (xK L K)):=
 (JB w a b L.length ca K.length cb (lf L) (lf K) ha hb).mono fun _ _ h=>BS h
theorem ZF (ha:RL w a ca L) (hb:RL w b cb K):Calls Tryz.prog 19 #[.slice a L.length ca,.slice b K.length cb] w (YM w (.bool (sq L K))):=TY w a b L.length ca K.length cb (lf L) (lf K) ha hb
end Go.Proofs.YtncffcaabnjioaaGreat
namespace Go.Proofs.YtncffcaabnjioaaGreat
open Go.RowKit
set_option linter.unusedVariables false
attribute [local go_sem] Oper.semAt_some
end Go.Proofs.YtncffcaabnjioaaGreat
namespace Go.Proofs.YtncffcaabnjioaaGreat
open Go.RowKit Go.Deep Go.Joins
set_option linter.unusedVariables false
set_option linter.unusedSimpArgs false
section
variable {o:Int} {n:Nat} {L:Nat→List T}
theorem nB {p:List T} {S:Dv} (h:aP o p n (lN L) (fN L)=some S):fQ n L (Lq.sum (Rp aI p) (Lq.sc (-1) (Rp aI S.r))):=by
 have e:Lq.sum (Rp aI p) (Lq.sc (-1) (Rp aI S.r))=qsum aI n L S.q:=by
  rw[←lC aI h];refine Lq.ext fun u a b=>?_;simp only[xL,GH]
  grind
 rw[e];exact wX h
theorem JW.tell (hB:JW o n L) {p q:List T} {S S':Dv} (h:aP o p n (lN L) (fN L)=some S) (h':aP o q n (lN L) (fN L)=some S') (hi:fQ n L (Rp aI (cQ p q))):S.r=S'.r:=by
 obtain⟨ho,hp,hl,_⟩:=dS h;obtain⟨_,hq,_,_⟩:=dS h';have f1:=(dT h).1.r.1
 have f2:=(dT h').1.r.1;refine(uO f1 f2).1 (hB.free (wL ho hl) (cJ f1 f2).1 ?_ (fun t ht i hi=>?_))
 ·have e:Rp aI (cQ S.r S'.r)=Lq.sum (Lq.sum (Rp aI (cQ p q)) (Lq.sc (-1) (Lq.sum (Rp aI p) (Lq.sc (-1) (Rp aI S.r))))) (Lq.sum (Rp aI q) (Lq.sc (-1) (Rp aI S'.r))):=by
   rw[oI aI f1 f2,oI aI (aE hp).2 (aE hq).2,JU];refine Lq.ext fun u a b=>?_;simp only[xL,GH]
   grind
  rw[e];exact(hi.sum ((nB h).sc _)).sum (nB h')
 ·rcases AM f1 f2 ht with⟨a,ha,e⟩|⟨a,ha,e⟩
  ·rw[←e];exact xA h a ha i hi
  ·rw[←e];exact xA h' a ha i hi
theorem JX {p q:List T} {S S':Dv} (h:aP o p n (lN L) (fN L)=some S) (h':aP o q n (lN L) (fN L)=some S') (he:S.r=S'.r):fQ n L (Rp aI (cQ p q)):=by
 obtain⟨ho,hp,hl,_⟩:=dS h;obtain⟨_,hq,_,_⟩:=dS h';have e:Rp aI (cQ p q)=Lq.sum (Lq.sum (Rp aI p) (Lq.sc (-1) (Rp aI S.r))) (Lq.sc (-1) (Lq.sum (Rp aI q) (Lq.sc (-1) (Rp aI S'.r)))):=by
  rw[oI aI (aE hp).2 (aE hq).2,JU,he];refine Lq.ext fun u a b=>?_;simp only[xL,GH]
  grind
 rw[e];exact(nB h).sum ((nB h').sc _)
end
end Go.Proofs.YtncffcaabnjioaaGreat
namespace Go.Proofs.YtncffcaabnjioaaGreat
open Go.RowKit Go.Deep Go.Joins
set_option linter.unusedVariables false
theorem MR {A B P:List T} (h:xK A B=(P,true)):cT A=true∧cT B=true∧P=cQ A B:=by
 rcases tZ A B with e|⟨h1,h2,_,e⟩
 ·rw[e]at h;cases h
 ·rw[e]at h;cases h;exact⟨h1,h2,rfl⟩
theorem DB {o:Int} {n:Nat} {L:Nat→List T} (hB:JW o n L) {p q d:List T} {S S' D:Dv} (hS:aP o p n (lN L) (fN L)=some S) (hS':aP o q n (lN L) (fN L)=some S') (hd:xK p q=(d,true)) (hD:aP o d n (lN L) (fN L)=some D):nZ (some D)=sq S.r S'.r:=by
 obtain⟨_,_,rfl⟩:=MR hd;by_cases e:S.r=S'.r
 ·rw[e,JK];exact pH (hB.left hD (JX hS hS' e))
 ·rw[show sq S.r S'.r=false by cases h:sq S.r S'.r;rfl;exact absurd (YC.1 h) e];exact vA fun h0=>e (hB.tell hS hS' (yT hD h0))
end Go.Proofs.YtncffcaabnjioaaGreat
