/-
  What the functions of chapter 3's model return: operators as rows of terms in memory.
-/
import Derived.Test.YtelkehjdfcoeiaaGreatMac
import Derived.ProofKit
import Derived.Deep.OwnRows
import Derived.Lib.SmallJoins
set_option maxHeartbeats 4000000
set_option maxRecDepth 100000
namespace Go.Proofs.YtelkehjdfcoeiaaGreat
open Go.RowKit
set_option linter.unusedVariables false
structure T where
 c:Int
 m:M
def lH (f:Nat→T) (i:Nat):Bool:=decide (1≤(f i).c∧(f i).c≤100)&&(f i).m.ok&&(decide (i=0)||decide (0<M.ord 1 (f (i-1)).m (f i).m))
def aO (n:Nat) (f:Nat→T):Bool:=decide (n≤400∧∀i,i<n→lH f i=true)
def qM (w:World) (b o:Nat) (t:T):Prop:=
 w.cell? ⟨b,o,none⟩=some (.int .i64 t.c)∧w.cell? ⟨b,o+1,none⟩=some (.int .i64 t.m.x)∧w.cell? ⟨b,o+2,none⟩=some (.int .i64 t.m.y)∧w.cell? ⟨b,o+3,none⟩=some (.int .i64 t.m.d)∧w.cell? ⟨b,o+4,none⟩=some (.int .i64 t.m.e)
def Rd (w:World) (a:Option Addr) (n cap:Nat) (f:Nat→T):Prop:=
 n≤cap∧n*40≤140737488351232∧(n=0∨∃b off,a=some ⟨b,off,none⟩∧b<w.heap.size∧∀i,i<n→qM w b (off+i*5) (f i))
theorem qM.below {w w':World} {b o:Nat} {t:T} {B:Nat} (h:qM w b o t) (hb:Below B w w') (hB:b<B):qM w' b o t:=by obtain⟨h0,h1,h2,h3,h4⟩:=h;exact⟨(hb.cell (p:=⟨b,o,none⟩) hB).trans h0,(hb.cell (p:=⟨b,o+1,none⟩) hB).trans h1,(hb.cell (p:=⟨b,o+2,none⟩) hB).trans h2,(hb.cell (p:=⟨b,o+3,none⟩) hB).trans h3,(hb.cell (p:=⟨b,o+4,none⟩) hB).trans h4⟩
theorem Rd.below {w w':World} {a:Option Addr} {n cap:Nat} {f:Nat→T} (h:Rd w a n cap f) (hb:Below w.heap.size w w'):Rd w' a n cap f:=by
 obtain⟨h1,h2,h3⟩:=h;refine⟨h1,h2,?_⟩;rcases h3 with h0|⟨b,off,rfl,hlt,hc⟩
 ·exact .inl h0
 ·exact .inr ⟨b,off,rfl,lB hlt hb.size,fun i hi=>(hc i hi).below hb hlt⟩
theorem nK (w:World) (a:Option Addr) (n cap:Nat) (f:Nat→T) (h:Rd w a n cap f):Calls Tryz.prog 67 #[.slice a n cap] w fun r w'=>r= .returned (.bool (aO n f))∧Below w.heap.size w w':=by
 obtain⟨h1,h2,h3⟩:=h;have hn:(n:Int)≤140737488351232:=by omega
 by_cases hl:n≤400
 ·have hl':(n:Int)≤400:=by omega
  go_enter Tryz.func67,Tryz.ntmps67;go_wp2;go_loopw [3] (fun i wr=>∃k:Nat,k≤n∧i= .int .i64 k∧Below w.heap.size w wr∧∀j,j<k→lH f j=true) (fun i _=>n-(intOf i).toNat);case atStart=>exact⟨0,Nat.zero_le _,rfl,bG _ _,fun j hj=>absurd hj (tD _)⟩
  case round=>
   obtain⟨k,hk,rfl,hB,hok⟩:=hrel;by_cases hlt:k<n
   ·rcases h3 with h0|⟨b,off,rfl,hblt,hcl⟩
    ·omega
    have hkn:(k:Int)<(n:Int):=by omega
    have hbr:b<wr.heap.size:=lB hblt hB.size;have ne:=bZ.there wr
    have hck:=(hcl k hlt).below hB hblt;have s0:∀u:bZ wr,u.1.cell? ⟨b,off+k*5,none⟩=some (.int .i64 (f k).c):=fun u=>(u.cell hbr).trans hck.1
    have s1:∀u:bZ wr,u.1.cell? ⟨b,off+k*5+1,none⟩=some (.int .i64 (f k).m.x):=fun u=>(u.cell hbr).trans hck.2.1;have s2:∀u:bZ wr,u.1.cell? ⟨b,off+k*5+2,none⟩=some (.int .i64 (f k).m.y):=fun u=>(u.cell hbr).trans hck.2.2.1
    have s3:∀u:bZ wr,u.1.cell? ⟨b,off+k*5+3,none⟩=some (.int .i64 (f k).m.d):=fun u=>(u.cell hbr).trans hck.2.2.2.1;have s4:∀u:bZ wr,u.1.cell? ⟨b,off+k*5+4,none⟩=some (.int .i64 (f k).m.e):=fun u=>(u.cell hbr).trans hck.2.2.2.2
    clear hck;have ho:lH f k=(decide (1≤(f k).c∧(f k).c≤100)&&(f k).m.ok&&(decide (k=0)||decide (0<M.ord 1 (f (k-1)).m (f k).m))):=rfl
    have hno:lH f k=false→aO n f=false:=fun hf=>by
     simp only[aO,decide_eq_false_iff_not];intro hh;have:=hh.2 k hlt
     rw[hf]at this;cases this
    by_cases hc:1≤(f k).c∧(f k).c≤100
    ·obtain⟨c1,c2⟩:=hc;cases hm:(f k).m.ok
     ·have HF:Hid (aO n f=false):=hno (by rw[ho,hm];simp);clear hno ho hcl hok;go_wp2_with fail;refine aG (by kernel_rfl) (by kernel_rfl) ?_;repeat(go_big_quiet_step (first|(go_at_call 30;exact lF (cX _ _ _ _ c1 c2))|(go_at_call 105;exact aJ (bM hm _))))
      refine wpQuiet_nil ?_;rintro _ ⟨u,rfl⟩;go_wp2;go_ret;exact⟨by rw[HF.out];rfl,hB.trans (u.2.mono hB.size)⟩
     ·by_cases hk0:k=0
      ·have ht:lH f k=true:=by rw[ho,hm,decide_eq_true (p:=1≤(f k).c∧(f k).c≤100) ⟨c1,c2⟩,decide_eq_true hk0];rfl
       have hok':Hid (∀j,j<k+1→lH f j=true):=fun j hj=>by
        by_cases hjk:j=k
        ·rw[hjk];exact ht
        ·exact hok j (by omega)
       have dk:decide (0<k)=false:=decide_eq_false (by omega);clear hno ho hcl hok ht hk0;go_wp2_with fail;refine aG (by kernel_rfl) (by kernel_rfl) ?_;repeat(go_big_quiet_step (first|(go_at_call 30;exact lF (cX _ _ _ _ c1 c2))|(go_at_call 105;exact aJ (bM hm _))))
       refine wpQuiet_nil ?_;rintro _ ⟨u,rfl⟩;go_wp2;go_roundw;case rel=>exact⟨k+1,by omega,by go_num,hB.trans (u.2.mono hB.size),hok'.out⟩
       case measure=>simp[intOf];omega
      ·have hj:k-1<n:=by omega
       have hcj:=(hcl (k-1) hj).below hB hblt;have p1:∀u:bZ wr,u.1.cell? ⟨b,off+(k-1)*5+1,none⟩=some (.int .i64 (f (k-1)).m.x):=fun u=>(u.cell hbr).trans hcj.2.1
       have p2:∀u:bZ wr,u.1.cell? ⟨b,off+(k-1)*5+2,none⟩=some (.int .i64 (f (k-1)).m.y):=fun u=>(u.cell hbr).trans hcj.2.2.1;have p3:∀u:bZ wr,u.1.cell? ⟨b,off+(k-1)*5+3,none⟩=some (.int .i64 (f (k-1)).m.d):=fun u=>(u.cell hbr).trans hcj.2.2.2.1
       have p4:∀u:bZ wr,u.1.cell? ⟨b,off+(k-1)*5+4,none⟩=some (.int .i64 (f (k-1)).m.e):=fun u=>(u.cell hbr).trans hcj.2.2.2.2;clear hcj;have dk:decide (0<k)=true:=decide_eq_true (by omega)
       have hk1:(0:Int)<(k:Int):=by omega
       have hk2:(k:Int)-1<(n:Int):=by omega
       have hk3:(0:Int)≤(k:Int)-1:=by omega
       by_cases hq:0<M.ord 1 (f (k-1)).m (f k).m
       ·have ht:lH f k=true:=by rw[ho,hm,decide_eq_true (p:=1≤(f k).c∧(f k).c≤100) ⟨c1,c2⟩,decide_eq_true hq];simp
        have hok':Hid (∀j,j<k+1→lH f j=true):=fun j hj=>by
         by_cases hjk:j=k
         ·rw[hjk];exact ht
         ·exact hok j (by omega)
        have dq:decide (M.ord 1 ⟨(f (k-1)).m.x,(f (k-1)).m.y,(f (k-1)).m.d,(f (k-1)).m.e⟩ ⟨(f k).m.x,(f k).m.y,(f k).m.d,(f k).m.e⟩≤0)=false:=decide_eq_false (Int.not_le.2 hq);clear hno ho hcl hok ht hk0 hq;go_wp2_with fail;refine aG (by kernel_rfl) (by kernel_rfl) ?_;repeat(go_big_quiet_step (first|(go_at_call 30;exact lF (cX _ _ _ _ c1 c2))|(go_at_call 105;exact aJ (bM hm _))|(go_at_call 111;exact aJ (RY _ _ _ _ _ _ _ _ _))))
        refine wpQuiet_nil ?_;rintro _ ⟨u,rfl⟩;go_wp2;go_roundw;case rel=>exact⟨k+1,by omega,by go_num,hB.trans (u.2.mono hB.size),hok'.out⟩
        case measure=>simp[intOf];omega
       ·have HF:Hid (aO n f=false):=hno (by rw[ho,hm];simp[hk0,hq]);have dq:decide (M.ord 1 ⟨(f (k-1)).m.x,(f (k-1)).m.y,(f (k-1)).m.d,(f (k-1)).m.e⟩ ⟨(f k).m.x,(f k).m.y,(f k).m.d,(f k).m.e⟩≤0)=true:=decide_eq_true (Int.not_lt.1 hq)
        clear hno ho hcl hok hk0 hq;go_wp2_with fail;refine aG (by kernel_rfl) (by kernel_rfl) ?_;repeat(go_big_quiet_step (first|(go_at_call 30;exact lF (cX _ _ _ _ c1 c2))|(go_at_call 105;exact aJ (bM hm _))|(go_at_call 111;exact aJ (RY _ _ _ _ _ _ _ _ _))))
        refine wpQuiet_nil ?_;rintro _ ⟨u,rfl⟩;go_wp2;go_ret;exact⟨by rw[HF.out];rfl,hB.trans (u.2.mono hB.size)⟩
    ·have HF:Hid (aO n f=false):=hno (by rw[ho];simp[hc]);have hc':(f k).c<1∨(1≤(f k).c∧100<(f k).c):=by omega
     clear hc hno ho hcl hok;go_wp2_with fail;refine aG (by kernel_rfl) (by kernel_rfl) ?_;repeat(go_big_quiet_step ((go_at_call 30;exact lF (eC _ _ _ _ hc'))))
     refine wpQuiet_nil ?_;rintro _ ⟨u,rfl⟩;go_wp2;go_ret;exact⟨by rw[HF.out];rfl,hB.trans (u.2.mono hB.size)⟩
   ·go_wp2;go_ret;have hp:aO n f=true:=by simp only[aO,decide_eq_true_eq];exact⟨hl,fun i hi=>hok i (by omega)⟩
    exact⟨by rw[hp];rfl,hB⟩
 ·have hl':(400:Int)<(n:Int):=by omega
  have hp:aO n f=false:=by simp only[aO,decide_eq_false_iff_not];exact fun h=>hl h.1
  rw[hp];go_enter Tryz.func67,Tryz.ntmps67;go_wp2;go_ret;exact⟨rfl,bG _ _⟩
theorem vW {a b:M} (ha:a.ok=true) (hb:b.ok=true):0<M.ord 1 a b↔fI b<fI a:=by
 rw[←xS ha hb];unfold c3;constructor
 ·intro h;split at h
  ·omega
  ·split at h<;>omega
 ·intro h;rw[if_neg (by omega),if_pos h];decide
def iO (c:Int) (m:M):Bool:=decide (1≤c∧c≤100)&&m.ok
theorem PL (c x y d e:Int) (w:World):Calls Tryz.prog 92 #[.int .i64 c,.agg #[.int .i64 x,.int .i64 y,.int .i64 d,.int .i64 e]] w fun r w'=>r= .returned (.bool (iO c ⟨x,y,d,e⟩))∧Below w.heap.size w w':=by
 by_cases h0:c=0
 ·subst h0;have e1:iO 0 ⟨x,y,d,e⟩=false:=by simp[iO]
  rw[e1];go_enter Tryz.func92,Tryz.ntmps92;go_wp2;go_ret;exact⟨rfl,aC w _⟩
 ·have hz:(c !=0)=true:=by simp[h0]
  by_cases hc:0≤c∧c≤100
  ·obtain⟨c1,c2⟩:=hc;have e1:iO c ⟨x,y,d,e⟩=M.ok ⟨x,y,d,e⟩:=by
    have:1≤c∧c≤100:=by omega
    simp[iO,this]
   rw[e1];clear h0 e1;go_enter Tryz.func92,Tryz.ntmps92;go_wp2_with (go_at_call 54;refine(qG _ _ c1 c2).mono ?_;rintro r w' ⟨rfl,rfl⟩);refine(nI _ _ _ _ _).mono ?_;rintro r w1 ⟨rfl,hb⟩;go_wp2;go_ret;exact⟨rfl,aB (aC w _) hb⟩
  ·have hc':c<0∨100<c:=by omega
   have e1:iO c ⟨x,y,d,e⟩=false:=by
    have:¬(1≤c∧c≤100):=by omega
    simp[iO,this]
   rw[e1];clear hc e1 h0;go_enter Tryz.func92,Tryz.ntmps92;go_wp2_with (go_at_call 54;refine(oG _ _ hc').mono ?_;rintro r w' ⟨rfl,rfl⟩);go_ret;exact⟨rfl,aC w _⟩
theorem lC {c x y d e:Int} {b:Bool} (h:iO c ⟨x,y,d,e⟩=b) (w:World):Calls Tryz.prog 92 #[.int .i64 c,.agg #[.int .i64 x,.int .i64 y,.int .i64 d,.int .i64 e]] w fun r w'=>r= .returned (.bool b)∧Below w.heap.size w w':=by rw[←h];exact PL c x y d e w
theorem EX {f:Nat→T} {k:Nat} (h:lH f k=true):iO (f k).c (f k).m=true:=by simp only[lH,Bool.and_eq_true]at h;simp only[iO,Bool.and_eq_true];exact h.1
theorem eW (w:World) (a:Option Addr) (n cap:Nat) (f:Nat→T) (h:Rd w a n cap f):Calls Tryz.prog 52 #[.slice a n cap] w fun r w'=>r= .returned (.bool (aO n f))∧Below w.heap.size w w':=by
 obtain⟨h1,h2,h3⟩:=h;have hn:(n:Int)≤140737488351232:=by omega
 by_cases hl:n≤400
 ·have hl':(n:Int)≤400:=by omega
  go_enter Tryz.func52,Tryz.ntmps52;go_wp2;go_loopw [10] (fun i wr=>∃k:Nat,k≤n∧i= .int .i64 k∧Below w.heap.size w wr∧∀j,j<k→lH f j=true) (fun i _=>n-(intOf i).toNat);case atStart=>exact⟨0,Nat.zero_le _,rfl,bG _ _,fun j hj=>absurd hj (tD _)⟩
  case round=>
   obtain⟨k,hk,rfl,hB,hok⟩:=hrel;by_cases hlt:k<n
   ·rcases h3 with h0|⟨b,off,rfl,hblt,hcl⟩
    ·omega
    have hkn:(k:Int)<(n:Int):=by omega
    have hbr:b<wr.heap.size:=lB hblt hB.size;obtain⟨g0,g1,g2,g3,g4⟩:=(hcl k hlt).below hB hblt;have hno:lH f k=false→aO n f=false:=fun hf=>by
     simp only[aO,decide_eq_false_iff_not];intro hh;have:=hh.2 k hlt
     rw[hf]at this;cases this
    cases ht:iO (f k).c (f k).m
    ·have HF:Hid (aO n f=false):=hno (by
      cases h:lH f k
      ·rfl
      ·rw[EX h]at ht;cases ht)
     clear hno hcl hok;go_wp2_with fail;refine(lC ht _).mono ?_;rintro r w1 ⟨rfl,hb⟩;have HB:=aA (aB (hB.alloc hB.size _) hb)
     clear hb;go_wp2;go_ret;exact⟨by rw[HF.out];rfl,HB.out⟩
    ·have hm:(f k).m.ok=true:=by simp only[iO,Bool.and_eq_true]at ht;exact ht.2
     have HM:=aA hm;have HCL:=aA hcl
     have HOK:=aA hok;have HNO:=aA hno
     clear hcl hok hno hm;go_wp2_with fail;refine(lC ht _).mono ?_;rintro r w1 ⟨rfl,hb⟩;have HB:=aA (aB (hB.alloc hB.size _) hb)
     have hb1:b<w1.heap.size:=by have:=hb.size;simp at this;omega
     have hb2:wr.heap.size<w1.heap.size:=by have:=hb.size;simp at this;omega
     have hq:∀i v,#[Value.int .i64 (f k).c,.int .i64 (f k).m.x,.int .i64 (f k).m.y,.int .i64 (f k).m.d,.int .i64 (f k).m.e][i]? =some v→w1.cell? ⟨wr.heap.size,i,none⟩=some v:=fun i v hv=>by rw[hb.cell (p:=⟨wr.heap.size,i,none⟩) (by simp),World.cell?_alloc_at _ _ _ _ rfl];exact hv
     have ne:=bZ.there w1;have s1:∀u:bZ w1,u.1.cell? ⟨wr.heap.size,1,none⟩=some (.int .i64 (f k).m.x):=fun u=>(u.cell hb2).trans (hq 1 _ rfl)
     have s2:∀u:bZ w1,u.1.cell? ⟨wr.heap.size,2,none⟩=some (.int .i64 (f k).m.y):=fun u=>(u.cell hb2).trans (hq 2 _ rfl);have s3:∀u:bZ w1,u.1.cell? ⟨wr.heap.size,3,none⟩=some (.int .i64 (f k).m.d):=fun u=>(u.cell hb2).trans (hq 3 _ rfl)
     have s4:∀u:bZ w1,u.1.cell? ⟨wr.heap.size,4,none⟩=some (.int .i64 (f k).m.e):=fun u=>(u.cell hb2).trans (hq 4 _ rfl);have HBK:=aA hB
     clear hq hb g0 g1 g2 g3 g4 hB;by_cases hk0:k=0
     ·have ht':lH f k=true:=by simp only[lH,iO,Bool.and_eq_true]at ht⊢;exact⟨ht,by simp[hk0]⟩
      have hok':Hid (∀j,j<k+1→lH f j=true):=fun j hj=>by
       by_cases hjk:j=k
       ·rw[hjk];exact ht'
       ·exact HOK.out j (by omega)
      have dk:decide (0<k)=false:=decide_eq_false (by omega);clear ht' hk0 ht;go_wp2_with fail;refine aG (by kernel_rfl) (by kernel_rfl) ?_;repeat(go_big_quiet_step (fail))
      refine wpQuiet_nil ?_;rintro _ ⟨u,rfl⟩;go_wp2;go_roundw;case rel=>exact⟨k+1,by omega,by go_num,HB.out.trans (u.2.mono HB.out.size),hok'.out⟩
      case measure=>simp[intOf];omega
     ·have hj:k-1<n:=by omega
      have hcj:=((HCL.out (k-1) hj).below HBK.out hblt)
      have hcj1:qM w1 b (off+(k-1)*5) (f (k-1)):=(HCL.out (k-1) hj).below HB.out hblt;have p1:∀u:bZ w1,u.1.cell? ⟨b,off+(k-1)*5+1,none⟩=some (.int .i64 (f (k-1)).m.x):=fun u=>(u.cell hb1).trans hcj1.2.1
      have p2:∀u:bZ w1,u.1.cell? ⟨b,off+(k-1)*5+2,none⟩=some (.int .i64 (f (k-1)).m.y):=fun u=>(u.cell hb1).trans hcj1.2.2.1;have p3:∀u:bZ w1,u.1.cell? ⟨b,off+(k-1)*5+3,none⟩=some (.int .i64 (f (k-1)).m.d):=fun u=>(u.cell hb1).trans hcj1.2.2.2.1
      have p4:∀u:bZ w1,u.1.cell? ⟨b,off+(k-1)*5+4,none⟩=some (.int .i64 (f (k-1)).m.e):=fun u=>(u.cell hb1).trans hcj1.2.2.2.2;have hmp:(f (k-1)).m.ok=true:=by have:=EX (HOK.out (k-1) (by omega));simp only[iO,Bool.and_eq_true]at this;exact this.2
      have HMP:=aA hmp;clear hcj hcj1;have dk:decide (0<k)=true:=decide_eq_true (by omega)
      have hk1:(0:Int)<(k:Int):=by omega
      have hk2:(k:Int)-1<(n:Int):=by omega
      have hk3:(0:Int)≤(k:Int)-1:=by omega
      by_cases hq:fI (f k).m<fI (f (k-1)).m
      ·have ht':lH f k=true:=by simp only[lH,iO,Bool.and_eq_true]at ht⊢;exact⟨ht,by rw[decide_eq_true ((vW hmp HM.out).2 hq)];simp⟩
       have hok':Hid (∀j,j<k+1→lH f j=true):=fun j hj=>by
        by_cases hjk:j=k
        ·rw[hjk];exact ht'
        ·exact HOK.out j (by omega)
       have dq:decide (fI ⟨(f (k-1)).m.x,(f (k-1)).m.y,(f (k-1)).m.d,(f (k-1)).m.e⟩≤fI ⟨(f k).m.x,(f k).m.y,(f k).m.d,(f k).m.e⟩)=false:=decide_eq_false (Int.not_le.2 hq);clear ht' hk0 ht hq hmp;go_wp2_with fail;refine aG (by kernel_rfl) (by kernel_rfl) ?_;repeat(go_big_quiet_step (first|(go_at_call 93;exact aJ (gA _ _ _ _ _ HMP.out))|(go_at_call 93;exact aJ (gA _ _ _ _ _ HM.out))))
       refine wpQuiet_nil ?_;rintro _ ⟨u,rfl⟩;go_wp2;go_roundw;case rel=>exact⟨k+1,by omega,by go_num,HB.out.trans (u.2.mono HB.out.size),hok'.out⟩
       case measure=>simp[intOf];omega
      ·have HF:Hid (aO n f=false):=HNO.out (by
        cases hx:lH f k
        ·rfl
        ·exfalso;simp only[lH,Bool.and_eq_true,Bool.or_eq_true,decide_eq_true_eq]at hx;rcases hx.2 with h0|h0
         ·exact hk0 h0
         ·exact hq ((vW hmp HM.out).1 h0))
       have dq:decide (fI ⟨(f (k-1)).m.x,(f (k-1)).m.y,(f (k-1)).m.d,(f (k-1)).m.e⟩≤fI ⟨(f k).m.x,(f k).m.y,(f k).m.d,(f k).m.e⟩)=true:=decide_eq_true (Int.not_lt.1 hq);clear hk0 ht hq hmp;go_wp2_with fail;refine aG (by kernel_rfl) (by kernel_rfl) ?_;repeat(go_big_quiet_step (first|(go_at_call 93;exact aJ (gA _ _ _ _ _ HMP.out))|(go_at_call 93;exact aJ (gA _ _ _ _ _ HM.out))))
       refine wpQuiet_nil ?_;rintro _ ⟨u,rfl⟩;go_wp2;go_ret;exact⟨by rw[HF.out];rfl,HB.out.trans (u.2.mono HB.out.size)⟩
   ·go_wp2;go_ret;have hp:aO n f=true:=by simp only[aO,decide_eq_true_eq];exact⟨hl,fun i hi=>hok i (by omega)⟩
    exact⟨by rw[hp];rfl,hB⟩
 ·have hl':(400:Int)<(n:Int):=by omega
  have hp:aO n f=false:=by simp only[aO,decide_eq_false_iff_not];exact fun h=>hl h.1
  rw[hp];go_enter Tryz.func52,Tryz.ntmps52;go_wp2;go_ret;exact⟨rfl,bG _ _⟩
def M4 (w:World) (b:Nat) (x y d e:Int):Prop:=
 w.cell? ⟨b,0,none⟩=some (.int .i64 x)∧w.cell? ⟨b,1,none⟩=some (.int .i64 y)∧w.cell? ⟨b,2,none⟩=some (.int .i64 d)∧w.cell? ⟨b,3,none⟩=some (.int .i64 e)
theorem M4.lt {w:World} {b:Nat} {x y d e:Int} (h:M4 w b x y d e):b<w.heap.size:=dD w _ h.1
theorem M4.below {w w':World} {b:Nat} {x y d e:Int} (h:M4 w b x y d e) (hb:Below w.heap.size w w'):M4 w' b x y d e:=
 ⟨(hb.cell (p:=⟨b,0,none⟩) h.lt).trans h.1,(hb.cell (p:=⟨b,1,none⟩) h.lt).trans h.2.1,(hb.cell (p:=⟨b,2,none⟩) h.lt).trans h.2.2.1,(hb.cell (p:=⟨b,3,none⟩) h.lt).trans h.2.2.2⟩
theorem M4.box (w:World) (t:TypeId) (x y d e:Int):M4 (w.alloc (.cells #[.int .i64 x,.int .i64 y,.int .i64 d,.int .i64 e] t)) w.heap.size x y d e:=
 ⟨by rw[World.cell?_alloc_at _ _ _ _ rfl];rfl,by rw[World.cell?_alloc_at _ _ _ _ rfl];rfl,by rw[World.cell?_alloc_at _ _ _ _ rfl];rfl,by rw[World.cell?_alloc_at _ _ _ _ rfl];rfl⟩
theorem M4.drew' {w:World} {b:Nat} {x y d e:Int} (h:M4 w b x y d e):M4 w.drew b x y d e:=h.below (bG _ _).drew
theorem M4.grown {w w':World} {b:Nat} {x y d e:Int} {row:Option Nat} (h:M4 w b x y d e) (hg:w.grownBy w' row) (hne:some b≠row):M4 w' b x y d e:=by have he:=hg.block b h.lt hne;exact⟨(lM (w:=w) (a:=⟨b,0,none⟩) he).trans h.1,(lM (w:=w) (a:=⟨b,1,none⟩) he).trans h.2.1,(lM (w:=w) (a:=⟨b,2,none⟩) he).trans h.2.2.1,(lM (w:=w) (a:=⟨b,3,none⟩) he).trans h.2.2.2⟩
theorem M4.alloc {w:World} {b:Nat} {x y d e:Int} (h:M4 w b x y d e) (o:Obj):M4 (w.alloc o) b x y d e:=h.below ((bG _ _).alloc (Nat.le_refl _) _)
open Go.RowKit Go.Deep Go.Joins
def M.eqB (a b:M):Bool:=decide (a.x=b.x∧a.y=b.y∧a.d=b.d∧a.e=b.e)
theorem M.eqB_iff {a b:M}:a.eqB b=true↔a=b:=by cases a;cases b;simp[M.eqB]
theorem cB {n B o0 o1 o2 o3 o4:Nat} {a w:World} (h:Below n a w) (hB:n≤B) (u0 u1 u2 u3 u4:Value):Below n a (((((w.setCell ⟨B,o0,none⟩ u0).setCell ⟨B,o1,none⟩ u1).setCell ⟨B,o2,none⟩ u2).setCell ⟨B,o3,none⟩ u3).setCell ⟨B,o4,none⟩ u4):=
 ((((h.setCell hB u0).setCell hB u1).setCell hB u2).setCell hB u3).setCell hB u4
def cf (f:Nat→T) (j:Nat):Value:=if j%5=0 then .int .i64 (f (j / 5)).c else if j%5=1 then .int .i64 (f (j / 5)).m.x else if j%5=2 then .int .i64 (f (j / 5)).m.y else if j%5=3 then .int .i64 (f (j / 5)).m.d else .int .i64 (f (j / 5)).m.e
theorem cf0 (f:Nat→T) (i:Nat):cf f (i*5)= .int .i64 (f i).c:=by unfold cf;rw[if_pos (by omega),show i*5 / 5=i by omega]
theorem WU (f:Nat→T) (i:Nat):cf f (i*5+1)= .int .i64 (f i).m.x:=by unfold cf;rw[if_neg (by omega),if_pos (by omega),show(i*5+1) / 5=i by omega]
theorem WV (f:Nat→T) (i:Nat):cf f (i*5+2)= .int .i64 (f i).m.y:=by unfold cf;rw[if_neg (by omega),if_neg (by omega),if_pos (by omega),show(i*5+2) / 5=i by omega]
theorem Kt (f:Nat→T) (i:Nat):cf f (i*5+3)= .int .i64 (f i).m.d:=by unfold cf;rw[if_neg (by omega),if_neg (by omega),if_neg (by omega),if_pos (by omega),show(i*5+3) / 5=i by omega]
theorem Ku (f:Nat→T) (i:Nat):cf f (i*5+4)= .int .i64 (f i).m.e:=by unfold cf;rw[if_neg (by omega),if_neg (by omega),if_neg (by omega),if_neg (by omega),show(i*5+4) / 5=i by omega]
def Own (w:World) (g n:Nat) (f:Nat→T):Prop:=w.rowIs g 86 (n*5) (cf f)
theorem Own.cells {w:World} {g n:Nat} {f:Nat→T} (h:Own w g n f) {i:Nat} (hi:i<n):qM w g (0+i*5) (f i):=by rw[Nat.zero_add];exact⟨by rw[h.cell (by omega),cf0],by rw[h.cell (by omega),WU],by rw[h.cell (by omega),WV],by rw[h.cell (by omega),Kt],by rw[h.cell (by omega),Ku]⟩
theorem Own.rd {w:World} {g n:Nat} {f:Nat→T} (h:Own w g n f) (hn:n*40≤140737488351232):Rd w (some ⟨g,0,none⟩) n n f:=
 ⟨Nat.le_refl _,hn,.inr ⟨g,0,rfl,h.lt,fun i hi=>h.cells hi⟩⟩
theorem Own.below {w w':World} {g n B:Nat} {f:Nat→T} (h:Own w g n f) (hb:Below B w w') (hg:g<B):Own w' g n f:=h.of_block (hb.block g hg)
theorem yN:(Tryz.prog.info? 86).map (fun i=>(i.zero,i.size,i.bytes))=some (some (.agg #[.int .i64 0,.int .i64 0,.int .i64 0,.int .i64 0,.int .i64 0]),5,40):=by kernel_rfl
def T.eqB (a b:T):Bool:=decide (a.c=b.c)&&a.m.eqB b.m
theorem T.eqB_iff {a b:T}:a.eqB b=true↔a=b:=by cases a;cases b;simp[T.eqB,M.eqB_iff]
def aR (n:Nat) (f:Nat→T) (n':Nat) (f':Nat→T):Bool:=decide (n=n'∧∀i,i<n→(f i).eqB (f' i)=true)
def Wr (w:World) (a:Option Addr) (n:Nat) (f:Nat→T):Prop:=
 n=0∨∃g off N F,a=some ⟨g,off,none⟩∧w.rowIs g 86 N F∧off+n*5≤N∧∀j,j<n*5→F (off+j)=cf f j
def mk (k:Int) (i:Nat):T:=⟨k+5*i,⟨k+5*i+1,k+5*i+2,k+5*i+3,k+5*i+4⟩⟩
theorem ON (w:World) (r:Option Nat):w.grownBy w r:=⟨rfl,rfl,rfl,Nat.le_refl _,fun _ _ _=>rfl⟩
end Go.Proofs.YtelkehjdfcoeiaaGreat
