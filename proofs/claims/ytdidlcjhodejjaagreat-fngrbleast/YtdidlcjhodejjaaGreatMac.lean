/-
  What the functions of chapter 3's model return: operators as rows of terms in memory.
-/
import Derived.Test.YtdidlcjhodejjaaGreatMab
import Derived.WalkSmall
import Derived.ProofKit
import Derived.Deep.OwnRows
import Derived.Lib.SmallJoins
import Derived.Deep.AppendLies
import Derived.Deep.Slices
set_option maxHeartbeats 8000000
set_option maxRecDepth 100000
namespace Go.Proofs.YtdidlcjhodejjaaGreat
open Go.RowKit
set_option linter.unusedVariables false
structure T where
 c:Int
 m:M
def mH (f:Nat→T) (i:Nat):Bool:=decide (1≤(f i).c∧(f i).c≤100)&&(f i).m.ok&&(decide (i=0)||decide (0<M.ord 1 (f (i-1)).m (f i).m))
def aN (n:Nat) (f:Nat→T):Bool:=decide (n≤400∧∀i,i<n→mH f i=true)
def pO (w:World) (b o:Nat) (t:T):Prop:=
 w.cell? ⟨b,o,none⟩=some (.int .i64 t.c)∧w.cell? ⟨b,o+1,none⟩=some (.int .i64 t.m.x)∧w.cell? ⟨b,o+2,none⟩=some (.int .i64 t.m.y)∧w.cell? ⟨b,o+3,none⟩=some (.int .i64 t.m.d)∧w.cell? ⟨b,o+4,none⟩=some (.int .i64 t.m.e)
def Rd (w:World) (a:Option Addr) (n cap:Nat) (f:Nat→T):Prop:=
 n≤cap∧n*40≤140737488351232∧(n=0∨∃b off,a=some ⟨b,off,none⟩∧b<w.heap.size∧∀i,i<n→pO w b (off+i*5) (f i))
theorem pO.below {w w':World} {b o:Nat} {t:T} {B:Nat} (h:pO w b o t) (hb:Below B w w') (hB:b<B):pO w' b o t:=by obtain⟨h0,h1,h2,h3,h4⟩:=h;exact⟨(hb.cell (p:=⟨b,o,none⟩) hB).trans h0,(hb.cell (p:=⟨b,o+1,none⟩) hB).trans h1,(hb.cell (p:=⟨b,o+2,none⟩) hB).trans h2,(hb.cell (p:=⟨b,o+3,none⟩) hB).trans h3,(hb.cell (p:=⟨b,o+4,none⟩) hB).trans h4⟩
theorem Rd.below {w w':World} {a:Option Addr} {n cap:Nat} {f:Nat→T} (h:Rd w a n cap f) (hb:Below w.heap.size w w'):Rd w' a n cap f:=by
 obtain⟨h1,h2,h3⟩:=h;refine⟨h1,h2,?_⟩;rcases h3 with h0|⟨b,off,rfl,hlt,hc⟩
 ·exact .inl h0
 ·exact .inr ⟨b,off,rfl,jY hlt hb.size,fun i hi=>(hc i hi).below hb hlt⟩
theorem kI (w:World) (a:Option Addr) (n cap:Nat) (f:Nat→T) (h:Rd w a n cap f):Calls Tryz.prog 65 #[.slice a n cap] w fun r w'=>r= .returned (.bool (aN n f))∧Below w.heap.size w w':=by
 obtain⟨h1,h2,h3⟩:=h;have hn:(n:Int)≤140737488351232:=by omega
 by_cases hl:n≤400
 ·have hl':(n:Int)≤400:=by omega
  go_enter Tryz.func65,Tryz.ntmps65;go_wp2;go_loopw [3] (fun i wr=>∃k:Nat,k≤n∧i= .int .i64 k∧Below w.heap.size w wr∧∀j,j<k→mH f j=true) (fun i _=>n-(intOf i).toNat);case atStart=>exact⟨0,Nat.zero_le _,rfl,bL _ _,fun j hj=>absurd hj (rT _)⟩
  case round=>
   obtain⟨k,hk,rfl,hB,hok⟩:=hrel;by_cases hlt:k<n
   ·rcases h3 with h0|⟨b,off,rfl,hblt,hcl⟩
    ·omega
    have hkn:(k:Int)<(n:Int):=by omega
    have hbr:b<wr.heap.size:=jY hblt hB.size;have ne:=bJ.there wr
    have hck:=(hcl k hlt).below hB hblt;have s0:∀u:bJ wr,u.1.cell? ⟨b,off+k*5,none⟩=some (.int .i64 (f k).c):=fun u=>(u.cell hbr).trans hck.1
    have s1:∀u:bJ wr,u.1.cell? ⟨b,off+k*5+1,none⟩=some (.int .i64 (f k).m.x):=fun u=>(u.cell hbr).trans hck.2.1;have s2:∀u:bJ wr,u.1.cell? ⟨b,off+k*5+2,none⟩=some (.int .i64 (f k).m.y):=fun u=>(u.cell hbr).trans hck.2.2.1
    have s3:∀u:bJ wr,u.1.cell? ⟨b,off+k*5+3,none⟩=some (.int .i64 (f k).m.d):=fun u=>(u.cell hbr).trans hck.2.2.2.1;have s4:∀u:bJ wr,u.1.cell? ⟨b,off+k*5+4,none⟩=some (.int .i64 (f k).m.e):=fun u=>(u.cell hbr).trans hck.2.2.2.2
    clear hck;have ho:mH f k=(decide (1≤(f k).c∧(f k).c≤100)&&(f k).m.ok&&(decide (k=0)||decide (0<M.ord 1 (f (k-1)).m (f k).m))):=rfl
    have hno:mH f k=false→aN n f=false:=fun hf=>by
     simp only[aN,decide_eq_false_iff_not];intro hh;have:=hh.2 k hlt
     rw[hf]at this;cases this
    by_cases hc:1≤(f k).c∧(f k).c≤100
    ·obtain⟨c1,c2⟩:=hc;cases hm:(f k).m.ok
     ·have HF:Hid (aN n f=false):=hno (by rw[ho,hm];simp);clear hno ho hcl hok;go_wp2_with fail;refine aG (by kernel_rfl) (by kernel_rfl) ?_;repeat(go_big_quiet_step (first|(go_at_call 39;exact mF (cQ _ _ _ _ c1 c2))|(go_at_call 108;exact aJ (cD hm _))))
      refine wpQuiet_nil ?_;rintro _ ⟨u,rfl⟩;go_wp2;go_ret;exact⟨by rw[HF.out];rfl,hB.trans (u.2.mono hB.size)⟩
     ·by_cases hk0:k=0
      ·have ht:mH f k=true:=by rw[ho,hm,decide_eq_true (p:=1≤(f k).c∧(f k).c≤100) ⟨c1,c2⟩,decide_eq_true hk0];rfl
       have hok':Hid (∀j,j<k+1→mH f j=true):=fun j hj=>by
        by_cases hjk:j=k
        ·rw[hjk];exact ht
        ·exact hok j (by omega)
       have dk:decide (0<k)=false:=decide_eq_false (by omega);clear hno ho hcl hok ht hk0;go_wp2_with fail;refine aG (by kernel_rfl) (by kernel_rfl) ?_;repeat(go_big_quiet_step (first|(go_at_call 39;exact mF (cQ _ _ _ _ c1 c2))|(go_at_call 108;exact aJ (cD hm _))))
       refine wpQuiet_nil ?_;rintro _ ⟨u,rfl⟩;go_wp2;go_roundw;case rel=>exact⟨k+1,by omega,by go_num,hB.trans (u.2.mono hB.size),hok'.out⟩
       case measure=>simp[intOf];omega
      ·have hj:k-1<n:=by omega
       have hcj:=(hcl (k-1) hj).below hB hblt;have p1:∀u:bJ wr,u.1.cell? ⟨b,off+(k-1)*5+1,none⟩=some (.int .i64 (f (k-1)).m.x):=fun u=>(u.cell hbr).trans hcj.2.1
       have p2:∀u:bJ wr,u.1.cell? ⟨b,off+(k-1)*5+2,none⟩=some (.int .i64 (f (k-1)).m.y):=fun u=>(u.cell hbr).trans hcj.2.2.1;have p3:∀u:bJ wr,u.1.cell? ⟨b,off+(k-1)*5+3,none⟩=some (.int .i64 (f (k-1)).m.d):=fun u=>(u.cell hbr).trans hcj.2.2.2.1
       have p4:∀u:bJ wr,u.1.cell? ⟨b,off+(k-1)*5+4,none⟩=some (.int .i64 (f (k-1)).m.e):=fun u=>(u.cell hbr).trans hcj.2.2.2.2;clear hcj;have dk:decide (0<k)=true:=decide_eq_true (by omega)
       have hk1:(0:Int)<(k:Int):=by omega
       have hk2:(k:Int)-1<(n:Int):=by omega
       have hk3:(0:Int)≤(k:Int)-1:=by omega
       by_cases hq:0<M.ord 1 (f (k-1)).m (f k).m
       ·have ht:mH f k=true:=by rw[ho,hm,decide_eq_true (p:=1≤(f k).c∧(f k).c≤100) ⟨c1,c2⟩,decide_eq_true hq];simp
        have hok':Hid (∀j,j<k+1→mH f j=true):=fun j hj=>by
         by_cases hjk:j=k
         ·rw[hjk];exact ht
         ·exact hok j (by omega)
        have dq:decide (M.ord 1 ⟨(f (k-1)).m.x,(f (k-1)).m.y,(f (k-1)).m.d,(f (k-1)).m.e⟩ ⟨(f k).m.x,(f k).m.y,(f k).m.d,(f k).m.e⟩≤0)=false:=decide_eq_false (Int.not_le.2 hq);clear hno ho hcl hok ht hk0 hq;go_wp2_with fail;refine aG (by kernel_rfl) (by kernel_rfl) ?_;repeat(go_big_quiet_step (first|(go_at_call 39;exact mF (cQ _ _ _ _ c1 c2))|(go_at_call 108;exact aJ (cD hm _))|(go_at_call 82;exact aJ (UV _ _ _ _ _ _ _ _ _))))
        refine wpQuiet_nil ?_;rintro _ ⟨u,rfl⟩;go_wp2;go_roundw;case rel=>exact⟨k+1,by omega,by go_num,hB.trans (u.2.mono hB.size),hok'.out⟩
        case measure=>simp[intOf];omega
       ·have HF:Hid (aN n f=false):=hno (by rw[ho,hm];simp[hk0,hq]);have dq:decide (M.ord 1 ⟨(f (k-1)).m.x,(f (k-1)).m.y,(f (k-1)).m.d,(f (k-1)).m.e⟩ ⟨(f k).m.x,(f k).m.y,(f k).m.d,(f k).m.e⟩≤0)=true:=decide_eq_true (Int.not_lt.1 hq)
        clear hno ho hcl hok hk0 hq;go_wp2_with fail;refine aG (by kernel_rfl) (by kernel_rfl) ?_;repeat(go_big_quiet_step (first|(go_at_call 39;exact mF (cQ _ _ _ _ c1 c2))|(go_at_call 108;exact aJ (cD hm _))|(go_at_call 82;exact aJ (UV _ _ _ _ _ _ _ _ _))))
        refine wpQuiet_nil ?_;rintro _ ⟨u,rfl⟩;go_wp2;go_ret;exact⟨by rw[HF.out];rfl,hB.trans (u.2.mono hB.size)⟩
    ·have HF:Hid (aN n f=false):=hno (by rw[ho];simp[hc]);have hc':(f k).c<1∨(1≤(f k).c∧100<(f k).c):=by omega
     clear hc hno ho hcl hok;go_wp2_with fail;refine aG (by kernel_rfl) (by kernel_rfl) ?_;repeat(go_big_quiet_step ((go_at_call 39;exact mF (eC _ _ _ _ hc'))))
     refine wpQuiet_nil ?_;rintro _ ⟨u,rfl⟩;go_wp2;go_ret;exact⟨by rw[HF.out];rfl,hB.trans (u.2.mono hB.size)⟩
   ·go_wp2;go_ret;have hp:aN n f=true:=by simp only[aN,decide_eq_true_eq];exact⟨hl,fun i hi=>hok i (by omega)⟩
    exact⟨by rw[hp];rfl,hB⟩
 ·have hl':(400:Int)<(n:Int):=by omega
  have hp:aN n f=false:=by simp only[aN,decide_eq_false_iff_not];exact fun h=>hl h.1
  rw[hp];go_enter Tryz.func65,Tryz.ntmps65;go_wp2;go_ret;exact⟨rfl,bL _ _⟩
theorem wU {a b:M} (ha:a.ok=true) (hb:b.ok=true):0<M.ord 1 a b↔fF b<fF a:=by
 rw[←yS ha hb];unfold c3;constructor
 ·intro h;split at h
  ·omega
  ·split at h<;>omega
 ·intro h;rw[if_neg (by omega),if_pos h];decide
def iU (c:Int) (m:M):Bool:=decide (1≤c∧c≤100)&&m.ok
theorem SP (c x y d e:Int) (w:World):Calls Tryz.prog 106 #[.int .i64 c,.agg #[.int .i64 x,.int .i64 y,.int .i64 d,.int .i64 e]] w fun r w'=>r= .returned (.bool (iU c ⟨x,y,d,e⟩))∧Below w.heap.size w w':=by
 by_cases h0:c=0
 ·subst h0;have e1:iU 0 ⟨x,y,d,e⟩=false:=by simp[iU]
  rw[e1];go_enter Tryz.func106,Tryz.ntmps106;go_wp2;go_ret;exact⟨rfl,aC w _⟩
 ·have hz:(c !=0)=true:=by simp[h0]
  by_cases hc:0≤c∧c≤100
  ·obtain⟨c1,c2⟩:=hc;have e1:iU c ⟨x,y,d,e⟩=M.ok ⟨x,y,d,e⟩:=by
    have:1≤c∧c≤100:=by omega
    simp[iU,this]
   rw[e1];clear h0 e1;go_enter Tryz.func106,Tryz.ntmps106;go_wp2_with (go_at_call 71;refine(rC _ _ c1 c2).mono ?_;rintro r w' ⟨rfl,rfl⟩);refine(oG _ _ _ _ _).mono ?_;rintro r w1 ⟨rfl,hb⟩;go_wp2;go_ret;exact⟨rfl,aB (aC w _) hb⟩
  ·have hc':c<0∨100<c:=by omega
   have e1:iU c ⟨x,y,d,e⟩=false:=by
    have:¬(1≤c∧c≤100):=by omega
    simp[iU,this]
   rw[e1];clear hc e1 h0;go_enter Tryz.func106,Tryz.ntmps106;go_wp2_with (go_at_call 71;refine(oU _ _ hc').mono ?_;rintro r w' ⟨rfl,rfl⟩);go_ret;exact⟨rfl,aC w _⟩
theorem lV {c x y d e:Int} {b:Bool} (h:iU c ⟨x,y,d,e⟩=b) (w:World):Calls Tryz.prog 106 #[.int .i64 c,.agg #[.int .i64 x,.int .i64 y,.int .i64 d,.int .i64 e]] w fun r w'=>r= .returned (.bool b)∧Below w.heap.size w w':=by rw[←h];exact SP c x y d e w
theorem GV {f:Nat→T} {k:Nat} (h:mH f k=true):iU (f k).c (f k).m=true:=by simp only[mH,Bool.and_eq_true]at h;simp only[iU,Bool.and_eq_true];exact h.1
theorem eO (w:World) (a:Option Addr) (n cap:Nat) (f:Nat→T) (h:Rd w a n cap f):Calls Tryz.prog 63 #[.slice a n cap] w fun r w'=>r= .returned (.bool (aN n f))∧Below w.heap.size w w':=by
 obtain⟨h1,h2,h3⟩:=h;have hn:(n:Int)≤140737488351232:=by omega
 by_cases hl:n≤400
 ·have hl':(n:Int)≤400:=by omega
  go_enter Tryz.func63,Tryz.ntmps63;go_wp2;go_loopw [10] (fun i wr=>∃k:Nat,k≤n∧i= .int .i64 k∧Below w.heap.size w wr∧∀j,j<k→mH f j=true) (fun i _=>n-(intOf i).toNat);case atStart=>exact⟨0,Nat.zero_le _,rfl,bL _ _,fun j hj=>absurd hj (rT _)⟩
  case round=>
   obtain⟨k,hk,rfl,hB,hok⟩:=hrel;by_cases hlt:k<n
   ·rcases h3 with h0|⟨b,off,rfl,hblt,hcl⟩
    ·omega
    have hkn:(k:Int)<(n:Int):=by omega
    have hbr:b<wr.heap.size:=jY hblt hB.size;obtain⟨g0,g1,g2,g3,g4⟩:=(hcl k hlt).below hB hblt;have hno:mH f k=false→aN n f=false:=fun hf=>by
     simp only[aN,decide_eq_false_iff_not];intro hh;have:=hh.2 k hlt
     rw[hf]at this;cases this
    cases ht:iU (f k).c (f k).m
    ·have HF:Hid (aN n f=false):=hno (by
      cases h:mH f k
      ·rfl
      ·rw[GV h]at ht;cases ht)
     clear hno hcl hok;go_wp2_with fail;refine(lV ht _).mono ?_;rintro r w1 ⟨rfl,hb⟩;have HB:=aA (aB (hB.alloc hB.size _) hb)
     clear hb;go_wp2;go_ret;exact⟨by rw[HF.out];rfl,HB.out⟩
    ·have hm:(f k).m.ok=true:=by simp only[iU,Bool.and_eq_true]at ht;exact ht.2
     have HM:=aA hm;have HCL:=aA hcl
     have HOK:=aA hok;have HNO:=aA hno
     clear hcl hok hno hm;go_wp2_with fail;refine(lV ht _).mono ?_;rintro r w1 ⟨rfl,hb⟩;have HB:=aA (aB (hB.alloc hB.size _) hb)
     have hb1:b<w1.heap.size:=by have:=hb.size;simp at this;omega
     have hb2:wr.heap.size<w1.heap.size:=by have:=hb.size;simp at this;omega
     have hq:∀i v,#[Value.int .i64 (f k).c,.int .i64 (f k).m.x,.int .i64 (f k).m.y,.int .i64 (f k).m.d,.int .i64 (f k).m.e][i]? =some v→w1.cell? ⟨wr.heap.size,i,none⟩=some v:=fun i v hv=>by rw[hb.cell (p:=⟨wr.heap.size,i,none⟩) (by simp),World.cell?_alloc_at _ _ _ _ rfl];exact hv
     have ne:=bJ.there w1;have s1:∀u:bJ w1,u.1.cell? ⟨wr.heap.size,1,none⟩=some (.int .i64 (f k).m.x):=fun u=>(u.cell hb2).trans (hq 1 _ rfl)
     have s2:∀u:bJ w1,u.1.cell? ⟨wr.heap.size,2,none⟩=some (.int .i64 (f k).m.y):=fun u=>(u.cell hb2).trans (hq 2 _ rfl);have s3:∀u:bJ w1,u.1.cell? ⟨wr.heap.size,3,none⟩=some (.int .i64 (f k).m.d):=fun u=>(u.cell hb2).trans (hq 3 _ rfl)
     have s4:∀u:bJ w1,u.1.cell? ⟨wr.heap.size,4,none⟩=some (.int .i64 (f k).m.e):=fun u=>(u.cell hb2).trans (hq 4 _ rfl);have HBK:=aA hB
     clear hq hb g0 g1 g2 g3 g4 hB;by_cases hk0:k=0
     ·have ht':mH f k=true:=by simp only[mH,iU,Bool.and_eq_true]at ht⊢;exact⟨ht,by simp[hk0]⟩
      have hok':Hid (∀j,j<k+1→mH f j=true):=fun j hj=>by
       by_cases hjk:j=k
       ·rw[hjk];exact ht'
       ·exact HOK.out j (by omega)
      have dk:decide (0<k)=false:=decide_eq_false (by omega);clear ht' hk0 ht;go_wp2_with fail;refine aG (by kernel_rfl) (by kernel_rfl) ?_;repeat(go_big_quiet_step (fail))
      refine wpQuiet_nil ?_;rintro _ ⟨u,rfl⟩;go_wp2;go_roundw;case rel=>exact⟨k+1,by omega,by go_num,HB.out.trans (u.2.mono HB.out.size),hok'.out⟩
      case measure=>simp[intOf];omega
     ·have hj:k-1<n:=by omega
      have hcj:=((HCL.out (k-1) hj).below HBK.out hblt)
      have hcj1:pO w1 b (off+(k-1)*5) (f (k-1)):=(HCL.out (k-1) hj).below HB.out hblt;have p1:∀u:bJ w1,u.1.cell? ⟨b,off+(k-1)*5+1,none⟩=some (.int .i64 (f (k-1)).m.x):=fun u=>(u.cell hb1).trans hcj1.2.1
      have p2:∀u:bJ w1,u.1.cell? ⟨b,off+(k-1)*5+2,none⟩=some (.int .i64 (f (k-1)).m.y):=fun u=>(u.cell hb1).trans hcj1.2.2.1;have p3:∀u:bJ w1,u.1.cell? ⟨b,off+(k-1)*5+3,none⟩=some (.int .i64 (f (k-1)).m.d):=fun u=>(u.cell hb1).trans hcj1.2.2.2.1
      have p4:∀u:bJ w1,u.1.cell? ⟨b,off+(k-1)*5+4,none⟩=some (.int .i64 (f (k-1)).m.e):=fun u=>(u.cell hb1).trans hcj1.2.2.2.2;have hmp:(f (k-1)).m.ok=true:=by have:=GV (HOK.out (k-1) (by omega));simp only[iU,Bool.and_eq_true]at this;exact this.2
      have HMP:=aA hmp;clear hcj hcj1;have dk:decide (0<k)=true:=decide_eq_true (by omega)
      have hk1:(0:Int)<(k:Int):=by omega
      have hk2:(k:Int)-1<(n:Int):=by omega
      have hk3:(0:Int)≤(k:Int)-1:=by omega
      by_cases hq:fF (f k).m<fF (f (k-1)).m
      ·have ht':mH f k=true:=by simp only[mH,iU,Bool.and_eq_true]at ht⊢;exact⟨ht,by rw[decide_eq_true ((wU hmp HM.out).2 hq)];simp⟩
       have hok':Hid (∀j,j<k+1→mH f j=true):=fun j hj=>by
        by_cases hjk:j=k
        ·rw[hjk];exact ht'
        ·exact HOK.out j (by omega)
       have dq:decide (fF ⟨(f (k-1)).m.x,(f (k-1)).m.y,(f (k-1)).m.d,(f (k-1)).m.e⟩≤fF ⟨(f k).m.x,(f k).m.y,(f k).m.d,(f k).m.e⟩)=false:=decide_eq_false (Int.not_le.2 hq);clear ht' hk0 ht hq hmp;go_wp2_with fail;refine aG (by kernel_rfl) (by kernel_rfl) ?_;repeat(go_big_quiet_step (first|(go_at_call 103;exact aJ (fZ _ _ _ _ _ HMP.out))|(go_at_call 103;exact aJ (fZ _ _ _ _ _ HM.out))))
       refine wpQuiet_nil ?_;rintro _ ⟨u,rfl⟩;go_wp2;go_roundw;case rel=>exact⟨k+1,by omega,by go_num,HB.out.trans (u.2.mono HB.out.size),hok'.out⟩
       case measure=>simp[intOf];omega
      ·have HF:Hid (aN n f=false):=HNO.out (by
        cases hx:mH f k
        ·rfl
        ·exfalso;simp only[mH,Bool.and_eq_true,Bool.or_eq_true,decide_eq_true_eq]at hx;rcases hx.2 with h0|h0
         ·exact hk0 h0
         ·exact hq ((wU hmp HM.out).1 h0))
       have dq:decide (fF ⟨(f (k-1)).m.x,(f (k-1)).m.y,(f (k-1)).m.d,(f (k-1)).m.e⟩≤fF ⟨(f k).m.x,(f k).m.y,(f k).m.d,(f k).m.e⟩)=true:=decide_eq_true (Int.not_lt.1 hq);clear hk0 ht hq hmp;go_wp2_with fail;refine aG (by kernel_rfl) (by kernel_rfl) ?_;repeat(go_big_quiet_step (first|(go_at_call 103;exact aJ (fZ _ _ _ _ _ HMP.out))|(go_at_call 103;exact aJ (fZ _ _ _ _ _ HM.out))))
       refine wpQuiet_nil ?_;rintro _ ⟨u,rfl⟩;go_wp2;go_ret;exact⟨by rw[HF.out];rfl,HB.out.trans (u.2.mono HB.out.size)⟩
   ·go_wp2;go_ret;have hp:aN n f=true:=by simp only[aN,decide_eq_true_eq];exact⟨hl,fun i hi=>hok i (by omega)⟩
    exact⟨by rw[hp];rfl,hB⟩
 ·have hl':(400:Int)<(n:Int):=by omega
  have hp:aN n f=false:=by simp only[aN,decide_eq_false_iff_not];exact fun h=>hl h.1
  rw[hp];go_enter Tryz.func63,Tryz.ntmps63;go_wp2;go_ret;exact⟨rfl,bL _ _⟩
def M4 (w:World) (b:Nat) (x y d e:Int):Prop:=
 w.cell? ⟨b,0,none⟩=some (.int .i64 x)∧w.cell? ⟨b,1,none⟩=some (.int .i64 y)∧w.cell? ⟨b,2,none⟩=some (.int .i64 d)∧w.cell? ⟨b,3,none⟩=some (.int .i64 e)
theorem M4.lt {w:World} {b:Nat} {x y d e:Int} (h:M4 w b x y d e):b<w.heap.size:=cX w _ h.1
theorem M4.below {w w':World} {b:Nat} {x y d e:Int} (h:M4 w b x y d e) (hb:Below w.heap.size w w'):M4 w' b x y d e:=
 ⟨(hb.cell (p:=⟨b,0,none⟩) h.lt).trans h.1,(hb.cell (p:=⟨b,1,none⟩) h.lt).trans h.2.1,(hb.cell (p:=⟨b,2,none⟩) h.lt).trans h.2.2.1,(hb.cell (p:=⟨b,3,none⟩) h.lt).trans h.2.2.2⟩
theorem M4.box (w:World) (t:TypeId) (x y d e:Int):M4 (w.alloc (.cells #[.int .i64 x,.int .i64 y,.int .i64 d,.int .i64 e] t)) w.heap.size x y d e:=
 ⟨by rw[World.cell?_alloc_at _ _ _ _ rfl];rfl,by rw[World.cell?_alloc_at _ _ _ _ rfl];rfl,by rw[World.cell?_alloc_at _ _ _ _ rfl];rfl,by rw[World.cell?_alloc_at _ _ _ _ rfl];rfl⟩
theorem M4.drew' {w:World} {b:Nat} {x y d e:Int} (h:M4 w b x y d e):M4 w.drew b x y d e:=h.below (bL _ _).drew
theorem M4.grown {w w':World} {b:Nat} {x y d e:Int} {row:Option Nat} (h:M4 w b x y d e) (hg:w.grownBy w' row) (hne:some b≠row):M4 w' b x y d e:=by have he:=hg.block b h.lt hne;exact⟨(mB (w:=w) (a:=⟨b,0,none⟩) he).trans h.1,(mB (w:=w) (a:=⟨b,1,none⟩) he).trans h.2.1,(mB (w:=w) (a:=⟨b,2,none⟩) he).trans h.2.2.1,(mB (w:=w) (a:=⟨b,3,none⟩) he).trans h.2.2.2⟩
theorem M4.alloc {w:World} {b:Nat} {x y d e:Int} (h:M4 w b x y d e) (o:Obj):M4 (w.alloc o) b x y d e:=h.below ((bL _ _).alloc (Nat.le_refl _) _)
theorem cE {n B o0 o1 o2 o3 o4:Nat} {a w:World} (h:Below n a w) (hB:n≤B) (u0 u1 u2 u3 u4:Value):Below n a (((((w.setCell ⟨B,o0,none⟩ u0).setCell ⟨B,o1,none⟩ u1).setCell ⟨B,o2,none⟩ u2).setCell ⟨B,o3,none⟩ u3).setCell ⟨B,o4,none⟩ u4):=
 ((((h.setCell hB u0).setCell hB u1).setCell hB u2).setCell hB u3).setCell hB u4
def cf (f:Nat→T) (j:Nat):Value:=if j%5=0 then .int .i64 (f (j / 5)).c else if j%5=1 then .int .i64 (f (j / 5)).m.x else if j%5=2 then .int .i64 (f (j / 5)).m.y else if j%5=3 then .int .i64 (f (j / 5)).m.d else .int .i64 (f (j / 5)).m.e
theorem cf0 (f:Nat→T) (i:Nat):cf f (i*5)= .int .i64 (f i).c:=by unfold cf;rw[if_pos (by omega),show i*5 / 5=i by omega]
theorem TP (f:Nat→T) (i:Nat):cf f (i*5+1)= .int .i64 (f i).m.x:=by unfold cf;rw[if_neg (by omega),if_pos (by omega),show(i*5+1) / 5=i by omega]
theorem TR (f:Nat→T) (i:Nat):cf f (i*5+2)= .int .i64 (f i).m.y:=by unfold cf;rw[if_neg (by omega),if_neg (by omega),if_pos (by omega),show(i*5+2) / 5=i by omega]
theorem Lm (f:Nat→T) (i:Nat):cf f (i*5+3)= .int .i64 (f i).m.d:=by unfold cf;rw[if_neg (by omega),if_neg (by omega),if_neg (by omega),if_pos (by omega),show(i*5+3) / 5=i by omega]
theorem Ln (f:Nat→T) (i:Nat):cf f (i*5+4)= .int .i64 (f i).m.e:=by unfold cf;rw[if_neg (by omega),if_neg (by omega),if_neg (by omega),if_neg (by omega),show(i*5+4) / 5=i by omega]
def Own (w:World) (g n:Nat) (f:Nat→T):Prop:=w.rowIs g 42 (n*5) (cf f)
theorem Own.cells {w:World} {g n:Nat} {f:Nat→T} (h:Own w g n f) {i:Nat} (hi:i<n):pO w g (0+i*5) (f i):=by rw[Nat.zero_add];exact⟨by rw[h.cell (by omega),cf0],by rw[h.cell (by omega),TP],by rw[h.cell (by omega),TR],by rw[h.cell (by omega),Lm],by rw[h.cell (by omega),Ln]⟩
theorem Own.rd {w:World} {g n:Nat} {f:Nat→T} (h:Own w g n f) (hn:n*40≤140737488351232):Rd w (some ⟨g,0,none⟩) n n f:=
 ⟨Nat.le_refl _,hn,.inr ⟨g,0,rfl,h.lt,fun i hi=>h.cells hi⟩⟩
theorem Own.below {w w':World} {g n B:Nat} {f:Nat→T} (h:Own w g n f) (hb:Below B w w') (hg:g<B):Own w' g n f:=h.of_block (hb.block g hg)
theorem uG:(Tryz.prog.info? 42).map (fun i=>(i.zero,i.size,i.bytes))=some (some (.agg #[.int .i64 0,.int .i64 0,.int .i64 0,.int .i64 0,.int .i64 0]),5,40):=by kernel_rfl
def Wr (w:World) (a:Option Addr) (n:Nat) (f:Nat→T):Prop:=
 n=0∨∃g off N F,a=some ⟨g,off,none⟩∧w.rowIs g 42 N F∧off+n*5≤N∧∀j,j<n*5→F (off+j)=cf f j
def mk (k:Int) (i:Nat):T:=⟨k+5*i,⟨k+5*i+1,k+5*i+2,k+5*i+3,k+5*i+4⟩⟩
theorem uT (w:World) (r:Option Nat):w.grownBy w r:=⟨rfl,rfl,rfl,Nat.le_refl _,fun _ _ _=>rfl⟩
def T.cells (t:T):List Value:=[.int .i64 t.c,.int .i64 t.m.x,.int .i64 t.m.y,.int .i64 t.m.d,.int .i64 t.m.e]
def aE:List T→List Value
 |[]=>[]
 |t::r=>t.cells++aE r
theorem bK (a b:List T):aE (a++b)=aE a++aE b:=by
 induction a with
 |nil=>rfl
 |cons t r ih=>simp[aE,ih,List.append_assoc]
theorem aX (a:List T):(aE a).length=a.length*5:=by
 induction a with
 |nil=>rfl
 |cons t r ih=>simp[aE,T.cells,ih];omega
theorem dM (t:T):aE [t]=[.int .i64 t.c,.int .i64 t.m.x,.int .i64 t.m.y,.int .i64 t.m.d,.int .i64 t.m.e]:=by simp[aE,T.cells]
def jC (f:Nat→T) (la:Nat) (g:Nat→T) (lb:Nat):Nat→Nat→Nat→List T
 |0,_,_=>[]
 |u+1,i,k=>
  if i<la∧k<lb then
   if 0<M.ord 1 (f i).m (g k).m then f i::jC f la g lb u (i+1) k
   else if M.ord 1 (f i).m (g k).m<0 then g k::jC f la g lb u i (k+1)
   else if((f i).c+(g k).c)%101≠0 then⟨((f i).c+(g k).c)%101,(f i).m⟩::jC f la g lb u (i+1) (k+1)
   else jC f la g lb u (i+1) (k+1)
  else if i<la then f i::jC f la g lb u (i+1) k
  else if k<lb then g k::jC f la g lb u i (k+1)
  else[]
theorem nH (f:Nat→T) (la:Nat) (g:Nat→T) (lb:Nat):∀(u v i k:Nat),la-i+(lb-k)≤u→la-i+(lb-k)≤v→jC f la g lb u i k=jC f la g lb v i k
 |0,0,_,_,_,_=>rfl
 |0,v+1,i,k,h,_=>by simp only[jC];rw[if_neg (by omega),if_neg (by omega),if_neg (by omega)]
 |u+1,0,i,k,_,h=>by simp only[jC];rw[if_neg (by omega),if_neg (by omega),if_neg (by omega)]
 |u+1,v+1,i,k,h,h'=>by
  simp only[jC];by_cases h1:i<la∧k<lb
  ·rw[if_pos h1,if_pos h1,nH f la g lb u v (i+1) k (by omega) (by omega),nH f la g lb u v i (k+1) (by omega) (by omega),nH f la g lb u v (i+1) (k+1) (by omega) (by omega)]
  ·rw[if_neg h1,if_neg h1];by_cases h2:i<la
   ·rw[if_pos h2,if_pos h2,nH f la g lb u v (i+1) k (by omega) (by omega)]
   ·rw[if_neg h2,if_neg h2];by_cases h3:k<lb
    ·rw[if_pos h3,if_pos h3,nH f la g lb u v i (k+1) (by omega) (by omega)]
    ·rw[if_neg h3,if_neg h3]
def iM (f:Nat→T) (la:Nat) (g:Nat→T) (lb:Nat) (i k:Nat):List T:=jC f la g lb (la-i+(lb-k)) i k
theorem TL {f:Nat→T} {la:Nat} {g:Nat→T} {lb i k:Nat} (hi:i<la) (h:¬k<lb∨0<M.ord 1 (f i).m (g k).m):iM f la g lb i k=f i::iM f la g lb (i+1) k:=by
 unfold iM;rw[show la-i+(lb-k)=(la-(i+1)+(lb-k))+1 by omega];simp only[jC];by_cases hk:k<lb
 ·rw[if_pos ⟨hi,hk⟩,if_pos (h.resolve_left (fun h=>h hk))]
 ·rw[if_neg (fun h=>hk h.2),if_pos hi]
theorem TM {f:Nat→T} {la:Nat} {g:Nat→T} {lb i k:Nat} (hk:k<lb) (h:¬i<la∨M.ord 1 (f i).m (g k).m<0):iM f la g lb i k=g k::iM f la g lb i (k+1):=by
 unfold iM;rw[show la-i+(lb-k)=(la-i+(lb-(k+1)))+1 by omega];simp only[jC];by_cases hi:i<la
 ·have h':=h.resolve_left (fun h=>h hi);rw[if_pos ⟨hi,hk⟩,if_neg (by omega),if_pos h']
 ·rw[if_neg (fun h=>hi h.1),if_neg hi,if_pos hk]
theorem TJ {f:Nat→T} {la:Nat} {g:Nat→T} {lb i k:Nat} (hi:i<la) (hk:k<lb) (h:M.ord 1 (f i).m (g k).m=0):iM f la g lb i k=(if((f i).c+(g k).c)%101≠0 then[⟨((f i).c+(g k).c)%101,(f i).m⟩]else[])++iM f la g lb (i+1) (k+1):=by
 unfold iM;rw[show la-i+(lb-k)=(la-i+(lb-k)-1)+1 by omega];simp only[jC];rw[if_pos ⟨hi,hk⟩,if_neg (by omega),if_neg (by omega),nH f la g lb (la-i+(lb-k)-1) (la-(i+1)+(lb-(k+1))) (i+1) (k+1) (by omega) (by omega)];by_cases hc:((f i).c+(g k).c)%101≠0
 ·rw[if_pos hc,if_pos hc];rfl
 ·rw[if_neg hc,if_neg hc];rfl
theorem Ah {f:Nat→T} {la:Nat} {g:Nat→T} {lb i k:Nat} (hi:¬i<la) (hk:¬k<lb):iM f la g lb i k=[]:=by unfold iM;rw[show la-i+(lb-k)=0 by omega];rfl
theorem vQ (f:Nat→T) (la:Nat) (g:Nat→T) (lb:Nat):∀(u i k:Nat),(jC f la g lb u i k).length≤u
 |0,_,_=>by simp[jC]
 |u+1,i,k=>by
  have a1:=vQ f la g lb u (i+1) k;have a2:=vQ f la g lb u i (k+1)
  have a3:=vQ f la g lb u (i+1) (k+1);simp only[jC]
  repeat' split
  all_goals simp
  all_goals omega
theorem BH (f:Nat→T) (la:Nat) (g:Nat→T) (lb i k:Nat):(iM f la g lb i k).length≤la-i+(lb-k):=vQ _ _ _ _ _ _ _
theorem dX (t:T):∀u∈aE [t],u.oneCell'=true:=by rw[dM];intro u hu;simp only[List.mem_cons,List.not_mem_nil,or_false]at hu;rcases hu with rfl|rfl|rfl|rfl|rfl<;>rfl
theorem CG {w w':World} (h:Below w.heap.size w w'):w.grownBy w' none:=⟨h.os,h.tape,h.output,h.size,fun k hk _=>h.block k hk⟩
theorem dC {w w':World} {base:Nat} {e:TypeId} {size:Nat} {v:Value} {n:Nat} {xs:List Value} (h:w.ownsRow base e size v n xs) (hb:Below w.heap.size w w'):w'.ownsRow base e size v n xs:=by
 refine h.kept (CG hb) ?_;cases hv:v.ownBlock with
 |none=>exact .inl rfl
 |some k=>exact .inr (by simp)
theorem sG (w:World) (a b:Option Addr) (la ca lb cb:Nat) (f g:Nat→T) (ha:Rd w a la ca f) (hb:Rd w b lb cb g) (hl:la+lb≤1000000) (hcf:∀i,i<la→0≤(f i).c∧(f i).c≤100) (hcg:∀i,i<lb→0≤(g i).c∧(g i).c≤100):Calls Tryz.prog 85 #[.slice a la ca,.slice b lb cb] w fun r w'=>∃v,r= .returned v∧Below w.heap.size w w'∧w'.ownsRow w.heap.size 42 5 v (iM f la g lb 0 0).length (aE (iM f la g lb 0 0)):=by
 obtain⟨i0,hi0,hz0,hz1,hz2⟩:=info_parts uG;obtain⟨a1,a2,a3⟩:=ha;obtain⟨b1,b2,b3⟩:=hb;have hla:(la:Int)≤1000000:=by omega
 have hlb:(lb:Int)≤1000000:=by omega
 go_enter Tryz.func85,Tryz.ntmps85;go_wp2;go_loopw [5,6,7] (fun v ii kk wr=>∃(i k:Nat) (out:List T),i≤la∧k≤lb∧ii= .int .i64 i∧kk= .int .i64 k∧Below w.heap.size w wr∧wr.ownsRow w.heap.size 42 5 v out.length (aE out)∧out.length≤i+k∧Hid (out++iM f la g lb i k=iM f la g lb 0 0)) (fun _ ii kk _=>(la-(intOf ii).toNat)+(lb-(intOf kk).toNat));case atStart=>exact⟨0,0,[],Nat.zero_le _,Nat.zero_le _,rfl,rfl,(bL _ _).alloc (Nat.le_refl _) _,World.ownsRow_lit _ _ _ (Nat.le_refl _) (Nat.zero_le _) rfl,Nat.zero_le _,rfl⟩
 case round=>
  obtain⟨i,k,out,hi,hk,rfl,rfl,hB,hown,hol,HL⟩:=hrel;by_cases hia:i<la
  ·rcases a3 with h0|⟨ba,oa,rfl,hal,hac⟩
   ·omega
   have hin:(i:Int)<(la:Int):=by omega
   by_cases hkb:k<lb
   ·rcases b3 with h0|⟨bb,ob,rfl,hbl,hbc⟩
    ·omega
    have hkn:(k:Int)<(lb:Int):=by omega
    have hba:ba<wr.heap.size:=jY hal hB.size;have hbb:bb<wr.heap.size:=jY hbl hB.size
    have ne:=bJ.there wr;have hca:=(hac i hia).below hB hal
    have hcb:=(hbc k hkb).below hB hbl;obtain⟨TP,TR⟩:=hcf i hia;obtain⟨cg1,cg2⟩:=hcg k hkb;have ke:((k:Int)==(lb:Int))=false:=by simp;omega
    have ie:((i:Int)==(la:Int))=false:=by simp;omega
    have s0:∀u:bJ wr,u.1.cell? ⟨ba,oa+i*5,none⟩=some (.int .i64 (f i).c):=fun u=>(u.cell hba).trans hca.1;have s1:∀u:bJ wr,u.1.cell? ⟨ba,oa+i*5+1,none⟩=some (.int .i64 (f i).m.x):=fun u=>(u.cell hba).trans hca.2.1
    have s2:∀u:bJ wr,u.1.cell? ⟨ba,oa+i*5+2,none⟩=some (.int .i64 (f i).m.y):=fun u=>(u.cell hba).trans hca.2.2.1;have s3:∀u:bJ wr,u.1.cell? ⟨ba,oa+i*5+3,none⟩=some (.int .i64 (f i).m.d):=fun u=>(u.cell hba).trans hca.2.2.2.1
    have s4:∀u:bJ wr,u.1.cell? ⟨ba,oa+i*5+4,none⟩=some (.int .i64 (f i).m.e):=fun u=>(u.cell hba).trans hca.2.2.2.2;have t0:∀u:bJ wr,u.1.cell? ⟨bb,ob+k*5,none⟩=some (.int .i64 (g k).c):=fun u=>(u.cell hbb).trans hcb.1
    have t1:∀u:bJ wr,u.1.cell? ⟨bb,ob+k*5+1,none⟩=some (.int .i64 (g k).m.x):=fun u=>(u.cell hbb).trans hcb.2.1;have t2:∀u:bJ wr,u.1.cell? ⟨bb,ob+k*5+2,none⟩=some (.int .i64 (g k).m.y):=fun u=>(u.cell hbb).trans hcb.2.2.1
    have t3:∀u:bJ wr,u.1.cell? ⟨bb,ob+k*5+3,none⟩=some (.int .i64 (g k).m.d):=fun u=>(u.cell hbb).trans hcb.2.2.2.1;have t4:∀u:bJ wr,u.1.cell? ⟨bb,ob+k*5+4,none⟩=some (.int .i64 (g k).m.e):=fun u=>(u.cell hbb).trans hcb.2.2.2.2
    have HOW:=aA hown;have HCA:=aA hca
    have HCB:=aA hcb;clear hac hbc hcf hcg hown hca hcb;go_wp2_with fail;refine aG (by kernel_rfl) (by kernel_rfl) ?_;repeat(go_big_quiet_step (first|(go_at_call 82;exact aJ (UV _ _ _ _ _ _ _ _ _))))
    refine wpQuiet_nil ?_;rintro wu ⟨x,hx⟩;have hu:Below wr.heap.size wr wu:=by rw[hx];exact x.2
    clear hx x;have hBu:=hB.trans (hu.mono hB.size)
    have hownu:=dC HOW.out hu;obtain⟨x0,x1,x2,x3,x4⟩:=HCA.out.below hu hba;obtain⟨y0,y1,y2,y3,y4⟩:=HCB.out.below hu hbb;clear s0 s1 s2 s3 s4 t0 t1 t2 t3 t4 HOW HCA HCB hB hu;by_cases hq:0<M.ord 1 (f i).m (g k).m
    ·have dq:decide (0<M.ord 1 ⟨(f i).m.x,(f i).m.y,(f i).m.d,(f i).m.e⟩ ⟨(g k).m.x,(g k).m.y,(g k).m.d,(g k).m.e⟩)=true:=decide_eq_true hq;go_wp2_with (at_builtin;refine wpList_append_lies _ rfl (.tmp 85) (.tmp 90) 45 rfl w.heap.size 42 i0 _ 5 40 Tryz.underlying45 hi0 hz0 hz1 hz2 rfl (by omega) _ out.length (aE out) rfl (hownu.alloc _) ⟨wu.heap.size,0,none⟩ 1 1 (aE [f i]) rfl (by rw[aX];rfl) (by rw[dM];exact World.news_of_block (heap_alloc_new wu _)) (dX _) (by omega) (by unfold maxLen;omega) (by omega) (by have:=hBu.size;simp;omega) _ rfl ?_;intro g0 cap0 w1 hown1 hgrow hat hlt1;have HB:=aA ((hBu.alloc hBu.size _).grown hgrow (jZ hBu.size (by simp)) (fun k hk=>(hownu.lt k hk).1));have HO:=aA hown1;clear hown1 hgrow hat hlt1 hownu);go_roundw
     case rel=>
      refine⟨i+1,k,out++[f i],by omega,by omega,by go_num,by go_num,HB.out,?_,by simp;omega,?_⟩
      ·rw[bK,List.length_append];exact HO.out
      ·show out++[f i]++iM f la g lb (i+1) (k)=_;rw[←HL.out,TL hia (.inr hq),List.append_assoc];rfl
     case measure=>simp[intOf];omega
    ·have dq:decide (0<M.ord 1 ⟨(f i).m.x,(f i).m.y,(f i).m.d,(f i).m.e⟩ ⟨(g k).m.x,(g k).m.y,(g k).m.d,(g k).m.e⟩)=false:=decide_eq_false hq;by_cases hr:M.ord 1 (f i).m (g k).m<0
     ·have dr:decide (M.ord 1 ⟨(f i).m.x,(f i).m.y,(f i).m.d,(f i).m.e⟩ ⟨(g k).m.x,(g k).m.y,(g k).m.d,(g k).m.e⟩<0)=true:=decide_eq_true hr;go_wp2_with (at_builtin;refine wpList_append_lies _ rfl (.tmp 103) (.tmp 108) 45 rfl w.heap.size 42 i0 _ 5 40 Tryz.underlying45 hi0 hz0 hz1 hz2 rfl (by omega) _ out.length (aE out) rfl (hownu.alloc _) ⟨wu.heap.size,0,none⟩ 1 1 (aE [g k]) rfl (by rw[aX];rfl) (by rw[dM];exact World.news_of_block (heap_alloc_new wu _)) (dX _) (by omega) (by unfold maxLen;omega) (by omega) (by have:=hBu.size;simp;omega) _ rfl ?_;intro g0 cap0 w1 hown1 hgrow hat hlt1;have HB:=aA ((hBu.alloc hBu.size _).grown hgrow (jZ hBu.size (by simp)) (fun k hk=>(hownu.lt k hk).1));have HO:=aA hown1;clear hown1 hgrow hat hlt1 hownu);go_roundw
      case rel=>
       refine⟨i,k+1,out++[g k],by omega,by omega,by go_num,by go_num,HB.out,?_,by simp;omega,?_⟩
       ·rw[bK,List.length_append];exact HO.out
       ·show out++[g k]++iM f la g lb (i) (k+1)=_;rw[←HL.out,TM hkb (.inr hr),List.append_assoc];rfl
      case measure=>simp[intOf];omega
     ·have dr:decide (M.ord 1 ⟨(f i).m.x,(f i).m.y,(f i).m.d,(f i).m.e⟩ ⟨(g k).m.x,(g k).m.y,(g k).m.d,(g k).m.e⟩<0)=false:=decide_eq_false hr;have h0:M.ord 1 (f i).m (g k).m=0:=by omega
      have ne2:=bJ.there wu;have bau:ba<wu.heap.size:=jY hal hBu.size
      have bbu:bb<wu.heap.size:=jY hbl hBu.size;have e0:∀u:bJ wu,u.1.cell? ⟨ba,oa+i*5,none⟩=some (.int .i64 (f i).c):=fun u=>(u.cell bau).trans x0
      have e1:∀u:bJ wu,u.1.cell? ⟨bb,ob+k*5,none⟩=some (.int .i64 (g k).c):=fun u=>(u.cell bbu).trans y0;have HX:=aA (show pO wu ba (oa+i*5) (f i)from⟨x0,x1,x2,x3,x4⟩)
      have HOW:=aA hownu;have H0:=aA h0
      have h0':M.ord 1 ⟨(f i).m.x,(f i).m.y,(f i).m.d,(f i).m.e⟩ ⟨(g k).m.x,(g k).m.y,(g k).m.d,(g k).m.e⟩=0:=h0;clear x0 x1 x2 x3 x4 y0 y1 y2 y3 y4 hownu h0 hq hr dq dr;go_wp2_with fail;refine aG (by kernel_rfl) (by kernel_rfl) ?_;repeat(go_big_quiet_step (fail))
      refine wpQuiet_nil ?_;rintro wv ⟨x,hx⟩;have hv:Below wu.heap.size wu wv:=by rw[hx];exact x.2
      clear hx x;have hBv:=hBu.trans (hv.mono hBu.size)
      have hownv:=dC HOW.out hv;obtain⟨z0,z1,z2,z3,z4⟩:=HX.out.below hv bau;clear e0 e1 HX HOW hBu hv;by_cases hc0:((f i).c+(g k).c)%101=0
      ·have HC:=aA hc0;have hcb:(((f i).c+(g k).c)%101 !=0)=false:=by simp[hc0]
       have HO:=aA hownv;clear hc0 hownv;go_wp2;go_roundw
       case rel=>
        refine⟨i+1,k+1,out,by omega,by omega,by go_num,by go_num,hBv,HO.out,by omega,?_⟩;show out++iM f la g lb (i+1) (k+1)=_
        rw[←HL.out,TJ hia hkb H0.out,if_neg (fun h=>h HC.out)];rfl
       case measure=>simp[intOf];omega
      ·have HC:=aA hc0;have hcb:(((f i).c+(g k).c)%101 !=0)=true:=by simp[hc0]
       clear hc0;go_wp2_with (at_builtin;refine wpList_append_lies _ rfl (.tmp 56) (.tmp 64) 45 rfl w.heap.size 42 i0 _ 5 40 Tryz.underlying45 hi0 hz0 hz1 hz2 rfl (by omega) _ out.length (aE out) rfl (hownv.alloc _) ⟨wv.heap.size,0,none⟩ 1 1 (aE [⟨((f i).c+(g k).c)%101,(f i).m⟩]) rfl (by rw[aX];rfl) (by rw[dM];exact World.news_of_block (heap_alloc_new wv _)) (dX _) (by omega) (by unfold maxLen;omega) (by omega) (by have:=hBv.size;simp;omega) _ rfl ?_;intro g0 cap0 w1 hown1 hgrow hat hlt1;have HB:=aA ((hBv.alloc hBv.size _).grown hgrow (jZ hBv.size (by simp)) (fun k hk=>(hownv.lt k hk).1));have HO:=aA hown1;clear hown1 hgrow hat hlt1 hownv);go_roundw
       case rel=>
        refine⟨i+1,k+1,out++[⟨((f i).c+(g k).c)%101,(f i).m⟩],by omega,by omega,by go_num,by go_num,HB.out,?_,by simp;omega,?_⟩
        ·rw[bK,List.length_append];exact HO.out
        ·show out++[⟨((f i).c+(g k).c)%101,(f i).m⟩]++iM f la g lb (i+1) (k+1)=_;rw[←HL.out,TJ hia hkb H0.out,if_pos HC.out,List.append_assoc]
       case measure=>simp[intOf];omega
   ·have hkk:k=lb:=by omega
    obtain⟨x0,x1,x2,x3,x4⟩:=(hac i hia).below hB hal;have ke:((k:Int)==(lb:Int))=true:=by simp;omega
    have kl:¬(k:Int)<(lb:Int):=by omega
    clear hac hcf hcg hkk;go_wp2_with (at_builtin;refine wpList_append_lies _ rfl (.tmp 85) (.tmp 90) 45 rfl w.heap.size 42 i0 _ 5 40 Tryz.underlying45 hi0 hz0 hz1 hz2 rfl (by omega) _ out.length (aE out) rfl (hown.alloc _) ⟨wr.heap.size,0,none⟩ 1 1 (aE [f i]) rfl (by rw[aX];rfl) (by rw[dM];exact World.news_of_block (heap_alloc_new wr _)) (dX _) (by omega) (by unfold maxLen;omega) (by omega) (by have:=hB.size;simp;omega) _ rfl ?_;intro g0 cap0 w1 hown1 hgrow hat hlt1;have HB:=aA ((hB.alloc hB.size _).grown hgrow (jZ hB.size (by simp)) (fun k hk=>(hown.lt k hk).1));have HO:=aA hown1;clear hown1 hgrow hat hlt1 hown);go_roundw
    case rel=>
     refine⟨i+1,k,out++[f i],by omega,by omega,by go_num,by go_num,HB.out,?_,by simp;omega,?_⟩
     ·rw[bK,List.length_append];exact HO.out
     ·show out++[f i]++iM f la g lb (i+1) (k)=_;rw[←HL.out,TL hia (.inl hkb),List.append_assoc];rfl
    case measure=>simp[intOf];omega
  ·have il:¬(i:Int)<(la:Int):=by omega
   have ie:((i:Int)==(la:Int))=true:=by simp;omega
   by_cases hkb:k<lb
   ·rcases b3 with h0|⟨bb,ob,rfl,hbl,hbc⟩
    ·omega
    have hkn:(k:Int)<(lb:Int):=by omega
    have ke:((k:Int)==(lb:Int))=false:=by simp;omega
    obtain⟨y0,y1,y2,y3,y4⟩:=(hbc k hkb).below hB hbl;clear hbc hcf hcg;go_wp2_with (at_builtin;refine wpList_append_lies _ rfl (.tmp 103) (.tmp 108) 45 rfl w.heap.size 42 i0 _ 5 40 Tryz.underlying45 hi0 hz0 hz1 hz2 rfl (by omega) _ out.length (aE out) rfl (hown.alloc _) ⟨wr.heap.size,0,none⟩ 1 1 (aE [g k]) rfl (by rw[aX];rfl) (by rw[dM];exact World.news_of_block (heap_alloc_new wr _)) (dX _) (by omega) (by unfold maxLen;omega) (by omega) (by have:=hB.size;simp;omega) _ rfl ?_;intro g0 cap0 w1 hown1 hgrow hat hlt1;have HB:=aA ((hB.alloc hB.size _).grown hgrow (jZ hB.size (by simp)) (fun k hk=>(hown.lt k hk).1));have HO:=aA hown1;clear hown1 hgrow hat hlt1 hown);go_roundw
    case rel=>
     refine⟨i,k+1,out++[g k],by omega,by omega,by go_num,by go_num,HB.out,?_,by simp;omega,?_⟩
     ·rw[bK,List.length_append];exact HO.out
     ·show out++[g k]++iM f la g lb (i) (k+1)=_;rw[←HL.out,TM hkb (.inl hia),List.append_assoc];rfl
    case measure=>simp[intOf];omega
   ·have kl:¬(k:Int)<(lb:Int):=by omega
    have HO:=aA hown;clear hown hcf hcg;go_wp2;go_ret;refine⟨_,rfl,hB,?_⟩;rw[←HL.out,Ah hia hkb,List.append_nil];exact HO.out
def lf (L:List T) (i:Nat):T:=L.getD i ⟨0,⟨0,0,0,0⟩⟩
theorem yA (L:List T):∀j,j<L.length*5→(aE L)[j]? =some (cf (lf L) j):=by
 induction L with
 |nil=>intro j h;simp at h
 |cons t r ih=>
  intro j h;have e:aE (t::r)=t.cells++aE r:=rfl
  rw[e];by_cases hj:j<5
  ·rw[List.getElem?_append_left (by simp[T.cells];omega)];have h5:j=0∨j=1∨j=2∨j=3∨j=4:=by omega
   rcases h5 with rfl|rfl|rfl|rfl|rfl<;>rfl
  ·rw[List.getElem?_append_right (by simp[T.cells];omega),show T.cells t=[.int .i64 t.c,.int .i64 t.m.x,.int .i64 t.m.y,.int .i64 t.m.d,.int .i64 t.m.e]from rfl];simp only[List.length_cons,List.length_nil];rw[ih (j-5) (by simp at h;omega)];obtain⟨q,rfl⟩:∃q,j=q+5:=⟨j-5,by omega⟩
   simp only[Nat.add_sub_cancel];unfold cf;rw[show(q+5)%5=q%5 by omega,show(q+5) / 5=q / 5+1 by omega];rfl
def jN (lo:Nat) (w:World) (a:Option Addr) (cap:Nat) (L:List T):Prop:=
 Rd w a L.length cap (lf L)∧Wr w a L.length (lf L)∧(L.length=0∨∃g off,a=some ⟨g,off,none⟩∧lo≤g)
theorem aH {w:World} {lo:Nat} {v:Value} {L:List T} (h:w.ownsRow lo 42 5 v L.length (aE L)) (hl:L.length*40≤140737488351232):∃a cap,v= .slice a L.length cap∧jN lo w a cap L:=by
 rcases h.2 with⟨hv,h0⟩|⟨g,cap,cur,hv,hlo,hg,hn,hm,hs,ht⟩
 ·refine⟨none,0,by rw[hv,h0],⟨by omega,hl,.inl h0⟩,.inl h0,.inl h0⟩
 ·have hat:∀j,j<L.length*5→cur[j]? =some (cf (lf L) j):=by intro j hj;rw[←yA L j hj,←ht,List.getElem?_take_of_lt hj];simp
  have hc5:L.length*5≤cap*5:=by omega
  have hrow:w.rowIs g 42 (cap*5) (fun j=>cur.getD j undef):=⟨cur,hg,hs,fun j hj=>by
   have hjs:j<cur.size:=by omega
   show cur[j]? =some (cur.getD j undef)
   rw[Array.getD_eq_getD_getElem?,Array.getElem?_eq_getElem hjs]
   rfl⟩
  have hcell:∀j,j<L.length*5→w.cell? ⟨g,j,none⟩=some (cf (lf L) j):=by intro j hj;rw[hrow.cell (by omega),Array.getD_eq_getD_getElem?,hat j hj];rfl
  refine⟨some ⟨g,0,none⟩,cap,hv,⟨hn,hl,.inr ⟨g,0,rfl,hrow.lt,fun i hi=>?_⟩⟩,.inr ⟨g,0,cap*5,_,rfl,hrow,by omega,fun j hj=>?_⟩,.inr ⟨g,0,rfl,hlo⟩⟩
  ·rw[Nat.zero_add];exact⟨by rw[hcell _ (by omega),cf0],by rw[hcell _ (by omega),TP],by rw[hcell _ (by omega),TR],by rw[hcell _ (by omega),Lm],by rw[hcell _ (by omega),Ln]⟩
  ·rw[Nat.zero_add,Array.getD_eq_getD_getElem?,hat j hj];rfl
theorem Wr.below {w w':World} {a:Option Addr} {n:Nat} {f:Nat→T} (h:Wr w a n f) (hb:Below w.heap.size w w'):Wr w' a n f:=by
 rcases h with h0|⟨g,off,N,F,rfl,hR,hN,hF⟩
 ·exact .inl h0
 ·exact .inr ⟨g,off,N,F,rfl,hR.of_block (hb.block g hR.lt),hN,hF⟩
theorem jN.below {lo:Nat} {w w':World} {a:Option Addr} {cap:Nat} {L:List T} (h:jN lo w a cap L) (hb:Below w.heap.size w w'):jN lo w' a cap L:=⟨h.1.below hb,h.2.1.below hb,h.2.2⟩
theorem pO.same {w w':World} {b o:Nat} {t:T} (h:pO w b o t) (he:w'.heap[b]? =w.heap[b]?):pO w' b o t:=by obtain⟨h0,h1,h2,h3,h4⟩:=h;exact⟨(mB (w:=w) (a:=⟨b,o,none⟩) he).trans h0,(mB (w:=w) (a:=⟨b,o+1,none⟩) he).trans h1,(mB (w:=w) (a:=⟨b,o+2,none⟩) he).trans h2,(mB (w:=w) (a:=⟨b,o+3,none⟩) he).trans h3,(mB (w:=w) (a:=⟨b,o+4,none⟩) he).trans h4⟩
theorem Rd.grown {w w':World} {a:Option Addr} {n cap:Nat} {f:Nat→T} {row:Option Nat} (h:Rd w a n cap f) (hg:w.grownBy w' row) (hne:n=0∨∀b off,a=some ⟨b,off,none⟩→some b≠row):Rd w' a n cap f:=by
 obtain⟨h1,h2,h3⟩:=h;refine⟨h1,h2,?_⟩;rcases h3 with h0|⟨b,off,rfl,hlt,hc⟩
 ·exact .inl h0
 ·rcases hne with h0|hne
  ·exact .inl h0
  ·exact .inr ⟨b,off,rfl,jY hlt hg.size,fun i hi=>(hc i hi).same (hg.block b hlt (hne b off rfl))⟩
theorem DE {w:World} {base base':Nat} {e:TypeId} {size:Nat} {v:Value} {n:Nat} {xs:List Value} (h:w.ownsRow base e size v n xs) (hb:base'≤base):w.ownsRow base' e size v n xs:=by
 refine⟨h.1,?_⟩;rcases h.2 with h0|⟨g,cap,cur,hv,hlo,hr⟩
 ·exact .inl h0
 ·exact .inr ⟨g,cap,cur,hv,jZ hb hlo,hr⟩
theorem VC {n:Nat} {f:Nat→T} (h:aN n f=true):n≤400∧∀i,i<n→0≤(f i).c∧(f i).c≤100:=by
 simp only[aN,decide_eq_true_eq]at h;refine⟨h.1,fun i hi=>?_⟩;have:=h.2 i hi
 simp only[mH,Bool.and_eq_true,decide_eq_true_eq]at this;omega
theorem dY (w:World) (lo:Nat) (h:lo≤w.heap.size):(w.alloc (.cells #[] 42)).ownsRow lo 42 5 (.slice (some ⟨w.heap.size,0,none⟩) 0 0) 0 (aE []):=World.ownsRow_lit _ _ _ h (Nat.zero_le _) rfl
theorem Wr.grown {w w':World} {a:Option Addr} {n:Nat} {f:Nat→T} {row:Option Nat} (h:Wr w a n f) (hg:w.grownBy w' row) (hne:n=0∨∀b off,a=some ⟨b,off,none⟩→some b≠row):Wr w' a n f:=by
 rcases h with h0|⟨g,off,N,F,rfl,hR,hN,hF⟩
 ·exact .inl h0
 ·rcases hne with h0|hne
  ·exact .inl h0
  ·exact .inr ⟨g,off,N,F,rfl,hR.of_block (hg.block g hR.lt (hne g off rfl)),hN,hF⟩
theorem Own.wr {w:World} {g n:Nat} {f:Nat→T} (h:Own w g n f):Wr w (some ⟨g,0,none⟩) n f:=
 .inr ⟨g,0,n*5,cf f,rfl,h,by omega,fun j hj=>by rw[Nat.zero_add]⟩
theorem Wr.rd {w:World} {a:Option Addr} {n cap:Nat} {f:Nat→T} (h:Wr w a n f) (hc:n≤cap) (hn:n*40≤140737488351232):Rd w a n cap f:=by
 refine⟨hc,hn,?_⟩;rcases h with h0|⟨g,off,N,F,rfl,hR,hN,hF⟩
 ·exact .inl h0
 ·have hcell:∀j,j<n*5→w.cell? ⟨g,off+j,none⟩=some (cf f j):=fun j hj=>by rw[hR.cell (by omega),hF j hj]
  refine .inr ⟨g,off,rfl,hR.lt,fun i hi=>?_⟩;have e1:off+i*5+1=off+(i*5+1):=by omega
  have e2:off+i*5+2=off+(i*5+2):=by omega
  have e3:off+i*5+3=off+(i*5+3):=by omega
  have e4:off+i*5+4=off+(i*5+4):=by omega
  exact⟨by rw[hcell _ (by omega),cf0],by rw[e1,hcell _ (by omega),TP],by rw[e2,hcell _ (by omega),TR],by rw[e3,hcell _ (by omega),Lm],by rw[e4,hcell _ (by omega),Ln]⟩
theorem nI {w w1 w2:World} {row:Option Nat} (h:Below w.heap.size w w1) (hg:w1.grownBy w2 row) (hr:∀k,row=some k→w.heap.size≤k):Below w.heap.size w w2:=h.grown hg h.size hr
def BE (a:Option Addr) (n B:Nat):Prop:=n=0∨∀b off,a=some ⟨b,off,none⟩→b<B
def Gz (a:Option Addr) (n B:Nat):Prop:=n=0∨∀b off,a=some ⟨b,off,none⟩→B≤b
theorem Rd.under {w:World} {a:Option Addr} {n cap:Nat} {f:Nat→T} (h:Rd w a n cap f):BE a n w.heap.size:=by
 rcases h.2.2 with h0|⟨b,off,rfl,hlt,_⟩
 ·exact .inl h0
 ·exact .inr fun b' off' e=>by cases e;exact hlt
theorem jN.from {lo:Nat} {w:World} {a:Option Addr} {cap:Nat} {L:List T} (h:jN lo w a cap L):Gz a L.length lo:=by
 rcases h.2.2 with h0|⟨g,off,rfl,hlo⟩
 ·exact .inl h0
 ·exact .inr fun b' off' e=>by cases e;exact hlo
theorem BE.off {a:Option Addr} {n B X:Nat} (h:BE a n B) (hX:B≤X):n=0∨∀b off,a=some ⟨b,off,none⟩→some b≠some X:=by
 rcases h with h0|h
 ·exact .inl h0
 ·exact .inr fun b off e=>by have:=h b off e;simp;omega
theorem Gz.off {a:Option Addr} {n B X:Nat} (h:Gz a n B) (hX:X<B):n=0∨∀b off,a=some ⟨b,off,none⟩→some b≠some X:=by
 rcases h with h0|h
 ·exact .inl h0
 ·exact .inr fun b off e=>by have:=h b off e;simp;omega
theorem BE.mono {a:Option Addr} {n B B':Nat} (h:BE a n B) (hB:B≤B'):BE a n B':=by
 rcases h with h0|h
 ·exact .inl h0
 ·exact .inr fun b off e=>jY (h b off e) hB
theorem apart {a c:Option Addr} {n m B:Nat} (h:BE a n B) (k:Gz c m B) (hm:m≠0) {w:World} {f:Nat→T} (hw:Wr w c m f):n=0∨∀b off,a=some ⟨b,off,none⟩→some b≠c.map (·.block):=by
 rcases h with h0|h
 ·exact .inl h0
 ·rcases k with k0|k
  ·exact absurd k0 hm
  ·rcases hw with w0|⟨g,off,N,F,rfl,_⟩
   ·exact absurd w0 hm
   ·exact .inr fun b off' e=>by
     have h1:=h b off' e;have h2:=k g off rfl
     simp;omega
end Go.Proofs.YtdidlcjhodejjaaGreat
