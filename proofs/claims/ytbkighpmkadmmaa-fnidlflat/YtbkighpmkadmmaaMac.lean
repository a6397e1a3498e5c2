/-
  More of the program's chapter 2: how two monomials stand in an order, their product, what divides, what is left.
-/
import Derived.Test.YtbkighpmkadmmaaMab
import Derived.WalkSmall
import Derived.ProofKit
import Derived.Deep.OwnRows
import Derived.Lib.SmallJoins
set_option maxHeartbeats 4000000
set_option maxRecDepth 100000
namespace Go.Proofs.Ytbkighpmkadmmaa
open Go.RowKit
set_option linter.unusedVariables false
theorem oG {a b a' b':Int} (h1:a<b↔a'<b') (h2:b<a↔b'<a'):c3 a b=c3 a' b':=by unfold c3;simp only[h1,h2]
theorem xU {a b:M} (ha:a.ok=true) (hb:b.ok=true):c3 (eI a) (eI b)=M.lex a b:=by
 obtain⟨x1,x2,y1,y2,d1,d2,e1,e2⟩:=M.ok_iff.1 ha;obtain⟨x3,x4,y3,y4,d3,d4,e3,e4⟩:=M.ok_iff.1 hb;by_cases hd:a.d=b.d
 ·by_cases he:a.e=b.e
  ·by_cases hx:a.x=b.x
   ·have h:M.lex a b=c3 a.y b.y:=by simp[M.lex,hd,he,hx]
    rw[h];exact oG (by unfold eI;omega) (by unfold eI;omega)
   ·have h:M.lex a b=c3 a.x b.x:=by simp[M.lex,hd,he,hx]
    rw[h];exact oG (by unfold eI;omega) (by unfold eI;omega)
  ·have h:M.lex a b=c3 a.e b.e:=by simp[M.lex,hd,he]
   rw[h];exact oG (by unfold eI;omega) (by unfold eI;omega)
 ·have h:M.lex a b=c3 a.d b.d:=by simp[M.lex,hd]
  rw[h];exact oG (by unfold eI;omega) (by unfold eI;omega)
theorem qC {a b:M} (ha:a.ok=true) (hb:b.ok=true):c3 (fW a) (fW b)=M.ord 1 a b:=by
 obtain⟨x1,x2,y1,y2,d1,d2,e1,e2⟩:=M.ok_iff.1 ha;obtain⟨x3,x4,y3,y4,d3,d4,e3,e4⟩:=M.ok_iff.1 hb;have da:a.deg=a.x+a.y+a.d+a.e:=by simp[M.deg,ha]
 have db:b.deg=b.x+b.y+b.d+b.e:=by simp[M.deg,hb]
 have la:0≤eI a∧eI a≤65535:=by simp only[eI];omega
 have lb:0≤eI b∧eI b≤65535:=by simp only[eI];omega
 by_cases h:a.deg=b.deg
 ·have e1:M.ord 1 a b=M.lex a b:=by simp[M.ord,h]
  rw[e1,←xU ha hb];rw[da,db]at h;exact oG (by unfold fW;omega) (by unfold fW;omega)
 ·have e1:M.ord 1 a b=c3 a.deg b.deg:=by simp[M.ord,h]
  rw[e1,da,db];rw[da,db]at h;exact oG (by unfold fW;omega) (by unfold fW;omega)
theorem xV {a b:M} (ha:a.ok=true) (hb:b.ok=true):c3 (uB a) (uB b)=M.ord 3 a b:=by
 obtain⟨x1,x2,y1,y2,d1,d2,e1,e2⟩:=M.ok_iff.1 ha;obtain⟨x3,x4,y3,y4,d3,d4,e3,e4⟩:=M.ok_iff.1 hb;have la:0≤eI a∧eI a≤65535:=by simp only[eI];omega
 have lb:0≤eI b∧eI b≤65535:=by simp only[eI];omega
 by_cases h:a.d+a.x=b.d+b.x
 ·have e1:M.ord 3 a b=M.lex a b:=by simp[M.ord,h]
  rw[e1,←xU ha hb];exact oG (by unfold uB;omega) (by unfold uB;omega)
 ·have e1:M.ord 3 a b=c3 (a.d+a.x) (b.d+b.x):=by simp[M.ord,h]
  rw[e1];exact oG (by unfold uB;omega) (by unfold uB;omega)
theorem xW {a b:M} (ha:a.ok=true) (hb:b.ok=true):c3 (eI a) (eI b)=M.ord 2 a b:=by rw[xU ha hb];simp[M.ord]
theorem mU (o:Int) (w:World) (h:o<1∨3<o):Calls Try.prog 73 #[.int .i64 o] w fun r w'=>r= .returned (.tuple #[.nilFunc,.bool false])∧Below w.heap.size w w':=by
 rcases h with h|h
 all_goals
  go_enter Try.func73,Try.ntmps73;go_wp2
  go_ret2
  exact⟨rfl,aC w _⟩
theorem nU (w:World):Calls Try.prog 73 #[.int .i64 1] w fun r w'=>r= .returned (.tuple #[.func (.func 78) #[] #[],.bool true])∧Below w.heap.size w w':=by
 go_enter Try.func73,Try.ntmps73;go_wp2
 go_ret2
 exact⟨rfl,aC w _⟩
theorem nV (w:World):Calls Try.prog 73 #[.int .i64 2] w fun r w'=>r= .returned (.tuple #[.func (.func 104) #[] #[],.bool true])∧Below w.heap.size w w':=by
 go_enter Try.func73,Try.ntmps73;go_wp2
 go_ret2
 exact⟨rfl,aC w _⟩
theorem nW (w:World):Calls Try.prog 73 #[.int .i64 3] w fun r w'=>r= .returned (.tuple #[.func (.func 105) #[] #[],.bool true])∧Below w.heap.size w w':=by
 go_enter Try.func73,Try.ntmps73;go_wp2
 go_ret2
 exact⟨rfl,aC w _⟩
theorem iF (o:Int) (w:World) (h1:1≤o) (h2:o≤3):Calls Try.prog 73 #[.int .i64 o] w fun r w'=>∃fv,r= .returned (.tuple #[fv,.bool true])∧Below w.heap.size w w':=by
 have ho3:o=1∨o=2∨o=3:=by omega
 rcases ho3 with rfl|rfl|rfl
 ·exact(nU w).mono fun _ _ h=>⟨_,h⟩
 ·exact(nV w).mono fun _ _ h=>⟨_,h⟩
 ·exact(nW w).mono fun _ _ h=>⟨_,h⟩
theorem vH (x y d e x' y' d' e':Int) (w:World):Calls Try.prog 24 #[.agg #[.int .i64 x,.int .i64 y,.int .i64 d,.int .i64 e],.agg #[.int .i64 x',.int .i64 y',.int .i64 d',.int .i64 e']] w fun r w'=>r= .returned (.bool (M.dvd ⟨x,y,d,e⟩ ⟨x',y',d',e'⟩))∧Below w.heap.size w w':=by
 cases ha:M.ok ⟨x,y,d,e⟩
 ·have r1:M.dvd ⟨x,y,d,e⟩ ⟨x',y',d',e'⟩=false:=by simp[M.dvd,ha]
  rw[r1];clear r1;go_enter Try.func24,Try.ntmps24;go_wp2_with fail;refine(bW ha _).mono ?_;rintro r w1 ⟨rfl,hb1⟩;go_wp2;go_ret;exact⟨rfl,aB (aS w _ _) hb1⟩
 ·cases hb:M.ok ⟨x',y',d',e'⟩
  ·have r1:M.dvd ⟨x,y,d,e⟩ ⟨x',y',d',e'⟩=false:=by simp[M.dvd,hb]
   rw[r1];clear r1;go_enter Try.func24,Try.ntmps24;go_wp2_with fail;refine(bW ha _).mono ?_;rintro r w1 ⟨rfl,hb1⟩;obtain⟨hc1,hf1⟩:=aO hb1;have hz1:w.heap.size+1<w1.heap.size:=by have:=hb1.size;simp at this;omega
   have hy1:w.heap.size<w1.heap.size:=by omega
   go_wp2_with fail;refine(bW hb _).mono ?_;rintro r w2 ⟨rfl,hb2⟩;obtain⟨hc2,hf2⟩:=aO hb2;go_wp2;go_ret;exact⟨rfl,aB (aB (aS w _ _) hb1) hb2⟩
  ·skip
   by_cases h0:x≤x'
   ·have t0:decide (x≤x')=true:=decide_eq_true h0;by_cases h1:y≤y'
    ·have t1:decide (y≤y')=true:=decide_eq_true h1;by_cases h2:d≤d'
     ·have t2:decide (d≤d')=true:=decide_eq_true h2;by_cases h3:e≤e'
      ·have t3:decide (e≤e')=true:=decide_eq_true h3;have r1:M.dvd ⟨x,y,d,e⟩ ⟨x',y',d',e'⟩=true:=by simp[M.dvd,ha,hb,h0,h1,h2,h3]
       rw[r1];clear r1;go_enter Try.func24,Try.ntmps24;go_wp2_with fail;refine(bW ha _).mono ?_;rintro r w1 ⟨rfl,hb1⟩;obtain⟨hc1,hf1⟩:=aO hb1;have hz1:w.heap.size+1<w1.heap.size:=by have:=hb1.size;simp at this;omega
       have hy1:w.heap.size<w1.heap.size:=by omega
       go_wp2_with fail;refine(bW hb _).mono ?_;rintro r w2 ⟨rfl,hb2⟩;obtain⟨hc2,hf2⟩:=aO hb2;go_wp2;go_ret;exact⟨rfl,aB (aB (aS w _ _) hb1) hb2⟩
      ·have t3:decide (e≤e')=false:=decide_eq_false h3;have r1:M.dvd ⟨x,y,d,e⟩ ⟨x',y',d',e'⟩=false:=by simp[M.dvd,h3]
       rw[r1];clear r1;go_enter Try.func24,Try.ntmps24;go_wp2_with fail;refine(bW ha _).mono ?_;rintro r w1 ⟨rfl,hb1⟩;obtain⟨hc1,hf1⟩:=aO hb1;have hz1:w.heap.size+1<w1.heap.size:=by have:=hb1.size;simp at this;omega
       have hy1:w.heap.size<w1.heap.size:=by omega
       go_wp2_with fail;refine(bW hb _).mono ?_;rintro r w2 ⟨rfl,hb2⟩;obtain⟨hc2,hf2⟩:=aO hb2;go_wp2;go_ret;exact⟨rfl,aB (aB (aS w _ _) hb1) hb2⟩
     ·have t2:decide (d≤d')=false:=decide_eq_false h2;have r1:M.dvd ⟨x,y,d,e⟩ ⟨x',y',d',e'⟩=false:=by simp[M.dvd,h2]
      rw[r1];clear r1;go_enter Try.func24,Try.ntmps24;go_wp2_with fail;refine(bW ha _).mono ?_;rintro r w1 ⟨rfl,hb1⟩;obtain⟨hc1,hf1⟩:=aO hb1;have hz1:w.heap.size+1<w1.heap.size:=by have:=hb1.size;simp at this;omega
      have hy1:w.heap.size<w1.heap.size:=by omega
      go_wp2_with fail;refine(bW hb _).mono ?_;rintro r w2 ⟨rfl,hb2⟩;obtain⟨hc2,hf2⟩:=aO hb2;go_wp2;go_ret;exact⟨rfl,aB (aB (aS w _ _) hb1) hb2⟩
    ·have t1:decide (y≤y')=false:=decide_eq_false h1;have r1:M.dvd ⟨x,y,d,e⟩ ⟨x',y',d',e'⟩=false:=by simp[M.dvd,h1]
     rw[r1];clear r1;go_enter Try.func24,Try.ntmps24;go_wp2_with fail;refine(bW ha _).mono ?_;rintro r w1 ⟨rfl,hb1⟩;obtain⟨hc1,hf1⟩:=aO hb1;have hz1:w.heap.size+1<w1.heap.size:=by have:=hb1.size;simp at this;omega
     have hy1:w.heap.size<w1.heap.size:=by omega
     go_wp2_with fail;refine(bW hb _).mono ?_;rintro r w2 ⟨rfl,hb2⟩;obtain⟨hc2,hf2⟩:=aO hb2;go_wp2;go_ret;exact⟨rfl,aB (aB (aS w _ _) hb1) hb2⟩
   ·have t0:decide (x≤x')=false:=decide_eq_false h0;have r1:M.dvd ⟨x,y,d,e⟩ ⟨x',y',d',e'⟩=false:=by simp[M.dvd,h0]
    rw[r1];clear r1;go_enter Try.func24,Try.ntmps24;go_wp2_with fail;refine(bW ha _).mono ?_;rintro r w1 ⟨rfl,hb1⟩;obtain⟨hc1,hf1⟩:=aO hb1;have hz1:w.heap.size+1<w1.heap.size:=by have:=hb1.size;simp at this;omega
    have hy1:w.heap.size<w1.heap.size:=by omega
    go_wp2_with fail;refine(bW hb _).mono ?_;rintro r w2 ⟨rfl,hb2⟩;obtain⟨hc2,hf2⟩:=aO hb2;go_wp2;go_ret;exact⟨rfl,aB (aB (aS w _ _) hb1) hb2⟩
theorem pZ {x y d e x' y' d' e':Int} {b:Bool} (h:M.dvd ⟨x,y,d,e⟩ ⟨x',y',d',e'⟩=b) (w:World):Calls Try.prog 24 #[.agg #[.int .i64 x,.int .i64 y,.int .i64 d,.int .i64 e],.agg #[.int .i64 x',.int .i64 y',.int .i64 d',.int .i64 e']] w fun r w'=>r= .returned (.bool b)∧Below w.heap.size w w':=by rw[←h];exact vH _ _ _ _ _ _ _ _ w
structure T where
 c:Int
 m:M
def gC (f:Nat→T) (i:Nat):Bool:=decide (1≤(f i).c∧(f i).c≤100)&&(f i).m.ok&&(decide (i=0)||decide (0<M.ord 1 (f (i-1)).m (f i).m))
def aL (n:Nat) (f:Nat→T):Bool:=decide (n≤400∧∀i,i<n→gC f i=true)
def lH (w:World) (b o:Nat) (t:T):Prop:=
 w.cell? ⟨b,o,none⟩=some (.int .i64 t.c)∧w.cell? ⟨b,o+1,none⟩=some (.int .i64 t.m.x)∧w.cell? ⟨b,o+2,none⟩=some (.int .i64 t.m.y)∧w.cell? ⟨b,o+3,none⟩=some (.int .i64 t.m.d)∧w.cell? ⟨b,o+4,none⟩=some (.int .i64 t.m.e)
def Rd (w:World) (a:Option Addr) (n cap:Nat) (f:Nat→T):Prop:=
 n≤cap∧n*40≤140737488351232∧(n=0∨∃b off,a=some ⟨b,off,none⟩∧b<w.heap.size∧∀i,i<n→lH w b (off+i*5) (f i))
theorem lH.below {w w':World} {b o:Nat} {t:T} {B:Nat} (h:lH w b o t) (hb:Below B w w') (hB:b<B):lH w' b o t:=by obtain⟨h0,h1,h2,h3,h4⟩:=h;exact⟨(hb.cell (p:=⟨b,o,none⟩) hB).trans h0,(hb.cell (p:=⟨b,o+1,none⟩) hB).trans h1,(hb.cell (p:=⟨b,o+2,none⟩) hB).trans h2,(hb.cell (p:=⟨b,o+3,none⟩) hB).trans h3,(hb.cell (p:=⟨b,o+4,none⟩) hB).trans h4⟩
theorem Rd.below {w w':World} {a:Option Addr} {n cap:Nat} {f:Nat→T} (h:Rd w a n cap f) (hb:Below w.heap.size w w'):Rd w' a n cap f:=by
 obtain⟨h1,h2,h3⟩:=h;refine⟨h1,h2,?_⟩;rcases h3 with h0|⟨b,off,rfl,hlt,hc⟩
 ·exact .inl h0
 ·exact .inr ⟨b,off,rfl,lD hlt hb.size,fun i hi=>(hc i hi).below hb hlt⟩
theorem iA (w:World) (a:Option Addr) (n cap:Nat) (f:Nat→T) (h:Rd w a n cap f):Calls Try.prog 25 #[.slice a n cap] w fun r w'=>r= .returned (.bool (aL n f))∧Below w.heap.size w w':=by
 obtain⟨h1,h2,h3⟩:=h;have hn:(n:Int)≤140737488351232:=by omega
 by_cases hl:n≤400
 ·have hl':(n:Int)≤400:=by omega
  go_enter Try.func25,Try.ntmps25;go_wp2;go_loopw [3] (fun i wr=>∃k:Nat,k≤n∧i= .int .i64 k∧Below w.heap.size w wr∧∀j,j<k→gC f j=true) (fun i _=>n-(intOf i).toNat);case atStart=>exact⟨0,gT _,rfl,cM _ _,fun j hj=>absurd hj (Nat.not_lt_zero _)⟩
  case round=>
   obtain⟨k,hk,rfl,hB,hok⟩:=hrel;by_cases hlt:k<n
   ·rcases h3 with h0|⟨b,off,rfl,hblt,hcl⟩
    ·omega
    have hkn:(k:Int)<(n:Int):=by omega
    have hbr:b<wr.heap.size:=lD hblt hB.size;have ne:=cG.there wr
    have hck:=(hcl k hlt).below hB hblt;have s0:∀u:cG wr,u.1.cell? ⟨b,off+k*5,none⟩=some (.int .i64 (f k).c):=fun u=>(u.cell hbr).trans hck.1
    have s1:∀u:cG wr,u.1.cell? ⟨b,off+k*5+1,none⟩=some (.int .i64 (f k).m.x):=fun u=>(u.cell hbr).trans hck.2.1;have s2:∀u:cG wr,u.1.cell? ⟨b,off+k*5+2,none⟩=some (.int .i64 (f k).m.y):=fun u=>(u.cell hbr).trans hck.2.2.1
    have s3:∀u:cG wr,u.1.cell? ⟨b,off+k*5+3,none⟩=some (.int .i64 (f k).m.d):=fun u=>(u.cell hbr).trans hck.2.2.2.1;have s4:∀u:cG wr,u.1.cell? ⟨b,off+k*5+4,none⟩=some (.int .i64 (f k).m.e):=fun u=>(u.cell hbr).trans hck.2.2.2.2
    clear hck;have ho:gC f k=(decide (1≤(f k).c∧(f k).c≤100)&&(f k).m.ok&&(decide (k=0)||decide (0<M.ord 1 (f (k-1)).m (f k).m))):=rfl
    have hno:gC f k=false→aL n f=false:=fun hf=>by
     simp only[aL,decide_eq_false_iff_not];intro hh;have:=hh.2 k hlt
     rw[hf]at this;cases this
    by_cases hc:1≤(f k).c∧(f k).c≤100
    ·obtain⟨c1,c2⟩:=hc;cases hm:(f k).m.ok
     ·have HF:Hid (aL n f=false):=hno (by rw[ho,hm];simp);clear hno ho hcl hok;go_wp2_with fail;refine aK (by kernel_rfl) (by kernel_rfl) ?_;repeat(go_big_quiet_step (first|(go_at_call 51;exact kC (bF _ _ _ _ c1 c2))|(go_at_call 59;exact aM (aW hm _))))
      refine wpQuiet_nil ?_;rintro _ ⟨u,rfl⟩;go_wp2;go_ret;exact⟨by rw[HF.out];rfl,hB.trans (u.2.mono hB.size)⟩
     ·by_cases hk0:k=0
      ·have ht:gC f k=true:=by rw[ho,hm,decide_eq_true (p:=1≤(f k).c∧(f k).c≤100) ⟨c1,c2⟩,decide_eq_true hk0];rfl
       have hok':Hid (∀j,j<k+1→gC f j=true):=fun j hj=>by
        by_cases hjk:j=k
        ·rw[hjk];exact ht
        ·exact hok j (by omega)
       have dk:decide (0<k)=false:=decide_eq_false (by omega);clear hno ho hcl hok ht hk0;go_wp2_with fail;refine aK (by kernel_rfl) (by kernel_rfl) ?_;repeat(go_big_quiet_step (first|(go_at_call 51;exact kC (bF _ _ _ _ c1 c2))|(go_at_call 59;exact aM (aW hm _))))
       refine wpQuiet_nil ?_;rintro _ ⟨u,rfl⟩;go_wp2;go_roundw;case rel=>exact⟨k+1,by omega,by go_num,hB.trans (u.2.mono hB.size),hok'.out⟩
       case measure=>simp[intOf];omega
      ·have hj:k-1<n:=by omega
       have hcj:=(hcl (k-1) hj).below hB hblt;have p1:∀u:cG wr,u.1.cell? ⟨b,off+(k-1)*5+1,none⟩=some (.int .i64 (f (k-1)).m.x):=fun u=>(u.cell hbr).trans hcj.2.1
       have p2:∀u:cG wr,u.1.cell? ⟨b,off+(k-1)*5+2,none⟩=some (.int .i64 (f (k-1)).m.y):=fun u=>(u.cell hbr).trans hcj.2.2.1;have p3:∀u:cG wr,u.1.cell? ⟨b,off+(k-1)*5+3,none⟩=some (.int .i64 (f (k-1)).m.d):=fun u=>(u.cell hbr).trans hcj.2.2.2.1
       have p4:∀u:cG wr,u.1.cell? ⟨b,off+(k-1)*5+4,none⟩=some (.int .i64 (f (k-1)).m.e):=fun u=>(u.cell hbr).trans hcj.2.2.2.2;clear hcj;have dk:decide (0<k)=true:=decide_eq_true (by omega)
       have hk1:(0:Int)<(k:Int):=by omega
       have hk2:(k:Int)-1<(n:Int):=by omega
       have hk3:(0:Int)≤(k:Int)-1:=by omega
       by_cases hq:0<M.ord 1 (f (k-1)).m (f k).m
       ·have ht:gC f k=true:=by rw[ho,hm,decide_eq_true (p:=1≤(f k).c∧(f k).c≤100) ⟨c1,c2⟩,decide_eq_true hq];simp
        have hok':Hid (∀j,j<k+1→gC f j=true):=fun j hj=>by
         by_cases hjk:j=k
         ·rw[hjk];exact ht
         ·exact hok j (by omega)
        have dq:decide (M.ord 1 ⟨(f (k-1)).m.x,(f (k-1)).m.y,(f (k-1)).m.d,(f (k-1)).m.e⟩ ⟨(f k).m.x,(f k).m.y,(f k).m.d,(f k).m.e⟩≤0)=false:=decide_eq_false (Int.not_le.2 hq);clear hno ho hcl hok ht hk0 hq;go_wp2_with fail;refine aK (by kernel_rfl) (by kernel_rfl) ?_;repeat(go_big_quiet_step (first|(go_at_call 51;exact kC (bF _ _ _ _ c1 c2))|(go_at_call 59;exact aM (aW hm _))|(go_at_call 60;exact aM (zI _ _ _ _ _ _ _ _ _))))
        refine wpQuiet_nil ?_;rintro _ ⟨u,rfl⟩;go_wp2;go_roundw;case rel=>exact⟨k+1,by omega,by go_num,hB.trans (u.2.mono hB.size),hok'.out⟩
        case measure=>simp[intOf];omega
       ·have HF:Hid (aL n f=false):=hno (by rw[ho,hm];simp[hk0,hq]);have dq:decide (M.ord 1 ⟨(f (k-1)).m.x,(f (k-1)).m.y,(f (k-1)).m.d,(f (k-1)).m.e⟩ ⟨(f k).m.x,(f k).m.y,(f k).m.d,(f k).m.e⟩≤0)=true:=decide_eq_true (Int.not_lt.1 hq)
        clear hno ho hcl hok hk0 hq;go_wp2_with fail;refine aK (by kernel_rfl) (by kernel_rfl) ?_;repeat(go_big_quiet_step (first|(go_at_call 51;exact kC (bF _ _ _ _ c1 c2))|(go_at_call 59;exact aM (aW hm _))|(go_at_call 60;exact aM (zI _ _ _ _ _ _ _ _ _))))
        refine wpQuiet_nil ?_;rintro _ ⟨u,rfl⟩;go_wp2;go_ret;exact⟨by rw[HF.out];rfl,hB.trans (u.2.mono hB.size)⟩
    ·have HF:Hid (aL n f=false):=hno (by rw[ho];simp[hc]);have hc':(f k).c<1∨(1≤(f k).c∧100<(f k).c):=by omega
     clear hc hno ho hcl hok;go_wp2_with fail;refine aK (by kernel_rfl) (by kernel_rfl) ?_;repeat(go_big_quiet_step ((go_at_call 51;exact kC (bS _ _ _ _ hc'))))
     refine wpQuiet_nil ?_;rintro _ ⟨u,rfl⟩;go_wp2;go_ret;exact⟨by rw[HF.out];rfl,hB.trans (u.2.mono hB.size)⟩
   ·go_wp2;go_ret;have hp:aL n f=true:=by simp only[aL,decide_eq_true_eq];exact⟨hl,fun i hi=>hok i (by omega)⟩
    exact⟨by rw[hp];rfl,hB⟩
 ·have hl':(400:Int)<(n:Int):=by omega
  have hp:aL n f=false:=by simp only[aL,decide_eq_false_iff_not];exact fun h=>hl h.1
  rw[hp];go_enter Try.func25,Try.ntmps25;go_wp2;go_ret;exact⟨rfl,cM _ _⟩
theorem mV {a b:M} (ha:a.ok=true) (hb:b.ok=true):0<M.ord 1 a b↔fW b<fW a:=by
 rw[←qC ha hb];unfold c3;constructor
 ·intro h;split at h
  ·omega
  ·split at h<;>omega
 ·intro h;rw[if_neg (by omega),if_pos h];decide
def eJ (c:Int) (m:M):Bool:=decide (1≤c∧c≤100)&&m.ok
theorem xS (c x y d e:Int) (w:World):Calls Try.prog 77 #[.int .i64 c,.agg #[.int .i64 x,.int .i64 y,.int .i64 d,.int .i64 e]] w fun r w'=>r= .returned (.bool (eJ c ⟨x,y,d,e⟩))∧Below w.heap.size w w':=by
 by_cases h0:c=0
 ·subst h0;have e1:eJ 0 ⟨x,y,d,e⟩=false:=by simp[eJ]
  rw[e1];go_enter Try.func77,Try.ntmps77;go_wp2;go_ret;exact⟨rfl,aC w _⟩
 ·have hz:(c !=0)=true:=by simp[h0]
  by_cases hc:0≤c∧c≤100
  ·obtain⟨c1,c2⟩:=hc;have e1:eJ c ⟨x,y,d,e⟩=M.ok ⟨x,y,d,e⟩:=by
    have:1≤c∧c≤100:=by omega
    simp[eJ,this]
   rw[e1];clear h0 e1;go_enter Try.func77,Try.ntmps77;go_wp2_with (go_at_call 74;refine(KV _ _ c1 c2).mono ?_;rintro r w' ⟨rfl,rfl⟩);refine(DN _ _ _ _ _).mono ?_;rintro r w1 ⟨rfl,hb⟩;go_wp2;go_ret;exact⟨rfl,aB (aC w _) hb⟩
  ·have hc':c<0∨100<c:=by omega
   have e1:eJ c ⟨x,y,d,e⟩=false:=by
    have:¬(1≤c∧c≤100):=by omega
    simp[eJ,this]
   rw[e1];clear hc e1 h0;go_enter Try.func77,Try.ntmps77;go_wp2_with (go_at_call 74;refine(IOz _ _ hc').mono ?_;rintro r w' ⟨rfl,rfl⟩);go_ret;exact⟨rfl,aC w _⟩
theorem lJ {c x y d e:Int} {b:Bool} (h:eJ c ⟨x,y,d,e⟩=b) (w:World):Calls Try.prog 77 #[.int .i64 c,.agg #[.int .i64 x,.int .i64 y,.int .i64 d,.int .i64 e]] w fun r w'=>r= .returned (.bool b)∧Below w.heap.size w w':=by rw[←h];exact xS c x y d e w
theorem rI {f:Nat→T} {k:Nat} (h:gC f k=true):eJ (f k).c (f k).m=true:=by simp only[gC,Bool.and_eq_true]at h;simp only[eJ,Bool.and_eq_true];exact h.1
theorem iL (w:World) (a:Option Addr) (n cap:Nat) (f:Nat→T) (h:Rd w a n cap f):Calls Try.prog 40 #[.slice a n cap] w fun r w'=>r= .returned (.bool (aL n f))∧Below w.heap.size w w':=by
 obtain⟨h1,h2,h3⟩:=h;have hn:(n:Int)≤140737488351232:=by omega
 by_cases hl:n≤400
 ·have hl':(n:Int)≤400:=by omega
  go_enter Try.func40,Try.ntmps40;go_wp2;go_loopw [10] (fun i wr=>∃k:Nat,k≤n∧i= .int .i64 k∧Below w.heap.size w wr∧∀j,j<k→gC f j=true) (fun i _=>n-(intOf i).toNat);case atStart=>exact⟨0,gT _,rfl,cM _ _,fun j hj=>absurd hj (Nat.not_lt_zero _)⟩
  case round=>
   obtain⟨k,hk,rfl,hB,hok⟩:=hrel;by_cases hlt:k<n
   ·rcases h3 with h0|⟨b,off,rfl,hblt,hcl⟩
    ·omega
    have hkn:(k:Int)<(n:Int):=by omega
    have hbr:b<wr.heap.size:=lD hblt hB.size;obtain⟨g0,g1,g2,g3,g4⟩:=(hcl k hlt).below hB hblt;have hno:gC f k=false→aL n f=false:=fun hf=>by
     simp only[aL,decide_eq_false_iff_not];intro hh;have:=hh.2 k hlt
     rw[hf]at this;cases this
    cases ht:eJ (f k).c (f k).m
    ·have HF:Hid (aL n f=false):=hno (by
      cases h:gC f k
      ·rfl
      ·rw[rI h]at ht;cases ht)
     clear hno hcl hok;go_wp2_with fail;refine(lJ ht _).mono ?_;rintro r w1 ⟨rfl,hb⟩;have HB:=aA (aB (hB.alloc hB.size _) hb)
     clear hb;go_wp2;go_ret;exact⟨by rw[HF.out];rfl,HB.out⟩
    ·have hm:(f k).m.ok=true:=by simp only[eJ,Bool.and_eq_true]at ht;exact ht.2
     have HM:=aA hm;have HCL:=aA hcl
     have HOK:=aA hok;have HNO:=aA hno
     clear hcl hok hno hm;go_wp2_with fail;refine(lJ ht _).mono ?_;rintro r w1 ⟨rfl,hb⟩;have HB:=aA (aB (hB.alloc hB.size _) hb)
     have hb1:b<w1.heap.size:=by have:=hb.size;simp at this;omega
     have hb2:wr.heap.size<w1.heap.size:=by have:=hb.size;simp at this;omega
     have hq:∀i v,#[Value.int .i64 (f k).c,.int .i64 (f k).m.x,.int .i64 (f k).m.y,.int .i64 (f k).m.d,.int .i64 (f k).m.e][i]? =some v→w1.cell? ⟨wr.heap.size,i,none⟩=some v:=fun i v hv=>by rw[hb.cell (p:=⟨wr.heap.size,i,none⟩) (by simp),World.cell?_alloc_at _ _ _ _ rfl];exact hv
     have ne:=cG.there w1;have s1:∀u:cG w1,u.1.cell? ⟨wr.heap.size,1,none⟩=some (.int .i64 (f k).m.x):=fun u=>(u.cell hb2).trans (hq 1 _ rfl)
     have s2:∀u:cG w1,u.1.cell? ⟨wr.heap.size,2,none⟩=some (.int .i64 (f k).m.y):=fun u=>(u.cell hb2).trans (hq 2 _ rfl);have s3:∀u:cG w1,u.1.cell? ⟨wr.heap.size,3,none⟩=some (.int .i64 (f k).m.d):=fun u=>(u.cell hb2).trans (hq 3 _ rfl)
     have s4:∀u:cG w1,u.1.cell? ⟨wr.heap.size,4,none⟩=some (.int .i64 (f k).m.e):=fun u=>(u.cell hb2).trans (hq 4 _ rfl);have HBK:=aA hB
     clear hq hb g0 g1 g2 g3 g4 hB;by_cases hk0:k=0
     ·have ht':gC f k=true:=by simp only[gC,eJ,Bool.and_eq_true]at ht⊢;exact⟨ht,by simp[hk0]⟩
      have hok':Hid (∀j,j<k+1→gC f j=true):=fun j hj=>by
       by_cases hjk:j=k
       ·rw[hjk];exact ht'
       ·exact HOK.out j (by omega)
      have dk:decide (0<k)=false:=decide_eq_false (by omega);clear ht' hk0 ht;go_wp2_with fail;refine aK (by kernel_rfl) (by kernel_rfl) ?_;repeat(go_big_quiet_step (fail))
      refine wpQuiet_nil ?_;rintro _ ⟨u,rfl⟩;go_wp2;go_roundw;case rel=>exact⟨k+1,by omega,by go_num,HB.out.trans (u.2.mono HB.out.size),hok'.out⟩
      case measure=>simp[intOf];omega
     ·have hj:k-1<n:=by omega
      have hcj:=((HCL.out (k-1) hj).below HBK.out hblt)
      have hcj1:lH w1 b (off+(k-1)*5) (f (k-1)):=(HCL.out (k-1) hj).below HB.out hblt;have p1:∀u:cG w1,u.1.cell? ⟨b,off+(k-1)*5+1,none⟩=some (.int .i64 (f (k-1)).m.x):=fun u=>(u.cell hb1).trans hcj1.2.1
      have p2:∀u:cG w1,u.1.cell? ⟨b,off+(k-1)*5+2,none⟩=some (.int .i64 (f (k-1)).m.y):=fun u=>(u.cell hb1).trans hcj1.2.2.1;have p3:∀u:cG w1,u.1.cell? ⟨b,off+(k-1)*5+3,none⟩=some (.int .i64 (f (k-1)).m.d):=fun u=>(u.cell hb1).trans hcj1.2.2.2.1
      have p4:∀u:cG w1,u.1.cell? ⟨b,off+(k-1)*5+4,none⟩=some (.int .i64 (f (k-1)).m.e):=fun u=>(u.cell hb1).trans hcj1.2.2.2.2;have hmp:(f (k-1)).m.ok=true:=by have:=rI (HOK.out (k-1) (by omega));simp only[eJ,Bool.and_eq_true]at this;exact this.2
      have HMP:=aA hmp;clear hcj hcj1;have dk:decide (0<k)=true:=decide_eq_true (by omega)
      have hk1:(0:Int)<(k:Int):=by omega
      have hk2:(k:Int)-1<(n:Int):=by omega
      have hk3:(0:Int)≤(k:Int)-1:=by omega
      by_cases hq:fW (f k).m<fW (f (k-1)).m
      ·have ht':gC f k=true:=by simp only[gC,eJ,Bool.and_eq_true]at ht⊢;exact⟨ht,by rw[decide_eq_true ((mV hmp HM.out).2 hq)];simp⟩
       have hok':Hid (∀j,j<k+1→gC f j=true):=fun j hj=>by
        by_cases hjk:j=k
        ·rw[hjk];exact ht'
        ·exact HOK.out j (by omega)
       have dq:decide (fW ⟨(f (k-1)).m.x,(f (k-1)).m.y,(f (k-1)).m.d,(f (k-1)).m.e⟩≤fW ⟨(f k).m.x,(f k).m.y,(f k).m.d,(f k).m.e⟩)=false:=decide_eq_false (Int.not_le.2 hq);clear ht' hk0 ht hq hmp;go_wp2_with fail;refine aK (by kernel_rfl) (by kernel_rfl) ?_;repeat(go_big_quiet_step (first|(go_at_call 78;exact aM (fR _ _ _ _ _ HMP.out))|(go_at_call 78;exact aM (fR _ _ _ _ _ HM.out))))
       refine wpQuiet_nil ?_;rintro _ ⟨u,rfl⟩;go_wp2;go_roundw;case rel=>exact⟨k+1,by omega,by go_num,HB.out.trans (u.2.mono HB.out.size),hok'.out⟩
       case measure=>simp[intOf];omega
      ·have HF:Hid (aL n f=false):=HNO.out (by
        cases hx:gC f k
        ·rfl
        ·exfalso;simp only[gC,Bool.and_eq_true,Bool.or_eq_true,decide_eq_true_eq]at hx;rcases hx.2 with h0|h0
         ·exact hk0 h0
         ·exact hq ((mV hmp HM.out).1 h0))
       have dq:decide (fW ⟨(f (k-1)).m.x,(f (k-1)).m.y,(f (k-1)).m.d,(f (k-1)).m.e⟩≤fW ⟨(f k).m.x,(f k).m.y,(f k).m.d,(f k).m.e⟩)=true:=decide_eq_true (Int.not_lt.1 hq);clear hk0 ht hq hmp;go_wp2_with fail;refine aK (by kernel_rfl) (by kernel_rfl) ?_;repeat(go_big_quiet_step (first|(go_at_call 78;exact aM (fR _ _ _ _ _ HMP.out))|(go_at_call 78;exact aM (fR _ _ _ _ _ HM.out))))
       refine wpQuiet_nil ?_;rintro _ ⟨u,rfl⟩;go_wp2;go_ret;exact⟨by rw[HF.out];rfl,HB.out.trans (u.2.mono HB.out.size)⟩
   ·go_wp2;go_ret;have hp:aL n f=true:=by simp only[aL,decide_eq_true_eq];exact⟨hl,fun i hi=>hok i (by omega)⟩
    exact⟨by rw[hp];rfl,hB⟩
 ·have hl':(400:Int)<(n:Int):=by omega
  have hp:aL n f=false:=by simp only[aL,decide_eq_false_iff_not];exact fun h=>hl h.1
  rw[hp];go_enter Try.func40,Try.ntmps40;go_wp2;go_ret;exact⟨rfl,cM _ _⟩
def M4 (w:World) (b:Nat) (x y d e:Int):Prop:=
 w.cell? ⟨b,0,none⟩=some (.int .i64 x)∧w.cell? ⟨b,1,none⟩=some (.int .i64 y)∧w.cell? ⟨b,2,none⟩=some (.int .i64 d)∧w.cell? ⟨b,3,none⟩=some (.int .i64 e)
theorem M4.lt {w:World} {b:Nat} {x y d e:Int} (h:M4 w b x y d e):b<w.heap.size:=fG w _ h.1
theorem M4.below {w w':World} {b:Nat} {x y d e:Int} (h:M4 w b x y d e) (hb:Below w.heap.size w w'):M4 w' b x y d e:=
 ⟨(hb.cell (p:=⟨b,0,none⟩) h.lt).trans h.1,(hb.cell (p:=⟨b,1,none⟩) h.lt).trans h.2.1,(hb.cell (p:=⟨b,2,none⟩) h.lt).trans h.2.2.1,(hb.cell (p:=⟨b,3,none⟩) h.lt).trans h.2.2.2⟩
theorem M4.box (w:World) (t:TypeId) (x y d e:Int):M4 (w.alloc (.cells #[.int .i64 x,.int .i64 y,.int .i64 d,.int .i64 e] t)) w.heap.size x y d e:=
 ⟨by rw[World.cell?_alloc_at _ _ _ _ rfl];rfl,by rw[World.cell?_alloc_at _ _ _ _ rfl];rfl,by rw[World.cell?_alloc_at _ _ _ _ rfl];rfl,by rw[World.cell?_alloc_at _ _ _ _ rfl];rfl⟩
theorem M4.drew' {w:World} {b:Nat} {x y d e:Int} (h:M4 w b x y d e):M4 w.drew b x y d e:=h.below (cM _ _).drew
theorem M4.grown {w w':World} {b:Nat} {x y d e:Int} {row:Option Nat} (h:M4 w b x y d e) (hg:w.grownBy w' row) (hne:some b≠row):M4 w' b x y d e:=by have he:=hg.block b h.lt hne;exact⟨(mC (w:=w) (a:=⟨b,0,none⟩) he).trans h.1,(mC (w:=w) (a:=⟨b,1,none⟩) he).trans h.2.1,(mC (w:=w) (a:=⟨b,2,none⟩) he).trans h.2.2.1,(mC (w:=w) (a:=⟨b,3,none⟩) he).trans h.2.2.2⟩
theorem M4.alloc {w:World} {b:Nat} {x y d e:Int} (h:M4 w b x y d e) (o:Obj):M4 (w.alloc o) b x y d e:=h.below ((cM _ _).alloc (Nat.le_refl _) _)
open Go.RowKit Go.Deep Go.Joins
end Go.Proofs.Ytbkighpmkadmmaa
namespace Go.Proofs.Ytbkighpmkadmmaa
open Go.RowKit
set_option linter.unusedVariables false
theorem bU {n B o0 o1 o2 o3 o4:Nat} {a w:World} (h:Below n a w) (hB:n≤B) (u0 u1 u2 u3 u4:Value):Below n a (((((w.setCell ⟨B,o0,none⟩ u0).setCell ⟨B,o1,none⟩ u1).setCell ⟨B,o2,none⟩ u2).setCell ⟨B,o3,none⟩ u3).setCell ⟨B,o4,none⟩ u4):=
 ((((h.setCell hB u0).setCell hB u1).setCell hB u2).setCell hB u3).setCell hB u4
def cf (f:Nat→T) (j:Nat):Value:=if j%5=0 then .int .i64 (f (j / 5)).c else if j%5=1 then .int .i64 (f (j / 5)).m.x else if j%5=2 then .int .i64 (f (j / 5)).m.y else if j%5=3 then .int .i64 (f (j / 5)).m.d else .int .i64 (f (j / 5)).m.e
theorem cf0 (f:Nat→T) (i:Nat):cf f (i*5)= .int .i64 (f i).c:=by unfold cf;rw[if_pos (by omega),show i*5 / 5=i by omega]
theorem JM (f:Nat→T) (i:Nat):cf f (i*5+1)= .int .i64 (f i).m.x:=by unfold cf;rw[if_neg (by omega),if_pos (by omega),show(i*5+1) / 5=i by omega]
theorem JN (f:Nat→T) (i:Nat):cf f (i*5+2)= .int .i64 (f i).m.y:=by unfold cf;rw[if_neg (by omega),if_neg (by omega),if_pos (by omega),show(i*5+2) / 5=i by omega]
theorem LO (f:Nat→T) (i:Nat):cf f (i*5+3)= .int .i64 (f i).m.d:=by unfold cf;rw[if_neg (by omega),if_neg (by omega),if_neg (by omega),if_pos (by omega),show(i*5+3) / 5=i by omega]
theorem LP (f:Nat→T) (i:Nat):cf f (i*5+4)= .int .i64 (f i).m.e:=by unfold cf;rw[if_neg (by omega),if_neg (by omega),if_neg (by omega),if_neg (by omega),show(i*5+4) / 5=i by omega]
theorem vB:(Try.prog.info? 33).map (fun i=>(i.zero,i.size,i.bytes))=some (some (.agg #[.int .i64 0,.int .i64 0,.int .i64 0,.int .i64 0,.int .i64 0]),5,40):=by kernel_rfl
def Wr (w:World) (a:Option Addr) (n:Nat) (f:Nat→T):Prop:=
 n=0∨∃g off N F,a=some ⟨g,off,none⟩∧w.rowIs g 33 N F∧off+n*5≤N∧∀j,j<n*5→F (off+j)=cf f j
def mk (k:Int) (i:Nat):T:=⟨k+5*i,⟨k+5*i+1,k+5*i+2,k+5*i+3,k+5*i+4⟩⟩
end Go.Proofs.Ytbkighpmkadmmaa
