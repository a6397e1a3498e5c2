/-
  Lists of operators: which are ok, and which are the same.
-/
import Derived.Test.YtncffcaabnjioaaGreatMat
set_option maxHeartbeats 4000000
namespace Go.Proofs.YtncffcaabnjioaaGreat
open Go.RowKit Go.Deep Go.Joins
set_option linter.unusedVariables false
def aW (n:Nat) (ln:Nat→Nat) (f:Nat→Nat→T):Bool:=decide (n≤12∧∀i,i<n→ln i≠0∧aN (ln i) (f i)=true)
theorem PB (w:World) (a:Option Addr) (n cap:Nat) (ad:Nat→Option Addr) (ln cp:Nat→Nat) (f:Nat→Nat→T) (h:fZ w a n cap ad ln cp f):Calls Tryz.prog 80 #[.slice a n cap] w fun r w'=>r= .returned (.bool (aW n ln f))∧Below w.heap.size w w':=by
 have hn:(n:Int)≤140737488351232:=by have:=h.2.1;omega
 have HH:=aA h;clear h;by_cases hbig:12<n
 ·have e:aW n ln f=false:=decide_eq_false (fun hh=>by omega);have hb:(12:Int)<(n:Int):=by omega
  rw[e];go_enter Tryz.func80,Tryz.ntmps80;go_wp2;go_ret;exact⟨rfl,cE _ _⟩
 ·have hnb:¬(12:Int)<(n:Int):=by omega
  go_enter Tryz.func80,Tryz.ntmps80;go_wp2;go_loopw [10] (fun v wr=>∃i:Nat,i≤n∧v= .int .i64 (i:Int)∧Below w.heap.size w wr∧∀j,j<i→ln j≠0∧aN (ln j) (f j)=true) (fun v _=>n-(intOf v).toNat);case atStart=>exact⟨0,gL _,rfl,cE _ _,fun j hj=>by omega⟩
  case round=>
   obtain⟨i,hi,rfl,hB,hJ⟩:=hrel;by_cases hlt:i<n
   ·rcases HH.out.2.2.1 with h0|⟨b,off,rfl,hblt,hcl⟩
    ·omega
    have hil:(i:Int)<(n:Int):=by omega
    have g0:wr.cell? ⟨b,off+i,none⟩=some (.slice (ad i) (ln i) (cp i)):=(hB.cell (p:=⟨b,off+i,none⟩) hblt).trans (hcl i hlt);have HK:=aA ((HH.out.2.2.2 i hlt).below hB)
    have HB:=aA hB;have HJ:=aA hJ
    clear hcl hB hJ;by_cases h0:ln i=0
    ·have HE:Hid (aW n ln f=false):=decide_eq_false (fun hh=>(hh.2 i hlt).1 h0);have hz:((ln i:Int)==0)=true:=by rw[h0];rfl
     clear h0;go_wp2;go_ret;exact⟨congrArg (fun z=>Ending.returned (Value.bool z)) HE.out.symm,HB.out⟩
    ·have hz:((ln i:Int)==0)=false:=by rw[beq_eq_false_iff_ne];omega
     have HZ:=aA h0;clear h0;cases hp:aN (ln i) (f i)
     ·have HE:Hid (aW n ln f=false):=decide_eq_false (fun hh=>by have:=(hh.2 i hlt).2;rw[hp]at this;cases this);go_wp2_with fail;refine(eD _ _ _ _ (f i) HK.out).mono ?_;rw[hp];rintro r w1 ⟨rfl,hb⟩;have HB1:=aA (aB HB.out hb)
      clear hb;go_wp2;go_ret;exact⟨congrArg (fun z=>Ending.returned (Value.bool z)) HE.out.symm,HB1.out⟩
     ·go_wp2_with fail;refine(eD _ _ _ _ (f i) HK.out).mono ?_;rw[hp];rintro r w1 ⟨rfl,hb⟩;have HB1:=aA (aB HB.out hb)
      clear hb;go_wp2;go_roundw
      case rel=>exact⟨i+1,by omega,by go_num,HB1.out,fun j hj=>by
       by_cases e:j=i
       ·rw[e];exact⟨HZ.out,hp⟩
       ·exact HJ.out j (by omega)⟩
      case measure=>simp[intOf];omega
   ·have hnl:¬(i:Int)<(n:Int):=by omega
    have hie:i=n:=by omega
    subst hie;have HE:Hid (aW i ln f=true):=decide_eq_true ⟨by omega,hJ⟩
    have HB:=aA hB;clear hB hJ;go_wp2;go_ret;exact⟨congrArg (fun z=>Ending.returned (Value.bool z)) HE.out.symm,HB.out⟩
theorem qS (w:World) (a:Option Addr) (n cap:Nat) (ad:Nat→Option Addr) (ln cp:Nat→Nat) (f:Nat→Nat→T) (h:fZ w a n cap ad ln cp f):Calls Tryz.prog 27 #[.slice a n cap] w fun r w'=>r= .returned (.bool (aW n ln f))∧Below w.heap.size w w':=by
 have hn:(n:Int)≤140737488351232:=by have:=h.2.1;omega
 have HH:=aA h;clear h;by_cases hbig:12<n
 ·have e:aW n ln f=false:=decide_eq_false (fun hh=>by omega);have hb:(12:Int)<(n:Int):=by omega
  rw[e];go_enter Tryz.func27,Tryz.ntmps27;go_wp2;go_ret;exact⟨rfl,cE _ _⟩
 ·have hnb:¬(12:Int)<(n:Int):=by omega
  go_enter Tryz.func27,Tryz.ntmps27;go_wp2;go_loopw [3] (fun v wr=>∃i:Nat,i≤n∧v= .int .i64 (i:Int)∧Below w.heap.size w wr∧∀j,j<i→ln j≠0∧aN (ln j) (f j)=true) (fun v _=>n-(intOf v).toNat);case atStart=>exact⟨0,gL _,rfl,cE _ _,fun j hj=>by omega⟩
  case round=>
   obtain⟨i,hi,rfl,hB,hJ⟩:=hrel;by_cases hlt:i<n
   ·rcases HH.out.2.2.1 with h0|⟨b,off,rfl,hblt,hcl⟩
    ·omega
    have hil:(i:Int)<(n:Int):=by omega
    have g0:wr.cell? ⟨b,off+i,none⟩=some (.slice (ad i) (ln i) (cp i)):=(hB.cell (p:=⟨b,off+i,none⟩) hblt).trans (hcl i hlt);have HG:Hid (∀w',Below wr.heap.size wr w'→w'.cell? ⟨b,off+i,none⟩=some (.slice (ad i) (ln i) (cp i))):=fun w' hb=>(hb.cell (p:=⟨b,off+i,none⟩) (lG hblt hB.size)).trans g0
    have HK:=aA ((HH.out.2.2.2 i hlt).below hB);have HB:=aA hB
    have HJ:=aA hJ;clear hcl hB hJ;cases hp:aN (ln i) (f i)
    ·have HE:Hid (aW n ln f=false):=decide_eq_false (fun hh=>by have:=(hh.2 i hlt).2;rw[hp]at this;cases this);go_wp2_with fail;refine(gX _ _ _ _ (f i) HK.out).mono ?_;rw[hp];rintro r w1 ⟨rfl,hb⟩;have HB1:=aA (aB HB.out hb)
     clear hb;go_wp2;go_ret;exact⟨congrArg (fun z=>Ending.returned (Value.bool z)) HE.out.symm,HB1.out⟩
    ·go_wp2_with fail;refine(gX _ _ _ _ (f i) HK.out).mono ?_;rw[hp];rintro r w1 ⟨rfl,hb⟩;have HB1:=aA (aB HB.out hb)
     have g1:=HG.out w1 hb;clear hb g0;by_cases h0:ln i=0
     ·have HE:Hid (aW n ln f=false):=decide_eq_false (fun hh=>(hh.2 i hlt).1 h0);have hz:((ln i:Int)==0)=true:=by rw[h0];rfl
      clear h0;go_wp2;go_ret;exact⟨congrArg (fun z=>Ending.returned (Value.bool z)) HE.out.symm,HB1.out⟩
     ·have hz:((ln i:Int)==0)=false:=by rw[beq_eq_false_iff_ne];omega
      have HZ:=aA h0;clear h0;go_wp2;go_roundw
      case rel=>exact⟨i+1,by omega,by go_num,HB1.out,fun j hj=>by
       by_cases e:j=i
       ·rw[e];exact⟨HZ.out,hp⟩
       ·exact HJ.out j (by omega)⟩
      case measure=>simp[intOf];omega
   ·have hnl:¬(i:Int)<(n:Int):=by omega
    have hie:i=n:=by omega
    subst hie;have HE:Hid (aW i ln f=true):=decide_eq_true ⟨by omega,hJ⟩
    have HB:=aA hB;clear hB hJ;go_wp2;go_ret;exact⟨congrArg (fun z=>Ending.returned (Value.bool z)) HE.out.symm,HB.out⟩
end Go.Proofs.YtncffcaabnjioaaGreat
namespace Go.Proofs.YtncffcaabnjioaaGreat
open Go.RowKit
set_option linter.unusedVariables false
theorem M4.ext {w:World} {b:Nat} {x y d e:Int} (h:M4 w b x y d e):(∀u:cX w,u.1.cell? ⟨b,0,none⟩=some (.int .i64 x))∧(∀u:cX w,u.1.cell? ⟨b,1,none⟩=some (.int .i64 y))∧(∀u:cX w,u.1.cell? ⟨b,2,none⟩=some (.int .i64 d))∧(∀u:cX w,u.1.cell? ⟨b,3,none⟩=some (.int .i64 e)):=
 ⟨fun u=>(u.cell h.lt).trans h.1,fun u=>(u.cell h.lt).trans h.2.1,fun u=>(u.cell h.lt).trans h.2.2.1,fun u=>(u.cell h.lt).trans h.2.2.2⟩
theorem uN {x y d e x' y' d' e':Int} {m:M} {b:Bool} (h:M.over ⟨x,y,d,e⟩ ⟨x',y',d',e'⟩=(m,b)) (w:World):Calls Tryz.prog 133 #[.agg #[.int .i64 x,.int .i64 y,.int .i64 d,.int .i64 e],.agg #[.int .i64 x',.int .i64 y',.int .i64 d',.int .i64 e']] w fun r w'=>r= .returned (.tuple #[.agg #[.int .i64 m.x,.int .i64 m.y,.int .i64 m.d,.int .i64 m.e],.bool b])∧Below w.heap.size w w':=by have:=PJ x y d e x' y' d' e' w;rw[h]at this;exact this
theorem DJ {x y d e x' y' d' e':Int} {m:M} {b:Bool} (h:M.over ⟨x,y,d,e⟩ ⟨x',y',d',e'⟩=(m,b)) (w:World):Calls Tryz.prog 148 #[.agg #[.int .i64 x,.int .i64 y,.int .i64 d,.int .i64 e],.agg #[.int .i64 x',.int .i64 y',.int .i64 d',.int .i64 e']] w fun r w'=>r= .returned (.tuple #[.agg #[.int .i64 m.x,.int .i64 m.y,.int .i64 m.d,.int .i64 m.e],.bool b])∧Below w.heap.size w w':=by have:=PK x y d e x' y' d' e' w;rw[h]at this;exact this
theorem DF {x y d e x' y' d' e':Int} {m:M} (h:M.both ⟨x,y,d,e⟩ ⟨x',y',d',e'⟩=m) (w:World):Calls Tryz.prog 136 #[.agg #[.int .i64 x,.int .i64 y,.int .i64 d,.int .i64 e],.agg #[.int .i64 x',.int .i64 y',.int .i64 d',.int .i64 e']] w fun r w'=>r= .returned (.agg #[.int .i64 m.x,.int .i64 m.y,.int .i64 m.d,.int .i64 m.e])∧Below w.heap.size w w':=by have:=PH x y d e x' y' d' e' w;rw[h]at this;exact this
theorem DG {x y d e x' y' d' e':Int} {m:M} (h:M.both ⟨x,y,d,e⟩ ⟨x',y',d',e'⟩=m) (w:World):Calls Tryz.prog 169 #[.agg #[.int .i64 x,.int .i64 y,.int .i64 d,.int .i64 e],.agg #[.int .i64 x',.int .i64 y',.int .i64 d',.int .i64 e']] w fun r w'=>r= .returned (.agg #[.int .i64 m.x,.int .i64 m.y,.int .i64 m.d,.int .i64 m.e])∧Below w.heap.size w w':=by have:=PI x y d e x' y' d' e' w;rw[h]at this;exact this
theorem vK {a b:M} (ha:a.ok=true) (hb:b.ok=true) (h:a.x≤b.x∧a.y≤b.y∧a.d≤b.d∧a.e≤b.e):a.dvd b=true:=by simp[M.dvd,ha,hb,h]
theorem IV {a b l h:Int} (ha:l≤a∧a≤h) (hb:l≤b∧b≤h):l≤mx a b∧mx a b≤h∧a≤mx a b∧b≤mx a b:=by unfold mx;split<;>omega
theorem IW {a b c:Int} (ha:a≤c) (hb:b≤c):mx a b≤c:=by unfold mx;split<;>omega
theorem rC {a b p:M} (ha:a.ok=true) (hb:b.ok=true) (hp:M.both a b=p):a.dvd p=true∧b.dvd p=true∧(∀c:M,a.dvd c=true→b.dvd c=true→p.dvd c=true)∧M.both a a=a:=by
 rw[M.both,if_pos ⟨ha,hb⟩]at hp;subst hp;have ka:=M.ok_iff.1 ha
 have kb:=M.ok_iff.1 hb;have hx:=IV (a:=a.x) (b:=b.x) (l:=0) (h:=15) (by omega) (by omega)
 have hy:=IV (a:=a.y) (b:=b.y) (l:=0) (h:=15) (by omega) (by omega);have hd:=IV (a:=a.d) (b:=b.d) (l:=0) (h:=15) (by omega) (by omega)
 have he:=IV (a:=a.e) (b:=b.e) (l:=0) (h:=15) (by omega) (by omega);have hok:M.ok ⟨mx a.x b.x,mx a.y b.y,mx a.d b.d,mx a.e b.e⟩=true:=M.ok_iff.2 (by dsimp only;omega)
 refine⟨vK ha hok (by dsimp only;omega),vK hb hok (by dsimp only;omega),fun c h1 h2=>?_,?_⟩
 ·have k1:=kF h1;have k2:=kF h2
  exact vK hok k1.2.1 ⟨IW k1.2.2.1 k2.2.2.1,IW k1.2.2.2.1 k2.2.2.2.1,IW k1.2.2.2.2.1 k2.2.2.2.2.1,IW k1.2.2.2.2.2 k2.2.2.2.2.2⟩
 ·rw[M.both,if_pos ⟨ha,ha⟩];have:∀z:Int,mx z z=z:=fun z=>by unfold mx;split<;>rfl
  simp only[this]
def bH (o:Int) (n:Nat) (f:Nat→T):Bool:=decide (1≤o∧o≤3)&&aN n f&&decide (0<n)
def bO (o:Int) (n:Nat) (f:Nat→T):T:=if bH o n f=true then f (aX o f n)else⟨0,⟨0,0,0,0⟩⟩
theorem wM {o:Int} {n:Nat} {f:Nat→T} (h:bH o n f=false):bO o n f=⟨0,⟨0,0,0,0⟩⟩:=by rw[bO,if_neg (by rw[h];decide)]
theorem eF {o:Int} {n:Nat} {f:Nat→T} (h:bH o n f=true):bO o n f=f (aX o f n):=by rw[bO,if_pos h]
end Go.Proofs.YtncffcaabnjioaaGreat
