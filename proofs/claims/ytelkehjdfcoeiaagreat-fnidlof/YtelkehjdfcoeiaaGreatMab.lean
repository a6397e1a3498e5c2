/-
  What the functions of chapter 2's model return: monomials as four numbers.
-/
import Derived.Test.YtelkehjdfcoeiaaGreatMaa
import Derived.Deep.RegionHeld3
import Derived.Deep.Light
set_option maxHeartbeats 2000000
namespace Go.Proofs.YtelkehjdfcoeiaaGreat
open Go.RowKit
set_option linter.unusedVariables false
structure M where
 x:Int
 y:Int
 d:Int
 e:Int
def M.ok (m:M):Bool:=decide (0≤m.x∧m.x≤15∧0≤m.y∧m.y≤15∧0≤m.d∧m.d≤15∧0≤m.e∧m.e≤15)
theorem M.ok_iff {m:M}:m.ok=true↔0≤m.x∧m.x≤15∧0≤m.y∧m.y≤15∧0≤m.d∧m.d≤15∧0≤m.e∧m.e≤15:=by simp[M.ok]
theorem M.ok_not {m:M}:m.ok=false↔¬(0≤m.x∧m.x≤15∧0≤m.y∧m.y≤15∧0≤m.d∧m.d≤15∧0≤m.e∧m.e≤15):=by rw[←M.ok_iff];simp
def M.deg (m:M):Int:=if m.ok then m.x+m.y+m.d+m.e else 0
def c3 (a b:Int):Int:=if a<b then -1 else if b<a then 1 else 0
def M.lex (a b:M):Int:=if a.d≠b.d then c3 a.d b.d else if a.e≠b.e then c3 a.e b.e else if a.x≠b.x then c3 a.x b.x else c3 a.y b.y
def M.ord (o:Int) (a b:M):Int:=
 if o=1∧a.deg≠b.deg then c3 a.deg b.deg else if o=3∧a.d+a.x≠b.d+b.x then c3 (a.d+a.x) (b.d+b.x)else M.lex a b
def M.cmp (o:Int) (a b:M):Int:=if(1≤o∧o≤3)∧a.ok=true∧b.ok=true then M.ord o a b else 0
def M.zero:M:=⟨0,0,0,0⟩
def M.sum (a b:M):M:=⟨a.x+b.x,a.y+b.y,a.d+b.d,a.e+b.e⟩
def M.mul (a b:M):M×Bool:=if a.ok=true∧b.ok=true∧(a.sum b).ok=true then(a.sum b,true)else(M.zero,false)
def M.dvd (a b:M):Bool:=a.ok&&b.ok&&decide (a.x≤b.x∧a.y≤b.y∧a.d≤b.d∧a.e≤b.e)
def M.diff (b a:M):M:=⟨b.x-a.x,b.y-a.y,b.d-a.d,b.e-a.e⟩
def M.over (b a:M):M×Bool:=if a.dvd b=true then(b.diff a,true)else(M.zero,false)
def mx (a b:Int):Int:=if b<a then a else b
def M.both (a b:M):M:=if a.ok=true∧b.ok=true then⟨mx a.x b.x,mx a.y b.y,mx a.d b.d,mx a.e b.e⟩else M.zero
theorem aA {p:Prop} (h:p):Hid p:=h
theorem aN {W w1:World} (hb:Below W.heap.size W w1):(∀b o,b<W.heap.size→w1.cell? ⟨b,o,none⟩=W.cell? ⟨b,o,none⟩)∧(∀b o,b<W.heap.size→w1.frozen? ⟨b,o,none⟩=W.frozen? ⟨b,o,none⟩):=
 ⟨fun b o h=>hb.cell (p:=⟨b,o,none⟩) h,fun b o h=>hb.frozen (p:=⟨b,o,none⟩) h⟩
theorem lT (x y d e:Int) (w:World):Calls Tryz.prog 105 #[.agg #[.int .i64 x,.int .i64 y,.int .i64 d,.int .i64 e]] w fun r w'=>r= .returned (.bool (M.ok ⟨x,y,d,e⟩))∧Below w.heap.size w w':=by
 by_cases hx:0≤x∧x≤15
 ·by_cases hy:0≤y∧y≤15
  ·by_cases hd:0≤d∧d≤15
   ·by_cases he:0≤e∧e≤15
    ·rw[M.ok_iff.2 ⟨hx.1,hx.2,hy.1,hy.2,hd.1,hd.2,he.1,he.2⟩];obtain⟨x1,x2⟩:=hx;obtain⟨y1,y2⟩:=hy;obtain⟨d1,d2⟩:=hd;obtain⟨e1,e2⟩:=he;go_enter Tryz.func105,Tryz.ntmps105;go_wp2_with (first|(go_at_call 30;first|(refine(cX _ _ _ _ (by omega) (by omega)).mono ?_;rintro e w' ⟨rfl,rfl⟩)|(refine(eC _ _ _ _ (by omega)).mono ?_;rintro e w' ⟨rfl,rfl⟩)));go_ret;exact⟨rfl,(bG _ _).alloc (Nat.le_refl _) _⟩
    ·rw[M.ok_not.2 (fun h=>he ⟨h.2.2.2.2.2.2.1,h.2.2.2.2.2.2.2⟩)];go_enter Tryz.func105,Tryz.ntmps105;go_wp2_with (first|(go_at_call 30;first|(refine(cX _ _ _ _ (by omega) (by omega)).mono ?_;rintro e w' ⟨rfl,rfl⟩)|(refine(eC _ _ _ _ (by omega)).mono ?_;rintro e w' ⟨rfl,rfl⟩)));go_ret;exact⟨rfl,(bG _ _).alloc (Nat.le_refl _) _⟩
   ·rw[M.ok_not.2 (fun h=>hd ⟨h.2.2.2.2.1,h.2.2.2.2.2.1⟩)];go_enter Tryz.func105,Tryz.ntmps105;go_wp2_with (first|(go_at_call 30;first|(refine(cX _ _ _ _ (by omega) (by omega)).mono ?_;rintro e w' ⟨rfl,rfl⟩)|(refine(eC _ _ _ _ (by omega)).mono ?_;rintro e w' ⟨rfl,rfl⟩)));go_ret;exact⟨rfl,(bG _ _).alloc (Nat.le_refl _) _⟩
  ·rw[M.ok_not.2 (fun h=>hy ⟨h.2.2.1,h.2.2.2.1⟩)];go_enter Tryz.func105,Tryz.ntmps105;go_wp2_with (first|(go_at_call 30;first|(refine(cX _ _ _ _ (by omega) (by omega)).mono ?_;rintro e w' ⟨rfl,rfl⟩)|(refine(eC _ _ _ _ (by omega)).mono ?_;rintro e w' ⟨rfl,rfl⟩)));go_ret;exact⟨rfl,(bG _ _).alloc (Nat.le_refl _) _⟩
 ·rw[M.ok_not.2 (fun h=>hx ⟨h.1,h.2.1⟩)];go_enter Tryz.func105,Tryz.ntmps105;go_wp2_with (first|(go_at_call 30;first|(refine(cX _ _ _ _ (by omega) (by omega)).mono ?_;rintro e w' ⟨rfl,rfl⟩)|(refine(eC _ _ _ _ (by omega)).mono ?_;rintro e w' ⟨rfl,rfl⟩)));go_ret;exact⟨rfl,(bG _ _).alloc (Nat.le_refl _) _⟩
theorem bM {x y d e:Int} {b:Bool} (h:M.ok ⟨x,y,d,e⟩=b) (w:World):Calls Tryz.prog 105 #[.agg #[.int .i64 x,.int .i64 y,.int .i64 d,.int .i64 e]] w fun r w'=>r= .returned (.bool b)∧Below w.heap.size w w':=by rw[←h];exact lT x y d e w
theorem sK (x y d e:Int) (w:World):Calls Tryz.prog 153 #[.agg #[.int .i64 x,.int .i64 y,.int .i64 d,.int .i64 e]] w fun r w'=>r= .returned (.int .i64 (M.deg ⟨x,y,d,e⟩))∧Below w.heap.size w w':=by
 cases h:M.ok ⟨x,y,d,e⟩
 ·have hd:M.deg ⟨x,y,d,e⟩=0:=by simp[M.deg,h]
  rw[hd];go_enter Tryz.func153,Tryz.ntmps153;go_wp2_with fail;refine(lT _ _ _ _ _).mono ?_;rw[h];rintro r w1 ⟨rfl,hb⟩;go_wp2;go_ret;exact⟨rfl,(bG _ _).trans (((bG _ _).alloc (Nat.le_refl _) _).trans (hb.mono (by simp)))⟩
 ·have hd:M.deg ⟨x,y,d,e⟩=x+y+d+e:=by simp[M.deg,h]
  rw[hd];obtain⟨x1,x2,y1,y2,d1,d2,e1,e2⟩:=M.ok_iff.1 h;simp only at x1 x2 y1 y2 d1 d2 e1 e2;go_enter Tryz.func153,Tryz.ntmps153;go_wp2_with fail;refine(lT _ _ _ _ _).mono ?_;rw[h];rintro r w1 ⟨rfl,hb⟩;obtain⟨hc,hf⟩:=aN hb;go_wp2;go_ret;exact⟨rfl,((bG _ _).alloc (Nat.le_refl _) _).trans (hb.mono (by simp))⟩
theorem OG (a b:Int) (w:World):Calls Tryz.prog 154 #[.int .i64 a,.int .i64 b] w fun r w'=>r= .returned (.int .i64 (c3 a b))∧w'=w:=by
 by_cases h1:a<b
 ·have e1:c3 a b= -1:=by simp[c3,h1]
  rw[e1];go_enter Tryz.func154,Tryz.ntmps154;go_wp2;go_ret;exact⟨rfl,rfl⟩
 ·by_cases h2:b<a
  ·have e1:c3 a b=1:=by simp[c3,h1,h2]
   rw[e1];go_enter Tryz.func154,Tryz.ntmps154;go_wp2;go_ret;exact⟨rfl,rfl⟩
  ·have e1:c3 a b=0:=by simp[c3,h1,h2]
   rw[e1];go_enter Tryz.func154,Tryz.ntmps154;go_wp2;go_ret;exact⟨rfl,rfl⟩
theorem Fo (x y d e x' y' d' e':Int) (w:World):Calls Tryz.prog 155 #[.agg #[.int .i64 x,.int .i64 y,.int .i64 d,.int .i64 e],.agg #[.int .i64 x',.int .i64 y',.int .i64 d',.int .i64 e']] w fun r w'=>r= .returned (.int .i64 (M.lex ⟨x,y,d,e⟩ ⟨x',y',d',e'⟩))∧Below w.heap.size w w':=by
 by_cases hd:d=d'
 ·by_cases he:e=e'
  ·by_cases hx:x=x'
   ·have e1:M.lex ⟨x,y,d,e⟩ ⟨x',y',d',e'⟩=c3 y y':=by simp[M.lex,hd,he,hx]
    rw[e1];have b1:(d !=d')=false:=by simp[hd]
    have b2:(e !=e')=false:=by simp[he]
    have b3:(x !=x')=false:=by simp[hx]
    clear hd he hx e1;go_enter Tryz.func155,Tryz.ntmps155;go_wp2_with (first|(go_at_call 154;refine(OG _ _ _).mono ?_;rintro r w' ⟨rfl,rfl⟩));go_ret;exact⟨rfl,((bG _ _).alloc (Nat.le_refl _) _).alloc (by simp) _⟩
   ·have e1:M.lex ⟨x,y,d,e⟩ ⟨x',y',d',e'⟩=c3 x x':=by simp[M.lex,hd,he,hx]
    rw[e1];have b1:(d !=d')=false:=by simp[hd]
    have b2:(e !=e')=false:=by simp[he]
    have b3:(x !=x')=true:=by simp[hx]
    clear hd he hx e1;go_enter Tryz.func155,Tryz.ntmps155;go_wp2_with (first|(go_at_call 154;refine(OG _ _ _).mono ?_;rintro r w' ⟨rfl,rfl⟩));go_ret;exact⟨rfl,((bG _ _).alloc (Nat.le_refl _) _).alloc (by simp) _⟩
  ·have e1:M.lex ⟨x,y,d,e⟩ ⟨x',y',d',e'⟩=c3 e e':=by simp[M.lex,hd,he]
   rw[e1];have b1:(d !=d')=false:=by simp[hd]
   have b2:(e !=e')=true:=by simp[he]
   clear hd he e1;go_enter Tryz.func155,Tryz.ntmps155;go_wp2_with (first|(go_at_call 154;refine(OG _ _ _).mono ?_;rintro r w' ⟨rfl,rfl⟩));go_ret;exact⟨rfl,((bG _ _).alloc (Nat.le_refl _) _).alloc (by simp) _⟩
 ·have e1:M.lex ⟨x,y,d,e⟩ ⟨x',y',d',e'⟩=c3 d d':=by simp[M.lex,hd]
  rw[e1];have b1:(d !=d')=true:=by simp[hd]
  clear hd e1;go_enter Tryz.func155,Tryz.ntmps155;go_wp2_with (first|(go_at_call 154;refine(OG _ _ _).mono ?_;rintro r w' ⟨rfl,rfl⟩));go_ret;exact⟨rfl,((bG _ _).alloc (Nat.le_refl _) _).alloc (by simp) _⟩
theorem aB {w W W':World} (a:Below w.heap.size w W) (h:Below W.heap.size W W'):Below w.heap.size w W':=a.trans (h.mono a.size)
theorem aS (w:World) (A B:Obj):Below w.heap.size w ((w.alloc A).alloc B):=((bG _ _).alloc (Nat.le_refl _) _).alloc (by simp) _
theorem aX (w:World) (A B C:Obj):Below w.heap.size w (((w.alloc A).alloc B).alloc C):=(aS w A B).alloc (aS w A B).size _
theorem dV {n B:Nat} {a w:World} (h:Below n a w) (hB:n≤B) (u0 u1 u2 u3:Value):Below n a ((((w.setCell ⟨B,0,none⟩ u0).setCell ⟨B,1,none⟩ u1).setCell ⟨B,2,none⟩ u2).setCell ⟨B,3,none⟩ u3):=
 (((h.setCell hB u0).setCell hB u1).setCell hB u2).setCell hB u3
theorem RY (x y d e x' y' d' e':Int) (w:World):Calls Tryz.prog 111 #[.int .i64 1,.agg #[.int .i64 x,.int .i64 y,.int .i64 d,.int .i64 e],.agg #[.int .i64 x',.int .i64 y',.int .i64 d',.int .i64 e']] w fun r w'=>r= .returned (.int .i64 (M.ord 1 ⟨x,y,d,e⟩ ⟨x',y',d',e'⟩))∧Below w.heap.size w w':=by
 by_cases hd:M.deg ⟨x,y,d,e⟩=M.deg ⟨x',y',d',e'⟩
 ·have e1:M.ord 1 ⟨x,y,d,e⟩ ⟨x',y',d',e'⟩=M.lex ⟨x,y,d,e⟩ ⟨x',y',d',e'⟩:=by simp[M.ord,hd]
  rw[e1];have b1:(M.deg ⟨x,y,d,e⟩!=M.deg ⟨x',y',d',e'⟩)=false:=by simp[hd]
  clear hd e1;go_enter Tryz.func111,Tryz.ntmps111;go_wp2_with fail
  go_region_held3 (fun u=>u.cell? ⟨w.heap.size,0,none⟩=some (.int .i64 x)∧u.cell? ⟨w.heap.size,1,none⟩=some (.int .i64 y)∧u.cell? ⟨w.heap.size,2,none⟩=some (.int .i64 d)∧u.cell? ⟨w.heap.size,3,none⟩=some (.int .i64 e)∧u.cell? ⟨w.heap.size+1,0,none⟩=some (.int .i64 x')∧u.cell? ⟨w.heap.size+1,1,none⟩=some (.int .i64 y')∧u.cell? ⟨w.heap.size+1,2,none⟩=some (.int .i64 d')∧u.cell? ⟨w.heap.size+1,3,none⟩=some (.int .i64 e')) ((go_light;first|(refine⟨?_,?_,?_,?_,?_,?_,?_,?_⟩<;>(simp only[(aN hb4).1 _ _ hz3,(aN hb4).1 _ _ hy3, *];done))|(refine⟨?_,?_,?_,?_,?_,?_,?_,?_⟩<;>(simp only[(aN hb3).1 _ _ hz2,(aN hb3).1 _ _ hy2, *];done))|(refine⟨?_,?_,?_,?_,?_,?_,?_,?_⟩<;>(simp only[(aN hb2).1 _ _ hz1,(aN hb2).1 _ _ hy1, *];done))|(have hc:=(aN hb1).1;refine⟨?_,?_,?_,?_,?_,?_,?_,?_⟩<;>go_simp<;>done)|(refine⟨?_,?_,?_,?_,?_,?_,?_,?_⟩<;>go_simp<;>done))) (first|(go_at_call_of 153 (Value.int IntKind.i64 x);refine(sK x y d e _).mono ?_;rintro r w1 ⟨rfl,hb1⟩;have hz1:w.heap.size<w1.heap.size:=(by have:=hb1.size;first|omega|(simp at this;omega));have hy1:w.heap.size+1<w1.heap.size:=(by have:=hb1.size;first|omega|(simp at this;omega)))|(go_at_call_of 153 (Value.int IntKind.i64 x');refine(sK x' y' d' e' _).mono ?_;rintro r w2 ⟨rfl,hb2⟩;have hz2:w.heap.size<w2.heap.size:=(by have:=hb2.size;first|omega|(simp at this;omega));have hy2:w.heap.size+1<w2.heap.size:=(by have:=hb2.size;first|omega|(simp at this;omega))))
  go_wp2_with (first|(go_at_call 155;refine(Fo x y d e x' y' d' e' _).mono ?_;rintro r w5 ⟨rfl,hb5⟩));go_ret;exact⟨rfl,aB (aB (aB (aS w _ _).drew hb1) hb2) hb5⟩
 ·have e1:M.ord 1 ⟨x,y,d,e⟩ ⟨x',y',d',e'⟩=c3 (M.deg ⟨x,y,d,e⟩) (M.deg ⟨x',y',d',e'⟩):=by simp[M.ord,hd]
  rw[e1];have b1:(M.deg ⟨x,y,d,e⟩!=M.deg ⟨x',y',d',e'⟩)=true:=by simp[hd]
  clear hd e1;go_enter Tryz.func111,Tryz.ntmps111;go_wp2_with fail
  go_region_held3 (fun u=>u.cell? ⟨w.heap.size,0,none⟩=some (.int .i64 x)∧u.cell? ⟨w.heap.size,1,none⟩=some (.int .i64 y)∧u.cell? ⟨w.heap.size,2,none⟩=some (.int .i64 d)∧u.cell? ⟨w.heap.size,3,none⟩=some (.int .i64 e)∧u.cell? ⟨w.heap.size+1,0,none⟩=some (.int .i64 x')∧u.cell? ⟨w.heap.size+1,1,none⟩=some (.int .i64 y')∧u.cell? ⟨w.heap.size+1,2,none⟩=some (.int .i64 d')∧u.cell? ⟨w.heap.size+1,3,none⟩=some (.int .i64 e')) ((go_light;first|(refine⟨?_,?_,?_,?_,?_,?_,?_,?_⟩<;>(simp only[(aN hb4).1 _ _ hz3,(aN hb4).1 _ _ hy3, *];done))|(refine⟨?_,?_,?_,?_,?_,?_,?_,?_⟩<;>(simp only[(aN hb3).1 _ _ hz2,(aN hb3).1 _ _ hy2, *];done))|(refine⟨?_,?_,?_,?_,?_,?_,?_,?_⟩<;>(simp only[(aN hb2).1 _ _ hz1,(aN hb2).1 _ _ hy1, *];done))|(have hc:=(aN hb1).1;refine⟨?_,?_,?_,?_,?_,?_,?_,?_⟩<;>go_simp<;>done)|(refine⟨?_,?_,?_,?_,?_,?_,?_,?_⟩<;>go_simp<;>done))) (first|(go_at_call_of 153 (Value.int IntKind.i64 x);refine(sK x y d e _).mono ?_;rintro r w1 ⟨rfl,hb1⟩;have hz1:w.heap.size<w1.heap.size:=(by have:=hb1.size;first|omega|(simp at this;omega));have hy1:w.heap.size+1<w1.heap.size:=(by have:=hb1.size;first|omega|(simp at this;omega)))|(go_at_call_of 153 (Value.int IntKind.i64 x');refine(sK x' y' d' e' _).mono ?_;rintro r w2 ⟨rfl,hb2⟩;have hz2:w.heap.size<w2.heap.size:=(by have:=hb2.size;first|omega|(simp at this;omega));have hy2:w.heap.size+1<w2.heap.size:=(by have:=hb2.size;first|omega|(simp at this;omega))))
  go_wp2_with fail
  go_region_held3 (fun u=>u.cell? ⟨w.heap.size,0,none⟩=some (.int .i64 x)∧u.cell? ⟨w.heap.size,1,none⟩=some (.int .i64 y)∧u.cell? ⟨w.heap.size,2,none⟩=some (.int .i64 d)∧u.cell? ⟨w.heap.size,3,none⟩=some (.int .i64 e)∧u.cell? ⟨w.heap.size+1,0,none⟩=some (.int .i64 x')∧u.cell? ⟨w.heap.size+1,1,none⟩=some (.int .i64 y')∧u.cell? ⟨w.heap.size+1,2,none⟩=some (.int .i64 d')∧u.cell? ⟨w.heap.size+1,3,none⟩=some (.int .i64 e')) ((go_light;first|(refine⟨?_,?_,?_,?_,?_,?_,?_,?_⟩<;>(simp only[(aN hb4).1 _ _ hz3,(aN hb4).1 _ _ hy3, *];done))|(refine⟨?_,?_,?_,?_,?_,?_,?_,?_⟩<;>(simp only[(aN hb3).1 _ _ hz2,(aN hb3).1 _ _ hy2, *];done))|(refine⟨?_,?_,?_,?_,?_,?_,?_,?_⟩<;>(simp only[(aN hb2).1 _ _ hz1,(aN hb2).1 _ _ hy1, *];done))|(have hc:=(aN hb1).1;refine⟨?_,?_,?_,?_,?_,?_,?_,?_⟩<;>go_simp<;>done)|(refine⟨?_,?_,?_,?_,?_,?_,?_,?_⟩<;>go_simp<;>done))) (first|(go_at_call_of 153 (Value.int IntKind.i64 x);refine(sK x y d e _).mono ?_;rintro r w3 ⟨rfl,hb3⟩;have hz3:w.heap.size<w3.heap.size:=(by have:=hb3.size;first|omega|(simp at this;omega));have hy3:w.heap.size+1<w3.heap.size:=(by have:=hb3.size;first|omega|(simp at this;omega)))|(go_at_call_of 153 (Value.int IntKind.i64 x');refine(sK x' y' d' e' _).mono ?_;rintro r w4 ⟨rfl,hb4⟩;have hz4:w.heap.size<w4.heap.size:=(by have:=hb4.size;first|omega|(simp at this;omega));have hy4:w.heap.size+1<w4.heap.size:=(by have:=hb4.size;first|omega|(simp at this;omega)))|(go_at_call 154;refine(OG _ _ _).mono ?_;rintro r w' ⟨rfl,rfl⟩))
  go_wp2;go_ret;exact⟨rfl,aB (aB (aB (aB (aS w _ _).drew hb1) hb2).drew hb3) hb4⟩
theorem Ml (o:Int) (x y d e x' y' d' e':Int) (w:World) (h1:o≠1) (h3:o≠3):Calls Tryz.prog 111 #[.int .i64 o,.agg #[.int .i64 x,.int .i64 y,.int .i64 d,.int .i64 e],.agg #[.int .i64 x',.int .i64 y',.int .i64 d',.int .i64 e']] w fun r w'=>r= .returned (.int .i64 (M.ord o ⟨x,y,d,e⟩ ⟨x',y',d',e'⟩))∧Below w.heap.size w w':=by
 have e1:M.ord o ⟨x,y,d,e⟩ ⟨x',y',d',e'⟩=M.lex ⟨x,y,d,e⟩ ⟨x',y',d',e'⟩:=by simp[M.ord,h1,h3]
 rw[e1];have b1:(o==1)=false:=by simp[h1]
 have b3:(o==3)=false:=by simp[h3]
 clear e1 h1 h3;go_enter Tryz.func111,Tryz.ntmps111;go_wp2_with fail
 go_region
 all_goals
  go_wp2_with (first|(go_at_call 155;refine(Fo x y d e x' y' d' e' _).mono ?_;rintro r w5 ⟨rfl,hb5⟩));go_ret;exact⟨rfl,aB (aS w _ _).drew hb5⟩
theorem Mm (x y d e x' y' d' e':Int) (w:World) (ha:M.ok ⟨x,y,d,e⟩=true) (hb:M.ok ⟨x',y',d',e'⟩=true):Calls Tryz.prog 111 #[.int .i64 3,.agg #[.int .i64 x,.int .i64 y,.int .i64 d,.int .i64 e],.agg #[.int .i64 x',.int .i64 y',.int .i64 d',.int .i64 e']] w fun r w'=>r= .returned (.int .i64 (M.ord 3 ⟨x,y,d,e⟩ ⟨x',y',d',e'⟩))∧Below w.heap.size w w':=by
 obtain⟨x1,x2,y1,y2,d1,d2,e1,e2⟩:=M.ok_iff.1 ha;obtain⟨x3,x4,y3,y4,d3,d4,e3,e4⟩:=M.ok_iff.1 hb;simp only at x1 x2 y1 y2 d1 d2 e1 e2 x3 x4 y3 y4 d3 d4 e3 e4;clear ha hb;by_cases hs:d+x=d'+x'
 ·have r1:M.ord 3 ⟨x,y,d,e⟩ ⟨x',y',d',e'⟩=M.lex ⟨x,y,d,e⟩ ⟨x',y',d',e'⟩:=by simp[M.ord,hs]
  rw[r1];have b1:(d+x !=d'+x')=false:=by simp[hs]
  clear hs r1;go_enter Tryz.func111,Tryz.ntmps111;go_wp2_with fail
  go_region
  all_goals
   go_wp2_with (first|(go_at_call 155;refine(Fo x y d e x' y' d' e' _).mono ?_;rintro r w5 ⟨rfl,hb5⟩)|(go_at_call 154;refine(OG _ _ _).mono ?_;rintro r w' ⟨rfl,rfl⟩));go_ret;exact⟨rfl,aB (aS w _ _).drew hb5⟩
 ·have r1:M.ord 3 ⟨x,y,d,e⟩ ⟨x',y',d',e'⟩=c3 (d+x) (d'+x'):=by simp[M.ord,hs]
  rw[r1];have b1:(d+x !=d'+x')=true:=by simp[hs]
  clear hs r1;go_enter Tryz.func111,Tryz.ntmps111;go_wp2_with fail
  go_region
  all_goals
   go_wp2_with (first|(go_at_call 155;refine(Fo x y d e x' y' d' e' _).mono ?_;rintro r w5 ⟨rfl,hb5⟩)|(go_at_call 154;refine(OG _ _ _).mono ?_;rintro r w' ⟨rfl,rfl⟩));go_ret;exact⟨rfl,(aS w _ _).drew⟩
theorem Kf (o:Int) (x y d e x' y' d' e':Int) (w:World) (h:o=3→M.ok ⟨x,y,d,e⟩=true∧M.ok ⟨x',y',d',e'⟩=true):Calls Tryz.prog 111 #[.int .i64 o,.agg #[.int .i64 x,.int .i64 y,.int .i64 d,.int .i64 e],.agg #[.int .i64 x',.int .i64 y',.int .i64 d',.int .i64 e']] w fun r w'=>r= .returned (.int .i64 (M.ord o ⟨x,y,d,e⟩ ⟨x',y',d',e'⟩))∧Below w.heap.size w w':=by
 by_cases h1:o=1
 ·subst h1;exact RY x y d e x' y' d' e' w
 ·by_cases h3:o=3
  ·subst h3;exact Mm x y d e x' y' d' e' w (h rfl).1 (h rfl).2
  ·exact Ml o x y d e x' y' d' e' w h1 h3
theorem RI (x y d e x' y' d' e':Int) (w:World):Calls Tryz.prog 181 #[.agg #[.int .i64 x,.int .i64 y,.int .i64 d,.int .i64 e],.agg #[.int .i64 x',.int .i64 y',.int .i64 d',.int .i64 e']] w fun r w'=>r= .returned (.tuple #[.agg #[.int .i64 (M.mul ⟨x,y,d,e⟩ ⟨x',y',d',e'⟩).1.x,.int .i64 (M.mul ⟨x,y,d,e⟩ ⟨x',y',d',e'⟩).1.y,.int .i64 (M.mul ⟨x,y,d,e⟩ ⟨x',y',d',e'⟩).1.d,.int .i64 (M.mul ⟨x,y,d,e⟩ ⟨x',y',d',e'⟩).1.e],.bool (M.mul ⟨x,y,d,e⟩ ⟨x',y',d',e'⟩).2])∧Below w.heap.size w w':=by
 cases ha:M.ok ⟨x,y,d,e⟩
 ·have r1:M.mul ⟨x,y,d,e⟩ ⟨x',y',d',e'⟩=(M.zero,false):=by simp[M.mul,ha]
  rw[r1];simp only[M.zero];go_enter Tryz.func181,Tryz.ntmps181;go_wp2_with fail;refine(lT _ _ _ _ _).mono ?_;rw[ha];rintro r w1 ⟨rfl,hb1⟩;obtain⟨hc1,hf1⟩:=aN hb1;have hz1:w.heap.size+1+1<w1.heap.size:=by have:=hb1.size;simp at this;omega
  go_wp2;refine cD (v:=.tuple #[.agg #[.int .i64 0,.int .i64 0,.int .i64 0,.int .i64 0],.bool false]) (by simp[results,Tryz.results181,go_sem, *]) rfl ⟨rfl,?_⟩;exact dV (aB (aX w _ _ _) hb1) (by omega) _ _ _ _
 ·cases hb:M.ok ⟨x',y',d',e'⟩
  ·have r1:M.mul ⟨x,y,d,e⟩ ⟨x',y',d',e'⟩=(M.zero,false):=by simp[M.mul,hb]
   rw[r1];simp only[M.zero];clear r1;go_enter Tryz.func181,Tryz.ntmps181;go_wp2_with fail;refine(lT _ _ _ _ _).mono ?_;rw[ha];rintro r w1 ⟨rfl,hb1⟩;obtain⟨hc1,hf1⟩:=aN hb1;have hz1:w.heap.size+1+1<w1.heap.size:=by have:=hb1.size;simp at this;omega
   go_wp2_with fail;refine(lT _ _ _ _ _).mono ?_;rw[hb];rintro r w2 ⟨rfl,hb2⟩;obtain⟨hc2,hf2⟩:=aN hb2;have hz2:w.heap.size+1+1<w2.heap.size:=by have:=hb2.size;omega
   go_wp2;refine cD (v:=.tuple #[.agg #[.int .i64 0,.int .i64 0,.int .i64 0,.int .i64 0],.bool false]) (by simp[results,Tryz.results181,go_sem, *]) rfl ⟨rfl,?_⟩;exact dV (aB (aB (aX w _ _ _) hb1) hb2) (by omega) _ _ _ _
  ·obtain⟨x1,x2,y1,y2,d1,d2,e1,e2⟩:=M.ok_iff.1 ha;obtain⟨x3,x4,y3,y4,d3,d4,e3,e4⟩:=M.ok_iff.1 hb;simp only at x1 x2 y1 y2 d1 d2 e1 e2 x3 x4 y3 y4 d3 d4 e3 e4;cases hs:M.ok ⟨x+x',y+y',d+d',e+e'⟩
   ·have r1:M.mul ⟨x,y,d,e⟩ ⟨x',y',d',e'⟩=(M.zero,false):=by simp[M.mul,M.sum,hs]
    rw[r1];simp only[M.zero];clear r1;go_enter Tryz.func181,Tryz.ntmps181;go_wp2_with fail;refine(lT _ _ _ _ _).mono ?_;rw[ha];rintro r w1 ⟨rfl,hb1⟩;obtain⟨hc1,hf1⟩:=aN hb1;have hz1:w.heap.size+1+1<w1.heap.size:=by have:=hb1.size;simp at this;omega
    have hz0:w.heap.size+1<w1.heap.size:=by omega
    have hzz:w.heap.size<w1.heap.size:=by omega
    go_wp2_with fail;refine(lT _ _ _ _ _).mono ?_;rw[hb];rintro r w2 ⟨rfl,hb2⟩;obtain⟨hc2,hf2⟩:=aN hb2;have hz2:w.heap.size+1+1<w2.heap.size:=by have:=hb2.size;omega
    go_wp2_with fail;refine(lT _ _ _ _ _).mono ?_;rw[hs];rintro r w3 ⟨rfl,hb3⟩;obtain⟨hc3,hf3⟩:=aN (aB ((bG w2.heap.size w2).alloc (Nat.le_refl _) _) hb3);have ht:∀i,w3.cell? ⟨w2.heap.size,i,none⟩=#[Value.int .i64 (x+x'),.int .i64 (y+y'),.int .i64 (d+d'),.int .i64 (e+e')][i]? :=fun i=>by rw[hb3.cell (p:=⟨w2.heap.size,i,none⟩) (by simp),World.cell?_alloc_at _ _ _ _ rfl]
    have hB:=aB ((aB (aB (aX w _ _ _) hb1) hb2).alloc (aB (aB (aX w _ _ _) hb1) hb2).size _) hb3;go_wp2;refine cD (v:=.tuple #[.agg #[.int .i64 0,.int .i64 0,.int .i64 0,.int .i64 0],.bool false]) (by simp[results,Tryz.results181,go_sem, *]) rfl ⟨rfl,?_⟩;exact dV hB (by omega) _ _ _ _
   ·have r1:M.mul ⟨x,y,d,e⟩ ⟨x',y',d',e'⟩=(⟨x+x',y+y',d+d',e+e'⟩,true):=by simp[M.mul,M.sum,hs,ha,hb]
    rw[r1];clear r1;go_enter Tryz.func181,Tryz.ntmps181;go_wp2_with fail;refine(lT _ _ _ _ _).mono ?_;rw[ha];rintro r w1 ⟨rfl,hb1⟩;obtain⟨hc1,hf1⟩:=aN hb1;have hz1:w.heap.size+1+1<w1.heap.size:=by have:=hb1.size;simp at this;omega
    have hz0:w.heap.size+1<w1.heap.size:=by omega
    have hzz:w.heap.size<w1.heap.size:=by omega
    go_wp2_with fail;refine(lT _ _ _ _ _).mono ?_;rw[hb];rintro r w2 ⟨rfl,hb2⟩;obtain⟨hc2,hf2⟩:=aN hb2;have hz2:w.heap.size+1+1<w2.heap.size:=by have:=hb2.size;omega
    go_wp2_with fail;refine(lT _ _ _ _ _).mono ?_;rw[hs];rintro r w3 ⟨rfl,hb3⟩;obtain⟨hc3,hf3⟩:=aN (aB ((bG w2.heap.size w2).alloc (Nat.le_refl _) _) hb3);have ht:∀i,w3.cell? ⟨w2.heap.size,i,none⟩=#[Value.int .i64 (x+x'),.int .i64 (y+y'),.int .i64 (d+d'),.int .i64 (e+e')][i]? :=fun i=>by rw[hb3.cell (p:=⟨w2.heap.size,i,none⟩) (by simp),World.cell?_alloc_at _ _ _ _ rfl]
    have hB:=aB ((aB (aB (aX w _ _ _) hb1) hb2).alloc (aB (aB (aX w _ _ _) hb1) hb2).size _) hb3;go_wp2;refine cD (v:=.tuple #[.agg #[.int .i64 (x+x'),.int .i64 (y+y'),.int .i64 (d+d'),.int .i64 (e+e')],.bool true]) (by simp[results,Tryz.results181,go_sem, *]) rfl ⟨rfl,?_⟩;exact dV hB (by omega) _ _ _ _
theorem LC (x y d e x' y' d' e':Int) (w:World):Calls Tryz.prog 133 #[.agg #[.int .i64 x,.int .i64 y,.int .i64 d,.int .i64 e],.agg #[.int .i64 x',.int .i64 y',.int .i64 d',.int .i64 e']] w fun r w'=>r= .returned (.bool (M.dvd ⟨x,y,d,e⟩ ⟨x',y',d',e'⟩))∧Below w.heap.size w w':=by
 cases ha:M.ok ⟨x,y,d,e⟩
 ·have r1:M.dvd ⟨x,y,d,e⟩ ⟨x',y',d',e'⟩=false:=by simp[M.dvd,ha]
  rw[r1];clear r1;go_enter Tryz.func133,Tryz.ntmps133;go_wp2_with fail;refine(bM ha _).mono ?_;rintro r w1 ⟨rfl,hb1⟩;go_wp2;go_ret;exact⟨rfl,aB (aS w _ _) hb1⟩
 ·cases hb:M.ok ⟨x',y',d',e'⟩
  ·have r1:M.dvd ⟨x,y,d,e⟩ ⟨x',y',d',e'⟩=false:=by simp[M.dvd,hb]
   rw[r1];clear r1;go_enter Tryz.func133,Tryz.ntmps133;go_wp2_with fail;refine(bM ha _).mono ?_;rintro r w1 ⟨rfl,hb1⟩;obtain⟨hc1,hf1⟩:=aN hb1;have hz1:w.heap.size+1<w1.heap.size:=by have:=hb1.size;simp at this;omega
   have hy1:w.heap.size<w1.heap.size:=by omega
   go_wp2_with fail;refine(bM hb _).mono ?_;rintro r w2 ⟨rfl,hb2⟩;obtain⟨hc2,hf2⟩:=aN hb2;go_wp2;go_ret;exact⟨rfl,aB (aB (aS w _ _) hb1) hb2⟩
  ·skip
   by_cases h0:x≤x'
   ·have t0:decide (x≤x')=true:=decide_eq_true h0;by_cases h1:y≤y'
    ·have t1:decide (y≤y')=true:=decide_eq_true h1;by_cases h2:d≤d'
     ·have t2:decide (d≤d')=true:=decide_eq_true h2;by_cases h3:e≤e'
      ·have t3:decide (e≤e')=true:=decide_eq_true h3;have r1:M.dvd ⟨x,y,d,e⟩ ⟨x',y',d',e'⟩=true:=by simp[M.dvd,ha,hb,h0,h1,h2,h3]
       rw[r1];clear r1;go_enter Tryz.func133,Tryz.ntmps133;go_wp2_with fail;refine(bM ha _).mono ?_;rintro r w1 ⟨rfl,hb1⟩;obtain⟨hc1,hf1⟩:=aN hb1;have hz1:w.heap.size+1<w1.heap.size:=by have:=hb1.size;simp at this;omega
       have hy1:w.heap.size<w1.heap.size:=by omega
       go_wp2_with fail;refine(bM hb _).mono ?_;rintro r w2 ⟨rfl,hb2⟩;obtain⟨hc2,hf2⟩:=aN hb2;go_wp2;go_ret;exact⟨rfl,aB (aB (aS w _ _) hb1) hb2⟩
      ·have t3:decide (e≤e')=false:=decide_eq_false h3;have r1:M.dvd ⟨x,y,d,e⟩ ⟨x',y',d',e'⟩=false:=by simp[M.dvd,h3]
       rw[r1];clear r1;go_enter Tryz.func133,Tryz.ntmps133;go_wp2_with fail;refine(bM ha _).mono ?_;rintro r w1 ⟨rfl,hb1⟩;obtain⟨hc1,hf1⟩:=aN hb1;have hz1:w.heap.size+1<w1.heap.size:=by have:=hb1.size;simp at this;omega
       have hy1:w.heap.size<w1.heap.size:=by omega
       go_wp2_with fail;refine(bM hb _).mono ?_;rintro r w2 ⟨rfl,hb2⟩;obtain⟨hc2,hf2⟩:=aN hb2;go_wp2;go_ret;exact⟨rfl,aB (aB (aS w _ _) hb1) hb2⟩
     ·have t2:decide (d≤d')=false:=decide_eq_false h2;have r1:M.dvd ⟨x,y,d,e⟩ ⟨x',y',d',e'⟩=false:=by simp[M.dvd,h2]
      rw[r1];clear r1;go_enter Tryz.func133,Tryz.ntmps133;go_wp2_with fail;refine(bM ha _).mono ?_;rintro r w1 ⟨rfl,hb1⟩;obtain⟨hc1,hf1⟩:=aN hb1;have hz1:w.heap.size+1<w1.heap.size:=by have:=hb1.size;simp at this;omega
      have hy1:w.heap.size<w1.heap.size:=by omega
      go_wp2_with fail;refine(bM hb _).mono ?_;rintro r w2 ⟨rfl,hb2⟩;obtain⟨hc2,hf2⟩:=aN hb2;go_wp2;go_ret;exact⟨rfl,aB (aB (aS w _ _) hb1) hb2⟩
    ·have t1:decide (y≤y')=false:=decide_eq_false h1;have r1:M.dvd ⟨x,y,d,e⟩ ⟨x',y',d',e'⟩=false:=by simp[M.dvd,h1]
     rw[r1];clear r1;go_enter Tryz.func133,Tryz.ntmps133;go_wp2_with fail;refine(bM ha _).mono ?_;rintro r w1 ⟨rfl,hb1⟩;obtain⟨hc1,hf1⟩:=aN hb1;have hz1:w.heap.size+1<w1.heap.size:=by have:=hb1.size;simp at this;omega
     have hy1:w.heap.size<w1.heap.size:=by omega
     go_wp2_with fail;refine(bM hb _).mono ?_;rintro r w2 ⟨rfl,hb2⟩;obtain⟨hc2,hf2⟩:=aN hb2;go_wp2;go_ret;exact⟨rfl,aB (aB (aS w _ _) hb1) hb2⟩
   ·have t0:decide (x≤x')=false:=decide_eq_false h0;have r1:M.dvd ⟨x,y,d,e⟩ ⟨x',y',d',e'⟩=false:=by simp[M.dvd,h0]
    rw[r1];clear r1;go_enter Tryz.func133,Tryz.ntmps133;go_wp2_with fail;refine(bM ha _).mono ?_;rintro r w1 ⟨rfl,hb1⟩;obtain⟨hc1,hf1⟩:=aN hb1;have hz1:w.heap.size+1<w1.heap.size:=by have:=hb1.size;simp at this;omega
    have hy1:w.heap.size<w1.heap.size:=by omega
    go_wp2_with fail;refine(bM hb _).mono ?_;rintro r w2 ⟨rfl,hb2⟩;obtain⟨hc2,hf2⟩:=aN hb2;go_wp2;go_ret;exact⟨rfl,aB (aB (aS w _ _) hb1) hb2⟩
theorem kI {x y d e x' y' d' e':Int} {b:Bool} (h:M.dvd ⟨x,y,d,e⟩ ⟨x',y',d',e'⟩=b) (w:World):Calls Tryz.prog 133 #[.agg #[.int .i64 x,.int .i64 y,.int .i64 d,.int .i64 e],.agg #[.int .i64 x',.int .i64 y',.int .i64 d',.int .i64 e']] w fun r w'=>r= .returned (.bool b)∧Below w.heap.size w w':=by rw[←h];exact LC _ _ _ _ _ _ _ _ w
theorem eX {a b:M} (h:a.dvd b=true):a.ok=true∧b.ok=true∧a.x≤b.x∧a.y≤b.y∧a.d≤b.d∧a.e≤b.e:=by simp[M.dvd]at h;exact⟨h.1.1,h.1.2,h.2⟩
theorem ZS (x y d e x' y' d' e':Int) (w:World):Calls Tryz.prog 157 #[.agg #[.int .i64 x,.int .i64 y,.int .i64 d,.int .i64 e],.agg #[.int .i64 x',.int .i64 y',.int .i64 d',.int .i64 e']] w fun r w'=>r= .returned (.tuple #[.agg #[.int .i64 (M.over ⟨x,y,d,e⟩ ⟨x',y',d',e'⟩).1.x,.int .i64 (M.over ⟨x,y,d,e⟩ ⟨x',y',d',e'⟩).1.y,.int .i64 (M.over ⟨x,y,d,e⟩ ⟨x',y',d',e'⟩).1.d,.int .i64 (M.over ⟨x,y,d,e⟩ ⟨x',y',d',e'⟩).1.e],.bool (M.over ⟨x,y,d,e⟩ ⟨x',y',d',e'⟩).2])∧Below w.heap.size w w':=by
 cases hd:M.dvd ⟨x',y',d',e'⟩ ⟨x,y,d,e⟩
 ·have r1:M.over ⟨x,y,d,e⟩ ⟨x',y',d',e'⟩=(M.zero,false):=by simp[M.over,hd]
  rw[r1];simp only[M.zero];clear r1;go_enter Tryz.func157,Tryz.ntmps157;go_wp2_with fail;refine(kI hd _).mono ?_;rintro r w1 ⟨rfl,hb1⟩;obtain⟨hc1,hf1⟩:=aN hb1;have hz1:w.heap.size+1+1<w1.heap.size:=by have:=hb1.size;simp at this;omega
  go_wp2;refine cD (v:=.tuple #[.agg #[.int .i64 0,.int .i64 0,.int .i64 0,.int .i64 0],.bool false]) (by simp[results,Tryz.results157,go_sem, *]) rfl ⟨rfl,?_⟩;exact dV (aB (aX w _ _ _) hb1) (by omega) _ _ _ _
 ·obtain⟨o1,o2,l1,l2,l3,l4⟩:=eX hd;obtain⟨x1,x2,y1,y2,d1,d2,e1,e2⟩:=M.ok_iff.1 o1;obtain⟨x3,x4,y3,y4,d3,d4,e3,e4⟩:=M.ok_iff.1 o2;simp only at x1 x2 y1 y2 d1 d2 e1 e2 x3 x4 y3 y4 d3 d4 e3 e4 l1 l2 l3 l4;have r1:M.over ⟨x,y,d,e⟩ ⟨x',y',d',e'⟩=(⟨x-x',y-y',d-d',e-e'⟩,true):=by simp[M.over,hd,M.diff]
  rw[r1];clear r1 o1 o2;go_enter Tryz.func157,Tryz.ntmps157;go_wp2_with fail;refine(kI hd _).mono ?_;rintro r w1 ⟨rfl,hb1⟩;obtain⟨hc1,hf1⟩:=aN hb1;have hz1:w.heap.size+1+1<w1.heap.size:=by have:=hb1.size;simp at this;omega
  go_wp2;refine cD (v:=.tuple #[.agg #[.int .i64 (x-x'),.int .i64 (y-y'),.int .i64 (d-d'),.int .i64 (e-e')],.bool true]) (by simp[results,Tryz.results157,go_sem, *]) rfl ⟨rfl,?_⟩;exact dV (aB (aX w _ _ _) hb1) (by omega) _ _ _ _
theorem Og (a b:Int) (w:World):Calls Tryz.prog 156 #[.int .i64 a,.int .i64 b] w fun r w'=>r= .returned (.int .i64 (mx a b))∧w'=w:=by
 by_cases h:b<a
 ·have e1:mx a b=a:=if_pos h;rw[e1];go_enter Tryz.func156,Tryz.ntmps156;go_wp2;go_ret;exact⟨rfl,rfl⟩
 ·have e1:mx a b=b:=if_neg h;rw[e1];go_enter Tryz.func156,Tryz.ntmps156;go_wp2;go_ret;exact⟨rfl,rfl⟩
theorem Eu {w:World} {B b o o0 o1 o2 o3:Nat} {u0 u1 u2 u3:Value} (h:b≠B):((((w.setCell ⟨B,o0,none⟩ u0).setCell ⟨B,o1,none⟩ u1).setCell ⟨B,o2,none⟩ u2).setCell ⟨B,o3,none⟩ u3).cell? ⟨b,o,none⟩=w.cell? ⟨b,o,none⟩:=by refine lM ?_;rw[Below.heap_setCell _ _ _ _ h,Below.heap_setCell _ _ _ _ h,Below.heap_setCell _ _ _ _ h,Below.heap_setCell _ _ _ _ h]
def bZ (w:World):Type:=Subtype (fun u:World=>Below w.heap.size w u)
theorem bZ.there (w:World):Nonempty (bZ w):=⟨⟨w,bG _ _⟩⟩
theorem bZ.cell {w:World} (x:bZ w) {b o:Nat} (h:b<w.heap.size):x.1.cell? ⟨b,o,none⟩=w.cell? ⟨b,o,none⟩:=x.2.cell (p:=⟨b,o,none⟩) h
theorem aG {P:Program} {id:Nat} {Q:Exit→Act→World→Prop} {a:Act} {w:World} {l:List Oper} (hm:P.follows .mixedOrders=true) (hB:Region.lexB .any l.toArray=true) (h:wpQuiet P l.toArray (fun u=>∃x:bZ w,u=x.1) (fun a'=>∀w',(∃x:bZ w,w'=x.1)→Q .normal a' w') l a):(Code.region id l.toArray true).wp P Q a w:=
 wp_region_quiet (C:=fun u=>∃x:bZ w,u=x.1) hm hB ⟨⟨_,(bG _ _).drew⟩,rfl⟩ (by simpa using h)
theorem lF {P:Program} {f:FuncId} {args:Array Value} {w:World} {x:bZ w} {v:Value} (h:Calls P f args x.1 fun e w'=>e= .returned v∧w'=x.1):Calls P f args x.1 fun e w''=>e= .returned v∧∃y:bZ w,w''=y.1:=
 h.mono fun _ _ ⟨he,hm⟩=>⟨he,x,hm⟩
theorem aJ {P:Program} {f:FuncId} {args:Array Value} {w:World} {x:bZ w} {v:Value} (h:Calls P f args x.1 fun e w'=>e= .returned v∧Below x.1.heap.size x.1 w'):Calls P f args x.1 fun e w''=>e= .returned v∧∃y:bZ w,w''=y.1:=
 h.mono fun _ w' ⟨he,hm⟩=>⟨he,⟨w',x.2.trans (hm.mono x.2.size)⟩,rfl⟩
end Go.Proofs.YtelkehjdfcoeiaaGreat
