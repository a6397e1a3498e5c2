/-
  What the functions of chapter 2's model return: monomials as four numbers.
-/
import Derived.Test.YtkcmamepoplcdaaGreatDoorXaa
import Derived.Deep.RegionHeld3
import Derived.Deep.Light
import Derived.Deep.QuietTactic
import Derived.BigQuiet
import Derived.Lib.ItoaNum
import Derived.Lib.UnsafeStr
set_option maxHeartbeats 1000000
namespace Go.Proofs.YtkcmamepoplcdaaGreatDoor
open Go.RowKit
set_option linter.unusedVariables false
structure M where
 x:Int
 y:Int
 d:Int
 e:Int
def M.ok (m:M):Bool:=decide (0≤m.x∧m.x≤15∧0≤m.y∧m.y≤15∧0≤m.d∧m.d≤15∧0≤m.e∧m.e≤15)
theorem M.ok_iff {m:M}:m.ok=true↔0≤m.x∧m.x≤15∧0≤m.y∧m.y≤15∧0≤m.d∧m.d≤15∧0≤m.e∧m.e≤15:=by simp[M.ok]
theorem M.ok_not {m:M}:m.ok=false↔¬(0≤m.x∧m.x≤15∧0≤m.y∧m.y≤15∧0≤m.d∧m.d≤15∧0≤m.e∧m.e≤15):=by rw[←M.ok_iff];simp
def M.deg (m:M):Int:=if m.ok then m.x+m.y+m.d+m.e else 0
def c3 (a b:Int):Int:=if a<b then -1 else if b<a then 1 else 0
def M.lex (a b:M):Int:=if a.d≠b.d then c3 a.d b.d else if a.e≠b.e then c3 a.e b.e else if a.x≠b.x then c3 a.x b.x else c3 a.y b.y
def M.ord (o:Int) (a b:M):Int:=
 if o=1∧a.deg≠b.deg then c3 a.deg b.deg else if o=3∧a.d+a.x≠b.d+b.x then c3 (a.d+a.x) (b.d+b.x)else M.lex a b
def M.zero:M:=⟨0,0,0,0⟩
def M.sum (a b:M):M:=⟨a.x+b.x,a.y+b.y,a.d+b.d,a.e+b.e⟩
def M.mul (a b:M):M×Bool:=if a.ok=true∧b.ok=true∧(a.sum b).ok=true then(a.sum b,true)else(M.zero,false)
def M.dvd (a b:M):Bool:=a.ok&&b.ok&&decide (a.x≤b.x∧a.y≤b.y∧a.d≤b.d∧a.e≤b.e)
def M.diff (b a:M):M:=⟨b.x-a.x,b.y-a.y,b.d-a.d,b.e-a.e⟩
def M.over (b a:M):M×Bool:=if a.dvd b=true then(b.diff a,true)else(M.zero,false)
theorem aA {p:Prop} (h:p):Hid p:=h
theorem bM {W w1:World} (hb:Below W.heap.size W w1):(∀b o,b<W.heap.size→w1.cell? ⟨b,o,none⟩=W.cell? ⟨b,o,none⟩)∧(∀b o,b<W.heap.size→w1.frozen? ⟨b,o,none⟩=W.frozen? ⟨b,o,none⟩):=
 ⟨fun b o h=>hb.cell (p:=⟨b,o,none⟩) h,fun b o h=>hb.frozen (p:=⟨b,o,none⟩) h⟩
theorem gG (x y d e:Int) (w:World):Calls Tryz.prog 60 #[.agg #[.int .i64 x,.int .i64 y,.int .i64 d,.int .i64 e]] w fun r w'=>r= .returned (.bool (M.ok ⟨x,y,d,e⟩))∧Below w.heap.size w w':=by
 by_cases hx:0≤x∧x≤15
 ·by_cases hy:0≤y∧y≤15
  ·by_cases hd:0≤d∧d≤15
   ·by_cases he:0≤e∧e≤15
    ·rw[M.ok_iff.2 ⟨hx.1,hx.2,hy.1,hy.2,hd.1,hd.2,he.1,he.2⟩];obtain⟨x1,x2⟩:=hx;obtain⟨y1,y2⟩:=hy;obtain⟨d1,d2⟩:=hd;obtain⟨e1,e2⟩:=he;go_enter Tryz.func60,Tryz.ntmps60;go_wp2_with (first|(go_at_call 54;first|(refine(aM _ _ _ _ (by omega) (by omega)).mono ?_;rintro e w' ⟨rfl,rfl⟩)|(refine(aJ _ _ _ _ (by omega)).mono ?_;rintro e w' ⟨rfl,rfl⟩)));go_ret;exact⟨rfl,(aD _ _).alloc (Nat.le_refl _) _⟩
    ·rw[M.ok_not.2 (fun h=>he ⟨h.2.2.2.2.2.2.1,h.2.2.2.2.2.2.2⟩)];go_enter Tryz.func60,Tryz.ntmps60;go_wp2_with (first|(go_at_call 54;first|(refine(aM _ _ _ _ (by omega) (by omega)).mono ?_;rintro e w' ⟨rfl,rfl⟩)|(refine(aJ _ _ _ _ (by omega)).mono ?_;rintro e w' ⟨rfl,rfl⟩)));go_ret;exact⟨rfl,(aD _ _).alloc (Nat.le_refl _) _⟩
   ·rw[M.ok_not.2 (fun h=>hd ⟨h.2.2.2.2.1,h.2.2.2.2.2.1⟩)];go_enter Tryz.func60,Tryz.ntmps60;go_wp2_with (first|(go_at_call 54;first|(refine(aM _ _ _ _ (by omega) (by omega)).mono ?_;rintro e w' ⟨rfl,rfl⟩)|(refine(aJ _ _ _ _ (by omega)).mono ?_;rintro e w' ⟨rfl,rfl⟩)));go_ret;exact⟨rfl,(aD _ _).alloc (Nat.le_refl _) _⟩
  ·rw[M.ok_not.2 (fun h=>hy ⟨h.2.2.1,h.2.2.2.1⟩)];go_enter Tryz.func60,Tryz.ntmps60;go_wp2_with (first|(go_at_call 54;first|(refine(aM _ _ _ _ (by omega) (by omega)).mono ?_;rintro e w' ⟨rfl,rfl⟩)|(refine(aJ _ _ _ _ (by omega)).mono ?_;rintro e w' ⟨rfl,rfl⟩)));go_ret;exact⟨rfl,(aD _ _).alloc (Nat.le_refl _) _⟩
 ·rw[M.ok_not.2 (fun h=>hx ⟨h.1,h.2.1⟩)];go_enter Tryz.func60,Tryz.ntmps60;go_wp2_with (first|(go_at_call 54;first|(refine(aM _ _ _ _ (by omega) (by omega)).mono ?_;rintro e w' ⟨rfl,rfl⟩)|(refine(aJ _ _ _ _ (by omega)).mono ?_;rintro e w' ⟨rfl,rfl⟩)));go_ret;exact⟨rfl,(aD _ _).alloc (Nat.le_refl _) _⟩
theorem iL {x y d e:Int} {b:Bool} (h:M.ok ⟨x,y,d,e⟩=b) (w:World):Calls Tryz.prog 60 #[.agg #[.int .i64 x,.int .i64 y,.int .i64 d,.int .i64 e]] w fun r w'=>r= .returned (.bool b)∧Below w.heap.size w w':=by rw[←h];exact gG x y d e w
theorem lU (x y d e:Int) (w:World):Calls Tryz.prog 90 #[.agg #[.int .i64 x,.int .i64 y,.int .i64 d,.int .i64 e]] w fun r w'=>r= .returned (.int .i64 (M.deg ⟨x,y,d,e⟩))∧Below w.heap.size w w':=by
 cases h:M.ok ⟨x,y,d,e⟩
 ·have hd:M.deg ⟨x,y,d,e⟩=0:=by simp[M.deg,h]
  rw[hd];go_enter Tryz.func90,Tryz.ntmps90;go_wp2_with fail;refine(gG _ _ _ _ _).mono ?_;rw[h];rintro r w1 ⟨rfl,hb⟩;go_wp2;go_ret;exact⟨rfl,(aD _ _).trans (((aD _ _).alloc (Nat.le_refl _) _).trans (hb.mono (by simp)))⟩
 ·have hd:M.deg ⟨x,y,d,e⟩=x+y+d+e:=by simp[M.deg,h]
  rw[hd];obtain⟨x1,x2,y1,y2,d1,d2,e1,e2⟩:=M.ok_iff.1 h;simp only at x1 x2 y1 y2 d1 d2 e1 e2;go_enter Tryz.func90,Tryz.ntmps90;go_wp2_with fail;refine(gG _ _ _ _ _).mono ?_;rw[h];rintro r w1 ⟨rfl,hb⟩;obtain⟨hc,hf⟩:=bM hb;go_wp2;go_ret;exact⟨rfl,((aD _ _).alloc (Nat.le_refl _) _).trans (hb.mono (by simp))⟩
theorem FM (a b:Int) (w:World):Calls Tryz.prog 91 #[.int .i64 a,.int .i64 b] w fun r w'=>r= .returned (.int .i64 (c3 a b))∧w'=w:=by
 by_cases h1:a<b
 ·have e1:c3 a b= -1:=by simp[c3,h1]
  rw[e1];go_enter Tryz.func91,Tryz.ntmps91;go_wp2;go_ret;exact⟨rfl,rfl⟩
 ·by_cases h2:b<a
  ·have e1:c3 a b=1:=by simp[c3,h1,h2]
   rw[e1];go_enter Tryz.func91,Tryz.ntmps91;go_wp2;go_ret;exact⟨rfl,rfl⟩
  ·have e1:c3 a b=0:=by simp[c3,h1,h2]
   rw[e1];go_enter Tryz.func91,Tryz.ntmps91;go_wp2;go_ret;exact⟨rfl,rfl⟩
theorem TV (x y d e x' y' d' e':Int) (w:World):Calls Tryz.prog 92 #[.agg #[.int .i64 x,.int .i64 y,.int .i64 d,.int .i64 e],.agg #[.int .i64 x',.int .i64 y',.int .i64 d',.int .i64 e']] w fun r w'=>r= .returned (.int .i64 (M.lex ⟨x,y,d,e⟩ ⟨x',y',d',e'⟩))∧Below w.heap.size w w':=by
 by_cases hd:d=d'
 ·by_cases he:e=e'
  ·by_cases hx:x=x'
   ·have e1:M.lex ⟨x,y,d,e⟩ ⟨x',y',d',e'⟩=c3 y y':=by simp[M.lex,hd,he,hx]
    rw[e1];have b1:(d !=d')=false:=by simp[hd]
    have b2:(e !=e')=false:=by simp[he]
    have b3:(x !=x')=false:=by simp[hx]
    clear hd he hx e1;go_enter Tryz.func92,Tryz.ntmps92;go_wp2_with (first|(go_at_call 91;refine(FM _ _ _).mono ?_;rintro r w' ⟨rfl,rfl⟩));go_ret;exact⟨rfl,((aD _ _).alloc (Nat.le_refl _) _).alloc (by simp) _⟩
   ·have e1:M.lex ⟨x,y,d,e⟩ ⟨x',y',d',e'⟩=c3 x x':=by simp[M.lex,hd,he,hx]
    rw[e1];have b1:(d !=d')=false:=by simp[hd]
    have b2:(e !=e')=false:=by simp[he]
    have b3:(x !=x')=true:=by simp[hx]
    clear hd he hx e1;go_enter Tryz.func92,Tryz.ntmps92;go_wp2_with (first|(go_at_call 91;refine(FM _ _ _).mono ?_;rintro r w' ⟨rfl,rfl⟩));go_ret;exact⟨rfl,((aD _ _).alloc (Nat.le_refl _) _).alloc (by simp) _⟩
  ·have e1:M.lex ⟨x,y,d,e⟩ ⟨x',y',d',e'⟩=c3 e e':=by simp[M.lex,hd,he]
   rw[e1];have b1:(d !=d')=false:=by simp[hd]
   have b2:(e !=e')=true:=by simp[he]
   clear hd he e1;go_enter Tryz.func92,Tryz.ntmps92;go_wp2_with (first|(go_at_call 91;refine(FM _ _ _).mono ?_;rintro r w' ⟨rfl,rfl⟩));go_ret;exact⟨rfl,((aD _ _).alloc (Nat.le_refl _) _).alloc (by simp) _⟩
 ·have e1:M.lex ⟨x,y,d,e⟩ ⟨x',y',d',e'⟩=c3 d d':=by simp[M.lex,hd]
  rw[e1];have b1:(d !=d')=true:=by simp[hd]
  clear hd e1;go_enter Tryz.func92,Tryz.ntmps92;go_wp2_with (first|(go_at_call 91;refine(FM _ _ _).mono ?_;rintro r w' ⟨rfl,rfl⟩));go_ret;exact⟨rfl,((aD _ _).alloc (Nat.le_refl _) _).alloc (by simp) _⟩
theorem aC {w W W':World} (a:Below w.heap.size w W) (h:Below W.heap.size W W'):Below w.heap.size w W':=a.trans (h.mono a.size)
theorem dB (w:World) (A B:Obj):Below w.heap.size w ((w.alloc A).alloc B):=((aD _ _).alloc (Nat.le_refl _) _).alloc (by simp) _
theorem cL (w:World) (A B C:Obj):Below w.heap.size w (((w.alloc A).alloc B).alloc C):=(dB w A B).alloc (dB w A B).size _
theorem gQ {n B:Nat} {a w:World} (h:Below n a w) (hB:n≤B) (u0 u1 u2 u3:Value):Below n a ((((w.setCell ⟨B,0,none⟩ u0).setCell ⟨B,1,none⟩ u1).setCell ⟨B,2,none⟩ u2).setCell ⟨B,3,none⟩ u3):=
 (((h.setCell hB u0).setCell hB u1).setCell hB u2).setCell hB u3
theorem II (x y d e x' y' d' e':Int) (w:World):Calls Tryz.prog 61 #[.int .i64 1,.agg #[.int .i64 x,.int .i64 y,.int .i64 d,.int .i64 e],.agg #[.int .i64 x',.int .i64 y',.int .i64 d',.int .i64 e']] w fun r w'=>r= .returned (.int .i64 (M.ord 1 ⟨x,y,d,e⟩ ⟨x',y',d',e'⟩))∧Below w.heap.size w w':=by
 by_cases hd:M.deg ⟨x,y,d,e⟩=M.deg ⟨x',y',d',e'⟩
 ·have e1:M.ord 1 ⟨x,y,d,e⟩ ⟨x',y',d',e'⟩=M.lex ⟨x,y,d,e⟩ ⟨x',y',d',e'⟩:=by simp[M.ord,hd]
  rw[e1];have b1:(M.deg ⟨x,y,d,e⟩!=M.deg ⟨x',y',d',e'⟩)=false:=by simp[hd]
  clear hd e1;go_enter Tryz.func61,Tryz.ntmps61;go_wp2_with fail
  go_region_held3 (fun u=>u.cell? ⟨w.heap.size,0,none⟩=some (.int .i64 x)∧u.cell? ⟨w.heap.size,1,none⟩=some (.int .i64 y)∧u.cell? ⟨w.heap.size,2,none⟩=some (.int .i64 d)∧u.cell? ⟨w.heap.size,3,none⟩=some (.int .i64 e)∧u.cell? ⟨w.heap.size+1,0,none⟩=some (.int .i64 x')∧u.cell? ⟨w.heap.size+1,1,none⟩=some (.int .i64 y')∧u.cell? ⟨w.heap.size+1,2,none⟩=some (.int .i64 d')∧u.cell? ⟨w.heap.size+1,3,none⟩=some (.int .i64 e')) ((go_light;first|(refine⟨?_,?_,?_,?_,?_,?_,?_,?_⟩<;>(simp only[(bM hb4).1 _ _ hz3,(bM hb4).1 _ _ hy3, *];done))|(refine⟨?_,?_,?_,?_,?_,?_,?_,?_⟩<;>(simp only[(bM hb3).1 _ _ hz2,(bM hb3).1 _ _ hy2, *];done))|(refine⟨?_,?_,?_,?_,?_,?_,?_,?_⟩<;>(simp only[(bM hb2).1 _ _ hz1,(bM hb2).1 _ _ hy1, *];done))|(have hc:=(bM hb1).1;refine⟨?_,?_,?_,?_,?_,?_,?_,?_⟩<;>go_simp<;>done)|(refine⟨?_,?_,?_,?_,?_,?_,?_,?_⟩<;>go_simp<;>done))) (first|(go_at_call_of 90 (Value.int IntKind.i64 x);refine(lU x y d e _).mono ?_;rintro r w1 ⟨rfl,hb1⟩;have hz1:w.heap.size<w1.heap.size:=(by have:=hb1.size;first|omega|(simp at this;omega));have hy1:w.heap.size+1<w1.heap.size:=(by have:=hb1.size;first|omega|(simp at this;omega)))|(go_at_call_of 90 (Value.int IntKind.i64 x');refine(lU x' y' d' e' _).mono ?_;rintro r w2 ⟨rfl,hb2⟩;have hz2:w.heap.size<w2.heap.size:=(by have:=hb2.size;first|omega|(simp at this;omega));have hy2:w.heap.size+1<w2.heap.size:=(by have:=hb2.size;first|omega|(simp at this;omega))))
  go_wp2_with (first|(go_at_call 92;refine(TV x y d e x' y' d' e' _).mono ?_;rintro r w5 ⟨rfl,hb5⟩));go_ret;exact⟨rfl,aC (aC (aC (dB w _ _).drew hb1) hb2) hb5⟩
 ·have e1:M.ord 1 ⟨x,y,d,e⟩ ⟨x',y',d',e'⟩=c3 (M.deg ⟨x,y,d,e⟩) (M.deg ⟨x',y',d',e'⟩):=by simp[M.ord,hd]
  rw[e1];have b1:(M.deg ⟨x,y,d,e⟩!=M.deg ⟨x',y',d',e'⟩)=true:=by simp[hd]
  clear hd e1;go_enter Tryz.func61,Tryz.ntmps61;go_wp2_with fail
  go_region_held3 (fun u=>u.cell? ⟨w.heap.size,0,none⟩=some (.int .i64 x)∧u.cell? ⟨w.heap.size,1,none⟩=some (.int .i64 y)∧u.cell? ⟨w.heap.size,2,none⟩=some (.int .i64 d)∧u.cell? ⟨w.heap.size,3,none⟩=some (.int .i64 e)∧u.cell? ⟨w.heap.size+1,0,none⟩=some (.int .i64 x')∧u.cell? ⟨w.heap.size+1,1,none⟩=some (.int .i64 y')∧u.cell? ⟨w.heap.size+1,2,none⟩=some (.int .i64 d')∧u.cell? ⟨w.heap.size+1,3,none⟩=some (.int .i64 e')) ((go_light;first|(refine⟨?_,?_,?_,?_,?_,?_,?_,?_⟩<;>(simp only[(bM hb4).1 _ _ hz3,(bM hb4).1 _ _ hy3, *];done))|(refine⟨?_,?_,?_,?_,?_,?_,?_,?_⟩<;>(simp only[(bM hb3).1 _ _ hz2,(bM hb3).1 _ _ hy2, *];done))|(refine⟨?_,?_,?_,?_,?_,?_,?_,?_⟩<;>(simp only[(bM hb2).1 _ _ hz1,(bM hb2).1 _ _ hy1, *];done))|(have hc:=(bM hb1).1;refine⟨?_,?_,?_,?_,?_,?_,?_,?_⟩<;>go_simp<;>done)|(refine⟨?_,?_,?_,?_,?_,?_,?_,?_⟩<;>go_simp<;>done))) (first|(go_at_call_of 90 (Value.int IntKind.i64 x);refine(lU x y d e _).mono ?_;rintro r w1 ⟨rfl,hb1⟩;have hz1:w.heap.size<w1.heap.size:=(by have:=hb1.size;first|omega|(simp at this;omega));have hy1:w.heap.size+1<w1.heap.size:=(by have:=hb1.size;first|omega|(simp at this;omega)))|(go_at_call_of 90 (Value.int IntKind.i64 x');refine(lU x' y' d' e' _).mono ?_;rintro r w2 ⟨rfl,hb2⟩;have hz2:w.heap.size<w2.heap.size:=(by have:=hb2.size;first|omega|(simp at this;omega));have hy2:w.heap.size+1<w2.heap.size:=(by have:=hb2.size;first|omega|(simp at this;omega))))
  go_wp2_with fail
  go_region_held3 (fun u=>u.cell? ⟨w.heap.size,0,none⟩=some (.int .i64 x)∧u.cell? ⟨w.heap.size,1,none⟩=some (.int .i64 y)∧u.cell? ⟨w.heap.size,2,none⟩=some (.int .i64 d)∧u.cell? ⟨w.heap.size,3,none⟩=some (.int .i64 e)∧u.cell? ⟨w.heap.size+1,0,none⟩=some (.int .i64 x')∧u.cell? ⟨w.heap.size+1,1,none⟩=some (.int .i64 y')∧u.cell? ⟨w.heap.size+1,2,none⟩=some (.int .i64 d')∧u.cell? ⟨w.heap.size+1,3,none⟩=some (.int .i64 e')) ((go_light;first|(refine⟨?_,?_,?_,?_,?_,?_,?_,?_⟩<;>(simp only[(bM hb4).1 _ _ hz3,(bM hb4).1 _ _ hy3, *];done))|(refine⟨?_,?_,?_,?_,?_,?_,?_,?_⟩<;>(simp only[(bM hb3).1 _ _ hz2,(bM hb3).1 _ _ hy2, *];done))|(refine⟨?_,?_,?_,?_,?_,?_,?_,?_⟩<;>(simp only[(bM hb2).1 _ _ hz1,(bM hb2).1 _ _ hy1, *];done))|(have hc:=(bM hb1).1;refine⟨?_,?_,?_,?_,?_,?_,?_,?_⟩<;>go_simp<;>done)|(refine⟨?_,?_,?_,?_,?_,?_,?_,?_⟩<;>go_simp<;>done))) (first|(go_at_call_of 90 (Value.int IntKind.i64 x);refine(lU x y d e _).mono ?_;rintro r w3 ⟨rfl,hb3⟩;have hz3:w.heap.size<w3.heap.size:=(by have:=hb3.size;first|omega|(simp at this;omega));have hy3:w.heap.size+1<w3.heap.size:=(by have:=hb3.size;first|omega|(simp at this;omega)))|(go_at_call_of 90 (Value.int IntKind.i64 x');refine(lU x' y' d' e' _).mono ?_;rintro r w4 ⟨rfl,hb4⟩;have hz4:w.heap.size<w4.heap.size:=(by have:=hb4.size;first|omega|(simp at this;omega));have hy4:w.heap.size+1<w4.heap.size:=(by have:=hb4.size;first|omega|(simp at this;omega)))|(go_at_call 91;refine(FM _ _ _).mono ?_;rintro r w' ⟨rfl,rfl⟩))
  go_wp2;go_ret;exact⟨rfl,aC (aC (aC (aC (dB w _ _).drew hb1) hb2).drew hb3) hb4⟩
theorem BU (x y d e x' y' d' e':Int) (w:World):Calls Tryz.prog 163 #[.agg #[.int .i64 x,.int .i64 y,.int .i64 d,.int .i64 e],.agg #[.int .i64 x',.int .i64 y',.int .i64 d',.int .i64 e']] w fun r w'=>r= .returned (.tuple #[.agg #[.int .i64 (M.mul ⟨x,y,d,e⟩ ⟨x',y',d',e'⟩).1.x,.int .i64 (M.mul ⟨x,y,d,e⟩ ⟨x',y',d',e'⟩).1.y,.int .i64 (M.mul ⟨x,y,d,e⟩ ⟨x',y',d',e'⟩).1.d,.int .i64 (M.mul ⟨x,y,d,e⟩ ⟨x',y',d',e'⟩).1.e],.bool (M.mul ⟨x,y,d,e⟩ ⟨x',y',d',e'⟩).2])∧Below w.heap.size w w':=by
 cases ha:M.ok ⟨x,y,d,e⟩
 ·have r1:M.mul ⟨x,y,d,e⟩ ⟨x',y',d',e'⟩=(M.zero,false):=by simp[M.mul,ha]
  rw[r1];simp only[M.zero];go_enter Tryz.func163,Tryz.ntmps163;go_wp2_with fail;refine(gG _ _ _ _ _).mono ?_;rw[ha];rintro r w1 ⟨rfl,hb1⟩;obtain⟨hc1,hf1⟩:=bM hb1;have hz1:w.heap.size+1+1<w1.heap.size:=by have:=hb1.size;simp at this;omega
  go_wp2;refine bC (v:=.tuple #[.agg #[.int .i64 0,.int .i64 0,.int .i64 0,.int .i64 0],.bool false]) (by simp[results,Tryz.results163,go_sem, *]) rfl ⟨rfl,?_⟩;exact gQ (aC (cL w _ _ _) hb1) (by omega) _ _ _ _
 ·cases hb:M.ok ⟨x',y',d',e'⟩
  ·have r1:M.mul ⟨x,y,d,e⟩ ⟨x',y',d',e'⟩=(M.zero,false):=by simp[M.mul,hb]
   rw[r1];simp only[M.zero];clear r1;go_enter Tryz.func163,Tryz.ntmps163;go_wp2_with fail;refine(gG _ _ _ _ _).mono ?_;rw[ha];rintro r w1 ⟨rfl,hb1⟩;obtain⟨hc1,hf1⟩:=bM hb1;have hz1:w.heap.size+1+1<w1.heap.size:=by have:=hb1.size;simp at this;omega
   go_wp2_with fail;refine(gG _ _ _ _ _).mono ?_;rw[hb];rintro r w2 ⟨rfl,hb2⟩;obtain⟨hc2,hf2⟩:=bM hb2;have hz2:w.heap.size+1+1<w2.heap.size:=by have:=hb2.size;omega
   go_wp2;refine bC (v:=.tuple #[.agg #[.int .i64 0,.int .i64 0,.int .i64 0,.int .i64 0],.bool false]) (by simp[results,Tryz.results163,go_sem, *]) rfl ⟨rfl,?_⟩;exact gQ (aC (aC (cL w _ _ _) hb1) hb2) (by omega) _ _ _ _
  ·obtain⟨x1,x2,y1,y2,d1,d2,e1,e2⟩:=M.ok_iff.1 ha;obtain⟨x3,x4,y3,y4,d3,d4,e3,e4⟩:=M.ok_iff.1 hb;simp only at x1 x2 y1 y2 d1 d2 e1 e2 x3 x4 y3 y4 d3 d4 e3 e4;cases hs:M.ok ⟨x+x',y+y',d+d',e+e'⟩
   ·have r1:M.mul ⟨x,y,d,e⟩ ⟨x',y',d',e'⟩=(M.zero,false):=by simp[M.mul,M.sum,hs]
    rw[r1];simp only[M.zero];clear r1;go_enter Tryz.func163,Tryz.ntmps163;go_wp2_with fail;refine(gG _ _ _ _ _).mono ?_;rw[ha];rintro r w1 ⟨rfl,hb1⟩;obtain⟨hc1,hf1⟩:=bM hb1;have hz1:w.heap.size+1+1<w1.heap.size:=by have:=hb1.size;simp at this;omega
    have hz0:w.heap.size+1<w1.heap.size:=by omega
    have hzz:w.heap.size<w1.heap.size:=by omega
    go_wp2_with fail;refine(gG _ _ _ _ _).mono ?_;rw[hb];rintro r w2 ⟨rfl,hb2⟩;obtain⟨hc2,hf2⟩:=bM hb2;have hz2:w.heap.size+1+1<w2.heap.size:=by have:=hb2.size;omega
    go_wp2_with fail;refine(gG _ _ _ _ _).mono ?_;rw[hs];rintro r w3 ⟨rfl,hb3⟩;obtain⟨hc3,hf3⟩:=bM (aC ((aD w2.heap.size w2).alloc (Nat.le_refl _) _) hb3);have ht:∀i,w3.cell? ⟨w2.heap.size,i,none⟩=#[Value.int .i64 (x+x'),.int .i64 (y+y'),.int .i64 (d+d'),.int .i64 (e+e')][i]? :=fun i=>by rw[hb3.cell (p:=⟨w2.heap.size,i,none⟩) (by simp),World.cell?_alloc_at _ _ _ _ rfl]
    have hB:=aC ((aC (aC (cL w _ _ _) hb1) hb2).alloc (aC (aC (cL w _ _ _) hb1) hb2).size _) hb3;go_wp2;refine bC (v:=.tuple #[.agg #[.int .i64 0,.int .i64 0,.int .i64 0,.int .i64 0],.bool false]) (by simp[results,Tryz.results163,go_sem, *]) rfl ⟨rfl,?_⟩;exact gQ hB (by omega) _ _ _ _
   ·have r1:M.mul ⟨x,y,d,e⟩ ⟨x',y',d',e'⟩=(⟨x+x',y+y',d+d',e+e'⟩,true):=by simp[M.mul,M.sum,hs,ha,hb]
    rw[r1];clear r1;go_enter Tryz.func163,Tryz.ntmps163;go_wp2_with fail;refine(gG _ _ _ _ _).mono ?_;rw[ha];rintro r w1 ⟨rfl,hb1⟩;obtain⟨hc1,hf1⟩:=bM hb1;have hz1:w.heap.size+1+1<w1.heap.size:=by have:=hb1.size;simp at this;omega
    have hz0:w.heap.size+1<w1.heap.size:=by omega
    have hzz:w.heap.size<w1.heap.size:=by omega
    go_wp2_with fail;refine(gG _ _ _ _ _).mono ?_;rw[hb];rintro r w2 ⟨rfl,hb2⟩;obtain⟨hc2,hf2⟩:=bM hb2;have hz2:w.heap.size+1+1<w2.heap.size:=by have:=hb2.size;omega
    go_wp2_with fail;refine(gG _ _ _ _ _).mono ?_;rw[hs];rintro r w3 ⟨rfl,hb3⟩;obtain⟨hc3,hf3⟩:=bM (aC ((aD w2.heap.size w2).alloc (Nat.le_refl _) _) hb3);have ht:∀i,w3.cell? ⟨w2.heap.size,i,none⟩=#[Value.int .i64 (x+x'),.int .i64 (y+y'),.int .i64 (d+d'),.int .i64 (e+e')][i]? :=fun i=>by rw[hb3.cell (p:=⟨w2.heap.size,i,none⟩) (by simp),World.cell?_alloc_at _ _ _ _ rfl]
    have hB:=aC ((aC (aC (cL w _ _ _) hb1) hb2).alloc (aC (aC (cL w _ _ _) hb1) hb2).size _) hb3;go_wp2;refine bC (v:=.tuple #[.agg #[.int .i64 (x+x'),.int .i64 (y+y'),.int .i64 (d+d'),.int .i64 (e+e')],.bool true]) (by simp[results,Tryz.results163,go_sem, *]) rfl ⟨rfl,?_⟩;exact gQ hB (by omega) _ _ _ _
def dQ (w:World):Type:=Subtype (fun u:World=>Below w.heap.size w u)
theorem dQ.there (w:World):Nonempty (dQ w):=⟨⟨w,aD _ _⟩⟩
theorem dQ.cell {w:World} (x:dQ w) {b o:Nat} (h:b<w.heap.size):x.1.cell? ⟨b,o,none⟩=w.cell? ⟨b,o,none⟩:=x.2.cell (p:=⟨b,o,none⟩) h
theorem aR {P:Program} {id:Nat} {Q:Exit→Act→World→Prop} {a:Act} {w:World} {l:List Oper} (hm:P.follows .mixedOrders=true) (hB:Region.lexB .any l.toArray=true) (h:wpQuiet P l.toArray (fun u=>∃x:dQ w,u=x.1) (fun a'=>∀w',(∃x:dQ w,w'=x.1)→Q .normal a' w') l a):(Code.region id l.toArray true).wp P Q a w:=
 wp_region_quiet (C:=fun u=>∃x:dQ w,u=x.1) hm hB ⟨⟨_,(aD _ _).drew⟩,rfl⟩ (by simpa using h)
theorem fU {P:Program} {f:FuncId} {args:Array Value} {w:World} {x:dQ w} {v:Value} (h:Calls P f args x.1 fun e w'=>e= .returned v∧w'=x.1):Calls P f args x.1 fun e w''=>e= .returned v∧∃y:dQ w,w''=y.1:=
 h.mono fun _ _ ⟨he,hm⟩=>⟨he,x,hm⟩
theorem bQ {P:Program} {f:FuncId} {args:Array Value} {w:World} {x:dQ w} {v:Value} (h:Calls P f args x.1 fun e w'=>e= .returned v∧Below x.1.heap.size x.1 w'):Calls P f args x.1 fun e w''=>e= .returned v∧∃y:dQ w,w''=y.1:=
 h.mono fun _ w' ⟨he,hm⟩=>⟨he,⟨w',x.2.trans (hm.mono x.2.size)⟩,rfl⟩
theorem aF (w:World) (A:Obj):Below w.heap.size w (w.alloc A):=(aD _ _).alloc (Nat.le_refl _) _
theorem nG {w:World} {t:TypeId} (A:Array Value) (i:Nat) (v:Value) (h:A[i]? =some v):∀u:dQ (w.alloc (.cells A t)),u.1.cell? ⟨w.heap.size,i,none⟩=some v:=fun u=>by
 rw[u.cell (by simp),World.cell?_alloc_at _ _ _ _ rfl];exact h
theorem AQ (x y d e:Int) (w:World):Calls Tryz.prog 127 #[.agg #[.int .i64 x,.int .i64 y,.int .i64 d,.int .i64 e]] w fun r w'=>r= .returned (.agg #[.int .i64 x,.int .i64 y,.int .i64 d,.int .i64 e])∧Below w.heap.size w w':=by go_enter Tryz.func127,Tryz.ntmps127;go_wp2;refine bC (v:=.agg #[.int .i64 x,.int .i64 y,.int .i64 d,.int .i64 e]) (by simp[results,Tryz.results127,go_sem]) rfl ⟨rfl,?_⟩;exact dB w _ _
theorem LC (x y d e:Int) (w:World) (h:M.ok ⟨x,y,d,e⟩=true):Calls Tryz.prog 125 #[.agg #[.int .i64 x,.int .i64 y,.int .i64 d,.int .i64 e]] w fun r w'=>r= .returned (.int .i64 (x+y+d+e))∧Below w.heap.size w w':=by obtain⟨x1,x2,y1,y2,d1,d2,e1,e2⟩:=M.ok_iff.1 h;simp only at x1 x2 y1 y2 d1 d2 e1 e2;clear h;go_enter Tryz.func125,Tryz.ntmps125;go_wp2;go_ret;exact⟨rfl,aF w _⟩
def kT (m:M):Int:=((m.d*16+m.e)*16+m.x)*16+m.y
def eF (m:M):Int:=(m.x+m.y+m.d+m.e)*65536+kT m
theorem IY (x y d e:Int) (w:World) (h:M.ok ⟨x,y,d,e⟩=true):Calls Tryz.prog 126 #[.agg #[.int .i64 x,.int .i64 y,.int .i64 d,.int .i64 e]] w fun r w'=>r= .returned (.int .i64 (kT ⟨x,y,d,e⟩))∧Below w.heap.size w w':=by obtain⟨x1,x2,y1,y2,d1,d2,e1,e2⟩:=M.ok_iff.1 h;simp only at x1 x2 y1 y2 d1 d2 e1 e2;clear h;simp only[kT];go_enter Tryz.func126,Tryz.ntmps126;go_wp2;go_ret;exact⟨rfl,aF w _⟩
theorem oB (x y d e:Int) (w:World) (h:M.ok ⟨x,y,d,e⟩=true):Calls Tryz.prog 88 #[.agg #[.int .i64 x,.int .i64 y,.int .i64 d,.int .i64 e]] w fun r w'=>r= .returned (.int .i64 (eF ⟨x,y,d,e⟩))∧Below w.heap.size w w':=by
 obtain⟨x1,x2,y1,y2,d1,d2,e1,e2⟩:=M.ok_iff.1 h;simp only at x1 x2 y1 y2 d1 d2 e1 e2;have HK:=aA h
 have k1:0≤kT ⟨x,y,d,e⟩:=by simp only[kT];omega
 have k2:kT ⟨x,y,d,e⟩≤65535:=by simp only[kT];omega
 have r1:eF ⟨x,y,d,e⟩=(x+y+d+e)*65536+kT ⟨x,y,d,e⟩:=rfl;rw[r1];clear h r1;go_enter Tryz.func88,Tryz.ntmps88;go_wp2_with fail;have B1:=aA (aF w (.cells #[.int .i64 x,.int .i64 y,.int .i64 d,.int .i64 e] 77))
 have ne:=dQ.there (w.alloc (.cells #[.int .i64 x,.int .i64 y,.int .i64 d,.int .i64 e] 77));have s0:=nG (w:=w) (t:=77) #[.int .i64 x,.int .i64 y,.int .i64 d,.int .i64 e] 0 _ rfl
 have s1:=nG (w:=w) (t:=77) #[.int .i64 x,.int .i64 y,.int .i64 d,.int .i64 e] 1 _ rfl;have s2:=nG (w:=w) (t:=77) #[.int .i64 x,.int .i64 y,.int .i64 d,.int .i64 e] 2 _ rfl
 have s3:=nG (w:=w) (t:=77) #[.int .i64 x,.int .i64 y,.int .i64 d,.int .i64 e] 3 _ rfl;refine aR (by kernel_rfl) (by kernel_rfl) ?_;repeat(go_big_quiet_step (first|(go_at_call 125;exact bQ (LC _ _ _ _ _ HK.out))|(go_at_call 126;exact bQ (IY _ _ _ _ _ HK.out))))
 refine wpQuiet_nil ?_;rintro _ ⟨u,rfl⟩;go_wp2;go_ret;exact⟨rfl,B1.out.trans (u.2.mono B1.out.size)⟩
def tJ (x y d e:Int):Nat→Int
 |0=>x
 |1=>y
 |2=>d
 |_=>e
theorem gZ (x y d e:Int) (w:World):Calls Tryz.prog 116 #[.agg #[.int .i64 x,.int .i64 y,.int .i64 d,.int .i64 e]] w fun r w'=>r= .returned (.bool (M.ok ⟨x,y,d,e⟩))∧Below w.heap.size w w':=by
 have i0:∀w:World,(Instr.index 131 (.agg #[.int .i64 x,.int .i64 y,.int .i64 d,.int .i64 e]) (.int .i64 0)).run Tryz.prog w= .ok (.int .i64 x) w:=fun _=>by kernel_rfl
 have i1:∀w:World,(Instr.index 131 (.agg #[.int .i64 x,.int .i64 y,.int .i64 d,.int .i64 e]) (.int .i64 1)).run Tryz.prog w= .ok (.int .i64 y) w:=fun _=>by kernel_rfl
 have i2:∀w:World,(Instr.index 131 (.agg #[.int .i64 x,.int .i64 y,.int .i64 d,.int .i64 e]) (.int .i64 2)).run Tryz.prog w= .ok (.int .i64 d) w:=fun _=>by kernel_rfl
 have i3:∀w:World,(Instr.index 131 (.agg #[.int .i64 x,.int .i64 y,.int .i64 d,.int .i64 e]) (.int .i64 3)).run Tryz.prog w= .ok (.int .i64 e) w:=fun _=>by kernel_rfl
 go_enter Tryz.func116,Tryz.ntmps116;go_wp2_with fail;refine(AQ x y d e _).mono ?_;rintro r w1 ⟨rfl,hb⟩;have B1:=aA (aC (aF w _) hb)
 clear hb;go_wp2
 go_loop [7] (fun i=>∃k:Nat,k≤4∧i= .int .i64 k∧Hid (∀j,j<k→0≤tJ x y d e j∧tJ x y d e j≤15)) (fun i=>4-(intOf i).toNat)
 case atStart=>exact⟨0,by omega,rfl,fun j hj=>absurd hj (Nat.not_lt_zero _)⟩
 case round=>
  obtain⟨k,hk,rfl,hok⟩:=hrel;have hk5:k=4∨k=0∨k=1∨k=2∨k=3:=by omega
  rcases hk5 with rfl|rfl|rfl|rfl|rfl
  ·have hp:M.ok ⟨x,y,d,e⟩=true:=M.ok_iff.2 ⟨(hok.out 0 (by omega)).1,(hok.out 0 (by omega)).2,(hok.out 1 (by omega)).1,(hok.out 1 (by omega)).2,(hok.out 2 (by omega)).1,(hok.out 2 (by omega)).2,(hok.out 3 (by omega)).1,(hok.out 3 (by omega)).2⟩;have HP:=aA hp
   clear hp;go_wp2;go_ret;exact⟨by rw[HP.out];rfl,B1.out⟩
  ·by_cases h1:x<0
   ·have hp:Hid (M.ok ⟨x,y,d,e⟩=false):=M.ok_not.2 (fun h=>by simp only at h;omega);go_wp2;go_ret;exact⟨by rw[hp.out];rfl,B1.out⟩
   ·by_cases h2:15<x
    ·have hp:Hid (M.ok ⟨x,y,d,e⟩=false):=M.ok_not.2 (fun h=>by simp only at h;omega);go_wp2;go_ret;exact⟨by rw[hp.out];rfl,B1.out⟩
    ·have hn:Hid (∀j,j<1→0≤tJ x y d e j∧tJ x y d e j≤15):=fun j hj=>by
      obtain rfl:j=0:=by omega
      exact⟨Int.not_lt.1 h1,Int.not_lt.1 h2⟩
     go_wp2;go_round;case rel=>exact⟨1,by omega,rfl,hn⟩
     case measure=>simp[intOf]
  ·by_cases h1:y<0
   ·have hp:Hid (M.ok ⟨x,y,d,e⟩=false):=M.ok_not.2 (fun h=>by simp only at h;omega);go_wp2;go_ret;exact⟨by rw[hp.out];rfl,B1.out⟩
   ·by_cases h2:15<y
    ·have hp:Hid (M.ok ⟨x,y,d,e⟩=false):=M.ok_not.2 (fun h=>by simp only at h;omega);go_wp2;go_ret;exact⟨by rw[hp.out];rfl,B1.out⟩
    ·have hn:Hid (∀j,j<2→0≤tJ x y d e j∧tJ x y d e j≤15):=fun j hj=>by
      by_cases hj1:j<1
      ·exact hok.out j hj1
      ·obtain rfl:j=1:=by omega
       exact⟨Int.not_lt.1 h1,Int.not_lt.1 h2⟩
     go_wp2;go_round;case rel=>exact⟨2,by omega,rfl,hn⟩
     case measure=>simp[intOf]
  ·by_cases h1:d<0
   ·have hp:Hid (M.ok ⟨x,y,d,e⟩=false):=M.ok_not.2 (fun h=>by simp only at h;omega);go_wp2;go_ret;exact⟨by rw[hp.out];rfl,B1.out⟩
   ·by_cases h2:15<d
    ·have hp:Hid (M.ok ⟨x,y,d,e⟩=false):=M.ok_not.2 (fun h=>by simp only at h;omega);go_wp2;go_ret;exact⟨by rw[hp.out];rfl,B1.out⟩
    ·have hn:Hid (∀j,j<3→0≤tJ x y d e j∧tJ x y d e j≤15):=fun j hj=>by
      by_cases hj1:j<2
      ·exact hok.out j hj1
      ·obtain rfl:j=2:=by omega
       exact⟨Int.not_lt.1 h1,Int.not_lt.1 h2⟩
     go_wp2;go_round;case rel=>exact⟨3,by omega,rfl,hn⟩
     case measure=>simp[intOf]
  ·by_cases h1:e<0
   ·have hp:Hid (M.ok ⟨x,y,d,e⟩=false):=M.ok_not.2 (fun h=>by simp only at h;omega);go_wp2;go_ret;exact⟨by rw[hp.out];rfl,B1.out⟩
   ·by_cases h2:15<e
    ·have hp:Hid (M.ok ⟨x,y,d,e⟩=false):=M.ok_not.2 (fun h=>by simp only at h;omega);go_wp2;go_ret;exact⟨by rw[hp.out];rfl,B1.out⟩
    ·have hn:Hid (∀j,j<4→0≤tJ x y d e j∧tJ x y d e j≤15):=fun j hj=>by
      by_cases hj1:j<3
      ·exact hok.out j hj1
      ·obtain rfl:j=3:=by omega
       exact⟨Int.not_lt.1 h1,Int.not_lt.1 h2⟩
     go_wp2;go_round;case rel=>exact⟨4,by omega,rfl,hn⟩
     case measure=>simp[intOf]
theorem tZ {x y d e:Int} {b:Bool} (h:M.ok ⟨x,y,d,e⟩=b) (w:World):Calls Tryz.prog 116 #[.agg #[.int .i64 x,.int .i64 y,.int .i64 d,.int .i64 e]] w fun r w'=>r= .returned (.bool b)∧Below w.heap.size w w':=by rw[←h];exact gZ x y d e w
def cR (c:UInt8) (n:Int):List UInt8:=if n≤0 then[]else if n=1 then[c]else c::Lib.decDigits n.toNat
def GT:Nat→UInt8
 |0=>120
 |1=>121
 |2=>100
 |_=>101
def mV (m:M):Nat→List UInt8
 |0=>[]
 |k+1=>mV m k++cR (GT k) (tJ m.x m.y m.d m.e k)
def cX (m:M):List UInt8:=mV m 4
def eN (m:M):List UInt8:=if M.ok m=true then(if cX m=[]then[49]else cX m)else[]
theorem iH (m:M):cX m=cR 120 m.x++cR 121 m.y++cR 100 m.d++cR 101 m.e:=by unfold cX mV mV mV mV mV;simp[GT,tJ]
theorem dH {n:Nat} (h:n<10):Lib.decDigits n=[UInt8.ofNat (48+n)]:=by rw[Lib.decDigits,dif_pos h]
theorem dL {n:Nat} (h:¬n<10):Lib.decDigits n=Lib.decDigits (n / 10)++[UInt8.ofNat (48+n%10)]:=by rw[Lib.decDigits,dif_neg h]
theorem iO {n:Nat} (h:n<100):(Lib.decDigits n).length≤2:=by
 by_cases h1:n<10
 ·rw[dH h1];simp
 ·rw[dL h1,dH (by omega)];simp
theorem gU {n:Nat} (h:n<10000):(Lib.decDigits n).length≤4:=by
 by_cases h1:n<10
 ·rw[dH h1];simp
 ·rw[dL h1];by_cases h2:n / 10<10
  ·rw[dH h2];simp
  ·rw[dL h2];have:=iO (n:=n / 10 / 10) (by omega)
   simp;omega
theorem zM (n:Nat):Lib.decDigits n≠[]:=by
 by_cases h1:n<10
 ·rw[dH h1];simp
 ·rw[dL h1];simp
theorem nJ {c:UInt8} {n:Int} (h:n≤15):(cR c n).length≤3:=by
 unfold cR;split
 ·simp
 ·split
  ·simp
  ·have:=iO (n:=n.toNat) (by omega);simp;omega
theorem xY (c:UInt8):cR c 0=[]:=rfl
theorem BI (c:UInt8):cR c 1=[c]:=rfl
theorem iR {c:UInt8} {n:Nat} (h:2≤n):cR c (n:Int)=c::Lib.decDigits n:=by unfold cR;rw[if_neg (by omega),if_neg (by omega),Int.toNat_natCast]
theorem sF {m:M} (h:M.ok m=true):∀k,(mV m k).length≤3*k
 |0=>by simp[mV]
 |k+1=>by
  have h1:=sF h k
  have h2:(cR (GT k) (tJ m.x m.y m.d m.e k)).length≤3:=nJ (by
   obtain⟨x1,x2,y1,y2,d1,d2,e1,e2⟩:=M.ok_iff.1 h;unfold tJ
   split<;>assumption)
  unfold mV;simp;omega
theorem vL {m:M} (h:M.ok m=false):eN m=[]:=by unfold eN;rw[if_neg (by rw[h];simp)]
theorem jQ {m:M} (h:M.ok m=true) (h0:cX m=[]):eN m=[49]:=by unfold eN;rw[if_pos h,if_pos h0]
theorem fJ {m:M} (h:M.ok m=true) (h0:cX m≠[]):eN m=cX m:=by unfold eN;rw[if_pos h,if_neg h0]
def oL (k:Nat) (out:List UInt8):List UInt8:=(if k=0 then[]else Lib.decDigits k)++out
theorem tN {k:Nat} (h:0<k) (out:List UInt8):oL (k / 10) (UInt8.ofNat (48+k%10)::out)=oL k out:=by
 unfold oL;rw[if_neg (show k≠0 by omega)];by_cases h1:k<10
 ·rw[if_pos (by omega),dH h1,show k%10=k by omega];rfl
 ·rw[if_neg (by omega),dL h1];simp
theorem tO (out:List UInt8):oL 0 out=out:=by unfold oL;simp
theorem xK (k:Nat) (out:List UInt8):out.length≤(oL k out).length:=by unfold oL;simp
theorem qT {k:Nat} (h:0<k):oL k []=Lib.decDigits k:=by unfold oL;rw[if_neg (by omega)];simp
end Go.Proofs.YtkcmamepoplcdaaGreatDoor
