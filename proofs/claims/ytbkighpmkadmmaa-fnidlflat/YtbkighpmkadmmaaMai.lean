/-
  The draws of two monomials: some two, and nothing that was there is turned.
-/
import Derived.Test.YtbkighpmkadmmaaMah
import Derived.Test.YtbkighpmkadmmaaMag
import Derived.Test.YtbkighpmkadmmaaMaf
namespace Go.Proofs.Ytbkighpmkadmmaa
open Go.RowKit
set_option linter.unusedVariables false
theorem uA.below {n g:Nat} {w w':World} (h:uA w g) (hb:Below n w w') (hg:g<n):uA w' g:=by
 obtain⟨⟨x0,x1,x2,x3,c0,c1,c2,c3⟩,f0,f1,f2,f3⟩:=h;have he:=hb.block g hg
 have fz:∀o,w'.frozen? ⟨g,o,none⟩=w.frozen? ⟨g,o,none⟩:=fun o=>World.frozen?_of_block he;have cz:∀o,w'.cell? ⟨g,o,none⟩=w.cell? ⟨g,o,none⟩:=fun o=>mC he
 exact⟨⟨x0,x1,x2,x3,(cz 0).trans c0,(cz 1).trans c1,(cz 2).trans c2,(cz 3).trans c3⟩,(fz 0).trans f0,(fz 1).trans f1,(fz 2).trans f2,(fz 3).trans f3⟩
theorem uA.far {g b o:Nat} {w:World} {v:Value} (h:uA w g) (hn:g≠b):uA (w.setCell ⟨b,o,none⟩ v) g:=by obtain⟨⟨x0,x1,x2,x3,c0,c1,c2,c3⟩,f0,f1,f2,f3⟩:=h;exact⟨⟨x0,x1,x2,x3,(bV hn).trans c0,(bV hn).trans c1,(bV hn).trans c2,(bV hn).trans c3⟩,(dL hn).trans f0,(dL hn).trans f1,(dL hn).trans f2,(dL hn).trans f3⟩
theorem aE.drew {B:Nat} {a w:World} (h:aE B a w):aE B a w.drew:=h.drewN 1
theorem M4.ext {w:World} {b:Nat} {x y d e:Int} (h:M4 w b x y d e):(∀u:cG w,u.1.cell? ⟨b,0,none⟩=some (.int .i64 x))∧(∀u:cG w,u.1.cell? ⟨b,1,none⟩=some (.int .i64 y))∧(∀u:cG w,u.1.cell? ⟨b,2,none⟩=some (.int .i64 d))∧(∀u:cG w,u.1.cell? ⟨b,3,none⟩=some (.int .i64 e)):=
 ⟨fun u=>(u.cell h.lt).trans h.1,fun u=>(u.cell h.lt).trans h.2.1,fun u=>(u.cell h.lt).trans h.2.2.1,fun u=>(u.cell h.lt).trans h.2.2.2⟩
theorem vJ {x y d e x' y' d' e':Int} {m:M} {b:Bool} (h:M.over ⟨x,y,d,e⟩ ⟨x',y',d',e'⟩=(m,b)) (w:World):Calls Try.prog 102 #[.agg #[.int .i64 x,.int .i64 y,.int .i64 d,.int .i64 e],.agg #[.int .i64 x',.int .i64 y',.int .i64 d',.int .i64 e']] w fun r w'=>r= .returned (.tuple #[.agg #[.int .i64 m.x,.int .i64 m.y,.int .i64 m.d,.int .i64 m.e],.bool b])∧Below w.heap.size w w':=by have:=DO x y d e x' y' d' e' w;rw[h]at this;exact this
theorem vG {x y d e x' y' d' e':Int} {m:M} (h:M.both ⟨x,y,d,e⟩ ⟨x',y',d',e'⟩=m) (w:World):Calls Try.prog 71 #[.agg #[.int .i64 x,.int .i64 y,.int .i64 d,.int .i64 e],.agg #[.int .i64 x',.int .i64 y',.int .i64 d',.int .i64 e']] w fun r w'=>r= .returned (.agg #[.int .i64 m.x,.int .i64 m.y,.int .i64 m.d,.int .i64 m.e])∧Below w.heap.size w w':=by have:=DM x y d e x' y' d' e' w;rw[h]at this;exact this
theorem pH {a b:M} (ha:a.ok=true) (hb:b.ok=true) (h:a.x≤b.x∧a.y≤b.y∧a.d≤b.d∧a.e≤b.e):a.dvd b=true:=by simp[M.dvd,ha,hb,h]
theorem zF {a b l h:Int} (ha:l≤a∧a≤h) (hb:l≤b∧b≤h):l≤mx a b∧mx a b≤h∧a≤mx a b∧b≤mx a b:=by unfold mx;split<;>omega
theorem zG {a b c:Int} (ha:a≤c) (hb:b≤c):mx a b≤c:=by unfold mx;split<;>omega
theorem mF {a b p:M} (ha:a.ok=true) (hb:b.ok=true) (hp:M.both a b=p):a.dvd p=true∧b.dvd p=true∧(∀c:M,a.dvd c=true→b.dvd c=true→p.dvd c=true)∧M.both a a=a:=by
 rw[M.both,if_pos ⟨ha,hb⟩]at hp;subst hp;have ka:=M.ok_iff.1 ha
 have kb:=M.ok_iff.1 hb;have hx:=zF (a:=a.x) (b:=b.x) (l:=0) (h:=15) (by omega) (by omega)
 have hy:=zF (a:=a.y) (b:=b.y) (l:=0) (h:=15) (by omega) (by omega);have hd:=zF (a:=a.d) (b:=b.d) (l:=0) (h:=15) (by omega) (by omega)
 have he:=zF (a:=a.e) (b:=b.e) (l:=0) (h:=15) (by omega) (by omega);have hok:M.ok ⟨mx a.x b.x,mx a.y b.y,mx a.d b.d,mx a.e b.e⟩=true:=M.ok_iff.2 (by dsimp only;omega)
 refine⟨pH ha hok (by dsimp only;omega),pH hb hok (by dsimp only;omega),fun c h1 h2=>?_,?_⟩
 ·have k1:=iR h1;have k2:=iR h2
  exact pH hok k1.2.1 ⟨zG k1.2.2.1 k2.2.2.1,zG k1.2.2.2.1 k2.2.2.2.1,zG k1.2.2.2.2.1 k2.2.2.2.2.1,zG k1.2.2.2.2.2 k2.2.2.2.2.2⟩
 ·rw[M.both,if_pos ⟨ha,ha⟩];have:∀z:Int,mx z z=z:=fun z=>by unfold mx;split<;>rfl
  simp only[this]
open Go.RowKit Go.Deep Go.Joins
abbrev L5 (b o B:Nat) (v:Value) (m:M) (u:World):Prop:=u.cell? ⟨b,o,none⟩=some v∧u.cell? ⟨B,0,none⟩=some (.int .i64 m.x)∧u.cell? ⟨B,1,none⟩=some (.int .i64 m.y)∧u.cell? ⟨B,2,none⟩=some (.int .i64 m.d)∧u.cell? ⟨B,3,none⟩=some (.int .i64 m.e)
theorem L5.below {b o B:Nat} {v:Value} {m:M} {u u':World} (h:L5 b o B v m u) (hb:Below u.heap.size u u'):L5 b o B v m u':=
 have l1:=fG u ⟨b,o,none⟩ h.1;have l2:=fG u ⟨B,0,none⟩ h.2.1
 ⟨(hb.cell (p:=⟨b,o,none⟩) l1).trans h.1,(hb.cell (p:=⟨B,0,none⟩) l2).trans h.2.1,(hb.cell (p:=⟨B,1,none⟩) l2).trans h.2.2.1,(hb.cell (p:=⟨B,2,none⟩) l2).trans h.2.2.2.1,(hb.cell (p:=⟨B,3,none⟩) l2).trans h.2.2.2.2⟩
def dM (o:Int) (ln:Nat→Nat) (f:Nat→Nat→T) (i:Nat):T:=f i (aP o (f i) (ln i))
end Go.Proofs.Ytbkighpmkadmmaa
