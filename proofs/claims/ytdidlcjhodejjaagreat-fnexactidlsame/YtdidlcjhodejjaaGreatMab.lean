/-
  More of chapter 2's model: what divides, what is left, what both divide.
-/
import Derived.Test.YtdidlcjhodejjaaGreatMaa
import Derived.Deep.QuietTactic
import Derived.BigQuiet
set_option maxHeartbeats 2000000
namespace Go.Proofs.YtdidlcjhodejjaaGreat
open Go.RowKit
set_option linter.unusedVariables false
theorem NS (x y d e x' y' d' e':Int) (w:World):Calls Tryz.prog 83 #[.agg #[.int .i64 x,.int .i64 y,.int .i64 d,.int .i64 e],.agg #[.int .i64 x',.int .i64 y',.int .i64 d',.int .i64 e']] w fun r w'=>r= .returned (.bool (M.dvd ⟨x,y,d,e⟩ ⟨x',y',d',e'⟩))∧Below w.heap.size w w':=by
 cases ha:M.ok ⟨x,y,d,e⟩
 ·have r1:M.dvd ⟨x,y,d,e⟩ ⟨x',y',d',e'⟩=false:=by simp[M.dvd,ha]
  rw[r1];clear r1;go_enter Tryz.func83,Tryz.ntmps83;go_wp2_with fail;refine(cD ha _).mono ?_;rintro r w1 ⟨rfl,hb1⟩;go_wp2;go_ret;exact⟨rfl,aB (aR w _ _) hb1⟩
 ·cases hb:M.ok ⟨x',y',d',e'⟩
  ·have r1:M.dvd ⟨x,y,d,e⟩ ⟨x',y',d',e'⟩=false:=by simp[M.dvd,hb]
   rw[r1];clear r1;go_enter Tryz.func83,Tryz.ntmps83;go_wp2_with fail;refine(cD ha _).mono ?_;rintro r w1 ⟨rfl,hb1⟩;obtain⟨hc1,hf1⟩:=aP hb1;have hz1:w.heap.size+1<w1.heap.size:=by have:=hb1.size;simp at this;omega
   have hy1:w.heap.size<w1.heap.size:=by omega
   go_wp2_with fail;refine(cD hb _).mono ?_;rintro r w2 ⟨rfl,hb2⟩;obtain⟨hc2,hf2⟩:=aP hb2;go_wp2;go_ret;exact⟨rfl,aB (aB (aR w _ _) hb1) hb2⟩
  ·skip
   by_cases h0:x≤x'
   ·have t0:decide (x≤x')=true:=decide_eq_true h0;by_cases h1:y≤y'
    ·have t1:decide (y≤y')=true:=decide_eq_true h1;by_cases h2:d≤d'
     ·have t2:decide (d≤d')=true:=decide_eq_true h2;by_cases h3:e≤e'
      ·have t3:decide (e≤e')=true:=decide_eq_true h3;have r1:M.dvd ⟨x,y,d,e⟩ ⟨x',y',d',e'⟩=true:=by simp[M.dvd,ha,hb,h0,h1,h2,h3]
       rw[r1];clear r1;go_enter Tryz.func83,Tryz.ntmps83;go_wp2_with fail;refine(cD ha _).mono ?_;rintro r w1 ⟨rfl,hb1⟩;obtain⟨hc1,hf1⟩:=aP hb1;have hz1:w.heap.size+1<w1.heap.size:=by have:=hb1.size;simp at this;omega
       have hy1:w.heap.size<w1.heap.size:=by omega
       go_wp2_with fail;refine(cD hb _).mono ?_;rintro r w2 ⟨rfl,hb2⟩;obtain⟨hc2,hf2⟩:=aP hb2;go_wp2;go_ret;exact⟨rfl,aB (aB (aR w _ _) hb1) hb2⟩
      ·have t3:decide (e≤e')=false:=decide_eq_false h3;have r1:M.dvd ⟨x,y,d,e⟩ ⟨x',y',d',e'⟩=false:=by simp[M.dvd,h3]
       rw[r1];clear r1;go_enter Tryz.func83,Tryz.ntmps83;go_wp2_with fail;refine(cD ha _).mono ?_;rintro r w1 ⟨rfl,hb1⟩;obtain⟨hc1,hf1⟩:=aP hb1;have hz1:w.heap.size+1<w1.heap.size:=by have:=hb1.size;simp at this;omega
       have hy1:w.heap.size<w1.heap.size:=by omega
       go_wp2_with fail;refine(cD hb _).mono ?_;rintro r w2 ⟨rfl,hb2⟩;obtain⟨hc2,hf2⟩:=aP hb2;go_wp2;go_ret;exact⟨rfl,aB (aB (aR w _ _) hb1) hb2⟩
     ·have t2:decide (d≤d')=false:=decide_eq_false h2;have r1:M.dvd ⟨x,y,d,e⟩ ⟨x',y',d',e'⟩=false:=by simp[M.dvd,h2]
      rw[r1];clear r1;go_enter Tryz.func83,Tryz.ntmps83;go_wp2_with fail;refine(cD ha _).mono ?_;rintro r w1 ⟨rfl,hb1⟩;obtain⟨hc1,hf1⟩:=aP hb1;have hz1:w.heap.size+1<w1.heap.size:=by have:=hb1.size;simp at this;omega
      have hy1:w.heap.size<w1.heap.size:=by omega
      go_wp2_with fail;refine(cD hb _).mono ?_;rintro r w2 ⟨rfl,hb2⟩;obtain⟨hc2,hf2⟩:=aP hb2;go_wp2;go_ret;exact⟨rfl,aB (aB (aR w _ _) hb1) hb2⟩
    ·have t1:decide (y≤y')=false:=decide_eq_false h1;have r1:M.dvd ⟨x,y,d,e⟩ ⟨x',y',d',e'⟩=false:=by simp[M.dvd,h1]
     rw[r1];clear r1;go_enter Tryz.func83,Tryz.ntmps83;go_wp2_with fail;refine(cD ha _).mono ?_;rintro r w1 ⟨rfl,hb1⟩;obtain⟨hc1,hf1⟩:=aP hb1;have hz1:w.heap.size+1<w1.heap.size:=by have:=hb1.size;simp at this;omega
     have hy1:w.heap.size<w1.heap.size:=by omega
     go_wp2_with fail;refine(cD hb _).mono ?_;rintro r w2 ⟨rfl,hb2⟩;obtain⟨hc2,hf2⟩:=aP hb2;go_wp2;go_ret;exact⟨rfl,aB (aB (aR w _ _) hb1) hb2⟩
   ·have t0:decide (x≤x')=false:=decide_eq_false h0;have r1:M.dvd ⟨x,y,d,e⟩ ⟨x',y',d',e'⟩=false:=by simp[M.dvd,h0]
    rw[r1];clear r1;go_enter Tryz.func83,Tryz.ntmps83;go_wp2_with fail;refine(cD ha _).mono ?_;rintro r w1 ⟨rfl,hb1⟩;obtain⟨hc1,hf1⟩:=aP hb1;have hz1:w.heap.size+1<w1.heap.size:=by have:=hb1.size;simp at this;omega
    have hy1:w.heap.size<w1.heap.size:=by omega
    go_wp2_with fail;refine(cD hb _).mono ?_;rintro r w2 ⟨rfl,hb2⟩;obtain⟨hc2,hf2⟩:=aP hb2;go_wp2;go_ret;exact⟨rfl,aB (aB (aR w _ _) hb1) hb2⟩
theorem kU {x y d e x' y' d' e':Int} {b:Bool} (h:M.dvd ⟨x,y,d,e⟩ ⟨x',y',d',e'⟩=b) (w:World):Calls Tryz.prog 83 #[.agg #[.int .i64 x,.int .i64 y,.int .i64 d,.int .i64 e],.agg #[.int .i64 x',.int .i64 y',.int .i64 d',.int .i64 e']] w fun r w'=>r= .returned (.bool b)∧Below w.heap.size w w':=by rw[←h];exact NS _ _ _ _ _ _ _ _ w
theorem jJ {a b:M} (h:a.dvd b=true):a.ok=true∧b.ok=true∧a.x≤b.x∧a.y≤b.y∧a.d≤b.d∧a.e≤b.e:=by simp[M.dvd]at h;exact⟨h.1.1,h.1.2,h.2⟩
theorem Dt (x y d e x' y' d' e':Int) (w:World):Calls Tryz.prog 129 #[.agg #[.int .i64 x,.int .i64 y,.int .i64 d,.int .i64 e],.agg #[.int .i64 x',.int .i64 y',.int .i64 d',.int .i64 e']] w fun r w'=>r= .returned (.tuple #[.agg #[.int .i64 (M.over ⟨x,y,d,e⟩ ⟨x',y',d',e'⟩).1.x,.int .i64 (M.over ⟨x,y,d,e⟩ ⟨x',y',d',e'⟩).1.y,.int .i64 (M.over ⟨x,y,d,e⟩ ⟨x',y',d',e'⟩).1.d,.int .i64 (M.over ⟨x,y,d,e⟩ ⟨x',y',d',e'⟩).1.e],.bool (M.over ⟨x,y,d,e⟩ ⟨x',y',d',e'⟩).2])∧Below w.heap.size w w':=by
 cases hd:M.dvd ⟨x',y',d',e'⟩ ⟨x,y,d,e⟩
 ·have r1:M.over ⟨x,y,d,e⟩ ⟨x',y',d',e'⟩=(M.zero,false):=by simp[M.over,hd]
  rw[r1];simp only[M.zero];clear r1;go_enter Tryz.func129,Tryz.ntmps129;go_wp2_with fail;refine(kU hd _).mono ?_;rintro r w1 ⟨rfl,hb1⟩;obtain⟨hc1,hf1⟩:=aP hb1;have hz1:w.heap.size+1+1<w1.heap.size:=by have:=hb1.size;simp at this;omega
  go_wp2;refine bY (v:=.tuple #[.agg #[.int .i64 0,.int .i64 0,.int .i64 0,.int .i64 0],.bool false]) (by simp[results,Tryz.results129,go_sem, *]) rfl ⟨rfl,?_⟩;exact eD (aB (aY w _ _ _) hb1) (by omega) _ _ _ _
 ·obtain⟨o1,o2,l1,l2,l3,l4⟩:=jJ hd;obtain⟨x1,x2,y1,y2,d1,d2,e1,e2⟩:=M.ok_iff.1 o1;obtain⟨x3,x4,y3,y4,d3,d4,e3,e4⟩:=M.ok_iff.1 o2;simp only at x1 x2 y1 y2 d1 d2 e1 e2 x3 x4 y3 y4 d3 d4 e3 e4 l1 l2 l3 l4;have r1:M.over ⟨x,y,d,e⟩ ⟨x',y',d',e'⟩=(⟨x-x',y-y',d-d',e-e'⟩,true):=by simp[M.over,hd,M.diff]
  rw[r1];clear r1 o1 o2;go_enter Tryz.func129,Tryz.ntmps129;go_wp2_with fail;refine(kU hd _).mono ?_;rintro r w1 ⟨rfl,hb1⟩;obtain⟨hc1,hf1⟩:=aP hb1;have hz1:w.heap.size+1+1<w1.heap.size:=by have:=hb1.size;simp at this;omega
  go_wp2;refine bY (v:=.tuple #[.agg #[.int .i64 (x-x'),.int .i64 (y-y'),.int .i64 (d-d'),.int .i64 (e-e')],.bool true]) (by simp[results,Tryz.results129,go_sem, *]) rfl ⟨rfl,?_⟩;exact eD (aB (aY w _ _ _) hb1) (by omega) _ _ _ _
def bJ (w:World):Type:=Subtype (fun u:World=>Below w.heap.size w u)
theorem bJ.there (w:World):Nonempty (bJ w):=⟨⟨w,bL _ _⟩⟩
theorem bJ.cell {w:World} (x:bJ w) {b o:Nat} (h:b<w.heap.size):x.1.cell? ⟨b,o,none⟩=w.cell? ⟨b,o,none⟩:=x.2.cell (p:=⟨b,o,none⟩) h
theorem aG {P:Program} {id:Nat} {Q:Exit→Act→World→Prop} {a:Act} {w:World} {l:List Oper} (hm:P.follows .mixedOrders=true) (hB:Region.lexB .any l.toArray=true) (h:wpQuiet P l.toArray (fun u=>∃x:bJ w,u=x.1) (fun a'=>∀w',(∃x:bJ w,w'=x.1)→Q .normal a' w') l a):(Code.region id l.toArray true).wp P Q a w:=
 wp_region_quiet (C:=fun u=>∃x:bJ w,u=x.1) hm hB ⟨⟨_,(bL _ _).drew⟩,rfl⟩ (by simpa using h)
theorem mF {P:Program} {f:FuncId} {args:Array Value} {w:World} {x:bJ w} {v:Value} (h:Calls P f args x.1 fun e w'=>e= .returned v∧w'=x.1):Calls P f args x.1 fun e w''=>e= .returned v∧∃y:bJ w,w''=y.1:=
 h.mono fun _ _ ⟨he,hm⟩=>⟨he,x,hm⟩
theorem aJ {P:Program} {f:FuncId} {args:Array Value} {w:World} {x:bJ w} {v:Value} (h:Calls P f args x.1 fun e w'=>e= .returned v∧Below x.1.heap.size x.1 w'):Calls P f args x.1 fun e w''=>e= .returned v∧∃y:bJ w,w''=y.1:=
 h.mono fun _ w' ⟨he,hm⟩=>⟨he,⟨w',x.2.trans (hm.mono x.2.size)⟩,rfl⟩
theorem aC (w:World) (A:Obj):Below w.heap.size w (w.alloc A):=(bL _ _).alloc (Nat.le_refl _) _
theorem mY {w:World} {t:TypeId} (A:Array Value) (i:Nat) (v:Value) (h:A[i]? =some v):∀u:bJ (w.alloc (.cells A t)),u.1.cell? ⟨w.heap.size,i,none⟩=some v:=fun u=>by
 rw[u.cell (by simp),World.cell?_alloc_at _ _ _ _ rfl];exact h
theorem Hr (x y d e:Int) (w:World):Calls Tryz.prog 107 #[.agg #[.int .i64 x,.int .i64 y,.int .i64 d,.int .i64 e]] w fun r w'=>r= .returned (.agg #[.int .i64 x,.int .i64 y,.int .i64 d,.int .i64 e])∧Below w.heap.size w w':=by go_enter Tryz.func107,Tryz.ntmps107;go_wp2;refine bY (v:=.agg #[.int .i64 x,.int .i64 y,.int .i64 d,.int .i64 e]) (by simp[results,Tryz.results107,go_sem]) rfl ⟨rfl,?_⟩;exact aR w _ _
theorem TS (x y d e:Int) (w:World) (h:M.ok ⟨x,y,d,e⟩=true):Calls Tryz.prog 144 #[.agg #[.int .i64 x,.int .i64 y,.int .i64 d,.int .i64 e]] w fun r w'=>r= .returned (.int .i64 (x+y+d+e))∧Below w.heap.size w w':=by obtain⟨x1,x2,y1,y2,d1,d2,e1,e2⟩:=M.ok_iff.1 h;simp only at x1 x2 y1 y2 d1 d2 e1 e2;clear h;go_enter Tryz.func144,Tryz.ntmps144;go_wp2;go_ret;exact⟨rfl,aC w _⟩
def iF (m:M):Int:=((m.d*16+m.e)*16+m.x)*16+m.y
def fF (m:M):Int:=(m.x+m.y+m.d+m.e)*65536+iF m
def xT (m:M):Int:=(m.d+m.x)*65536+iF m
theorem iP (x y d e:Int) (w:World) (h:M.ok ⟨x,y,d,e⟩=true):Calls Tryz.prog 104 #[.agg #[.int .i64 x,.int .i64 y,.int .i64 d,.int .i64 e]] w fun r w'=>r= .returned (.int .i64 (iF ⟨x,y,d,e⟩))∧Below w.heap.size w w':=by obtain⟨x1,x2,y1,y2,d1,d2,e1,e2⟩:=M.ok_iff.1 h;simp only at x1 x2 y1 y2 d1 d2 e1 e2;clear h;simp only[iF];go_enter Tryz.func104,Tryz.ntmps104;go_wp2;go_ret;exact⟨rfl,aC w _⟩
theorem fZ (x y d e:Int) (w:World) (h:M.ok ⟨x,y,d,e⟩=true):Calls Tryz.prog 103 #[.agg #[.int .i64 x,.int .i64 y,.int .i64 d,.int .i64 e]] w fun r w'=>r= .returned (.int .i64 (fF ⟨x,y,d,e⟩))∧Below w.heap.size w w':=by
 obtain⟨x1,x2,y1,y2,d1,d2,e1,e2⟩:=M.ok_iff.1 h;simp only at x1 x2 y1 y2 d1 d2 e1 e2;have HK:=aA h
 have k1:0≤iF ⟨x,y,d,e⟩:=by simp only[iF];omega
 have k2:iF ⟨x,y,d,e⟩≤65535:=by simp only[iF];omega
 have r1:fF ⟨x,y,d,e⟩=(x+y+d+e)*65536+iF ⟨x,y,d,e⟩:=rfl;rw[r1];clear h r1;go_enter Tryz.func103,Tryz.ntmps103;go_wp2_with fail;have B1:=aA (aC w (.cells #[.int .i64 x,.int .i64 y,.int .i64 d,.int .i64 e] 40))
 have ne:=bJ.there (w.alloc (.cells #[.int .i64 x,.int .i64 y,.int .i64 d,.int .i64 e] 40));have s0:=mY (w:=w) (t:=40) #[.int .i64 x,.int .i64 y,.int .i64 d,.int .i64 e] 0 _ rfl
 have s1:=mY (w:=w) (t:=40) #[.int .i64 x,.int .i64 y,.int .i64 d,.int .i64 e] 1 _ rfl;have s2:=mY (w:=w) (t:=40) #[.int .i64 x,.int .i64 y,.int .i64 d,.int .i64 e] 2 _ rfl
 have s3:=mY (w:=w) (t:=40) #[.int .i64 x,.int .i64 y,.int .i64 d,.int .i64 e] 3 _ rfl;refine aG (by kernel_rfl) (by kernel_rfl) ?_;repeat(go_big_quiet_step (first|(go_at_call 144;exact aJ (TS _ _ _ _ _ HK.out))|(go_at_call 104;exact aJ (iP _ _ _ _ _ HK.out))))
 refine wpQuiet_nil ?_;rintro _ ⟨u,rfl⟩;go_wp2;go_ret;exact⟨rfl,B1.out.trans (u.2.mono B1.out.size)⟩
theorem jV (x y d e:Int) (w:World) (h:M.ok ⟨x,y,d,e⟩=true):Calls Tryz.prog 105 #[.agg #[.int .i64 x,.int .i64 y,.int .i64 d,.int .i64 e]] w fun r w'=>r= .returned (.int .i64 (xT ⟨x,y,d,e⟩))∧Below w.heap.size w w':=by
 obtain⟨x1,x2,y1,y2,d1,d2,e1,e2⟩:=M.ok_iff.1 h;simp only at x1 x2 y1 y2 d1 d2 e1 e2;have HK:=aA h
 have k1:0≤iF ⟨x,y,d,e⟩:=by simp only[iF];omega
 have k2:iF ⟨x,y,d,e⟩≤65535:=by simp only[iF];omega
 have r1:xT ⟨x,y,d,e⟩=(d+x)*65536+iF ⟨x,y,d,e⟩:=rfl;rw[r1];clear h r1;go_enter Tryz.func105,Tryz.ntmps105;go_wp2_with fail;have B1:=aA (aC w (.cells #[.int .i64 x,.int .i64 y,.int .i64 d,.int .i64 e] 40))
 have ne:=bJ.there (w.alloc (.cells #[.int .i64 x,.int .i64 y,.int .i64 d,.int .i64 e] 40));have s0:=mY (w:=w) (t:=40) #[.int .i64 x,.int .i64 y,.int .i64 d,.int .i64 e] 0 _ rfl
 have s1:=mY (w:=w) (t:=40) #[.int .i64 x,.int .i64 y,.int .i64 d,.int .i64 e] 1 _ rfl;have s2:=mY (w:=w) (t:=40) #[.int .i64 x,.int .i64 y,.int .i64 d,.int .i64 e] 2 _ rfl
 have s3:=mY (w:=w) (t:=40) #[.int .i64 x,.int .i64 y,.int .i64 d,.int .i64 e] 3 _ rfl;refine aG (by kernel_rfl) (by kernel_rfl) ?_;repeat(go_big_quiet_step (first|(go_at_call 144;exact aJ (TS _ _ _ _ _ HK.out))|(go_at_call 104;exact aJ (iP _ _ _ _ _ HK.out))))
 refine wpQuiet_nil ?_;rintro _ ⟨u,rfl⟩;go_wp2;go_ret;exact⟨rfl,B1.out.trans (u.2.mono B1.out.size)⟩
def BO (x y d e:Int):Nat→Int
 |0=>x
 |1=>y
 |2=>d
 |_=>e
theorem oG (x y d e:Int) (w:World):Calls Tryz.prog 64 #[.agg #[.int .i64 x,.int .i64 y,.int .i64 d,.int .i64 e]] w fun r w'=>r= .returned (.bool (M.ok ⟨x,y,d,e⟩))∧Below w.heap.size w w':=by
 have i0:∀w:World,(Instr.index 129 (.agg #[.int .i64 x,.int .i64 y,.int .i64 d,.int .i64 e]) (.int .i64 0)).run Tryz.prog w= .ok (.int .i64 x) w:=fun _=>by kernel_rfl
 have i1:∀w:World,(Instr.index 129 (.agg #[.int .i64 x,.int .i64 y,.int .i64 d,.int .i64 e]) (.int .i64 1)).run Tryz.prog w= .ok (.int .i64 y) w:=fun _=>by kernel_rfl
 have i2:∀w:World,(Instr.index 129 (.agg #[.int .i64 x,.int .i64 y,.int .i64 d,.int .i64 e]) (.int .i64 2)).run Tryz.prog w= .ok (.int .i64 d) w:=fun _=>by kernel_rfl
 have i3:∀w:World,(Instr.index 129 (.agg #[.int .i64 x,.int .i64 y,.int .i64 d,.int .i64 e]) (.int .i64 3)).run Tryz.prog w= .ok (.int .i64 e) w:=fun _=>by kernel_rfl
 go_enter Tryz.func64,Tryz.ntmps64;go_wp2_with fail;refine(Hr x y d e _).mono ?_;rintro r w1 ⟨rfl,hb⟩;have B1:=aA (aB (aC w _) hb)
 clear hb;go_wp2
 go_loop [7] (fun i=>∃k:Nat,k≤4∧i= .int .i64 k∧Hid (∀j,j<k→0≤BO x y d e j∧BO x y d e j≤15)) (fun i=>4-(intOf i).toNat)
 case atStart=>exact⟨0,by omega,rfl,fun j hj=>absurd hj (rT _)⟩
 case round=>
  obtain⟨k,hk,rfl,hok⟩:=hrel;have hk5:k=4∨k=0∨k=1∨k=2∨k=3:=by omega
  rcases hk5 with rfl|rfl|rfl|rfl|rfl
  ·have hp:M.ok ⟨x,y,d,e⟩=true:=M.ok_iff.2 ⟨(hok.out 0 (by omega)).1,(hok.out 0 (by omega)).2,(hok.out 1 (by omega)).1,(hok.out 1 (by omega)).2,(hok.out 2 (by omega)).1,(hok.out 2 (by omega)).2,(hok.out 3 (by omega)).1,(hok.out 3 (by omega)).2⟩;have HP:=aA hp
   clear hp;go_wp2;go_ret;exact⟨by rw[HP.out];rfl,B1.out⟩
  ·by_cases h1:x<0
   ·have hp:Hid (M.ok ⟨x,y,d,e⟩=false):=M.ok_not.2 (fun h=>by simp only at h;omega);go_wp2;go_ret;exact⟨by rw[hp.out];rfl,B1.out⟩
   ·by_cases h2:15<x
    ·have hp:Hid (M.ok ⟨x,y,d,e⟩=false):=M.ok_not.2 (fun h=>by simp only at h;omega);go_wp2;go_ret;exact⟨by rw[hp.out];rfl,B1.out⟩
    ·have hn:Hid (∀j,j<1→0≤BO x y d e j∧BO x y d e j≤15):=fun j hj=>by
      obtain rfl:j=0:=by omega
      exact⟨Int.not_lt.1 h1,Int.not_lt.1 h2⟩
     go_wp2;go_round;case rel=>exact⟨1,by omega,rfl,hn⟩
     case measure=>simp[intOf]
  ·by_cases h1:y<0
   ·have hp:Hid (M.ok ⟨x,y,d,e⟩=false):=M.ok_not.2 (fun h=>by simp only at h;omega);go_wp2;go_ret;exact⟨by rw[hp.out];rfl,B1.out⟩
   ·by_cases h2:15<y
    ·have hp:Hid (M.ok ⟨x,y,d,e⟩=false):=M.ok_not.2 (fun h=>by simp only at h;omega);go_wp2;go_ret;exact⟨by rw[hp.out];rfl,B1.out⟩
    ·have hn:Hid (∀j,j<2→0≤BO x y d e j∧BO x y d e j≤15):=fun j hj=>by
      by_cases hj1:j<1
      ·exact hok.out j hj1
      ·obtain rfl:j=1:=by omega
       exact⟨Int.not_lt.1 h1,Int.not_lt.1 h2⟩
     go_wp2;go_round;case rel=>exact⟨2,by omega,rfl,hn⟩
     case measure=>simp[intOf]
  ·by_cases h1:d<0
   ·have hp:Hid (M.ok ⟨x,y,d,e⟩=false):=M.ok_not.2 (fun h=>by simp only at h;omega);go_wp2;go_ret;exact⟨by rw[hp.out];rfl,B1.out⟩
   ·by_cases h2:15<d
    ·have hp:Hid (M.ok ⟨x,y,d,e⟩=false):=M.ok_not.2 (fun h=>by simp only at h;omega);go_wp2;go_ret;exact⟨by rw[hp.out];rfl,B1.out⟩
    ·have hn:Hid (∀j,j<3→0≤BO x y d e j∧BO x y d e j≤15):=fun j hj=>by
      by_cases hj1:j<2
      ·exact hok.out j hj1
      ·obtain rfl:j=2:=by omega
       exact⟨Int.not_lt.1 h1,Int.not_lt.1 h2⟩
     go_wp2;go_round;case rel=>exact⟨3,by omega,rfl,hn⟩
     case measure=>simp[intOf]
  ·by_cases h1:e<0
   ·have hp:Hid (M.ok ⟨x,y,d,e⟩=false):=M.ok_not.2 (fun h=>by simp only at h;omega);go_wp2;go_ret;exact⟨by rw[hp.out];rfl,B1.out⟩
   ·by_cases h2:15<e
    ·have hp:Hid (M.ok ⟨x,y,d,e⟩=false):=M.ok_not.2 (fun h=>by simp only at h;omega);go_wp2;go_ret;exact⟨by rw[hp.out];rfl,B1.out⟩
    ·have hn:Hid (∀j,j<4→0≤BO x y d e j∧BO x y d e j≤15):=fun j hj=>by
      by_cases hj1:j<3
      ·exact hok.out j hj1
      ·obtain rfl:j=3:=by omega
       exact⟨Int.not_lt.1 h1,Int.not_lt.1 h2⟩
     go_wp2;go_round;case rel=>exact⟨4,by omega,rfl,hn⟩
     case measure=>simp[intOf]
theorem bH {x y d e:Int} {b:Bool} (h:M.ok ⟨x,y,d,e⟩=b) (w:World):Calls Tryz.prog 64 #[.agg #[.int .i64 x,.int .i64 y,.int .i64 d,.int .i64 e]] w fun r w'=>r= .returned (.bool b)∧Below w.heap.size w w':=by rw[←h];exact oG x y d e w
theorem zE {a b a' b':Int} (h1:a<b↔a'<b') (h2:b<a↔b'<a'):c3 a b=c3 a' b':=by unfold c3;simp only[h1,h2]
theorem SX {a b:M} (ha:a.ok=true) (hb:b.ok=true):c3 (iF a) (iF b)=M.lex a b:=by
 obtain⟨x1,x2,y1,y2,d1,d2,e1,e2⟩:=M.ok_iff.1 ha;obtain⟨x3,x4,y3,y4,d3,d4,e3,e4⟩:=M.ok_iff.1 hb;by_cases hd:a.d=b.d
 ·by_cases he:a.e=b.e
  ·by_cases hx:a.x=b.x
   ·have h:M.lex a b=c3 a.y b.y:=by simp[M.lex,hd,he,hx]
    rw[h];exact zE (by unfold iF;omega) (by unfold iF;omega)
   ·have h:M.lex a b=c3 a.x b.x:=by simp[M.lex,hd,he,hx]
    rw[h];exact zE (by unfold iF;omega) (by unfold iF;omega)
  ·have h:M.lex a b=c3 a.e b.e:=by simp[M.lex,hd,he]
   rw[h];exact zE (by unfold iF;omega) (by unfold iF;omega)
 ·have h:M.lex a b=c3 a.d b.d:=by simp[M.lex,hd]
  rw[h];exact zE (by unfold iF;omega) (by unfold iF;omega)
theorem yS {a b:M} (ha:a.ok=true) (hb:b.ok=true):c3 (fF a) (fF b)=M.ord 1 a b:=by
 obtain⟨x1,x2,y1,y2,d1,d2,e1,e2⟩:=M.ok_iff.1 ha;obtain⟨x3,x4,y3,y4,d3,d4,e3,e4⟩:=M.ok_iff.1 hb;have da:a.deg=a.x+a.y+a.d+a.e:=by simp[M.deg,ha]
 have db:b.deg=b.x+b.y+b.d+b.e:=by simp[M.deg,hb]
 have la:0≤iF a∧iF a≤65535:=by simp only[iF];omega
 have lb:0≤iF b∧iF b≤65535:=by simp only[iF];omega
 by_cases h:a.deg=b.deg
 ·have e1:M.ord 1 a b=M.lex a b:=by simp[M.ord,h]
  rw[e1,←SX ha hb];rw[da,db]at h;exact zE (by unfold fF;omega) (by unfold fF;omega)
 ·have e1:M.ord 1 a b=c3 a.deg b.deg:=by simp[M.ord,h]
  rw[e1,da,db];rw[da,db]at h;exact zE (by unfold fF;omega) (by unfold fF;omega)
theorem KQ {a b:M} (ha:a.ok=true) (hb:b.ok=true):c3 (xT a) (xT b)=M.ord 3 a b:=by
 obtain⟨x1,x2,y1,y2,d1,d2,e1,e2⟩:=M.ok_iff.1 ha;obtain⟨x3,x4,y3,y4,d3,d4,e3,e4⟩:=M.ok_iff.1 hb;have la:0≤iF a∧iF a≤65535:=by simp only[iF];omega
 have lb:0≤iF b∧iF b≤65535:=by simp only[iF];omega
 by_cases h:a.d+a.x=b.d+b.x
 ·have e1:M.ord 3 a b=M.lex a b:=by simp[M.ord,h]
  rw[e1,←SX ha hb];exact zE (by unfold xT;omega) (by unfold xT;omega)
 ·have e1:M.ord 3 a b=c3 (a.d+a.x) (b.d+b.x):=by simp[M.ord,h]
  rw[e1];exact zE (by unfold xT;omega) (by unfold xT;omega)
theorem KS {a b:M} (ha:a.ok=true) (hb:b.ok=true):c3 (iF a) (iF b)=M.ord 2 a b:=by rw[SX ha hb];simp[M.ord]
theorem Oa (a:Int) (w:World):Calls Tryz.prog 120 #[.int .i64 a] w fun r w'=>r= .returned (.bool false)∧w'=w:=by go_enter Tryz.func120,Tryz.ntmps120;go_wp2;go_ret;exact⟨by simp,rfl⟩
theorem vW (a b:Int) (w:World):Calls Tryz.prog 76 #[.int .i64 a,.int .i64 b] w fun r w'=>r= .returned (.int .i64 (c3 a b))∧w'=w:=by
 by_cases h1:a<b
 ·have e1:c3 a b= -1:=by simp[c3,h1]
  rw[e1];go_enter Tryz.func76,Tryz.ntmps76;go_wp2_with (first|(go_at_call 120;refine(Oa _ _).mono ?_;rintro r w' ⟨rfl,rfl⟩));go_ret;exact⟨rfl,rfl⟩
 ·by_cases h2:b<a
  ·have e1:c3 a b=1:=by simp[c3,h1,h2]
   rw[e1];go_enter Tryz.func76,Tryz.ntmps76;go_wp2_with (first|(go_at_call 120;refine(Oa _ _).mono ?_;rintro r w' ⟨rfl,rfl⟩));go_ret;exact⟨rfl,rfl⟩
  ·have e1:c3 a b=0:=by simp[c3,h1,h2]
   rw[e1];go_enter Tryz.func76,Tryz.ntmps76;go_wp2_with (first|(go_at_call 120;refine(Oa _ _).mono ?_;rintro r w' ⟨rfl,rfl⟩));go_ret;exact⟨rfl,rfl⟩
theorem nC (o:Int) (w:World) (h:o<1∨3<o):Calls Tryz.prog 62 #[.int .i64 o] w fun r w'=>r= .returned (.tuple #[.nilFunc,.bool false])∧Below w.heap.size w w':=by
 rcases h with h|h
 all_goals
  go_enter Tryz.func62,Tryz.ntmps62;go_wp2
  go_ret2
  exact⟨rfl,aC w _⟩
theorem pZ (w:World):Calls Tryz.prog 62 #[.int .i64 1] w fun r w'=>r= .returned (.tuple #[.func (.func 103) #[] #[],.bool true])∧Below w.heap.size w w':=by
 go_enter Tryz.func62,Tryz.ntmps62;go_wp2
 go_ret2
 exact⟨rfl,aC w _⟩
theorem qB (w:World):Calls Tryz.prog 62 #[.int .i64 2] w fun r w'=>r= .returned (.tuple #[.func (.func 104) #[] #[],.bool true])∧Below w.heap.size w w':=by
 go_enter Tryz.func62,Tryz.ntmps62;go_wp2
 go_ret2
 exact⟨rfl,aC w _⟩
theorem qD (w:World):Calls Tryz.prog 62 #[.int .i64 3] w fun r w'=>r= .returned (.tuple #[.func (.func 105) #[] #[],.bool true])∧Below w.heap.size w w':=by
 go_enter Tryz.func62,Tryz.ntmps62;go_wp2
 go_ret2
 exact⟨rfl,aC w _⟩
theorem iA (o:Int) (w:World) (h1:1≤o) (h2:o≤3):Calls Tryz.prog 62 #[.int .i64 o] w fun r w'=>∃fv,r= .returned (.tuple #[fv,.bool true])∧Below w.heap.size w w':=by
 have ho3:o=1∨o=2∨o=3:=by omega
 rcases ho3 with rfl|rfl|rfl
 ·exact(pZ w).mono fun _ _ h=>⟨_,h⟩
 ·exact(qB w).mono fun _ _ h=>⟨_,h⟩
 ·exact(qD w).mono fun _ _ h=>⟨_,h⟩
theorem UM (x y d e x' y' d' e':Int) (w:World):Calls Tryz.prog 181 #[.agg #[.int .i64 x,.int .i64 y,.int .i64 d,.int .i64 e],.agg #[.int .i64 x',.int .i64 y',.int .i64 d',.int .i64 e']] w fun r w'=>r= .returned (.tuple #[.agg #[.int .i64 (M.mul ⟨x,y,d,e⟩ ⟨x',y',d',e'⟩).1.x,.int .i64 (M.mul ⟨x,y,d,e⟩ ⟨x',y',d',e'⟩).1.y,.int .i64 (M.mul ⟨x,y,d,e⟩ ⟨x',y',d',e'⟩).1.d,.int .i64 (M.mul ⟨x,y,d,e⟩ ⟨x',y',d',e'⟩).1.e],.bool (M.mul ⟨x,y,d,e⟩ ⟨x',y',d',e'⟩).2])∧Below w.heap.size w w':=by
 cases ha:M.ok ⟨x,y,d,e⟩
 ·have r1:M.mul ⟨x,y,d,e⟩ ⟨x',y',d',e'⟩=(M.zero,false):=by simp[M.mul,ha]
  rw[r1];simp only[M.zero];go_enter Tryz.func181,Tryz.ntmps181;go_wp2_with fail;refine(oG _ _ _ _ _).mono ?_;rw[ha];rintro r w1 ⟨rfl,hb1⟩;obtain⟨hc1,hf1⟩:=aP hb1;have hz1:w.heap.size+1+1<w1.heap.size:=by have:=hb1.size;simp at this;omega
  go_wp2;refine bY (v:=.tuple #[.agg #[.int .i64 0,.int .i64 0,.int .i64 0,.int .i64 0],.bool false]) (by simp[results,Tryz.results181,go_sem, *]) rfl ⟨rfl,?_⟩;exact eD (aB (aY w _ _ _) hb1) (by omega) _ _ _ _
 ·cases hb:M.ok ⟨x',y',d',e'⟩
  ·have r1:M.mul ⟨x,y,d,e⟩ ⟨x',y',d',e'⟩=(M.zero,false):=by simp[M.mul,hb]
   rw[r1];simp only[M.zero];clear r1;go_enter Tryz.func181,Tryz.ntmps181;go_wp2_with fail;refine(oG _ _ _ _ _).mono ?_;rw[ha];rintro r w1 ⟨rfl,hb1⟩;obtain⟨hc1,hf1⟩:=aP hb1;have hz1:w.heap.size+1+1<w1.heap.size:=by have:=hb1.size;simp at this;omega
   go_wp2_with fail;refine(oG _ _ _ _ _).mono ?_;rw[hb];rintro r w2 ⟨rfl,hb2⟩;obtain⟨hc2,hf2⟩:=aP hb2;have hz2:w.heap.size+1+1<w2.heap.size:=by have:=hb2.size;omega
   go_wp2;refine bY (v:=.tuple #[.agg #[.int .i64 0,.int .i64 0,.int .i64 0,.int .i64 0],.bool false]) (by simp[results,Tryz.results181,go_sem, *]) rfl ⟨rfl,?_⟩;exact eD (aB (aB (aY w _ _ _) hb1) hb2) (by omega) _ _ _ _
  ·obtain⟨x1,x2,y1,y2,d1,d2,e1,e2⟩:=M.ok_iff.1 ha;obtain⟨x3,x4,y3,y4,d3,d4,e3,e4⟩:=M.ok_iff.1 hb;simp only at x1 x2 y1 y2 d1 d2 e1 e2 x3 x4 y3 y4 d3 d4 e3 e4;cases hs:M.ok ⟨x+x',y+y',d+d',e+e'⟩
   ·have r1:M.mul ⟨x,y,d,e⟩ ⟨x',y',d',e'⟩=(M.zero,false):=by simp[M.mul,M.sum,hs]
    rw[r1];simp only[M.zero];clear r1;go_enter Tryz.func181,Tryz.ntmps181;go_wp2_with fail;refine(oG _ _ _ _ _).mono ?_;rw[ha];rintro r w1 ⟨rfl,hb1⟩;obtain⟨hc1,hf1⟩:=aP hb1;have hz1:w.heap.size+1+1<w1.heap.size:=by have:=hb1.size;simp at this;omega
    have hz0:w.heap.size+1<w1.heap.size:=by omega
    have hzz:w.heap.size<w1.heap.size:=by omega
    go_wp2_with fail;refine(oG _ _ _ _ _).mono ?_;rw[hb];rintro r w2 ⟨rfl,hb2⟩;obtain⟨hc2,hf2⟩:=aP hb2;have hz2:w.heap.size+1+1<w2.heap.size:=by have:=hb2.size;omega
    go_wp2_with fail;refine(oG _ _ _ _ _).mono ?_;rw[hs];rintro r w3 ⟨rfl,hb3⟩;obtain⟨hc3,hf3⟩:=aP (aB ((bL w2.heap.size w2).alloc (Nat.le_refl _) _) hb3);have ht:∀i,w3.cell? ⟨w2.heap.size,i,none⟩=#[Value.int .i64 (x+x'),.int .i64 (y+y'),.int .i64 (d+d'),.int .i64 (e+e')][i]? :=fun i=>by rw[hb3.cell (p:=⟨w2.heap.size,i,none⟩) (by simp),World.cell?_alloc_at _ _ _ _ rfl]
    have hB:=aB ((aB (aB (aY w _ _ _) hb1) hb2).alloc (aB (aB (aY w _ _ _) hb1) hb2).size _) hb3;go_wp2;refine bY (v:=.tuple #[.agg #[.int .i64 0,.int .i64 0,.int .i64 0,.int .i64 0],.bool false]) (by simp[results,Tryz.results181,go_sem, *]) rfl ⟨rfl,?_⟩;exact eD hB (by omega) _ _ _ _
   ·have r1:M.mul ⟨x,y,d,e⟩ ⟨x',y',d',e'⟩=(⟨x+x',y+y',d+d',e+e'⟩,true):=by simp[M.mul,M.sum,hs,ha,hb]
    rw[r1];clear r1;go_enter Tryz.func181,Tryz.ntmps181;go_wp2_with fail;refine(oG _ _ _ _ _).mono ?_;rw[ha];rintro r w1 ⟨rfl,hb1⟩;obtain⟨hc1,hf1⟩:=aP hb1;have hz1:w.heap.size+1+1<w1.heap.size:=by have:=hb1.size;simp at this;omega
    have hz0:w.heap.size+1<w1.heap.size:=by omega
    have hzz:w.heap.size<w1.heap.size:=by omega
    go_wp2_with fail;refine(oG _ _ _ _ _).mono ?_;rw[hb];rintro r w2 ⟨rfl,hb2⟩;obtain⟨hc2,hf2⟩:=aP hb2;have hz2:w.heap.size+1+1<w2.heap.size:=by have:=hb2.size;omega
    go_wp2_with fail;refine(oG _ _ _ _ _).mono ?_;rw[hs];rintro r w3 ⟨rfl,hb3⟩;obtain⟨hc3,hf3⟩:=aP (aB ((bL w2.heap.size w2).alloc (Nat.le_refl _) _) hb3);have ht:∀i,w3.cell? ⟨w2.heap.size,i,none⟩=#[Value.int .i64 (x+x'),.int .i64 (y+y'),.int .i64 (d+d'),.int .i64 (e+e')][i]? :=fun i=>by rw[hb3.cell (p:=⟨w2.heap.size,i,none⟩) (by simp),World.cell?_alloc_at _ _ _ _ rfl]
    have hB:=aB ((aB (aB (aY w _ _ _) hb1) hb2).alloc (aB (aB (aY w _ _ _) hb1) hb2).size _) hb3;go_wp2;refine bY (v:=.tuple #[.agg #[.int .i64 (x+x'),.int .i64 (y+y'),.int .i64 (d+d'),.int .i64 (e+e')],.bool true]) (by simp[results,Tryz.results181,go_sem, *]) rfl ⟨rfl,?_⟩;exact eD hB (by omega) _ _ _ _
theorem NR (x y d e x' y' d' e':Int) (w:World):Calls Tryz.prog 24 #[.agg #[.int .i64 x,.int .i64 y,.int .i64 d,.int .i64 e],.agg #[.int .i64 x',.int .i64 y',.int .i64 d',.int .i64 e']] w fun r w'=>r= .returned (.bool (M.dvd ⟨x,y,d,e⟩ ⟨x',y',d',e'⟩))∧Below w.heap.size w w':=by
 cases ha:M.ok ⟨x,y,d,e⟩
 ·have r1:M.dvd ⟨x,y,d,e⟩ ⟨x',y',d',e'⟩=false:=by simp[M.dvd,ha]
  rw[r1];clear r1;go_enter Tryz.func24,Tryz.ntmps24;go_wp2_with fail;refine(bH ha _).mono ?_;rintro r w1 ⟨rfl,hb1⟩;go_wp2;go_ret;exact⟨rfl,aB (aR w _ _) hb1⟩
 ·cases hb:M.ok ⟨x',y',d',e'⟩
  ·have r1:M.dvd ⟨x,y,d,e⟩ ⟨x',y',d',e'⟩=false:=by simp[M.dvd,hb]
   rw[r1];clear r1;go_enter Tryz.func24,Tryz.ntmps24;go_wp2_with fail;refine(bH ha _).mono ?_;rintro r w1 ⟨rfl,hb1⟩;obtain⟨hc1,hf1⟩:=aP hb1;have hz1:w.heap.size+1<w1.heap.size:=by have:=hb1.size;simp at this;omega
   have hy1:w.heap.size<w1.heap.size:=by omega
   go_wp2_with fail;refine(bH hb _).mono ?_;rintro r w2 ⟨rfl,hb2⟩;obtain⟨hc2,hf2⟩:=aP hb2;go_wp2;go_ret;exact⟨rfl,aB (aB (aR w _ _) hb1) hb2⟩
  ·skip
   by_cases h0:x≤x'
   ·have t0:decide (x≤x')=true:=decide_eq_true h0;by_cases h1:y≤y'
    ·have t1:decide (y≤y')=true:=decide_eq_true h1;by_cases h2:d≤d'
     ·have t2:decide (d≤d')=true:=decide_eq_true h2;by_cases h3:e≤e'
      ·have t3:decide (e≤e')=true:=decide_eq_true h3;have r1:M.dvd ⟨x,y,d,e⟩ ⟨x',y',d',e'⟩=true:=by simp[M.dvd,ha,hb,h0,h1,h2,h3]
       rw[r1];clear r1;go_enter Tryz.func24,Tryz.ntmps24;go_wp2_with fail;refine(bH ha _).mono ?_;rintro r w1 ⟨rfl,hb1⟩;obtain⟨hc1,hf1⟩:=aP hb1;have hz1:w.heap.size+1<w1.heap.size:=by have:=hb1.size;simp at this;omega
       have hy1:w.heap.size<w1.heap.size:=by omega
       go_wp2_with fail;refine(bH hb _).mono ?_;rintro r w2 ⟨rfl,hb2⟩;obtain⟨hc2,hf2⟩:=aP hb2;go_wp2;go_ret;exact⟨rfl,aB (aB (aR w _ _) hb1) hb2⟩
      ·have t3:decide (e≤e')=false:=decide_eq_false h3;have r1:M.dvd ⟨x,y,d,e⟩ ⟨x',y',d',e'⟩=false:=by simp[M.dvd,h3]
       rw[r1];clear r1;go_enter Tryz.func24,Tryz.ntmps24;go_wp2_with fail;refine(bH ha _).mono ?_;rintro r w1 ⟨rfl,hb1⟩;obtain⟨hc1,hf1⟩:=aP hb1;have hz1:w.heap.size+1<w1.heap.size:=by have:=hb1.size;simp at this;omega
       have hy1:w.heap.size<w1.heap.size:=by omega
       go_wp2_with fail;refine(bH hb _).mono ?_;rintro r w2 ⟨rfl,hb2⟩;obtain⟨hc2,hf2⟩:=aP hb2;go_wp2;go_ret;exact⟨rfl,aB (aB (aR w _ _) hb1) hb2⟩
     ·have t2:decide (d≤d')=false:=decide_eq_false h2;have r1:M.dvd ⟨x,y,d,e⟩ ⟨x',y',d',e'⟩=false:=by simp[M.dvd,h2]
      rw[r1];clear r1;go_enter Tryz.func24,Tryz.ntmps24;go_wp2_with fail;refine(bH ha _).mono ?_;rintro r w1 ⟨rfl,hb1⟩;obtain⟨hc1,hf1⟩:=aP hb1;have hz1:w.heap.size+1<w1.heap.size:=by have:=hb1.size;simp at this;omega
      have hy1:w.heap.size<w1.heap.size:=by omega
      go_wp2_with fail;refine(bH hb _).mono ?_;rintro r w2 ⟨rfl,hb2⟩;obtain⟨hc2,hf2⟩:=aP hb2;go_wp2;go_ret;exact⟨rfl,aB (aB (aR w _ _) hb1) hb2⟩
    ·have t1:decide (y≤y')=false:=decide_eq_false h1;have r1:M.dvd ⟨x,y,d,e⟩ ⟨x',y',d',e'⟩=false:=by simp[M.dvd,h1]
     rw[r1];clear r1;go_enter Tryz.func24,Tryz.ntmps24;go_wp2_with fail;refine(bH ha _).mono ?_;rintro r w1 ⟨rfl,hb1⟩;obtain⟨hc1,hf1⟩:=aP hb1;have hz1:w.heap.size+1<w1.heap.size:=by have:=hb1.size;simp at this;omega
     have hy1:w.heap.size<w1.heap.size:=by omega
     go_wp2_with fail;refine(bH hb _).mono ?_;rintro r w2 ⟨rfl,hb2⟩;obtain⟨hc2,hf2⟩:=aP hb2;go_wp2;go_ret;exact⟨rfl,aB (aB (aR w _ _) hb1) hb2⟩
   ·have t0:decide (x≤x')=false:=decide_eq_false h0;have r1:M.dvd ⟨x,y,d,e⟩ ⟨x',y',d',e'⟩=false:=by simp[M.dvd,h0]
    rw[r1];clear r1;go_enter Tryz.func24,Tryz.ntmps24;go_wp2_with fail;refine(bH ha _).mono ?_;rintro r w1 ⟨rfl,hb1⟩;obtain⟨hc1,hf1⟩:=aP hb1;have hz1:w.heap.size+1<w1.heap.size:=by have:=hb1.size;simp at this;omega
    have hy1:w.heap.size<w1.heap.size:=by omega
    go_wp2_with fail;refine(bH hb _).mono ?_;rintro r w2 ⟨rfl,hb2⟩;obtain⟨hc2,hf2⟩:=aP hb2;go_wp2;go_ret;exact⟨rfl,aB (aB (aR w _ _) hb1) hb2⟩
theorem jB {x y d e x' y' d' e':Int} {b:Bool} (h:M.dvd ⟨x,y,d,e⟩ ⟨x',y',d',e'⟩=b) (w:World):Calls Tryz.prog 24 #[.agg #[.int .i64 x,.int .i64 y,.int .i64 d,.int .i64 e],.agg #[.int .i64 x',.int .i64 y',.int .i64 d',.int .i64 e']] w fun r w'=>r= .returned (.bool b)∧Below w.heap.size w w':=by rw[←h];exact NR _ _ _ _ _ _ _ _ w
theorem Ds (x y d e x' y' d' e':Int) (w:World):Calls Tryz.prog 166 #[.agg #[.int .i64 x,.int .i64 y,.int .i64 d,.int .i64 e],.agg #[.int .i64 x',.int .i64 y',.int .i64 d',.int .i64 e']] w fun r w'=>r= .returned (.tuple #[.agg #[.int .i64 (M.over ⟨x,y,d,e⟩ ⟨x',y',d',e'⟩).1.x,.int .i64 (M.over ⟨x,y,d,e⟩ ⟨x',y',d',e'⟩).1.y,.int .i64 (M.over ⟨x,y,d,e⟩ ⟨x',y',d',e'⟩).1.d,.int .i64 (M.over ⟨x,y,d,e⟩ ⟨x',y',d',e'⟩).1.e],.bool (M.over ⟨x,y,d,e⟩ ⟨x',y',d',e'⟩).2])∧Below w.heap.size w w':=by
 cases hd:M.dvd ⟨x',y',d',e'⟩ ⟨x,y,d,e⟩
 ·have r1:M.over ⟨x,y,d,e⟩ ⟨x',y',d',e'⟩=(M.zero,false):=by simp[M.over,hd]
  rw[r1];simp only[M.zero];clear r1;go_enter Tryz.func166,Tryz.ntmps166;go_wp2_with fail;refine(jB hd _).mono ?_;rintro r w1 ⟨rfl,hb1⟩;obtain⟨hc1,hf1⟩:=aP hb1;have hz1:w.heap.size+1+1<w1.heap.size:=by have:=hb1.size;simp at this;omega
  go_wp2;refine bY (v:=.tuple #[.agg #[.int .i64 0,.int .i64 0,.int .i64 0,.int .i64 0],.bool false]) (by simp[results,Tryz.results166,go_sem, *]) rfl ⟨rfl,?_⟩;exact eD (aB (aY w _ _ _) hb1) (by omega) _ _ _ _
 ·obtain⟨o1,o2,l1,l2,l3,l4⟩:=jJ hd;obtain⟨x1,x2,y1,y2,d1,d2,e1,e2⟩:=M.ok_iff.1 o1;obtain⟨x3,x4,y3,y4,d3,d4,e3,e4⟩:=M.ok_iff.1 o2;simp only at x1 x2 y1 y2 d1 d2 e1 e2 x3 x4 y3 y4 d3 d4 e3 e4 l1 l2 l3 l4;have r1:M.over ⟨x,y,d,e⟩ ⟨x',y',d',e'⟩=(⟨x-x',y-y',d-d',e-e'⟩,true):=by simp[M.over,hd,M.diff]
  rw[r1];clear r1 o1 o2;go_enter Tryz.func166,Tryz.ntmps166;go_wp2_with fail;refine(jB hd _).mono ?_;rintro r w1 ⟨rfl,hb1⟩;obtain⟨hc1,hf1⟩:=aP hb1;have hz1:w.heap.size+1+1<w1.heap.size:=by have:=hb1.size;simp at this;omega
  go_wp2;refine bY (v:=.tuple #[.agg #[.int .i64 (x-x'),.int .i64 (y-y'),.int .i64 (d-d'),.int .i64 (e-e')],.bool true]) (by simp[results,Tryz.results166,go_sem, *]) rfl ⟨rfl,?_⟩;exact eD (aB (aY w _ _ _) hb1) (by omega) _ _ _ _
theorem Dp (x y d e x' y' d' e':Int) (w:World) (ha:M.ok ⟨x,y,d,e⟩=true) (hb:M.ok ⟨x',y',d',e'⟩=true):Calls Tryz.prog 36 #[.int .i64 1,.agg #[.int .i64 x,.int .i64 y,.int .i64 d,.int .i64 e],.agg #[.int .i64 x',.int .i64 y',.int .i64 d',.int .i64 e']] w fun r w'=>r= .returned (.int .i64 (M.ord 1 ⟨x,y,d,e⟩ ⟨x',y',d',e'⟩))∧Below w.heap.size w w':=by
 rw[←yS ha hb];have HA:=aA ha
 have HB:=aA hb;clear ha hb;go_enter Tryz.func36,Tryz.ntmps36;go_wp2_with fail;refine(pZ _).mono ?_;rintro r w1 ⟨rfl,hb1⟩;obtain⟨hc1,hf1⟩:=aP hb1;have hz1:w.heap.size+1<w1.heap.size:=by have:=hb1.size;simp at this;omega
 have hy1:w.heap.size<w1.heap.size:=by omega
 have B1:=aA (aB (aR w _ _) hb1);clear hb1;go_wp2_with fail;refine(bH HA.out _).mono ?_;rintro r w2 ⟨rfl,hb2⟩;obtain⟨hc2,hf2⟩:=aP hb2;have hz2:w.heap.size+1<w2.heap.size:=by have:=hb2.size;omega
 have hy2:w.heap.size<w2.heap.size:=by omega
 have B2:=aA (aB B1.out hb2);clear hb2;go_wp2_with fail;refine(bH HB.out _).mono ?_;rintro r w3 ⟨rfl,hb3⟩;obtain⟨hc3,hf3⟩:=aP hb3;have hz3:w.heap.size+1<w3.heap.size:=by have:=hb3.size;omega
 have hy3:w.heap.size<w3.heap.size:=by omega
 have B3:=aA (aB B2.out hb3);have a0:w3.cell? ⟨w.heap.size,0,none⟩=some (.int .i64 x):=by go_simp
 have a1:w3.cell? ⟨w.heap.size,1,none⟩=some (.int .i64 y):=by go_simp
 have a2:w3.cell? ⟨w.heap.size,2,none⟩=some (.int .i64 d):=by go_simp
 have a3:w3.cell? ⟨w.heap.size,3,none⟩=some (.int .i64 e):=by go_simp
 have b0:w3.cell? ⟨w.heap.size+1,0,none⟩=some (.int .i64 x'):=by go_simp
 have b1:w3.cell? ⟨w.heap.size+1,1,none⟩=some (.int .i64 y'):=by go_simp
 have b2:w3.cell? ⟨w.heap.size+1,2,none⟩=some (.int .i64 d'):=by go_simp
 have b3:w3.cell? ⟨w.heap.size+1,3,none⟩=some (.int .i64 e'):=by go_simp
 have ne:=bJ.there w3;have s0:∀u:bJ w3,u.1.cell? ⟨w.heap.size,0,none⟩=some (.int .i64 x):=fun u=>(u.cell hy3).trans a0
 have s1:∀u:bJ w3,u.1.cell? ⟨w.heap.size,1,none⟩=some (.int .i64 y):=fun u=>(u.cell hy3).trans a1;have s2:∀u:bJ w3,u.1.cell? ⟨w.heap.size,2,none⟩=some (.int .i64 d):=fun u=>(u.cell hy3).trans a2
 have s3:∀u:bJ w3,u.1.cell? ⟨w.heap.size,3,none⟩=some (.int .i64 e):=fun u=>(u.cell hy3).trans a3;have t0:∀u:bJ w3,u.1.cell? ⟨w.heap.size+1,0,none⟩=some (.int .i64 x'):=fun u=>(u.cell hz3).trans b0
 have t1:∀u:bJ w3,u.1.cell? ⟨w.heap.size+1,1,none⟩=some (.int .i64 y'):=fun u=>(u.cell hz3).trans b1;have t2:∀u:bJ w3,u.1.cell? ⟨w.heap.size+1,2,none⟩=some (.int .i64 d'):=fun u=>(u.cell hz3).trans b2
 have t3:∀u:bJ w3,u.1.cell? ⟨w.heap.size+1,3,none⟩=some (.int .i64 e'):=fun u=>(u.cell hz3).trans b3;clear hb3 hc1 hf1 hc2 hf2 hc3 hf3 a0 a1 a2 a3 b0 b1 b2 b3;go_wp2_with fail;refine aG (by kernel_rfl) (by kernel_rfl) ?_;repeat(go_big_quiet_step (first|(go_at_call 76;exact mF (vW _ _ _))|(go_at_call_of 103 (Value.int IntKind.i64 x);exact aJ (fZ _ _ _ _ _ HA.out))|(go_at_call 103;exact aJ (fZ _ _ _ _ _ HB.out))))
 refine wpQuiet_nil ?_;rintro _ ⟨u,rfl⟩;go_wp2;go_ret;exact⟨rfl,B3.out.trans (u.2.mono B3.out.size)⟩
theorem Dq (x y d e x' y' d' e':Int) (w:World) (ha:M.ok ⟨x,y,d,e⟩=true) (hb:M.ok ⟨x',y',d',e'⟩=true):Calls Tryz.prog 36 #[.int .i64 2,.agg #[.int .i64 x,.int .i64 y,.int .i64 d,.int .i64 e],.agg #[.int .i64 x',.int .i64 y',.int .i64 d',.int .i64 e']] w fun r w'=>r= .returned (.int .i64 (M.ord 2 ⟨x,y,d,e⟩ ⟨x',y',d',e'⟩))∧Below w.heap.size w w':=by
 rw[←KS ha hb];have HA:=aA ha
 have HB:=aA hb;clear ha hb;go_enter Tryz.func36,Tryz.ntmps36;go_wp2_with fail;refine(qB _).mono ?_;rintro r w1 ⟨rfl,hb1⟩;obtain⟨hc1,hf1⟩:=aP hb1;have hz1:w.heap.size+1<w1.heap.size:=by have:=hb1.size;simp at this;omega
 have hy1:w.heap.size<w1.heap.size:=by omega
 have B1:=aA (aB (aR w _ _) hb1);clear hb1;go_wp2_with fail;refine(bH HA.out _).mono ?_;rintro r w2 ⟨rfl,hb2⟩;obtain⟨hc2,hf2⟩:=aP hb2;have hz2:w.heap.size+1<w2.heap.size:=by have:=hb2.size;omega
 have hy2:w.heap.size<w2.heap.size:=by omega
 have B2:=aA (aB B1.out hb2);clear hb2;go_wp2_with fail;refine(bH HB.out _).mono ?_;rintro r w3 ⟨rfl,hb3⟩;obtain⟨hc3,hf3⟩:=aP hb3;have hz3:w.heap.size+1<w3.heap.size:=by have:=hb3.size;omega
 have hy3:w.heap.size<w3.heap.size:=by omega
 have B3:=aA (aB B2.out hb3);have a0:w3.cell? ⟨w.heap.size,0,none⟩=some (.int .i64 x):=by go_simp
 have a1:w3.cell? ⟨w.heap.size,1,none⟩=some (.int .i64 y):=by go_simp
 have a2:w3.cell? ⟨w.heap.size,2,none⟩=some (.int .i64 d):=by go_simp
 have a3:w3.cell? ⟨w.heap.size,3,none⟩=some (.int .i64 e):=by go_simp
 have b0:w3.cell? ⟨w.heap.size+1,0,none⟩=some (.int .i64 x'):=by go_simp
 have b1:w3.cell? ⟨w.heap.size+1,1,none⟩=some (.int .i64 y'):=by go_simp
 have b2:w3.cell? ⟨w.heap.size+1,2,none⟩=some (.int .i64 d'):=by go_simp
 have b3:w3.cell? ⟨w.heap.size+1,3,none⟩=some (.int .i64 e'):=by go_simp
 have ne:=bJ.there w3;have s0:∀u:bJ w3,u.1.cell? ⟨w.heap.size,0,none⟩=some (.int .i64 x):=fun u=>(u.cell hy3).trans a0
 have s1:∀u:bJ w3,u.1.cell? ⟨w.heap.size,1,none⟩=some (.int .i64 y):=fun u=>(u.cell hy3).trans a1;have s2:∀u:bJ w3,u.1.cell? ⟨w.heap.size,2,none⟩=some (.int .i64 d):=fun u=>(u.cell hy3).trans a2
 have s3:∀u:bJ w3,u.1.cell? ⟨w.heap.size,3,none⟩=some (.int .i64 e):=fun u=>(u.cell hy3).trans a3;have t0:∀u:bJ w3,u.1.cell? ⟨w.heap.size+1,0,none⟩=some (.int .i64 x'):=fun u=>(u.cell hz3).trans b0
 have t1:∀u:bJ w3,u.1.cell? ⟨w.heap.size+1,1,none⟩=some (.int .i64 y'):=fun u=>(u.cell hz3).trans b1;have t2:∀u:bJ w3,u.1.cell? ⟨w.heap.size+1,2,none⟩=some (.int .i64 d'):=fun u=>(u.cell hz3).trans b2
 have t3:∀u:bJ w3,u.1.cell? ⟨w.heap.size+1,3,none⟩=some (.int .i64 e'):=fun u=>(u.cell hz3).trans b3;clear hb3 hc1 hf1 hc2 hf2 hc3 hf3 a0 a1 a2 a3 b0 b1 b2 b3;go_wp2_with fail;refine aG (by kernel_rfl) (by kernel_rfl) ?_;repeat(go_big_quiet_step (first|(go_at_call 76;exact mF (vW _ _ _))|(go_at_call_of 104 (Value.int IntKind.i64 x);exact aJ (iP _ _ _ _ _ HA.out))|(go_at_call 104;exact aJ (iP _ _ _ _ _ HB.out))))
 refine wpQuiet_nil ?_;rintro _ ⟨u,rfl⟩;go_wp2;go_ret;exact⟨rfl,B3.out.trans (u.2.mono B3.out.size)⟩
theorem Dr (x y d e x' y' d' e':Int) (w:World) (ha:M.ok ⟨x,y,d,e⟩=true) (hb:M.ok ⟨x',y',d',e'⟩=true):Calls Tryz.prog 36 #[.int .i64 3,.agg #[.int .i64 x,.int .i64 y,.int .i64 d,.int .i64 e],.agg #[.int .i64 x',.int .i64 y',.int .i64 d',.int .i64 e']] w fun r w'=>r= .returned (.int .i64 (M.ord 3 ⟨x,y,d,e⟩ ⟨x',y',d',e'⟩))∧Below w.heap.size w w':=by
 rw[←KQ ha hb];have HA:=aA ha
 have HB:=aA hb;clear ha hb;go_enter Tryz.func36,Tryz.ntmps36;go_wp2_with fail;refine(qD _).mono ?_;rintro r w1 ⟨rfl,hb1⟩;obtain⟨hc1,hf1⟩:=aP hb1;have hz1:w.heap.size+1<w1.heap.size:=by have:=hb1.size;simp at this;omega
 have hy1:w.heap.size<w1.heap.size:=by omega
 have B1:=aA (aB (aR w _ _) hb1);clear hb1;go_wp2_with fail;refine(bH HA.out _).mono ?_;rintro r w2 ⟨rfl,hb2⟩;obtain⟨hc2,hf2⟩:=aP hb2;have hz2:w.heap.size+1<w2.heap.size:=by have:=hb2.size;omega
 have hy2:w.heap.size<w2.heap.size:=by omega
 have B2:=aA (aB B1.out hb2);clear hb2;go_wp2_with fail;refine(bH HB.out _).mono ?_;rintro r w3 ⟨rfl,hb3⟩;obtain⟨hc3,hf3⟩:=aP hb3;have hz3:w.heap.size+1<w3.heap.size:=by have:=hb3.size;omega
 have hy3:w.heap.size<w3.heap.size:=by omega
 have B3:=aA (aB B2.out hb3);have a0:w3.cell? ⟨w.heap.size,0,none⟩=some (.int .i64 x):=by go_simp
 have a1:w3.cell? ⟨w.heap.size,1,none⟩=some (.int .i64 y):=by go_simp
 have a2:w3.cell? ⟨w.heap.size,2,none⟩=some (.int .i64 d):=by go_simp
 have a3:w3.cell? ⟨w.heap.size,3,none⟩=some (.int .i64 e):=by go_simp
 have b0:w3.cell? ⟨w.heap.size+1,0,none⟩=some (.int .i64 x'):=by go_simp
 have b1:w3.cell? ⟨w.heap.size+1,1,none⟩=some (.int .i64 y'):=by go_simp
 have b2:w3.cell? ⟨w.heap.size+1,2,none⟩=some (.int .i64 d'):=by go_simp
 have b3:w3.cell? ⟨w.heap.size+1,3,none⟩=some (.int .i64 e'):=by go_simp
 have ne:=bJ.there w3;have s0:∀u:bJ w3,u.1.cell? ⟨w.heap.size,0,none⟩=some (.int .i64 x):=fun u=>(u.cell hy3).trans a0
 have s1:∀u:bJ w3,u.1.cell? ⟨w.heap.size,1,none⟩=some (.int .i64 y):=fun u=>(u.cell hy3).trans a1;have s2:∀u:bJ w3,u.1.cell? ⟨w.heap.size,2,none⟩=some (.int .i64 d):=fun u=>(u.cell hy3).trans a2
 have s3:∀u:bJ w3,u.1.cell? ⟨w.heap.size,3,none⟩=some (.int .i64 e):=fun u=>(u.cell hy3).trans a3;have t0:∀u:bJ w3,u.1.cell? ⟨w.heap.size+1,0,none⟩=some (.int .i64 x'):=fun u=>(u.cell hz3).trans b0
 have t1:∀u:bJ w3,u.1.cell? ⟨w.heap.size+1,1,none⟩=some (.int .i64 y'):=fun u=>(u.cell hz3).trans b1;have t2:∀u:bJ w3,u.1.cell? ⟨w.heap.size+1,2,none⟩=some (.int .i64 d'):=fun u=>(u.cell hz3).trans b2
 have t3:∀u:bJ w3,u.1.cell? ⟨w.heap.size+1,3,none⟩=some (.int .i64 e'):=fun u=>(u.cell hz3).trans b3;clear hb3 hc1 hf1 hc2 hf2 hc3 hf3 a0 a1 a2 a3 b0 b1 b2 b3;go_wp2_with fail;refine aG (by kernel_rfl) (by kernel_rfl) ?_;repeat(go_big_quiet_step (first|(go_at_call 76;exact mF (vW _ _ _))|(go_at_call_of 105 (Value.int IntKind.i64 x);exact aJ (jV _ _ _ _ _ HA.out))|(go_at_call 105;exact aJ (jV _ _ _ _ _ HB.out))))
 refine wpQuiet_nil ?_;rintro _ ⟨u,rfl⟩;go_wp2;go_ret;exact⟨rfl,B3.out.trans (u.2.mono B3.out.size)⟩
theorem UL (o x y d e x' y' d' e':Int) (w:World):Calls Tryz.prog 36 #[.int .i64 o,.agg #[.int .i64 x,.int .i64 y,.int .i64 d,.int .i64 e],.agg #[.int .i64 x',.int .i64 y',.int .i64 d',.int .i64 e']] w fun r w'=>r= .returned (.int .i64 (M.cmp o ⟨x,y,d,e⟩ ⟨x',y',d',e'⟩))∧Below w.heap.size w w':=by
 by_cases ho:1≤o∧o≤3
 ·have ho3:o=1∨o=2∨o=3:=by omega
  cases ha:M.ok ⟨x,y,d,e⟩
  ·have r1:M.cmp o ⟨x,y,d,e⟩ ⟨x',y',d',e'⟩=0:=by simp[M.cmp,ha]
   rw[r1];obtain⟨o1,o2⟩:=ho;clear r1 ho3;go_enter Tryz.func36,Tryz.ntmps36;go_wp2_with fail;refine(iA _ _ o1 o2).mono ?_;rintro r w1 ⟨fv,rfl,hb1⟩;obtain⟨hc1,hf1⟩:=aP hb1;have hz1:w.heap.size+1<w1.heap.size:=by have:=hb1.size;simp at this;omega
   have hy1:w.heap.size<w1.heap.size:=by omega
   have B1:=aA (aB (aR w _ _) hb1);clear hb1;go_wp2_with fail;refine(bH ha _).mono ?_;rintro r w2 ⟨rfl,hb2⟩;have B2:=aA (aB B1.out hb2)
   clear hb2;go_wp2;go_ret;exact⟨rfl,B2.out⟩
  ·cases hb:M.ok ⟨x',y',d',e'⟩
   ·have r1:M.cmp o ⟨x,y,d,e⟩ ⟨x',y',d',e'⟩=0:=by simp[M.cmp,hb]
    rw[r1];obtain⟨o1,o2⟩:=ho;clear r1 ho3;go_enter Tryz.func36,Tryz.ntmps36;go_wp2_with fail;refine(iA _ _ o1 o2).mono ?_;rintro r w1 ⟨fv,rfl,hb1⟩;obtain⟨hc1,hf1⟩:=aP hb1;have hz1:w.heap.size+1<w1.heap.size:=by have:=hb1.size;simp at this;omega
    have hy1:w.heap.size<w1.heap.size:=by omega
    have B1:=aA (aB (aR w _ _) hb1);clear hb1;go_wp2_with fail;refine(bH ha _).mono ?_;rintro r w2 ⟨rfl,hb2⟩;obtain⟨hc2,hf2⟩:=aP hb2;have B2:=aA (aB B1.out hb2)
    clear hb2;go_wp2_with fail;refine(bH hb _).mono ?_;rintro r w3 ⟨rfl,hb3⟩;have B3:=aA (aB B2.out hb3)
    clear hb3;go_wp2;go_ret;exact⟨rfl,B3.out⟩
   ·have r1:M.cmp o ⟨x,y,d,e⟩ ⟨x',y',d',e'⟩=M.ord o ⟨x,y,d,e⟩ ⟨x',y',d',e'⟩:=by simp[M.cmp,ha,hb,ho.1,ho.2]
    rw[r1];rcases ho3 with rfl|rfl|rfl
    ·exact Dp _ _ _ _ _ _ _ _ w ha hb
    ·exact Dq _ _ _ _ _ _ _ _ w ha hb
    ·exact Dr _ _ _ _ _ _ _ _ w ha hb
 ·have r1:M.cmp o ⟨x,y,d,e⟩ ⟨x',y',d',e'⟩=0:=by simp[M.cmp,ho]
  rw[r1];have ho':o<1∨3<o:=by omega
  clear ho r1;go_enter Tryz.func36,Tryz.ntmps36;go_wp2_with fail;refine(nC _ _ ho').mono ?_;rintro r w1 ⟨rfl,hb1⟩;have B1:=aA (aB (aR w _ _) hb1)
  clear hb1;go_wp2;go_ret;exact⟨rfl,B1.out⟩
end Go.Proofs.YtdidlcjhodejjaaGreat
