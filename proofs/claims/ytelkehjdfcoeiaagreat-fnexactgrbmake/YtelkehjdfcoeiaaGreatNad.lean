/-
  More of chapter 2's model: what divides, what is left, what both divide.
-/
import Derived.Test.YtelkehjdfcoeiaaGreatNab
set_option maxHeartbeats 2000000
namespace Go.Proofs.YtelkehjdfcoeiaaGreat
open Go.RowKit
set_option linter.unusedVariables false
theorem DE (x y d e x' y' d' e':Int) (w:World):Calls Tryz.prog 133 #[.agg #[.int .i64 x,.int .i64 y,.int .i64 d,.int .i64 e],.agg #[.int .i64 x',.int .i64 y',.int .i64 d',.int .i64 e']] w fun r w'=>r= .returned (.bool (M.dvd ⟨x,y,d,e⟩ ⟨x',y',d',e'⟩))∧Below w.heap.size w w':=by
 cases ha:M.ok ⟨x,y,d,e⟩
 ·have r1:M.dvd ⟨x,y,d,e⟩ ⟨x',y',d',e'⟩=false:=by simp[M.dvd,ha]
  rw[r1];clear r1;go_enter Tryz.func133,Tryz.ntmps133;go_wp2_with fail;refine(bB ha _).mono ?_;rintro r w1 ⟨rfl,hb1⟩;go_wp2;go_ret;exact⟨rfl,aB (aN w _ _) hb1⟩
 ·cases hb:M.ok ⟨x',y',d',e'⟩
  ·have r1:M.dvd ⟨x,y,d,e⟩ ⟨x',y',d',e'⟩=false:=by simp[M.dvd,hb]
   rw[r1];clear r1;go_enter Tryz.func133,Tryz.ntmps133;go_wp2_with fail;refine(bB ha _).mono ?_;rintro r w1 ⟨rfl,hb1⟩;obtain⟨hc1,hf1⟩:=aL hb1;have hz1:w.heap.size+1<w1.heap.size:=by have:=hb1.size;simp at this;omega
   have hy1:w.heap.size<w1.heap.size:=by omega
   go_wp2_with fail;refine(bB hb _).mono ?_;rintro r w2 ⟨rfl,hb2⟩;obtain⟨hc2,hf2⟩:=aL hb2;go_wp2;go_ret;exact⟨rfl,aB (aB (aN w _ _) hb1) hb2⟩
  ·skip
   by_cases h0:x≤x'
   ·have t0:decide (x≤x')=true:=decide_eq_true h0;by_cases h1:y≤y'
    ·have t1:decide (y≤y')=true:=decide_eq_true h1;by_cases h2:d≤d'
     ·have t2:decide (d≤d')=true:=decide_eq_true h2;by_cases h3:e≤e'
      ·have t3:decide (e≤e')=true:=decide_eq_true h3;have r1:M.dvd ⟨x,y,d,e⟩ ⟨x',y',d',e'⟩=true:=by simp[M.dvd,ha,hb,h0,h1,h2,h3]
       rw[r1];clear r1;go_enter Tryz.func133,Tryz.ntmps133;go_wp2_with fail;refine(bB ha _).mono ?_;rintro r w1 ⟨rfl,hb1⟩;obtain⟨hc1,hf1⟩:=aL hb1;have hz1:w.heap.size+1<w1.heap.size:=by have:=hb1.size;simp at this;omega
       have hy1:w.heap.size<w1.heap.size:=by omega
       go_wp2_with fail;refine(bB hb _).mono ?_;rintro r w2 ⟨rfl,hb2⟩;obtain⟨hc2,hf2⟩:=aL hb2;go_wp2;go_ret;exact⟨rfl,aB (aB (aN w _ _) hb1) hb2⟩
      ·have t3:decide (e≤e')=false:=decide_eq_false h3;have r1:M.dvd ⟨x,y,d,e⟩ ⟨x',y',d',e'⟩=false:=by simp[M.dvd,h3]
       rw[r1];clear r1;go_enter Tryz.func133,Tryz.ntmps133;go_wp2_with fail;refine(bB ha _).mono ?_;rintro r w1 ⟨rfl,hb1⟩;obtain⟨hc1,hf1⟩:=aL hb1;have hz1:w.heap.size+1<w1.heap.size:=by have:=hb1.size;simp at this;omega
       have hy1:w.heap.size<w1.heap.size:=by omega
       go_wp2_with fail;refine(bB hb _).mono ?_;rintro r w2 ⟨rfl,hb2⟩;obtain⟨hc2,hf2⟩:=aL hb2;go_wp2;go_ret;exact⟨rfl,aB (aB (aN w _ _) hb1) hb2⟩
     ·have t2:decide (d≤d')=false:=decide_eq_false h2;have r1:M.dvd ⟨x,y,d,e⟩ ⟨x',y',d',e'⟩=false:=by simp[M.dvd,h2]
      rw[r1];clear r1;go_enter Tryz.func133,Tryz.ntmps133;go_wp2_with fail;refine(bB ha _).mono ?_;rintro r w1 ⟨rfl,hb1⟩;obtain⟨hc1,hf1⟩:=aL hb1;have hz1:w.heap.size+1<w1.heap.size:=by have:=hb1.size;simp at this;omega
      have hy1:w.heap.size<w1.heap.size:=by omega
      go_wp2_with fail;refine(bB hb _).mono ?_;rintro r w2 ⟨rfl,hb2⟩;obtain⟨hc2,hf2⟩:=aL hb2;go_wp2;go_ret;exact⟨rfl,aB (aB (aN w _ _) hb1) hb2⟩
    ·have t1:decide (y≤y')=false:=decide_eq_false h1;have r1:M.dvd ⟨x,y,d,e⟩ ⟨x',y',d',e'⟩=false:=by simp[M.dvd,h1]
     rw[r1];clear r1;go_enter Tryz.func133,Tryz.ntmps133;go_wp2_with fail;refine(bB ha _).mono ?_;rintro r w1 ⟨rfl,hb1⟩;obtain⟨hc1,hf1⟩:=aL hb1;have hz1:w.heap.size+1<w1.heap.size:=by have:=hb1.size;simp at this;omega
     have hy1:w.heap.size<w1.heap.size:=by omega
     go_wp2_with fail;refine(bB hb _).mono ?_;rintro r w2 ⟨rfl,hb2⟩;obtain⟨hc2,hf2⟩:=aL hb2;go_wp2;go_ret;exact⟨rfl,aB (aB (aN w _ _) hb1) hb2⟩
   ·have t0:decide (x≤x')=false:=decide_eq_false h0;have r1:M.dvd ⟨x,y,d,e⟩ ⟨x',y',d',e'⟩=false:=by simp[M.dvd,h0]
    rw[r1];clear r1;go_enter Tryz.func133,Tryz.ntmps133;go_wp2_with fail;refine(bB ha _).mono ?_;rintro r w1 ⟨rfl,hb1⟩;obtain⟨hc1,hf1⟩:=aL hb1;have hz1:w.heap.size+1<w1.heap.size:=by have:=hb1.size;simp at this;omega
    have hy1:w.heap.size<w1.heap.size:=by omega
    go_wp2_with fail;refine(bB hb _).mono ?_;rintro r w2 ⟨rfl,hb2⟩;obtain⟨hc2,hf2⟩:=aL hb2;go_wp2;go_ret;exact⟨rfl,aB (aB (aN w _ _) hb1) hb2⟩
theorem kJ {x y d e x' y' d' e':Int} {b:Bool} (h:M.dvd ⟨x,y,d,e⟩ ⟨x',y',d',e'⟩=b) (w:World):Calls Tryz.prog 133 #[.agg #[.int .i64 x,.int .i64 y,.int .i64 d,.int .i64 e],.agg #[.int .i64 x',.int .i64 y',.int .i64 d',.int .i64 e']] w fun r w'=>r= .returned (.bool b)∧Below w.heap.size w w':=by rw[←h];exact DE _ _ _ _ _ _ _ _ w
theorem jP {a b:M} (h:a.dvd b=true):a.ok=true∧b.ok=true∧a.x≤b.x∧a.y≤b.y∧a.d≤b.d∧a.e≤b.e:=by simp[M.dvd]at h;exact⟨h.1.1,h.1.2,h.2⟩
theorem PI (x y d e x' y' d' e':Int) (w:World):Calls Tryz.prog 157 #[.agg #[.int .i64 x,.int .i64 y,.int .i64 d,.int .i64 e],.agg #[.int .i64 x',.int .i64 y',.int .i64 d',.int .i64 e']] w fun r w'=>r= .returned (.tuple #[.agg #[.int .i64 (M.over ⟨x,y,d,e⟩ ⟨x',y',d',e'⟩).1.x,.int .i64 (M.over ⟨x,y,d,e⟩ ⟨x',y',d',e'⟩).1.y,.int .i64 (M.over ⟨x,y,d,e⟩ ⟨x',y',d',e'⟩).1.d,.int .i64 (M.over ⟨x,y,d,e⟩ ⟨x',y',d',e'⟩).1.e],.bool (M.over ⟨x,y,d,e⟩ ⟨x',y',d',e'⟩).2])∧Below w.heap.size w w':=by
 cases hd:M.dvd ⟨x',y',d',e'⟩ ⟨x,y,d,e⟩
 ·have r1:M.over ⟨x,y,d,e⟩ ⟨x',y',d',e'⟩=(M.zero,false):=by simp[M.over,hd]
  rw[r1];simp only[M.zero];clear r1;go_enter Tryz.func157,Tryz.ntmps157;go_wp2_with fail;refine(kJ hd _).mono ?_;rintro r w1 ⟨rfl,hb1⟩;obtain⟨hc1,hf1⟩:=aL hb1;have hz1:w.heap.size+1+1<w1.heap.size:=by have:=hb1.size;simp at this;omega
  go_wp2;refine cV (v:=.tuple #[.agg #[.int .i64 0,.int .i64 0,.int .i64 0,.int .i64 0],.bool false]) (by simp[results,Tryz.results157,go_sem, *]) rfl ⟨rfl,?_⟩;exact cW (aB (aP w _ _ _) hb1) (by omega) _ _ _ _
 ·obtain⟨o1,o2,l1,l2,l3,l4⟩:=jP hd;obtain⟨x1,x2,y1,y2,d1,d2,e1,e2⟩:=M.ok_iff.1 o1;obtain⟨x3,x4,y3,y4,d3,d4,e3,e4⟩:=M.ok_iff.1 o2;simp only at x1 x2 y1 y2 d1 d2 e1 e2 x3 x4 y3 y4 d3 d4 e3 e4 l1 l2 l3 l4;have r1:M.over ⟨x,y,d,e⟩ ⟨x',y',d',e'⟩=(⟨x-x',y-y',d-d',e-e'⟩,true):=by simp[M.over,hd,M.diff]
  rw[r1];clear r1 o1 o2;go_enter Tryz.func157,Tryz.ntmps157;go_wp2_with fail;refine(kJ hd _).mono ?_;rintro r w1 ⟨rfl,hb1⟩;obtain⟨hc1,hf1⟩:=aL hb1;have hz1:w.heap.size+1+1<w1.heap.size:=by have:=hb1.size;simp at this;omega
  go_wp2;refine cV (v:=.tuple #[.agg #[.int .i64 (x-x'),.int .i64 (y-y'),.int .i64 (d-d'),.int .i64 (e-e')],.bool true]) (by simp[results,Tryz.results157,go_sem, *]) rfl ⟨rfl,?_⟩;exact cW (aB (aP w _ _ _) hb1) (by omega) _ _ _ _
theorem Cs (a b:Int) (w:World):Calls Tryz.prog 156 #[.int .i64 a,.int .i64 b] w fun r w'=>r= .returned (.int .i64 (mx a b))∧w'=w:=by
 by_cases h:b<a
 ·have e1:mx a b=a:=if_pos h;rw[e1];go_enter Tryz.func156,Tryz.ntmps156;go_wp2;go_ret;exact⟨rfl,rfl⟩
 ·have e1:mx a b=b:=if_neg h;rw[e1];go_enter Tryz.func156,Tryz.ntmps156;go_wp2;go_ret;exact⟨rfl,rfl⟩
theorem TR {w:World} {B b o o0 o1 o2 o3:Nat} {u0 u1 u2 u3:Value} (h:b≠B):((((w.setCell ⟨B,o0,none⟩ u0).setCell ⟨B,o1,none⟩ u1).setCell ⟨B,o2,none⟩ u2).setCell ⟨B,o3,none⟩ u3).cell? ⟨b,o,none⟩=w.cell? ⟨b,o,none⟩:=by refine nC ?_;rw[Below.heap_setCell _ _ _ _ h,Below.heap_setCell _ _ _ _ h,Below.heap_setCell _ _ _ _ h,Below.heap_setCell _ _ _ _ h]
theorem aC (w:World) (A:Obj):Below w.heap.size w (w.alloc A):=(bQ _ _).alloc (Nat.le_refl _) _
theorem jJ {w:World} {t:TypeId} (A:Array Value) (i:Nat) (v:Value) (h:A[i]? =some v):∀u:bR (w.alloc (.cells A t)),u.1.cell? ⟨w.heap.size,i,none⟩=some v:=fun u=>by
 rw[u.cell (by simp),World.cell?_alloc_at _ _ _ _ rfl];exact h
theorem TH (x y d e:Int) (w:World):Calls Tryz.prog 165 #[.agg #[.int .i64 x,.int .i64 y,.int .i64 d,.int .i64 e]] w fun r w'=>r= .returned (.agg #[.int .i64 x,.int .i64 y,.int .i64 d,.int .i64 e])∧Below w.heap.size w w':=by go_enter Tryz.func165,Tryz.ntmps165;go_wp2;refine cV (v:=.agg #[.int .i64 x,.int .i64 y,.int .i64 d,.int .i64 e]) (by simp[results,Tryz.results165,go_sem]) rfl ⟨rfl,?_⟩;exact aN w _ _
theorem GZ (x y d e:Int) (w:World) (h:M.ok ⟨x,y,d,e⟩=true):Calls Tryz.prog 136 #[.agg #[.int .i64 x,.int .i64 y,.int .i64 d,.int .i64 e]] w fun r w'=>r= .returned (.int .i64 (x+y+d+e))∧Below w.heap.size w w':=by obtain⟨x1,x2,y1,y2,d1,d2,e1,e2⟩:=M.ok_iff.1 h;simp only at x1 x2 y1 y2 d1 d2 e1 e2;clear h;go_enter Tryz.func136,Tryz.ntmps136;go_wp2;go_ret;exact⟨rfl,aC w _⟩
def fF (m:M):Int:=((m.d*16+m.e)*16+m.x)*16+m.y
def dI (m:M):Int:=(m.x+m.y+m.d+m.e)*65536+fF m
def tE (m:M):Int:=(m.d+m.x)*65536+fF m
theorem gN (x y d e:Int) (w:World) (h:M.ok ⟨x,y,d,e⟩=true):Calls Tryz.prog 122 #[.agg #[.int .i64 x,.int .i64 y,.int .i64 d,.int .i64 e]] w fun r w'=>r= .returned (.int .i64 (fF ⟨x,y,d,e⟩))∧Below w.heap.size w w':=by obtain⟨x1,x2,y1,y2,d1,d2,e1,e2⟩:=M.ok_iff.1 h;simp only at x1 x2 y1 y2 d1 d2 e1 e2;clear h;simp only[fF];go_enter Tryz.func122,Tryz.ntmps122;go_wp2;go_ret;exact⟨rfl,aC w _⟩
theorem fJ (x y d e:Int) (w:World) (h:M.ok ⟨x,y,d,e⟩=true):Calls Tryz.prog 93 #[.agg #[.int .i64 x,.int .i64 y,.int .i64 d,.int .i64 e]] w fun r w'=>r= .returned (.int .i64 (dI ⟨x,y,d,e⟩))∧Below w.heap.size w w':=by
 obtain⟨x1,x2,y1,y2,d1,d2,e1,e2⟩:=M.ok_iff.1 h;simp only at x1 x2 y1 y2 d1 d2 e1 e2;have HK:=aA h
 have k1:0≤fF ⟨x,y,d,e⟩:=by simp only[fF];omega
 have k2:fF ⟨x,y,d,e⟩≤65535:=by simp only[fF];omega
 have r1:dI ⟨x,y,d,e⟩=(x+y+d+e)*65536+fF ⟨x,y,d,e⟩:=rfl;rw[r1];clear h r1;go_enter Tryz.func93,Tryz.ntmps93;go_wp2_with fail;have B1:=aA (aC w (.cells #[.int .i64 x,.int .i64 y,.int .i64 d,.int .i64 e] 84))
 have ne:=bR.there (w.alloc (.cells #[.int .i64 x,.int .i64 y,.int .i64 d,.int .i64 e] 84));have s0:=jJ (w:=w) (t:=84) #[.int .i64 x,.int .i64 y,.int .i64 d,.int .i64 e] 0 _ rfl
 have s1:=jJ (w:=w) (t:=84) #[.int .i64 x,.int .i64 y,.int .i64 d,.int .i64 e] 1 _ rfl;have s2:=jJ (w:=w) (t:=84) #[.int .i64 x,.int .i64 y,.int .i64 d,.int .i64 e] 2 _ rfl
 have s3:=jJ (w:=w) (t:=84) #[.int .i64 x,.int .i64 y,.int .i64 d,.int .i64 e] 3 _ rfl;refine aF (by kernel_rfl) (by kernel_rfl) ?_;repeat(go_big_quiet_step (first|(go_at_call 136;exact aG (GZ _ _ _ _ _ HK.out))|(go_at_call 122;exact aG (gN _ _ _ _ _ HK.out))))
 refine wpQuiet_nil ?_;rintro _ ⟨u,rfl⟩;go_wp2;go_ret;exact⟨rfl,B1.out.trans (u.2.mono B1.out.size)⟩
theorem iX (x y d e:Int) (w:World) (h:M.ok ⟨x,y,d,e⟩=true):Calls Tryz.prog 123 #[.agg #[.int .i64 x,.int .i64 y,.int .i64 d,.int .i64 e]] w fun r w'=>r= .returned (.int .i64 (tE ⟨x,y,d,e⟩))∧Below w.heap.size w w':=by
 obtain⟨x1,x2,y1,y2,d1,d2,e1,e2⟩:=M.ok_iff.1 h;simp only at x1 x2 y1 y2 d1 d2 e1 e2;have HK:=aA h
 have k1:0≤fF ⟨x,y,d,e⟩:=by simp only[fF];omega
 have k2:fF ⟨x,y,d,e⟩≤65535:=by simp only[fF];omega
 have r1:tE ⟨x,y,d,e⟩=(d+x)*65536+fF ⟨x,y,d,e⟩:=rfl;rw[r1];clear h r1;go_enter Tryz.func123,Tryz.ntmps123;go_wp2_with fail;have B1:=aA (aC w (.cells #[.int .i64 x,.int .i64 y,.int .i64 d,.int .i64 e] 84))
 have ne:=bR.there (w.alloc (.cells #[.int .i64 x,.int .i64 y,.int .i64 d,.int .i64 e] 84));have s0:=jJ (w:=w) (t:=84) #[.int .i64 x,.int .i64 y,.int .i64 d,.int .i64 e] 0 _ rfl
 have s1:=jJ (w:=w) (t:=84) #[.int .i64 x,.int .i64 y,.int .i64 d,.int .i64 e] 1 _ rfl;have s2:=jJ (w:=w) (t:=84) #[.int .i64 x,.int .i64 y,.int .i64 d,.int .i64 e] 2 _ rfl
 have s3:=jJ (w:=w) (t:=84) #[.int .i64 x,.int .i64 y,.int .i64 d,.int .i64 e] 3 _ rfl;refine aF (by kernel_rfl) (by kernel_rfl) ?_;repeat(go_big_quiet_step (first|(go_at_call 136;exact aG (GZ _ _ _ _ _ HK.out))|(go_at_call 122;exact aG (gN _ _ _ _ _ HK.out))))
 refine wpQuiet_nil ?_;rintro _ ⟨u,rfl⟩;go_wp2;go_ret;exact⟨rfl,B1.out.trans (u.2.mono B1.out.size)⟩
def uY (x y d e:Int):Nat→Int
 |0=>x
 |1=>y
 |2=>d
 |_=>e
theorem kK (x y d e:Int) (w:World):Calls Tryz.prog 135 #[.agg #[.int .i64 x,.int .i64 y,.int .i64 d,.int .i64 e]] w fun r w'=>r= .returned (.bool (M.ok ⟨x,y,d,e⟩))∧Below w.heap.size w w':=by
 have i0:∀w:World,(Instr.index 200 (.agg #[.int .i64 x,.int .i64 y,.int .i64 d,.int .i64 e]) (.int .i64 0)).run Tryz.prog w= .ok (.int .i64 x) w:=fun _=>by kernel_rfl
 have i1:∀w:World,(Instr.index 200 (.agg #[.int .i64 x,.int .i64 y,.int .i64 d,.int .i64 e]) (.int .i64 1)).run Tryz.prog w= .ok (.int .i64 y) w:=fun _=>by kernel_rfl
 have i2:∀w:World,(Instr.index 200 (.agg #[.int .i64 x,.int .i64 y,.int .i64 d,.int .i64 e]) (.int .i64 2)).run Tryz.prog w= .ok (.int .i64 d) w:=fun _=>by kernel_rfl
 have i3:∀w:World,(Instr.index 200 (.agg #[.int .i64 x,.int .i64 y,.int .i64 d,.int .i64 e]) (.int .i64 3)).run Tryz.prog w= .ok (.int .i64 e) w:=fun _=>by kernel_rfl
 go_enter Tryz.func135,Tryz.ntmps135;go_wp2_with fail;refine(TH x y d e _).mono ?_;rintro r w1 ⟨rfl,hb⟩;have B1:=aA (aB (aC w _) hb)
 clear hb;go_wp2
 go_loop [7] (fun i=>∃k:Nat,k≤4∧i= .int .i64 k∧Hid (∀j,j<k→0≤uY x y d e j∧uY x y d e j≤15)) (fun i=>4-(intOf i).toNat)
 case atStart=>exact⟨0,by omega,rfl,fun j hj=>absurd hj (EZ _)⟩
 case round=>
  obtain⟨k,hk,rfl,hok⟩:=hrel;have hk5:k=4∨k=0∨k=1∨k=2∨k=3:=by omega
  rcases hk5 with rfl|rfl|rfl|rfl|rfl
  ·have hp:M.ok ⟨x,y,d,e⟩=true:=M.ok_iff.2 ⟨(hok.out 0 (by omega)).1,(hok.out 0 (by omega)).2,(hok.out 1 (by omega)).1,(hok.out 1 (by omega)).2,(hok.out 2 (by omega)).1,(hok.out 2 (by omega)).2,(hok.out 3 (by omega)).1,(hok.out 3 (by omega)).2⟩;have HP:=aA hp
   clear hp;go_wp2;go_ret;exact⟨by rw[HP.out];rfl,B1.out⟩
  ·by_cases h1:x<0
   ·have hp:Hid (M.ok ⟨x,y,d,e⟩=false):=M.ok_not.2 (fun h=>by simp only at h;omega);go_wp2;go_ret;exact⟨by rw[hp.out];rfl,B1.out⟩
   ·by_cases h2:15<x
    ·have hp:Hid (M.ok ⟨x,y,d,e⟩=false):=M.ok_not.2 (fun h=>by simp only at h;omega);go_wp2;go_ret;exact⟨by rw[hp.out];rfl,B1.out⟩
    ·have hn:Hid (∀j,j<1→0≤uY x y d e j∧uY x y d e j≤15):=fun j hj=>by
      obtain rfl:j=0:=by omega
      exact⟨Int.not_lt.1 h1,Int.not_lt.1 h2⟩
     go_wp2;go_round;case rel=>exact⟨1,by omega,rfl,hn⟩
     case measure=>simp[intOf]
  ·by_cases h1:y<0
   ·have hp:Hid (M.ok ⟨x,y,d,e⟩=false):=M.ok_not.2 (fun h=>by simp only at h;omega);go_wp2;go_ret;exact⟨by rw[hp.out];rfl,B1.out⟩
   ·by_cases h2:15<y
    ·have hp:Hid (M.ok ⟨x,y,d,e⟩=false):=M.ok_not.2 (fun h=>by simp only at h;omega);go_wp2;go_ret;exact⟨by rw[hp.out];rfl,B1.out⟩
    ·have hn:Hid (∀j,j<2→0≤uY x y d e j∧uY x y d e j≤15):=fun j hj=>by
      by_cases hj1:j<1
      ·exact hok.out j hj1
      ·obtain rfl:j=1:=by omega
       exact⟨Int.not_lt.1 h1,Int.not_lt.1 h2⟩
     go_wp2;go_round;case rel=>exact⟨2,by omega,rfl,hn⟩
     case measure=>simp[intOf]
  ·by_cases h1:d<0
   ·have hp:Hid (M.ok ⟨x,y,d,e⟩=false):=M.ok_not.2 (fun h=>by simp only at h;omega);go_wp2;go_ret;exact⟨by rw[hp.out];rfl,B1.out⟩
   ·by_cases h2:15<d
    ·have hp:Hid (M.ok ⟨x,y,d,e⟩=false):=M.ok_not.2 (fun h=>by simp only at h;omega);go_wp2;go_ret;exact⟨by rw[hp.out];rfl,B1.out⟩
    ·have hn:Hid (∀j,j<3→0≤uY x y d e j∧uY x y d e j≤15):=fun j hj=>by
      by_cases hj1:j<2
      ·exact hok.out j hj1
      ·obtain rfl:j=2:=by omega
       exact⟨Int.not_lt.1 h1,Int.not_lt.1 h2⟩
     go_wp2;go_round;case rel=>exact⟨3,by omega,rfl,hn⟩
     case measure=>simp[intOf]
  ·by_cases h1:e<0
   ·have hp:Hid (M.ok ⟨x,y,d,e⟩=false):=M.ok_not.2 (fun h=>by simp only at h;omega);go_wp2;go_ret;exact⟨by rw[hp.out];rfl,B1.out⟩
   ·by_cases h2:15<e
    ·have hp:Hid (M.ok ⟨x,y,d,e⟩=false):=M.ok_not.2 (fun h=>by simp only at h;omega);go_wp2;go_ret;exact⟨by rw[hp.out];rfl,B1.out⟩
    ·have hn:Hid (∀j,j<4→0≤uY x y d e j∧uY x y d e j≤15):=fun j hj=>by
      by_cases hj1:j<3
      ·exact hok.out j hj1
      ·obtain rfl:j=3:=by omega
       exact⟨Int.not_lt.1 h1,Int.not_lt.1 h2⟩
     go_wp2;go_round;case rel=>exact⟨4,by omega,rfl,hn⟩
     case measure=>simp[intOf]
theorem bT {x y d e:Int} {b:Bool} (h:M.ok ⟨x,y,d,e⟩=b) (w:World):Calls Tryz.prog 135 #[.agg #[.int .i64 x,.int .i64 y,.int .i64 d,.int .i64 e]] w fun r w'=>r= .returned (.bool b)∧Below w.heap.size w w':=by rw[←h];exact kK x y d e w
end Go.Proofs.YtelkehjdfcoeiaaGreat
