/-
  Monomials that come in, are copied and are held against each other.
-/
import Derived.Test.YtoglomfejgpoeaaGreatDoorMax
set_option maxHeartbeats 4000000
set_option maxRecDepth 100000
namespace Go.Proofs.YtoglomfejgpoeaaGreatDoor
open Go.RowKit Go.Deep Go.Joins
set_option linter.unusedVariables false
theorem JB (x y d e:Int) (w:World):Calls Tryz.prog 139 #[.agg #[.int .i64 x,.int .i64 y,.int .i64 d,.int .i64 e]] w fun r w'=>r= .returned (.agg #[.int .i64 x,.int .i64 y,.int .i64 d,.int .i64 e])∧Below w.heap.size w w':=by go_enter Tryz.func139,Tryz.ntmps139;go_wp2;refine bT (v:=.agg #[.int .i64 x,.int .i64 y,.int .i64 d,.int .i64 e]) (by simp[results,Tryz.results139,go_sem]) rfl ⟨rfl,?_⟩;exact bZ w _ _ _
theorem IL (x y d e x' y' d' e':Int) (w:World):Calls Tryz.prog 107 #[.agg #[.int .i64 x,.int .i64 y,.int .i64 d,.int .i64 e],.agg #[.int .i64 x',.int .i64 y',.int .i64 d',.int .i64 e']] w fun r w'=>r= .returned (.bool (M.eqB ⟨x,y,d,e⟩ ⟨x',y',d',e'⟩))∧Below w.heap.size w w':=by
 cases hx:(x !=x')
 ·cases hy:(y !=y')
  ·cases hd:(d !=d')
   ·cases he:(e !=e')
    ·have r1:M.eqB ⟨x,y,d,e⟩ ⟨x',y',d',e'⟩=true:=by simp at hx hy hd he;simp[M.eqB, *]
     rw[r1];go_enter Tryz.func107,Tryz.ntmps107;go_wp2;go_ret;exact⟨rfl,cW w _ _⟩
    ·have r1:M.eqB ⟨x,y,d,e⟩ ⟨x',y',d',e'⟩=false:=by simp at he;simp[M.eqB, *]
     rw[r1];go_enter Tryz.func107,Tryz.ntmps107;go_wp2;go_ret;exact⟨rfl,cW w _ _⟩
   ·have r1:M.eqB ⟨x,y,d,e⟩ ⟨x',y',d',e'⟩=false:=by simp at hd;simp[M.eqB, *]
    rw[r1];go_enter Tryz.func107,Tryz.ntmps107;go_wp2;go_ret;exact⟨rfl,cW w _ _⟩
  ·have r1:M.eqB ⟨x,y,d,e⟩ ⟨x',y',d',e'⟩=false:=by simp at hy;simp[M.eqB, *]
   rw[r1];go_enter Tryz.func107,Tryz.ntmps107;go_wp2;go_ret;exact⟨rfl,cW w _ _⟩
 ·have r1:M.eqB ⟨x,y,d,e⟩ ⟨x',y',d',e'⟩=false:=by simp at hx;simp[M.eqB, *]
  rw[r1];go_enter Tryz.func107,Tryz.ntmps107;go_wp2;go_ret;exact⟨rfl,cW w _ _⟩
end Go.Proofs.YtoglomfejgpoeaaGreatDoor
namespace Go.Proofs.YtoglomfejgpoeaaGreatDoor
open Go.RowKit
set_option linter.unusedVariables false
theorem FP {n B o1 o2 o3 o4:Nat} {a w:World} (h:Below n a w) (hB:n≤B) (u1 u2 u3 u4:Value):Below n a ((((w.setCell ⟨B,o1,none⟩ u1).setCell ⟨B,o2,none⟩ u2).setCell ⟨B,o3,none⟩ u3).setCell ⟨B,o4,none⟩ u4):=
 (((h.setCell hB u1).setCell hB u2).setCell hB u3).setCell hB u4
theorem IB (c x y d e:Int) (w:World):Calls Tryz.prog 106 #[.agg #[.int .i64 c,.int .i64 x,.int .i64 y,.int .i64 d,.int .i64 e]] w fun r w'=>r= .returned (.agg #[.int .i64 c,.int .i64 x,.int .i64 y,.int .i64 d,.int .i64 e])∧Below w.heap.size w w':=by
 go_enter Tryz.func106,Tryz.ntmps106;go_wp2_with fail;refine(JB x y d e _).mono ?_;rintro r w1 ⟨rfl,hb⟩;obtain⟨hc,hf⟩:=bU hb;have hz:w.heap.size+1+1<w1.heap.size:=by have:=hb.size;simp at this;omega
 go_wp2;refine bT (v:=.agg #[.int .i64 c,.int .i64 x,.int .i64 y,.int .i64 d,.int .i64 e]) (by simp[results,Tryz.results106,go_sem, *]) rfl ⟨rfl,?_⟩;exact jM (FP (aC (bZ w _ _ _) hb) (by omega) _ _ _ _) (by omega) _ _ _ _ _
def vD (f:Nat→T) (k:Nat) (j:Nat):Value:=if j<k*5 then cf f j else .int .i64 0
theorem xY {w:World} {g N k:Nat} {f:Nat→T} (h:w.rowIs g 80 N (vD f k)):(((((w.setCell ⟨g,k*5,none⟩ (.int .i64 (f k).c)).setCell ⟨g,k*5+1,none⟩ (.int .i64 (f k).m.x)).setCell ⟨g,k*5+2,none⟩ (.int .i64 (f k).m.y)).setCell ⟨g,k*5+3,none⟩ (.int .i64 (f k).m.d)).setCell ⟨g,k*5+4,none⟩ (.int .i64 (f k).m.e)).rowIs g 80 N (vD f (k+1)):=by
 refine(((((h.set _ _).set _ _).set _ _).set _ _).set _ _).congr fun j hj=>?_;unfold vD;by_cases h4:j=k*5+4
 ·subst h4;rw[if_pos rfl,if_pos (by omega),FR]
 rw[if_neg h4];by_cases h3:j=k*5+3
 ·subst h3;rw[if_pos rfl,if_pos (by omega),FQ]
 rw[if_neg h3];by_cases h2:j=k*5+2
 ·subst h2;rw[if_pos rfl,if_pos (by omega),CL]
 rw[if_neg h2];by_cases h1:j=k*5+1
 ·subst h1;rw[if_pos rfl,if_pos (by omega),CK]
 rw[if_neg h1];by_cases h0:j=k*5
 ·subst h0;rw[if_pos rfl,if_pos (by omega),EU]
 rw[if_neg h0];by_cases hl:j<k*5
 ·rw[if_pos hl,if_pos (by omega)]
 ·rw[if_neg hl,if_neg (by omega)]
theorem uZ {ops:Array Oper} {rest:List Oper} {o:Oper} {a:Act} {Q:Exit→Act→World→Prop} (w:World) (hg:o.guard=none) (l c:Operand) (hop:o.op=Op.makeSlice 22 l c) (n:Nat) (hl:a.eval l= .int .i64 (n:Int)) (hc:a.eval c= .int .i64 (n:Int)) (hbytes:n*40≤140737488351232) (hK:(w.alloc (.cells (madeCells #[.int .i64 0,.int .i64 0,.int .i64 0,.int .i64 0,.int .i64 0] (n*5)) 80)).rowIs w.heap.size 80 (n*5) (fun _=>.int .i64 0)→wpList Tryz.prog ops Q rest (a.put o.dst (.slice (some ⟨w.heap.size,0,none⟩) n n)) (w.alloc (.cells (madeCells #[.int .i64 0,.int .i64 0,.int .i64 0,.int .i64 0,.int .i64 0] (n*5)) 80))):wpList Tryz.prog ops Q (o::rest) a w:=by
 obtain⟨i,hi,hzz⟩:=Option.map_eq_some_iff.1 tH;simp only[Prod.mk.injEq]at hzz;obtain⟨hz,hs,hb⟩:=hzz;refine wpList_plain hg fun K hK'=>?_;have hr:=run_make (P:=Tryz.prog) w 22 80 i _ Tryz.underlying22 hi hz .i64 .i64 (n:Int) (n:Int) (by omega) (Int.le_refl _) (by rw[hb];omega) (by omega)
 simp only[Int.toNat_natCast,hs,Value.cells]at hr;unfold Oper.wp;simp[execOp,hop,hl,hc,hr,Result.andThen];refine hK' _ _ (hK ?_);refine⟨_,Go.Deep.blk_alloc_new _ _,size_madeCells _ _,fun j hj=>?_⟩;have h5:j%5=0∨j%5=1∨j%5=2∨j%5=3∨j%5=4:=by omega
 rcases h5 with h|h|h|h|h<;>simp[madeCells,hj,h]
theorem nO (w:World) (a:Option Addr) (n cap:Nat) (f:Nat→T) (h:Rd w a n cap f):Calls Tryz.prog 59 #[.slice a n cap] w fun r w'=>r= .returned (.slice (some ⟨w.heap.size,0,none⟩) n n)∧Below w.heap.size w w'∧Own w' w.heap.size n f:=by
 obtain⟨h1,h2,h3⟩:=h;have hn:(n:Int)≤140737488351232:=by omega
 go_enter Tryz.func59,Tryz.ntmps59;go_wp2_with (at_make;refine uZ _ rfl _ _ rfl n rfl rfl (by omega) ?_;intro hrow);go_loopw [4] (fun i wr=>∃k:Nat,k≤n∧i= .int .i64 k∧Below w.heap.size w wr∧wr.rowIs w.heap.size 80 (n*5) (vD f k)) (fun i _=>n-(intOf i).toNat);case atStart=>exact⟨0,gC _,rfl,(aD _ _).alloc (Nat.le_refl _) _,hrow.congr fun j _=>by simp[vD]⟩
 case round=>
  obtain⟨k,hk,rfl,hB,hR⟩:=hrel;by_cases hlt:k<n
  ·rcases h3 with h0|⟨b,off,rfl,hblt,hcl⟩
   ·omega
   have hkn:(k:Int)<(n:Int):=by omega
   obtain⟨g0,g1,g2,g3,g4⟩:=(hcl k hlt).below hB hblt;have HR:Hid (wr.rowIs w.heap.size 80 (n*5) (vD f k)):=hR
   clear hR hcl;go_wp2_with fail;refine(IB (f k).c (f k).m.x (f k).m.y (f k).m.d (f k).m.e _).mono ?_;rintro r w1 ⟨rfl,hb⟩;have hR1:=HR.out.of_block (hb.block w.heap.size (HR.out.lt))
   have hB1:=hB.trans (hb.mono hB.size);have q0:=hR1.cell (i:=k*5) (by omega)
   have q1:=hR1.cell (i:=k*5+1) (by omega);have q2:=hR1.cell (i:=k*5+2) (by omega)
   have q3:=hR1.cell (i:=k*5+3) (by omega);have q4:=hR1.cell (i:=k*5+4) (by omega)
   have fz:=fun i=>hR1.frozen i;have HN:=aA (xY hR1)
   clear hR1 HR hb;go_wp2;go_roundw
   case rel=>
    exact⟨k+1,by omega,by go_num,jM hB1 (Nat.le_refl _) _ _ _ _ _,HN.out⟩
   case measure=>simp[intOf];omega
  ·have hkn:k=n:=by omega
   subst hkn;have HR:=aA hR
   clear hR;go_wp2;go_ret;exact⟨rfl,hB,HR.out.congr fun j hj=>by unfold vD;rw[if_pos hj]⟩
theorem FZ (c x y d e c' x' y' d' e':Int) (w:World):Calls Tryz.prog 60 #[.agg #[.int .i64 c,.int .i64 x,.int .i64 y,.int .i64 d,.int .i64 e],.agg #[.int .i64 c',.int .i64 x',.int .i64 y',.int .i64 d',.int .i64 e']] w fun r w'=>r= .returned (.bool (T.eqB ⟨c,⟨x,y,d,e⟩⟩ ⟨c',⟨x',y',d',e'⟩⟩))∧Below w.heap.size w w':=by
 cases hc:(c !=c')
 ·have r1:T.eqB ⟨c,⟨x,y,d,e⟩⟩ ⟨c',⟨x',y',d',e'⟩⟩=M.eqB ⟨x,y,d,e⟩ ⟨x',y',d',e'⟩:=by simp at hc;simp[T.eqB,hc]
  rw[r1];cases hm:M.eqB ⟨x,y,d,e⟩ ⟨x',y',d',e'⟩
  all_goals
   go_enter Tryz.func60,Tryz.ntmps60;go_wp2_with fail;refine(IL x y d e x' y' d' e' _).mono ?_;rw[hm];rintro r w1 ⟨rfl,hb⟩;go_wp2;go_ret;exact⟨rfl,aC (cW w _ _) hb⟩
 ·have r1:T.eqB ⟨c,⟨x,y,d,e⟩⟩ ⟨c',⟨x',y',d',e'⟩⟩=false:=by simp at hc;simp[T.eqB,hc]
  rw[r1];go_enter Tryz.func60,Tryz.ntmps60;go_wp2;go_ret;exact⟨rfl,cW w _ _⟩
theorem pY {t u:T} {b:Bool} (h:t.eqB u=b) (w:World):Calls Tryz.prog 60 #[.agg #[.int .i64 t.c,.int .i64 t.m.x,.int .i64 t.m.y,.int .i64 t.m.d,.int .i64 t.m.e],.agg #[.int .i64 u.c,.int .i64 u.m.x,.int .i64 u.m.y,.int .i64 u.m.d,.int .i64 u.m.e]] w fun r w'=>r= .returned (.bool b)∧Below w.heap.size w w':=by rw[←h];exact FZ _ _ _ _ _ _ _ _ _ _ w
theorem lF (w:World) (a a':Option Addr) (n cap n' cap':Nat) (f f':Nat→T) (h:Rd w a n cap f) (h':Rd w a' n' cap' f'):Calls Tryz.prog 19 #[.slice a n cap,.slice a' n' cap'] w fun r w'=>r= .returned (.bool (bL n f n' f'))∧Below w.heap.size w w':=by
 obtain⟨h1,h2,h3⟩:=h;obtain⟨h1',h2',h3'⟩:=h';have hn:(n:Int)≤140737488351232:=by omega
 have hn':(n':Int)≤140737488351232:=by omega
 by_cases hnn:n=n'
 ·subst hnn;go_enter Tryz.func19,Tryz.ntmps19;go_wp2;go_loopw [5] (fun i wr=>∃k:Nat,k≤n∧i= .int .i64 k∧Below w.heap.size w wr∧∀j,j<k→(f j).eqB (f' j)=true) (fun i _=>n-(intOf i).toNat);case atStart=>exact⟨0,gC _,rfl,aD _ _,fun j hj=>absurd hj (FE _)⟩
  case round=>
   obtain⟨k,hk,rfl,hB,hok⟩:=hrel;by_cases hlt:k<n
   ·rcases h3 with h0|⟨b,off,rfl,hblt,hcl⟩
    ·omega
    rcases h3' with h0|⟨b',off',rfl,hblt',hcl'⟩
    ·omega
    have hkn:(k:Int)<(n:Int):=by omega
    have hbr:b<wr.heap.size:=dR hblt hB.size;have hbr':b'<wr.heap.size:=dR hblt' hB.size
    have ne:=cO.there wr;have hck:=(hcl k hlt).below hB hblt
    have hck':=(hcl' k hlt).below hB hblt';have s0:∀u:cO wr,u.1.cell? ⟨b,off+k*5,none⟩=some (.int .i64 (f k).c):=fun u=>(u.cell hbr).trans hck.1
    have s1:∀u:cO wr,u.1.cell? ⟨b,off+k*5+1,none⟩=some (.int .i64 (f k).m.x):=fun u=>(u.cell hbr).trans hck.2.1;have s2:∀u:cO wr,u.1.cell? ⟨b,off+k*5+2,none⟩=some (.int .i64 (f k).m.y):=fun u=>(u.cell hbr).trans hck.2.2.1
    have s3:∀u:cO wr,u.1.cell? ⟨b,off+k*5+3,none⟩=some (.int .i64 (f k).m.d):=fun u=>(u.cell hbr).trans hck.2.2.2.1;have s4:∀u:cO wr,u.1.cell? ⟨b,off+k*5+4,none⟩=some (.int .i64 (f k).m.e):=fun u=>(u.cell hbr).trans hck.2.2.2.2
    have t0:∀u:cO wr,u.1.cell? ⟨b',off'+k*5,none⟩=some (.int .i64 (f' k).c):=fun u=>(u.cell hbr').trans hck'.1;have t1:∀u:cO wr,u.1.cell? ⟨b',off'+k*5+1,none⟩=some (.int .i64 (f' k).m.x):=fun u=>(u.cell hbr').trans hck'.2.1
    have t2:∀u:cO wr,u.1.cell? ⟨b',off'+k*5+2,none⟩=some (.int .i64 (f' k).m.y):=fun u=>(u.cell hbr').trans hck'.2.2.1;have t3:∀u:cO wr,u.1.cell? ⟨b',off'+k*5+3,none⟩=some (.int .i64 (f' k).m.d):=fun u=>(u.cell hbr').trans hck'.2.2.2.1
    have t4:∀u:cO wr,u.1.cell? ⟨b',off'+k*5+4,none⟩=some (.int .i64 (f' k).m.e):=fun u=>(u.cell hbr').trans hck'.2.2.2.2;clear hck hck' hcl hcl';cases he:(f k).eqB (f' k)
    ·have HF:Hid (bL n f n f'=false):=by
      show bL n f n f'=false;simp only[bL,decide_eq_false_iff_not];intro hh;have:=hh.2 k hlt
      rw[he]at this;cases this
     clear hok;go_wp2_with fail;refine aS (by kernel_rfl) (by kernel_rfl) ?_;repeat(go_big_quiet_step (first|(go_at_call 60;exact bK (pY he _))))
     refine wpQuiet_nil ?_;rintro _ ⟨u,rfl⟩;go_wp2;go_ret;exact⟨by rw[HF.out];rfl,hB.trans (u.2.mono hB.size)⟩
    ·have hok':Hid (∀j,j<k+1→(f j).eqB (f' j)=true):=fun j hj=>by
      by_cases hjk:j=k
      ·rw[hjk];exact he
      ·exact hok j (by omega)
     clear hok;go_wp2_with fail;refine aS (by kernel_rfl) (by kernel_rfl) ?_;repeat(go_big_quiet_step (first|(go_at_call 60;exact bK (pY he _))))
     refine wpQuiet_nil ?_;rintro _ ⟨u,rfl⟩;go_wp2;go_roundw;case rel=>exact⟨k+1,by omega,by go_num,hB.trans (u.2.mono hB.size),hok'.out⟩
     case measure=>simp[intOf];omega
   ·go_wp2;go_ret;have hp:bL n f n f'=true:=by simp only[bL,decide_eq_true_eq];exact⟨trivial,fun i hi=>hok i (by omega)⟩
    exact⟨by rw[hp];rfl,hB⟩
 ·have hp:bL n f n' f'=false:=by simp only[bL,decide_eq_false_iff_not];exact fun h=>hnn h.1
  rw[hp];have hne:((n:Int)!=(n':Int))=true:=by simp;omega
  go_enter Tryz.func19,Tryz.ntmps19;go_wp2;go_ret;exact⟨rfl,aD _ _⟩
theorem sA (a:Option Addr) (n cap:Nat) (l:Int) (w:World) (hn:(n:Int)≤9223372036854775807) (hl:0≤l) (hl':l≤1048576):Calls Tryz.prog 52 #[.slice a n cap,.int .i64 l] w fun r w'=>r= .returned (.int .i64 (if l-n<0 then -1 else l-n))∧w'=w:=by
 by_cases h:l-n<0
 ·rw[if_pos h];go_enter Tryz.func52,Tryz.ntmps52;go_wp2;go_ret;exact⟨rfl,rfl⟩
 ·rw[if_neg h];go_enter Tryz.func52,Tryz.ntmps52;go_wp2;go_ret;exact⟨rfl,rfl⟩
def iT (F:Nat→Value) (k:Int) (off j:Nat) (t:Nat):Value:=if off≤t∧t<off+j*5 then cf (mk k) (t-off)else F t
theorem tN {w:World} {g N off j:Nat} {F:Nat→Value} {k:Int} (h:w.rowIs g 80 N (iT F k off j)):(((((w.setCell ⟨g,off+j*5,none⟩ (.int .i64 (k+5*j))).setCell ⟨g,off+j*5+1,none⟩ (.int .i64 (k+5*j+1))).setCell ⟨g,off+j*5+2,none⟩ (.int .i64 (k+5*j+2))).setCell ⟨g,off+j*5+3,none⟩ (.int .i64 (k+5*j+3))).setCell ⟨g,off+j*5+4,none⟩ (.int .i64 (k+5*j+4))).rowIs g 80 N (iT F k off (j+1)):=by
 refine(((((h.set _ _).set _ _).set _ _).set _ _).set _ _).congr fun t ht=>?_;unfold iT;by_cases h4:t=off+j*5+4
 ·subst h4;rw[if_pos rfl,if_pos (by omega),show off+j*5+4-off=j*5+4 by omega,FR];rfl
 rw[if_neg h4];by_cases h3:t=off+j*5+3
 ·subst h3;rw[if_pos rfl,if_pos (by omega),show off+j*5+3-off=j*5+3 by omega,FQ];rfl
 rw[if_neg h3];by_cases h2:t=off+j*5+2
 ·subst h2;rw[if_pos rfl,if_pos (by omega),show off+j*5+2-off=j*5+2 by omega,CL];rfl
 rw[if_neg h2];by_cases h1:t=off+j*5+1
 ·subst h1;rw[if_pos rfl,if_pos (by omega),show off+j*5+1-off=j*5+1 by omega,CK];rfl
 rw[if_neg h1];by_cases h0:t=off+j*5
 ·subst h0;rw[if_pos rfl,if_pos (by omega),show off+j*5-off=j*5 by omega,EU];rfl
 rw[if_neg h0];by_cases hl:off≤t∧t<off+j*5
 ·rw[if_pos hl,if_pos (by omega)]
 ·rw[if_neg hl,if_neg (by omega)]
theorem rI {w:World} {g N off j o1 o2 o3 o4:Nat} {F:Nat→Value} {k v1 v2 v3 v4:Int} (h:w.rowIs g 80 N (iT F k off j)) (e1:o1=off+j*5+1) (e2:o2=off+j*5+2) (e3:o3=off+j*5+3) (e4:o4=off+j*5+4) (u1:v1=k+5*j+1) (u2:v2=k+5*j+2) (u3:v3=k+5*j+3) (u4:v4=k+5*j+4):(((((w.setCell ⟨g,off+j*5,none⟩ (.int .i64 (k+5*j))).setCell ⟨g,o1,none⟩ (.int .i64 v1)).setCell ⟨g,o2,none⟩ (.int .i64 v2)).setCell ⟨g,o3,none⟩ (.int .i64 v3)).setCell ⟨g,o4,none⟩ (.int .i64 v4)).rowIs g 80 N (iT F k off (j+1)):=by subst e1 e2 e3 e4 u1 u2 u3 u4;exact tN h
theorem iE {w0 w:World} {g o:Nat} (h:w0.grownBy w (some g)) (u:Value):w0.grownBy (w.setCell ⟨g,o,none⟩ u) (some g):=
 ⟨h.os,h.tape,h.output,gU h.size (by simp[World.setCell]),fun k hk hn=>(Below.heap_setCell _ _ _ _ (by intro e;exact hn (by rw[e]))).trans (h.block k hk hn)⟩
theorem BS (w:World) (a:Addr) (u:Value):(w.setCell a u).heap.size=w.heap.size:=by simp[World.setCell]
theorem mI (w:World) (a:Option Addr) (n cap:Nat) (f:Nat→T) (k:Int) (h:Wr w a n f) (hn:(n:Int)≤140737488351232) (hk0:0≤k) (hk1:k≤1000000000000000):Calls Tryz.prog 22 #[.slice a n cap,.int .i64 k] w fun r w'=>r= .returned (.int .i64 (k+5*n))∧w.grownBy w' (a.map (·.block))∧w'.heap.size=w.heap.size∧Wr w' a n (mk k)∧(n=0→w'=w):=by
 by_cases hn0:n=0
 ·subst hn0;go_enter Tryz.func22,Tryz.ntmps22;go_wp2;go_loopw [1,5] (fun kk i wr=>wr=w∧kk= .int .i64 k∧i= .int .i64 0) (fun _ _ _=>0);case atStart=>exact⟨rfl,rfl,rfl⟩
  case round=>
   obtain⟨rfl,rfl,rfl⟩:=hrel;go_wp2;go_ret;exact⟨gH (by simp),kQ _ _,rfl,.inl rfl,fun _=>rfl⟩
 ·obtain⟨g,off,N,F,rfl,hR,hN,hF⟩:=h.resolve_left hn0;clear h;go_enter Tryz.func22,Tryz.ntmps22;go_wp2;go_loopw [1,5] (fun kk i wr=>∃j:Nat,j≤n∧i= .int .i64 j∧kk= .int .i64 (k+5*j)∧w.grownBy wr (some g)∧wr.heap.size=w.heap.size∧wr.rowIs g 80 N (iT F k off j)) (fun _ i _=>n-(intOf i).toNat);case atStart=>exact⟨0,gC _,rfl,by simp,kQ _ _,rfl,hR.congr fun t _=>by unfold iT;rw[if_neg (by omega)]⟩
  case round=>
   obtain⟨j,hj,rfl,rfl,hG,hS,hM⟩:=hrel;by_cases hlt:j<n
   ·have hjn:(j:Int)<(n:Int):=by omega
    have q0:=hM.cell (i:=off+j*5) (by omega);have q1:=hM.cell (i:=off+j*5+1) (by omega)
    have q2:=hM.cell (i:=off+j*5+2) (by omega);have q3:=hM.cell (i:=off+j*5+3) (by omega)
    have q4:=hM.cell (i:=off+j*5+4) (by omega);have fz:=fun i=>hM.frozen i
    have HM:=aA hM;have HG:=aA hG
    have HS:=aA hS;clear hM hR hF hG hS;go_wp2;go_roundw
    case rel=>
     exact⟨j+1,by omega,by go_num,congrArg (Value.int .i64) (by omega),iE (iE (iE (iE (iE HG.out _) _) _) _) _,by simp only[BS];exact HS.out,rI HM.out (by omega) (by omega) (by omega) (by omega) (by omega) (by omega) (by omega) (by omega)⟩
    case measure=>simp[intOf];omega
   ·have hjn:j=n:=by omega
    subst hjn;have HM:=aA hM
    clear hM;go_wp2;go_ret;exact⟨gH rfl,hG,hS,.inr ⟨g,off,N,_,rfl,HM.out,hN,fun t ht=>by unfold iT;rw[if_pos (by omega),show off+t-off=t by omega]⟩,fun h0=>absurd h0 hn0⟩
theorem tO (k:Int) (i:Nat):(mk k i).c=k+5*i∧(mk k i).m.x=k+5*i+1∧(mk k i).m.y=k+5*i+2∧(mk k i).m.d=k+5*i+3∧(mk k i).m.e=k+5*i+4:=⟨rfl,rfl,rfl,rfl,rfl⟩
theorem qC (w:World) (a:Option Addr) (n cap:Nat) (k:Int) (h:Rd w a n cap (mk k)) (hk0:0≤k) (hk1:k≤1000000000000000):Calls Tryz.prog 23 #[.slice a n cap,.int .i64 k] w fun r w'=>r= .returned (.int .i64 (k+5*n))∧w'=w:=by
 obtain⟨h1,h2,h3⟩:=h;have hn:(n:Int)≤140737488351232:=by omega
 go_enter Tryz.func23,Tryz.ntmps23;go_wp2
 go_loop [1,5] (fun kk i=>∃j:Nat,j≤n∧i= .int .i64 j∧kk= .int .i64 (k+5*j)) (fun _ i=>n-(intOf i).toNat)
 case atStart=>exact⟨0,gC _,rfl,by simp⟩
 case round=>
  obtain⟨j,hj,rfl,rfl⟩:=hrel;by_cases hlt:j<n
  ·rcases h3 with h0|⟨b,off,rfl,hblt,hcl⟩
   ·omega
   have hjn:(j:Int)<(n:Int):=by omega
   obtain⟨g0,g1,g2,g3,g4⟩:=hcl j hlt;rw[(tO k j).1]at g0;rw[(tO k j).2.1]at g1;rw[(tO k j).2.2.1]at g2;rw[(tO k j).2.2.2.1]at g3;rw[(tO k j).2.2.2.2]at g4;clear hcl;go_wp2;go_round;case rel=>exact⟨j+1,by omega,by go_num,congrArg (Value.int .i64) (by omega)⟩
   case measure=>simp[intOf];omega
  ·have hjn:j=n:=by omega
   subst hjn;go_wp2;go_ret;exact⟨gH rfl,rfl⟩
open Go.RowKit Go.Deep Go.Joins
def gW (w:World) (a:Option Addr) (n cap:Nat) (f:Nat→T):Prop:=
 n≤cap∧cap≤maxLen∧(n=0∨∃b off,a=some ⟨b,off,none⟩∧b<w.heap.size∧∀i,i<n→eK w b (off+i*5) (f i))
theorem gW.rd {w:World} {a:Option Addr} {n cap:Nat} {f:Nat→T} (h:gW w a n cap f) (hn:n*40≤140737488351232):Rd w a n cap f:=⟨h.1,hn,h.2.2⟩
theorem zG:Tryz.prog.cellsOf 121=5:=by kernel_rfl
theorem zE:Tryz.prog.cellsOf 119=4:=by kernel_rfl
theorem sP:Tryz.prog.cellsOf 3=1:=by kernel_rfl
theorem iY {H:Type} {enc:TypeId×Value→H} {w:World} {base:Nat} {spare:Nat→Bool} {held:Bool} {fuel:Nat} {a:Option Addr} {n cap:Nat} {x:DataW H×List MemPlace} (h:DataW.trod enc Tryz.prog w base spare held fuel 31 [.slice a n cap]=some x):∃f,gW w a n cap f:=by
 rcases open_slice Tryz.underlying31 h with⟨hc,_⟩|⟨ad,len,cp,m,k,D,Pl,hc,_,hl,hm,hmm,_,hx⟩
 ·simp at hc;obtain⟨rfl,rfl,rfl⟩:=hc;exact⟨fun _=>⟨0,⟨0,0,0,0⟩⟩,Nat.le_refl _,gC _,.inl rfl⟩
 ·simp at hc;obtain⟨rfl,rfl,rfl⟩:=hc;by_cases h0:n=0
  ·exact⟨fun _=>⟨0,⟨0,0,0,0⟩⟩,hl,hm,.inl h0⟩
  have hnm:n≤m:=by rw[hmm];split<;>omega
  have each:∀i,i<n→∃t:Int×Int×Int×Int×Int,w.cell? (ad.add (i*5))=some (.int .i64 t.1)∧w.cell? (ad.add (i*5+1))=some (.int .i64 t.2.1)∧w.cell? (ad.add (i*5+2))=some (.int .i64 t.2.2.1)∧w.cell? (ad.add (i*5+3))=some (.int .i64 t.2.2.2.1)∧w.cell? (ad.add (i*5+4))=some (.int .i64 t.2.2.2.2):=by
   intro i hi;obtain⟨cs',h1,h2⟩:=hx i (by omega);rw[zG]at h1;obtain⟨_,hlen,hcell⟩:=World.cells?_some h1;obtain⟨xs,kk,hk,hxy,_,hxl,hf⟩:=DataW.trod_struct Tryz.underlying121 h2;match cs',hlen,xs,hxl with
   |[v0,v1,v2,v3,v4],_,[p0,p1],_=>
    have g0:=hf 0 _ rfl;have g1:=hf 1 _ rfl
    simp[sP,zE]at g0 g1;obtain⟨y0,y1,y2,y3,n4,_,_,q0,q1,q2,q3⟩:=trod_struct4 Tryz.underlying119 g1;simp[sP]at q0 q1 q2 q3;obtain⟨z0,e0,_,_⟩:=DataW.trod_int Tryz.underlying3 g0;obtain⟨z1,e1,_,_⟩:=DataW.trod_int Tryz.underlying3 q0;obtain⟨z2,e2,_,_⟩:=DataW.trod_int Tryz.underlying3 q1;obtain⟨z3,e3,_,_⟩:=DataW.trod_int Tryz.underlying3 q2;obtain⟨z4,e4,_,_⟩:=DataW.trod_int Tryz.underlying3 q3;simp at e0 e1 e2 e3 e4;subst e0 e1 e2 e3 e4;have c0:=hcell 0 (by omega)
    have c1:=hcell 1 (by omega);have c2:=hcell 2 (by omega)
    have c3:=hcell 3 (by omega);have c4:=hcell 4 (by omega)
    rw[add_add]at c0 c1 c2 c3 c4;exact⟨(z0,z1,z2,z3,z4),by simpa using c0,by simpa using c1,by simpa using c2,by simpa using c3,by simpa using c4⟩
  obtain⟨q,hq⟩:=choose_lt each;obtain⟨b,off,spot⟩:=ad;have hs:spot=none:=by have:=World.cell?_spot (hq 0 (by omega)).1;simpa[Addr.add]using this
  subst hs;have hadd:∀j,(⟨b,off,none⟩:Addr).add j=⟨b,off+j,none⟩:=fun j=>by unfold Addr.add;split<;>simp_all
  refine⟨fun i=>⟨(q i).1,⟨(q i).2.1,(q i).2.2.1,(q i).2.2.2.1,(q i).2.2.2.2⟩⟩,hl,hm,.inr ⟨b,off,rfl,?_,fun i hi=>?_⟩⟩
  ·have:=uK w _ (hq 0 (by omega)).1;rw[hadd]at this;exact this
  ·obtain⟨c0,c1,c2,c3,c4⟩:=hq i hi;rw[hadd]at c0 c1 c2 c3 c4;exact⟨c0,c1,c2,c3,c4⟩
end Go.Proofs.YtoglomfejgpoeaaGreatDoor
namespace Go.Proofs.YtoglomfejgpoeaaGreatDoor
open Go.RowKit
set_option linter.unusedVariables false
theorem xE {w w1 w2:World} {row:Option Nat} (h:Below w.heap.size w w1) (hg:w1.grownBy w2 row) (hr:∀k,row=some k→w.heap.size≤k):Below w.heap.size w w2:=h.grown hg h.size hr
theorem Rd.under {w:World} {a:Option Addr} {n cap:Nat} {f:Nat→T} (h:Rd w a n cap f):nS a n w.heap.size:=by
 rcases h.2.2 with h0|⟨b,off,rfl,hlt,_⟩
 ·exact .inl h0
 ·exact .inr fun b' off' e=>by cases e;exact hlt
open Go.Shelf Go.RowKit
set_option linter.unusedSimpArgs false
abbrev C5 (u:World) (b:Nat) (c x y d e:Int):Prop:=u.cell? ⟨b,0,none⟩=some (.int .i64 c)∧u.cell? ⟨b,1,none⟩=some (.int .i64 x)∧u.cell? ⟨b,2,none⟩=some (.int .i64 y)∧u.cell? ⟨b,3,none⟩=some (.int .i64 d)∧u.cell? ⟨b,4,none⟩=some (.int .i64 e)
end Go.Proofs.YtoglomfejgpoeaaGreatDoor
namespace Go.Proofs.YtoglomfejgpoeaaGreatDoor
open Go.RowKit
set_option linter.unusedVariables false
def S8 (u:World) (n:Nat) (x0 y0 z0 u0 x1 y1 z1 u1:Int):Prop:=u.cell? ⟨n,0,none⟩=some (.int .i64 x0)∧u.cell? ⟨n,1,none⟩=some (.int .i64 y0)∧u.cell? ⟨n,2,none⟩=some (.int .i64 z0)∧u.cell? ⟨n,3,none⟩=some (.int .i64 u0)∧u.cell? ⟨n+1,0,none⟩=some (.int .i64 x1)∧u.cell? ⟨n+1,1,none⟩=some (.int .i64 y1)∧u.cell? ⟨n+1,2,none⟩=some (.int .i64 z1)∧u.cell? ⟨n+1,3,none⟩=some (.int .i64 u1)
theorem S8.mk {u:World} {n:Nat} {x0 y0 z0 u0 x1 y1 z1 u1:Int} (ha:M4 u n x0 y0 z0 u0) (hb:M4 u (n+1) x1 y1 z1 u1):S8 u n x0 y0 z0 u0 x1 y1 z1 u1:=
 ⟨ha.1,ha.2.1,ha.2.2.1,ha.2.2.2,hb.1,hb.2.1,hb.2.2.1,hb.2.2.2⟩
theorem S8.a {u:World} {n:Nat} {x0 y0 z0 u0 x1 y1 z1 u1:Int} (h:S8 u n x0 y0 z0 u0 x1 y1 z1 u1):M4 u n x0 y0 z0 u0:=⟨h.1,h.2.1,h.2.2.1,h.2.2.2.1⟩
theorem S8.b {u:World} {n:Nat} {x0 y0 z0 u0 x1 y1 z1 u1:Int} (h:S8 u n x0 y0 z0 u0 x1 y1 z1 u1):M4 u (n+1) x1 y1 z1 u1:=⟨h.2.2.2.2.1,h.2.2.2.2.2.1,h.2.2.2.2.2.2.1,h.2.2.2.2.2.2.2⟩
open Go.Shelf Go.RowKit
set_option linter.unusedSimpArgs false
end Go.Proofs.YtoglomfejgpoeaaGreatDoor
namespace Go.Proofs.YtoglomfejgpoeaaGreatDoor
open Go.RowKit Go.Deep Go.Joins Go.WideShapes Go.ChangeShapes
set_option linter.unusedVariables false
set_option linter.unusedSimpArgs false
theorem xS {H:Type} {enc:TypeId×Value→H} {w:World} {base:Nat} {spare:Nat→Bool} {held:Bool} {r:Reach} {b0:Nat} {v:Value} {d:DataW H} {p:List MemPlace} (hv:Value.okWide Tryz.prog w r b0 33 v) (h:DataW.Trod enc Tryz.prog w base spare held 33 v d p):∃(k to a b:Int) (pa:Option Addr) (n cap:Nat) (f:Nat→T),v= .agg #[.int .i64 k,.int .i64 to,.int .i64 a,.int .i64 b,.slice pa n cap]∧gW w pa n cap f:=by
 have hs:=Tryz.underlying33;obtain⟨cs,rfl,hsz⟩:=okWide_struct hs hv;have hC:Tryz.prog.cellsOf 33=5:=by kernel_rfl
 rw[hC]at hsz;obtain⟨c0,c1,c2,c3,c4,rfl⟩:∃c0 c1 c2 c3 c4,cs=#[c0,c1,c2,c3,c4]:=by
  obtain⟨l⟩:=cs;match l,hsz with
  |[c0,c1,c2,c3,c4],_=>exact⟨c0,c1,c2,c3,c4,rfl⟩
 obtain⟨fuel,hf⟩:=h;obtain⟨xs,m,_,hx,hl,hlen,hg⟩:=DataW.trod_struct hs hf;match xs,hlen with
 |[y0,y1,y2,y3,y4],_=>
  have g0:=hg 0 _ rfl;have g1:=hg 1 _ rfl
  have g2:=hg 2 _ rfl;have g3:=hg 3 _ rfl
  have g4:=hg 4 _ rfl;have cI:Tryz.prog.cellsOf 3=1:=by kernel_rfl
  have cS:Tryz.prog.cellsOf 31=1:=by kernel_rfl
  simp[Value.cells,cI,cS]at g0 g1 g2 g3 g4;obtain⟨z0,e0,_,_⟩:=DataW.trod_int Tryz.underlying3 g0;obtain⟨z1,e1,_,_⟩:=DataW.trod_int Tryz.underlying3 g1;obtain⟨z2,e2,_,_⟩:=DataW.trod_int Tryz.underlying3 g2;obtain⟨z3,e3,_,_⟩:=DataW.trod_int Tryz.underlying3 g3;simp at e0 e1 e2 e3;subst e0 e1 e2 e3;have g4':=g4
  rcases open_slice Tryz.underlying31 g4 with⟨hc,_⟩|⟨ad,len,cp,m',k',D,Pl,hc,_⟩
  ·simp at hc;subst hc;obtain⟨f,hf⟩:=iY g4';exact⟨z0,z1,z2,z3,none,0,0,f,rfl,hf⟩
  ·simp at hc;subst hc;obtain⟨f,hf⟩:=iY g4';exact⟨z0,z1,z2,z3,some ad,len,cp,f,rfl,hf⟩
theorem vK (k to a b:Int) (pa:Option Addr) (n cap:Nat) (f:Nat→T) (w:World) (h:Rd w pa n cap f):Calls Tryz.prog 17 #[.agg #[.int .i64 k,.int .i64 to,.int .i64 a,.int .i64 b,.slice pa n cap]] w fun r w'=>∃g,r= .returned (.agg #[.int .i64 k,.int .i64 to,.int .i64 a,.int .i64 b,.slice (some ⟨g,0,none⟩) n n])∧Below w.heap.size w w'∧Own w' g n f:=by
 have HH:=aA h;clear h;go_enter Tryz.func17,Tryz.ntmps17;go_wp2_with fail;have hbX:=bZ w (.cells #[.int .i64 k,.int .i64 to,.int .i64 a,.int .i64 b,.slice pa n cap] 33) (.cells #[.int .i64 0,.int .i64 0,.int .i64 0,.int .i64 0,.slice none 0 0] 24) (.cells #[.int .i64 k,.int .i64 to,.int .i64 a,.int .i64 b,.slice none 0 0] 24)
 have h2X:(((w.alloc (.cells #[.int .i64 k,.int .i64 to,.int .i64 a,.int .i64 b,.slice pa n cap] 33)).alloc (.cells #[.int .i64 0,.int .i64 0,.int .i64 0,.int .i64 0,.slice none 0 0] 24)).alloc (.cells #[.int .i64 k,.int .i64 to,.int .i64 a,.int .i64 b,.slice none 0 0] 24)).heap[w.heap.size+1]? =some (.cells #[.int .i64 0,.int .i64 0,.int .i64 0,.int .i64 0,.slice none 0 0] 24 (0,0)):=by
  rw[Below.heap_alloc _ _ _ (by simp)];have:=heap_alloc_new (w.alloc (.cells #[.int .i64 k,.int .i64 to,.int .i64 a,.int .i64 b,.slice pa n cap] 33)) (.cells #[.int .i64 0,.int .i64 0,.int .i64 0,.int .i64 0,.slice none 0 0] 24)
  rwa[World.size_alloc]at this
 have h3X:(((w.alloc (.cells #[.int .i64 k,.int .i64 to,.int .i64 a,.int .i64 b,.slice pa n cap] 33)).alloc (.cells #[.int .i64 0,.int .i64 0,.int .i64 0,.int .i64 0,.slice none 0 0] 24)).alloc (.cells #[.int .i64 k,.int .i64 to,.int .i64 a,.int .i64 b,.slice none 0 0] 24)).heap[w.heap.size+1+1]? =some (.cells #[.int .i64 k,.int .i64 to,.int .i64 a,.int .i64 b,.slice none 0 0] 24 (0,0)):=by
  have:=heap_alloc_new ((w.alloc (.cells #[.int .i64 k,.int .i64 to,.int .i64 a,.int .i64 b,.slice pa n cap] 33)).alloc (.cells #[.int .i64 0,.int .i64 0,.int .i64 0,.int .i64 0,.slice none 0 0] 24)) (.cells #[.int .i64 k,.int .i64 to,.int .i64 a,.int .i64 b,.slice none 0 0] 24)
  rwa[World.size_alloc,World.size_alloc]at this
 have hsX:(((w.alloc (.cells #[.int .i64 k,.int .i64 to,.int .i64 a,.int .i64 b,.slice pa n cap] 33)).alloc (.cells #[.int .i64 0,.int .i64 0,.int .i64 0,.int .i64 0,.slice none 0 0] 24)).alloc (.cells #[.int .i64 k,.int .i64 to,.int .i64 a,.int .i64 b,.slice none 0 0] 24)).heap.size=w.heap.size+3:=by simp
 generalize(((w.alloc (.cells #[.int .i64 k,.int .i64 to,.int .i64 a,.int .i64 b,.slice pa n cap] 33)).alloc (.cells #[.int .i64 0,.int .i64 0,.int .i64 0,.int .i64 0,.slice none 0 0] 24)).alloc (.cells #[.int .i64 k,.int .i64 to,.int .i64 a,.int .i64 b,.slice none 0 0] 24))=X at hbX h2X h3X hsX⊢;refine(nO _ _ _ _ f (HH.out.below hbX)).mono ?_;rintro e w1 ⟨rfl,hb,ho⟩;obtain⟨g,hg⟩:∃g,X.heap.size=g:=⟨_,rfl⟩
 have hgl:w.heap.size+3≤g:=by omega
 rw[hg]at ho⊢;obtain⟨⟨r0,r1,r2,r3,r4⟩,rz⟩:=dS ((hb.block _ (by omega)).trans h2X);obtain⟨⟨x0,x1,x2,x3,x4⟩,xz⟩:=dS ((hb.block _ (by omega)).trans h3X);have HB:=aA (aC hbX hb)
 have HO:=aA ho;have hn1:w.heap.size+1≠w.heap.size+1+1:=by omega
 have hn2:w.heap.size+1+1≠w.heap.size+1:=by omega
 have hg1:g≠w.heap.size+1:=by omega
 have hg2:g≠w.heap.size+1+1:=by omega
 clear hb ho hbX h2X h3X hsX hg;go_wp2;refine bT (v:=.agg #[.int .i64 k,.int .i64 to,.int .i64 a,.int .i64 b,.slice (some ⟨g,0,none⟩) n n]) (by simp[results,Tryz.results17,go_sem, *]) rfl ?_;refine⟨g,rfl,?_,?_⟩
 ·first
   |exact jM (HB.out.setCell (p:=⟨w.heap.size+1+1,4,none⟩) (by show w.heap.size≤w.heap.size+1+1;omega) _) (by omega) _ _ _ _ _
   |exact(jM HB.out (by omega) _ _ _ _ _).setCell (p:=⟨w.heap.size+1+1,4,none⟩) (by show w.heap.size≤w.heap.size+1+1;omega) _
 ·refine HO.out.of_block ?_;repeat(first|rw[Below.heap_setCell _ _ _ _ hg1]|rw[Below.heap_setCell _ _ _ _ hg2])
theorem BX (k to a b:Int) (pa:Option Addr) (n cap:Nat) (l:Int) (w:World) (hn:(n:Int)≤9223372036854775807) (hl:0≤l) (hl':l≤1048576):Calls Tryz.prog 14 #[.agg #[.int .i64 k,.int .i64 to,.int .i64 a,.int .i64 b,.slice pa n cap],.int .i64 l] w fun r w'=>r= .returned (.int .i64 (if l-n<0 then -1 else l-n))∧Below w.heap.size w w':=by
 have hb0:=aG w (.cells #[.int .i64 k,.int .i64 to,.int .i64 a,.int .i64 b,.slice pa n cap] 33);have HB0:=aA hb0
 clear hb0;by_cases h:l-n<0
 ·go_enter Tryz.func14,Tryz.ntmps14;go_wp2_with fail;refine(sA _ _ _ _ _ hn hl hl').mono ?_;rw[if_pos h];rintro e w' ⟨rfl,hw'⟩;obtain rfl:=hw'.symm;clear hw';go_wp2;go_ret;exact⟨by first|rfl|(rw[if_pos h];rfl),HB0.out⟩
 ·have h1:¬(l-n<0):=h;go_enter Tryz.func14,Tryz.ntmps14;go_wp2_with fail;refine(sA _ _ _ _ _ hn hl hl').mono ?_;rw[if_neg (by omega)];rintro e w' ⟨rfl,hw'⟩;obtain rfl:=hw'.symm;clear hw';go_wp2;go_ret;exact⟨by first|rfl|(rw[if_neg (by omega)];rfl),HB0.out⟩
theorem FY (k to a b:Int) (pa pa':Option Addr) (n cap cap':Nat) (f:Nat→T) (w:World) (h:Rd w pa n cap f) (h':Rd w pa' n cap' f):Calls Tryz.prog 10 #[.agg #[.int .i64 k,.int .i64 to,.int .i64 a,.int .i64 b,.slice pa n cap],.agg #[.int .i64 k,.int .i64 to,.int .i64 a,.int .i64 b,.slice pa' n cap']] w fun r w'=>r= .returned (.bool true)∧Below w.heap.size w w':=by
 have hb0:=cW w (.cells #[.int .i64 k,.int .i64 to,.int .i64 a,.int .i64 b,.slice pa n cap] 24) (.cells #[.int .i64 k,.int .i64 to,.int .i64 a,.int .i64 b,.slice pa' n cap'] 24);have HC:=aA (lF _ _ _ _ _ _ _ _ _ (h.below hb0) (h'.below hb0))
 rw[fH]at HC;have HB0:=aA hb0
 clear hb0 h h';go_enter Tryz.func10,Tryz.ntmps10;go_wp2_with fail;refine HC.out.mono ?_;rintro r w1 ⟨rfl,hb1⟩;have HB1:=aA (aC HB0.out hb1)
 clear hb1;go_wp2;go_ret;exact⟨rfl,HB1.out⟩
end Go.Proofs.YtoglomfejgpoeaaGreatDoor
namespace Go.Proofs.YtoglomfejgpoeaaGreatDoor
open Go.RowKit
set_option linter.unusedVariables false
set_option linter.unusedSimpArgs false
end Go.Proofs.YtoglomfejgpoeaaGreatDoor
