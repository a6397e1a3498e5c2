/-
  Monomials that come in, are copied and are held against each other.
-/
import Derived.Test.YtelkehjdfcoeiaaGreatNab
import Derived.Lib.SmallJoins
import Derived.Deep.Slices
set_option maxHeartbeats 4000000
set_option maxRecDepth 100000
namespace Go.Proofs.YtelkehjdfcoeiaaGreat
open Go.RowKit Go.Deep Go.Joins
set_option linter.unusedVariables false
theorem Cd (x y d e:Int) (w:World):Calls Tryz.prog 121 #[.agg #[.int .i64 x,.int .i64 y,.int .i64 d,.int .i64 e]] w fun r w'=>r= .returned (.agg #[.int .i64 x,.int .i64 y,.int .i64 d,.int .i64 e])∧Below w.heap.size w w':=by go_enter Tryz.func121,Tryz.ntmps121;go_wp2;refine cV (v:=.agg #[.int .i64 x,.int .i64 y,.int .i64 d,.int .i64 e]) (by simp[results,Tryz.results121,go_sem]) rfl ⟨rfl,?_⟩;exact aP w _ _ _
def M.eqB (a b:M):Bool:=decide (a.x=b.x∧a.y=b.y∧a.d=b.d∧a.e=b.e)
theorem M.eqB_iff {a b:M}:a.eqB b=true↔a=b:=by cases a;cases b;simp[M.eqB]
theorem ZS (x y d e x' y' d' e':Int) (w:World):Calls Tryz.prog 127 #[.agg #[.int .i64 x,.int .i64 y,.int .i64 d,.int .i64 e],.agg #[.int .i64 x',.int .i64 y',.int .i64 d',.int .i64 e']] w fun r w'=>r= .returned (.bool (M.eqB ⟨x,y,d,e⟩ ⟨x',y',d',e'⟩))∧Below w.heap.size w w':=by
 cases hx:(x !=x')
 ·cases hy:(y !=y')
  ·cases hd:(d !=d')
   ·cases he:(e !=e')
    ·have r1:M.eqB ⟨x,y,d,e⟩ ⟨x',y',d',e'⟩=true:=by simp at hx hy hd he;simp[M.eqB, *]
     rw[r1];go_enter Tryz.func127,Tryz.ntmps127;go_wp2;go_ret;exact⟨rfl,aN w _ _⟩
    ·have r1:M.eqB ⟨x,y,d,e⟩ ⟨x',y',d',e'⟩=false:=by simp at he;simp[M.eqB, *]
     rw[r1];go_enter Tryz.func127,Tryz.ntmps127;go_wp2;go_ret;exact⟨rfl,aN w _ _⟩
   ·have r1:M.eqB ⟨x,y,d,e⟩ ⟨x',y',d',e'⟩=false:=by simp at hd;simp[M.eqB, *]
    rw[r1];go_enter Tryz.func127,Tryz.ntmps127;go_wp2;go_ret;exact⟨rfl,aN w _ _⟩
  ·have r1:M.eqB ⟨x,y,d,e⟩ ⟨x',y',d',e'⟩=false:=by simp at hy;simp[M.eqB, *]
   rw[r1];go_enter Tryz.func127,Tryz.ntmps127;go_wp2;go_ret;exact⟨rfl,aN w _ _⟩
 ·have r1:M.eqB ⟨x,y,d,e⟩ ⟨x',y',d',e'⟩=false:=by simp at hx;simp[M.eqB, *]
  rw[r1];go_enter Tryz.func127,Tryz.ntmps127;go_wp2;go_ret;exact⟨rfl,aN w _ _⟩
end Go.Proofs.YtelkehjdfcoeiaaGreat
namespace Go.Proofs.YtelkehjdfcoeiaaGreat
open Go.RowKit
set_option linter.unusedVariables false
theorem WZ {n B o1 o2 o3 o4:Nat} {a w:World} (h:Below n a w) (hB:n≤B) (u1 u2 u3 u4:Value):Below n a ((((w.setCell ⟨B,o1,none⟩ u1).setCell ⟨B,o2,none⟩ u2).setCell ⟨B,o3,none⟩ u3).setCell ⟨B,o4,none⟩ u4):=
 (((h.setCell hB u1).setCell hB u2).setCell hB u3).setCell hB u4
theorem bC {n B o0 o1 o2 o3 o4:Nat} {a w:World} (h:Below n a w) (hB:n≤B) (u0 u1 u2 u3 u4:Value):Below n a (((((w.setCell ⟨B,o0,none⟩ u0).setCell ⟨B,o1,none⟩ u1).setCell ⟨B,o2,none⟩ u2).setCell ⟨B,o3,none⟩ u3).setCell ⟨B,o4,none⟩ u4):=
 ((((h.setCell hB u0).setCell hB u1).setCell hB u2).setCell hB u3).setCell hB u4
theorem YW (c x y d e:Int) (w:World):Calls Tryz.prog 72 #[.agg #[.int .i64 c,.int .i64 x,.int .i64 y,.int .i64 d,.int .i64 e]] w fun r w'=>r= .returned (.agg #[.int .i64 c,.int .i64 x,.int .i64 y,.int .i64 d,.int .i64 e])∧Below w.heap.size w w':=by
 go_enter Tryz.func72,Tryz.ntmps72;go_wp2_with fail;refine(Cd x y d e _).mono ?_;rintro r w1 ⟨rfl,hb⟩;obtain⟨hc,hf⟩:=aL hb;have hz:w.heap.size+1+1<w1.heap.size:=by have:=hb.size;simp at this;omega
 go_wp2;refine cV (v:=.agg #[.int .i64 c,.int .i64 x,.int .i64 y,.int .i64 d,.int .i64 e]) (by simp[results,Tryz.results72,go_sem, *]) rfl ⟨rfl,?_⟩;exact bC (WZ (aB (aP w _ _ _) hb) (by omega) _ _ _ _) (by omega) _ _ _ _ _
def cf (f:Nat→T) (j:Nat):Value:=if j%5=0 then .int .i64 (f (j / 5)).c else if j%5=1 then .int .i64 (f (j / 5)).m.x else if j%5=2 then .int .i64 (f (j / 5)).m.y else if j%5=3 then .int .i64 (f (j / 5)).m.d else .int .i64 (f (j / 5)).m.e
theorem cf0 (f:Nat→T) (i:Nat):cf f (i*5)= .int .i64 (f i).c:=by unfold cf;rw[if_pos (by omega),show i*5 / 5=i by omega]
theorem SO (f:Nat→T) (i:Nat):cf f (i*5+1)= .int .i64 (f i).m.x:=by unfold cf;rw[if_neg (by omega),if_pos (by omega),show(i*5+1) / 5=i by omega]
theorem SP (f:Nat→T) (i:Nat):cf f (i*5+2)= .int .i64 (f i).m.y:=by unfold cf;rw[if_neg (by omega),if_neg (by omega),if_pos (by omega),show(i*5+2) / 5=i by omega]
theorem XD (f:Nat→T) (i:Nat):cf f (i*5+3)= .int .i64 (f i).m.d:=by unfold cf;rw[if_neg (by omega),if_neg (by omega),if_neg (by omega),if_pos (by omega),show(i*5+3) / 5=i by omega]
theorem XE (f:Nat→T) (i:Nat):cf f (i*5+4)= .int .i64 (f i).m.e:=by unfold cf;rw[if_neg (by omega),if_neg (by omega),if_neg (by omega),if_neg (by omega),show(i*5+4) / 5=i by omega]
def Own (w:World) (g n:Nat) (f:Nat→T):Prop:=w.rowIs g 86 (n*5) (cf f)
theorem Own.cells {w:World} {g n:Nat} {f:Nat→T} (h:Own w g n f) {i:Nat} (hi:i<n):nD w g (0+i*5) (f i):=by rw[Nat.zero_add];exact⟨by rw[h.cell (by omega),cf0],by rw[h.cell (by omega),SO],by rw[h.cell (by omega),SP],by rw[h.cell (by omega),XD],by rw[h.cell (by omega),XE]⟩
theorem Own.rd {w:World} {g n:Nat} {f:Nat→T} (h:Own w g n f) (hn:n*40≤140737488351232):Rd w (some ⟨g,0,none⟩) n n f:=
 ⟨Nat.le_refl _,hn,.inr ⟨g,0,rfl,h.lt,fun i hi=>h.cells hi⟩⟩
theorem Own.below {w w':World} {g n B:Nat} {f:Nat→T} (h:Own w g n f) (hb:Below B w w') (hg:g<B):Own w' g n f:=h.of_block (hb.block g hg)
def GD (f:Nat→T) (k:Nat) (j:Nat):Value:=if j<k*5 then cf f j else .int .i64 0
theorem LW {w:World} {g N k:Nat} {f:Nat→T} (h:w.rowIs g 86 N (GD f k)):(((((w.setCell ⟨g,k*5,none⟩ (.int .i64 (f k).c)).setCell ⟨g,k*5+1,none⟩ (.int .i64 (f k).m.x)).setCell ⟨g,k*5+2,none⟩ (.int .i64 (f k).m.y)).setCell ⟨g,k*5+3,none⟩ (.int .i64 (f k).m.d)).setCell ⟨g,k*5+4,none⟩ (.int .i64 (f k).m.e)).rowIs g 86 N (GD f (k+1)):=by
 refine(((((h.set _ _).set _ _).set _ _).set _ _).set _ _).congr fun j hj=>?_;unfold GD;by_cases h4:j=k*5+4
 ·subst h4;rw[if_pos rfl,if_pos (by omega),XE]
 rw[if_neg h4];by_cases h3:j=k*5+3
 ·subst h3;rw[if_pos rfl,if_pos (by omega),XD]
 rw[if_neg h3];by_cases h2:j=k*5+2
 ·subst h2;rw[if_pos rfl,if_pos (by omega),SP]
 rw[if_neg h2];by_cases h1:j=k*5+1
 ·subst h1;rw[if_pos rfl,if_pos (by omega),SO]
 rw[if_neg h1];by_cases h0:j=k*5
 ·subst h0;rw[if_pos rfl,if_pos (by omega),cf0]
 rw[if_neg h0];by_cases hl:j<k*5
 ·rw[if_pos hl,if_pos (by omega)]
 ·rw[if_neg hl,if_neg (by omega)]
theorem vJ:(Tryz.prog.info? 86).map (fun i=>(i.zero,i.size,i.bytes))=some (some (.agg #[.int .i64 0,.int .i64 0,.int .i64 0,.int .i64 0,.int .i64 0]),5,40):=by kernel_rfl
theorem FX {ops:Array Oper} {rest:List Oper} {o:Oper} {a:Act} {Q:Exit→Act→World→Prop} (w:World) (hg:o.guard=none) (l c:Operand) (hop:o.op=Op.makeSlice 41 l c) (n:Nat) (hl:a.eval l= .int .i64 (n:Int)) (hc:a.eval c= .int .i64 (n:Int)) (hbytes:n*40≤140737488351232) (hK:(w.alloc (.cells (madeCells #[.int .i64 0,.int .i64 0,.int .i64 0,.int .i64 0,.int .i64 0] (n*5)) 86)).rowIs w.heap.size 86 (n*5) (fun _=>.int .i64 0)→wpList Tryz.prog ops Q rest (a.put o.dst (.slice (some ⟨w.heap.size,0,none⟩) n n)) (w.alloc (.cells (madeCells #[.int .i64 0,.int .i64 0,.int .i64 0,.int .i64 0,.int .i64 0] (n*5)) 86))):wpList Tryz.prog ops Q (o::rest) a w:=by
 obtain⟨i,hi,hzz⟩:=Option.map_eq_some_iff.1 vJ;simp only[Prod.mk.injEq]at hzz;obtain⟨hz,hs,hb⟩:=hzz;refine wpList_plain hg fun K hK'=>?_;have hr:=run_make (P:=Tryz.prog) w 41 86 i _ Tryz.underlying41 hi hz .i64 .i64 (n:Int) (n:Int) (by omega) (Int.le_refl _) (by rw[hb];omega) (by omega)
 simp only[Int.toNat_natCast,hs,Value.cells]at hr;unfold Oper.wp;simp[execOp,hop,hl,hc,hr,Result.andThen];refine hK' _ _ (hK ?_);refine⟨_,Go.Deep.blk_alloc_new _ _,size_madeCells _ _,fun j hj=>?_⟩;have h5:j%5=0∨j%5=1∨j%5=2∨j%5=3∨j%5=4:=by omega
 rcases h5 with h|h|h|h|h<;>simp[madeCells,hj,h]
theorem JU (w:World) (a:Option Addr) (n cap:Nat) (f:Nat→T) (h:Rd w a n cap f):Calls Tryz.prog 34 #[.slice a n cap] w fun r w'=>r= .returned (.slice (some ⟨w.heap.size,0,none⟩) n n)∧Below w.heap.size w w'∧Own w' w.heap.size n f:=by
 obtain⟨h1,h2,h3⟩:=h;have hn:(n:Int)≤140737488351232:=by omega
 go_enter Tryz.func34,Tryz.ntmps34;go_wp2_with (at_make;refine FX _ rfl _ _ rfl n rfl rfl (by omega) ?_;intro hrow);go_loopw [4] (fun i wr=>∃k:Nat,k≤n∧i= .int .i64 k∧Below w.heap.size w wr∧wr.rowIs w.heap.size 86 (n*5) (GD f k)) (fun i _=>n-(intOf i).toNat);case atStart=>exact⟨0,Nat.zero_le _,rfl,(bQ _ _).alloc (Nat.le_refl _) _,hrow.congr fun j _=>by simp[GD]⟩
 case round=>
  obtain⟨k,hk,rfl,hB,hR⟩:=hrel;by_cases hlt:k<n
  ·rcases h3 with h0|⟨b,off,rfl,hblt,hcl⟩
   ·omega
   have hkn:(k:Int)<(n:Int):=by omega
   obtain⟨g0,g1,g2,g3,g4⟩:=(hcl k hlt).below hB hblt;have HR:Hid (wr.rowIs w.heap.size 86 (n*5) (GD f k)):=hR
   clear hR hcl;go_wp2_with fail;refine(YW (f k).c (f k).m.x (f k).m.y (f k).m.d (f k).m.e _).mono ?_;rintro r w1 ⟨rfl,hb⟩;have hR1:=HR.out.of_block (hb.block w.heap.size (HR.out.lt))
   have hB1:=hB.trans (hb.mono hB.size);have q0:=hR1.cell (i:=k*5) (by omega)
   have q1:=hR1.cell (i:=k*5+1) (by omega);have q2:=hR1.cell (i:=k*5+2) (by omega)
   have q3:=hR1.cell (i:=k*5+3) (by omega);have q4:=hR1.cell (i:=k*5+4) (by omega)
   have fz:=fun i=>hR1.frozen i;have HN:=aA (LW hR1)
   clear hR1 HR hb;go_wp2;go_roundw
   case rel=>
    exact⟨k+1,by omega,by go_num,bC hB1 (Nat.le_refl _) _ _ _ _ _,HN.out⟩
   case measure=>simp[intOf];omega
  ·have hkn:k=n:=by omega
   subst hkn;have HR:=aA hR
   clear hR;go_wp2;go_ret;exact⟨rfl,hB,HR.out.congr fun j hj=>by unfold GD;rw[if_pos hj]⟩
def T.eqB (a b:T):Bool:=decide (a.c=b.c)&&a.m.eqB b.m
theorem T.eqB_iff {a b:T}:a.eqB b=true↔a=b:=by cases a;cases b;simp[T.eqB,M.eqB_iff]
theorem XJ (c x y d e c' x' y' d' e':Int) (w:World):Calls Tryz.prog 81 #[.agg #[.int .i64 c,.int .i64 x,.int .i64 y,.int .i64 d,.int .i64 e],.agg #[.int .i64 c',.int .i64 x',.int .i64 y',.int .i64 d',.int .i64 e']] w fun r w'=>r= .returned (.bool (T.eqB ⟨c,⟨x,y,d,e⟩⟩ ⟨c',⟨x',y',d',e'⟩⟩))∧Below w.heap.size w w':=by
 cases hc:(c !=c')
 ·have r1:T.eqB ⟨c,⟨x,y,d,e⟩⟩ ⟨c',⟨x',y',d',e'⟩⟩=M.eqB ⟨x,y,d,e⟩ ⟨x',y',d',e'⟩:=by simp at hc;simp[T.eqB,hc]
  rw[r1];cases hm:M.eqB ⟨x,y,d,e⟩ ⟨x',y',d',e'⟩
  all_goals
   go_enter Tryz.func81,Tryz.ntmps81;go_wp2_with fail;refine(ZS x y d e x' y' d' e' _).mono ?_;rw[hm];rintro r w1 ⟨rfl,hb⟩;go_wp2;go_ret;exact⟨rfl,aB (aN w _ _) hb⟩
 ·have r1:T.eqB ⟨c,⟨x,y,d,e⟩⟩ ⟨c',⟨x',y',d',e'⟩⟩=false:=by simp at hc;simp[T.eqB,hc]
  rw[r1];go_enter Tryz.func81,Tryz.ntmps81;go_wp2;go_ret;exact⟨rfl,aN w _ _⟩
theorem xU {t u:T} {b:Bool} (h:t.eqB u=b) (w:World):Calls Tryz.prog 81 #[.agg #[.int .i64 t.c,.int .i64 t.m.x,.int .i64 t.m.y,.int .i64 t.m.d,.int .i64 t.m.e],.agg #[.int .i64 u.c,.int .i64 u.m.x,.int .i64 u.m.y,.int .i64 u.m.d,.int .i64 u.m.e]] w fun r w'=>r= .returned (.bool b)∧Below w.heap.size w w':=by rw[←h];exact XJ _ _ _ _ _ _ _ _ _ _ w
def jO (n:Nat) (f:Nat→T) (n':Nat) (f':Nat→T):Bool:=decide (n=n'∧∀i,i<n→(f i).eqB (f' i)=true)
theorem TL (w:World) (a a':Option Addr) (n cap n' cap':Nat) (f f':Nat→T) (h:Rd w a n cap f) (h':Rd w a' n' cap' f'):Calls Tryz.prog 40 #[.slice a n cap,.slice a' n' cap'] w fun r w'=>r= .returned (.bool (jO n f n' f'))∧Below w.heap.size w w':=by
 obtain⟨h1,h2,h3⟩:=h;obtain⟨h1',h2',h3'⟩:=h';have hn:(n:Int)≤140737488351232:=by omega
 have hn':(n':Int)≤140737488351232:=by omega
 by_cases hnn:n=n'
 ·subst hnn;go_enter Tryz.func40,Tryz.ntmps40;go_wp2;go_loopw [5] (fun i wr=>∃k:Nat,k≤n∧i= .int .i64 k∧Below w.heap.size w wr∧∀j,j<k→(f j).eqB (f' j)=true) (fun i _=>n-(intOf i).toNat);case atStart=>exact⟨0,Nat.zero_le _,rfl,bQ _ _,fun j hj=>absurd hj (EZ _)⟩
  case round=>
   obtain⟨k,hk,rfl,hB,hok⟩:=hrel;by_cases hlt:k<n
   ·rcases h3 with h0|⟨b,off,rfl,hblt,hcl⟩
    ·omega
    rcases h3' with h0|⟨b',off',rfl,hblt',hcl'⟩
    ·omega
    have hkn:(k:Int)<(n:Int):=by omega
    have hbr:b<wr.heap.size:=iZ hblt hB.size;have hbr':b'<wr.heap.size:=iZ hblt' hB.size
    have ne:=bR.there wr;have hck:=(hcl k hlt).below hB hblt
    have hck':=(hcl' k hlt).below hB hblt';have s0:∀u:bR wr,u.1.cell? ⟨b,off+k*5,none⟩=some (.int .i64 (f k).c):=fun u=>(u.cell hbr).trans hck.1
    have s1:∀u:bR wr,u.1.cell? ⟨b,off+k*5+1,none⟩=some (.int .i64 (f k).m.x):=fun u=>(u.cell hbr).trans hck.2.1;have s2:∀u:bR wr,u.1.cell? ⟨b,off+k*5+2,none⟩=some (.int .i64 (f k).m.y):=fun u=>(u.cell hbr).trans hck.2.2.1
    have s3:∀u:bR wr,u.1.cell? ⟨b,off+k*5+3,none⟩=some (.int .i64 (f k).m.d):=fun u=>(u.cell hbr).trans hck.2.2.2.1;have s4:∀u:bR wr,u.1.cell? ⟨b,off+k*5+4,none⟩=some (.int .i64 (f k).m.e):=fun u=>(u.cell hbr).trans hck.2.2.2.2
    have t0:∀u:bR wr,u.1.cell? ⟨b',off'+k*5,none⟩=some (.int .i64 (f' k).c):=fun u=>(u.cell hbr').trans hck'.1;have t1:∀u:bR wr,u.1.cell? ⟨b',off'+k*5+1,none⟩=some (.int .i64 (f' k).m.x):=fun u=>(u.cell hbr').trans hck'.2.1
    have t2:∀u:bR wr,u.1.cell? ⟨b',off'+k*5+2,none⟩=some (.int .i64 (f' k).m.y):=fun u=>(u.cell hbr').trans hck'.2.2.1;have t3:∀u:bR wr,u.1.cell? ⟨b',off'+k*5+3,none⟩=some (.int .i64 (f' k).m.d):=fun u=>(u.cell hbr').trans hck'.2.2.2.1
    have t4:∀u:bR wr,u.1.cell? ⟨b',off'+k*5+4,none⟩=some (.int .i64 (f' k).m.e):=fun u=>(u.cell hbr').trans hck'.2.2.2.2;clear hck hck' hcl hcl';cases he:(f k).eqB (f' k)
    ·have HF:Hid (jO n f n f'=false):=by
      show jO n f n f'=false;simp only[jO,decide_eq_false_iff_not];intro hh;have:=hh.2 k hlt
      rw[he]at this;cases this
     clear hok;go_wp2_with fail;refine aF (by kernel_rfl) (by kernel_rfl) ?_;repeat(go_big_quiet_step (first|(go_at_call 81;exact aG (xU he _))))
     refine wpQuiet_nil ?_;rintro _ ⟨u,rfl⟩;go_wp2;go_ret;exact⟨by rw[HF.out];rfl,hB.trans (u.2.mono hB.size)⟩
    ·have hok':Hid (∀j,j<k+1→(f j).eqB (f' j)=true):=fun j hj=>by
      by_cases hjk:j=k
      ·rw[hjk];exact he
      ·exact hok j (by omega)
     clear hok;go_wp2_with fail;refine aF (by kernel_rfl) (by kernel_rfl) ?_;repeat(go_big_quiet_step (first|(go_at_call 81;exact aG (xU he _))))
     refine wpQuiet_nil ?_;rintro _ ⟨u,rfl⟩;go_wp2;go_roundw;case rel=>exact⟨k+1,by omega,by go_num,hB.trans (u.2.mono hB.size),hok'.out⟩
     case measure=>simp[intOf];omega
   ·go_wp2;go_ret;have hp:jO n f n f'=true:=by simp only[jO,decide_eq_true_eq];exact⟨trivial,fun i hi=>hok i (by omega)⟩
    exact⟨by rw[hp];rfl,hB⟩
 ·have hp:jO n f n' f'=false:=by simp only[jO,decide_eq_false_iff_not];exact fun h=>hnn h.1
  rw[hp];have hne:((n:Int)!=(n':Int))=true:=by simp;omega
  go_enter Tryz.func40,Tryz.ntmps40;go_wp2;go_ret;exact⟨rfl,bQ _ _⟩
theorem VQ (a:Option Addr) (n cap:Nat) (l:Int) (w:World) (hn:(n:Int)≤9223372036854775807) (hl:0≤l) (hl':l≤1048576):Calls Tryz.prog 29 #[.slice a n cap,.int .i64 l] w fun r w'=>r= .returned (.int .i64 (if l-n<0 then -1 else l-n))∧w'=w:=by
 by_cases h:l-n<0
 ·rw[if_pos h];go_enter Tryz.func29,Tryz.ntmps29;go_wp2;go_ret;exact⟨rfl,rfl⟩
 ·rw[if_neg h];go_enter Tryz.func29,Tryz.ntmps29;go_wp2;go_ret;exact⟨rfl,rfl⟩
def Wr (w:World) (a:Option Addr) (n:Nat) (f:Nat→T):Prop:=
 n=0∨∃g off N F,a=some ⟨g,off,none⟩∧w.rowIs g 86 N F∧off+n*5≤N∧∀j,j<n*5→F (off+j)=cf f j
def mk (k:Int) (i:Nat):T:=⟨k+5*i,⟨k+5*i+1,k+5*i+2,k+5*i+3,k+5*i+4⟩⟩
def lM (F:Nat→Value) (k:Int) (off j:Nat) (t:Nat):Value:=if off≤t∧t<off+j*5 then cf (mk k) (t-off)else F t
theorem CY {w:World} {g N off j:Nat} {F:Nat→Value} {k:Int} (h:w.rowIs g 86 N (lM F k off j)):(((((w.setCell ⟨g,off+j*5,none⟩ (.int .i64 (k+5*j))).setCell ⟨g,off+j*5+1,none⟩ (.int .i64 (k+5*j+1))).setCell ⟨g,off+j*5+2,none⟩ (.int .i64 (k+5*j+2))).setCell ⟨g,off+j*5+3,none⟩ (.int .i64 (k+5*j+3))).setCell ⟨g,off+j*5+4,none⟩ (.int .i64 (k+5*j+4))).rowIs g 86 N (lM F k off (j+1)):=by
 refine(((((h.set _ _).set _ _).set _ _).set _ _).set _ _).congr fun t ht=>?_;unfold lM;by_cases h4:t=off+j*5+4
 ·subst h4;rw[if_pos rfl,if_pos (by omega),show off+j*5+4-off=j*5+4 by omega,XE];rfl
 rw[if_neg h4];by_cases h3:t=off+j*5+3
 ·subst h3;rw[if_pos rfl,if_pos (by omega),show off+j*5+3-off=j*5+3 by omega,XD];rfl
 rw[if_neg h3];by_cases h2:t=off+j*5+2
 ·subst h2;rw[if_pos rfl,if_pos (by omega),show off+j*5+2-off=j*5+2 by omega,SP];rfl
 rw[if_neg h2];by_cases h1:t=off+j*5+1
 ·subst h1;rw[if_pos rfl,if_pos (by omega),show off+j*5+1-off=j*5+1 by omega,SO];rfl
 rw[if_neg h1];by_cases h0:t=off+j*5
 ·subst h0;rw[if_pos rfl,if_pos (by omega),show off+j*5-off=j*5 by omega,cf0];rfl
 rw[if_neg h0];by_cases hl:off≤t∧t<off+j*5
 ·rw[if_pos hl,if_pos (by omega)]
 ·rw[if_neg hl,if_neg (by omega)]
theorem zY {w:World} {g N off j o1 o2 o3 o4:Nat} {F:Nat→Value} {k v1 v2 v3 v4:Int} (h:w.rowIs g 86 N (lM F k off j)) (e1:o1=off+j*5+1) (e2:o2=off+j*5+2) (e3:o3=off+j*5+3) (e4:o4=off+j*5+4) (u1:v1=k+5*j+1) (u2:v2=k+5*j+2) (u3:v3=k+5*j+3) (u4:v4=k+5*j+4):(((((w.setCell ⟨g,off+j*5,none⟩ (.int .i64 (k+5*j))).setCell ⟨g,o1,none⟩ (.int .i64 v1)).setCell ⟨g,o2,none⟩ (.int .i64 v2)).setCell ⟨g,o3,none⟩ (.int .i64 v3)).setCell ⟨g,o4,none⟩ (.int .i64 v4)).rowIs g 86 N (lM F k off (j+1)):=by subst e1 e2 e3 e4 u1 u2 u3 u4;exact CY h
theorem lW {w0 w:World} {g o:Nat} (h:w0.grownBy w (some g)) (u:Value):w0.grownBy (w.setCell ⟨g,o,none⟩ u) (some g):=
 ⟨h.os,h.tape,h.output,gW h.size (by simp[World.setCell]),fun k hk hn=>(Below.heap_setCell _ _ _ _ (by intro e;exact hn (by rw[e]))).trans (h.block k hk hn)⟩
theorem pQ (w:World) (r:Option Nat):w.grownBy w r:=⟨rfl,rfl,rfl,Nat.le_refl _,fun _ _ _=>rfl⟩
theorem RI (w:World) (a:Addr) (u:Value):(w.setCell a u).heap.size=w.heap.size:=by simp[World.setCell]
theorem yK (w:World) (a:Option Addr) (n cap:Nat) (f:Nat→T) (k:Int) (h:Wr w a n f) (hn:(n:Int)≤140737488351232) (hk0:0≤k) (hk1:k≤1000000000000000):Calls Tryz.prog 41 #[.slice a n cap,.int .i64 k] w fun r w'=>r= .returned (.int .i64 (k+5*n))∧w.grownBy w' (a.map (·.block))∧w'.heap.size=w.heap.size∧Wr w' a n (mk k)∧(n=0→w'=w):=by
 by_cases hn0:n=0
 ·subst hn0;go_enter Tryz.func41,Tryz.ntmps41;go_wp2;go_loopw [1,5] (fun kk i wr=>wr=w∧kk= .int .i64 k∧i= .int .i64 0) (fun _ _ _=>0);case atStart=>exact⟨rfl,rfl,rfl⟩
  case round=>
   obtain⟨rfl,rfl,rfl⟩:=hrel;go_wp2;go_ret;exact⟨jN (by simp),pQ _ _,rfl,.inl rfl,fun _=>rfl⟩
 ·obtain⟨g,off,N,F,rfl,hR,hN,hF⟩:=h.resolve_left hn0;clear h;go_enter Tryz.func41,Tryz.ntmps41;go_wp2;go_loopw [1,5] (fun kk i wr=>∃j:Nat,j≤n∧i= .int .i64 j∧kk= .int .i64 (k+5*j)∧w.grownBy wr (some g)∧wr.heap.size=w.heap.size∧wr.rowIs g 86 N (lM F k off j)) (fun _ i _=>n-(intOf i).toNat);case atStart=>exact⟨0,Nat.zero_le _,rfl,by simp,pQ _ _,rfl,hR.congr fun t _=>by unfold lM;rw[if_neg (by omega)]⟩
  case round=>
   obtain⟨j,hj,rfl,rfl,hG,hS,hM⟩:=hrel;by_cases hlt:j<n
   ·have hjn:(j:Int)<(n:Int):=by omega
    have q0:=hM.cell (i:=off+j*5) (by omega);have q1:=hM.cell (i:=off+j*5+1) (by omega)
    have q2:=hM.cell (i:=off+j*5+2) (by omega);have q3:=hM.cell (i:=off+j*5+3) (by omega)
    have q4:=hM.cell (i:=off+j*5+4) (by omega);have fz:=fun i=>hM.frozen i
    have HM:=aA hM;have HG:=aA hG
    have HS:=aA hS;clear hM hR hF hG hS;go_wp2;go_roundw
    case rel=>
     exact⟨j+1,by omega,by go_num,congrArg (Value.int .i64) (by omega),lW (lW (lW (lW (lW HG.out _) _) _) _) _,by simp only[RI];exact HS.out,zY HM.out (by omega) (by omega) (by omega) (by omega) (by omega) (by omega) (by omega) (by omega)⟩
    case measure=>simp[intOf];omega
   ·have hjn:j=n:=by omega
    subst hjn;have HM:=aA hM
    clear hM;go_wp2;go_ret;exact⟨jN rfl,hG,hS,.inr ⟨g,off,N,_,rfl,HM.out,hN,fun t ht=>by unfold lM;rw[if_pos (by omega),show off+t-off=t by omega]⟩,fun h0=>absurd h0 hn0⟩
theorem CZ (k:Int) (i:Nat):(mk k i).c=k+5*i∧(mk k i).m.x=k+5*i+1∧(mk k i).m.y=k+5*i+2∧(mk k i).m.d=k+5*i+3∧(mk k i).m.e=k+5*i+4:=⟨rfl,rfl,rfl,rfl,rfl⟩
theorem LH (w:World) (a:Option Addr) (n cap:Nat) (k:Int) (h:Rd w a n cap (mk k)) (hk0:0≤k) (hk1:k≤1000000000000000):Calls Tryz.prog 82 #[.slice a n cap,.int .i64 k] w fun r w'=>r= .returned (.int .i64 (k+5*n))∧w'=w:=by
 obtain⟨h1,h2,h3⟩:=h;have hn:(n:Int)≤140737488351232:=by omega
 go_enter Tryz.func82,Tryz.ntmps82;go_wp2
 go_loop [1,5] (fun kk i=>∃j:Nat,j≤n∧i= .int .i64 j∧kk= .int .i64 (k+5*j)) (fun _ i=>n-(intOf i).toNat)
 case atStart=>exact⟨0,Nat.zero_le _,rfl,by simp⟩
 case round=>
  obtain⟨j,hj,rfl,rfl⟩:=hrel;by_cases hlt:j<n
  ·rcases h3 with h0|⟨b,off,rfl,hblt,hcl⟩
   ·omega
   have hjn:(j:Int)<(n:Int):=by omega
   obtain⟨g0,g1,g2,g3,g4⟩:=hcl j hlt;rw[(CZ k j).1]at g0;rw[(CZ k j).2.1]at g1;rw[(CZ k j).2.2.1]at g2;rw[(CZ k j).2.2.2.1]at g3;rw[(CZ k j).2.2.2.2]at g4;clear hcl;go_wp2;go_round;case rel=>exact⟨j+1,by omega,by go_num,congrArg (Value.int .i64) (by omega)⟩
   case measure=>simp[intOf];omega
  ·have hjn:j=n:=by omega
   subst hjn;go_wp2;go_ret;exact⟨jN rfl,rfl⟩
open Go.RowKit Go.Deep Go.Joins
def oI (w:World) (a:Option Addr) (n cap:Nat) (f:Nat→T):Prop:=
 n≤cap∧cap≤maxLen∧(n=0∨∃b off,a=some ⟨b,off,none⟩∧b<w.heap.size∧∀i,i<n→nD w b (off+i*5) (f i))
theorem oI.rd {w:World} {a:Option Addr} {n cap:Nat} {f:Nat→T} (h:oI w a n cap f) (hn:n*40≤140737488351232):Rd w a n cap f:=⟨h.1,hn,h.2.2⟩
theorem NV:Tryz.prog.cellsOf 104=5:=by kernel_rfl
theorem NT:Tryz.prog.cellsOf 102=4:=by kernel_rfl
theorem BX:Tryz.prog.cellsOf 3=1:=by kernel_rfl
theorem wQ {H:Type} {enc:TypeId×Value→H} {w:World} {base:Nat} {spare:Nat→Bool} {held:Bool} {fuel:Nat} {a:Option Addr} {n cap:Nat} {x:DataW H×List MemPlace} (h:DataW.trod enc Tryz.prog w base spare held fuel 56 [.slice a n cap]=some x):∃f,oI w a n cap f:=by
 rcases open_slice Tryz.underlying56 h with⟨hc,_⟩|⟨ad,len,cp,m,k,D,Pl,hc,_,hl,hm,hmm,_,hx⟩
 ·simp at hc;obtain⟨rfl,rfl,rfl⟩:=hc;exact⟨fun _=>⟨0,⟨0,0,0,0⟩⟩,Nat.le_refl _,Nat.zero_le _,.inl rfl⟩
 ·simp at hc;obtain⟨rfl,rfl,rfl⟩:=hc;by_cases h0:n=0
  ·exact⟨fun _=>⟨0,⟨0,0,0,0⟩⟩,hl,hm,.inl h0⟩
  have hnm:n≤m:=by rw[hmm];split<;>omega
  have each:∀i,i<n→∃t:Int×Int×Int×Int×Int,w.cell? (ad.add (i*5))=some (.int .i64 t.1)∧w.cell? (ad.add (i*5+1))=some (.int .i64 t.2.1)∧w.cell? (ad.add (i*5+2))=some (.int .i64 t.2.2.1)∧w.cell? (ad.add (i*5+3))=some (.int .i64 t.2.2.2.1)∧w.cell? (ad.add (i*5+4))=some (.int .i64 t.2.2.2.2):=by
   intro i hi;obtain⟨cs',h1,h2⟩:=hx i (by omega);rw[NV]at h1;obtain⟨_,hlen,hcell⟩:=World.cells?_some h1;obtain⟨xs,kk,hk,hxy,_,hxl,hf⟩:=DataW.trod_struct Tryz.underlying104 h2;match cs',hlen,xs,hxl with
   |[v0,v1,v2,v3,v4],_,[p0,p1],_=>
    have g0:=hf 0 _ rfl;have g1:=hf 1 _ rfl
    simp[BX,NT]at g0 g1;obtain⟨y0,y1,y2,y3,n4,_,_,q0,q1,q2,q3⟩:=trod_struct4 Tryz.underlying102 g1;simp[BX]at q0 q1 q2 q3;obtain⟨z0,e0,_,_⟩:=DataW.trod_int Tryz.underlying3 g0;obtain⟨z1,e1,_,_⟩:=DataW.trod_int Tryz.underlying3 q0;obtain⟨z2,e2,_,_⟩:=DataW.trod_int Tryz.underlying3 q1;obtain⟨z3,e3,_,_⟩:=DataW.trod_int Tryz.underlying3 q2;obtain⟨z4,e4,_,_⟩:=DataW.trod_int Tryz.underlying3 q3;simp at e0 e1 e2 e3 e4;subst e0 e1 e2 e3 e4;have c0:=hcell 0 (by omega)
    have c1:=hcell 1 (by omega);have c2:=hcell 2 (by omega)
    have c3:=hcell 3 (by omega);have c4:=hcell 4 (by omega)
    rw[add_add]at c0 c1 c2 c3 c4;exact⟨(z0,z1,z2,z3,z4),by simpa using c0,by simpa using c1,by simpa using c2,by simpa using c3,by simpa using c4⟩
  obtain⟨q,hq⟩:=choose_lt each;obtain⟨b,off,spot⟩:=ad;have hs:spot=none:=by have:=World.cell?_spot (hq 0 (by omega)).1;simpa[Addr.add]using this
  subst hs;have hadd:∀j,(⟨b,off,none⟩:Addr).add j=⟨b,off+j,none⟩:=fun j=>by unfold Addr.add;split<;>simp_all
  refine⟨fun i=>⟨(q i).1,⟨(q i).2.1,(q i).2.2.1,(q i).2.2.2.1,(q i).2.2.2.2⟩⟩,hl,hm,.inr ⟨b,off,rfl,?_,fun i hi=>?_⟩⟩
  ·have:=cQ w _ (hq 0 (by omega)).1;rw[hadd]at this;exact this
  ·obtain⟨c0,c1,c2,c3,c4⟩:=hq i hi;rw[hadd]at c0 c1 c2 c3 c4;exact⟨c0,c1,c2,c3,c4⟩
def eH (w:World) (a:Option Addr) (n cap:Nat) (ad:Nat→Option Addr) (ln cp:Nat→Nat) (f:Nat→Nat→T):Prop:=
 n≤cap∧n*40≤140737488351232∧(n=0∨∃b off,a=some ⟨b,off,none⟩∧b<w.heap.size∧∀i,i<n→w.cell? ⟨b,off+i,none⟩=some (.slice (ad i) (ln i) (cp i)))∧∀i,i<n→Rd w (ad i) (ln i) (cp i) (f i)
theorem eH.below {w w':World} {a:Option Addr} {n cap:Nat} {ad:Nat→Option Addr} {ln cp:Nat→Nat} {f:Nat→Nat→T} (h:eH w a n cap ad ln cp f) (hb:Below w.heap.size w w'):eH w' a n cap ad ln cp f:=by
 refine⟨h.1,h.2.1,?_,fun i hi=>(h.2.2.2 i hi).below hb⟩;rcases h.2.2.1 with h0|⟨b,off,he,hlt,hc⟩
 ·exact .inl h0
 ·exact .inr ⟨b,off,he,iZ hlt hb.size,fun i hi=>(hb.cell (p:=⟨b,off+i,none⟩) hlt).trans (hc i hi)⟩
theorem VP (a:Option Addr) (n cap:Nat) (ad:Nat→Option Addr) (ln cp:Nat→Nat) (l:Int) (w:World) (hn:(n:Int)≤9223372036854775807) (hl:0≤l) (hl':l≤1048576) (h3:n=0∨∃b off,a=some ⟨b,off,none⟩∧b<w.heap.size∧∀i,i<n→w.cell? ⟨b,off+i,none⟩=some (.slice (ad i) (ln i) (cp i))) (hln:∀i,i<n→(ln i:Int)≤9223372036854775807):Calls Tryz.prog 7 #[.slice a n cap,.int .i64 l] w fun r w'=>∃z:Int,r= .returned (.int .i64 z)∧w'=w∧z≤l∧(0≤z→(n:Int)≤l∧∀i,i<n→(ln i:Int)≤l):=by
 by_cases hneg:l-n<0
 ·go_enter Tryz.func7,Tryz.ntmps7;go_wp2;go_ret;exact⟨-1,rfl,rfl,by omega,fun h=>by omega⟩
 ·go_enter Tryz.func7,Tryz.ntmps7;go_wp2;go_loopw [1,5] (fun lv iv wr=>∃(i:Nat) (z:Int),i≤n∧iv= .int .i64 (i:Int)∧lv= .int .i64 z∧0≤z∧z≤l∧(∀j,j<i→(ln j:Int)≤l)∧wr=w) (fun _ v _=>n-(intOf v).toNat);case atStart=>exact⟨0,l-n,Nat.zero_le _,rfl,rfl,by omega,by omega,fun j hj=>by omega,rfl⟩
  case round=>
   obtain⟨i,z,hi,rfl,rfl,z0,z1,hj,rfl⟩:=hrel;have HJ:=aA hj
   clear hj;by_cases hlt:i<n
   ·rcases h3 with h0|⟨b,off,rfl,hblt,hcl⟩
    ·omega
    have hil:(i:Int)<(n:Int):=by omega
    have hc:=hcl i hlt;have hli:=hln i hlt
    clear hcl hln;go_wp2_with fail;refine(VQ _ _ _ _ _ hli z0 (by omega)).mono ?_;by_cases hz:z-ln i<0
    ·rw[if_pos hz];rintro e w' ⟨rfl,rfl⟩;go_wp2;go_ret;exact⟨-1,rfl,rfl,by omega,fun h=>by omega⟩
    ·rw[if_neg hz];obtain⟨y,hy⟩:∃y,z-(ln i:Int)=y:=⟨_,rfl⟩
     rw[hy];rintro e w' ⟨rfl,rfl⟩;have hy0:¬y<0:=by omega
     go_wp2;go_roundw
     case rel=>exact⟨i+1,y,by omega,by go_num,rfl,by omega,by omega,fun j hj=>by
      by_cases e:j=i
      ·rw[e];omega
      ·exact HJ.out j (by omega),by first|trivial|rfl⟩
     case measure=>simp[intOf];omega
   ·have hnl:¬(i:Int)<(n:Int):=by omega
    have hie:i=n:=by omega
    subst hie;go_wp2;go_ret;exact⟨z,rfl,rfl,z1,fun _=>⟨by omega,HJ.out⟩⟩
theorem ZY:(Tryz.prog.info? 41).map (fun i=>(i.zero,i.size,i.bytes))=some (some (.slice none 0 0),1,24):=by kernel_rfl
theorem vO {ops:Array Oper} {rest:List Oper} {o:Oper} {a:Act} {Q:Exit→Act→World→Prop} (w:World) (hg:o.guard=none) (l c:Operand) (hop:o.op=Op.makeSlice 24 l c) (n:Nat) (hl:a.eval l= .int .i64 (n:Int)) (hc:a.eval c= .int .i64 (n:Int)) (hbytes:n*40≤140737488351232) (hK:(w.alloc (.cells (madeCells #[.slice none 0 0] n) 41)).rowIs w.heap.size 41 n (fun _=>.slice none 0 0)→wpList Tryz.prog ops Q rest (a.put o.dst (.slice (some ⟨w.heap.size,0,none⟩) n n)) (w.alloc (.cells (madeCells #[.slice none 0 0] n) 41))):wpList Tryz.prog ops Q (o::rest) a w:=by
 obtain⟨i,hi,hzz⟩:=Option.map_eq_some_iff.1 ZY;simp only[Prod.mk.injEq]at hzz;obtain⟨hz,hs,hb⟩:=hzz;refine wpList_plain hg fun K hK'=>?_;have hr:=run_make (P:=Tryz.prog) w 24 41 i _ Tryz.underlying24 hi hz .i64 .i64 (n:Int) (n:Int) (by omega) (Int.le_refl _) (by rw[hb];omega) (by omega)
 simp only[Int.toNat_natCast,hs,Value.cells,Nat.mul_one]at hr;unfold Oper.wp;simp[execOp,hop,hl,hc,hr,Result.andThen];refine hK' _ _ (hK ?_);refine⟨_,Go.Deep.blk_alloc_new _ _,size_madeCells _ _,fun j hj=>?_⟩;simp[madeCells,hj,Nat.mod_one]
def jF (B ln:Nat→Nat) (k j:Nat):Value:=if j<k then .slice (some ⟨B j,0,none⟩) (ln j) (ln j)else .slice none 0 0
theorem vW {w:World} {g n k:Nat} {B ln:Nat→Nat} {v:Nat} (h:w.rowIs g 41 n (jF B ln k)):(w.setCell ⟨g,k,none⟩ (.slice (some ⟨v,0,none⟩) (ln k) (ln k))).rowIs g 41 n (jF (fun j=>if j=k then v else B j) ln (k+1)):=by
 refine(h.set _ _).congr fun j hj=>?_;by_cases e:j=k
 ·subst e;simp[jF]
 ·unfold jF;by_cases hl:j<k
  ·rw[if_pos (show j<k+1 by omega)];simp[e,hl]
  ·rw[if_neg (show ¬j<k+1 by omega)];simp[e,hl]
theorem AZ (w:World) (a:Option Addr) (n cap:Nat) (ad:Nat→Option Addr) (ln cp:Nat→Nat) (f:Nat→Nat→T) (h:eH w a n cap ad ln cp f):Calls Tryz.prog 9 #[.slice a n cap] w fun r w'=>∃B:Nat→Nat,r= .returned (.slice (some ⟨w.heap.size,0,none⟩) n n)∧Below w.heap.size w w'∧w'.rowIs w.heap.size 41 n (jF B ln n)∧∀i,i<n→w.heap.size<B i∧Own w' (B i) (ln i) (f i):=by
 have hn:(n:Int)≤140737488351232:=by have:=h.2.1;omega
 have h2:=h.2.1;have HH:=aA h
 clear h;go_enter Tryz.func9,Tryz.ntmps9;go_wp2_with (at_make;refine vO _ rfl _ _ rfl n rfl rfl (by omega) ?_;intro hrow);go_loopw [4] (fun i wr=>∃(k:Nat) (B:Nat→Nat),k≤n∧i= .int .i64 k∧Below w.heap.size w wr∧wr.rowIs w.heap.size 41 n (jF B ln k)∧∀i,i<k→w.heap.size<B i∧Own wr (B i) (ln i) (f i)) (fun i _=>n-(intOf i).toNat);case atStart=>exact⟨0,fun _=>0,Nat.zero_le _,rfl,(bQ _ _).alloc (Nat.le_refl _) _,hrow.congr fun j _=>by simp[jF],fun i hi=>by omega⟩
 case round=>
  obtain⟨k,B,hk,rfl,hB,hR,hO⟩:=hrel;by_cases hlt:k<n
  ·rcases HH.out.2.2.1 with h0|⟨b,off,rfl,hblt,hcl⟩
   ·omega
   have hkn:(k:Int)<(n:Int):=by omega
   have g0:wr.cell? ⟨b,off+k,none⟩=some (.slice (ad k) (ln k) (cp k)):=(hB.cell (p:=⟨b,off+k,none⟩) hblt).trans (hcl k hlt);have HR:=aA hR
   have HO:=aA hO;have HB:=aA hB
   have HK:=aA ((HH.out.2.2.2 k hlt).below hB);clear hR hcl hO;go_wp2_with fail;refine(JU _ _ _ _ (f k) HK.out).mono ?_;rintro r w1 ⟨rfl,hb,ho⟩;have hR1:=HR.out.of_block (hb.block w.heap.size (HR.out.lt))
   have hB1:=HB.out.trans (hb.mono HB.out.size);have hsz:w.heap.size<wr.heap.size:=HR.out.lt
   have q0:=hR1.cell (i:=k) hlt;have fz:=fun i=>hR1.frozen i
   obtain⟨V,hV⟩:∃V,wr.heap.size=V:=⟨_,rfl⟩
   rw[hV]at ho⊢;have HN:=aA (vW (v:=V) hR1)
   have HO2:Hid (∀i,i<k+1→w.heap.size<(if i=k then V else B i)∧Own w1 (if i=k then V else B i) (ln i) (f i)):=fun i hi=>by
    by_cases e:i=k
    ·rw[if_pos e,e];exact⟨by omega,ho⟩
    ·rw[if_neg e];have:=HO.out i (by omega)
     exact⟨this.1,this.2.below hb this.2.lt⟩
   have HB1:=aA hB1;clear hR1 HR hb ho HO hB1 hB;go_wp2;go_roundw
   case rel=>
    refine⟨k+1,_,by omega,by go_num,HB1.out.setCell (Nat.le_refl _) _,HN.out,fun i hi=>?_⟩;have:=HO2.out i hi
    refine⟨this.1,this.2.of_block ?_⟩;exact Below.heap_setCell _ _ _ _ (Nat.ne_of_gt this.1)
   case measure=>simp[intOf];omega
  ·have hkn:k=n:=by omega
   subst hkn;have HR:=aA hR
   have HO:=aA hO;clear hR hO;go_wp2;go_ret;exact⟨B,rfl,hB,HR.out,HO.out⟩
theorem nZ {w:World} {g n:Nat} {B ln:Nat→Nat} {f:Nat→Nat→T} (hR:w.rowIs g 41 n (jF B ln n)) (hO:∀i,i<n→Own w (B i) (ln i) (f i)) (hn:n*40≤140737488351232) (hl:∀i,i<n→ln i*40≤140737488351232):eH w (some ⟨g,0,none⟩) n n (fun i=>some ⟨B i,0,none⟩) ln ln f:=
 ⟨Nat.le_refl _,hn,.inr ⟨g,0,rfl,hR.lt,fun i hi=>by
  have:=hR.cell (i:=i) hi;rw[Nat.zero_add,this];unfold jF
  rw[if_pos hi]⟩,fun i hi=>(hO i hi).rd (hl i hi)⟩
end Go.Proofs.YtelkehjdfcoeiaaGreat
