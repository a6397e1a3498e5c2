/-
  Monomials that come in, are copied and are held against each other.
-/
import Derived.Test.YtdidlcjhodejjaaGreatMCaa
set_option maxHeartbeats 4000000
set_option maxRecDepth 100000
namespace Go.Proofs.YtdidlcjhodejjaaGreat
open Go.RowKit Go.Deep Go.Joins
set_option linter.unusedVariables false
theorem Rx (x y d e:Int) (w:World):Calls Tryz.prog 131 #[.agg #[.int .i64 x,.int .i64 y,.int .i64 d,.int .i64 e]] w fun r w'=>r= .returned (.agg #[.int .i64 x,.int .i64 y,.int .i64 d,.int .i64 e])∧Below w.heap.size w w':=by go_enter Tryz.func131,Tryz.ntmps131;go_wp2;refine bY (v:=.agg #[.int .i64 x,.int .i64 y,.int .i64 d,.int .i64 e]) (by simp[results,Tryz.results131,go_sem]) rfl ⟨rfl,?_⟩;exact aY w _ _ _
theorem Qa (x y d e x' y' d' e':Int) (w:World):Calls Tryz.prog 135 #[.agg #[.int .i64 x,.int .i64 y,.int .i64 d,.int .i64 e],.agg #[.int .i64 x',.int .i64 y',.int .i64 d',.int .i64 e']] w fun r w'=>r= .returned (.bool (M.eqB ⟨x,y,d,e⟩ ⟨x',y',d',e'⟩))∧Below w.heap.size w w':=by
 cases hx:(x !=x')
 ·cases hy:(y !=y')
  ·cases hd:(d !=d')
   ·cases he:(e !=e')
    ·have r1:M.eqB ⟨x,y,d,e⟩ ⟨x',y',d',e'⟩=true:=by simp at hx hy hd he;simp[M.eqB, *]
     rw[r1];go_enter Tryz.func135,Tryz.ntmps135;go_wp2;go_ret;exact⟨rfl,aR w _ _⟩
    ·have r1:M.eqB ⟨x,y,d,e⟩ ⟨x',y',d',e'⟩=false:=by simp at he;simp[M.eqB, *]
     rw[r1];go_enter Tryz.func135,Tryz.ntmps135;go_wp2;go_ret;exact⟨rfl,aR w _ _⟩
   ·have r1:M.eqB ⟨x,y,d,e⟩ ⟨x',y',d',e'⟩=false:=by simp at hd;simp[M.eqB, *]
    rw[r1];go_enter Tryz.func135,Tryz.ntmps135;go_wp2;go_ret;exact⟨rfl,aR w _ _⟩
  ·have r1:M.eqB ⟨x,y,d,e⟩ ⟨x',y',d',e'⟩=false:=by simp at hy;simp[M.eqB, *]
   rw[r1];go_enter Tryz.func135,Tryz.ntmps135;go_wp2;go_ret;exact⟨rfl,aR w _ _⟩
 ·have r1:M.eqB ⟨x,y,d,e⟩ ⟨x',y',d',e'⟩=false:=by simp at hx;simp[M.eqB, *]
  rw[r1];go_enter Tryz.func135,Tryz.ntmps135;go_wp2;go_ret;exact⟨rfl,aR w _ _⟩
end Go.Proofs.YtdidlcjhodejjaaGreat
namespace Go.Proofs.YtdidlcjhodejjaaGreat
open Go.RowKit
set_option linter.unusedVariables false
theorem Mn {n B o1 o2 o3 o4:Nat} {a w:World} (h:Below n a w) (hB:n≤B) (u1 u2 u3 u4:Value):Below n a ((((w.setCell ⟨B,o1,none⟩ u1).setCell ⟨B,o2,none⟩ u2).setCell ⟨B,o3,none⟩ u3).setCell ⟨B,o4,none⟩ u4):=
 (((h.setCell hB u1).setCell hB u2).setCell hB u3).setCell hB u4
theorem Oq (c x y d e:Int) (w:World):Calls Tryz.prog 90 #[.agg #[.int .i64 c,.int .i64 x,.int .i64 y,.int .i64 d,.int .i64 e]] w fun r w'=>r= .returned (.agg #[.int .i64 c,.int .i64 x,.int .i64 y,.int .i64 d,.int .i64 e])∧Below w.heap.size w w':=by
 go_enter Tryz.func90,Tryz.ntmps90;go_wp2_with fail;refine(Rx x y d e _).mono ?_;rintro r w1 ⟨rfl,hb⟩;obtain⟨hc,hf⟩:=aP hb;have hz:w.heap.size+1+1<w1.heap.size:=by have:=hb.size;simp at this;omega
 go_wp2;refine bY (v:=.agg #[.int .i64 c,.int .i64 x,.int .i64 y,.int .i64 d,.int .i64 e]) (by simp[results,Tryz.results90,go_sem, *]) rfl ⟨rfl,?_⟩;exact cE (Mn (aB (aY w _ _ _) hb) (by omega) _ _ _ _) (by omega) _ _ _ _ _
def SN (f:Nat→T) (k:Nat) (j:Nat):Value:=if j<k*5 then cf f j else .int .i64 0
theorem YO {w:World} {g N k:Nat} {f:Nat→T} (h:w.rowIs g 42 N (SN f k)):(((((w.setCell ⟨g,k*5,none⟩ (.int .i64 (f k).c)).setCell ⟨g,k*5+1,none⟩ (.int .i64 (f k).m.x)).setCell ⟨g,k*5+2,none⟩ (.int .i64 (f k).m.y)).setCell ⟨g,k*5+3,none⟩ (.int .i64 (f k).m.d)).setCell ⟨g,k*5+4,none⟩ (.int .i64 (f k).m.e)).rowIs g 42 N (SN f (k+1)):=by
 refine(((((h.set _ _).set _ _).set _ _).set _ _).set _ _).congr fun j hj=>?_;unfold SN;by_cases h4:j=k*5+4
 ·subst h4;rw[if_pos rfl,if_pos (by omega),Ln]
 rw[if_neg h4];by_cases h3:j=k*5+3
 ·subst h3;rw[if_pos rfl,if_pos (by omega),Lm]
 rw[if_neg h3];by_cases h2:j=k*5+2
 ·subst h2;rw[if_pos rfl,if_pos (by omega),TR]
 rw[if_neg h2];by_cases h1:j=k*5+1
 ·subst h1;rw[if_pos rfl,if_pos (by omega),TP]
 rw[if_neg h1];by_cases h0:j=k*5
 ·subst h0;rw[if_pos rfl,if_pos (by omega),cf0]
 rw[if_neg h0];by_cases hl:j<k*5
 ·rw[if_pos hl,if_pos (by omega)]
 ·rw[if_neg hl,if_neg (by omega)]
theorem SB {ops:Array Oper} {rest:List Oper} {o:Oper} {a:Act} {Q:Exit→Act→World→Prop} (w:World) (hg:o.guard=none) (l c:Operand) (hop:o.op=Op.makeSlice 45 l c) (n:Nat) (hl:a.eval l= .int .i64 (n:Int)) (hc:a.eval c= .int .i64 (n:Int)) (hbytes:n*40≤140737488351232) (hK:(w.alloc (.cells (madeCells #[.int .i64 0,.int .i64 0,.int .i64 0,.int .i64 0,.int .i64 0] (n*5)) 42)).rowIs w.heap.size 42 (n*5) (fun _=>.int .i64 0)→wpList Tryz.prog ops Q rest (a.put o.dst (.slice (some ⟨w.heap.size,0,none⟩) n n)) (w.alloc (.cells (madeCells #[.int .i64 0,.int .i64 0,.int .i64 0,.int .i64 0,.int .i64 0] (n*5)) 42))):wpList Tryz.prog ops Q (o::rest) a w:=by
 obtain⟨i,hi,hzz⟩:=Option.map_eq_some_iff.1 uG;simp only[Prod.mk.injEq]at hzz;obtain⟨hz,hs,hb⟩:=hzz;refine wpList_plain hg fun K hK'=>?_;have hr:=run_make (P:=Tryz.prog) w 45 42 i _ Tryz.underlying45 hi hz .i64 .i64 (n:Int) (n:Int) (by omega) (Int.le_refl _) (by rw[hb];omega) (by omega)
 simp only[Int.toNat_natCast,hs,Value.cells]at hr;unfold Oper.wp;simp[execOp,hop,hl,hc,hr,Result.andThen];refine hK' _ _ (hK ?_);refine⟨_,Go.Deep.blk_alloc_new _ _,size_madeCells _ _,fun j hj=>?_⟩;have h5:j%5=0∨j%5=1∨j%5=2∨j%5=3∨j%5=4:=by omega
 rcases h5 with h|h|h|h|h<;>simp[madeCells,hj,h]
theorem WB (w:World) (a:Option Addr) (n cap:Nat) (f:Nat→T) (h:Rd w a n cap f):Calls Tryz.prog 44 #[.slice a n cap] w fun r w'=>r= .returned (.slice (some ⟨w.heap.size,0,none⟩) n n)∧Below w.heap.size w w'∧Own w' w.heap.size n f:=by
 obtain⟨h1,h2,h3⟩:=h;have hn:(n:Int)≤140737488351232:=by omega
 go_enter Tryz.func44,Tryz.ntmps44;go_wp2_with (at_make;refine SB _ rfl _ _ rfl n rfl rfl (by omega) ?_;intro hrow);go_loopw [4] (fun i wr=>∃k:Nat,k≤n∧i= .int .i64 k∧Below w.heap.size w wr∧wr.rowIs w.heap.size 42 (n*5) (SN f k)) (fun i _=>n-(intOf i).toNat);case atStart=>exact⟨0,Nat.zero_le _,rfl,(bL _ _).alloc (Nat.le_refl _) _,hrow.congr fun j _=>by simp[SN]⟩
 case round=>
  obtain⟨k,hk,rfl,hB,hR⟩:=hrel;by_cases hlt:k<n
  ·rcases h3 with h0|⟨b,off,rfl,hblt,hcl⟩
   ·omega
   have hkn:(k:Int)<(n:Int):=by omega
   obtain⟨g0,g1,g2,g3,g4⟩:=(hcl k hlt).below hB hblt;have HR:Hid (wr.rowIs w.heap.size 42 (n*5) (SN f k)):=hR
   clear hR hcl;go_wp2_with fail;refine(Oq (f k).c (f k).m.x (f k).m.y (f k).m.d (f k).m.e _).mono ?_;rintro r w1 ⟨rfl,hb⟩;have hR1:=HR.out.of_block (hb.block w.heap.size (HR.out.lt))
   have hB1:=hB.trans (hb.mono hB.size);have q0:=hR1.cell (i:=k*5) (by omega)
   have q1:=hR1.cell (i:=k*5+1) (by omega);have q2:=hR1.cell (i:=k*5+2) (by omega)
   have q3:=hR1.cell (i:=k*5+3) (by omega);have q4:=hR1.cell (i:=k*5+4) (by omega)
   have fz:=fun i=>hR1.frozen i;have HN:=aA (YO hR1)
   clear hR1 HR hb;go_wp2;go_roundw
   case rel=>
    exact⟨k+1,by omega,by go_num,cE hB1 (Nat.le_refl _) _ _ _ _ _,HN.out⟩
   case measure=>simp[intOf];omega
  ·have hkn:k=n:=by omega
   subst hkn;have HR:=aA hR
   clear hR;go_wp2;go_ret;exact⟨rfl,hB,HR.out.congr fun j hj=>by unfold SN;rw[if_pos hj]⟩
theorem My (c x y d e c' x' y' d' e':Int) (w:World):Calls Tryz.prog 95 #[.agg #[.int .i64 c,.int .i64 x,.int .i64 y,.int .i64 d,.int .i64 e],.agg #[.int .i64 c',.int .i64 x',.int .i64 y',.int .i64 d',.int .i64 e']] w fun r w'=>r= .returned (.bool (T.eqB ⟨c,⟨x,y,d,e⟩⟩ ⟨c',⟨x',y',d',e'⟩⟩))∧Below w.heap.size w w':=by
 cases hc:(c !=c')
 ·have r1:T.eqB ⟨c,⟨x,y,d,e⟩⟩ ⟨c',⟨x',y',d',e'⟩⟩=M.eqB ⟨x,y,d,e⟩ ⟨x',y',d',e'⟩:=by simp at hc;simp[T.eqB,hc]
  rw[r1];cases hm:M.eqB ⟨x,y,d,e⟩ ⟨x',y',d',e'⟩
  all_goals
   go_enter Tryz.func95,Tryz.ntmps95;go_wp2_with fail;refine(Qa x y d e x' y' d' e' _).mono ?_;rw[hm];rintro r w1 ⟨rfl,hb⟩;go_wp2;go_ret;exact⟨rfl,aB (aR w _ _) hb⟩
 ·have r1:T.eqB ⟨c,⟨x,y,d,e⟩⟩ ⟨c',⟨x',y',d',e'⟩⟩=false:=by simp at hc;simp[T.eqB,hc]
  rw[r1];go_enter Tryz.func95,Tryz.ntmps95;go_wp2;go_ret;exact⟨rfl,aR w _ _⟩
theorem FU {t u:T} {b:Bool} (h:t.eqB u=b) (w:World):Calls Tryz.prog 95 #[.agg #[.int .i64 t.c,.int .i64 t.m.x,.int .i64 t.m.y,.int .i64 t.m.d,.int .i64 t.m.e],.agg #[.int .i64 u.c,.int .i64 u.m.x,.int .i64 u.m.y,.int .i64 u.m.d,.int .i64 u.m.e]] w fun r w'=>r= .returned (.bool b)∧Below w.heap.size w w':=by rw[←h];exact My _ _ _ _ _ _ _ _ _ _ w
theorem Hv (w:World) (a a':Option Addr) (n cap n' cap':Nat) (f f':Nat→T) (h:Rd w a n cap f) (h':Rd w a' n' cap' f'):Calls Tryz.prog 51 #[.slice a n cap,.slice a' n' cap'] w fun r w'=>r= .returned (.bool (aO n f n' f'))∧Below w.heap.size w w':=by
 obtain⟨h1,h2,h3⟩:=h;obtain⟨h1',h2',h3'⟩:=h';have hn:(n:Int)≤140737488351232:=by omega
 have hn':(n':Int)≤140737488351232:=by omega
 by_cases hnn:n=n'
 ·subst hnn;go_enter Tryz.func51,Tryz.ntmps51;go_wp2;go_loopw [5] (fun i wr=>∃k:Nat,k≤n∧i= .int .i64 k∧Below w.heap.size w wr∧∀j,j<k→(f j).eqB (f' j)=true) (fun i _=>n-(intOf i).toNat);case atStart=>exact⟨0,Nat.zero_le _,rfl,bL _ _,fun j hj=>absurd hj (rT _)⟩
  case round=>
   obtain⟨k,hk,rfl,hB,hok⟩:=hrel;by_cases hlt:k<n
   ·rcases h3 with h0|⟨b,off,rfl,hblt,hcl⟩
    ·omega
    rcases h3' with h0|⟨b',off',rfl,hblt',hcl'⟩
    ·omega
    have hkn:(k:Int)<(n:Int):=by omega
    have hbr:b<wr.heap.size:=jY hblt hB.size;have hbr':b'<wr.heap.size:=jY hblt' hB.size
    have ne:=bJ.there wr;have hck:=(hcl k hlt).below hB hblt
    have hck':=(hcl' k hlt).below hB hblt';have s0:∀u:bJ wr,u.1.cell? ⟨b,off+k*5,none⟩=some (.int .i64 (f k).c):=fun u=>(u.cell hbr).trans hck.1
    have s1:∀u:bJ wr,u.1.cell? ⟨b,off+k*5+1,none⟩=some (.int .i64 (f k).m.x):=fun u=>(u.cell hbr).trans hck.2.1;have s2:∀u:bJ wr,u.1.cell? ⟨b,off+k*5+2,none⟩=some (.int .i64 (f k).m.y):=fun u=>(u.cell hbr).trans hck.2.2.1
    have s3:∀u:bJ wr,u.1.cell? ⟨b,off+k*5+3,none⟩=some (.int .i64 (f k).m.d):=fun u=>(u.cell hbr).trans hck.2.2.2.1;have s4:∀u:bJ wr,u.1.cell? ⟨b,off+k*5+4,none⟩=some (.int .i64 (f k).m.e):=fun u=>(u.cell hbr).trans hck.2.2.2.2
    have t0:∀u:bJ wr,u.1.cell? ⟨b',off'+k*5,none⟩=some (.int .i64 (f' k).c):=fun u=>(u.cell hbr').trans hck'.1;have t1:∀u:bJ wr,u.1.cell? ⟨b',off'+k*5+1,none⟩=some (.int .i64 (f' k).m.x):=fun u=>(u.cell hbr').trans hck'.2.1
    have t2:∀u:bJ wr,u.1.cell? ⟨b',off'+k*5+2,none⟩=some (.int .i64 (f' k).m.y):=fun u=>(u.cell hbr').trans hck'.2.2.1;have t3:∀u:bJ wr,u.1.cell? ⟨b',off'+k*5+3,none⟩=some (.int .i64 (f' k).m.d):=fun u=>(u.cell hbr').trans hck'.2.2.2.1
    have t4:∀u:bJ wr,u.1.cell? ⟨b',off'+k*5+4,none⟩=some (.int .i64 (f' k).m.e):=fun u=>(u.cell hbr').trans hck'.2.2.2.2;clear hck hck' hcl hcl';cases he:(f k).eqB (f' k)
    ·have HF:Hid (aO n f n f'=false):=by
      show aO n f n f'=false;simp only[aO,decide_eq_false_iff_not];intro hh;have:=hh.2 k hlt
      rw[he]at this;cases this
     clear hok;go_wp2_with fail;refine aG (by kernel_rfl) (by kernel_rfl) ?_;repeat(go_big_quiet_step (first|(go_at_call 95;exact aJ (FU he _))))
     refine wpQuiet_nil ?_;rintro _ ⟨u,rfl⟩;go_wp2;go_ret;exact⟨by rw[HF.out];rfl,hB.trans (u.2.mono hB.size)⟩
    ·have hok':Hid (∀j,j<k+1→(f j).eqB (f' j)=true):=fun j hj=>by
      by_cases hjk:j=k
      ·rw[hjk];exact he
      ·exact hok j (by omega)
     clear hok;go_wp2_with fail;refine aG (by kernel_rfl) (by kernel_rfl) ?_;repeat(go_big_quiet_step (first|(go_at_call 95;exact aJ (FU he _))))
     refine wpQuiet_nil ?_;rintro _ ⟨u,rfl⟩;go_wp2;go_roundw;case rel=>exact⟨k+1,by omega,by go_num,hB.trans (u.2.mono hB.size),hok'.out⟩
     case measure=>simp[intOf];omega
   ·go_wp2;go_ret;have hp:aO n f n f'=true:=by simp only[aO,decide_eq_true_eq];exact⟨trivial,fun i hi=>hok i (by omega)⟩
    exact⟨by rw[hp];rfl,hB⟩
 ·have hp:aO n f n' f'=false:=by simp only[aO,decide_eq_false_iff_not];exact fun h=>hnn h.1
  rw[hp];have hne:((n:Int)!=(n':Int))=true:=by simp;omega
  go_enter Tryz.func51,Tryz.ntmps51;go_wp2;go_ret;exact⟨rfl,bL _ _⟩
theorem Kr (a:Option Addr) (n cap:Nat) (l:Int) (w:World) (hn:(n:Int)≤9223372036854775807) (hl:0≤l) (hl':l≤1048576):Calls Tryz.prog 38 #[.slice a n cap,.int .i64 l] w fun r w'=>r= .returned (.int .i64 (if l-n<0 then -1 else l-n))∧w'=w:=by
 by_cases h:l-n<0
 ·rw[if_pos h];go_enter Tryz.func38,Tryz.ntmps38;go_wp2;go_ret;exact⟨rfl,rfl⟩
 ·rw[if_neg h];go_enter Tryz.func38,Tryz.ntmps38;go_wp2;go_ret;exact⟨rfl,rfl⟩
open Go.RowKit Go.Deep Go.Joins
def sS (w:World) (a:Option Addr) (n cap:Nat) (f:Nat→T):Prop:=
 n≤cap∧cap≤maxLen∧(n=0∨∃b off,a=some ⟨b,off,none⟩∧b<w.heap.size∧∀i,i<n→pO w b (off+i*5) (f i))
theorem sS.rd {w:World} {a:Option Addr} {n cap:Nat} {f:Nat→T} (h:sS w a n cap f) (hn:n*40≤140737488351232):Rd w a n cap f:=⟨h.1,hn,h.2.2⟩
theorem Aw:Tryz.prog.cellsOf 112=5:=by kernel_rfl
theorem Au:Tryz.prog.cellsOf 110=4:=by kernel_rfl
theorem MC:Tryz.prog.cellsOf 3=1:=by kernel_rfl
theorem EN {H:Type} {enc:TypeId×Value→H} {w:World} {base:Nat} {spare:Nat→Bool} {held:Bool} {fuel:Nat} {a:Option Addr} {n cap:Nat} {x:DataW H×List MemPlace} (h:DataW.trod enc Tryz.prog w base spare held fuel 60 [.slice a n cap]=some x):∃f,sS w a n cap f:=by
 rcases open_slice Tryz.underlying60 h with⟨hc,_⟩|⟨ad,len,cp,m,k,D,Pl,hc,_,hl,hm,hmm,_,hx⟩
 ·simp at hc;obtain⟨rfl,rfl,rfl⟩:=hc;exact⟨fun _=>⟨0,⟨0,0,0,0⟩⟩,Nat.le_refl _,Nat.zero_le _,.inl rfl⟩
 ·simp at hc;obtain⟨rfl,rfl,rfl⟩:=hc;by_cases h0:n=0
  ·exact⟨fun _=>⟨0,⟨0,0,0,0⟩⟩,hl,hm,.inl h0⟩
  have hnm:n≤m:=by rw[hmm];split<;>omega
  have each:∀i,i<n→∃t:Int×Int×Int×Int×Int,w.cell? (ad.add (i*5))=some (.int .i64 t.1)∧w.cell? (ad.add (i*5+1))=some (.int .i64 t.2.1)∧w.cell? (ad.add (i*5+2))=some (.int .i64 t.2.2.1)∧w.cell? (ad.add (i*5+3))=some (.int .i64 t.2.2.2.1)∧w.cell? (ad.add (i*5+4))=some (.int .i64 t.2.2.2.2):=by
   intro i hi;obtain⟨cs',h1,h2⟩:=hx i (by omega);rw[Aw]at h1;obtain⟨_,hlen,hcell⟩:=World.cells?_some h1;obtain⟨xs,kk,hk,hxy,_,hxl,hf⟩:=DataW.trod_struct Tryz.underlying112 h2;match cs',hlen,xs,hxl with
   |[v0,v1,v2,v3,v4],_,[p0,p1],_=>
    have g0:=hf 0 _ rfl;have g1:=hf 1 _ rfl
    simp[MC,Au]at g0 g1;obtain⟨y0,y1,y2,y3,n4,_,_,q0,q1,q2,q3⟩:=trod_struct4 Tryz.underlying110 g1;simp[MC]at q0 q1 q2 q3;obtain⟨z0,e0,_,_⟩:=DataW.trod_int Tryz.underlying3 g0;obtain⟨z1,e1,_,_⟩:=DataW.trod_int Tryz.underlying3 q0;obtain⟨z2,e2,_,_⟩:=DataW.trod_int Tryz.underlying3 q1;obtain⟨z3,e3,_,_⟩:=DataW.trod_int Tryz.underlying3 q2;obtain⟨z4,e4,_,_⟩:=DataW.trod_int Tryz.underlying3 q3;simp at e0 e1 e2 e3 e4;subst e0 e1 e2 e3 e4;have c0:=hcell 0 (by omega)
    have c1:=hcell 1 (by omega);have c2:=hcell 2 (by omega)
    have c3:=hcell 3 (by omega);have c4:=hcell 4 (by omega)
    rw[add_add]at c0 c1 c2 c3 c4;exact⟨(z0,z1,z2,z3,z4),by simpa using c0,by simpa using c1,by simpa using c2,by simpa using c3,by simpa using c4⟩
  obtain⟨q,hq⟩:=choose_lt each;obtain⟨b,off,spot⟩:=ad;have hs:spot=none:=by have:=World.cell?_spot (hq 0 (by omega)).1;simpa[Addr.add]using this
  subst hs;have hadd:∀j,(⟨b,off,none⟩:Addr).add j=⟨b,off+j,none⟩:=fun j=>by unfold Addr.add;split<;>simp_all
  refine⟨fun i=>⟨(q i).1,⟨(q i).2.1,(q i).2.2.1,(q i).2.2.2.1,(q i).2.2.2.2⟩⟩,hl,hm,.inr ⟨b,off,rfl,?_,fun i hi=>?_⟩⟩
  ·have:=cX w _ (hq 0 (by omega)).1;rw[hadd]at this;exact this
  ·obtain⟨c0,c1,c2,c3,c4⟩:=hq i hi;rw[hadd]at c0 c1 c2 c3 c4;exact⟨c0,c1,c2,c3,c4⟩
theorem AW (a:Option Addr) (n cap:Nat) (ad:Nat→Option Addr) (ln cp:Nat→Nat) (l:Int) (w:World) (hn:(n:Int)≤9223372036854775807) (hl:0≤l) (hl':l≤1048576) (h3:n=0∨∃b off,a=some ⟨b,off,none⟩∧b<w.heap.size∧∀i,i<n→w.cell? ⟨b,off+i,none⟩=some (.slice (ad i) (ln i) (cp i))) (hln:∀i,i<n→(ln i:Int)≤9223372036854775807):Calls Tryz.prog 9 #[.slice a n cap,.int .i64 l] w fun r w'=>∃z:Int,r= .returned (.int .i64 z)∧w'=w∧z≤l∧(0≤z→(n:Int)≤l∧∀i,i<n→(ln i:Int)≤l):=by
 by_cases hneg:l-n<0
 ·go_enter Tryz.func9,Tryz.ntmps9;go_wp2;go_ret;exact⟨-1,rfl,rfl,by omega,fun h=>by omega⟩
 ·go_enter Tryz.func9,Tryz.ntmps9;go_wp2;go_loopw [1,5] (fun lv iv wr=>∃(i:Nat) (z:Int),i≤n∧iv= .int .i64 (i:Int)∧lv= .int .i64 z∧0≤z∧z≤l∧(∀j,j<i→(ln j:Int)≤l)∧wr=w) (fun _ v _=>n-(intOf v).toNat);case atStart=>exact⟨0,l-n,Nat.zero_le _,rfl,rfl,by omega,by omega,fun j hj=>by omega,rfl⟩
  case round=>
   obtain⟨i,z,hi,rfl,rfl,z0,z1,hj,rfl⟩:=hrel;have HJ:=aA hj
   clear hj;by_cases hlt:i<n
   ·rcases h3 with h0|⟨b,off,rfl,hblt,hcl⟩
    ·omega
    have hil:(i:Int)<(n:Int):=by omega
    have hc:=hcl i hlt;have hli:=hln i hlt
    clear hcl hln;go_wp2_with fail;refine(Kr _ _ _ _ _ hli z0 (by omega)).mono ?_;by_cases hz:z-ln i<0
    ·rw[if_pos hz];rintro e w' ⟨rfl,rfl⟩;go_wp2;go_ret;exact⟨-1,rfl,rfl,by omega,fun h=>by omega⟩
    ·rw[if_neg hz];obtain⟨y,hy⟩:∃y,z-(ln i:Int)=y:=⟨_,rfl⟩
     rw[hy];rintro e w' ⟨rfl,rfl⟩;have hy0:¬y<0:=by omega
     go_wp2;go_roundw
     case rel=>exact⟨i+1,y,by omega,by go_num,rfl,by omega,by omega,fun j hj=>by
      by_cases e:j=i
      ·rw[e];omega
      ·exact HJ.out j (by omega),by first|trivial|rfl⟩
     case measure=>simp[intOf];omega
   ·have hnl:¬(i:Int)<(n:Int):=by omega
    have hie:i=n:=by omega
    subst hie;go_wp2;go_ret;exact⟨z,rfl,rfl,z1,fun _=>⟨by omega,HJ.out⟩⟩
theorem Qi:(Tryz.prog.info? 45).map (fun i=>(i.zero,i.size,i.bytes))=some (some (.slice none 0 0),1,24):=by kernel_rfl
theorem CT {ops:Array Oper} {rest:List Oper} {o:Oper} {a:Act} {Q:Exit→Act→World→Prop} (w:World) (hg:o.guard=none) (l c:Operand) (hop:o.op=Op.makeSlice 24 l c) (n:Nat) (hl:a.eval l= .int .i64 (n:Int)) (hc:a.eval c= .int .i64 (n:Int)) (hbytes:n*40≤140737488351232) (hK:(w.alloc (.cells (madeCells #[.slice none 0 0] n) 45)).rowIs w.heap.size 45 n (fun _=>.slice none 0 0)→wpList Tryz.prog ops Q rest (a.put o.dst (.slice (some ⟨w.heap.size,0,none⟩) n n)) (w.alloc (.cells (madeCells #[.slice none 0 0] n) 45))):wpList Tryz.prog ops Q (o::rest) a w:=by
 obtain⟨i,hi,hzz⟩:=Option.map_eq_some_iff.1 Qi;simp only[Prod.mk.injEq]at hzz;obtain⟨hz,hs,hb⟩:=hzz;refine wpList_plain hg fun K hK'=>?_;have hr:=run_make (P:=Tryz.prog) w 24 45 i _ Tryz.underlying24 hi hz .i64 .i64 (n:Int) (n:Int) (by omega) (Int.le_refl _) (by rw[hb];omega) (by omega)
 simp only[Int.toNat_natCast,hs,Value.cells,Nat.mul_one]at hr;unfold Oper.wp;simp[execOp,hop,hl,hc,hr,Result.andThen];refine hK' _ _ (hK ?_);refine⟨_,Go.Deep.blk_alloc_new _ _,size_madeCells _ _,fun j hj=>?_⟩;simp[madeCells,hj,Nat.mod_one]
def lE (B ln:Nat→Nat) (k j:Nat):Value:=if j<k then .slice (some ⟨B j,0,none⟩) (ln j) (ln j)else .slice none 0 0
theorem DF {w:World} {g n k:Nat} {B ln:Nat→Nat} {v:Nat} (h:w.rowIs g 45 n (lE B ln k)):(w.setCell ⟨g,k,none⟩ (.slice (some ⟨v,0,none⟩) (ln k) (ln k))).rowIs g 45 n (lE (fun j=>if j=k then v else B j) ln (k+1)):=by
 refine(h.set _ _).congr fun j hj=>?_;by_cases e:j=k
 ·subst e;simp[lE]
 ·unfold lE;by_cases hl:j<k
  ·rw[if_pos (show j<k+1 by omega)];simp[e,hl]
  ·rw[if_neg (show ¬j<k+1 by omega)];simp[e,hl]
theorem mA (w:World) (a:Option Addr) (n cap:Nat) (ad:Nat→Option Addr) (ln cp:Nat→Nat) (f:Nat→Nat→T) (h:cZ w a n cap ad ln cp f):Calls Tryz.prog 11 #[.slice a n cap] w fun r w'=>∃B:Nat→Nat,r= .returned (.slice (some ⟨w.heap.size,0,none⟩) n n)∧Below w.heap.size w w'∧w'.rowIs w.heap.size 45 n (lE B ln n)∧∀i,i<n→w.heap.size<B i∧Own w' (B i) (ln i) (f i):=by
 have hn:(n:Int)≤140737488351232:=by have:=h.2.1;omega
 have h2:=h.2.1;have HH:=aA h
 clear h;go_enter Tryz.func11,Tryz.ntmps11;go_wp2_with (at_make;refine CT _ rfl _ _ rfl n rfl rfl (by omega) ?_;intro hrow);go_loopw [4] (fun i wr=>∃(k:Nat) (B:Nat→Nat),k≤n∧i= .int .i64 k∧Below w.heap.size w wr∧wr.rowIs w.heap.size 45 n (lE B ln k)∧∀i,i<k→w.heap.size<B i∧Own wr (B i) (ln i) (f i)) (fun i _=>n-(intOf i).toNat);case atStart=>exact⟨0,fun _=>0,Nat.zero_le _,rfl,(bL _ _).alloc (Nat.le_refl _) _,hrow.congr fun j _=>by simp[lE],fun i hi=>by omega⟩
 case round=>
  obtain⟨k,B,hk,rfl,hB,hR,hO⟩:=hrel;by_cases hlt:k<n
  ·rcases HH.out.2.2.1 with h0|⟨b,off,rfl,hblt,hcl⟩
   ·omega
   have hkn:(k:Int)<(n:Int):=by omega
   have g0:wr.cell? ⟨b,off+k,none⟩=some (.slice (ad k) (ln k) (cp k)):=(hB.cell (p:=⟨b,off+k,none⟩) hblt).trans (hcl k hlt);have HR:=aA hR
   have HO:=aA hO;have HB:=aA hB
   have HK:=aA ((HH.out.2.2.2 k hlt).below hB);clear hR hcl hO;go_wp2_with fail;refine(WB _ _ _ _ (f k) HK.out).mono ?_;rintro r w1 ⟨rfl,hb,ho⟩;have hR1:=HR.out.of_block (hb.block w.heap.size (HR.out.lt))
   have hB1:=HB.out.trans (hb.mono HB.out.size);have hsz:w.heap.size<wr.heap.size:=HR.out.lt
   have q0:=hR1.cell (i:=k) hlt;have fz:=fun i=>hR1.frozen i
   obtain⟨V,hV⟩:∃V,wr.heap.size=V:=⟨_,rfl⟩
   rw[hV]at ho⊢;have HN:=aA (DF (v:=V) hR1)
   have HO2:Hid (∀i,i<k+1→w.heap.size<(if i=k then V else B i)∧Own w1 (if i=k then V else B i) (ln i) (f i)):=fun i hi=>by
    by_cases e:i=k
    ·rw[if_pos e,e];exact⟨by omega,ho⟩
    ·rw[if_neg e];have:=HO.out i (by omega)
     exact⟨this.1,this.2.below hb this.2.lt⟩
   have HB1:=aA hB1;clear hR1 HR hb ho HO hB1 hB;go_wp2;go_roundw
   case rel=>
    refine⟨k+1,_,by omega,by go_num,HB1.out.setCell (Nat.le_refl _) _,HN.out,fun i hi=>?_⟩;have:=HO2.out i hi
    refine⟨this.1,this.2.of_block ?_⟩;exact Below.heap_setCell _ _ _ _ (Nat.ne_of_gt this.1)
   case measure=>simp[intOf];omega
  ·have hkn:k=n:=by omega
   subst hkn;have HR:=aA hR
   have HO:=aA hO;clear hR hO;go_wp2;go_ret;exact⟨B,rfl,hB,HR.out,HO.out⟩
theorem eE {w:World} {g n:Nat} {B ln:Nat→Nat} {f:Nat→Nat→T} (hR:w.rowIs g 45 n (lE B ln n)) (hO:∀i,i<n→Own w (B i) (ln i) (f i)) (hn:n*40≤140737488351232) (hl:∀i,i<n→ln i*40≤140737488351232):cZ w (some ⟨g,0,none⟩) n n (fun i=>some ⟨B i,0,none⟩) ln ln f:=
 ⟨Nat.le_refl _,hn,.inr ⟨g,0,rfl,hR.lt,fun i hi=>by
  have:=hR.cell (i:=i) hi;rw[Nat.zero_add,this];unfold lE
  rw[if_pos hi]⟩,fun i hi=>(hO i hi).rd (hl i hi)⟩
theorem lT (w:World) (a a':Option Addr) (n cap cap':Nat) (ad ad':Nat→Option Addr) (ln cp cp':Nat→Nat) (f:Nat→Nat→T) (h:cZ w a n cap ad ln cp f) (h':cZ w a' n cap' ad' ln cp' f):Calls Tryz.prog 13 #[.slice a n cap,.slice a' n cap'] w fun r w'=>r= .returned (.bool true)∧Below w.heap.size w w':=by
 have hn:(n:Int)≤140737488351232:=by have:=h.2.1;omega
 have HH:=aA h;have HH':=aA h'
 clear h h';go_enter Tryz.func13,Tryz.ntmps13;go_wp2;go_loopw [5] (fun v wr=>∃i:Nat,i≤n∧v= .int .i64 (i:Int)∧Below w.heap.size w wr) (fun v _=>n-(intOf v).toNat);case atStart=>exact⟨0,Nat.zero_le _,rfl,bL _ _⟩
 case round=>
  obtain⟨i,hi,rfl,hB⟩:=hrel;by_cases hlt:i<n
  ·rcases HH.out.2.2.1 with h0|⟨b,off,rfl,hblt,hcl⟩
   ·omega
   rcases HH'.out.2.2.1 with h0|⟨b',off',rfl,hblt',hcl'⟩
   ·omega
   have hil:(i:Int)<(n:Int):=by omega
   have hbr:b<wr.heap.size:=jY hblt hB.size;have hbr':b'<wr.heap.size:=jY hblt' hB.size
   have ne:=bJ.there wr;have g0:wr.cell? ⟨b,off+i,none⟩=some (.slice (ad i) (ln i) (cp i)):=(hB.cell (p:=⟨b,off+i,none⟩) hblt).trans (hcl i hlt)
   have g1:wr.cell? ⟨b',off'+i,none⟩=some (.slice (ad' i) (ln i) (cp' i)):=(hB.cell (p:=⟨b',off'+i,none⟩) hblt').trans (hcl' i hlt);have s0:∀u:bJ wr,u.1.cell? ⟨b,off+i,none⟩=some (.slice (ad i) (ln i) (cp i)):=fun u=>(u.cell hbr).trans g0
   have s1:∀u:bJ wr,u.1.cell? ⟨b',off'+i,none⟩=some (.slice (ad' i) (ln i) (cp' i)):=fun u=>(u.cell hbr').trans g1;have HK:=aA ((HH.out.2.2.2 i hlt).below hB)
   have HK':=aA ((HH'.out.2.2.2 i hlt).below hB);have HB:=aA hB
   have hcall:∀u:bJ wr,Calls Tryz.prog 51 #[.slice (ad i) (ln i) (cp i),.slice (ad' i) (ln i) (cp' i)] u.1 fun r w'=>r= .returned (.bool true)∧Below u.1.heap.size u.1 w':=fun u=>by have:=Hv u.1 (ad i) (ad' i) (ln i) (cp i) (ln i) (cp' i) (f i) (f i) (HK.out.below u.2) (HK'.out.below u.2);rw[show aO (ln i) (f i) (ln i) (f i)=true from decide_eq_true ⟨rfl,fun j _=>T.eqB_iff.2 rfl⟩]at this;exact this
   clear hcl hcl' hB g0 g1;go_wp2_with fail;refine aG (by kernel_rfl) (by kernel_rfl) ?_;repeat(go_big_quiet_step (first|(go_at_call 51;exact aJ (hcall _))|fail))
   refine wpQuiet_nil ?_;rintro _ ⟨v,rfl⟩;have HV:=aA v.2
   clear s0 s1 ne hcall;go_wp2;go_roundw;case rel=>exact⟨i+1,by omega,by go_num,aB HB.out HV.out⟩
   case measure=>simp[intOf];omega
  ·have hnl:¬(i:Int)<(n:Int):=by omega
   go_wp2;go_ret;exact⟨rfl,hB⟩
theorem xM (w:World) (a:Option Addr) (n cap:Nat) (ad:Nat→Option Addr) (ln cp:Nat→Nat) (f:Nat→Nat→T) (h:cZ w a n cap ad ln cp f):Calls Tryz.prog 11 #[.slice a n cap] w fun r w'=>∃B:Nat→Nat,r= .returned (.slice (some ⟨w.heap.size,0,none⟩) n n)∧Below w.heap.size w w'∧w'.rowIs w.heap.size 45 n (lE B ln n)∧(∀i,i<n→w.heap.size<B i∧Own w' (B i) (ln i) (f i))∧∀i j,i<j→j<n→B i<B j:=by
 have hn:(n:Int)≤140737488351232:=by have:=h.2.1;omega
 have h2:=h.2.1;have HH:=aA h
 clear h;go_enter Tryz.func11,Tryz.ntmps11;go_wp2_with (at_make;refine CT _ rfl _ _ rfl n rfl rfl (by omega) ?_;intro hrow);go_loopw [4] (fun i wr=>∃(k:Nat) (B:Nat→Nat),k≤n∧i= .int .i64 k∧Below w.heap.size w wr∧wr.rowIs w.heap.size 45 n (lE B ln k)∧(∀i,i<k→w.heap.size<B i∧Own wr (B i) (ln i) (f i))∧∀i j,i<j→j<k→B i<B j) (fun i _=>n-(intOf i).toNat);case atStart=>exact⟨0,fun _=>0,Nat.zero_le _,rfl,(bL _ _).alloc (Nat.le_refl _) _,hrow.congr fun j _=>by simp[lE],fun i hi=>by omega,fun i j _ hj=>by omega⟩
 case round=>
  obtain⟨k,B,hk,rfl,hB,hR,hO,hD⟩:=hrel;have HD:=aA hD
  clear hD;by_cases hlt:k<n
  ·rcases HH.out.2.2.1 with h0|⟨b,off,rfl,hblt,hcl⟩
   ·omega
   have hkn:(k:Int)<(n:Int):=by omega
   have g0:wr.cell? ⟨b,off+k,none⟩=some (.slice (ad k) (ln k) (cp k)):=(hB.cell (p:=⟨b,off+k,none⟩) hblt).trans (hcl k hlt);have HR:=aA hR
   have HO:=aA hO;have HB:=aA hB
   have HK:=aA ((HH.out.2.2.2 k hlt).below hB);clear hR hcl hO;go_wp2_with fail;refine(WB _ _ _ _ (f k) HK.out).mono ?_;rintro r w1 ⟨rfl,hb,ho⟩;have hR1:=HR.out.of_block (hb.block w.heap.size (HR.out.lt))
   have hB1:=HB.out.trans (hb.mono HB.out.size);have hsz:w.heap.size<wr.heap.size:=HR.out.lt
   have q0:=hR1.cell (i:=k) hlt;have fz:=fun i=>hR1.frozen i
   obtain⟨V,hV⟩:∃V,wr.heap.size=V:=⟨_,rfl⟩
   rw[hV]at ho⊢;have HN:=aA (DF (v:=V) hR1)
   have HO2:Hid (∀i,i<k+1→w.heap.size<(if i=k then V else B i)∧Own w1 (if i=k then V else B i) (ln i) (f i)):=fun i hi=>by
    by_cases e:i=k
    ·rw[if_pos e,e];exact⟨by omega,ho⟩
    ·rw[if_neg e];have:=HO.out i (by omega)
     exact⟨this.1,this.2.below hb this.2.lt⟩
   have HD2:Hid (∀i j,i<j→j<k+1→(if i=k then V else B i)<(if j=k then V else B j)):=fun i j hij hj=>by
    rw[if_neg (show ¬i=k by omega)];by_cases e:j=k
    ·rw[if_pos e,←hV];exact(HO.out i (by omega)).2.lt
    ·rw[if_neg e];exact HD.out i j hij (by omega)
   have HB1:=aA hB1;clear hR1 HR hb ho HO hB1 hB;go_wp2;go_roundw
   case rel=>
    refine⟨k+1,_,by omega,by go_num,HB1.out.setCell (Nat.le_refl _) _,HN.out,fun i hi=>?_,HD2.out⟩;have:=HO2.out i hi
    refine⟨this.1,this.2.of_block ?_⟩;exact Below.heap_setCell _ _ _ _ (Nat.ne_of_gt this.1)
   case measure=>simp[intOf];omega
  ·have hkn:k=n:=by omega
   subst hkn;have HR:=aA hR
   have HO:=aA hO;clear hR hO;go_wp2;go_ret;exact⟨B,rfl,hB,HR.out,HO.out,HD.out⟩
def kO (w:World) (a:Option Addr) (n cap:Nat) (ad:Nat→Option Addr) (ln cp:Nat→Nat) (f:Nat→Nat→T):Prop:=
 n≤cap∧cap≤maxLen∧(n=0∨∃b off,a=some ⟨b,off,none⟩∧b<w.heap.size∧∀i,i<n→w.cell? ⟨b,off+i,none⟩=some (.slice (ad i) (ln i) (cp i)))∧∀i,i<n→sS w (ad i) (ln i) (cp i) (f i)
theorem kO.rd {w:World} {a:Option Addr} {n cap:Nat} {ad:Nat→Option Addr} {ln cp:Nat→Nat} {f:Nat→Nat→T} (h:kO w a n cap ad ln cp f) (hn:n*40≤140737488351232) (hl:∀i,i<n→ln i*40≤140737488351232):cZ w a n cap ad ln cp f:=
 ⟨h.1,hn,h.2.2.1,fun i hi=>(h.2.2.2 i hi).rd (hl i hi)⟩
theorem Av:Tryz.prog.cellsOf 60=1:=by kernel_rfl
theorem FD {H:Type} {enc:TypeId×Value→H} {w:World} {base:Nat} {spare:Nat→Bool} {held:Bool} {fuel:Nat} {v:Value} {x:DataW H×List MemPlace} (h:DataW.trod enc Tryz.prog w base spare held fuel 60 [v]=some x):∃(t:Option Addr×Nat×Nat) (f:Nat→T),v= .slice t.1 t.2.1 t.2.2∧sS w t.1 t.2.1 t.2.2 f:=by
 have h':=h;rcases open_slice Tryz.underlying60 h with⟨hc,_⟩|⟨ad,len,cp,m,k,D,Pl,hc,_⟩
 ·simp at hc;subst hc;obtain⟨f,hf⟩:=EN h';exact⟨(none,0,0),f,rfl,hf⟩
 ·simp at hc;subst hc;obtain⟨f,hf⟩:=EN h';exact⟨(some ad,len,cp),f,rfl,hf⟩
theorem qY {H:Type} {enc:TypeId×Value→H} {w:World} {base:Nat} {spare:Nat→Bool} {held:Bool} {fuel:Nat} {a:Option Addr} {n cap:Nat} {x:DataW H×List MemPlace} (h:DataW.trod enc Tryz.prog w base spare held fuel 22 [.slice a n cap]=some x):∃ad ln cp f,kO w a n cap ad ln cp f:=by
 rcases open_slice Tryz.underlying22 h with⟨hc,_⟩|⟨ad,len,cp,m,k,D,Pl,hc,_,hl,hm,hmm,_,hx⟩
 ·simp at hc;obtain⟨rfl,rfl,rfl⟩:=hc;exact⟨fun _=>none,fun _=>0,fun _=>0,fun _ _=>⟨0,⟨0,0,0,0⟩⟩,Nat.le_refl _,Nat.zero_le _,.inl rfl,fun i hi=>absurd hi (rT _)⟩
 ·simp at hc;obtain⟨rfl,rfl,rfl⟩:=hc;by_cases h0:n=0
  ·exact⟨fun _=>none,fun _=>0,fun _=>0,fun _ _=>⟨0,⟨0,0,0,0⟩⟩,hl,hm,.inl h0,fun i hi=>by omega⟩
  have hnm:n≤m:=by rw[hmm];split<;>omega
  have each:∀i,i<n→∃t:(Option Addr×Nat×Nat)×(Nat→T),w.cell? (ad.add i)=some (.slice t.1.1 t.1.2.1 t.1.2.2)∧sS w t.1.1 t.1.2.1 t.1.2.2 t.2:=by
   intro i hi;obtain⟨cs',h1,h2⟩:=hx i (by omega);rw[Av]at h1;obtain⟨_,hlen,hcell⟩:=World.cells?_some h1;match cs',hlen with
   |[v0],_=>
    obtain⟨t,f,rfl,ht⟩:=FD h2;have c0:=hcell 0 (by omega)
    rw[add_add]at c0;exact⟨(t,f),by simpa using c0,ht⟩
  haveI:Inhabited ((Option Addr×Nat×Nat)×(Nat→T)):=⟨((none,0,0),fun _=>⟨0,⟨0,0,0,0⟩⟩)⟩
  obtain⟨q,hq⟩:=choose_lt each;obtain⟨b,off,spot⟩:=ad;have hs:spot=none:=by have:=World.cell?_spot (hq 0 (by omega)).1;simpa[Addr.add]using this
  subst hs;have hadd:∀j,(⟨b,off,none⟩:Addr).add j=⟨b,off+j,none⟩:=fun j=>by unfold Addr.add;split<;>simp_all
  refine⟨fun i=>(q i).1.1,fun i=>(q i).1.2.1,fun i=>(q i).1.2.2,fun i=>(q i).2,hl,hm,.inr ⟨b,off,rfl,?_,fun i hi=>?_⟩,fun i hi=>(hq i hi).2⟩
  ·have:=cX w _ (hq 0 (by omega)).1;rw[hadd]at this;exact this
  ·have:=(hq i hi).1;rw[hadd]at this;exact this
end Go.Proofs.YtdidlcjhodejjaaGreat
