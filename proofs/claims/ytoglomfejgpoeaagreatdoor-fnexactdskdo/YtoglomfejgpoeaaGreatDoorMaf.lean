/-
  How the rows' readings of terms are opened: a slice of terms that came in is a row of numbers, five a term.
-/
import Derived.Deep.Slices
import Derived.Test.YtoglomfejgpoeaaGreatDoorMae
import Derived.RangeFuncNested
import Derived.RangeFuncLeaves
import Derived.Shelf.Strings.Search3
import Derived.OwnWalkIn
import Derived.TacticsInMore
import Derived.LoopNIn
import Derived.LoopIn
set_option maxHeartbeats 4000000
set_option maxRecDepth 100000
namespace Go.Proofs.YtoglomfejgpoeaaGreatDoor
open Go.RowKit Go.Deep Go.Joins
set_option linter.unusedVariables false
end Go.Proofs.YtoglomfejgpoeaaGreatDoor
namespace Go.Proofs.YtoglomfejgpoeaaGreatDoor
open Go.RowKit
set_option linter.unusedVariables false
theorem fH (n:Nat) (f:Nat→T):bL n f n f=true:=by simp only[bL,decide_eq_true_eq];exact⟨trivial,fun i _=>T.eqB_iff.2 rfl⟩
theorem Wr.grown {w w':World} {a:Option Addr} {n:Nat} {f:Nat→T} {row:Option Nat} (h:Wr w a n f) (hg:w.grownBy w' row) (hne:n=0∨∀b off,a=some ⟨b,off,none⟩→some b≠row):Wr w' a n f:=by
 rcases h with h0|⟨g,off,N,F,rfl,hR,hN,hF⟩
 ·exact .inl h0
 ·rcases hne with h0|hne
  ·exact .inl h0
  ·exact .inr ⟨g,off,N,F,rfl,hR.of_block (hg.block g hR.lt (hne g off rfl)),hN,hF⟩
theorem Own.wr {w:World} {g n:Nat} {f:Nat→T} (h:Own w g n f):Wr w (some ⟨g,0,none⟩) n f:=
 .inr ⟨g,0,n*5,cf f,rfl,h,by omega,fun j hj=>by rw[Nat.zero_add]⟩
theorem Wr.rd {w:World} {a:Option Addr} {n cap:Nat} {f:Nat→T} (h:Wr w a n f) (hc:n≤cap) (hn:n*40≤140737488351232):Rd w a n cap f:=by
 refine⟨hc,hn,?_⟩;rcases h with h0|⟨g,off,N,F,rfl,hR,hN,hF⟩
 ·exact .inl h0
 ·have hcell:∀j,j<n*5→w.cell? ⟨g,off+j,none⟩=some (cf f j):=fun j hj=>by rw[hR.cell (by omega),hF j hj]
  refine .inr ⟨g,off,rfl,hR.lt,fun i hi=>?_⟩;have e1:off+i*5+1=off+(i*5+1):=by omega
  have e2:off+i*5+2=off+(i*5+2):=by omega
  have e3:off+i*5+3=off+(i*5+3):=by omega
  have e4:off+i*5+4=off+(i*5+4):=by omega
  exact⟨by rw[hcell _ (by omega),EU],by rw[e1,hcell _ (by omega),CK],by rw[e2,hcell _ (by omega),CL],by rw[e3,hcell _ (by omega),FQ],by rw[e4,hcell _ (by omega),FR]⟩
def nS (a:Option Addr) (n B:Nat):Prop:=n=0∨∀b off,a=some ⟨b,off,none⟩→b<B
def CO (a:Option Addr) (n B:Nat):Prop:=n=0∨∀b off,a=some ⟨b,off,none⟩→B≤b
theorem mB.from {lo:Nat} {w:World} {a:Option Addr} {cap:Nat} {L:List T} (h:mB lo w a cap L):CO a L.length lo:=by
 rcases h.2.2 with h0|⟨g,off,rfl,hlo⟩
 ·exact .inl h0
 ·exact .inr fun b' off' e=>by cases e;exact hlo
theorem nS.off {a:Option Addr} {n B X:Nat} (h:nS a n B) (hX:B≤X):n=0∨∀b off,a=some ⟨b,off,none⟩→some b≠some X:=by
 rcases h with h0|h
 ·exact .inl h0
 ·exact .inr fun b off e=>by have:=h b off e;simp;omega
theorem CO.off {a:Option Addr} {n B X:Nat} (h:CO a n B) (hX:X<B):n=0∨∀b off,a=some ⟨b,off,none⟩→some b≠some X:=by
 rcases h with h0|h
 ·exact .inl h0
 ·exact .inr fun b off e=>by have:=h b off e;simp;omega
theorem nS.mono {a:Option Addr} {n B B':Nat} (h:nS a n B) (hB:B≤B'):nS a n B':=by
 rcases h with h0|h
 ·exact .inl h0
 ·exact .inr fun b off e=>dR (h b off e) hB
theorem apart {a c:Option Addr} {n m B:Nat} (h:nS a n B) (k:CO c m B) (hm:m≠0) {w:World} {f:Nat→T} (hw:Wr w c m f):n=0∨∀b off,a=some ⟨b,off,none⟩→some b≠c.map (·.block):=by
 rcases h with h0|h
 ·exact .inl h0
 ·rcases k with k0|k
  ·exact absurd k0 hm
  ·rcases hw with w0|⟨g,off,N,F,rfl,_⟩
   ·exact absurd w0 hm
   ·exact .inr fun b off' e=>by
     have h1:=h b off' e;have h2:=k g off rfl
     simp;omega
theorem iV (f:Nat→T) (la:Nat) (g:Nat→T) (lb:Nat):(bF f la g lb).1.length≤400:=by
 unfold bF;split
 ·rename_i h;exact h.2.2
 ·simp
def wS (c:Int) (f:Nat→T) (k:Nat):List T:=(List.range k).map fun i=>⟨c*(f i).c%101,(f i).m⟩
theorem EG (c:Int) (f:Nat→T) (k:Nat):(wS c f k).length=k:=by simp[wS]
theorem BQ (c:Int) (f:Nat→T) (k:Nat):wS c f (k+1)=wS c f k++[⟨c*(f k).c%101,(f k).m⟩]:=by simp[wS,List.range_succ]
theorem AF (w:World) (c:Int) (a:Option Addr) (n cap:Nat) (f:Nat→T) (h:Rd w a n cap f) (hc0:0≤c) (hc1:c≤100) (hl:n≤1000000) (hcf:∀i,i<n→0≤(f i).c∧(f i).c≤100):Calls Tryz.prog 99 #[.int .i64 c,.slice a n cap] w fun r w'=>∃v,r= .returned v∧Below w.heap.size w w'∧w'.ownsRow w.heap.size 80 5 v (if c=0 then 0 else n) (aF (wS c f (if c=0 then 0 else n))):=by
 obtain⟨i0,hi0,hz0,hz1,hz2⟩:=info_parts tH;obtain⟨h1,h2,h3⟩:=h;have hn:(n:Int)≤1000000:=by omega
 by_cases hz:c=0
 ·rw[if_pos hz];subst hz;go_enter Tryz.func99,Tryz.ntmps99;go_wp2;go_loopw [5,6] (fun v i wr=>v= .slice (some ⟨w.heap.size,0,none⟩) 0 0∧i= .int .i64 0∧wr=w.alloc (.cells #[] 80)) (fun _ _ _=>0);case atStart=>exact⟨rfl,rfl,rfl⟩
  case round=>
   obtain⟨rfl,rfl,rfl⟩:=hrel;by_cases hn0:n=0
   ·subst hn0;go_wp2;go_ret;exact⟨_,rfl,(aD _ _).alloc (Nat.le_refl _) _,aQ w _ (Nat.le_refl _)⟩
   ·have hnp:(0:Int)<(n:Int):=by omega
    have dn:decide ((0:Int)<(n:Int))=true:=decide_eq_true hnp;go_wp2;go_ret;exact⟨_,rfl,(aD _ _).alloc (Nat.le_refl _) _,aQ w _ (Nat.le_refl _)⟩
 ·rw[if_neg hz];have hcb:(c !=0)=true:=by simp[hz]
  clear hz;go_enter Tryz.func99,Tryz.ntmps99;go_wp2;go_loopw [5,6] (fun v i wr=>∃k:Nat,k≤n∧i= .int .i64 k∧Below w.heap.size w wr∧wr.ownsRow w.heap.size 80 5 v k (aF (wS c f k))) (fun _ i _=>n-(intOf i).toNat);case atStart=>exact⟨0,gC _,rfl,(aD _ _).alloc (Nat.le_refl _) _,aQ w _ (Nat.le_refl _)⟩
  case round=>
   obtain⟨k,hk,rfl,hB,hown⟩:=hrel;by_cases hlt:k<n
   ·rcases h3 with h0|⟨b,off,rfl,hblt,hcl⟩
    ·omega
    have hkn:(k:Int)<(n:Int):=by omega
    have hbr:b<wr.heap.size:=dR hblt hB.size;obtain⟨g0,g1,g2,g3,g4⟩:=(hcl k hlt).below hB hblt;obtain⟨CK,CL⟩:=hcf k hlt;obtain⟨mb1,mb2⟩:=fF hc0 hc1 CK CL;have HV:Hid ((IntKind.i64.wrap (c*(f k).c)).tmod 101=c*(f k).c%101):=by show _=_;rw[show IntKind.i64.wrap (c*(f k).c)=c*(f k).c by rw[IntKind.wrap_i64];omega,Int.tmod_eq_emod_of_nonneg mb1]
    have HO:=aA hown;clear hcl hcf hown;go_wp2_with fail
    go_region_held3 (fun u=>u.cell? ⟨b,off+k*5,none⟩=some (.int .i64 (f k).c)∧u.cell? ⟨b,off+k*5+1,none⟩=some (.int .i64 (f k).m.x)∧u.cell? ⟨b,off+k*5+2,none⟩=some (.int .i64 (f k).m.y)∧u.cell? ⟨b,off+k*5+3,none⟩=some (.int .i64 (f k).m.d)∧u.cell? ⟨b,off+k*5+4,none⟩=some (.int .i64 (f k).m.e)) (first|go_keep|(refine⟨?_,?_,?_,?_,?_⟩<;>(rw[hgrow.cell_far _ (by simp;omega) (by intro hh;exact absurd (HO.out.lt b hh.symm).1 (by omega))];go_simp))) ((refine step_append_lies _ (by rfl) (.tmp 18) (.tmp 33) 22 (by rfl) w.heap.size 80 i0 _ 5 40 Tryz.underlying22 hi0 hz0 hz1 hz2 rfl (by omega) _ k (aF (wS c f k)) (by rfl) (by first|exact HO.out.alloc _|exact(aT HO.out (aD _ _).drew).alloc _) ⟨wr.heap.size,0,none⟩ 1 1 (aF [⟨c*(f k).c%101,(f k).m⟩]) (by rfl) (by rw[aZ];rfl) (by rw[cU];simp only;rw[←HV.out];exact World.news_of_block (heap_alloc_new wr _)) (dF _) (by omega) (by unfold maxLen;omega) (by omega) (by have:=hB.size;simp;omega) _ (by rfl) ?_;intro g0 cap0 w1 hown1 hgrow hat hlt1))
    have HB:=aA (((hB.alloc hB.size _).drew).grown hgrow (gU hB.size (by simp)) (fun j hj=>(HO.out.lt j hj).1));have HP:=aA hown1
    clear hown1 hgrow hat hlt1 HO;go_wp2;go_roundw;case rel=>exact⟨k+1,by omega,by go_num,HB.out,by rw[BQ,bV];exact HP.out⟩
    case measure=>simp[intOf];omega
   ·have hkn:k=n:=by omega
    subst hkn;have HO:=aA hown
    clear hown hcf;go_wp2;go_ret;exact⟨_,rfl,hB,HO.out⟩
theorem rH (c:Int) (f:Nat→T) (n i:Nat) (h:i<n):lf (wS c f n) i=⟨c*(f i).c%101,(f i).m⟩:=by simp[lf,wS,List.getD,List.getElem?_map,List.getElem?_range h]
def jS (g:Nat→T) (lb:Nat):Nat→T:=lf (wS 100 g lb)
def eC (f:Nat→T) (la:Nat) (g:Nat→T) (lb:Nat):List T×Bool:=
 if aN la f=true∧aN lb g=true∧(cT f la (jS g lb) lb 0 0).length≤400 then(cT f la (jS g lb) lb 0 0,true)else([],false)
theorem kR (f:Nat→T) (la:Nat) (g:Nat→T) (lb:Nat):(eC f la g lb).1.length≤400:=by
 unfold eC;split
 ·rename_i h;exact h.2.2
 ·simp
theorem rN {n:Nat} {f:Nat→T} (h:aN n f=true):∀i,i<n→(f i).m.ok=true:=by
 intro i hi;simp only[aN,decide_eq_true_eq]at h;have:=h.2 i hi
 simp only[eW,Bool.and_eq_true,decide_eq_true_eq]at this;exact this.1.2
def cA (n:Nat) (f:Nat→T):Bool:=aN n f&&decide (∀i,i<n→(f i).m.d+(f i).m.e≤0)
theorem tX (w:World) (a:Option Addr) (n cap:Nat) (f:Nat→T) (h:Rd w a n cap f):Calls Tryz.prog 100 #[.slice a n cap] w fun r w'=>r= .returned (.bool (cA n f))∧Below w.heap.size w w':=by
 have HR:=aA h;obtain⟨h1,h2,h3⟩:=h;have hn:(n:Int)≤140737488351232:=by omega
 cases hp:aN n f
 ·have e1:cA n f=false:=by simp[cA,hp]
  rw[e1];clear e1 h3;go_enter Tryz.func100,Tryz.ntmps100;go_wp2_with fail;refine(bD _ _ _ _ f HR.out).mono ?_;rw[hp];rintro r w1 ⟨rfl,hb⟩;go_wp2;go_ret;exact⟨rfl,hb⟩
 ·have HM:=aA (rN hp);go_enter Tryz.func100,Tryz.ntmps100;go_wp2_with fail;refine(bD _ _ _ _ f HR.out).mono ?_;rw[hp];rintro r w1 ⟨rfl,hb⟩;have HB1:=aA hb
  clear hb;go_wp2;go_loopw [3] (fun i wr=>∃k:Nat,k≤n∧i= .int .i64 k∧Below w.heap.size w wr∧Hid (∀j,j<k→(f j).m.d+(f j).m.e≤0)) (fun i _=>n-(intOf i).toNat);case atStart=>exact⟨0,gC _,rfl,HB1.out,fun j hj=>absurd hj (FE _)⟩
  case round=>
   obtain⟨k,hk,rfl,hB,hok⟩:=hrel;by_cases hlt:k<n
   ·rcases h3 with h0|⟨b,off,rfl,hblt,hcl⟩
    ·omega
    have hkn:(k:Int)<(n:Int):=by omega
    have hbr:b<wr.heap.size:=dR hblt hB.size;have ne:=cO.there wr
    have hck:=(hcl k hlt).below hB hblt;have s3:∀u:cO wr,u.1.cell? ⟨b,off+k*5+3,none⟩=some (.int .i64 (f k).m.d):=fun u=>(u.cell hbr).trans hck.2.2.2.1
    have s4:∀u:cO wr,u.1.cell? ⟨b,off+k*5+4,none⟩=some (.int .i64 (f k).m.e):=fun u=>(u.cell hbr).trans hck.2.2.2.2;obtain⟨_,_,_,_,d1,d2,e1,e2⟩:=M.ok_iff.1 (HM.out k hlt);clear hck hcl;by_cases hq:0<(f k).m.d+(f k).m.e
    ·have HF:Hid (cA n f=false):=by
      show _=_;simp only[cA,hp,Bool.true_and,decide_eq_false_iff_not];intro hh;have:=hh k hlt
      omega
     have dq:decide (0<(f k).m.d+(f k).m.e)=true:=decide_eq_true hq;go_wp2_with fail;refine aS (by kernel_rfl) (by kernel_rfl) ?_;repeat(go_big_quiet_step (fail))
     refine wpQuiet_nil ?_;rintro _ ⟨u,rfl⟩;go_wp2;go_ret;exact⟨by rw[HF.out];rfl,hB.trans (u.2.mono hB.size)⟩
    ·have hok':Hid (∀j,j<k+1→(f j).m.d+(f j).m.e≤0):=fun j hj=>by
      by_cases hjk:j=k
      ·rw[hjk];omega
      ·exact hok.out j (by omega)
     have dq:decide (0<(f k).m.d+(f k).m.e)=false:=decide_eq_false hq;clear hok;go_wp2_with fail;refine aS (by kernel_rfl) (by kernel_rfl) ?_;repeat(go_big_quiet_step (fail))
     refine wpQuiet_nil ?_;rintro _ ⟨u,rfl⟩;go_wp2;go_roundw;case rel=>exact⟨k+1,by omega,by go_num,hB.trans (u.2.mono hB.size),hok'⟩
     case measure=>simp[intOf];omega
   ·have HF:Hid (cA n f=true):=by show _=_;simp only[cA,hp,Bool.true_and,decide_eq_true_eq];exact fun i hi=>hok.out i (by omega)
    go_wp2;go_ret;exact⟨by rw[HF.out];rfl,hB⟩
open Go.Shelf Go.RowKit
set_option linter.unusedSimpArgs false
shelf_lay Lays.n143 Nm 143 at Tryz as lay143
end Go.Proofs.YtoglomfejgpoeaaGreatDoor
namespace Go.Proofs.YtoglomfejgpoeaaGreatDoor
open Go.RowKit
set_option linter.unusedVariables false
theorem pS {a b a' b':Int} (h1:a<b↔a'<b') (h2:b<a↔b'<a'):c3 a b=c3 a' b':=by unfold c3;simp only[h1,h2]
theorem GV {a b:M} (ha:a.ok=true) (hb:b.ok=true):c3 (jE a) (jE b)=M.lex a b:=by
 obtain⟨x1,x2,y1,y2,d1,d2,e1,e2⟩:=M.ok_iff.1 ha;obtain⟨x3,x4,y3,y4,d3,d4,e3,e4⟩:=M.ok_iff.1 hb;by_cases hd:a.d=b.d
 ·by_cases he:a.e=b.e
  ·by_cases hx:a.x=b.x
   ·have h:M.lex a b=c3 a.y b.y:=by simp[M.lex,hd,he,hx]
    rw[h];exact pS (by unfold jE;omega) (by unfold jE;omega)
   ·have h:M.lex a b=c3 a.x b.x:=by simp[M.lex,hd,he,hx]
    rw[h];exact pS (by unfold jE;omega) (by unfold jE;omega)
  ·have h:M.lex a b=c3 a.e b.e:=by simp[M.lex,hd,he]
   rw[h];exact pS (by unfold jE;omega) (by unfold jE;omega)
 ·have h:M.lex a b=c3 a.d b.d:=by simp[M.lex,hd]
  rw[h];exact pS (by unfold jE;omega) (by unfold jE;omega)
theorem BL {a b:M} (ha:a.ok=true) (hb:b.ok=true):c3 (dV a) (dV b)=M.ord 1 a b:=by
 obtain⟨x1,x2,y1,y2,d1,d2,e1,e2⟩:=M.ok_iff.1 ha;obtain⟨x3,x4,y3,y4,d3,d4,e3,e4⟩:=M.ok_iff.1 hb;have da:a.deg=a.x+a.y+a.d+a.e:=by simp[M.deg,ha]
 have db:b.deg=b.x+b.y+b.d+b.e:=by simp[M.deg,hb]
 have la:0≤jE a∧jE a≤65535:=by simp only[jE];omega
 have lb:0≤jE b∧jE b≤65535:=by simp only[jE];omega
 by_cases h:a.deg=b.deg
 ·have e1:M.ord 1 a b=M.lex a b:=by simp[M.ord,h]
  rw[e1,←GV ha hb];rw[da,db]at h;exact pS (by unfold dV;omega) (by unfold dV;omega)
 ·have e1:M.ord 1 a b=c3 a.deg b.deg:=by simp[M.ord,h]
  rw[e1,da,db];rw[da,db]at h;exact pS (by unfold dV;omega) (by unfold dV;omega)
theorem GP (a:Int) (w:World):Calls Tryz.prog 179 #[.int .i64 a] w fun r w'=>r= .returned (.bool false)∧w'=w:=by go_enter Tryz.func179,Tryz.ntmps179;go_wp2;go_ret;exact⟨by simp,rfl⟩
theorem zK (a b:Int) (w:World):Calls Tryz.prog 154 #[.int .i64 a,.int .i64 b] w fun r w'=>r= .returned (.int .i64 (c3 a b))∧w'=w:=by
 by_cases h1:a<b
 ·have e1:c3 a b= -1:=by simp[c3,h1]
  rw[e1];go_enter Tryz.func154,Tryz.ntmps154;go_wp2_with (first|(go_at_call 179;refine(GP _ _).mono ?_;rintro r w' ⟨rfl,rfl⟩));go_ret;exact⟨rfl,rfl⟩
 ·by_cases h2:b<a
  ·have e1:c3 a b=1:=by simp[c3,h1,h2]
   rw[e1];go_enter Tryz.func154,Tryz.ntmps154;go_wp2_with (first|(go_at_call 179;refine(GP _ _).mono ?_;rintro r w' ⟨rfl,rfl⟩));go_ret;exact⟨rfl,rfl⟩
  ·have e1:c3 a b=0:=by simp[c3,h1,h2]
   rw[e1];go_enter Tryz.func154,Tryz.ntmps154;go_wp2_with (first|(go_at_call 179;refine(GP _ _).mono ?_;rintro r w' ⟨rfl,rfl⟩));go_ret;exact⟨rfl,rfl⟩
theorem wE (x y d e x' y' d' e':Int) (w:World):Calls Tryz.prog 119 #[.agg #[.int .i64 x,.int .i64 y,.int .i64 d,.int .i64 e],.agg #[.int .i64 x',.int .i64 y',.int .i64 d',.int .i64 e']] w fun r w'=>r= .returned (.tuple #[.agg #[.int .i64 (M.mul ⟨x,y,d,e⟩ ⟨x',y',d',e'⟩).1.x,.int .i64 (M.mul ⟨x,y,d,e⟩ ⟨x',y',d',e'⟩).1.y,.int .i64 (M.mul ⟨x,y,d,e⟩ ⟨x',y',d',e'⟩).1.d,.int .i64 (M.mul ⟨x,y,d,e⟩ ⟨x',y',d',e'⟩).1.e],.bool (M.mul ⟨x,y,d,e⟩ ⟨x',y',d',e'⟩).2])∧Below w.heap.size w w':=by
 cases ha:M.ok ⟨x,y,d,e⟩
 ·have r1:M.mul ⟨x,y,d,e⟩ ⟨x',y',d',e'⟩=(M.zero,false):=by simp[M.mul,ha]
  rw[r1];simp only[M.zero];go_enter Tryz.func119,Tryz.ntmps119;go_wp2_with fail;refine(fZ _ _ _ _ _).mono ?_;rw[ha];rintro r w1 ⟨rfl,hb1⟩;obtain⟨hc1,hf1⟩:=bU hb1;have hz1:w.heap.size+1+1<w1.heap.size:=by have:=hb1.size;simp at this;omega
  go_wp2;refine bT (v:=.tuple #[.agg #[.int .i64 0,.int .i64 0,.int .i64 0,.int .i64 0],.bool false]) (by simp[results,Tryz.results119,go_sem, *]) rfl ⟨rfl,?_⟩;exact fQ (aC (bZ w _ _ _) hb1) (by omega) _ _ _ _
 ·cases hb:M.ok ⟨x',y',d',e'⟩
  ·have r1:M.mul ⟨x,y,d,e⟩ ⟨x',y',d',e'⟩=(M.zero,false):=by simp[M.mul,hb]
   rw[r1];simp only[M.zero];clear r1;go_enter Tryz.func119,Tryz.ntmps119;go_wp2_with fail;refine(fZ _ _ _ _ _).mono ?_;rw[ha];rintro r w1 ⟨rfl,hb1⟩;obtain⟨hc1,hf1⟩:=bU hb1;have hz1:w.heap.size+1+1<w1.heap.size:=by have:=hb1.size;simp at this;omega
   go_wp2_with fail;refine(fZ _ _ _ _ _).mono ?_;rw[hb];rintro r w2 ⟨rfl,hb2⟩;obtain⟨hc2,hf2⟩:=bU hb2;have hz2:w.heap.size+1+1<w2.heap.size:=by have:=hb2.size;omega
   go_wp2;refine bT (v:=.tuple #[.agg #[.int .i64 0,.int .i64 0,.int .i64 0,.int .i64 0],.bool false]) (by simp[results,Tryz.results119,go_sem, *]) rfl ⟨rfl,?_⟩;exact fQ (aC (aC (bZ w _ _ _) hb1) hb2) (by omega) _ _ _ _
  ·obtain⟨x1,x2,y1,y2,d1,d2,e1,e2⟩:=M.ok_iff.1 ha;obtain⟨x3,x4,y3,y4,d3,d4,e3,e4⟩:=M.ok_iff.1 hb;simp only at x1 x2 y1 y2 d1 d2 e1 e2 x3 x4 y3 y4 d3 d4 e3 e4;cases hs:M.ok ⟨x+x',y+y',d+d',e+e'⟩
   ·have r1:M.mul ⟨x,y,d,e⟩ ⟨x',y',d',e'⟩=(M.zero,false):=by simp[M.mul,M.sum,hs]
    rw[r1];simp only[M.zero];clear r1;go_enter Tryz.func119,Tryz.ntmps119;go_wp2_with fail;refine(fZ _ _ _ _ _).mono ?_;rw[ha];rintro r w1 ⟨rfl,hb1⟩;obtain⟨hc1,hf1⟩:=bU hb1;have hz1:w.heap.size+1+1<w1.heap.size:=by have:=hb1.size;simp at this;omega
    have hz0:w.heap.size+1<w1.heap.size:=by omega
    have hzz:w.heap.size<w1.heap.size:=by omega
    go_wp2_with fail;refine(fZ _ _ _ _ _).mono ?_;rw[hb];rintro r w2 ⟨rfl,hb2⟩;obtain⟨hc2,hf2⟩:=bU hb2;have hz2:w.heap.size+1+1<w2.heap.size:=by have:=hb2.size;omega
    go_wp2_with fail;refine(fZ _ _ _ _ _).mono ?_;rw[hs];rintro r w3 ⟨rfl,hb3⟩;obtain⟨hc3,hf3⟩:=bU (aC ((aD w2.heap.size w2).alloc (Nat.le_refl _) _) hb3);have ht:∀i,w3.cell? ⟨w2.heap.size,i,none⟩=#[Value.int .i64 (x+x'),.int .i64 (y+y'),.int .i64 (d+d'),.int .i64 (e+e')][i]? :=fun i=>by rw[hb3.cell (p:=⟨w2.heap.size,i,none⟩) (by simp),World.cell?_alloc_at _ _ _ _ rfl]
    have hB:=aC ((aC (aC (bZ w _ _ _) hb1) hb2).alloc (aC (aC (bZ w _ _ _) hb1) hb2).size _) hb3;go_wp2;refine bT (v:=.tuple #[.agg #[.int .i64 0,.int .i64 0,.int .i64 0,.int .i64 0],.bool false]) (by simp[results,Tryz.results119,go_sem, *]) rfl ⟨rfl,?_⟩;exact fQ hB (by omega) _ _ _ _
   ·have r1:M.mul ⟨x,y,d,e⟩ ⟨x',y',d',e'⟩=(⟨x+x',y+y',d+d',e+e'⟩,true):=by simp[M.mul,M.sum,hs,ha,hb]
    rw[r1];clear r1;go_enter Tryz.func119,Tryz.ntmps119;go_wp2_with fail;refine(fZ _ _ _ _ _).mono ?_;rw[ha];rintro r w1 ⟨rfl,hb1⟩;obtain⟨hc1,hf1⟩:=bU hb1;have hz1:w.heap.size+1+1<w1.heap.size:=by have:=hb1.size;simp at this;omega
    have hz0:w.heap.size+1<w1.heap.size:=by omega
    have hzz:w.heap.size<w1.heap.size:=by omega
    go_wp2_with fail;refine(fZ _ _ _ _ _).mono ?_;rw[hb];rintro r w2 ⟨rfl,hb2⟩;obtain⟨hc2,hf2⟩:=bU hb2;have hz2:w.heap.size+1+1<w2.heap.size:=by have:=hb2.size;omega
    go_wp2_with fail;refine(fZ _ _ _ _ _).mono ?_;rw[hs];rintro r w3 ⟨rfl,hb3⟩;obtain⟨hc3,hf3⟩:=bU (aC ((aD w2.heap.size w2).alloc (Nat.le_refl _) _) hb3);have ht:∀i,w3.cell? ⟨w2.heap.size,i,none⟩=#[Value.int .i64 (x+x'),.int .i64 (y+y'),.int .i64 (d+d'),.int .i64 (e+e')][i]? :=fun i=>by rw[hb3.cell (p:=⟨w2.heap.size,i,none⟩) (by simp),World.cell?_alloc_at _ _ _ _ rfl]
    have hB:=aC ((aC (aC (bZ w _ _ _) hb1) hb2).alloc (aC (aC (bZ w _ _ _) hb1) hb2).size _) hb3;go_wp2;refine bT (v:=.tuple #[.agg #[.int .i64 (x+x'),.int .i64 (y+y'),.int .i64 (d+d'),.int .i64 (e+e')],.bool true]) (by simp[results,Tryz.results119,go_sem, *]) rfl ⟨rfl,?_⟩;exact fQ hB (by omega) _ _ _ _
theorem kC {a b:M} (ha:a.ok=true) (hb:b.ok=true):0<M.ord 1 a b↔dV b<dV a:=by
 rw[←BL ha hb];unfold c3;constructor
 ·intro h;split at h
  ·omega
  ·split at h<;>omega
 ·intro h;rw[if_neg (by omega),if_pos h];decide
def eQ (c:Int) (m:M):Bool:=decide (1≤c∧c≤100)&&m.ok
theorem vE (c x y d e:Int) (w:World):Calls Tryz.prog 90 #[.int .i64 c,.agg #[.int .i64 x,.int .i64 y,.int .i64 d,.int .i64 e]] w fun r w'=>r= .returned (.bool (eQ c ⟨x,y,d,e⟩))∧Below w.heap.size w w':=by
 by_cases h0:c=0
 ·subst h0;have e1:eQ 0 ⟨x,y,d,e⟩=false:=by simp[eQ]
  rw[e1];go_enter Tryz.func90,Tryz.ntmps90;go_wp2;go_ret;exact⟨rfl,aG w _⟩
 ·have hz:(c !=0)=true:=by simp[h0]
  by_cases hc:0≤c∧c≤100
  ·obtain⟨c1,c2⟩:=hc;have e1:eQ c ⟨x,y,d,e⟩=M.ok ⟨x,y,d,e⟩:=by
    have:1≤c∧c≤100:=by omega
    simp[eQ,this]
   rw[e1];clear h0 e1;go_enter Tryz.func90,Tryz.ntmps90;go_wp2_with (go_at_call 130;refine(vB _ _ c1 c2).mono ?_;rintro r w' ⟨rfl,rfl⟩);refine(fZ _ _ _ _ _).mono ?_;rintro r w1 ⟨rfl,hb⟩;go_wp2;go_ret;exact⟨rfl,aC (aG w _) hb⟩
  ·have hc':c<0∨100<c:=by omega
   have e1:eQ c ⟨x,y,d,e⟩=false:=by
    have:¬(1≤c∧c≤100):=by omega
    simp[eQ,this]
   rw[e1];clear hc e1 h0;go_enter Tryz.func90,Tryz.ntmps90;go_wp2_with (go_at_call 130;refine(rK _ _ hc').mono ?_;rintro r w' ⟨rfl,rfl⟩);go_ret;exact⟨rfl,aG w _⟩
theorem kJ {c x y d e:Int} {b:Bool} (h:eQ c ⟨x,y,d,e⟩=b) (w:World):Calls Tryz.prog 90 #[.int .i64 c,.agg #[.int .i64 x,.int .i64 y,.int .i64 d,.int .i64 e]] w fun r w'=>r= .returned (.bool b)∧Below w.heap.size w w':=by rw[←h];exact vE c x y d e w
theorem qJ {f:Nat→T} {k:Nat} (h:eW f k=true):eQ (f k).c (f k).m=true:=by simp only[eW,Bool.and_eq_true]at h;simp only[eQ,Bool.and_eq_true];exact h.1
theorem dM (w:World) (a:Option Addr) (n cap:Nat) (f:Nat→T) (h:Rd w a n cap f):Calls Tryz.prog 44 #[.slice a n cap] w fun r w'=>r= .returned (.bool (aN n f))∧Below w.heap.size w w':=by
 obtain⟨h1,h2,h3⟩:=h;have hn:(n:Int)≤140737488351232:=by omega
 by_cases hl:n≤400
 ·have hl':(n:Int)≤400:=by omega
  go_enter Tryz.func44,Tryz.ntmps44;go_wp2;go_loopw [10] (fun i wr=>∃k:Nat,k≤n∧i= .int .i64 k∧Below w.heap.size w wr∧∀j,j<k→eW f j=true) (fun i _=>n-(intOf i).toNat);case atStart=>exact⟨0,gC _,rfl,aD _ _,fun j hj=>absurd hj (FE _)⟩
  case round=>
   obtain⟨k,hk,rfl,hB,hok⟩:=hrel;by_cases hlt:k<n
   ·rcases h3 with h0|⟨b,off,rfl,hblt,hcl⟩
    ·omega
    have hkn:(k:Int)<(n:Int):=by omega
    have hbr:b<wr.heap.size:=dR hblt hB.size;obtain⟨g0,g1,g2,g3,g4⟩:=(hcl k hlt).below hB hblt;have hno:eW f k=false→aN n f=false:=fun hf=>by
     simp only[aN,decide_eq_false_iff_not];intro hh;have:=hh.2 k hlt
     rw[hf]at this;cases this
    cases ht:eQ (f k).c (f k).m
    ·have HF:Hid (aN n f=false):=hno (by
      cases h:eW f k
      ·rfl
      ·rw[qJ h]at ht;cases ht)
     clear hno hcl hok;go_wp2_with fail;refine(kJ ht _).mono ?_;rintro r w1 ⟨rfl,hb⟩;have HB:=aA (aC (hB.alloc hB.size _) hb)
     clear hb;go_wp2;go_ret;exact⟨by rw[HF.out];rfl,HB.out⟩
    ·have hm:(f k).m.ok=true:=by simp only[eQ,Bool.and_eq_true]at ht;exact ht.2
     have HM:=aA hm;have HCL:=aA hcl
     have HOK:=aA hok;have HNO:=aA hno
     clear hcl hok hno hm;go_wp2_with fail;refine(kJ ht _).mono ?_;rintro r w1 ⟨rfl,hb⟩;have HB:=aA (aC (hB.alloc hB.size _) hb)
     have hb1:b<w1.heap.size:=by have:=hb.size;simp at this;omega
     have hb2:wr.heap.size<w1.heap.size:=by have:=hb.size;simp at this;omega
     have hq:∀i v,#[Value.int .i64 (f k).c,.int .i64 (f k).m.x,.int .i64 (f k).m.y,.int .i64 (f k).m.d,.int .i64 (f k).m.e][i]? =some v→w1.cell? ⟨wr.heap.size,i,none⟩=some v:=fun i v hv=>by rw[hb.cell (p:=⟨wr.heap.size,i,none⟩) (by simp),World.cell?_alloc_at _ _ _ _ rfl];exact hv
     have ne:=cO.there w1;have s1:∀u:cO w1,u.1.cell? ⟨wr.heap.size,1,none⟩=some (.int .i64 (f k).m.x):=fun u=>(u.cell hb2).trans (hq 1 _ rfl)
     have s2:∀u:cO w1,u.1.cell? ⟨wr.heap.size,2,none⟩=some (.int .i64 (f k).m.y):=fun u=>(u.cell hb2).trans (hq 2 _ rfl);have s3:∀u:cO w1,u.1.cell? ⟨wr.heap.size,3,none⟩=some (.int .i64 (f k).m.d):=fun u=>(u.cell hb2).trans (hq 3 _ rfl)
     have s4:∀u:cO w1,u.1.cell? ⟨wr.heap.size,4,none⟩=some (.int .i64 (f k).m.e):=fun u=>(u.cell hb2).trans (hq 4 _ rfl);have HBK:=aA hB
     clear hq hb g0 g1 g2 g3 g4 hB;by_cases hk0:k=0
     ·have ht':eW f k=true:=by simp only[eW,eQ,Bool.and_eq_true]at ht⊢;exact⟨ht,by simp[hk0]⟩
      have hok':Hid (∀j,j<k+1→eW f j=true):=fun j hj=>by
       by_cases hjk:j=k
       ·rw[hjk];exact ht'
       ·exact HOK.out j (by omega)
      have dk:decide (0<k)=false:=decide_eq_false (by omega);clear ht' hk0 ht;go_wp2_with fail;refine aS (by kernel_rfl) (by kernel_rfl) ?_;repeat(go_big_quiet_step (fail))
      refine wpQuiet_nil ?_;rintro _ ⟨u,rfl⟩;go_wp2;go_roundw;case rel=>exact⟨k+1,by omega,by go_num,HB.out.trans (u.2.mono HB.out.size),hok'.out⟩
      case measure=>simp[intOf];omega
     ·have hj:k-1<n:=by omega
      have hcj:=((HCL.out (k-1) hj).below HBK.out hblt)
      have hcj1:eK w1 b (off+(k-1)*5) (f (k-1)):=(HCL.out (k-1) hj).below HB.out hblt;have p1:∀u:cO w1,u.1.cell? ⟨b,off+(k-1)*5+1,none⟩=some (.int .i64 (f (k-1)).m.x):=fun u=>(u.cell hb1).trans hcj1.2.1
      have p2:∀u:cO w1,u.1.cell? ⟨b,off+(k-1)*5+2,none⟩=some (.int .i64 (f (k-1)).m.y):=fun u=>(u.cell hb1).trans hcj1.2.2.1;have p3:∀u:cO w1,u.1.cell? ⟨b,off+(k-1)*5+3,none⟩=some (.int .i64 (f (k-1)).m.d):=fun u=>(u.cell hb1).trans hcj1.2.2.2.1
      have p4:∀u:cO w1,u.1.cell? ⟨b,off+(k-1)*5+4,none⟩=some (.int .i64 (f (k-1)).m.e):=fun u=>(u.cell hb1).trans hcj1.2.2.2.2;have hmp:(f (k-1)).m.ok=true:=by have:=qJ (HOK.out (k-1) (by omega));simp only[eQ,Bool.and_eq_true]at this;exact this.2
      have HMP:=aA hmp;clear hcj hcj1;have dk:decide (0<k)=true:=decide_eq_true (by omega)
      have hk1:(0:Int)<(k:Int):=by omega
      have hk2:(k:Int)-1<(n:Int):=by omega
      have hk3:(0:Int)≤(k:Int)-1:=by omega
      by_cases hq:dV (f k).m<dV (f (k-1)).m
      ·have ht':eW f k=true:=by simp only[eW,eQ,Bool.and_eq_true]at ht⊢;exact⟨ht,by rw[decide_eq_true ((kC hmp HM.out).2 hq)];simp⟩
       have hok':Hid (∀j,j<k+1→eW f j=true):=fun j hj=>by
        by_cases hjk:j=k
        ·rw[hjk];exact ht'
        ·exact HOK.out j (by omega)
       have dq:decide (dV ⟨(f (k-1)).m.x,(f (k-1)).m.y,(f (k-1)).m.d,(f (k-1)).m.e⟩≤dV ⟨(f k).m.x,(f k).m.y,(f k).m.d,(f k).m.e⟩)=false:=decide_eq_false (Int.not_le.2 hq);clear ht' hk0 ht hq hmp;go_wp2_with fail;refine aS (by kernel_rfl) (by kernel_rfl) ?_;repeat(go_big_quiet_step (first|(go_at_call 91;exact bK (lW _ _ _ _ _ HMP.out))|(go_at_call 91;exact bK (lW _ _ _ _ _ HM.out))))
       refine wpQuiet_nil ?_;rintro _ ⟨u,rfl⟩;go_wp2;go_roundw;case rel=>exact⟨k+1,by omega,by go_num,HB.out.trans (u.2.mono HB.out.size),hok'.out⟩
       case measure=>simp[intOf];omega
      ·have HF:Hid (aN n f=false):=HNO.out (by
        cases hx:eW f k
        ·rfl
        ·exfalso;simp only[eW,Bool.and_eq_true,Bool.or_eq_true,decide_eq_true_eq]at hx;rcases hx.2 with h0|h0
         ·exact hk0 h0
         ·exact hq ((kC hmp HM.out).1 h0))
       have dq:decide (dV ⟨(f (k-1)).m.x,(f (k-1)).m.y,(f (k-1)).m.d,(f (k-1)).m.e⟩≤dV ⟨(f k).m.x,(f k).m.y,(f k).m.d,(f k).m.e⟩)=true:=decide_eq_true (Int.not_lt.1 hq);clear hk0 ht hq hmp;go_wp2_with fail;refine aS (by kernel_rfl) (by kernel_rfl) ?_;repeat(go_big_quiet_step (first|(go_at_call 91;exact bK (lW _ _ _ _ _ HMP.out))|(go_at_call 91;exact bK (lW _ _ _ _ _ HM.out))))
       refine wpQuiet_nil ?_;rintro _ ⟨u,rfl⟩;go_wp2;go_ret;exact⟨by rw[HF.out];rfl,HB.out.trans (u.2.mono HB.out.size)⟩
   ·go_wp2;go_ret;have hp:aN n f=true:=by simp only[aN,decide_eq_true_eq];exact⟨hl,fun i hi=>hok i (by omega)⟩
    exact⟨by rw[hp];rfl,hB⟩
 ·have hl':(400:Int)<(n:Int):=by omega
  have hp:aN n f=false:=by simp only[aN,decide_eq_false_iff_not];exact fun h=>hl h.1
  rw[hp];go_enter Tryz.func44,Tryz.ntmps44;go_wp2;go_ret;exact⟨rfl,aD _ _⟩
end Go.Proofs.YtoglomfejgpoeaaGreatDoor
