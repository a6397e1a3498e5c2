/-
  Turning an operator round, and back: the program.
-/
import Derived.Test.YtkcmamepoplcdaaGreatDoorXas
set_option maxHeartbeats 4000000
set_option maxRecDepth 100000
namespace Go.Proofs.YtkcmamepoplcdaaGreatDoor
open Go.RowKit Go.Maps
set_option linter.unusedVariables false
def wB (n:Int):Int:=if n%2=0 then 1 else 100
theorem pB (n:Int):0≤wB n∧wB n≤100:=by unfold wB;split<;>omega
theorem IW:∀n:Nat,pw 100 n=wB (n:Int)
 |0=>rfl
 |n+1=>by rw[pw,IW n];unfold wB;split<;>split<;>omega
def sg (t:T) (n:Int):Int:=t.c*wB n%101
theorem oD (t:T) (n:Int):0≤sg t n∧sg t n≤100:=by unfold sg;omega
abbrev B5 (b:Nat) (t:T) (u:World):Prop:=u.cell? ⟨b,0,none⟩=some (.int .i64 t.c)∧u.cell? ⟨b,1,none⟩=some (.int .i64 t.m.x)∧u.cell? ⟨b,2,none⟩=some (.int .i64 t.m.y)∧u.cell? ⟨b,3,none⟩=some (.int .i64 t.m.d)∧u.cell? ⟨b,4,none⟩=some (.int .i64 t.m.e)
theorem B5.below {b:Nat} {t:T} {u u':World} (h:B5 b t u) (hb:Below u.heap.size u u') (h2:b<u.heap.size):B5 b t u':=
 ⟨(hb.cell (p:=⟨b,0,none⟩) h2).trans h.1,(hb.cell (p:=⟨b,1,none⟩) h2).trans h.2.1,(hb.cell (p:=⟨b,2,none⟩) h2).trans h.2.2.1,(hb.cell (p:=⟨b,3,none⟩) h2).trans h.2.2.2.1,(hb.cell (p:=⟨b,4,none⟩) h2).trans h.2.2.2.2⟩
theorem B5.lt {b:Nat} {t:T} {u:World} (h:B5 b t u):b<u.heap.size:=EU u ⟨b,0,none⟩ h.1
theorem B5.box (w:World) (t:T):B5 w.heap.size t (w.alloc (.cells #[.int .i64 t.c,.int .i64 t.m.x,.int .i64 t.m.y,.int .i64 t.m.d,.int .i64 t.m.e] 79)):=by refine⟨?_,?_,?_,?_,?_⟩<;>(rw[World.cell?_alloc_at _ _ _ _ rfl];rfl)
theorem B5.far {w:World} {b o b' o':Nat} {v:Value} (h:b'≠b):(w.setCell ⟨b,o,none⟩ v).cell? ⟨b',o',none⟩=w.cell? ⟨b',o',none⟩:=sP (w:=w) (Below.heap_setCell _ _ _ _ h)
theorem B5.set {b g o:Nat} {t:T} {u:World} (h:B5 b t u) (hg:b≠g) (v:Value):B5 b t (u.setCell ⟨g,o,none⟩ v):=
 ⟨(B5.far hg).trans h.1,(B5.far hg).trans h.2.1,(B5.far hg).trans h.2.2.1,(B5.far hg).trans h.2.2.2.1,(B5.far hg).trans h.2.2.2.2⟩
theorem B5.alloc {b:Nat} {t:T} {u:World} (h:B5 b t u) (o:Obj):B5 b t (u.alloc o):=h.below (aF u o) h.lt
theorem B5.set5 {b g:Nat} {t:T} {u:World} (h:B5 b t u) (hg:b≠g) (v0 v1 v2 v3 v4:Value):B5 b t (((((u.setCell ⟨g,0,none⟩ v0).setCell ⟨g,1,none⟩ v1).setCell ⟨g,2,none⟩ v2).setCell ⟨g,3,none⟩ v3).setCell ⟨g,4,none⟩ v4):=
 ((((h.set hg v0).set hg v1).set hg v2).set hg v3).set hg v4
theorem rM (t:T) (n:Int) (w:World) (h0:0≤t.c) (h1:t.c≤100) (n0:0≤n) (n1:n≤1000):Calls Tryz.prog 120 #[.agg #[.int .i64 t.c,.int .i64 t.m.x,.int .i64 t.m.y,.int .i64 t.m.d,.int .i64 t.m.e],.int .i64 n] w fun e w'=>e= .returned (.int .i64 (sg t n))∧Below w.heap.size w w':=by
 have hp:∀u:World,Calls Tryz.prog 152 #[.int .i64 100,.int .i64 n] u fun e w'=>e= .returned (.int .i64 (wB n))∧w'=u:=fun u=>by
  have:=OB 100 n u (by omega) (by omega) n0 n1
  rwa[IW,Int.toNat_of_nonneg n0]at this
 have hs:=pB n;have ht:∀u:World,Calls Tryz.prog 151 #[.int .i64 t.c,.int .i64 (wB n)] u fun e w'=>e= .returned (.int .i64 (sg t n))∧w'=u:=fun u=>lM _ _ _ h0 h1 hs.1 hs.2
 obtain⟨q0,q1,q2,q3,q4⟩:=B5.box w t;have hb:=aF w (.cells #[.int .i64 t.c,.int .i64 t.m.x,.int .i64 t.m.y,.int .i64 t.m.d,.int .i64 t.m.e] 79)
 clear hs;go_enter Tryz.func120,Tryz.ntmps120;go_wp2_with fail
 go_region_with (first|(go_at_call 152;refine(hp _).mono ?_;rintro e w' ⟨rfl,hw'⟩;obtain rfl:=hw'.symm;clear hw')|(go_at_call 151;refine(ht _).mono ?_;rintro e w' ⟨rfl,hw'⟩;obtain rfl:=hw'.symm;clear hw'))
 all_goals
  go_wp2;go_ret;exact⟨rfl,hb.drew⟩
theorem BP (n:Int) (w:World) (n0:0≤n) (n1:n≤1000):Calls Tryz.prog 107 #[.int .i64 n] w fun e w'=>e= .returned (.int .i64 (wB n))∧w'=w:=by
 have hm:n.tmod 2=n%2:=Int.tmod_eq_emod_of_nonneg n0;by_cases h:n%2=0
 ·have hb:(n%2==0)=true:=by simp[h]
  have e1:wB n=1:=if_pos h;rw[e1];go_enter Tryz.func107,Tryz.ntmps107;go_wp2;go_ret;exact⟨rfl,rfl⟩
 ·have hb:(n%2==0)=false:=by simp[h]
  have e1:wB n=100:=if_neg h;rw[e1];go_enter Tryz.func107,Tryz.ntmps107;go_wp2;go_ret;exact⟨rfl,rfl⟩
def eT (t:T):T:=⟨sg t (t.m.d+t.m.e),⟨0,0,t.m.x,t.m.y⟩⟩
def gD (t:T):T:=⟨1,⟨t.m.d,t.m.e,0,0⟩⟩
theorem JE {t:T} (h:t.m.ok=true):(eT t).m.ok=true∧(gD t).m.ok=true:=by obtain⟨x1,x2,y1,y2,d1,d2,e1,e2⟩:=M.ok_iff.1 h;exact⟨M.ok_iff.2 (by dsimp only[eT];omega),M.ok_iff.2 (by dsimp only[gD];omega)⟩
def eO (K:List T) (t:T):Option (List T):=bR K (eT t) (gD t)
theorem JD:EY 119 #[] eO (fun _=>True):=by
 intro W b c K t hS hK hKc hl ht _;obtain⟨o1,o2⟩:=JE ht.1;have hdb:=M.ok_iff.1 ht.1
 have hcr:=hS.range;have hsr:=oD t (t.m.d+t.m.e)
 have hwr:IntKind.i64.wrap (t.m.d+t.m.e)=t.m.d+t.m.e:=by rw[IntKind.wrap_i64];omega
 have hnum:∀u:World,Calls Tryz.prog 120 #[.agg #[.int .i64 t.c,.int .i64 t.m.x,.int .i64 t.m.y,.int .i64 t.m.d,.int .i64 t.m.e],.int .i64 (t.m.d+t.m.e)] u fun e w'=>e= .returned (.int .i64 (sg t (t.m.d+t.m.e)))∧Below u.heap.size u w':=fun u=>rM t _ u (by omega) ht.2.2 (by omega) (by omega);have hbox:B5 W.heap.size t (W.alloc (.cells #[.int .i64 t.c,.int .i64 t.m.x,.int .i64 t.m.y,.int .i64 t.m.d,.int .i64 t.m.e] 79)).drew:=B5.box W t
 have hB0:Below W.heap.size W (W.alloc (.cells #[.int .i64 t.c,.int .i64 t.m.x,.int .i64 t.m.y,.int .i64 t.m.d,.int .i64 t.m.e] 79)).drew:=(aF W (.cells #[.int .i64 t.c,.int .i64 t.m.x,.int .i64 t.m.y,.int .i64 t.m.d,.int .i64 t.m.e] 79)).drew;have hs0:(W.alloc (.cells #[.int .i64 t.c,.int .i64 t.m.x,.int .i64 t.m.y,.int .i64 t.m.d,.int .i64 t.m.e] 79)).drew.heap.size=W.heap.size+1:=by simp
 show Calls Tryz.prog 119 #[.map (some b),.agg #[.int .i64 t.c,.int .i64 t.m.x,.int .i64 t.m.y,.int .i64 t.m.d,.int .i64 t.m.e]] W _;go_enter Tryz.func119,Tryz.ntmps119;go_wp2_with fail
 go_region_held3 (fun u=>u.cell? ⟨W.heap.size,0,none⟩=some (.int .i64 t.c)∧u.cell? ⟨W.heap.size,1,none⟩=some (.int .i64 t.m.x)∧u.cell? ⟨W.heap.size,2,none⟩=some (.int .i64 t.m.y)∧u.cell? ⟨W.heap.size,3,none⟩=some (.int .i64 t.m.d)∧u.cell? ⟨W.heap.size,4,none⟩=some (.int .i64 t.m.e)) (first|with_reducible exact hbox|with_reducible exact B5.below (b:=W.heap.size) (t:=t) (by assumption) (by assumption) (B5.lt (t:=t) (by assumption))|with_reducible exact B5.alloc (b:=W.heap.size) (t:=t) (by assumption) _|with_reducible exact B5.set5 (b:=W.heap.size) (t:=t) (by assumption) (by simp) _ _ _ _ _|go_keep) (first|(go_at_call 120;refine(hnum _).mono ?_;rintro e w1 ⟨rfl,hb1⟩;obtain⟨hc1,hf1⟩:=bM hb1))
 ·have hsw:=hb1.size;have hA:B5 w1.heap.size (eT t) (w1.alloc (.cells #[.int .i64 (sg t (t.m.d+t.m.e)),.int .i64 0,.int .i64 0,.int .i64 (t.m.x),.int .i64 (t.m.y)] 79)):=B5.box w1 (eT t)
  have hB2:Below W.heap.size W (w1.alloc (.cells #[.int .i64 (sg t (t.m.d+t.m.e)),.int .i64 0,.int .i64 0,.int .i64 (t.m.x),.int .i64 (t.m.y)] 79)):=(aC hB0 hb1).alloc (by omega) _;clear hc1 hf1 hb1 hnum hbox hB0;generalize w1.alloc (.cells #[.int .i64 (sg t (t.m.d+t.m.e)),.int .i64 0,.int .i64 0,.int .i64 (t.m.x),.int .i64 (t.m.y)] 79)=u2 at *;generalize w1.heap.size=G at *;clear hs0 hsw;have hT:B5 W.heap.size t u2:=by assumption
  have hTl:=hT.lt;have hAl:=hA.lt
  have hok:((eT t).m.sum (gD t).m).ok=true:=M.ok_iff.2 (by dsimp only[eT,gD,M.sum];omega);have hTwo:kZ (eT t) (gD t) ((eT t).m.sum (gD t).m):=kZ.of o1 o2 hok hsr ⟨show(0:Int)≤1 by decide,show(1:Int)≤100 by decide⟩
  obtain⟨nf,nc⟩:=jI hTwo hK hcr hKc;have hB3:Below W.heap.size W (u2.alloc (.cells #[.int .i64 1,.int .i64 (t.m.d),.int .i64 (t.m.e),.int .i64 0,.int .i64 0] 79)):=hB2.alloc (by omega) _
  have hcall:=lB (u2.alloc (.cells #[.int .i64 1,.int .i64 (t.m.d),.int .i64 (t.m.e),.int .i64 0,.int .i64 0] 79)) b c (hS.grown (cW hB3) (by simp)) (eT t) (gD t) hTwo nf nc;have HB3:=aA hB3
  have HST:Hid (eO K t=if(dG K (aU (eT t) (gD t))).length≤400 then some (dG K (aU (eT t) (gD t)))else none):=by show bR K _ _=_;unfold bR;simp[hok]
  obtain⟨t0,t1,t2,t3,t4⟩:=hT;obtain⟨a0,a1,a2,a3,a4⟩:=hA;dsimp only[eT]at a0 a1 a2 a3 a4;clear hB2 hB3 hS;go_wp2_with (go_at_call 111;refine hcall.mono ?_;rintro r w6 ⟨rfl,hs6,hg6⟩;have HS6:=aA hs6;have HG6:=aA hg6;clear hs6 hg6);go_ret;refine⟨(eH HB3.out (some b)).trans HG6.out,?_⟩;rw[HST.out];by_cases h4:(dG K (aU (eT t) (gD t))).length≤400
  ·exact .inl ⟨_,_,if_pos h4,by rw[decide_eq_true h4];rfl,HS6.out,nf,nc⟩
  ·exact .inr ⟨if_neg h4,by rw[decide_eq_false h4];rfl⟩
 ·have hsw:=hb1.size;have hA:B5 (W.heap.size+1) (eT t) (((((w1.setCell ⟨W.heap.size+1,0,none⟩ (.int .i64 (sg t (t.m.d+t.m.e)))).setCell ⟨W.heap.size+1,1,none⟩ (.int .i64 0)).setCell ⟨W.heap.size+1,2,none⟩ (.int .i64 0)).setCell ⟨W.heap.size+1,3,none⟩ (.int .i64 t.m.x)).setCell ⟨W.heap.size+1,4,none⟩ (.int .i64 t.m.y)):=by refine⟨?_,?_,?_,?_,?_⟩<;>go_simp<;>rfl
  have hB2:Below W.heap.size W (((((w1.setCell ⟨W.heap.size+1,0,none⟩ (.int .i64 (sg t (t.m.d+t.m.e)))).setCell ⟨W.heap.size+1,1,none⟩ (.int .i64 0)).setCell ⟨W.heap.size+1,2,none⟩ (.int .i64 0)).setCell ⟨W.heap.size+1,3,none⟩ (.int .i64 t.m.x)).setCell ⟨W.heap.size+1,4,none⟩ (.int .i64 t.m.y)):=((((((aC (hB0.alloc (by simp) (.cells #[.int .i64 0,.int .i64 0,.int .i64 0,.int .i64 0,.int .i64 0] 79)) hb1).setCell (by simp) _).setCell (by simp) _).setCell (by simp) _).setCell (by simp) _).setCell (by simp) _)
  clear hc1 hf1 hb1 hnum hbox hB0 hs0 hsw;generalize(((((w1.setCell ⟨W.heap.size+1,0,none⟩ (.int .i64 (sg t (t.m.d+t.m.e)))).setCell ⟨W.heap.size+1,1,none⟩ (.int .i64 0)).setCell ⟨W.heap.size+1,2,none⟩ (.int .i64 0)).setCell ⟨W.heap.size+1,3,none⟩ (.int .i64 t.m.x)).setCell ⟨W.heap.size+1,4,none⟩ (.int .i64 t.m.y))=u2 at *;have hT:B5 W.heap.size t u2:=by assumption
  generalize hG:W.heap.size+1=G at *;have hTl:=hT.lt
  have hAl:=hA.lt;have hok:((eT t).m.sum (gD t).m).ok=true:=M.ok_iff.2 (by dsimp only[eT,gD,M.sum];omega)
  have hTwo:kZ (eT t) (gD t) ((eT t).m.sum (gD t).m):=kZ.of o1 o2 hok hsr ⟨show(0:Int)≤1 by decide,show(1:Int)≤100 by decide⟩;obtain⟨nf,nc⟩:=jI hTwo hK hcr hKc;have hB3:Below W.heap.size W (u2.alloc (.cells #[.int .i64 1,.int .i64 (t.m.d),.int .i64 (t.m.e),.int .i64 0,.int .i64 0] 79)):=hB2.alloc (by omega) _
  have hcall:=lB (u2.alloc (.cells #[.int .i64 1,.int .i64 (t.m.d),.int .i64 (t.m.e),.int .i64 0,.int .i64 0] 79)) b c (hS.grown (cW hB3) (by simp)) (eT t) (gD t) hTwo nf nc;have HB3:=aA hB3
  have HST:Hid (eO K t=if(dG K (aU (eT t) (gD t))).length≤400 then some (dG K (aU (eT t) (gD t)))else none):=by show bR K _ _=_;unfold bR;simp[hok]
  obtain⟨t0,t1,t2,t3,t4⟩:=hT;obtain⟨a0,a1,a2,a3,a4⟩:=hA;dsimp only[eT]at a0 a1 a2 a3 a4;clear hB2 hB3 hS;go_wp2_with (go_at_call 111;refine hcall.mono ?_;rintro r w6 ⟨rfl,hs6,hg6⟩;have HS6:=aA hs6;have HG6:=aA hg6;clear hs6 hg6);go_ret;refine⟨(eH HB3.out (some b)).trans HG6.out,?_⟩;rw[HST.out];by_cases h4:(dG K (aU (eT t) (gD t))).length≤400
  ·exact .inl ⟨_,_,if_pos h4,by rw[decide_eq_true h4];rfl,HS6.out,nf,nc⟩
  ·exact .inr ⟨if_neg h4,by rw[decide_eq_false h4];rfl⟩
def eQ (t:T):T:=⟨sg t (t.m.d+t.m.e),⟨0,0,t.m.d,t.m.e⟩⟩
def fT (t:T):T:=⟨1,⟨t.m.x,t.m.y,0,0⟩⟩
theorem FJ {t:T} (h:t.m.ok=true):(eQ t).m.ok=true∧(fT t).m.ok=true:=by obtain⟨x1,x2,y1,y2,d1,d2,e1,e2⟩:=M.ok_iff.1 h;exact⟨M.ok_iff.2 (by dsimp only[eQ];omega),M.ok_iff.2 (by dsimp only[fT];omega)⟩
def fQ (K:List T) (t:T):Option (List T):=bR K (eQ t) (fT t)
theorem FI:EY 121 #[] fQ (fun _=>True):=by
 intro W b c K t hS hK hKc hl ht _;obtain⟨o1,o2⟩:=FJ ht.1;have hdb:=M.ok_iff.1 ht.1
 have hcr:=hS.range;have hsr:=oD t (t.m.d+t.m.e)
 have hwr:IntKind.i64.wrap (t.m.d+t.m.e)=t.m.d+t.m.e:=by rw[IntKind.wrap_i64];omega
 have hnum:∀u:World,Calls Tryz.prog 120 #[.agg #[.int .i64 t.c,.int .i64 t.m.x,.int .i64 t.m.y,.int .i64 t.m.d,.int .i64 t.m.e],.int .i64 (t.m.d+t.m.e)] u fun e w'=>e= .returned (.int .i64 (sg t (t.m.d+t.m.e)))∧Below u.heap.size u w':=fun u=>rM t _ u (by omega) ht.2.2 (by omega) (by omega);have hbox:B5 W.heap.size t (W.alloc (.cells #[.int .i64 t.c,.int .i64 t.m.x,.int .i64 t.m.y,.int .i64 t.m.d,.int .i64 t.m.e] 79)).drew:=B5.box W t
 have hB0:Below W.heap.size W (W.alloc (.cells #[.int .i64 t.c,.int .i64 t.m.x,.int .i64 t.m.y,.int .i64 t.m.d,.int .i64 t.m.e] 79)).drew:=(aF W (.cells #[.int .i64 t.c,.int .i64 t.m.x,.int .i64 t.m.y,.int .i64 t.m.d,.int .i64 t.m.e] 79)).drew;have hs0:(W.alloc (.cells #[.int .i64 t.c,.int .i64 t.m.x,.int .i64 t.m.y,.int .i64 t.m.d,.int .i64 t.m.e] 79)).drew.heap.size=W.heap.size+1:=by simp
 show Calls Tryz.prog 121 #[.map (some b),.agg #[.int .i64 t.c,.int .i64 t.m.x,.int .i64 t.m.y,.int .i64 t.m.d,.int .i64 t.m.e]] W _;go_enter Tryz.func121,Tryz.ntmps121;go_wp2_with fail
 go_region_held3 (fun u=>u.cell? ⟨W.heap.size,0,none⟩=some (.int .i64 t.c)∧u.cell? ⟨W.heap.size,1,none⟩=some (.int .i64 t.m.x)∧u.cell? ⟨W.heap.size,2,none⟩=some (.int .i64 t.m.y)∧u.cell? ⟨W.heap.size,3,none⟩=some (.int .i64 t.m.d)∧u.cell? ⟨W.heap.size,4,none⟩=some (.int .i64 t.m.e)) (first|with_reducible exact hbox|with_reducible exact B5.below (b:=W.heap.size) (t:=t) (by assumption) (by assumption) (B5.lt (t:=t) (by assumption))|with_reducible exact B5.alloc (b:=W.heap.size) (t:=t) (by assumption) _|with_reducible exact B5.set5 (b:=W.heap.size) (t:=t) (by assumption) (by simp) _ _ _ _ _|go_keep) (first|(go_at_call 120;refine(hnum _).mono ?_;rintro e w1 ⟨rfl,hb1⟩;obtain⟨hc1,hf1⟩:=bM hb1))
 ·have hsw:=hb1.size;have hA:B5 w1.heap.size (eQ t) (w1.alloc (.cells #[.int .i64 (sg t (t.m.d+t.m.e)),.int .i64 0,.int .i64 0,.int .i64 (t.m.d),.int .i64 (t.m.e)] 79)):=B5.box w1 (eQ t)
  have hB2:Below W.heap.size W (w1.alloc (.cells #[.int .i64 (sg t (t.m.d+t.m.e)),.int .i64 0,.int .i64 0,.int .i64 (t.m.d),.int .i64 (t.m.e)] 79)):=(aC hB0 hb1).alloc (by omega) _;clear hc1 hf1 hb1 hnum hbox hB0;generalize w1.alloc (.cells #[.int .i64 (sg t (t.m.d+t.m.e)),.int .i64 0,.int .i64 0,.int .i64 (t.m.d),.int .i64 (t.m.e)] 79)=u2 at *;generalize w1.heap.size=G at *;clear hs0 hsw;have hT:B5 W.heap.size t u2:=by assumption
  have hTl:=hT.lt;have hAl:=hA.lt
  have hok:((eQ t).m.sum (fT t).m).ok=true:=M.ok_iff.2 (by dsimp only[eQ,fT,M.sum];omega);have hTwo:kZ (eQ t) (fT t) ((eQ t).m.sum (fT t).m):=kZ.of o1 o2 hok hsr ⟨show(0:Int)≤1 by decide,show(1:Int)≤100 by decide⟩
  obtain⟨nf,nc⟩:=jI hTwo hK hcr hKc;have hB3:Below W.heap.size W (u2.alloc (.cells #[.int .i64 1,.int .i64 (t.m.x),.int .i64 (t.m.y),.int .i64 0,.int .i64 0] 79)):=hB2.alloc (by omega) _
  have hcall:=lB (u2.alloc (.cells #[.int .i64 1,.int .i64 (t.m.x),.int .i64 (t.m.y),.int .i64 0,.int .i64 0] 79)) b c (hS.grown (cW hB3) (by simp)) (eQ t) (fT t) hTwo nf nc;have HB3:=aA hB3
  have HST:Hid (fQ K t=if(dG K (aU (eQ t) (fT t))).length≤400 then some (dG K (aU (eQ t) (fT t)))else none):=by show bR K _ _=_;unfold bR;simp[hok]
  obtain⟨t0,t1,t2,t3,t4⟩:=hT;obtain⟨a0,a1,a2,a3,a4⟩:=hA;dsimp only[eQ]at a0 a1 a2 a3 a4;clear hB2 hB3 hS;go_wp2_with (go_at_call 111;refine hcall.mono ?_;rintro r w6 ⟨rfl,hs6,hg6⟩;have HS6:=aA hs6;have HG6:=aA hg6;clear hs6 hg6);go_ret;refine⟨(eH HB3.out (some b)).trans HG6.out,?_⟩;rw[HST.out];by_cases h4:(dG K (aU (eQ t) (fT t))).length≤400
  ·exact .inl ⟨_,_,if_pos h4,by rw[decide_eq_true h4];rfl,HS6.out,nf,nc⟩
  ·exact .inr ⟨if_neg h4,by rw[decide_eq_false h4];rfl⟩
 ·have hsw:=hb1.size;have hA:B5 (W.heap.size+1) (eQ t) (((((w1.setCell ⟨W.heap.size+1,0,none⟩ (.int .i64 (sg t (t.m.d+t.m.e)))).setCell ⟨W.heap.size+1,1,none⟩ (.int .i64 0)).setCell ⟨W.heap.size+1,2,none⟩ (.int .i64 0)).setCell ⟨W.heap.size+1,3,none⟩ (.int .i64 t.m.d)).setCell ⟨W.heap.size+1,4,none⟩ (.int .i64 t.m.e)):=by refine⟨?_,?_,?_,?_,?_⟩<;>go_simp<;>rfl
  have hB2:Below W.heap.size W (((((w1.setCell ⟨W.heap.size+1,0,none⟩ (.int .i64 (sg t (t.m.d+t.m.e)))).setCell ⟨W.heap.size+1,1,none⟩ (.int .i64 0)).setCell ⟨W.heap.size+1,2,none⟩ (.int .i64 0)).setCell ⟨W.heap.size+1,3,none⟩ (.int .i64 t.m.d)).setCell ⟨W.heap.size+1,4,none⟩ (.int .i64 t.m.e)):=((((((aC (hB0.alloc (by simp) (.cells #[.int .i64 0,.int .i64 0,.int .i64 0,.int .i64 0,.int .i64 0] 79)) hb1).setCell (by simp) _).setCell (by simp) _).setCell (by simp) _).setCell (by simp) _).setCell (by simp) _)
  clear hc1 hf1 hb1 hnum hbox hB0 hs0 hsw;generalize(((((w1.setCell ⟨W.heap.size+1,0,none⟩ (.int .i64 (sg t (t.m.d+t.m.e)))).setCell ⟨W.heap.size+1,1,none⟩ (.int .i64 0)).setCell ⟨W.heap.size+1,2,none⟩ (.int .i64 0)).setCell ⟨W.heap.size+1,3,none⟩ (.int .i64 t.m.d)).setCell ⟨W.heap.size+1,4,none⟩ (.int .i64 t.m.e))=u2 at *;have hT:B5 W.heap.size t u2:=by assumption
  generalize hG:W.heap.size+1=G at *;have hTl:=hT.lt
  have hAl:=hA.lt;have hok:((eQ t).m.sum (fT t).m).ok=true:=M.ok_iff.2 (by dsimp only[eQ,fT,M.sum];omega)
  have hTwo:kZ (eQ t) (fT t) ((eQ t).m.sum (fT t).m):=kZ.of o1 o2 hok hsr ⟨show(0:Int)≤1 by decide,show(1:Int)≤100 by decide⟩;obtain⟨nf,nc⟩:=jI hTwo hK hcr hKc;have hB3:Below W.heap.size W (u2.alloc (.cells #[.int .i64 1,.int .i64 (t.m.x),.int .i64 (t.m.y),.int .i64 0,.int .i64 0] 79)):=hB2.alloc (by omega) _
  have hcall:=lB (u2.alloc (.cells #[.int .i64 1,.int .i64 (t.m.x),.int .i64 (t.m.y),.int .i64 0,.int .i64 0] 79)) b c (hS.grown (cW hB3) (by simp)) (eQ t) (fT t) hTwo nf nc;have HB3:=aA hB3
  have HST:Hid (fQ K t=if(dG K (aU (eQ t) (fT t))).length≤400 then some (dG K (aU (eQ t) (fT t)))else none):=by show bR K _ _=_;unfold bR;simp[hok]
  obtain⟨t0,t1,t2,t3,t4⟩:=hT;obtain⟨a0,a1,a2,a3,a4⟩:=hA;dsimp only[eQ]at a0 a1 a2 a3 a4;clear hB2 hB3 hS;go_wp2_with (go_at_call 111;refine hcall.mono ?_;rintro r w6 ⟨rfl,hs6,hg6⟩;have HS6:=aA hs6;have HG6:=aA hg6;clear hs6 hg6);go_ret;refine⟨(eH HB3.out (some b)).trans HG6.out,?_⟩;rw[HST.out];by_cases h4:(dG K (aU (eQ t) (fT t))).length≤400
  ·exact .inl ⟨_,_,if_pos h4,by rw[decide_eq_true h4];rfl,HS6.out,nf,nc⟩
  ·exact .inr ⟨if_neg h4,by rw[decide_eq_false h4];rfl⟩
end Go.Proofs.YtkcmamepoplcdaaGreatDoor
