/-
  Turning an operator round, and back: the program.
-/
import Derived.Test.YtkcmamepoplcdaaGreatDoorVat
set_option maxHeartbeats 4000000
set_option maxRecDepth 100000
namespace Go.Proofs.YtkcmamepoplcdaaGreatDoor
open Go.RowKit Go.Maps
set_option linter.unusedVariables false
def xA (n:Int):Int:=if n%2=0 then 1 else 100
theorem pX (n:Int):0≤xA n∧xA n≤100:=by unfold xA;split<;>omega
theorem KO:∀n:Nat,pw 100 n=xA (n:Int)
 |0=>rfl
 |n+1=>by rw[pw,KO n];unfold xA;split<;>split<;>omega
def sg (t:T) (n:Int):Int:=t.c*xA n%101
theorem pB (t:T) (n:Int):0≤sg t n∧sg t n≤100:=by unfold sg;omega
abbrev B5 (b:Nat) (t:T) (u:World):Prop:=u.cell? ⟨b,0,none⟩=some (.int .i64 t.c)∧u.cell? ⟨b,1,none⟩=some (.int .i64 t.m.x)∧u.cell? ⟨b,2,none⟩=some (.int .i64 t.m.y)∧u.cell? ⟨b,3,none⟩=some (.int .i64 t.m.d)∧u.cell? ⟨b,4,none⟩=some (.int .i64 t.m.e)
theorem B5.below {b:Nat} {t:T} {u u':World} (h:B5 b t u) (hb:Below u.heap.size u u') (h2:b<u.heap.size):B5 b t u':=
 ⟨(hb.cell (p:=⟨b,0,none⟩) h2).trans h.1,(hb.cell (p:=⟨b,1,none⟩) h2).trans h.2.1,(hb.cell (p:=⟨b,2,none⟩) h2).trans h.2.2.1,(hb.cell (p:=⟨b,3,none⟩) h2).trans h.2.2.2.1,(hb.cell (p:=⟨b,4,none⟩) h2).trans h.2.2.2.2⟩
theorem B5.lt {b:Nat} {t:T} {u:World} (h:B5 b t u):b<u.heap.size:=BX u ⟨b,0,none⟩ h.1
theorem B5.box (w:World) (t:T):B5 w.heap.size t (w.alloc (.cells #[.int .i64 t.c,.int .i64 t.m.x,.int .i64 t.m.y,.int .i64 t.m.d,.int .i64 t.m.e] 79)):=by refine⟨?_,?_,?_,?_,?_⟩<;>(rw[World.cell?_alloc_at _ _ _ _ rfl];rfl)
theorem B5.far {w:World} {b o b' o':Nat} {v:Value} (h:b'≠b):(w.setCell ⟨b,o,none⟩ v).cell? ⟨b',o',none⟩=w.cell? ⟨b',o',none⟩:=lM (w:=w) (Below.heap_setCell _ _ _ _ h)
theorem B5.set {b g o:Nat} {t:T} {u:World} (h:B5 b t u) (hg:b≠g) (v:Value):B5 b t (u.setCell ⟨g,o,none⟩ v):=
 ⟨(B5.far hg).trans h.1,(B5.far hg).trans h.2.1,(B5.far hg).trans h.2.2.1,(B5.far hg).trans h.2.2.2.1,(B5.far hg).trans h.2.2.2.2⟩
theorem B5.alloc {b:Nat} {t:T} {u:World} (h:B5 b t u) (o:Obj):B5 b t (u.alloc o):=h.below (aF u o) h.lt
theorem B5.set5 {b g:Nat} {t:T} {u:World} (h:B5 b t u) (hg:b≠g) (v0 v1 v2 v3 v4:Value):B5 b t (((((u.setCell ⟨g,0,none⟩ v0).setCell ⟨g,1,none⟩ v1).setCell ⟨g,2,none⟩ v2).setCell ⟨g,3,none⟩ v3).setCell ⟨g,4,none⟩ v4):=
 ((((h.set hg v0).set hg v1).set hg v2).set hg v3).set hg v4
theorem sI (t:T) (n:Int) (w:World) (h0:0≤t.c) (h1:t.c≤100) (n0:0≤n) (n1:n≤1000):Calls Tryz.prog 120 #[.agg #[.int .i64 t.c,.int .i64 t.m.x,.int .i64 t.m.y,.int .i64 t.m.d,.int .i64 t.m.e],.int .i64 n] w fun e w'=>e= .returned (.int .i64 (sg t n))∧Below w.heap.size w w':=by
 have hp:∀u:World,Calls Tryz.prog 152 #[.int .i64 100,.int .i64 n] u fun e w'=>e= .returned (.int .i64 (xA n))∧w'=u:=fun u=>by
  have:=QD 100 n u (by omega) (by omega) n0 n1
  rwa[KO,Int.toNat_of_nonneg n0]at this
 have hs:=pX n;have ht:∀u:World,Calls Tryz.prog 151 #[.int .i64 t.c,.int .i64 (xA n)] u fun e w'=>e= .returned (.int .i64 (sg t n))∧w'=u:=fun u=>lL _ _ _ h0 h1 hs.1 hs.2
 obtain⟨q0,q1,q2,q3,q4⟩:=B5.box w t;have hb:=aF w (.cells #[.int .i64 t.c,.int .i64 t.m.x,.int .i64 t.m.y,.int .i64 t.m.d,.int .i64 t.m.e] 79)
 clear hs;go_enter Tryz.func120,Tryz.ntmps120;go_wp2_with fail
 go_region_with (first|(go_at_call 152;refine(hp _).mono ?_;rintro e w' ⟨rfl,hw'⟩;obtain rfl:=hw'.symm;clear hw')|(go_at_call 151;refine(ht _).mono ?_;rintro e w' ⟨rfl,hw'⟩;obtain rfl:=hw'.symm;clear hw'))
 all_goals
  go_wp2;go_ret;exact⟨rfl,hb.drew⟩
theorem CZ (n:Int) (w:World) (n0:0≤n) (n1:n≤1000):Calls Tryz.prog 107 #[.int .i64 n] w fun e w'=>e= .returned (.int .i64 (xA n))∧w'=w:=by
 have hm:n.tmod 2=n%2:=Int.tmod_eq_emod_of_nonneg n0;by_cases h:n%2=0
 ·have hb:(n%2==0)=true:=by simp[h]
  have e1:xA n=1:=if_pos h;rw[e1];go_enter Tryz.func107,Tryz.ntmps107;go_wp2;go_ret;exact⟨rfl,rfl⟩
 ·have hb:(n%2==0)=false:=by simp[h]
  have e1:xA n=100:=if_neg h;rw[e1];go_enter Tryz.func107,Tryz.ntmps107;go_wp2;go_ret;exact⟨rfl,rfl⟩
def fG (t:T):T:=⟨sg t (t.m.d+t.m.e),⟨0,0,t.m.x,t.m.y⟩⟩
def gQ (t:T):T:=⟨1,⟨t.m.d,t.m.e,0,0⟩⟩
theorem KY {t:T} (h:t.m.ok=true):(fG t).m.ok=true∧(gQ t).m.ok=true:=by obtain⟨x1,x2,y1,y2,d1,d2,e1,e2⟩:=M.ok_iff.1 h;exact⟨M.ok_iff.2 (by dsimp only[fG];omega),M.ok_iff.2 (by dsimp only[gQ];omega)⟩
def fA (K:List T) (t:T):Option (List T):=bY K (fG t) (gQ t)
theorem KX:GN 119 #[] fA (fun _=>True):=by
 intro W b c K t hS hK hKc hl ht _;obtain⟨o1,o2⟩:=KY ht.1;have hdb:=M.ok_iff.1 ht.1
 have hcr:=hS.range;have hsr:=pB t (t.m.d+t.m.e)
 have hwr:IntKind.i64.wrap (t.m.d+t.m.e)=t.m.d+t.m.e:=by rw[IntKind.wrap_i64];omega
 have hnum:∀u:World,Calls Tryz.prog 120 #[.agg #[.int .i64 t.c,.int .i64 t.m.x,.int .i64 t.m.y,.int .i64 t.m.d,.int .i64 t.m.e],.int .i64 (t.m.d+t.m.e)] u fun e w'=>e= .returned (.int .i64 (sg t (t.m.d+t.m.e)))∧Below u.heap.size u w':=fun u=>sI t _ u (by omega) ht.2.2 (by omega) (by omega);have hbox:B5 W.heap.size t (W.alloc (.cells #[.int .i64 t.c,.int .i64 t.m.x,.int .i64 t.m.y,.int .i64 t.m.d,.int .i64 t.m.e] 79)).drew:=B5.box W t
 have hB0:Below W.heap.size W (W.alloc (.cells #[.int .i64 t.c,.int .i64 t.m.x,.int .i64 t.m.y,.int .i64 t.m.d,.int .i64 t.m.e] 79)).drew:=(aF W (.cells #[.int .i64 t.c,.int .i64 t.m.x,.int .i64 t.m.y,.int .i64 t.m.d,.int .i64 t.m.e] 79)).drew;have hs0:(W.alloc (.cells #[.int .i64 t.c,.int .i64 t.m.x,.int .i64 t.m.y,.int .i64 t.m.d,.int .i64 t.m.e] 79)).drew.heap.size=W.heap.size+1:=by simp
 show Calls Tryz.prog 119 #[.map (some b),.agg #[.int .i64 t.c,.int .i64 t.m.x,.int .i64 t.m.y,.int .i64 t.m.d,.int .i64 t.m.e]] W _;go_enter Tryz.func119,Tryz.ntmps119;go_wp2_with fail
 go_region_held3 (fun u=>u.cell? ⟨W.heap.size,0,none⟩=some (.int .i64 t.c)∧u.cell? ⟨W.heap.size,1,none⟩=some (.int .i64 t.m.x)∧u.cell? ⟨W.heap.size,2,none⟩=some (.int .i64 t.m.y)∧u.cell? ⟨W.heap.size,3,none⟩=some (.int .i64 t.m.d)∧u.cell? ⟨W.heap.size,4,none⟩=some (.int .i64 t.m.e)) (first|with_reducible exact hbox|with_reducible exact B5.below (b:=W.heap.size) (t:=t) (by assumption) (by assumption) (B5.lt (t:=t) (by assumption))|with_reducible exact B5.alloc (b:=W.heap.size) (t:=t) (by assumption) _|with_reducible exact B5.set5 (b:=W.heap.size) (t:=t) (by assumption) (by simp) _ _ _ _ _|go_keep) (first|(go_at_call 120;refine(hnum _).mono ?_;rintro e w1 ⟨rfl,hb1⟩;obtain⟨hc1,hf1⟩:=bU hb1))
 ·have hsw:=hb1.size;have hA:B5 w1.heap.size (fG t) (w1.alloc (.cells #[.int .i64 (sg t (t.m.d+t.m.e)),.int .i64 0,.int .i64 0,.int .i64 (t.m.x),.int .i64 (t.m.y)] 79)):=B5.box w1 (fG t)
  have hB2:Below W.heap.size W (w1.alloc (.cells #[.int .i64 (sg t (t.m.d+t.m.e)),.int .i64 0,.int .i64 0,.int .i64 (t.m.x),.int .i64 (t.m.y)] 79)):=(aC hB0 hb1).alloc (by omega) _;clear hc1 hf1 hb1 hnum hbox hB0;generalize w1.alloc (.cells #[.int .i64 (sg t (t.m.d+t.m.e)),.int .i64 0,.int .i64 0,.int .i64 (t.m.x),.int .i64 (t.m.y)] 79)=u2 at *;generalize w1.heap.size=G at *;clear hs0 hsw;have hT:B5 W.heap.size t u2:=by assumption
  have hTl:=hT.lt;have hAl:=hA.lt
  have hok:((fG t).m.sum (gQ t).m).ok=true:=M.ok_iff.2 (by dsimp only[fG,gQ,M.sum];omega);have hTwo:lR (fG t) (gQ t) ((fG t).m.sum (gQ t).m):=lR.of o1 o2 hok hsr ⟨show(0:Int)≤1 by decide,show(1:Int)≤100 by decide⟩
  obtain⟨nf,nc⟩:=kD hTwo hK hcr hKc;have hB3:Below W.heap.size W (u2.alloc (.cells #[.int .i64 1,.int .i64 (t.m.d),.int .i64 (t.m.e),.int .i64 0,.int .i64 0] 79)):=hB2.alloc (by omega) _
  have hcall:=lT (u2.alloc (.cells #[.int .i64 1,.int .i64 (t.m.d),.int .i64 (t.m.e),.int .i64 0,.int .i64 0] 79)) b c (hS.grown (dG hB3) (by simp)) (fG t) (gQ t) hTwo nf nc;have HB3:=aA hB3
  have HST:Hid (fA K t=if(dV K (aX (fG t) (gQ t))).length≤400 then some (dV K (aX (fG t) (gQ t)))else none):=by show bY K _ _=_;unfold bY;simp[hok]
  obtain⟨t0,t1,t2,t3,t4⟩:=hT;obtain⟨a0,a1,a2,a3,a4⟩:=hA;dsimp only[fG]at a0 a1 a2 a3 a4;clear hB2 hB3 hS;go_wp2_with (go_at_call 111;refine hcall.mono ?_;rintro r w6 ⟨rfl,hs6,hg6⟩;have HS6:=aA hs6;have HG6:=aA hg6;clear hs6 hg6);go_ret;refine⟨(eT HB3.out (some b)).trans HG6.out,?_⟩;rw[HST.out];by_cases h4:(dV K (aX (fG t) (gQ t))).length≤400
  ·exact .inl ⟨_,_,if_pos h4,by rw[decide_eq_true h4];rfl,HS6.out,nf,nc⟩
  ·exact .inr ⟨if_neg h4,by rw[decide_eq_false h4];rfl⟩
 ·have hsw:=hb1.size;have hA:B5 (W.heap.size+1) (fG t) (((((w1.setCell ⟨W.heap.size+1,0,none⟩ (.int .i64 (sg t (t.m.d+t.m.e)))).setCell ⟨W.heap.size+1,1,none⟩ (.int .i64 0)).setCell ⟨W.heap.size+1,2,none⟩ (.int .i64 0)).setCell ⟨W.heap.size+1,3,none⟩ (.int .i64 t.m.x)).setCell ⟨W.heap.size+1,4,none⟩ (.int .i64 t.m.y)):=by refine⟨?_,?_,?_,?_,?_⟩<;>go_simp<;>rfl
  have hB2:Below W.heap.size W (((((w1.setCell ⟨W.heap.size+1,0,none⟩ (.int .i64 (sg t (t.m.d+t.m.e)))).setCell ⟨W.heap.size+1,1,none⟩ (.int .i64 0)).setCell ⟨W.heap.size+1,2,none⟩ (.int .i64 0)).setCell ⟨W.heap.size+1,3,none⟩ (.int .i64 t.m.x)).setCell ⟨W.heap.size+1,4,none⟩ (.int .i64 t.m.y)):=((((((aC (hB0.alloc (by simp) (.cells #[.int .i64 0,.int .i64 0,.int .i64 0,.int .i64 0,.int .i64 0] 79)) hb1).setCell (by simp) _).setCell (by simp) _).setCell (by simp) _).setCell (by simp) _).setCell (by simp) _)
  clear hc1 hf1 hb1 hnum hbox hB0 hs0 hsw;generalize(((((w1.setCell ⟨W.heap.size+1,0,none⟩ (.int .i64 (sg t (t.m.d+t.m.e)))).setCell ⟨W.heap.size+1,1,none⟩ (.int .i64 0)).setCell ⟨W.heap.size+1,2,none⟩ (.int .i64 0)).setCell ⟨W.heap.size+1,3,none⟩ (.int .i64 t.m.x)).setCell ⟨W.heap.size+1,4,none⟩ (.int .i64 t.m.y))=u2 at *;have hT:B5 W.heap.size t u2:=by assumption
  generalize hG:W.heap.size+1=G at *;have hTl:=hT.lt
  have hAl:=hA.lt;have hok:((fG t).m.sum (gQ t).m).ok=true:=M.ok_iff.2 (by dsimp only[fG,gQ,M.sum];omega)
  have hTwo:lR (fG t) (gQ t) ((fG t).m.sum (gQ t).m):=lR.of o1 o2 hok hsr ⟨show(0:Int)≤1 by decide,show(1:Int)≤100 by decide⟩;obtain⟨nf,nc⟩:=kD hTwo hK hcr hKc;have hB3:Below W.heap.size W (u2.alloc (.cells #[.int .i64 1,.int .i64 (t.m.d),.int .i64 (t.m.e),.int .i64 0,.int .i64 0] 79)):=hB2.alloc (by omega) _
  have hcall:=lT (u2.alloc (.cells #[.int .i64 1,.int .i64 (t.m.d),.int .i64 (t.m.e),.int .i64 0,.int .i64 0] 79)) b c (hS.grown (dG hB3) (by simp)) (fG t) (gQ t) hTwo nf nc;have HB3:=aA hB3
  have HST:Hid (fA K t=if(dV K (aX (fG t) (gQ t))).length≤400 then some (dV K (aX (fG t) (gQ t)))else none):=by show bY K _ _=_;unfold bY;simp[hok]
  obtain⟨t0,t1,t2,t3,t4⟩:=hT;obtain⟨a0,a1,a2,a3,a4⟩:=hA;dsimp only[fG]at a0 a1 a2 a3 a4;clear hB2 hB3 hS;go_wp2_with (go_at_call 111;refine hcall.mono ?_;rintro r w6 ⟨rfl,hs6,hg6⟩;have HS6:=aA hs6;have HG6:=aA hg6;clear hs6 hg6);go_ret;refine⟨(eT HB3.out (some b)).trans HG6.out,?_⟩;rw[HST.out];by_cases h4:(dV K (aX (fG t) (gQ t))).length≤400
  ·exact .inl ⟨_,_,if_pos h4,by rw[decide_eq_true h4];rfl,HS6.out,nf,nc⟩
  ·exact .inr ⟨if_neg h4,by rw[decide_eq_false h4];rfl⟩
def fE (t:T):T:=⟨sg t (t.m.d+t.m.e),⟨0,0,t.m.d,t.m.e⟩⟩
def gH (t:T):T:=⟨1,⟨t.m.x,t.m.y,0,0⟩⟩
theorem GZ {t:T} (h:t.m.ok=true):(fE t).m.ok=true∧(gH t).m.ok=true:=by obtain⟨x1,x2,y1,y2,d1,d2,e1,e2⟩:=M.ok_iff.1 h;exact⟨M.ok_iff.2 (by dsimp only[fE];omega),M.ok_iff.2 (by dsimp only[gH];omega)⟩
def gE (K:List T) (t:T):Option (List T):=bY K (fE t) (gH t)
theorem GY:GN 121 #[] gE (fun _=>True):=by
 intro W b c K t hS hK hKc hl ht _;obtain⟨o1,o2⟩:=GZ ht.1;have hdb:=M.ok_iff.1 ht.1
 have hcr:=hS.range;have hsr:=pB t (t.m.d+t.m.e)
 have hwr:IntKind.i64.wrap (t.m.d+t.m.e)=t.m.d+t.m.e:=by rw[IntKind.wrap_i64];omega
 have hnum:∀u:World,Calls Tryz.prog 120 #[.agg #[.int .i64 t.c,.int .i64 t.m.x,.int .i64 t.m.y,.int .i64 t.m.d,.int .i64 t.m.e],.int .i64 (t.m.d+t.m.e)] u fun e w'=>e= .returned (.int .i64 (sg t (t.m.d+t.m.e)))∧Below u.heap.size u w':=fun u=>sI t _ u (by omega) ht.2.2 (by omega) (by omega);have hbox:B5 W.heap.size t (W.alloc (.cells #[.int .i64 t.c,.int .i64 t.m.x,.int .i64 t.m.y,.int .i64 t.m.d,.int .i64 t.m.e] 79)).drew:=B5.box W t
 have hB0:Below W.heap.size W (W.alloc (.cells #[.int .i64 t.c,.int .i64 t.m.x,.int .i64 t.m.y,.int .i64 t.m.d,.int .i64 t.m.e] 79)).drew:=(aF W (.cells #[.int .i64 t.c,.int .i64 t.m.x,.int .i64 t.m.y,.int .i64 t.m.d,.int .i64 t.m.e] 79)).drew;have hs0:(W.alloc (.cells #[.int .i64 t.c,.int .i64 t.m.x,.int .i64 t.m.y,.int .i64 t.m.d,.int .i64 t.m.e] 79)).drew.heap.size=W.heap.size+1:=by simp
 show Calls Tryz.prog 121 #[.map (some b),.agg #[.int .i64 t.c,.int .i64 t.m.x,.int .i64 t.m.y,.int .i64 t.m.d,.int .i64 t.m.e]] W _;go_enter Tryz.func121,Tryz.ntmps121;go_wp2_with fail
 go_region_held3 (fun u=>u.cell? ⟨W.heap.size,0,none⟩=some (.int .i64 t.c)∧u.cell? ⟨W.heap.size,1,none⟩=some (.int .i64 t.m.x)∧u.cell? ⟨W.heap.size,2,none⟩=some (.int .i64 t.m.y)∧u.cell? ⟨W.heap.size,3,none⟩=some (.int .i64 t.m.d)∧u.cell? ⟨W.heap.size,4,none⟩=some (.int .i64 t.m.e)) (first|with_reducible exact hbox|with_reducible exact B5.below (b:=W.heap.size) (t:=t) (by assumption) (by assumption) (B5.lt (t:=t) (by assumption))|with_reducible exact B5.alloc (b:=W.heap.size) (t:=t) (by assumption) _|with_reducible exact B5.set5 (b:=W.heap.size) (t:=t) (by assumption) (by simp) _ _ _ _ _|go_keep) (first|(go_at_call 120;refine(hnum _).mono ?_;rintro e w1 ⟨rfl,hb1⟩;obtain⟨hc1,hf1⟩:=bU hb1))
 ·have hsw:=hb1.size;have hA:B5 w1.heap.size (fE t) (w1.alloc (.cells #[.int .i64 (sg t (t.m.d+t.m.e)),.int .i64 0,.int .i64 0,.int .i64 (t.m.d),.int .i64 (t.m.e)] 79)):=B5.box w1 (fE t)
  have hB2:Below W.heap.size W (w1.alloc (.cells #[.int .i64 (sg t (t.m.d+t.m.e)),.int .i64 0,.int .i64 0,.int .i64 (t.m.d),.int .i64 (t.m.e)] 79)):=(aC hB0 hb1).alloc (by omega) _;clear hc1 hf1 hb1 hnum hbox hB0;generalize w1.alloc (.cells #[.int .i64 (sg t (t.m.d+t.m.e)),.int .i64 0,.int .i64 0,.int .i64 (t.m.d),.int .i64 (t.m.e)] 79)=u2 at *;generalize w1.heap.size=G at *;clear hs0 hsw;have hT:B5 W.heap.size t u2:=by assumption
  have hTl:=hT.lt;have hAl:=hA.lt
  have hok:((fE t).m.sum (gH t).m).ok=true:=M.ok_iff.2 (by dsimp only[fE,gH,M.sum];omega);have hTwo:lR (fE t) (gH t) ((fE t).m.sum (gH t).m):=lR.of o1 o2 hok hsr ⟨show(0:Int)≤1 by decide,show(1:Int)≤100 by decide⟩
  obtain⟨nf,nc⟩:=kD hTwo hK hcr hKc;have hB3:Below W.heap.size W (u2.alloc (.cells #[.int .i64 1,.int .i64 (t.m.x),.int .i64 (t.m.y),.int .i64 0,.int .i64 0] 79)):=hB2.alloc (by omega) _
  have hcall:=lT (u2.alloc (.cells #[.int .i64 1,.int .i64 (t.m.x),.int .i64 (t.m.y),.int .i64 0,.int .i64 0] 79)) b c (hS.grown (dG hB3) (by simp)) (fE t) (gH t) hTwo nf nc;have HB3:=aA hB3
  have HST:Hid (gE K t=if(dV K (aX (fE t) (gH t))).length≤400 then some (dV K (aX (fE t) (gH t)))else none):=by show bY K _ _=_;unfold bY;simp[hok]
  obtain⟨t0,t1,t2,t3,t4⟩:=hT;obtain⟨a0,a1,a2,a3,a4⟩:=hA;dsimp only[fE]at a0 a1 a2 a3 a4;clear hB2 hB3 hS;go_wp2_with (go_at_call 111;refine hcall.mono ?_;rintro r w6 ⟨rfl,hs6,hg6⟩;have HS6:=aA hs6;have HG6:=aA hg6;clear hs6 hg6);go_ret;refine⟨(eT HB3.out (some b)).trans HG6.out,?_⟩;rw[HST.out];by_cases h4:(dV K (aX (fE t) (gH t))).length≤400
  ·exact .inl ⟨_,_,if_pos h4,by rw[decide_eq_true h4];rfl,HS6.out,nf,nc⟩
  ·exact .inr ⟨if_neg h4,by rw[decide_eq_false h4];rfl⟩
 ·have hsw:=hb1.size;have hA:B5 (W.heap.size+1) (fE t) (((((w1.setCell ⟨W.heap.size+1,0,none⟩ (.int .i64 (sg t (t.m.d+t.m.e)))).setCell ⟨W.heap.size+1,1,none⟩ (.int .i64 0)).setCell ⟨W.heap.size+1,2,none⟩ (.int .i64 0)).setCell ⟨W.heap.size+1,3,none⟩ (.int .i64 t.m.d)).setCell ⟨W.heap.size+1,4,none⟩ (.int .i64 t.m.e)):=by refine⟨?_,?_,?_,?_,?_⟩<;>go_simp<;>rfl
  have hB2:Below W.heap.size W (((((w1.setCell ⟨W.heap.size+1,0,none⟩ (.int .i64 (sg t (t.m.d+t.m.e)))).setCell ⟨W.heap.size+1,1,none⟩ (.int .i64 0)).setCell ⟨W.heap.size+1,2,none⟩ (.int .i64 0)).setCell ⟨W.heap.size+1,3,none⟩ (.int .i64 t.m.d)).setCell ⟨W.heap.size+1,4,none⟩ (.int .i64 t.m.e)):=((((((aC (hB0.alloc (by simp) (.cells #[.int .i64 0,.int .i64 0,.int .i64 0,.int .i64 0,.int .i64 0] 79)) hb1).setCell (by simp) _).setCell (by simp) _).setCell (by simp) _).setCell (by simp) _).setCell (by simp) _)
  clear hc1 hf1 hb1 hnum hbox hB0 hs0 hsw;generalize(((((w1.setCell ⟨W.heap.size+1,0,none⟩ (.int .i64 (sg t (t.m.d+t.m.e)))).setCell ⟨W.heap.size+1,1,none⟩ (.int .i64 0)).setCell ⟨W.heap.size+1,2,none⟩ (.int .i64 0)).setCell ⟨W.heap.size+1,3,none⟩ (.int .i64 t.m.d)).setCell ⟨W.heap.size+1,4,none⟩ (.int .i64 t.m.e))=u2 at *;have hT:B5 W.heap.size t u2:=by assumption
  generalize hG:W.heap.size+1=G at *;have hTl:=hT.lt
  have hAl:=hA.lt;have hok:((fE t).m.sum (gH t).m).ok=true:=M.ok_iff.2 (by dsimp only[fE,gH,M.sum];omega)
  have hTwo:lR (fE t) (gH t) ((fE t).m.sum (gH t).m):=lR.of o1 o2 hok hsr ⟨show(0:Int)≤1 by decide,show(1:Int)≤100 by decide⟩;obtain⟨nf,nc⟩:=kD hTwo hK hcr hKc;have hB3:Below W.heap.size W (u2.alloc (.cells #[.int .i64 1,.int .i64 (t.m.x),.int .i64 (t.m.y),.int .i64 0,.int .i64 0] 79)):=hB2.alloc (by omega) _
  have hcall:=lT (u2.alloc (.cells #[.int .i64 1,.int .i64 (t.m.x),.int .i64 (t.m.y),.int .i64 0,.int .i64 0] 79)) b c (hS.grown (dG hB3) (by simp)) (fE t) (gH t) hTwo nf nc;have HB3:=aA hB3
  have HST:Hid (gE K t=if(dV K (aX (fE t) (gH t))).length≤400 then some (dV K (aX (fE t) (gH t)))else none):=by show bY K _ _=_;unfold bY;simp[hok]
  obtain⟨t0,t1,t2,t3,t4⟩:=hT;obtain⟨a0,a1,a2,a3,a4⟩:=hA;dsimp only[fE]at a0 a1 a2 a3 a4;clear hB2 hB3 hS;go_wp2_with (go_at_call 111;refine hcall.mono ?_;rintro r w6 ⟨rfl,hs6,hg6⟩;have HS6:=aA hs6;have HG6:=aA hg6;clear hs6 hg6);go_ret;refine⟨(eT HB3.out (some b)).trans HG6.out,?_⟩;rw[HST.out];by_cases h4:(dV K (aX (fE t) (gH t))).length≤400
  ·exact .inl ⟨_,_,if_pos h4,by rw[decide_eq_true h4];rfl,HS6.out,nf,nc⟩
  ·exact .inr ⟨if_neg h4,by rw[decide_eq_false h4];rfl⟩
end Go.Proofs.YtkcmamepoplcdaaGreatDoor
