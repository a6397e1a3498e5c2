/-
  The draw of an operator, one in so many with something wrong: some terms in memory of its own.
-/
import Derived.Test.YtkcmamepoplcdaaGreatDoorVbr
set_option maxHeartbeats 8000000
set_option maxRecDepth 100000
namespace Go.Proofs.YtkcmamepoplcdaaGreatDoor
open Go.RowKit
set_option linter.unusedVariables false
theorem GR (b o j:Nat):(⟨b,o,none⟩:Addr).add j=⟨b,o+j,none⟩:=by unfold Addr.add;split<;>simp_all
theorem tV (L:List T):∀u∈aG L,u.oneCell'=true:=by
 induction L with
 |nil=>intro u hu;simp[aG]at hu
 |cons t L ih=>
  intro u hu;rw[show t::L=[t]++L from rfl,bE]at hu;rcases List.mem_append.1 hu with h|h
  ·exact dE t u h
  ·exact ih u h
theorem Rd.news {w:World} {b off cap:Nat} {L:List T} (h:Rd w (some ⟨b,off,none⟩) L.length cap (lf L)):∀j u,(aG L)[j]? =some u→w.cell? ((⟨b,off,none⟩:Addr).add j)=some u:=by
 intro j u hu;have hj:j<L.length*5:=by rw[←aZ];exact(List.getElem?_eq_some_iff.1 hu).1
 rw[uD L j hj]at hu;cases hu;rw[GR];rcases h.2.2 with h0|⟨b',off',he,_,hc⟩
 ·omega
 ·cases he;obtain⟨c0,c1,c2,c3,c4⟩:=hc (j / 5) (by omega);have h5:j%5=0∨j%5=1∨j%5=2∨j%5=3∨j%5=4:=by omega
  rcases h5 with h|h|h|h|h
  ·rw[show j=j / 5*5 by omega,SS];exact c0
  ·rw[show j=j / 5*5+1 by omega,PO,←Nat.add_assoc];exact c1
  ·rw[show j=j / 5*5+2 by omega,PP,←Nat.add_assoc];exact c2
  ·rw[show j=j / 5*5+3 by omega,TA,←Nat.add_assoc];exact c3
  ·rw[show j=j / 5*5+4 by omega,TB,←Nat.add_assoc];exact c4
theorem FS {w:World} {g N n cap:Nat} {F:Nat→Value} {f:Nat→T} {x y d z:Int} (h:w.rowIs g 79 N F) (hn:0<n) (hN:n*5≤N) (hF:∀j,j<n*5→F j=cf f j) (hc:n≤cap) (hl:n*40≤140737488351232):Rd ((((w.setCell ⟨g,1,none⟩ (.int .i64 x)).setCell ⟨g,2,none⟩ (.int .i64 y)).setCell ⟨g,3,none⟩ (.int .i64 d)).setCell ⟨g,4,none⟩ (.int .i64 z)) (some ⟨g,0,none⟩) n cap (fun i=>if i=0 then⟨(f 0).c,⟨x,y,d,z⟩⟩else f i):=by
 have hr:=(((h.set 1 (.int .i64 x)).set 2 (.int .i64 y)).set 3 (.int .i64 d)).set 4 (.int .i64 z);refine⟨hc,hl,.inr ⟨g,0,rfl,hr.lt,fun i hi=>?_⟩⟩;have hcell:=fun j (hj:j<N)=>hr.cell hj
 by_cases h0:i=0
 ·subst h0;have c0:=hcell 0 (by omega)
  have c1:=hcell 1 (by omega);have c2:=hcell 2 (by omega)
  have c3:=hcell 3 (by omega);have c4:=hcell 4 (by omega)
  simp at c0 c1 c2 c3 c4;rw[hF 0 (by omega),show(0:Nat)=0*5 from rfl,SS]at c0;exact⟨c0,c1,c2,c3,c4⟩
 ·have e:∀r,r<5→(((((w.setCell ⟨g,1,none⟩ (.int .i64 x)).setCell ⟨g,2,none⟩ (.int .i64 y)).setCell ⟨g,3,none⟩ (.int .i64 d)).setCell ⟨g,4,none⟩ (.int .i64 z))).cell? ⟨g,i*5+r,none⟩=some (cf f (i*5+r)):=by intro r hr5;rw[hcell (i*5+r) (by omega),if_neg (by omega),if_neg (by omega),if_neg (by omega),if_neg (by omega),hF _ (by omega)]
  show fM _ g (0+i*5) (if i=0 then _ else f i);rw[if_neg h0,Nat.zero_add];refine⟨?_,?_,?_,?_,?_⟩
  ·have:=e 0 (by omega);rw[Nat.add_zero,SS]at this;exact this
  ·have:=e 1 (by omega);rw[PO]at this;exact this
  ·have:=e 2 (by omega);rw[PP]at this;exact this
  ·have:=e 3 (by omega);rw[TA]at this;exact this
  ·have:=e 4 (by omega);rw[TB]at this;exact this
theorem MM (w:World) (B p:Nat) (n:Int) (h:iN w B p) (hn:1≤n) (hn':n≤1000) (hp:p≤50000):Calls Tryz.prog 59 #[.pointer (some ⟨B,0,none⟩),.int .i64 n] w fun r w'=>∃(a:Option Addr) (m cap:Nat) (f:Nat→T) (q:Nat),r= .returned (.slice a m cap)∧Rd w' a m cap f∧m≤5∧(m=0∨∃g off,a=some ⟨g,off,none⟩∧w.heap.size≤g)∧q≤p+700∧iN w' B q∧aH B w w':=by
 have hB:=h.lt;obtain⟨i0,hi0,hz0,hz1,hz2⟩:=info_parts uP;go_enter Tryz.func59,Tryz.ntmps59;go_wp2_with fail;refine(oY w B p 4 h (by omega) (by omega) (by omega)).mono ?_;rintro e w1 ⟨v,L,q1,rfl,ho1,hl1,hc1,hq1,hR1,hb1⟩;obtain⟨a,cap,rfl,hout1⟩:=aJ ho1 (by omega);have HO1:=aA ho1
 have HR1:=aA hR1;have HB1:=aA hb1
 clear ho1 hR1 hb1 hout1 h hc1;go_wp2_with fail;refine(aI w1 B q1 n HR1.out (by omega) (by omega) (by omega)).mono ?_;rintro e w2 ⟨x,rfl,x0,x1,hk⟩;have HR2:=aA (hk.rdr HR1.out)
 have HB2:=aA (HB1.out.trans hk.beside);have HO2:=aA (cQ HO1.out hk.beside hB)
 clear hk HR1 HB1 HO1;by_cases hx:0<x
 ·have hout:=aJ HO2.out (by omega);go_wp2;go_ret;obtain⟨a',cap',he,ho⟩:=hout;cases he;exact⟨_,_,_,_,_,rfl,ho.1,by omega,ho.2.2,by omega,HR2.out,HB2.out⟩
 ·obtain rfl:x=0:=by omega
  clear hx;by_cases hz:L.length=0
  ·have hzb:((L.length:Int)==0)=true:=by simp[hz]
   clear hz;go_wp2_with fail;refine Code.wp_mono (Q:=fun e b u=>e=Exit.normal∧∃(q:Nat) (vs:Nat→Value) (L2:List T),b={tmps:=#[Value.pointer (some ⟨B,0,none⟩),Value.int IntKind.i64 n,undef,undef,vs 11,Value.slice a L.length cap,Value.pointer (some ⟨B,0,none⟩),Value.slice a L.length cap,Value.pointer (some ⟨B,0,none⟩),Value.int IntKind.i64 n,Value.int IntKind.i64 0,Value.bool false,undef,Value.bool true,Value.slice a L.length cap,Value.int IntKind.i64 (L.length:Int),Value.bool true,Value.bool true,undef,undef,undef,Value.bool true,vs 0,vs 1,vs 2,vs 3,vs 4,vs 5,vs 6,vs 7,vs 8,vs 9,vs 10,undef,undef,undef,undef,undef,undef,undef,undef,undef,undef,undef,undef,undef,undef,undef,undef,undef,undef,undef],defers:=[]}∧iN u B q∧q≤q1+1+360∧aH B w u∧u.ownsRow w.heap.size 79 5 (vs 11) L2.length (aG L2)∧L2.length≤5) ?_ ?_;rotate_left
   ·have hBN:B<w2.heap.size:=HR2.out.lt;refine nI (fun vs:Nat→Value=>({tmps:=#[Value.pointer (some ⟨B,0,none⟩),Value.int IntKind.i64 n,undef,undef,vs 11,Value.slice a L.length cap,Value.pointer (some ⟨B,0,none⟩),Value.slice a L.length cap,Value.pointer (some ⟨B,0,none⟩),Value.int IntKind.i64 n,Value.int IntKind.i64 0,Value.bool false,undef,Value.bool true,Value.slice a L.length cap,Value.int IntKind.i64 (L.length:Int),Value.bool true,Value.bool true,undef,undef,undef,Value.bool true,vs 0,vs 1,vs 2,vs 3,vs 4,vs 5,vs 6,vs 7,vs 8,vs 9,vs 10,undef,undef,undef,undef,undef,undef,undef,undef,undef,undef,undef,undef,undef,undef,undef,undef,undef,undef,undef],defers:=[]}:Act)) (fun k=>match k with|0=>mK.is (.slice a L.length cap)|1=>mK.old (SK.sl 4)|2=>mK.old SK.rd|3=>mK.old (SK.pk 4)|4=>mK.old SK.ix|5=>mK.old SK.ld|6=>mK.old SK.rd|7=>mK.old SK.ag|8=>mK.a5|9=>mK.s1|10=>mK.own|11=>mK.own|_=>mK.own) 12 10 B (q1+1) w2.heap.size (fun u=>u.ownsRow w.heap.size 79 5 (.slice a L.length cap) L.length (aG L)) (fun u v=>∃L2,u.ownsRow w.heap.size 79 5 v L2.length (aG L2)∧L2.length≤5) w (by kernel_rfl) ?_ ?_ ?_
    ·exact kP.start (fun k=>if k=11 then .slice none 0 0 else undef) rfl HR2.out HB2.out (Nat.le_refl _) (aR HO2.out (aD _ _).drew)
    ·intro l b u hI i hi;obtain⟨q,vs,rfl,hR,hq,hbz,hN,hX,hsz,hcl,hf⟩:=hI;have hl0:=(mem_ready.1 hi).1
     have hund1:1≤fB l:=by have:=fC (bG hl0);omega
     have hXm:∀u u':World,u.ownsRow w.heap.size 79 5 (.slice a L.length cap) L.length (aG L)→aH B u u'→u'.ownsRow w.heap.size 79 5 (.slice a L.length cap) L.length (aG L):=fun u u' h hb=>cQ h hb hB;have hYm:∀(u u':World) (v:Value),(∃L2,u.ownsRow w.heap.size 79 5 v L2.length (aG L2)∧L2.length≤5)→aH B u u'→(∃L2,u'.ownsRow w.heap.size 79 5 v L2.length (aG L2)∧L2.length≤5):=fun u u' v h hb=>by obtain⟨L2,h1,h2⟩:=h;exact⟨L2,cQ h1 hb hB,h2⟩
     have hi12:i<12:=by obtain⟨_,o,ho,_⟩:=mem_ready.1 hi;exact(Array.getElem?_eq_some_iff.1 ho).1
     rcases(show i=0∨i=1∨i=2∨i=3∨i=4∨i=5∨i=6∨i=7∨i=8∨i=9∨i=10∨i=11 from by omega)with rfl|rfl|rfl|rfl|rfl|rfl|rfl|rfl|rfl|rfl|rfl|rfl
     ·have hA:l.getD 10 false=false:=by
       cases hx:l.getD 10 false
       ·rfl
       ·have hx0:=hcl.dep (i:=10) rfl hx 0 (by kernel_rfl);exact(bN hl0 hx0).elim
      refine wpOp_step rfl (fun K hK=>?_);go_simp;refine hK _ _ ?_;exact kP.step (q':=q) 0 (.slice a L.length cap) hBN hi rfl hA (by decide) hq hR (by omega) hbz hN hX hXm hsz hcl hf hYm (aH.refl _ u) rfl rfl
     ·have hA:l.getD 10 false=false:=by
       cases hx:l.getD 10 false
       ·rfl
       ·have hx0:=hcl.dep (i:=10) rfl hx 9 (by kernel_rfl);have hx1:=hcl.dep (i:=9) rfl hx0 8 (by kernel_rfl)
        have hx2:=hcl.dep (i:=8) rfl hx1 5 (by kernel_rfl);have hx3:=hcl.dep (i:=5) rfl hx2 4 (by kernel_rfl)
        have hx4:=hcl.dep (i:=4) rfl hx3 1 (by kernel_rfl);exact(bN hl0 hx4).elim
      refine wpOp_step rfl (fun K hK=>?_);go_simp;refine hK _ _ ?_;exact kP.step (q':=q) 1 (.slice (some ⟨u.heap.size,0,none⟩) 4 4) hBN hi rfl hA (by decide) hq (hR.alloc _) (by omega) hbz hN hX hXm hsz hcl hf hYm (dL _ u _) (xD u _ _ _ _ _ _ hN) rfl
     ·have hA:l.getD 10 false=false:=by
       cases hx:l.getD 10 false
       ·rfl
       ·have hx0:=hcl.dep (i:=10) rfl hx 9 (by kernel_rfl);have hx1:=hcl.dep (i:=9) rfl hx0 8 (by kernel_rfl)
        have hx2:=hcl.dep (i:=8) rfl hx1 5 (by kernel_rfl);have hx3:=hcl.dep (i:=5) rfl hx2 4 (by kernel_rfl)
        have hx4:=hcl.dep (i:=4) rfl hx3 3 (by kernel_rfl);have hx5:=hcl.dep (i:=3) rfl hx4 2 (by kernel_rfl)
        exact(bN hl0 hx5).elim
      refine wpOp_step rfl (fun K hK=>?_);go_simp;refine hK _ _ ?_;exact kP.step (q':=q) 2 (.pointer (some ⟨B,0,none⟩)) hBN hi rfl hA (by decide) hq hR (by omega) hbz hN hX hXm hsz hcl hf hYm (aH.refl _ u) rfl rfl
     ·have hA:l.getD 10 false=false:=by
       cases hx:l.getD 10 false
       ·rfl
       ·have hx0:=hcl.dep (i:=10) rfl hx 9 (by kernel_rfl);have hx1:=hcl.dep (i:=9) rfl hx0 8 (by kernel_rfl)
        have hx2:=hcl.dep (i:=8) rfl hx1 5 (by kernel_rfl);have hx3:=hcl.dep (i:=5) rfl hx2 4 (by kernel_rfl)
        have hx4:=hcl.dep (i:=4) rfl hx3 3 (by kernel_rfl);exact(bN hl0 hx4).elim
      have e1:vs 2= .pointer (some ⟨B,0,none⟩):=hf 2 (aO hi rfl 2 (by kernel_rfl)) (fun _=>hA);refine wpOp_step rfl (fun K hK=>?_);go_simp;refine(aI u _ q 4 hR (by omega) (by omega) (by omega)).mono ?_;rintro e u' ⟨x,rfl,x0,x1,hk⟩;refine hK _ _ ?_;exact kP.step (q':=q+1) 3 (.int .i64 x) hBN hi rfl hA (by decide) hq (hk.rdr hR) (by omega) hbz hN hX hXm hsz hcl hf hYm hk.beside ⟨x.toNat,by omega,by rw[Int.toNat_of_nonneg x0]⟩ (by first|(rw[←e1];done)|(rw[←e1];rfl))
     ·have hA:l.getD 10 false=false:=by
       cases hx:l.getD 10 false
       ·rfl
       ·have hx0:=hcl.dep (i:=10) rfl hx 9 (by kernel_rfl);have hx1:=hcl.dep (i:=9) rfl hx0 8 (by kernel_rfl)
        have hx2:=hcl.dep (i:=8) rfl hx1 5 (by kernel_rfl);have hx3:=hcl.dep (i:=5) rfl hx2 4 (by kernel_rfl)
        exact(bN hl0 hx3).elim
      obtain⟨b,e1,hb,hcb⟩:Sl u w2.heap.size 4 (vs 1):=hf 1 (aO hi rfl 1 (by kernel_rfl)) (fun _=>hA);obtain⟨j,hj,e2⟩:Pk 4 (vs 3):=hf 3 (aO hi rfl 3 (by kernel_rfl)) (fun _=>hA);obtain⟨x,hx⟩:=hcb j hj;have hji:(j:Int)<4:=by omega
      clear hcb;refine wpOp_step rfl (fun K hK=>?_);go_simp;refine hK _ _ ?_;exact kP.step (q':=q) 4 (.pointer (some ⟨b,j,none⟩)) hBN hi rfl hA (by decide) hq hR (by omega) hbz hN hX hXm hsz hcl hf hYm (aH.refl _ u) ⟨b,j,x,rfl,hb,hx⟩ (by first|(rw[←e1,←e2];done)|(rw[←e1,←e2];rfl))
     ·have hA:l.getD 10 false=false:=by
       cases hx:l.getD 10 false
       ·rfl
       ·have hx0:=hcl.dep (i:=10) rfl hx 9 (by kernel_rfl);have hx1:=hcl.dep (i:=9) rfl hx0 8 (by kernel_rfl)
        have hx2:=hcl.dep (i:=8) rfl hx1 5 (by kernel_rfl);exact(bN hl0 hx2).elim
      obtain⟨b,j,x,e1,hb,hx⟩:Ix u w2.heap.size (vs 4):=hf 4 (aO hi rfl 4 (by kernel_rfl)) (fun _=>hA);refine wpOp_step rfl (fun K hK=>?_);go_simp;refine hK _ _ ?_;exact kP.step (q':=q) 5 (.int .i64 x) hBN hi rfl hA (by decide) hq hR (by omega) hbz hN hX hXm hsz hcl hf hYm (aH.refl _ u) ⟨x,rfl⟩ (by first|(rw[←e1];done)|(rw[←e1];rfl))
     ·have hA:l.getD 10 false=false:=by
       cases hx:l.getD 10 false
       ·rfl
       ·have hx0:=hcl.dep (i:=10) rfl hx 9 (by kernel_rfl);have hx1:=hcl.dep (i:=9) rfl hx0 8 (by kernel_rfl)
        have hx2:=hcl.dep (i:=8) rfl hx1 7 (by kernel_rfl);have hx3:=hcl.dep (i:=7) rfl hx2 6 (by kernel_rfl)
        exact(bN hl0 hx3).elim
      refine wpOp_step rfl (fun K hK=>?_);go_simp;refine hK _ _ ?_;exact kP.step (q':=q) 6 (.pointer (some ⟨B,0,none⟩)) hBN hi rfl hA (by decide) hq hR (by omega) hbz hN hX hXm hsz hcl hf hYm (aH.refl _ u) rfl rfl
     ·have hA:l.getD 10 false=false:=by
       cases hx:l.getD 10 false
       ·rfl
       ·have hx0:=hcl.dep (i:=10) rfl hx 9 (by kernel_rfl);have hx1:=hcl.dep (i:=9) rfl hx0 8 (by kernel_rfl)
        have hx2:=hcl.dep (i:=8) rfl hx1 7 (by kernel_rfl);exact(bN hl0 hx2).elim
      have e1:vs 6= .pointer (some ⟨B,0,none⟩):=hf 6 (aO hi rfl 6 (by kernel_rfl)) (fun _=>hA);refine wpOp_step rfl (fun K hK=>?_);go_simp;refine(qY u _ q 2 hR (by omega) (by omega) (by omega)).mono ?_;rintro e u' ⟨x0,x1,x2,x3,q',rfl,hq',hr',hk⟩;refine hK _ _ ?_;exact kP.step (q':=q') 7 (.agg #[.int .i64 x0,.int .i64 x1,.int .i64 x2,.int .i64 x3]) hBN hi rfl hA (by decide) hq hr' (by omega) hbz hN hX hXm hsz hcl hf hYm hk ⟨x0,x1,x2,x3,rfl⟩ (by first|(rw[←e1];done)|(rw[←e1];rfl))
     ·have hA:l.getD 10 false=false:=by
       cases hx:l.getD 10 false
       ·rfl
       ·have hx0:=hcl.dep (i:=10) rfl hx 9 (by kernel_rfl);have hx1:=hcl.dep (i:=9) rfl hx0 8 (by kernel_rfl)
        exact(bN hl0 hx1).elim
      obtain⟨c,e1⟩:Ld (vs 5):=hf 5 (aO hi rfl 5 (by kernel_rfl)) (fun _=>hA);obtain⟨x0,x1,x2,x3,e2⟩:Ag (vs 7):=hf 7 (aO hi rfl 7 (by kernel_rfl)) (fun _=>hA);refine wpOp_step rfl (fun K hK=>?_);go_simp;refine hK _ _ ?_;exact kP.step (q':=q) 8 (.agg #[.int .i64 c,.int .i64 x0,.int .i64 x1,.int .i64 x2,.int .i64 x3]) hBN hi rfl hA (by decide) hq hR (by omega) hbz hN hX hXm hsz hcl hf hYm (aH.refl _ u) ⟨c,x0,x1,x2,x3,rfl⟩ (by first|(rw[←e1,←e2];done)|(rw[←e1,←e2];rfl))
     ·have hA:l.getD 10 false=false:=by
       cases hx:l.getD 10 false
       ·rfl
       ·have hx0:=hcl.dep (i:=10) rfl hx 9 (by kernel_rfl);exact(bN hl0 hx0).elim
      obtain⟨c,x0,x1,x2,x3,e1⟩:A5 (vs 8):=hf 8 (aO hi rfl 8 (by kernel_rfl)) (fun _=>hA);refine wpOp_step rfl (fun K hK=>?_);go_simp;refine hK _ _ ?_;exact kP.step (q':=q) 9 (.slice (some ⟨u.heap.size,0,none⟩) 1 1) hBN hi rfl hA (by decide) hq (hR.alloc _) (by omega) hbz hN hX hXm hsz hcl hf hYm (dL _ u _) (LC u _ _ _ _ _ _ hN) (by first|(rw[←e1];done)|(rw[←e1];rfl))
     ·have hA:l.getD 10 false=false:=by rw[Array.getD_eq_getD_getElem?,bG hl0];rfl
      have e0:vs 0= .slice a L.length cap:=hf 0 (aO hi rfl 0 (by kernel_rfl)) (fun _=>hA);obtain⟨b,c,x0,x1,x2,x3,e1,hbN,hbl,hbc⟩:S1 u w2.heap.size (vs 9):=hf 9 (aO hi rfl 9 (by kernel_rfl)) (fun _=>hA);have hgt:∀k,10<k→l.getD k false=false:=fun k hk=>by
       by_cases hk1:k=11
       ·subst hk1;cases hx:l.getD 11 false
        ·rfl
        ·exact(bN hl0 (hcl.dep (i:=11) rfl hx 10 (by kernel_rfl))).elim
       ·rw[Array.getD_eq_getD_getElem?,Array.getElem?_eq_none (by omega)];rfl
      refine wpOp_step rfl (fun K hK=>?_);refine step_append_lies _ rfl (.tmp 22) (.tmp 31) 22 rfl w.heap.size 79 i0 _ 5 40 Tryz.underlying22 hi0 hz0 hz1 hz2 rfl (by omega) _ L.length (aG L) e0 (hX hA) ⟨b,0,none⟩ 1 1 (aG [⟨c,⟨x0,x1,x2,x3⟩⟩]) e1 (by rw[aZ];rfl) (by rw[cK];exact World.news_of_block hbc) (dE _) (by omega) (by unfold maxLen;omega) (by omega) (iS hbz.size (Nat.le_refl _)) _ rfl ?_;intro g0 cap0 w9 hown1 hgrow hat hlt1;refine hK _ _ ?_;have hrow:∀k,(Value.slice a L.length cap).ownBlock=some k→w.heap.size≤k:=fun k hk=>((hX hA).lt k hk).1
      exact kP.last (.slice (some ⟨g0,0,none⟩) (L.length+1) cap0) hi rfl (by decide) hgt hq (hR.grown hgrow (fun k hk=>by have:=hrow k hk;omega)) (hbz.grown hgrow hrow) (iS hN hgrow.size) hsz hcl rfl ⟨L++[⟨c,⟨x0,x1,x2,x3⟩⟩],by rw[bE,List.length_append];exact hown1,by simp;omega⟩ rfl
     ·have hAt:l.getD 10 false=true:=aO hi rfl 10 (by kernel_rfl);have hy:=hf 10 hAt (fun h=>absurd h (by decide))
      refine wpOp_step rfl (fun K hK=>?_);go_simp;refine hK _ _ ?_;exact BZ 11 (vs 10) hi rfl hAt (by decide) hq hR hbz hN hsz hcl hf rfl hy rfl
    ·intro l b u hI hr;obtain⟨q,vs,rfl,hR,hq,hbz,hN,hX,hsz,hcl,hf⟩:=hI;have hall:=xZ (by kernel_rfl) hr hsz
     obtain⟨L2,h1,h2⟩:=hf 11 (hall 11 (by decide)) (fun h=>absurd h (by decide));exact⟨rfl,q,vs,L2,rfl,hR,by omega,hbz,h1,h2⟩
   ·rintro e b u ⟨rfl,q,vs,L2,rfl,hR,hq,hb,ho,hl⟩;obtain⟨a2,cap2,he,hout⟩:=aJ ho (by omega);rw[he];have HO9:=aA hout
    have HR9:=aA hR;clear ho hout he hR HR2 HB2 HO2;go_wp2;go_ret;exact⟨_,_,_,_,_,rfl,HO9.out.1,hl,HO9.out.2.2,by omega,HR9.out,hb⟩
  ·have HZ:=aA hz;have hzb:((L.length:Int)==0)=false:=by simpa using hz
   clear hz;go_wp2_with fail;refine(aI w2 B _ 3 HR2.out (by omega) (by omega) (by omega)).mono ?_;rintro e w3 ⟨x,rfl,x0,x1,hk⟩;have HR3:=aA (hk.rdr HR2.out)
   have HB3:=aA (HB2.out.trans hk.beside);have HO3:=aA (cQ HO2.out hk.beside hB)
   clear hk HR2 HB2 HO2;by_cases hx:x=0
   ·subst hx;go_wp2_with fail;refine Code.wp_mono (Q:=fun e b u=>e=Exit.normal∧∃(q:Nat) (vs:Nat→Value) (L2:List T),b={tmps:=#[Value.pointer (some ⟨B,0,none⟩),Value.int IntKind.i64 n,undef,undef,vs 11,Value.slice a L.length cap,Value.pointer (some ⟨B,0,none⟩),Value.slice a L.length cap,Value.pointer (some ⟨B,0,none⟩),Value.int IntKind.i64 n,Value.int IntKind.i64 0,Value.bool false,undef,Value.bool true,Value.slice a L.length cap,Value.int IntKind.i64 (L.length:Int),Value.bool false,Value.bool false,Value.pointer (some ⟨B,0,none⟩),Value.int IntKind.i64 0,Value.bool true,Value.bool true,vs 0,vs 1,vs 2,vs 3,vs 4,vs 5,vs 6,vs 7,vs 8,vs 9,vs 10,undef,undef,undef,undef,undef,undef,undef,undef,undef,undef,undef,undef,undef,undef,undef,undef,undef,undef,undef],defers:=[]}∧iN u B q∧q≤q1+1+1+360∧aH B w u∧u.ownsRow w.heap.size 79 5 (vs 11) L2.length (aG L2)∧L2.length≤5) ?_ ?_;rotate_left
    ·have hBN:B<w3.heap.size:=HR3.out.lt;refine nI (fun vs:Nat→Value=>({tmps:=#[Value.pointer (some ⟨B,0,none⟩),Value.int IntKind.i64 n,undef,undef,vs 11,Value.slice a L.length cap,Value.pointer (some ⟨B,0,none⟩),Value.slice a L.length cap,Value.pointer (some ⟨B,0,none⟩),Value.int IntKind.i64 n,Value.int IntKind.i64 0,Value.bool false,undef,Value.bool true,Value.slice a L.length cap,Value.int IntKind.i64 (L.length:Int),Value.bool false,Value.bool false,Value.pointer (some ⟨B,0,none⟩),Value.int IntKind.i64 0,Value.bool true,Value.bool true,vs 0,vs 1,vs 2,vs 3,vs 4,vs 5,vs 6,vs 7,vs 8,vs 9,vs 10,undef,undef,undef,undef,undef,undef,undef,undef,undef,undef,undef,undef,undef,undef,undef,undef,undef,undef,undef],defers:=[]}:Act)) (fun k=>match k with|0=>mK.is (.slice a L.length cap)|1=>mK.old (SK.sl 4)|2=>mK.old SK.rd|3=>mK.old (SK.pk 4)|4=>mK.old SK.ix|5=>mK.old SK.ld|6=>mK.old SK.rd|7=>mK.old SK.ag|8=>mK.a5|9=>mK.s1|10=>mK.own|11=>mK.own|_=>mK.own) 12 10 B (q1+1+1) w3.heap.size (fun u=>u.ownsRow w.heap.size 79 5 (.slice a L.length cap) L.length (aG L)) (fun u v=>∃L2,u.ownsRow w.heap.size 79 5 v L2.length (aG L2)∧L2.length≤5) w (by kernel_rfl) ?_ ?_ ?_
     ·exact kP.start (fun k=>if k=11 then .slice none 0 0 else undef) rfl HR3.out HB3.out (Nat.le_refl _) (aR HO3.out (aD _ _).drew)
     ·intro l b u hI i hi;obtain⟨q,vs,rfl,hR,hq,hbz,hN,hX,hsz,hcl,hf⟩:=hI;have hl0:=(mem_ready.1 hi).1
      have hund1:1≤fB l:=by have:=fC (bG hl0);omega
      have hXm:∀u u':World,u.ownsRow w.heap.size 79 5 (.slice a L.length cap) L.length (aG L)→aH B u u'→u'.ownsRow w.heap.size 79 5 (.slice a L.length cap) L.length (aG L):=fun u u' h hb=>cQ h hb hB;have hYm:∀(u u':World) (v:Value),(∃L2,u.ownsRow w.heap.size 79 5 v L2.length (aG L2)∧L2.length≤5)→aH B u u'→(∃L2,u'.ownsRow w.heap.size 79 5 v L2.length (aG L2)∧L2.length≤5):=fun u u' v h hb=>by obtain⟨L2,h1,h2⟩:=h;exact⟨L2,cQ h1 hb hB,h2⟩
      have hi12:i<12:=by obtain⟨_,o,ho,_⟩:=mem_ready.1 hi;exact(Array.getElem?_eq_some_iff.1 ho).1
      rcases(show i=0∨i=1∨i=2∨i=3∨i=4∨i=5∨i=6∨i=7∨i=8∨i=9∨i=10∨i=11 from by omega)with rfl|rfl|rfl|rfl|rfl|rfl|rfl|rfl|rfl|rfl|rfl|rfl
      ·have hA:l.getD 10 false=false:=by
        cases hx:l.getD 10 false
        ·rfl
        ·have hx0:=hcl.dep (i:=10) rfl hx 0 (by kernel_rfl);exact(bN hl0 hx0).elim
       refine wpOp_step rfl (fun K hK=>?_);go_simp;refine hK _ _ ?_;exact kP.step (q':=q) 0 (.slice a L.length cap) hBN hi rfl hA (by decide) hq hR (by omega) hbz hN hX hXm hsz hcl hf hYm (aH.refl _ u) rfl rfl
      ·have hA:l.getD 10 false=false:=by
        cases hx:l.getD 10 false
        ·rfl
        ·have hx0:=hcl.dep (i:=10) rfl hx 9 (by kernel_rfl);have hx1:=hcl.dep (i:=9) rfl hx0 8 (by kernel_rfl)
         have hx2:=hcl.dep (i:=8) rfl hx1 5 (by kernel_rfl);have hx3:=hcl.dep (i:=5) rfl hx2 4 (by kernel_rfl)
         have hx4:=hcl.dep (i:=4) rfl hx3 1 (by kernel_rfl);exact(bN hl0 hx4).elim
       refine wpOp_step rfl (fun K hK=>?_);go_simp;refine hK _ _ ?_;exact kP.step (q':=q) 1 (.slice (some ⟨u.heap.size,0,none⟩) 4 4) hBN hi rfl hA (by decide) hq (hR.alloc _) (by omega) hbz hN hX hXm hsz hcl hf hYm (dL _ u _) (xD u _ _ _ _ _ _ hN) rfl
      ·have hA:l.getD 10 false=false:=by
        cases hx:l.getD 10 false
        ·rfl
        ·have hx0:=hcl.dep (i:=10) rfl hx 9 (by kernel_rfl);have hx1:=hcl.dep (i:=9) rfl hx0 8 (by kernel_rfl)
         have hx2:=hcl.dep (i:=8) rfl hx1 5 (by kernel_rfl);have hx3:=hcl.dep (i:=5) rfl hx2 4 (by kernel_rfl)
         have hx4:=hcl.dep (i:=4) rfl hx3 3 (by kernel_rfl);have hx5:=hcl.dep (i:=3) rfl hx4 2 (by kernel_rfl)
         exact(bN hl0 hx5).elim
       refine wpOp_step rfl (fun K hK=>?_);go_simp;refine hK _ _ ?_;exact kP.step (q':=q) 2 (.pointer (some ⟨B,0,none⟩)) hBN hi rfl hA (by decide) hq hR (by omega) hbz hN hX hXm hsz hcl hf hYm (aH.refl _ u) rfl rfl
      ·have hA:l.getD 10 false=false:=by
        cases hx:l.getD 10 false
        ·rfl
        ·have hx0:=hcl.dep (i:=10) rfl hx 9 (by kernel_rfl);have hx1:=hcl.dep (i:=9) rfl hx0 8 (by kernel_rfl)
         have hx2:=hcl.dep (i:=8) rfl hx1 5 (by kernel_rfl);have hx3:=hcl.dep (i:=5) rfl hx2 4 (by kernel_rfl)
         have hx4:=hcl.dep (i:=4) rfl hx3 3 (by kernel_rfl);exact(bN hl0 hx4).elim
       have e1:vs 2= .pointer (some ⟨B,0,none⟩):=hf 2 (aO hi rfl 2 (by kernel_rfl)) (fun _=>hA);refine wpOp_step rfl (fun K hK=>?_);go_simp;refine(aI u _ q 4 hR (by omega) (by omega) (by omega)).mono ?_;rintro e u' ⟨x,rfl,x0,x1,hk⟩;refine hK _ _ ?_;exact kP.step (q':=q+1) 3 (.int .i64 x) hBN hi rfl hA (by decide) hq (hk.rdr hR) (by omega) hbz hN hX hXm hsz hcl hf hYm hk.beside ⟨x.toNat,by omega,by rw[Int.toNat_of_nonneg x0]⟩ (by first|(rw[←e1];done)|(rw[←e1];rfl))
      ·have hA:l.getD 10 false=false:=by
        cases hx:l.getD 10 false
        ·rfl
        ·have hx0:=hcl.dep (i:=10) rfl hx 9 (by kernel_rfl);have hx1:=hcl.dep (i:=9) rfl hx0 8 (by kernel_rfl)
         have hx2:=hcl.dep (i:=8) rfl hx1 5 (by kernel_rfl);have hx3:=hcl.dep (i:=5) rfl hx2 4 (by kernel_rfl)
         exact(bN hl0 hx3).elim
       obtain⟨b,e1,hb,hcb⟩:Sl u w3.heap.size 4 (vs 1):=hf 1 (aO hi rfl 1 (by kernel_rfl)) (fun _=>hA);obtain⟨j,hj,e2⟩:Pk 4 (vs 3):=hf 3 (aO hi rfl 3 (by kernel_rfl)) (fun _=>hA);obtain⟨x,hx⟩:=hcb j hj;have hji:(j:Int)<4:=by omega
       clear hcb;refine wpOp_step rfl (fun K hK=>?_);go_simp;refine hK _ _ ?_;exact kP.step (q':=q) 4 (.pointer (some ⟨b,j,none⟩)) hBN hi rfl hA (by decide) hq hR (by omega) hbz hN hX hXm hsz hcl hf hYm (aH.refl _ u) ⟨b,j,x,rfl,hb,hx⟩ (by first|(rw[←e1,←e2];done)|(rw[←e1,←e2];rfl))
      ·have hA:l.getD 10 false=false:=by
        cases hx:l.getD 10 false
        ·rfl
        ·have hx0:=hcl.dep (i:=10) rfl hx 9 (by kernel_rfl);have hx1:=hcl.dep (i:=9) rfl hx0 8 (by kernel_rfl)
         have hx2:=hcl.dep (i:=8) rfl hx1 5 (by kernel_rfl);exact(bN hl0 hx2).elim
       obtain⟨b,j,x,e1,hb,hx⟩:Ix u w3.heap.size (vs 4):=hf 4 (aO hi rfl 4 (by kernel_rfl)) (fun _=>hA);refine wpOp_step rfl (fun K hK=>?_);go_simp;refine hK _ _ ?_;exact kP.step (q':=q) 5 (.int .i64 x) hBN hi rfl hA (by decide) hq hR (by omega) hbz hN hX hXm hsz hcl hf hYm (aH.refl _ u) ⟨x,rfl⟩ (by first|(rw[←e1];done)|(rw[←e1];rfl))
      ·have hA:l.getD 10 false=false:=by
        cases hx:l.getD 10 false
        ·rfl
        ·have hx0:=hcl.dep (i:=10) rfl hx 9 (by kernel_rfl);have hx1:=hcl.dep (i:=9) rfl hx0 8 (by kernel_rfl)
         have hx2:=hcl.dep (i:=8) rfl hx1 7 (by kernel_rfl);have hx3:=hcl.dep (i:=7) rfl hx2 6 (by kernel_rfl)
         exact(bN hl0 hx3).elim
       refine wpOp_step rfl (fun K hK=>?_);go_simp;refine hK _ _ ?_;exact kP.step (q':=q) 6 (.pointer (some ⟨B,0,none⟩)) hBN hi rfl hA (by decide) hq hR (by omega) hbz hN hX hXm hsz hcl hf hYm (aH.refl _ u) rfl rfl
      ·have hA:l.getD 10 false=false:=by
        cases hx:l.getD 10 false
        ·rfl
        ·have hx0:=hcl.dep (i:=10) rfl hx 9 (by kernel_rfl);have hx1:=hcl.dep (i:=9) rfl hx0 8 (by kernel_rfl)
         have hx2:=hcl.dep (i:=8) rfl hx1 7 (by kernel_rfl);exact(bN hl0 hx2).elim
       have e1:vs 6= .pointer (some ⟨B,0,none⟩):=hf 6 (aO hi rfl 6 (by kernel_rfl)) (fun _=>hA);refine wpOp_step rfl (fun K hK=>?_);go_simp;refine(qY u _ q 2 hR (by omega) (by omega) (by omega)).mono ?_;rintro e u' ⟨x0,x1,x2,x3,q',rfl,hq',hr',hk⟩;refine hK _ _ ?_;exact kP.step (q':=q') 7 (.agg #[.int .i64 x0,.int .i64 x1,.int .i64 x2,.int .i64 x3]) hBN hi rfl hA (by decide) hq hr' (by omega) hbz hN hX hXm hsz hcl hf hYm hk ⟨x0,x1,x2,x3,rfl⟩ (by first|(rw[←e1];done)|(rw[←e1];rfl))
      ·have hA:l.getD 10 false=false:=by
        cases hx:l.getD 10 false
        ·rfl
        ·have hx0:=hcl.dep (i:=10) rfl hx 9 (by kernel_rfl);have hx1:=hcl.dep (i:=9) rfl hx0 8 (by kernel_rfl)
         exact(bN hl0 hx1).elim
       obtain⟨c,e1⟩:Ld (vs 5):=hf 5 (aO hi rfl 5 (by kernel_rfl)) (fun _=>hA);obtain⟨x0,x1,x2,x3,e2⟩:Ag (vs 7):=hf 7 (aO hi rfl 7 (by kernel_rfl)) (fun _=>hA);refine wpOp_step rfl (fun K hK=>?_);go_simp;refine hK _ _ ?_;exact kP.step (q':=q) 8 (.agg #[.int .i64 c,.int .i64 x0,.int .i64 x1,.int .i64 x2,.int .i64 x3]) hBN hi rfl hA (by decide) hq hR (by omega) hbz hN hX hXm hsz hcl hf hYm (aH.refl _ u) ⟨c,x0,x1,x2,x3,rfl⟩ (by first|(rw[←e1,←e2];done)|(rw[←e1,←e2];rfl))
      ·have hA:l.getD 10 false=false:=by
        cases hx:l.getD 10 false
        ·rfl
        ·have hx0:=hcl.dep (i:=10) rfl hx 9 (by kernel_rfl);exact(bN hl0 hx0).elim
       obtain⟨c,x0,x1,x2,x3,e1⟩:A5 (vs 8):=hf 8 (aO hi rfl 8 (by kernel_rfl)) (fun _=>hA);refine wpOp_step rfl (fun K hK=>?_);go_simp;refine hK _ _ ?_;exact kP.step (q':=q) 9 (.slice (some ⟨u.heap.size,0,none⟩) 1 1) hBN hi rfl hA (by decide) hq (hR.alloc _) (by omega) hbz hN hX hXm hsz hcl hf hYm (dL _ u _) (LC u _ _ _ _ _ _ hN) (by first|(rw[←e1];done)|(rw[←e1];rfl))
      ·have hA:l.getD 10 false=false:=by rw[Array.getD_eq_getD_getElem?,bG hl0];rfl
       have e0:vs 0= .slice a L.length cap:=hf 0 (aO hi rfl 0 (by kernel_rfl)) (fun _=>hA);obtain⟨b,c,x0,x1,x2,x3,e1,hbN,hbl,hbc⟩:S1 u w3.heap.size (vs 9):=hf 9 (aO hi rfl 9 (by kernel_rfl)) (fun _=>hA);have hgt:∀k,10<k→l.getD k false=false:=fun k hk=>by
        by_cases hk1:k=11
        ·subst hk1;cases hx:l.getD 11 false
         ·rfl
         ·exact(bN hl0 (hcl.dep (i:=11) rfl hx 10 (by kernel_rfl))).elim
        ·rw[Array.getD_eq_getD_getElem?,Array.getElem?_eq_none (by omega)];rfl
       refine wpOp_step rfl (fun K hK=>?_);refine step_append_lies _ rfl (.tmp 22) (.tmp 31) 22 rfl w.heap.size 79 i0 _ 5 40 Tryz.underlying22 hi0 hz0 hz1 hz2 rfl (by omega) _ L.length (aG L) e0 (hX hA) ⟨b,0,none⟩ 1 1 (aG [⟨c,⟨x0,x1,x2,x3⟩⟩]) e1 (by rw[aZ];rfl) (by rw[cK];exact World.news_of_block hbc) (dE _) (by omega) (by unfold maxLen;omega) (by omega) (iS hbz.size (Nat.le_refl _)) _ rfl ?_;intro g0 cap0 w9 hown1 hgrow hat hlt1;refine hK _ _ ?_;have hrow:∀k,(Value.slice a L.length cap).ownBlock=some k→w.heap.size≤k:=fun k hk=>((hX hA).lt k hk).1
       exact kP.last (.slice (some ⟨g0,0,none⟩) (L.length+1) cap0) hi rfl (by decide) hgt hq (hR.grown hgrow (fun k hk=>by have:=hrow k hk;omega)) (hbz.grown hgrow hrow) (iS hN hgrow.size) hsz hcl rfl ⟨L++[⟨c,⟨x0,x1,x2,x3⟩⟩],by rw[bE,List.length_append];exact hown1,by simp;omega⟩ rfl
      ·have hAt:l.getD 10 false=true:=aO hi rfl 10 (by kernel_rfl);have hy:=hf 10 hAt (fun h=>absurd h (by decide))
       refine wpOp_step rfl (fun K hK=>?_);go_simp;refine hK _ _ ?_;exact BZ 11 (vs 10) hi rfl hAt (by decide) hq hR hbz hN hsz hcl hf rfl hy rfl
     ·intro l b u hI hr;obtain⟨q,vs,rfl,hR,hq,hbz,hN,hX,hsz,hcl,hf⟩:=hI;have hall:=xZ (by kernel_rfl) hr hsz
      obtain⟨L2,h1,h2⟩:=hf 11 (hall 11 (by decide)) (fun h=>absurd h (by decide));exact⟨rfl,q,vs,L2,rfl,hR,by omega,hbz,h1,h2⟩
    ·rintro e b u ⟨rfl,q,vs,L2,rfl,hR,hq,hb,ho,hl⟩;obtain⟨a2,cap2,he,hout⟩:=aJ ho (by omega);rw[he];have HO9:=aA hout
     have HR9:=aA hR;clear ho hout he hR HR3 HB3 HO3;go_wp2;go_ret;exact⟨_,_,_,_,_,rfl,HO9.out.1,hl,HO9.out.2.2,by omega,HR9.out,hb⟩
   ·have hxb:(x==0)=false:=by simp[hx]
    go_wp2_with fail;refine(aI w3 B _ 2 HR3.out (by omega) (by omega) (by omega)).mono ?_;rintro e w4 ⟨y,rfl,y0,y1,hk⟩;have HR4:=aA (hk.rdr HR3.out)
    have HB4:=aA (HB3.out.trans hk.beside);have HO4:=aA (cQ HO3.out hk.beside hB)
    clear hk HR3 HB3 HO3;obtain⟨a',cap',he,ho⟩:=aJ HO4.out (by omega);cases he;have hL0:0<L.length:=by have:=HZ.out;omega
    have hcap:L.length≤cap:=ho.1.1;have hblk:∃b off,a=some ⟨b,off,none⟩:=by
     rcases ho.1.2.2 with h0|⟨b,off,he,_,_⟩
     ·omega
     ·exact⟨b,off,he⟩
    obtain⟨b,off,rfl⟩:=hblk;have HRD:=aA ho.1
    have HU:=aA (ho.2.2);clear ho;by_cases hy:y=0
    ·subst hy;have HO5:=aA (aS w4 w.heap.size HB4.out.size)
     have HN:=aA ((HRD.out.below (aF w4 (.cells #[] 79))).news);have HB5:=aA (HB4.out.alloc (.cells #[] 79))
     have HR5:=aA (HR4.out.alloc (.cells #[] 79));have hs5:w.heap.size≤(w4.alloc (.cells #[] 79)).heap.size:=HB5.out.size
     go_wp2_with (at_builtin;refine wpList_append_lies _ rfl (.tmp 37) (.tmp 38) 22 rfl w.heap.size 79 i0 _ 5 40 Tryz.underlying22 hi0 hz0 hz1 hz2 rfl (by omega) _ 0 (aG []) rfl (HO5.out) ⟨b,off,none⟩ L.length cap (aG L) rfl (by simp[aZ]) (HN.out) (tV L) (by omega) (by unfold maxLen;omega) (by omega) (hs5) _ rfl ?_;intro g0 cap0 w9 hown1 hgrow hat hlt1);have HR6:=aA (HR5.out.grown hgrow (fun k hk=>by cases hk;exact eH hB HB4.out.size))
     have HB6:=aA (HB5.out.grown hgrow (fun k hk=>by cases hk;exact HB4.out.size));obtain⟨a6,cap6,he,ho⟩:=aJ (w:=w9) (lo:=w.heap.size) (v:=.slice (some ⟨g0,0,none⟩) L.length cap0) (L:=L) (by simpa[aG]using hown1) (by omega);simp only[Value.slice.injEq]at he;obtain⟨rfl,_,rfl⟩:=he;have hg0:w.heap.size≤g0:=by
      rcases ho.2.2 with h|⟨g,off2,he,hg⟩
      ·omega
      ·cases he;exact hg
     rcases ho.2.1 with h0|⟨g,off2,N,F,he,hrw,hN,hF⟩
     ·omega
     cases he;simp only[Nat.zero_add]at hN hF;have hcap6:L.length≤cap0:=ho.1.1
     have HRW:=aA hrw;have HF:=aA hF
     clear ho hrw hF hown1 hgrow hat hlt1 HO5 HN HB5 HR5;refine(qY w9 B _ 1 HR6.out (by omega) (by omega) (by omega)).mono ?_;rintro e w10 ⟨m1,m2,m3,m4,q6,rfl,hq6,r6,s6⟩;have HR7:=aA r6
     have HB7:=aA (HB6.out.trans s6);have hrw:=HRW.out.of_block (s6.block g0 HRW.out.lt (by omega))
     have HR8:=aA hrw;have k1:=hrw.cell (i:=1) (by omega)
     have k2:=hrw.cell (i:=2) (by omega);have k3:=hrw.cell (i:=3) (by omega)
     have k4:=hrw.cell (i:=4) (by omega);have f1:=hrw.frozen 1
     have f2:=hrw.frozen 2;have f3:=hrw.frozen 3
     have f4:=hrw.frozen 4;have hL0':(0:Int)<(L.length:Int):=by omega
     clear r6 s6 hrw HR6 HB6 HRW;go_wp2;go_ret;exact⟨_,_,_,_,q6,rfl,FS (f:=lf L) HR8.out hL0 hN HF.out hcap6 (by omega),by omega,.inr ⟨g0,0,rfl,hg0⟩,by omega,(((HR7.out.set (by omega)).set (by omega)).set (by omega)).set (by omega),(((HB7.out.set hg0).set hg0).set hg0).set hg0⟩
    ·have hyb:(y==0)=false:=by simp[hy]
     rcases HRD.out.2.2 with h0|⟨b',off',he,hblt,hcl⟩
     ·omega
     cases he;obtain⟨c0,c1,c2,c3,c4⟩:=hcl 0 (by omega);simp only[Nat.zero_mul,Nat.add_zero]at c0 c1 c2 c3 c4;have HB5:=aA (HB4.out.alloc (.cells #[.int .i64 (lf L 0).c,.int .i64 (lf L 0).m.x,.int .i64 (lf L 0).m.y,.int .i64 (lf L 0).m.d,.int .i64 (lf L 0).m.e] 79))
     have hs5:w.heap.size≤(w4.alloc (.cells #[.int .i64 (lf L 0).c,.int .i64 (lf L 0).m.x,.int .i64 (lf L 0).m.y,.int .i64 (lf L 0).m.d,.int .i64 (lf L 0).m.e] 79)).heap.size:=HB5.out.size;have HO5:=aA (HO4.out.alloc (.cells #[.int .i64 (lf L 0).c,.int .i64 (lf L 0).m.x,.int .i64 (lf L 0).m.y,.int .i64 (lf L 0).m.d,.int .i64 (lf L 0).m.e] 79))
     have HR5:=aA (HR4.out.alloc (.cells #[.int .i64 (lf L 0).c,.int .i64 (lf L 0).m.x,.int .i64 (lf L 0).m.y,.int .i64 (lf L 0).m.d,.int .i64 (lf L 0).m.e] 79));clear hcl;go_wp2_with (at_builtin;refine wpList_append_lies _ rfl (.tmp 46) (.tmp 50) 22 rfl w.heap.size 79 i0 _ 5 40 Tryz.underlying22 hi0 hz0 hz1 hz2 rfl (by omega) _ L.length (aG L) rfl (HO5.out) ⟨w4.heap.size,0,none⟩ 1 1 (aG [lf L 0]) rfl (by simp[aZ]) (by rw[cK];exact World.news_of_block (heap_alloc_new w4 _)) (dE _) (by omega) (by unfold maxLen;omega) (by omega) (hs5) _ rfl ?_;intro g0 cap0 w9 hown1 hgrow hat hlt1);have hrow:∀k,(Value.slice (some ⟨b,off,none⟩) L.length cap).ownBlock=some k→w.heap.size≤k:=fun k hk=>(HO4.out.lt k hk).1
     have HR6:=aA (HR5.out.grown hgrow (fun k hk=>by have:=hrow k hk;omega));have HB6:=aA (HB5.out.grown hgrow hrow)
     have hout:=aJ (L:=L++[lf L 0]) (by rw[bE,List.length_append];exact hown1) (by simp;omega);go_ret;obtain⟨a6,cap6,he,ho⟩:=hout;simp only[Value.slice.injEq]at he;obtain⟨rfl,_,rfl⟩:=he
     exact⟨_,_,_,lf (L++[lf L 0]),_,rfl,by have:=ho.1;simpa using this,by omega,by
      rcases ho.2.2 with h|h
      ·simp at h
      ·exact .inr h,by omega,HR6.out,HB6.out⟩
end Go.Proofs.YtkcmamepoplcdaaGreatDoor
