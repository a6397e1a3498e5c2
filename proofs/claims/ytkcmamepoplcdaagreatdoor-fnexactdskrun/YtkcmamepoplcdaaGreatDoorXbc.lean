/-
  The program reads a term (polTermRead): the walk.
-/
import Derived.Test.YtkcmamepoplcdaaGreatDoorXbb
import Derived.RangeFuncBox
set_option maxHeartbeats 8000000
set_option maxRecDepth 100000
namespace Go.Proofs.YtkcmamepoplcdaaGreatDoor
open Go.Shelf Go.RowKit
set_option linter.unusedVariables false
set_option linter.unusedSimpArgs false
abbrev C5 (u:World) (b:Nat) (c x y d e:Int):Prop:=u.cell? ⟨b,0,none⟩=some (.int .i64 c)∧u.cell? ⟨b,1,none⟩=some (.int .i64 x)∧u.cell? ⟨b,2,none⟩=some (.int .i64 y)∧u.cell? ⟨b,3,none⟩=some (.int .i64 d)∧u.cell? ⟨b,4,none⟩=some (.int .i64 e)
def KD (w:World) (wr:World) (t:T):Prop:=Below w.heap.size w wr∧W5 wr w.heap.size 0 0 0 0 0∧W5 wr (w.heap.size+1) t.c t.m.x t.m.y t.m.d t.m.e
theorem KD.below {w wr w':World} {t:T} (h:KD w wr t) (hb:Below wr.heap.size wr w'):KD w w' t:=⟨aC h.1 hb,h.2.1.below hb,h.2.2.below hb⟩
theorem QB (w:World):KD w ((w.alloc (.cells #[.int .i64 0,.int .i64 0,.int .i64 0,.int .i64 0,.int .i64 0] 79)).alloc (.cells #[.int .i64 1,.int .i64 0,.int .i64 0,.int .i64 0,.int .i64 0] 79)) ⟨1,⟨0,0,0,0⟩⟩:=by
 refine⟨aC (aF w _) (aF _ _),(W5.box w 79 0 0 0 0 0).below (aF _ _),?_⟩;have:=W5.box (w.alloc (.cells #[.int .i64 0,.int .i64 0,.int .i64 0,.int .i64 0,.int .i64 0] 79)) 79 1 0 0 0 0
 rw[World.size_alloc]at this;exact this
theorem KD.setC {w wr:World} {t:T} (h:KD w wr t) (c:Int):KD w (wr.setCell ⟨w.heap.size+1,0,none⟩ (.int .i64 c)) ⟨c,t.m⟩:=⟨h.1.setCell (by simp) _,h.2.1.other (by omega) _,h.2.2.set0 c⟩
theorem KD.setM {w wr:World} {t:T} (h:KD w wr t) (x y d e:Int):KD w ((((wr.setCell ⟨w.heap.size+1,1,none⟩ (.int .i64 x)).setCell ⟨w.heap.size+1,2,none⟩ (.int .i64 y)).setCell ⟨w.heap.size+1,3,none⟩ (.int .i64 d)).setCell ⟨w.heap.size+1,4,none⟩ (.int .i64 e)) ⟨t.c,⟨x,y,d,e⟩⟩:=
 ⟨(((h.1.setCell (by simp) _).setCell (by simp) _).setCell (by simp) _).setCell (by simp) _,(((h.2.1.other (by omega) _).other (by omega) _).other (by omega) _).other (by omega) _,(((h.2.2.set1 x).set2 y).set3 d).set4 e⟩
def uV (w:World) (s:List UInt8) (r:Ending) (w':World):Prop:=r= .returned (.tuple #[.agg #[.int .i64 (eZ s).1.c,.int .i64 (eZ s).1.m.x,.int .i64 (eZ s).1.m.y,.int .i64 (eZ s).1.m.d,.int .i64 (eZ s).1.m.e],.bool (eZ s).2])∧Below w.heap.size w w'
theorem eU {u:World} {b b':Nat} {c x y d e:Int} (h:C5 u b c x y d e) (hn:b'≠b) (v0 v1 v2 v3 v4:Value):C5 (((((u.setCell ⟨b',0,none⟩ v0).setCell ⟨b',1,none⟩ v1).setCell ⟨b',2,none⟩ v2).setCell ⟨b',3,none⟩ v3).setCell ⟨b',4,none⟩ v4) b c x y d e:=by
 have ne:∀i j,(⟨b',i,none⟩:Addr)≠⟨b,j,none⟩:=fun i j q=>hn (by cases q;rfl);refine⟨?_,?_,?_,?_,?_⟩;all_goals(rw[World.cell?_setCell_other _ _ _ _ (ne _ _),World.cell?_setCell_other _ _ _ _ (ne _ _),World.cell?_setCell_other _ _ _ _ (ne _ _),World.cell?_setCell_other _ _ _ _ (ne _ _),World.cell?_setCell_other _ _ _ _ (ne _ _)])
 ·exact h.1
 ·exact h.2.1
 ·exact h.2.2.1
 ·exact h.2.2.2.1
 ·exact h.2.2.2.2
theorem gR {u u':World} {n b:Nat} {c x y d e:Int} (h:C5 u b c x y d e) (hb:Below n u u') (hn:b<n):C5 u' b c x y d e:=
 ⟨(hb.cell (p:=⟨b,0,none⟩) hn).trans h.1,(hb.cell (p:=⟨b,1,none⟩) hn).trans h.2.1,(hb.cell (p:=⟨b,2,none⟩) hn).trans h.2.2.1,(hb.cell (p:=⟨b,3,none⟩) hn).trans h.2.2.2.1,(hb.cell (p:=⟨b,4,none⟩) hn).trans h.2.2.2.2⟩
theorem aN {n:Nat} {u w':World} (h:Below n u.drew w'):Below n u w':=⟨h.os,h.tape,h.output,h.size,h.block⟩
theorem bT {u:World} {b:Nat} {c x y d e:Int} (h:C5 u b c x y d e):C5 u.drew b c x y d e:=h
theorem vV (s:List UInt8) (hs:s.length≤400) (w:World) (hE:Er w) (hT:Tb w):Calls Tryz.prog 135 #[.string ⟨s.toArray⟩] w (uV w s):=by
 have HE:=aA hE;have HT:=aA hT
 obtain⟨d,hd⟩:∃d,bV s=d:=⟨_,rfl⟩
 have hdl:d.length≤s.length:=by rw[←hd];exact gV s
 have hdI:(d.length:Int)≤400:=by omega
 obtain⟨rs,hrs⟩:∃r,s.drop d.length=r:=⟨_,rfl⟩
 have hrl:rs.length≤400:=by rw[←hrs];simp;omega
 have hDD:∀c∈d,jH c=true:=by rw[←hd];exact GO s
 have HR0:=aA (QB w);have hC:=yB s (by omega) (w.alloc (.cells #[.int .i64 0,.int .i64 0,.int .i64 0,.int .i64 0,.int .i64 0] 79))
 rw[hd]at hC;have HLC:=aA hC
 have hfr:=fun u=>jT (l:=s) (k:=d.length) hdl u;rw[hrs]at hfr;have HNC:Hid (wP d=none→eZ s=(⟨0,⟨0,0,0,0⟩⟩,false)):=aA (fun h=>JT (by rw[hd];exact h))
 have HNM:Hid (∀c,wP d=some c→sM rs=none→eZ s=(⟨0,⟨0,0,0,0⟩⟩,false)):=aA (fun c h h2=>JU (by rw[hd];exact h) (by rw[hd,hrs];exact h2));have HIS:Hid (∀c m,wP d=some c→sM rs=some m→eZ s=(⟨c,m⟩,decide (fE ⟨c,m⟩=s))):=aA (fun c m h h2=>CK (by rw[hd];exact h) (by rw[hd,hrs];exact h2))
 clear hC hd hrs hE hT;obtain⟨PS,hPS⟩:∃Q:Ending→World→Prop,uV w s=Q:=⟨_,rfl⟩
 have HPN:Hid (eZ s=(⟨0,⟨0,0,0,0⟩⟩,false)→∀w',Below w.heap.size w w'→PS (.returned (.tuple #[.agg #[.int .i64 0,.int .i64 0,.int .i64 0,.int .i64 0,.int .i64 0],.bool false])) w'):=by rw[←hPS];exact aA (fun h w' hb=>⟨by rw[h],hb⟩)
 have HPY:Hid (∀c x y d e b,eZ s=(⟨c,⟨x,y,d,e⟩⟩,b)→∀w',Below w.heap.size w w'→PS (.returned (.tuple #[.agg #[.int .i64 c,.int .i64 x,.int .i64 y,.int .i64 d,.int .i64 e],.bool b])) w'):=by rw[←hPS];exact aA (fun c x y d e b h w' hb=>⟨by rw[h],hb⟩)
 rw[hPS];clear hPS;go_enter Tryz.func135,Tryz.ntmps135;go_wp2_with fail;refine HLC.out.mono ?_;rintro r w1 ⟨rfl,hw1⟩;obtain rfl:=hw1.symm;clear hw1;by_cases hd0:d=[]
 ·have hde:d.isEmpty=true:=by rw[hd0];rfl
  have HCC:Hid (wP d=some ((1:Nat):Int)):=by rw[hd0];exact aA rfl
  clear hd0 hDD HLC;by_cases hr0:rs=[]
  ·have hre:rs.isEmpty=true:=by rw[hr0];rfl
   have HMM:Hid (sM rs=some ⟨0,0,0,0⟩):=by rw[hr0];exact aA rfl
   clear hr0;have HR1:=HR0
   go_wp2_with fail;clear HR0;generalize((w.alloc (.cells #[.int .i64 0,.int .i64 0,.int .i64 0,.int .i64 0,.int .i64 0] 79)).alloc (.cells #[.int .i64 1,.int .i64 0,.int .i64 0,.int .i64 0,.int .i64 0] 79))=wa at HR1⊢;have HPT:Hid (∀u:World,Tb u→_):=aA (fun u (hu:Tb u)=>gB 1 (by omega) 0 0 0 0 (by decide) u hu)
   obtain⟨S,hS⟩:∃S,fE ⟨((1:Nat):Int),⟨0,0,0,0⟩⟩=S:=⟨_,rfl⟩
   have HPT2:Hid (∀u:World,Tb u→Calls Tryz.prog 62 #[.agg #[.int .i64 ((1:Nat):Int),.int .i64 0,.int .i64 0,.int .i64 0,.int .i64 0]] u fun r w'=>r= .returned (.string ⟨S.toArray⟩)∧Below u.heap.size u w'):=by rw[←hS];exact HPT
   have HIF:Hid (eZ s=(⟨((1:Nat):Int),⟨0,0,0,0⟩⟩,decide (S=s))):=by rw[←hS];exact aA (HIS.out _ _ HCC.out HMM.out)
   clear hS HPT;obtain⟨⟨x0,x1,x2,x3,x4⟩,xz⟩:=HR1.out.2.2;have hSC:C5 wa (w.heap.size+1) ((1:Nat):Int) 0 0 0 0:=⟨x0,x1,x2,x3,x4⟩
   have HSC:=aA hSC;have HBE:=aA HR1.out.1
   have HTE:=aA (HT.out.below HR1.out.1);have HTZ:=aA HR1.out.2.1
   have HLT:=aA HR1.out.2.2.lt;have hn1:w.heap.size≠w.heap.size+1:=by omega
   clear x0 x1 x2 x3 x4 xz hSC;by_cases q:S=s
   ·have HPF:=aA (HPY.out _ _ _ _ _ _ HIF.out);rw[decide_eq_true q]at HPF;clear HIF HIS HNM HNC HPN HPY HCC HMM;subst q;obtain⟨⟨r0,r1,r2,r3,r4⟩,rz⟩:=HTZ.out
    go_region_held3 (fun u=>C5 u (w.heap.size+1) ((1:Nat):Int) 0 0 0 0) (first|with_reducible exact HSC.out|with_reducible exact bT HSC.out|with_reducible exact HC7.out|with_reducible exact bT HC7.out|with_reducible exact eU HC7.out hn1 _ _ _ _ _|with_reducible exact bT (eU HC7.out hn1 _ _ _ _ _)) (first|(go_at_call 62;refine(HPT2.out _ ?_).mono ?_;(first|with_reducible exact HTE.out|with_reducible exact HTE.out.below (aD _ _).drew);rintro r w7 ⟨rfl,hb7⟩;have HB7:=aA hb7;have HZ7:=aA (HTZ.out.below (aN hb7));have HC7:=aA (gR HSC.out (aN hb7) HLT.out);obtain⟨⟨r0,r1,r2,r3,r4⟩,rz⟩:=HZ7.out;clear hb7))
    go_wp2;refine bC (v:=.tuple #[.agg #[.int .i64 ((1:Nat):Int),.int .i64 0,.int .i64 0,.int .i64 0,.int .i64 0],.bool true]) (by simp[results,Tryz.results135,go_sem, *]) rfl (HPF.out _ ?_);first|exact cF (aC HBE.out (aN HB7.out)) (Nat.le_refl _) _ _ _ _ _|exact(cF (aC HBE.out (aN HB7.out)) (Nat.le_refl _) _ _ _ _ _).drew
   ·have HPF:=aA (HPY.out _ _ _ _ _ _ HIF.out);rw[decide_eq_false q]at HPF;have q1:(S==s)=false:=beq_eq_false_iff_ne.2 q
    clear HIF q HIS HNM HNC HPN HPY HCC HMM;obtain⟨⟨r0,r1,r2,r3,r4⟩,rz⟩:=HTZ.out
    go_region_held3 (fun u=>C5 u (w.heap.size+1) ((1:Nat):Int) 0 0 0 0) (first|with_reducible exact HSC.out|with_reducible exact bT HSC.out|with_reducible exact HC7.out|with_reducible exact bT HC7.out|with_reducible exact eU HC7.out hn1 _ _ _ _ _|with_reducible exact bT (eU HC7.out hn1 _ _ _ _ _)) (first|(go_at_call 62;refine(HPT2.out _ ?_).mono ?_;(first|with_reducible exact HTE.out|with_reducible exact HTE.out.below (aD _ _).drew);rintro r w7 ⟨rfl,hb7⟩;have HB7:=aA hb7;have HZ7:=aA (HTZ.out.below (aN hb7));have HC7:=aA (gR HSC.out (aN hb7) HLT.out);obtain⟨⟨r0,r1,r2,r3,r4⟩,rz⟩:=HZ7.out;clear hb7))
    go_wp2;refine bC (v:=.tuple #[.agg #[.int .i64 ((1:Nat):Int),.int .i64 0,.int .i64 0,.int .i64 0,.int .i64 0],.bool false]) (by simp[results,Tryz.results135,go_sem, *]) rfl (HPF.out _ ?_);first|exact cF (aC HBE.out (aN HB7.out)) (Nat.le_refl _) _ _ _ _ _|exact(cF (aC HBE.out (aN HB7.out)) (Nat.le_refl _) _ _ _ _ _).drew
  ·have hre:rs.isEmpty=false:=by cases rs<;>simp at hr0⊢
   have HMR:=aA (fun(u:World) (hu:Er u)=>yG rs u (by omega) hu);obtain⟨m,ok,hmr⟩:∃m ok,kV rs=(m,ok):=⟨_,_,rfl⟩
   rw[hmr]at HMR;have hMN:ok=false→sM rs=none:=fun h=>by unfold sM;rw[if_neg hr0,hmr,h];rfl
   have hMY:ok=true→sM rs=some m:=fun h=>by unfold sM;rw[if_neg hr0,hmr,h];rfl
   have HMN:=aA hMN;have HMY:=aA hMY
   clear hr0 hmr hMN hMY;obtain⟨x,y,d0,e⟩:=m;have HR1:=HR0
   go_wp2_with fail;clear HR0;generalize((w.alloc (.cells #[.int .i64 0,.int .i64 0,.int .i64 0,.int .i64 0,.int .i64 0] 79)).alloc (.cells #[.int .i64 1,.int .i64 0,.int .i64 0,.int .i64 0,.int .i64 0] 79))=wa at HR1⊢;refine(HMR.out wa (HE.out.below HR1.out.1)).mono ?_;rintro r w3 ⟨rfl,hb3⟩;have HRw:=aA (HR1.out.below hb3)
   have HRm:=aA (HRw.out.below (aF w3 (.cells #[.int .i64 x,.int .i64 y,.int .i64 d0,.int .i64 e] 77)));have hlt3:w.heap.size+1<w3.heap.size:=HRw.out.2.2.lt
   have hne3:w3.heap.size≠w.heap.size+1:=by omega
   have hne4:w.heap.size+1≠w3.heap.size:=by omega
   have hne5:w3.heap.size≠w.heap.size:=by omega
   have hne6:w.heap.size≠w3.heap.size:=by omega
   clear hb3 HMR;cases ok
   ·have HNZ:=aA (HMN.out rfl);obtain⟨⟨s0,s1,s2,s3,s4⟩,sz⟩:=HRw.out.2.1;have HBW:=aA HRw.out.1
    obtain⟨⟨r0,r1,r2,r3,r4⟩,rz⟩:=HRm.out.2.1;have HPF:=aA (HPN.out (HNM.out _ HCC.out HNZ.out))
    have HBE:=aA HRm.out.1;clear HNC HNM HIS HPN HPY;go_wp2;refine bC (v:=.tuple #[.agg #[.int .i64 0,.int .i64 0,.int .i64 0,.int .i64 0,.int .i64 0],.bool false]) (by simp[results,Tryz.results135,go_sem, *]) rfl (HPF.out _ ?_);first|exact HBE.out|exact cF HBE.out (Nat.le_refl _) _ _ _ _ _|exact(cF HBW.out (Nat.le_refl _) _ _ _ _ _).alloc (cF HBW.out (Nat.le_refl _) _ _ _ _ _).size _
   ·have HMM:=aA (HMY.out rfl);have HMO:=aA (GU HMM.out)
    have HR4:=aA (HRm.out.setM x y d0 e);obtain⟨⟨x0,x1,x2,x3,x4⟩,xz⟩:=HRw.out.2.2;go_wp2_with fail;clear x0 x1 x2 x3 x4 xz HRm HRw HMN HMY;have eW:(((((w3.setCell ⟨w.heap.size+1,1,none⟩ (.int .i64 x)).setCell ⟨w.heap.size+1,2,none⟩ (.int .i64 y)).setCell ⟨w.heap.size+1,3,none⟩ (.int .i64 d0)).setCell ⟨w.heap.size+1,4,none⟩ (.int .i64 e)).alloc (.cells #[.int .i64 x,.int .i64 y,.int .i64 d0,.int .i64 e] 77))=(((((w3.alloc (.cells #[.int .i64 x,.int .i64 y,.int .i64 d0,.int .i64 e] 77)).setCell ⟨w.heap.size+1,1,none⟩ (.int .i64 x)).setCell ⟨w.heap.size+1,2,none⟩ (.int .i64 y)).setCell ⟨w.heap.size+1,3,none⟩ (.int .i64 d0)).setCell ⟨w.heap.size+1,4,none⟩ (.int .i64 e)):=by go_simp
    rw[←eW]at HR4;clear eW;generalize(((((w3.setCell ⟨w.heap.size+1,1,none⟩ (.int .i64 x)).setCell ⟨w.heap.size+1,2,none⟩ (.int .i64 y)).setCell ⟨w.heap.size+1,3,none⟩ (.int .i64 d0)).setCell ⟨w.heap.size+1,4,none⟩ (.int .i64 e)).alloc (.cells #[.int .i64 x,.int .i64 y,.int .i64 d0,.int .i64 e] 77))=w4 at HR4⊢;have HPT:Hid (∀u:World,Tb u→_):=aA (fun u (hu:Tb u)=>gB 1 (by omega) x y d0 e HMO.out u hu)
    obtain⟨S,hS⟩:∃S,fE ⟨((1:Nat):Int),⟨x,y,d0,e⟩⟩=S:=⟨_,rfl⟩
    have HPT2:Hid (∀u:World,Tb u→Calls Tryz.prog 62 #[.agg #[.int .i64 ((1:Nat):Int),.int .i64 x,.int .i64 y,.int .i64 d0,.int .i64 e]] u fun r w'=>r= .returned (.string ⟨S.toArray⟩)∧Below u.heap.size u w'):=by rw[←hS];exact HPT
    have HIF:Hid (eZ s=(⟨((1:Nat):Int),⟨x,y,d0,e⟩⟩,decide (S=s))):=by rw[←hS];exact aA (HIS.out _ _ HCC.out HMM.out)
    clear hS HPT;obtain⟨⟨x0,x1,x2,x3,x4⟩,xz⟩:=HR4.out.2.2;have hSC:C5 w4 (w.heap.size+1) ((1:Nat):Int) x y d0 e:=⟨x0,x1,x2,x3,x4⟩
    have HSC:=aA hSC;have HBE:=aA HR4.out.1
    have HTE:=aA (HT.out.below HR4.out.1);have HTZ:=aA HR4.out.2.1
    have HLT:=aA HR4.out.2.2.lt;have hn1:w.heap.size≠w.heap.size+1:=by omega
    clear x0 x1 x2 x3 x4 xz hSC;by_cases q:S=s
    ·have HPF:=aA (HPY.out _ _ _ _ _ _ HIF.out);rw[decide_eq_true q]at HPF;clear HIF HIS HNM HNC HPN HPY HCC HMM;subst q;obtain⟨⟨r0,r1,r2,r3,r4⟩,rz⟩:=HTZ.out
     go_region_held3 (fun u=>C5 u (w.heap.size+1) ((1:Nat):Int) x y d0 e) (first|with_reducible exact HSC.out|with_reducible exact bT HSC.out|with_reducible exact HC7.out|with_reducible exact bT HC7.out|with_reducible exact eU HC7.out hn1 _ _ _ _ _|with_reducible exact bT (eU HC7.out hn1 _ _ _ _ _)) (first|(go_at_call 62;refine(HPT2.out _ ?_).mono ?_;(first|with_reducible exact HTE.out|with_reducible exact HTE.out.below (aD _ _).drew);rintro r w7 ⟨rfl,hb7⟩;have HB7:=aA hb7;have HZ7:=aA (HTZ.out.below (aN hb7));have HC7:=aA (gR HSC.out (aN hb7) HLT.out);obtain⟨⟨r0,r1,r2,r3,r4⟩,rz⟩:=HZ7.out;clear hb7))
     go_wp2;refine bC (v:=.tuple #[.agg #[.int .i64 ((1:Nat):Int),.int .i64 x,.int .i64 y,.int .i64 d0,.int .i64 e],.bool true]) (by simp[results,Tryz.results135,go_sem, *]) rfl (HPF.out _ ?_);first|exact cF (aC HBE.out (aN HB7.out)) (Nat.le_refl _) _ _ _ _ _|exact(cF (aC HBE.out (aN HB7.out)) (Nat.le_refl _) _ _ _ _ _).drew
    ·have HPF:=aA (HPY.out _ _ _ _ _ _ HIF.out);rw[decide_eq_false q]at HPF;have q1:(S==s)=false:=beq_eq_false_iff_ne.2 q
     clear HIF q HIS HNM HNC HPN HPY HCC HMM;obtain⟨⟨r0,r1,r2,r3,r4⟩,rz⟩:=HTZ.out
     go_region_held3 (fun u=>C5 u (w.heap.size+1) ((1:Nat):Int) x y d0 e) (first|with_reducible exact HSC.out|with_reducible exact bT HSC.out|with_reducible exact HC7.out|with_reducible exact bT HC7.out|with_reducible exact eU HC7.out hn1 _ _ _ _ _|with_reducible exact bT (eU HC7.out hn1 _ _ _ _ _)) (first|(go_at_call 62;refine(HPT2.out _ ?_).mono ?_;(first|with_reducible exact HTE.out|with_reducible exact HTE.out.below (aD _ _).drew);rintro r w7 ⟨rfl,hb7⟩;have HB7:=aA hb7;have HZ7:=aA (HTZ.out.below (aN hb7));have HC7:=aA (gR HSC.out (aN hb7) HLT.out);obtain⟨⟨r0,r1,r2,r3,r4⟩,rz⟩:=HZ7.out;clear hb7))
     go_wp2;refine bC (v:=.tuple #[.agg #[.int .i64 ((1:Nat):Int),.int .i64 x,.int .i64 y,.int .i64 d0,.int .i64 e],.bool false]) (by simp[results,Tryz.results135,go_sem, *]) rfl (HPF.out _ ?_);first|exact cF (aC HBE.out (aN HB7.out)) (Nat.le_refl _) _ _ _ _ _|exact(cF (aC HBE.out (aN HB7.out)) (Nat.le_refl _) _ _ _ _ _).drew
 ·have hde:d.isEmpty=false:=by cases d<;>simp at hd0⊢
  have HAC:=aA (fun(u:World) (hu:Er u)=>OL d (by omega) hd0 u hu)
  have HAB:Hid (∀v,wP d=some v→0≤v∧v≤9223372036854775807):=aA (fun v h=>by
   unfold wP at h;rw[if_neg hd0]at h;split at h
   ·rename_i q;cases h;exact QW hDD hd0 q
   ·cases h)
  clear hd0 hDD HLC;have HR1:=HR0
  go_wp2_with fail;clear HR0;generalize((w.alloc (.cells #[.int .i64 0,.int .i64 0,.int .i64 0,.int .i64 0,.int .i64 0] 79)).alloc (.cells #[.int .i64 1,.int .i64 0,.int .i64 0,.int .i64 0,.int .i64 0] 79))=wa at HR1⊢;refine(HAC.out wa (HE.out.below HR1.out.1)).mono ?_;rintro r w2 ⟨hb2,hr2⟩;have HR2:=aA (HR1.out.below hb2)
  clear hb2 HR1 HAC;rcases hr2 with⟨v,hv,rfl⟩|⟨hv,v9,t9,N9,rfl⟩
  ·obtain⟨v0,v1⟩:=HAB.out v hv;obtain⟨C,rfl⟩:∃C:Nat,v=(C:Int):=⟨v.toNat,by omega⟩
   have hC63:C≤9223372036854775807:=by omega
   have HCC:=aA hv;clear hv HAB v0 v1;by_cases hr0:rs=[]
   ·have hre:rs.isEmpty=true:=by rw[hr0];rfl
    have HMM:Hid (sM rs=some ⟨0,0,0,0⟩):=by rw[hr0];exact aA rfl
    clear hr0;have HR3:=aA (HR2.out.setC (C:Int))
    obtain⟨⟨x0,x1,x2,x3,x4⟩,xz⟩:=HR2.out.2.2;go_wp2_with fail;clear x0 x1 x2 x3 x4 xz HR2;generalize w2.setCell ⟨w.heap.size+1,0,none⟩ (.int .i64 (C:Int))=wb at HR3⊢;have HPT:Hid (∀u:World,Tb u→_):=aA (fun u (hu:Tb u)=>gB C hC63 0 0 0 0 (by decide) u hu)
    obtain⟨S,hS⟩:∃S,fE ⟨((C:Nat):Int),⟨0,0,0,0⟩⟩=S:=⟨_,rfl⟩
    have HPT2:Hid (∀u:World,Tb u→Calls Tryz.prog 62 #[.agg #[.int .i64 ((C:Nat):Int),.int .i64 0,.int .i64 0,.int .i64 0,.int .i64 0]] u fun r w'=>r= .returned (.string ⟨S.toArray⟩)∧Below u.heap.size u w'):=by rw[←hS];exact HPT
    have HIF:Hid (eZ s=(⟨((C:Nat):Int),⟨0,0,0,0⟩⟩,decide (S=s))):=by rw[←hS];exact aA (HIS.out _ _ HCC.out HMM.out)
    clear hS HPT;obtain⟨⟨x0,x1,x2,x3,x4⟩,xz⟩:=HR3.out.2.2;have hSC:C5 wb (w.heap.size+1) ((C:Nat):Int) 0 0 0 0:=⟨x0,x1,x2,x3,x4⟩
    have HSC:=aA hSC;have HBE:=aA HR3.out.1
    have HTE:=aA (HT.out.below HR3.out.1);have HTZ:=aA HR3.out.2.1
    have HLT:=aA HR3.out.2.2.lt;have hn1:w.heap.size≠w.heap.size+1:=by omega
    clear x0 x1 x2 x3 x4 xz hSC;by_cases q:S=s
    ·have HPF:=aA (HPY.out _ _ _ _ _ _ HIF.out);rw[decide_eq_true q]at HPF;clear HIF HIS HNM HNC HPN HPY HCC HMM;subst q;obtain⟨⟨r0,r1,r2,r3,r4⟩,rz⟩:=HTZ.out
     go_region_held3 (fun u=>C5 u (w.heap.size+1) ((C:Nat):Int) 0 0 0 0) (first|with_reducible exact HSC.out|with_reducible exact bT HSC.out|with_reducible exact HC7.out|with_reducible exact bT HC7.out|with_reducible exact eU HC7.out hn1 _ _ _ _ _|with_reducible exact bT (eU HC7.out hn1 _ _ _ _ _)) (first|(go_at_call 62;refine(HPT2.out _ ?_).mono ?_;(first|with_reducible exact HTE.out|with_reducible exact HTE.out.below (aD _ _).drew);rintro r w7 ⟨rfl,hb7⟩;have HB7:=aA hb7;have HZ7:=aA (HTZ.out.below (aN hb7));have HC7:=aA (gR HSC.out (aN hb7) HLT.out);obtain⟨⟨r0,r1,r2,r3,r4⟩,rz⟩:=HZ7.out;clear hb7))
     go_wp2;refine bC (v:=.tuple #[.agg #[.int .i64 ((C:Nat):Int),.int .i64 0,.int .i64 0,.int .i64 0,.int .i64 0],.bool true]) (by simp[results,Tryz.results135,go_sem, *]) rfl (HPF.out _ ?_);first|exact cF (aC HBE.out (aN HB7.out)) (Nat.le_refl _) _ _ _ _ _|exact(cF (aC HBE.out (aN HB7.out)) (Nat.le_refl _) _ _ _ _ _).drew
    ·have HPF:=aA (HPY.out _ _ _ _ _ _ HIF.out);rw[decide_eq_false q]at HPF;have q1:(S==s)=false:=beq_eq_false_iff_ne.2 q
     clear HIF q HIS HNM HNC HPN HPY HCC HMM;obtain⟨⟨r0,r1,r2,r3,r4⟩,rz⟩:=HTZ.out
     go_region_held3 (fun u=>C5 u (w.heap.size+1) ((C:Nat):Int) 0 0 0 0) (first|with_reducible exact HSC.out|with_reducible exact bT HSC.out|with_reducible exact HC7.out|with_reducible exact bT HC7.out|with_reducible exact eU HC7.out hn1 _ _ _ _ _|with_reducible exact bT (eU HC7.out hn1 _ _ _ _ _)) (first|(go_at_call 62;refine(HPT2.out _ ?_).mono ?_;(first|with_reducible exact HTE.out|with_reducible exact HTE.out.below (aD _ _).drew);rintro r w7 ⟨rfl,hb7⟩;have HB7:=aA hb7;have HZ7:=aA (HTZ.out.below (aN hb7));have HC7:=aA (gR HSC.out (aN hb7) HLT.out);obtain⟨⟨r0,r1,r2,r3,r4⟩,rz⟩:=HZ7.out;clear hb7))
     go_wp2;refine bC (v:=.tuple #[.agg #[.int .i64 ((C:Nat):Int),.int .i64 0,.int .i64 0,.int .i64 0,.int .i64 0],.bool false]) (by simp[results,Tryz.results135,go_sem, *]) rfl (HPF.out _ ?_);first|exact cF (aC HBE.out (aN HB7.out)) (Nat.le_refl _) _ _ _ _ _|exact(cF (aC HBE.out (aN HB7.out)) (Nat.le_refl _) _ _ _ _ _).drew
   ·have hre:rs.isEmpty=false:=by cases rs<;>simp at hr0⊢
    have HMR:=aA (fun(u:World) (hu:Er u)=>yG rs u (by omega) hu);obtain⟨m,ok,hmr⟩:∃m ok,kV rs=(m,ok):=⟨_,_,rfl⟩
    rw[hmr]at HMR;have hMN:ok=false→sM rs=none:=fun h=>by unfold sM;rw[if_neg hr0,hmr,h];rfl
    have hMY:ok=true→sM rs=some m:=fun h=>by unfold sM;rw[if_neg hr0,hmr,h];rfl
    have HMN:=aA hMN;have HMY:=aA hMY
    clear hr0 hmr hMN hMY;obtain⟨x,y,d0,e⟩:=m;have HR3:=aA (HR2.out.setC (C:Int))
    obtain⟨⟨x0,x1,x2,x3,x4⟩,xz⟩:=HR2.out.2.2;go_wp2_with fail;clear x0 x1 x2 x3 x4 xz HR2;generalize w2.setCell ⟨w.heap.size+1,0,none⟩ (.int .i64 (C:Int))=wb at HR3⊢;refine(HMR.out wb (HE.out.below HR3.out.1)).mono ?_;rintro r w3 ⟨rfl,hb3⟩;have HRw:=aA (HR3.out.below hb3)
    have HRm:=aA (HRw.out.below (aF w3 (.cells #[.int .i64 x,.int .i64 y,.int .i64 d0,.int .i64 e] 77)));have hlt3:w.heap.size+1<w3.heap.size:=HRw.out.2.2.lt
    have hne3:w3.heap.size≠w.heap.size+1:=by omega
    have hne4:w.heap.size+1≠w3.heap.size:=by omega
    have hne5:w3.heap.size≠w.heap.size:=by omega
    have hne6:w.heap.size≠w3.heap.size:=by omega
    clear hb3 HMR;cases ok
    ·have HNZ:=aA (HMN.out rfl);obtain⟨⟨s0,s1,s2,s3,s4⟩,sz⟩:=HRw.out.2.1;have HBW:=aA HRw.out.1
     obtain⟨⟨r0,r1,r2,r3,r4⟩,rz⟩:=HRm.out.2.1;have HPF:=aA (HPN.out (HNM.out _ HCC.out HNZ.out))
     have HBE:=aA HRm.out.1;clear HNC HNM HIS HPN HPY;go_wp2;refine bC (v:=.tuple #[.agg #[.int .i64 0,.int .i64 0,.int .i64 0,.int .i64 0,.int .i64 0],.bool false]) (by simp[results,Tryz.results135,go_sem, *]) rfl (HPF.out _ ?_);first|exact HBE.out|exact cF HBE.out (Nat.le_refl _) _ _ _ _ _|exact(cF HBW.out (Nat.le_refl _) _ _ _ _ _).alloc (cF HBW.out (Nat.le_refl _) _ _ _ _ _).size _
    ·have HMM:=aA (HMY.out rfl);have HMO:=aA (GU HMM.out)
     have HR4:=aA (HRm.out.setM x y d0 e);obtain⟨⟨x0,x1,x2,x3,x4⟩,xz⟩:=HRw.out.2.2;go_wp2_with fail;clear x0 x1 x2 x3 x4 xz HRm HRw HMN HMY;have eW:(((((w3.setCell ⟨w.heap.size+1,1,none⟩ (.int .i64 x)).setCell ⟨w.heap.size+1,2,none⟩ (.int .i64 y)).setCell ⟨w.heap.size+1,3,none⟩ (.int .i64 d0)).setCell ⟨w.heap.size+1,4,none⟩ (.int .i64 e)).alloc (.cells #[.int .i64 x,.int .i64 y,.int .i64 d0,.int .i64 e] 77))=(((((w3.alloc (.cells #[.int .i64 x,.int .i64 y,.int .i64 d0,.int .i64 e] 77)).setCell ⟨w.heap.size+1,1,none⟩ (.int .i64 x)).setCell ⟨w.heap.size+1,2,none⟩ (.int .i64 y)).setCell ⟨w.heap.size+1,3,none⟩ (.int .i64 d0)).setCell ⟨w.heap.size+1,4,none⟩ (.int .i64 e)):=by go_simp
     rw[←eW]at HR4;clear eW;generalize(((((w3.setCell ⟨w.heap.size+1,1,none⟩ (.int .i64 x)).setCell ⟨w.heap.size+1,2,none⟩ (.int .i64 y)).setCell ⟨w.heap.size+1,3,none⟩ (.int .i64 d0)).setCell ⟨w.heap.size+1,4,none⟩ (.int .i64 e)).alloc (.cells #[.int .i64 x,.int .i64 y,.int .i64 d0,.int .i64 e] 77))=w4 at HR4⊢;have HPT:Hid (∀u:World,Tb u→_):=aA (fun u (hu:Tb u)=>gB C hC63 x y d0 e HMO.out u hu)
     obtain⟨S,hS⟩:∃S,fE ⟨((C:Nat):Int),⟨x,y,d0,e⟩⟩=S:=⟨_,rfl⟩
     have HPT2:Hid (∀u:World,Tb u→Calls Tryz.prog 62 #[.agg #[.int .i64 ((C:Nat):Int),.int .i64 x,.int .i64 y,.int .i64 d0,.int .i64 e]] u fun r w'=>r= .returned (.string ⟨S.toArray⟩)∧Below u.heap.size u w'):=by rw[←hS];exact HPT
     have HIF:Hid (eZ s=(⟨((C:Nat):Int),⟨x,y,d0,e⟩⟩,decide (S=s))):=by rw[←hS];exact aA (HIS.out _ _ HCC.out HMM.out)
     clear hS HPT;obtain⟨⟨x0,x1,x2,x3,x4⟩,xz⟩:=HR4.out.2.2;have hSC:C5 w4 (w.heap.size+1) ((C:Nat):Int) x y d0 e:=⟨x0,x1,x2,x3,x4⟩
     have HSC:=aA hSC;have HBE:=aA HR4.out.1
     have HTE:=aA (HT.out.below HR4.out.1);have HTZ:=aA HR4.out.2.1
     have HLT:=aA HR4.out.2.2.lt;have hn1:w.heap.size≠w.heap.size+1:=by omega
     clear x0 x1 x2 x3 x4 xz hSC;by_cases q:S=s
     ·have HPF:=aA (HPY.out _ _ _ _ _ _ HIF.out);rw[decide_eq_true q]at HPF;clear HIF HIS HNM HNC HPN HPY HCC HMM;subst q;obtain⟨⟨r0,r1,r2,r3,r4⟩,rz⟩:=HTZ.out
      go_region_held3 (fun u=>C5 u (w.heap.size+1) ((C:Nat):Int) x y d0 e) (first|with_reducible exact HSC.out|with_reducible exact bT HSC.out|with_reducible exact HC7.out|with_reducible exact bT HC7.out|with_reducible exact eU HC7.out hn1 _ _ _ _ _|with_reducible exact bT (eU HC7.out hn1 _ _ _ _ _)) (first|(go_at_call 62;refine(HPT2.out _ ?_).mono ?_;(first|with_reducible exact HTE.out|with_reducible exact HTE.out.below (aD _ _).drew);rintro r w7 ⟨rfl,hb7⟩;have HB7:=aA hb7;have HZ7:=aA (HTZ.out.below (aN hb7));have HC7:=aA (gR HSC.out (aN hb7) HLT.out);obtain⟨⟨r0,r1,r2,r3,r4⟩,rz⟩:=HZ7.out;clear hb7))
      go_wp2;refine bC (v:=.tuple #[.agg #[.int .i64 ((C:Nat):Int),.int .i64 x,.int .i64 y,.int .i64 d0,.int .i64 e],.bool true]) (by simp[results,Tryz.results135,go_sem, *]) rfl (HPF.out _ ?_);first|exact cF (aC HBE.out (aN HB7.out)) (Nat.le_refl _) _ _ _ _ _|exact(cF (aC HBE.out (aN HB7.out)) (Nat.le_refl _) _ _ _ _ _).drew
     ·have HPF:=aA (HPY.out _ _ _ _ _ _ HIF.out);rw[decide_eq_false q]at HPF;have q1:(S==s)=false:=beq_eq_false_iff_ne.2 q
      clear HIF q HIS HNM HNC HPN HPY HCC HMM;obtain⟨⟨r0,r1,r2,r3,r4⟩,rz⟩:=HTZ.out
      go_region_held3 (fun u=>C5 u (w.heap.size+1) ((C:Nat):Int) x y d0 e) (first|with_reducible exact HSC.out|with_reducible exact bT HSC.out|with_reducible exact HC7.out|with_reducible exact bT HC7.out|with_reducible exact eU HC7.out hn1 _ _ _ _ _|with_reducible exact bT (eU HC7.out hn1 _ _ _ _ _)) (first|(go_at_call 62;refine(HPT2.out _ ?_).mono ?_;(first|with_reducible exact HTE.out|with_reducible exact HTE.out.below (aD _ _).drew);rintro r w7 ⟨rfl,hb7⟩;have HB7:=aA hb7;have HZ7:=aA (HTZ.out.below (aN hb7));have HC7:=aA (gR HSC.out (aN hb7) HLT.out);obtain⟨⟨r0,r1,r2,r3,r4⟩,rz⟩:=HZ7.out;clear hb7))
      go_wp2;refine bC (v:=.tuple #[.agg #[.int .i64 ((C:Nat):Int),.int .i64 x,.int .i64 y,.int .i64 d0,.int .i64 e],.bool false]) (by simp[results,Tryz.results135,go_sem, *]) rfl (HPF.out _ ?_);first|exact cF (aC HBE.out (aN HB7.out)) (Nat.le_refl _) _ _ _ _ _|exact(cF (aC HBE.out (aN HB7.out)) (Nat.le_refl _) _ _ _ _ _).drew
  ·have HNZ:=aA hv;clear hv HAB;have HBW:=aA HR2.out.1
   obtain⟨⟨r0,r1,r2,r3,r4⟩,rz⟩:=HR2.out.2.1;have HPF:=aA (HPN.out (HNC.out HNZ.out))
   have HBE:=aA HR2.out.1;clear HNC HNM HIS HPN HPY;go_wp2;refine bC (v:=.tuple #[.agg #[.int .i64 0,.int .i64 0,.int .i64 0,.int .i64 0,.int .i64 0],.bool false]) (by simp[results,Tryz.results135,go_sem, *]) rfl (HPF.out _ ?_);first|exact HBE.out|exact cF HBE.out (Nat.le_refl _) _ _ _ _ _|exact(cF HBW.out (Nat.le_refl _) _ _ _ _ _).alloc (cF HBW.out (Nat.le_refl _) _ _ _ _ _).size _
def jD (n:Nat) (v:Value) (ok:Bool) (W:World):Prop:=Boxed W n 22 v∧Boxed W (n+1) 4 (.bool ok)
theorem jD.below {n:Nat} {v:Value} {ok:Bool} {W W':World} (h:jD n v ok W) (hb:Below W.heap.size W W'):jD n v ok W':=⟨(hb.block n h.1.lt).trans h.1,(hb.block _ h.2.lt).trans h.2⟩
theorem jD.set {n:Nat} {v:Value} {ok:Bool} {W:World} (h:jD n v ok W) (v':Value) (ok':Bool):jD n v' ok' ((W.setCell ⟨n,0,none⟩ v').setCell ⟨n+1,0,none⟩ (.bool ok')):=
 ⟨(h.1.set v').other (by omega) _,(h.2.other (by omega) v').set _⟩
theorem jD.other {n:Nat} {v:Value} {ok:Bool} {W:World} (h:jD n v ok W) {k:Nat} (hk:n+1<k) (u:Value):jD n v ok (W.setCell ⟨k,0,none⟩ u):=⟨h.1.other (by omega) _,h.2.other (by omega) _⟩
theorem yX (w:World):jD w.heap.size (.slice none 0 0) false ((w.alloc (.cells #[.slice none 0 0] 22)).alloc (.cells #[.bool false] 4)):=by
 refine⟨(Boxed.new w _ _).alloc _,?_⟩;have:=Boxed.new (w.alloc (.cells #[.slice none 0 0] 22)) 4 (.bool false)
 rwa[World.size_alloc]at this
theorem qF {X Y:World} {row:Option Nat} {B k:Nat} {cs:Array Value} {t:TypeId} {z:Nat×Nat} (h:X.heap[k]? =some (.cells cs t z)) (hg:X.grownBy Y row) (hr:∀r,row=some r→B≤r∧∃o:Obj,X.heap[r]? =some o∧o.isCells=false):Y.heap[k]? =some (.cells cs t z):=
 (hg.block k (Array.getElem?_eq_some_iff.1 h).1 (fun e=>by obtain⟨_,o,ho,hc⟩:=hr k e.symm;rw[h]at ho;cases ho;cases hc)).trans h
theorem yY (n:Nat) (v:Value) (ok:Bool) {β:Type} (B:Nat):OwnFrom B (fun(_:β) W=>jD n v ok W):=fun s X Y row hs hg hr=>⟨qF hs.1 hg hr,qF hs.2 hg hr⟩
theorem iZ (tmps:Array Value) {w:World} {n:Nat} {v:Value} {ok:Bool} (h4:tmps[2]?.getD undef= .pointer (some ⟨n,0,none⟩)) (h5:tmps[3]?.getD undef= .pointer (some ⟨n+1,0,none⟩)) (h:jD n v ok w):(results Tryz.f96 tmps).run Tryz.prog w= .ok (.tuple #[v,.bool ok]) w:=by
 have c1:=h.1.cell;have c2:=h.2.cell
 simp[results,Tryz.results96,go_sem,h4,h5,c1,c2]
def KE (w:World) (s:List UInt8):World:=((w.alloc (.cells #[.string ⟨s.toArray⟩] 9)).alloc (.cells #[.string ⟨#[43]⟩] 9)).alloc (.cells #[.int .i64 0] 3)
theorem OI (w:World) (s:List UInt8):EO (KE w s) w.heap.size s:=by
 refine⟨((Boxed.new w _ _).alloc _).alloc _,?_,?_⟩
 ·have:=(Boxed.new (w.alloc (.cells #[.string ⟨s.toArray⟩] 9)) 9 (.string ⟨#[43]⟩)).alloc (.cells #[.int .i64 0] 3)
  rwa[World.size_alloc]at this
 ·have:=Boxed.new ((w.alloc (.cells #[.string ⟨s.toArray⟩] 9)).alloc (.cells #[.string ⟨#[43]⟩] 9)) 3 (.int .i64 0)
  rwa[World.size_alloc,World.size_alloc]at this
theorem KO (w:World) (s:List UInt8):Below w.heap.size w (KE w s):=(((aD _ _).alloc (Nat.le_refl _) _).alloc (by simp) _).alloc (by simp;omega) _
theorem EX (w:World) (s:List UInt8):(KE w s).heap.size=w.heap.size+3:=by simp[KE]
theorem ED (s:List UInt8) (w:World):Calls Tryz.prog 157 #[.string ⟨s.toArray⟩,.string ⟨#[43]⟩,.int .i64 0] w fun e w'=>e= .returned (.func (.func 179) #[] #[.pointer (some ⟨w.heap.size+1,0,none⟩),.pointer (some ⟨w.heap.size,0,none⟩),.pointer (some ⟨w.heap.size+2,0,none⟩)])∧w'=KE w s:=by go_enter Tryz.func157,Tryz.ntmps157;go_wp2;go_ret;exact⟨rfl,rfl⟩
theorem EE (s:List UInt8) (w:World):Calls Tryz.prog 134 #[.string ⟨s.toArray⟩,.string ⟨#[43]⟩] w fun e w'=>e= .returned (.func (.func 179) #[] #[.pointer (some ⟨w.heap.size+1,0,none⟩),.pointer (some ⟨w.heap.size,0,none⟩),.pointer (some ⟨w.heap.size+2,0,none⟩)])∧w'=KE w s:=by have HC:=aA (ED s w);go_enter Tryz.func134,Tryz.ntmps134;go_wp2_with fail;refine HC.out.mono ?_;rintro e w1 ⟨rfl,hw⟩;obtain rfl:=hw.symm;clear hw;go_wp2;go_ret;exact⟨rfl,rfl⟩
theorem IJ (w:World) (lo:Nat):iJ lo w none 0 []:=by obtain⟨a,cap,e,h⟩:=aO (L:=[]) (dD w lo) (by simp);cases e;exact h
theorem uG (w:World) (ok:Bool):jD w.heap.size (.slice none 0 0) ok ((w.alloc (.cells #[.slice none 0 0] 22)).alloc (.cells #[.bool ok] 4)):=by
 refine⟨(Boxed.new w _ _).alloc _,?_⟩;have:=Boxed.new (w.alloc (.cells #[.slice none 0 0] 22)) 4 (.bool ok)
 rwa[World.size_alloc]at this
def gX (w:World) (s:List UInt8) (r:Ending) (w':World):Prop:=∃a cap,r= .returned (.tuple #[.slice a (dV s).1.length cap,.bool (dV s).2])∧Below w.heap.size w w'∧iJ w.heap.size w' a cap (dV s).1
theorem CC {w:World} {s:List UInt8} {b:Bool} (h:dV s=([],b)) {w':World} (hb:Below w.heap.size w w'):gX w s (.returned (.tuple #[.slice none 0 0,.bool b])) w':=by unfold gX;rw[h];exact⟨none,0,rfl,hb,IJ _ _⟩
theorem PV {w:World} {s:List UInt8} {ts:List T} (h:dV s=(ts,true)) (hl:ts.length≤1000) {w':World} {v:Value} (hb:Below w.heap.size w w') (ho:w'.ownsRow w.heap.size 79 5 v ts.length (aG ts)):gX w s (.returned (.tuple #[v,.bool true])) w':=by unfold gX;rw[h];obtain⟨a,cap,rfl,hout⟩:=aO ho (by omega);exact⟨a,cap,rfl,hb,hout⟩
theorem uE (s:List UInt8) (hs:s.length≤1048576) (w:World) (h:s=[48]∨400<s.length):Calls Tryz.prog 96 #[.string ⟨s.toArray⟩] w (gX w s):=by
 have hR0:=yX w;have c1:=hR0.1.cell
 have c2:=hR0.2.cell;have z1:=hR0.1.frozen
 have z2:=hR0.2.frozen;clear hR0;by_cases hl:400<s.length
 ·have hlI:(400:Int)<(s.length:Int):=by omega
  have HN:=aA (fun w' hb=>CC (w:=w) (w':=w') (nZ (s:=s) (by intro q;rw[q]at hl;simp at hl) (fun q=>by omega)) hb);obtain⟨PS,hPS⟩:∃Q:Ending→World→Prop,gX w s=Q:=⟨_,rfl⟩
  rw[hPS]at HN⊢;clear hPS;refine(callsIn_wide (n:=9)).1 ?_;refine callsIn_of_wp_marks Tryz.func96 rfl trivial ?_ rfl;simp only[Tryz.ntmps96,List.size_toArray,List.length_cons,List.length_nil,Nat.reduceAdd,Nat.reduceSub,Array.replicate_succ,Array.replicate_zero,List.push_toArray,List.append_toArray,List.nil_append,List.cons_append]
  gi_wp2
  exact⟨_,iZ _ rfl rfl (uG w false),HN.out _ (dB w _ _)⟩
 ·have h0:=h.resolve_right hl;subst h0;have HN:=aA (fun w' hb=>CC (w:=w) (w':=w') oW hb)
  obtain⟨PS,hPS⟩:∃Q:Ending→World→Prop,gX w [48]=Q:=⟨_,rfl⟩
  rw[hPS]at HN⊢;clear hPS;refine(callsIn_wide (n:=9)).1 ?_;refine callsIn_of_wp_marks Tryz.func96 rfl trivial ?_ rfl;simp only[Tryz.ntmps96,List.size_toArray,List.length_cons,List.length_nil,Nat.reduceAdd,Nat.reduceSub,Array.replicate_succ,Array.replicate_zero,List.push_toArray,List.append_toArray,List.nil_append,List.cons_append]
  gi_wp2
  exact⟨_,iZ _ rfl rfl (uG w true),HN.out _ (dB w _ _)⟩
end Go.Proofs.YtkcmamepoplcdaaGreatDoor
