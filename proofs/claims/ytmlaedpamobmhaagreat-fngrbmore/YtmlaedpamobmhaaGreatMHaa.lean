/-
  A basis is made: the model's GrbMake, where it is not empty.
-/
import Derived.Test.YtmlaedpamobmhaaGreatMDaa
import Derived.Test.YtmlaedpamobmhaaGreatMBag
set_option maxHeartbeats 8000000
set_option maxRecDepth 100000
namespace Go.Proofs.YtmlaedpamobmhaaGreat
open Go.RowKit Go.Deep Go.Joins
set_option linter.unusedVariables false
set_option linter.unusedSimpArgs false
section
variable {o:Int} {n:Nat} {L:Nat→List T}
end
end Go.Proofs.YtmlaedpamobmhaaGreat
namespace Go.Proofs.YtmlaedpamobmhaaGreat
open Go.RowKit Go.Deep Go.Joins
set_option linter.unusedVariables false
theorem QU {o:Int} {g:Nat} {B B':Bs} {i k:Nat} (hs:eN o g B i k=some B'):B.m≤B'.m∧(∀j,j<B.m→B'.L j=B.L j)∧∀j,j<B.m→B'.P j=B.P j:=by
 obtain⟨s,S,_,_,⟨_,rfl⟩|⟨_,R,_,rfl⟩⟩:=vX hs
 ·exact⟨Nat.le_refl _,fun _ _=>rfl,fun _ _=>rfl⟩
 ·exact⟨Nat.le_succ _,fun j hj=>wX hj,fun j hj=>NS hj⟩
theorem FP {o:Int} {g:Nat}:∀(f:Nat) (B:Bs) (j:Nat),B.m≤(gH o g f B j).1.m∧∀i,i<B.m→(gH o g f B j).1.L i=B.L i
 |0,B,j=>⟨Nat.le_refl _,fun _ _=>rfl⟩
 |f+1,B,j=>by
  unfold gH;split
  ·split
   ·exact⟨Nat.le_refl _,fun _ _=>rfl⟩
   ·rename_i B2 hs;obtain⟨h1,h2,_⟩:=QU hs;obtain⟨h3,h4⟩:=FP (o:=o) (g:=g) f B2 (j+1);exact⟨by omega,fun i hi=>(h4 i (by omega)).trans (h2 i hi)⟩
  ·exact⟨Nat.le_refl _,fun _ _=>rfl⟩
theorem AR {o:Int} {g:Nat}:∀(f:Nat) (B:Bs) (j:Nat),(gH o g f B j).2=true→gH o g (f+1) B j=gH o g f B j
 |0,B,j,h=>by
  have h':aT B.m≤j:=of_decide_eq_true h;unfold gH;rw[if_neg (by omega)];show(B,true)=(B,decide (aT B.m≤j))
  rw[decide_eq_true h']
 |f+1,B,j,h=>by
  rw[gH];rw[gH]at h⊢;split
  ·rename_i hj;rw[if_pos hj]at h;cases hs:eN o g B (pq j).1 (pq j).2 with
   |none=>rfl
   |some B2=>
    rw[hs]at h;exact AR f B2 (j+1) h
  ·rfl
theorem AS {o:Int} {g:Nat}:∀(f:Nat) (B:Bs) (j:Nat),(gH o g f B j).1.m≤(gH o g (f+1) B j).1.m∧∀i,i<(gH o g f B j).1.m→(gH o g (f+1) B j).1.L i=(gH o g f B j).1.L i
 |0,B,j=>FP 1 B j
 |f+1,B,j=>by
  rw[gH,gH];split
  ·cases hs:eN o g B (pq j).1 (pq j).2 with
   |none=>exact⟨Nat.le_refl _,fun _ _=>rfl⟩
   |some B2=>exact AS f B2 (j+1)
  ·exact⟨Nat.le_refl _,fun _ _=>rfl⟩
theorem YR {o:Int} {n:Nat} {L:Nat→List T} {fuel:Int} {m m':Nat} {BL BL':Nat→List T} {BP BP':Nat→Nat→List T} {d d':Bool} (h:dK o n L fuel=(⟨m,BL,BP⟩,d)) (h':dK o n L (fuel+1)=(⟨m',BL',BP'⟩,d')) (hm:m≠0) (hf:fuel≠60):(m≤m'∧∀i,i<m→BL' i=BL i)∧(d=true→(m'=m∧BL'=BL∧BP'=BP∧d'=true)):=by
 rcases DD h with⟨h0,_⟩|⟨ho,hl,hn,hf1,_⟩
 ·exact absurd h0 hm
 have hc:(1≤o∧o≤3)∧aU n (lN L) (fN L)=true∧(1≤n∧n≤3)∧(0≤fuel∧fuel≤60):=⟨ho,hl,hn,hf1⟩
 have hc':(1≤o∧o≤3)∧aU n (lN L) (fN L)=true∧(1≤n∧n≤3)∧(0≤fuel+1∧fuel+1≤60):=⟨ho,hl,hn,by omega,by omega⟩
 unfold dK at h h';rw[if_pos hc]at h;rw[if_pos hc',show(fuel+1).toNat=fuel.toNat+1 by omega]at h';have k1:=AS (o:=o) (g:=n) fuel.toNat (zZ n L) 0
 have k2:=AR (o:=o) (g:=n) fuel.toNat (zZ n L) 0;rw[h,h']at k1;rw[h,h']at k2;refine⟨k1,fun hd=>?_⟩;have e:=k2 hd
 simp only[Prod.mk.injEq,Bs.mk.injEq]at e;exact⟨e.1.1,e.1.2.1,e.1.2.2,e.2.trans hd⟩
open Go.RowKit
theorem zS (w:World) (a0:Option Addr) (len0 cap0:Nat) (s0:LD w a0 len0 cap0):Calls Tryz.prog 5 #[.slice a0 len0 cap0] w fun e w'=>e= .returned (.bool true)∧Below w.heap.size w w':=by
 by_cases c0:(1048576:Int)<(len0:Int)
 ·go_enter Tryz.func5,Tryz.ntmps5;go_wp2;go_ret;exact⟨rfl,bQ _ _⟩
 go_enter Tryz.func5,Tryz.ntmps5;go_wp2_with fail;refine(oW w a0 len0 cap0 s0).mono ?_;rintro e wd ⟨o,la,n,lc,lad,lcp,L,fuel,rfl,hL,hn5,⟨f1,f2⟩,hbd⟩;have HL0:=aA (hL)
 have Z0:=aA (hbd);clear hL hbd s0;obtain⟨⟨m,BL,BP⟩,d,hX⟩:∃(X:Bs) (d:Bool),dK o n L fuel=(X,d):=⟨_,_,rfl⟩
 have hm12:=PR hX;have HX:=aA (hX)
 clear hX;have hm12I:(m:Int)≤12:=by omega
 have hn5I:(n:Int)≤5:=by omega
 go_wp2_with fail;refine(Gm HL0.out HX.out).mono ?_;rintro e w1 ⟨ba,bc,bad,bcp,pa,pc,pA,pC,pAD,pCP,rfl,hb1,hr1,hp1⟩;have bx:=aB hb1 (aC w1 (.cells #[.slice ba m bc,.slice pa m pc,.bool d] 28))
 have bo:=aC w1 (.cells #[.slice ba m bc,.slice pa m pc,.bool d] 28);have HO1:=aA (eI.box w1 28 (.slice ba m bc) (.slice pa m pc) (.bool d))
 have HB1:=aA (hr1.below bo);have HP1:=aA (hp1.below bo)
 have HG1:=aA (HL0.out.below bx);have Z1:=aA (aB Z0.out bx)
 clear hb1 hr1 hp1 bx bo HL0 Z0;go_wp2_with fail;have hS:IZ w1.heap.size (.slice ba m bc) (.slice pa m pc) (.bool d) (w1.alloc (.cells #[.slice ba m bc,.slice pa m pc,.bool d] 28)).drew:=HO1.out.1
 have bd:=(bQ (w1.alloc (.cells #[.slice ba m bc,.slice pa m pc,.bool d] 28)).heap.size (w1.alloc (.cells #[.slice ba m bc,.slice pa m pc,.bool d] 28))).drew;have HOd:=aA (HO1.out.below bd)
 have HBd:=aA (HB1.out.below bd);have HPd:=aA (HP1.out.below bd)
 have HGd:=aA (HG1.out.below bd);have Zd:=aA (aB Z1.out bd)
 clear HO1 HB1 HP1 HG1 Z1 bd;obtain⟨bx,hbx⟩:∃bx,bx=w1.heap.size:=⟨_,rfl⟩
 clear hbx bx
 go_region_held3 (fun u=>u.cell? ⟨w1.heap.size,0,none⟩=some (.slice ba m bc)∧u.cell? ⟨w1.heap.size,1,none⟩=some (.slice pa m pc)∧u.cell? ⟨w1.heap.size,2,none⟩=some (.bool d)) (first|with_reducible exact(IZ.below (IZ.below hS hb3) hb4)|with_reducible exact IZ.below hS hb3|with_reducible exact hS) (first|(go_at_call 12;refine(Hb HGd.out HX.out).mono ?_;rintro e w3 ⟨ca,cc,cad,ccp,qa,qc,qA,qC,qAD,qCP,rfl,hb3,hr3,hp3⟩)|(go_at_call 11;refine(wL w3 m m n d BL BP _ _ _ _ _ _ _ _ (HBd.out.below hb3) hr3 _ _ _ _ _ _ _ _ _ _ _ _ (HPd.out.below hb3) hp3).mono ?_;rintro e w4 ⟨rfl,hb4⟩))
 have HBB:=aA (aB hb3 hb4);have HO:=aA (HOd.out.below HBB.out)
 have HB:=aA (HBd.out.below HBB.out);have HP:=aA (HPd.out.below HBB.out)
 have HG:=aA (HGd.out.below HBB.out);have Z9:=aA (aB Zd.out HBB.out)
 clear hS hb3 hb4 hr3 hp3 HBB HOd HBd HPd HGd Zd;have HLT:=HO.out.lt
 by_cases hm0:m=0
 ·subst hm0;obtain⟨⟨c0,c1,c2⟩,cz⟩:=HO.out;go_wp2_with fail;refine(pF _).mono ?_;rintro e w1 ⟨rfl,b2⟩;have X3:=aA (HO.out.below b2)
  clear HO;have X4:=aA (HB.out.below b2)
  clear HB;have X5:=aA (HP.out.below b2)
  clear HP;have X6:=aA (HG.out.below b2)
  clear HG;have Z7:=aA (aB Z9.out b2)
  clear Z9;clear b2;go_wp2;go_ret;exact⟨rfl,Z7.out⟩
 ·by_cases hf60:fuel=60
  ·subst hf60;have hmz:((m:Int)==0)=false:=beq_eq_false_iff_ne.2 (by omega)
   obtain⟨⟨c0,c1,c2⟩,cz⟩:=HO.out;go_wp2_with fail;refine(pF _).mono ?_;rintro e w8 ⟨rfl,b9⟩;have X10:=aA (HO.out.below b9)
   clear HO;have X11:=aA (HB.out.below b9)
   clear HB;have X12:=aA (HP.out.below b9)
   clear HP;have X13:=aA (HG.out.below b9)
   clear HG;have Z14:=aA (aB Z9.out b9)
   clear Z9;clear b9;go_wp2;go_ret;exact⟨rfl,Z14.out⟩
  ·have hmz:((m:Int)==0)=false:=beq_eq_false_iff_ne.2 (by omega);have hfz:(fuel==60)=false:=beq_eq_false_iff_ne.2 hf60
   have hfw:IntKind.i64.wrap (fuel+1)=fuel+1:=by rw[IntKind.wrap_i64];omega
   obtain⟨⟨m2,BL2,BP2⟩,d2,hX2⟩:∃(X:Bs) (d:Bool),dK o n L (fuel+1)=(X,d):=⟨_,_,rfl⟩
   obtain⟨⟨hmm2,hpre2⟩,hdone⟩:=YR HX.out hX2 hm0 hf60;have hm22:=PR hX2
   have HX2:=aA (hX2);have HPRE:=aA (hpre2)
   have HDN:=aA (hdone);clear hX2 hpre2 hdone;have hm22I:(m2:Int)≤12:=by omega
   obtain⟨⟨c0,c1,c2⟩,cz⟩:=HO.out;go_wp2_with fail;refine(Gm HG.out HX2.out).mono ?_;rintro e w5 ⟨ca,cc,cad,ccp,qa,qc,qA,qC,qAD,qCP,rfl,hb5,hr5,hp5⟩;clear c0 c1 c2 cz;have bo:=aC w5 (.cells #[.slice ca m2 cc,.slice qa m2 qc,.bool d2] 28)
   have bx:=aB hb5 bo;obtain⟨⟨c0,c1,c2⟩,cz⟩:=HO.out.below hb5;have hlt5:w1.heap.size<w5.heap.size:=cE w5 _ c0
   have hne5:w1.heap.size≠w5.heap.size:=Nat.ne_of_lt hlt5;have hne6:w5.heap.size≠w1.heap.size:=Nat.ne_of_gt hlt5
   have HO2:=aA (eI.box w5 28 (.slice ca m2 cc) (.slice qa m2 qc) (.bool d2));have HB2:=aA (hr5.below bo)
   have HP2:=aA (hp5.below bo);have HO6:=aA (HO.out.below bx)
   have HB6:=aA (HB.out.below bx);have HP6:=aA (HP.out.below bx)
   have HG6:=aA (HG.out.below bx);have Z6:=aA (aB Z9.out bx)
   clear hb5 hr5 hp5 bo bx HO HB HP HG Z9;have hge:(m2:Int)≥(m:Int):=by omega
   have hge2:¬(m2:Int)<(m:Int):=by omega
   have hcap:m2≤cc:=HB2.out.1;have hcapI:(m:Int)≤(cc:Int):=by omega
   obtain⟨b2,off2,rfl,hlb2,_⟩:=HB2.out.2.2.1.resolve_left (by omega);go_wp2_with fail;clear c0 c1 c2 cz;obtain⟨⟨c0,c1,c2⟩,cz⟩:=HO6.out;obtain⟨⟨y0,y1,y2⟩,yz⟩:=HO2.out;generalize hWW:(w5.alloc (.cells #[.slice (some ⟨b2,off2,none⟩) m2 cc,.slice qa m2 qc,.bool d2] 28))=W at *;clear hWW;have ne:=cH.there W
   have q6:w1.heap.size<W.heap.size:=cE W _ c0;have q7:w5.heap.size<W.heap.size:=cE W _ y0
   have s0:∀u:cH W,u.1.cell? ⟨w1.heap.size,0,none⟩=some (.slice ba m bc):=fun u=>(u.cell q6).trans c0;have s1:∀u:cH W,u.1.cell? ⟨w1.heap.size,1,none⟩=some (.slice pa m pc):=fun u=>(u.cell q6).trans c1
   have s2:∀u:cH W,u.1.cell? ⟨w1.heap.size,2,none⟩=some (.bool d):=fun u=>(u.cell q6).trans c2;have t0:∀u:cH W,u.1.cell? ⟨w5.heap.size,0,none⟩=some (.slice (some ⟨b2,off2,none⟩) m2 cc):=fun u=>(u.cell q7).trans y0
   have t1:∀u:cH W,u.1.cell? ⟨w5.heap.size,1,none⟩=some (.slice qa m2 qc):=fun u=>(u.cell q7).trans y1;have t2:∀u:cH W,u.1.cell? ⟨w5.heap.size,2,none⟩=some (.bool d2):=fun u=>(u.cell q7).trans y2
   have HT:Hid (eJ W (some ⟨b2,off2,none⟩) m cc cad (lN BL) ccp (fN BL)):=(BO (BR HB2.out hmm2) HPRE.out)
   have HBq:Hid (eJ W ba m bc bad (lN BL) bcp (fN BL)):=HB6.out;have call1:∀u:cH W,Calls Tryz.prog 14 #[.slice (some ⟨b2,off2,none⟩) m cc,.slice ba m bc] u.1 fun r w'=>r= .returned (.bool true)∧Below u.1.heap.size u.1 w':=fun u=>sR (HT.out.below u.2) (HBq.out.below u.2)
   have call3:∀u:cH W,Calls Tryz.prog 13 #[] u.1 fun r w'=>r= .returned (.bool true)∧Below u.1.heap.size u.1 w':=fun u=>pF u.1;clear c0 c1 c2 cz y0 y1 y2 yz;cases d
   ·refine aH (by kernel_rfl) (by kernel_rfl) ?_;repeat(go_big_quiet_step (first|(go_at_call 14;exact aJ (call1 _))|(go_at_call 13;exact aJ (call3 _))|fail))
    refine wpQuiet_nil ?_;rintro _ ⟨v,rfl⟩;have HV:=aA v.2
    clear s0 s1 s2 t0 t1 t2 ne call1 call3;go_wp2;go_ret;exact⟨rfl,aB Z6.out HV.out⟩
   ·obtain⟨e1,e2,e3,e4⟩:=HDN.out rfl;subst e1;subst e2;subst e3;subst e4;have HPq:Hid (R3 W pa m2 pc n pA pC pAD pCP BP2):=HP6.out
    have HPr:Hid (R3 W qa m2 qc n qA qC qAD qCP BP2):=HP2.out;have call2:∀u:cH W,Calls Tryz.prog 11 #[.agg #[.slice (some ⟨b2,off2,none⟩) m2 cc,.slice qa m2 qc,.bool true],.agg #[.slice ba m2 bc,.slice pa m2 pc,.bool true]] u.1 fun r w'=>r= .returned (.bool true)∧Below u.1.heap.size u.1 w':=fun u=>wL u.1 m2 m2 n true BL2 BP2 _ _ _ _ _ _ _ _ (HT.out.below u.2) (HBq.out.below u.2) _ _ _ _ _ _ _ _ _ _ _ _ (HPr.out.below u.2) (HPq.out.below u.2)
    refine aH (by kernel_rfl) (by kernel_rfl) ?_;repeat(go_big_quiet_step (first|(go_at_call 14;exact aJ (call1 _))|(go_at_call 13;exact aJ (call3 _))|(go_at_call 11;exact aJ (call2 _))|fail))
    clear call2;refine wpQuiet_nil ?_;rintro _ ⟨v,rfl⟩;have HV:=aA v.2
    clear s0 s1 s2 t0 t1 t2 ne call1 call3;go_wp2;go_ret;exact⟨rfl,aB Z6.out HV.out⟩
end Go.Proofs.YtmlaedpamobmhaaGreat
