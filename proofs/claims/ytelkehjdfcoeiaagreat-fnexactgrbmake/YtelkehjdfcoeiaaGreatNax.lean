/-
  The greatest term of a sum while it is made.
-/
import Derived.Test.YtelkehjdfcoeiaaGreatNaw
import Derived.Maps.RangeWalk
set_option maxHeartbeats 8000000
set_option maxRecDepth 100000
namespace Go.Proofs.YtelkehjdfcoeiaaGreat
open Go.RowKit Go.Deep Go.Joins Go.Maps
set_option linter.unusedVariables false
theorem bH.grown {w w':World} {b:Nat} {t:T} {row:Option Nat} (h:bH w b t) (hg:w.grownBy w' row) (hne:some b≠row):bH w' b t:=by
 have hl:=h.1.lt;have hb:=hg.block b hl hne
 obtain⟨⟨h0,h1,h2,h3,h4⟩,h5⟩:=h;exact⟨⟨(nC (a:=⟨b,0,none⟩) hb).trans h0,(nC (a:=⟨b,1,none⟩) hb).trans h1,(nC (a:=⟨b,2,none⟩) hb).trans h2,(nC (a:=⟨b,3,none⟩) hb).trans h3,(nC (a:=⟨b,4,none⟩) hb).trans h4⟩,fun j=>(World.frozen?_of_block (a:=⟨b,j,none⟩) hb).trans (h5 j)⟩
theorem gJ (w:World) (b i:Nat) (v:Value):w.grownBy (w.setCell ⟨b,i,none⟩ v) (some b):=
 ⟨(bQ 0 w).setCell (p:=⟨b,i,none⟩) (Nat.zero_le _) v |>.os,(bQ 0 w).setCell (p:=⟨b,i,none⟩) (Nat.zero_le _) v |>.tape,(bQ 0 w).setCell (p:=⟨b,i,none⟩) (Nat.zero_le _) v |>.output,(bQ 0 w).setCell (p:=⟨b,i,none⟩) (Nat.zero_le _) v |>.size,fun k _ hk=>Below.heap_setCell _ _ _ k (fun e=>hk (by rw[e]))⟩
theorem lV (w:World) (B:Nat) (v0 v1 v2 v3 v4:Value):w.grownBy (((((w.setCell ⟨B,0,none⟩ v0).setCell ⟨B,1,none⟩ v1).setCell ⟨B,2,none⟩ v2).setCell ⟨B,3,none⟩ v3).setCell ⟨B,4,none⟩ v4) (some B):=
 ((((gJ w B 0 v0).trans (gJ _ B 1 v1)).trans (gJ _ B 2 v2)).trans (gJ _ B 3 v3)).trans (gJ _ B 4 v4)
def FA (rk:M→Int) (c:M→Int) (ss:List M) (G:T):Prop:=(ss=[]∧G=aX)∨(1≤G.c∧G.m.ok=true∧G.m∈ss∧G.c=c G.m∧∀m∈ss,rk m≤rk G.m)
theorem FA.first {rk c:M→Int} {G:T} (h:FA rk c [] G):G=aX:=by
 rcases h with⟨_,h⟩|⟨_,_,h,_⟩
 ·exact h
 ·simp at h
theorem FA.put {rk c:M→Int} {ss:List M} {G:T} {m:M} (h:FA rk c ss G) (hm:m.ok=true) (hc:1≤c m) (hg:G.c=0∨rk G.m<rk m):FA rk c (ss++[m]) ⟨c m,m⟩:=by
 refine .inr ⟨hc,hm,by simp,rfl,fun x hx=>?_⟩;rcases List.mem_append.1 hx with hx|hx
 ·rcases h with⟨rfl,_⟩|⟨h1,_,_,_,h5⟩
  ·simp at hx
  ·rcases hg with hg|hg
   ·omega
   ·have:=h5 x hx;show rk x≤rk m
    omega
 ·simp at hx;rw[hx];exact Int.le_refl _
theorem FA.keep {rk c:M→Int} {ss:List M} {G:T} {m:M} (h:FA rk c ss G) (h1:1≤G.c) (hg:¬rk G.m<rk m):FA rk c (ss++[m]) G:=by
 rcases h with⟨_,rfl⟩|⟨_,h0,h2,h3,h5⟩
 ·exact absurd h1 (by decide)
 ·refine .inr ⟨h1,h0,List.mem_append_left _ h2,h3,fun x hx=>?_⟩;rcases List.mem_append.1 hx with hx|hx
  ·exact h5 x hx
  ·simp at hx;rw[hx];omega
theorem FA.all {o:Int} {p:List T} (ho:1≤o∧o≤3) (hp:cJ p=true) (h0:p.length≠0) {ss:List M} {G:T} (h:FA (iR o) (aI p) ss G) (hs:∀m:M,m.ok=true→(m∈ss↔aI p m≠0)):G=dD o p:=by
 have hl:=jL (o:=o) h0;have hf:=(aD hp).2
 have hlm:=hf.2 _ hl;have hcl:=iM hf hl
 have hin:(dD o p).m∈ss:=(hs _ hlm.1).2 hcl.2;rcases h with⟨rfl,_⟩|⟨h1,h2,h3,h4,h5⟩
 ·simp at hin
 ·have hc:aI p G.m≠0:=(hs _ h2).1 h3;obtain⟨t,ht,he⟩:=List.mem_map.1 (iU hc);have he:t.m=G.m:=he
  have e1:=h5 _ hin;have e2:=zT ho hp h0 t ht
  rw[he]at e2;have e3:G.m=(dD o p).m:=oV _ _ h2 hlm.1 (Int.le_antisymm e2 e1)
  have e4:G.c=(dD o p).c:=by rw[h4,e3,hcl.1]
  cases hG:G with|mk gc gm=>
  cases hL:dD o p with|mk lc lm=>
  rw[hG,hL]at e3 e4;simp at e3 e4;rw[e3,e4]
theorem jZ.all {D:DataW Unit} {left:Lit→Bool} {ss:List M} {c:M→Int} (h:jZ D left ss) (hl:∀kl,left kl=false) (hat:∀m:M,m.ok=true→D.atKey (cY m) (.lit (.int .i64 0))= .lit (.int .i64 (c m))∧(Maps.has D (cY m)=true↔c m≠0)):∀m:M,m.ok=true→(m∈ss↔c m≠0):=fun m hm=>by
 rw[h.2.2 m hm,hl];simp[(hat m hm).2]
theorem LA (w:World) (b n:Nat) (c:M→Int) (h:aV w b n c):Calls Tryz.prog 138 #[.map (some b),.func (.func 93) #[] #[]] w fun r w'=>∃G:T,r= .returned (.agg #[.int .i64 G.c,.int .i64 G.m.x,.int .i64 G.m.y,.int .i64 G.m.d,.int .i64 G.m.e])∧Below w.heap.size w w'∧∃ss,FA dI c ss G∧∀m:M,m.ok=true→(m∈ss↔c m≠0):=by
 obtain⟨D,hown,hc,hat,hks⟩:=h;have hblt:=hown.lt
 have HKS:=aA hks;have HAT:=aA hat
 have HC:=aA hc;have HO2:=aA ((hown.alloc (.cells #[.int .i64 0,.int .i64 0,.int .i64 0,.int .i64 0,.int .i64 0] 86)).alloc (.cells #[.int .i64 0,.int .i64 0,.int .i64 0,.int .i64 0,.int .i64 0] 86))
 have HB0:=aA (aN w (.cells #[.int .i64 0,.int .i64 0,.int .i64 0,.int .i64 0,.int .i64 0] 86) (.cells #[.int .i64 0,.int .i64 0,.int .i64 0,.int .i64 0,.int .i64 0] 86));have HZ0:=aA ((bH.box w 86 aX).below (aC _ (.cells #[.int .i64 0,.int .i64 0,.int .i64 0,.int .i64 0,.int .i64 0] 86)))
 have HG0:=aA (bH.box (w.alloc (.cells #[.int .i64 0,.int .i64 0,.int .i64 0,.int .i64 0,.int .i64 0] 86)) 86 aX);clear hks hat hown hc;go_enter Tryz.func138,Tryz.ntmps138
 go_wp2_with (first
  |(at_range;refine wpList_range_own _ rfl _ 95 rfl 84 131 jK Tryz.underlying95 _ b n D rfl HO2.out ?_;intro w0 hrg0 hg0 hs0)
  |go_in)
 have hs2:((w.alloc (.cells #[.int .i64 0,.int .i64 0,.int .i64 0,.int .i64 0,.int .i64 0] 86)).alloc (.cells #[.int .i64 0,.int .i64 0,.int .i64 0,.int .i64 0,.int .i64 0] 86)).heap.size=w.heap.size+2:=by simp
 have HB1:=aA (jR HB0.out hg0 (by simp));have HZ1:=aA (HZ0.out.grown hg0 (by simp))
 have HG1:=aA (HG0.out.grown hg0 (by simp));have HRG:=aA hrg0
 rw[hs2]at HRG;simp only[World.size_alloc]at HG1;clear HB0 HZ0 HG0 HO2 hrg0 hg0 hs0
 go_frame
 rw[hs2]
 go_loopw [6] (fun _ wr=>∃(left:Lit→Bool) (uY:Nat) (ss:List M) (G:T),wr.ranges Tryz.prog 84 (plainElem Tryz.prog 131) b (w.heap.size+2) n D left uY∧jZ D left ss∧Below w.heap.size w wr∧bH wr w.heap.size aX∧bH wr (w.heap.size+1) G∧FA dI c ss G)
  (fun _ wr=>wr.rangeLeft b (w.heap.size+2))
 case atStart=>exact⟨_,_,[],aX,HRG.out,jZ.start D,HB1.out,HZ1.out,HG1.out,.inl ⟨rfl,rfl⟩⟩
 case round=>
  obtain⟨left,uY,ss,G,hrg,hC,hB,hZ,hG,hM⟩:=hrel;have HCO:=aA hC
  have HB:=aA hB;have HZ:=aA hZ
  have HGG:=aA hG;have HM:=aA hM
  have HRR:=aA hrg;have hGl:w.heap.size+1<wr.heap.size:=hG.1.lt
  clear hC hB hZ hG hM
  go_wp2_with (first
   |(at_next;refine wpList_next_ranges _ rfl _ rfl 84 jK (plainElem Tryz.prog 131) (id:Value→Value) (Value.int .i64) (fun key kl hk=>⟨key,rfl⟩) (fun v y hv=>by obtain⟨c,rfl,_⟩:=plainElem_int_inv Tryz.underlying131 hv;exact⟨c,rfl⟩) b (w.heap.size+2) n _ _ _ rfl HRR.out ?_ ?_)
   |go_in)
  ·intro hc0 hl0;obtain⟨⟨z0,z1,z2,z3,z4⟩,fz⟩:=HZ.out;obtain⟨⟨l0,l1,l2,l3,l4⟩,_⟩:=HGG.out;simp only[aX]at z0 z1 z2 z3 z4;have HAL:=aA (HCO.out.all hl0 HAT.out)
   clear hl0 hrg HZ HGG;go_wp2;refine cV (v:=.agg #[.int .i64 G.c,.int .i64 G.m.x,.int .i64 G.m.y,.int .i64 G.m.d,.int .i64 G.m.e]) (by simp[results,Tryz.results138,go_sem, *]) rfl ⟨G,rfl,?_,ss,HM.out,HAL.out⟩;exact bC HB.out (Nat.le_refl _) _ _ _ _ _
  ·intro x cv kl yd yp w2 cnt2 hkey hlk hv hatx hrg2 hlt hg2 hsz2 hen;obtain⟨m,hmo,rfl⟩:=HKS.out kl (has_true_of_atKey hatx);obtain rfl:x=KW m:=jK.inj hkey (lJ hmo);obtain rfl:cv=c m:=by
    obtain⟨c',e,e2,_⟩:=plainElem_int_inv Tryz.underlying131 hv;cases e;cases e2;have h1:=(HAT.out m hmo).1
    rw[hatx]at h1;simpa using h1
   have hcm:1≤c m:=by
    have h1:=(HAT.out m hmo).2.1 (has_true_of_atKey hatx);have h2:=(HC.out m).1
    omega
   have hcm2:=(HC.out m).2;have HRG2:=aA (hrg2.alloc (.cells #[.int .i64 m.x,.int .i64 m.y,.int .i64 m.d,.int .i64 m.e] 84))
   have HLT:=aA (show cnt2<wr.rangeLeft b (w.heap.size+2) by rw[hrg.left_eq];exact hlt);have HCO2:=aA (HCO.out.step hmo hlk hatx)
   have hB2:=jR HB.out hg2 (fun k e=>by cases e;omega);have HB2:=aA (hB2.alloc hB2.size (.cells #[.int .i64 m.x,.int .i64 m.y,.int .i64 m.d,.int .i64 m.e] 84))
   have HZ2:=aA ((HZ.out.grown hg2 (by simp)).below (aC w2 (.cells #[.int .i64 m.x,.int .i64 m.y,.int .i64 m.d,.int .i64 m.e] 84)));have HG2:=aA ((HGG.out.grown hg2 (by simp)).below (aC w2 (.cells #[.int .i64 m.x,.int .i64 m.y,.int .i64 m.d,.int .i64 m.e] 84)))
   have HM2:=aA (M4.box w2 84 m.x m.y m.d m.e);have hsw:w.heap.size+1<w2.heap.size:=by rw[hsz2];exact hGl
   have hrw:w.heap.size+2<w2.heap.size:=hrg2.lt;have hbw:b<w2.heap.size:=hrg2.owns.lt
   clear hlk hatx hrg hrg2 hlt hg2 hsz2 hkey hv hB2 HRR HB HZ HGG HCO hGl;go_wp2_with fail;generalize(w2.alloc (.cells #[.int .i64 m.x,.int .i64 m.y,.int .i64 m.d,.int .i64 m.e] 84))=wq at HRG2 HB2 HZ2 HG2 HM2⊢;have ne:=bR.there wq
   have s0:∀u:bR wq,u.1.cell? ⟨w2.heap.size,0,none⟩=some (.int .i64 m.x):=fun u=>(u.cell HM2.out.lt).trans HM2.out.1;have s1:∀u:bR wq,u.1.cell? ⟨w2.heap.size,1,none⟩=some (.int .i64 m.y):=fun u=>(u.cell HM2.out.lt).trans HM2.out.2.1
   have s2:∀u:bR wq,u.1.cell? ⟨w2.heap.size,2,none⟩=some (.int .i64 m.d):=fun u=>(u.cell HM2.out.lt).trans HM2.out.2.2.1;have s3:∀u:bR wq,u.1.cell? ⟨w2.heap.size,3,none⟩=some (.int .i64 m.e):=fun u=>(u.cell HM2.out.lt).trans HM2.out.2.2.2
   have t0:∀u:bR wq,u.1.cell? ⟨w.heap.size+1,0,none⟩=some (.int .i64 G.c):=fun u=>(u.cell HG2.out.1.lt).trans HG2.out.1.1;have t1:∀u:bR wq,u.1.cell? ⟨w.heap.size+1,1,none⟩=some (.int .i64 G.m.x):=fun u=>(u.cell HG2.out.1.lt).trans HG2.out.1.2.1
   have t2:∀u:bR wq,u.1.cell? ⟨w.heap.size+1,2,none⟩=some (.int .i64 G.m.y):=fun u=>(u.cell HG2.out.1.lt).trans HG2.out.1.2.2.1;have t3:∀u:bR wq,u.1.cell? ⟨w.heap.size+1,3,none⟩=some (.int .i64 G.m.d):=fun u=>(u.cell HG2.out.1.lt).trans HG2.out.1.2.2.2.1
   have t4:∀u:bR wq,u.1.cell? ⟨w.heap.size+1,4,none⟩=some (.int .i64 G.m.e):=fun u=>(u.cell HG2.out.1.lt).trans HG2.out.1.2.2.2.2;by_cases hG0:G.c=0
   ·have hgz:((G.c:Int)==0)=true:=by simpa using hG0
    have HMT:=aA (HM.out.put hmo hcm (.inl hG0));clear HM hG0;refine aF (by kernel_rfl) (by kernel_rfl) ?_;repeat(go_big_quiet_step (fail))
    refine wpQuiet_nil ?_;rintro _ ⟨v,rfl⟩;have HBV:=aA (HB2.out.trans (v.2.mono HB2.out.size))
    have HZV:=aA (HZ2.out.below v.2);have HGV:=aA (HG2.out.below v.2)
    have HMV:=aA (HM2.out.below v.2);have HRV:=aA (HRG2.out.kept (cC v.2 none) (by simp) (by simp))
    obtain⟨u,hu⟩:∃u,v.1=u:=⟨_,rfl⟩
    rw[hu]at HBV HZV HGV HMV HRV⊢;clear hu s0 s1 s2 s3 t0 t1 t2 t3 t4 ne v;obtain⟨q0,q1,q2,q3⟩:=HMV.out;obtain⟨⟨l0,l1,l2,l3,l4⟩,lz⟩:=HGV.out;have HRW:=aA (HRV.out.kept (lV u (w.heap.size+1) (.int .i64 (c m)) (.int .i64 m.x) (.int .i64 m.y) (.int .i64 m.d) (.int .i64 m.e)) (by simp;omega) (by simp))
    clear HRV;go_wp2;go_roundw
    case rel=>
     refine⟨_,cnt2,ss++[m],⟨c m,m⟩,HRW.out,HCO2.out,bC HBV.out (by omega) _ _ _ _ _,HZV.out.far (by omega),⟨⟨by go_simp,by go_simp,by go_simp,by go_simp,by go_simp⟩,fun j=>by go_simp⟩,HMT.out⟩
    case measure=>rw[HRW.out.left_eq];exact HLT.out
   ·have hgz:((G.c:Int)==0)=false:=by simpa using hG0
    obtain⟨hg1,hgo⟩:1≤G.c∧G.m.ok=true:=by
     rcases HM.out with⟨_,e⟩|⟨e1,e2,_⟩
     ·rw[e]at hG0;exact absurd rfl hG0
     ·exact⟨e1,e2⟩
    by_cases hq:dI G.m<dI m
    ·have dq:decide (dI ⟨G.m.x,G.m.y,G.m.d,G.m.e⟩<dI ⟨m.x,m.y,m.d,m.e⟩)=true:=decide_eq_true hq;have HMT:=aA (HM.out.put hmo hcm (.inr hq))
     clear HM hG0 hq;refine aF (by kernel_rfl) (by kernel_rfl) ?_;repeat(go_big_quiet_step (first|(go_at_call 93;exact aG (fJ _ _ _ _ _ hmo))|(go_at_call 93;exact aG (fJ _ _ _ _ _ hgo))))
     refine wpQuiet_nil ?_;rintro _ ⟨v,rfl⟩;have HBV:=aA (HB2.out.trans (v.2.mono HB2.out.size))
     have HZV:=aA (HZ2.out.below v.2);have HGV:=aA (HG2.out.below v.2)
     have HMV:=aA (HM2.out.below v.2);have HRV:=aA (HRG2.out.kept (cC v.2 none) (by simp) (by simp))
     obtain⟨u,hu⟩:∃u,v.1=u:=⟨_,rfl⟩
     rw[hu]at HBV HZV HGV HMV HRV⊢;clear hu s0 s1 s2 s3 t0 t1 t2 t3 t4 ne v;obtain⟨q0,q1,q2,q3⟩:=HMV.out;obtain⟨⟨l0,l1,l2,l3,l4⟩,lz⟩:=HGV.out;have HRW:=aA (HRV.out.kept (lV u (w.heap.size+1) (.int .i64 (c m)) (.int .i64 m.x) (.int .i64 m.y) (.int .i64 m.d) (.int .i64 m.e)) (by simp;omega) (by simp))
     clear HRV;go_wp2;go_roundw
     case rel=>
      refine⟨_,cnt2,ss++[m],⟨c m,m⟩,HRW.out,HCO2.out,bC HBV.out (by omega) _ _ _ _ _,HZV.out.far (by omega),⟨⟨by go_simp,by go_simp,by go_simp,by go_simp,by go_simp⟩,fun j=>by go_simp⟩,HMT.out⟩
     case measure=>rw[HRW.out.left_eq];exact HLT.out
    ·have dq:decide (dI ⟨G.m.x,G.m.y,G.m.d,G.m.e⟩<dI ⟨m.x,m.y,m.d,m.e⟩)=false:=decide_eq_false hq;have HMT:=aA (HM.out.keep hg1 hq)
     clear HM hG0 hq;refine aF (by kernel_rfl) (by kernel_rfl) ?_;repeat(go_big_quiet_step (first|(go_at_call 93;exact aG (fJ _ _ _ _ _ hmo))|(go_at_call 93;exact aG (fJ _ _ _ _ _ hgo))))
     refine wpQuiet_nil ?_;rintro _ ⟨v,rfl⟩;have HBV:=aA (HB2.out.trans (v.2.mono HB2.out.size))
     have HZV:=aA (HZ2.out.below v.2);have HGV:=aA (HG2.out.below v.2)
     have HRV:=aA (HRG2.out.kept (cC v.2 none) (by simp) (by simp));obtain⟨u,hu⟩:∃u,v.1=u:=⟨_,rfl⟩
     rw[hu]at HBV HZV HGV HRV⊢;clear hu s0 s1 s2 s3 t0 t1 t2 t3 t4 ne v;go_wp2;go_roundw;case rel=>exact⟨_,cnt2,ss++[m],G,HRV.out,HCO2.out,HBV.out,HZV.out,HGV.out,HMT.out⟩
     case measure=>rw[HRV.out.left_eq];exact HLT.out
theorem LB (w:World) (b n:Nat) (c:M→Int) (h:aV w b n c):Calls Tryz.prog 138 #[.map (some b),.func (.func 122) #[] #[]] w fun r w'=>∃G:T,r= .returned (.agg #[.int .i64 G.c,.int .i64 G.m.x,.int .i64 G.m.y,.int .i64 G.m.d,.int .i64 G.m.e])∧Below w.heap.size w w'∧∃ss,FA fF c ss G∧∀m:M,m.ok=true→(m∈ss↔c m≠0):=by
 obtain⟨D,hown,hc,hat,hks⟩:=h;have hblt:=hown.lt
 have HKS:=aA hks;have HAT:=aA hat
 have HC:=aA hc;have HO2:=aA ((hown.alloc (.cells #[.int .i64 0,.int .i64 0,.int .i64 0,.int .i64 0,.int .i64 0] 86)).alloc (.cells #[.int .i64 0,.int .i64 0,.int .i64 0,.int .i64 0,.int .i64 0] 86))
 have HB0:=aA (aN w (.cells #[.int .i64 0,.int .i64 0,.int .i64 0,.int .i64 0,.int .i64 0] 86) (.cells #[.int .i64 0,.int .i64 0,.int .i64 0,.int .i64 0,.int .i64 0] 86));have HZ0:=aA ((bH.box w 86 aX).below (aC _ (.cells #[.int .i64 0,.int .i64 0,.int .i64 0,.int .i64 0,.int .i64 0] 86)))
 have HG0:=aA (bH.box (w.alloc (.cells #[.int .i64 0,.int .i64 0,.int .i64 0,.int .i64 0,.int .i64 0] 86)) 86 aX);clear hks hat hown hc;go_enter Tryz.func138,Tryz.ntmps138
 go_wp2_with (first
  |(at_range;refine wpList_range_own _ rfl _ 95 rfl 84 131 jK Tryz.underlying95 _ b n D rfl HO2.out ?_;intro w0 hrg0 hg0 hs0)
  |go_in)
 have hs2:((w.alloc (.cells #[.int .i64 0,.int .i64 0,.int .i64 0,.int .i64 0,.int .i64 0] 86)).alloc (.cells #[.int .i64 0,.int .i64 0,.int .i64 0,.int .i64 0,.int .i64 0] 86)).heap.size=w.heap.size+2:=by simp
 have HB1:=aA (jR HB0.out hg0 (by simp));have HZ1:=aA (HZ0.out.grown hg0 (by simp))
 have HG1:=aA (HG0.out.grown hg0 (by simp));have HRG:=aA hrg0
 rw[hs2]at HRG;simp only[World.size_alloc]at HG1;clear HB0 HZ0 HG0 HO2 hrg0 hg0 hs0
 go_frame
 rw[hs2]
 go_loopw [6] (fun _ wr=>∃(left:Lit→Bool) (uY:Nat) (ss:List M) (G:T),wr.ranges Tryz.prog 84 (plainElem Tryz.prog 131) b (w.heap.size+2) n D left uY∧jZ D left ss∧Below w.heap.size w wr∧bH wr w.heap.size aX∧bH wr (w.heap.size+1) G∧FA fF c ss G)
  (fun _ wr=>wr.rangeLeft b (w.heap.size+2))
 case atStart=>exact⟨_,_,[],aX,HRG.out,jZ.start D,HB1.out,HZ1.out,HG1.out,.inl ⟨rfl,rfl⟩⟩
 case round=>
  obtain⟨left,uY,ss,G,hrg,hC,hB,hZ,hG,hM⟩:=hrel;have HCO:=aA hC
  have HB:=aA hB;have HZ:=aA hZ
  have HGG:=aA hG;have HM:=aA hM
  have HRR:=aA hrg;have hGl:w.heap.size+1<wr.heap.size:=hG.1.lt
  clear hC hB hZ hG hM
  go_wp2_with (first
   |(at_next;refine wpList_next_ranges _ rfl _ rfl 84 jK (plainElem Tryz.prog 131) (id:Value→Value) (Value.int .i64) (fun key kl hk=>⟨key,rfl⟩) (fun v y hv=>by obtain⟨c,rfl,_⟩:=plainElem_int_inv Tryz.underlying131 hv;exact⟨c,rfl⟩) b (w.heap.size+2) n _ _ _ rfl HRR.out ?_ ?_)
   |go_in)
  ·intro hc0 hl0;obtain⟨⟨z0,z1,z2,z3,z4⟩,fz⟩:=HZ.out;obtain⟨⟨l0,l1,l2,l3,l4⟩,_⟩:=HGG.out;simp only[aX]at z0 z1 z2 z3 z4;have HAL:=aA (HCO.out.all hl0 HAT.out)
   clear hl0 hrg HZ HGG;go_wp2;refine cV (v:=.agg #[.int .i64 G.c,.int .i64 G.m.x,.int .i64 G.m.y,.int .i64 G.m.d,.int .i64 G.m.e]) (by simp[results,Tryz.results138,go_sem, *]) rfl ⟨G,rfl,?_,ss,HM.out,HAL.out⟩;exact bC HB.out (Nat.le_refl _) _ _ _ _ _
  ·intro x cv kl yd yp w2 cnt2 hkey hlk hv hatx hrg2 hlt hg2 hsz2 hen;obtain⟨m,hmo,rfl⟩:=HKS.out kl (has_true_of_atKey hatx);obtain rfl:x=KW m:=jK.inj hkey (lJ hmo);obtain rfl:cv=c m:=by
    obtain⟨c',e,e2,_⟩:=plainElem_int_inv Tryz.underlying131 hv;cases e;cases e2;have h1:=(HAT.out m hmo).1
    rw[hatx]at h1;simpa using h1
   have hcm:1≤c m:=by
    have h1:=(HAT.out m hmo).2.1 (has_true_of_atKey hatx);have h2:=(HC.out m).1
    omega
   have hcm2:=(HC.out m).2;have HRG2:=aA (hrg2.alloc (.cells #[.int .i64 m.x,.int .i64 m.y,.int .i64 m.d,.int .i64 m.e] 84))
   have HLT:=aA (show cnt2<wr.rangeLeft b (w.heap.size+2) by rw[hrg.left_eq];exact hlt);have HCO2:=aA (HCO.out.step hmo hlk hatx)
   have hB2:=jR HB.out hg2 (fun k e=>by cases e;omega);have HB2:=aA (hB2.alloc hB2.size (.cells #[.int .i64 m.x,.int .i64 m.y,.int .i64 m.d,.int .i64 m.e] 84))
   have HZ2:=aA ((HZ.out.grown hg2 (by simp)).below (aC w2 (.cells #[.int .i64 m.x,.int .i64 m.y,.int .i64 m.d,.int .i64 m.e] 84)));have HG2:=aA ((HGG.out.grown hg2 (by simp)).below (aC w2 (.cells #[.int .i64 m.x,.int .i64 m.y,.int .i64 m.d,.int .i64 m.e] 84)))
   have HM2:=aA (M4.box w2 84 m.x m.y m.d m.e);have hsw:w.heap.size+1<w2.heap.size:=by rw[hsz2];exact hGl
   have hrw:w.heap.size+2<w2.heap.size:=hrg2.lt;have hbw:b<w2.heap.size:=hrg2.owns.lt
   clear hlk hatx hrg hrg2 hlt hg2 hsz2 hkey hv hB2 HRR HB HZ HGG HCO hGl;go_wp2_with fail;generalize(w2.alloc (.cells #[.int .i64 m.x,.int .i64 m.y,.int .i64 m.d,.int .i64 m.e] 84))=wq at HRG2 HB2 HZ2 HG2 HM2⊢;have ne:=bR.there wq
   have s0:∀u:bR wq,u.1.cell? ⟨w2.heap.size,0,none⟩=some (.int .i64 m.x):=fun u=>(u.cell HM2.out.lt).trans HM2.out.1;have s1:∀u:bR wq,u.1.cell? ⟨w2.heap.size,1,none⟩=some (.int .i64 m.y):=fun u=>(u.cell HM2.out.lt).trans HM2.out.2.1
   have s2:∀u:bR wq,u.1.cell? ⟨w2.heap.size,2,none⟩=some (.int .i64 m.d):=fun u=>(u.cell HM2.out.lt).trans HM2.out.2.2.1;have s3:∀u:bR wq,u.1.cell? ⟨w2.heap.size,3,none⟩=some (.int .i64 m.e):=fun u=>(u.cell HM2.out.lt).trans HM2.out.2.2.2
   have t0:∀u:bR wq,u.1.cell? ⟨w.heap.size+1,0,none⟩=some (.int .i64 G.c):=fun u=>(u.cell HG2.out.1.lt).trans HG2.out.1.1;have t1:∀u:bR wq,u.1.cell? ⟨w.heap.size+1,1,none⟩=some (.int .i64 G.m.x):=fun u=>(u.cell HG2.out.1.lt).trans HG2.out.1.2.1
   have t2:∀u:bR wq,u.1.cell? ⟨w.heap.size+1,2,none⟩=some (.int .i64 G.m.y):=fun u=>(u.cell HG2.out.1.lt).trans HG2.out.1.2.2.1;have t3:∀u:bR wq,u.1.cell? ⟨w.heap.size+1,3,none⟩=some (.int .i64 G.m.d):=fun u=>(u.cell HG2.out.1.lt).trans HG2.out.1.2.2.2.1
   have t4:∀u:bR wq,u.1.cell? ⟨w.heap.size+1,4,none⟩=some (.int .i64 G.m.e):=fun u=>(u.cell HG2.out.1.lt).trans HG2.out.1.2.2.2.2;by_cases hG0:G.c=0
   ·have hgz:((G.c:Int)==0)=true:=by simpa using hG0
    have HMT:=aA (HM.out.put hmo hcm (.inl hG0));clear HM hG0;refine aF (by kernel_rfl) (by kernel_rfl) ?_;repeat(go_big_quiet_step (fail))
    refine wpQuiet_nil ?_;rintro _ ⟨v,rfl⟩;have HBV:=aA (HB2.out.trans (v.2.mono HB2.out.size))
    have HZV:=aA (HZ2.out.below v.2);have HGV:=aA (HG2.out.below v.2)
    have HMV:=aA (HM2.out.below v.2);have HRV:=aA (HRG2.out.kept (cC v.2 none) (by simp) (by simp))
    obtain⟨u,hu⟩:∃u,v.1=u:=⟨_,rfl⟩
    rw[hu]at HBV HZV HGV HMV HRV⊢;clear hu s0 s1 s2 s3 t0 t1 t2 t3 t4 ne v;obtain⟨q0,q1,q2,q3⟩:=HMV.out;obtain⟨⟨l0,l1,l2,l3,l4⟩,lz⟩:=HGV.out;have HRW:=aA (HRV.out.kept (lV u (w.heap.size+1) (.int .i64 (c m)) (.int .i64 m.x) (.int .i64 m.y) (.int .i64 m.d) (.int .i64 m.e)) (by simp;omega) (by simp))
    clear HRV;go_wp2;go_roundw
    case rel=>
     refine⟨_,cnt2,ss++[m],⟨c m,m⟩,HRW.out,HCO2.out,bC HBV.out (by omega) _ _ _ _ _,HZV.out.far (by omega),⟨⟨by go_simp,by go_simp,by go_simp,by go_simp,by go_simp⟩,fun j=>by go_simp⟩,HMT.out⟩
    case measure=>rw[HRW.out.left_eq];exact HLT.out
   ·have hgz:((G.c:Int)==0)=false:=by simpa using hG0
    obtain⟨hg1,hgo⟩:1≤G.c∧G.m.ok=true:=by
     rcases HM.out with⟨_,e⟩|⟨e1,e2,_⟩
     ·rw[e]at hG0;exact absurd rfl hG0
     ·exact⟨e1,e2⟩
    by_cases hq:fF G.m<fF m
    ·have dq:decide (fF ⟨G.m.x,G.m.y,G.m.d,G.m.e⟩<fF ⟨m.x,m.y,m.d,m.e⟩)=true:=decide_eq_true hq;have HMT:=aA (HM.out.put hmo hcm (.inr hq))
     clear HM hG0 hq;refine aF (by kernel_rfl) (by kernel_rfl) ?_;repeat(go_big_quiet_step (first|(go_at_call 122;exact aG (gN _ _ _ _ _ hmo))|(go_at_call 122;exact aG (gN _ _ _ _ _ hgo))))
     refine wpQuiet_nil ?_;rintro _ ⟨v,rfl⟩;have HBV:=aA (HB2.out.trans (v.2.mono HB2.out.size))
     have HZV:=aA (HZ2.out.below v.2);have HGV:=aA (HG2.out.below v.2)
     have HMV:=aA (HM2.out.below v.2);have HRV:=aA (HRG2.out.kept (cC v.2 none) (by simp) (by simp))
     obtain⟨u,hu⟩:∃u,v.1=u:=⟨_,rfl⟩
     rw[hu]at HBV HZV HGV HMV HRV⊢;clear hu s0 s1 s2 s3 t0 t1 t2 t3 t4 ne v;obtain⟨q0,q1,q2,q3⟩:=HMV.out;obtain⟨⟨l0,l1,l2,l3,l4⟩,lz⟩:=HGV.out;have HRW:=aA (HRV.out.kept (lV u (w.heap.size+1) (.int .i64 (c m)) (.int .i64 m.x) (.int .i64 m.y) (.int .i64 m.d) (.int .i64 m.e)) (by simp;omega) (by simp))
     clear HRV;go_wp2;go_roundw
     case rel=>
      refine⟨_,cnt2,ss++[m],⟨c m,m⟩,HRW.out,HCO2.out,bC HBV.out (by omega) _ _ _ _ _,HZV.out.far (by omega),⟨⟨by go_simp,by go_simp,by go_simp,by go_simp,by go_simp⟩,fun j=>by go_simp⟩,HMT.out⟩
     case measure=>rw[HRW.out.left_eq];exact HLT.out
    ·have dq:decide (fF ⟨G.m.x,G.m.y,G.m.d,G.m.e⟩<fF ⟨m.x,m.y,m.d,m.e⟩)=false:=decide_eq_false hq;have HMT:=aA (HM.out.keep hg1 hq)
     clear HM hG0 hq;refine aF (by kernel_rfl) (by kernel_rfl) ?_;repeat(go_big_quiet_step (first|(go_at_call 122;exact aG (gN _ _ _ _ _ hmo))|(go_at_call 122;exact aG (gN _ _ _ _ _ hgo))))
     refine wpQuiet_nil ?_;rintro _ ⟨v,rfl⟩;have HBV:=aA (HB2.out.trans (v.2.mono HB2.out.size))
     have HZV:=aA (HZ2.out.below v.2);have HGV:=aA (HG2.out.below v.2)
     have HRV:=aA (HRG2.out.kept (cC v.2 none) (by simp) (by simp));obtain⟨u,hu⟩:∃u,v.1=u:=⟨_,rfl⟩
     rw[hu]at HBV HZV HGV HRV⊢;clear hu s0 s1 s2 s3 t0 t1 t2 t3 t4 ne v;go_wp2;go_roundw;case rel=>exact⟨_,cnt2,ss++[m],G,HRV.out,HCO2.out,HBV.out,HZV.out,HGV.out,HMT.out⟩
     case measure=>rw[HRV.out.left_eq];exact HLT.out
theorem LC (w:World) (b n:Nat) (c:M→Int) (h:aV w b n c):Calls Tryz.prog 138 #[.map (some b),.func (.func 123) #[] #[]] w fun r w'=>∃G:T,r= .returned (.agg #[.int .i64 G.c,.int .i64 G.m.x,.int .i64 G.m.y,.int .i64 G.m.d,.int .i64 G.m.e])∧Below w.heap.size w w'∧∃ss,FA tE c ss G∧∀m:M,m.ok=true→(m∈ss↔c m≠0):=by
 obtain⟨D,hown,hc,hat,hks⟩:=h;have hblt:=hown.lt
 have HKS:=aA hks;have HAT:=aA hat
 have HC:=aA hc;have HO2:=aA ((hown.alloc (.cells #[.int .i64 0,.int .i64 0,.int .i64 0,.int .i64 0,.int .i64 0] 86)).alloc (.cells #[.int .i64 0,.int .i64 0,.int .i64 0,.int .i64 0,.int .i64 0] 86))
 have HB0:=aA (aN w (.cells #[.int .i64 0,.int .i64 0,.int .i64 0,.int .i64 0,.int .i64 0] 86) (.cells #[.int .i64 0,.int .i64 0,.int .i64 0,.int .i64 0,.int .i64 0] 86));have HZ0:=aA ((bH.box w 86 aX).below (aC _ (.cells #[.int .i64 0,.int .i64 0,.int .i64 0,.int .i64 0,.int .i64 0] 86)))
 have HG0:=aA (bH.box (w.alloc (.cells #[.int .i64 0,.int .i64 0,.int .i64 0,.int .i64 0,.int .i64 0] 86)) 86 aX);clear hks hat hown hc;go_enter Tryz.func138,Tryz.ntmps138
 go_wp2_with (first
  |(at_range;refine wpList_range_own _ rfl _ 95 rfl 84 131 jK Tryz.underlying95 _ b n D rfl HO2.out ?_;intro w0 hrg0 hg0 hs0)
  |go_in)
 have hs2:((w.alloc (.cells #[.int .i64 0,.int .i64 0,.int .i64 0,.int .i64 0,.int .i64 0] 86)).alloc (.cells #[.int .i64 0,.int .i64 0,.int .i64 0,.int .i64 0,.int .i64 0] 86)).heap.size=w.heap.size+2:=by simp
 have HB1:=aA (jR HB0.out hg0 (by simp));have HZ1:=aA (HZ0.out.grown hg0 (by simp))
 have HG1:=aA (HG0.out.grown hg0 (by simp));have HRG:=aA hrg0
 rw[hs2]at HRG;simp only[World.size_alloc]at HG1;clear HB0 HZ0 HG0 HO2 hrg0 hg0 hs0
 go_frame
 rw[hs2]
 go_loopw [6] (fun _ wr=>∃(left:Lit→Bool) (uY:Nat) (ss:List M) (G:T),wr.ranges Tryz.prog 84 (plainElem Tryz.prog 131) b (w.heap.size+2) n D left uY∧jZ D left ss∧Below w.heap.size w wr∧bH wr w.heap.size aX∧bH wr (w.heap.size+1) G∧FA tE c ss G)
  (fun _ wr=>wr.rangeLeft b (w.heap.size+2))
 case atStart=>exact⟨_,_,[],aX,HRG.out,jZ.start D,HB1.out,HZ1.out,HG1.out,.inl ⟨rfl,rfl⟩⟩
 case round=>
  obtain⟨left,uY,ss,G,hrg,hC,hB,hZ,hG,hM⟩:=hrel;have HCO:=aA hC
  have HB:=aA hB;have HZ:=aA hZ
  have HGG:=aA hG;have HM:=aA hM
  have HRR:=aA hrg;have hGl:w.heap.size+1<wr.heap.size:=hG.1.lt
  clear hC hB hZ hG hM
  go_wp2_with (first
   |(at_next;refine wpList_next_ranges _ rfl _ rfl 84 jK (plainElem Tryz.prog 131) (id:Value→Value) (Value.int .i64) (fun key kl hk=>⟨key,rfl⟩) (fun v y hv=>by obtain⟨c,rfl,_⟩:=plainElem_int_inv Tryz.underlying131 hv;exact⟨c,rfl⟩) b (w.heap.size+2) n _ _ _ rfl HRR.out ?_ ?_)
   |go_in)
  ·intro hc0 hl0;obtain⟨⟨z0,z1,z2,z3,z4⟩,fz⟩:=HZ.out;obtain⟨⟨l0,l1,l2,l3,l4⟩,_⟩:=HGG.out;simp only[aX]at z0 z1 z2 z3 z4;have HAL:=aA (HCO.out.all hl0 HAT.out)
   clear hl0 hrg HZ HGG;go_wp2;refine cV (v:=.agg #[.int .i64 G.c,.int .i64 G.m.x,.int .i64 G.m.y,.int .i64 G.m.d,.int .i64 G.m.e]) (by simp[results,Tryz.results138,go_sem, *]) rfl ⟨G,rfl,?_,ss,HM.out,HAL.out⟩;exact bC HB.out (Nat.le_refl _) _ _ _ _ _
  ·intro x cv kl yd yp w2 cnt2 hkey hlk hv hatx hrg2 hlt hg2 hsz2 hen;obtain⟨m,hmo,rfl⟩:=HKS.out kl (has_true_of_atKey hatx);obtain rfl:x=KW m:=jK.inj hkey (lJ hmo);obtain rfl:cv=c m:=by
    obtain⟨c',e,e2,_⟩:=plainElem_int_inv Tryz.underlying131 hv;cases e;cases e2;have h1:=(HAT.out m hmo).1
    rw[hatx]at h1;simpa using h1
   have hcm:1≤c m:=by
    have h1:=(HAT.out m hmo).2.1 (has_true_of_atKey hatx);have h2:=(HC.out m).1
    omega
   have hcm2:=(HC.out m).2;have HRG2:=aA (hrg2.alloc (.cells #[.int .i64 m.x,.int .i64 m.y,.int .i64 m.d,.int .i64 m.e] 84))
   have HLT:=aA (show cnt2<wr.rangeLeft b (w.heap.size+2) by rw[hrg.left_eq];exact hlt);have HCO2:=aA (HCO.out.step hmo hlk hatx)
   have hB2:=jR HB.out hg2 (fun k e=>by cases e;omega);have HB2:=aA (hB2.alloc hB2.size (.cells #[.int .i64 m.x,.int .i64 m.y,.int .i64 m.d,.int .i64 m.e] 84))
   have HZ2:=aA ((HZ.out.grown hg2 (by simp)).below (aC w2 (.cells #[.int .i64 m.x,.int .i64 m.y,.int .i64 m.d,.int .i64 m.e] 84)));have HG2:=aA ((HGG.out.grown hg2 (by simp)).below (aC w2 (.cells #[.int .i64 m.x,.int .i64 m.y,.int .i64 m.d,.int .i64 m.e] 84)))
   have HM2:=aA (M4.box w2 84 m.x m.y m.d m.e);have hsw:w.heap.size+1<w2.heap.size:=by rw[hsz2];exact hGl
   have hrw:w.heap.size+2<w2.heap.size:=hrg2.lt;have hbw:b<w2.heap.size:=hrg2.owns.lt
   clear hlk hatx hrg hrg2 hlt hg2 hsz2 hkey hv hB2 HRR HB HZ HGG HCO hGl;go_wp2_with fail;generalize(w2.alloc (.cells #[.int .i64 m.x,.int .i64 m.y,.int .i64 m.d,.int .i64 m.e] 84))=wq at HRG2 HB2 HZ2 HG2 HM2⊢;have ne:=bR.there wq
   have s0:∀u:bR wq,u.1.cell? ⟨w2.heap.size,0,none⟩=some (.int .i64 m.x):=fun u=>(u.cell HM2.out.lt).trans HM2.out.1;have s1:∀u:bR wq,u.1.cell? ⟨w2.heap.size,1,none⟩=some (.int .i64 m.y):=fun u=>(u.cell HM2.out.lt).trans HM2.out.2.1
   have s2:∀u:bR wq,u.1.cell? ⟨w2.heap.size,2,none⟩=some (.int .i64 m.d):=fun u=>(u.cell HM2.out.lt).trans HM2.out.2.2.1;have s3:∀u:bR wq,u.1.cell? ⟨w2.heap.size,3,none⟩=some (.int .i64 m.e):=fun u=>(u.cell HM2.out.lt).trans HM2.out.2.2.2
   have t0:∀u:bR wq,u.1.cell? ⟨w.heap.size+1,0,none⟩=some (.int .i64 G.c):=fun u=>(u.cell HG2.out.1.lt).trans HG2.out.1.1;have t1:∀u:bR wq,u.1.cell? ⟨w.heap.size+1,1,none⟩=some (.int .i64 G.m.x):=fun u=>(u.cell HG2.out.1.lt).trans HG2.out.1.2.1
   have t2:∀u:bR wq,u.1.cell? ⟨w.heap.size+1,2,none⟩=some (.int .i64 G.m.y):=fun u=>(u.cell HG2.out.1.lt).trans HG2.out.1.2.2.1;have t3:∀u:bR wq,u.1.cell? ⟨w.heap.size+1,3,none⟩=some (.int .i64 G.m.d):=fun u=>(u.cell HG2.out.1.lt).trans HG2.out.1.2.2.2.1
   have t4:∀u:bR wq,u.1.cell? ⟨w.heap.size+1,4,none⟩=some (.int .i64 G.m.e):=fun u=>(u.cell HG2.out.1.lt).trans HG2.out.1.2.2.2.2;by_cases hG0:G.c=0
   ·have hgz:((G.c:Int)==0)=true:=by simpa using hG0
    have HMT:=aA (HM.out.put hmo hcm (.inl hG0));clear HM hG0;refine aF (by kernel_rfl) (by kernel_rfl) ?_;repeat(go_big_quiet_step (fail))
    refine wpQuiet_nil ?_;rintro _ ⟨v,rfl⟩;have HBV:=aA (HB2.out.trans (v.2.mono HB2.out.size))
    have HZV:=aA (HZ2.out.below v.2);have HGV:=aA (HG2.out.below v.2)
    have HMV:=aA (HM2.out.below v.2);have HRV:=aA (HRG2.out.kept (cC v.2 none) (by simp) (by simp))
    obtain⟨u,hu⟩:∃u,v.1=u:=⟨_,rfl⟩
    rw[hu]at HBV HZV HGV HMV HRV⊢;clear hu s0 s1 s2 s3 t0 t1 t2 t3 t4 ne v;obtain⟨q0,q1,q2,q3⟩:=HMV.out;obtain⟨⟨l0,l1,l2,l3,l4⟩,lz⟩:=HGV.out;have HRW:=aA (HRV.out.kept (lV u (w.heap.size+1) (.int .i64 (c m)) (.int .i64 m.x) (.int .i64 m.y) (.int .i64 m.d) (.int .i64 m.e)) (by simp;omega) (by simp))
    clear HRV;go_wp2;go_roundw
    case rel=>
     refine⟨_,cnt2,ss++[m],⟨c m,m⟩,HRW.out,HCO2.out,bC HBV.out (by omega) _ _ _ _ _,HZV.out.far (by omega),⟨⟨by go_simp,by go_simp,by go_simp,by go_simp,by go_simp⟩,fun j=>by go_simp⟩,HMT.out⟩
    case measure=>rw[HRW.out.left_eq];exact HLT.out
   ·have hgz:((G.c:Int)==0)=false:=by simpa using hG0
    obtain⟨hg1,hgo⟩:1≤G.c∧G.m.ok=true:=by
     rcases HM.out with⟨_,e⟩|⟨e1,e2,_⟩
     ·rw[e]at hG0;exact absurd rfl hG0
     ·exact⟨e1,e2⟩
    by_cases hq:tE G.m<tE m
    ·have dq:decide (tE ⟨G.m.x,G.m.y,G.m.d,G.m.e⟩<tE ⟨m.x,m.y,m.d,m.e⟩)=true:=decide_eq_true hq;have HMT:=aA (HM.out.put hmo hcm (.inr hq))
     clear HM hG0 hq;refine aF (by kernel_rfl) (by kernel_rfl) ?_;repeat(go_big_quiet_step (first|(go_at_call 123;exact aG (iX _ _ _ _ _ hmo))|(go_at_call 123;exact aG (iX _ _ _ _ _ hgo))))
     refine wpQuiet_nil ?_;rintro _ ⟨v,rfl⟩;have HBV:=aA (HB2.out.trans (v.2.mono HB2.out.size))
     have HZV:=aA (HZ2.out.below v.2);have HGV:=aA (HG2.out.below v.2)
     have HMV:=aA (HM2.out.below v.2);have HRV:=aA (HRG2.out.kept (cC v.2 none) (by simp) (by simp))
     obtain⟨u,hu⟩:∃u,v.1=u:=⟨_,rfl⟩
     rw[hu]at HBV HZV HGV HMV HRV⊢;clear hu s0 s1 s2 s3 t0 t1 t2 t3 t4 ne v;obtain⟨q0,q1,q2,q3⟩:=HMV.out;obtain⟨⟨l0,l1,l2,l3,l4⟩,lz⟩:=HGV.out;have HRW:=aA (HRV.out.kept (lV u (w.heap.size+1) (.int .i64 (c m)) (.int .i64 m.x) (.int .i64 m.y) (.int .i64 m.d) (.int .i64 m.e)) (by simp;omega) (by simp))
     clear HRV;go_wp2;go_roundw
     case rel=>
      refine⟨_,cnt2,ss++[m],⟨c m,m⟩,HRW.out,HCO2.out,bC HBV.out (by omega) _ _ _ _ _,HZV.out.far (by omega),⟨⟨by go_simp,by go_simp,by go_simp,by go_simp,by go_simp⟩,fun j=>by go_simp⟩,HMT.out⟩
     case measure=>rw[HRW.out.left_eq];exact HLT.out
    ·have dq:decide (tE ⟨G.m.x,G.m.y,G.m.d,G.m.e⟩<tE ⟨m.x,m.y,m.d,m.e⟩)=false:=decide_eq_false hq;have HMT:=aA (HM.out.keep hg1 hq)
     clear HM hG0 hq;refine aF (by kernel_rfl) (by kernel_rfl) ?_;repeat(go_big_quiet_step (first|(go_at_call 123;exact aG (iX _ _ _ _ _ hmo))|(go_at_call 123;exact aG (iX _ _ _ _ _ hgo))))
     refine wpQuiet_nil ?_;rintro _ ⟨v,rfl⟩;have HBV:=aA (HB2.out.trans (v.2.mono HB2.out.size))
     have HZV:=aA (HZ2.out.below v.2);have HGV:=aA (HG2.out.below v.2)
     have HRV:=aA (HRG2.out.kept (cC v.2 none) (by simp) (by simp));obtain⟨u,hu⟩:∃u,v.1=u:=⟨_,rfl⟩
     rw[hu]at HBV HZV HGV HRV⊢;clear hu s0 s1 s2 s3 t0 t1 t2 t3 t4 ne v;go_wp2;go_roundw;case rel=>exact⟨_,cnt2,ss++[m],G,HRV.out,HCO2.out,HBV.out,HZV.out,HGV.out,HMT.out⟩
     case measure=>rw[HRV.out.left_eq];exact HLT.out
def ZC (o:Int):Nat:=if o=1 then 93 else if o=3 then 123 else 122
theorem Cx:iR 1=dI:=by funext m;rfl
theorem Cy:iR 2=fF:=by funext m;rfl
theorem Cz:iR 3=tE:=by funext m;rfl
theorem LD (o:Int) (ho:1≤o∧o≤3) (w:World) (b n:Nat) (p:List T) (h:aV w b n (aI p)) (hp:cJ p=true) (h0:p.length≠0) (t:T) (ht:dD o p=t):Calls Tryz.prog 138 #[.map (some b),.func (.func (ZC o)) #[] #[]] w fun r w'=>r= .returned (.agg #[.int .i64 t.c,.int .i64 t.m.x,.int .i64 t.m.y,.int .i64 t.m.d,.int .i64 t.m.e])∧Below w.heap.size w w':=by
 have ho3:o=1∨o=2∨o=3:=by omega
 rcases ho3 with rfl|rfl|rfl
 ·refine(LA w b n (aI p) h).mono ?_;rintro r w' ⟨G,rfl,hb,ss,hm,hs⟩;rw[←Cx]at hm;have:=hm.all ho hp h0 hs
  rw[ht]at this;subst this;exact⟨rfl,hb⟩
 ·refine(LB w b n (aI p) h).mono ?_;rintro r w' ⟨G,rfl,hb,ss,hm,hs⟩;rw[←Cy]at hm;have:=hm.all ho hp h0 hs
  rw[ht]at this;subst this;exact⟨rfl,hb⟩
 ·refine(LC w b n (aI p) h).mono ?_;rintro r w' ⟨G,rfl,hb,ss,hm,hs⟩;rw[←Cz]at hm;have:=hm.all ho hp h0 hs
  rw[ht]at this;subst this;exact⟨rfl,hb⟩
theorem PR (o:Int) (w:World) (h1:1≤o) (h2:o≤3):Calls Tryz.prog 73 #[.int .i64 o] w fun r w'=>r= .returned (.tuple #[.func (.func (ZC o)) #[] #[],.bool true])∧Below w.heap.size w w':=by
 have ho3:o=1∨o=2∨o=3:=by omega
 rcases ho3 with rfl|rfl|rfl
 ·exact oQ w
 ·exact oR w
 ·exact oS w
end Go.Proofs.YtelkehjdfcoeiaaGreat
