/-
  The greatest term of a sum while it is made.
-/
import Derived.Test.YtelkehjdfcoeiaaGreatMav
import Derived.Maps.RangeWalk
import Derived.Defers
import Derived.Recover
set_option maxHeartbeats 8000000
set_option maxRecDepth 100000
namespace Go.Proofs.YtelkehjdfcoeiaaGreat
open Go.RowKit Go.Deep Go.Joins Go.Maps
set_option linter.unusedVariables false
theorem bV.grown {w w':World} {b:Nat} {t:T} {row:Option Nat} (h:bV w b t) (hg:w.grownBy w' row) (hne:some b≠row):bV w' b t:=by
 have hl:=h.1.lt;have hb:=hg.block b hl hne
 obtain⟨⟨h0,h1,h2,h3,h4⟩,h5⟩:=h;exact⟨⟨(lM (a:=⟨b,0,none⟩) hb).trans h0,(lM (a:=⟨b,1,none⟩) hb).trans h1,(lM (a:=⟨b,2,none⟩) hb).trans h2,(lM (a:=⟨b,3,none⟩) hb).trans h3,(lM (a:=⟨b,4,none⟩) hb).trans h4⟩,fun j=>(World.frozen?_of_block (a:=⟨b,j,none⟩) hb).trans (h5 j)⟩
theorem jJ (w:World) (b i:Nat) (v:Value):w.grownBy (w.setCell ⟨b,i,none⟩ v) (some b):=
 ⟨(bG 0 w).setCell (p:=⟨b,i,none⟩) (Nat.zero_le _) v |>.os,(bG 0 w).setCell (p:=⟨b,i,none⟩) (Nat.zero_le _) v |>.tape,(bG 0 w).setCell (p:=⟨b,i,none⟩) (Nat.zero_le _) v |>.output,(bG 0 w).setCell (p:=⟨b,i,none⟩) (Nat.zero_le _) v |>.size,fun k _ hk=>Below.heap_setCell _ _ _ k (fun e=>hk (by rw[e]))⟩
theorem pD (w:World) (B:Nat) (v0 v1 v2 v3 v4:Value):w.grownBy (((((w.setCell ⟨B,0,none⟩ v0).setCell ⟨B,1,none⟩ v1).setCell ⟨B,2,none⟩ v2).setCell ⟨B,3,none⟩ v3).setCell ⟨B,4,none⟩ v4) (some B):=
 ((((jJ w B 0 v0).trans (jJ _ B 1 v1)).trans (jJ _ B 2 v2)).trans (jJ _ B 3 v3)).trans (jJ _ B 4 v4)
def NS (rk:M→Int) (c:M→Int) (ss:List M) (G:T):Prop:=(ss=[]∧G=bJ)∨(1≤G.c∧G.m.ok=true∧G.m∈ss∧G.c=c G.m∧∀m∈ss,rk m≤rk G.m)
theorem NS.first {rk c:M→Int} {G:T} (h:NS rk c [] G):G=bJ:=by
 rcases h with⟨_,h⟩|⟨_,_,h,_⟩
 ·exact h
 ·simp at h
theorem NS.put {rk c:M→Int} {ss:List M} {G:T} {m:M} (h:NS rk c ss G) (hm:m.ok=true) (hc:1≤c m) (hg:G.c=0∨rk G.m<rk m):NS rk c (ss++[m]) ⟨c m,m⟩:=by
 refine .inr ⟨hc,hm,by simp,rfl,fun x hx=>?_⟩;rcases List.mem_append.1 hx with hx|hx
 ·rcases h with⟨rfl,_⟩|⟨h1,_,_,_,h5⟩
  ·simp at hx
  ·rcases hg with hg|hg
   ·omega
   ·have:=h5 x hx;show rk x≤rk m
    omega
 ·simp at hx;rw[hx];exact Int.le_refl _
theorem NS.keep {rk c:M→Int} {ss:List M} {G:T} {m:M} (h:NS rk c ss G) (h1:1≤G.c) (hg:¬rk G.m<rk m):NS rk c (ss++[m]) G:=by
 rcases h with⟨_,rfl⟩|⟨_,h0,h2,h3,h5⟩
 ·exact absurd h1 (by decide)
 ·refine .inr ⟨h1,h0,List.mem_append_left _ h2,h3,fun x hx=>?_⟩;rcases List.mem_append.1 hx with hx|hx
  ·exact h5 x hx
  ·simp at hx;rw[hx];omega
theorem NS.all {o:Int} {p:List T} (ho:1≤o∧o≤3) (hp:cF p=true) (h0:p.length≠0) {ss:List M} {G:T} (h:NS (eO o) (aM p) ss G) (hs:∀m:M,m.ok=true→(m∈ss↔aM p m≠0)):G=aU o p:=by
 have hl:=gJ (o:=o) h0;have hf:=(aD hp).2
 have hlm:=hf.2 _ hl;have hcl:=eN hf hl
 have hin:(aU o p).m∈ss:=(hs _ hlm.1).2 hcl.2;rcases h with⟨rfl,_⟩|⟨h1,h2,h3,h4,h5⟩
 ·simp at hin
 ·have hc:aM p G.m≠0:=(hs _ h2).1 h3;obtain⟨t,ht,he⟩:=List.mem_map.1 (lE hc);have he:t.m=G.m:=he
  have e1:=h5 _ hin;have e2:=oD ho hp h0 t ht
  rw[he]at e2;have e3:G.m=(aU o p).m:=jE _ _ h2 hlm.1 (Int.le_antisymm e2 e1)
  have e4:G.c=(aU o p).c:=by rw[h4,e3,hcl.1]
  cases hG:G with|mk gc gm=>
  cases hL:aU o p with|mk lc lm=>
  rw[hG,hL]at e3 e4;simp at e3 e4;rw[e3,e4]
theorem mV.all {D:DataW Unit} {left:Lit→Bool} {ss:List M} {c:M→Int} (h:mV D left ss) (hl:∀kl,left kl=false) (hat:∀m:M,m.ok=true→D.atKey (eD m) (.lit (.int .i64 0))= .lit (.int .i64 (c m))∧(Maps.has D (eD m)=true↔c m≠0)):∀m:M,m.ok=true→(m∈ss↔c m≠0):=fun m hm=>by
 rw[h.2.2 m hm,hl];simp[(hat m hm).2]
theorem UO (w:World) (b n:Nat) (c:M→Int) (h:bU w b n c):Calls Tryz.prog 138 #[.map (some b),.func (.func 93) #[] #[]] w fun r w'=>∃G:T,r= .returned (.agg #[.int .i64 G.c,.int .i64 G.m.x,.int .i64 G.m.y,.int .i64 G.m.d,.int .i64 G.m.e])∧Below w.heap.size w w'∧∃ss,NS fI c ss G∧∀m:M,m.ok=true→(m∈ss↔c m≠0):=by
 obtain⟨D,hown,hc,hat,hks⟩:=h;have hblt:=hown.lt
 have HKS:=aA hks;have HAT:=aA hat
 have HC:=aA hc;have HO2:=aA ((hown.alloc (.cells #[.int .i64 0,.int .i64 0,.int .i64 0,.int .i64 0,.int .i64 0] 86)).alloc (.cells #[.int .i64 0,.int .i64 0,.int .i64 0,.int .i64 0,.int .i64 0] 86))
 have HB0:=aA (aS w (.cells #[.int .i64 0,.int .i64 0,.int .i64 0,.int .i64 0,.int .i64 0] 86) (.cells #[.int .i64 0,.int .i64 0,.int .i64 0,.int .i64 0,.int .i64 0] 86));have HZ0:=aA ((bV.box w 86 bJ).below (aC _ (.cells #[.int .i64 0,.int .i64 0,.int .i64 0,.int .i64 0,.int .i64 0] 86)))
 have HG0:=aA (bV.box (w.alloc (.cells #[.int .i64 0,.int .i64 0,.int .i64 0,.int .i64 0,.int .i64 0] 86)) 86 bJ);clear hks hat hown hc;go_enter Tryz.func138,Tryz.ntmps138
 go_wp2_with (first
  |(at_range;refine wpList_range_own _ rfl _ 95 rfl 84 131 mE Tryz.underlying95 _ b n D rfl HO2.out ?_;intro w0 hrg0 hg0 hs0)
  |go_in)
 have hs2:((w.alloc (.cells #[.int .i64 0,.int .i64 0,.int .i64 0,.int .i64 0,.int .i64 0] 86)).alloc (.cells #[.int .i64 0,.int .i64 0,.int .i64 0,.int .i64 0,.int .i64 0] 86)).heap.size=w.heap.size+2:=by simp
 have HB1:=aA (mJ HB0.out hg0 (by simp));have HZ1:=aA (HZ0.out.grown hg0 (by simp))
 have HG1:=aA (HG0.out.grown hg0 (by simp));have HRG:=aA hrg0
 rw[hs2]at HRG;simp only[World.size_alloc]at HG1;clear HB0 HZ0 HG0 HO2 hrg0 hg0 hs0
 go_frame
 rw[hs2]
 go_loopw [6] (fun _ wr=>∃(left:Lit→Bool) (AJ:Nat) (ss:List M) (G:T),wr.ranges Tryz.prog 84 (plainElem Tryz.prog 131) b (w.heap.size+2) n D left AJ∧mV D left ss∧Below w.heap.size w wr∧bV wr w.heap.size bJ∧bV wr (w.heap.size+1) G∧NS fI c ss G)
  (fun _ wr=>wr.rangeLeft b (w.heap.size+2))
 case atStart=>exact⟨_,_,[],bJ,HRG.out,mV.start D,HB1.out,HZ1.out,HG1.out,.inl ⟨rfl,rfl⟩⟩
 case round=>
  obtain⟨left,AJ,ss,G,hrg,hC,hB,hZ,hG,hM⟩:=hrel;have HCO:=aA hC
  have HB:=aA hB;have HZ:=aA hZ
  have HGG:=aA hG;have HM:=aA hM
  have HRR:=aA hrg;have hGl:w.heap.size+1<wr.heap.size:=hG.1.lt
  clear hC hB hZ hG hM
  go_wp2_with (first
   |(at_next;refine wpList_next_ranges _ rfl _ rfl 84 mE (plainElem Tryz.prog 131) (id:Value→Value) (Value.int .i64) (fun key kl hk=>⟨key,rfl⟩) (fun v y hv=>by obtain⟨c,rfl,_⟩:=plainElem_int_inv Tryz.underlying131 hv;exact⟨c,rfl⟩) b (w.heap.size+2) n _ _ _ rfl HRR.out ?_ ?_)
   |go_in)
  ·intro hc0 hl0;obtain⟨⟨z0,z1,z2,z3,z4⟩,fz⟩:=HZ.out;obtain⟨⟨l0,l1,l2,l3,l4⟩,_⟩:=HGG.out;simp only[bJ]at z0 z1 z2 z3 z4;have HAL:=aA (HCO.out.all hl0 HAT.out)
   clear hl0 hrg HZ HGG;go_wp2;refine cD (v:=.agg #[.int .i64 G.c,.int .i64 G.m.x,.int .i64 G.m.y,.int .i64 G.m.d,.int .i64 G.m.e]) (by simp[results,Tryz.results138,go_sem, *]) rfl ⟨G,rfl,?_,ss,HM.out,HAL.out⟩;exact cB HB.out (Nat.le_refl _) _ _ _ _ _
  ·intro x cv kl yd yp w2 cnt2 hkey hlk hv hatx hrg2 hlt hg2 hsz2 hen;obtain⟨m,hmo,rfl⟩:=HKS.out kl (has_true_of_atKey hatx);obtain rfl:x=UH m:=mE.inj hkey (oO hmo);obtain rfl:cv=c m:=by
    obtain⟨c',e,e2,_⟩:=plainElem_int_inv Tryz.underlying131 hv;cases e;cases e2;have h1:=(HAT.out m hmo).1
    rw[hatx]at h1;simpa using h1
   have hcm:1≤c m:=by
    have h1:=(HAT.out m hmo).2.1 (has_true_of_atKey hatx);have h2:=(HC.out m).1
    omega
   have hcm2:=(HC.out m).2;have HRG2:=aA (hrg2.alloc (.cells #[.int .i64 m.x,.int .i64 m.y,.int .i64 m.d,.int .i64 m.e] 84))
   have HLT:=aA (show cnt2<wr.rangeLeft b (w.heap.size+2) by rw[hrg.left_eq];exact hlt);have HCO2:=aA (HCO.out.step hmo hlk hatx)
   have hB2:=mJ HB.out hg2 (fun k e=>by cases e;omega);have HB2:=aA (hB2.alloc hB2.size (.cells #[.int .i64 m.x,.int .i64 m.y,.int .i64 m.d,.int .i64 m.e] 84))
   have HZ2:=aA ((HZ.out.grown hg2 (by simp)).below (aC w2 (.cells #[.int .i64 m.x,.int .i64 m.y,.int .i64 m.d,.int .i64 m.e] 84)));have HG2:=aA ((HGG.out.grown hg2 (by simp)).below (aC w2 (.cells #[.int .i64 m.x,.int .i64 m.y,.int .i64 m.d,.int .i64 m.e] 84)))
   have HM2:=aA (M4.box w2 84 m.x m.y m.d m.e);have hsw:w.heap.size+1<w2.heap.size:=by rw[hsz2];exact hGl
   have hrw:w.heap.size+2<w2.heap.size:=hrg2.lt;have hbw:b<w2.heap.size:=hrg2.owns.lt
   clear hlk hatx hrg hrg2 hlt hg2 hsz2 hkey hv hB2 HRR HB HZ HGG HCO hGl;go_wp2_with fail;generalize(w2.alloc (.cells #[.int .i64 m.x,.int .i64 m.y,.int .i64 m.d,.int .i64 m.e] 84))=wq at HRG2 HB2 HZ2 HG2 HM2⊢;have ne:=bZ.there wq
   have s0:∀u:bZ wq,u.1.cell? ⟨w2.heap.size,0,none⟩=some (.int .i64 m.x):=fun u=>(u.cell HM2.out.lt).trans HM2.out.1;have s1:∀u:bZ wq,u.1.cell? ⟨w2.heap.size,1,none⟩=some (.int .i64 m.y):=fun u=>(u.cell HM2.out.lt).trans HM2.out.2.1
   have s2:∀u:bZ wq,u.1.cell? ⟨w2.heap.size,2,none⟩=some (.int .i64 m.d):=fun u=>(u.cell HM2.out.lt).trans HM2.out.2.2.1;have s3:∀u:bZ wq,u.1.cell? ⟨w2.heap.size,3,none⟩=some (.int .i64 m.e):=fun u=>(u.cell HM2.out.lt).trans HM2.out.2.2.2
   have t0:∀u:bZ wq,u.1.cell? ⟨w.heap.size+1,0,none⟩=some (.int .i64 G.c):=fun u=>(u.cell HG2.out.1.lt).trans HG2.out.1.1;have t1:∀u:bZ wq,u.1.cell? ⟨w.heap.size+1,1,none⟩=some (.int .i64 G.m.x):=fun u=>(u.cell HG2.out.1.lt).trans HG2.out.1.2.1
   have t2:∀u:bZ wq,u.1.cell? ⟨w.heap.size+1,2,none⟩=some (.int .i64 G.m.y):=fun u=>(u.cell HG2.out.1.lt).trans HG2.out.1.2.2.1;have t3:∀u:bZ wq,u.1.cell? ⟨w.heap.size+1,3,none⟩=some (.int .i64 G.m.d):=fun u=>(u.cell HG2.out.1.lt).trans HG2.out.1.2.2.2.1
   have t4:∀u:bZ wq,u.1.cell? ⟨w.heap.size+1,4,none⟩=some (.int .i64 G.m.e):=fun u=>(u.cell HG2.out.1.lt).trans HG2.out.1.2.2.2.2;by_cases hG0:G.c=0
   ·have hgz:((G.c:Int)==0)=true:=by simpa using hG0
    have HMT:=aA (HM.out.put hmo hcm (.inl hG0));clear HM hG0;refine aG (by kernel_rfl) (by kernel_rfl) ?_;repeat(go_big_quiet_step (fail))
    refine wpQuiet_nil ?_;rintro _ ⟨v,rfl⟩;have HBV:=aA (HB2.out.trans (v.2.mono HB2.out.size))
    have HZV:=aA (HZ2.out.below v.2);have HGV:=aA (HG2.out.below v.2)
    have HMV:=aA (HM2.out.below v.2);have HRV:=aA (HRG2.out.kept (dH v.2 none) (by simp) (by simp))
    obtain⟨u,hu⟩:∃u,v.1=u:=⟨_,rfl⟩
    rw[hu]at HBV HZV HGV HMV HRV⊢;clear hu s0 s1 s2 s3 t0 t1 t2 t3 t4 ne v;obtain⟨q0,q1,q2,q3⟩:=HMV.out;obtain⟨⟨l0,l1,l2,l3,l4⟩,lz⟩:=HGV.out;have HRW:=aA (HRV.out.kept (pD u (w.heap.size+1) (.int .i64 (c m)) (.int .i64 m.x) (.int .i64 m.y) (.int .i64 m.d) (.int .i64 m.e)) (by simp;omega) (by simp))
    clear HRV;go_wp2;go_roundw
    case rel=>
     refine⟨_,cnt2,ss++[m],⟨c m,m⟩,HRW.out,HCO2.out,cB HBV.out (by omega) _ _ _ _ _,HZV.out.far (by omega),⟨⟨by go_simp,by go_simp,by go_simp,by go_simp,by go_simp⟩,fun j=>by go_simp⟩,HMT.out⟩
    case measure=>rw[HRW.out.left_eq];exact HLT.out
   ·have hgz:((G.c:Int)==0)=false:=by simpa using hG0
    obtain⟨hg1,hgo⟩:1≤G.c∧G.m.ok=true:=by
     rcases HM.out with⟨_,e⟩|⟨e1,e2,_⟩
     ·rw[e]at hG0;exact absurd rfl hG0
     ·exact⟨e1,e2⟩
    by_cases hq:fI G.m<fI m
    ·have dq:decide (fI ⟨G.m.x,G.m.y,G.m.d,G.m.e⟩<fI ⟨m.x,m.y,m.d,m.e⟩)=true:=decide_eq_true hq;have HMT:=aA (HM.out.put hmo hcm (.inr hq))
     clear HM hG0 hq;refine aG (by kernel_rfl) (by kernel_rfl) ?_;repeat(go_big_quiet_step (first|(go_at_call 93;exact aJ (gA _ _ _ _ _ hmo))|(go_at_call 93;exact aJ (gA _ _ _ _ _ hgo))))
     refine wpQuiet_nil ?_;rintro _ ⟨v,rfl⟩;have HBV:=aA (HB2.out.trans (v.2.mono HB2.out.size))
     have HZV:=aA (HZ2.out.below v.2);have HGV:=aA (HG2.out.below v.2)
     have HMV:=aA (HM2.out.below v.2);have HRV:=aA (HRG2.out.kept (dH v.2 none) (by simp) (by simp))
     obtain⟨u,hu⟩:∃u,v.1=u:=⟨_,rfl⟩
     rw[hu]at HBV HZV HGV HMV HRV⊢;clear hu s0 s1 s2 s3 t0 t1 t2 t3 t4 ne v;obtain⟨q0,q1,q2,q3⟩:=HMV.out;obtain⟨⟨l0,l1,l2,l3,l4⟩,lz⟩:=HGV.out;have HRW:=aA (HRV.out.kept (pD u (w.heap.size+1) (.int .i64 (c m)) (.int .i64 m.x) (.int .i64 m.y) (.int .i64 m.d) (.int .i64 m.e)) (by simp;omega) (by simp))
     clear HRV;go_wp2;go_roundw
     case rel=>
      refine⟨_,cnt2,ss++[m],⟨c m,m⟩,HRW.out,HCO2.out,cB HBV.out (by omega) _ _ _ _ _,HZV.out.far (by omega),⟨⟨by go_simp,by go_simp,by go_simp,by go_simp,by go_simp⟩,fun j=>by go_simp⟩,HMT.out⟩
     case measure=>rw[HRW.out.left_eq];exact HLT.out
    ·have dq:decide (fI ⟨G.m.x,G.m.y,G.m.d,G.m.e⟩<fI ⟨m.x,m.y,m.d,m.e⟩)=false:=decide_eq_false hq;have HMT:=aA (HM.out.keep hg1 hq)
     clear HM hG0 hq;refine aG (by kernel_rfl) (by kernel_rfl) ?_;repeat(go_big_quiet_step (first|(go_at_call 93;exact aJ (gA _ _ _ _ _ hmo))|(go_at_call 93;exact aJ (gA _ _ _ _ _ hgo))))
     refine wpQuiet_nil ?_;rintro _ ⟨v,rfl⟩;have HBV:=aA (HB2.out.trans (v.2.mono HB2.out.size))
     have HZV:=aA (HZ2.out.below v.2);have HGV:=aA (HG2.out.below v.2)
     have HRV:=aA (HRG2.out.kept (dH v.2 none) (by simp) (by simp));obtain⟨u,hu⟩:∃u,v.1=u:=⟨_,rfl⟩
     rw[hu]at HBV HZV HGV HRV⊢;clear hu s0 s1 s2 s3 t0 t1 t2 t3 t4 ne v;go_wp2;go_roundw;case rel=>exact⟨_,cnt2,ss++[m],G,HRV.out,HCO2.out,HBV.out,HZV.out,HGV.out,HMT.out⟩
     case measure=>rw[HRV.out.left_eq];exact HLT.out
theorem UP (w:World) (b n:Nat) (c:M→Int) (h:bU w b n c):Calls Tryz.prog 138 #[.map (some b),.func (.func 122) #[] #[]] w fun r w'=>∃G:T,r= .returned (.agg #[.int .i64 G.c,.int .i64 G.m.x,.int .i64 G.m.y,.int .i64 G.m.d,.int .i64 G.m.e])∧Below w.heap.size w w'∧∃ss,NS iB c ss G∧∀m:M,m.ok=true→(m∈ss↔c m≠0):=by
 obtain⟨D,hown,hc,hat,hks⟩:=h;have hblt:=hown.lt
 have HKS:=aA hks;have HAT:=aA hat
 have HC:=aA hc;have HO2:=aA ((hown.alloc (.cells #[.int .i64 0,.int .i64 0,.int .i64 0,.int .i64 0,.int .i64 0] 86)).alloc (.cells #[.int .i64 0,.int .i64 0,.int .i64 0,.int .i64 0,.int .i64 0] 86))
 have HB0:=aA (aS w (.cells #[.int .i64 0,.int .i64 0,.int .i64 0,.int .i64 0,.int .i64 0] 86) (.cells #[.int .i64 0,.int .i64 0,.int .i64 0,.int .i64 0,.int .i64 0] 86));have HZ0:=aA ((bV.box w 86 bJ).below (aC _ (.cells #[.int .i64 0,.int .i64 0,.int .i64 0,.int .i64 0,.int .i64 0] 86)))
 have HG0:=aA (bV.box (w.alloc (.cells #[.int .i64 0,.int .i64 0,.int .i64 0,.int .i64 0,.int .i64 0] 86)) 86 bJ);clear hks hat hown hc;go_enter Tryz.func138,Tryz.ntmps138
 go_wp2_with (first
  |(at_range;refine wpList_range_own _ rfl _ 95 rfl 84 131 mE Tryz.underlying95 _ b n D rfl HO2.out ?_;intro w0 hrg0 hg0 hs0)
  |go_in)
 have hs2:((w.alloc (.cells #[.int .i64 0,.int .i64 0,.int .i64 0,.int .i64 0,.int .i64 0] 86)).alloc (.cells #[.int .i64 0,.int .i64 0,.int .i64 0,.int .i64 0,.int .i64 0] 86)).heap.size=w.heap.size+2:=by simp
 have HB1:=aA (mJ HB0.out hg0 (by simp));have HZ1:=aA (HZ0.out.grown hg0 (by simp))
 have HG1:=aA (HG0.out.grown hg0 (by simp));have HRG:=aA hrg0
 rw[hs2]at HRG;simp only[World.size_alloc]at HG1;clear HB0 HZ0 HG0 HO2 hrg0 hg0 hs0
 go_frame
 rw[hs2]
 go_loopw [6] (fun _ wr=>∃(left:Lit→Bool) (AJ:Nat) (ss:List M) (G:T),wr.ranges Tryz.prog 84 (plainElem Tryz.prog 131) b (w.heap.size+2) n D left AJ∧mV D left ss∧Below w.heap.size w wr∧bV wr w.heap.size bJ∧bV wr (w.heap.size+1) G∧NS iB c ss G)
  (fun _ wr=>wr.rangeLeft b (w.heap.size+2))
 case atStart=>exact⟨_,_,[],bJ,HRG.out,mV.start D,HB1.out,HZ1.out,HG1.out,.inl ⟨rfl,rfl⟩⟩
 case round=>
  obtain⟨left,AJ,ss,G,hrg,hC,hB,hZ,hG,hM⟩:=hrel;have HCO:=aA hC
  have HB:=aA hB;have HZ:=aA hZ
  have HGG:=aA hG;have HM:=aA hM
  have HRR:=aA hrg;have hGl:w.heap.size+1<wr.heap.size:=hG.1.lt
  clear hC hB hZ hG hM
  go_wp2_with (first
   |(at_next;refine wpList_next_ranges _ rfl _ rfl 84 mE (plainElem Tryz.prog 131) (id:Value→Value) (Value.int .i64) (fun key kl hk=>⟨key,rfl⟩) (fun v y hv=>by obtain⟨c,rfl,_⟩:=plainElem_int_inv Tryz.underlying131 hv;exact⟨c,rfl⟩) b (w.heap.size+2) n _ _ _ rfl HRR.out ?_ ?_)
   |go_in)
  ·intro hc0 hl0;obtain⟨⟨z0,z1,z2,z3,z4⟩,fz⟩:=HZ.out;obtain⟨⟨l0,l1,l2,l3,l4⟩,_⟩:=HGG.out;simp only[bJ]at z0 z1 z2 z3 z4;have HAL:=aA (HCO.out.all hl0 HAT.out)
   clear hl0 hrg HZ HGG;go_wp2;refine cD (v:=.agg #[.int .i64 G.c,.int .i64 G.m.x,.int .i64 G.m.y,.int .i64 G.m.d,.int .i64 G.m.e]) (by simp[results,Tryz.results138,go_sem, *]) rfl ⟨G,rfl,?_,ss,HM.out,HAL.out⟩;exact cB HB.out (Nat.le_refl _) _ _ _ _ _
  ·intro x cv kl yd yp w2 cnt2 hkey hlk hv hatx hrg2 hlt hg2 hsz2 hen;obtain⟨m,hmo,rfl⟩:=HKS.out kl (has_true_of_atKey hatx);obtain rfl:x=UH m:=mE.inj hkey (oO hmo);obtain rfl:cv=c m:=by
    obtain⟨c',e,e2,_⟩:=plainElem_int_inv Tryz.underlying131 hv;cases e;cases e2;have h1:=(HAT.out m hmo).1
    rw[hatx]at h1;simpa using h1
   have hcm:1≤c m:=by
    have h1:=(HAT.out m hmo).2.1 (has_true_of_atKey hatx);have h2:=(HC.out m).1
    omega
   have hcm2:=(HC.out m).2;have HRG2:=aA (hrg2.alloc (.cells #[.int .i64 m.x,.int .i64 m.y,.int .i64 m.d,.int .i64 m.e] 84))
   have HLT:=aA (show cnt2<wr.rangeLeft b (w.heap.size+2) by rw[hrg.left_eq];exact hlt);have HCO2:=aA (HCO.out.step hmo hlk hatx)
   have hB2:=mJ HB.out hg2 (fun k e=>by cases e;omega);have HB2:=aA (hB2.alloc hB2.size (.cells #[.int .i64 m.x,.int .i64 m.y,.int .i64 m.d,.int .i64 m.e] 84))
   have HZ2:=aA ((HZ.out.grown hg2 (by simp)).below (aC w2 (.cells #[.int .i64 m.x,.int .i64 m.y,.int .i64 m.d,.int .i64 m.e] 84)));have HG2:=aA ((HGG.out.grown hg2 (by simp)).below (aC w2 (.cells #[.int .i64 m.x,.int .i64 m.y,.int .i64 m.d,.int .i64 m.e] 84)))
   have HM2:=aA (M4.box w2 84 m.x m.y m.d m.e);have hsw:w.heap.size+1<w2.heap.size:=by rw[hsz2];exact hGl
   have hrw:w.heap.size+2<w2.heap.size:=hrg2.lt;have hbw:b<w2.heap.size:=hrg2.owns.lt
   clear hlk hatx hrg hrg2 hlt hg2 hsz2 hkey hv hB2 HRR HB HZ HGG HCO hGl;go_wp2_with fail;generalize(w2.alloc (.cells #[.int .i64 m.x,.int .i64 m.y,.int .i64 m.d,.int .i64 m.e] 84))=wq at HRG2 HB2 HZ2 HG2 HM2⊢;have ne:=bZ.there wq
   have s0:∀u:bZ wq,u.1.cell? ⟨w2.heap.size,0,none⟩=some (.int .i64 m.x):=fun u=>(u.cell HM2.out.lt).trans HM2.out.1;have s1:∀u:bZ wq,u.1.cell? ⟨w2.heap.size,1,none⟩=some (.int .i64 m.y):=fun u=>(u.cell HM2.out.lt).trans HM2.out.2.1
   have s2:∀u:bZ wq,u.1.cell? ⟨w2.heap.size,2,none⟩=some (.int .i64 m.d):=fun u=>(u.cell HM2.out.lt).trans HM2.out.2.2.1;have s3:∀u:bZ wq,u.1.cell? ⟨w2.heap.size,3,none⟩=some (.int .i64 m.e):=fun u=>(u.cell HM2.out.lt).trans HM2.out.2.2.2
   have t0:∀u:bZ wq,u.1.cell? ⟨w.heap.size+1,0,none⟩=some (.int .i64 G.c):=fun u=>(u.cell HG2.out.1.lt).trans HG2.out.1.1;have t1:∀u:bZ wq,u.1.cell? ⟨w.heap.size+1,1,none⟩=some (.int .i64 G.m.x):=fun u=>(u.cell HG2.out.1.lt).trans HG2.out.1.2.1
   have t2:∀u:bZ wq,u.1.cell? ⟨w.heap.size+1,2,none⟩=some (.int .i64 G.m.y):=fun u=>(u.cell HG2.out.1.lt).trans HG2.out.1.2.2.1;have t3:∀u:bZ wq,u.1.cell? ⟨w.heap.size+1,3,none⟩=some (.int .i64 G.m.d):=fun u=>(u.cell HG2.out.1.lt).trans HG2.out.1.2.2.2.1
   have t4:∀u:bZ wq,u.1.cell? ⟨w.heap.size+1,4,none⟩=some (.int .i64 G.m.e):=fun u=>(u.cell HG2.out.1.lt).trans HG2.out.1.2.2.2.2;by_cases hG0:G.c=0
   ·have hgz:((G.c:Int)==0)=true:=by simpa using hG0
    have HMT:=aA (HM.out.put hmo hcm (.inl hG0));clear HM hG0;refine aG (by kernel_rfl) (by kernel_rfl) ?_;repeat(go_big_quiet_step (fail))
    refine wpQuiet_nil ?_;rintro _ ⟨v,rfl⟩;have HBV:=aA (HB2.out.trans (v.2.mono HB2.out.size))
    have HZV:=aA (HZ2.out.below v.2);have HGV:=aA (HG2.out.below v.2)
    have HMV:=aA (HM2.out.below v.2);have HRV:=aA (HRG2.out.kept (dH v.2 none) (by simp) (by simp))
    obtain⟨u,hu⟩:∃u,v.1=u:=⟨_,rfl⟩
    rw[hu]at HBV HZV HGV HMV HRV⊢;clear hu s0 s1 s2 s3 t0 t1 t2 t3 t4 ne v;obtain⟨q0,q1,q2,q3⟩:=HMV.out;obtain⟨⟨l0,l1,l2,l3,l4⟩,lz⟩:=HGV.out;have HRW:=aA (HRV.out.kept (pD u (w.heap.size+1) (.int .i64 (c m)) (.int .i64 m.x) (.int .i64 m.y) (.int .i64 m.d) (.int .i64 m.e)) (by simp;omega) (by simp))
    clear HRV;go_wp2;go_roundw
    case rel=>
     refine⟨_,cnt2,ss++[m],⟨c m,m⟩,HRW.out,HCO2.out,cB HBV.out (by omega) _ _ _ _ _,HZV.out.far (by omega),⟨⟨by go_simp,by go_simp,by go_simp,by go_simp,by go_simp⟩,fun j=>by go_simp⟩,HMT.out⟩
    case measure=>rw[HRW.out.left_eq];exact HLT.out
   ·have hgz:((G.c:Int)==0)=false:=by simpa using hG0
    obtain⟨hg1,hgo⟩:1≤G.c∧G.m.ok=true:=by
     rcases HM.out with⟨_,e⟩|⟨e1,e2,_⟩
     ·rw[e]at hG0;exact absurd rfl hG0
     ·exact⟨e1,e2⟩
    by_cases hq:iB G.m<iB m
    ·have dq:decide (iB ⟨G.m.x,G.m.y,G.m.d,G.m.e⟩<iB ⟨m.x,m.y,m.d,m.e⟩)=true:=decide_eq_true hq;have HMT:=aA (HM.out.put hmo hcm (.inr hq))
     clear HM hG0 hq;refine aG (by kernel_rfl) (by kernel_rfl) ?_;repeat(go_big_quiet_step (first|(go_at_call 122;exact aJ (iL _ _ _ _ _ hmo))|(go_at_call 122;exact aJ (iL _ _ _ _ _ hgo))))
     refine wpQuiet_nil ?_;rintro _ ⟨v,rfl⟩;have HBV:=aA (HB2.out.trans (v.2.mono HB2.out.size))
     have HZV:=aA (HZ2.out.below v.2);have HGV:=aA (HG2.out.below v.2)
     have HMV:=aA (HM2.out.below v.2);have HRV:=aA (HRG2.out.kept (dH v.2 none) (by simp) (by simp))
     obtain⟨u,hu⟩:∃u,v.1=u:=⟨_,rfl⟩
     rw[hu]at HBV HZV HGV HMV HRV⊢;clear hu s0 s1 s2 s3 t0 t1 t2 t3 t4 ne v;obtain⟨q0,q1,q2,q3⟩:=HMV.out;obtain⟨⟨l0,l1,l2,l3,l4⟩,lz⟩:=HGV.out;have HRW:=aA (HRV.out.kept (pD u (w.heap.size+1) (.int .i64 (c m)) (.int .i64 m.x) (.int .i64 m.y) (.int .i64 m.d) (.int .i64 m.e)) (by simp;omega) (by simp))
     clear HRV;go_wp2;go_roundw
     case rel=>
      refine⟨_,cnt2,ss++[m],⟨c m,m⟩,HRW.out,HCO2.out,cB HBV.out (by omega) _ _ _ _ _,HZV.out.far (by omega),⟨⟨by go_simp,by go_simp,by go_simp,by go_simp,by go_simp⟩,fun j=>by go_simp⟩,HMT.out⟩
     case measure=>rw[HRW.out.left_eq];exact HLT.out
    ·have dq:decide (iB ⟨G.m.x,G.m.y,G.m.d,G.m.e⟩<iB ⟨m.x,m.y,m.d,m.e⟩)=false:=decide_eq_false hq;have HMT:=aA (HM.out.keep hg1 hq)
     clear HM hG0 hq;refine aG (by kernel_rfl) (by kernel_rfl) ?_;repeat(go_big_quiet_step (first|(go_at_call 122;exact aJ (iL _ _ _ _ _ hmo))|(go_at_call 122;exact aJ (iL _ _ _ _ _ hgo))))
     refine wpQuiet_nil ?_;rintro _ ⟨v,rfl⟩;have HBV:=aA (HB2.out.trans (v.2.mono HB2.out.size))
     have HZV:=aA (HZ2.out.below v.2);have HGV:=aA (HG2.out.below v.2)
     have HRV:=aA (HRG2.out.kept (dH v.2 none) (by simp) (by simp));obtain⟨u,hu⟩:∃u,v.1=u:=⟨_,rfl⟩
     rw[hu]at HBV HZV HGV HRV⊢;clear hu s0 s1 s2 s3 t0 t1 t2 t3 t4 ne v;go_wp2;go_roundw;case rel=>exact⟨_,cnt2,ss++[m],G,HRV.out,HCO2.out,HBV.out,HZV.out,HGV.out,HMT.out⟩
     case measure=>rw[HRV.out.left_eq];exact HLT.out
theorem UQ (w:World) (b n:Nat) (c:M→Int) (h:bU w b n c):Calls Tryz.prog 138 #[.map (some b),.func (.func 123) #[] #[]] w fun r w'=>∃G:T,r= .returned (.agg #[.int .i64 G.c,.int .i64 G.m.x,.int .i64 G.m.y,.int .i64 G.m.d,.int .i64 G.m.e])∧Below w.heap.size w w'∧∃ss,NS wT c ss G∧∀m:M,m.ok=true→(m∈ss↔c m≠0):=by
 obtain⟨D,hown,hc,hat,hks⟩:=h;have hblt:=hown.lt
 have HKS:=aA hks;have HAT:=aA hat
 have HC:=aA hc;have HO2:=aA ((hown.alloc (.cells #[.int .i64 0,.int .i64 0,.int .i64 0,.int .i64 0,.int .i64 0] 86)).alloc (.cells #[.int .i64 0,.int .i64 0,.int .i64 0,.int .i64 0,.int .i64 0] 86))
 have HB0:=aA (aS w (.cells #[.int .i64 0,.int .i64 0,.int .i64 0,.int .i64 0,.int .i64 0] 86) (.cells #[.int .i64 0,.int .i64 0,.int .i64 0,.int .i64 0,.int .i64 0] 86));have HZ0:=aA ((bV.box w 86 bJ).below (aC _ (.cells #[.int .i64 0,.int .i64 0,.int .i64 0,.int .i64 0,.int .i64 0] 86)))
 have HG0:=aA (bV.box (w.alloc (.cells #[.int .i64 0,.int .i64 0,.int .i64 0,.int .i64 0,.int .i64 0] 86)) 86 bJ);clear hks hat hown hc;go_enter Tryz.func138,Tryz.ntmps138
 go_wp2_with (first
  |(at_range;refine wpList_range_own _ rfl _ 95 rfl 84 131 mE Tryz.underlying95 _ b n D rfl HO2.out ?_;intro w0 hrg0 hg0 hs0)
  |go_in)
 have hs2:((w.alloc (.cells #[.int .i64 0,.int .i64 0,.int .i64 0,.int .i64 0,.int .i64 0] 86)).alloc (.cells #[.int .i64 0,.int .i64 0,.int .i64 0,.int .i64 0,.int .i64 0] 86)).heap.size=w.heap.size+2:=by simp
 have HB1:=aA (mJ HB0.out hg0 (by simp));have HZ1:=aA (HZ0.out.grown hg0 (by simp))
 have HG1:=aA (HG0.out.grown hg0 (by simp));have HRG:=aA hrg0
 rw[hs2]at HRG;simp only[World.size_alloc]at HG1;clear HB0 HZ0 HG0 HO2 hrg0 hg0 hs0
 go_frame
 rw[hs2]
 go_loopw [6] (fun _ wr=>∃(left:Lit→Bool) (AJ:Nat) (ss:List M) (G:T),wr.ranges Tryz.prog 84 (plainElem Tryz.prog 131) b (w.heap.size+2) n D left AJ∧mV D left ss∧Below w.heap.size w wr∧bV wr w.heap.size bJ∧bV wr (w.heap.size+1) G∧NS wT c ss G)
  (fun _ wr=>wr.rangeLeft b (w.heap.size+2))
 case atStart=>exact⟨_,_,[],bJ,HRG.out,mV.start D,HB1.out,HZ1.out,HG1.out,.inl ⟨rfl,rfl⟩⟩
 case round=>
  obtain⟨left,AJ,ss,G,hrg,hC,hB,hZ,hG,hM⟩:=hrel;have HCO:=aA hC
  have HB:=aA hB;have HZ:=aA hZ
  have HGG:=aA hG;have HM:=aA hM
  have HRR:=aA hrg;have hGl:w.heap.size+1<wr.heap.size:=hG.1.lt
  clear hC hB hZ hG hM
  go_wp2_with (first
   |(at_next;refine wpList_next_ranges _ rfl _ rfl 84 mE (plainElem Tryz.prog 131) (id:Value→Value) (Value.int .i64) (fun key kl hk=>⟨key,rfl⟩) (fun v y hv=>by obtain⟨c,rfl,_⟩:=plainElem_int_inv Tryz.underlying131 hv;exact⟨c,rfl⟩) b (w.heap.size+2) n _ _ _ rfl HRR.out ?_ ?_)
   |go_in)
  ·intro hc0 hl0;obtain⟨⟨z0,z1,z2,z3,z4⟩,fz⟩:=HZ.out;obtain⟨⟨l0,l1,l2,l3,l4⟩,_⟩:=HGG.out;simp only[bJ]at z0 z1 z2 z3 z4;have HAL:=aA (HCO.out.all hl0 HAT.out)
   clear hl0 hrg HZ HGG;go_wp2;refine cD (v:=.agg #[.int .i64 G.c,.int .i64 G.m.x,.int .i64 G.m.y,.int .i64 G.m.d,.int .i64 G.m.e]) (by simp[results,Tryz.results138,go_sem, *]) rfl ⟨G,rfl,?_,ss,HM.out,HAL.out⟩;exact cB HB.out (Nat.le_refl _) _ _ _ _ _
  ·intro x cv kl yd yp w2 cnt2 hkey hlk hv hatx hrg2 hlt hg2 hsz2 hen;obtain⟨m,hmo,rfl⟩:=HKS.out kl (has_true_of_atKey hatx);obtain rfl:x=UH m:=mE.inj hkey (oO hmo);obtain rfl:cv=c m:=by
    obtain⟨c',e,e2,_⟩:=plainElem_int_inv Tryz.underlying131 hv;cases e;cases e2;have h1:=(HAT.out m hmo).1
    rw[hatx]at h1;simpa using h1
   have hcm:1≤c m:=by
    have h1:=(HAT.out m hmo).2.1 (has_true_of_atKey hatx);have h2:=(HC.out m).1
    omega
   have hcm2:=(HC.out m).2;have HRG2:=aA (hrg2.alloc (.cells #[.int .i64 m.x,.int .i64 m.y,.int .i64 m.d,.int .i64 m.e] 84))
   have HLT:=aA (show cnt2<wr.rangeLeft b (w.heap.size+2) by rw[hrg.left_eq];exact hlt);have HCO2:=aA (HCO.out.step hmo hlk hatx)
   have hB2:=mJ HB.out hg2 (fun k e=>by cases e;omega);have HB2:=aA (hB2.alloc hB2.size (.cells #[.int .i64 m.x,.int .i64 m.y,.int .i64 m.d,.int .i64 m.e] 84))
   have HZ2:=aA ((HZ.out.grown hg2 (by simp)).below (aC w2 (.cells #[.int .i64 m.x,.int .i64 m.y,.int .i64 m.d,.int .i64 m.e] 84)));have HG2:=aA ((HGG.out.grown hg2 (by simp)).below (aC w2 (.cells #[.int .i64 m.x,.int .i64 m.y,.int .i64 m.d,.int .i64 m.e] 84)))
   have HM2:=aA (M4.box w2 84 m.x m.y m.d m.e);have hsw:w.heap.size+1<w2.heap.size:=by rw[hsz2];exact hGl
   have hrw:w.heap.size+2<w2.heap.size:=hrg2.lt;have hbw:b<w2.heap.size:=hrg2.owns.lt
   clear hlk hatx hrg hrg2 hlt hg2 hsz2 hkey hv hB2 HRR HB HZ HGG HCO hGl;go_wp2_with fail;generalize(w2.alloc (.cells #[.int .i64 m.x,.int .i64 m.y,.int .i64 m.d,.int .i64 m.e] 84))=wq at HRG2 HB2 HZ2 HG2 HM2⊢;have ne:=bZ.there wq
   have s0:∀u:bZ wq,u.1.cell? ⟨w2.heap.size,0,none⟩=some (.int .i64 m.x):=fun u=>(u.cell HM2.out.lt).trans HM2.out.1;have s1:∀u:bZ wq,u.1.cell? ⟨w2.heap.size,1,none⟩=some (.int .i64 m.y):=fun u=>(u.cell HM2.out.lt).trans HM2.out.2.1
   have s2:∀u:bZ wq,u.1.cell? ⟨w2.heap.size,2,none⟩=some (.int .i64 m.d):=fun u=>(u.cell HM2.out.lt).trans HM2.out.2.2.1;have s3:∀u:bZ wq,u.1.cell? ⟨w2.heap.size,3,none⟩=some (.int .i64 m.e):=fun u=>(u.cell HM2.out.lt).trans HM2.out.2.2.2
   have t0:∀u:bZ wq,u.1.cell? ⟨w.heap.size+1,0,none⟩=some (.int .i64 G.c):=fun u=>(u.cell HG2.out.1.lt).trans HG2.out.1.1;have t1:∀u:bZ wq,u.1.cell? ⟨w.heap.size+1,1,none⟩=some (.int .i64 G.m.x):=fun u=>(u.cell HG2.out.1.lt).trans HG2.out.1.2.1
   have t2:∀u:bZ wq,u.1.cell? ⟨w.heap.size+1,2,none⟩=some (.int .i64 G.m.y):=fun u=>(u.cell HG2.out.1.lt).trans HG2.out.1.2.2.1;have t3:∀u:bZ wq,u.1.cell? ⟨w.heap.size+1,3,none⟩=some (.int .i64 G.m.d):=fun u=>(u.cell HG2.out.1.lt).trans HG2.out.1.2.2.2.1
   have t4:∀u:bZ wq,u.1.cell? ⟨w.heap.size+1,4,none⟩=some (.int .i64 G.m.e):=fun u=>(u.cell HG2.out.1.lt).trans HG2.out.1.2.2.2.2;by_cases hG0:G.c=0
   ·have hgz:((G.c:Int)==0)=true:=by simpa using hG0
    have HMT:=aA (HM.out.put hmo hcm (.inl hG0));clear HM hG0;refine aG (by kernel_rfl) (by kernel_rfl) ?_;repeat(go_big_quiet_step (fail))
    refine wpQuiet_nil ?_;rintro _ ⟨v,rfl⟩;have HBV:=aA (HB2.out.trans (v.2.mono HB2.out.size))
    have HZV:=aA (HZ2.out.below v.2);have HGV:=aA (HG2.out.below v.2)
    have HMV:=aA (HM2.out.below v.2);have HRV:=aA (HRG2.out.kept (dH v.2 none) (by simp) (by simp))
    obtain⟨u,hu⟩:∃u,v.1=u:=⟨_,rfl⟩
    rw[hu]at HBV HZV HGV HMV HRV⊢;clear hu s0 s1 s2 s3 t0 t1 t2 t3 t4 ne v;obtain⟨q0,q1,q2,q3⟩:=HMV.out;obtain⟨⟨l0,l1,l2,l3,l4⟩,lz⟩:=HGV.out;have HRW:=aA (HRV.out.kept (pD u (w.heap.size+1) (.int .i64 (c m)) (.int .i64 m.x) (.int .i64 m.y) (.int .i64 m.d) (.int .i64 m.e)) (by simp;omega) (by simp))
    clear HRV;go_wp2;go_roundw
    case rel=>
     refine⟨_,cnt2,ss++[m],⟨c m,m⟩,HRW.out,HCO2.out,cB HBV.out (by omega) _ _ _ _ _,HZV.out.far (by omega),⟨⟨by go_simp,by go_simp,by go_simp,by go_simp,by go_simp⟩,fun j=>by go_simp⟩,HMT.out⟩
    case measure=>rw[HRW.out.left_eq];exact HLT.out
   ·have hgz:((G.c:Int)==0)=false:=by simpa using hG0
    obtain⟨hg1,hgo⟩:1≤G.c∧G.m.ok=true:=by
     rcases HM.out with⟨_,e⟩|⟨e1,e2,_⟩
     ·rw[e]at hG0;exact absurd rfl hG0
     ·exact⟨e1,e2⟩
    by_cases hq:wT G.m<wT m
    ·have dq:decide (wT ⟨G.m.x,G.m.y,G.m.d,G.m.e⟩<wT ⟨m.x,m.y,m.d,m.e⟩)=true:=decide_eq_true hq;have HMT:=aA (HM.out.put hmo hcm (.inr hq))
     clear HM hG0 hq;refine aG (by kernel_rfl) (by kernel_rfl) ?_;repeat(go_big_quiet_step (first|(go_at_call 123;exact aJ (jM _ _ _ _ _ hmo))|(go_at_call 123;exact aJ (jM _ _ _ _ _ hgo))))
     refine wpQuiet_nil ?_;rintro _ ⟨v,rfl⟩;have HBV:=aA (HB2.out.trans (v.2.mono HB2.out.size))
     have HZV:=aA (HZ2.out.below v.2);have HGV:=aA (HG2.out.below v.2)
     have HMV:=aA (HM2.out.below v.2);have HRV:=aA (HRG2.out.kept (dH v.2 none) (by simp) (by simp))
     obtain⟨u,hu⟩:∃u,v.1=u:=⟨_,rfl⟩
     rw[hu]at HBV HZV HGV HMV HRV⊢;clear hu s0 s1 s2 s3 t0 t1 t2 t3 t4 ne v;obtain⟨q0,q1,q2,q3⟩:=HMV.out;obtain⟨⟨l0,l1,l2,l3,l4⟩,lz⟩:=HGV.out;have HRW:=aA (HRV.out.kept (pD u (w.heap.size+1) (.int .i64 (c m)) (.int .i64 m.x) (.int .i64 m.y) (.int .i64 m.d) (.int .i64 m.e)) (by simp;omega) (by simp))
     clear HRV;go_wp2;go_roundw
     case rel=>
      refine⟨_,cnt2,ss++[m],⟨c m,m⟩,HRW.out,HCO2.out,cB HBV.out (by omega) _ _ _ _ _,HZV.out.far (by omega),⟨⟨by go_simp,by go_simp,by go_simp,by go_simp,by go_simp⟩,fun j=>by go_simp⟩,HMT.out⟩
     case measure=>rw[HRW.out.left_eq];exact HLT.out
    ·have dq:decide (wT ⟨G.m.x,G.m.y,G.m.d,G.m.e⟩<wT ⟨m.x,m.y,m.d,m.e⟩)=false:=decide_eq_false hq;have HMT:=aA (HM.out.keep hg1 hq)
     clear HM hG0 hq;refine aG (by kernel_rfl) (by kernel_rfl) ?_;repeat(go_big_quiet_step (first|(go_at_call 123;exact aJ (jM _ _ _ _ _ hmo))|(go_at_call 123;exact aJ (jM _ _ _ _ _ hgo))))
     refine wpQuiet_nil ?_;rintro _ ⟨v,rfl⟩;have HBV:=aA (HB2.out.trans (v.2.mono HB2.out.size))
     have HZV:=aA (HZ2.out.below v.2);have HGV:=aA (HG2.out.below v.2)
     have HRV:=aA (HRG2.out.kept (dH v.2 none) (by simp) (by simp));obtain⟨u,hu⟩:∃u,v.1=u:=⟨_,rfl⟩
     rw[hu]at HBV HZV HGV HRV⊢;clear hu s0 s1 s2 s3 t0 t1 t2 t3 t4 ne v;go_wp2;go_roundw;case rel=>exact⟨_,cnt2,ss++[m],G,HRV.out,HCO2.out,HBV.out,HZV.out,HGV.out,HMT.out⟩
     case measure=>rw[HRV.out.left_eq];exact HLT.out
def Kw (o:Int):Nat:=if o=1 then 93 else if o=3 then 123 else 122
theorem Ok:eO 1=fI:=by funext m;rfl
theorem Ol:eO 2=iB:=by funext m;rfl
theorem Om:eO 3=wT:=by funext m;rfl
theorem UR (o:Int) (ho:1≤o∧o≤3) (w:World) (b n:Nat) (p:List T) (h:bU w b n (aM p)) (hp:cF p=true) (h0:p.length≠0) (t:T) (ht:aU o p=t):Calls Tryz.prog 138 #[.map (some b),.func (.func (Kw o)) #[] #[]] w fun r w'=>r= .returned (.agg #[.int .i64 t.c,.int .i64 t.m.x,.int .i64 t.m.y,.int .i64 t.m.d,.int .i64 t.m.e])∧Below w.heap.size w w':=by
 have ho3:o=1∨o=2∨o=3:=by omega
 rcases ho3 with rfl|rfl|rfl
 ·refine(UO w b n (aM p) h).mono ?_;rintro r w' ⟨G,rfl,hb,ss,hm,hs⟩;rw[←Ok]at hm;have:=hm.all ho hp h0 hs
  rw[ht]at this;subst this;exact⟨rfl,hb⟩
 ·refine(UP w b n (aM p) h).mono ?_;rintro r w' ⟨G,rfl,hb,ss,hm,hs⟩;rw[←Ol]at hm;have:=hm.all ho hp h0 hs
  rw[ht]at this;subst this;exact⟨rfl,hb⟩
 ·refine(UQ w b n (aM p) h).mono ?_;rintro r w' ⟨G,rfl,hb,ss,hm,hs⟩;rw[←Om]at hm;have:=hm.all ho hp h0 hs
  rw[ht]at this;subst this;exact⟨rfl,hb⟩
theorem Ac (o:Int) (w:World) (h1:1≤o) (h2:o≤3):Calls Tryz.prog 73 #[.int .i64 o] w fun r w'=>r= .returned (.tuple #[.func (.func (Kw o)) #[] #[],.bool true])∧Below w.heap.size w w':=by
 have ho3:o=1∨o=2∨o=3:=by omega
 rcases ho3 with rfl|rfl|rfl
 ·exact pJ w
 ·exact pK w
 ·exact pL w
open Go.RowKit Go.Deep Go.Joins
abbrev gB:Value:=.iface 114 (.agg #[])
theorem iA (v:Value) (w:World):Calls Tryz.prog 142 #[v,.bool true] w fun r w'=>r= .returned v∧w'=w:=by go_enter Tryz.func142,Tryz.ntmps142;go_wp2;go_ret;exact⟨rfl,rfl⟩
theorem gE (v:Value) (w:World):Calls Tryz.prog 142 #[v,.bool false] w fun r w'=>r= .panicked [{v:=gB,recovered:=false}]∧w'=w:=by go_enter Tryz.func142,Tryz.ntmps142;go_wp2;exact⟨rfl,rfl,rfl⟩
theorem Db (t:TypeId) (w:World):(Instr.typeAssert Value.nilIface t 114 true).run Tryz.prog w= .ok (.tuple #[.agg #[],.bool false]) w:=by kernel_rfl
theorem TA (t:TypeId) (w:World):(Instr.typeAssert gB t 114 true).run Tryz.prog w= .ok (.tuple #[.agg #[],.bool true]) w:=by kernel_rfl
theorem ZX (w:World):(binOp BinOp.neq 20 Value.nilIface Value.nilIface).run Tryz.prog w= .ok (.bool false) w:=by kernel_rfl
theorem RO (w:World):(binOp BinOp.neq 20 gB Value.nilIface).run Tryz.prog w= .ok (.bool true) w:=by kernel_rfl
theorem AN (w:World):CallsD Tryz.prog 78 #[] .returning w fun e u' w'=>e= .returned (.tuple #[])∧u'= .returning∧w'=w.alloc (.cells #[] 114):=by
 refine callsD_of_wpS Tryz.func78 rfl fun c₀ cs hu=>?_;apply wpS_seq;apply wpS_region;simp[wpOpsS,go_sem,recoverD,hu,Tryz.ntmps78,Exit.thenS];simp only[Array.replicate];refine wpS_of_wp ?_;have h1:=Db
 have h2:=TA;have h3:=ZX
 have h4:=RO;go_wp2;cases c₀
 simp_all [bodyPostS,results,Tryz.results78]
theorem vC (w:World):CallsD Tryz.prog 78 #[] (.panicking [{v:=gB,recovered:=false}]) w fun e u' w'=>e= .returned (.tuple #[])∧u'= .panicking [{v:=gB,recovered:=true}]∧w'=w.alloc (.cells #[] 114):=by
 refine callsD_of_wpS Tryz.func78 rfl fun c₀ cs hu=>?_;apply wpS_seq;apply wpS_region;simp[wpOpsS,go_sem,recoverD,hu,Tryz.ntmps78,Exit.thenS];simp only[Array.replicate];refine wpS_of_wp ?_;have h1:=Db
 have h2:=TA;have h3:=ZX
 have h4:=RO;go_wp2;cases c₀
 simp_all [bodyPostS,results,Tryz.results78]
theorem ME (g:Nat) (lb:Array Value) (w:World) (Q:World→Prop) (eg:∀args w,(callFunc g args).run Tryz.prog w= .ok (.enter g args) w) (h:Calls Tryz.prog g lb w fun r w'=>r= .returned (.tuple #[])∧Q w'):Calls Tryz.prog 37 #[.func (.func g) #[] lb] w fun r w'=>r= .returned (.bool true)∧∃w1,Q w1∧w'=w1.alloc (.cells #[] 114):=by
 have HC:=aA h;clear h
 go_enter_defers Tryz.func37,Tryz.ntmps37
 go_wp2_with fail;refine HC.out.mono ?_;rintro r w1 ⟨rfl,hq⟩;have HQ:=aA hq
 clear hq HC;go_wp2;refine leaves_cons (f:=78) (args:=#[]) (by simp) (by simp[go_sem]) ?_;refine(AN _).mono ?_;rintro e u' w'' ⟨rfl,rfl,rfl⟩;simp[Leaves,settle,results,Tryz.results37,go_sem];exact⟨w1,HQ.out,rfl⟩
theorem PP (g:Nat) (lb:Array Value) (w:World) (Q:World→Prop) (eg:∀args w,(callFunc g args).run Tryz.prog w= .ok (.enter g args) w) (h:Calls Tryz.prog g lb w fun r w'=>r= .panicked [{v:=gB,recovered:=false}]∧Q w'):Calls Tryz.prog 37 #[.func (.func g) #[] lb] w fun r w'=>r= .returned (.bool false)∧∃w1,Q w1∧w'=w1.alloc (.cells #[] 114):=by
 have HC:=aA h;clear h
 go_enter_defers Tryz.func37,Tryz.ntmps37
 go_wp2_with fail;refine HC.out.mono ?_;rintro r w1 ⟨rfl,hq⟩;have HQ:=aA hq
 clear hq HC;go_wp2;refine leaves_cons (f:=78) (args:=#[]) (by simp) (by simp[go_sem]) ?_;refine(vC _).mono ?_;rintro e u' w'' ⟨rfl,rfl,rfl⟩;simp[Leaves,settle,results,Tryz.results37,go_sem];exact⟨w1,HQ.out,rfl⟩
end Go.Proofs.YtelkehjdfcoeiaaGreat
