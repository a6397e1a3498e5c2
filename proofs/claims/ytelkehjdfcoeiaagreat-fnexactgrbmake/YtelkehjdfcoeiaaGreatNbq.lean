/-
  A basis is made: the program's GrbMake.
-/
import Derived.Test.YtelkehjdfcoeiaaGreatNbp
set_option maxHeartbeats 8000000
set_option maxRecDepth 100000
namespace Go.Proofs.YtelkehjdfcoeiaaGreat
open Go.RowKit Go.Deep Go.Joins
set_option linter.unusedVariables false
theorem AJ (g:Nat) (bd:Array Value) (w:World) (Q:World→Prop) (eg:∀args w,(callFunc g args).run Tryz.prog w= .ok (.enter g args) w) (h:Calls Tryz.prog g bd w fun r w'=>r= .returned (.tuple #[])∧Q w'):Calls Tryz.prog 37 #[.func (.func g) bd #[]] w fun r w'=>r= .returned (.bool true)∧∃w1,Q w1∧w'=w1.alloc (.cells #[] 114):=by
 have HC:=aA h;clear h
 go_enter_defers Tryz.func37,Tryz.ntmps37
 go_wp2_with fail;refine HC.out.mono ?_;rintro r w1 ⟨rfl,hq⟩;have HQ:=aA hq
 clear hq HC;go_wp2;refine leaves_cons (f:=78) (args:=#[]) (by simp) (by simp[go_sem]) ?_;refine(vC _).mono ?_;rintro e u' w'' ⟨rfl,rfl,rfl⟩;simp[Leaves,settle,results,Tryz.results37,go_sem];exact⟨w1,HQ.out,rfl⟩
theorem DY (g:Nat) (bd:Array Value) (w:World) (Q:World→Prop) (eg:∀args w,(callFunc g args).run Tryz.prog w= .ok (.enter g args) w) (h:Calls Tryz.prog g bd w fun r w'=>r= .panicked [{v:=dU,recovered:=false}]∧Q w'):Calls Tryz.prog 37 #[.func (.func g) bd #[]] w fun r w'=>r= .returned (.bool false)∧∃w1,Q w1∧w'=w1.alloc (.cells #[] 114):=by
 have HC:=aA h;clear h
 go_enter_defers Tryz.func37,Tryz.ntmps37
 go_wp2_with fail;refine HC.out.mono ?_;rintro r w1 ⟨rfl,hq⟩;have HQ:=aA hq
 clear hq HC;go_wp2;refine leaves_cons (f:=78) (args:=#[]) (by simp) (by simp[go_sem]) ?_;refine(qU _).mono ?_;rintro e u' w'' ⟨rfl,rfl,rfl⟩;simp[Leaves,settle,results,Tryz.results37,go_sem];exact⟨w1,HQ.out,rfl⟩
theorem JA {w:World} {lo lo':Nat} {e:TypeId} {size:Nat} {v:Value} {n:Nat} {xs:List Value} (h:w.ownsRow lo e size v n xs) (hl:lo'≤lo):w.ownsRow lo' e size v n xs:=⟨h.1,h.2.imp id (fun⟨g,cap,cur,e1,e2,r⟩=>⟨g,cap,cur,e1,gW hl e2,r⟩)⟩
theorem jG.low {Y:Nat→Prop} {w:World} {lo lo':Nat} {tvL tvP:Value} {g nL:Nat} {L:Nat→List T} {nP:Nat} {Q:Nat→Nat→List T} {LS PS:List Value} (h:jG Y w lo tvL tvP g nL L nP Q LS PS) (hl:lo'≤lo):jG Y w lo' tvL tvP g nL L nP Q LS PS:=⟨JA h.rL hl,JA h.rP hl,h.eL,h.eP,h.nL,h.nP⟩
theorem YE (w:World) (lo n:Nat) (o:Int) (f:Nat) (L:Nat→List T) (hlo:lo≤w.heap.size):MW (w.alloc (.cells #[.slice none 0 0,.slice none 0 0,.bool false,.int .i64 o,.slice none 0 0,.pointer none,.pointer none,.int .i64 (f:Int)] 68)) lo w.heap.size n o f ⟨0,L,fun k=>dF k⟩ 0 (.slice none 0 0) (.slice none 0 0) (.slice none 0 0) [] [] (fun _=>0):=by
 have c:∀i,(w.alloc (.cells #[.slice none 0 0,.slice none 0 0,.bool false,.int .i64 o,.slice none 0 0,.pointer none,.pointer none,.int .i64 (f:Int)] 68)).cell? ⟨w.heap.size,i,none⟩=#[Value.slice none 0 0,.slice none 0 0,.bool false,.int .i64 o,.slice none 0 0,.pointer none,.pointer none,.int .i64 (f:Int)][i]? :=fun i=>World.cell?_alloc_at _ _ _ _ rfl
 have z:∀j,(w.alloc (.cells #[.slice none 0 0,.slice none 0 0,.bool false,.int .i64 o,.slice none 0 0,.pointer none,.pointer none,.int .i64 (f:Int)] 68)).frozen? ⟨w.heap.size,j,none⟩=false:=fun j=>by rw[World.frozen?_alloc_at _ _ _ _ rfl]
 exact⟨⟨c 0,c 1,c 2,c 3,c 7,z⟩,⟨c 4,c 5,⟨_,c 6,fun q=>absurd q (Nat.lt_irrefl _)⟩,⟨z 4,z 5,z 6⟩,⟨rfl,.inl ⟨rfl,rfl⟩⟩,fun g hg=>by simp[Value.ownBlock]at hg,fun j j1 j2=>absurd j2 (EZ _),fun j j1 j2=>absurd j2 (EZ _),fun i j _ _ j2=>absurd j2 (EZ _),hlo⟩,jG.none _ _ _ _ _ _,Nat.le_refl _,Nat.zero_le _,hlo,wX.none _ _ _ _ _ _ (by simp;omega)⟩
def xL (w:World) (n:Nat) (X:Bs×Bool) (r:Ending) (w':World):Prop:=∃tvL tvP LS PS,r= .returned (.agg #[tvL,tvP,.bool X.2])∧Below w.heap.size w w'∧jG (fun b=>b<w.heap.size) w' w.heap.size tvL tvP n X.1.m X.1.L X.1.m X.1.P LS PS∧wX (NB (fun b=>b<w.heap.size) tvL tvP) w' w.heap.size X.1.m n X.1.L X.1.P LS PS
theorem iL {w w':World} {n:Nat} (hb:Below w.heap.size w w'):xL w n (⟨0,fun _=>[],fun _ _=>[]⟩,false) (.returned (.agg #[.slice none 0 0,.slice none 0 0,.bool false])) w':=⟨_,_,[],[],rfl,hb,jG.none _ _ _ _ _ _,wX.none _ _ _ _ _ _ hb.size⟩
theorem xL.p {w:World} {n:Nat} {X:Bs×Bool} {r:Ending} {w':World} (h:xL w n X r w'):xK w n X r w':=by obtain⟨tvL,tvP,LS,PS,e,hb,hk,_⟩:=h;exact⟨tvL,tvP,LS,PS,e,hb,hk⟩
theorem zM (w:World) (o:Int) (a:Option Addr) (n cap:Nat) (ad:Nat→Option Addr) (cp:Nat→Nat) (L:Nat→List T) (h:eH w a n cap ad (lN L) cp (fN L)) (fuel:Int) (hbad:¬((1≤o∧o≤3)∧aW n (lN L) (fN L)=true∧(1≤n∧n≤3)∧(0≤fuel∧fuel≤60))):Calls Tryz.prog 10 #[.int .i64 o,.slice a n cap,.int .i64 fuel] w (xL w n (⟨0,fun _=>[],fun _ _=>[]⟩,false)):=by
 have q1:(n:Int)≤140737488351232:=by have:=h.2.1;omega
 have HH:=aA (h.below (aC w (.cells #[.slice none 0 0,.slice none 0 0,.bool false] 27)));have HX0:=aA (eT.box w 27 (.slice none 0 0) (.slice none 0 0) (.bool false))
 clear h;by_cases ho:1≤o∧o≤3;rotate_left
 ·have ho':o<1∨3<o:=by omega
  clear hbad;go_enter Tryz.func10,Tryz.ntmps10;go_wp2_with fail;refine(pK _ _ _ _ _ ho').mono ?_;rintro r w2 ⟨rfl,hb2⟩;have HB2:=aA (aB (aC w (.cells #[.slice none 0 0,.slice none 0 0,.bool false] 27)) hb2)
  obtain⟨⟨x0,x1,x2⟩,xz⟩:=HX0.out.below hb2;clear hb2;go_wp2;refine cV (v:=.agg #[.slice none 0 0,.slice none 0 0,.bool false]) (by simp[results,Tryz.results10,go_sem, *]) rfl ?_;exact iL (fD HB2.out (Nat.le_refl _) _ _ _)
 obtain⟨o1,o2⟩:=ho;cases hl:aW n (lN L) (fN L)
 ·clear hbad;go_enter Tryz.func10,Tryz.ntmps10;go_wp2_with fail;refine(rU _ _ _ _ _ _ _ _ _ HH.out o1 o2 hl).mono ?_;rintro r w2 ⟨rfl,hb2⟩;have HB2:=aA (aB (aC w (.cells #[.slice none 0 0,.slice none 0 0,.bool false] 27)) hb2)
  obtain⟨⟨x0,x1,x2⟩,xz⟩:=HX0.out.below hb2;clear hb2;go_wp2;refine cV (v:=.agg #[.slice none 0 0,.slice none 0 0,.bool false]) (by simp[results,Tryz.results10,go_sem, *]) rfl ?_;exact iL (fD HB2.out (Nat.le_refl _) _ _ _)
 have hrest:n=0∨(n≠0∧3<n)∨((n≠0∧n≤3)∧fuel<0)∨((n≠0∧n≤3)∧0≤fuel∧60<fuel):=by
  by_cases h1:n=0
  ·exact .inl h1
  ·by_cases h2:3<n
   ·exact .inr (.inl ⟨h1,h2⟩)
   ·by_cases h3:fuel<0
    ·exact .inr (.inr (.inl ⟨⟨h1,by omega⟩,h3⟩))
    ·by_cases h4:60<fuel
     ·exact .inr (.inr (.inr ⟨⟨h1,by omega⟩,by omega,h4⟩))
     ·exact absurd ⟨⟨o1,o2⟩,hl,⟨by omega,by omega⟩,by omega,by omega⟩ hbad
 have n12:=(aU hl).1;clear hbad;go_enter Tryz.func10,Tryz.ntmps10;go_wp2_with fail;refine(oU _ _ _ _ _ _ _ _ _ HH.out o1 o2 hl).mono ?_;rintro r w2 ⟨v,rfl,hb2,_⟩;have HB2:=aA (aB (aC w (.cells #[.slice none 0 0,.slice none 0 0,.bool false] 27)) hb2)
 obtain⟨⟨x0,x1,x2⟩,xz⟩:=HX0.out.below hb2;clear hb2;rcases hrest with h1|⟨h1,h2⟩|⟨⟨h1,h2⟩,h3⟩|⟨⟨h1,h2⟩,h3,h4⟩
 ·have e1:((n:Int)==0)=true:=by rw[h1];rfl
  clear h1;go_wp2;refine cV (v:=.agg #[.slice none 0 0,.slice none 0 0,.bool false]) (by simp[results,Tryz.results10,go_sem, *]) rfl ?_;exact iL (fD HB2.out (Nat.le_refl _) _ _ _)
 ·have e1:((n:Int)==0)=false:=beq_eq_false_iff_ne.2 (by omega);have e2:(3:Int)<(n:Int):=by omega
  clear h1 h2;go_wp2;refine cV (v:=.agg #[.slice none 0 0,.slice none 0 0,.bool false]) (by simp[results,Tryz.results10,go_sem, *]) rfl ?_;exact iL (fD HB2.out (Nat.le_refl _) _ _ _)
 ·have e1:((n:Int)==0)=false:=beq_eq_false_iff_ne.2 (by omega);have e2:¬(3:Int)<(n:Int):=by omega
  clear h1 h2;go_wp2;refine cV (v:=.agg #[.slice none 0 0,.slice none 0 0,.bool false]) (by simp[results,Tryz.results10,go_sem, *]) rfl ?_;exact iL (fD HB2.out (Nat.le_refl _) _ _ _)
 ·have e1:((n:Int)==0)=false:=beq_eq_false_iff_ne.2 (by omega);have e2:¬(3:Int)<(n:Int):=by omega
  have e3:¬fuel<0:=by omega
  clear h1 h2;go_wp2;refine cV (v:=.agg #[.slice none 0 0,.slice none 0 0,.bool false]) (by simp[results,Tryz.results10,go_sem, *]) rfl ?_;exact iL (fD HB2.out (Nat.le_refl _) _ _ _)
theorem CO (w:World) (o:Int) (a:Option Addr) (n cap:Nat) (ad:Nat→Option Addr) (cp:Nat→Nat) (L:Nat→List T) (h:eH w a n cap ad (lN L) cp (fN L)) (fu:Nat) (ho:1≤o∧o≤3) (hl:aW n (lN L) (fN L)=true) (hn:1≤n∧n≤3) (hf:fu≤60) {G:Bs×Bool} (hG:kQ o n fu (CN n L) 0=G):Calls Tryz.prog 10 #[.int .i64 o,.slice a n cap,.int .i64 (fu:Int)] w (xL w n G):=by
 have bx:=aC w (.cells #[.slice none 0 0,.slice none 0 0,.bool false] 27);have HH:=aA (h.below bx)
 have HX0:=aA (eT.box w 27 (.slice none 0 0) (.slice none 0 0) (.bool false));have HG:=aA hG
 have HL:=aA hl;have HBX:=aA bx
 have hlo0:∀b off,a=some ⟨b,off,none⟩→b<w.heap.size+1:=fun b off e=>by
  rcases h.2.2.1 with h0|⟨b',off',e',hlt,_⟩
  ·omega
  ·rw[e']at e;cases e;omega
 have hel0:∀i,i<n→∀b off,ad i=some ⟨b,off,none⟩→b<w.heap.size+1:=fun i hi b off e=>by
  rcases(h.2.2.2 i hi).2.2 with h0|⟨b',off',e',hlt,_⟩
  ·exact absurd h0 ((aU hl).2 i hi).1
  ·rw[e']at e;cases e;omega
 have HLO:=aA hlo0;have HEL:=aA hel0
 obtain⟨o1,o2⟩:=ho;have e1:((n:Int)==0)=false:=beq_eq_false_iff_ne.2 (by omega)
 have e2:¬(3:Int)<(n:Int):=by omega
 have e3:¬(fu:Int)<0:=by omega
 have e4:¬(60:Int)<(fu:Int):=by omega
 have n12:=(aU hl).1;clear h hG bx hlo0 hel0;go_enter Tryz.func10,Tryz.ntmps10;go_wp2_with fail;refine(oU _ _ _ _ _ _ _ _ _ HH.out o1 o2 hl).mono ?_;rintro r w2 ⟨v,rfl,hb2,_⟩;have hb02:=aB HBX.out hb2
 have HB2:=aA hb02;have HX2:=aA (HX0.out.below hb2)
 have HH2:=aA (HH.out.below hb2);have hs2:w.heap.size+1≤w2.heap.size:=HX2.out.lt
 have HM3:=aA (YE w2 (w.heap.size+1) n o fu L hs2);have bm:=aC w2 (.cells #[.slice none 0 0,.slice none 0 0,.bool false,.int .i64 o,.slice none 0 0,.pointer none,.pointer none,.int .i64 (fu:Int)] 68)
 have HBM:=aA bm;have HAG:=aA (KG (w2.alloc (.cells #[.slice none 0 0,.slice none 0 0,.bool false,.int .i64 o,.slice none 0 0,.pointer none,.pointer none,.int .i64 (fu:Int)] 68)) w2.heap.size o fu ⟨o1,o2⟩ a n cap ad cp L (HH2.out.below bm) hl hn (w.heap.size+1) HLO.out HEL.out _ _ _ _ _ _ HM3.out (by simp;omega))
 clear hb2 hb02 bm HX0 HH;go_wp2_with fail;refine HAG.out.mono ?_;rintro r w4 ⟨rfl,tvL4,tvP4,lv4,LS4,PS4,Bq4,hM4,hF4⟩;have HF4:Hid (Fr (fun k=>w.heap.size+1≤k) w2 w4):=(aO HBM.out).trans hF4
 have HM4:=aA hM4;have HALL:=aA (FS w4 (w.heap.size+1) w2.heap.size n o fu hf (CN n L) _ _ _ _ _ _ HM4.out (zL ⟨o1,o2⟩ hl) (by omega) HG.out)
 clear hM4 hF4 HAG HM3;obtain⟨BG,d,hGd⟩:∃BG d,G=(BG,d):=⟨_,_,rfl⟩
 subst hGd;have key:Calls Tryz.prog 37 #[.func (.func 38) #[.pointer (some ⟨w2.heap.size,0,none⟩)] #[]] w4 fun r w'=>r= .returned (.bool d)∧∃w1,(Fr (fun k=>w.heap.size+1≤k) w4 w1∧∃f a tvL tvP lv LS PS Bq,MW w1 (w.heap.size+1) w2.heap.size n o f BG a tvL tvP lv LS PS Bq)∧w'=w1.alloc (.cells #[] 114):=by
  cases d
  ·exact DY 38 _ w4 (fun w1=>Fr (fun k=>w.heap.size+1≤k) w4 w1∧∃f a tvL tvP lv LS PS Bq,MW w1 (w.heap.size+1) w2.heap.size n o f BG a tvL tvP lv LS PS Bq) (enters_of Tryz.func38 (by kernel_rfl) rfl) (HALL.out.mono fun r u ⟨k1,k2,k3⟩=>by
    rcases k2 with⟨q,_⟩|⟨_,q⟩
    ·cases q
    ·exact⟨q,k1,k3⟩)
  ·exact AJ 38 _ w4 (fun w1=>Fr (fun k=>w.heap.size+1≤k) w4 w1∧∃f a tvL tvP lv LS PS Bq,MW w1 (w.heap.size+1) w2.heap.size n o f BG a tvL tvP lv LS PS Bq) (enters_of Tryz.func38 (by kernel_rfl) rfl) (HALL.out.mono fun r u ⟨k1,k2,k3⟩=>by
    rcases k2 with⟨_,q⟩|⟨q,_⟩
    ·exact⟨q,k1,k3⟩
    ·cases q)
 have HKEY:=aA key;clear key HALL;go_wp2_with fail;refine HKEY.out.mono ?_;rintro r w6 ⟨rfl,w5,⟨hF5,f5,a5,tvL,tvP,lv,LS,PS,Bq,hM5⟩,rfl⟩;have b6:=aC w5 (.cells #[] 114)
 have hM6:=hM5.below b6;have hF6:Fr (fun k=>w.heap.size+1≤k) w2 (w5.alloc (.cells #[] 114)):=(HF4.out.trans hF5).next b6
 generalize w5.alloc (.cells #[] 114)=w6 at hM6 hF6⊢;obtain⟨la,lc,lad,lcp,rfl,_⟩:=hM6.bk.readL (by have:=hM6.m12;omega);obtain⟨pa,pc,pA,pC,pAD,pCP,rfl,_⟩:=hM6.bk.readP (by have:=hM6.m12;omega);have HM6:=aA hM6
 have HF6:=aA hF6;obtain⟨⟨x0,x1,x2⟩,xz⟩:=HX2.out.fr hF6 (by omega);obtain⟨c0,c1,c2,c3,c7,cz⟩:=hM6.bx;have hne1:w2.heap.size≠w.heap.size:=by omega
 have hne2:w.heap.size≠w2.heap.size:=by omega
 clear hM5 hM6 hF5 hF6 b6 HKEY c3 c7;go_wp2;refine cV (v:=.agg #[.slice la BG.m lc,.slice pa BG.m pc,.bool d]) (by simp[results,Tryz.results10,go_sem, *]) rfl ?_;have hFw:Below w.heap.size w w6:=Fr.below HB2.out HF6.out (fun k q=>by omega) (Nat.le_refl _)
 have hY:Fr (QY (w.heap.size+1) w2.heap.size lv Bq a5 (bA BG.m)) w6 ((((w6.setCell ⟨w2.heap.size,2,none⟩ (.bool d)).setCell ⟨w.heap.size,0,none⟩ (.slice la BG.m lc)).setCell ⟨w.heap.size,1,none⟩ (.slice pa BG.m pc)).setCell ⟨w.heap.size,2,none⟩ (.bool d)):=((((Fr.refl _ w6).set (fun _=>.inr (.inl rfl))).set (fun _=>.inl (by omega))).set (fun _=>.inl (by omega))).set (fun _=>.inl (by omega));exact⟨_,_,LS,PS,rfl,fD (hFw.setCell (show w.heap.size≤w2.heap.size by omega) _) (Nat.le_refl _) _ _ _,(((HM6.out.bk.fr hY (fun b q=>q)).yet (fun b _ q=>.inl (Nat.lt_succ_of_lt q)))).low (Nat.le_succ _),((HM6.out.ow.fr hY (fun b nb q=>nb.2.2 q)).mono (fun b _ nb=>⟨nb.1,nb.2.1,fun q=>nb.2.2 (.inl (Nat.lt_succ_of_lt q))⟩)).low (Nat.le_succ _)⟩
theorem ON (w:World) (o:Int) (a:Option Addr) (n cap:Nat) (ad:Nat→Option Addr) (cp:Nat→Nat) (L:Nat→List T) (h:eH w a n cap ad (lN L) cp (fN L)) (fuel:Int):Calls Tryz.prog 10 #[.int .i64 o,.slice a n cap,.int .i64 fuel] w (xL w n (iA o n L fuel)):=by
 by_cases hc:(1≤o∧o≤3)∧aW n (lN L) (fN L)=true∧(1≤n∧n≤3)∧(0≤fuel∧fuel≤60)
 ·obtain⟨fu,rfl⟩:∃fu:Nat,fuel=(fu:Int):=⟨fuel.toNat,by omega⟩
  exact CO w o a n cap ad cp L h fu hc.1 hc.2.1 hc.2.2.1 (by omega) (by unfold iA;rw[if_pos hc,Int.toNat_natCast])
 ·rw[tW hc];exact zM w o a n cap ad cp L h fuel hc
theorem DK {w:World} {lo:Nat} {e:TypeId} {v:Value} {n:Nat} {xs:List Value} (h:w.ownsRow lo e 1 v n xs):∃a c,v= .slice a n c∧n≤c∧(n=0∨∃off,a=some ⟨cH a,off,none⟩∧lo≤cH a∧cH a<w.heap.size∧v.ownBlock=some (cH a)∧∀i,i<n→w.cell? ⟨cH a,off+i,none⟩=xs[i]?):=by
 rcases h.2 with⟨hv,h0⟩|⟨b,cap,cur,hv,hlo,hg,hnc,_⟩
 ·exact⟨none,0,by rw[hv,h0],by omega,.inl h0⟩
 ·have hr:=h;rw[hv]at hr;refine⟨some ⟨b,0,none⟩,cap,hv,hnc,.inr ⟨0,rfl,hlo,(hr.lt b rfl).2,by rw[hv];rfl,fun i hi=>?_⟩⟩;rw[Nat.zero_add];exact hr.cellAt i (by omega)
structure lF (lo:Nat) (w:World) (m g:Nat) (la:Option Addr) (lc:Nat) (pa:Option Addr) (pc:Nat) (A:Nat→Nat→Option Addr) (C:Nat→Nat→Nat) (RA:Nat→Option Addr) (RC:Nat→Nat) (L:Nat→List T) (P:Nat→Nat→List T):Prop where
 ls:dV lo w la m lc (fun i=>A i 0) (lN L) (fun i=>C i 0) (fN L) (cH la) (fun i=>cH (A i 0))
 cap:m≤pc
 pr:m=0∨∃off,pa=some ⟨cH pa,off,none⟩∧lo≤cH pa∧cH pa<w.heap.size∧∀i,i<m→w.cell? ⟨cH pa,off+i,none⟩=some (.slice (RA i) g (RC i))
 rw:∀i,i<m→dV lo w (RA i) g (RC i) (fun j=>A i (j+1)) (lN (P i)) (fun j=>C i (j+1)) (fN (P i)) (cH (RA i)) (fun j=>cH (A i (j+1)))
 ne:∀i s,i<m→s≤g→(jI (L i) (P i) s).length≠0→cH (A i s)≠cH la∧cH (A i s)≠cH pa∧∀x,x<m→g≠0→cH (A i s)≠cH (RA x)
 ap:∀i s x y,i<m→s≤g→x<m→y≤g→(i≠x∨s≠y)→(jI (L i) (P i) s).length≠0→(jI (L x) (P x) y).length≠0→cH (A i s)≠cH (A x y)
theorem UY {Y:Nat→Prop} {w:World} {lo m g:Nat} {tvL tvP:Value} {L:Nat→List T} {P:Nat→Nat→List T} {LS PS:List Value} (hm:m≤100) (hg:g≤100) (hb:jG Y w lo tvL tvP g m L m P LS PS) (ho:wX (NB Y tvL tvP) w lo m g L P LS PS):∃la lc pa pc A C RA RC,tvL= .slice la m lc∧tvP= .slice pa m pc∧lF lo w m g la lc pa pc A C RA RC L P:=by
 obtain⟨hi,H,k⟩:=ho;have each:∀i,i<m→∃t:(Nat→Option Addr)×(Nat→Nat)×Option Addr×Nat,LS[i]? =some (.slice (t.1 0) (L i).length (t.2.1 0))∧PS[i]? =some (.slice t.2.2.1 g t.2.2.2)∧BK (NB Y tvL tvP) w (H i) (H (i+1)) g t.2.2.1 t.2.2.2 t.1 t.2.1 (jI (L i) (P i)):=fun i hi=>by obtain⟨A,C,pa,pc,e1,e2,q⟩:=k.co i hi;exact⟨(A,C,pa,pc),e1,e2,q⟩
 haveI:Inhabited ((Nat→Option Addr)×(Nat→Nat)×Option Addr×Nat):=⟨(fun _=>none,fun _=>0,none,0)⟩
 obtain⟨q,hq⟩:=choose_lt each;obtain⟨la,lc,e1,cl,hL⟩:=DK hb.rL;obtain⟨pa,pc,e2,cp,hP⟩:=DK hb.rP;have mono:∀i j,i≤j→j≤m→H i≤H j:=fun i j hij=>by
  induction j with
  |zero=>intro _;rw[show i=0 by omega];exact Nat.le_refl _
  |succ j ih=>
   intro hj;by_cases e:i=j+1
   ·rw[e];exact Nat.le_refl _
   ·exact gW (ih (by omega) (by omega)) (k.up j (by omega))
 have hlo:∀i,i≤m→lo≤H i:=fun i hi=>gW k.h0 (mono 0 i (Nat.zero_le _) hi);have el:∀i,i<m→∀s,s≤g→(jI (L i) (P i) s).length≠0→(∃off,(q i).1 s=some ⟨cH ((q i).1 s),off,none⟩)∧H i≤cH ((q i).1 s)∧cH ((q i).1 s)<H (i+1)∧NB Y tvL tvP (cH ((q i).1 s))∧(g≠0→cH ((q i).1 s)≠cH (q i).2.2.1):=fun i hi s hs h0=>by
  rcases(hq i hi).2.2.el s hs with z|⟨off,e,k3,k4⟩
  ·exact absurd z h0
  ·exact⟨⟨off,e⟩,k3.1,k3.2.1,k3.2.2,k4⟩
 have ro:∀i,i<m→g≠0→(∃off,(q i).2.2.1=some ⟨cH (q i).2.2.1,off,none⟩∧∀j,j<g→w.cell? ⟨cH (q i).2.2.1,off+j,none⟩=some (.slice ((q i).1 (j+1)) (jI (L i) (P i) (j+1)).length ((q i).2.1 (j+1))))∧H i≤cH (q i).2.2.1∧cH (q i).2.2.1<H (i+1):=fun i hi h0=>by
  rcases(hq i hi).2.2.row with z|⟨off,e,k3,hc⟩
  ·exact absurd z h0
  ·exact⟨⟨off,e,hc⟩,k3.1,k3.2.1⟩
 have sep:∀i x,i<m→x<m→i≠x→∀b c,H i≤b→b<H (i+1)→H x≤c→c<H (x+1)→b≠c:=fun i x hi hx hne b c b1 b2 c1 c2=>by
  rcases Nat.lt_or_gt_of_ne hne with h|h
  ·have:=mono (i+1) x h (by omega);omega
  ·have:=mono (x+1) i h (by omega);omega
 have ap:∀i s x y,i<m→s≤g→x<m→y≤g→(i≠x∨s≠y)→(jI (L i) (P i) s).length≠0→(jI (L x) (P x) y).length≠0→cH ((q i).1 s)≠cH ((q x).1 y):=fun i s x y hi hs hx hy hne n1 n2=>by
  by_cases e:i=x
  ·subst e;have hsy:s≠y:=hne.elim (fun z=>absurd rfl z) id
   rcases Nat.lt_or_gt_of_ne hsy with h|h
   ·exact(hq i hi).2.2.ap s y h hy n1 n2
   ·exact fun z=>(hq i hi).2.2.ap y s h hs n2 n1 z.symm
  ·have a1:=el i hi s hs n1;have a2:=el x hx y hy n2
   exact sep i x hi hx e _ _ a1.2.1 a1.2.2.1 a2.2.1 a2.2.2.1
 have ne:∀i s,i<m→s≤g→(jI (L i) (P i) s).length≠0→cH ((q i).1 s)≠cH la∧cH ((q i).1 s)≠cH pa∧∀x,x<m→g≠0→cH ((q i).1 s)≠cH (q x).2.2.1:=fun i s hi hs h0=>by
  have a1:=el i hi s hs h0;refine⟨fun z=>?_,fun z=>?_,fun x hx hg0=>?_⟩
  ·rcases hL with z0|⟨_,_,_,_,ho,_⟩
   ·omega
   ·exact a1.2.2.2.1.1 (by rw[ho,z])
  ·rcases hP with z0|⟨_,_,_,_,ho,_⟩
   ·omega
   ·exact a1.2.2.2.1.2.1 (by rw[ho,z])
  ·by_cases e:i=x
   ·subst e;exact a1.2.2.2.2 hg0
   ·have a2:=ro x hx hg0;exact sep i x hi hx e _ _ a1.2.1 a1.2.2.1 a2.2.1 a2.2.2
 refine⟨la,lc,pa,pc,fun i=>(q i).1,fun i=>(q i).2.1,fun i=>(q i).2.2.1,fun i=>(q i).2.2.2,e1,e2,⟨⟨cl,by omega,?_,fun i hi=>(hq i hi).2.2.rd 0 (Nat.zero_le _)⟩,?_,fun i hi=>(hq i hi).2.2.wr 0 (Nat.zero_le _),fun i hi=>?_,fun i j hij hj n1 n2=>ap i 0 j 0 (by omega) (Nat.zero_le _) hj (Nat.zero_le _) (.inl (by omega)) n1 n2⟩,cp,?_,fun i hi=>⟨⟨(hq i hi).2.2.gc,by omega,?_,fun j hj=>(hq i hi).2.2.rd (j+1) hj⟩,?_,fun j hj=>(hq i hi).2.2.wr (j+1) hj,fun j hj=>?_,fun j y hjy hy n1 n2=>ap i (j+1) i (y+1) hi (by omega) hi (by omega) (.inr (by omega)) n1 n2⟩,ne,ap⟩
 ·rcases hL with z0|⟨off,e,l1,l2,_,hc⟩
  ·exact .inl z0
  ·exact .inr ⟨cH la,off,e,l2,fun i hi=>(hc i hi).trans (hq i hi).1⟩
 ·rcases hL with z0|⟨off,e,l1,l2,_,hc⟩
  ·exact .inl z0
  ·exact .inr ⟨off,e,l1⟩
 ·by_cases h0:(L i).length=0
  ·exact .inl h0
  ·obtain⟨⟨off,e⟩,a1,a2,a3,a4⟩:=el i hi 0 (Nat.zero_le _) h0;exact .inr ⟨off,e,gW (hlo i (by omega)) a1,(ne i 0 hi (Nat.zero_le _) h0).1⟩
 ·rcases hP with z0|⟨off,e,l1,l2,_,hc⟩
  ·exact .inl z0
  ·exact .inr ⟨off,e,l1,l2,fun i hi=>(hc i hi).trans (hq i hi).2.1⟩
 ·by_cases h0:g=0
  ·exact .inl h0
  ·obtain⟨⟨off,e,hc⟩,a1,a2⟩:=ro i hi h0;exact .inr ⟨_,off,e,iZ a2 (gW (mono (i+1) m hi (Nat.le_refl _)) (gW k.hm k.sz)),hc⟩
 ·by_cases h0:g=0
  ·exact .inl h0
  ·obtain⟨⟨off,e,hc⟩,a1,a2⟩:=ro i hi h0;exact .inr ⟨off,e,gW (hlo i (by omega)) a1⟩
 ·by_cases h0:(P i j).length=0
  ·exact .inl h0
  ·obtain⟨⟨off,e⟩,a1,a2,a3,a4⟩:=el i hi (j+1) hj h0;exact .inr ⟨off,e,gW (hlo i (by omega)) a1,a4 (by omega)⟩
theorem lF.r3 {lo:Nat} {w:World} {m g:Nat} {la:Option Addr} {lc:Nat} {pa:Option Addr} {pc:Nat} {A:Nat→Nat→Option Addr} {C:Nat→Nat→Nat} {RA:Nat→Option Addr} {RC:Nat→Nat} {L:Nat→List T} {P:Nat→Nat→List T} (h:lF lo w m g la lc pa pc A C RA RC L P):R3 w pa m pc g RA RC (fun i j=>A i (j+1)) (fun i j=>C i (j+1)) P:=by
 refine⟨h.cap,h.ls.rd.2.1,?_,fun i hi=>(h.rw i hi).rd⟩;rcases h.pr with z0|⟨off,e,_,l2,hc⟩
 ·exact .inl z0
 ·exact .inr ⟨_,off,e,l2,hc⟩
theorem lF.fr {lo:Nat} {w w':World} {m g:Nat} {la:Option Addr} {lc:Nat} {pa:Option Addr} {pc:Nat} {A:Nat→Nat→Option Addr} {C:Nat→Nat→Nat} {RA:Nat→Option Addr} {RC:Nat→Nat} {L:Nat→List T} {P:Nat→Nat→List T} (h:lF lo w m g la lc pa pc A C RA RC L P) (hf:∀(a:Option Addr) (n cap:Nat) (ad:Nat→Option Addr) (ln cp:Nat→Nat) (f:Nat→Nat→T) (R:Nat) (B:Nat→Nat),dV lo w a n cap ad ln cp f R B→dV lo w' a n cap ad ln cp f R B) (hs:w.heap.size≤w'.heap.size) (hc:∀b x,lo≤b→b<w.heap.size→w'.cell? ⟨b,x,none⟩=w.cell? ⟨b,x,none⟩):lF lo w' m g la lc pa pc A C RA RC L P:=
 ⟨hf _ _ _ _ _ _ _ _ _ h.ls,h.cap,h.pr.imp id (fun⟨off,e,l1,l2,k⟩=>⟨off,e,l1,iZ l2 hs,fun i hi=>(hc _ _ l1 l2).trans (k i hi)⟩),fun i hi=>hf _ _ _ _ _ _ _ _ _ (h.rw i hi),h.ne,h.ap⟩
theorem lF.below {lo:Nat} {w w':World} {m g:Nat} {la:Option Addr} {lc:Nat} {pa:Option Addr} {pc:Nat} {A:Nat→Nat→Option Addr} {C:Nat→Nat→Nat} {RA:Nat→Option Addr} {RC:Nat→Nat} {L:Nat→List T} {P:Nat→Nat→List T} (h:lF lo w m g la lc pa pc A C RA RC L P) (hb:Below w.heap.size w w'):lF lo w' m g la lc pa pc A C RA RC L P:=
 h.fr (fun _ _ _ _ _ _ _ _ _ k=>k.below hb) hb.size (fun b x _ hl=>hb.cell (p:=⟨b,x,none⟩) hl)
end Go.Proofs.YtelkehjdfcoeiaaGreat
