/-
  A basis is made: the program's GrbMake.
  Whether two bases are the same (laws.heBase): two that hold the same.
  Nothing is left of the pairs of a basis (laws.heBasis).
-/
import Derived.Test.YtmlaedpamobmhaaGreatMBae
set_option maxHeartbeats 8000000
set_option maxRecDepth 100000
namespace Go.Proofs.YtmlaedpamobmhaaGreat
open Go.RowKit Go.Deep Go.Joins
set_option linter.unusedVariables false
theorem DK (g:Nat) (bd:Array Value) (w:World) (Q:World→Prop) (eg:∀args w,(callFunc g args).run Tryz.prog w= .ok (.enter g args) w) (h:Calls Tryz.prog g bd w fun r w'=>r= .returned (.tuple #[])∧Q w'):Calls Tryz.prog 41 #[.func (.func g) bd #[]] w fun r w'=>r= .returned (.bool true)∧∃w1,Q w1∧w'=w1.alloc (.cells #[] 114):=by
 have HC:=aA h;clear h
 go_enter_defers Tryz.func41,Tryz.ntmps41
 go_wp2_with fail;refine HC.out.mono ?_;rintro r w1 ⟨rfl,hq⟩;have HQ:=aA hq
 clear hq HC;go_wp2;refine leaves_cons (f:=83) (args:=#[]) (by simp) (by simp[go_sem]) ?_;refine(xQ _).mono ?_;rintro e u' w'' ⟨rfl,rfl,rfl⟩;simp[Leaves,settle,results,Tryz.results41,go_sem];exact⟨w1,HQ.out,rfl⟩
theorem GR (g:Nat) (bd:Array Value) (w:World) (Q:World→Prop) (eg:∀args w,(callFunc g args).run Tryz.prog w= .ok (.enter g args) w) (h:Calls Tryz.prog g bd w fun r w'=>r= .panicked [{v:=dW,recovered:=false}]∧Q w'):Calls Tryz.prog 41 #[.func (.func g) bd #[]] w fun r w'=>r= .returned (.bool false)∧∃w1,Q w1∧w'=w1.alloc (.cells #[] 114):=by
 have HC:=aA h;clear h
 go_enter_defers Tryz.func41,Tryz.ntmps41
 go_wp2_with fail;refine HC.out.mono ?_;rintro r w1 ⟨rfl,hq⟩;have HQ:=aA hq
 clear hq HC;go_wp2;refine leaves_cons (f:=83) (args:=#[]) (by simp) (by simp[go_sem]) ?_;refine(sL _).mono ?_;rintro e u' w'' ⟨rfl,rfl,rfl⟩;simp[Leaves,settle,results,Tryz.results41,go_sem];exact⟨w1,HQ.out,rfl⟩
theorem MP {w:World} {lo lo':Nat} {e:TypeId} {size:Nat} {v:Value} {n:Nat} {xs:List Value} (h:w.ownsRow lo e size v n xs) (hl:lo'≤lo):w.ownsRow lo' e size v n xs:=⟨h.1,h.2.imp id (fun⟨g,cap,cur,e1,e2,r⟩=>⟨g,cap,cur,e1,jJ hl e2,r⟩)⟩
theorem kI.low {Y:Nat→Prop} {w:World} {lo lo':Nat} {tvL tvP:Value} {g nL:Nat} {L:Nat→List T} {nP:Nat} {Q:Nat→Nat→List T} {LS PS:List Value} (h:kI Y w lo tvL tvP g nL L nP Q LS PS) (hl:lo'≤lo):kI Y w lo' tvL tvP g nL L nP Q LS PS:=⟨MP h.rL hl,MP h.rP hl,h.eL,h.eP,h.nL,h.nP⟩
theorem Cw (w:World) (lo n:Nat) (o:Int) (f:Nat) (L:Nat→List T) (hlo:lo≤w.heap.size):MW (w.alloc (.cells #[.slice none 0 0,.slice none 0 0,.bool false,.int .i64 o,.slice none 0 0,.pointer none,.pointer none,.int .i64 (f:Int)] 71)) lo w.heap.size n o f ⟨0,L,fun k=>gT k⟩ 0 (.slice none 0 0) (.slice none 0 0) (.slice none 0 0) [] [] (fun _=>0):=by
 have c:∀i,(w.alloc (.cells #[.slice none 0 0,.slice none 0 0,.bool false,.int .i64 o,.slice none 0 0,.pointer none,.pointer none,.int .i64 (f:Int)] 71)).cell? ⟨w.heap.size,i,none⟩=#[Value.slice none 0 0,.slice none 0 0,.bool false,.int .i64 o,.slice none 0 0,.pointer none,.pointer none,.int .i64 (f:Int)][i]? :=fun i=>World.cell?_alloc_at _ _ _ _ rfl
 have z:∀j,(w.alloc (.cells #[.slice none 0 0,.slice none 0 0,.bool false,.int .i64 o,.slice none 0 0,.pointer none,.pointer none,.int .i64 (f:Int)] 71)).frozen? ⟨w.heap.size,j,none⟩=false:=fun j=>by rw[World.frozen?_alloc_at _ _ _ _ rfl]
 exact⟨⟨c 0,c 1,c 2,c 3,c 7,z⟩,⟨c 4,c 5,⟨_,c 6,fun q=>absurd q (Nat.lt_irrefl _)⟩,⟨z 4,z 5,z 6⟩,⟨rfl,.inl ⟨rfl,rfl⟩⟩,fun g hg=>by simp[Value.ownBlock]at hg,fun j j1 j2=>absurd j2 (NX _),fun j j1 j2=>absurd j2 (NX _),fun i j _ _ j2=>absurd j2 (NX _),hlo⟩,kI.none _ _ _ _ _ _,Nat.le_refl _,gY _,hlo⟩
theorem CU (w:World) (o:Int) (a:Option Addr) (n cap:Nat) (ad:Nat→Option Addr) (cp:Nat→Nat) (L:Nat→List T) (h:eJ w a n cap ad (lN L) cp (fN L)) (fuel:Int) (hbad:¬((1≤o∧o≤3)∧aU n (lN L) (fN L)=true∧(1≤n∧n≤3)∧(0≤fuel∧fuel≤60))):Calls Tryz.prog 10 #[.int .i64 o,.slice a n cap,.int .i64 fuel] w (sC w n (⟨0,fun _=>[],fun _ _=>[]⟩,false)):=by
 have q1:(n:Int)≤140737488351232:=by have:=h.2.1;omega
 have HH:=aA (h.below (aC w (.cells #[.slice none 0 0,.slice none 0 0,.bool false] 28)));have HX0:=aA (eI.box w 28 (.slice none 0 0) (.slice none 0 0) (.bool false))
 clear h;by_cases ho:1≤o∧o≤3;rotate_left
 ·have ho':o<1∨3<o:=by omega
  clear hbad;go_enter Tryz.func10,Tryz.ntmps10;go_wp2_with fail;refine(mQ _ _ _ _ _ ho').mono ?_;rintro r w2 ⟨rfl,hb2⟩;have HB2:=aA (aB (aC w (.cells #[.slice none 0 0,.slice none 0 0,.bool false] 28)) hb2)
  obtain⟨⟨x0,x1,x2⟩,xz⟩:=HX0.out.below hb2;clear hb2;go_wp2;refine cW (v:=.agg #[.slice none 0 0,.slice none 0 0,.bool false]) (by simp[results,Tryz.results10,go_sem, *]) rfl ?_;exact⟨_,_,[],[],rfl,gC HB2.out (Nat.le_refl _) _ _ _,kI.none _ _ _ _ _ _⟩
 obtain⟨o1,o2⟩:=ho;cases hl:aU n (lN L) (fN L)
 ·clear hbad;go_enter Tryz.func10,Tryz.ntmps10;go_wp2_with fail;refine(oH _ _ _ _ _ _ _ _ _ HH.out o1 o2 hl).mono ?_;rintro r w2 ⟨rfl,hb2⟩;have HB2:=aA (aB (aC w (.cells #[.slice none 0 0,.slice none 0 0,.bool false] 28)) hb2)
  obtain⟨⟨x0,x1,x2⟩,xz⟩:=HX0.out.below hb2;clear hb2;go_wp2;refine cW (v:=.agg #[.slice none 0 0,.slice none 0 0,.bool false]) (by simp[results,Tryz.results10,go_sem, *]) rfl ?_;exact⟨_,_,[],[],rfl,gC HB2.out (Nat.le_refl _) _ _ _,kI.none _ _ _ _ _ _⟩
 have hrest:n=0∨(n≠0∧3<n)∨((n≠0∧n≤3)∧fuel<0)∨((n≠0∧n≤3)∧0≤fuel∧60<fuel):=by
  by_cases h1:n=0
  ·exact .inl h1
  ·by_cases h2:3<n
   ·exact .inr (.inl ⟨h1,h2⟩)
   ·by_cases h3:fuel<0
    ·exact .inr (.inr (.inl ⟨⟨h1,by omega⟩,h3⟩))
    ·by_cases h4:60<fuel
     ·exact .inr (.inr (.inr ⟨⟨h1,by omega⟩,by omega,h4⟩))
     ·exact absurd ⟨⟨o1,o2⟩,hl,⟨by omega,by omega⟩,by omega,by omega⟩ hbad
 have n12:=(aR hl).1;clear hbad;go_enter Tryz.func10,Tryz.ntmps10;go_wp2_with fail;refine(nC _ _ _ _ _ _ _ _ _ HH.out o1 o2 hl).mono ?_;rintro r w2 ⟨v,rfl,hb2,_⟩;have HB2:=aA (aB (aC w (.cells #[.slice none 0 0,.slice none 0 0,.bool false] 28)) hb2)
 obtain⟨⟨x0,x1,x2⟩,xz⟩:=HX0.out.below hb2;clear hb2;rcases hrest with h1|⟨h1,h2⟩|⟨⟨h1,h2⟩,h3⟩|⟨⟨h1,h2⟩,h3,h4⟩
 ·have e1:((n:Int)==0)=true:=by rw[h1];rfl
  clear h1;go_wp2;refine cW (v:=.agg #[.slice none 0 0,.slice none 0 0,.bool false]) (by simp[results,Tryz.results10,go_sem, *]) rfl ?_;exact⟨_,_,[],[],rfl,gC HB2.out (Nat.le_refl _) _ _ _,kI.none _ _ _ _ _ _⟩
 ·have e1:((n:Int)==0)=false:=beq_eq_false_iff_ne.2 (by omega);have e2:(3:Int)<(n:Int):=by omega
  clear h1 h2;go_wp2;refine cW (v:=.agg #[.slice none 0 0,.slice none 0 0,.bool false]) (by simp[results,Tryz.results10,go_sem, *]) rfl ?_;exact⟨_,_,[],[],rfl,gC HB2.out (Nat.le_refl _) _ _ _,kI.none _ _ _ _ _ _⟩
 ·have e1:((n:Int)==0)=false:=beq_eq_false_iff_ne.2 (by omega);have e2:¬(3:Int)<(n:Int):=by omega
  clear h1 h2;go_wp2;refine cW (v:=.agg #[.slice none 0 0,.slice none 0 0,.bool false]) (by simp[results,Tryz.results10,go_sem, *]) rfl ?_;exact⟨_,_,[],[],rfl,gC HB2.out (Nat.le_refl _) _ _ _,kI.none _ _ _ _ _ _⟩
 ·have e1:((n:Int)==0)=false:=beq_eq_false_iff_ne.2 (by omega);have e2:¬(3:Int)<(n:Int):=by omega
  have e3:¬fuel<0:=by omega
  clear h1 h2;go_wp2;refine cW (v:=.agg #[.slice none 0 0,.slice none 0 0,.bool false]) (by simp[results,Tryz.results10,go_sem, *]) rfl ?_;exact⟨_,_,[],[],rfl,gC HB2.out (Nat.le_refl _) _ _ _,kI.none _ _ _ _ _ _⟩
theorem FI (w:World) (o:Int) (a:Option Addr) (n cap:Nat) (ad:Nat→Option Addr) (cp:Nat→Nat) (L:Nat→List T) (h:eJ w a n cap ad (lN L) cp (fN L)) (fu:Nat) (ho:1≤o∧o≤3) (hl:aU n (lN L) (fN L)=true) (hn:1≤n∧n≤3) (hf:fu≤60) {G:Bs×Bool} (hG:gH o n fu (zZ n L) 0=G):Calls Tryz.prog 10 #[.int .i64 o,.slice a n cap,.int .i64 (fu:Int)] w (sC w n G):=by
 have bx:=aC w (.cells #[.slice none 0 0,.slice none 0 0,.bool false] 28);have HH:=aA (h.below bx)
 have HX0:=aA (eI.box w 28 (.slice none 0 0) (.slice none 0 0) (.bool false));have HG:=aA hG
 have HL:=aA hl;have HBX:=aA bx
 have hlo0:∀b off,a=some ⟨b,off,none⟩→b<w.heap.size+1:=fun b off e=>by
  rcases h.2.2.1 with h0|⟨b',off',e',hlt,_⟩
  ·omega
  ·rw[e']at e;cases e;omega
 have hel0:∀i,i<n→∀b off,ad i=some ⟨b,off,none⟩→b<w.heap.size+1:=fun i hi b off e=>by
  rcases(h.2.2.2 i hi).2.2 with h0|⟨b',off',e',hlt,_⟩
  ·exact absurd h0 ((aR hl).2 i hi).1
  ·rw[e']at e;cases e;omega
 have HLO:=aA hlo0;have HEL:=aA hel0
 obtain⟨o1,o2⟩:=ho;have e1:((n:Int)==0)=false:=beq_eq_false_iff_ne.2 (by omega)
 have e2:¬(3:Int)<(n:Int):=by omega
 have e3:¬(fu:Int)<0:=by omega
 have e4:¬(60:Int)<(fu:Int):=by omega
 have n12:=(aR hl).1;clear h hG bx hlo0 hel0;go_enter Tryz.func10,Tryz.ntmps10;go_wp2_with fail;refine(nC _ _ _ _ _ _ _ _ _ HH.out o1 o2 hl).mono ?_;rintro r w2 ⟨v,rfl,hb2,_⟩;have hb02:=aB HBX.out hb2
 have HB2:=aA hb02;have HX2:=aA (HX0.out.below hb2)
 have HH2:=aA (HH.out.below hb2);have hs2:w.heap.size+1≤w2.heap.size:=HX2.out.lt
 have HM3:=aA (Cw w2 (w.heap.size+1) n o fu L hs2);have bm:=aC w2 (.cells #[.slice none 0 0,.slice none 0 0,.bool false,.int .i64 o,.slice none 0 0,.pointer none,.pointer none,.int .i64 (fu:Int)] 71)
 have HBM:=aA bm;have HAG:=aA (OH (w2.alloc (.cells #[.slice none 0 0,.slice none 0 0,.bool false,.int .i64 o,.slice none 0 0,.pointer none,.pointer none,.int .i64 (fu:Int)] 71)) w2.heap.size o fu ⟨o1,o2⟩ a n cap ad cp L (HH2.out.below bm) hl hn (w.heap.size+1) HLO.out HEL.out _ _ _ _ _ _ HM3.out (by simp;omega))
 clear hb2 hb02 bm HX0 HH;go_wp2_with fail;refine HAG.out.mono ?_;rintro r w4 ⟨rfl,tvL4,tvP4,lv4,LS4,PS4,Bq4,hM4,hF4⟩;have HF4:Hid (Fr (fun k=>w.heap.size+1≤k) w2 w4):=(aV HBM.out).trans hF4
 have HM4:=aA hM4;have HALL:=aA (JN w4 (w.heap.size+1) w2.heap.size n o fu hf (zZ n L) _ _ _ _ _ _ HM4.out (CT ⟨o1,o2⟩ hl) (by omega) HG.out)
 clear hM4 hF4 HAG HM3;obtain⟨BG,d,hGd⟩:∃BG d,G=(BG,d):=⟨_,_,rfl⟩
 subst hGd;have key:Calls Tryz.prog 41 #[.func (.func 42) #[.pointer (some ⟨w2.heap.size,0,none⟩)] #[]] w4 fun r w'=>r= .returned (.bool d)∧∃w1,(Fr (fun k=>w.heap.size+1≤k) w4 w1∧∃f a tvL tvP lv LS PS Bq,MW w1 (w.heap.size+1) w2.heap.size n o f BG a tvL tvP lv LS PS Bq)∧w'=w1.alloc (.cells #[] 114):=by
  cases d
  ·exact GR 42 _ w4 (fun w1=>Fr (fun k=>w.heap.size+1≤k) w4 w1∧∃f a tvL tvP lv LS PS Bq,MW w1 (w.heap.size+1) w2.heap.size n o f BG a tvL tvP lv LS PS Bq) (enters_of Tryz.func42 (by kernel_rfl) rfl) (HALL.out.mono fun r u ⟨k1,k2,k3⟩=>by
    rcases k2 with⟨q,_⟩|⟨_,q⟩
    ·cases q
    ·exact⟨q,k1,k3⟩)
  ·exact DK 42 _ w4 (fun w1=>Fr (fun k=>w.heap.size+1≤k) w4 w1∧∃f a tvL tvP lv LS PS Bq,MW w1 (w.heap.size+1) w2.heap.size n o f BG a tvL tvP lv LS PS Bq) (enters_of Tryz.func42 (by kernel_rfl) rfl) (HALL.out.mono fun r u ⟨k1,k2,k3⟩=>by
    rcases k2 with⟨_,q⟩|⟨q,_⟩
    ·exact⟨q,k1,k3⟩
    ·cases q)
 have HKEY:=aA key;clear key HALL;go_wp2_with fail;refine HKEY.out.mono ?_;rintro r w6 ⟨rfl,w5,⟨hF5,f5,a5,tvL,tvP,lv,LS,PS,Bq,hM5⟩,rfl⟩;have b6:=aC w5 (.cells #[] 114)
 have hM6:=hM5.below b6;have hF6:Fr (fun k=>w.heap.size+1≤k) w2 (w5.alloc (.cells #[] 114)):=(HF4.out.trans hF5).next b6
 generalize w5.alloc (.cells #[] 114)=w6 at hM6 hF6⊢;obtain⟨la,lc,lad,lcp,rfl,_⟩:=hM6.bk.readL (by have:=hM6.m12;omega);obtain⟨pa,pc,pA,pC,pAD,pCP,rfl,_⟩:=hM6.bk.readP (by have:=hM6.m12;omega);have HM6:=aA hM6
 have HF6:=aA hF6;obtain⟨⟨x0,x1,x2⟩,xz⟩:=HX2.out.fr hF6 (by omega);obtain⟨c0,c1,c2,c3,c7,cz⟩:=hM6.bx;have hne1:w2.heap.size≠w.heap.size:=by omega
 have hne2:w.heap.size≠w2.heap.size:=by omega
 clear hM5 hM6 hF5 hF6 b6 HKEY c3 c7;go_wp2;refine cW (v:=.agg #[.slice la BG.m lc,.slice pa BG.m pc,.bool d]) (by simp[results,Tryz.results10,go_sem, *]) rfl ?_;have hFw:Below w.heap.size w w6:=Fr.below HB2.out HF6.out (fun k q=>by omega) (Nat.le_refl _)
 have hY:Fr (QY (w.heap.size+1) w2.heap.size lv Bq a5 (aT BG.m)) w6 ((((w6.setCell ⟨w2.heap.size,2,none⟩ (.bool d)).setCell ⟨w.heap.size,0,none⟩ (.slice la BG.m lc)).setCell ⟨w.heap.size,1,none⟩ (.slice pa BG.m pc)).setCell ⟨w.heap.size,2,none⟩ (.bool d)):=((((Fr.refl _ w6).set (fun _=>.inr (.inl rfl))).set (fun _=>.inl (by omega))).set (fun _=>.inl (by omega))).set (fun _=>.inl (by omega));exact⟨_,_,LS,PS,rfl,gC (hFw.setCell (show w.heap.size≤w2.heap.size by omega) _) (Nat.le_refl _) _ _ _,(((HM6.out.bk.fr hY (fun b q=>q)).yet (fun b _ q=>.inl (Nat.lt_succ_of_lt q)))).low (Nat.le_succ _)⟩
theorem SX (w:World) (o:Int) (a:Option Addr) (n cap:Nat) (ad:Nat→Option Addr) (cp:Nat→Nat) (L:Nat→List T) (h:eJ w a n cap ad (lN L) cp (fN L)) (fuel:Int):Calls Tryz.prog 10 #[.int .i64 o,.slice a n cap,.int .i64 fuel] w (sC w n (dK o n L fuel)):=by
 by_cases hc:(1≤o∧o≤3)∧aU n (lN L) (fN L)=true∧(1≤n∧n≤3)∧(0≤fuel∧fuel≤60)
 ·obtain⟨fu,rfl⟩:∃fu:Nat,fuel=(fu:Int):=⟨fuel.toNat,by omega⟩
  exact FI w o a n cap ad cp L h fu hc.1 hc.2.1 hc.2.2.1 (by omega) (by unfold dK;rw[if_pos hc,Int.toNat_natCast])
 ·rw[vT hc];exact CU w o a n cap ad cp L h fuel hc
theorem sR {w:World} {a a':Option Addr} {n cap cap':Nat} {ad ad':Nat→Option Addr} {cp cp':Nat→Nat} {L:Nat→List T} (h:eJ w a n cap ad (lN L) cp (fN L)) (h':eJ w a' n cap' ad' (lN L) cp' (fN L)):Calls Tryz.prog 14 #[.slice a n cap,.slice a' n cap'] w (LE w (.bool true)):=by
 have:=XU w a a' n cap n cap' ad ad' cp cp' L L h h'
 rwa[TL]at this
theorem wL (w:World) (n m g:Nat) (d:Bool) (L:Nat→List T) (Q:Nat→Nat→List T) (a a':Option Addr) (c c':Nat) (ad ad':Nat→Option Addr) (cp cp':Nat→Nat) (h:eJ w a n c ad (lN L) cp (fN L)) (h':eJ w a' n c' ad' (lN L) cp' (fN L)) (pa pa':Option Addr) (pc pc':Nat) (A A':Nat→Option Addr) (C C':Nat→Nat) (AD AD':Nat→Nat→Option Addr) (CP CP':Nat→Nat→Nat) (k:R3 w pa m pc g A C AD CP Q) (k':R3 w pa' m pc' g A' C' AD' CP' Q):Calls Tryz.prog 11 #[.agg #[.slice a n c,.slice pa m pc,.bool d],.agg #[.slice a' n c',.slice pa' m pc',.bool d]] w (LE w (.bool true)):=by
 have hm:(m:Int)≤140737488351232:=by have:=k.2.1;omega
 have b1:=aC w (.cells #[.slice a n c,.slice pa m pc,.bool d] 28);have b2:=aB b1 (aC _ (.cells #[.slice a' n c',.slice pa' m pc',.bool d] 28))
 have o1:=(eI.box w 28 (.slice a n c) (.slice pa m pc) (.bool d)).below (aC _ (.cells #[.slice a' n c',.slice pa' m pc',.bool d] 28));have o2:=eI.box (w.alloc (.cells #[.slice a n c,.slice pa m pc,.bool d] 28)) 28 (.slice a' n c') (.slice pa' m pc') (.bool d)
 have hdd:(d !=d)=false:=by simp
 have hmm:((m:Int)!=(m:Int))=false:=by simp
 have HH:=aA (h.below b2);have HH':=aA (h'.below b2)
 have HK:=aA (k.below b2);have HK':=aA (k'.below b2)
 have HB:=aA b2;have HO1:=aA o1
 have HO2:=aA o2;clear h h' k k' b1 b2 o1 o2;unfold LE;go_enter Tryz.func11,Tryz.ntmps11;go_wp2_with fail;refine(sR HH.out HH'.out).mono ?_;rintro r w1 ⟨rfl,hb1⟩;have HO1a:=aA (HO1.out.below hb1)
 have HO2a:=aA (HO2.out.below hb1);have HKa:=aA (HK.out.below hb1)
 have HKa':=aA (HK'.out.below hb1);have HBa:=aA (aB HB.out hb1)
 clear hb1 HH HH' HK HK' HB HO1 HO2;obtain⟨B1,hB1⟩:∃B1,w.heap.size=B1:=⟨_,rfl⟩
 have e2:(w.alloc (.cells #[.slice a n c,.slice pa m pc,.bool d] 28)).heap.size=B1+1:=by rw[←hB1];simp
 rw[e2]at HO2a;obtain⟨⟨x0,x1,x2⟩,xz⟩:=HO1a.out;obtain⟨⟨y0,y1,y2⟩,yz⟩:=HO2a.out;rw[hB1]at x0 x1 x2 HO1a;have HE:=aA hB1
 clear xz yz;simp only[hB1];have hlt1:=HO1a.out.lt
 have hlt2:=HO2a.out.lt;go_wp2;go_loopw [5] (fun v wr=>∃i:Nat,i≤m∧v= .int .i64 (i:Int)∧Below w1.heap.size w1 wr) (fun v _=>m-(intOf v).toNat);case atStart=>exact⟨0,gY _,rfl,bQ _ _⟩
 case round=>
  obtain⟨i,hi,rfl,hBr⟩:=hrel;have r1:wr.cell? ⟨B1,1,none⟩=some (.slice pa m pc):=(hBr.cell (p:=⟨B1,1,none⟩) hlt1).trans x1
  have r2:wr.cell? ⟨B1+1,1,none⟩=some (.slice pa' m pc'):=(hBr.cell (p:=⟨B1+1,1,none⟩) hlt2).trans y1;clear x0 x1 x2 y0 y1 y2;by_cases hlt:i<m
  ·rcases HKa.out.2.2.1 with h0|⟨b,off,rfl,hblt,hcl⟩
   ·omega
   rcases HKa'.out.2.2.1 with h0|⟨b',off',rfl,hblt',hcl'⟩
   ·omega
   have hil:(i:Int)<(m:Int):=by omega
   have hbr:b<wr.heap.size:=iZ hblt hBr.size;have hbr':b'<wr.heap.size:=iZ hblt' hBr.size
   have hb1r:B1<wr.heap.size:=iZ hlt1 hBr.size;have hb2r:B1+1<wr.heap.size:=iZ hlt2 hBr.size
   have ne:=cH.there wr;have g0:wr.cell? ⟨b,off+i,none⟩=some (.slice (A i) g (C i)):=(hBr.cell (p:=⟨b,off+i,none⟩) hblt).trans (hcl i hlt)
   have g1:wr.cell? ⟨b',off'+i,none⟩=some (.slice (A' i) g (C' i)):=(hBr.cell (p:=⟨b',off'+i,none⟩) hblt').trans (hcl' i hlt);have s0:∀u:cH wr,u.1.cell? ⟨b,off+i,none⟩=some (.slice (A i) g (C i)):=fun u=>(u.cell hbr).trans g0
   have s1:∀u:cH wr,u.1.cell? ⟨b',off'+i,none⟩=some (.slice (A' i) g (C' i)):=fun u=>(u.cell hbr').trans g1;have s2:∀u:cH wr,u.1.cell? ⟨B1,1,none⟩=some (.slice (some ⟨b,off,none⟩) m pc):=fun u=>(u.cell hb1r).trans r1
   have s3:∀u:cH wr,u.1.cell? ⟨B1+1,1,none⟩=some (.slice (some ⟨b',off',none⟩) m pc'):=fun u=>(u.cell hb2r).trans r2;have HKi:=aA ((HKa.out.2.2.2 i hlt).below hBr)
   have HKi':=aA ((HKa'.out.2.2.2 i hlt).below hBr);have HBr:=aA hBr
   have hcall:∀u:cH wr,Calls Tryz.prog 14 #[.slice (A i) g (C i),.slice (A' i) g (C' i)] u.1 fun r w'=>r= .returned (.bool true)∧Below u.1.heap.size u.1 w':=fun u=>sR (HKi.out.below u.2) (HKi'.out.below u.2);clear hcl hcl' hBr g0 g1;go_wp2_with fail;refine aH (by kernel_rfl) (by kernel_rfl) ?_;repeat(go_big_quiet_step (first|(go_at_call 14;exact aJ (hcall _))|fail))
   refine wpQuiet_nil ?_;rintro _ ⟨v,rfl⟩;have HV:=aA v.2
   clear s0 s1 s2 s3 ne hcall;go_wp2;go_roundw;case rel=>exact⟨i+1,by omega,by go_num,aB HBr.out HV.out⟩
   case measure=>simp[intOf];omega
  ·have hnl:¬(i:Int)<(m:Int):=by omega
   have HBr:=aA hBr;clear hBr;go_wp2;go_ret;exact⟨rfl,hB1▸aB HBa.out HBr.out⟩
end Go.Proofs.YtmlaedpamobmhaaGreat
