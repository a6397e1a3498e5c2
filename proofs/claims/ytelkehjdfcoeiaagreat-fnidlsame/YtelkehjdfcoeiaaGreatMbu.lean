/-
  A basis is made: the program's GrbMake.
-/
import Derived.Test.YtelkehjdfcoeiaaGreatMbt
set_option maxHeartbeats 8000000
set_option maxRecDepth 100000
namespace Go.Proofs.YtelkehjdfcoeiaaGreat
open Go.RowKit Go.Deep Go.Joins
set_option linter.unusedVariables false
theorem IB (g:Nat) (bd:Array Value) (w:World) (Q:World→Prop) (eg:∀args w,(callFunc g args).run Tryz.prog w= .ok (.enter g args) w) (h:Calls Tryz.prog g bd w fun r w'=>r= .returned (.tuple #[])∧Q w'):Calls Tryz.prog 37 #[.func (.func g) bd #[]] w fun r w'=>r= .returned (.bool true)∧∃w1,Q w1∧w'=w1.alloc (.cells #[] 114):=by
 have HC:=aA h;clear h
 go_enter_defers Tryz.func37,Tryz.ntmps37
 go_wp2_with fail;refine HC.out.mono ?_;rintro r w1 ⟨rfl,hq⟩;have HQ:=aA hq
 clear hq HC;go_wp2;refine leaves_cons (f:=78) (args:=#[]) (by simp) (by simp[go_sem]) ?_;refine(AN _).mono ?_;rintro e u' w'' ⟨rfl,rfl,rfl⟩;simp[Leaves,settle,results,Tryz.results37,go_sem];exact⟨w1,HQ.out,rfl⟩
theorem MD (g:Nat) (bd:Array Value) (w:World) (Q:World→Prop) (eg:∀args w,(callFunc g args).run Tryz.prog w= .ok (.enter g args) w) (h:Calls Tryz.prog g bd w fun r w'=>r= .panicked [{v:=gB,recovered:=false}]∧Q w'):Calls Tryz.prog 37 #[.func (.func g) bd #[]] w fun r w'=>r= .returned (.bool false)∧∃w1,Q w1∧w'=w1.alloc (.cells #[] 114):=by
 have HC:=aA h;clear h
 go_enter_defers Tryz.func37,Tryz.ntmps37
 go_wp2_with fail;refine HC.out.mono ?_;rintro r w1 ⟨rfl,hq⟩;have HQ:=aA hq
 clear hq HC;go_wp2;refine leaves_cons (f:=78) (args:=#[]) (by simp) (by simp[go_sem]) ?_;refine(vC _).mono ?_;rintro e u' w'' ⟨rfl,rfl,rfl⟩;simp[Leaves,settle,results,Tryz.results37,go_sem];exact⟨w1,HQ.out,rfl⟩
theorem SB {w:World} {lo lo':Nat} {e:TypeId} {size:Nat} {v:Value} {n:Nat} {xs:List Value} (h:w.ownsRow lo e size v n xs) (hl:lo'≤lo):w.ownsRow lo' e size v n xs:=⟨h.1,h.2.imp id (fun⟨g,cap,cur,e1,e2,r⟩=>⟨g,cap,cur,e1,jQ hl e2,r⟩)⟩
theorem lV.low {Y:Nat→Prop} {w:World} {lo lo':Nat} {tvL tvP:Value} {g nL:Nat} {L:Nat→List T} {nP:Nat} {Q:Nat→Nat→List T} {LS PS:List Value} (h:lV Y w lo tvL tvP g nL L nP Q LS PS) (hl:lo'≤lo):lV Y w lo' tvL tvP g nL L nP Q LS PS:=⟨SB h.rL hl,SB h.rP hl,h.eL,h.eP,h.nL,h.nP⟩
theorem Ka (w:World) (lo n:Nat) (o:Int) (f:Nat) (L:Nat→List T) (hlo:lo≤w.heap.size):MW (w.alloc (.cells #[.slice none 0 0,.slice none 0 0,.bool false,.int .i64 o,.slice none 0 0,.pointer none,.pointer none,.int .i64 (f:Int)] 68)) lo w.heap.size n o f ⟨0,L,fun k=>iW k⟩ 0 (.slice none 0 0) (.slice none 0 0) (.slice none 0 0) [] [] (fun _=>0):=by
 have c:∀i,(w.alloc (.cells #[.slice none 0 0,.slice none 0 0,.bool false,.int .i64 o,.slice none 0 0,.pointer none,.pointer none,.int .i64 (f:Int)] 68)).cell? ⟨w.heap.size,i,none⟩=#[Value.slice none 0 0,.slice none 0 0,.bool false,.int .i64 o,.slice none 0 0,.pointer none,.pointer none,.int .i64 (f:Int)][i]? :=fun i=>World.cell?_alloc_at _ _ _ _ rfl
 have z:∀j,(w.alloc (.cells #[.slice none 0 0,.slice none 0 0,.bool false,.int .i64 o,.slice none 0 0,.pointer none,.pointer none,.int .i64 (f:Int)] 68)).frozen? ⟨w.heap.size,j,none⟩=false:=fun j=>by rw[World.frozen?_alloc_at _ _ _ _ rfl]
 exact⟨⟨c 0,c 1,c 2,c 3,c 7,z⟩,⟨c 4,c 5,⟨_,c 6,fun q=>absurd q (Nat.lt_irrefl _)⟩,⟨z 4,z 5,z 6⟩,⟨rfl,.inl ⟨rfl,rfl⟩⟩,fun g hg=>by simp[Value.ownBlock]at hg,fun j j1 j2=>absurd j2 (tD _),fun j j1 j2=>absurd j2 (tD _),fun i j _ _ j2=>absurd j2 (tD _),hlo⟩,lV.none _ _ _ _ _ _,Nat.le_refl _,Nat.zero_le _,hlo⟩
theorem GB (w:World) (o:Int) (a:Option Addr) (n cap:Nat) (ad:Nat→Option Addr) (cp:Nat→Nat) (L:Nat→List T) (h:eQ w a n cap ad (lN L) cp (fN L)) (fuel:Int) (hbad:¬((1≤o∧o≤3)∧bB n (lN L) (fN L)=true∧(1≤n∧n≤3)∧(0≤fuel∧fuel≤60))):Calls Tryz.prog 10 #[.int .i64 o,.slice a n cap,.int .i64 fuel] w (uQ w n (⟨0,fun _=>[],fun _ _=>[]⟩,false)):=by
 have q1:(n:Int)≤140737488351232:=by have:=h.2.1;omega
 have HH:=aA (h.below (aC w (.cells #[.slice none 0 0,.slice none 0 0,.bool false] 27)));have HX0:=aA (gT.box w 27 (.slice none 0 0) (.slice none 0 0) (.bool false))
 clear h;by_cases ho:1≤o∧o≤3;rotate_left
 ·have ho':o<1∨3<o:=by omega
  clear hbad;go_enter Tryz.func10,Tryz.ntmps10;go_wp2_with fail;refine(oS _ _ _ _ _ ho').mono ?_;rintro r w2 ⟨rfl,hb2⟩;have HB2:=aA (aB (aC w (.cells #[.slice none 0 0,.slice none 0 0,.bool false] 27)) hb2)
  obtain⟨⟨x0,x1,x2⟩,xz⟩:=HX0.out.below hb2;clear hb2;go_wp2;refine cD (v:=.agg #[.slice none 0 0,.slice none 0 0,.bool false]) (by simp[results,Tryz.results10,go_sem, *]) rfl ?_;exact⟨_,_,[],[],rfl,iD HB2.out (Nat.le_refl _) _ _ _,lV.none _ _ _ _ _ _⟩
 obtain⟨o1,o2⟩:=ho;cases hl:bB n (lN L) (fN L)
 ·clear hbad;go_enter Tryz.func10,Tryz.ntmps10;go_wp2_with fail;refine(qI _ _ _ _ _ _ _ _ _ HH.out o1 o2 hl).mono ?_;rintro r w2 ⟨rfl,hb2⟩;have HB2:=aA (aB (aC w (.cells #[.slice none 0 0,.slice none 0 0,.bool false] 27)) hb2)
  obtain⟨⟨x0,x1,x2⟩,xz⟩:=HX0.out.below hb2;clear hb2;go_wp2;refine cD (v:=.agg #[.slice none 0 0,.slice none 0 0,.bool false]) (by simp[results,Tryz.results10,go_sem, *]) rfl ?_;exact⟨_,_,[],[],rfl,iD HB2.out (Nat.le_refl _) _ _ _,lV.none _ _ _ _ _ _⟩
 have hrest:n=0∨(n≠0∧3<n)∨((n≠0∧n≤3)∧fuel<0)∨((n≠0∧n≤3)∧0≤fuel∧60<fuel):=by
  by_cases h1:n=0
  ·exact .inl h1
  ·by_cases h2:3<n
   ·exact .inr (.inl ⟨h1,h2⟩)
   ·by_cases h3:fuel<0
    ·exact .inr (.inr (.inl ⟨⟨h1,by omega⟩,h3⟩))
    ·by_cases h4:60<fuel
     ·exact .inr (.inr (.inr ⟨⟨h1,by omega⟩,by omega,h4⟩))
     ·exact absurd ⟨⟨o1,o2⟩,hl,⟨by omega,by omega⟩,by omega,by omega⟩ hbad
 have n12:=(aQ hl).1;clear hbad;go_enter Tryz.func10,Tryz.ntmps10;go_wp2_with fail;refine(pN _ _ _ _ _ _ _ _ _ HH.out o1 o2 hl).mono ?_;rintro r w2 ⟨v,rfl,hb2,_⟩;have HB2:=aA (aB (aC w (.cells #[.slice none 0 0,.slice none 0 0,.bool false] 27)) hb2)
 obtain⟨⟨x0,x1,x2⟩,xz⟩:=HX0.out.below hb2;clear hb2;rcases hrest with h1|⟨h1,h2⟩|⟨⟨h1,h2⟩,h3⟩|⟨⟨h1,h2⟩,h3,h4⟩
 ·have e1:((n:Int)==0)=true:=by rw[h1];rfl
  clear h1;go_wp2;refine cD (v:=.agg #[.slice none 0 0,.slice none 0 0,.bool false]) (by simp[results,Tryz.results10,go_sem, *]) rfl ?_;exact⟨_,_,[],[],rfl,iD HB2.out (Nat.le_refl _) _ _ _,lV.none _ _ _ _ _ _⟩
 ·have e1:((n:Int)==0)=false:=beq_eq_false_iff_ne.2 (by omega);have e2:(3:Int)<(n:Int):=by omega
  clear h1 h2;go_wp2;refine cD (v:=.agg #[.slice none 0 0,.slice none 0 0,.bool false]) (by simp[results,Tryz.results10,go_sem, *]) rfl ?_;exact⟨_,_,[],[],rfl,iD HB2.out (Nat.le_refl _) _ _ _,lV.none _ _ _ _ _ _⟩
 ·have e1:((n:Int)==0)=false:=beq_eq_false_iff_ne.2 (by omega);have e2:¬(3:Int)<(n:Int):=by omega
  clear h1 h2;go_wp2;refine cD (v:=.agg #[.slice none 0 0,.slice none 0 0,.bool false]) (by simp[results,Tryz.results10,go_sem, *]) rfl ?_;exact⟨_,_,[],[],rfl,iD HB2.out (Nat.le_refl _) _ _ _,lV.none _ _ _ _ _ _⟩
 ·have e1:((n:Int)==0)=false:=beq_eq_false_iff_ne.2 (by omega);have e2:¬(3:Int)<(n:Int):=by omega
  have e3:¬fuel<0:=by omega
  clear h1 h2;go_wp2;refine cD (v:=.agg #[.slice none 0 0,.slice none 0 0,.bool false]) (by simp[results,Tryz.results10,go_sem, *]) rfl ?_;exact⟨_,_,[],[],rfl,iD HB2.out (Nat.le_refl _) _ _ _,lV.none _ _ _ _ _ _⟩
theorem KI (w:World) (o:Int) (a:Option Addr) (n cap:Nat) (ad:Nat→Option Addr) (cp:Nat→Nat) (L:Nat→List T) (h:eQ w a n cap ad (lN L) cp (fN L)) (fu:Nat) (ho:1≤o∧o≤3) (hl:bB n (lN L) (fN L)=true) (hn:1≤n∧n≤3) (hf:fu≤60) {G:Bs×Bool} (hG:nS o n fu (KH n L) 0=G):Calls Tryz.prog 10 #[.int .i64 o,.slice a n cap,.int .i64 (fu:Int)] w (uQ w n G):=by
 have bx:=aC w (.cells #[.slice none 0 0,.slice none 0 0,.bool false] 27);have HH:=aA (h.below bx)
 have HX0:=aA (gT.box w 27 (.slice none 0 0) (.slice none 0 0) (.bool false));have HG:=aA hG
 have HL:=aA hl;have HBX:=aA bx
 have hlo0:∀b off,a=some ⟨b,off,none⟩→b<w.heap.size+1:=fun b off e=>by
  rcases h.2.2.1 with h0|⟨b',off',e',hlt,_⟩
  ·omega
  ·rw[e']at e;cases e;omega
 have hel0:∀i,i<n→∀b off,ad i=some ⟨b,off,none⟩→b<w.heap.size+1:=fun i hi b off e=>by
  rcases(h.2.2.2 i hi).2.2 with h0|⟨b',off',e',hlt,_⟩
  ·exact absurd h0 ((aQ hl).2 i hi).1
  ·rw[e']at e;cases e;omega
 have HLO:=aA hlo0;have HEL:=aA hel0
 obtain⟨o1,o2⟩:=ho;have e1:((n:Int)==0)=false:=beq_eq_false_iff_ne.2 (by omega)
 have e2:¬(3:Int)<(n:Int):=by omega
 have e3:¬(fu:Int)<0:=by omega
 have e4:¬(60:Int)<(fu:Int):=by omega
 have n12:=(aQ hl).1;clear h hG bx hlo0 hel0;go_enter Tryz.func10,Tryz.ntmps10;go_wp2_with fail;refine(pN _ _ _ _ _ _ _ _ _ HH.out o1 o2 hl).mono ?_;rintro r w2 ⟨v,rfl,hb2,_⟩;have hb02:=aB HBX.out hb2
 have HB2:=aA hb02;have HX2:=aA (HX0.out.below hb2)
 have HH2:=aA (HH.out.below hb2);have hs2:w.heap.size+1≤w2.heap.size:=HX2.out.lt
 have HM3:=aA (Ka w2 (w.heap.size+1) n o fu L hs2);have bm:=aC w2 (.cells #[.slice none 0 0,.slice none 0 0,.bool false,.int .i64 o,.slice none 0 0,.pointer none,.pointer none,.int .i64 (fu:Int)] 68)
 have HBM:=aA bm;have HAG:=aA (TS (w2.alloc (.cells #[.slice none 0 0,.slice none 0 0,.bool false,.int .i64 o,.slice none 0 0,.pointer none,.pointer none,.int .i64 (fu:Int)] 68)) w2.heap.size o fu ⟨o1,o2⟩ a n cap ad cp L (HH2.out.below bm) hl hn (w.heap.size+1) HLO.out HEL.out _ _ _ _ _ _ HM3.out (by simp;omega))
 clear hb2 hb02 bm HX0 HH;go_wp2_with fail;refine HAG.out.mono ?_;rintro r w4 ⟨rfl,tvL4,tvP4,lv4,LS4,PS4,Bq4,hM4,hF4⟩;have HF4:Hid (Fr (fun k=>w.heap.size+1≤k) w2 w4):=(aZ HBM.out).trans hF4
 have HM4:=aA hM4;have HALL:=aA (OV w4 (w.heap.size+1) w2.heap.size n o fu hf (KH n L) _ _ _ _ _ _ HM4.out (GA ⟨o1,o2⟩ hl) (by omega) HG.out)
 clear hM4 hF4 HAG HM3;obtain⟨BG,d,hGd⟩:∃BG d,G=(BG,d):=⟨_,_,rfl⟩
 subst hGd;have key:Calls Tryz.prog 37 #[.func (.func 38) #[.pointer (some ⟨w2.heap.size,0,none⟩)] #[]] w4 fun r w'=>r= .returned (.bool d)∧∃w1,(Fr (fun k=>w.heap.size+1≤k) w4 w1∧∃f a tvL tvP lv LS PS Bq,MW w1 (w.heap.size+1) w2.heap.size n o f BG a tvL tvP lv LS PS Bq)∧w'=w1.alloc (.cells #[] 114):=by
  cases d
  ·exact MD 38 _ w4 (fun w1=>Fr (fun k=>w.heap.size+1≤k) w4 w1∧∃f a tvL tvP lv LS PS Bq,MW w1 (w.heap.size+1) w2.heap.size n o f BG a tvL tvP lv LS PS Bq) (enters_of Tryz.func38 (by kernel_rfl) rfl) (HALL.out.mono fun r u ⟨k1,k2,k3⟩=>by
    rcases k2 with⟨q,_⟩|⟨_,q⟩
    ·cases q
    ·exact⟨q,k1,k3⟩)
  ·exact IB 38 _ w4 (fun w1=>Fr (fun k=>w.heap.size+1≤k) w4 w1∧∃f a tvL tvP lv LS PS Bq,MW w1 (w.heap.size+1) w2.heap.size n o f BG a tvL tvP lv LS PS Bq) (enters_of Tryz.func38 (by kernel_rfl) rfl) (HALL.out.mono fun r u ⟨k1,k2,k3⟩=>by
    rcases k2 with⟨_,q⟩|⟨q,_⟩
    ·exact⟨q,k1,k3⟩
    ·cases q)
 have HKEY:=aA key;clear key HALL;go_wp2_with fail;refine HKEY.out.mono ?_;rintro r w6 ⟨rfl,w5,⟨hF5,f5,a5,tvL,tvP,lv,LS,PS,Bq,hM5⟩,rfl⟩;have b6:=aC w5 (.cells #[] 114)
 have hM6:=hM5.below b6;have hF6:Fr (fun k=>w.heap.size+1≤k) w2 (w5.alloc (.cells #[] 114)):=(HF4.out.trans hF5).next b6
 generalize w5.alloc (.cells #[] 114)=w6 at hM6 hF6⊢;obtain⟨la,lc,lad,lcp,rfl,_⟩:=hM6.bk.readL (by have:=hM6.m12;omega);obtain⟨pa,pc,pA,pC,pAD,pCP,rfl,_⟩:=hM6.bk.readP (by have:=hM6.m12;omega);have HM6:=aA hM6
 have HF6:=aA hF6;obtain⟨⟨x0,x1,x2⟩,xz⟩:=HX2.out.fr hF6 (by omega);obtain⟨c0,c1,c2,c3,c7,cz⟩:=hM6.bx;have hne1:w2.heap.size≠w.heap.size:=by omega
 have hne2:w.heap.size≠w2.heap.size:=by omega
 clear hM5 hM6 hF5 hF6 b6 HKEY c3 c7;go_wp2;refine cD (v:=.agg #[.slice la BG.m lc,.slice pa BG.m pc,.bool d]) (by simp[results,Tryz.results10,go_sem, *]) rfl ?_;have hFw:Below w.heap.size w w6:=Fr.below HB2.out HF6.out (fun k q=>by omega) (Nat.le_refl _)
 have hY:Fr (QY (w.heap.size+1) w2.heap.size lv Bq a5 (cG BG.m)) w6 ((((w6.setCell ⟨w2.heap.size,2,none⟩ (.bool d)).setCell ⟨w.heap.size,0,none⟩ (.slice la BG.m lc)).setCell ⟨w.heap.size,1,none⟩ (.slice pa BG.m pc)).setCell ⟨w.heap.size,2,none⟩ (.bool d)):=((((Fr.refl _ w6).set (fun _=>.inr (.inl rfl))).set (fun _=>.inl (by omega))).set (fun _=>.inl (by omega))).set (fun _=>.inl (by omega));exact⟨_,_,LS,PS,rfl,iD (hFw.setCell (show w.heap.size≤w2.heap.size by omega) _) (Nat.le_refl _) _ _ _,(((HM6.out.bk.fr hY (fun b q=>q)).yet (fun b _ q=>.inl (Nat.lt_succ_of_lt q)))).low (Nat.le_succ _)⟩
theorem YH (w:World) (o:Int) (a:Option Addr) (n cap:Nat) (ad:Nat→Option Addr) (cp:Nat→Nat) (L:Nat→List T) (h:eQ w a n cap ad (lN L) cp (fN L)) (fuel:Int):Calls Tryz.prog 10 #[.int .i64 o,.slice a n cap,.int .i64 fuel] w (uQ w n (eS o n L fuel)):=by
 by_cases hc:(1≤o∧o≤3)∧bB n (lN L) (fN L)=true∧(1≤n∧n≤3)∧(0≤fuel∧fuel≤60)
 ·obtain⟨fu,rfl⟩:∃fu:Nat,fuel=(fu:Int):=⟨fuel.toNat,by omega⟩
  exact KI w o a n cap ad cp L h fu hc.1 hc.2.1 hc.2.2.1 (by omega) (by unfold eS;rw[if_pos hc,Int.toNat_natCast])
 ·rw[yM hc];exact GB w o a n cap ad cp L h fuel hc
def Ny (w:World) (n m:Nat) (BL:Nat→List T) (BP:Nat→Nat→List T) (d:Bool) (e:Ending) (w':World):Prop:=∃(a:Option Addr) (c:Nat) (ad:Nat→Option Addr) (cp:Nat→Nat) (pa:Option Addr) (pc:Nat) (A:Nat→Option Addr) (C:Nat→Nat) (AD:Nat→Nat→Option Addr) (CP:Nat→Nat→Nat),e= .returned (.agg #[.slice a m c,.slice pa m pc,.bool d])∧Below w.heap.size w w'∧eQ w' a m c ad (lN BL) cp (fN BL)∧R3 w' pa m pc n A C AD CP BP
theorem EU {w:World} {n m:Nat} {BL:Nat→List T} {BP:Nat→Nat→List T} {d:Bool} (hm:m≤12) {e:Ending} {w':World} (h:uQ w n (⟨m,BL,BP⟩,d) e w'):Ny w n m BL BP d e w':=by
 obtain⟨tvL,tvP,LS,PS,he,hb,hk⟩:=h;have hk':lV (fun b=>b<w.heap.size) w' w.heap.size tvL tvP n m BL m BP LS PS:=hk
 obtain⟨a,c,ad,cp,rfl,hr⟩:=hk'.readL (by omega);obtain⟨pa,pc,A,C,AD,CP,rfl,hp⟩:=hk'.readP (by omega);exact⟨a,c,ad,cp,pa,pc,A,C,AD,CP,he,hb,hr,hp⟩
theorem Me {o:Int} {n:Nat} {L:Nat→List T} {fuel:Int} {m:Nat} {BL:Nat→List T} {BP:Nat→Nat→List T} {d:Bool} (h:eS o n L fuel=(⟨m,BL,BP⟩,d)):m≤12:=by have:=UM (o:=o) (n:=n) (L:=L) (fuel:=fuel);rw[h]at this;exact this
theorem Ow {w:World} {o:Int} {a:Option Addr} {n cap:Nat} {ad:Nat→Option Addr} {cp:Nat→Nat} {L:Nat→List T} (h:eQ w a n cap ad (lN L) cp (fN L)) {fuel:Int} {m:Nat} {BL:Nat→List T} {BP:Nat→Nat→List T} {d:Bool} (hX:eS o n L fuel=(⟨m,BL,BP⟩,d)):Calls Tryz.prog 10 #[.int .i64 o,.slice a n cap,.int .i64 fuel] w (Ny w n m BL BP d):=
 (YH w o a n cap ad cp L h fuel).mono fun e w' k=>EU (Me hX) (by rw[hX]at k;exact k)
theorem Ox {w:World} {o:Int} {a:Option Addr} {n cap:Nat} {ad:Nat→Option Addr} {cp:Nat→Nat} {L:Nat→List T} (h:eQ w a n cap ad (lN L) cp (fN L)) {fuel:Int} {m:Nat} {BL:Nat→List T} {BP:Nat→Nat→List T} {d:Bool} (hX:eS o n L fuel=(⟨m,BL,BP⟩,d)):Calls Tryz.prog 8 #[.int .i64 o,.slice a n cap,.int .i64 fuel] w (Ny w n m BL BP d):=
 (YI w o a n cap ad cp L h fuel).mono fun e w' k=>EU (Me hX) (by rw[hX]at k;exact k)
abbrev Lc (b:Nat) (v0 v1 v2:Value) (u:World):Prop:=u.cell? ⟨b,0,none⟩=some v0∧u.cell? ⟨b,1,none⟩=some v1∧u.cell? ⟨b,2,none⟩=some v2
theorem Lc.below {b:Nat} {v0 v1 v2:Value} {u u':World} (h:Lc b v0 v1 v2 u) (hb:Below u.heap.size u u'):Lc b v0 v1 v2 u':=
 ⟨(hb.cell (p:=⟨b,0,none⟩) (dD u _ h.1)).trans h.1,(hb.cell (p:=⟨b,1,none⟩) (dD u _ h.2.1)).trans h.2.1,(hb.cell (p:=⟨b,2,none⟩) (dD u _ h.2.2)).trans h.2.2⟩
def wU:Option (List (List T))→List (List T)
 |some l=>l
 |none=>[]
def qW (w:World) (R:Option (List (List T))) (r:Ending) (w':World):Prop:=∃qa qc ad cp Rb B,r= .returned (.tuple #[.slice qa (wU R).length qc,.bool R.isSome])∧Below w.heap.size w w'∧jY w.heap.size w' qa (wU R).length qc ad (lN (bY (wU R))) cp (fN (bY (wU R))) Rb B
def qX (w:World) (R:Option (List (List T))) (r:Ending) (w':World):Prop:=∃qa qc ad cp,r= .returned (.tuple #[.slice qa (wU R).length qc,.bool R.isSome])∧Below w.heap.size w w'∧eQ w' qa (wU R).length qc ad (lN (bY (wU R))) cp (fN (bY (wU R)))
theorem zV.all {w:World} {R:Option (List (List T))} {r:Ending} {w':World} (h:zV w R r w'):qW w R r w':=by
 obtain⟨hb,⟨l,qa,qc,ad,cp,Rb,B,rfl,rfl,hO⟩|⟨rfl,rfl⟩⟩:=h
 ·exact⟨qa,qc,ad,cp,Rb,B,rfl,hb,hO⟩
 ·exact⟨none,0,fun _=>none,fun _=>0,0,fun _=>0,rfl,hb,⟨⟨Nat.le_refl _,Nat.zero_le _,.inl rfl,fun i hi=>absurd hi (tD _)⟩,.inl rfl,fun i hi=>absurd hi (tD _),fun i hi=>absurd hi (tD _),fun i j _ hj=>absurd hj (tD _)⟩⟩
theorem zW.all {w:World} {R:Option (List (List T))} {r:Ending} {w':World} (h:zW w R r w'):qX w R r w':=by
 obtain⟨hb,⟨l,qa,qc,ad,cp,rfl,rfl,hO⟩|⟨rfl,qa,qc,rfl⟩⟩:=h
 ·exact⟨qa,qc,ad,cp,rfl,hb,hO⟩
 ·exact⟨qa,qc,fun _=>none,fun _=>0,rfl,hb,⟨Nat.zero_le _,Nat.zero_le _,.inl rfl,fun i hi=>absurd hi (tD _)⟩⟩
theorem qW.from {w w1:World} {R:Option (List (List T))} {r:Ending} {w':World} (h:qW w1 R r w') (hb:Below w.heap.size w w1):qW w R r w':=by obtain⟨qa,qc,ad,cp,Rb,B,e,hb1,hO⟩:=h;exact⟨qa,qc,ad,cp,Rb,B,e,aB hb hb1,hO.low hb.size⟩
theorem qX.from {w w1:World} {R:Option (List (List T))} {r:Ending} {w':World} (h:qX w1 R r w') (hb:Below w.heap.size w w1):qX w R r w':=by obtain⟨qa,qc,ad,cp,e,hb1,hO⟩:=h;exact⟨qa,qc,ad,cp,e,aB hb hb1,hO⟩
def bQ (o:Int) (n:Nat) (L:Nat→List T):Option (List (List T)):=if(eS o n L 60).2=true then aT o (eS o n L 60).1.m (eS o n L 60).1.L else none
theorem tR {o:Int} {n:Nat} {L:Nat→List T} {m:Nat} {BL:Nat→List T} {BP:Nat→Nat→List T} {d:Bool} (h:eS o n L 60=(⟨m,BL,BP⟩,d)):bQ o n L=if d=true then aT o m BL else none:=by unfold bQ;rw[h]
theorem OP (w:World) (o:Int) (a:Option Addr) (n cap:Nat) (ad:Nat→Option Addr) (cp:Nat→Nat) (L:Nat→List T) (h:eQ w a n cap ad (lN L) cp (fN L)):Calls Tryz.prog 17 #[.int .i64 o,.slice a n cap] w (qW w (bQ o n L)):=by
 obtain⟨⟨⟨m,BL,BP⟩,d⟩,hX⟩:∃X,eS o n L 60=X:=⟨_,rfl⟩
 rw[tR hX];obtain⟨R0,hR0⟩:∃R0,(if d=true then aT o m BL else none)=R0:=⟨_,rfl⟩
 rw[hR0];have HR0:=aA hR0
 clear hR0;have HC:=aA (Ow h hX)
 clear h hX;go_enter Tryz.func17,Tryz.ntmps17;go_wp2_with fail;refine HC.out.mono ?_;rintro r w1 ⟨qa,qc,qad,qcp,pa,pc,A,C,AD,CP,rfl,hb,hr,_⟩;have bx:=aC w1 (.cells #[.slice qa m qc,.slice pa m pc,.bool d] 27)
 have HB:=aA (aB hb bx);have HR:=aA (hr.below bx)
 obtain⟨k0,k1,k2⟩:Lc w1.heap.size (.slice qa m qc) (.slice pa m pc) (.bool d) (w1.alloc (.cells #[.slice qa m qc,.slice pa m pc,.bool d] 27)):=⟨by rw[World.cell?_alloc_at _ _ _ _ rfl];rfl,by rw[World.cell?_alloc_at _ _ _ _ rfl];rfl,by rw[World.cell?_alloc_at _ _ _ _ rfl];rfl⟩
 clear hb hr bx;cases d
 ·obtain rfl:none=R0:=HR0.out;go_wp2;refine cD (results_tmp2 rfl _ _ _) rfl ?_;exact zV.all ⟨HB.out,.inr ⟨rfl,rfl⟩⟩
 ·obtain rfl:aT o m BL=R0:=HR0.out;go_wp2_with fail;refine(UK _ o qa m qc qad qcp BL HR.out).mono ?_;rintro r w2 hh;obtain⟨ya,yc,yad,ycp,Rb,B,rfl,hb2,hO⟩:=qW.from (zV.all hh) HB.out;have HH:Hid (qW w (aT o m BL) (.returned (.tuple #[.slice ya (wU (aT o m BL)).length yc,.bool (aT o m BL).isSome])) w2):=⟨ya,yc,yad,ycp,Rb,B,rfl,hb2,hO⟩
  clear hh hb2 hO k0 k1 k2;go_wp2;refine cD (results_tmp2 rfl _ _ _) rfl ?_;exact HH.out
theorem OQ (w:World) (o:Int) (a:Option Addr) (n cap:Nat) (ad:Nat→Option Addr) (cp:Nat→Nat) (L:Nat→List T) (h:eQ w a n cap ad (lN L) cp (fN L)):Calls Tryz.prog 18 #[.int .i64 o,.slice a n cap] w (qX w (bQ o n L)):=by
 obtain⟨⟨⟨m,BL,BP⟩,d⟩,hX⟩:∃X,eS o n L 60=X:=⟨_,rfl⟩
 rw[tR hX];obtain⟨R0,hR0⟩:∃R0,(if d=true then aT o m BL else none)=R0:=⟨_,rfl⟩
 rw[hR0];have HR0:=aA hR0
 clear hR0;have HC:=aA (Ox h hX)
 clear h hX;go_enter Tryz.func18,Tryz.ntmps18;go_wp2_with fail;refine HC.out.mono ?_;rintro r w1 ⟨qa,qc,qad,qcp,pa,pc,A,C,AD,CP,rfl,hb,hr,_⟩;have bx:=aC w1 (.cells #[.slice qa m qc,.slice pa m pc,.bool d] 27)
 have HB:=aA (aB hb bx);have HR:=aA (hr.below bx)
 obtain⟨k0,k1,k2⟩:Lc w1.heap.size (.slice qa m qc) (.slice pa m pc) (.bool d) (w1.alloc (.cells #[.slice qa m qc,.slice pa m pc,.bool d] 27)):=⟨by rw[World.cell?_alloc_at _ _ _ _ rfl];rfl,by rw[World.cell?_alloc_at _ _ _ _ rfl];rfl,by rw[World.cell?_alloc_at _ _ _ _ rfl];rfl⟩
 clear hb hr bx;cases d
 ·obtain rfl:none=R0:=HR0.out;have HB2:=aA (aB HB.out (aC _ (.cells #[] 41)))
  go_wp2;refine cD (results_tmp2 rfl _ _ _) rfl ?_;exact zW.all ⟨HB2.out,.inr ⟨rfl,_,_,rfl⟩⟩
 ·obtain rfl:aT o m BL=R0:=HR0.out;go_wp2_with fail;refine(UL _ o qa m qc qad qcp BL HR.out).mono ?_;rintro r w2 hh;obtain⟨ya,yc,yad,ycp,rfl,hb2,hO⟩:=qX.from (zW.all hh) HB.out;have HH:Hid (qX w (aT o m BL) (.returned (.tuple #[.slice ya (wU (aT o m BL)).length yc,.bool (aT o m BL).isSome])) w2):=⟨ya,yc,yad,ycp,rfl,hb2,hO⟩
  clear hh hb2 hO k0 k1 k2;go_wp2;refine cD (results_tmp2 rfl _ _ _) rfl ?_;exact HH.out
set_option linter.unusedSimpArgs false
def A1 (w u:World) (k:Nat):Prop:=∃p,p≤k∧kO u w.heap.size p∧Below w.heap.size w u
theorem A1.alloc {w u:World} {k:Nat} (h:A1 w u k) (o:Obj):A1 w (u.alloc o) k:=by obtain⟨p,h1,h2,h3⟩:=h;exact⟨p,h1,h2.alloc o,h3.alloc (Nat.le_of_lt h2.lt) o⟩
theorem A1.lt {w u:World} {k:Nat} (h:A1 w u k):w.heap.size<u.heap.size:=by obtain⟨p,h1,h2,h3⟩:=h;exact h2.lt
theorem A1.bel {w u:World} {k:Nat} (h:A1 w u k):Below w.heap.size w u:=by obtain⟨p,h1,h2,h3⟩:=h;exact h3
theorem zS {N:Nat→Prop} {w:World} {a:Option Addr} {g c:Nat} {ad:Nat→Option Addr} {cp:Nat→Nat} {P:Nat→List T} (h:qO N w a g c ad cp P):eQ w a g c ad (lN P) cp (fN P):=h.1
theorem Mj {w u:World} {k:Nat} (h:A1 w u k) (hk:k≤90):Calls Tryz.prog 46 #[.pointer (some ⟨w.heap.size,0,none⟩)] u fun e u'=>∃x,e= .returned (.int .i64 x)∧A1 w u' (k+1)∧aF w.heap.size u u':=by obtain⟨p,h1,h2,h3⟩:=h;exact(VM u _ p h2 (by omega)).mono fun e u' ⟨x,e1,r,s⟩=>⟨x,e1,⟨p+1,by omega,r,s.below h3 (Nat.le_refl _) (Nat.le_of_lt h2.lt)⟩,s⟩
theorem An {w u:World} {k:Nat} (n:Int) (h:A1 w u k) (hn:1≤n) (hn':n≤1000) (hk:k≤9000):Calls Tryz.prog 48 #[.pointer (some ⟨w.heap.size,0,none⟩),.int .i64 n] u fun e u'=>∃x,e= .returned (.int .i64 x)∧0≤x∧x<n∧A1 w u' (k+1)∧aF w.heap.size u u':=by obtain⟨p,h1,h2,h3⟩:=h;exact(bR u _ p n h2 hn (by omega) (by omega)).mono fun e u' ⟨x,e1,x0,x1,s⟩=>⟨x,e1,x0,x1,⟨p+1,by omega,s.rdr h2,s.beside.below h3 (Nat.le_refl _) (Nat.le_of_lt h2.lt)⟩,s.beside⟩
theorem Ik {w u:World} {k:Nat} (most:Int) (h:A1 w u k) (m1:1≤most) (m2:most≤4) (hk:k≤700):Calls Tryz.prog 47 #[.pointer (some ⟨w.heap.size,0,none⟩),.int .i64 most,.int .i64 24] u fun e u'=>∃a n c ad cp L,e= .returned (.slice a n c)∧n≤5∧qO (fun b=>b≠w.heap.size) u' a n c ad cp L∧A1 w u' (k+1000)∧aF w.heap.size u u':=by obtain⟨p,h1,h2,h3⟩:=h;refine(KU u _ p most 24 h2 m1 m2 (by omega) (by omega) (by omega)).mono ?_;rintro e u' ⟨v,LS,q,rfl,ho,hl,hE,hq,r,s⟩;obtain⟨a,c,ad,cp,L,rfl,hr⟩:=MR (B:=w.heap.size) ho hE (by omega) h2.lt h2.lt;exact⟨a,_,c,ad,cp,L,rfl,hl,hr,⟨q,by omega,r,s.below h3 (Nat.le_refl _) (Nat.le_of_lt h2.lt)⟩,s⟩
theorem kO.lo {w w':World} {B p lo:Nat} (h:kO w B p) (hb:Below lo w w') (hB:B<lo):kO w' B p:=by obtain⟨h1,h2,a,len,cap,h3,h4,h5⟩:=h;refine⟨(hb.cell (p:=⟨B,1,none⟩) hB).trans h1,(World.frozen?_of_block (w:=w) (a:=⟨B,1,none⟩) (hb.block B hB)).trans h2,a,len,cap,(hb.cell (p:=⟨B,0,none⟩) hB).trans h3,h4,h5.imp id ?_⟩;rintro⟨bb,off,z,e,hbb,hz,z0⟩;exact⟨bb,off,z,e,hbb,fun i hi=>(hb.cell (p:=⟨bb,off+i,none⟩) (Nat.lt_trans hbb hB)).trans (hz i hi),z0⟩
theorem A1.lo {w u u':World} {k lo:Nat} (h:A1 w u k) (hb:Below lo u u') (hl:w.heap.size<lo):A1 w u' k:=by obtain⟨p,h1,h2,h3⟩:=h;exact⟨p,h1,h2.lo hb hl,h3.trans (hb.mono (Nat.le_of_lt hl))⟩
theorem A1.below {w u u':World} {k:Nat} (h:A1 w u k) (hb:Below u.heap.size u u'):A1 w u' k:=h.lo hb h.lt
def TJ (w:World) (a:Option Addr) (n c:Nat) (ad:Nat→Option Addr) (cp:Nat→Nat) (L:Nat→List T):Prop:=∀W,Below w.heap.size w W→eQ W a n c ad (lN L) cp (fN L)
theorem eQ.keep {w:World} {a:Option Addr} {n c:Nat} {ad:Nat→Option Addr} {cp:Nat→Nat} {L:Nat→List T} (h:eQ w a n c ad (lN L) cp (fN L)):TJ w a n c ad cp L:=fun W hW=>h.below hW
theorem TJ.next {w w':World} {a:Option Addr} {n c:Nat} {ad:Nat→Option Addr} {cp:Nat→Nat} {L:Nat→List T} (h:TJ w a n c ad cp L) (hb:Below w.heap.size w w'):TJ w' a n c ad cp L:=fun W hW=>h W (aB hb hW)
theorem TJ.cell {w:World} {a:Option Addr} {n c:Nat} {ad:Nat→Option Addr} {cp:Nat→Nat} {L:Nat→List T} (h:TJ w a n c ad cp L) {i:Nat} (hi:i<n):∃b off,a=some ⟨b,off,none⟩∧∀W,Below w.heap.size w W→W.cell? ⟨b,off+i,none⟩=some (.slice (ad i) (L i).length (cp i)):=by obtain⟨b,off,e,hb,hc⟩:=(h w (bG _ _)).2.2.1.resolve_left (by omega);exact⟨b,off,e,fun W hW=>(hW.cell (p:=⟨b,off+i,none⟩) hb).trans (hc i hi)⟩
def XB (w:World) (l:List (List T)) (so:Bool) (r:Ending) (w':World):Prop:=∃qa qc qad qcp,r= .returned (.tuple #[.slice qa l.length qc,.bool so])∧Below w.heap.size w w'∧eQ w' qa l.length qc qad (lN (bY l)) qcp (fN (bY l))
theorem xG {w:World} {o:Int} {a:Option Addr} {n cap:Nat} {ad:Nat→Option Addr} {cp:Nat→Nat} {L:Nat→List T} (h:eQ w a n cap ad (lN L) cp (fN L)) {l:List (List T)} {so:Bool} (hl:wU (bQ o n L)=l) (hs:(bQ o n L).isSome=so):Calls Tryz.prog 17 #[.int .i64 o,.slice a n cap] w (XB w l so):=by refine(OP w o a n cap ad cp L h).mono ?_;rintro r w' ⟨qa,qc,qad,qcp,Rb,B,e,hb,hO⟩;rw[hl,hs]at e;rw[hl]at hO;exact⟨qa,qc,qad,qcp,e,hb,hO.rd⟩
end Go.Proofs.YtelkehjdfcoeiaaGreat
