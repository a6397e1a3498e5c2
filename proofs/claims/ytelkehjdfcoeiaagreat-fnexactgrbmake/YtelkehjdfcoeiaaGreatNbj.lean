/-
  How what is left of a pair is made of those that were given: the model's l9Made.
-/
import Derived.Test.YtelkehjdfcoeiaaGreatNbi
set_option maxHeartbeats 16000000
set_option maxRecDepth 100000
namespace Go.Proofs.YtelkehjdfcoeiaaGreat
open Go.RowKit Go.Deep Go.Joins
set_option linter.unusedVariables false
abbrev lG (u:World) (bx:Nat) (pv:Value) (ub:Nat) (t:T) (pb i:Nat) (v:Value):Prop:=
 u.cell? ⟨bx,1,none⟩=some pv∧u.cell? ⟨ub,0,none⟩=some (.int .i64 t.c)∧u.cell? ⟨ub,1,none⟩=some (.int .i64 t.m.x)∧u.cell? ⟨ub,2,none⟩=some (.int .i64 t.m.y)∧u.cell? ⟨ub,3,none⟩=some (.int .i64 t.m.d)∧u.cell? ⟨ub,4,none⟩=some (.int .i64 t.m.e)∧u.cell? ⟨pb,i,none⟩=some v
theorem lG.mk {u:World} {bx:Nat} {pv:Value} {ub:Nat} {t:T} {pb i:Nat} {v:Value} (h1:u.cell? ⟨bx,1,none⟩=some pv) (h2:C5 u ub t) (h3:u.cell? ⟨pb,i,none⟩=some v):lG u bx pv ub t pb i v:=⟨h1,h2.1,h2.2.1,h2.2.2.1,h2.2.2.2.1,h2.2.2.2.2,h3⟩
theorem lG.below {u u':World} {bx:Nat} {pv:Value} {ub:Nat} {t:T} {pb i:Nat} {v:Value} (h:lG u bx pv ub t pb i v) (hb:Below u.heap.size u u'):lG u' bx pv ub t pb i v:=by
 obtain⟨a0,c0,c1,c2,c3,c4,d0⟩:=h;have l1:=cQ u _ a0
 have l2:=cQ u _ c0;have l3:=cQ u _ d0
 exact⟨(hb.cell (p:=⟨bx,1,none⟩) l1).trans a0,(hb.cell (p:=⟨ub,0,none⟩) l2).trans c0,(hb.cell (p:=⟨ub,1,none⟩) l2).trans c1,(hb.cell (p:=⟨ub,2,none⟩) l2).trans c2,(hb.cell (p:=⟨ub,3,none⟩) l2).trans c3,(hb.cell (p:=⟨ub,4,none⟩) l2).trans c4,(hb.cell (p:=⟨pb,i,none⟩) l3).trans d0⟩
abbrev VY (u:World) (bx:Nat) (pv:Value) (qb j:Nat) (v1:Value) (pb i:Nat) (v2:Value):Prop:=u.cell? ⟨bx,1,none⟩=some pv∧u.cell? ⟨qb,j,none⟩=some v1∧u.cell? ⟨pb,i,none⟩=some v2
theorem VY.below {u u':World} {bx:Nat} {pv:Value} {qb j:Nat} {v1:Value} {pb i:Nat} {v2:Value} (h:VY u bx pv qb j v1 pb i v2) (hb:Below u.heap.size u u'):VY u' bx pv qb j v1 pb i v2:=
 ⟨(hb.cell (p:=⟨bx,1,none⟩) (cQ u _ h.1)).trans h.1,(hb.cell (p:=⟨qb,j,none⟩) (cQ u _ h.2.1)).trans h.2.1,(hb.cell (p:=⟨pb,i,none⟩) (cQ u _ h.2.2)).trans h.2.2⟩
abbrev R3 (w:World) (pa:Option Addr) (m pc g:Nat) (A:Nat→Option Addr) (C:Nat→Nat) (AD:Nat→Nat→Option Addr) (CP:Nat→Nat→Nat) (P:Nat→Nat→List T):Prop:=NH w pa m pc A C AD CP (fun _=>g) (fun i=>lN (P i)) (fun i=>fN (P i))
theorem qJ.no {w:World} {n:Nat} {r:Ending} {w':World} (h:qJ w n none r w'):∃ra rc,r= .returned (.tuple #[.slice ra 0 rc,.bool false])∧Below w.heap.size w w':=by
 rcases h with⟨hb,⟨q,_,_,_,_,_,_,e,_⟩|⟨_,ra,rc,e⟩⟩
 ·cases e
 ·exact⟨ra,rc,e,hb⟩
theorem qJ.yes {w:World} {n:Nat} {q:Nat→List T} {r:Ending} {w':World} (h:qJ w n (some q) r w'):∃ra rc ad cp Rb B,r= .returned (.tuple #[.slice ra n rc,.bool true])∧Below w.heap.size w w'∧dV w.heap.size w' ra n rc ad (lN q) cp (fN q) Rb B:=by
 rcases h with⟨hb,⟨q',ra,rc,ad,cp,Rb,B,e,hr,ho⟩|⟨e,_⟩⟩
 ·cases e;exact⟨ra,rc,ad,cp,Rb,B,hr,hb,ho⟩
 ·cases e
def ZG (w:World) (g:Nat) (E:Option (Nat→List T)) (r:Ending) (w':World):Prop:=Below w.heap.size w w'∧((∃R ra rc ad cp lo Rb B,E=some R∧r= .returned (.tuple #[.slice ra g rc,.bool true])∧w.heap.size≤lo∧dV lo w' ra g rc ad (fun i=>(R i).length) cp (fun i=>lf (R i)) Rb B)∨(E=none∧∃xa xc,r= .returned (.tuple #[.slice xa 0 xc,.bool false])))
theorem FT {g:Nat} {P:Nat→Nat→List T} {i k:Nat} {u v:T} {nq:Nat} {qs:Nat→List T} (h:bU (fun _=>[]) [dE u] (P i) g=none):lL g P i k u v nq qs=none:=by
 have e:eW g P i k u v=none:=by unfold eW;rw[h]
 unfold lL;rw[e];have:=iK (g:=g) (P:=P) (qs:=qs) (row:=none) (t:=0) rfl nq
 rwa[Nat.zero_add]at this
theorem FU {g:Nat} {P:Nat→Nat→List T} {i k:Nat} {u v:T} {R:Nat→List T} (h:bU (fun _=>[]) [dE u] (P i) g=some R):eW g P i k u v=bU R [v] (P k) g:=by unfold eW;rw[h]
theorem FV {g:Nat} {P:Nat→Nat→List T} {qs:Nat→List T} {row:Option (Nat→List T)} {t:Nat} {R:Nat→List T} (h:gS g P qs row t=some R):gS g P qs row (t+1)=bU R (qs t) (P t) g:=by show(match gS g P qs row t with|none=>none|some R=>bU R (qs t) (P t) g)=_;rw[h]
theorem UD (w:World) (o:Int) (g m:Nat) (hg:g≤12) (hm:m≤12) (lv:Value) (hlv:lv.oneCell'=true) (pa:Option Addr) (pc:Nat) (d:Bool) (A:Nat→Option Addr) (C:Nat→Nat) (AD:Nat→Nat→Option Addr) (CP:Nat→Nat→Nat) (P:Nat→Nat→List T) (hP:R3 w pa m pc g A C AD CP P) (hPok:∀i,i<m→∀j,j<g→cJ (P i j)=true) (i k:Nat) (hi:i<m) (hk:k<m) (u v:T) (hu:u.m.ok=true∧1≤u.c∧u.c≤100) (hv:v.m.ok=true∧1≤v.c∧v.c≤100) (qa:Option Addr) (qc:Nat) (adQ:Nat→Option Addr) (cpQ:Nat→Nat) (qs:Nat→List T) (hq:eH w qa m qc adQ (lN qs) cpQ (fN qs)) (hqok:∀t,t<m→cJ (qs t)=true) (la:Option Addr) (lc:Nat) (hlve:lv= .slice la m lc):Calls Tryz.prog 71 #[.agg #[lv,.slice pa m pc,.bool d],.int .i64 (i:Int),.int .i64 (k:Int),.agg #[.int .i64 u.c,.int .i64 u.m.x,.int .i64 u.m.y,.int .i64 u.m.d,.int .i64 u.m.e],.agg #[.int .i64 v.c,.int .i64 v.m.x,.int .i64 v.m.y,.int .i64 v.m.d,.int .i64 v.m.e],.slice qa m qc] w (ZG w g (lL g P i k u v m qs)):=by
 subst hlve;obtain⟨w3,hw3⟩:∃w3,((w.alloc (.cells #[.slice la m lc,.slice pa m pc,.bool d] 27)).alloc (.cells #[.int .i64 u.c,.int .i64 u.m.x,.int .i64 u.m.y,.int .i64 u.m.d,.int .i64 u.m.e] 86)).alloc (.cells #[.int .i64 v.c,.int .i64 v.m.x,.int .i64 v.m.y,.int .i64 v.m.d,.int .i64 v.m.e] 86)=w3:=⟨_,rfl⟩
 have b1:=aC w (.cells #[.slice la m lc,.slice pa m pc,.bool d] 27);have b2:=aC (w.alloc (.cells #[.slice la m lc,.slice pa m pc,.bool d] 27)) (.cells #[.int .i64 u.c,.int .i64 u.m.x,.int .i64 u.m.y,.int .i64 u.m.d,.int .i64 u.m.e] 86)
 have b3:=aC ((w.alloc (.cells #[.slice la m lc,.slice pa m pc,.bool d] 27)).alloc (.cells #[.int .i64 u.c,.int .i64 u.m.x,.int .i64 u.m.y,.int .i64 u.m.d,.int .i64 u.m.e] 86)) (.cells #[.int .i64 v.c,.int .i64 v.m.x,.int .i64 v.m.y,.int .i64 v.m.d,.int .i64 v.m.e] 86);have hB3:Below w.heap.size w w3:=by rw[←hw3];exact aB (aB b1 b2) b3
 have cb:w3.cell? ⟨w.heap.size,1,none⟩=some (.slice pa m pc):=by rw[←hw3];refine((aB b2 b3).cell (p:=⟨w.heap.size,1,none⟩) (by simp)).trans ?_;rw[World.cell?_alloc_at _ _ _ _ rfl];rfl
 have cu:C5 w3 (w.heap.size+1) u:=by
  rw[←hw3];have:=C5.box (w.alloc (.cells #[.slice la m lc,.slice pa m pc,.bool d] 27)) 86 u
  rw[World.size_alloc]at this;exact this.below b3
 have cv:C5 w3 (w.heap.size+1+1) v:=by
  rw[←hw3];have:=C5.box ((w.alloc (.cells #[.slice la m lc,.slice pa m pc,.bool d] 27)).alloc (.cells #[.int .i64 u.c,.int .i64 u.m.x,.int .i64 u.m.y,.int .i64 u.m.d,.int .i64 u.m.e] 86)) 86 v
  rwa[World.size_alloc,World.size_alloc]at this
 have hP3:=hP.below hB3;rcases hP3.2.2.1 with h0|⟨pb,off,rfl,hpl,hpc⟩
 ·omega
 have ci:w3.cell? ⟨pb,off+i,none⟩=some (.slice (A i) g (C i)):=hpc i hi;have ck:w3.cell? ⟨pb,off+k,none⟩=some (.slice (A k) g (C k)):=hpc k hk
 have hil:(i:Int)<(m:Int):=by omega
 have hkl:(k:Int)<(m:Int):=by omega
 have hml:(m:Int)≤12:=by omega
 have hgl:(g:Int)≤12:=by omega
 have dr:Below w3.heap.size w3 w3.drew:=(bQ _ _).drew;have hS0:=(lG.mk cb cu ci).below dr
 have hneg:=gB (t:=dE u) ⟨hu.1,(vS hu.2.1 hu.2.2).1,(vS hu.2.1 hu.2.2).2⟩;have hone:=gB hv
 have HS0:=aA hS0;have HCB:=aA cb
 have HCV:=aA cv;have HCK:=aA ck
 have HPC:=aA hpc;have HP3:=aA hP3
 have HB3:=aA hB3;have HQ3:=aA (hq.below hB3)
 have HPO:=aA hPok;have HQO:=aA hqok
 have HNG:=aA hneg;have HON:=aA hone
 have hwu:IntKind.i64.wrap (101-u.c)=101-u.c:=by rw[IntKind.wrap_i64];omega
 have DR:=aA dr;have hs3:w.heap.size≤w3.heap.size:=hB3.size
 have HPi:=aA ((hP3.2.2.2 i hi).below dr);have HZ:=fun(W:World)=>UF W g hg
 obtain⟨E1,hE1⟩:∃E,bU (fun _=>[]) [dE u] (P i) g=E:=⟨_,rfl⟩
 have HL1:Hid (∀(W:World) (za:Option Addr) (zc:Nat) (zad:Nat→Option Addr) (zcp:Nat→Nat) (na:Option Addr) (nc:Nat),eH W za g zc zad (lN (fun _=>[])) zcp (fN (fun _=>[]))→RL W na nc [dE u]→eH W (A i) g (C i) (AD i) (lN (P i)) (CP i) (fN (P i))→Calls Tryz.prog 119 #[.slice za g zc,.slice na 1 nc,.slice (A i) g (C i)] W (qJ W g E1)):=fun W za zc zad zcp na nc k1 k2 k3=>by have:=zS W g hg za zc zad zcp (fun _=>[]) k1 (fun _ _=>lB) na nc [dE u] k2 HNG.out (A i) (C i) (AD i) (CP i) (P i) k3 (HPO.out i hi);rw[hE1]at this;exact this
 have HE1:=aA hE1;clear hP hPok hq hqok hpc hP3 hS0 cb cu cv ci ck dr hneg hone b1 b2 b3 hB3 hu hv hE1;cases E1 with
 |none=>
  have HMN:=FT (k:=k) (v:=v) (nq:=m) (qs:=qs) HE1.out;rw[HMN];have HL2:Hid (∀(W:World) (za:Option Addr) (zc:Nat) (zad:Nat→Option Addr) (zcp:Nat→Nat) (na:Option Addr) (nc:Nat),eH W za g zc zad (lN (fun _=>[])) zcp (fN (fun _=>[]))→RL W na nc [dE u]→eH W (A i) g (C i) (AD i) (lN (P i)) (CP i) (fN (P i))→Calls Tryz.prog 119 #[.slice za g zc,.slice na 1 nc,.slice (A i) g (C i)] W fun r w'=>∃ra rc,r= .returned (.tuple #[.slice ra 0 rc,.bool false])∧Below W.heap.size W w'):=fun W za zc zad zcp na nc k1 k2 k3=>(HL1.out W za zc zad zcp na nc k1 k2 k3).mono fun r w' h=>h.no
  clear HL1 HMN HE1;go_enter Tryz.func71,Tryz.ntmps71;go_wp2_with fail;clear hw3;have hS:=HS0.out
  have bSa:Below w3.drew.heap.size w3.drew (w3.alloc (.cells #[.int .i64 (101-u.c),.int .i64 u.m.x,.int .i64 u.m.y,.int .i64 u.m.d,.int .i64 u.m.e] 86)).drew:=aC w3.drew _;have hSa:lG (w3.alloc (.cells #[.int .i64 (101-u.c),.int .i64 u.m.x,.int .i64 u.m.y,.int .i64 u.m.d,.int .i64 u.m.e] 86)).drew w.heap.size (.slice (some ⟨pb,off,none⟩) m pc) (w.heap.size+1) u pb (off+i) (.slice (A i) g (C i)):=lG.below hS bSa
  go_region_held3 (fun x=>lG x w.heap.size (.slice (some ⟨pb,off,none⟩) m pc) (w.heap.size+1) u pb (off+i) (.slice (A i) g (C i))) (first|with_reducible exact h6|with_reducible exact lG.below hS b5|with_reducible exact lG.below (lG.below hS b5) (aC _ _)|with_reducible exact lG.below hSa b5|with_reducible exact hSa|with_reducible exact hS) (first|(go_at_call 120;refine(HZ _).mono ?_;rintro e w5 ⟨za,zc,zad,zcp,zR,zB,rfl,b5,ho5⟩)|(go_at_call 119;refine(HL2.out _ _ _ _ _ _ _ (by first|with_reducible exact ho5.rd.below (aC _ _)|with_reducible exact ho5.rd) (by first|exact fQ _ (dE u)|exact((fQ w3 (dE u)).below (bQ _ _).drew).below b5) (by first|exact(HPi.out.below b5).below (aC _ _)|exact(HPi.out.below bSa).below b5)).mono ?_;rintro e w6 ⟨xa,xc,rfl,b6⟩;have h6:lG w6 w.heap.size (.slice (some ⟨pb,off,none⟩) m pc) (w.heap.size+1) u pb (off+i) (.slice (A i) g (C i)):=(by first|exact lG.below (lG.below (lG.below hS b5) (aC _ _)) b6|exact lG.below (lG.below hSa b5) b6);have hB6:Below w3.heap.size w3 w6:=(by first|exact aB (aB (aB DR.out b5) (aC _ _)) b6|exact aB (aB (aB DR.out bSa) b5) b6)))
  all_goals(
   have HB6:=aA (HB3.out.trans (hB6.mono hs3));clear hS hSa bSa b5 b6 h6 hB6 ho5;go_wp2;go_loopw [14,15,16] (fun rv ok ii wr=>rv= .slice xa 0 xc∧ok= .bool false∧ii= .int .i64 0∧wr=w6) (fun _ _ _ _=>0);case atStart=>exact⟨rfl,rfl,rfl,rfl⟩
   case round=>
    obtain⟨rfl,rfl,rfl,rfl⟩:=hrel;go_wp2;refine cV (results_tmp2 rfl _ _ _) rfl ?_
    exact⟨HB6.out,.inr ⟨rfl,_,_,rfl⟩⟩)
 |some R1=>
  have HL2:Hid (∀(W:World) (za:Option Addr) (zc:Nat) (zad:Nat→Option Addr) (zcp:Nat→Nat) (na:Option Addr) (nc:Nat),eH W za g zc zad (lN (fun _=>[])) zcp (fN (fun _=>[]))→RL W na nc [dE u]→eH W (A i) g (C i) (AD i) (lN (P i)) (CP i) (fN (P i))→Calls Tryz.prog 119 #[.slice za g zc,.slice na 1 nc,.slice (A i) g (C i)] W fun r w'=>∃ra rc ad cp Rb B,r= .returned (.tuple #[.slice ra g rc,.bool true])∧Below W.heap.size W w'∧dV W.heap.size w' ra g rc ad (lN R1) cp (fN R1) Rb B):=fun W za zc zad zcp na nc k1 k2 k3=>(HL1.out W za zc zad zcp na nc k1 k2 k3).mono fun r w' h=>h.yes;have HR1:=aA (mB (g:=g) (fun _ _=>lB) HNG.out (HPO.out i hi) g R1 (Nat.le_refl _) HE1.out)
  obtain⟨E2,hE2⟩:∃E,bU R1 [v] (P k) g=E:=⟨_,rfl⟩
  have HMD:=aA ((FU (k:=k) (v:=v) HE1.out).trans hE2);have HL3:Hid (∀(W:World) (za:Option Addr) (zc:Nat) (zad:Nat→Option Addr) (zcp:Nat→Nat) (na:Option Addr) (nc:Nat),eH W za g zc zad (lN R1) zcp (fN R1)→RL W na nc [v]→eH W (A k) g (C k) (AD k) (lN (P k)) (CP k) (fN (P k))→Calls Tryz.prog 119 #[.slice za g zc,.slice na 1 nc,.slice (A k) g (C k)] W (qJ W g E2)):=fun W za zc zad zcp na nc k1 k2 k3=>by have:=zS W g hg za zc zad zcp R1 k1 HR1.out na nc [v] k2 HON.out (A k) (C k) (AD k) (CP k) (P k) k3 (HPO.out k hk);rw[hE2]at this;exact this
  clear HL1 HE1 hE2;go_enter Tryz.func71,Tryz.ntmps71;go_wp2_with fail;clear hw3;have hS:=HS0.out
  have bSa:Below w3.drew.heap.size w3.drew (w3.alloc (.cells #[.int .i64 (101-u.c),.int .i64 u.m.x,.int .i64 u.m.y,.int .i64 u.m.d,.int .i64 u.m.e] 86)).drew:=aC w3.drew _;have hSa:lG (w3.alloc (.cells #[.int .i64 (101-u.c),.int .i64 u.m.x,.int .i64 u.m.y,.int .i64 u.m.d,.int .i64 u.m.e] 86)).drew w.heap.size (.slice (some ⟨pb,off,none⟩) m pc) (w.heap.size+1) u pb (off+i) (.slice (A i) g (C i)):=lG.below hS bSa
  go_region_held3 (fun x=>lG x w.heap.size (.slice (some ⟨pb,off,none⟩) m pc) (w.heap.size+1) u pb (off+i) (.slice (A i) g (C i))) (first|with_reducible exact h6|with_reducible exact lG.below hS b5|with_reducible exact lG.below (lG.below hS b5) (aC _ _)|with_reducible exact lG.below hSa b5|with_reducible exact hSa|with_reducible exact hS) (first|(go_at_call 120;refine(HZ _).mono ?_;rintro e w5 ⟨za,zc,zad,zcp,zR,zB,rfl,b5,ho5⟩)|(go_at_call 119;refine(HL2.out _ _ _ _ _ _ _ (by first|with_reducible exact ho5.rd.below (aC _ _)|with_reducible exact ho5.rd) (by first|exact fQ _ (dE u)|exact((fQ w3 (dE u)).below (bQ _ _).drew).below b5) (by first|exact(HPi.out.below b5).below (aC _ _)|exact(HPi.out.below bSa).below b5)).mono ?_;rintro e w6 ⟨xa,xc,xad,xcp,xRb,xB,rfl,b6,ho6⟩;have h6:lG w6 w.heap.size (.slice (some ⟨pb,off,none⟩) m pc) (w.heap.size+1) u pb (off+i) (.slice (A i) g (C i)):=(by first|exact lG.below (lG.below (lG.below hS b5) (aC _ _)) b6|exact lG.below (lG.below hSa b5) b6);have hB6:Below w3.heap.size w3 w6:=(by first|exact aB (aB (aB DR.out b5) (aC _ _)) b6|exact aB (aB (aB DR.out bSa) b5) b6)))
  all_goals(
   have HB6:=aA hB6;have HX6:=aA ho6.rd
   have dr6:Below w6.heap.size w6 w6.drew:=(bQ _ _).drew;have hB6d:=aB hB6 dr6
   have hSv:=(lG.mk HCB.out HCV.out HCK.out).below hB6d;have HSV:=aA hSv
   have HPk:=aA ((HP3.out.2.2.2 k hk).below hB6d);have HX6d:=aA (ho6.rd.below dr6)
   have HB6d:=aA hB6d;clear hS hSa bSa b5 b6 h6 hB6 ho5 ho6 hB6d hSv dr6;rcases E2 with _|R2
   ·have HL4:Hid (∀(W:World) (za:Option Addr) (zc:Nat) (zad:Nat→Option Addr) (zcp:Nat→Nat) (na:Option Addr) (nc:Nat),eH W za g zc zad (lN R1) zcp (fN R1)→RL W na nc [v]→eH W (A k) g (C k) (AD k) (lN (P k)) (CP k) (fN (P k))→Calls Tryz.prog 119 #[.slice za g zc,.slice na 1 nc,.slice (A k) g (C k)] W fun r w'=>∃ra rc,r= .returned (.tuple #[.slice ra 0 rc,.bool false])∧Below W.heap.size W w'):=fun W za zc zad zcp na nc k1 k2 k3=>(HL3.out W za zc zad zcp na nc k1 k2 k3).mono fun r w' h=>h.no;have hmn:lL g P i k u v m qs=none:=by
     have:=iK (g:=g) (P:=P) (qs:=qs) (row:=eW g P i k u v) (t:=0) HMD.out m
     rwa[Nat.zero_add]at this
    have HMN:=aA hmn;clear hmn HL3;go_wp2_with fail;have hSv:=HSV.out
    go_region_held3 (fun x=>lG x w.heap.size (.slice (some ⟨pb,off,none⟩) m pc) (w.heap.size+1+1) v pb (off+k) (.slice (A k) g (C k))) (first|with_reducible exact h7|with_reducible exact lG.below hSv (aC _ _)|with_reducible exact hSv) (first|(go_at_call 119;refine(HL4.out _ _ _ _ _ _ _ (HX6d.out.below (aC _ _)) (fQ _ v) (HPk.out.below (aC _ _))).mono ?_;rintro e w7 ⟨xa2,xc2,rfl,b7⟩;have h7:lG w7 w.heap.size (.slice (some ⟨pb,off,none⟩) m pc) (w.heap.size+1+1) v pb (off+k) (.slice (A k) g (C k)):=lG.below (lG.below hSv (aC _ _)) b7))
    have HB7:=aA (HB3.out.trans ((aB (aB HB6d.out (aC _ _)) b7).mono hs3));clear hSv h7 b7;go_wp2;go_loopw [14,15,16] (fun rv ok ii wr=>rv= .slice xa2 0 xc2∧ok= .bool false∧ii= .int .i64 0∧wr=w7) (fun _ _ _ _=>0);case atStart=>exact⟨rfl,rfl,rfl,rfl⟩
    case round=>
     obtain⟨rfl,rfl,rfl,rfl⟩:=hrel;go_wp2;refine cV (results_tmp2 rfl _ _ _) rfl ?_;exact⟨HB7.out,.inr ⟨HMN.out,_,_,rfl⟩⟩
   ·have HL4:Hid (∀(W:World) (za:Option Addr) (zc:Nat) (zad:Nat→Option Addr) (zcp:Nat→Nat) (na:Option Addr) (nc:Nat),eH W za g zc zad (lN R1) zcp (fN R1)→RL W na nc [v]→eH W (A k) g (C k) (AD k) (lN (P k)) (CP k) (fN (P k))→Calls Tryz.prog 119 #[.slice za g zc,.slice na 1 nc,.slice (A k) g (C k)] W fun r w'=>∃ra rc ad cp Rb B,r= .returned (.tuple #[.slice ra g rc,.bool true])∧Below W.heap.size W w'∧dV W.heap.size w' ra g rc ad (lN R2) cp (fN R2) Rb B):=fun W za zc zad zcp na nc k1 k2 k3=>(HL3.out W za zc zad zcp na nc k1 k2 k3).mono fun r w' h=>h.yes;clear HL3;go_wp2_with fail;have hSv:=HSV.out
    go_region_held3 (fun x=>lG x w.heap.size (.slice (some ⟨pb,off,none⟩) m pc) (w.heap.size+1+1) v pb (off+k) (.slice (A k) g (C k))) (first|with_reducible exact h7|with_reducible exact lG.below hSv (aC _ _)|with_reducible exact hSv) (first|(go_at_call 119;refine(HL4.out _ _ _ _ _ _ _ (HX6d.out.below (aC _ _)) (fQ _ v) (HPk.out.below (aC _ _))).mono ?_;rintro e w7 ⟨ya,yc,yad,ycp,yRb,yB,rfl,b7,ho7⟩;have h7:lG w7 w.heap.size (.slice (some ⟨pb,off,none⟩) m pc) (w.heap.size+1+1) v pb (off+k) (.slice (A k) g (C k)):=lG.below (lG.below hSv (aC _ _)) b7))
    have hB7:=aB (aB HB6d.out (aC _ _)) b7;have HB7:=aA hB7
    have HO7:=aA ho7;have HSZ:Hid (w.heap.size≤(w6.drew.alloc (.cells #[.int .i64 v.c,.int .i64 v.m.x,.int .i64 v.m.y,.int .i64 v.m.d,.int .i64 v.m.e] 86)).heap.size):=gW (gW hs3 HB6d.out.size) (by simp)
    clear hSv h7 b7 ho7 hB7;go_wp2;go_loopw [14,15,16] (fun rv ok ii wr=>∃t:Nat,t≤m∧ii= .int .i64 (t:Int)∧Below w3.heap.size w3 wr∧((ok= .bool true∧∃(X:Nat→List T) (ra:Option Addr) (rc:Nat) (ad:Nat→Option Addr) (cp:Nat→Nat) (lo Rb:Nat) (B:Nat→Nat),rv= .slice ra g rc∧gS g P qs (eW g P i k u v) t=some X∧w.heap.size≤lo∧dV lo wr ra g rc ad (lN X) cp (fN X) Rb B)∨(ok= .bool false∧(∃xa xc,rv= .slice xa 0 xc)∧lL g P i k u v m qs=none))) (fun _ _ ii _=>m-(intOf ii).toNat);case atStart=>exact⟨0,Nat.zero_le _,rfl,HB7.out,.inl ⟨rfl,R2,ya,yc,yad,ycp,_,yRb,yB,rfl,HMD.out,HSZ.out,HO7.out⟩⟩
    case round=>
     obtain⟨t,ht,rfl,hB,hcase⟩:=hrel;have HB:=aA hB
     rcases hcase with⟨rfl,X,ra,rc,ad,cp,lo,Rb,Bq,rfl,hX,hlo,hO⟩|⟨rfl,⟨xa2,xc2,rfl⟩,hno⟩
     ·have HX:=aA hX;have HO:=aA hO
      clear hX;by_cases htm:t<m
      ·have htl:(t:Int)<(m:Int):=by omega
       rcases HQ3.out.2.2.1 with h0|⟨qb,qoff,rfl,hqb,hqc⟩
       ·omega
       obtain⟨q1,hq1⟩:∃q1,qs t=q1:=⟨_,rfl⟩
       have dr7:Below wr.heap.size wr wr.drew:=(bQ _ _).drew;have hBd:=aB hB dr7
       have hSt:VY wr.drew w.heap.size (.slice (some ⟨pb,off,none⟩) m pc) qb (qoff+t) (.slice (adQ t) q1.length (cpQ t)) pb (off+t) (.slice (A t) g (C t)):=⟨(hBd.cell (p:=⟨w.heap.size,1,none⟩) (cQ w3 _ HCB.out)).trans HCB.out,(hBd.cell (p:=⟨qb,qoff+t,none⟩) hqb).trans (by rw[←hq1];exact hqc t htm),(hBd.cell (p:=⟨pb,off+t,none⟩) hpl).trans (HPC.out t htm)⟩
       have HST:=aA hSt;have RQ:Hid (RL wr.drew (adQ t) (cpQ t) q1):=by rw[←hq1];exact(HQ3.out.2.2.2 t htm).below hBd
       have RP:=aA ((HP3.out.2.2.2 t htm).below hBd);have RX:=aA (hO.rd.below dr7)
       have okq:cJ q1=true:=by rw[←hq1];exact HQO.out t htm
       have okX:=uL (u:=u) (v:=v) hi hk HPO.out HNG.out HON.out HQO.out t X ht HX.out;obtain⟨E3,hE3⟩:∃E,bU X q1 (P t) g=E:=⟨_,rfl⟩
       have hstep:gS g P qs (eW g P i k u v) (t+1)=E3:=by rw[FV HX.out,hq1,hE3]
       have hc:=zS wr.drew g hg ra rc ad cp X RX.out okX (adQ t) (cpQ t) q1 RQ.out okq (A t) (C t) (AD t) (CP t) (P t) RP.out (HPO.out t htm);rw[hE3]at hc;have HC:=aA hc
       have HSTEP:=aA hstep;have HBd:=aA hBd
       clear hSt hqc hq1 hBd dr7 hc hstep hE3 okX okq hB hO;rcases E3 with _|X3
       ·have HC2:=aA (HC.out.mono fun r w' h=>qJ.no h);have hmn:lL g P i k u v m qs=none:=by
         have:=iK (g:=g) (P:=P) (qs:=qs) (row:=eW g P i k u v) HSTEP.out (m-(t+1))
         rwa[show t+1+(m-(t+1))=m by omega]at this
        have HMN:=aA hmn;clear hmn HC;go_wp2_with fail;have hS:=HST.out
        go_region_held3 (fun x=>VY x w.heap.size (.slice (some ⟨pb,off,none⟩) m pc) qb (qoff+t) (.slice (adQ t) q1.length (cpQ t)) pb (off+t) (.slice (A t) g (C t))) (first|with_reducible exact VY.below hS b8|with_reducible exact hS) (first|(go_at_call 119;refine HC2.out.mono ?_;rintro e w8 ⟨xa3,xc3,rfl,b8⟩))
        have HB8:=aA (aB HBd.out b8);clear hS b8;go_wp2;go_roundw;case rel=>exact⟨t+1,by omega,by go_num,HB8.out,.inr ⟨rfl,⟨xa3,xc3,rfl⟩,HMN.out⟩⟩
        case measure=>simp[intOf];omega
       ·have HC2:=aA (HC.out.mono fun r w' h=>qJ.yes h);clear HC;go_wp2_with fail;have hS:=HST.out
        go_region_held3 (fun x=>VY x w.heap.size (.slice (some ⟨pb,off,none⟩) m pc) qb (qoff+t) (.slice (adQ t) q1.length (cpQ t)) pb (off+t) (.slice (A t) g (C t))) (first|with_reducible exact VY.below hS b8|with_reducible exact hS) (first|(go_at_call 119;refine HC2.out.mono ?_;rintro e w8 ⟨ya3,yc3,yad3,ycp3,yRb3,yB3,rfl,b8,ho8⟩))
        have HB8:=aA (aB HBd.out b8);have HO8:=aA ho8
        have hlo8:w.heap.size≤wr.drew.heap.size:=by have:=HBd.out.size;omega
        have HLO8:=aA hlo8;clear hS b8 ho8 hlo8;go_wp2;go_roundw;case rel=>exact⟨t+1,by omega,by go_num,HB8.out,.inl ⟨rfl,X3,ya3,yc3,yad3,ycp3,_,yRb3,yB3,rfl,HSTEP.out,HLO8.out,HO8.out⟩⟩
        case measure=>simp[intOf];omega
      ·have hte:t=m:=by omega
       subst hte;have hnl:¬(t:Int)<(t:Int):=by omega
       have HBW:=aA (HB3.out.trans (hB.mono hs3));clear hB hO;go_wp2;refine cV (results_tmp2 rfl _ _ _) rfl ?_;exact⟨HBW.out,.inl ⟨X,ra,rc,ad,cp,lo,Rb,Bq,HX.out,rfl,hlo,HO.out⟩⟩
     ·have HNO:=aA hno;have HBW:=aA (HB3.out.trans (hB.mono hs3))
      clear hno hB;by_cases htm:t<m
      ·have htl:(t:Int)<(m:Int):=by omega
       go_wp2;refine cV (results_tmp2 rfl _ _ _) rfl ?_;exact⟨HBW.out,.inr ⟨HNO.out,_,_,rfl⟩⟩
      ·have htl:¬(t:Int)<(m:Int):=by omega
       go_wp2;refine cV (results_tmp2 rfl _ _ _) rfl ?_
       exact⟨HBW.out,.inr ⟨HNO.out,_,_,rfl⟩⟩)
end Go.Proofs.YtelkehjdfcoeiaaGreat
