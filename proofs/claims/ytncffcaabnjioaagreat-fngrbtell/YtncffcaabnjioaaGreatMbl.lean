/-
  Slices of slices of slices of terms, and bases: how they are read, copied, counted and held against each other.
-/
import Derived.Test.YtncffcaabnjioaaGreatMbk
set_option maxHeartbeats 16000000
set_option maxRecDepth 100000
namespace Go.Proofs.YtncffcaabnjioaaGreat
open Go.RowKit Go.Deep Go.Joins
set_option linter.unusedVariables false
def Ak (w:World) (a:Option Addr) (n cap:Nat) (A:Nat→Option Addr) (C:Nat→Nat) (AD:Nat→Nat→Option Addr) (CP:Nat→Nat→Nat) (N:Nat→Nat) (L:Nat→Nat→Nat) (F:Nat→Nat→Nat→T):Prop:=
 n≤cap∧n*40≤140737488351232∧(n=0∨∃b off,a=some ⟨b,off,none⟩∧b<w.heap.size∧∀i,i<n→w.cell? ⟨b,off+i,none⟩=some (.slice (A i) (N i) (C i)))∧∀i,i<n→fZ w (A i) (N i) (C i) (AD i) (L i) (CP i) (F i)
theorem Ak.below {w w':World} {a:Option Addr} {n cap:Nat} {A:Nat→Option Addr} {C:Nat→Nat} {AD:Nat→Nat→Option Addr} {CP:Nat→Nat→Nat} {N:Nat→Nat} {L:Nat→Nat→Nat} {F:Nat→Nat→Nat→T} (h:Ak w a n cap A C AD CP N L F) (hb:Below w.heap.size w w'):Ak w' a n cap A C AD CP N L F:=by
 refine⟨h.1,h.2.1,?_,fun i hi=>(h.2.2.2 i hi).below hb⟩;rcases h.2.2.1 with h0|⟨b,off,he,hlt,hc⟩
 ·exact .inl h0
 ·exact .inr ⟨b,off,he,lG hlt hb.size,fun i hi=>(hb.cell (p:=⟨b,off+i,none⟩) hlt).trans (hc i hi)⟩
abbrev lQ (u:World) (bx:Nat) (pv:Value) (ub:Nat) (t:T) (pb i:Nat) (v:Value):Prop:=
 u.cell? ⟨bx,1,none⟩=some pv∧u.cell? ⟨ub,0,none⟩=some (.int .i64 t.c)∧u.cell? ⟨ub,1,none⟩=some (.int .i64 t.m.x)∧u.cell? ⟨ub,2,none⟩=some (.int .i64 t.m.y)∧u.cell? ⟨ub,3,none⟩=some (.int .i64 t.m.d)∧u.cell? ⟨ub,4,none⟩=some (.int .i64 t.m.e)∧u.cell? ⟨pb,i,none⟩=some v
theorem lQ.mk {u:World} {bx:Nat} {pv:Value} {ub:Nat} {t:T} {pb i:Nat} {v:Value} (h1:u.cell? ⟨bx,1,none⟩=some pv) (h2:C5 u ub t) (h3:u.cell? ⟨pb,i,none⟩=some v):lQ u bx pv ub t pb i v:=⟨h1,h2.1,h2.2.1,h2.2.2.1,h2.2.2.2.1,h2.2.2.2.2,h3⟩
theorem lQ.below {u u':World} {bx:Nat} {pv:Value} {ub:Nat} {t:T} {pb i:Nat} {v:Value} (h:lQ u bx pv ub t pb i v) (hb:Below u.heap.size u u'):lQ u' bx pv ub t pb i v:=by
 obtain⟨a0,c0,c1,c2,c3,c4,d0⟩:=h;have l1:=cU u _ a0
 have l2:=cU u _ c0;have l3:=cU u _ d0
 exact⟨(hb.cell (p:=⟨bx,1,none⟩) l1).trans a0,(hb.cell (p:=⟨ub,0,none⟩) l2).trans c0,(hb.cell (p:=⟨ub,1,none⟩) l2).trans c1,(hb.cell (p:=⟨ub,2,none⟩) l2).trans c2,(hb.cell (p:=⟨ub,3,none⟩) l2).trans c3,(hb.cell (p:=⟨ub,4,none⟩) l2).trans c4,(hb.cell (p:=⟨pb,i,none⟩) l3).trans d0⟩
abbrev VY (u:World) (bx:Nat) (pv:Value) (qb j:Nat) (v1:Value) (pb i:Nat) (v2:Value):Prop:=u.cell? ⟨bx,1,none⟩=some pv∧u.cell? ⟨qb,j,none⟩=some v1∧u.cell? ⟨pb,i,none⟩=some v2
theorem VY.below {u u':World} {bx:Nat} {pv:Value} {qb j:Nat} {v1:Value} {pb i:Nat} {v2:Value} (h:VY u bx pv qb j v1 pb i v2) (hb:Below u.heap.size u u'):VY u' bx pv qb j v1 pb i v2:=
 ⟨(hb.cell (p:=⟨bx,1,none⟩) (cU u _ h.1)).trans h.1,(hb.cell (p:=⟨qb,j,none⟩) (cU u _ h.2.1)).trans h.2.1,(hb.cell (p:=⟨pb,i,none⟩) (cU u _ h.2.2)).trans h.2.2⟩
abbrev R3 (w:World) (pa:Option Addr) (m pc g:Nat) (A:Nat→Option Addr) (C:Nat→Nat) (AD:Nat→Nat→Option Addr) (CP:Nat→Nat→Nat) (P:Nat→Nat→List T):Prop:=Ak w pa m pc A C AD CP (fun _=>g) (fun i=>lN (P i)) (fun i=>fN (P i))
theorem rA.no {w:World} {n:Nat} {r:Ending} {w':World} (h:rA w n none r w'):∃ra rc,r= .returned (.tuple #[.slice ra 0 rc,.bool false])∧Below w.heap.size w w':=by
 rcases h with⟨hb,⟨q,_,_,_,_,_,_,e,_⟩|⟨_,ra,rc,e⟩⟩
 ·cases e
 ·exact⟨ra,rc,e,hb⟩
theorem rA.yes {w:World} {n:Nat} {q:Nat→List T} {r:Ending} {w':World} (h:rA w n (some q) r w'):∃ra rc ad cp Rb B,r= .returned (.tuple #[.slice ra n rc,.bool true])∧Below w.heap.size w w'∧jK w.heap.size w' ra n rc ad (lN q) cp (fN q) Rb B:=by
 rcases h with⟨hb,⟨q',ra,rc,ad,cp,Rb,B,e,hr,ho⟩|⟨e,_⟩⟩
 ·cases e;exact⟨ra,rc,ad,cp,Rb,B,hr,hb,ho⟩
 ·cases e
def YT (w:World) (g:Nat) (E:Option (Nat→List T)) (r:Ending) (w':World):Prop:=Below w.heap.size w w'∧((∃R ra rc ad cp lo Rb B,E=some R∧r= .returned (.tuple #[.slice ra g rc,.bool true])∧w.heap.size≤lo∧jK lo w' ra g rc ad (fun i=>(R i).length) cp (fun i=>lf (R i)) Rb B)∨(E=none∧∃xa xc,r= .returned (.tuple #[.slice xa 0 xc,.bool false])))
theorem FN {g:Nat} {P:Nat→Nat→List T} {i k:Nat} {u v:T} {nq:Nat} {qs:Nat→List T} (h:dF (fun _=>[]) [jV u] (P i) g=none):oD g P i k u v nq qs=none:=by
 have e:gP g P i k u v=none:=by unfold gP;rw[h]
 unfold oD;rw[e];have:=iO (g:=g) (P:=P) (qs:=qs) (row:=none) (t:=0) rfl nq
 rwa[Nat.zero_add]at this
theorem FO {g:Nat} {P:Nat→Nat→List T} {i k:Nat} {u v:T} {R:Nat→List T} (h:dF (fun _=>[]) [jV u] (P i) g=some R):gP g P i k u v=dF R [v] (P k) g:=by unfold gP;rw[h]
theorem FP {g:Nat} {P:Nat→Nat→List T} {qs:Nat→List T} {row:Option (Nat→List T)} {t:Nat} {R:Nat→List T} (h:iI g P qs row t=some R):iI g P qs row (t+1)=dF R (qs t) (P t) g:=by show(match iI g P qs row t with|none=>none|some R=>dF R (qs t) (P t) g)=_;rw[h]
theorem UH (w:World) (o:Int) (g m:Nat) (hg:g≤12) (hm:m≤12) (lv:Value) (hlv:lv.oneCell'=true) (pa:Option Addr) (pc:Nat) (d:Bool) (A:Nat→Option Addr) (C:Nat→Nat) (AD:Nat→Nat→Option Addr) (CP:Nat→Nat→Nat) (P:Nat→Nat→List T) (hP:R3 w pa m pc g A C AD CP P) (hPok:∀i,i<m→∀j,j<g→cT (P i j)=true) (i k:Nat) (hi:i<m) (hk:k<m) (u v:T) (hu:u.m.ok=true∧1≤u.c∧u.c≤100) (hv:v.m.ok=true∧1≤v.c∧v.c≤100) (qa:Option Addr) (qc:Nat) (adQ:Nat→Option Addr) (cpQ:Nat→Nat) (qs:Nat→List T) (hq:fZ w qa m qc adQ (lN qs) cpQ (fN qs)) (hqok:∀t,t<m→cT (qs t)=true) (la:Option Addr) (lc:Nat) (hlve:lv= .slice la m lc):Calls Tryz.prog 155 #[.agg #[lv,.slice pa m pc,.bool d],.int .i64 (i:Int),.int .i64 (k:Int),.agg #[.int .i64 u.c,.int .i64 u.m.x,.int .i64 u.m.y,.int .i64 u.m.d,.int .i64 u.m.e],.agg #[.int .i64 v.c,.int .i64 v.m.x,.int .i64 v.m.y,.int .i64 v.m.d,.int .i64 v.m.e],.slice qa m qc] w (YT w g (oD g P i k u v m qs)):=by
 subst hlve;obtain⟨w3,hw3⟩:∃w3,((w.alloc (.cells #[.slice la m lc,.slice pa m pc,.bool d] 103)).alloc (.cells #[.int .i64 u.c,.int .i64 u.m.x,.int .i64 u.m.y,.int .i64 u.m.d,.int .i64 u.m.e] 47)).alloc (.cells #[.int .i64 v.c,.int .i64 v.m.x,.int .i64 v.m.y,.int .i64 v.m.d,.int .i64 v.m.e] 47)=w3:=⟨_,rfl⟩
 have b1:=aC w (.cells #[.slice la m lc,.slice pa m pc,.bool d] 103);have b2:=aC (w.alloc (.cells #[.slice la m lc,.slice pa m pc,.bool d] 103)) (.cells #[.int .i64 u.c,.int .i64 u.m.x,.int .i64 u.m.y,.int .i64 u.m.d,.int .i64 u.m.e] 47)
 have b3:=aC ((w.alloc (.cells #[.slice la m lc,.slice pa m pc,.bool d] 103)).alloc (.cells #[.int .i64 u.c,.int .i64 u.m.x,.int .i64 u.m.y,.int .i64 u.m.d,.int .i64 u.m.e] 47)) (.cells #[.int .i64 v.c,.int .i64 v.m.x,.int .i64 v.m.y,.int .i64 v.m.d,.int .i64 v.m.e] 47);have hB3:Below w.heap.size w w3:=by rw[←hw3];exact aB (aB b1 b2) b3
 have cb:w3.cell? ⟨w.heap.size,1,none⟩=some (.slice pa m pc):=by rw[←hw3];refine((aB b2 b3).cell (p:=⟨w.heap.size,1,none⟩) (by simp)).trans ?_;rw[World.cell?_alloc_at _ _ _ _ rfl];rfl
 have cu:C5 w3 (w.heap.size+1) u:=by
  rw[←hw3];have:=C5.box (w.alloc (.cells #[.slice la m lc,.slice pa m pc,.bool d] 103)) 47 u
  rw[World.size_alloc]at this;exact this.below b3
 have cv:C5 w3 (w.heap.size+1+1) v:=by
  rw[←hw3];have:=C5.box ((w.alloc (.cells #[.slice la m lc,.slice pa m pc,.bool d] 103)).alloc (.cells #[.int .i64 u.c,.int .i64 u.m.x,.int .i64 u.m.y,.int .i64 u.m.d,.int .i64 u.m.e] 47)) 47 v
  rwa[World.size_alloc,World.size_alloc]at this
 have hP3:=hP.below hB3;rcases hP3.2.2.1 with h0|⟨pb,off,rfl,hpl,hpc⟩
 ·omega
 have ci:w3.cell? ⟨pb,off+i,none⟩=some (.slice (A i) g (C i)):=hpc i hi;have ck:w3.cell? ⟨pb,off+k,none⟩=some (.slice (A k) g (C k)):=hpc k hk
 have hil:(i:Int)<(m:Int):=by omega
 have hkl:(k:Int)<(m:Int):=by omega
 have hml:(m:Int)≤12:=by omega
 have hgl:(g:Int)≤12:=by omega
 have dr:Below w3.heap.size w3 w3.drew:=(cE _ _).drew;have hS0:=(lQ.mk cb cu ci).below dr
 have hneg:=jR (t:=jV u) ⟨hu.1,(FR hu.2.1 hu.2.2).1,(FR hu.2.1 hu.2.2).2⟩;have hone:=jR hv
 have HS0:=aA hS0;have HCB:=aA cb
 have HCV:=aA cv;have HCK:=aA ck
 have HPC:=aA hpc;have HP3:=aA hP3
 have HB3:=aA hB3;have HQ3:=aA (hq.below hB3)
 have HPO:=aA hPok;have HQO:=aA hqok
 have HNG:=aA hneg;have HON:=aA hone
 have hwu:IntKind.i64.wrap (101-u.c)=101-u.c:=by rw[IntKind.wrap_i64];omega
 have DR:=aA dr;have hs3:w.heap.size≤w3.heap.size:=hB3.size
 have HPi:=aA ((hP3.2.2.2 i hi).below dr);have HZ:=fun(W:World)=>UJ W g hg
 obtain⟨E1,hE1⟩:∃E,dF (fun _=>[]) [jV u] (P i) g=E:=⟨_,rfl⟩
 have HL1:Hid (∀(W:World) (za:Option Addr) (zc:Nat) (zad:Nat→Option Addr) (zcp:Nat→Nat) (na:Option Addr) (nc:Nat),fZ W za g zc zad (lN (fun _=>[])) zcp (fN (fun _=>[]))→RL W na nc [jV u]→fZ W (A i) g (C i) (AD i) (lN (P i)) (CP i) (fN (P i))→Calls Tryz.prog 170 #[.slice za g zc,.slice na 1 nc,.slice (A i) g (C i)] W (rA W g E1)):=fun W za zc zad zcp na nc k1 k2 k3=>by have:=AH W g hg za zc zad zcp (fun _=>[]) k1 (fun _ _=>pM) na nc [jV u] k2 HNG.out (A i) (C i) (AD i) (CP i) (P i) k3 (HPO.out i hi);rw[hE1]at this;exact this
 have HE1:=aA hE1;clear hP hPok hq hqok hpc hP3 hS0 cb cu cv ci ck dr hneg hone b1 b2 b3 hB3 hu hv hE1;cases E1 with
 |none=>
  have HMN:=FN (k:=k) (v:=v) (nq:=m) (qs:=qs) HE1.out;rw[HMN];have HL2:Hid (∀(W:World) (za:Option Addr) (zc:Nat) (zad:Nat→Option Addr) (zcp:Nat→Nat) (na:Option Addr) (nc:Nat),fZ W za g zc zad (lN (fun _=>[])) zcp (fN (fun _=>[]))→RL W na nc [jV u]→fZ W (A i) g (C i) (AD i) (lN (P i)) (CP i) (fN (P i))→Calls Tryz.prog 170 #[.slice za g zc,.slice na 1 nc,.slice (A i) g (C i)] W fun r w'=>∃ra rc,r= .returned (.tuple #[.slice ra 0 rc,.bool false])∧Below W.heap.size W w'):=fun W za zc zad zcp na nc k1 k2 k3=>(HL1.out W za zc zad zcp na nc k1 k2 k3).mono fun r w' h=>h.no
  clear HL1 HMN HE1;go_enter Tryz.func155,Tryz.ntmps155;go_wp2_with fail;clear hw3;have hS:=HS0.out
  have bSa:Below w3.drew.heap.size w3.drew (w3.alloc (.cells #[.int .i64 (101-u.c),.int .i64 u.m.x,.int .i64 u.m.y,.int .i64 u.m.d,.int .i64 u.m.e] 47)).drew:=aC w3.drew _;have hSa:lQ (w3.alloc (.cells #[.int .i64 (101-u.c),.int .i64 u.m.x,.int .i64 u.m.y,.int .i64 u.m.d,.int .i64 u.m.e] 47)).drew w.heap.size (.slice (some ⟨pb,off,none⟩) m pc) (w.heap.size+1) u pb (off+i) (.slice (A i) g (C i)):=lQ.below hS bSa
  go_region_held3 (fun x=>lQ x w.heap.size (.slice (some ⟨pb,off,none⟩) m pc) (w.heap.size+1) u pb (off+i) (.slice (A i) g (C i))) (first|with_reducible exact h6|with_reducible exact lQ.below hS b5|with_reducible exact lQ.below (lQ.below hS b5) (aC _ _)|with_reducible exact lQ.below hSa b5|with_reducible exact hSa|with_reducible exact hS) (first|(go_at_call 171;refine(HZ _).mono ?_;rintro e w5 ⟨za,zc,zad,zcp,zR,zB,rfl,b5,ho5⟩)|(go_at_call 170;refine(HL2.out _ _ _ _ _ _ _ (by first|with_reducible exact ho5.rd.below (aC _ _)|with_reducible exact ho5.rd) (by first|exact gK _ (jV u)|exact((gK w3 (jV u)).below (cE _ _).drew).below b5) (by first|exact(HPi.out.below b5).below (aC _ _)|exact(HPi.out.below bSa).below b5)).mono ?_;rintro e w6 ⟨xa,xc,rfl,b6⟩;have h6:lQ w6 w.heap.size (.slice (some ⟨pb,off,none⟩) m pc) (w.heap.size+1) u pb (off+i) (.slice (A i) g (C i)):=(by first|exact lQ.below (lQ.below (lQ.below hS b5) (aC _ _)) b6|exact lQ.below (lQ.below hSa b5) b6);have hB6:Below w3.heap.size w3 w6:=(by first|exact aB (aB (aB DR.out b5) (aC _ _)) b6|exact aB (aB (aB DR.out bSa) b5) b6)))
  all_goals(
   have HB6:=aA (HB3.out.trans (hB6.mono hs3));clear hS hSa bSa b5 b6 h6 hB6 ho5;go_wp2;go_loopw [14,15,16] (fun rv ok ii wr=>rv= .slice xa 0 xc∧ok= .bool false∧ii= .int .i64 0∧wr=w6) (fun _ _ _ _=>0);case atStart=>exact⟨rfl,rfl,rfl,rfl⟩
   case round=>
    obtain⟨rfl,rfl,rfl,rfl⟩:=hrel;go_wp2;refine cB (results_tmp2 rfl _ _ _) rfl ?_
    exact⟨HB6.out,.inr ⟨rfl,_,_,rfl⟩⟩)
 |some R1=>
  have HL2:Hid (∀(W:World) (za:Option Addr) (zc:Nat) (zad:Nat→Option Addr) (zcp:Nat→Nat) (na:Option Addr) (nc:Nat),fZ W za g zc zad (lN (fun _=>[])) zcp (fN (fun _=>[]))→RL W na nc [jV u]→fZ W (A i) g (C i) (AD i) (lN (P i)) (CP i) (fN (P i))→Calls Tryz.prog 170 #[.slice za g zc,.slice na 1 nc,.slice (A i) g (C i)] W fun r w'=>∃ra rc ad cp Rb B,r= .returned (.tuple #[.slice ra g rc,.bool true])∧Below W.heap.size W w'∧jK W.heap.size w' ra g rc ad (lN R1) cp (fN R1) Rb B):=fun W za zc zad zcp na nc k1 k2 k3=>(HL1.out W za zc zad zcp na nc k1 k2 k3).mono fun r w' h=>h.yes;have HR1:=aA (mK (g:=g) (fun _ _=>pM) HNG.out (HPO.out i hi) g R1 (Nat.le_refl _) HE1.out)
  obtain⟨E2,hE2⟩:∃E,dF R1 [v] (P k) g=E:=⟨_,rfl⟩
  have HMD:=aA ((FO (k:=k) (v:=v) HE1.out).trans hE2);have HL3:Hid (∀(W:World) (za:Option Addr) (zc:Nat) (zad:Nat→Option Addr) (zcp:Nat→Nat) (na:Option Addr) (nc:Nat),fZ W za g zc zad (lN R1) zcp (fN R1)→RL W na nc [v]→fZ W (A k) g (C k) (AD k) (lN (P k)) (CP k) (fN (P k))→Calls Tryz.prog 170 #[.slice za g zc,.slice na 1 nc,.slice (A k) g (C k)] W (rA W g E2)):=fun W za zc zad zcp na nc k1 k2 k3=>by have:=AH W g hg za zc zad zcp R1 k1 HR1.out na nc [v] k2 HON.out (A k) (C k) (AD k) (CP k) (P k) k3 (HPO.out k hk);rw[hE2]at this;exact this
  clear HL1 HE1 hE2;go_enter Tryz.func155,Tryz.ntmps155;go_wp2_with fail;clear hw3;have hS:=HS0.out
  have bSa:Below w3.drew.heap.size w3.drew (w3.alloc (.cells #[.int .i64 (101-u.c),.int .i64 u.m.x,.int .i64 u.m.y,.int .i64 u.m.d,.int .i64 u.m.e] 47)).drew:=aC w3.drew _;have hSa:lQ (w3.alloc (.cells #[.int .i64 (101-u.c),.int .i64 u.m.x,.int .i64 u.m.y,.int .i64 u.m.d,.int .i64 u.m.e] 47)).drew w.heap.size (.slice (some ⟨pb,off,none⟩) m pc) (w.heap.size+1) u pb (off+i) (.slice (A i) g (C i)):=lQ.below hS bSa
  go_region_held3 (fun x=>lQ x w.heap.size (.slice (some ⟨pb,off,none⟩) m pc) (w.heap.size+1) u pb (off+i) (.slice (A i) g (C i))) (first|with_reducible exact h6|with_reducible exact lQ.below hS b5|with_reducible exact lQ.below (lQ.below hS b5) (aC _ _)|with_reducible exact lQ.below hSa b5|with_reducible exact hSa|with_reducible exact hS) (first|(go_at_call 171;refine(HZ _).mono ?_;rintro e w5 ⟨za,zc,zad,zcp,zR,zB,rfl,b5,ho5⟩)|(go_at_call 170;refine(HL2.out _ _ _ _ _ _ _ (by first|with_reducible exact ho5.rd.below (aC _ _)|with_reducible exact ho5.rd) (by first|exact gK _ (jV u)|exact((gK w3 (jV u)).below (cE _ _).drew).below b5) (by first|exact(HPi.out.below b5).below (aC _ _)|exact(HPi.out.below bSa).below b5)).mono ?_;rintro e w6 ⟨xa,xc,xad,xcp,xRb,xB,rfl,b6,ho6⟩;have h6:lQ w6 w.heap.size (.slice (some ⟨pb,off,none⟩) m pc) (w.heap.size+1) u pb (off+i) (.slice (A i) g (C i)):=(by first|exact lQ.below (lQ.below (lQ.below hS b5) (aC _ _)) b6|exact lQ.below (lQ.below hSa b5) b6);have hB6:Below w3.heap.size w3 w6:=(by first|exact aB (aB (aB DR.out b5) (aC _ _)) b6|exact aB (aB (aB DR.out bSa) b5) b6)))
  all_goals(
   have HB6:=aA hB6;have HX6:=aA ho6.rd
   have dr6:Below w6.heap.size w6 w6.drew:=(cE _ _).drew;have hB6d:=aB hB6 dr6
   have hSv:=(lQ.mk HCB.out HCV.out HCK.out).below hB6d;have HSV:=aA hSv
   have HPk:=aA ((HP3.out.2.2.2 k hk).below hB6d);have HX6d:=aA (ho6.rd.below dr6)
   have HB6d:=aA hB6d;clear hS hSa bSa b5 b6 h6 hB6 ho5 ho6 hB6d hSv dr6;rcases E2 with _|R2
   ·have HL4:Hid (∀(W:World) (za:Option Addr) (zc:Nat) (zad:Nat→Option Addr) (zcp:Nat→Nat) (na:Option Addr) (nc:Nat),fZ W za g zc zad (lN R1) zcp (fN R1)→RL W na nc [v]→fZ W (A k) g (C k) (AD k) (lN (P k)) (CP k) (fN (P k))→Calls Tryz.prog 170 #[.slice za g zc,.slice na 1 nc,.slice (A k) g (C k)] W fun r w'=>∃ra rc,r= .returned (.tuple #[.slice ra 0 rc,.bool false])∧Below W.heap.size W w'):=fun W za zc zad zcp na nc k1 k2 k3=>(HL3.out W za zc zad zcp na nc k1 k2 k3).mono fun r w' h=>h.no;have hmn:oD g P i k u v m qs=none:=by
     have:=iO (g:=g) (P:=P) (qs:=qs) (row:=gP g P i k u v) (t:=0) HMD.out m
     rwa[Nat.zero_add]at this
    have HMN:=aA hmn;clear hmn HL3;go_wp2_with fail;have hSv:=HSV.out
    go_region_held3 (fun x=>lQ x w.heap.size (.slice (some ⟨pb,off,none⟩) m pc) (w.heap.size+1+1) v pb (off+k) (.slice (A k) g (C k))) (first|with_reducible exact h7|with_reducible exact lQ.below hSv (aC _ _)|with_reducible exact hSv) (first|(go_at_call 170;refine(HL4.out _ _ _ _ _ _ _ (HX6d.out.below (aC _ _)) (gK _ v) (HPk.out.below (aC _ _))).mono ?_;rintro e w7 ⟨xa2,xc2,rfl,b7⟩;have h7:lQ w7 w.heap.size (.slice (some ⟨pb,off,none⟩) m pc) (w.heap.size+1+1) v pb (off+k) (.slice (A k) g (C k)):=lQ.below (lQ.below hSv (aC _ _)) b7))
    have HB7:=aA (HB3.out.trans ((aB (aB HB6d.out (aC _ _)) b7).mono hs3));clear hSv h7 b7;go_wp2;go_loopw [14,15,16] (fun rv ok ii wr=>rv= .slice xa2 0 xc2∧ok= .bool false∧ii= .int .i64 0∧wr=w7) (fun _ _ _ _=>0);case atStart=>exact⟨rfl,rfl,rfl,rfl⟩
    case round=>
     obtain⟨rfl,rfl,rfl,rfl⟩:=hrel;go_wp2;refine cB (results_tmp2 rfl _ _ _) rfl ?_;exact⟨HB7.out,.inr ⟨HMN.out,_,_,rfl⟩⟩
   ·have HL4:Hid (∀(W:World) (za:Option Addr) (zc:Nat) (zad:Nat→Option Addr) (zcp:Nat→Nat) (na:Option Addr) (nc:Nat),fZ W za g zc zad (lN R1) zcp (fN R1)→RL W na nc [v]→fZ W (A k) g (C k) (AD k) (lN (P k)) (CP k) (fN (P k))→Calls Tryz.prog 170 #[.slice za g zc,.slice na 1 nc,.slice (A k) g (C k)] W fun r w'=>∃ra rc ad cp Rb B,r= .returned (.tuple #[.slice ra g rc,.bool true])∧Below W.heap.size W w'∧jK W.heap.size w' ra g rc ad (lN R2) cp (fN R2) Rb B):=fun W za zc zad zcp na nc k1 k2 k3=>(HL3.out W za zc zad zcp na nc k1 k2 k3).mono fun r w' h=>h.yes;clear HL3;go_wp2_with fail;have hSv:=HSV.out
    go_region_held3 (fun x=>lQ x w.heap.size (.slice (some ⟨pb,off,none⟩) m pc) (w.heap.size+1+1) v pb (off+k) (.slice (A k) g (C k))) (first|with_reducible exact h7|with_reducible exact lQ.below hSv (aC _ _)|with_reducible exact hSv) (first|(go_at_call 170;refine(HL4.out _ _ _ _ _ _ _ (HX6d.out.below (aC _ _)) (gK _ v) (HPk.out.below (aC _ _))).mono ?_;rintro e w7 ⟨ya,yc,yad,ycp,yRb,yB,rfl,b7,ho7⟩;have h7:lQ w7 w.heap.size (.slice (some ⟨pb,off,none⟩) m pc) (w.heap.size+1+1) v pb (off+k) (.slice (A k) g (C k)):=lQ.below (lQ.below hSv (aC _ _)) b7))
    have hB7:=aB (aB HB6d.out (aC _ _)) b7;have HB7:=aA hB7
    have HO7:=aA ho7;have HSZ:Hid (w.heap.size≤(w6.drew.alloc (.cells #[.int .i64 v.c,.int .i64 v.m.x,.int .i64 v.m.y,.int .i64 v.m.d,.int .i64 v.m.e] 47)).heap.size):=jW (jW hs3 HB6d.out.size) (by simp)
    clear hSv h7 b7 ho7 hB7;go_wp2;go_loopw [14,15,16] (fun rv ok ii wr=>∃t:Nat,t≤m∧ii= .int .i64 (t:Int)∧Below w3.heap.size w3 wr∧((ok= .bool true∧∃(X:Nat→List T) (ra:Option Addr) (rc:Nat) (ad:Nat→Option Addr) (cp:Nat→Nat) (lo Rb:Nat) (B:Nat→Nat),rv= .slice ra g rc∧iI g P qs (gP g P i k u v) t=some X∧w.heap.size≤lo∧jK lo wr ra g rc ad (lN X) cp (fN X) Rb B)∨(ok= .bool false∧(∃xa xc,rv= .slice xa 0 xc)∧oD g P i k u v m qs=none))) (fun _ _ ii _=>m-(intOf ii).toNat);case atStart=>exact⟨0,gL _,rfl,HB7.out,.inl ⟨rfl,R2,ya,yc,yad,ycp,_,yRb,yB,rfl,HMD.out,HSZ.out,HO7.out⟩⟩
    case round=>
     obtain⟨t,ht,rfl,hB,hcase⟩:=hrel;have HB:=aA hB
     rcases hcase with⟨rfl,X,ra,rc,ad,cp,lo,Rb,Bq,rfl,hX,hlo,hO⟩|⟨rfl,⟨xa2,xc2,rfl⟩,hno⟩
     ·have HX:=aA hX;have HO:=aA hO
      clear hX;by_cases htm:t<m
      ·have htl:(t:Int)<(m:Int):=by omega
       rcases HQ3.out.2.2.1 with h0|⟨qb,qoff,rfl,hqb,hqc⟩
       ·omega
       obtain⟨q1,hq1⟩:∃q1,qs t=q1:=⟨_,rfl⟩
       have dr7:Below wr.heap.size wr wr.drew:=(cE _ _).drew;have hBd:=aB hB dr7
       have hSt:VY wr.drew w.heap.size (.slice (some ⟨pb,off,none⟩) m pc) qb (qoff+t) (.slice (adQ t) q1.length (cpQ t)) pb (off+t) (.slice (A t) g (C t)):=⟨(hBd.cell (p:=⟨w.heap.size,1,none⟩) (cU w3 _ HCB.out)).trans HCB.out,(hBd.cell (p:=⟨qb,qoff+t,none⟩) hqb).trans (by rw[←hq1];exact hqc t htm),(hBd.cell (p:=⟨pb,off+t,none⟩) hpl).trans (HPC.out t htm)⟩
       have HST:=aA hSt;have RQ:Hid (RL wr.drew (adQ t) (cpQ t) q1):=by rw[←hq1];exact(HQ3.out.2.2.2 t htm).below hBd
       have RP:=aA ((HP3.out.2.2.2 t htm).below hBd);have RX:=aA (hO.rd.below dr7)
       have okq:cT q1=true:=by rw[←hq1];exact HQO.out t htm
       have okX:=vE (u:=u) (v:=v) hi hk HPO.out HNG.out HON.out HQO.out t X ht HX.out;obtain⟨E3,hE3⟩:∃E,dF X q1 (P t) g=E:=⟨_,rfl⟩
       have hstep:iI g P qs (gP g P i k u v) (t+1)=E3:=by rw[FP HX.out,hq1,hE3]
       have hc:=AH wr.drew g hg ra rc ad cp X RX.out okX (adQ t) (cpQ t) q1 RQ.out okq (A t) (C t) (AD t) (CP t) (P t) RP.out (HPO.out t htm);rw[hE3]at hc;have HC:=aA hc
       have HSTEP:=aA hstep;have HBd:=aA hBd
       clear hSt hqc hq1 hBd dr7 hc hstep hE3 okX okq hB hO;rcases E3 with _|X3
       ·have HC2:=aA (HC.out.mono fun r w' h=>rA.no h);have hmn:oD g P i k u v m qs=none:=by
         have:=iO (g:=g) (P:=P) (qs:=qs) (row:=gP g P i k u v) HSTEP.out (m-(t+1))
         rwa[show t+1+(m-(t+1))=m by omega]at this
        have HMN:=aA hmn;clear hmn HC;go_wp2_with fail;have hS:=HST.out
        go_region_held3 (fun x=>VY x w.heap.size (.slice (some ⟨pb,off,none⟩) m pc) qb (qoff+t) (.slice (adQ t) q1.length (cpQ t)) pb (off+t) (.slice (A t) g (C t))) (first|with_reducible exact VY.below hS b8|with_reducible exact hS) (first|(go_at_call 170;refine HC2.out.mono ?_;rintro e w8 ⟨xa3,xc3,rfl,b8⟩))
        have HB8:=aA (aB HBd.out b8);clear hS b8;go_wp2;go_roundw;case rel=>exact⟨t+1,by omega,by go_num,HB8.out,.inr ⟨rfl,⟨xa3,xc3,rfl⟩,HMN.out⟩⟩
        case measure=>simp[intOf];omega
       ·have HC2:=aA (HC.out.mono fun r w' h=>rA.yes h);clear HC;go_wp2_with fail;have hS:=HST.out
        go_region_held3 (fun x=>VY x w.heap.size (.slice (some ⟨pb,off,none⟩) m pc) qb (qoff+t) (.slice (adQ t) q1.length (cpQ t)) pb (off+t) (.slice (A t) g (C t))) (first|with_reducible exact VY.below hS b8|with_reducible exact hS) (first|(go_at_call 170;refine HC2.out.mono ?_;rintro e w8 ⟨ya3,yc3,yad3,ycp3,yRb3,yB3,rfl,b8,ho8⟩))
        have HB8:=aA (aB HBd.out b8);have HO8:=aA ho8
        have hlo8:w.heap.size≤wr.drew.heap.size:=by have:=HBd.out.size;omega
        have HLO8:=aA hlo8;clear hS b8 ho8 hlo8;go_wp2;go_roundw;case rel=>exact⟨t+1,by omega,by go_num,HB8.out,.inl ⟨rfl,X3,ya3,yc3,yad3,ycp3,_,yRb3,yB3,rfl,HSTEP.out,HLO8.out,HO8.out⟩⟩
        case measure=>simp[intOf];omega
      ·have hte:t=m:=by omega
       subst hte;have hnl:¬(t:Int)<(t:Int):=by omega
       have HBW:=aA (HB3.out.trans (hB.mono hs3));clear hB hO;go_wp2;refine cB (results_tmp2 rfl _ _ _) rfl ?_;exact⟨HBW.out,.inl ⟨X,ra,rc,ad,cp,lo,Rb,Bq,HX.out,rfl,hlo,HO.out⟩⟩
     ·have HNO:=aA hno;have HBW:=aA (HB3.out.trans (hB.mono hs3))
      clear hno hB;by_cases htm:t<m
      ·have htl:(t:Int)<(m:Int):=by omega
       go_wp2;refine cB (results_tmp2 rfl _ _ _) rfl ?_;exact⟨HBW.out,.inr ⟨HNO.out,_,_,rfl⟩⟩
      ·have htl:¬(t:Int)<(m:Int):=by omega
       go_wp2;refine cB (results_tmp2 rfl _ _ _) rfl ?_
       exact⟨HBW.out,.inr ⟨HNO.out,_,_,rfl⟩⟩)
def NB (Y:Nat→Prop) (tvL tvP:Value) (b:Nat):Prop:=tvL.ownBlock≠some b∧tvP.ownBlock≠some b∧¬Y b
def ER (N:Nat→Prop) (w:World) (a:Option Addr) (c:Nat) (L:List T):Prop:=RL w a c L∧(L.length=0∨∀b off,a=some ⟨b,off,none⟩→N b)
def uX (N:Nat→Prop) (w:World) (a:Option Addr) (g c:Nat) (ad:Nat→Option Addr) (cp:Nat→Nat) (P:Nat→List T):Prop:=fZ w a g c ad (lN P) cp (fN P)∧(g=0∨∀b off,a=some ⟨b,off,none⟩→N b)∧∀j,j<g→(P j).length=0∨∀b off,ad j=some ⟨b,off,none⟩→N b
structure oE (Y:Nat→Prop) (w:World) (lo:Nat) (tvL tvP:Value) (g nL:Nat) (L:Nat→List T) (nP:Nat) (P:Nat→Nat→List T) (LS PS:List Value):Prop where
 rL:w.ownsRow lo 24 1 tvL nL LS
 rP:w.ownsRow lo 23 1 tvP nP PS
 eL:∀i,i<nL→∃a c,LS[i]? =some (.slice a (L i).length c)∧ER (NB Y tvL tvP) w a c (L i)
 eP:∀i,i<nP→∃a c ad cp,PS[i]? =some (.slice a g c)∧uX (NB Y tvL tvP) w a g c ad cp (P i)
 nL:∀k,tvL.ownBlock=some k→tvP.ownBlock≠some k∧¬Y k
 nP:∀k,tvP.ownBlock=some k→¬Y k
theorem ER.fr {N P:Nat→Prop} {w w':World} {a:Option Addr} {c:Nat} {L:List T} (h:ER N w a c L) (hf:Fr P w w') (hp:∀b,N b→¬P b):ER N w' a c L:=⟨hf.rd h.1 (h.2.imp id (fun q b off e=>hp b (q b off e))),h.2⟩
theorem uX.fr {N P:Nat→Prop} {w w':World} {a:Option Addr} {g c:Nat} {ad:Nat→Option Addr} {cp:Nat→Nat} {Q:Nat→List T} (h:uX N w a g c ad cp Q) (hf:Fr P w w') (hp:∀b,N b→¬P b):uX N w' a g c ad cp Q:=by
 refine⟨⟨h.1.1,h.1.2.1,?_,fun i hi=>hf.rd (h.1.2.2.2 i hi) ((h.2.2 i hi).imp id (fun q b off e=>hp b (q b off e)))⟩,h.2⟩;rcases h.1.2.2.1 with h0|⟨b,off,e,hlt,hc⟩
 ·exact .inl h0
 ·rcases h.2.1 with h0|hn
  ·exact .inl h0
  ·exact .inr ⟨b,off,e,lG hlt hf.size,fun i hi=>(hf.cell hlt (hp b (hn b off e))).trans (hc i hi)⟩
theorem ER.mono {N N':Nat→Prop} {w:World} {a:Option Addr} {c:Nat} {L:List T} (h:ER N w a c L) (hn:∀b,b<w.heap.size→N b→N' b):ER N' w a c L:=⟨h.1,by
 rcases h.1.2.2 with h0|⟨b,off,e,hlt,_⟩
 ·exact .inl h0
 ·exact h.2.imp id (fun q b' off' e'=>hn b' (by rw[e]at e';cases e';exact hlt) (q b' off' e'))⟩
theorem uX.mono {N N':Nat→Prop} {w:World} {a:Option Addr} {g c:Nat} {ad:Nat→Option Addr} {cp:Nat→Nat} {Q:Nat→List T} (h:uX N w a g c ad cp Q) (hn:∀b,b<w.heap.size→N b→N' b):uX N' w a g c ad cp Q:=by
 refine⟨h.1,?_,fun j hj=>?_⟩
 ·rcases h.1.2.2.1 with h0|⟨b,off,e,hlt,_⟩
  ·exact .inl h0
  ·exact h.2.1.imp id (fun q b' off' e'=>hn b' (by rw[e]at e';cases e';exact hlt) (q b' off' e'))
 ·rcases(h.1.2.2.2 j hj).2.2 with h0|⟨b,off,e,hlt,_⟩
  ·exact .inl h0
  ·exact(h.2.2 j hj).imp id (fun q b' off' e'=>hn b' (by rw[e]at e';cases e';exact hlt) (q b' off' e'))
theorem oE.fr {Y P:Nat→Prop} {w w':World} {lo:Nat} {tvL tvP:Value} {g nL:Nat} {L:Nat→List T} {nP:Nat} {Q:Nat→Nat→List T} {LS PS:List Value} (h:oE Y w lo tvL tvP g nL L nP Q LS PS) (hf:Fr P w w') (hp:∀b,P b→Y b):oE Y w' lo tvL tvP g nL L nP Q LS PS where
 rL:=hf.owns h.rL (fun k hk q=>(h.nL k hk).2 (hp k q))
 rP:=hf.owns h.rP (fun k hk q=>h.nP k hk (hp k q))
 eL:=fun i hi=>(h.eL i hi).imp fun a ⟨c,e,hr⟩=>⟨c,e,hr.fr hf (fun b nb q=>nb.2.2 (hp b q))⟩
 eP:=fun i hi=>(h.eP i hi).imp fun a ⟨c,ad,cp,e,hr⟩=>⟨c,ad,cp,e,hr.fr hf (fun b nb q=>nb.2.2 (hp b q))⟩
 nL:=h.nL
 nP:=h.nP
theorem oE.below {Y:Nat→Prop} {w w':World} {lo:Nat} {tvL tvP:Value} {g nL:Nat} {L:Nat→List T} {nP:Nat} {Q:Nat→Nat→List T} {LS PS:List Value} (h:oE Y w lo tvL tvP g nL L nP Q LS PS) (hb:Below w.heap.size w w'):oE Y w' lo tvL tvP g nL L nP Q LS PS:=h.fr (P:=fun _=>False) (eH hb) (fun _ q=>q.elim)
theorem oE.yet {Y Y':Nat→Prop} {w:World} {lo:Nat} {tvL tvP:Value} {g nL:Nat} {L:Nat→List T} {nP:Nat} {Q:Nat→Nat→List T} {LS PS:List Value} (h:oE Y w lo tvL tvP g nL L nP Q LS PS) (hy:∀b,b<w.heap.size→Y' b→Y b):oE Y' w lo tvL tvP g nL L nP Q LS PS where
 rL:=h.rL
 rP:=h.rP
 eL:=fun i hi=>(h.eL i hi).imp fun a ⟨c,e,hr⟩=>⟨c,e,hr.mono (fun b hb nb=>⟨nb.1,nb.2.1,fun q=>nb.2.2 (hy b hb q)⟩)⟩
 eP:=fun i hi=>(h.eP i hi).imp fun a ⟨c,ad,cp,e,hr⟩=>⟨c,ad,cp,e,hr.mono (fun b hb nb=>⟨nb.1,nb.2.1,fun q=>nb.2.2 (hy b hb q)⟩)⟩
 nL:=fun k hk=>⟨(h.nL k hk).1,fun q=>(h.nL k hk).2 (hy k (h.rL.lt k hk).2 q)⟩
 nP:=fun k hk q=>h.nP k hk (hy k (h.rP.lt k hk).2 q)
theorem oE.readL {Y:Nat→Prop} {w:World} {lo:Nat} {tvL tvP:Value} {g nL:Nat} {L:Nat→List T} {nP:Nat} {Q:Nat→Nat→List T} {LS PS:List Value} (h:oE Y w lo tvL tvP g nL L nP Q LS PS) (hn:nL≤100):∃a c ad cp,tvL= .slice a nL c∧fZ w a nL c ad (lN L) cp (fN L):=by
 have each:∀i,i<nL→∃t:Option Addr×Nat,LS[i]? =some (.slice t.1 (L i).length t.2)∧RL w t.1 t.2 (L i):=fun i hi=>by obtain⟨a,c,e,hr,_⟩:=h.eL i hi;exact⟨(a,c),e,hr⟩
 haveI:Inhabited (Option Addr×Nat):=⟨(none,0)⟩
 obtain⟨q,hq⟩:=choose_lt each;rcases h.rL.2 with⟨hv,h0⟩|⟨b,cap,cur,hv,hlo,hg,hnc,_⟩
 ·exact⟨none,0,fun i=>(q i).1,fun i=>(q i).2,by rw[hv,h0],by omega,by omega,.inl h0,fun i hi=>(hq i hi).2⟩
 ·have hr:=h.rL;rw[hv]at hr;refine⟨some ⟨b,0,none⟩,cap,fun i=>(q i).1,fun i=>(q i).2,hv,hnc,by omega,.inr ⟨b,0,rfl,(hr.lt b rfl).2,fun i hi=>?_⟩,fun i hi=>(hq i hi).2⟩;rw[Nat.zero_add,hr.cellAt i (by omega),(hq i hi).1]
theorem oE.readP {Y:Nat→Prop} {w:World} {lo:Nat} {tvL tvP:Value} {g nL:Nat} {L:Nat→List T} {nP:Nat} {Q:Nat→Nat→List T} {LS PS:List Value} (h:oE Y w lo tvL tvP g nL L nP Q LS PS) (hn:nP≤100):∃a c A C AD CP,tvP= .slice a nP c∧R3 w a nP c g A C AD CP Q:=by
 have each:∀i,i<nP→∃t:(Option Addr×Nat)×(Nat→Option Addr)×(Nat→Nat),PS[i]? =some (.slice t.1.1 g t.1.2)∧fZ w t.1.1 g t.1.2 t.2.1 (lN (Q i)) t.2.2 (fN (Q i)):=fun i hi=>by obtain⟨a,c,ad,cp,e,hr,_⟩:=h.eP i hi;exact⟨((a,c),ad,cp),e,hr⟩
 haveI:Inhabited ((Option Addr×Nat)×(Nat→Option Addr)×(Nat→Nat)):=⟨((none,0),fun _=>none,fun _=>0)⟩
 obtain⟨q,hq⟩:=choose_lt each;rcases h.rP.2 with⟨hv,h0⟩|⟨b,cap,cur,hv,hlo,hg,hnc,_⟩
 ·exact⟨none,0,fun i=>(q i).1.1,fun i=>(q i).1.2,fun i=>(q i).2.1,fun i=>(q i).2.2,by rw[hv,h0],by omega,by omega,.inl h0,fun i hi=>(hq i hi).2⟩
 ·have hr:=h.rP;rw[hv]at hr;refine⟨some ⟨b,0,none⟩,cap,fun i=>(q i).1.1,fun i=>(q i).1.2,fun i=>(q i).2.1,fun i=>(q i).2.2,hv,hnc,by omega,.inr ⟨b,0,rfl,(hr.lt b rfl).2,fun i hi=>?_⟩,fun i hi=>(hq i hi).2⟩;rw[Nat.zero_add,hr.cellAt i (by omega),(hq i hi).1]
theorem wF {LS:List Value} {v:Value} {i:Nat} (h:i<LS.length):(LS++[v])[i]? =LS[i]? :=by rw[List.getElem?_append_left h]
theorem wE {LS:List Value} {v:Value} {i:Nat} (h:i=LS.length):(LS++[v])[i]? =some v:=by subst h;simp
theorem IZ {w:World} {lo:Nat} {e:TypeId} {v:Value} {n:Nat} {LS:List Value} (h:w.ownsRow lo e 1 v n LS):LS.length=n:=by have:=h.1;omega
theorem oE.appL {Y:Nat→Prop} {w1 w5:World} {lo:Nat} {tvL tvP:Value} {g nL:Nat} {L:Nat→List T} {nP:Nat} {Q:Nat→Nat→List T} {LS PS:List Value} (h:oE Y w1 lo tvL tvP g nL L nP Q LS PS) (hY:∀b,Y b→b<w1.heap.size) {a:Option Addr} {c:Nat} {r:List T} (hr:ER (NB Y tvL tvP) w1 a c r) {g0 cap0:Nat} (hgrow:(w1.alloc (.cells #[.slice a r.length c] 24)).grownBy w5 tvL.ownBlock) (hown:w5.ownsRow lo 24 1 (.slice (some ⟨g0,0,none⟩) (nL+1) cap0) (nL+1) (LS++[.slice a r.length c])) (hat:tvL.ownBlock=some g0∨g0=(w1.alloc (.cells #[.slice a r.length c] 24)).heap.size):oE Y w5 lo (.slice (some ⟨g0,0,none⟩) (nL+1) cap0) tvP g (nL+1) (fF L nL r) nP Q (LS++[.slice a r.length c]) PS:=by
 have b1:=aC w1 (.cells #[.slice a r.length c] 24);have f5:Fr (fun k=>tvL.ownBlock=some k) w1 w5:=((Fr.refl _ w1).next b1).grown hgrow (fun k e _=>e)
 have hg0:tvL.ownBlock=some g0∨g0=w1.heap.size+1:=hat.imp id (fun e=>by rw[e];simp);have ll:=IZ h.rL
 have hs5:=f5.size
 have key:∀b,b<w1.heap.size→NB Y tvL tvP b→NB Y (.slice (some ⟨g0,0,none⟩) (nL+1) cap0) tvP b:=fun b hb nb=>⟨fun q=>by
  have e:g0=b:=by simpa[Value.ownBlock]using q
  rcases hg0 with q'|q'
  ·exact nb.1 (by rw[q',e])
  ·omega,nb.2.1,nb.2.2⟩
 have goL:∀(a:Option Addr) (c:Nat) (X:List T),ER (NB Y tvL tvP) w1 a c X→ER (NB Y (.slice (some ⟨g0,0,none⟩) (nL+1) cap0) tvP) w5 a c X:=fun a c X hx=>
  ((hx.mono (N':=fun b=>NB Y tvL tvP b∧b<w1.heap.size) (fun b hb nb=>⟨nb,hb⟩)).fr f5 (fun b nb q=>nb.1.1 q)).mono (fun b _ nb=>key b nb.2 nb.1)
 have goS:∀(a:Option Addr) (c:Nat) (ad:Nat→Option Addr) (cp:Nat→Nat) (X:Nat→List T),uX (NB Y tvL tvP) w1 a g c ad cp X→uX (NB Y (.slice (some ⟨g0,0,none⟩) (nL+1) cap0) tvP) w5 a g c ad cp X:=fun a c ad cp X hx=>
  ((hx.mono (N':=fun b=>NB Y tvL tvP b∧b<w1.heap.size) (fun b hb nb=>⟨nb,hb⟩)).fr f5 (fun b nb q=>nb.1.1 q)).mono (fun b _ nb=>key b nb.2 nb.1)
 refine⟨hown,f5.owns h.rP (fun k hk q=>(h.nL k q).1 hk),fun i hi=>?_,fun i hi=>(h.eP i hi).imp fun a ⟨c,ad,cp,e,hr⟩=>⟨c,ad,cp,e,goS a c ad cp _ hr⟩,fun k hk=>?_,h.nP⟩
 ·by_cases e:i=nL
  ·subst e;refine⟨a,c,?_,?_⟩
   ·rw[wE ll.symm];unfold fF;rw[if_pos rfl]
   ·unfold fF;rw[if_pos rfl];exact goL a c r hr
  ·obtain⟨a',c',e1,hr'⟩:=h.eL i (by omega);refine⟨a',c',?_,?_⟩
   ·rw[wF (by omega),e1];unfold fF;rw[if_neg e]
   ·unfold fF;rw[if_neg e];exact goL a' c' _ hr'
 ·have e:g0=k:=by simpa[Value.ownBlock]using hk
  subst e;rcases hg0 with q|q
  ·exact h.nL g0 q
  ·exact⟨fun q'=>by have:=(h.rP.lt g0 q').2;omega,fun q'=>by have:=hY g0 q';omega⟩
theorem oE.appP {Y:Nat→Prop} {w1 w5:World} {lo:Nat} {tvL tvP:Value} {g nL:Nat} {L:Nat→List T} {nP:Nat} {Q:Nat→Nat→List T} {LS PS:List Value} (h:oE Y w1 lo tvL tvP g nL L nP Q LS PS) (hY:∀b,Y b→b<w1.heap.size) {a:Option Addr} {c:Nat} {ad:Nat→Option Addr} {cp:Nat→Nat} {R:Nat→List T} (hr:uX (NB Y tvL tvP) w1 a g c ad cp R) {g0 cap0:Nat} (hgrow:(w1.alloc (.cells #[.slice a g c] 23)).grownBy w5 tvP.ownBlock) (hown:w5.ownsRow lo 23 1 (.slice (some ⟨g0,0,none⟩) (nP+1) cap0) (nP+1) (PS++[.slice a g c])) (hat:tvP.ownBlock=some g0∨g0=(w1.alloc (.cells #[.slice a g c] 23)).heap.size):oE Y w5 lo tvL (.slice (some ⟨g0,0,none⟩) (nP+1) cap0) g nL L (nP+1) (sP Q nP R) LS (PS++[.slice a g c]):=by
 have b1:=aC w1 (.cells #[.slice a g c] 23);have f5:Fr (fun k=>tvP.ownBlock=some k) w1 w5:=((Fr.refl _ w1).next b1).grown hgrow (fun k e _=>e)
 have hg0:tvP.ownBlock=some g0∨g0=w1.heap.size+1:=hat.imp id (fun e=>by rw[e];simp);have ll:=IZ h.rP
 have key:∀b,b<w1.heap.size→NB Y tvL tvP b→NB Y tvL (.slice (some ⟨g0,0,none⟩) (nP+1) cap0) b:=fun b hb nb=>⟨nb.1,fun q=>by
  have e:g0=b:=by simpa[Value.ownBlock]using q
  rcases hg0 with q'|q'
  ·exact nb.2.1 (by rw[q',e])
  ·omega,nb.2.2⟩
 have goL:∀(a:Option Addr) (c:Nat) (X:List T),ER (NB Y tvL tvP) w1 a c X→ER (NB Y tvL (.slice (some ⟨g0,0,none⟩) (nP+1) cap0)) w5 a c X:=fun a c X hx=>
  ((hx.mono (N':=fun b=>NB Y tvL tvP b∧b<w1.heap.size) (fun b hb nb=>⟨nb,hb⟩)).fr f5 (fun b nb q=>nb.1.2.1 q)).mono (fun b _ nb=>key b nb.2 nb.1)
 have goS:∀(a:Option Addr) (c:Nat) (ad:Nat→Option Addr) (cp:Nat→Nat) (X:Nat→List T),uX (NB Y tvL tvP) w1 a g c ad cp X→uX (NB Y tvL (.slice (some ⟨g0,0,none⟩) (nP+1) cap0)) w5 a g c ad cp X:=fun a c ad cp X hx=>
  ((hx.mono (N':=fun b=>NB Y tvL tvP b∧b<w1.heap.size) (fun b hb nb=>⟨nb,hb⟩)).fr f5 (fun b nb q=>nb.1.2.1 q)).mono (fun b _ nb=>key b nb.2 nb.1)
 refine⟨f5.owns h.rL (fun k hk q=>(h.nL k hk).1 q),hown,fun i hi=>(h.eL i hi).imp fun a ⟨c,e,hr⟩=>⟨c,e,goL a c _ hr⟩,fun i hi=>?_,fun k hk=>?_,fun k hk=>?_⟩
 ·by_cases e:i=nP
  ·subst e;refine⟨a,c,ad,cp,?_,?_⟩
   ·rw[wE ll.symm]
   ·unfold sP;rw[if_pos rfl];exact goS a c ad cp R hr
  ·obtain⟨a',c',ad',cp',e1,hr'⟩:=h.eP i (by omega);refine⟨a',c',ad',cp',?_,?_⟩
   ·rw[wF (by omega),e1]
   ·unfold sP;rw[if_neg e];exact goS a' c' ad' cp' _ hr'
 ·refine⟨fun q=>?_,(h.nL k hk).2⟩;have e:g0=k:=by simpa[Value.ownBlock]using q
  subst e;rcases hg0 with q'|q'
  ·exact(h.nL g0 hk).1 q'
  ·have:=(h.rL.lt g0 hk).2;omega
 ·have e:g0=k:=by simpa[Value.ownBlock]using hk
  subst e;rcases hg0 with q|q
  ·exact h.nP g0 q
  ·exact fun q'=>by have:=hY g0 q';omega
end Go.Proofs.YtncffcaabnjioaaGreat
