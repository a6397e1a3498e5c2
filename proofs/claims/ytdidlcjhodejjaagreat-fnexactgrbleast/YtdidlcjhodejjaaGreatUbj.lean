/-
  How what is left of a pair is made of those that were given: the model's l9Made.
-/
import Derived.Test.YtdidlcjhodejjaaGreatUbi
import Derived.Test.YtdidlcjhodejjaaGreatUaw
import Derived.Test.YtdidlcjhodejjaaGreatUba
import Derived.Deep.AppendLies
namespace Go.Proofs.YtdidlcjhodejjaaGreat
open Go.RowKit Go.Deep Go.Joins
set_option linter.unusedVariables false
abbrev S7p (u:World) (bx:Nat) (pv:Value) (ub:Nat) (t:T) (pb i:Nat) (v:Value):Prop:=
 u.cell? ⟨bx,1,none⟩=some pv∧u.cell? ⟨ub,0,none⟩=some (.int .i64 t.c)∧u.cell? ⟨ub,1,none⟩=some (.int .i64 t.m.x)∧u.cell? ⟨ub,2,none⟩=some (.int .i64 t.m.y)∧u.cell? ⟨ub,3,none⟩=some (.int .i64 t.m.d)∧u.cell? ⟨ub,4,none⟩=some (.int .i64 t.m.e)∧u.cell? ⟨pb,i,none⟩=some v
theorem S7p.mk {u:World} {bx:Nat} {pv:Value} {ub:Nat} {t:T} {pb i:Nat} {v:Value} (h1:u.cell? ⟨bx,1,none⟩=some pv) (h2:C5 u ub t) (h3:u.cell? ⟨pb,i,none⟩=some v):S7p u bx pv ub t pb i v:=⟨h1,h2.1,h2.2.1,h2.2.2.1,h2.2.2.2.1,h2.2.2.2.2,h3⟩
theorem S7p.below {u u':World} {bx:Nat} {pv:Value} {ub:Nat} {t:T} {pb i:Nat} {v:Value} (h:S7p u bx pv ub t pb i v) (hb:Below u.heap.size u u'):S7p u' bx pv ub t pb i v:=by
 obtain ⟨a0,c0,c1,c2,c3,c4,d0⟩:=h
 have l1:=World.block_lt_of_cell? u _ a0
 have l2:=World.block_lt_of_cell? u _ c0
 have l3:=World.block_lt_of_cell? u _ d0
 exact ⟨(hb.cell (p:=⟨bx,1,none⟩) l1).trans a0,(hb.cell (p:=⟨ub,0,none⟩) l2).trans c0,(hb.cell (p:=⟨ub,1,none⟩) l2).trans c1,(hb.cell (p:=⟨ub,2,none⟩) l2).trans c2,(hb.cell (p:=⟨ub,3,none⟩) l2).trans c3,(hb.cell (p:=⟨ub,4,none⟩) l2).trans c4,(hb.cell (p:=⟨pb,i,none⟩) l3).trans d0⟩
abbrev S3p (u:World) (bx:Nat) (pv:Value) (qb j:Nat) (v1:Value) (pb i:Nat) (v2:Value):Prop:=u.cell? ⟨bx,1,none⟩=some pv∧u.cell? ⟨qb,j,none⟩=some v1∧u.cell? ⟨pb,i,none⟩=some v2
theorem S3p.below {u u':World} {bx:Nat} {pv:Value} {qb j:Nat} {v1:Value} {pb i:Nat} {v2:Value} (h:S3p u bx pv qb j v1 pb i v2) (hb:Below u.heap.size u u'):S3p u' bx pv qb j v1 pb i v2:=
 ⟨(hb.cell (p:=⟨bx,1,none⟩) (World.block_lt_of_cell? u _ h.1)).trans h.1,(hb.cell (p:=⟨qb,j,none⟩) (World.block_lt_of_cell? u _ h.2.1)).trans h.2.1,(hb.cell (p:=⟨pb,i,none⟩) (World.block_lt_of_cell? u _ h.2.2)).trans h.2.2⟩
abbrev R3 (w:World) (pa:Option Addr) (m pc g:Nat) (A:Nat→Option Addr) (C:Nat→Nat) (AD:Nat→Nat→Option Addr) (CP:Nat→Nat→Nat) (P:Nat→Nat→List T):Prop:=Rd3 w pa m pc A C AD CP (fun _=>g) (fun i=>lN (P i)) (fun i=>fN (P i))
theorem LessP.no {w:World} {n:Nat} {r:Ending} {w':World} (h:LessP w n none r w'):∃ ra rc,r=.returned (.tuple #[.slice ra 0 rc,.bool false])∧Below w.heap.size w w':=by
 rcases h with ⟨hb,⟨q,_,_,_,_,_,_,e,_⟩ | ⟨_,ra,rc,e⟩⟩
 ·cases e
 ·exact ⟨ra,rc,e,hb⟩
theorem LessP.yes {w:World} {n:Nat} {q:Nat→List T} {r:Ending} {w':World} (h:LessP w n (some q) r w'):∃ ra rc ad cp Rb B,r=.returned (.tuple #[.slice ra n rc,.bool true])∧Below w.heap.size w w'∧OutS w.heap.size w' ra n rc ad (lN q) cp (fN q) Rb B:=by
 rcases h with ⟨hb,⟨q',ra,rc,ad,cp,Rb,B,e,hr,ho⟩ | ⟨e,_⟩⟩
 ·cases e
  exact ⟨ra,rc,ad,cp,Rb,B,hr,hb,ho⟩
 ·cases e
def MadeP (w:World) (g:Nat) (E:Option (Nat→List T)) (r:Ending) (w':World):Prop:=Below w.heap.size w w'∧((∃ R ra rc ad cp lo Rb B,E=some R∧r=.returned (.tuple #[.slice ra g rc,.bool true])∧w.heap.size≤lo∧OutS lo w' ra g rc ad (fun i=>(R i).length) cp (fun i=>lf (R i)) Rb B)∨(E=none∧∃ xa xc,r=.returned (.tuple #[.slice xa 0 xc,.bool false])))
theorem made1_none {g:Nat} {P:Nat→Nat→List T} {i k:Nat} {u v:T} {nq:Nat} {qs:Nat→List T} (h:lessR (fun _=>[]) [negT1 u] (P i) g=none):made g P i k u v nq qs=none:=by
 have e:made1 g P i k u v=none:=by unfold made1;rw [h]
 unfold made
 rw [e]
 have:=madeN_none (g:=g) (P:=P) (qs:=qs) (row:=none) (t:=0) rfl nq
 rwa [Nat.zero_add] at this
theorem made1_some {g:Nat} {P:Nat→Nat→List T} {i k:Nat} {u v:T} {R:Nat→List T} (h:lessR (fun _=>[]) [negT1 u] (P i) g=some R):made1 g P i k u v=lessR R [v] (P k) g:=by unfold made1;rw [h]
theorem madeN_step {g:Nat} {P:Nat→Nat→List T} {qs:Nat→List T} {row:Option (Nat→List T)} {t:Nat} {R:Nat→List T} (h:madeN g P qs row t=some R):madeN g P qs row (t+1)=lessR R (qs t) (P t) g:=by
 show (match madeN g P qs row t with | none=>none | some R=>lessR R (qs t) (P t) g)=_
 rw [h]
set_option maxRecDepth 100000 in
set_option maxHeartbeats 16000000 in
theorem l9MadeS (w:World) (o:Int) (g m:Nat) (hg:g≤12) (hm:m≤12) (lv:Value) (hlv:lv.oneCell'=true) (pa:Option Addr) (pc:Nat) (d:Bool) (A:Nat→Option Addr) (C:Nat→Nat) (AD:Nat→Nat→Option Addr) (CP:Nat→Nat→Nat) (P:Nat→Nat→List T) (hP:R3 w pa m pc g A C AD CP P) (hPok:∀ i,i<m→∀ j,j<g→okL (P i j)=true) (i k:Nat) (hi:i<m) (hk:k<m) (u v:T) (hu:u.m.ok=true∧1≤u.c∧u.c≤100) (hv:v.m.ok=true∧1≤v.c∧v.c≤100)
  (qa:Option Addr) (qc:Nat) (adQ:Nat→Option Addr) (cpQ:Nat→Nat) (qs:Nat→List T) (hq:RdS w qa m qc adQ (lN qs) cpQ (fN qs)) (hqok:∀ t,t<m→okL (qs t)=true) (la:Option Addr) (lc:Nat) (hlve:lv=.slice la m lc) :
  Calls Tryz.prog 138 #[.agg #[lv,.slice pa m pc,.bool d],.int .i64 (i:Int),.int .i64 (k:Int),.agg #[.int .i64 u.c,.int .i64 u.m.x,.int .i64 u.m.y,.int .i64 u.m.d,.int .i64 u.m.e],.agg #[.int .i64 v.c,.int .i64 v.m.x,.int .i64 v.m.y,.int .i64 v.m.d,.int .i64 v.m.e],.slice qa m qc] w (MadeP w g (made g P i k u v m qs)):=by
 subst hlve
 obtain ⟨w3,hw3⟩:∃ w3,((w.alloc (.cells #[.slice la m lc,.slice pa m pc,.bool d] 77)).alloc (.cells #[.int .i64 u.c,.int .i64 u.m.x,.int .i64 u.m.y,.int .i64 u.m.d,.int .i64 u.m.e] 42)).alloc (.cells #[.int .i64 v.c,.int .i64 v.m.x,.int .i64 v.m.y,.int .i64 v.m.d,.int .i64 v.m.e] 42)=w3:=⟨_,rfl⟩
 have b1:=bel_one w (.cells #[.slice la m lc,.slice pa m pc,.bool d] 77)
 have b2:=bel_one (w.alloc (.cells #[.slice la m lc,.slice pa m pc,.bool d] 77)) (.cells #[.int .i64 u.c,.int .i64 u.m.x,.int .i64 u.m.y,.int .i64 u.m.d,.int .i64 u.m.e] 42)
 have b3:=bel_one ((w.alloc (.cells #[.slice la m lc,.slice pa m pc,.bool d] 77)).alloc (.cells #[.int .i64 u.c,.int .i64 u.m.x,.int .i64 u.m.y,.int .i64 u.m.d,.int .i64 u.m.e] 42)) (.cells #[.int .i64 v.c,.int .i64 v.m.x,.int .i64 v.m.y,.int .i64 v.m.d,.int .i64 v.m.e] 42)
 have hB3:Below w.heap.size w w3:=by rw [← hw3];exact bel_next (bel_next b1 b2) b3
 have cb:w3.cell? ⟨w.heap.size,1,none⟩=some (.slice pa m pc):=by
  rw [← hw3]
  refine ((bel_next b2 b3).cell (p:=⟨w.heap.size,1,none⟩) (by simp)).trans ?_
  rw [World.cell?_alloc_at _ _ _ _ rfl];rfl
 have cu:C5 w3 (w.heap.size+1) u:=by
  rw [← hw3]
  have:=C5.box (w.alloc (.cells #[.slice la m lc,.slice pa m pc,.bool d] 77)) 42 u
  rw [World.size_alloc] at this
  exact this.below b3
 have cv:C5 w3 (w.heap.size+1+1) v:=by
  rw [← hw3]
  have:=C5.box ((w.alloc (.cells #[.slice la m lc,.slice pa m pc,.bool d] 77)).alloc (.cells #[.int .i64 u.c,.int .i64 u.m.x,.int .i64 u.m.y,.int .i64 u.m.d,.int .i64 u.m.e] 42)) 42 v
  rwa [World.size_alloc,World.size_alloc] at this
 have hP3:=hP.below hB3
 rcases hP3.2.2.1 with h0 | ⟨pb,off,rfl,hpl,hpc⟩
 ·omega
 have ci:w3.cell? ⟨pb,off+i,none⟩=some (.slice (A i) g (C i)):=hpc i hi
 have ck:w3.cell? ⟨pb,off+k,none⟩=some (.slice (A k) g (C k)):=hpc k hk
 have hil:(i:Int)<(m:Int):=by omega
 have hkl:(k:Int)<(m:Int):=by omega
 have hml:(m:Int)≤12:=by omega
 have hgl:(g:Int)≤12:=by omega
 have dr:Below w3.heap.size w3 w3.drew:=(Below.refl _ _).drew
 have hS0:=(S7p.mk cb cu ci).below dr
 have hneg:=one_ok (t:=negT1 u) ⟨hu.1,(mod101 hu.2.1 hu.2.2).1,(mod101 hu.2.1 hu.2.2).2⟩
 have hone:=one_ok hv
 have HS0:=Hid.mk' hS0
 have HCB:=Hid.mk' cb
 have HCV:=Hid.mk' cv
 have HCK:=Hid.mk' ck
 have HPC:=Hid.mk' hpc
 have HP3:=Hid.mk' hP3
 have HB3:=Hid.mk' hB3
 have HQ3:=Hid.mk' (hq.below hB3)
 have HPO:=Hid.mk' hPok
 have HQO:=Hid.mk' hqok
 have HNG:=Hid.mk' hneg
 have HON:=Hid.mk' hone
 have hwu:IntKind.i64.wrap (101 - u.c)=101 - u.c:=by rw [IntKind.wrap_i64];omega
 have DR:=Hid.mk' dr
 have hs3:w.heap.size≤w3.heap.size:=hB3.size
 have HPi:=Hid.mk' ((hP3.2.2.2 i hi).below dr)
 have HZ:=fun (W:World)=>l9ZeroS W g hg
 obtain ⟨E1,hE1⟩:∃ E,lessR (fun _=>[]) [negT1 u] (P i) g=E:=⟨_,rfl⟩
 have HL1:Hid (∀ (W:World) (za:Option Addr) (zc:Nat) (zad:Nat→Option Addr) (zcp:Nat→Nat) (na:Option Addr) (nc:Nat),RdS W za g zc zad (lN (fun _=>[])) zcp (fN (fun _=>[]))→RL W na nc [negT1 u]→RdS W (A i) g (C i) (AD i) (lN (P i)) (CP i) (fN (P i))→Calls Tryz.prog 160 #[.slice za g zc,.slice na 1 nc,.slice (A i) g (C i)] W (LessP W g E1)):=fun W za zc zad zcp na nc k1 k2 k3=>by
  have:=l9LessS W g hg za zc zad zcp (fun _=>[]) k1 (fun _ _=>okL_nil) na nc [negT1 u] k2 HNG.out (A i) (C i) (AD i) (CP i) (P i) k3 (HPO.out i hi)
  rw [hE1] at this
  exact this
 have HE1:=Hid.mk' hE1
 clear hP hPok hq hqok hpc hP3 hS0 cb cu cv ci ck dr hneg hone b1 b2 b3 hB3 hu hv hE1
 cases E1 with
 | none=>
  have HMN:=made1_none (k:=k) (v:=v) (nq:=m) (qs:=qs) HE1.out
  rw [HMN]
  have HL2:Hid (∀ (W:World) (za:Option Addr) (zc:Nat) (zad:Nat→Option Addr) (zcp:Nat→Nat) (na:Option Addr) (nc:Nat),RdS W za g zc zad (lN (fun _=>[])) zcp (fN (fun _=>[]))→RL W na nc [negT1 u]→RdS W (A i) g (C i) (AD i) (lN (P i)) (CP i) (fN (P i))→Calls Tryz.prog 160 #[.slice za g zc,.slice na 1 nc,.slice (A i) g (C i)] W fun r w'=>∃ ra rc,r=.returned (.tuple #[.slice ra 0 rc,.bool false])∧Below W.heap.size W w'):=fun W za zc zad zcp na nc k1 k2 k3=>(HL1.out W za zc zad zcp na nc k1 k2 k3).mono fun r w' h=>h.no
  clear HL1 HMN HE1
  go_enter Tryz.func138,Tryz.ntmps138
  go_wp2_with fail
  clear hw3
  have hS:=HS0.out
  have bSa:Below w3.drew.heap.size w3.drew (w3.alloc (.cells #[.int .i64 (101 - u.c),.int .i64 u.m.x,.int .i64 u.m.y,.int .i64 u.m.d,.int .i64 u.m.e] 42)).drew:=bel_one w3.drew _
  have hSa:S7p (w3.alloc (.cells #[.int .i64 (101 - u.c),.int .i64 u.m.x,.int .i64 u.m.y,.int .i64 u.m.d,.int .i64 u.m.e] 42)).drew w.heap.size (.slice (some ⟨pb,off,none⟩) m pc) (w.heap.size+1) u pb (off+i) (.slice (A i) g (C i)):=S7p.below hS bSa
  go_region_held3 (fun x=>S7p x w.heap.size (.slice (some ⟨pb,off,none⟩) m pc) (w.heap.size+1) u pb (off+i) (.slice (A i) g (C i))) (first | with_reducible exact h6 | with_reducible exact S7p.below hS b5 | with_reducible exact S7p.below (S7p.below hS b5) (bel_one _ _) | with_reducible exact S7p.below hSa b5 | with_reducible exact hSa | with_reducible exact hS) (first | (go_at_call 161;refine (HZ _).mono ?_;rintro e w5 ⟨za,zc,zad,zcp,zR,zB,rfl,b5,ho5⟩) | (go_at_call 160;refine (HL2.out _ _ _ _ _ _ _ (by first | with_reducible exact ho5.rd.below (bel_one _ _) | with_reducible exact ho5.rd) (by first | exact one_RL _ (negT1 u) | exact ((one_RL w3 (negT1 u)).below (Below.refl _ _).drew).below b5) (by first | exact (HPi.out.below b5).below (bel_one _ _) | exact (HPi.out.below bSa).below b5)).mono ?_;rintro e w6 ⟨xa,xc,rfl,b6⟩;have h6:S7p w6 w.heap.size (.slice (some ⟨pb,off,none⟩) m pc) (w.heap.size+1) u pb (off+i) (.slice (A i) g (C i)):=(by first | exact S7p.below (S7p.below (S7p.below hS b5) (bel_one _ _)) b6 | exact S7p.below (S7p.below hSa b5) b6);have hB6:Below w3.heap.size w3 w6:=(by first | exact bel_next (bel_next (bel_next DR.out b5) (bel_one _ _)) b6 | exact bel_next (bel_next (bel_next DR.out bSa) b5) b6)))
  all_goals (
   have HB6:=Hid.mk' (HB3.out.trans (hB6.mono hs3))
   clear hS hSa bSa b5 b6 h6 hB6 ho5
   go_wp2
   go_loopw [14,15,16] (fun rv ok ii wr=>rv=.slice xa 0 xc∧ok=.bool false∧ii=.int .i64 0∧wr=w6) (fun _ _ _ _=>0)
   case atStart=>exact ⟨rfl,rfl,rfl,rfl⟩
   case round=>
    obtain ⟨rfl,rfl,rfl,rfl⟩:=hrel
    go_wp2
    refine bodyPost_ret (results_tmp2 rfl _ _ _) rfl ?_
    exact ⟨HB6.out,.inr ⟨rfl,_,_,rfl⟩⟩)
 | some R1=>
  have HL2:Hid (∀ (W:World) (za:Option Addr) (zc:Nat) (zad:Nat→Option Addr) (zcp:Nat→Nat) (na:Option Addr) (nc:Nat),RdS W za g zc zad (lN (fun _=>[])) zcp (fN (fun _=>[]))→RL W na nc [negT1 u]→RdS W (A i) g (C i) (AD i) (lN (P i)) (CP i) (fN (P i))→Calls Tryz.prog 160 #[.slice za g zc,.slice na 1 nc,.slice (A i) g (C i)] W fun r w'=>∃ ra rc ad cp Rb B,r=.returned (.tuple #[.slice ra g rc,.bool true])∧Below W.heap.size W w'∧OutS W.heap.size w' ra g rc ad (lN R1) cp (fN R1) Rb B):=fun W za zc zad zcp na nc k1 k2 k3=>(HL1.out W za zc zad zcp na nc k1 k2 k3).mono fun r w' h=>h.yes
  have HR1:=Hid.mk' (lessR_ok (g:=g) (fun _ _=>okL_nil) HNG.out (HPO.out i hi) g R1 (Nat.le_refl _) HE1.out)
  obtain ⟨E2,hE2⟩:∃ E,lessR R1 [v] (P k) g=E:=⟨_,rfl⟩
  have HMD:=Hid.mk' ((made1_some (k:=k) (v:=v) HE1.out).trans hE2)
  have HL3:Hid (∀ (W:World) (za:Option Addr) (zc:Nat) (zad:Nat→Option Addr) (zcp:Nat→Nat) (na:Option Addr) (nc:Nat),RdS W za g zc zad (lN R1) zcp (fN R1)→RL W na nc [v]→RdS W (A k) g (C k) (AD k) (lN (P k)) (CP k) (fN (P k))→Calls Tryz.prog 160 #[.slice za g zc,.slice na 1 nc,.slice (A k) g (C k)] W (LessP W g E2)):=fun W za zc zad zcp na nc k1 k2 k3=>by
   have:=l9LessS W g hg za zc zad zcp R1 k1 HR1.out na nc [v] k2 HON.out (A k) (C k) (AD k) (CP k) (P k) k3 (HPO.out k hk)
   rw [hE2] at this
   exact this
  clear HL1 HE1 hE2
  -- what follows the second row, whatever comes out
  go_enter Tryz.func138,Tryz.ntmps138
  go_wp2_with fail
  clear hw3
  have hS:=HS0.out
  have bSa:Below w3.drew.heap.size w3.drew (w3.alloc (.cells #[.int .i64 (101 - u.c),.int .i64 u.m.x,.int .i64 u.m.y,.int .i64 u.m.d,.int .i64 u.m.e] 42)).drew:=bel_one w3.drew _
  have hSa:S7p (w3.alloc (.cells #[.int .i64 (101 - u.c),.int .i64 u.m.x,.int .i64 u.m.y,.int .i64 u.m.d,.int .i64 u.m.e] 42)).drew w.heap.size (.slice (some ⟨pb,off,none⟩) m pc) (w.heap.size+1) u pb (off+i) (.slice (A i) g (C i)):=S7p.below hS bSa
  go_region_held3 (fun x=>S7p x w.heap.size (.slice (some ⟨pb,off,none⟩) m pc) (w.heap.size+1) u pb (off+i) (.slice (A i) g (C i))) (first | with_reducible exact h6 | with_reducible exact S7p.below hS b5 | with_reducible exact S7p.below (S7p.below hS b5) (bel_one _ _) | with_reducible exact S7p.below hSa b5 | with_reducible exact hSa | with_reducible exact hS) (first | (go_at_call 161;refine (HZ _).mono ?_;rintro e w5 ⟨za,zc,zad,zcp,zR,zB,rfl,b5,ho5⟩) | (go_at_call 160;refine (HL2.out _ _ _ _ _ _ _ (by first | with_reducible exact ho5.rd.below (bel_one _ _) | with_reducible exact ho5.rd) (by first | exact one_RL _ (negT1 u) | exact ((one_RL w3 (negT1 u)).below (Below.refl _ _).drew).below b5) (by first | exact (HPi.out.below b5).below (bel_one _ _) | exact (HPi.out.below bSa).below b5)).mono ?_;rintro e w6 ⟨xa,xc,xad,xcp,xRb,xB,rfl,b6,ho6⟩;have h6:S7p w6 w.heap.size (.slice (some ⟨pb,off,none⟩) m pc) (w.heap.size+1) u pb (off+i) (.slice (A i) g (C i)):=(by first | exact S7p.below (S7p.below (S7p.below hS b5) (bel_one _ _)) b6 | exact S7p.below (S7p.below hSa b5) b6);have hB6:Below w3.heap.size w3 w6:=(by first | exact bel_next (bel_next (bel_next DR.out b5) (bel_one _ _)) b6 | exact bel_next (bel_next (bel_next DR.out bSa) b5) b6)))
  all_goals (
   have HB6:=Hid.mk' hB6
   have HX6:=Hid.mk' ho6.rd
   have dr6:Below w6.heap.size w6 w6.drew:=(Below.refl _ _).drew
   have hB6d:=bel_next hB6 dr6
   have hSv:=(S7p.mk HCB.out HCV.out HCK.out).below hB6d
   have HSV:=Hid.mk' hSv
   have HPk:=Hid.mk' ((HP3.out.2.2.2 k hk).below hB6d)
   have HX6d:=Hid.mk' (ho6.rd.below dr6)
   have HB6d:=Hid.mk' hB6d
   clear hS hSa bSa b5 b6 h6 hB6 ho5 ho6 hB6d hSv dr6
   rcases E2 with _ | R2
   ·have HL4:Hid (∀ (W:World) (za:Option Addr) (zc:Nat) (zad:Nat→Option Addr) (zcp:Nat→Nat) (na:Option Addr) (nc:Nat),RdS W za g zc zad (lN R1) zcp (fN R1)→RL W na nc [v]→RdS W (A k) g (C k) (AD k) (lN (P k)) (CP k) (fN (P k))→Calls Tryz.prog 160 #[.slice za g zc,.slice na 1 nc,.slice (A k) g (C k)] W fun r w'=>∃ ra rc,r=.returned (.tuple #[.slice ra 0 rc,.bool false])∧Below W.heap.size W w'):=fun W za zc zad zcp na nc k1 k2 k3=>(HL3.out W za zc zad zcp na nc k1 k2 k3).mono fun r w' h=>h.no
    have hmn:made g P i k u v m qs=none:=by
     have:=madeN_none (g:=g) (P:=P) (qs:=qs) (row:=made1 g P i k u v) (t:=0) HMD.out m
     rwa [Nat.zero_add] at this
    have HMN:=Hid.mk' hmn
    clear hmn HL3
    go_wp2_with fail
    have hSv:=HSV.out
    go_region_held3 (fun x=>S7p x w.heap.size (.slice (some ⟨pb,off,none⟩) m pc) (w.heap.size+1+1) v pb (off+k) (.slice (A k) g (C k))) (first | with_reducible exact h7 | with_reducible exact S7p.below hSv (bel_one _ _) | with_reducible exact hSv) (first | (go_at_call 160;refine (HL4.out _ _ _ _ _ _ _ (HX6d.out.below (bel_one _ _)) (one_RL _ v) (HPk.out.below (bel_one _ _))).mono ?_;rintro e w7 ⟨xa2,xc2,rfl,b7⟩;have h7:S7p w7 w.heap.size (.slice (some ⟨pb,off,none⟩) m pc) (w.heap.size+1+1) v pb (off+k) (.slice (A k) g (C k)):=S7p.below (S7p.below hSv (bel_one _ _)) b7))
    have HB7:=Hid.mk' (HB3.out.trans ((bel_next (bel_next HB6d.out (bel_one _ _)) b7).mono hs3))
    clear hSv h7 b7
    go_wp2
    go_loopw [14,15,16] (fun rv ok ii wr=>rv=.slice xa2 0 xc2∧ok=.bool false∧ii=.int .i64 0∧wr=w7) (fun _ _ _ _=>0)
    case atStart=>exact ⟨rfl,rfl,rfl,rfl⟩
    case round=>
     obtain ⟨rfl,rfl,rfl,rfl⟩:=hrel
     go_wp2
     refine bodyPost_ret (results_tmp2 rfl _ _ _) rfl ?_
     exact ⟨HB7.out,.inr ⟨HMN.out,_,_,rfl⟩⟩
   ·have HL4:Hid (∀ (W:World) (za:Option Addr) (zc:Nat) (zad:Nat→Option Addr) (zcp:Nat→Nat) (na:Option Addr) (nc:Nat),RdS W za g zc zad (lN R1) zcp (fN R1)→RL W na nc [v]→RdS W (A k) g (C k) (AD k) (lN (P k)) (CP k) (fN (P k))→Calls Tryz.prog 160 #[.slice za g zc,.slice na 1 nc,.slice (A k) g (C k)] W fun r w'=>∃ ra rc ad cp Rb B,r=.returned (.tuple #[.slice ra g rc,.bool true])∧Below W.heap.size W w'∧OutS W.heap.size w' ra g rc ad (lN R2) cp (fN R2) Rb B):=fun W za zc zad zcp na nc k1 k2 k3=>(HL3.out W za zc zad zcp na nc k1 k2 k3).mono fun r w' h=>h.yes
    clear HL3
    go_wp2_with fail
    have hSv:=HSV.out
    go_region_held3 (fun x=>S7p x w.heap.size (.slice (some ⟨pb,off,none⟩) m pc) (w.heap.size+1+1) v pb (off+k) (.slice (A k) g (C k))) (first | with_reducible exact h7 | with_reducible exact S7p.below hSv (bel_one _ _) | with_reducible exact hSv) (first | (go_at_call 160;refine (HL4.out _ _ _ _ _ _ _ (HX6d.out.below (bel_one _ _)) (one_RL _ v) (HPk.out.below (bel_one _ _))).mono ?_;rintro e w7 ⟨ya,yc,yad,ycp,yRb,yB,rfl,b7,ho7⟩;have h7:S7p w7 w.heap.size (.slice (some ⟨pb,off,none⟩) m pc) (w.heap.size+1+1) v pb (off+k) (.slice (A k) g (C k)):=S7p.below (S7p.below hSv (bel_one _ _)) b7))
    have hB7:=bel_next (bel_next HB6d.out (bel_one _ _)) b7
    have HB7:=Hid.mk' hB7
    have HO7:=Hid.mk' ho7
    have HSZ:Hid (w.heap.size≤(w6.drew.alloc (.cells #[.int .i64 v.c,.int .i64 v.m.x,.int .i64 v.m.y,.int .i64 v.m.d,.int .i64 v.m.e] 42)).heap.size):=Nat.le_trans (Nat.le_trans hs3 HB6d.out.size) (by simp)
    clear hSv h7 b7 ho7 hB7
    go_wp2
    go_loopw [14,15,16] (fun rv ok ii wr=>∃ t:Nat,t≤m∧ii=.int .i64 (t:Int)∧Below w3.heap.size w3 wr∧((ok=.bool true∧∃ (X:Nat→List T) (ra:Option Addr) (rc:Nat) (ad:Nat→Option Addr) (cp:Nat→Nat) (lo Rb:Nat) (B:Nat→Nat),rv=.slice ra g rc∧madeN g P qs (made1 g P i k u v) t=some X∧w.heap.size≤lo∧OutS lo wr ra g rc ad (lN X) cp (fN X) Rb B)∨(ok=.bool false∧(∃ xa xc,rv=.slice xa 0 xc)∧made g P i k u v m qs=none))) (fun _ _ ii _=>m - (intOf ii).toNat)
    case atStart=>exact ⟨0,Nat.zero_le _,rfl,HB7.out,.inl ⟨rfl,R2,ya,yc,yad,ycp,_,yRb,yB,rfl,HMD.out,HSZ.out,HO7.out⟩⟩
    case round=>
     obtain ⟨t,ht,rfl,hB,hcase⟩:=hrel
     have HB:=Hid.mk' hB
     rcases hcase with ⟨rfl,X,ra,rc,ad,cp,lo,Rb,Bq,rfl,hX,hlo,hO⟩ | ⟨rfl,⟨xa2,xc2,rfl⟩,hno⟩
     ·have HX:=Hid.mk' hX
      have HO:=Hid.mk' hO
      clear hX
      by_cases htm:t<m
      ·have htl:(t:Int)<(m:Int):=by omega
       rcases HQ3.out.2.2.1 with h0 | ⟨qb,qoff,rfl,hqb,hqc⟩
       ·omega
       obtain ⟨q1,hq1⟩:∃ q1,qs t=q1:=⟨_,rfl⟩
       have dr7:Below wr.heap.size wr wr.drew:=(Below.refl _ _).drew
       have hBd:=bel_next hB dr7
       have hSt:S3p wr.drew w.heap.size (.slice (some ⟨pb,off,none⟩) m pc) qb (qoff+t) (.slice (adQ t) q1.length (cpQ t)) pb (off+t) (.slice (A t) g (C t)):=⟨(hBd.cell (p:=⟨w.heap.size,1,none⟩) (World.block_lt_of_cell? w3 _ HCB.out)).trans HCB.out,(hBd.cell (p:=⟨qb,qoff+t,none⟩) hqb).trans (by rw [← hq1];exact hqc t htm),(hBd.cell (p:=⟨pb,off+t,none⟩) hpl).trans (HPC.out t htm)⟩
       have HST:=Hid.mk' hSt
       have RQ:Hid (RL wr.drew (adQ t) (cpQ t) q1):=by rw [← hq1];exact (HQ3.out.2.2.2 t htm).below hBd
       have RP:=Hid.mk' ((HP3.out.2.2.2 t htm).below hBd)
       have RX:=Hid.mk' (hO.rd.below dr7)
       have okq:okL q1=true:=by rw [← hq1];exact HQO.out t htm
       have okX:=made_ok (u:=u) (v:=v) hi hk HPO.out HNG.out HON.out HQO.out t X ht HX.out
       obtain ⟨E3,hE3⟩:∃ E,lessR X q1 (P t) g=E:=⟨_,rfl⟩
       have hstep:madeN g P qs (made1 g P i k u v) (t+1)=E3:=by rw [madeN_step HX.out,hq1,hE3]
       have hc:=l9LessS wr.drew g hg ra rc ad cp X RX.out okX (adQ t) (cpQ t) q1 RQ.out okq (A t) (C t) (AD t) (CP t) (P t) RP.out (HPO.out t htm)
       rw [hE3] at hc
       have HC:=Hid.mk' hc
       have HSTEP:=Hid.mk' hstep
       have HBd:=Hid.mk' hBd
       clear hSt hqc hq1 hBd dr7 hc hstep hE3 okX okq hB hO
       rcases E3 with _ | X3
       ·have HC2:=Hid.mk' (HC.out.mono fun r w' h=>LessP.no h)
        have hmn:made g P i k u v m qs=none:=by
         have:=madeN_none (g:=g) (P:=P) (qs:=qs) (row:=made1 g P i k u v) HSTEP.out (m - (t+1))
         rwa [show t+1+(m - (t+1))=m by omega] at this
        have HMN:=Hid.mk' hmn
        clear hmn HC
        go_wp2_with fail
        have hS:=HST.out
        go_region_held3 (fun x=>S3p x w.heap.size (.slice (some ⟨pb,off,none⟩) m pc) qb (qoff+t) (.slice (adQ t) q1.length (cpQ t)) pb (off+t) (.slice (A t) g (C t))) (first | with_reducible exact S3p.below hS b8 | with_reducible exact hS) (first | (go_at_call 160;refine HC2.out.mono ?_;rintro e w8 ⟨xa3,xc3,rfl,b8⟩))
        have HB8:=Hid.mk' (bel_next HBd.out b8)
        clear hS b8
        go_wp2
        go_roundw
        case rel=>exact ⟨t+1,by omega,by go_num,HB8.out,.inr ⟨rfl,⟨xa3,xc3,rfl⟩,HMN.out⟩⟩
        case measure=>simp [intOf];omega
       ·have HC2:=Hid.mk' (HC.out.mono fun r w' h=>LessP.yes h)
        clear HC
        go_wp2_with fail
        have hS:=HST.out
        go_region_held3 (fun x=>S3p x w.heap.size (.slice (some ⟨pb,off,none⟩) m pc) qb (qoff+t) (.slice (adQ t) q1.length (cpQ t)) pb (off+t) (.slice (A t) g (C t))) (first | with_reducible exact S3p.below hS b8 | with_reducible exact hS) (first | (go_at_call 160;refine HC2.out.mono ?_;rintro e w8 ⟨ya3,yc3,yad3,ycp3,yRb3,yB3,rfl,b8,ho8⟩))
        have HB8:=Hid.mk' (bel_next HBd.out b8)
        have HO8:=Hid.mk' ho8
        have hlo8:w.heap.size≤wr.drew.heap.size:=by have:=HBd.out.size;omega
        have HLO8:=Hid.mk' hlo8
        clear hS b8 ho8 hlo8
        go_wp2
        go_roundw
        case rel=>exact ⟨t+1,by omega,by go_num,HB8.out,.inl ⟨rfl,X3,ya3,yc3,yad3,ycp3,_,yRb3,yB3,rfl,HSTEP.out,HLO8.out,HO8.out⟩⟩
        case measure=>simp [intOf];omega
      ·have hte:t=m:=by omega
       subst hte
       have hnl:¬ (t:Int)<(t:Int):=by omega
       have HBW:=Hid.mk' (HB3.out.trans (hB.mono hs3))
       clear hB hO
       go_wp2
       refine bodyPost_ret (results_tmp2 rfl _ _ _) rfl ?_
       exact ⟨HBW.out,.inl ⟨X,ra,rc,ad,cp,lo,Rb,Bq,HX.out,rfl,hlo,HO.out⟩⟩
     ·have HNO:=Hid.mk' hno
      have HBW:=Hid.mk' (HB3.out.trans (hB.mono hs3))
      clear hno hB
      by_cases htm:t<m
      ·have htl:(t:Int)<(m:Int):=by omega
       go_wp2
       refine bodyPost_ret (results_tmp2 rfl _ _ _) rfl ?_
       exact ⟨HBW.out,.inr ⟨HNO.out,_,_,rfl⟩⟩
      ·have htl:¬ (t:Int)<(m:Int):=by omega
       go_wp2
       refine bodyPost_ret (results_tmp2 rfl _ _ _) rfl ?_
       exact ⟨HBW.out,.inr ⟨HNO.out,_,_,rfl⟩⟩)
end Go.Proofs.YtdidlcjhodejjaaGreat
namespace Go.Proofs.YtdidlcjhodejjaaGreat
open Go.RowKit Go.Deep Go.Joins
set_option linter.unusedVariables false
def NB (Y:Nat→Prop) (tvL tvP:Value) (b:Nat):Prop:=tvL.ownBlock≠some b∧tvP.ownBlock≠some b∧¬ Y b
def RLo (N:Nat→Prop) (w:World) (a:Option Addr) (c:Nat) (L:List T):Prop:=RL w a c L∧(L.length=0∨∀ b off,a=some ⟨b,off,none⟩→N b)
def RSo (N:Nat→Prop) (w:World) (a:Option Addr) (g c:Nat) (ad:Nat→Option Addr) (cp:Nat→Nat) (P:Nat→List T):Prop:=RdS w a g c ad (lN P) cp (fN P)∧(g=0∨∀ b off,a=some ⟨b,off,none⟩→N b)∧∀ j,j<g→(P j).length=0∨∀ b off,ad j=some ⟨b,off,none⟩→N b
structure BsW (Y:Nat→Prop) (w:World) (lo:Nat) (tvL tvP:Value) (g nL:Nat) (L:Nat→List T) (nP:Nat) (P:Nat→Nat→List T) (LS PS:List Value):Prop where
 rL:w.ownsRow lo 45 1 tvL nL LS
 rP:w.ownsRow lo 24 1 tvP nP PS
 eL:∀ i,i<nL→∃ a c,LS[i]? = some (.slice a (L i).length c)∧RLo (NB Y tvL tvP) w a c (L i)
 eP:∀ i,i<nP→∃ a c ad cp,PS[i]? = some (.slice a g c)∧RSo (NB Y tvL tvP) w a g c ad cp (P i)
 nL:∀ k,tvL.ownBlock=some k→tvP.ownBlock≠some k∧¬ Y k
 nP:∀ k,tvP.ownBlock=some k→¬ Y k
theorem RLo.fr {N P:Nat→Prop} {w w':World} {a:Option Addr} {c:Nat} {L:List T} (h:RLo N w a c L) (hf:Fr P w w') (hp:∀ b,N b→¬ P b):RLo N w' a c L:=⟨hf.rd h.1 (h.2.imp id (fun q b off e=>hp b (q b off e))),h.2⟩
theorem RSo.fr {N P:Nat→Prop} {w w':World} {a:Option Addr} {g c:Nat} {ad:Nat→Option Addr} {cp:Nat→Nat} {Q:Nat→List T} (h:RSo N w a g c ad cp Q) (hf:Fr P w w') (hp:∀ b,N b→¬ P b):RSo N w' a g c ad cp Q:=by
 refine ⟨⟨h.1.1,h.1.2.1,?_,fun i hi=>hf.rd (h.1.2.2.2 i hi) ((h.2.2 i hi).imp id (fun q b off e=>hp b (q b off e)))⟩,h.2⟩
 rcases h.1.2.2.1 with h0 | ⟨b,off,e,hlt,hc⟩
 ·exact .inl h0
 ·rcases h.2.1 with h0 | hn
  ·exact .inl h0
  ·exact .inr ⟨b,off,e,Nat.lt_of_lt_of_le hlt hf.size,fun i hi=>(hf.cell hlt (hp b (hn b off e))).trans (hc i hi)⟩
theorem RLo.mono {N N':Nat→Prop} {w:World} {a:Option Addr} {c:Nat} {L:List T} (h:RLo N w a c L) (hn:∀ b,b<w.heap.size→N b→N' b):RLo N' w a c L:=⟨h.1,by
 rcases h.1.2.2 with h0 | ⟨b,off,e,hlt,_⟩
 ·exact .inl h0
 ·exact h.2.imp id (fun q b' off' e'=>hn b' (by rw [e] at e';cases e';exact hlt) (q b' off' e'))⟩
theorem RSo.mono {N N':Nat→Prop} {w:World} {a:Option Addr} {g c:Nat} {ad:Nat→Option Addr} {cp:Nat→Nat} {Q:Nat→List T} (h:RSo N w a g c ad cp Q) (hn:∀ b,b<w.heap.size→N b→N' b):RSo N' w a g c ad cp Q:=by
 refine ⟨h.1,?_,fun j hj=>?_⟩
 ·rcases h.1.2.2.1 with h0 | ⟨b,off,e,hlt,_⟩
  ·exact .inl h0
  ·exact h.2.1.imp id (fun q b' off' e'=>hn b' (by rw [e] at e';cases e';exact hlt) (q b' off' e'))
 ·rcases (h.1.2.2.2 j hj).2.2 with h0 | ⟨b,off,e,hlt,_⟩
  ·exact .inl h0
  ·exact (h.2.2 j hj).imp id (fun q b' off' e'=>hn b' (by rw [e] at e';cases e';exact hlt) (q b' off' e'))
theorem BsW.fr {Y P:Nat→Prop} {w w':World} {lo:Nat} {tvL tvP:Value} {g nL:Nat} {L:Nat→List T} {nP:Nat} {Q:Nat→Nat→List T} {LS PS:List Value} (h:BsW Y w lo tvL tvP g nL L nP Q LS PS) (hf:Fr P w w') (hp:∀ b,P b→Y b):BsW Y w' lo tvL tvP g nL L nP Q LS PS where
 rL:=hf.owns h.rL (fun k hk q=>(h.nL k hk).2 (hp k q))
 rP:=hf.owns h.rP (fun k hk q=>h.nP k hk (hp k q))
 eL:=fun i hi=>(h.eL i hi).imp fun a ⟨c,e,hr⟩=>⟨c,e,hr.fr hf (fun b nb q=>nb.2.2 (hp b q))⟩
 eP:=fun i hi=>(h.eP i hi).imp fun a ⟨c,ad,cp,e,hr⟩=>⟨c,ad,cp,e,hr.fr hf (fun b nb q=>nb.2.2 (hp b q))⟩
 nL:=h.nL
 nP:=h.nP
theorem BsW.below {Y:Nat→Prop} {w w':World} {lo:Nat} {tvL tvP:Value} {g nL:Nat} {L:Nat→List T} {nP:Nat} {Q:Nat→Nat→List T} {LS PS:List Value} (h:BsW Y w lo tvL tvP g nL L nP Q LS PS) (hb:Below w.heap.size w w'):BsW Y w' lo tvL tvP g nL L nP Q LS PS:=h.fr (P:=fun _=>False) (Fr.of_below hb) (fun _ q=>q.elim)
theorem BsW.yet {Y Y':Nat→Prop} {w:World} {lo:Nat} {tvL tvP:Value} {g nL:Nat} {L:Nat→List T} {nP:Nat} {Q:Nat→Nat→List T} {LS PS:List Value} (h:BsW Y w lo tvL tvP g nL L nP Q LS PS) (hy:∀ b,b<w.heap.size→Y' b→Y b):BsW Y' w lo tvL tvP g nL L nP Q LS PS where
 rL:=h.rL
 rP:=h.rP
 eL:=fun i hi=>(h.eL i hi).imp fun a ⟨c,e,hr⟩=>⟨c,e,hr.mono (fun b hb nb=>⟨nb.1,nb.2.1,fun q=>nb.2.2 (hy b hb q)⟩)⟩
 eP:=fun i hi=>(h.eP i hi).imp fun a ⟨c,ad,cp,e,hr⟩=>⟨c,ad,cp,e,hr.mono (fun b hb nb=>⟨nb.1,nb.2.1,fun q=>nb.2.2 (hy b hb q)⟩)⟩
 nL:=fun k hk=>⟨(h.nL k hk).1,fun q=>(h.nL k hk).2 (hy k (h.rL.lt k hk).2 q)⟩
 nP:=fun k hk q=>h.nP k hk (hy k (h.rP.lt k hk).2 q)
theorem BsW.readL {Y:Nat→Prop} {w:World} {lo:Nat} {tvL tvP:Value} {g nL:Nat} {L:Nat→List T} {nP:Nat} {Q:Nat→Nat→List T} {LS PS:List Value} (h:BsW Y w lo tvL tvP g nL L nP Q LS PS) (hn:nL≤100):∃ a c ad cp,tvL=.slice a nL c∧RdS w a nL c ad (lN L) cp (fN L):=by
 have each:∀ i,i<nL→∃ t:Option Addr × Nat,LS[i]? = some (.slice t.1 (L i).length t.2)∧RL w t.1 t.2 (L i):=fun i hi=>by
  obtain ⟨a,c,e,hr,_⟩:=h.eL i hi
  exact ⟨(a,c),e,hr⟩
 haveI:Inhabited (Option Addr × Nat):=⟨(none,0)⟩
 obtain ⟨q,hq⟩:=choose_lt each
 rcases h.rL.2 with ⟨hv,h0⟩ | ⟨b,cap,cur,hv,hlo,hg,hnc,_⟩
 ·exact ⟨none,0,fun i=>(q i).1,fun i=>(q i).2,by rw [hv,h0],by omega,by omega,.inl h0,fun i hi=>(hq i hi).2⟩
 ·have hr:=h.rL
  rw [hv] at hr
  refine ⟨some ⟨b,0,none⟩,cap,fun i=>(q i).1,fun i=>(q i).2,hv,hnc,by omega,.inr ⟨b,0,rfl,(hr.lt b rfl).2,fun i hi=>?_⟩,fun i hi=>(hq i hi).2⟩
  rw [Nat.zero_add,hr.cellAt i (by omega),(hq i hi).1]
theorem BsW.readP {Y:Nat→Prop} {w:World} {lo:Nat} {tvL tvP:Value} {g nL:Nat} {L:Nat→List T} {nP:Nat} {Q:Nat→Nat→List T} {LS PS:List Value} (h:BsW Y w lo tvL tvP g nL L nP Q LS PS) (hn:nP≤100):∃ a c A C AD CP,tvP=.slice a nP c∧R3 w a nP c g A C AD CP Q:=by
 have each:∀ i,i<nP→∃ t:(Option Addr × Nat) × (Nat→Option Addr) × (Nat→Nat),PS[i]? = some (.slice t.1.1 g t.1.2)∧RdS w t.1.1 g t.1.2 t.2.1 (lN (Q i)) t.2.2 (fN (Q i)):=fun i hi=>by
  obtain ⟨a,c,ad,cp,e,hr,_⟩:=h.eP i hi
  exact ⟨((a,c),ad,cp),e,hr⟩
 haveI:Inhabited ((Option Addr × Nat) × (Nat→Option Addr) × (Nat→Nat)):=⟨((none,0),fun _=>none,fun _=>0)⟩
 obtain ⟨q,hq⟩:=choose_lt each
 rcases h.rP.2 with ⟨hv,h0⟩ | ⟨b,cap,cur,hv,hlo,hg,hnc,_⟩
 ·exact ⟨none,0,fun i=>(q i).1.1,fun i=>(q i).1.2,fun i=>(q i).2.1,fun i=>(q i).2.2,by rw [hv,h0],by omega,by omega,.inl h0,fun i hi=>(hq i hi).2⟩
 ·have hr:=h.rP
  rw [hv] at hr
  refine ⟨some ⟨b,0,none⟩,cap,fun i=>(q i).1.1,fun i=>(q i).1.2,fun i=>(q i).2.1,fun i=>(q i).2.2,hv,hnc,by omega,.inr ⟨b,0,rfl,(hr.lt b rfl).2,fun i hi=>?_⟩,fun i hi=>(hq i hi).2⟩
  rw [Nat.zero_add,hr.cellAt i (by omega),(hq i hi).1]
theorem get_app_lt {LS:List Value} {v:Value} {i:Nat} (h:i<LS.length):(LS ++ [v])[i]? = LS[i]?:=by rw [List.getElem?_append_left h]
theorem get_app_eq {LS:List Value} {v:Value} {i:Nat} (h:i=LS.length):(LS ++ [v])[i]? = some v:=by subst h;simp
theorem own_len {w:World} {lo:Nat} {e:TypeId} {v:Value} {n:Nat} {LS:List Value} (h:w.ownsRow lo e 1 v n LS):LS.length=n:=by have:=h.1;omega
theorem BsW.appL {Y:Nat→Prop} {w1 w5:World} {lo:Nat} {tvL tvP:Value} {g nL:Nat} {L:Nat→List T} {nP:Nat} {Q:Nat→Nat→List T} {LS PS:List Value} (h:BsW Y w1 lo tvL tvP g nL L nP Q LS PS) (hY:∀ b,Y b→b<w1.heap.size) {a:Option Addr} {c:Nat} {r:List T} (hr:RLo (NB Y tvL tvP) w1 a c r) {g0 cap0:Nat}
  (hgrow:(w1.alloc (.cells #[.slice a r.length c] 45)).grownBy w5 tvL.ownBlock) (hown:w5.ownsRow lo 45 1 (.slice (some ⟨g0,0,none⟩) (nL+1) cap0) (nL+1) (LS ++ [.slice a r.length c])) (hat:tvL.ownBlock=some g0∨g0=(w1.alloc (.cells #[.slice a r.length c] 45)).heap.size) :
  BsW Y w5 lo (.slice (some ⟨g0,0,none⟩) (nL+1) cap0) tvP g (nL+1) (updL L nL r) nP Q (LS ++ [.slice a r.length c]) PS:=by
 have b1:=bel_one w1 (.cells #[.slice a r.length c] 45)
 have f5:Fr (fun k=>tvL.ownBlock=some k) w1 w5:=((Fr.refl _ w1).next b1).grown hgrow (fun k e _=>e)
 have hg0:tvL.ownBlock=some g0∨g0=w1.heap.size+1:=hat.imp id (fun e=>by rw [e];simp)
 have ll:=own_len h.rL
 have hs5:=f5.size
 have key:∀ b,b<w1.heap.size→NB Y tvL tvP b→NB Y (.slice (some ⟨g0,0,none⟩) (nL+1) cap0) tvP b:=fun b hb nb=>⟨fun q=>by
   have e:g0=b:=by simpa [Value.ownBlock] using q
   rcases hg0 with q' | q'
   ·exact nb.1 (by rw [q',e])
   ·omega,nb.2.1,nb.2.2⟩
 have goL:∀ (a:Option Addr) (c:Nat) (X:List T),RLo (NB Y tvL tvP) w1 a c X→RLo (NB Y (.slice (some ⟨g0,0,none⟩) (nL+1) cap0) tvP) w5 a c X:=fun a c X hx=>
  ((hx.mono (N':=fun b=>NB Y tvL tvP b∧b<w1.heap.size) (fun b hb nb=>⟨nb,hb⟩)).fr f5 (fun b nb q=>nb.1.1 q)).mono (fun b _ nb=>key b nb.2 nb.1)
 have goS:∀ (a:Option Addr) (c:Nat) (ad:Nat→Option Addr) (cp:Nat→Nat) (X:Nat→List T),RSo (NB Y tvL tvP) w1 a g c ad cp X→RSo (NB Y (.slice (some ⟨g0,0,none⟩) (nL+1) cap0) tvP) w5 a g c ad cp X:=fun a c ad cp X hx=>
  ((hx.mono (N':=fun b=>NB Y tvL tvP b∧b<w1.heap.size) (fun b hb nb=>⟨nb,hb⟩)).fr f5 (fun b nb q=>nb.1.1 q)).mono (fun b _ nb=>key b nb.2 nb.1)
 refine ⟨hown,f5.owns h.rP (fun k hk q=>(h.nL k q).1 hk),fun i hi=>?_,fun i hi=>(h.eP i hi).imp fun a ⟨c,ad,cp,e,hr⟩=>⟨c,ad,cp,e,goS a c ad cp _ hr⟩,fun k hk=>?_,h.nP⟩
 ·by_cases e:i=nL
  ·subst e
   refine ⟨a,c,?_,?_⟩
   ·rw [get_app_eq ll.symm];unfold updL;rw [if_pos rfl]
   ·unfold updL;rw [if_pos rfl];exact goL a c r hr
  ·obtain ⟨a',c',e1,hr'⟩:=h.eL i (by omega)
   refine ⟨a',c',?_,?_⟩
   ·rw [get_app_lt (by omega),e1];unfold updL;rw [if_neg e]
   ·unfold updL;rw [if_neg e];exact goL a' c' _ hr'
 ·have e:g0=k:=by simpa [Value.ownBlock] using hk
  subst e
  rcases hg0 with q | q
  ·exact h.nL g0 q
  ·exact ⟨fun q'=>by have:=(h.rP.lt g0 q').2;omega,fun q'=>by have:=hY g0 q';omega⟩
theorem BsW.appP {Y:Nat→Prop} {w1 w5:World} {lo:Nat} {tvL tvP:Value} {g nL:Nat} {L:Nat→List T} {nP:Nat} {Q:Nat→Nat→List T} {LS PS:List Value} (h:BsW Y w1 lo tvL tvP g nL L nP Q LS PS) (hY:∀ b,Y b→b<w1.heap.size) {a:Option Addr} {c:Nat} {ad:Nat→Option Addr} {cp:Nat→Nat} {R:Nat→List T} (hr:RSo (NB Y tvL tvP) w1 a g c ad cp R) {g0 cap0:Nat}
  (hgrow:(w1.alloc (.cells #[.slice a g c] 24)).grownBy w5 tvP.ownBlock) (hown:w5.ownsRow lo 24 1 (.slice (some ⟨g0,0,none⟩) (nP+1) cap0) (nP+1) (PS ++ [.slice a g c])) (hat:tvP.ownBlock=some g0∨g0=(w1.alloc (.cells #[.slice a g c] 24)).heap.size) :
  BsW Y w5 lo tvL (.slice (some ⟨g0,0,none⟩) (nP+1) cap0) g nL L (nP+1) (updP Q nP R) LS (PS ++ [.slice a g c]):=by
 have b1:=bel_one w1 (.cells #[.slice a g c] 24)
 have f5:Fr (fun k=>tvP.ownBlock=some k) w1 w5:=((Fr.refl _ w1).next b1).grown hgrow (fun k e _=>e)
 have hg0:tvP.ownBlock=some g0∨g0=w1.heap.size+1:=hat.imp id (fun e=>by rw [e];simp)
 have ll:=own_len h.rP
 have key:∀ b,b<w1.heap.size→NB Y tvL tvP b→NB Y tvL (.slice (some ⟨g0,0,none⟩) (nP+1) cap0) b:=fun b hb nb=>⟨nb.1,fun q=>by
   have e:g0=b:=by simpa [Value.ownBlock] using q
   rcases hg0 with q' | q'
   ·exact nb.2.1 (by rw [q',e])
   ·omega,nb.2.2⟩
 have goL:∀ (a:Option Addr) (c:Nat) (X:List T),RLo (NB Y tvL tvP) w1 a c X→RLo (NB Y tvL (.slice (some ⟨g0,0,none⟩) (nP+1) cap0)) w5 a c X:=fun a c X hx=>
  ((hx.mono (N':=fun b=>NB Y tvL tvP b∧b<w1.heap.size) (fun b hb nb=>⟨nb,hb⟩)).fr f5 (fun b nb q=>nb.1.2.1 q)).mono (fun b _ nb=>key b nb.2 nb.1)
 have goS:∀ (a:Option Addr) (c:Nat) (ad:Nat→Option Addr) (cp:Nat→Nat) (X:Nat→List T),RSo (NB Y tvL tvP) w1 a g c ad cp X→RSo (NB Y tvL (.slice (some ⟨g0,0,none⟩) (nP+1) cap0)) w5 a g c ad cp X:=fun a c ad cp X hx=>
  ((hx.mono (N':=fun b=>NB Y tvL tvP b∧b<w1.heap.size) (fun b hb nb=>⟨nb,hb⟩)).fr f5 (fun b nb q=>nb.1.2.1 q)).mono (fun b _ nb=>key b nb.2 nb.1)
 refine ⟨f5.owns h.rL (fun k hk q=>(h.nL k hk).1 q),hown,fun i hi=>(h.eL i hi).imp fun a ⟨c,e,hr⟩=>⟨c,e,goL a c _ hr⟩,fun i hi=>?_,fun k hk=>?_,fun k hk=>?_⟩
 ·by_cases e:i=nP
  ·subst e
   refine ⟨a,c,ad,cp,?_,?_⟩
   ·rw [get_app_eq ll.symm]
   ·unfold updP;rw [if_pos rfl];exact goS a c ad cp R hr
  ·obtain ⟨a',c',ad',cp',e1,hr'⟩:=h.eP i (by omega)
   refine ⟨a',c',ad',cp',?_,?_⟩
   ·rw [get_app_lt (by omega),e1]
   ·unfold updP;rw [if_neg e];exact goS a' c' ad' cp' _ hr'
 ·refine ⟨fun q=>?_,(h.nL k hk).2⟩
  have e:g0=k:=by simpa [Value.ownBlock] using q
  subst e
  rcases hg0 with q' | q'
  ·exact (h.nL g0 hk).1 q'
  ·have:=(h.rL.lt g0 hk).2;omega
 ·have e:g0=k:=by simpa [Value.ownBlock] using hk
  subst e
  rcases hg0 with q | q
  ·exact h.nP g0 q
  ·exact fun q'=>by have:=hY g0 q';omega
end Go.Proofs.YtdidlcjhodejjaaGreat
namespace Go.Proofs.YtdidlcjhodejjaaGreat
open Go.RowKit Go.Deep Go.Joins
set_option linter.unusedVariables false
theorem infoS3:(Tryz.prog.info? 24).map (fun i=>(i.zero,i.size,i.bytes))=some (some (.slice none 0 0),1,24):=by kernel_rfl
def StepP (Y:Nat→Prop) (w:World) (lo:Nat) (tvL tvP:Value) (d:Bool) (g:Nat) (B:Bs) (E:Option Bs) (r:Ending) (w':World):Prop:=
 (E=none∧r=.returned (.tuple #[.agg #[tvL,tvP,.bool d],.bool false])∧Below w.heap.size w w')∨(∃ B' tvL' tvP' LS PS,E=some B'∧r=.returned (.tuple #[.agg #[tvL',tvP',.bool d],.bool true])∧Fr (fun k=>tvL.ownBlock=some k∨tvP.ownBlock=some k) w w'∧BsW Y w' lo tvL' tvP' g B'.m B'.L B'.m B'.P LS PS)
def Own3 (w:World) (b:Nat) (v0 v1 v2:Value):Prop:=(w.cell? ⟨b,0,none⟩=some v0∧w.cell? ⟨b,1,none⟩=some v1∧w.cell? ⟨b,2,none⟩=some v2)∧∀ j,w.frozen? ⟨b,j,none⟩=false
theorem Own3.lt {w:World} {b:Nat} {v0 v1 v2:Value} (h:Own3 w b v0 v1 v2):b<w.heap.size:=World.block_lt_of_cell? w _ h.1.1
theorem Own3.fr {P:Nat→Prop} {w w':World} {b:Nat} {v0 v1 v2:Value} (h:Own3 w b v0 v1 v2) (hf:Fr P w w') (hp:¬ P b):Own3 w' b v0 v1 v2:=
 ⟨⟨(hf.cell h.lt hp).trans h.1.1,(hf.cell h.lt hp).trans h.1.2.1,(hf.cell h.lt hp).trans h.1.2.2⟩,fun j=>(hf.frozen h.lt hp).trans (h.2 j)⟩
theorem Own3.below {w w':World} {b:Nat} {v0 v1 v2:Value} (h:Own3 w b v0 v1 v2) (hb:Below w.heap.size w w'):Own3 w' b v0 v1 v2:=h.fr (P:=fun _=>False) (Fr.of_below hb) (fun q=>q)
theorem Own3.box (w:World) (y:TypeId) (v0 v1 v2:Value):Own3 (w.alloc (.cells #[v0,v1,v2] y)) w.heap.size v0 v1 v2:=
 ⟨⟨by rw [World.cell?_alloc_at _ _ _ _ rfl];rfl,by rw [World.cell?_alloc_at _ _ _ _ rfl];rfl,by rw [World.cell?_alloc_at _ _ _ _ rfl];rfl⟩,fun j=>by rw [World.frozen?_alloc_at _ _ _ _ rfl]⟩
abbrev S4p (bx:Nat) (lv:Value) (lb x y:Nat) (v1 v2:Value) (u:World):Prop:=u.cell? ⟨bx,0,none⟩=some lv∧u.cell? ⟨lb,x,none⟩=some v1∧u.cell? ⟨lb,y,none⟩=some v2
theorem S4p.below {u u':World} {bx:Nat} {lv:Value} {lb x y:Nat} {v1 v2:Value} (h:S4p bx lv lb x y v1 v2 u) (hb:Below u.heap.size u u'):S4p bx lv lb x y v1 v2 u':=
 ⟨(hb.cell (p:=⟨bx,0,none⟩) (World.block_lt_of_cell? u _ h.1)).trans h.1,(hb.cell (p:=⟨lb,x,none⟩) (World.block_lt_of_cell? u _ h.2.1)).trans h.2.1,(hb.cell (p:=⟨lb,y,none⟩) (World.block_lt_of_cell? u _ h.2.2)).trans h.2.2⟩
abbrev S5p (w1:World) (bx:Nat) (lv:Value) (lb x y:Nat) (v1 v2:Value) (u:World):Prop:=Below w1.heap.size w1 u∧u.cell? ⟨bx,0,none⟩=some lv∧u.cell? ⟨lb,x,none⟩=some v1∧u.cell? ⟨lb,y,none⟩=some v2
section
variable {w1 u u':World} {bx:Nat} {lv:Value} {lb x y:Nat} {v1 v2:Value}
theorem st5_below (hb:Below u.heap.size u u') (h:S5p w1 bx lv lb x y v1 v2 u):S5p w1 bx lv lb x y v1 v2 u':=⟨h.1.trans (hb.mono h.1.size),S4p.below h.2 hb⟩
theorem st5_alloc {A:Obj} (h:S5p w1 bx lv lb x y v1 v2 u):S5p w1 bx lv lb x y v1 v2 (u.alloc A):=st5_below (bel_one u A) h
theorem st5_drew (h:S5p w1 bx lv lb x y v1 v2 u):S5p w1 bx lv lb x y v1 v2 u.drew:=st5_below (Below.refl _ _).drew h
theorem st5_of (h0:S5p w1 bx lv lb x y v1 v2 w1) (h1:bx<w1.heap.size) (h2:lb<w1.heap.size) (hb:Below w1.heap.size w1 u):S5p w1 bx lv lb x y v1 v2 u:=⟨hb,(hb.cell (p:=⟨bx,0,none⟩) h1).trans h0.2.1,(hb.cell (p:=⟨lb,x,none⟩) h2).trans h0.2.2.1,(hb.cell (p:=⟨lb,y,none⟩) h2).trans h0.2.2.2⟩
theorem bw_al {o:Obj} (h:Below w1.heap.size w1 u):Below w1.heap.size w1 (u.alloc o):=h.alloc h.size o
theorem bw_s1 {G o:Nat} {v:Value} (h:Below w1.heap.size w1 u) (hG:w1.heap.size≤G):Below w1.heap.size w1 (u.setCell ⟨G,o,none⟩ v):=h.setCell hG _
end
theorem two_zero {w v : World} (hv : Below ((w.alloc (.cells #[.int .i64 0, .int .i64 0, .int .i64 0, .int .i64 0, .int .i64 0] 42)).alloc (.cells #[.int .i64 0, .int .i64 0, .int .i64 0, .int .i64 0, .int .i64 0] 42)).drew.heap.size ((w.alloc (.cells #[.int .i64 0, .int .i64 0, .int .i64 0, .int .i64 0, .int .i64 0] 42)).alloc (.cells #[.int .i64 0, .int .i64 0, .int .i64 0, .int .i64 0, .int .i64 0] 42)).drew v) : Own5 v w.heap.size ⟨0, ⟨0, 0, 0, 0⟩⟩ ∧ Own5 v (w.heap.size + 1) ⟨0, ⟨0, 0, 0, 0⟩⟩ :=
  ⟨(((Own5.box w 42 ⟨0, ⟨0, 0, 0, 0⟩⟩).below (bel_one _ _)).below (Below.refl _ _).drew).below hv, by
    have := ((Own5.box (w.alloc (.cells #[.int .i64 0, .int .i64 0, .int .i64 0, .int .i64 0, .int .i64 0] 42)) 42 ⟨0, ⟨0, 0, 0, 0⟩⟩).below (Below.refl _ _).drew).below hv
    rwa [show (w.alloc (.cells #[.int .i64 0, .int .i64 0, .int .i64 0, .int .i64 0, .int .i64 0] 42)).heap.size = w.heap.size + 1 by simp] at this⟩
theorem one_zero {w v:World} (hv:Below (w.alloc (.cells #[.int .i64 0,.int .i64 0,.int .i64 0,.int .i64 0,.int .i64 0] 42)).drew.heap.size (w.alloc (.cells #[.int .i64 0,.int .i64 0,.int .i64 0,.int .i64 0,.int .i64 0] 42)).drew v):Own5 v w.heap.size ⟨0,⟨0,0,0,0⟩⟩:=((Own5.box w 42 ⟨0,⟨0,0,0,0⟩⟩).below (Below.refl _ _).drew).below hv
theorem stepB_no {o:Int} {g:Nat} {B:Bs} {i k:Nat} {s:List T} (h:spP o (B.L i) (B.L k)=(s,false)):stepB o g B i k=none:=by unfold stepB;rw [h]
theorem stepB_none {o:Int} {g:Nat} {B:Bs} {i k:Nat} {s:List T} (h:spP o (B.L i) (B.L k)=(s,true)) (hr:redAll o s B.m (lN B.L) (fN B.L)=none):stepB o g B i k=none:=by unfold stepB;rw [h];simp only [hr]
theorem stepB_same {o:Int} {g:Nat} {B:Bs} {i k:Nat} {s:List T} {S:Dv} (h:spP o (B.L i) (B.L k)=(s,true)) (hr:redAll o s B.m (lN B.L) (fN B.L)=some S) (h0:S.r.length=0):stepB o g B i k=some B:=by unfold stepB;rw [h];simp only [hr,if_pos h0]
theorem stepB_full {o:Int} {g:Nat} {B:Bs} {i k:Nat} {s:List T} {S:Dv} (h:spP o (B.L i) (B.L k)=(s,true)) (hr:redAll o s B.m (lN B.L) (fN B.L)=some S) (h0:S.r.length≠0) (hm:B.m=12):stepB o g B i k=none:=by unfold stepB;rw [h];simp only [hr,if_neg h0,if_pos hm]
theorem stepB_much {o:Int} {g:Nat} {B:Bs} {i k:Nat} {s:List T} {S:Dv} (h:spP o (B.L i) (B.L k)=(s,true)) (hr:redAll o s B.m (lN B.L) (fN B.L)=some S) (h0:S.r.length≠0) (hm:B.m≠12) (hd:made g B.P i k (spU o (B.L i) (B.L k)) (spV o (B.L i) (B.L k)) B.m S.q=none):stepB o g B i k=none:=by unfold stepB;rw [h];simp only [hr,if_neg h0,if_neg hm,hd]
theorem stepB_more {o:Int} {g:Nat} {B:Bs} {i k:Nat} {s:List T} {S:Dv} {R:Nat→List T} (h:spP o (B.L i) (B.L k)=(s,true)) (hr:redAll o s B.m (lN B.L) (fN B.L)=some S) (h0:S.r.length≠0) (hm:B.m≠12) (hd:made g B.P i k (spU o (B.L i) (B.L k)) (spV o (B.L i) (B.L k)) B.m S.q=some R):stepB o g B i k=some (addB B S.r R):=by unfold stepB;rw [h];simp only [hr,if_neg h0,if_neg hm,hd]
theorem bel_s3 {a w:World} {B:Nat} (h:Below a.heap.size a w) (hB:a.heap.size≤B) (u0 u1 u2:Value):Below a.heap.size a (((w.setCell ⟨B,0,none⟩ u0).setCell ⟨B,1,none⟩ u1).setCell ⟨B,2,none⟩ u2):=((h.setCell hB _).setCell hB _).setCell hB _
theorem Own3.set0 {w:World} {b:Nat} {v0 v1 v2:Value} (h:Own3 w b v0 v1 v2) (v:Value):Own3 (w.setCell ⟨b,0,none⟩ v) b v v1 v2:=⟨⟨sc_same h.1.1,(sc_other (neQ (by decide))).trans h.1.2.1,(sc_other (neQ (by decide))).trans h.1.2.2⟩,fun j=>(World.frozen?_setCell ..).trans (h.2 j)⟩
theorem Own3.set1 {w:World} {b:Nat} {v0 v1 v2:Value} (h:Own3 w b v0 v1 v2) (v:Value):Own3 (w.setCell ⟨b,1,none⟩ v) b v0 v v2:=⟨⟨(sc_other (neQ (by decide))).trans h.1.1,sc_same h.1.2.1,(sc_other (neQ (by decide))).trans h.1.2.2⟩,fun j=>(World.frozen?_setCell ..).trans (h.2 j)⟩
theorem NB.far {Y:Nat→Prop} {tvL tvP:Value} {m:Nat} (h1:∀ k,tvL.ownBlock=some k→k<m) (h2:∀ k,tvP.ownBlock=some k→k<m) (h3:∀ k,Y k→k<m) {b:Nat} (hb:m≤b):NB Y tvL tvP b:=⟨fun e=>by have:=h1 b e;omega,fun e=>by have:=h2 b e;omega,fun e=>by have:=h3 b e;omega⟩
theorem rso_outs {lo hi:Nat} {w:World} {a:Option Addr} {n c:Nat} {ad:Nat→Option Addr} {cp:Nat→Nat} {R:Nat→List T} {Rb:Nat} {B:Nat→Nat} (h:OutS lo w a n c ad (lN R) cp (fN R) Rb B) (hhi:w.heap.size≤hi):RSo (fun b=>lo≤b∧b<hi) w a n c ad cp R:=by
 refine ⟨h.rd,?_,fun j hj=>?_⟩
 ·rcases h.row with h0 | ⟨off,e,hlo⟩
  ·exact .inl h0
  ·rcases h.rd.2.2.1 with h0 | ⟨b,off',e',hlt,_⟩
   ·exact .inl h0
   ·refine .inr fun b2 o2 e2=>?_
    rw [e] at e2 e'
    cases e2;cases e'
    exact ⟨hlo,by omega⟩
 ·rcases h.el j hj with h0 | ⟨off,e,hlo,_⟩
  ·exact .inl h0
  ·rcases (h.rd.2.2.2 j hj).2.2 with h0 | ⟨b,off',e',hlt,_⟩
   ·exact .inl h0
   ·refine .inr fun b2 o2 e2=>?_
    rw [e] at e2 e'
    cases e2;cases e'
    exact ⟨hlo,by omega⟩
theorem rlo_off {m:Nat} {w:World} {a:Option Addr} {c:Nat} {L:List T} (h:RL w a c L) (hf:∀ x,x<m→Off a L.length x):RLo (fun b=>m≤b) w a c L:=⟨h,by
 by_cases h0:L.length=0
 ·exact .inl h0
 ·refine .inr fun b off e=>?_
  by_cases hb:b<m
  ·rcases hf b hb with q | q
   ·exact absurd q h0
   ·exact absurd rfl (q b off e)
  ·omega⟩
structure M8 (Y:Nat→Prop) (w:World) (lo:Nat) (vL vP:Value) (d:Bool) (g:Nat) (B:Bs) (r:List T) (LS PS:List Value) (ya:Option Addr) (yc:Nat) (yad:Nat→Option Addr) (ycp:Nat→Nat) (RW:Nat→List T) (g1 cap1:Nat) (w8:World):Prop where
 box0:Own3 w8 w.heap.size vL vP (.bool d)
 book:BsW Y (w8.setCell ⟨w.heap.size,0,none⟩ (.slice (some ⟨g1,0,none⟩) (B.m+1) cap1)) lo (.slice (some ⟨g1,0,none⟩) (B.m+1) cap1) vP g (B.m+1) (updL B.L B.m r) B.m B.P LS PS
 box:Own3 (w8.setCell ⟨w.heap.size,0,none⟩ (.slice (some ⟨g1,0,none⟩) (B.m+1) cap1)) w.heap.size (.slice (some ⟨g1,0,none⟩) (B.m+1) cap1) vP (.bool d)
 res:Own3 (w8.setCell ⟨w.heap.size,0,none⟩ (.slice (some ⟨g1,0,none⟩) (B.m+1) cap1)) (w.heap.size+1) (.slice none 0 0) (.slice none 0 0) (.bool false)
 row:RSo (NB Y (.slice (some ⟨g1,0,none⟩) (B.m+1) cap1) vP) (w8.setCell ⟨w.heap.size,0,none⟩ (.slice (some ⟨g1,0,none⟩) (B.m+1) cap1)) ya g yc yad ycp RW
 fr:Fr (fun k=>vL.ownBlock=some k∨vP.ownBlock=some k) w (w8.setCell ⟨w.heap.size,0,none⟩ (.slice (some ⟨g1,0,none⟩) (B.m+1) cap1))
 lo8:w.heap.size≤w8.heap.size
 at1:vL.ownBlock=some g1∨w.heap.size≤g1
theorem M8.news {Y:Nat→Prop} {w:World} {lo:Nat} {vL vP:Value} {d:Bool} {g:Nat} {B:Bs} {r:List T} {LS PS:List Value} {ya:Option Addr} {yc:Nat} {yad:Nat→Option Addr} {ycp:Nat→Nat} {RW:Nat→List T} {g1 cap1:Nat} {w8:World} (h:M8 Y w lo vL vP d g B r LS PS ya yc yad ycp RW g1 cap1 w8):∀ j u,[Value.slice ya g yc][j]? = some u→((w8.setCell ⟨w.heap.size,0,none⟩ (.slice (some ⟨g1,0,none⟩) (B.m+1) cap1)).alloc (.cells #[.slice ya g yc] 24)).cell? ((⟨w8.heap.size,0,none⟩:Addr).add j)=some u:=by
 have:=World.news_of_block (heap_alloc_new (w8.setCell ⟨w.heap.size,0,none⟩ (.slice (some ⟨g1,0,none⟩) (B.m+1) cap1)) (.cells #[.slice ya g yc] 24))
 rwa [World.size_setCell] at this
structure M9 (Y:Nat→Prop) (w:World) (lo:Nat) (vL vP:Value) (d:Bool) (g:Nat) (B:Bs) (r:List T) (LS PS:List Value) (RW:Nat→List T) (g1 cap1 g2 cap2:Nat) (w10:World):Prop where
 box0:Own3 w10 w.heap.size (.slice (some ⟨g1,0,none⟩) (B.m+1) cap1) vP (.bool d)
 res:Own3 w10 (w.heap.size+1) (.slice none 0 0) (.slice none 0 0) (.bool false)
 book:BsW Y w10 lo (.slice (some ⟨g1,0,none⟩) (B.m+1) cap1) (.slice (some ⟨g2,0,none⟩) (B.m+1) cap2) g (B.m+1) (updL B.L B.m r) (B.m+1) (updP B.P B.m RW) LS PS
 fr:Fr (fun k=>vL.ownBlock=some k∨vP.ownBlock=some k) w w10
 at1:vL.ownBlock=some g1∨w.heap.size≤g1
 at2:vP.ownBlock=some g2∨w.heap.size≤g2
theorem M8.next {Y:Nat→Prop} {w:World} {lo:Nat} {vL vP:Value} {d:Bool} {g:Nat} {B:Bs} {r:List T} {LS PS:List Value} {ya:Option Addr} {yc:Nat} {yad:Nat→Option Addr} {ycp:Nat→Nat} {RW:Nat→List T} {g1 cap1:Nat} {w8:World} (h:M8 Y w lo vL vP d g B r LS PS ya yc yad ycp RW g1 cap1 w8) (hYs:∀ b,Y b→b<w.heap.size+2) (hY:Y w.heap.size∧Y (w.heap.size+1)) (hlo:lo≤w.heap.size) {g2 cap2:Nat} {w10:World}
  (ho:w10.ownsRow lo 24 1 (.slice (some ⟨g2,0,none⟩) (B.m+1) cap2) (B.m+1) (PS ++ [.slice ya g yc])) (hg:((w8.setCell ⟨w.heap.size,0,none⟩ (.slice (some ⟨g1,0,none⟩) (B.m+1) cap1)).alloc (.cells #[.slice ya g yc] 24)).grownBy w10 vP.ownBlock) (ha:vP.ownBlock=some g2∨g2=((w8.setCell ⟨w.heap.size,0,none⟩ (.slice (some ⟨g1,0,none⟩) (B.m+1) cap1)).alloc (.cells #[.slice ya g yc] 24)).heap.size) :
  M9 Y w lo vL vP d g B r LS (PS ++ [.slice ya g yc]) RW g1 cap1 g2 cap2 w10:=by
 have hb:=h.box.lt
 have hr:=h.res.lt
 have f10:=((Fr.refl (fun k=>vP.ownBlock=some k) (w8.setCell ⟨w.heap.size,0,none⟩ (.slice (some ⟨g1,0,none⟩) (B.m+1) cap1))).next (bel_one _ (.cells #[.slice ya g yc] 24))).grown hg (fun k e _=>e)
 have nY:∀ b,Y b→vP.ownBlock≠some b:=fun b q e=>h.book.nP b e q
 refine ⟨h.box.fr f10 (nY _ hY.1),h.res.fr f10 (nY _ hY.2),h.book.appP (fun b q=>?_) h.row hg ho ha,h.fr.trans (f10.mono (fun k _ e=>.inr e)),h.at1,ha.imp id (fun e=>?_)⟩
 ·have:=hYs b q;omega
 ·rw [e,World.size_alloc]
  have:=h.lo8
  rw [World.size_setCell]
  omega
theorem M9.fin {Y:Nat→Prop} {w:World} {lo:Nat} {vL vP:Value} {d:Bool} {g:Nat} {B:Bs} {r:List T} {LS PS:List Value} {RW:Nat→List T} {g1 cap1 g2 cap2:Nat} {w10:World} (h:M9 Y w lo vL vP d g B r LS PS RW g1 cap1 g2 cap2 w10) (hY:Y w.heap.size∧Y (w.heap.size+1)) {Y0:Nat→Prop} (hYu:∀ b,Y0 b→Y b) {E:Option Bs} (hE:E=some (addB B r RW)) {u0 u1 u2 u3:Value} (hlo:lo≤w.heap.size) :
  StepP Y0 w lo vL vP d g B E (.returned (.tuple #[.agg #[.slice (some ⟨g1,0,none⟩) (B.m+1) cap1,.slice (some ⟨g2,0,none⟩) (B.m+1) cap2,.bool d],.bool true])) ((((w10.setCell ⟨w.heap.size,1,none⟩ u0).setCell ⟨w.heap.size+1,0,none⟩ u1).setCell ⟨w.heap.size+1,1,none⟩ u2).setCell ⟨w.heap.size+1,2,none⟩ u3):=by
 exact .inr ⟨_,_,_,LS,PS,hE,rfl,(((h.fr.set (fun q=>by omega)).set (fun q=>by omega)).set (fun q=>by omega)).set (fun q=>by omega),(h.book.fr (((((Fr.refl Y w10).set (fun _=>hY.1)).set (fun _=>hY.2)).set (fun _=>hY.2)).set (fun _=>hY.2)) (fun b q=>q)).yet (fun b _ q=>hYu b q)⟩
set_option maxRecDepth 100000 in
set_option maxHeartbeats 16000000 in
theorem l9StepS (Y0:Nat→Prop) (w:World) (hY0:∀ b,Y0 b→b<w.heap.size) (lo:Nat) (tvL tvP:Value) (d:Bool) (g:Nat) (hg:g≤12) (B:Bs) (LS PS:List Value) (o:Int) (hB:BsOk o g B) (h:BsW Y0 w lo tvL tvP g B.m B.L B.m B.P LS PS) (i k:Nat) (hi:i<B.m) (hk:k<B.m) (hlo:lo≤w.heap.size) :
  Calls Tryz.prog 97 #[.int .i64 o,.agg #[tvL,tvP,.bool d],.int .i64 (i:Int),.int .i64 (k:Int)] w (StepP Y0 w lo tvL tvP d g B (stepB o g B i k)):=by
 obtain ⟨i0,hi0,hz0,hz1,hz2⟩:=info_parts infoSL
 obtain ⟨i1,hi1,hy0,hy1,hy2⟩:=info_parts infoS3
 have m12:=(lstOk_all hB.l).1
 obtain ⟨la,lc,ad,cp,rfl,hRL⟩:=h.readL (by omega)
 obtain ⟨pa,pc,A,C,AD,CP,rfl,hRP⟩:=h.readP (by omega)
 have hil:(i:Int)<(B.m:Int):=by omega
 have hkl:(k:Int)<(B.m:Int):=by omega
 have hml:(B.m:Int)≤12:=by omega
 rcases hRL.2.2.1 with h0 | ⟨lb,off,rfl,hlb,hcl⟩
 ·omega
 have HW:=Hid.mk' h
 have HOK:=Hid.mk' hB
 have HL0:=Hid.mk' hRL
 have HP0:=Hid.mk' hRP
 have HC0:=Hid.mk' hcl
 obtain ⟨vl,hvl⟩:∃ v:Value,v=.slice (some ⟨lb,off,none⟩) B.m lc:=⟨_,rfl⟩
 have HBX0:=Hid.mk' (((Own3.box w 77 (.slice (some ⟨lb,off,none⟩) B.m lc) (.slice pa B.m pc) (.bool d)).below (bel_one _ (.cells #[.slice none 0 0,.slice none 0 0,.bool false] 77))))
 have HRX0:=Hid.mk' (Own3.box (w.alloc (.cells #[.slice (some ⟨lb,off,none⟩) B.m lc,.slice pa B.m pc,.bool d] 77)) 77 (.slice none 0 0) (.slice none 0 0) (.bool false))
 have HBW0:=Hid.mk' (bel_two w (.cells #[.slice (some ⟨lb,off,none⟩) B.m lc,.slice pa B.m pc,.bool d] 77) (.cells #[.slice none 0 0,.slice none 0 0,.bool false] 77))
 clear h hB hRL hRP hcl
 go_enter Tryz.func97,Tryz.ntmps97
 go_wp2_with fail
 rw [show (w.alloc (.cells #[.slice (some ⟨lb,off,none⟩) B.m lc,.slice pa B.m pc,.bool d] 77)).heap.size=w.heap.size+1 by simp] at HRX0
 generalize (w.alloc (.cells #[.slice (some ⟨lb,off,none⟩) B.m lc,.slice pa B.m pc,.bool d] 77)).alloc (.cells #[.slice none 0 0,.slice none 0 0,.bool false] 77)=w1 at HBX0 HRX0 HBW0 ⊢
 obtain ⟨⟨k0,k1,k2⟩,kz⟩:=HBX0.out
 have HL1:=Hid.mk' (HL0.out.below HBW0.out)
 have c1:w1.cell? ⟨lb,off+i,none⟩=some (.slice (ad i) (B.L i).length (cp i)):=(HBW0.out.cell (p:=⟨lb,off+i,none⟩) hlb).trans (HC0.out i hi)
 have c2:w1.cell? ⟨lb,off+k,none⟩=some (.slice (ad k) (B.L k).length (cp k)):=(HBW0.out.cell (p:=⟨lb,off+k,none⟩) hlb).trans (HC0.out k hk)
 obtain ⟨u,hu⟩:∃ u,spU o (B.L i) (B.L k)=u:=⟨_,rfl⟩
 obtain ⟨v,hv⟩:∃ v,spV o (B.L i) (B.L k)=v:=⟨_,rfl⟩
 obtain ⟨sk,hsk⟩:∃ b,sprOk o (B.L i).length (lf (B.L i)) (B.L k).length (lf (B.L k))=b:=⟨_,rfl⟩
 have hsp:∀ W:World,Below w1.heap.size w1 W→Calls Tryz.prog 136 #[.int .i64 o,.slice (ad i) (B.L i).length (cp i),.slice (ad k) (B.L k).length (cp k)] W fun r w'=>r=.returned (.tuple #[.agg #[.int .i64 u.c,.int .i64 u.m.x,.int .i64 u.m.y,.int .i64 u.m.d,.int .i64 u.m.e],.agg #[.int .i64 v.c,.int .i64 v.m.x,.int .i64 v.m.y,.int .i64 v.m.d,.int .i64 v.m.e],.bool sk])∧Below W.heap.size W w':=fun W hW=>by
  have:=sprTermsS W o (ad i) (B.L i).length (cp i) (lf (B.L i)) (ad k) (B.L k).length (cp k) (lf (B.L k)) ((HL1.out.2.2.2 i hi).below hW) ((HL1.out.2.2.2 k hk).below hW)
  rw [hsk,show sprU o (B.L i).length (lf (B.L i)) (B.L k).length (lf (B.L k))=u from hu,show sprV o (B.L i).length (lf (B.L i)) (B.L k).length (lf (B.L k))=v from hv] at this
  exact this
 have HSP:=Hid.mk' hsp
 have HU:=Hid.mk' hu
 have HV:=Hid.mk' hv
 clear hsp hu hv hsk hvl
 have hbx:w.heap.size<w1.heap.size:=World.block_lt_of_cell? w1 _ k0
 have hlb1:lb<w1.heap.size:=by omega
 have hS0:S5p w1 w.heap.size (.slice (some ⟨lb,off,none⟩) B.m lc) lb (off+i) (off+k) (.slice (ad i) (B.L i).length (cp i)) (.slice (ad k) (B.L k).length (cp k)) w1:=⟨Below.refl _ _,k0,c1,c2⟩
 refine Code.wp_mono (Q:=NoPanic fun e a z=>e=Exit.normal∧∃ (g10 g11:Nat) (x20 x21 x22 x23 x24 x25 x26 x27 x28 x29 x30 x31 x32 x33 x34 x35:Value),a={ tmps:=#[.int .i64 o,.agg #[.slice (some ⟨lb,off,none⟩) B.m lc,.slice pa B.m pc,.bool d],.int .i64 (i:Int),.int .i64 (k:Int),undef,.pointer (some ⟨w.heap.size,0,none⟩),undef,undef,.pointer (some ⟨w.heap.size+1,0,none⟩),.bool false,.pointer (some ⟨g10,0,none⟩),.pointer (some ⟨g11,0,none⟩),.bool sk,undef,undef,undef,undef,undef,undef,undef,x20,x21,x22,x23,x24,x25,x26,x27,x28,x29,x30,x31,x32,x33,x34,x35,undef,undef,undef,undef,undef,undef,undef,undef,undef,undef,undef,undef,undef,undef,undef,undef,undef,undef,undef,undef,undef,undef,undef,undef,undef,undef,undef,undef,undef,undef,undef,undef,undef,undef,undef,undef,undef,undef,undef,undef,undef,undef,undef,undef,undef,undef,undef,undef,undef,undef,undef,undef,undef,undef,undef,undef,undef,undef,undef,undef,undef,undef,undef,undef,undef,undef,undef,undef,undef,undef,undef],defers:=[] }∧C5 z g10 u∧C5 z g11 v∧Below w1.heap.size w1 z) ?_ ?_
 rotate_left
 ·go_region_held3 (fun q=>Below w1.heap.size w1 q∧q.cell? ⟨w.heap.size,0,none⟩=some (.slice (some ⟨lb,off,none⟩) B.m lc)∧q.cell? ⟨lb,off+i,none⟩=some (.slice (ad i) (B.L i).length (cp i))∧q.cell? ⟨lb,off+k,none⟩=some (.slice (ad k) (B.L k).length (cp k))) (first | (((with_reducible refine st5_of hS0 hbx hlb1 ?_);(repeat (first | with_reducible exact HB4.out | with_reducible refine bw_al ?_ | ((with_reducible refine bw_s1 ?_ ?_);rotate_left;(first | with_reducible exact Nat.le_refl _ | with_reducible exact hs4 | with_reducible exact Nat.le_succ _ | with_reducible exact Nat.le_succ_of_le hs4)))));done) | with_reducible exact hS0 | with_reducible exact st5_drew hS0 | with_reducible exact st5_alloc hS0 | with_reducible exact st5_below hb4 (by assumption) | with_reducible exact st5_drew (st5_alloc hS0) | with_reducible exact st5_alloc (st5_alloc hS0) | with_reducible exact st5_drew (st5_alloc (st5_alloc hS0))) (first | (go_at_call 136;refine (HSP.out _ ?_).mono ?_;(first | with_reducible exact (Below.refl _ w1).drew | with_reducible exact (bel_one w1 (.cells #[.int .i64 0,.int .i64 0,.int .i64 0,.int .i64 0,.int .i64 0] 42)).drew | with_reducible exact (bel_two w1 (.cells #[.int .i64 0,.int .i64 0,.int .i64 0,.int .i64 0,.int .i64 0] 42) (.cells #[.int .i64 0,.int .i64 0,.int .i64 0,.int .i64 0,.int .i64 0] 42)).drew);rintro r w4 ⟨rfl,hb4⟩;(have hB4:Below w1.heap.size w1 w4:=by first | with_reducible exact bel_next (Below.refl _ w1).drew hb4 | with_reducible exact bel_next (bel_one w1 (.cells #[.int .i64 0,.int .i64 0,.int .i64 0,.int .i64 0,.int .i64 0] 42)).drew hb4 | with_reducible exact bel_next (bel_two w1 (.cells #[.int .i64 0,.int .i64 0,.int .i64 0,.int .i64 0,.int .i64 0] 42) (.cells #[.int .i64 0,.int .i64 0,.int .i64 0,.int .i64 0,.int .i64 0] 42)).drew hb4);(try (first | ((with_reducible have hz4:=two_zero (w:=w1) hb4);obtain ⟨⟨⟨z0,z1,z2,z3,z4⟩,zf⟩,⟨⟨y0,y1,y2,y3,y4⟩,yf⟩⟩:=hz4;have hl4:w1.heap.size<w4.heap.size:=World.block_lt_of_cell? w4 _ z0;have hl5:w1.heap.size+1<w4.heap.size:=World.block_lt_of_cell? w4 _ y0) | ((with_reducible have hz4:=one_zero (w:=w1) hb4);obtain ⟨⟨z0,z1,z2,z3,z4⟩,zf⟩:=hz4;have hl4:w1.heap.size<w4.heap.size:=World.block_lt_of_cell? w4 _ z0;have hn4:w4.heap.size≠w1.heap.size:=Nat.ne_of_gt hl4;have hn5:w1.heap.size≠w4.heap.size:=Nat.ne_of_lt hl4;obtain ⟨⟨a0,a1,a2,a3,a4⟩,af⟩:=Own5.below (⟨⟨z0,z1,z2,z3,z4⟩,zf⟩:Own5 w4 w1.heap.size ⟨0,⟨0,0,0,0⟩⟩) (bel_one w4 (.cells #[.int .i64 0,.int .i64 0,.int .i64 0,.int .i64 0,.int .i64 0] 42));obtain ⟨⟨b0,b1,b2,b3,b4⟩,bf⟩:=Own5.below (⟨⟨z0,z1,z2,z3,z4⟩,zf⟩:Own5 w4 w1.heap.size ⟨0,⟨0,0,0,0⟩⟩) (bel_one w4 (.cells #[.int .i64 u.c,.int .i64 u.m.x,.int .i64 u.m.y,.int .i64 u.m.d,.int .i64 u.m.e] 42)))));have hs4:=hB4.size;have HB4:=Hid.mk' hB4;clear hB4))
  all_goals (
   refine NoPanic.normal ⟨rfl,_,_,_,_,_,_,_,_,_,_,_,_,_,_,_,_,_,_,rfl,⟨by go_simp,by go_simp,by go_simp,by go_simp,by go_simp⟩,⟨by go_simp,by go_simp,by go_simp,by go_simp,by go_simp⟩,?_⟩
   (repeat (first | with_reducible exact HB4.out | with_reducible refine bw_al ?_ | ((with_reducible refine bw_s1 ?_ ?_);rotate_left;(first | with_reducible exact Nat.le_refl _ | with_reducible exact hs4 | with_reducible exact Nat.le_succ _ | with_reducible exact Nat.le_succ_of_le hs4)))))
 ·rintro e a z hqz
  obtain ⟨rfl,g10,g11,x20,x21,x22,x23,x24,x25,x26,x27,x28,x29,x30,x31,x32,x33,x34,x35,rfl,hu5,hv5,hbz⟩:=NoPanic.imp _ _ _ hqz
  have HU5:=Hid.mk' hu5
  have HV5:=Hid.mk' hv5
  have dz:Below z.heap.size z z.drew:=(Below.refl _ _).drew
  have HBZ:=Hid.mk' (bel_next hbz dz)
  have HSZ:Hid (S4p w.heap.size (.slice (some ⟨lb,off,none⟩) B.m lc) lb (off+i) (off+k) (.slice (ad i) (B.L i).length (cp i)) (.slice (ad k) (B.L k).length (cp k)) z.drew):=⟨(HBZ.out.cell (p:=⟨w.heap.size,0,none⟩) hbx).trans k0,(HBZ.out.cell (p:=⟨lb,off+i,none⟩) hlb1).trans c1,(HBZ.out.cell (p:=⟨lb,off+k,none⟩) hlb1).trans c2⟩
  have RA:=Hid.mk' ((HL1.out.2.2.2 i hi).below HBZ.out)
  have RC:=Hid.mk' ((HL1.out.2.2.2 k hk).below HBZ.out)
  obtain ⟨s,sb,hs⟩:∃ s sb,spP o (B.L i) (B.L k)=(s,sb):=⟨_,_,rfl⟩
  have hc:=sprS_L2 (w:=z.drew) o (A:=B.L i) (B:=B.L k) RA.out RC.out
  rw [show sprPoly o (lf (B.L i)) (B.L i).length (lf (B.L k)) (B.L k).length=(s,sb) from hs] at hc
  have HC:=Hid.mk' hc
  have HS:=Hid.mk' hs
  clear hqz hu5 hv5 hbz dz hc hs k0 k1 k2 kz c1 c2 RA RC
  cases sb
  ·have HE:=Hid.mk' (stepB_no (g:=g) HS.out)
   have hS:=HSZ.out
   go_wp2_with fail
   go_region_held3 (fun q=>S4p w.heap.size (.slice (some ⟨lb,off,none⟩) B.m lc) lb (off+i) (off+k) (.slice (ad i) (B.L i).length (cp i)) (.slice (ad k) (B.L k).length (cp k)) q) (first | with_reducible exact hS | with_reducible exact S4p.below hS b5) (first | (go_at_call 137;refine HC.out.mono ?_;rintro e w5 ⟨za,zc,rfl,b5,hz⟩))
   have HB5:=Hid.mk' (bel_next HBZ.out b5)
   have HBXe:=Hid.mk' (HBX0.out.below HB5.out)
   have HRXe:=Hid.mk' (HRX0.out.below HB5.out)
   have HBE:=Hid.mk' (bel_next HBW0.out HB5.out)
   clear hS b5 hz HC
   obtain ⟨⟨e0,e1,e2⟩,ez⟩:=HBXe.out
   obtain ⟨⟨f0,f1,f2⟩,fz⟩:=HRXe.out
   go_wp2
   refine bodyPost_ret (v:=.tuple #[.agg #[.slice (some ⟨lb,off,none⟩) B.m lc,.slice pa B.m pc,.bool d],.bool false]) (by simp [results,Tryz.results97,go_sem, *]) rfl ?_
   exact .inl ⟨HE.out,rfl,bel_s3 HBE.out (Nat.le_succ _) _ _ _⟩
  ·have hS:=HSZ.out
   go_wp2_with fail
   go_region_held3 (fun q=>S4p w.heap.size (.slice (some ⟨lb,off,none⟩) B.m lc) lb (off+i) (off+k) (.slice (ad i) (B.L i).length (cp i)) (.slice (ad k) (B.L k).length (cp k)) q) (first | with_reducible exact hS | with_reducible exact S4p.below hS b5) (first | (go_at_call 137;refine HC.out.mono ?_;rintro e w5 ⟨za,zc,rfl,b5,hz⟩))
   have HZ5:=Hid.mk' hz
   have HB5:=Hid.mk' (bel_next HBZ.out b5)
   have HOKS:=Hid.mk' (spr_ok HS.out)
   have HU5b:=Hid.mk' ((HU5.out.below (Below.refl _ _).drew).below b5)
   have HV5b:=Hid.mk' ((HV5.out.below (Below.refl _ _).drew).below b5)
   have HL5:=Hid.mk' (HL1.out.below HB5.out)
   have HBX5:=Hid.mk' (HBX0.out.below HB5.out)
   obtain ⟨⟨a0,a1,a2⟩,az⟩:=HBX5.out
   obtain ⟨R,hR⟩:∃ R,dvRun o B.m (lN B.L) (fN B.L) 300 (dvOf s)=R:=⟨_,rfl⟩
   have hcl:=l7AllSf w5 o za zc s (some ⟨lb,off,none⟩) B.m lc ad (lN B.L) cp (fN B.L) hz HL5.out HOK.out.ho.1 HOK.out.ho.2 HOKS.out HOK.out.l
   rw [hR] at hcl
   have HCL:=Hid.mk' hcl
   have HRA:Hid (redAll o s B.m (lN B.L) (fN B.L)=R):=(redAll_is HOK.out.ho HOKS.out HOK.out.l).trans hR
   clear hS b5 hz HC hcl hR HU5 HV5
   go_wp2_with fail
   refine HCL.out.mono ?_
   rintro e w6 ⟨b6,h6⟩
   have HB6:=Hid.mk' (bel_next HB5.out b6)
   clear a0 a1 a2 az
   rcases h6 with ⟨S,qa,qc,adQ,cpQ,ra,rc,rfl,rfl,hq6,hr6,hf6⟩ | ⟨rfl,qa,qc,ra,rc,rfl⟩
   rotate_left
   ·have HE:=Hid.mk' (stepB_none (g:=g) HS.out HRA.out)
    have HBXe:=Hid.mk' (HBX0.out.below HB6.out)
    have HRXe:=Hid.mk' (HRX0.out.below HB6.out)
    have HBE:=Hid.mk' (bel_next HBW0.out HB6.out)
    clear b6 HCL
    obtain ⟨⟨e0,e1,e2⟩,ez⟩:=HBXe.out
    obtain ⟨⟨f0,f1,f2⟩,fz⟩:=HRXe.out
    go_wp2
    refine bodyPost_ret (v:=.tuple #[.agg #[.slice (some ⟨lb,off,none⟩) B.m lc,.slice pa B.m pc,.bool d],.bool false]) (by simp [results,Tryz.results97,go_sem, *]) rfl ?_
    exact .inl ⟨HE.out,rfl,bel_s3 HBE.out (Nat.le_succ _) _ _ _⟩
   have HQ6:=Hid.mk' hq6
   have HR6:=Hid.mk' hr6
   have HF6:=Hid.mk' hf6
   have hS300:S.r.length≤300:=(redAll_ok HRA.out).1.r.2
   have HBXe:=Hid.mk' (HBX0.out.below HB6.out)
   have HRXe:=Hid.mk' (HRX0.out.below HB6.out)
   have HBE:=Hid.mk' (bel_next HBW0.out HB6.out)
   have HU6:=Hid.mk' (HU5b.out.below b6)
   have HV6:=Hid.mk' (HV5b.out.below b6)
   have hs56:w5.heap.size≤w6.heap.size:=b6.size
   have hs15:w1.heap.size≤w5.heap.size:=HB5.out.size
   clear b6 HCL hq6 hr6 hf6 HU5b HV5b
   by_cases h0:S.r.length=0
   ·have HE:=Hid.mk' (stepB_same (g:=g) HS.out HRA.out h0)
    have hn0:¬ (0:Int)<(S.r.length:Int):=by omega
    have hq0:((S.r.length:Int) == 0)=true:=by simpa using h0
    clear h0
    obtain ⟨⟨e0,e1,e2⟩,ez⟩:=HBXe.out
    obtain ⟨⟨f0,f1,f2⟩,fz⟩:=HRXe.out
    go_wp2
    refine bodyPost_ret (v:=.tuple #[.agg #[.slice (some ⟨lb,off,none⟩) B.m lc,.slice pa B.m pc,.bool d],.bool true]) (by simp [results,Tryz.results97,go_sem, *]) rfl ?_
    exact .inr ⟨B,_,_,LS,PS,HE.out,rfl,Fr.of_below (bel_s3 HBE.out (Nat.le_succ _) _ _ _),HW.out.below (bel_s3 HBE.out (Nat.le_succ _) _ _ _)⟩
   by_cases h12:B.m=12
   ·have HE:=Hid.mk' (stepB_full (g:=g) HS.out HRA.out h0 h12)
    have hn0:(0:Int)<(S.r.length:Int):=by omega
    have hm12:((B.m:Int) == 12)=true:=by simp [h12]
    clear h0 h12
    obtain ⟨⟨e0,e1,e2⟩,ez⟩:=HBXe.out
    obtain ⟨⟨f0,f1,f2⟩,fz⟩:=HRXe.out
    go_wp2
    refine bodyPost_ret (v:=.tuple #[.agg #[.slice (some ⟨lb,off,none⟩) B.m lc,.slice pa B.m pc,.bool d],.bool false]) (by simp [results,Tryz.results97,go_sem, *]) rfl ?_
    exact .inl ⟨HE.out,rfl,bel_s3 HBE.out (Nat.le_succ _) _ _ _⟩
   have hn0:(0:Int)<(S.r.length:Int):=by omega
   have hm12:((B.m:Int) == 12)=false:=by simp;omega
   have hq0:((S.r.length:Int) == 0)=false:=beq_eq_false_iff_ne.2 (by omega)
   have HH:=Hid.mk' (And.intro h0 h12)
   have hm11:B.m≤11:=by omega
   clear h0 h12
   obtain ⟨⟨gok,gn,gv⟩,gu1,gv1⟩:=spUV_good HS.out
   have HGU:Hid (u.m.ok=true∧1≤u.c∧u.c≤100):=by rw [← HU.out];exact gu1
   have HGV:Hid (v.m.ok=true∧1≤v.c∧v.c≤100):=by rw [← HV.out];exact gv1
   have HQok:Hid (∀ t,t<B.m→okL (S.q t)=true):=fun t _=>okL_of (by have:=((redAll_ok HRA.out).1.q t).2;omega) ((redAll_ok HRA.out).1.q t).1
   obtain ⟨E,hE⟩:∃ E,made g B.P i k u v B.m S.q=E:=⟨_,rfl⟩
   have hcm:=l9MadeS w6 o g B.m hg m12 (.slice (some ⟨lb,off,none⟩) B.m lc) rfl pa pc d A C AD CP B.P (HP0.out.below HBE.out) HOK.out.p i k hi hk u v HGU.out HGV.out qa qc adQ cpQ S.q HQ6.out HQok.out (some ⟨lb,off,none⟩) lc rfl
   rw [hE] at hcm
   have HCM:=Hid.mk' hcm
   have HED:Hid (made g B.P i k (spU o (B.L i) (B.L k)) (spV o (B.L i) (B.L k)) B.m S.q=E):=by rw [HU.out,HV.out];exact hE
   obtain ⟨⟨a0,a1,a2⟩,az⟩:=HBXe.out
   obtain ⟨u0,u1,u2,u3,u4⟩:=HU6.out
   obtain ⟨v0,v1,v2,v3,v4⟩:=HV6.out
   clear gok gn gv gu1 gv1 hcm hE
   go_wp2_with fail
   refine HCM.out.mono ?_
   rintro e w7 ⟨b7,h7⟩
   have HB7:=Hid.mk' (bel_next HB6.out b7)
   have HBX7:=Hid.mk' (HBXe.out.below b7)
   have HRX7:=Hid.mk' (HRXe.out.below b7)
   clear a0 a1 a2 az u0 u1 u2 u3 u4 v0 v1 v2 v3 v4 HBXe HRXe
   rcases h7 with ⟨RW,ya,yc,yad,ycp,ylo,yRb,yB,rfl,rfl,hylo,hyo⟩ | ⟨rfl,ya,yc,rfl⟩
   rotate_left
   ·have HE:=Hid.mk' (stepB_much (g:=g) HS.out HRA.out HH.out.1 HH.out.2 HED.out)
    have HBXe:=HBX7
    have HRXe:=HRX7
    have HBE7:=Hid.mk' (bel_next HBE.out b7)
    clear b7 HCM
    obtain ⟨⟨e0,e1,e2⟩,ez⟩:=HBXe.out
    obtain ⟨⟨f0,f1,f2⟩,fz⟩:=HRXe.out
    go_wp2
    refine bodyPost_ret (v:=.tuple #[.agg #[.slice (some ⟨lb,off,none⟩) B.m lc,.slice pa B.m pc,.bool d],.bool false]) (by simp [results,Tryz.results97,go_sem, *]) rfl ?_
    exact .inl ⟨HE.out,rfl,bel_s3 HBE7.out (Nat.le_succ _) _ _ _⟩
   have HE:=Hid.mk' (stepB_more (g:=g) HS.out HRA.out HH.out.1 HH.out.2 HED.out)
   have HBE7:=Hid.mk' (bel_next HBE.out b7)
   have HR7:=Hid.mk' (HR6.out.below b7)
   have hs67:w6.heap.size≤w7.heap.size:=b7.size
   -- the book, with the two boxes forbidden
   obtain ⟨Y,hY⟩:∃ Y:Nat→Prop,Y=fun b=>Y0 b∨b=w.heap.size∨b=w.heap.size+1:=⟨_,rfl⟩
   have hYs:∀ b,Y b→b<w.heap.size+2:=fun b q=>by rw [hY] at q;rcases q with q | q | q <;> (first | (have:=hY0 b q;omega) | omega)
   have hYu:∀ b,Y0 b→Y b:=fun b q=>by rw [hY];exact .inl q
   have hY1:Y w.heap.size:=by rw [hY];exact .inr (.inl rfl)
   have hY2:Y (w.heap.size+1):=by rw [hY];exact .inr (.inr rfl)
   have hsw1:w.heap.size+1<w1.heap.size:=HRX0.out.lt
   have HBK:=Hid.mk' ((HW.out.yet (Y':=Y) (fun b hb q=>by rw [hY] at q;rcases q with q | q | q <;> (first | exact q | omega))).below HBE7.out)
   have HOL:=Hid.mk' HW.out.rL.lt
   have HOP:=Hid.mk' HW.out.rP.lt
   have HRL:Hid (RLo (NB Y (.slice (some ⟨lb,off,none⟩) B.m lc) (.slice pa B.m pc)) w7 ra rc S.r):=(rlo_off HR7.out HF6.out).mono (fun b _ hb=>NB.far (m:=w5.heap.size) (fun k e=>by have:=(HOL.out k e).2;omega) (fun k e=>by have:=(HOP.out k e).2;omega) (fun k q=>by have:=hYs k q;omega) hb)
   have HRS:=Hid.mk' (rso_outs (hi:=w7.heap.size) hyo (Nat.le_refl _))
   have HYL:=Hid.mk' hylo
   have hmax:B.m+1≤maxLen:=by unfold maxLen;omega
   have hlo7:lo≤w7.heap.size:=by omega
   obtain ⟨⟨a0,a1,a2⟩,az⟩:=HBX7.out
   clear b7 hyo hylo HCM hY
   have HYs:=Hid.mk' hYs
   have HYb:=Hid.mk' (And.intro hY1 hY2)
   have HYU:=Hid.mk' hYu
   clear hYs hY1 hY2 hYu
   have hn1:w.heap.size+1≠w.heap.size:=by omega
   have hn2:w.heap.size≠w.heap.size+1:=by omega
   have HNX:Hid (∀ (g1 cap1:Nat) (w8:World),w8.ownsRow lo 45 1 (.slice (some ⟨g1,0,none⟩) (B.m+1) cap1) (B.m+1) (LS ++ [.slice ra S.r.length rc])→(w7.alloc (.cells #[.slice ra S.r.length rc] 45)).grownBy w8 (Value.ownBlock (.slice (some ⟨lb,off,none⟩) B.m lc))→(Value.ownBlock (.slice (some ⟨lb,off,none⟩) B.m lc)=some g1∨g1=(w7.alloc (.cells #[.slice ra S.r.length rc] 45)).heap.size) →
     M8 Y w lo (.slice (some ⟨lb,off,none⟩) B.m lc) (.slice pa B.m pc) d g B S.r (LS ++ [.slice ra S.r.length rc]) PS ya yc yad ycp RW g1 cap1 w8):=fun g1 cap1 w8 ho hg ha=>by
    have f8:Fr (fun k=>Value.ownBlock (.slice (some ⟨lb,off,none⟩) B.m lc)=some k) w7 w8:=((Fr.refl _ w7).next (bel_one w7 _)).grown hg (fun k e _=>e)
    have x8:=HBX7.out.fr f8 (fun q=>by have:=(HOL.out _ q).2;omega)
    have r8:=HRX7.out.fr f8 (fun q=>by have:=(HOL.out _ q).2;omega)
    have k8:=HBK.out.appL (fun b q=>by have:=HYs.out b q;omega) HRL.out hg ho ha
    have sY:Fr Y w8 (w8.setCell ⟨w.heap.size,0,none⟩ (.slice (some ⟨g1,0,none⟩) (B.m+1) cap1)):=(Fr.refl Y w8).set (fun _=>HYb.out.1)
    have sB:Fr (fun b=>b=w.heap.size) w8 (w8.setCell ⟨w.heap.size,0,none⟩ (.slice (some ⟨g1,0,none⟩) (B.m+1) cap1)):=(Fr.refl _ w8).set (fun _=>rfl)
    have hs78:=f8.size
    have hg1:Value.ownBlock (.slice (some ⟨lb,off,none⟩) B.m lc)=some g1∨g1=w7.heap.size+1:=ha.imp id (fun e=>by rw [e];simp)
    refine ⟨x8,k8.fr sY (fun b q=>q),x8.set0 _,r8.fr sB (fun q=>by omega),?_,((Fr.of_below HBE7.out).trans (f8.mono (fun k _ e=>.inl e))).set (fun q=>absurd q (Nat.lt_irrefl _)),by omega,hg1.imp id (fun e=>by omega)⟩
    refine ((HRS.out.fr f8 (fun b hb q=>by have:=(HOL.out _ q).2;have:=hb.1;have:=HYL.out;omega)).fr sB (fun b hb q=>by have:=hb.1;have:=HYL.out;omega)).mono (fun b _ hb=>⟨fun q=>?_,fun q=>?_,fun q=>?_⟩)
    ·have e:g1=b:=by simpa [Value.ownBlock] using q
     have:=hb.1
     have:=hb.2
     have:=HYL.out
     rcases hg1 with q' | q'
     ·have:=(HOL.out _ q').2;omega
     ·omega
    ·have:=(HOP.out _ q).2
     have:=hb.1
     have:=HYL.out
     omega
    ·have:=HYs.out _ q
     have:=hb.1
     have:=HYL.out
     omega
   have hsw7:w.heap.size≤w7.heap.size:=HBE7.out.size
   clear HBX0 HRX0 HBW0 HL0 HP0 HC0 HL1 HSP HBZ HSZ HB5 HL5 HBX5 HB6 HBE HU6 HV6 HH HGU HGV HQok HQ6 HR6 HF6 HR7 HED HRA HS HOKS HU HV HB7
   go_wp2_with (first | (at_builtin;refine wpList_append_lies _ rfl (.tmp 95) (.tmp 97) 24 rfl lo 45 i0 _ 1 24 Tryz.underlying24 hi0 hz0 hz1 hz2 rfl (by omega) _ B.m LS rfl (HBK.out.rL.alloc _) ⟨w7.heap.size,0,none⟩ 1 1 [.slice ra S.r.length rc] rfl rfl (World.news_of_block (heap_alloc_new w7 _)) (one_sl _ _ _) (by omega) hmax (by omega) (by simp;omega) _ rfl ?_;intro g1 cap1 w8 hown2 hgrow2 hat2 hlt2;have HP8:=Hid.mk' (HNX.out g1 cap1 w8 hown2 hgrow2 hat2);have HN8:=Hid.mk' (HP8.out.news);obtain ⟨⟨e0,e1,e2⟩,ez⟩:=HP8.out.box0;clear a0 a1 a2 az hown2 hgrow2 hat2 hlt2) | (at_builtin;refine wpList_append_lies _ rfl (.tmp 101) (.tmp 103) 75 rfl lo 24 i1 _ 1 24 Tryz.underlying75 hi1 hy0 hy1 hy2 rfl (by omega) _ B.m PS rfl (HP8.out.book.rP.alloc _) ⟨w8.heap.size,0,none⟩ 1 1 [.slice ya g yc] rfl rfl HN8.out (one_sl _ _ _) (by omega) hmax (by omega) (by have:=HP8.out.lo8;simp;omega) _ rfl ?_;intro g2 cap2 w10 hown3 hgrow3 hat3 hlt3;have HP9:=Hid.mk' (HP8.out.next HYs.out HYb.out (by omega) hown3 hgrow3 hat3);obtain ⟨⟨e0,e1,e2⟩,ez⟩:=HP9.out.box0;obtain ⟨⟨f0,f1,f2⟩,fz⟩:=HP9.out.res;clear hown3 hgrow3 hat3 hlt3))
   refine bodyPost_ret (v:=.tuple #[.agg #[.slice (some ⟨g1,0,none⟩) (B.m+1) cap1,.slice (some ⟨g2,0,none⟩) (B.m+1) cap2,.bool d],.bool true]) (by simp [results,Tryz.results97,go_sem, *]) rfl ?_
   exact HP9.out.fin HYb.out HYU.out HE.out (by omega)
end Go.Proofs.YtdidlcjhodejjaaGreat
namespace Go.Proofs.YtdidlcjhodejjaaGreat
open Go.RowKit Go.Deep Go.Joins
set_option linter.unusedVariables false
set_option linter.unusedSimpArgs false
theorem addr_addR (b o j:Nat):(⟨b,o,none⟩:Addr).add j=⟨b,o+j,none⟩:=by unfold Addr.add;split <;> simp_all
theorem Rd.newsR {w:World} {b off cap:Nat} {L:List T} (h:Rd w (some ⟨b,off,none⟩) L.length cap (lf L)):∀ j u,(cellsL L)[j]? = some u→w.cell? ((⟨b,off,none⟩:Addr).add j)=some u:=by
 intro j u hu
 have hj:j<L.length * 5:=by
  rw [← cellsL_length]
  exact (List.getElem?_eq_some_iff.1 hu).1
 rw [cellsL_at L j hj] at hu
 cases hu
 rw [addr_addR]
 rcases h.2.2 with h0 | ⟨b',off',he,_,hc⟩
 ·omega
 ·cases he
  obtain ⟨c0,c1,c2,c3,c4⟩:=hc (j / 5) (by omega)
  have h5:j % 5=0∨j % 5=1∨j % 5=2∨j % 5=3∨j % 5=4:=by omega
  rcases h5 with h | h | h | h | h
  ·rw [show j=j / 5 * 5 by omega,cf0];exact c0
  ·rw [show j=j / 5 * 5+1 by omega,cf1,← Nat.add_assoc];exact c1
  ·rw [show j=j / 5 * 5+2 by omega,cf2,← Nat.add_assoc];exact c2
  ·rw [show j=j / 5 * 5+3 by omega,cf3,← Nat.add_assoc];exact c3
  ·rw [show j=j / 5 * 5+4 by omega,cf4,← Nat.add_assoc];exact c4
theorem cellsL_one_all:∀ L:List T,∀ u∈cellsL L,u.oneCell'=true
 | [],u,hu=>by simp [cellsL] at hu
 | t :: r,u,hu=>by
  rw [show t :: r=[t] ++ r from rfl,cellsL_append] at hu
  rcases List.mem_append.1 hu with h | h
  ·exact one_cells t u h
  ·exact cellsL_one_all r u h
theorem owns_empty (w:World):(w.alloc (.cells #[] 42)).ownsRow w.heap.size 42 5 (.slice (some ⟨w.heap.size,0,none⟩) 0 0) 0 (cellsL []):=
 ⟨rfl,.inr ⟨w.heap.size,0,#[],rfl,Nat.le_refl _,heap_alloc_new w (.cells #[] 42),Nat.le_refl _,Nat.zero_le _,rfl,rfl⟩⟩
set_option maxRecDepth 100000 in
set_option maxHeartbeats 4000000 in
theorem cloneI (w:World) (a:Option Addr) (c:Nat) (L:List T) (h:Rd w a L.length c (lf L)) (h0:L.length≠0) (hl:L.length≤400) :
  Calls Tryz.prog 141 #[.slice a L.length c] w fun r w'=>∃ a' c',r=.returned (.slice a' L.length c')∧Below w.heap.size w w'∧Out w.heap.size w' a' c' L:=by
 obtain ⟨i0,hi0,hz0,hz1,hz2⟩:=info_parts infoT
 obtain ⟨b,off,rfl,hb,_⟩:=h.2.2.resolve_left h0
 have hL:(L.length:Int)≤400:=by omega
 have hown:=owns_empty w
 have HO:=Hid.mk' hown
 have hnews:∀ j u,(cellsL L)[j]? = some u→(w.alloc (.cells #[] 42)).cell? ((⟨b,off,none⟩:Addr).add j)=some u:=Rd.newsR (h.below (bel_one w _))
 have hone:∀ u∈cellsL L,u.oneCell'=true:=cellsL_one_all L
 have hnil:∀ W:World,(binOp BinOp.eql 45 (Value.slice (some ⟨b,off,none⟩) L.length c) (Value.slice none 0 0)).run Tryz.prog W=.ok (.bool false) W:=fun W=>by first | rfl | kernel_rfl | simp [binOp,go_sem]
 clear h
 go_enter Tryz.func141,Tryz.ntmps141
 go_wp2_with (at_builtin;refine wpList_append_lies _ rfl (.tmp 5) (.tmp 6) 45 rfl w.heap.size 42 i0 _ 5 40 Tryz.underlying45 hi0 hz0 hz1 hz2 rfl (by omega) _ 0 (cellsL []) rfl hown ⟨b,off,none⟩ L.length c (cellsL L) rfl (by rw [cellsL_length]) hnews hone (by omega) (by unfold maxLen;omega) (by omega) (by simp) _ rfl ?_;intro g0 cap0 w5 hown1 hgrow hat hlt1;have HB5:=Hid.mk' (((bel_one w (.cells #[] 42))).grown hgrow (by simp) (fun k e=>(HO.out.lt k e).1));have HR:=Hid.mk' hown1;clear hown1 hgrow hat hlt1)
 go_ret
 have ho:=HR.out
 simp only [Nat.zero_add,show cellsL [] ++ cellsL L=cellsL L from rfl] at ho
 obtain ⟨a',c',e,hO⟩:=out_of_owns ho (by omega)
 exact ⟨a',c',congrArg Ending.returned e,HB5.out,hO⟩
end Go.Proofs.YtdidlcjhodejjaaGreat
