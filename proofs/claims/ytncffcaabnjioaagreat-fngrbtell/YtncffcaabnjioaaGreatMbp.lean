/-
  An order and a basis, or but some operators, are drawn (spec.l20Base); what is drawn lies apart from the reader.
-/
import Derived.Test.YtncffcaabnjioaaGreatMbn
import Derived.Test.YtncffcaabnjioaaGreatMbo
set_option maxHeartbeats 4000000
set_option maxRecDepth 100000
namespace Go.Proofs.YtncffcaabnjioaaGreat
open Go.RowKit Go.Deep Go.Joins
set_option linter.unusedVariables false
theorem yM {B:Nat} {w w':World} (h:aD B w w'):Fr (fun k=>k=B) w w':=⟨h.os,h.tape,h.output,h.size,fun k hk hn=>h.block k hk hn⟩
theorem uX.beside {B:Nat} {w w':World} {a:Option Addr} {g c:Nat} {ad:Nat→Option Addr} {cp:Nat→Nat} {Q:Nat→List T} (h:uX (fun b=>b≠B) w a g c ad cp Q) (hb:aD B w w'):uX (fun b=>b≠B) w' a g c ad cp Q:=h.fr (yM hb) (fun b hn e=>hn e)
theorem uX.below {N:Nat→Prop} {w w':World} {a:Option Addr} {g c:Nat} {ad:Nat→Option Addr} {cp:Nat→Nat} {Q:Nat→List T} (h:uX N w a g c ad cp Q) (hb:Below w.heap.size w w'):uX N w' a g c ad cp Q:=h.fr (P:=fun _=>False) (eH hb) (fun _ _ q=>q)
theorem QY {w:World} {B lo lo':Nat} {g':Option Nat} {v:Value} {LS:List Value} (h:w.ownsRow lo 24 1 v LS.length LS) (hE:∀e∈LS,El w lo' g' e) (hl:LS.length≤100) (h1:B<lo) (h2:B<lo'):∃a c ad cp L,v= .slice a LS.length c∧uX (fun b=>b≠B) w a LS.length c ad cp L:=by
 have each:∀i,i<LS.length→∃t:(Option Addr×Nat)×List T,LS[i]? =some (.slice t.1.1 t.2.length t.1.2)∧RL w t.1.1 t.1.2 t.2∧(t.2.length=0∨∀b off,t.1.1=some ⟨b,off,none⟩→b≠B):=fun i hi=>by obtain⟨a,n,c,f,e,hr,_,hb⟩:=hE (LS[i]) (List.getElem_mem hi);obtain⟨X,rfl,hX⟩:=vD hr;exact⟨((a,c),X),by rw[List.getElem?_eq_getElem hi,e],hX,hb.imp id (fun⟨b,off,e1,hlo,_⟩ b' off' e2=>by rw[e1]at e2;cases e2;omega)⟩
 haveI:Inhabited ((Option Addr×Nat)×List T):=⟨((none,0),[])⟩
 obtain⟨q,hq⟩:=choose_lt each;rcases h.2 with⟨hv,h0⟩|⟨b,cap,cur,hv,hlo,hg,hnc,_⟩
 ·exact⟨none,0,fun i=>(q i).1.1,fun i=>(q i).1.2,fun i=>(q i).2,by rw[hv,h0],⟨by omega,by omega,.inl h0,fun i hi=>(hq i hi).2.1⟩,.inl h0,fun i hi=>(hq i hi).2.2⟩
 ·have hr:=h;rw[hv]at hr;refine⟨some ⟨b,0,none⟩,cap,fun i=>(q i).1.1,fun i=>(q i).1.2,fun i=>(q i).2,hv,⟨hnc,by omega,.inr ⟨b,0,rfl,(hr.lt b rfl).2,fun i hi=>?_⟩,fun i hi=>(hq i hi).2.1⟩,.inr (fun b' off' e=>?_),fun i hi=>(hq i hi).2.2⟩
  ·rw[Nat.zero_add,hr.cellAt i (by omega),(hq i hi).1]
  ·cases e;omega
theorem QX {Y:Nat→Prop} {w:World} {lo:Nat} {tvL tvP:Value} {g nL:Nat} {L:Nat→List T} {nP:Nat} {Q:Nat→Nat→List T} {LS PS:List Value} (h:oE Y w lo tvL tvP g nL L nP Q LS PS) (hn:nL≤100) {B:Nat} (hB:Y B):∃a c ad cp,tvL= .slice a nL c∧uX (fun b=>b≠B) w a nL c ad cp L:=by
 have each:∀i,i<nL→∃t:Option Addr×Nat,LS[i]? =some (.slice t.1 (L i).length t.2)∧ER (NB Y tvL tvP) w t.1 t.2 (L i):=fun i hi=>by obtain⟨a,c,e,hr⟩:=h.eL i hi;exact⟨(a,c),e,hr⟩
 haveI:Inhabited (Option Addr×Nat):=⟨(none,0)⟩
 obtain⟨q,hq⟩:=choose_lt each;have el:∀i,i<nL→(L i).length=0∨∀b off,(q i).1=some ⟨b,off,none⟩→b≠B:=fun i hi=>((hq i hi).2.2).imp id (fun k b off e q'=>(k b off e).2.2 (by rw[q'];exact hB))
 rcases h.rL.2 with⟨hv,h0⟩|⟨b,cap,cur,hv,hlo,hg,hnc,_⟩
 ·exact⟨none,0,fun i=>(q i).1,fun i=>(q i).2,by rw[hv,h0],⟨by omega,by omega,.inl h0,fun i hi=>(hq i hi).2.1⟩,.inl h0,el⟩
 ·have hr:=h.rL;rw[hv]at hr;refine⟨some ⟨b,0,none⟩,cap,fun i=>(q i).1,fun i=>(q i).2,hv,⟨hnc,by omega,.inr ⟨b,0,rfl,(hr.lt b rfl).2,fun i hi=>?_⟩,fun i hi=>(hq i hi).2.1⟩,.inr (fun b' off' e q'=>?_),el⟩
  ·rw[Nat.zero_add,hr.cellAt i (by omega),(hq i hi).1]
  ·cases e;exact(h.nL b (by rw[hv];rfl)).2 (by rw[q'];exact hB)
def YS (w:World) (B p:Nat) (e:Ending) (w':World):Prop:=∃(o:Int) (a:Option Addr) (n c:Nat) (ad:Nat→Option Addr) (cp:Nat→Nat) (L:Nat→List T) (q:Nat),e= .returned (.tuple #[.int .i64 o,.slice a n c])∧uX (fun b=>b≠B) w' a n c ad cp L∧n≤12∧q≤p+1010∧iU w' B q∧aD B w w'
theorem LA {o:Int} {n:Nat} {L:Nat→List T} {fuel:Int}:(lL o n L fuel).1.m≤12:=by
 obtain⟨B,d,h⟩:∃B d,lL o n L fuel=(B,d):=⟨_,_,rfl⟩
 rw[h];rcases FG h with⟨h0,_⟩|⟨_,j,hm,_⟩
 ·show B.m≤12;omega
 ·exact(aT hm.ok.l).1
theorem NT (w:World) (B p:Nat) (h:iU w B p) (hp:p≤700):Calls Tryz.prog 35 #[.pointer (some ⟨B,0,none⟩)] w (YS w B p):=by
 have hB:=h.lt;go_enter Tryz.func35,Tryz.ntmps35;go_wp2_with fail;refine(LT w _ _ h (by omega)).mono ?_;rintro e w2 ⟨o,rfl,hR2,s2⟩;have hs2:=s2.size
 have HS2:=aA s2;clear h s2;go_wp2_with fail;refine(OZ w2 _ _ 2 24 hR2 (by omega) (by omega) (by omega) (by omega) (by omega)).mono ?_;rintro e w4 ⟨v,LS,q',rfl,ho,hlen,hE,hq',hR4,s4⟩;obtain⟨aa,ca,ada,cpa,L,rfl,hra⟩:=QY (B:=B) ho hE (by omega) (by omega) (by omega);have hs4:=s4.size
 have HS4:=aA (HS2.out.trans s4);have HRA:=aA hra
 have HR4:=aA hR4;clear hR2 hR4 s4 hra ho hE HS2;go_wp2_with fail;refine(OL w4 o aa LS.length ca ada cpa L HRA.out.1 60).mono ?_;have hm12:=LA (o:=o) (n:=LS.length) (L:=L) (fuel:=60)
 obtain⟨X,d,hX⟩:∃X d,lL o LS.length L 60=(X,d):=⟨_,_,rfl⟩
 rw[hX]at hm12⊢;rintro e w5 ⟨tvL,tvP,LS5,PS5,rfl,hb5,hk5⟩;have hm12':X.m≤12:=hm12
 obtain⟨la,lc,lad,lcp,rfl,hrl⟩:=QX hk5 (show X.m≤100 by omega) (B:=B) (show B<w4.heap.size by omega);obtain⟨pa,pc,pA,pC,pAD,pCP,rfl,_⟩:=hk5.readP (show X.m≤100 by omega);have hs5:=hb5.size
 have HRA5:=aA (HRA.out.below hb5);have HRL5:=aA hrl
 have HR5:=aA (HR4.out.grown (bM hb5 none) (fun _ e=>by cases e));have HS5:Hid (aD B w w5):=HS4.out.trans ⟨hb5.os,hb5.tape,hb5.output,hb5.size,fun k hk _=>hb5.block k hk⟩
 have hBw:B<w5.heap.size:=by omega
 clear HRA HR4 HS4 hb5 hk5 hrl hX hm12;have bx:=aC w5 (.cells #[.slice la X.m lc,.slice pa X.m pc,.bool d] 103)
 have HX6:=aA (fJ.box w5 103 (.slice la X.m lc) (.slice pa X.m pc) (.bool d));have HR6:=aA (HR5.out.alloc (.cells #[.slice la X.m lc,.slice pa X.m pc,.bool d] 103))
 have HRA6:=aA (HRA5.out.below bx);have HRL6:=aA (HRL5.out.below bx)
 have HS6:=aA (HS5.out.alloc (.cells #[.slice la X.m lc,.slice pa X.m pc,.bool d] 103));clear HRA5 HRL5 HR5 HS5 bx;go_wp2_with fail;refine(aY _ B _ 3 HR6.out (by omega) (by omega) (by omega)).mono ?_;rintro e w7 ⟨x,rfl,hx0,hx3,hp7⟩;have s7:=hp7.beside
 have HR7:=aA (hp7.rdr HR6.out);have HRA7:=aA (HRA6.out.beside s7)
 have HRL7:=aA (HRL6.out.beside s7);have HS7:=aA (HS6.out.trans s7)
 obtain⟨⟨c0,c1,c2⟩,cz⟩:=HX6.out.fr (yM s7) (by omega);clear hp7 s7 HRA6 HRL6 HR6 HS6 HX6;by_cases hx:0<x
 ·cases d
  ·go_wp2;refine cB (v:=.tuple #[.int .i64 o,.slice aa LS.length ca]) (by simp[results,Tryz.results35,go_sem, *]) rfl ?_;exact⟨o,aa,LS.length,ca,ada,cpa,L,_,rfl,HRA7.out,by omega,by omega,HR7.out,HS7.out⟩
  ·go_wp2_with fail;have hS:w7.drew.cell? ⟨w5.heap.size,0,none⟩=some (.slice la X.m lc):=c0
   go_region_held3 (fun u=>u.cell? ⟨w5.heap.size,0,none⟩=some (.slice la X.m lc)) (with_reducible exact hS) (fail)
   go_wp2;refine cB (v:=.tuple #[.int .i64 o,.slice la X.m lc]) (by simp[results,Tryz.results35,go_sem, *]) rfl ?_;exact⟨o,la,X.m,lc,lad,lcp,X.L,_,rfl,HRL7.out.below (cE _ _).drew,hm12',by omega,HR7.out.drewN 1,HS7.out.drew⟩
 ·go_wp2;refine cB (v:=.tuple #[.int .i64 o,.slice aa LS.length ca]) (by simp[results,Tryz.results35,go_sem, *]) rfl ?_;exact⟨o,aa,LS.length,ca,ada,cpa,L,_,rfl,HRA7.out,by omega,by omega,HR7.out,HS7.out⟩
theorem VE {o:Int} {n:Nat} {L:Nat→List T} {i k:Nat} (h:XX o n L i k=2):∃s S,dC o (lf (L i)) (L i).length (lf (L k)) (L k).length=(s,true)∧aP o s n (lN L) (fN L)=some S∧S.r=[]:=by
 unfold XX at h;split at h
 ·rename_i s hs;split at h
  ·rename_i S hS;split at h
   ·rename_i h0;exact⟨s,S,hs,hS,List.length_eq_zero_iff.1 h0⟩
   ·omega
  ·omega
 ·omega
theorem sU {o:Int} {n:Nat} {L:Nat→List T} (h:rU o n L=true):JW o n L∧(1≤o∧o≤3)∧aW n (lN L) (fN L)=true:=by
 obtain⟨ho,hl,hp⟩:=of_decide_eq_true h;have hL:=wL ho hl
 refine⟨WR hL fun i k hi hk=>?_,ho,hl⟩;obtain⟨s,S,h1,h2,h3⟩:=VE (hp k hk i hi);exact zC hL (by omega) hk h1 h2 h3
theorem pH {S:Dv} (h:S.r=[]):nZ (some S)=true:=by show(true&&decide (S.r.length=0))=true;rw[h];rfl
theorem vA {S:Dv} (h:S.r≠[]):nZ (some S)=false:=by show(true&&decide (S.r.length=0))=false;rw[decide_eq_false (fun e=>h (List.length_eq_zero_iff.1 e))];rfl
def At (w:World) (e:Ending) (w':World):Prop:=∃(o:Int) (pa:Option Addr) (pc:Nat) (p:List T) (a:Option Addr) (n c:Nat) (ad:Nat→Option Addr) (cp:Nat→Nat) (L:Nat→List T),e= .returned (.tuple #[.int .i64 o,.slice a n c,.slice pa p.length pc])∧RL w' pa pc p∧fZ w' a n c ad (lN L) cp (fN L)∧p.length≤400∧n≤12∧Below w.heap.size w w'
theorem pG (w:World) (a:Option Addr) (len cap:Nat) (h:EV w a len cap):Calls Tryz.prog 9 #[.slice a len cap] w (At w):=by
 go_enter Tryz.func9,Tryz.ntmps9;go_wp2_with fail;refine(DL _ _ _ _ h).mono ?_;rintro e w1 ⟨rfl,hR1,b1⟩;have hl1:=hR1.lt
 clear h;go_wp2_with fail;refine(NT w1 _ _ hR1 (by omega)).mono ?_;rintro e w2 ⟨o,la,n,lc,lad,lcp,L,q2,rfl,hr2,hn12,hq2,hR2,s2⟩;have b2:=s2.below b1 (Nat.le_refl _) (by omega)
 have hs2:=s2.size;have HL2:=aA hr2
 clear hR1 s2 b1 hr2;go_wp2_with fail;refine(NS w2 _ _ 24 hR2 (by omega) (by omega) (by omega)).mono ?_;rintro e w3 ⟨pa,m,pc,f,q3,rfl,hrd,hm,hblk,hq3,hR3,s3⟩;obtain⟨p,rfl,hrdL⟩:=vD hrd;have b3:=s3.below b2 (Nat.le_refl _) (by omega)
 have hne:=UW hblk (show w.heap.size<w2.heap.size by omega);have hs3:=s3.size
 have HL3:=aA (HL2.out.beside s3);clear hR2 s3 b2 hblk HL2 hrd;go_wp2_with fail;refine(aY w3 _ _ 2 hR3 (by omega) (by omega) (by omega)).mono ?_;rintro e w4 ⟨x,rfl,hx0,hx2,hp4⟩;have s4:=hp4.beside
 have HB4:=aA (s4.below b3 (Nat.le_refl _) (by omega));have HP4:Hid (RL w4 pa pc p):=Rd.beside hrdL s4 hne
 have HL4:=aA (HL3.out.beside s4);have HR4:=aA (hp4.rdr hR3)
 have HNE:=aA hne;have hs4:=s4.size
 have hnI:(n:Int)≤12:=by omega
 have hpI:(p.length:Int)≤5:=by omega
 clear s4 hp4 hR3 b3 HL3 hrdL hne;have hx:x=0∨x=1:=by omega
 rcases hx with rfl|rfl;rotate_left
 ·go_wp2;refine cB (v:=.tuple #[.int .i64 o,.slice la n lc,.slice pa p.length pc]) (by simp[results,Tryz.results9,go_sem, *]) rfl ?_;exact⟨o,pa,pc,p,la,n,lc,lad,lcp,L,rfl,HP4.out,HL4.out.1,by omega,hn12,HB4.out⟩
 go_wp2_with fail;refine(qS _ _ _ _ _ _ _ _ HL4.out.1).mono ?_;obtain⟨lk,hlk⟩:∃b,aW n (lN L) (fN L)=b:=⟨_,rfl⟩
 rw[hlk];rintro r w5 ⟨rfl,hb5⟩;have HB5:=aA (aB HB4.out hb5)
 have HP5:=aA (RL.below HP4.out hb5);have HL5:=aA (HL4.out.below hb5)
 have HR5:=aA (HR4.out.grown (bM hb5 none) (fun _ e=>by cases e));have HLK:=aA hlk
 have hs5:=hb5.size;clear hb5 HB4 HP4 HL4 HR4 hlk;cases lk
 ·go_wp2;refine cB (v:=.tuple #[.int .i64 o,.slice la n lc,.slice pa p.length pc]) (by simp[results,Tryz.results9,go_sem, *]) rfl ?_;exact⟨o,pa,pc,p,la,n,lc,lad,lcp,L,rfl,HP5.out,HL5.out.1,by omega,hn12,HB5.out⟩
 by_cases hn0:n=0
 ·have hnz:¬(0:Int)<(n:Int):=by omega
  clear hn0;go_wp2;refine cB (v:=.tuple #[.int .i64 o,.slice la n lc,.slice pa p.length pc]) (by simp[results,Tryz.results9,go_sem, *]) rfl ?_;exact⟨o,pa,pc,p,la,n,lc,lad,lcp,L,rfl,HP5.out,HL5.out.1,by omega,hn12,HB5.out⟩
 have hnz:(0:Int)<(n:Int):=by omega
 go_wp2_with fail;refine(ZR HP5.out).mono ?_;obtain⟨pk,hpk⟩:∃b,cT p=b:=⟨_,rfl⟩
 rw[hpk];rintro r w6 ⟨rfl,hb6⟩;have HB6:=aA (aB HB5.out hb6)
 have HP6:=aA (RL.below HP5.out hb6);have HL6:=aA (HL5.out.below hb6)
 have HR6:=aA (HR5.out.grown (bM hb6 none) (fun _ e=>by cases e));have HPK:=aA hpk
 have hs6:=hb6.size;clear hb6 HB5 HP5 HL5 HR5 hpk;cases pk
 ·go_wp2;refine cB (v:=.tuple #[.int .i64 o,.slice la n lc,.slice pa p.length pc]) (by simp[results,Tryz.results9,go_sem, *]) rfl ?_;exact⟨o,pa,pc,p,la,n,lc,lad,lcp,L,rfl,HP6.out,HL6.out.1,by omega,hn12,HB6.out⟩
 go_wp2_with fail;refine(aY w6 _ _ n HR6.out (by omega) (by omega) (by omega)).mono ?_;rintro e w7 ⟨y,rfl,hy0,hyn,hp7⟩;obtain⟨k,rfl⟩:∃k:Nat,y=(k:Int):=⟨y.toNat,by omega⟩
 have hk:k<n:=by omega
 have s7:=hp7.beside;have HB7:=aA (s7.below HB6.out (Nat.le_refl _) (by omega))
 have HP7:Hid (RL w7 pa pc p):=Rd.beside HP6.out s7 HNE.out;have HL7:=aA (HL6.out.beside s7)
 obtain⟨lb,off,rfl,hlb,hcl⟩:=HL7.out.1.2.2.1.resolve_left hn0;have g0:w7.cell? ⟨lb,off+k,none⟩=some (.slice (lad k) (L k).length (lcp k)):=hcl k hk
 have HE7:Hid (RL w7 (lad k) (lcp k) (L k)):=HL7.out.1.2.2.2 k hk;have okk:cT (L k)=true:=((aT HLK.out).2 k hk).2
 have HOK:=aA okk;clear s7 hp7 HB6 HP6 HL6 HR6 hcl okk;go_wp2_with fail;refine(IU w7 pa (lad k) p.length pc (L k).length (lcp k) (lf p) (lf (L k)) HP7.out HE7.out (aE HPK.out).1 (aE HOK.out).1 (bV HPK.out).2 (bV HOK.out).2).mono ?_;obtain⟨X,xo,hX⟩:∃X b,iR (bY (lf p) (lf (L k)) (L k).length p.length)=(X,b):=⟨_,_,rfl⟩
 have hXl:X.length≤400:=by
  have hw:lF p (L k)=(X,xo):=by unfold lF bJ;rw[if_pos ⟨HPK.out,HOK.out⟩,hX]
  cases xo
  ·rcases xV p (L k)with e|⟨Q,e,_⟩
   ·rw[e]at hw;cases hw;simp
   ·rw[e]at hw;cases hw
  ·exact(aE (xW hw)).1
 rw[hX];rintro e w8 ⟨v,rfl,hb8,hv8⟩;have hv9:w8.ownsRow w7.heap.size 47 5 v X.length (aF X):=hv8
 obtain⟨xa,xc,rfl,hO8⟩:=aH hv9 (by omega);have HB8:=aA (aB HB7.out hb8)
 have HP8:=aA (RL.below HP7.out hb8);have HL8:=aA (HL7.out.below hb8)
 have HX8:Hid (RL w8 xa xc X):=hO8.1;clear hb8 hv8 hv9 hO8 HB7 HP7 HL7 HE7 g0 hX;cases xo
 ·go_wp2;refine cB (v:=.tuple #[.int .i64 o,.slice (some ⟨lb,off,none⟩) n lc,.slice pa p.length pc]) (by simp[results,Tryz.results9,go_sem, *]) rfl ?_;exact⟨o,pa,pc,p,_,n,lc,lad,lcp,L,rfl,HP8.out,HL8.out.1,by omega,hn12,HB8.out⟩
 ·go_wp2;refine cB (v:=.tuple #[.int .i64 o,.slice (some ⟨lb,off,none⟩) n lc,.slice xa X.length xc]) (by simp[results,Tryz.results9,go_sem, *]) rfl ?_;exact⟨o,xa,xc,X,_,n,lc,lad,lcp,L,rfl,HX8.out,HL8.out.1,hXl,hn12,HB8.out⟩
end Go.Proofs.YtncffcaabnjioaaGreat
