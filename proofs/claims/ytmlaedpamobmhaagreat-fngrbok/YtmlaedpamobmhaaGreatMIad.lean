/-
  An order and a basis, or but some operators, are drawn (spec.l20Base); what is drawn lies apart from the reader.
-/
import Derived.Test.YtmlaedpamobmhaaGreatMbn
import Derived.Test.YtmlaedpamobmhaaGreatMIac
set_option maxHeartbeats 8000000
set_option maxRecDepth 100000
namespace Go.Proofs.YtmlaedpamobmhaaGreat
open Go.RowKit Go.Deep Go.Joins
set_option linter.unusedVariables false
theorem pP {B:Nat} {w w':World} (h:aD B w w'):Fr (fun k=>k=B) w w':=⟨h.os,h.tape,h.output,h.size,fun k hk hn=>h.block k hk hn⟩
theorem mD.beside {B:Nat} {w w':World} {a:Option Addr} {g c:Nat} {ad:Nat→Option Addr} {cp:Nat→Nat} {Q:Nat→List T} (h:mD (fun b=>b≠B) w a g c ad cp Q) (hb:aD B w w'):mD (fun b=>b≠B) w' a g c ad cp Q:=h.fr (pP hb) (fun b hn e=>hn e)
theorem mD.below {N:Nat→Prop} {w w':World} {a:Option Addr} {g c:Nat} {ad:Nat→Option Addr} {cp:Nat→Nat} {Q:Nat→List T} (h:mD N w a g c ad cp Q) (hb:Below w.heap.size w w'):mD N w' a g c ad cp Q:=h.fr (P:=fun _=>False) (aV hb) (fun _ _ q=>q)
theorem yT {w:World} {B lo lo':Nat} {g':Option Nat} {v:Value} {LS:List Value} (h:w.ownsRow lo 35 1 v LS.length LS) (hE:∀e∈LS,El w lo' g' e) (hl:LS.length≤100) (h1:B<lo) (h2:B<lo'):∃a c ad cp L,v= .slice a LS.length c∧mD (fun b=>b≠B) w a LS.length c ad cp L:=by
 have each:∀i,i<LS.length→∃t:(Option Addr×Nat)×List T,LS[i]? =some (.slice t.1.1 t.2.length t.1.2)∧RL w t.1.1 t.1.2 t.2∧(t.2.length=0∨∀b off,t.1.1=some ⟨b,off,none⟩→b≠B):=fun i hi=>by obtain⟨a,n,c,f,e,hr,_,hb⟩:=hE (LS[i]) (List.getElem_mem hi);obtain⟨X,rfl,hX⟩:=MA hr;exact⟨((a,c),X),by rw[List.getElem?_eq_getElem hi,e],hX,hb.imp id (fun⟨b,off,e1,hlo,_⟩ b' off' e2=>by rw[e1]at e2;cases e2;omega)⟩
 haveI:Inhabited ((Option Addr×Nat)×List T):=⟨((none,0),[])⟩
 obtain⟨q,hq⟩:=choose_lt each;rcases h.2 with⟨hv,h0⟩|⟨b,cap,cur,hv,hlo,hg,hnc,_⟩
 ·exact⟨none,0,fun i=>(q i).1.1,fun i=>(q i).1.2,fun i=>(q i).2,by rw[hv,h0],⟨by omega,by omega,.inl h0,fun i hi=>(hq i hi).2.1⟩,.inl h0,fun i hi=>(hq i hi).2.2⟩
 ·have hr:=h;rw[hv]at hr;refine⟨some ⟨b,0,none⟩,cap,fun i=>(q i).1.1,fun i=>(q i).1.2,fun i=>(q i).2,hv,⟨hnc,by omega,.inr ⟨b,0,rfl,(hr.lt b rfl).2,fun i hi=>?_⟩,fun i hi=>(hq i hi).2.1⟩,.inr (fun b' off' e=>?_),fun i hi=>(hq i hi).2.2⟩
  ·rw[Nat.zero_add,hr.cellAt i (by omega),(hq i hi).1]
  ·cases e;omega
theorem VO {Y:Nat→Prop} {w:World} {lo:Nat} {tvL tvP:Value} {g nL:Nat} {L:Nat→List T} {nP:Nat} {Q:Nat→Nat→List T} {LS PS:List Value} (h:kI Y w lo tvL tvP g nL L nP Q LS PS) (hn:nL≤100) {B:Nat} (hB:Y B):∃a c ad cp,tvL= .slice a nL c∧mD (fun b=>b≠B) w a nL c ad cp L:=by
 have each:∀i,i<nL→∃t:Option Addr×Nat,LS[i]? =some (.slice t.1 (L i).length t.2)∧zU (NB Y tvL tvP) w t.1 t.2 (L i):=fun i hi=>by obtain⟨a,c,e,hr⟩:=h.eL i hi;exact⟨(a,c),e,hr⟩
 haveI:Inhabited (Option Addr×Nat):=⟨(none,0)⟩
 obtain⟨q,hq⟩:=choose_lt each;have el:∀i,i<nL→(L i).length=0∨∀b off,(q i).1=some ⟨b,off,none⟩→b≠B:=fun i hi=>((hq i hi).2.2).imp id (fun k b off e q'=>(k b off e).2.2 (by rw[q'];exact hB))
 rcases h.rL.2 with⟨hv,h0⟩|⟨b,cap,cur,hv,hlo,hg,hnc,_⟩
 ·exact⟨none,0,fun i=>(q i).1,fun i=>(q i).2,by rw[hv,h0],⟨by omega,by omega,.inl h0,fun i hi=>(hq i hi).2.1⟩,.inl h0,el⟩
 ·have hr:=h.rL;rw[hv]at hr;refine⟨some ⟨b,0,none⟩,cap,fun i=>(q i).1,fun i=>(q i).2,hv,⟨hnc,by omega,.inr ⟨b,0,rfl,(hr.lt b rfl).2,fun i hi=>?_⟩,fun i hi=>(hq i hi).2.1⟩,.inr (fun b' off' e q'=>?_),el⟩
  ·rw[Nat.zero_add,hr.cellAt i (by omega),(hq i hi).1]
  ·cases e;exact(h.nL b (by rw[hv];rfl)).2 (by rw[q'];exact hB)
def Dx (w:World) (B p:Nat) (e:Ending) (w':World):Prop:=∃(o:Int) (a:Option Addr) (n c:Nat) (ad:Nat→Option Addr) (cp:Nat→Nat) (L:Nat→List T) (q:Nat),e= .returned (.tuple #[.int .i64 o,.slice a n c])∧mD (fun b=>b≠B) w' a n c ad cp L∧n≤12∧q≤p+1010∧jL w' B q∧aD B w w'
theorem uJ {o:Int} {n:Nat} {L:Nat→List T} {fuel:Int}:(dK o n L fuel).1.m≤12:=by
 obtain⟨B,d,h⟩:∃B d,dK o n L fuel=(B,d):=⟨_,_,rfl⟩
 rw[h];rcases qW h with⟨h0,_⟩|⟨_,j,hm,_⟩
 ·show B.m≤12;omega
 ·exact(aR hm.ok.l).1
theorem SG (w:World) (B p:Nat) (h:jL w B p) (hp:p≤700):Calls Tryz.prog 51 #[.pointer (some ⟨B,0,none⟩)] w (Dx w B p):=by
 have hB:=h.lt;go_enter Tryz.func51,Tryz.ntmps51;go_wp2_with fail;refine(BJ w _ _ h (by omega)).mono ?_;rintro e w2 ⟨o,rfl,hR2,s2⟩;have hs2:=s2.size
 have HS2:=aA s2;clear h s2;go_wp2_with fail;refine(FS w2 _ _ 2 24 hR2 (by omega) (by omega) (by omega) (by omega) (by omega)).mono ?_;rintro e w4 ⟨v,LS,q',rfl,ho,hlen,hE,hq',hR4,s4⟩;obtain⟨aa,ca,ada,cpa,L,rfl,hra⟩:=yT (B:=B) ho hE (by omega) (by omega) (by omega);have hs4:=s4.size
 have HS4:=aA (HS2.out.trans s4);have HRA:=aA hra
 have HR4:=aA hR4;clear hR2 hR4 s4 hra ho hE HS2;go_wp2_with fail;refine(FL w4 o aa LS.length ca ada cpa L HRA.out.1 60).mono ?_;have hm12:=uJ (o:=o) (n:=LS.length) (L:=L) (fuel:=60)
 obtain⟨X,d,hX⟩:∃X d,dK o LS.length L 60=(X,d):=⟨_,_,rfl⟩
 rw[hX]at hm12⊢;rintro e w5 ⟨tvL,tvP,LS5,PS5,rfl,hb5,hk5⟩;have hm12':X.m≤12:=hm12
 obtain⟨la,lc,lad,lcp,rfl,hrl⟩:=VO hk5 (show X.m≤100 by omega) (B:=B) (show B<w4.heap.size by omega);obtain⟨pa,pc,pA,pC,pAD,pCP,rfl,_⟩:=hk5.readP (show X.m≤100 by omega);have hs5:=hb5.size
 have HRA5:=aA (HRA.out.below hb5);have HRL5:=aA hrl
 have HR5:=aA (HR4.out.grown (cU hb5 none) (fun _ e=>by cases e));have HS5:Hid (aD B w w5):=HS4.out.trans ⟨hb5.os,hb5.tape,hb5.output,hb5.size,fun k hk _=>hb5.block k hk⟩
 have hBw:B<w5.heap.size:=by omega
 clear HRA HR4 HS4 hb5 hk5 hrl hX hm12;have bx:=aC w5 (.cells #[.slice la X.m lc,.slice pa X.m pc,.bool d] 28)
 have HX6:=aA (eI.box w5 28 (.slice la X.m lc) (.slice pa X.m pc) (.bool d));have HR6:=aA (HR5.out.alloc (.cells #[.slice la X.m lc,.slice pa X.m pc,.bool d] 28))
 have HRA6:=aA (HRA5.out.below bx);have HRL6:=aA (HRL5.out.below bx)
 have HS6:=aA (HS5.out.alloc (.cells #[.slice la X.m lc,.slice pa X.m pc,.bool d] 28));clear HRA5 HRL5 HR5 HS5 bx;go_wp2_with fail;refine(bM _ B _ 3 HR6.out (by omega) (by omega) (by omega)).mono ?_;rintro e w7 ⟨x,rfl,hx0,hx3,hp7⟩;have s7:=hp7.beside
 have HR7:=aA (hp7.rdr HR6.out);have HRA7:=aA (HRA6.out.beside s7)
 have HRL7:=aA (HRL6.out.beside s7);have HS7:=aA (HS6.out.trans s7)
 obtain⟨⟨c0,c1,c2⟩,cz⟩:=HX6.out.fr (pP s7) (by omega);clear hp7 s7 HRA6 HRL6 HR6 HS6 HX6;by_cases hx:0<x
 ·cases d
  ·go_wp2;refine cW (v:=.tuple #[.int .i64 o,.slice aa LS.length ca]) (by simp[results,Tryz.results51,go_sem, *]) rfl ?_;exact⟨o,aa,LS.length,ca,ada,cpa,L,_,rfl,HRA7.out,by omega,by omega,HR7.out,HS7.out⟩
  ·go_wp2_with fail;have hS:w7.drew.cell? ⟨w5.heap.size,0,none⟩=some (.slice la X.m lc):=c0
   go_region_held3 (fun u=>u.cell? ⟨w5.heap.size,0,none⟩=some (.slice la X.m lc)) (with_reducible exact hS) (fail)
   go_wp2;refine cW (v:=.tuple #[.int .i64 o,.slice la X.m lc]) (by simp[results,Tryz.results51,go_sem, *]) rfl ?_;exact⟨o,la,X.m,lc,lad,lcp,X.L,_,rfl,HRL7.out.below (bQ _ _).drew,hm12',by omega,HR7.out.drewN 1,HS7.out.drew⟩
 ·go_wp2;refine cW (v:=.tuple #[.int .i64 o,.slice aa LS.length ca]) (by simp[results,Tryz.results51,go_sem, *]) rfl ?_;exact⟨o,aa,LS.length,ca,ada,cpa,L,_,rfl,HRA7.out,by omega,by omega,HR7.out,HS7.out⟩
def Gq (w:World) (e:Ending) (w':World):Prop:=∃(o:Int) (a:Option Addr) (n c:Nat) (ad:Nat→Option Addr) (cp:Nat→Nat) (L:Nat→List T),e= .returned (.tuple #[.int .i64 o,.slice a n c])∧eJ w' a n c ad (lN L) cp (fN L)∧n≤12∧Below w.heap.size w w'
theorem OV (w:World) (a:Option Addr) (len cap:Nat) (h:LD w a len cap):Calls Tryz.prog 18 #[.slice a len cap] w (Gq w):=by
 go_enter Tryz.func18,Tryz.ntmps18;go_wp2_with fail;refine(GA _ _ _ _ h).mono ?_;rintro e w1 ⟨rfl,hR1,b1⟩;have hl1:=hR1.lt
 clear h;go_wp2_with fail;refine(SG w1 _ _ hR1 (by omega)).mono ?_;rintro e w2 ⟨o,la,n,lc,lad,lcp,L,q2,rfl,hr2,hn12,hq2,hR2,s2⟩;have b2:=s2.below b1 (Nat.le_refl _) (by omega)
 have HL2:=aA hr2;have HB2:=aA b2
 clear hR1 s2 b1 hr2 b2 hR2;go_wp2;refine cW (v:=.tuple #[.int .i64 o,.slice la n lc]) (by simp[results,Tryz.results18,go_sem, *]) rfl ?_;exact⟨o,la,n,lc,lad,lcp,L,rfl,HL2.out.1,hn12,HB2.out⟩
open Go.RowKit
def uU (o:Int) (n:Nat) (L:Nat→List T) (k i:Nat):Bool:=decide ((∀k',k'<k→∀i',i'<k'→DJ o n L i' k'=2)∧∀i',i'<i→DJ o n L i' k=2)
theorem JW (o:Int) (n:Nat) (L:Nat→List T):uU o n L 1 0=true:=decide_eq_true ⟨fun k' h1 i' h2=>by omega,fun i' h=>by omega⟩
theorem BI {o:Int} {n:Nat} {L:Nat→List T} {k i:Nat} {b:Bool} (h:b=decide (DJ o n L i k=2)):(uU o n L k i&&b)=uU o n L k (i+1):=by
 subst h;unfold uU;rw[←Bool.decide_and];refine decide_eq_decide.2 ⟨fun⟨⟨h1,h2⟩,h3⟩=>⟨h1,fun i' hi'=>?_⟩,fun⟨h1,h2⟩=>⟨⟨h1,fun i' hi'=>h2 i' (by omega)⟩,h2 i (by omega)⟩⟩;by_cases e:i'=i
 ·rw[e];exact h3
 ·exact h2 i' (by omega)
theorem PT (o:Int) (n:Nat) (L:Nat→List T) (k:Nat):uU o n L k k=uU o n L (k+1) 0:=by
 unfold uU;refine decide_eq_decide.2 ⟨fun⟨h1,h2⟩=>⟨fun k' hk' i' hi'=>?_,fun i' h=>by omega⟩,fun⟨h1,h2⟩=>⟨fun k' hk'=>h1 k' (by omega),h1 k (by omega)⟩⟩;by_cases e:k'=k
 ·rw[e]at hi'⊢;exact h2 i' hi'
 ·exact h1 k' (by omega) i' hi'
theorem UD {o:Int} {n k:Nat} {L:Nat→List T} (ho:1≤o∧o≤3) (hl:aU n (lN L) (fN L)=true) (hk:k=n∨(k=1∧n=0)):uU o n L k 0=lK o n L:=by unfold uU lK;refine decide_eq_decide.2 ⟨fun⟨h1,h2⟩=>⟨ho,hl,fun k' hk' i' hi'=>h1 k' (by omega) i' hi'⟩,fun⟨_,_,h⟩=>⟨fun k' hk' i' hi'=>?_,fun i' h=>by omega⟩⟩;exact h k' (by omega) i' hi'
theorem xW {o:Int} {n:Nat} {L:Nat→List T} (h:¬((1≤o∧o≤3)∧aU n (lN L) (fN L)=true)):lK o n L=false:=decide_eq_false fun hh=>h ⟨hh.1,hh.2.1⟩
theorem uL {o:Int} {n m:Nat} {L:Nat→List T} (ho:1≤o∧o≤3) (hl:aU n (lN L) (fN L)=true) (hm:m≤n) (h1:m≤1):lK o m L=true:=by have h:=aR hl;exact decide_eq_true ⟨ho,decide_eq_true ⟨by omega,fun i hi=>h.2 i (by omega)⟩,fun k hk i hi=>by omega⟩
theorem GQ {w:World} {a:Option Addr} {n c m:Nat} {ad:Nat→Option Addr} {cp:Nat→Nat} {L:Nat→List T} (h:eJ w a n c ad (lN L) cp (fN L)) (hm:m≤n):eJ w a m c ad (lN L) cp (fN L):=by
 obtain⟨h1,h2,h3,h4⟩:=h;refine⟨by omega,by omega,?_,fun i hi=>h4 i (by omega)⟩;rcases h3 with h0|⟨b,off,e,hlt,hc⟩
 ·exact .inl (by omega)
 ·exact .inr ⟨b,off,e,hlt,fun i hi=>hc i (by omega)⟩
theorem ZM {w:World} (o:Int) {a b:Option Addr} {ca cb:Nat} {A B:List T} (ha:RL w a ca A) (hb:RL w b cb B):Calls Tryz.prog 22 #[.int .i64 o,.slice a A.length ca,.slice b B.length cb] w (CH w (aZ o (lf A) A.length (lf B) B.length)):=
 (IC w o a b A.length ca B.length cb (lf A) (lf B) ha hb).mono fun _ _ h=>ED h
abbrev Hm (p1 o1 p2 o2:Nat) (v1 v2:Value) (u:World):Prop:=u.cell? ⟨p1,o1,none⟩=some v1∧u.cell? ⟨p2,o2,none⟩=some v2
theorem EF (w:World) (a0:Option Addr) (len0 cap0:Nat) (s0:LD w a0 len0 cap0):Calls Tryz.prog 6 #[.slice a0 len0 cap0] w fun e w'=>e= .returned (.bool true)∧Below w.heap.size w w':=by
 by_cases c0:(1048576:Int)<(len0:Int)
 ·go_enter Tryz.func6,Tryz.ntmps6;go_wp2;go_ret;exact⟨rfl,bQ _ _⟩
 go_enter Tryz.func6,Tryz.ntmps6;go_wp2_with fail;refine(OV w a0 len0 cap0 s0).mono ?_;rintro e wd ⟨o,la0,n,lc0,ad0,cp0,L,rfl,hG,hln,hbd⟩;have HG0:=aA hG
 have Z0:=aA hbd;clear hG hbd s0;have hn5:(n:Int)≤12:=by omega
 obtain⟨gk,hgk⟩:∃b,lK o n L=b:=⟨_,rfl⟩
 have HGK:=aA (hgk);clear hgk;obtain⟨lk,hlk⟩:∃b,aU n (lN L) (fN L)=b:=⟨_,rfl⟩
 have HLK:=aA (hlk);clear hlk;go_wp2_with fail;refine(JJ _ o _ n _ _ _ L HG0.out).mono ?_;rw[HGK.out];rintro e w1 ⟨rfl,b2⟩;have H3:=aA (HG0.out.below b2)
 clear HG0;have Z4:=aA (aB Z0.out b2)
 clear Z0;clear b2;go_wp2_with fail;refine(Cd _ o _ n _ _ _ L H3.out).mono ?_;rw[HGK.out];rintro e w5 ⟨rfl,b6⟩;have H7:=aA (H3.out.below b6)
 clear H3;have Z8:=aA (aB Z4.out b6)
 clear Z4;clear b6;have hgg:(gk !=gk)=false:=by simp
 go_wp2_with fail;refine(rH _ _ _ _ _ _ _ _ H7.out).mono ?_;rw[HLK.out];rintro e w9 ⟨rfl,b10⟩;have H11:=aA (H7.out.below b10)
 clear H7;have Z12:=aA (aB Z8.out b10)
 clear Z8;clear b10;cases lk
 ·have hgf:gk=false:=by rw[←HGK.out];exact xW (by rw[HLK.out];simp)
  subst hgf;go_wp2_with fail;refine(pF _).mono ?_;rintro e w13 ⟨rfl,b14⟩;have H15:=aA (H11.out.below b14)
  clear H11;have Z16:=aA (aB Z12.out b14)
  clear Z12;clear b14;go_wp2;go_ret;exact⟨rfl,Z16.out⟩
 ·by_cases o1:o<1
  ·have hgf:gk=false:=by rw[←HGK.out];exact xW (fun h=>by omega)
   subst hgf;go_wp2_with fail;refine(pF _).mono ?_;rintro e w17 ⟨rfl,b18⟩;have H19:=aA (H11.out.below b18)
   clear H11;have Z20:=aA (aB Z12.out b18)
   clear Z12;clear b18;go_wp2;go_ret;exact⟨rfl,Z20.out⟩
  ·by_cases o3:(3:Int)<o
   ·have hgf:gk=false:=by rw[←HGK.out];exact xW (fun h=>by omega)
    subst hgf;go_wp2_with fail;refine(pF _).mono ?_;rintro e w21 ⟨rfl,b22⟩;have H23:=aA (H11.out.below b22)
    clear H11;have Z24:=aA (aB Z12.out b22)
    clear Z12;clear b22;go_wp2;go_ret;exact⟨rfl,Z24.out⟩
   ·have ho:1≤o∧o≤3:=by omega
    have HO:=aA (ho);clear ho;by_cases hn0:n=0
    ·go_wp2;go_loopw [6,7] (fun va vk wr=>va= .bool true∧vk= .int .i64 1∧Below w9.heap.size w9 wr) (fun _ _ _=>0);case atStart=>exact⟨rfl,rfl,bQ _ _⟩
     case round=>
      obtain⟨rfl,rfl,hBel⟩:=hrel;have hn1:¬(1:Int)<(n:Int):=by omega
      have hgt:gk=true:=by rw[←HGK.out];exact uL HO.out HLK.out (Nat.le_refl _) (by omega)
      subst hgt;have H25:=aA (H11.out.below hBel)
      clear H11;have Z26:=aA (aB Z12.out hBel)
      clear Z12;clear hBel;subst hn0;have HG9:=aA (GQ H25.out (m:=0) (by omega))
      have hg1:lK o 0 L=true:=uL HO.out HLK.out (Nat.le_refl _) (by omega);have HG1:=aA (hg1)
      clear hg1;go_wp2_with fail;refine(JJ _ o _ 0 _ _ _ L HG9.out).mono ?_;rw[HG1.out];rintro e w99 ⟨rfl,hb99⟩;have H27:=aA (H25.out.below hb99)
      clear H25;have Z28:=aA (aB Z26.out hb99)
      clear Z26;clear hb99;go_wp2;go_ret;exact⟨rfl,Z28.out⟩
    ·obtain⟨lb,off,rfl,hlb,hcl⟩:=H11.out.2.2.1.resolve_left hn0;have HCL:=aA hcl
     clear hcl;go_wp2;go_loopw [6,7] (fun va vk wr=>∃k:Nat,1≤k∧k≤n∧va= .bool (uU o n L k 0)∧vk= .int .i64 (k:Int)∧Below w9.heap.size w9 wr) (fun _ vk _=>n-(intOf vk).toNat);case atStart=>exact⟨1,Nat.le_refl _,by omega,by rw[JW],rfl,bQ _ _⟩
     case round=>
      obtain⟨k,hk1,hk2,rfl,rfl,hBel⟩:=hrel;have HBk:=aA hBel
      by_cases hlt:k<n
      ·have hkl:(k:Int)<(n:Int):=by omega
       clear hBel;go_wp2;go_loopw [6,8] (fun va vi wi=>∃i:Nat,i≤k∧va= .bool (uU o n L k i)∧vi= .int .i64 (i:Int)∧Below w9.heap.size w9 wi) (fun _ vi _=>k-(intOf vi).toNat);case atStart=>exact⟨0,gY _,rfl,rfl,HBk.out⟩
       case round=>
        obtain⟨i,hi,rfl,rfl,hBi⟩:=hrel;have HBi:=aA hBi
        by_cases hik:i<k
        ·have hil:(i:Int)<(k:Int):=by omega
         have hin:(i:Int)<(n:Int):=by omega
         have hbd:lb<wr.heap.size:=iZ hlb hBi.size;obtain⟨A,hA⟩:∃A,L i=A:=⟨_,rfl⟩
         obtain⟨Bk,hBk⟩:∃A,L k=A:=⟨_,rfl⟩
         have hBd:=aB hBi ((bQ _ wr).drew);have hS:Hm lb (off+i) lb (off+k) (.slice (ad0 i) A.length (cp0 i)) (.slice (ad0 k) Bk.length (cp0 k)) wr.drew:=⟨(hBd.cell (p:=⟨lb,off+i,none⟩) hlb).trans (by rw[←hA];exact HCL.out i (by omega)),(hBd.cell (p:=⟨lb,off+k,none⟩) hlb).trans (by rw[←hBk];exact HCL.out k hlt)⟩
         have RA:Hid (RL wr.drew (ad0 i) (cp0 i) A):=by rw[←hA];exact(H11.out.2.2.2 i (by omega)).below hBd
         have RB:Hid (RL wr.drew (ad0 k) (cp0 k) Bk):=by rw[←hBk];exact(H11.out.2.2.2 k hlt).below hBd
         obtain⟨s,sb,hsp⟩:∃s sb,aZ o (lf A) A.length (lf Bk) Bk.length=(s,sb):=⟨_,_,rfl⟩
         have hc:=ZM (w:=wr.drew) o RA.out RB.out;rw[hsp]at hc;have HC:=aA hc
         have hsp':aZ o (lf (L i)) (L i).length (lf (L k)) (L k).length=(s,sb):=by rw[hA,hBk];exact hsp
         have HSP:=aA hsp';have HBd:=aA hBd
         have HS:=aA hS;clear hS hc hsp hsp' hA hBk hBi hBd;go_wp2_with fail;have hS:=HS.out
         go_region_held3 (fun u=>u.cell? ⟨lb,off+i,none⟩=some (.slice (ad0 i) A.length (cp0 i))∧u.cell? ⟨lb,off+k,none⟩=some (.slice (ad0 k) Bk.length (cp0 k))) (first|with_reducible exact hS|with_reducible exact Aa.below hS b5) (first|(go_at_call 22;refine HC.out.mono ?_;rintro e w5 ⟨za,zc,rfl,b5,hz⟩))
         have HZ5:Hid (RL w5 za zc s):=hz;have HB5:=aA (aB HBd.out b5)
         have HG5:=aA (H11.out.below HB5.out);obtain⟨okb,hokb⟩:∃b,uU o n L k i=b:=⟨_,rfl⟩
         have HOKB:=aA hokb;rw[hokb];clear hS b5 hz HC RA RB HS hokb;obtain⟨R,hR⟩:∃R,bJ o s n (lN L) (fN L)=R:=⟨_,rfl⟩
         have HR:=aA hR;clear hR;rcases R with _|S
         ·have HP2:Hid (false=decide (DJ o n L i k=2)):=by
           refine(decide_eq_false ?_).symm;cases sb
           ·rw[KC HSP.out];omega
           ·rw[GJ HSP.out HR.out];omega
          go_wp2_with fail;refine(MZ HZ5.out HG5.out HR.out).mono ?_;rintro e w6 ⟨qa6,qc6,ad6,cp6,la6,lc6,rfl,hb6,_,_⟩;have HB6:=aA (aB HB5.out hb6)
          clear hb6;have HNX:=aA (BI (o:=o) (n:=n) (L:=L) HP2.out)
          rw[HOKB.out]at HNX;cases okb
          ·cases sb
           ·go_wp2;go_roundw;case rel=>exact⟨i+1,by omega,by rw[←HNX.out];rfl,by go_num,HB6.out⟩
            case measure=>simp[intOf];omega
           ·go_wp2;go_roundw;case rel=>exact⟨i+1,by omega,by rw[←HNX.out];rfl,by go_num,HB6.out⟩
            case measure=>simp[intOf];omega
          ·cases sb
           ·go_wp2;go_roundw;case rel=>exact⟨i+1,by omega,by rw[←HNX.out];rfl,by go_num,HB6.out⟩
            case measure=>simp[intOf];omega
           ·go_wp2;go_roundw;case rel=>exact⟨i+1,by omega,by rw[←HNX.out];rfl,by go_num,HB6.out⟩
            case measure=>simp[intOf];omega
         ·obtain⟨z0,hz0⟩:∃b,((S.r.length:Int)==0)=b:=⟨_,rfl⟩
          have HP2:Hid ((sb&&z0)=decide (DJ o n L i k=2)):=by
           cases sb
           ·rw[KC HSP.out];rfl
           ·rw[GK HSP.out HR.out,←hz0];by_cases e:S.r.length=0
            ·rw[if_pos e,e];rfl
            ·rw[if_neg e];have:((S.r.length:Int)==0)=false:=beq_eq_false_iff_ne.2 (by omega)
             rw[this];rfl
          have hs300:(S.r.length:Int)≤300:=by have:=(cY HR.out).1.r.2;omega
          go_wp2_with fail;refine(yR HZ5.out HG5.out HR.out).mono ?_;rintro e w6 ⟨qa6,qc6,ad6,cp6,la6,lc6,rfl,hb6,_,_⟩;have HB6:=aA (aB HB5.out hb6)
          clear hb6;have HNX:=aA (BI (o:=o) (n:=n) (L:=L) HP2.out)
          rw[HOKB.out]at HNX;cases okb
          ·cases sb
           ·go_wp2;go_roundw;case rel=>exact⟨i+1,by omega,by rw[←HNX.out];rfl,by go_num,HB6.out⟩
            case measure=>simp[intOf];omega
           ·go_wp2;go_roundw;case rel=>exact⟨i+1,by omega,by rw[←HNX.out];rfl,by go_num,HB6.out⟩
            case measure=>simp[intOf];omega
          ·cases sb
           ·go_wp2;go_roundw;case rel=>exact⟨i+1,by omega,by rw[←HNX.out];rfl,by go_num,HB6.out⟩
            case measure=>simp[intOf];omega
           ·go_wp2;go_roundw;case rel=>exact⟨i+1,by omega,by rw[←HNX.out];rfl,by go_num,HB6.out⟩
            case measure=>simp[intOf];omega
        ·have hie:i=k:=by omega
         subst hie;have hnl:¬(i:Int)<(i:Int):=by omega
         go_wp2;go_roundw;case rel=>exact⟨i+1,by omega,by omega,by rw[PT],by go_num,HBi.out⟩
         case measure=>simp[intOf];omega
      ·have hkn:k=n:=by omega
       subst hkn;have hkl:¬(k:Int)<(k:Int):=by omega
       have hoe:uU o k L k 0=gk:=(UD HO.out HLK.out (.inl rfl)).trans HGK.out;rw[hoe];clear hoe;have hgq:(gk==gk)=true:=by simp
       have H29:=aA (H11.out.below hBel);clear H11;have Z30:=aA (aB Z12.out hBel)
       clear Z12;clear hBel;have HG9:=aA (GQ H29.out (m:=1) (by omega))
       have hg1:lK o 1 L=true:=uL HO.out HLK.out (by omega) (by omega);have HG1:=aA (hg1)
       clear hg1;have hmin:min (1:Int) (k:Int)=1:=by omega
       have hmin2:¬(k:Int)<1:=by omega
       have hcapk:k≤lc0:=H29.out.1;go_wp2_with fail;refine(JJ _ o _ 1 _ _ _ L HG9.out).mono ?_;rw[HG1.out];rintro e w99 ⟨rfl,hb99⟩;have H31:=aA (H29.out.below hb99)
       clear H29;have Z32:=aA (aB Z30.out hb99)
       clear Z30;clear hb99;go_wp2;go_ret;exact⟨rfl,Z32.out⟩
end Go.Proofs.YtmlaedpamobmhaaGreat
