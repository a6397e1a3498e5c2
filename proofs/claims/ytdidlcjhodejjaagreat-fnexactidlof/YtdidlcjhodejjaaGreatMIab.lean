/-
  A pair, divided: what is taken of each and what is left; too much ends in a panic.
-/
import Derived.Test.YtdidlcjhodejjaaGreatMIaa
set_option maxHeartbeats 8000000
set_option maxRecDepth 100000
namespace Go.Proofs.YtdidlcjhodejjaaGreat
open Go.RowKit Go.Deep Go.Joins
set_option linter.unusedVariables false
abbrev Aa (u:World) (b:Nat) (p:Pr) (lb i k:Nat) (v1 v2:Value):Prop:=
 u.cell? ⟨b,0,none⟩=some (.int .i64 p.t1.c)∧u.cell? ⟨b,1,none⟩=some (.int .i64 p.t1.m.x)∧u.cell? ⟨b,2,none⟩=some (.int .i64 p.t1.m.y)∧u.cell? ⟨b,3,none⟩=some (.int .i64 p.t1.m.d)∧u.cell? ⟨b,4,none⟩=some (.int .i64 p.t1.m.e)∧u.cell? ⟨b,5,none⟩=some (.int .i64 p.t2.c)∧u.cell? ⟨b,6,none⟩=some (.int .i64 p.t2.m.x)∧u.cell? ⟨b,7,none⟩=some (.int .i64 p.t2.m.y)∧u.cell? ⟨b,8,none⟩=some (.int .i64 p.t2.m.d)∧u.cell? ⟨b,9,none⟩=some (.int .i64 p.t2.m.e)∧u.cell? ⟨b,10,none⟩=some (.int .i64 (p.i:Int))∧u.cell? ⟨b,11,none⟩=some (.int .i64 (p.k:Int))∧u.cell? ⟨lb,i,none⟩=some v1∧u.cell? ⟨lb,k,none⟩=some v2
theorem Aa.mk {u:World} {b:Nat} {p:Pr} {nx:Option Addr} {lb i k:Nat} {v1 v2:Value} (h:jK u b p nx) (h1:u.cell? ⟨lb,i,none⟩=some v1) (h2:u.cell? ⟨lb,k,none⟩=some v2):Aa u b p lb i k v1 v2:=⟨h.a0,h.a1,h.a2,h.a3,h.a4,h.b0,h.b1,h.b2,h.b3,h.b4,h.ci,h.ck,h1,h2⟩
theorem Aa.below {u u':World} {b:Nat} {p:Pr} {lb i k:Nat} {v1 v2:Value} (h:Aa u b p lb i k v1 v2) (hb:Below u.heap.size u u'):Aa u' b p lb i k v1 v2:=by
 obtain⟨a0,a1,a2,a3,a4,c0,c1,c2,c3,c4,d0,d1,e0,e1⟩:=h;have l1:=cX u _ a0
 have l2:=cX u _ e0;exact⟨(hb.cell (p:=⟨b,0,none⟩) l1).trans a0,(hb.cell (p:=⟨b,1,none⟩) l1).trans a1,(hb.cell (p:=⟨b,2,none⟩) l1).trans a2,(hb.cell (p:=⟨b,3,none⟩) l1).trans a3,(hb.cell (p:=⟨b,4,none⟩) l1).trans a4,(hb.cell (p:=⟨b,5,none⟩) l1).trans c0,(hb.cell (p:=⟨b,6,none⟩) l1).trans c1,(hb.cell (p:=⟨b,7,none⟩) l1).trans c2,(hb.cell (p:=⟨b,8,none⟩) l1).trans c3,(hb.cell (p:=⟨b,9,none⟩) l1).trans c4,(hb.cell (p:=⟨b,10,none⟩) l1).trans d0,(hb.cell (p:=⟨b,11,none⟩) l1).trans d1,(hb.cell (p:=⟨lb,i,none⟩) l2).trans e0,(hb.cell (p:=⟨lb,k,none⟩) l2).trans e1⟩
def Sq (w:World) (n:Nat) (R:Option Dv) (r:Ending) (w':World):Prop:=
 Below w.heap.size w w'∧((∃S qa qc ad cp Rb B la lc mid lo,R=some S∧r= .returned (.tuple #[.slice qa n qc,.slice la S.r.length lc])∧w.heap.size≤lo∧iL lo w' qa n qc ad (fun i=>(S.q i).length) cp (fun i=>lf (S.q i)) Rb B∧jN mid w' la lc S.r∧(n=0∨Rb<mid)∧(∀i,i<n→(S.q i).length≠0→B i<mid)∧lo≤mid)∨(R=none∧r= .panicked [{v:=fG,recovered:=false}]))
def EX (o:Int) (n:Nat) (L:Nat→List T) (p:Pr):Option Dv:=
 match mE p.t1 p.t2 (lf (L p.i)) (L p.i).length (lf (L p.k)) (L p.k).length with
 |(s,true)=>aW o s n (lN L) (fN L)
 |(_,false)=>none
theorem MG (w:World) (b:Nat) (p:Pr) (nx:Option Addr) (hp:jK w b p nx) (o:Int) (a:Option Addr) (n cap:Nat) (ad:Nat→Option Addr) (cp:Nat→Nat) (L:Nat→List T) (h:cZ w a n cap ad (lN L) cp (fN L)) (hi:p.i<n) (hk:p.k<n) {R:Option Dv} (hR:EX o n L p=R):Calls Tryz.prog 81 #[.pointer (some ⟨b,0,none⟩),.int .i64 o,.slice a n cap] w (Sq w n R):=by
 have q1:(n:Int)≤140737488351232:=by have:=h.2.1;omega
 have i1:(0:Int)≤(p.i:Int):=by omega
 have i2:(p.i:Int)<(n:Int):=by omega
 have k1:(0:Int)≤(p.k:Int):=by omega
 have k2:(p.k:Int)<(n:Int):=by omega
 have dr:Below w.heap.size w w.drew:=(bL _ _).drew;rcases h.2.2.1 with h0|⟨lb,off,rfl,hblt,hcl⟩
 ·omega
 obtain⟨A,hA⟩:∃A,L p.i=A:=⟨_,rfl⟩
 obtain⟨C,hC⟩:∃A,L p.k=A:=⟨_,rfl⟩
 have RA:Hid (RL w.drew (ad p.i) (cp p.i) A):=by rw[←hA];exact(h.2.2.2 p.i hi).below dr
 have RC:Hid (RL w.drew (ad p.k) (cp p.k) C):=by rw[←hC];exact(h.2.2.2 p.k hk).below dr
 have hS0:Aa w.drew b p lb (off+p.i) (off+p.k) (.slice (ad p.i) A.length (cp p.i)) (.slice (ad p.k) C.length (cp p.k)):=Aa.mk (hp.below dr) ((dr.cell (p:=⟨lb,off+p.i,none⟩) hblt).trans (by rw[←hA];exact hcl p.i hi)) ((dr.cell (p:=⟨lb,off+p.k,none⟩) hblt).trans (by rw[←hC];exact hcl p.k hk));have HS:=aA hS0
 have HH:=aA (h.below dr);have HB0:=aA dr
 obtain⟨s,sb,hsp⟩:∃s sb,mE p.t1 p.t2 (lf A) A.length (lf C) C.length=(s,sb):=⟨_,_,rfl⟩
 have hc:=Pz w.drew p.t1 p.t2 (ad p.i) (ad p.k) A.length (cp p.i) C.length (cp p.k) (lf A) (lf C) RA.out RC.out;rw[hsp]at hc;have HC:=aA hc
 have hRR:(match ((s,sb):List T×Bool)with|(s,true)=>aW o s n (lN L) (fN L)|(_,false)=>none)=R:=by rw[←hR];unfold EX;rw[hA,hC,hsp]
 have HRR:=aA hRR;have hlbw:lb<w.heap.size:=hblt
 have hbw:b<w.heap.size:=hp.lt;clear hp h hcl hS0 hc hsp hR hRR hA hC dr hblt;cases sb
 ·have hRn:R=none:=HRR.out.symm;subst hRn;go_enter Tryz.func81,Tryz.ntmps81;go_wp2_with fail;have hS:=HS.out
  refine wp_region_held_drew (S:=(fun u=>Aa u b p lb (off+p.i) (off+p.k) (.slice (ad p.i) A.length (cp p.i)) (.slice (ad p.k) C.length (cp p.k)))) (by kernel_rfl) hS (fun hHeld=>?_);clear hS;refine wpAnyH_take (i:=0) (v:=?_) rfl (by kernel_rfl) (by kernel_rfl) (by kernel_rfl) (fun _ _ _ h=>h) (Or.inl ⟨by rfl,?_⟩) (by assumption) ?_;rotate_left
  ·(intro w9 hSw;(try dsimp only at hSw);go_simp)<;>with_reducible rfl
  refine wpAnyH_take (i:=1) (v:=?_) rfl (by kernel_rfl) (by kernel_rfl) (by kernel_rfl) (fun _ _ _ h=>h) (Or.inl ⟨by rfl,?_⟩) (by assumption) ?_;rotate_left
  ·(intro w9 hSw;(try dsimp only at hSw);go_simp)<;>with_reducible rfl
  refine wpAnyH_take (i:=2) (v:=?_) rfl (by kernel_rfl) (by kernel_rfl) (by kernel_rfl) (fun _ _ _ h=>h) (Or.inl ⟨by rfl,?_⟩) (by assumption) ?_;rotate_left
  ·(intro w9 hSw;(try dsimp only at hSw);go_simp)<;>with_reducible rfl
  refine wpAnyH_take (i:=3) (v:=?_) rfl (by kernel_rfl) (by kernel_rfl) (by kernel_rfl) (fun _ _ _ h=>h) (Or.inl ⟨by rfl,?_⟩) (by assumption) ?_;rotate_left
  ·(intro w9 hSw;(try dsimp only at hSw);go_simp)<;>with_reducible rfl
  refine wpAnyH_take (i:=4) (v:=?_) rfl (by kernel_rfl) (by kernel_rfl) (by kernel_rfl) (fun _ _ _ h=>h) (Or.inl ⟨by rfl,?_⟩) (by assumption) ?_;rotate_left
  ·(intro w9 hSw;(try dsimp only at hSw);go_simp)<;>with_reducible rfl
  refine wpAnyH_take (i:=5) (v:=?_) rfl (by kernel_rfl) (by kernel_rfl) (by kernel_rfl) (fun _ _ _ h=>h) (Or.inl ⟨by rfl,?_⟩) (by assumption) ?_;rotate_left
  ·(intro w9 hSw;(try dsimp only at hSw);go_simp)<;>with_reducible rfl
  refine wpAnyH_take (i:=6) (v:=?_) rfl (by kernel_rfl) (by kernel_rfl) (by kernel_rfl) (fun _ _ _ h=>h) (Or.inl ⟨by rfl,?_⟩) (by assumption) ?_;rotate_left
  ·(intro w9 hSw;(try dsimp only at hSw);go_simp)<;>with_reducible rfl
  refine wpAnyH_take (i:=7) (v:=?_) rfl (by kernel_rfl) (by kernel_rfl) (by kernel_rfl) (fun _ _ _ h=>h) (Or.inl ⟨by rfl,?_⟩) (by assumption) ?_;rotate_left
  ·(intro w9 hSw;(try dsimp only at hSw);go_simp)<;>with_reducible rfl
  refine wpAnyH_take (i:=8) (v:=?_) rfl (by kernel_rfl) (by kernel_rfl) (by kernel_rfl) (fun _ _ _ h=>h) (Or.inl ⟨by rfl,?_⟩) (by assumption) ?_;rotate_left
  ·(intro w9 hSw;(try dsimp only at hSw);go_simp)<;>with_reducible rfl
  refine wpAnyH_take (i:=9) (v:=?_) rfl (by kernel_rfl) (by kernel_rfl) (by kernel_rfl) (fun _ _ _ h=>h) (Or.inl ⟨by rfl,?_⟩) (by assumption) ?_;rotate_left
  ·(intro w9 hSw;(try dsimp only at hSw);go_simp)<;>with_reducible rfl
  refine wpAnyH_take (i:=10) (v:=?_) rfl (by kernel_rfl) (by kernel_rfl) (by kernel_rfl) (fun _ _ _ h=>h) (Or.inl ⟨by rfl,?_⟩) (by assumption) ?_;rotate_left
  ·(intro w9 hSw;(try dsimp only at hSw);go_simp)<;>with_reducible rfl
  refine wpAnyH_take (i:=11) (v:=?_) rfl (by kernel_rfl) (by kernel_rfl) (by kernel_rfl) (fun _ _ _ h=>h) (Or.inl ⟨by rfl,?_⟩) (by assumption) ?_;rotate_left
  ·(intro w9 hSw;(try dsimp only at hSw);go_simp)<;>with_reducible rfl
  refine wpAnyH_take (i:=12) (v:=?_) rfl (by kernel_rfl) (by kernel_rfl) (by kernel_rfl) (fun _ _ _ h=>h) (Or.inl ⟨by rfl,?_⟩) (by assumption) ?_;rotate_left
  ·(intro w9 hSw;(try dsimp only at hSw);go_simp)<;>with_reducible rfl
  refine wpAnyH_take (i:=13) (v:=?_) rfl (by kernel_rfl) (by kernel_rfl) (by kernel_rfl) (fun _ _ _ h=>h) (Or.inl ⟨by rfl,?_⟩) (by assumption) ?_;rotate_left
  ·(intro w9 hSw;(try dsimp only at hSw);go_simp)<;>with_reducible rfl
  refine wpAnyH_take (i:=14) (v:=?_) rfl (by kernel_rfl) (by kernel_rfl) (by kernel_rfl) (fun _ _ _ h=>h) (Or.inl ⟨by rfl,?_⟩) (by assumption) ?_;rotate_left
  ·(intro w9 hSw;(try dsimp only at hSw);go_simp)<;>with_reducible rfl
  refine wpAnyH_take (i:=15) (v:=?_) rfl (by kernel_rfl) (by kernel_rfl) (by kernel_rfl) (fun _ _ _ h=>h) (Or.inl ⟨by rfl,?_⟩) (by assumption) ?_;rotate_left
  ·(intro w9 hSw;(try dsimp only at hSw);go_simp)<;>with_reducible rfl
  refine wpAnyH_take (i:=16) (v:=?_) rfl (by kernel_rfl) (by kernel_rfl) (by kernel_rfl) (fun _ _ _ h=>h) (Or.inl ⟨by rfl,?_⟩) (by assumption) ?_;rotate_left
  ·(intro w9 hSw;(try dsimp only at hSw);go_simp)<;>with_reducible rfl
  refine wpAnyH_take (i:=17) (v:=?_) rfl (by kernel_rfl) (by kernel_rfl) (by kernel_rfl) (fun _ _ _ h=>h) (Or.inl ⟨by rfl,?_⟩) (by assumption) ?_;rotate_left
  ·(intro w9 hSw;(try dsimp only at hSw);go_simp)<;>with_reducible rfl
  refine wpAnyH_ready (rs:=[18]) (by kernel_rfl) (by simp) ?_;refine AllReadyH.cons rfl (fun K hK=>?_) AllReadyH.nil;go_simp;go_wp2_with (go_at_call 125;refine HC.out.mono ?_;rintro e w5 ⟨za,zc,rfl,b5,hz⟩);refine hK.out _ _ ?_ (fun hHeld2=>?_)
  ·exact Aa.below hHeld b5
  clear hK K;refine wpAnyH_take (i:=19) (v:=?_) rfl (by kernel_rfl) (by kernel_rfl) (by kernel_rfl) (fun _ _ _ h=>h) (Or.inl ⟨by rfl,?_⟩) (by assumption) ?_;rotate_left
  ·(intro w9 hSw;(try dsimp only at hSw);go_simp)<;>with_reducible rfl
  refine wpAnyH_take (i:=20) (v:=?_) rfl (by kernel_rfl) (by kernel_rfl) (by kernel_rfl) (fun _ _ _ h=>h) (Or.inl ⟨by rfl,?_⟩) (by assumption) ?_;rotate_left
  ·(intro w9 hSw;(try dsimp only at hSw);go_simp)<;>with_reducible rfl
  refine wpAnyH_ready (rs:=[21]) (by kernel_rfl) (by simp) ?_;refine AllReadyH.cons rfl (fun K hK=>?_) AllReadyH.nil;go_simp;go_wp2_with (go_at_call 124;refine(gF _ _).mono ?_;rintro e wn ⟨rfl,hwn⟩;obtain rfl:=hwn.symm;clear hwn);exact⟨rfl,aB HB0.out b5,.inr ⟨rfl,rfl⟩⟩
 ·have hRs:aW o s n (lN L) (fN L)=R:=HRR.out;have HR:=aA hRs
  clear hRs HRR;go_enter Tryz.func81,Tryz.ntmps81;go_wp2_with fail;have hS:=HS.out
  go_region_held3 (fun u=>Aa u b p lb (off+p.i) (off+p.k) (.slice (ad p.i) A.length (cp p.i)) (.slice (ad p.k) C.length (cp p.k))) (first|with_reducible exact hS|with_reducible exact Aa.below hS b5) (first|(go_at_call 125;refine HC.out.mono ?_;rintro e w5 ⟨za,zc,rfl,b5,hz⟩)|(go_at_call 124;refine(iE _ _).mono ?_;rintro e wn ⟨rfl,hwn⟩;obtain rfl:=hwn.symm;clear hwn))
  have HB5:=aA (aB HB0.out b5);have HZ5:Hid (RL w5 za zc s):=hz.1
  have HH5:=aA (HH.out.below b5);have hs5:w.heap.size≤w5.heap.size:=HB5.out.size
  clear hS b5 hz HC RA RC HS HH;go_wp2_with fail;refine(DN w5 o za zc s _ n cap ad (lN L) cp (fN L) HZ5.out HH5.out HR.out).mono ?_;rintro e w6 ⟨qa,qc,ad6,cp6,Rb,B6,la,lc,mid,rfl,b6,o1,o2,m1,m2,m3⟩;have HB6:=aA (aB HB5.out b6)
  clear b6;cases R with
  |none=>
   clear o1 o2 m1 m2 m3;go_wp2_with fail;refine(gF _ _).mono ?_;rintro e wn ⟨rfl,hwn⟩;obtain rfl:=hwn.symm;clear hwn;exact⟨rfl,HB6.out,.inr ⟨rfl,rfl⟩⟩
  |some S=>
   have HO1:=aA o1;have HO2:=aA o2
   have HM:=aA (And.intro m1 (And.intro m2 m3));clear o1 o2 m1 m2 m3;have e1:FB n (some S)=n:=rfl
   have e2:qG (some S)=S.r:=rfl;rw[e1,e2];clear e1 e2;go_wp2_with fail;refine(iE _ _).mono ?_;rintro e wn ⟨rfl,hwn⟩;obtain rfl:=hwn.symm;clear hwn;go_wp2;refine bY (results_tmp2 rfl _ _ _) rfl ?_;exact⟨HB6.out,.inl ⟨S,qa,qc,ad6,cp6,Rb,B6,la,lc,mid,w5.heap.size,rfl,rfl,hs5,HO1.out,HO2.out,HM.out.1,HM.out.2.1,HM.out.2.2⟩⟩
theorem UX {w:World} {lo lo':Nat} {e:TypeId} {size:Nat} {v:Value} {n:Nat} {xs:List Value} (h:w.ownsRow lo e size v n xs) (hl:lo'≤lo):w.ownsRow lo' e size v n xs:=⟨h.1,h.2.imp id (fun⟨g,cap,cur,e1,e2,r⟩=>⟨g,cap,cur,e1,jZ hl e2,r⟩)⟩
theorem mT.low {Y:Nat→Prop} {w:World} {lo lo':Nat} {tvL tvP:Value} {g nL:Nat} {L:Nat→List T} {nP:Nat} {Q:Nat→Nat→List T} {LS PS:List Value} (h:mT Y w lo tvL tvP g nL L nP Q LS PS) (hl:lo'≤lo):mT Y w lo' tvL tvP g nL L nP Q LS PS:=⟨UX h.rL hl,UX h.rP hl,h.eL,h.eP,h.nL,h.nP⟩
end Go.Proofs.YtdidlcjhodejjaaGreat
