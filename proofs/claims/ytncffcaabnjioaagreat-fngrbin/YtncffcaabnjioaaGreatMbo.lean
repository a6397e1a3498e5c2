/-
  A pair, divided: what is taken of each and what is left; too much ends in a panic.
-/
import Derived.Test.YtncffcaabnjioaaGreatMbk
import Derived.Deep.LoopGhost
set_option maxHeartbeats 8000000
set_option maxRecDepth 100000
namespace Go.Proofs.YtncffcaabnjioaaGreat
open Go.RowKit Go.Deep Go.Joins
set_option linter.unusedVariables false
abbrev NI (u:World) (b:Nat) (p:Pr) (lb i k:Nat) (v1 v2:Value):Prop:=
 u.cell? ⟨b,0,none⟩=some (.int .i64 p.t1.c)∧u.cell? ⟨b,1,none⟩=some (.int .i64 p.t1.m.x)∧u.cell? ⟨b,2,none⟩=some (.int .i64 p.t1.m.y)∧u.cell? ⟨b,3,none⟩=some (.int .i64 p.t1.m.d)∧u.cell? ⟨b,4,none⟩=some (.int .i64 p.t1.m.e)∧u.cell? ⟨b,5,none⟩=some (.int .i64 p.t2.c)∧u.cell? ⟨b,6,none⟩=some (.int .i64 p.t2.m.x)∧u.cell? ⟨b,7,none⟩=some (.int .i64 p.t2.m.y)∧u.cell? ⟨b,8,none⟩=some (.int .i64 p.t2.m.d)∧u.cell? ⟨b,9,none⟩=some (.int .i64 p.t2.m.e)∧u.cell? ⟨b,10,none⟩=some (.int .i64 (p.i:Int))∧u.cell? ⟨b,11,none⟩=some (.int .i64 (p.k:Int))∧u.cell? ⟨lb,i,none⟩=some v1∧u.cell? ⟨lb,k,none⟩=some v2
theorem NI.mk {u:World} {b:Nat} {p:Pr} {nx:Option Addr} {lb i k:Nat} {v1 v2:Value} (h:jL u b p nx) (h1:u.cell? ⟨lb,i,none⟩=some v1) (h2:u.cell? ⟨lb,k,none⟩=some v2):NI u b p lb i k v1 v2:=⟨h.a0,h.a1,h.a2,h.a3,h.a4,h.b0,h.b1,h.b2,h.b3,h.b4,h.ci,h.ck,h1,h2⟩
theorem NI.below {u u':World} {b:Nat} {p:Pr} {lb i k:Nat} {v1 v2:Value} (h:NI u b p lb i k v1 v2) (hb:Below u.heap.size u u'):NI u' b p lb i k v1 v2:=by
 obtain⟨a0,a1,a2,a3,a4,c0,c1,c2,c3,c4,d0,d1,e0,e1⟩:=h;have l1:=cU u _ a0
 have l2:=cU u _ e0;exact⟨(hb.cell (p:=⟨b,0,none⟩) l1).trans a0,(hb.cell (p:=⟨b,1,none⟩) l1).trans a1,(hb.cell (p:=⟨b,2,none⟩) l1).trans a2,(hb.cell (p:=⟨b,3,none⟩) l1).trans a3,(hb.cell (p:=⟨b,4,none⟩) l1).trans a4,(hb.cell (p:=⟨b,5,none⟩) l1).trans c0,(hb.cell (p:=⟨b,6,none⟩) l1).trans c1,(hb.cell (p:=⟨b,7,none⟩) l1).trans c2,(hb.cell (p:=⟨b,8,none⟩) l1).trans c3,(hb.cell (p:=⟨b,9,none⟩) l1).trans c4,(hb.cell (p:=⟨b,10,none⟩) l1).trans d0,(hb.cell (p:=⟨b,11,none⟩) l1).trans d1,(hb.cell (p:=⟨lb,i,none⟩) l2).trans e0,(hb.cell (p:=⟨lb,k,none⟩) l2).trans e1⟩
def As (w:World) (n:Nat) (R:Option Dv) (r:Ending) (w':World):Prop:=
 Below w.heap.size w w'∧((∃S qa qc ad cp Rb B la lc mid lo,R=some S∧r= .returned (.tuple #[.slice qa n qc,.slice la S.r.length lc])∧w.heap.size≤lo∧jK lo w' qa n qc ad (fun i=>(S.q i).length) cp (fun i=>lf (S.q i)) Rb B∧lI mid w' la lc S.r∧(n=0∨Rb<mid)∧(∀i,i<n→(S.q i).length≠0→B i<mid)∧lo≤mid)∨(R=none∧r= .panicked [{v:=gW,recovered:=false}]))
def FD (o:Int) (n:Nat) (L:Nat→List T) (p:Pr):Option Dv:=
 match kQ p.t1 p.t2 (lf (L p.i)) (L p.i).length (lf (L p.k)) (L p.k).length with
 |(s,true)=>aP o s n (lN L) (fN L)
 |(_,false)=>none
theorem OC (w:World) (b:Nat) (p:Pr) (nx:Option Addr) (hp:jL w b p nx) (o:Int) (a:Option Addr) (n cap:Nat) (ad:Nat→Option Addr) (cp:Nat→Nat) (L:Nat→List T) (h:fZ w a n cap ad (lN L) cp (fN L)) (hi:p.i<n) (hk:p.k<n) {R:Option Dv} (hR:FD o n L p=R):Calls Tryz.prog 51 #[.pointer (some ⟨b,0,none⟩),.int .i64 o,.slice a n cap] w (As w n R):=by
 have q1:(n:Int)≤140737488351232:=by have:=h.2.1;omega
 have i1:(0:Int)≤(p.i:Int):=by omega
 have i2:(p.i:Int)<(n:Int):=by omega
 have k1:(0:Int)≤(p.k:Int):=by omega
 have k2:(p.k:Int)<(n:Int):=by omega
 have dr:Below w.heap.size w w.drew:=(cE _ _).drew;rcases h.2.2.1 with h0|⟨lb,off,rfl,hblt,hcl⟩
 ·omega
 obtain⟨A,hA⟩:∃A,L p.i=A:=⟨_,rfl⟩
 obtain⟨C,hC⟩:∃A,L p.k=A:=⟨_,rfl⟩
 have RA:Hid (RL w.drew (ad p.i) (cp p.i) A):=by rw[←hA];exact(h.2.2.2 p.i hi).below dr
 have RC:Hid (RL w.drew (ad p.k) (cp p.k) C):=by rw[←hC];exact(h.2.2.2 p.k hk).below dr
 have hS0:NI w.drew b p lb (off+p.i) (off+p.k) (.slice (ad p.i) A.length (cp p.i)) (.slice (ad p.k) C.length (cp p.k)):=NI.mk (hp.below dr) ((dr.cell (p:=⟨lb,off+p.i,none⟩) hblt).trans (by rw[←hA];exact hcl p.i hi)) ((dr.cell (p:=⟨lb,off+p.k,none⟩) hblt).trans (by rw[←hC];exact hcl p.k hk));have HS:=aA hS0
 have HH:=aA (h.below dr);have HB0:=aA dr
 obtain⟨s,sb,hsp⟩:∃s sb,kQ p.t1 p.t2 (lf A) A.length (lf C) C.length=(s,sb):=⟨_,_,rfl⟩
 have hc:=ZC w.drew p.t1 p.t2 (ad p.i) (ad p.k) A.length (cp p.i) C.length (cp p.k) (lf A) (lf C) RA.out RC.out;rw[hsp]at hc;have HC:=aA hc
 have hRR:(match ((s,sb):List T×Bool)with|(s,true)=>aP o s n (lN L) (fN L)|(_,false)=>none)=R:=by rw[←hR];unfold FD;rw[hA,hC,hsp]
 have HRR:=aA hRR;have hlbw:lb<w.heap.size:=hblt
 have hbw:b<w.heap.size:=hp.lt;clear hp h hcl hS0 hc hsp hR hRR hA hC dr hblt;cases sb
 ·have hRn:R=none:=HRR.out.symm;subst hRn;go_enter Tryz.func51,Tryz.ntmps51;go_wp2_with fail;have hS:=HS.out
  refine wp_region_held_drew (S:=(fun u=>NI u b p lb (off+p.i) (off+p.k) (.slice (ad p.i) A.length (cp p.i)) (.slice (ad p.k) C.length (cp p.k)))) (by kernel_rfl) hS (fun hHeld=>?_);clear hS;refine wpAnyH_take (i:=0) (v:=?_) rfl (by kernel_rfl) (by kernel_rfl) (by kernel_rfl) (fun _ _ _ h=>h) (Or.inl ⟨by rfl,?_⟩) (by assumption) ?_;rotate_left
  ·(intro w9 hSw;(try dsimp only at hSw);go_simp)<;>with_reducible rfl
  refine wpAnyH_take (i:=1) (v:=?_) rfl (by kernel_rfl) (by kernel_rfl) (by kernel_rfl) (fun _ _ _ h=>h) (Or.inl ⟨by rfl,?_⟩) (by assumption) ?_;rotate_left
  ·(intro w9 hSw;(try dsimp only at hSw);go_simp)<;>with_reducible rfl
  refine wpAnyH_take (i:=2) (v:=?_) rfl (by kernel_rfl) (by kernel_rfl) (by kernel_rfl) (fun _ _ _ h=>h) (Or.inl ⟨by rfl,?_⟩) (by assumption) ?_;rotate_left
  ·(intro w9 hSw;(try dsimp only at hSw);go_simp)<;>with_reducible rfl
  refine wpAnyH_take (i:=3) (v:=?_) rfl (by kernel_rfl) (by kernel_rfl) (by kernel_rfl) (fun _ _ _ h=>h) (Or.inl ⟨by rfl,?_⟩) (by assumption) ?_;rotate_left
  ·(intro w9 hSw;(try dsimp only at hSw);go_simp)<;>with_reducible rfl
  refine wpAnyH_take (i:=4) (v:=?_) rfl (by kernel_rfl) (by kernel_rfl) (by kernel_rfl) (fun _ _ _ h=>h) (Or.inl ⟨by rfl,?_⟩) (by assumption) ?_;rotate_left
  ·(intro w9 hSw;(try dsimp only at hSw);go_simp)<;>with_reducible rfl
  refine wpAnyH_take (i:=5) (v:=?_) rfl (by kernel_rfl) (by kernel_rfl) (by kernel_rfl) (fun _ _ _ h=>h) (Or.inl ⟨by rfl,?_⟩) (by assumption) ?_;rotate_left
  ·(intro w9 hSw;(try dsimp only at hSw);go_simp)<;>with_reducible rfl
  refine wpAnyH_take (i:=6) (v:=?_) rfl (by kernel_rfl) (by kernel_rfl) (by kernel_rfl) (fun _ _ _ h=>h) (Or.inl ⟨by rfl,?_⟩) (by assumption) ?_;rotate_left
  ·(intro w9 hSw;(try dsimp only at hSw);go_simp)<;>with_reducible rfl
  refine wpAnyH_take (i:=7) (v:=?_) rfl (by kernel_rfl) (by kernel_rfl) (by kernel_rfl) (fun _ _ _ h=>h) (Or.inl ⟨by rfl,?_⟩) (by assumption) ?_;rotate_left
  ·(intro w9 hSw;(try dsimp only at hSw);go_simp)<;>with_reducible rfl
  refine wpAnyH_take (i:=8) (v:=?_) rfl (by kernel_rfl) (by kernel_rfl) (by kernel_rfl) (fun _ _ _ h=>h) (Or.inl ⟨by rfl,?_⟩) (by assumption) ?_;rotate_left
  ·(intro w9 hSw;(try dsimp only at hSw);go_simp)<;>with_reducible rfl
  refine wpAnyH_take (i:=9) (v:=?_) rfl (by kernel_rfl) (by kernel_rfl) (by kernel_rfl) (fun _ _ _ h=>h) (Or.inl ⟨by rfl,?_⟩) (by assumption) ?_;rotate_left
  ·(intro w9 hSw;(try dsimp only at hSw);go_simp)<;>with_reducible rfl
  refine wpAnyH_take (i:=10) (v:=?_) rfl (by kernel_rfl) (by kernel_rfl) (by kernel_rfl) (fun _ _ _ h=>h) (Or.inl ⟨by rfl,?_⟩) (by assumption) ?_;rotate_left
  ·(intro w9 hSw;(try dsimp only at hSw);go_simp)<;>with_reducible rfl
  refine wpAnyH_take (i:=11) (v:=?_) rfl (by kernel_rfl) (by kernel_rfl) (by kernel_rfl) (fun _ _ _ h=>h) (Or.inl ⟨by rfl,?_⟩) (by assumption) ?_;rotate_left
  ·(intro w9 hSw;(try dsimp only at hSw);go_simp)<;>with_reducible rfl
  refine wpAnyH_take (i:=12) (v:=?_) rfl (by kernel_rfl) (by kernel_rfl) (by kernel_rfl) (fun _ _ _ h=>h) (Or.inl ⟨by rfl,?_⟩) (by assumption) ?_;rotate_left
  ·(intro w9 hSw;(try dsimp only at hSw);go_simp)<;>with_reducible rfl
  refine wpAnyH_take (i:=13) (v:=?_) rfl (by kernel_rfl) (by kernel_rfl) (by kernel_rfl) (fun _ _ _ h=>h) (Or.inl ⟨by rfl,?_⟩) (by assumption) ?_;rotate_left
  ·(intro w9 hSw;(try dsimp only at hSw);go_simp)<;>with_reducible rfl
  refine wpAnyH_take (i:=14) (v:=?_) rfl (by kernel_rfl) (by kernel_rfl) (by kernel_rfl) (fun _ _ _ h=>h) (Or.inl ⟨by rfl,?_⟩) (by assumption) ?_;rotate_left
  ·(intro w9 hSw;(try dsimp only at hSw);go_simp)<;>with_reducible rfl
  refine wpAnyH_take (i:=15) (v:=?_) rfl (by kernel_rfl) (by kernel_rfl) (by kernel_rfl) (fun _ _ _ h=>h) (Or.inl ⟨by rfl,?_⟩) (by assumption) ?_;rotate_left
  ·(intro w9 hSw;(try dsimp only at hSw);go_simp)<;>with_reducible rfl
  refine wpAnyH_take (i:=16) (v:=?_) rfl (by kernel_rfl) (by kernel_rfl) (by kernel_rfl) (fun _ _ _ h=>h) (Or.inl ⟨by rfl,?_⟩) (by assumption) ?_;rotate_left
  ·(intro w9 hSw;(try dsimp only at hSw);go_simp)<;>with_reducible rfl
  refine wpAnyH_take (i:=17) (v:=?_) rfl (by kernel_rfl) (by kernel_rfl) (by kernel_rfl) (fun _ _ _ h=>h) (Or.inl ⟨by rfl,?_⟩) (by assumption) ?_;rotate_left
  ·(intro w9 hSw;(try dsimp only at hSw);go_simp)<;>with_reducible rfl
  refine wpAnyH_ready (rs:=[18]) (by kernel_rfl) (by simp) ?_;refine AllReadyH.cons rfl (fun K hK=>?_) AllReadyH.nil;go_simp;go_wp2_with (go_at_call 95;refine HC.out.mono ?_;rintro e w5 ⟨za,zc,rfl,b5,hz⟩);refine hK.out _ _ ?_ (fun hHeld2=>?_)
  ·exact NI.below hHeld b5
  clear hK K;refine wpAnyH_take (i:=19) (v:=?_) rfl (by kernel_rfl) (by kernel_rfl) (by kernel_rfl) (fun _ _ _ h=>h) (Or.inl ⟨by rfl,?_⟩) (by assumption) ?_;rotate_left
  ·(intro w9 hSw;(try dsimp only at hSw);go_simp)<;>with_reducible rfl
  refine wpAnyH_take (i:=20) (v:=?_) rfl (by kernel_rfl) (by kernel_rfl) (by kernel_rfl) (fun _ _ _ h=>h) (Or.inl ⟨by rfl,?_⟩) (by assumption) ?_;rotate_left
  ·(intro w9 hSw;(try dsimp only at hSw);go_simp)<;>with_reducible rfl
  refine wpAnyH_ready (rs:=[21]) (by kernel_rfl) (by simp) ?_;refine AllReadyH.cons rfl (fun K hK=>?_) AllReadyH.nil;go_simp;go_wp2_with (go_at_call 92;refine(gY _ _).mono ?_;rintro e wn ⟨rfl,hwn⟩;obtain rfl:=hwn.symm;clear hwn);exact⟨rfl,aB HB0.out b5,.inr ⟨rfl,rfl⟩⟩
 ·have hRs:aP o s n (lN L) (fN L)=R:=HRR.out;have HR:=aA hRs
  clear hRs HRR;go_enter Tryz.func51,Tryz.ntmps51;go_wp2_with fail;have hS:=HS.out
  go_region_held3 (fun u=>NI u b p lb (off+p.i) (off+p.k) (.slice (ad p.i) A.length (cp p.i)) (.slice (ad p.k) C.length (cp p.k))) (first|with_reducible exact hS|with_reducible exact NI.below hS b5) (first|(go_at_call 95;refine HC.out.mono ?_;rintro e w5 ⟨za,zc,rfl,b5,hz⟩)|(go_at_call 92;refine(jG _ _).mono ?_;rintro e wn ⟨rfl,hwn⟩;obtain rfl:=hwn.symm;clear hwn))
  have HB5:=aA (aB HB0.out b5);have HZ5:Hid (RL w5 za zc s):=hz.1
  have HH5:=aA (HH.out.below b5);have hs5:w.heap.size≤w5.heap.size:=HB5.out.size
  clear hS b5 hz HC RA RC HS HH;go_wp2_with fail;refine(wY w5 o za zc s _ n cap ad (lN L) cp (fN L) HZ5.out HH5.out HR.out).mono ?_;rintro e w6 ⟨qa,qc,ad6,cp6,Rb,B6,la,lc,mid,rfl,b6,o1,o2,m1,m2,m3⟩;have HB6:=aA (aB HB5.out b6)
  clear b6;cases R with
  |none=>
   clear o1 o2 m1 m2 m3;go_wp2_with fail;refine(gY _ _).mono ?_;rintro e wn ⟨rfl,hwn⟩;obtain rfl:=hwn.symm;clear hwn;exact⟨rfl,HB6.out,.inr ⟨rfl,rfl⟩⟩
  |some S=>
   have HO1:=aA o1;have HO2:=aA o2
   have HM:=aA (And.intro m1 (And.intro m2 m3));clear o1 o2 m1 m2 m3;have e1:uV n (some S)=n:=rfl
   have e2:nO (some S)=S.r:=rfl;rw[e1,e2];clear e1 e2;go_wp2_with fail;refine(jG _ _).mono ?_;rintro e wn ⟨rfl,hwn⟩;obtain rfl:=hwn.symm;clear hwn;go_wp2;refine cB (results_tmp2 rfl _ _ _) rfl ?_;exact⟨HB6.out,.inl ⟨S,qa,qc,ad6,cp6,Rb,B6,la,lc,mid,w5.heap.size,rfl,rfl,hs5,HO1.out,HO2.out,HM.out.1,HM.out.2.1,HM.out.2.2⟩⟩
def uW (F:Nat→Nat):Nat→Nat
 |0=>2
 |m+1=>if uW F m=2 then F m else uW F m
theorem xD       {F : Nat → Nat} {j : Nat} (h : uW  F j ≠ 2) : ∀ e, j ≤ e → uW  F e = uW  F j
  | 0, hj => by obtain rfl : j = 0 := by omega
                rfl
  | e + 1, hj => by
    rcases Nat.lt_or_ge j (e + 1) with h' | h'
    · have := xD       h e (by omega)
      show (if uW  F e = 2 then F e else uW  F e) = _
      rw [this, if_neg h]
    · obtain rfl : j = e + 1 := by omega
      rfl
theorem vI {F:Nat→Nat}:∀{e:Nat},uW F e=2↔∀j,j<e→F j=2
 |0=>⟨fun _ j hj=>by omega,fun _=>rfl⟩
 |e+1=>by
  show(if uW F e=2 then F e else uW F e)=2↔_;constructor
  ·intro h j hj;split at h
   ·rename_i h2;by_cases e1:j=e
    ·rw[e1];exact h
    ·exact vI.1 h2 j (by omega)
   ·exact absurd h (by assumption)
  ·intro h;rw[if_pos (vI.2 (fun j hj=>h j (by omega)))];exact h e (by omega)
def wU (o:Int) (n:Nat) (L:Nat→List T) (j:Nat):Nat:=XX o n L (pq j).1 (pq j).2
theorem XY (o:Int) (n:Nat) (L:Nat→List T) (i k:Nat):XX o n L i k≤2:=by
 unfold XX;split
 ·split
  ·split<;>omega
  ·omega
 ·omega
theorem RG (o:Int) (n:Nat) (L:Nat→List T):∀e,uW (wU o n L) e≤2
 |0=>Nat.le_refl _
 |e+1=>by
  show(if uW (wU o n L) e=2 then wU o n L e else uW (wU o n L) e)≤2;split
  ·exact XY _ _ _ _ _
  ·exact RG o n L e
theorem LC {o:Int} {n:Nat} {L:Nat→List T} (ho:1≤o∧o≤3) (hl:aW n (lN L) (fN L)=true):rU o n L=decide (uW (wU o n L) (cZ n)=2):=by
 unfold rU;refine decide_eq_decide.2 ⟨fun h=>vI.2 (fun j hj=>?_),fun h=>⟨ho,hl,fun k hk i hi=>?_⟩⟩
 ·obtain⟨h1,h2⟩:=QJ hj;exact h.2.2 _ h2 _ h1
 ·have:=vI.1 h (cZ k+i) (by have:=xP (show k+1≤n by omega);show cZ k+i<cZ n;have h':cZ (k+1)=cZ k+k:=rfl;omega);unfold wU at this
  rwa[nK k i hi]at this
theorem DC {o:Int} {A:List T} (ho:1≤o∧o≤3) (hA:cT A=true) (h0:A.length≠0):bH o A.length (lf A)=true∧bO o A.length (lf A)=dQ o A:=by have h:bH o A.length (lf A)=true:=iV.2 ⟨ho,hA,fun e=>h0 (by rw[e];rfl)⟩;exact⟨h,eF h⟩
theorem OD {o : Int} {n : Nat} {L : Nat → List T} (ho : 1 ≤ o ∧ o ≤ 3) (hl : aW n (lN L) (fN L) = true) {kf : Nat → T} (hk : ∀ i, i < n → kf i = dQ o (L i)) {j : Nat} (hj : j < cZ n) : wU o n L j = match FD o n L (wV kf j) with
    |some S=>if S.r.length=0 then 2 else 1
    |none=>0:=by
  obtain⟨h1,h2⟩:=QJ hj
  have a1:=(aT hl).2 (pq j).1 (by omega)
  have a2:=(aT hl).2 (pq j).2 h2
  obtain⟨k1,e1⟩:=DC (o:=o) (A:=L (pq j).1) ho a1.2 a1.1
  obtain⟨k2,e2⟩:=DC (o:=o) (A:=L (pq j).2) ho a2.2 a2.1
  have hs:eZ o (L (pq j).1).length (lf (L (pq j).1)) (L (pq j).2).length (lf (L (pq j).2))=true:=by unfold eZ;rw[k1,k2];rfl
  have e:dC o (lf (L (pq j).1)) (L (pq j).1).length (lf (L (pq j).2)) (L (pq j).2).length=kQ (wV kf j).t1 (wV kf j).t2 (lf (L (pq j).1)) (L (pq j).1).length (lf (L (pq j).2)) (L (pq j).2).length:=by
    unfold dC
    rw[if_pos hs]
    unfold fC fD mA wV
    rw[if_pos hs,if_pos hs,e1,e2]
    simp only
    rw[hk _ (by omega),hk _ h2]
  unfold wU XX FD
  show(match dC o (lf (L (pq j).1)) (L (pq j).1).length (lf (L (pq j).2)) (L (pq j).2).length with
    |(s,true)=>(match aP o s n (lN L) (fN L)with|some S=>if S.r.length=0 then 2 else 1|none=>0)
    |(_,false)=>0)=match (match kQ (wV kf j).t1 (wV kf j).t2 (lf (L (pq j).1)) (L (pq j).1).length (lf (L (pq j).2)) (L (pq j).2).length with|(s,true)=>aP o s n (lN L) (fN L)|(_,false)=>none)with|some S=>if S.r.length=0 then 2 else 1|none=>0
  rw[e]
  generalize kQ (wV kf j).t1 (wV kf j).t2 (lf (L (pq j).1)) (L (pq j).1).length (lf (L (pq j).2)) (L (pq j).2).length=X
  obtain⟨s,b⟩:=X
  cases b<;>rfl
theorem OG {o:Int} {n:Nat} {L:Nat→List T} (ho:1≤o∧o≤3) (hl:aW n (lN L) (fN L)=true) {kf:Nat→T} (hk:∀i,i<n→kf i=dQ o (L i)) {j:Nat} (hj:j<cZ n) {S:Dv} (h:FD o n L (wV kf j)=some S):wU o n L j=if S.r.length=0 then 2 else 1:=by rw[OD ho hl hk hj,h]
theorem OE {o:Int} {n:Nat} {L:Nat→List T} (ho:1≤o∧o≤3) (hl:aW n (lN L) (fN L)=true) {kf:Nat→T} (hk:∀i,i<n→kf i=dQ o (L i)) {j:Nat} (hj:j<cZ n) (h:FD o n L (wV kf j)=none):wU o n L j=0:=by rw[OD ho hl hk hj,h]
def Bz (w:World) (Q NL v:Nat) (r:Ending) (w':World):Prop:=
 Fr (fun k=>k=Q∨k=NL) w w'∧((v=2∧r= .returned (.tuple #[])∧w'.cell? ⟨NL,0,none⟩=some (.bool true))∨(v=1∧r= .returned (.tuple #[])∧w'.cell? ⟨NL,0,none⟩=some (.bool false))∨(v=0∧r= .panicked [{v:=gW,recovered:=false}]))
theorem TX (w:World) (lo Q NL OB LB:Nat) (lv:Value) (n:Nat) (kf:Nat→T) (B:Nat→Nat) (hQ:pD w lo Q 0 lv n kf B 0 (cZ n)) (hN:w.cell? ⟨NL,0,none⟩=some (.bool true)) (hNz:w.frozen? ⟨NL,0,none⟩=false) (o:Int) (hO:w.cell? ⟨OB,0,none⟩=some (.int .i64 o)) (a:Option Addr) (cap:Nat) (ad:Nat→Option Addr) (cp:Nat→Nat) (L:Nat→List T) (hL:w.cell? ⟨LB,0,none⟩=some (.slice a n cap)) (h:fZ w a n cap ad (lN L) cp (fN L)) (ho:1≤o∧o≤3) (hl:aW n (lN L) (fN L)=true) (hk:∀i,i<n→kf i=dQ o (L i)) (n1:NL≠Q) (n2:∀j,j<cZ n→B j≠NL) (n3:∀g,lv.ownBlock=some g→g≠NL) (n4:OB≠Q∧OB≠NL) (n5:LB≠Q∧LB≠NL) (n6:n≠0→∀b off,a=some ⟨b,off,none⟩→b≠Q∧b≠NL) (n7:∀i,i<n→(L i).length≠0→∀b off,ad i=some ⟨b,off,none⟩→b≠Q∧b≠NL):Calls Tryz.prog 49 #[.pointer (some ⟨Q,0,none⟩),.pointer (some ⟨NL,0,none⟩),.pointer (some ⟨OB,0,none⟩),.pointer (some ⟨LB,0,none⟩)] w (Bz w Q NL (uW (wU o n L) (cZ n))):=by
 obtain⟨v,hv⟩:∃v,uW (wU o n L) (cZ n)=v:=⟨_,rfl⟩
 rw[hv];have HV:=aA hv
 have HQ0:=aA hQ;have HK:=aA hk
 have HL:=aA hl;have HN2:=aA n2
 have HN3:=aA n3;have keep:∀u:World,Fr (fun k=>k=Q∨k=NL) w u→u.cell? ⟨OB,0,none⟩=some (.int .i64 o)∧u.cell? ⟨LB,0,none⟩=some (.slice a n cap)∧fZ u a n cap ad (lN L) cp (fN L):=fun u hf=>by
  refine⟨(hf.cell (cU w _ hO) (fun q=>by rcases q with q|q;exact n4.1 q;exact n4.2 q)).trans hO,(hf.cell (cU w _ hL) (fun q=>by rcases q with q|q;exact n5.1 q;exact n5.2 q)).trans hL,h.1,h.2.1,?_,fun i hi=>?_⟩
  ·rcases h.2.2.1 with h0|⟨b,off,e,hlt,hc⟩
   ·exact .inl h0
   ·by_cases hn0:n=0
    ·exact .inl hn0
    ·exact .inr ⟨b,off,e,lG hlt hf.size,fun i hi=>(hf.cell hlt (fun q=>by have:=n6 hn0 b off e;rcases q with q|q;exact this.1 q;exact this.2 q)).trans (hc i hi)⟩
  ·refine hf.rd (h.2.2.2 i hi) ?_;by_cases h0:(L i).length=0
   ·exact .inl h0
   ·exact .inr fun b off e q=>by have:=n7 i hi h0 b off e;rcases q with q|q;exact this.1 q;exact this.2 q
 have KEEP:=aA keep;have hNlt:NL<w.heap.size:=cU w _ hN
 have HN:=aA hN;have HNZ:=aA hNz
 clear hQ hk hl n2 n3 keep hv h hN hNz hO hL;have pop:∀(u:World) (j:Nat),j≤cZ n→pD u lo Q 0 lv n kf B j (cZ n)→Calls Tryz.prog 50 #[.pointer (some ⟨Q,0,none⟩)] u fun r u'=>∃p,r= .returned (.pointer p)∧Fr (fun k=>k=Q) u u'∧((j<cZ n∧p=some ⟨B j,0,none⟩∧pD u' lo Q 0 lv n kf B (j+1) (cZ n)∧jL u' (B j) (wV kf j) (qF B (j+1) (cZ n)))∨(j=cZ n∧p=none∧pD u' lo Q 0 lv n kf B j (cZ n))):=fun u j hj hq=>by
  by_cases hlt:j<cZ n
  ·refine(Bj u lo Q 0 lv n kf B j (cZ n) hq hlt).mono ?_;rintro r u' ⟨rfl,h1,h2,h3⟩;exact⟨_,rfl,h3,.inl ⟨hlt,rfl,h1,h2⟩⟩
  ·refine(MA u lo Q 0 lv n kf B j (cZ n) hq hlt).mono ?_;rintro r u' ⟨rfl,rfl⟩;exact⟨_,rfl,Fr.refl _ _,.inr ⟨by omega,rfl,hq⟩⟩
 have POP:=aA pop;clear pop;go_enter Tryz.func49,Tryz.ntmps49;go_wp2_with fail;refine(POP.out w 0 (gL _) HQ0.out).mono ?_;rintro r w1 ⟨p1,rfl,f1,hh1⟩;have HF1:Hid (Fr (fun k=>k=Q∨k=NL) w w1):=f1.mono (fun k _ q=>.inl q)
 have HNw1:Hid (w1.cell? ⟨NL,0,none⟩=some (.bool true)):=(f1.cell hNlt n1).trans HN.out;have HZ1:Hid (w1.frozen? ⟨NL,0,none⟩=false):=(f1.frozen hNlt n1).trans HNZ.out
 have HH1:=aA hh1;clear f1 hh1;go_wp2
 go_loopg [4] (cZ n) (fun gk pv wr=>∃(j:Nat) (p:Option Addr) (c:Bool),j+gk=cZ n∧pv= .pointer p∧Fr (fun k=>k=Q∨k=NL) w wr∧wr.cell? ⟨NL,0,none⟩=some (.bool c)∧wr.frozen? ⟨NL,0,none⟩=false∧uW (wU o n L) j=(if c=true then 2 else 1)∧((j<cZ n∧p=some ⟨B j,0,none⟩∧pD wr lo Q 0 lv n kf B (j+1) (cZ n)∧jL wr (B j) (wV kf j) (qF B (j+1) (cZ n)))∨(j=cZ n∧p=none∧pD wr lo Q 0 lv n kf B j (cZ n))))
 case atStart=>exact⟨0,p1,true,by omega,rfl,HF1.out,HNw1.out,HZ1.out,rfl,HH1.out⟩
 case round=>
  obtain⟨j,p,c,hg,rfl,hF,hNc,hZc,hsc,hcase⟩:=hrel;have HF:=aA hF
  have HSC:=aA hsc;clear hsc;cases c
  ·have hv1:v=1:=by have h1:uW (wU o n L) j=1:=HSC.out;rw[←HV.out,xD (by rw[h1];omega) (cZ n) (by omega),h1]
   have HNC:=aA hNc;rcases hcase with⟨hlt,rfl,hq,hp⟩|⟨rfl,rfl,hq⟩
   ·clear hq hp hF;go_wp2
    go_end0
    exact⟨HF.out,.inr (.inl ⟨(by first|exact hv1|rfl),rfl,HNC.out⟩)⟩
   ·clear hq hF;go_wp2
    go_end0
    exact⟨HF.out,.inr (.inl ⟨(by first|exact hv1|rfl),rfl,HNC.out⟩)⟩
  ·rcases hcase with⟨hlt,rfl,hq,hp⟩|⟨rfl,rfl,hq⟩
   ·obtain⟨hO,hL,hR⟩:=KEEP.out wr hF;obtain⟨h1,h2⟩:=QJ hlt;obtain⟨R,hRR⟩:∃R,FD o n L (wV kf j)=R:=⟨_,rfl⟩
    have HC:=aA (OC wr (B j) (wV kf j) _ hp o a n cap ad cp L hR (show(pq j).1<n by omega) (show(pq j).2<n from h2) hRR);have HRR:=aA hRR
    have HQ:=aA hq;have HNC:=aA hNc
    have HZC:=aA hZc;clear hq hp hR hRR hF hZc;go_wp2_with fail;refine HC.out.mono ?_;rintro r w3 ⟨b3,hh⟩;have HB3:=aA b3
    rcases hh with⟨S,qa,qc,ad3,cp3,Rb,B3,la,lc,mid,lo3,rfl,rfl,_⟩|⟨rfl,rfl⟩
    ·have hpk:=OG ho HL.out HK.out hlt HRR.out;have hN3:w3.cell? ⟨NL,0,none⟩=some (.bool true):=(b3.cell (p:=⟨NL,0,none⟩) (cU wr _ hNc)).trans hNc
     have hZ3:w3.frozen? ⟨NL,0,none⟩=false:=(b3.frozen (p:=⟨NL,0,none⟩) (cU wr _ hNc)).trans HZC.out;obtain⟨c,hc⟩:∃c:Bool,((S.r.length:Int)==0)=c:=⟨_,rfl⟩
     have hsc2:uW (wU o n L) (j+1)=if c=true then 2 else 1:=by
      show(if uW (wU o n L) j=2 then wU o n L j else uW (wU o n L) j)=_;rw[if_pos (by rw[HSC.out];rfl),hpk,←hc];by_cases e0:S.r.length=0
      ·rw[if_pos e0,if_pos (by simp[e0])]
      ·rw[if_neg e0,if_neg (by simp[e0])]
     have HSC2:=aA hsc2;have hf3:Fr (fun k=>k=Q∨k=NL) w (w3.setCell ⟨NL,0,none⟩ (.bool c)):=(HF.out.next b3).set (fun _=>.inr rfl)
     have fN:Fr (fun k=>k=NL) w3 (w3.setCell ⟨NL,0,none⟩ (.bool c)):=(Fr.refl _ w3).set (fun _=>rfl);have hq3:pD (w3.setCell ⟨NL,0,none⟩ (.bool c)) lo Q 0 lv n kf B (j+1) (cZ n):=(HQ.out.below b3).fr fN (fun q=>n1 q.symm) (fun g hg q=>HN3.out g hg q) (fun i i1 i2 q=>HN2.out i i2 q)
     have cN:(w3.setCell ⟨NL,0,none⟩ (.bool c)).cell? ⟨NL,0,none⟩=some (.bool c):=iY hN3;have zN:(w3.setCell ⟨NL,0,none⟩ (.bool c)).frozen? ⟨NL,0,none⟩=false:=by rw[World.frozen?_setCell];exact hZ3
     have hNl3:NL<w3.heap.size:=cU w3 _ hN3;have HF3:=aA hf3
     have HQ3:=aA hq3;have HCN:=aA cN
     have HZN:=aA zN;clear hpk hsc2 hf3 fN hq3 cN zN b3 hO hL hNc;go_wp2_with fail;refine(POP.out _ (j+1) (by omega) HQ3.out).mono ?_;rintro r w4 ⟨p4,rfl,f4,hh4⟩;have HF4:=aA (HF3.out.step f4 (fun i _ q=>.inl q))
     have HC4:Hid (w4.cell? ⟨NL,0,none⟩=some (.bool c)):=(f4.cell (by simpa using hNl3) n1).trans HCN.out;have HZ4:Hid (w4.frozen? ⟨NL,0,none⟩=false):=(f4.frozen (by simpa using hNl3) n1).trans HZN.out
     have HH4:=aA hh4;clear f4 hh4 hN3 hZ3 hc;go_wp2
     go_roundg (gk-1)
     case measure=>omega
     case rel=>exact⟨j+1,p4,c,by omega,rfl,HF4.out,HC4.out,HZ4.out,HSC2.out,HH4.out⟩
    ·have h0:uW (wU o n L) (j+1)=0:=by show(if uW (wU o n L) j=2 then wU o n L j else uW (wU o n L) j)=_;rw[if_pos (by rw[HSC.out];rfl),OE ho HL.out HK.out hlt HRR.out]
     have hv0:v=0:=by rw[←HV.out,xD (by rw[h0];omega) (cZ n) (by omega),h0]
     exact⟨rfl,HF.out.next HB3.out,.inr (.inr ⟨hv0,rfl⟩)⟩
   ·have hv2:v=2:=by rw[←HV.out,HSC.out];rfl
    have HNC:=aA hNc;clear hq hF;go_wp2
    go_end0
    exact⟨HF.out,.inl ⟨(by first|exact hv2|rfl),rfl,HNC.out⟩⟩
theorem WT (w:World) (v:Value) (y:TypeId):(w.alloc (.cells #[v] y)).cell? ⟨w.heap.size,0,none⟩=some v:=by rw[World.cell?_alloc_at _ _ _ _ rfl];rfl
theorem tF (w:World) (o:Int) (a:Option Addr) (n cap:Nat) (ad:Nat→Option Addr) (cp:Nat→Nat) (L:Nat→List T) (h:fZ w a n cap ad (lN L) cp (fN L)):Calls Tryz.prog 13 #[.int .i64 o,.slice a n cap] w (YM w (.bool (rU o n L))):=by
 have q1:(n:Int)≤140737488351232:=by have:=h.2.1;omega
 have hb0:=aQ w (.cells #[.int .i64 o] 3) (.cells #[.slice a n cap] 23);have HH:=aA (h.below hb0)
 have HB0:=aA hb0;have hcO:((w.alloc (.cells #[.int .i64 o] 3)).alloc (.cells #[.slice a n cap] 23)).cell? ⟨w.heap.size,0,none⟩=some (.int .i64 o):=((aC _ _).cell (p:=⟨w.heap.size,0,none⟩) (by simp)).trans (WT w _ _)
 have hcL:((w.alloc (.cells #[.int .i64 o] 3)).alloc (.cells #[.slice a n cap] 23)).cell? ⟨w.heap.size+1,0,none⟩=some (.slice a n cap):=by
  have:=WT (w.alloc (.cells #[.int .i64 o] 3)) (.slice a n cap) 23
  rwa[World.size_alloc]at this
 have hlist:∀b off,a=some ⟨b,off,none⟩→n≠0→b<w.heap.size:=fun b off e h0=>by
  rcases h.2.2.1 with q|⟨b',off',e',hlt,_⟩
  ·exact absurd q h0
  ·rw[e]at e';cases e';exact hlt
 have hels:∀i,i<n→(L i).length≠0→∀b off,ad i=some ⟨b,off,none⟩→b<w.heap.size:=fun i hi h0 b off e=>by
  rcases(h.2.2.2 i hi).2.2 with q|⟨b',off',e',hlt,_⟩
  ·exact absurd q h0
  ·rw[e]at e';cases e';exact hlt
 have HLI:=aA hlist;have HEL:=aA hels
 clear h hlist hels;unfold YM;by_cases ho:1≤o∧o≤3
 ·cases hl:aW n (lN L) (fN L)
  ·have e0:rU o n L=false:=decide_eq_false (fun hh=>by rw[hl]at hh;exact absurd hh.2.1 (by simp));rw[e0];have HC:=aA (sL _ o a n cap ad (lN L) cp (fN L) HH.out ho.1 ho.2 hl)
   clear e0;go_enter Tryz.func13,Tryz.ntmps13;go_wp2_with fail;refine HC.out.mono ?_;rintro r w1 ⟨rfl,b1⟩;have HB1:=aA (aB HB0.out b1)
   clear b1;go_wp2;go_ret;exact⟨rfl,HB1.out⟩
  ·have n12:=(aT hl).1;have hn12:(n:Int)≤12:=by omega
   have HC:=aA (tP _ o a n cap ad (lN L) cp (fN L) HH.out ho.1 ho.2 hl);have HL:=aA hl
   rw[LC ho hl];obtain⟨v,hv⟩:∃v,uW (wU o n L) (cZ n)=v:=⟨_,rfl⟩
   rw[hv];have HV:=aA hv
   clear hl hv;go_enter Tryz.func13,Tryz.ntmps13;go_wp2_with fail;refine HC.out.mono ?_;rintro r w1 ⟨lv0,rfl,b1,hown⟩;have hlen:=kW o (lN L) (fN L) n
   obtain⟨la,lc,rfl,hout⟩:=aH hown (by rw[hlen];omega);rw[hlen];have hB1:=aB HB0.out b1
   have HB1:=aA hB1;have HH1:=aA (HH.out.below b1)
   have cO:w1.cell? ⟨w.heap.size,0,none⟩=some (.int .i64 o):=(b1.cell (p:=⟨w.heap.size,0,none⟩) (cU _ _ hcO)).trans hcO;have cL:w1.cell? ⟨w.heap.size+1,0,none⟩=some (.slice a n cap):=(b1.cell (p:=⟨w.heap.size+1,0,none⟩) (cU _ _ hcL)).trans hcL
   have hs1:w.heap.size+2≤w1.heap.size:=by have:=b1.size;simp at this;omega
   have HRD:=aA hout.1;have hrb:∀b off,la=some ⟨b,off,none⟩→n≠0→b<w1.heap.size:=fun b off e h0=>by
    rcases hout.1.2.2 with q|⟨b',off',e',hlt,_⟩
    ·rw[hlen]at q;exact absurd q h0
    ·rw[e]at e';cases e';exact hlt
   have HRB:=aA hrb;have HCO:=aA cO
   have HCL:=aA cL;have HQ0:Hid (pD (w1.alloc (.cells #[.slice none 0 0,.pointer none,.pointer none] 71)) w1.heap.size w1.heap.size 0 (.slice none 0 0) 0 (fun i=>dQ o (L i)) (fun _=>0) 0 0):=⟨by rw[World.cell?_alloc_at _ _ _ _ rfl];rfl,by rw[World.cell?_alloc_at _ _ _ _ rfl];rfl,⟨_,by rw[World.cell?_alloc_at _ _ _ _ rfl];rfl,fun q=>by omega⟩,⟨by simp[go_sem],by simp[go_sem],by simp[go_sem]⟩,yZ _ _,fun g hg=>by simp[Value.ownBlock]at hg,fun j _ hj=>by omega,fun j _ hj=>by omega,fun i j _ _ hj=>by omega,Nat.le_refl _⟩
   have HBQ:=aA (aC w1 (.cells #[.slice none 0 0,.pointer none,.pointer none] 71));clear hown hout b1 hB1 hcO hcL cO cL hrb HC HH;go_wp2;generalize hwq:w1.alloc (.cells #[.slice none 0 0,.pointer none,.pointer none] 71)=wq at *;go_loopw [22] (fun vi wr=>∃(i:Nat) (lv:Value) (B:Nat→Nat),i≤n∧vi= .int .i64 (i:Int)∧pD wr w1.heap.size w1.heap.size 0 lv i (fun i=>dQ o (L i)) B 0 (cZ i)∧Below w1.heap.size w1 wr∧(∀g,lv.ownBlock=some g→w1.heap.size<g)∧(∀j,j<cZ i→w1.heap.size<B j)) (fun vi _=>n-(intOf vi).toNat);case atStart=>exact⟨0,_,_,gL _,rfl,HQ0.out,HBQ.out,fun g hg=>by simp[Value.ownBlock]at hg,fun j hj=>absurd hj (MY _)⟩
   case round=>
    obtain⟨i,lv,B,hi,rfl,hQ,hB,hg,hBj⟩:=hrel;have HB:=aA hB
    have HG:=aA hg;have HBJ:=aA hBj
    have HQ:=aA hQ;by_cases hlt:i<n
    ·have hil:(i:Int)<(n:Int):=by omega
     rcases HRD.out.2.2 with h0|⟨bb,off,rfl,hblt,hcl⟩
     ·rw[hlen]at h0;omega
     obtain⟨g0,g1,g2,g3,g4⟩:=hcl i (by rw[hlen];exact hlt);rw[vC o (lN L) (fN L) n i hlt]at g0 g1 g2 g3 g4;obtain⟨t,ht⟩:∃t,dQ o (L i)=t:=⟨_,rfl⟩
     have ht':kV o (lN L) (fN L) i=t:=ht;rw[ht']at g0 g1 g2 g3 g4;have k0:wr.cell? ⟨bb,off+i*5,none⟩=some (.int .i64 t.c):=(hB.cell (p:=⟨bb,off+i*5,none⟩) hblt).trans g0
     have k1:wr.cell? ⟨bb,off+i*5+1,none⟩=some (.int .i64 t.m.x):=(hB.cell (p:=⟨bb,off+i*5+1,none⟩) hblt).trans g1;have k2:wr.cell? ⟨bb,off+i*5+2,none⟩=some (.int .i64 t.m.y):=(hB.cell (p:=⟨bb,off+i*5+2,none⟩) hblt).trans g2
     have k3:wr.cell? ⟨bb,off+i*5+3,none⟩=some (.int .i64 t.m.d):=(hB.cell (p:=⟨bb,off+i*5+3,none⟩) hblt).trans g3;have k4:wr.cell? ⟨bb,off+i*5+4,none⟩=some (.int .i64 t.m.e):=(hB.cell (p:=⟨bb,off+i*5+4,none⟩) hblt).trans g4
     have bbx:=aC wr (.cells #[.int .i64 t.c,.int .i64 t.m.x,.int .i64 t.m.y,.int .i64 t.m.d,.int .i64 t.m.e] 47);have hsr:w1.heap.size≤wr.heap.size:=hB.size
     have HCM:=aA (ZB _ w1.heap.size w1.heap.size 0 lv i (fun i=>dQ o (L i)) B 0 (hQ.below bbx) (gL _) (by omega) (by simp;omega) t ht);have HBX:=aA (hB.trans (bbx.mono hsr))
     have hlw:lv.ownBlock=none∨True:=.inr trivial;clear hcl g0 g1 g2 g3 g4 ht ht' hQ hB hg hBj bbx hlw;go_wp2_with fail;refine HCM.out.mono ?_;rintro r w3 ⟨rfl,lv',B',hQ3,e1,e2,e3,f3⟩;have HQ3:=aA hQ3
     have HB3:Hid (Below w1.heap.size w1 w3):=f3.below HBX.out (fun k q=>by
      rcases q with q|q|⟨q1,q2⟩
      ·omega
      ·have:=HG.out k q;omega
      ·have:=HBJ.out (cZ i-1) (by omega);omega) (Nat.le_refl _)
     have HG3:Hid (∀g,lv'.ownBlock=some g→w1.heap.size<g):=fun g hg=>by
      rcases e3 g hg with q|q
      ·exact HG.out g q
      ·simp at q;omega
     have HBJ3:Hid (∀j,j<cZ (i+1)→w1.heap.size<B' j):=fun j hj=>by
      rcases Nat.lt_or_ge j (cZ i)with q|q
      ·rw[e1 j q];exact HBJ.out j q
      ·have:=e2 j q hj;simp at this;omega
     clear hQ3 e1 e2 e3 f3 k0 k1 k2 k3 k4;go_wp2;go_roundw;case rel=>exact⟨i+1,lv',B',by omega,by go_num,HQ3.out,HB3.out,HG3.out,HBJ3.out⟩
     case measure=>simp[intOf];omega
    ·have hie:i=n:=by omega
     subst hie;have hnl:¬(i:Int)<(i:Int):=by omega
     have hsr:w1.heap.size≤wr.heap.size:=hB.size;have bN:=aC wr (.cells #[.bool true] 4)
     have hcN:=WT wr (.bool true) 4;have hBN:=hB.trans (bN.mono hsr)
     have HCL1:=aA (TX (wr.alloc (.cells #[.bool true] 4)) w1.heap.size w1.heap.size wr.heap.size w.heap.size (w.heap.size+1) lv i (fun i=>dQ o (L i)) B (hQ.below bN) hcN (by simp[go_sem]) o ((hBN.cell (p:=⟨w.heap.size,0,none⟩) (by show w.heap.size<w1.heap.size;omega)).trans HCO.out) a cap ad cp L ((hBN.cell (p:=⟨w.heap.size+1,0,none⟩) (by show w.heap.size+1<w1.heap.size;omega)).trans HCL.out) (HH1.out.below hBN) ho HL.out (fun _ _=>rfl) (by have:=hQ.lt;omega) (fun j hj=>by have:=(hQ.pr j (gL _) hj).lt;omega) (fun g hg=>by have:=(hQ.own.lt g hg).2;omega) ⟨by omega,by omega⟩ ⟨by omega,by omega⟩ (fun h0 b off e=>by have:=HLI.out b off e h0;omega) (fun j hj h0 b off e=>by have:=HEL.out j hj h0 b off e;omega));have hv3:v=2∨v=1∨v=0:=by
      have:=RG o i L (cZ i);have:=HV.out
      omega
     have HBN:=aA hBN;have HcN:=aA hcN
     have hfb:∀u,Fr (fun k=>k=w1.heap.size∨k=wr.heap.size) (wr.alloc (.cells #[.bool true] 4)) u→Below w.heap.size w u:=fun u hf=>HB1.out.trans ((hf.below hBN (fun k q=>by omega) (Nat.le_refl _)).mono (by omega));have HFB:=aA hfb
     rw[HV.out]at HCL1;clear hQ hB hg hBj bN hcN hBN hfb;rcases hv3 with rfl|rfl|rfl
     ·have HE:=aA (oW 49 #[.pointer (some ⟨w1.heap.size,0,none⟩),.pointer (some ⟨wr.heap.size,0,none⟩),.pointer (some ⟨w.heap.size,0,none⟩),.pointer (some ⟨w.heap.size+1,0,none⟩)] (wr.alloc (.cells #[.bool true] 4)) (fun u=>Below w.heap.size w u∧u.cell? ⟨wr.heap.size,0,none⟩=some (.bool true)) (enters_of Tryz.func49 (by kernel_rfl) rfl) (HCL1.out.mono fun r u hh=>by
       rcases hh with⟨hf,⟨_,hr,hc⟩|⟨q,_⟩|⟨q,_⟩⟩
       ·exact⟨hr,HFB.out u hf,hc⟩
       ·omega
       ·omega))
      clear HCL1;go_wp2_with fail;refine HE.out.mono ?_;rintro r w5 ⟨rfl,w4,⟨b4,c4⟩,rfl⟩;have c5:(w4.alloc (.cells #[] 117)).cell? ⟨wr.heap.size,0,none⟩=some (.bool true):=((aC w4 _).cell (p:=⟨wr.heap.size,0,none⟩) (cU w4 _ c4)).trans c4
      have HB5:=aA (aB b4 (aC w4 (.cells #[] 117)));clear b4 c4;go_wp2;go_ret;exact⟨rfl,HB5.out⟩
     ·have HE:=aA (oW 49 #[.pointer (some ⟨w1.heap.size,0,none⟩),.pointer (some ⟨wr.heap.size,0,none⟩),.pointer (some ⟨w.heap.size,0,none⟩),.pointer (some ⟨w.heap.size+1,0,none⟩)] (wr.alloc (.cells #[.bool true] 4)) (fun u=>Below w.heap.size w u∧u.cell? ⟨wr.heap.size,0,none⟩=some (.bool false)) (enters_of Tryz.func49 (by kernel_rfl) rfl) (HCL1.out.mono fun r u hh=>by
       rcases hh with⟨hf,⟨q,_⟩|⟨_,hr,hc⟩|⟨q,_⟩⟩
       ·omega
       ·exact⟨hr,HFB.out u hf,hc⟩
       ·omega))
      clear HCL1;go_wp2_with fail;refine HE.out.mono ?_;rintro r w5 ⟨rfl,w4,⟨b4,c4⟩,rfl⟩;have c5:(w4.alloc (.cells #[] 117)).cell? ⟨wr.heap.size,0,none⟩=some (.bool false):=((aC w4 _).cell (p:=⟨wr.heap.size,0,none⟩) (cU w4 _ c4)).trans c4
      have HB5:=aA (aB b4 (aC w4 (.cells #[] 117)));clear b4 c4;go_wp2;go_ret;exact⟨rfl,HB5.out⟩
     ·have HE:=aA (wZ 49 #[.pointer (some ⟨w1.heap.size,0,none⟩),.pointer (some ⟨wr.heap.size,0,none⟩),.pointer (some ⟨w.heap.size,0,none⟩),.pointer (some ⟨w.heap.size+1,0,none⟩)] (wr.alloc (.cells #[.bool true] 4)) (fun u=>Below w.heap.size w u) (enters_of Tryz.func49 (by kernel_rfl) rfl) (HCL1.out.mono fun r u hh=>by
       rcases hh with⟨hf,⟨q,_⟩|⟨q,_⟩|⟨_,hr⟩⟩
       ·omega
       ·omega
       ·exact⟨hr,HFB.out u hf⟩))
      clear HCL1;go_wp2_with fail;refine HE.out.mono ?_;rintro r w5 ⟨rfl,w4,b4,rfl⟩;have HB5:=aA (aB b4 (aC w4 (.cells #[] 117)))
      clear b4;go_wp2;go_ret;exact⟨rfl,HB5.out⟩
 ·have e0:rU o n L=false:=decide_eq_false (fun hh=>ho hh.1);rw[e0];have HC:=aA (qD ((w.alloc (.cells #[.int .i64 o] 3)).alloc (.cells #[.slice a n cap] 23)) o a n cap (by omega))
  clear e0;go_enter Tryz.func13,Tryz.ntmps13;go_wp2_with fail;refine HC.out.mono ?_;rintro r w1 ⟨rfl,b1⟩;have HB1:=aA (aB HB0.out b1)
  clear b1;go_wp2;go_ret;exact⟨rfl,HB1.out⟩
end Go.Proofs.YtncffcaabnjioaaGreat
namespace Go.Proofs.YtncffcaabnjioaaGreat
open Go.RowKit
set_option linter.unusedVariables false
theorem NS (w:World) (B p:Nat) (n:Int) (h:iU w B p) (hn:1≤n) (hn':n≤1000) (hp:p≤5000):
 Calls Tryz.prog 36 #[.pointer (some ⟨B,0,none⟩),.int .i64 n] w fun r w'=>∃(a:Option Addr) (m cap:Nat) (f:Nat→T) (q:Nat),r= .returned (.slice a m cap)∧Rd w' a m cap f∧m≤5∧(m=0∨∃g off,a=some ⟨g,off,none⟩∧w.heap.size≤g)∧q≤p+700∧iU w' B q∧aD B w w':=uZ w B p n h hn hn' hp
end Go.Proofs.YtncffcaabnjioaaGreat
