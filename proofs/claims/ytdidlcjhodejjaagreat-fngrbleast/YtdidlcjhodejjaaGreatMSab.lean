/-
  One more operator comes to the queue, with its pairs.
-/
import Derived.Test.YtdidlcjhodejjaaGreatMSaa
import Derived.Test.YtdidlcjhodejjaaGreatMIab
set_option maxHeartbeats 8000000
set_option maxRecDepth 100000
namespace Go.Proofs.YtdidlcjhodejjaaGreat
open Go.RowKit Go.Deep Go.Joins
set_option linter.unusedVariables false
theorem Px (w:World) (lo Q z:Nat) (lv:Value) (m:Nat) (kf:Nat→T) (B:Nat→Nat) (a:Nat) (h:lQ w lo Q z lv m kf B a (aZ m)) (ha:a≤aZ m) (hm:m≤12) (hlo:lo≤w.heap.size) (t:T) (ht:kf m=t):Calls Tryz.prog 77 #[.pointer (some ⟨Q,z,none⟩),.agg #[.int .i64 t.c,.int .i64 t.m.x,.int .i64 t.m.y,.int .i64 t.m.d,.int .i64 t.m.e]] w fun r w'=>r= .returned (.tuple #[])∧∃lv' B',lQ w' lo Q z lv' (m+1) kf B' a (aZ (m+1))∧(∀j,j<aZ m→B' j=B j)∧(∀j,aZ m≤j→j<aZ (m+1)→w.heap.size≤B' j)∧(∀g,lv'.ownBlock=some g→lv.ownBlock=some g∨w.heap.size≤g)∧Fr (QS Q lv B a (aZ m)) w w':=by
 obtain⟨i0,hi0,hz0,hz1,hz2⟩:=info_parts uG;have bo:=aC w (.cells #[.int .i64 t.c,.int .i64 t.m.x,.int .i64 t.m.y,.int .i64 t.m.d,.int .i64 t.m.e] 42)
 have HQ0:=aA (h.below bo);have HF0:Hid (Fr (QS Q lv B a (aZ m)) w (w.alloc (.cells #[.int .i64 t.c,.int .i64 t.m.x,.int .i64 t.m.y,.int .i64 t.m.d,.int .i64 t.m.e] 42))):=bA bo
 have HL0:=aA (C5.box w 42 t);have hQw:Q<w.heap.size:=h.lt
 have hlen:((List.range m).map kf).length=m:=by simp
 obtain⟨la,lc,hlv,hout⟩:=aH h.own (by rw[hlen];omega);rw[hlen]at hlv;subst hlv;have hgw:∀g,(Value.slice la m lc).ownBlock=some g→g<w.heap.size:=fun g hg=>(h.own.lt g hg).2
 have hBw:∀j,a≤j→j<aZ m→B j<w.heap.size:=fun j j1 j2=>(h.pr j j1 j2).lt;have HGW:=aA hgw
 have HBW:=aA hBw;have hml:(m:Int)≤12:=by omega
 have c0:=(h.below bo).cl;clear h hout hgw hBw;go_enter Tryz.func77,Tryz.ntmps77;go_wp2;clear c0 bo;generalize hw0:w.alloc (.cells #[.int .i64 t.c,.int .i64 t.m.x,.int .i64 t.m.y,.int .i64 t.m.d,.int .i64 t.m.e] 42)=w0 at *;have hs0:w.heap.size≤w0.heap.size:=HF0.out.size
 clear hw0;go_loopw [11] (fun v wr=>∃(i:Nat) (Bi:Nat→Nat),i≤m∧v= .int .i64 (i:Int)∧lQ wr lo Q z (.slice la m lc) m kf Bi a (aZ m+i)∧(∀j,j<aZ m→Bi j=B j)∧(∀j,aZ m≤j→j<aZ m+i→w.heap.size<Bi j)∧Fr (QS Q (.slice la m lc) B a (aZ m)) w wr∧C5 wr w.heap.size t) (fun v _=>m-(intOf v).toNat);case atStart=>exact⟨0,B,Nat.zero_le _,rfl,HQ0.out,fun _ _=>rfl,fun j j1 j2=>by omega,HF0.out,HL0.out⟩
 case round=>
  obtain⟨i,Bi,hi,rfl,hQ,hB1,hB2,hF,hL⟩:=hrel;have HB1:=aA hB1
  have HB2:=aA hB2;have HF:=aA hF
  have HQ:=aA hQ;have HLD:=aA hL
  have hsr:w.heap.size≤wr.heap.size:=hF.size;clear hB1 hB2;by_cases hlt:i<m
  ·have hil:(i:Int)<(m:Int):=by omega
   obtain⟨la2,lc2,hlv2,hout2⟩:=aH hQ.own (by rw[hlen];omega);rw[hlen]at hlv2;obtain⟨rfl,rfl⟩:la=la2∧lc=lc2:=by injection hlv2 with e1 e2 e3;exact⟨e1,e3⟩
   rcases hout2.1.2.2 with h0|⟨bb,off,rfl,hblt,hcl⟩
   ·omega
   obtain⟨g0,g1,g2,g3,g4⟩:=hcl i (by rw[hlen];exact hlt);rw[Cy kf hlt]at g0 g1 g2 g3 g4;obtain⟨t1,ht1⟩:∃t1,kf i=t1:=⟨_,rfl⟩
   rw[ht1]at g0 g1 g2 g3 g4;have be:=aC wr (.cells #[.int .i64 t1.c,.int .i64 t1.m.x,.int .i64 t1.m.y,.int .i64 t1.m.d,.int .i64 t1.m.e] 42)
   have HS0:=aA ((xS.mk (C5.box wr 42 t1) (hL.below be) (hQ.below be).cl).below (bL _ _).drew);have hpr:oW kf (aZ m+i)=⟨iQ t1 (M.both t1.m t.m),iQ t (M.both t1.m t.m),i,m⟩:=by unfold oW;rw[pJ m i hlt,ht1,ht]
   have HPR:=aA hpr;have HC:=fun(W:World)=>Ga W t1 t
   generalize iQ t1 (M.both t1.m t.m)=u at HC HPR;generalize iQ t (M.both t1.m t.m)=v at HC HPR;have HQd:=aA ((hQ.below be).below (bL _ _).drew)
   have HFd:=aA ((hF.next be).next (bL _ _).drew);have HLd:=aA ((hL.below be).below (bL _ _).drew)
   have hsd:w.heap.size≤(wr.alloc (.cells #[.int .i64 t1.c,.int .i64 t1.m.x,.int .i64 t1.m.y,.int .i64 t1.m.d,.int .i64 t1.m.e] 42)).drew.heap.size:=HFd.out.size;have hBd:∀j,a≤j→j<aZ m+i→Bi j<wr.heap.size:=fun j j1 j2=>(hQ.pr j j1 j2).lt
   have HBD:=aA hBd;have hlg:∀g,(Value.slice (some ⟨bb,off,none⟩) m lc).ownBlock=some g→g<wr.heap.size:=fun g hg=>(hQ.own.lt g hg).2
   have HLG:=aA hlg;clear hcl hout2 hlv2 hQ hF hL be hpr hBd hlg;go_wp2_with fail;clear g0 g1 g2 g3 g4;have hS:=HS0.out
   go_region_held3 (fun u=>xS u wr.heap.size w.heap.size Q z t1 t (.slice (some ⟨bb,off,none⟩) m lc)) (first|with_reducible exact hS|with_reducible exact xS.below hS b5|with_reducible exact xS.below (xS.below hS b5) (aC _ _)|with_reducible exact hS8) (first|(go_at_call 122;refine(HC _).mono ?_;rintro e w5 ⟨rfl,b5⟩)|(go_at_call 121;have hP:jK (w5.alloc (.cells #[.int .i64 u.c,.int .i64 u.m.x,.int .i64 u.m.y,.int .i64 u.m.d,.int .i64 u.m.e,.int .i64 v.c,.int .i64 v.m.x,.int .i64 v.m.y,.int .i64 v.m.d,.int .i64 v.m.e,.int .i64 (i:Int),.int .i64 (m:Int),.pointer none] 147)) w5.heap.size (oW kf (aZ m+i)) none:=(by rw[HPR.out];exact jK.box w5 147 ⟨u,v,i,m⟩ none);have hsz5:=b5.size;refine(Rk _ lo Q z _ m kf Bi a (aZ m+i) ((HQd.out.below b5).below (aC _ _)) (by omega) _ hP (by simp at hsz5;omega) (by simp at hsz5;omega) (fun q=>by have:=HLG.out _ q;simp at hsz5;omega) (fun j j1 j2=>by have:=HBD.out j j1 j2;simp at hsz5;omega)).mono ?_;rintro e w8 ⟨rfl,hq8,hf8⟩;have hS8:xS w8 wr.heap.size w.heap.size Q z t1 t (.slice (some ⟨bb,off,none⟩) m lc):=xS.fr (xS.below (xS.below hS b5) (aC _ _)) hf8 (fun q=>by rcases q with q|⟨q1,q2⟩;(· omega);(· have:=HBD.out (aZ m+i-1) (by omega) (by omega);omega)) (fun q=>by rcases q with q|⟨q1,q2⟩;(· omega);(· rcases Nat.lt_or_ge (aZ m+i-1) (aZ m)with k|k;(· have:=HB1.out _ k;have:=HBW.out (aZ m+i-1) (by omega) k;omega);(· have:=HB2.out _ k (by omega);omega))) hq8.cl))
   have hL8:C5 w8 w.heap.size t:=hS8.c5
   have hF8:Fr (QS Q (.slice (some ⟨bb,off,none⟩) m lc) B a (aZ m)) w w8:=((HFd.out.next b5).next (aC _ _)).step hf8 (fun k hk q=>by
    rcases q with q|⟨q1,q2⟩
    ·exact .inl q
    ·rcases Nat.lt_or_ge (aZ m+i-1) (aZ m)with k'|k'
     ·by_cases e0:i=0
      ·subst e0;exact .inr (.inr ⟨by omega,by rw[q2];exact HB1.out _ k'⟩)
      ·omega
     ·have:=HB2.out _ k' (by omega)
      omega)
   have hs5:w.heap.size<w5.heap.size:=by have:=b5.size;simp at this;omega
   have HQ8:=aA hq8;have HL8:=aA hL8
   have HF8:=aA hF8;clear hS hS8 hq8 hf8 hL8 hF8 b5 HC hP hsz5;go_wp2;go_roundw
   case rel=>exact⟨i+1,AE Bi (aZ m+i) w5.heap.size,by omega,by go_num,HQ8.out,fun j hj=>by
    unfold AE;rw[if_neg (by omega)];exact HB1.out j hj,fun j j1 j2=>by
    unfold AE;split
    ·exact hs5
    ·exact HB2.out j j1 (by omega),HF8.out,HL8.out⟩
   case measure=>simp[intOf];omega
  ·have hie:i=m:=by omega
   subst hie;have hnl:¬(i:Int)<(i:Int):=by omega
   have bd:Below wr.heap.size wr wr.drew:=(bL _ _).drew;have ba:=aC wr.drew (.cells #[.int .i64 t.c,.int .i64 t.m.x,.int .i64 t.m.y,.int .i64 t.m.d,.int .i64 t.m.e] 42)
   have hQa:=(hQ.below bd).below ba;have c0:=hQ.cl
   have z0:=hQ.fz.1;obtain⟨l0,l1,l2,l3,l4⟩:=hL;have hOa:((wr.drew).alloc (.cells #[.int .i64 t.c,.int .i64 t.m.x,.int .i64 t.m.y,.int .i64 t.m.d,.int .i64 t.m.e] 42)).ownsRow lo 42 5 (.slice la i lc) i (aE ((List.range i).map kf)):=by
    have:=hQa.own
    rwa[hlen]at this
   have hnQ:¬(Value.slice la i lc).ownBlock=some Q:=fun q=>hQ.ap Q q rfl;have hQr:Q<wr.heap.size:=hQ.lt
   have hnew:=heap_alloc_new wr.drew (.cells #[.int .i64 t.c,.int .i64 t.m.x,.int .i64 t.m.y,.int .i64 t.m.d,.int .i64 t.m.e] 42);have HQa:=aA hQa
   have HFa:=aA ((HF.out.next bd).next ba);have HOA:=aA hOa
   have HNE:=aA hnew;have hlor:lo≤wr.heap.size:=jZ hlo hsr
   have cA:=hQa.cl;have zA:=hQa.fz.1
   have HCA:=aA cA;have HZA:=aA zA
   clear hQ hF hQa hOa hnew bd ba cA zA;go_wp2_with fail
   go_region_law (refine step_append_lies _ (by rfl) (.tmp 34) (.tmp 36) 45 (by rfl) lo 42 i0 _ 5 40 Tryz.underlying45 hi0 hz0 hz1 hz2 rfl (by omega) _ i (aE ((List.range i).map kf)) (by rfl) HOA.out ⟨wr.heap.size,0,none⟩ 1 1 (aE [t]) (by rfl) (by rw[aX];rfl) (by rw[dM];exact World.news_of_block HNE.out) (dX _) (by omega) (by unfold maxLen;omega) (by omega) (by simp;omega) _ rfl ?_;intro g0 cap0 w9 hown hgrow hat hlt9;have c9:=(JE (b:=Q) (o:=z) hgrow (by simp;omega) hnQ).trans HCA.out;have z9:=(yE (b:=Q) (o:=z) hgrow (by simp;omega) hnQ).trans HZA.out)
   all_goals(
    clear c9 z9 l0 l1 l2 l3 l4 c0 z0;have HOWN:=aA hown
    have HGR:=aA hgrow;have HAT:=aA hat
    clear hown hgrow hat hlt9;go_wp2
    go_end0
    have hl':∀g,(Value.slice (some ⟨g0,0,none⟩) (i+1) cap0).ownBlock=some g→(Value.slice la i lc).ownBlock=some g∨g=wr.heap.size+1:=fun g hg=>by
     have e:g0=g:=by simpa[Value.ownBlock]using hg
     subst e;exact HAT.out.imp id (fun q=>by rw[q];simp)
    have ho:w9.ownsRow lo 42 5 (.slice (some ⟨g0,0,none⟩) (i+1) cap0) ((List.range (i+1)).map kf).length (aE ((List.range (i+1)).map kf)):=by have h:=HOWN.out;rw[←ht,←bK,←OX]at h;rw[show((List.range (i+1)).map kf).length=i+1 by simp];exact h
    refine⟨rfl,.slice (some ⟨g0,0,none⟩) (i+1) cap0,Bi,HQa.out.lead HGR.out rfl ho (fun g hg=>by simpa using hl' g hg),HB1.out,fun j j1 j2=>Nat.le_of_lt (HB2.out j j1 j2),fun g hg=>(hl' g hg).imp id (fun q=>by omega),?_⟩
    exact(HFa.out.grown HGR.out (fun g e hk=>.inr (.inl e))).set (fun _=>.inl rfl))
def AC (F:Nat→Nat):Nat→Nat
 |0=>2
 |m+1=>if AC F m=2 then F m else AC F m
theorem DT       {F : Nat → Nat} {j : Nat} (h : AC  F j ≠ 2) : ∀ e, j ≤ e → AC  F e = AC  F j
  | 0, hj => by obtain rfl : j = 0 := by omega
                rfl
  | e + 1, hj => by
    rcases Nat.lt_or_ge j (e + 1) with h' | h'
    · have := DT       h e (by omega)
      show (if AC  F e = 2 then F e else AC  F e) = _
      rw [this, if_neg h]
    · obtain rfl : j = e + 1 := by omega
      rfl
theorem AV {F:Nat→Nat}:∀{e:Nat},AC F e=2↔∀j,j<e→F j=2
 |0=>⟨fun _ j hj=>by omega,fun _=>rfl⟩
 |e+1=>by
  show(if AC F e=2 then F e else AC F e)=2↔_;constructor
  ·intro h j hj;split at h
   ·rename_i h2;by_cases e1:j=e
    ·rw[e1];exact h
    ·exact AV.1 h2 j (by omega)
   ·exact absurd h (by assumption)
  ·intro h;rw[if_pos (AV.2 (fun j hj=>h j (by omega)))];exact h e (by omega)
def DJ (o:Int) (n:Nat) (L:Nat→List T) (j:Nat):Nat:=Oe o n L (pq j).1 (pq j).2
theorem Of (o:Int) (n:Nat) (L:Nat→List T) (i k:Nat):Oe o n L i k≤2:=by
 unfold Oe;split
 ·split
  ·split<;>omega
  ·omega
 ·omega
theorem Fs (o:Int) (n:Nat) (L:Nat→List T):∀e,AC (DJ o n L) e≤2
 |0=>Nat.le_refl _
 |e+1=>by
  show(if AC (DJ o n L) e=2 then DJ o n L e else AC (DJ o n L) e)≤2;split
  ·exact Of _ _ _ _ _
  ·exact Fs o n L e
theorem XL {o:Int} {n:Nat} {L:Nat→List T} (ho:1≤o∧o≤3) (hl:aT n (lN L) (fN L)=true):CD o n L=decide (AC (DJ o n L) (aZ n)=2):=by
 unfold CD;refine decide_eq_decide.2 ⟨fun h=>AV.2 (fun j hj=>?_),fun h=>⟨ho,hl,fun k hk i hi=>?_⟩⟩
 ·obtain⟨h1,h2⟩:=DI hj;exact h.2.2 _ h2 _ h1
 ·have:=AV.1 h (aZ k+i) (by have:=xN (show k+1≤n by omega);show aZ k+i<aZ n;have h':aZ (k+1)=aZ k+k:=rfl;omega);unfold DJ at this
  rwa[pJ k i hi]at this
theorem NI {o:Int} {A:List T} (ho:1≤o∧o≤3) (hA:cG A=true) (h0:A.length≠0):bF o A.length (lf A)=true∧bQ o A.length (lf A)=aV o A:=by have h:bF o A.length (lf A)=true:=fT.2 ⟨ho,hA,fun e=>h0 (by rw[e];rfl)⟩;exact⟨h,dP h⟩
theorem Ca {o : Int} {n : Nat} {L : Nat → List T} (ho : 1 ≤ o ∧ o ≤ 3) (hl : aT n (lN L) (fN L) = true) {kf : Nat → T} (hk : ∀ i, i < n → kf i = aV o (L i)) {j : Nat} (hj : j < aZ n) : DJ o n L j = match EX o n L (oW kf j) with
    |some S=>if S.r.length=0 then 2 else 1
    |none=>0:=by
  obtain⟨h1,h2⟩:=DI hj
  have a1:=(aL hl).2 (pq j).1 (by omega)
  have a2:=(aL hl).2 (pq j).2 h2
  obtain⟨k1,e1⟩:=NI (o:=o) (A:=L (pq j).1) ho a1.2 a1.1
  obtain⟨k2,e2⟩:=NI (o:=o) (A:=L (pq j).2) ho a2.2 a2.1
  have hs:gB o (L (pq j).1).length (lf (L (pq j).1)) (L (pq j).2).length (lf (L (pq j).2))=true:=by unfold gB;rw[k1,k2];rfl
  have e:dV o (lf (L (pq j).1)) (L (pq j).1).length (lf (L (pq j).2)) (L (pq j).2).length=mE (oW kf j).t1 (oW kf j).t2 (lf (L (pq j).1)) (L (pq j).1).length (lf (L (pq j).2)) (L (pq j).2).length:=by
    unfold dV
    rw[if_pos hs]
    unfold gL gM oH oW
    rw[if_pos hs,if_pos hs,e1,e2]
    simp only
    rw[hk _ (by omega),hk _ h2]
  unfold DJ Oe EX
  show(match dV o (lf (L (pq j).1)) (L (pq j).1).length (lf (L (pq j).2)) (L (pq j).2).length with
    |(s,true)=>(match aW o s n (lN L) (fN L)with|some S=>if S.r.length=0 then 2 else 1|none=>0)
    |(_,false)=>0)=match (match mE (oW kf j).t1 (oW kf j).t2 (lf (L (pq j).1)) (L (pq j).1).length (lf (L (pq j).2)) (L (pq j).2).length with|(s,true)=>aW o s n (lN L) (fN L)|(_,false)=>none)with|some S=>if S.r.length=0 then 2 else 1|none=>0
  rw[e]
  generalize mE (oW kf j).t1 (oW kf j).t2 (lf (L (pq j).1)) (L (pq j).1).length (lf (L (pq j).2)) (L (pq j).2).length=X
  obtain⟨s,b⟩:=X
  cases b<;>rfl
theorem Cc {o:Int} {n:Nat} {L:Nat→List T} (ho:1≤o∧o≤3) (hl:aT n (lN L) (fN L)=true) {kf:Nat→T} (hk:∀i,i<n→kf i=aV o (L i)) {j:Nat} (hj:j<aZ n) {S:Dv} (h:EX o n L (oW kf j)=some S):DJ o n L j=if S.r.length=0 then 2 else 1:=by rw[Ca ho hl hk hj,h]
theorem Cb {o:Int} {n:Nat} {L:Nat→List T} (ho:1≤o∧o≤3) (hl:aT n (lN L) (fN L)=true) {kf:Nat→T} (hk:∀i,i<n→kf i=aV o (L i)) {j:Nat} (hj:j<aZ n) (h:EX o n L (oW kf j)=none):DJ o n L j=0:=by rw[Ca ho hl hk hj,h]
def Tn (w:World) (Q NL v:Nat) (r:Ending) (w':World):Prop:=
 Fr (fun k=>k=Q∨k=NL) w w'∧((v=2∧r= .returned (.tuple #[])∧w'.cell? ⟨NL,0,none⟩=some (.bool true))∨(v=1∧r= .returned (.tuple #[])∧w'.cell? ⟨NL,0,none⟩=some (.bool false))∨(v=0∧r= .panicked [{v:=fG,recovered:=false}]))
theorem Ie (w:World) (lo Q NL OB LB:Nat) (lv:Value) (n:Nat) (kf:Nat→T) (B:Nat→Nat) (hQ:lQ w lo Q 0 lv n kf B 0 (aZ n)) (hN:w.cell? ⟨NL,0,none⟩=some (.bool true)) (hNz:w.frozen? ⟨NL,0,none⟩=false) (o:Int) (hO:w.cell? ⟨OB,0,none⟩=some (.int .i64 o)) (a:Option Addr) (cap:Nat) (ad:Nat→Option Addr) (cp:Nat→Nat) (L:Nat→List T) (hL:w.cell? ⟨LB,0,none⟩=some (.slice a n cap)) (h:cZ w a n cap ad (lN L) cp (fN L)) (ho:1≤o∧o≤3) (hl:aT n (lN L) (fN L)=true) (hk:∀i,i<n→kf i=aV o (L i)) (n1:NL≠Q) (n2:∀j,j<aZ n→B j≠NL) (n3:∀g,lv.ownBlock=some g→g≠NL) (n4:OB≠Q∧OB≠NL) (n5:LB≠Q∧LB≠NL) (n6:n≠0→∀b off,a=some ⟨b,off,none⟩→b≠Q∧b≠NL) (n7:∀i,i<n→(L i).length≠0→∀b off,ad i=some ⟨b,off,none⟩→b≠Q∧b≠NL):Calls Tryz.prog 79 #[.pointer (some ⟨Q,0,none⟩),.pointer (some ⟨NL,0,none⟩),.pointer (some ⟨OB,0,none⟩),.pointer (some ⟨LB,0,none⟩)] w (Tn w Q NL (AC (DJ o n L) (aZ n))):=by
 obtain⟨v,hv⟩:∃v,AC (DJ o n L) (aZ n)=v:=⟨_,rfl⟩
 rw[hv];have HV:=aA hv
 have HQ0:=aA hQ;have HK:=aA hk
 have HL:=aA hl;have HN2:=aA n2
 have HN3:=aA n3;have keep:∀u:World,Fr (fun k=>k=Q∨k=NL) w u→u.cell? ⟨OB,0,none⟩=some (.int .i64 o)∧u.cell? ⟨LB,0,none⟩=some (.slice a n cap)∧cZ u a n cap ad (lN L) cp (fN L):=fun u hf=>by
  refine⟨(hf.cell (cX w _ hO) (fun q=>by rcases q with q|q;exact n4.1 q;exact n4.2 q)).trans hO,(hf.cell (cX w _ hL) (fun q=>by rcases q with q|q;exact n5.1 q;exact n5.2 q)).trans hL,h.1,h.2.1,?_,fun i hi=>?_⟩
  ·rcases h.2.2.1 with h0|⟨b,off,e,hlt,hc⟩
   ·exact .inl h0
   ·by_cases hn0:n=0
    ·exact .inl hn0
    ·exact .inr ⟨b,off,e,jY hlt hf.size,fun i hi=>(hf.cell hlt (fun q=>by have:=n6 hn0 b off e;rcases q with q|q;exact this.1 q;exact this.2 q)).trans (hc i hi)⟩
  ·refine hf.rd (h.2.2.2 i hi) ?_;by_cases h0:(L i).length=0
   ·exact .inl h0
   ·exact .inr fun b off e q=>by have:=n7 i hi h0 b off e;rcases q with q|q;exact this.1 q;exact this.2 q
 have KEEP:=aA keep;have hNlt:NL<w.heap.size:=cX w _ hN
 have HN:=aA hN;have HNZ:=aA hNz
 clear hQ hk hl n2 n3 keep hv h hN hNz hO hL;have pop:∀(u:World) (j:Nat),j≤aZ n→lQ u lo Q 0 lv n kf B j (aZ n)→Calls Tryz.prog 80 #[.pointer (some ⟨Q,0,none⟩)] u fun r u'=>∃p,r= .returned (.pointer p)∧Fr (fun k=>k=Q) u u'∧((j<aZ n∧p=some ⟨B j,0,none⟩∧lQ u' lo Q 0 lv n kf B (j+1) (aZ n)∧jK u' (B j) (oW kf j) (qF B (j+1) (aZ n)))∨(j=aZ n∧p=none∧lQ u' lo Q 0 lv n kf B j (aZ n))):=fun u j hj hq=>by
  by_cases hlt:j<aZ n
  ·refine(Tf u lo Q 0 lv n kf B j (aZ n) hq hlt).mono ?_;rintro r u' ⟨rfl,h1,h2,h3⟩;exact⟨_,rfl,h3,.inl ⟨hlt,rfl,h1,h2⟩⟩
  ·refine(IA u lo Q 0 lv n kf B j (aZ n) hq hlt).mono ?_;rintro r u' ⟨rfl,rfl⟩;exact⟨_,rfl,Fr.refl _ _,.inr ⟨by omega,rfl,hq⟩⟩
 have POP:=aA pop;clear pop;go_enter Tryz.func79,Tryz.ntmps79;go_wp2_with fail;refine(POP.out w 0 (Nat.zero_le _) HQ0.out).mono ?_;rintro r w1 ⟨p1,rfl,f1,hh1⟩;have HF1:Hid (Fr (fun k=>k=Q∨k=NL) w w1):=f1.mono (fun k _ q=>.inl q)
 have HNw1:Hid (w1.cell? ⟨NL,0,none⟩=some (.bool true)):=(f1.cell hNlt n1).trans HN.out;have HZ1:Hid (w1.frozen? ⟨NL,0,none⟩=false):=(f1.frozen hNlt n1).trans HNZ.out
 have HH1:=aA hh1;clear f1 hh1;go_wp2
 go_loopg [4] (aZ n) (fun gk pv wr=>∃(j:Nat) (p:Option Addr) (c:Bool),j+gk=aZ n∧pv= .pointer p∧Fr (fun k=>k=Q∨k=NL) w wr∧wr.cell? ⟨NL,0,none⟩=some (.bool c)∧wr.frozen? ⟨NL,0,none⟩=false∧AC (DJ o n L) j=(if c=true then 2 else 1)∧((j<aZ n∧p=some ⟨B j,0,none⟩∧lQ wr lo Q 0 lv n kf B (j+1) (aZ n)∧jK wr (B j) (oW kf j) (qF B (j+1) (aZ n)))∨(j=aZ n∧p=none∧lQ wr lo Q 0 lv n kf B j (aZ n))))
 case atStart=>exact⟨0,p1,true,by omega,rfl,HF1.out,HNw1.out,HZ1.out,rfl,HH1.out⟩
 case round=>
  obtain⟨j,p,c,hg,rfl,hF,hNc,hZc,hsc,hcase⟩:=hrel;have HF:=aA hF
  have HSC:=aA hsc;clear hsc;cases c
  ·have hv1:v=1:=by have h1:AC (DJ o n L) j=1:=HSC.out;rw[←HV.out,DT (by rw[h1];omega) (aZ n) (by omega),h1]
   have HNC:=aA hNc;rcases hcase with⟨hlt,rfl,hq,hp⟩|⟨rfl,rfl,hq⟩
   ·clear hq hp hF;go_wp2
    go_end0
    exact⟨HF.out,.inr (.inl ⟨(by first|exact hv1|rfl),rfl,HNC.out⟩)⟩
   ·clear hq hF;go_wp2
    go_end0
    exact⟨HF.out,.inr (.inl ⟨(by first|exact hv1|rfl),rfl,HNC.out⟩)⟩
  ·rcases hcase with⟨hlt,rfl,hq,hp⟩|⟨rfl,rfl,hq⟩
   ·obtain⟨hO,hL,hR⟩:=KEEP.out wr hF;obtain⟨h1,h2⟩:=DI hlt;obtain⟨R,hRR⟩:∃R,EX o n L (oW kf j)=R:=⟨_,rfl⟩
    have HC:=aA (MG wr (B j) (oW kf j) _ hp o a n cap ad cp L hR (show(pq j).1<n by omega) (show(pq j).2<n from h2) hRR);have HRR:=aA hRR
    have HQ:=aA hq;have HNC:=aA hNc
    have HZC:=aA hZc;clear hq hp hR hRR hF hZc;go_wp2_with fail;refine HC.out.mono ?_;rintro r w3 ⟨b3,hh⟩;have HB3:=aA b3
    rcases hh with⟨S,qa,qc,ad3,cp3,Rb,B3,la,lc,mid,lo3,rfl,rfl,_⟩|⟨rfl,rfl⟩
    ·have hpk:=Cc ho HL.out HK.out hlt HRR.out;have hN3:w3.cell? ⟨NL,0,none⟩=some (.bool true):=(b3.cell (p:=⟨NL,0,none⟩) (cX wr _ hNc)).trans hNc
     have hZ3:w3.frozen? ⟨NL,0,none⟩=false:=(b3.frozen (p:=⟨NL,0,none⟩) (cX wr _ hNc)).trans HZC.out;obtain⟨c,hc⟩:∃c:Bool,((S.r.length:Int)==0)=c:=⟨_,rfl⟩
     have hsc2:AC (DJ o n L) (j+1)=if c=true then 2 else 1:=by
      show(if AC (DJ o n L) j=2 then DJ o n L j else AC (DJ o n L) j)=_;rw[if_pos (by rw[HSC.out];rfl),hpk,←hc];by_cases e0:S.r.length=0
      ·rw[if_pos e0,if_pos (by simp[e0])]
      ·rw[if_neg e0,if_neg (by simp[e0])]
     have HSC2:=aA hsc2;have hf3:Fr (fun k=>k=Q∨k=NL) w (w3.setCell ⟨NL,0,none⟩ (.bool c)):=(HF.out.next b3).set (fun _=>.inr rfl)
     have fN:Fr (fun k=>k=NL) w3 (w3.setCell ⟨NL,0,none⟩ (.bool c)):=(Fr.refl _ w3).set (fun _=>rfl);have hq3:lQ (w3.setCell ⟨NL,0,none⟩ (.bool c)) lo Q 0 lv n kf B (j+1) (aZ n):=(HQ.out.below b3).fr fN (fun q=>n1 q.symm) (fun g hg q=>HN3.out g hg q) (fun i i1 i2 q=>HN2.out i i2 q)
     have cN:(w3.setCell ⟨NL,0,none⟩ (.bool c)).cell? ⟨NL,0,none⟩=some (.bool c):=iX hN3;have zN:(w3.setCell ⟨NL,0,none⟩ (.bool c)).frozen? ⟨NL,0,none⟩=false:=by rw[World.frozen?_setCell];exact hZ3
     have hNl3:NL<w3.heap.size:=cX w3 _ hN3;have HF3:=aA hf3
     have HQ3:=aA hq3;have HCN:=aA cN
     have HZN:=aA zN;clear hpk hsc2 hf3 fN hq3 cN zN b3 hO hL hNc;go_wp2_with fail;refine(POP.out _ (j+1) (by omega) HQ3.out).mono ?_;rintro r w4 ⟨p4,rfl,f4,hh4⟩;have HF4:=aA (HF3.out.step f4 (fun i _ q=>.inl q))
     have HC4:Hid (w4.cell? ⟨NL,0,none⟩=some (.bool c)):=(f4.cell (by simpa using hNl3) n1).trans HCN.out;have HZ4:Hid (w4.frozen? ⟨NL,0,none⟩=false):=(f4.frozen (by simpa using hNl3) n1).trans HZN.out
     have HH4:=aA hh4;clear f4 hh4 hN3 hZ3 hc;go_wp2
     go_roundg (gk-1)
     case measure=>omega
     case rel=>exact⟨j+1,p4,c,by omega,rfl,HF4.out,HC4.out,HZ4.out,HSC2.out,HH4.out⟩
    ·have h0:AC (DJ o n L) (j+1)=0:=by show(if AC (DJ o n L) j=2 then DJ o n L j else AC (DJ o n L) j)=_;rw[if_pos (by rw[HSC.out];rfl),Cb ho HL.out HK.out hlt HRR.out]
     have hv0:v=0:=by rw[←HV.out,DT (by rw[h0];omega) (aZ n) (by omega),h0]
     exact⟨rfl,HF.out.next HB3.out,.inr (.inr ⟨hv0,rfl⟩)⟩
   ·have hv2:v=2:=by rw[←HV.out,HSC.out];rfl
    have HNC:=aA hNc;clear hq hF;go_wp2
    go_end0
    exact⟨HF.out,.inl ⟨(by first|exact hv2|rfl),rfl,HNC.out⟩⟩
theorem Mo (w:World) (v:Value) (y:TypeId):(w.alloc (.cells #[v] y)).cell? ⟨w.heap.size,0,none⟩=some v:=by rw[World.cell?_alloc_at _ _ _ _ rfl];rfl
theorem Nb (w:World) (o:Int) (a:Option Addr) (n cap:Nat) (ad:Nat→Option Addr) (cp:Nat→Nat) (L:Nat→List T) (h:cZ w a n cap ad (lN L) cp (fN L)):Calls Tryz.prog 37 #[.int .i64 o,.slice a n cap] w (ZP w (.bool (CD o n L))):=by
 have q1:(n:Int)≤140737488351232:=by have:=h.2.1;omega
 have hb0:=aR w (.cells #[.int .i64 o] 3) (.cells #[.slice a n cap] 24);have HH:=aA (h.below hb0)
 have HB0:=aA hb0;have hcO:((w.alloc (.cells #[.int .i64 o] 3)).alloc (.cells #[.slice a n cap] 24)).cell? ⟨w.heap.size,0,none⟩=some (.int .i64 o):=((aC _ _).cell (p:=⟨w.heap.size,0,none⟩) (by simp)).trans (Mo w _ _)
 have hcL:((w.alloc (.cells #[.int .i64 o] 3)).alloc (.cells #[.slice a n cap] 24)).cell? ⟨w.heap.size+1,0,none⟩=some (.slice a n cap):=by
  have:=Mo (w.alloc (.cells #[.int .i64 o] 3)) (.slice a n cap) 24
  rwa[World.size_alloc]at this
 have hlist:∀b off,a=some ⟨b,off,none⟩→n≠0→b<w.heap.size:=fun b off e h0=>by
  rcases h.2.2.1 with q|⟨b',off',e',hlt,_⟩
  ·exact absurd q h0
  ·rw[e]at e';cases e';exact hlt
 have hels:∀i,i<n→(L i).length≠0→∀b off,ad i=some ⟨b,off,none⟩→b<w.heap.size:=fun i hi h0 b off e=>by
  rcases(h.2.2.2 i hi).2.2 with q|⟨b',off',e',hlt,_⟩
  ·exact absurd q h0
  ·rw[e]at e';cases e';exact hlt
 have HLI:=aA hlist;have HEL:=aA hels
 clear h hlist hels;unfold ZP;by_cases ho:1≤o∧o≤3
 ·cases hl:aT n (lN L) (fN L)
  ·have e0:CD o n L=false:=decide_eq_false (fun hh=>by rw[hl]at hh;exact absurd hh.2.1 (by simp));rw[e0];have HC:=aA (jM _ o a n cap ad (lN L) cp (fN L) HH.out ho.1 ho.2 hl)
   clear e0;go_enter Tryz.func37,Tryz.ntmps37;go_wp2_with fail;refine HC.out.mono ?_;rintro r w1 ⟨rfl,b1⟩;have HB1:=aA (aB HB0.out b1)
   clear b1;go_wp2;go_ret;exact⟨rfl,HB1.out⟩
  ·have n12:=(aL hl).1;have hn12:(n:Int)≤12:=by omega
   have HC:=aA (kM _ o a n cap ad (lN L) cp (fN L) HH.out ho.1 ho.2 hl);have HL:=aA hl
   rw[XL ho hl];obtain⟨v,hv⟩:∃v,AC (DJ o n L) (aZ n)=v:=⟨_,rfl⟩
   rw[hv];have HV:=aA hv
   clear hl hv;go_enter Tryz.func37,Tryz.ntmps37;go_wp2_with fail;refine HC.out.mono ?_;rintro r w1 ⟨lv0,rfl,b1,hown⟩;have hlen:=fU o (lN L) (fN L) n
   obtain⟨la,lc,rfl,hout⟩:=aH hown (by rw[hlen];omega);rw[hlen];have hB1:=aB HB0.out b1
   have HB1:=aA hB1;have HH1:=aA (HH.out.below b1)
   have cO:w1.cell? ⟨w.heap.size,0,none⟩=some (.int .i64 o):=(b1.cell (p:=⟨w.heap.size,0,none⟩) (cX _ _ hcO)).trans hcO;have cL:w1.cell? ⟨w.heap.size+1,0,none⟩=some (.slice a n cap):=(b1.cell (p:=⟨w.heap.size+1,0,none⟩) (cX _ _ hcL)).trans hcL
   have hs1:w.heap.size+2≤w1.heap.size:=by have:=b1.size;simp at this;omega
   have HRD:=aA hout.1;have hrb:∀b off,la=some ⟨b,off,none⟩→n≠0→b<w1.heap.size:=fun b off e h0=>by
    rcases hout.1.2.2 with q|⟨b',off',e',hlt,_⟩
    ·rw[hlen]at q;exact absurd q h0
    ·rw[e]at e';cases e';exact hlt
   have HRB:=aA hrb;have HCO:=aA cO
   have HCL:=aA cL;have HQ0:Hid (lQ (w1.alloc (.cells #[.slice none 0 0,.pointer none,.pointer none] 99)) w1.heap.size w1.heap.size 0 (.slice none 0 0) 0 (fun i=>aV o (L i)) (fun _=>0) 0 0):=⟨by rw[World.cell?_alloc_at _ _ _ _ rfl];rfl,by rw[World.cell?_alloc_at _ _ _ _ rfl];rfl,⟨_,by rw[World.cell?_alloc_at _ _ _ _ rfl];rfl,fun q=>by omega⟩,⟨by simp[go_sem],by simp[go_sem],by simp[go_sem]⟩,nO _ _,fun g hg=>by simp[Value.ownBlock]at hg,fun j _ hj=>by omega,fun j _ hj=>by omega,fun i j _ _ hj=>by omega,Nat.le_refl _⟩
   have HBQ:=aA (aC w1 (.cells #[.slice none 0 0,.pointer none,.pointer none] 99));clear hown hout b1 hB1 hcO hcL cO cL hrb HC HH;go_wp2;generalize hwq:w1.alloc (.cells #[.slice none 0 0,.pointer none,.pointer none] 99)=wq at *;go_loopw [22] (fun vi wr=>∃(i:Nat) (lv:Value) (B:Nat→Nat),i≤n∧vi= .int .i64 (i:Int)∧lQ wr w1.heap.size w1.heap.size 0 lv i (fun i=>aV o (L i)) B 0 (aZ i)∧Below w1.heap.size w1 wr∧(∀g,lv.ownBlock=some g→w1.heap.size<g)∧(∀j,j<aZ i→w1.heap.size<B j)) (fun vi _=>n-(intOf vi).toNat);case atStart=>exact⟨0,_,_,Nat.zero_le _,rfl,HQ0.out,HBQ.out,fun g hg=>by simp[Value.ownBlock]at hg,fun j hj=>absurd hj (rT _)⟩
   case round=>
    obtain⟨i,lv,B,hi,rfl,hQ,hB,hg,hBj⟩:=hrel;have HB:=aA hB
    have HG:=aA hg;have HBJ:=aA hBj
    have HQ:=aA hQ;by_cases hlt:i<n
    ·have hil:(i:Int)<(n:Int):=by omega
     rcases HRD.out.2.2 with h0|⟨bb,off,rfl,hblt,hcl⟩
     ·rw[hlen]at h0;omega
     obtain⟨g0,g1,g2,g3,g4⟩:=hcl i (by rw[hlen];exact hlt);rw[oS o (lN L) (fN L) n i hlt]at g0 g1 g2 g3 g4;obtain⟨t,ht⟩:∃t,aV o (L i)=t:=⟨_,rfl⟩
     have ht':kC o (lN L) (fN L) i=t:=ht;rw[ht']at g0 g1 g2 g3 g4;have k0:wr.cell? ⟨bb,off+i*5,none⟩=some (.int .i64 t.c):=(hB.cell (p:=⟨bb,off+i*5,none⟩) hblt).trans g0
     have k1:wr.cell? ⟨bb,off+i*5+1,none⟩=some (.int .i64 t.m.x):=(hB.cell (p:=⟨bb,off+i*5+1,none⟩) hblt).trans g1;have k2:wr.cell? ⟨bb,off+i*5+2,none⟩=some (.int .i64 t.m.y):=(hB.cell (p:=⟨bb,off+i*5+2,none⟩) hblt).trans g2
     have k3:wr.cell? ⟨bb,off+i*5+3,none⟩=some (.int .i64 t.m.d):=(hB.cell (p:=⟨bb,off+i*5+3,none⟩) hblt).trans g3;have k4:wr.cell? ⟨bb,off+i*5+4,none⟩=some (.int .i64 t.m.e):=(hB.cell (p:=⟨bb,off+i*5+4,none⟩) hblt).trans g4
     have bbx:=aC wr (.cells #[.int .i64 t.c,.int .i64 t.m.x,.int .i64 t.m.y,.int .i64 t.m.d,.int .i64 t.m.e] 42);have hsr:w1.heap.size≤wr.heap.size:=hB.size
     have HCM:=aA (Px _ w1.heap.size w1.heap.size 0 lv i (fun i=>aV o (L i)) B 0 (hQ.below bbx) (Nat.zero_le _) (by omega) (by simp;omega) t ht);have HBX:=aA (hB.trans (bbx.mono hsr))
     have hlw:lv.ownBlock=none∨True:=.inr trivial;clear hcl g0 g1 g2 g3 g4 ht ht' hQ hB hg hBj bbx hlw;go_wp2_with fail;refine HCM.out.mono ?_;rintro r w3 ⟨rfl,lv',B',hQ3,e1,e2,e3,f3⟩;have HQ3:=aA hQ3
     have HB3:Hid (Below w1.heap.size w1 w3):=f3.below HBX.out (fun k q=>by
      rcases q with q|q|⟨q1,q2⟩
      ·omega
      ·have:=HG.out k q;omega
      ·have:=HBJ.out (aZ i-1) (by omega);omega) (Nat.le_refl _)
     have HG3:Hid (∀g,lv'.ownBlock=some g→w1.heap.size<g):=fun g hg=>by
      rcases e3 g hg with q|q
      ·exact HG.out g q
      ·simp at q;omega
     have HBJ3:Hid (∀j,j<aZ (i+1)→w1.heap.size<B' j):=fun j hj=>by
      rcases Nat.lt_or_ge j (aZ i)with q|q
      ·rw[e1 j q];exact HBJ.out j q
      ·have:=e2 j q hj;simp at this;omega
     clear hQ3 e1 e2 e3 f3 k0 k1 k2 k3 k4;go_wp2;go_roundw;case rel=>exact⟨i+1,lv',B',by omega,by go_num,HQ3.out,HB3.out,HG3.out,HBJ3.out⟩
     case measure=>simp[intOf];omega
    ·have hie:i=n:=by omega
     subst hie;have hnl:¬(i:Int)<(i:Int):=by omega
     have hsr:w1.heap.size≤wr.heap.size:=hB.size;have bN:=aC wr (.cells #[.bool true] 4)
     have hcN:=Mo wr (.bool true) 4;have hBN:=hB.trans (bN.mono hsr)
     have HCL1:=aA (Ie (wr.alloc (.cells #[.bool true] 4)) w1.heap.size w1.heap.size wr.heap.size w.heap.size (w.heap.size+1) lv i (fun i=>aV o (L i)) B (hQ.below bN) hcN (by simp[go_sem]) o ((hBN.cell (p:=⟨w.heap.size,0,none⟩) (by show w.heap.size<w1.heap.size;omega)).trans HCO.out) a cap ad cp L ((hBN.cell (p:=⟨w.heap.size+1,0,none⟩) (by show w.heap.size+1<w1.heap.size;omega)).trans HCL.out) (HH1.out.below hBN) ho HL.out (fun _ _=>rfl) (by have:=hQ.lt;omega) (fun j hj=>by have:=(hQ.pr j (Nat.zero_le _) hj).lt;omega) (fun g hg=>by have:=(hQ.own.lt g hg).2;omega) ⟨by omega,by omega⟩ ⟨by omega,by omega⟩ (fun h0 b off e=>by have:=HLI.out b off e h0;omega) (fun j hj h0 b off e=>by have:=HEL.out j hj h0 b off e;omega));have hv3:v=2∨v=1∨v=0:=by
      have:=Fs o i L (aZ i);have:=HV.out
      omega
     have HBN:=aA hBN;have HcN:=aA hcN
     have hfb:∀u,Fr (fun k=>k=w1.heap.size∨k=wr.heap.size) (wr.alloc (.cells #[.bool true] 4)) u→Below w.heap.size w u:=fun u hf=>HB1.out.trans ((hf.below hBN (fun k q=>by omega) (Nat.le_refl _)).mono (by omega));have HFB:=aA hfb
     rw[HV.out]at HCL1;clear hQ hB hg hBj bN hcN hBN hfb;rcases hv3 with rfl|rfl|rfl
     ·have HE:=aA (sM 79 #[.pointer (some ⟨w1.heap.size,0,none⟩),.pointer (some ⟨wr.heap.size,0,none⟩),.pointer (some ⟨w.heap.size,0,none⟩),.pointer (some ⟨w.heap.size+1,0,none⟩)] (wr.alloc (.cells #[.bool true] 4)) (fun u=>Below w.heap.size w u∧u.cell? ⟨wr.heap.size,0,none⟩=some (.bool true)) (enters_of Tryz.func79 (by kernel_rfl) rfl) (HCL1.out.mono fun r u hh=>by
       rcases hh with⟨hf,⟨_,hr,hc⟩|⟨q,_⟩|⟨q,_⟩⟩
       ·exact⟨hr,HFB.out u hf,hc⟩
       ·omega
       ·omega))
      clear HCL1;go_wp2_with fail;refine HE.out.mono ?_;rintro r w5 ⟨rfl,w4,⟨b4,c4⟩,rfl⟩;have c5:(w4.alloc (.cells #[] 149)).cell? ⟨wr.heap.size,0,none⟩=some (.bool true):=((aC w4 _).cell (p:=⟨wr.heap.size,0,none⟩) (cX w4 _ c4)).trans c4
      have HB5:=aA (aB b4 (aC w4 (.cells #[] 149)));clear b4 c4;go_wp2;go_ret;exact⟨rfl,HB5.out⟩
     ·have HE:=aA (sM 79 #[.pointer (some ⟨w1.heap.size,0,none⟩),.pointer (some ⟨wr.heap.size,0,none⟩),.pointer (some ⟨w.heap.size,0,none⟩),.pointer (some ⟨w.heap.size+1,0,none⟩)] (wr.alloc (.cells #[.bool true] 4)) (fun u=>Below w.heap.size w u∧u.cell? ⟨wr.heap.size,0,none⟩=some (.bool false)) (enters_of Tryz.func79 (by kernel_rfl) rfl) (HCL1.out.mono fun r u hh=>by
       rcases hh with⟨hf,⟨q,_⟩|⟨_,hr,hc⟩|⟨q,_⟩⟩
       ·omega
       ·exact⟨hr,HFB.out u hf,hc⟩
       ·omega))
      clear HCL1;go_wp2_with fail;refine HE.out.mono ?_;rintro r w5 ⟨rfl,w4,⟨b4,c4⟩,rfl⟩;have c5:(w4.alloc (.cells #[] 149)).cell? ⟨wr.heap.size,0,none⟩=some (.bool false):=((aC w4 _).cell (p:=⟨wr.heap.size,0,none⟩) (cX w4 _ c4)).trans c4
      have HB5:=aA (aB b4 (aC w4 (.cells #[] 149)));clear b4 c4;go_wp2;go_ret;exact⟨rfl,HB5.out⟩
     ·have HE:=aA (DO 79 #[.pointer (some ⟨w1.heap.size,0,none⟩),.pointer (some ⟨wr.heap.size,0,none⟩),.pointer (some ⟨w.heap.size,0,none⟩),.pointer (some ⟨w.heap.size+1,0,none⟩)] (wr.alloc (.cells #[.bool true] 4)) (fun u=>Below w.heap.size w u) (enters_of Tryz.func79 (by kernel_rfl) rfl) (HCL1.out.mono fun r u hh=>by
       rcases hh with⟨hf,⟨q,_⟩|⟨q,_⟩|⟨_,hr⟩⟩
       ·omega
       ·omega
       ·exact⟨hr,HFB.out u hf⟩))
      clear HCL1;go_wp2_with fail;refine HE.out.mono ?_;rintro r w5 ⟨rfl,w4,b4,rfl⟩;have HB5:=aA (aB b4 (aC w4 (.cells #[] 149)))
      clear b4;go_wp2;go_ret;exact⟨rfl,HB5.out⟩
 ·have e0:CD o n L=false:=decide_eq_false (fun hh=>ho hh.1);rw[e0];have HC:=aA (iS ((w.alloc (.cells #[.int .i64 o] 3)).alloc (.cells #[.slice a n cap] 24)) o a n cap (by omega))
  clear e0;go_enter Tryz.func37,Tryz.ntmps37;go_wp2_with fail;refine HC.out.mono ?_;rintro r w1 ⟨rfl,b1⟩;have HB1:=aA (aB HB0.out b1)
  clear b1;go_wp2;go_ret;exact⟨rfl,HB1.out⟩
end Go.Proofs.YtdidlcjhodejjaaGreat
