/-
  One more operator comes to the queue, with its pairs.
  A basis on its way, as lists: rows of proofs, a pair looked at, the run.
  Rows of proofs in the model: l9Row, l9Less.
-/
import Derived.Test.YtncffcaabnjioaaGreatMbj
import Derived.Deep.RegionLaw
set_option maxHeartbeats 8000000
set_option maxRecDepth 100000
namespace Go.Proofs.YtncffcaabnjioaaGreat
open Go.RowKit Go.Deep Go.Joins
set_option linter.unusedVariables false
theorem Fr.step {P P':Nat→Prop} {a b c:World} (h:Fr P a b) (k:Fr P' b c) (hp:∀i,i<a.heap.size→P' i→P i):Fr P a c:=
 ⟨k.os.trans h.os,k.tape.trans h.tape,k.output.trans h.output,jW h.size k.size,fun i hi hn=>(k.block i (lG hi h.size) (fun e=>hn (hp i hi e))).trans (h.block i hi hn)⟩
abbrev zQ (u:World) (b1 b2 Q z:Nat) (t1 t2:T) (lv:Value):Prop:=
 u.cell? ⟨b1,0,none⟩=some (.int .i64 t1.c)∧u.cell? ⟨b1,1,none⟩=some (.int .i64 t1.m.x)∧u.cell? ⟨b1,2,none⟩=some (.int .i64 t1.m.y)∧u.cell? ⟨b1,3,none⟩=some (.int .i64 t1.m.d)∧u.cell? ⟨b1,4,none⟩=some (.int .i64 t1.m.e)∧u.cell? ⟨b2,0,none⟩=some (.int .i64 t2.c)∧u.cell? ⟨b2,1,none⟩=some (.int .i64 t2.m.x)∧u.cell? ⟨b2,2,none⟩=some (.int .i64 t2.m.y)∧u.cell? ⟨b2,3,none⟩=some (.int .i64 t2.m.d)∧u.cell? ⟨b2,4,none⟩=some (.int .i64 t2.m.e)∧u.cell? ⟨Q,z,none⟩=some lv
theorem zQ.mk {u:World} {b1 b2 Q z:Nat} {t1 t2:T} {lv:Value} (h1:C5 u b1 t1) (h2:C5 u b2 t2) (h3:u.cell? ⟨Q,z,none⟩=some lv):zQ u b1 b2 Q z t1 t2 lv:=⟨h1.1,h1.2.1,h1.2.2.1,h1.2.2.2.1,h1.2.2.2.2,h2.1,h2.2.1,h2.2.2.1,h2.2.2.2.1,h2.2.2.2.2,h3⟩
theorem zQ.below {u u':World} {b1 b2 Q z:Nat} {t1 t2:T} {lv:Value} (h:zQ u b1 b2 Q z t1 t2 lv) (hb:Below u.heap.size u u'):zQ u' b1 b2 Q z t1 t2 lv:=by
 obtain⟨a0,a1,a2,a3,a4,c0,c1,c2,c3,c4,d0⟩:=h;have l1:=cU u _ a0
 have l2:=cU u _ c0;have l3:=cU u _ d0
 exact⟨(hb.cell (p:=⟨b1,0,none⟩) l1).trans a0,(hb.cell (p:=⟨b1,1,none⟩) l1).trans a1,(hb.cell (p:=⟨b1,2,none⟩) l1).trans a2,(hb.cell (p:=⟨b1,3,none⟩) l1).trans a3,(hb.cell (p:=⟨b1,4,none⟩) l1).trans a4,(hb.cell (p:=⟨b2,0,none⟩) l2).trans c0,(hb.cell (p:=⟨b2,1,none⟩) l2).trans c1,(hb.cell (p:=⟨b2,2,none⟩) l2).trans c2,(hb.cell (p:=⟨b2,3,none⟩) l2).trans c3,(hb.cell (p:=⟨b2,4,none⟩) l2).trans c4,(hb.cell (p:=⟨Q,z,none⟩) l3).trans d0⟩
theorem zQ.fr {P:Nat→Prop} {u u':World} {b1 b2 Q z:Nat} {t1 t2:T} {lv:Value} (h:zQ u b1 b2 Q z t1 t2 lv) (hf:Fr P u u') (h1:¬P b1) (h2:¬P b2) (h3:u'.cell? ⟨Q,z,none⟩=some lv):zQ u' b1 b2 Q z t1 t2 lv:=by
 obtain⟨a0,a1,a2,a3,a4,c0,c1,c2,c3,c4,d0⟩:=h;have l1:=cU u _ a0
 have l2:=cU u _ c0;exact⟨(hf.cell l1 h1).trans a0,(hf.cell l1 h1).trans a1,(hf.cell l1 h1).trans a2,(hf.cell l1 h1).trans a3,(hf.cell l1 h1).trans a4,(hf.cell l2 h2).trans c0,(hf.cell l2 h2).trans c1,(hf.cell l2 h2).trans c2,(hf.cell l2 h2).trans c3,(hf.cell l2 h2).trans c4,h3⟩
theorem zQ.c5 {u:World} {b1 b2 Q z:Nat} {t1 t2:T} {lv:Value} (h:zQ u b1 b2 Q z t1 t2 lv):C5 u b2 t2:=⟨h.2.2.2.2.2.1,h.2.2.2.2.2.2.1,h.2.2.2.2.2.2.2.1,h.2.2.2.2.2.2.2.2.1,h.2.2.2.2.2.2.2.2.2.1⟩
theorem TW {w w':World} {row:Option Nat} (hg:w.grownBy w' row) {b o:Nat} (hb:b<w.heap.size) (hne:¬row=some b):w'.cell? ⟨b,o,none⟩=w.cell? ⟨b,o,none⟩:=lH (w:=w) (a:=⟨b,o,none⟩) (hg.block b hb (fun e=>hne e.symm))
theorem KZ {w w':World} {row:Option Nat} (hg:w.grownBy w' row) {b o:Nat} (hb:b<w.heap.size) (hne:¬row=some b):w'.frozen? ⟨b,o,none⟩=w.frozen? ⟨b,o,none⟩:=World.frozen?_of_block (w:=w) (a:=⟨b,o,none⟩) (hg.block b hb (fun e=>hne e.symm))
theorem QU (kf:Nat→T) (m:Nat):(List.range (m+1)).map kf=(List.range m).map kf++[kf m]:=by simp[List.range_succ]
theorem XL (kf:Nat→T) {m i:Nat} (h:i<m):lf ((List.range m).map kf) i=kf i:=by rw[iA (by simpa using h)];simp
theorem pD.lead {w w':World} {lo Q z:Nat} {lv lv':Value} {m:Nat} {kf:Nat→T} {B:Nat→Nat} {a e:Nat} (h:pD w lo Q z lv m kf B a e) {row:Option Nat} (hg:w.grownBy w' row) (hr:row=lv.ownBlock) (ho:w'.ownsRow lo 47 5 lv' ((List.range (m+1)).map kf).length (aF ((List.range (m+1)).map kf))) (hl:∀g,lv'.ownBlock=some g→lv.ownBlock=some g∨g=w.heap.size):pD (w'.setCell ⟨Q,z,none⟩ lv') lo Q z lv' (m+1) kf B a e:=by
 have f1:Fr (fun k=>lv.ownBlock=some k) w w':=(Fr.refl _ w).grown hg (fun g e _=>by rw[hr]at e;exact e);have f2:Fr (fun k=>k=Q) w' (w'.setCell ⟨Q,z,none⟩ lv'):=(Fr.refl _ w').set (fun _=>rfl)
 have nQ:¬lv.ownBlock=some Q:=fun e=>h.ap Q e rfl;have hlt:Q<w.heap.size:=h.lt
 have ap':∀g,lv'.ownBlock=some g→g≠Q:=fun g hg'=>by
  rcases hl g hg' with q|q
  ·exact h.ap g q
  ·omega
 refine⟨iY ((f1.cell h.lt nQ).trans h.cl),?_,?_,?_,f2.owns ho (fun g hg' q=>ap' g hg' q),ap',?_,?_,h.inj,h.hQ⟩
 ·rw[aZ (ES (by omega))];exact(f1.cell h.lt nQ).trans h.cf
 ·obtain⟨v,c1,c2⟩:=h.ct;exact⟨v,by rw[aZ (ES (by omega))];exact(f1.cell h.lt nQ).trans c1,c2⟩
 ·simp only[World.frozen?_setCell];exact⟨(f1.frozen h.lt nQ).trans h.fz.1,(f1.frozen h.lt nQ).trans h.fz.2.1,(f1.frozen h.lt nQ).trans h.fz.2.2⟩
 ·exact fun j j1 j2=>((h.pr j j1 j2).fr f1 (h.bk j j1 j2).2.2).fr f2 (h.bk j j1 j2).2.1
 ·intro j j1 j2;refine⟨(h.bk j j1 j2).1,(h.bk j j1 j2).2.1,fun q=>?_⟩;rcases hl _ q with q'|q'
  ·exact(h.bk j j1 j2).2.2 q'
  ·have:=(h.pr j j1 j2).lt;omega
theorem ZB (w:World) (lo Q z:Nat) (lv:Value) (m:Nat) (kf:Nat→T) (B:Nat→Nat) (a:Nat) (h:pD w lo Q z lv m kf B a (cZ m)) (ha:a≤cZ m) (hm:m≤12) (hlo:lo≤w.heap.size) (t:T) (ht:kf m=t):Calls Tryz.prog 48 #[.pointer (some ⟨Q,z,none⟩),.agg #[.int .i64 t.c,.int .i64 t.m.x,.int .i64 t.m.y,.int .i64 t.m.d,.int .i64 t.m.e]] w fun r w'=>r= .returned (.tuple #[])∧∃lv' B',pD w' lo Q z lv' (m+1) kf B' a (cZ (m+1))∧(∀j,j<cZ m→B' j=B j)∧(∀j,cZ m≤j→j<cZ (m+1)→w.heap.size≤B' j)∧(∀g,lv'.ownBlock=some g→lv.ownBlock=some g∨w.heap.size≤g)∧Fr (QS Q lv B a (cZ m)) w w':=by
 obtain⟨i0,hi0,hz0,hz1,hz2⟩:=info_parts yP;have bo:=aC w (.cells #[.int .i64 t.c,.int .i64 t.m.x,.int .i64 t.m.y,.int .i64 t.m.d,.int .i64 t.m.e] 47)
 have HQ0:=aA (h.below bo);have HF0:Hid (Fr (QS Q lv B a (cZ m)) w (w.alloc (.cells #[.int .i64 t.c,.int .i64 t.m.x,.int .i64 t.m.y,.int .i64 t.m.d,.int .i64 t.m.e] 47))):=eH bo
 have HL0:=aA (C5.box w 47 t);have hQw:Q<w.heap.size:=h.lt
 have hlen:((List.range m).map kf).length=m:=by simp
 obtain⟨la,lc,hlv,hout⟩:=aH h.own (by rw[hlen];omega);rw[hlen]at hlv;subst hlv;have hgw:∀g,(Value.slice la m lc).ownBlock=some g→g<w.heap.size:=fun g hg=>(h.own.lt g hg).2
 have hBw:∀j,a≤j→j<cZ m→B j<w.heap.size:=fun j j1 j2=>(h.pr j j1 j2).lt;have HGW:=aA hgw
 have HBW:=aA hBw;have hml:(m:Int)≤12:=by omega
 have c0:=(h.below bo).cl;clear h hout hgw hBw;go_enter Tryz.func48,Tryz.ntmps48;go_wp2;clear c0 bo;generalize hw0:w.alloc (.cells #[.int .i64 t.c,.int .i64 t.m.x,.int .i64 t.m.y,.int .i64 t.m.d,.int .i64 t.m.e] 47)=w0 at *;have hs0:w.heap.size≤w0.heap.size:=HF0.out.size
 clear hw0;go_loopw [11] (fun v wr=>∃(i:Nat) (Bi:Nat→Nat),i≤m∧v= .int .i64 (i:Int)∧pD wr lo Q z (.slice la m lc) m kf Bi a (cZ m+i)∧(∀j,j<cZ m→Bi j=B j)∧(∀j,cZ m≤j→j<cZ m+i→w.heap.size<Bi j)∧Fr (QS Q (.slice la m lc) B a (cZ m)) w wr∧C5 wr w.heap.size t) (fun v _=>m-(intOf v).toNat);case atStart=>exact⟨0,B,gL _,rfl,HQ0.out,fun _ _=>rfl,fun j j1 j2=>by omega,HF0.out,HL0.out⟩
 case round=>
  obtain⟨i,Bi,hi,rfl,hQ,hB1,hB2,hF,hL⟩:=hrel;have HB1:=aA hB1
  have HB2:=aA hB2;have HF:=aA hF
  have HQ:=aA hQ;have HLD:=aA hL
  have hsr:w.heap.size≤wr.heap.size:=hF.size;clear hB1 hB2;by_cases hlt:i<m
  ·have hil:(i:Int)<(m:Int):=by omega
   obtain⟨la2,lc2,hlv2,hout2⟩:=aH hQ.own (by rw[hlen];omega);rw[hlen]at hlv2;obtain⟨rfl,rfl⟩:la=la2∧lc=lc2:=by injection hlv2 with e1 e2 e3;exact⟨e1,e3⟩
   rcases hout2.1.2.2 with h0|⟨bb,off,rfl,hblt,hcl⟩
   ·omega
   obtain⟨g0,g1,g2,g3,g4⟩:=hcl i (by rw[hlen];exact hlt);rw[XL kf hlt]at g0 g1 g2 g3 g4;obtain⟨t1,ht1⟩:∃t1,kf i=t1:=⟨_,rfl⟩
   rw[ht1]at g0 g1 g2 g3 g4;have be:=aC wr (.cells #[.int .i64 t1.c,.int .i64 t1.m.x,.int .i64 t1.m.y,.int .i64 t1.m.d,.int .i64 t1.m.e] 47)
   have HS0:=aA ((zQ.mk (C5.box wr 47 t1) (hL.below be) (hQ.below be).cl).below (cE _ _).drew);have hpr:wV kf (cZ m+i)=⟨gH t1 (M.both t1.m t.m),gH t (M.both t1.m t.m),i,m⟩:=by unfold wV;rw[nK m i hlt,ht1,ht]
   have HPR:=aA hpr;have HC:=fun(W:World)=>YB W t1 t
   generalize gH t1 (M.both t1.m t.m)=u at HC HPR;generalize gH t (M.both t1.m t.m)=v at HC HPR;have HQd:=aA ((hQ.below be).below (cE _ _).drew)
   have HFd:=aA ((hF.next be).next (cE _ _).drew);have HLd:=aA ((hL.below be).below (cE _ _).drew)
   have hsd:w.heap.size≤(wr.alloc (.cells #[.int .i64 t1.c,.int .i64 t1.m.x,.int .i64 t1.m.y,.int .i64 t1.m.d,.int .i64 t1.m.e] 47)).drew.heap.size:=HFd.out.size;have hBd:∀j,a≤j→j<cZ m+i→Bi j<wr.heap.size:=fun j j1 j2=>(hQ.pr j j1 j2).lt
   have HBD:=aA hBd;have hlg:∀g,(Value.slice (some ⟨bb,off,none⟩) m lc).ownBlock=some g→g<wr.heap.size:=fun g hg=>(hQ.own.lt g hg).2
   have HLG:=aA hlg;clear hcl hout2 hlv2 hQ hF hL be hpr hBd hlg;go_wp2_with fail;clear g0 g1 g2 g3 g4;have hS:=HS0.out
   go_region_held3 (fun u=>zQ u wr.heap.size w.heap.size Q z t1 t (.slice (some ⟨bb,off,none⟩) m lc)) (first|with_reducible exact hS|with_reducible exact zQ.below hS b5|with_reducible exact zQ.below (zQ.below hS b5) (aC _ _)|with_reducible exact hS8) (first|(go_at_call 94;refine(HC _).mono ?_;rintro e w5 ⟨rfl,b5⟩)|(go_at_call 93;have hP:jL (w5.alloc (.cells #[.int .i64 u.c,.int .i64 u.m.x,.int .i64 u.m.y,.int .i64 u.m.d,.int .i64 u.m.e,.int .i64 v.c,.int .i64 v.m.x,.int .i64 v.m.y,.int .i64 v.m.d,.int .i64 v.m.e,.int .i64 (i:Int),.int .i64 (m:Int),.pointer none] 128)) w5.heap.size (wV kf (cZ m+i)) none:=(by rw[HPR.out];exact jL.box w5 128 ⟨u,v,i,m⟩ none);have hsz5:=b5.size;refine(ZZ _ lo Q z _ m kf Bi a (cZ m+i) ((HQd.out.below b5).below (aC _ _)) (by omega) _ hP (by simp at hsz5;omega) (by simp at hsz5;omega) (fun q=>by have:=HLG.out _ q;simp at hsz5;omega) (fun j j1 j2=>by have:=HBD.out j j1 j2;simp at hsz5;omega)).mono ?_;rintro e w8 ⟨rfl,hq8,hf8⟩;have hS8:zQ w8 wr.heap.size w.heap.size Q z t1 t (.slice (some ⟨bb,off,none⟩) m lc):=zQ.fr (zQ.below (zQ.below hS b5) (aC _ _)) hf8 (fun q=>by rcases q with q|⟨q1,q2⟩;(· omega);(· have:=HBD.out (cZ m+i-1) (by omega) (by omega);omega)) (fun q=>by rcases q with q|⟨q1,q2⟩;(· omega);(· rcases Nat.lt_or_ge (cZ m+i-1) (cZ m)with k|k;(· have:=HB1.out _ k;have:=HBW.out (cZ m+i-1) (by omega) k;omega);(· have:=HB2.out _ k (by omega);omega))) hq8.cl))
   have hL8:C5 w8 w.heap.size t:=hS8.c5
   have hF8:Fr (QS Q (.slice (some ⟨bb,off,none⟩) m lc) B a (cZ m)) w w8:=((HFd.out.next b5).next (aC _ _)).step hf8 (fun k hk q=>by
    rcases q with q|⟨q1,q2⟩
    ·exact .inl q
    ·rcases Nat.lt_or_ge (cZ m+i-1) (cZ m)with k'|k'
     ·by_cases e0:i=0
      ·subst e0;exact .inr (.inr ⟨by omega,by rw[q2];exact HB1.out _ k'⟩)
      ·omega
     ·have:=HB2.out _ k' (by omega)
      omega)
   have hs5:w.heap.size<w5.heap.size:=by have:=b5.size;simp at this;omega
   have HQ8:=aA hq8;have HL8:=aA hL8
   have HF8:=aA hF8;clear hS hS8 hq8 hf8 hL8 hF8 b5 HC hP hsz5;go_wp2;go_roundw
   case rel=>exact⟨i+1,EP Bi (cZ m+i) w5.heap.size,by omega,by go_num,HQ8.out,fun j hj=>by
    unfold EP;rw[if_neg (by omega)];exact HB1.out j hj,fun j j1 j2=>by
    unfold EP;split
    ·exact hs5
    ·exact HB2.out j j1 (by omega),HF8.out,HL8.out⟩
   case measure=>simp[intOf];omega
  ·have hie:i=m:=by omega
   subst hie;have hnl:¬(i:Int)<(i:Int):=by omega
   have bd:Below wr.heap.size wr wr.drew:=(cE _ _).drew;have ba:=aC wr.drew (.cells #[.int .i64 t.c,.int .i64 t.m.x,.int .i64 t.m.y,.int .i64 t.m.d,.int .i64 t.m.e] 47)
   have hQa:=(hQ.below bd).below ba;have c0:=hQ.cl
   have z0:=hQ.fz.1;obtain⟨l0,l1,l2,l3,l4⟩:=hL;have hOa:((wr.drew).alloc (.cells #[.int .i64 t.c,.int .i64 t.m.x,.int .i64 t.m.y,.int .i64 t.m.d,.int .i64 t.m.e] 47)).ownsRow lo 47 5 (.slice la i lc) i (aF ((List.range i).map kf)):=by
    have:=hQa.own
    rwa[hlen]at this
   have hnQ:¬(Value.slice la i lc).ownBlock=some Q:=fun q=>hQ.ap Q q rfl;have hQr:Q<wr.heap.size:=hQ.lt
   have hnew:=heap_alloc_new wr.drew (.cells #[.int .i64 t.c,.int .i64 t.m.x,.int .i64 t.m.y,.int .i64 t.m.d,.int .i64 t.m.e] 47);have HQa:=aA hQa
   have HFa:=aA ((HF.out.next bd).next ba);have HOA:=aA hOa
   have HNE:=aA hnew;have hlor:lo≤wr.heap.size:=jW hlo hsr
   have cA:=hQa.cl;have zA:=hQa.fz.1
   have HCA:=aA cA;have HZA:=aA zA
   clear hQ hF hQa hOa hnew bd ba cA zA;go_wp2_with fail
   go_region_law (refine step_append_lies _ (by rfl) (.tmp 34) (.tmp 36) 24 (by rfl) lo 47 i0 _ 5 40 Tryz.underlying24 hi0 hz0 hz1 hz2 rfl (by omega) _ i (aF ((List.range i).map kf)) (by rfl) HOA.out ⟨wr.heap.size,0,none⟩ 1 1 (aF [t]) (by rfl) (by rw[aU];rfl) (by rw[dG];exact World.news_of_block HNE.out) (dN _) (by omega) (by unfold maxLen;omega) (by omega) (by simp;omega) _ rfl ?_;intro g0 cap0 w9 hown hgrow hat hlt9;have c9:=(TW (b:=Q) (o:=z) hgrow (by simp;omega) hnQ).trans HCA.out;have z9:=(KZ (b:=Q) (o:=z) hgrow (by simp;omega) hnQ).trans HZA.out)
   all_goals(
    clear c9 z9 l0 l1 l2 l3 l4 c0 z0;have HOWN:=aA hown
    have HGR:=aA hgrow;have HAT:=aA hat
    clear hown hgrow hat hlt9;go_wp2
    go_end0
    have hl':∀g,(Value.slice (some ⟨g0,0,none⟩) (i+1) cap0).ownBlock=some g→(Value.slice la i lc).ownBlock=some g∨g=wr.heap.size+1:=fun g hg=>by
     have e:g0=g:=by simpa[Value.ownBlock]using hg
     subst e;exact HAT.out.imp id (fun q=>by rw[q];simp)
    have ho:w9.ownsRow lo 47 5 (.slice (some ⟨g0,0,none⟩) (i+1) cap0) ((List.range (i+1)).map kf).length (aF ((List.range (i+1)).map kf)):=by have h:=HOWN.out;rw[←ht,←bF,←QU]at h;rw[show((List.range (i+1)).map kf).length=i+1 by simp];exact h
    refine⟨rfl,.slice (some ⟨g0,0,none⟩) (i+1) cap0,Bi,HQa.out.lead HGR.out rfl ho (fun g hg=>by simpa using hl' g hg),HB1.out,fun j j1 j2=>Nat.le_of_lt (HB2.out j j1 j2),fun g hg=>(hl' g hg).imp id (fun q=>by omega),?_⟩
    exact(HFa.out.grown HGR.out (fun g e hk=>.inr (.inl e))).set (fun _=>.inl rfl))
def iG (R q X:List T):Option (List T):=match bY (lf q) (lf X) X.length q.length with
 |some P=>if(cQ R P).length≤400 then some (cQ R P)else none
 |none=>none
def fF (R:Nat→List T) (j:Nat) (Y:List T) (i:Nat):List T:=if i=j then Y else R i
def dF (row:Nat→List T) (q:List T) (oth:Nat→List T):Nat→Option (Nat→List T)
 |0=>some (fun _=>[])
 |j+1=>match dF row q oth j with
  |none=>none
  |some R=>match iG (row j) q (oth j)with
   |none=>none
   |some Y=>some (fF R j Y)
theorem nC {row:Nat→List T} {q:List T} {oth:Nat→List T} {j:Nat} (h:dF row q oth j=none):∀d,dF row q oth (j+d)=none
 |0=>h
 |d+1=>by show(match dF row q oth (j+d)with|none=>none|some R=>match iG (row (j+d)) q (oth (j+d))with|none=>none|some Y=>some (fF R (j+d) Y))=none;rw[nC h d]
theorem pJ {row:Nat→List T} {q:List T} {oth:Nat→List T} {j g:Nat} {R:Nat→List T} (hj:j<g) (h:dF row q oth j=some R) (he:iG (row j) q (oth j)=none):dF row q oth g=none:=by
 have h1:dF row q oth (j+1)=none:=by
  show(match dF row q oth j with|none=>none|some R=>match iG (row j) q (oth j)with|none=>none|some Y=>some (fF R j Y))=none;rw[h];show(match iG (row j) q (oth j)with|none=>none|some Y=>some (fF R j Y))=none
  rw[he]
 have:=nC h1 (g-(j+1))
 rwa[show j+1+(g-(j+1))=g by omega]at this
theorem qQ {row:Nat→List T} {q:List T} {oth:Nat→List T} {j:Nat} {R:Nat→List T} {Y:List T} (h:dF row q oth j=some R) (he:iG (row j) q (oth j)=some Y):dF row q oth (j+1)=some (fF R j Y):=by
 show(match dF row q oth j with|none=>none|some R=>match iG (row j) q (oth j)with|none=>none|some Y=>some (fF R j Y))=_;rw[h];show(match iG (row j) q (oth j)with|none=>none|some Y=>some (fF R j Y))=_
 rw[he]
theorem OX {R q X Y:List T} (hR:cT R=true) (hq:cT q=true) (hX:cT X=true) (h:iG R q X=some Y):cT Y=true:=by
 unfold iG at h;split at h
 ·rename_i P hP;split at h
  ·rename_i hl;cases h;exact gJ hl (cJ (aE hR).2 (dA (bV hq).2 (bV hX).2 _ P (Nat.le_refl _) hP)).1
  ·cases h
 ·cases h
theorem mK {row:Nat→List T} {q:List T} {oth:Nat→List T} {g:Nat} (hrow:∀i,i<g→cT (row i)=true) (hq:cT q=true) (ho:∀i,i<g→cT (oth i)=true):∀j R,j≤g→dF row q oth j=some R→∀i,i<j→cT (R i)=true
 |0,R,_,_,i,hi=>by omega
 |j+1,R,hj,h,i,hi=>by
  cases hr:dF row q oth j with
  |none=>have:=nC hr 1;rw[this]at h;cases h
  |some R1=>
   cases he:iG (row j) q (oth j)with
   |none=>have:=pJ (g:=j+1) (by omega) hr he;rw[this]at h;cases h
   |some Y=>
    rw[qQ hr he]at h;cases h;unfold fF;split
    ·exact OX (hrow j (by omega)) hq (ho j (by omega)) he
    ·exact mK hrow hq ho j R1 (by omega) hr i (by omega)
def iI (g:Nat) (P:Nat→Nat→List T) (qs:Nat→List T) (row:Option (Nat→List T)):Nat→Option (Nat→List T)
 |0=>row
 |t+1=>match iI g P qs row t with
  |none=>none
  |some R=>dF R (qs t) (P t) g
def jV (u:T):T:=⟨101-u.c,u.m⟩
def gP (g:Nat) (P:Nat→Nat→List T) (i k:Nat) (u v:T):Option (Nat→List T):=match dF (fun _=>[]) [jV u] (P i) g with
 |none=>none
 |some R=>dF R [v] (P k) g
def oD (g:Nat) (P:Nat→Nat→List T) (i k:Nat) (u v:T) (nq:Nat) (qs:Nat→List T):Option (Nat→List T):=iI g P qs (gP g P i k u v) nq
theorem iO {g:Nat} {P:Nat→Nat→List T} {qs:Nat→List T} {row:Option (Nat→List T)} {t:Nat} (h:iI g P qs row t=none):∀d,iI g P qs row (t+d)=none
 |0=>h
 |d+1=>by show(match iI g P qs row (t+d)with|none=>none|some R=>dF R (qs (t+d)) (P (t+d)) g)=none;rw[iO h d]
structure Bs where
 m:Nat
 L:Nat→List T
 P:Nat→Nat→List T
def sP (P:Nat→Nat→List T) (m:Nat) (R:Nat→List T) (i:Nat):Nat→List T:=if i=m then R else P i
def SV (B:Bs) (r:List T) (R:Nat→List T):Bs:=⟨B.m+1,fF B.L B.m r,sP B.P B.m R⟩
abbrev RN (o:Int) (A C:List T):T:=fC o A.length (lf A) C.length (lf C)
abbrev SP (o:Int) (A C:List T):T:=fD o A.length (lf A) C.length (lf C)
abbrev RM (o:Int) (A C:List T):List T×Bool:=dC o (lf A) A.length (lf C) C.length
def fV (o:Int) (g:Nat) (B:Bs) (i k:Nat):Option Bs:=
 match RM o (B.L i) (B.L k)with
 |(s,true)=>(match aP o s B.m (lN B.L) (fN B.L)with
  |some S=>if S.r.length=0 then some B else if B.m=12 then none else(match oD g B.P i k (RN o (B.L i) (B.L k)) (SP o (B.L i) (B.L k)) B.m S.q with
   |some R=>some (SV B S.r R)
   |none=>none)
  |none=>none)
 |(_,false)=>none
def pW (o:Int) (g:Nat):Nat→Bs→Nat→Bs×Bool
 |0,B,j=>(B,decide (cZ B.m≤j))
 |f+1,B,j=>if j<cZ B.m then(match fV o g B (pq j).1 (pq j).2 with
  |none=>(B,false)
  |some B'=>pW o g f B' (j+1))else(B,true)
def nI (k i:Nat):List T:=if i=k then[⟨1,⟨0,0,0,0⟩⟩]else[]
def OK (n:Nat) (L:Nat→List T):Bs:=⟨n,L,fun k=>nI k⟩
def lL (o:Int) (n:Nat) (L:Nat→List T) (fuel:Int):Bs×Bool:=
 if(1≤o∧o≤3)∧aW n (lN L) (fN L)=true∧(1≤n∧n≤3)∧(0≤fuel∧fuel≤60)then pW o n fuel.toNat (OK n L) 0 else(⟨0,fun _=>[],fun _ _=>[]⟩,false)
structure ET (o:Int) (g:Nat) (B:Bs):Prop where
 ho:1≤o∧o≤3
 l:aW B.m (lN B.L) (fN B.L)=true
 p:∀i,i<B.m→∀j,j<g→cT (B.P i j)=true
theorem UX:cT [(⟨1,⟨0,0,0,0⟩⟩:T)]=true:=by decide
theorem IF {o:Int} {n:Nat} {L:Nat→List T} (ho:1≤o∧o≤3) (hl:aW n (lN L) (fN L)=true):ET o n (OK n L):=⟨ho,hl,fun i _ j _=>by
 show cT (nI i j)=true;unfold nI;split
 ·exact UX
 ·exact pM⟩
theorem FR {a:Int} (h1:1≤a) (h2:a≤100):1≤101-a∧101-a≤100:=by omega
theorem tT {o:Int} {A C:List T} {s:List T} (h:RM o A C=(s,true)):(cT [RN o A C]=true∧cT [jV (RN o A C)]=true∧cT [SP o A C]=true)∧((RN o A C).m.ok=true∧1≤(RN o A C).c∧(RN o A C).c≤100)∧((SP o A C).m.ok=true∧1≤(SP o A C).c∧(SP o A C).c≤100):=by
 have hs:eZ o A.length (lf A) C.length (lf C)=true:=by
  unfold RM dC at h;split at h
  ·assumption
  ·cases h
 obtain⟨h1,h2⟩:=sM hs;have g1:=FR h1.2.1 h1.2.2
 exact⟨⟨jR h1,jR ⟨h1.1,g1.1,g1.2⟩,jR h2⟩,h1,h2⟩
theorem vE {g:Nat} {P:Nat→Nat→List T} {i k m:Nat} {u v:T} {qs:Nat→List T} (hi:i<m) (hk:k<m) (hP:∀i,i<m→∀j,j<g→cT (P i j)=true) (hu:cT [jV u]=true) (hv:cT [v]=true) (hq:∀t,t<m→cT (qs t)=true):∀t R,t≤m→iI g P qs (gP g P i k u v) t=some R→∀j,j<g→cT (R j)=true
 |0,R,_,h=>by
  change gP g P i k u v=some R at h;unfold gP at h;split at h
  ·cases h
  ·rename_i R1 h1;exact mK (mK (fun _ _=>pM) hu (hP i hi) g R1 (Nat.le_refl _) h1) hv (hP k hk) g R (Nat.le_refl _) h
 |t+1,R,ht,h=>by
  cases hr:iI g P qs (gP g P i k u v) t with
  |none=>have:=iO hr 1;rw[this]at h;cases h
  |some R1=>
   have h':dF R1 (qs t) (P t) g=some R:=by
    have:iI g P qs (gP g P i k u v) (t+1)=dF R1 (qs t) (P t) g:=by show(match iI g P qs (gP g P i k u v) t with|none=>none|some R=>dF R (qs t) (P t) g)=_;rw[hr]
    rw[←this];exact h
   exact mK (vE hi hk hP hu hv hq t R1 (by omega) hr) (hq t (by omega)) (hP t (by omega)) g R (Nat.le_refl _) h'
theorem LP {m:Nat} {L:Nat→List T} (hl:aW m (lN L) (fN L)=true) (hm:m≠12) {r:List T} (hr:cT r=true) (h0:r.length≠0):aW (m+1) (lN (fF L m r)) (fN (fF L m r))=true:=by
 have h:=aT hl;refine decide_eq_true ⟨by omega,fun i hi=>?_⟩;show(fF L m r i).length≠0∧cT (fF L m r i)=true
 unfold fF;split
 ·exact⟨h0,hr⟩
 ·exact h.2 i (by omega)
theorem xG {o:Int} {g:Nat} {B B':Bs} {i k:Nat} (h:ET o g B) (hi:i<B.m) (hk:k<B.m) (hs:fV o g B i k=some B'):ET o g B':=by
 unfold fV at hs;split at hs
 ·rename_i s hsp;split at hs
  ·rename_i S hS;split at hs
   ·cases hs;exact h
   ·rename_i h0;split at hs
    ·cases hs
    ·rename_i h12;split at hs
     ·rename_i R hR;cases hs;obtain⟨d1,d2⟩:=dT hS;obtain⟨⟨_,g2,g3⟩,_⟩:=tT hsp;refine⟨h.ho,LP h.l h12 (gJ (by have:=d1.r.2;omega) d1.r.1) h0,fun a ha j hj=>?_⟩;show cT (sP B.P B.m R a j)=true
      unfold sP;split
      ·exact vE hi hk h.p g2 g3 (fun t _=>gJ (by have:=(d1.q t).2;omega) (d1.q t).1) B.m R (Nat.le_refl _) hR j hj
      ·have ha':a<B.m+1:=ha;exact h.p a (by omega) j hj
     ·cases hs
  ·cases hs
 ·cases hs
theorem VN {o:Int} {g:Nat} {B B':Bs} {i k:Nat} (hs:fV o g B i k=some B'):B.m≤B'.m:=by
 unfold fV at hs;split at hs
 ·split at hs
  ·split at hs
   ·cases hs;exact Nat.le_refl _
   ·split at hs
    ·cases hs
    ·split at hs
     ·cases hs;exact Nat.le_succ _
     ·cases hs
  ·cases hs
 ·cases hs
theorem AC:(Tryz.prog.info? 24).map (fun i=>(i.zero,i.size,i.bytes))=some (some (.slice none 0 0),1,24):=by kernel_rfl
theorem jS (a:Option Addr) (n c:Nat):∀u∈[Value.slice a n c],u.oneCell'=true:=fun u hu=>by
 have:u= .slice a n c:=by simpa using hu
 subst this;rfl
theorem nX.congr {lo:Nat} {w:World} {q q':Nat→List T} {j:Nat} {tv:Value} {ad:Nat→Option Addr} {cp B:Nat→Nat} (h:nX lo w q j tv ad cp B) (he:∀i,i<j→q i=q' i):nX lo w q' j tv ad cp B where
 row:=by
  have e:BH ad (fun i=>(q i).length) cp j=BH ad (fun i=>(q' i).length) cp j:=by
   unfold BH;refine List.map_congr_left (fun i hi=>?_);show Value.slice (ad i) (q i).length (cp i)=Value.slice (ad i) (q' i).length (cp i)
   rw[he i (List.mem_range.1 hi)]
  rw[←e];exact h.row
 el:=fun i hi=>by rw[←he i hi];exact h.el i hi
 ap:=fun i k h1 h2=>by rw[←he i (by omega),←he k h2];exact h.ap i k h1 h2
 lo:=h.lo
theorem nX.empty (w:World) (q:Nat→List T):nX w.heap.size (w.alloc (.cells #[] 24)) q 0 (.slice (some ⟨w.heap.size,0,none⟩) 0 0) (fun _=>none) (fun _=>0) (fun _=>0):=
 ⟨⟨rfl,.inr ⟨w.heap.size,0,#[],rfl,Nat.le_refl _,heap_alloc_new w (.cells #[] 24),Nat.le_refl _,gL _,rfl,rfl⟩⟩,fun i hi=>by omega,fun i k _ hk=>by omega,by simp⟩
theorem nX.more {lo:Nat} {w0 w1 w5:World} {q:Nat→List T} {j:Nat} {tv:Value} {ad:Nat→Option Addr} {cp B:Nat→Nat} (h0:nX lo w0 q j tv ad cp B) (h:nX lo w1 q j tv ad cp B) {a:Option Addr} {c:Nat} (ho:lI w0.heap.size w1 a c (q j)) {g0 cap0:Nat} (hgrow:(w1.alloc (.cells #[.slice a (q j).length c] 24)).grownBy w5 tv.ownBlock) (hown:w5.ownsRow lo 24 1 (.slice (some ⟨g0,0,none⟩) (j+1) cap0) (j+1) (BH ad (fun i=>(q i).length) cp j++[.slice a (q j).length c])) (hat:tv.ownBlock=some g0∨g0=(w1.alloc (.cells #[.slice a (q j).length c] 24)).heap.size) (hlt:g0<w5.heap.size):∃ad' cp' B',nX lo w5 q (j+1) (.slice (some ⟨g0,0,none⟩) (j+1) cap0) ad' cp' B':=
 ⟨_,_,_,h.round (m:=w0.heap.size) (fun i hi h1=>by
  rcases(h0.el i hi).2.2 with hz|⟨_,_,_,h3,_⟩
  ·exact absurd hz h1
  ·exact h3) (fun k hk=>(h0.row.lt k hk).2) h0.lo ho hgrow hown (hat.imp id (fun e=>e.trans (by simp))) hlt⟩
def pX (k:Int) (i:Nat):List T:=if(i:Int)=k then[⟨1,⟨0,0,0,0⟩⟩]else[]
def YV (w:World) (n:Nat) (q:Nat→List T) (r:Ending) (w':World):Prop:=∃ra rc ad cp Rb B,r= .returned (.slice ra n rc)∧Below w.heap.size w w'∧jK w.heap.size w' ra n rc ad (fun i=>(q i).length) cp (fun i=>lf (q i)) Rb B
theorem FI (w:World) (n:Nat) (k:Int) (hn:n≤12):Calls Tryz.prog 124 #[.int .i64 (n:Int),.int .i64 k] w (YV w n (pX k)):=by
 obtain⟨i0,hi0,hz0,hz1,hz2⟩:=info_parts AC;have hnl:(n:Int)≤12:=by omega
 have HQ0:=aA (nX.empty w (pX k));have HB0:=aA (aC w (.cells #[] 24))
 go_enter Tryz.func124,Tryz.ntmps124;go_wp2;go_loopw [5,6] (fun tv ii wr=>∃(j:Nat) (ad:Nat→Option Addr) (cp B:Nat→Nat),j≤n∧ii= .int .i64 (j:Int)∧Below w.heap.size w wr∧nX w.heap.size wr (pX k) j tv ad cp B) (fun _ ii _=>n-(intOf ii).toNat);case atStart=>exact⟨0,_,_,_,gL _,rfl,HB0.out,HQ0.out⟩
 case round=>
  obtain⟨j,ad,cp,B,hj,rfl,hB,hA⟩:=hrel;have HB:=aA hB
  have HA:=aA hA;by_cases hlt:j<n
  ·have hjl:(j:Int)<(n:Int):=by omega
   have hmax:j+1≤maxLen:=by unfold maxLen;omega
   by_cases hjk:(j:Int)=k
   ·have hjb:((j:Int)==k)=true:=by simpa using hjk
    have hq:pX k j=[⟨1,⟨0,0,0,0⟩⟩]:=if_pos hjk;have b1:=aC wr (.cells #[.int .i64 1,.int .i64 0,.int .i64 0,.int .i64 0,.int .i64 0] 47)
    have hA1:=hA.below b1;have hO1:lI wr.heap.size (wr.alloc (.cells #[.int .i64 1,.int .i64 0,.int .i64 0,.int .i64 0,.int .i64 0] 47)) (some ⟨wr.heap.size,0,none⟩) 1 (pX k j):=by
     rw[hq];have:=World.ownsRow_lit (base:=wr.heap.size) (e:=47) (size:=5) wr #[.int .i64 1,.int .i64 0,.int .i64 0,.int .i64 0,.int .i64 0] 1 (Nat.le_refl _) (by unfold maxLen;omega) rfl
     obtain⟨a',c',e,ho⟩:=aH (L:=[⟨1,⟨0,0,0,0⟩⟩]) this (by simp);cases e;exact ho
    have hB1:=aB hB b1;have HRND:Hid (∀(g0 cap0:Nat) (w5:World),w5.ownsRow w.heap.size 24 1 (.slice (some ⟨g0,0,none⟩) (j+1) cap0) (j+1) (BH ad (fun i=>(pX k i).length) cp j++[.slice (some ⟨wr.heap.size,0,none⟩) 1 1])→((wr.alloc (.cells #[.int .i64 1,.int .i64 0,.int .i64 0,.int .i64 0,.int .i64 0] 47)).alloc (.cells #[.slice (some ⟨wr.heap.size,0,none⟩) 1 1] 24)).grownBy w5 u5.ownBlock→(u5.ownBlock=some g0∨g0=((wr.alloc (.cells #[.int .i64 1,.int .i64 0,.int .i64 0,.int .i64 0,.int .i64 0] 47)).alloc (.cells #[.slice (some ⟨wr.heap.size,0,none⟩) 1 1] 24)).heap.size)→g0<w5.heap.size→∃ad' cp' B',nX w.heap.size w5 (pX k) (j+1) (.slice (some ⟨g0,0,none⟩) (j+1) cap0) ad' cp' B'):=fun g0 cap0 w5 h1 h2 h3 h4=>by
     refine nX.more hA hA1 hO1 ?_ ?_ ?_ h4
     ·rw[hq];exact h2
     ·rw[hq];exact h1
     ·rw[hq];exact h3
    have HA1:=aA hA1;have HB1:=aA hB1
    have HN:=aA (heap_alloc_new (wr.alloc (.cells #[.int .i64 1,.int .i64 0,.int .i64 0,.int .i64 0,.int .i64 0] 47)) (.cells #[.slice (some ⟨wr.heap.size,0,none⟩) 1 1] 24));have hsw:w.heap.size≤wr.heap.size:=hB.size
    clear hq hjk b1 hA1 hO1 hB1 hA hB;go_wp2_with (at_builtin;refine wpList_append_lies _ rfl (.tmp 16) (.tmp 19) 23 rfl w.heap.size 24 i0 _ 1 24 Tryz.underlying23 hi0 hz0 hz1 hz2 rfl (by omega) _ j (BH ad (fun i=>(pX k i).length) cp j) rfl (HA1.out.row.alloc _) ⟨wr.heap.size+1,0,none⟩ 1 1 [.slice (some ⟨wr.heap.size,0,none⟩) 1 1] rfl rfl (by have:=HN.out;rw[World.size_alloc]at this;exact World.news_of_block this) (jS _ _ _) (by omega) hmax (by omega) (by simp;omega) _ rfl ?_;intro g1 cap1 w7 hown2 hgrow2 hat2 hlt2;have HR:=aA (HRND.out g1 cap1 w7 hown2 hgrow2 hat2 hlt2);have HB7:=aA ((HB1.out.alloc HB1.out.size _).grown hgrow2 (by simp;omega) (fun k e=>(HA1.out.row.lt k e).1));clear hown2 hgrow2 hat2 hlt2);obtain⟨ad',cp',B',hA7⟩:=HR.out;go_roundw;case rel=>exact⟨j+1,ad',cp',B',by omega,by go_num,HB7.out,hA7⟩
    case measure=>simp[intOf];omega
   ·have hjb:((j:Int)==k)=false:=by simpa using hjk
    have hq:pX k j=[]:=if_neg hjk;have b1:=aC wr (.cells #[] 47)
    have hA1:=hA.below b1;have hO1:lI wr.heap.size (wr.alloc (.cells #[] 47)) (some ⟨wr.heap.size,0,none⟩) 0 (pX k j):=by rw[hq];exact⟨⟨Nat.le_refl _,by simp,.inl rfl⟩,.inl rfl,.inl rfl⟩
    have hB1:=aB hB b1;have HRND:Hid (∀(g0 cap0:Nat) (w5:World),w5.ownsRow w.heap.size 24 1 (.slice (some ⟨g0,0,none⟩) (j+1) cap0) (j+1) (BH ad (fun i=>(pX k i).length) cp j++[.slice (some ⟨wr.heap.size,0,none⟩) 0 0])→((wr.alloc (.cells #[] 47)).alloc (.cells #[.slice (some ⟨wr.heap.size,0,none⟩) 0 0] 24)).grownBy w5 u5.ownBlock→(u5.ownBlock=some g0∨g0=((wr.alloc (.cells #[] 47)).alloc (.cells #[.slice (some ⟨wr.heap.size,0,none⟩) 0 0] 24)).heap.size)→g0<w5.heap.size→∃ad' cp' B',nX w.heap.size w5 (pX k) (j+1) (.slice (some ⟨g0,0,none⟩) (j+1) cap0) ad' cp' B'):=fun g0 cap0 w5 h1 h2 h3 h4=>by
     refine nX.more hA hA1 hO1 ?_ ?_ ?_ h4
     ·rw[hq];exact h2
     ·rw[hq];exact h1
     ·rw[hq];exact h3
    have HA1:=aA hA1;have HB1:=aA hB1
    have HN:=aA (heap_alloc_new (wr.alloc (.cells #[] 47)) (.cells #[.slice (some ⟨wr.heap.size,0,none⟩) 0 0] 24));have hsw:w.heap.size≤wr.heap.size:=hB.size
    clear hq hjk b1 hA1 hO1 hB1 hA hB;go_wp2_with (at_builtin;refine wpList_append_lies _ rfl (.tmp 21) (.tmp 23) 23 rfl w.heap.size 24 i0 _ 1 24 Tryz.underlying23 hi0 hz0 hz1 hz2 rfl (by omega) _ j (BH ad (fun i=>(pX k i).length) cp j) rfl (HA1.out.row.alloc _) ⟨wr.heap.size+1,0,none⟩ 1 1 [.slice (some ⟨wr.heap.size,0,none⟩) 0 0] rfl rfl (by have:=HN.out;rw[World.size_alloc]at this;exact World.news_of_block this) (jS _ _ _) (by omega) hmax (by omega) (by simp;omega) _ rfl ?_;intro g1 cap1 w7 hown2 hgrow2 hat2 hlt2;have HR:=aA (HRND.out g1 cap1 w7 hown2 hgrow2 hat2 hlt2);have HB7:=aA ((HB1.out.alloc HB1.out.size _).grown hgrow2 (by simp;omega) (fun k e=>(HA1.out.row.lt k e).1));clear hown2 hgrow2 hat2 hlt2);obtain⟨ad',cp',B',hA7⟩:=HR.out;go_roundw;case rel=>exact⟨j+1,ad',cp',B',by omega,by go_num,HB7.out,hA7⟩
    case measure=>simp[intOf];omega
  ·have hjn:¬(j:Int)<(n:Int):=by omega
   have hje:j=n:=by omega
   subst hje;obtain⟨qa,qc,R,etv,hO⟩:=hA.out (by omega);subst etv;have HO:=aA hO
   clear hB hA hO;go_wp2;go_ret;exact⟨qa,qc,ad,cp,R,B,rfl,HB.out,HO.out⟩
theorem UJ (w:World) (n:Nat) (hn:n≤12):Calls Tryz.prog 171 #[.int .i64 (n:Int)] w (YV w n (fun _=>[])):=by
 have hq:pX (-1)=fun _=>[]:=funext fun i=>if_neg (by omega);have HC:=FI w n (-1) hn
 rw[hq]at HC;have HCC:=aA HC
 clear HC hq;go_enter Tryz.func171,Tryz.ntmps171;go_wp2_with fail;refine HCC.out.mono ?_;rintro r w1 ⟨ra,rc,ad,cp,Rb,B,rfl,b1,ho⟩;have HO:=aA ho
 have HB:=aA b1;clear b1 ho;go_wp2;go_ret;exact⟨ra,rc,ad,cp,Rb,B,rfl,HB.out,HO.out⟩
def rA (w:World) (n:Nat) (R:Option (Nat→List T)) (r:Ending) (w':World):Prop:=
 Below w.heap.size w w'∧((∃q ra rc ad cp Rb B,R=some q∧r= .returned (.tuple #[.slice ra n rc,.bool true])∧jK w.heap.size w' ra n rc ad (fun i=>(q i).length) cp (fun i=>lf (q i)) Rb B)∨(R=none∧∃ra rc,r= .returned (.tuple #[.slice ra 0 rc,.bool false])))
theorem BC {q:List T} (hq:cT q=true):cT (kE 100 q)=true:=gJ (by rw[gA];exact(aE hq).1) (gG (by omega) (by omega) (aE hq).2)
theorem LM {w:World} {a:Option Addr} {c:Nat} {q:List T} (h:RL w a c q) (hq:cT q=true):Calls Tryz.prog 112 #[.int .i64 100,.slice a q.length c] w (YU w (kE 100 q)):=by
 refine(OR w 100 a q.length c (lf q) h (by omega) (by omega) (by have:=(aE hq).1;omega) (fun i hi=>(bV (show aN q.length (lf q)=true from hq)).2 i hi |>.2)).mono ?_;rintro r w' ⟨v,rfl,hb,ho⟩;rw[if_neg (by omega)]at ho;have e:MN 100 (lf q) q.length=kE 100 q:=rfl
 rw[e]at ho;exact PP (by rw[gA];exact(aE hq).1) ⟨v,rfl,hb,by rw[gA];exact ho⟩
theorem IH {w:World} {a b:Option Addr} {ca cb:Nat} {q X:List T} (ha:RL w a ca q) (hb:RL w b cb X) (hq:cT q=true) (hX:cT X=true):Calls Tryz.prog 39 #[.slice a q.length ca,.slice b X.length cb] w (zS w (iR (bY (lf q) (lf X) X.length q.length))):=by
 refine(IU w a b q.length ca X.length cb (lf q) (lf X) ha hb (aE hq).1 (aE hX).1 (bV hq).2 (bV hX).2).mono fun _ _ h=>EO ?_ h;cases hm:bY (lf q) (lf X) X.length q.length with
 |none=>exact gL _
 |some K=>exact fT _ K hm
theorem AH (w:World) (g:Nat) (hg:g≤12) (ra:Option Addr) (rc:Nat) (adR:Nat→Option Addr) (cpR:Nat→Nat) (row:Nat→List T) (hr:fZ w ra g rc adR (lN row) cpR (fN row)) (hrok:∀i,i<g→cT (row i)=true) (qa:Option Addr) (qc:Nat) (q:List T) (hq:RL w qa qc q) (hqok:cT q=true) (oa:Option Addr) (oc:Nat) (adO:Nat→Option Addr) (cpO:Nat→Nat) (oth:Nat→List T) (ho:fZ w oa g oc adO (lN oth) cpO (fN oth)) (hook:∀i,i<g→cT (oth i)=true):Calls Tryz.prog 170 #[.slice ra g rc,.slice qa q.length qc,.slice oa g oc] w (rA w g (dF row q oth g)):=by
 obtain⟨i0,hi0,hz0,hz1,hz2⟩:=info_parts AC;have hgl:(g:Int)≤12:=by omega
 obtain⟨R,hR⟩:∃R,dF row q oth g=R:=⟨_,rfl⟩
 rw[hR];have HR:=aA hR
 have HRO:=aA hr;have HQ:=aA hq
 have HO:=aA ho;have HB0:=aA (aC w (.cells #[] 24))
 have HA0:=aA (nX.empty w (fun _=>[]));have HQK:=aA hqok
 have HOK:=aA hook;have HRK:=aA hrok
 clear hr hq ho hR hqok hook hrok;go_enter Tryz.func170,Tryz.ntmps170;go_wp2;go_loopw [8,9] (fun tv ii wr=>∃(j:Nat) (X:Nat→List T) (ad:Nat→Option Addr) (cp B:Nat→Nat),j≤g∧ii= .int .i64 (j:Int)∧dF row q oth j=some X∧Below w.heap.size w wr∧nX w.heap.size wr X j tv ad cp B) (fun _ ii _=>g-(intOf ii).toNat);case atStart=>exact⟨0,fun _=>[],_,_,_,gL _,rfl,rfl,HB0.out,HA0.out⟩
 case round=>
  obtain⟨j,X,ad,cp,B,hj,rfl,hX,hB,hA⟩:=hrel;have HX:=aA hX
  have HB:=aA hB;have HA:=aA hA
  clear hX;by_cases hlt:j<g
  ·have hjl:(j:Int)<(g:Int):=by omega
   have hmax:j+1≤maxLen:=by unfold maxLen;omega
   rcases HO.out.2.2.1 with h0|⟨ob,off,rfl,hobl,hocl⟩
   ·omega
   rcases HRO.out.2.2.1 with h0|⟨rb,roff,rfl,hrbl,hrcl⟩
   ·omega
   obtain⟨O1,hO1⟩:∃O1,oth j=O1:=⟨_,rfl⟩
   obtain⟨R1,hR1⟩:∃R1,row j=R1:=⟨_,rfl⟩
   have dr:Below wr.heap.size wr wr.drew:=(cE _ _).drew;have hBd:=aB hB dr
   have hS:wr.drew.cell? ⟨ob,off+j,none⟩=some (.slice (adO j) O1.length (cpO j)):=(hBd.cell (p:=⟨ob,off+j,none⟩) hobl).trans (by rw[←hO1];exact hocl j hlt);have cR:wr.drew.cell? ⟨rb,roff+j,none⟩=some (.slice (adR j) R1.length (cpR j)):=(hBd.cell (p:=⟨rb,roff+j,none⟩) hrbl).trans (by rw[←hR1];exact hrcl j hlt)
   have RO1:Hid (RL wr.drew (adO j) (cpO j) O1):=by rw[←hO1];exact(HO.out.2.2.2 j hlt).below hBd
   have RR1:Hid (RL wr.drew (adR j) (cpR j) R1):=by rw[←hR1];exact(HRO.out.2.2.2 j hlt).below hBd
   have RQ1:=aA (HQ.out.below hBd);have okO:cT O1=true:=by rw[←hO1];exact HOK.out j hlt
   have okR:cT R1=true:=by rw[←hR1];exact HRK.out j hlt
   have HS:=aA hS;have HCR:=aA cR
   have HBd:=aA hBd;have HAd:=aA (hA.below dr)
   have hm:=AO (f:=lf q) (f2:=lf (kE 100 q)) (la:=q.length) (c:=100) (by omega) (by omega) (bV (show aN q.length (lf q)=true from HQK.out)).2 (bV (show aN O1.length (lf O1)=true from okO)).2 (fun i hi=>ZK 100 q hi) q.length (Nat.le_refl _);obtain⟨E,hE⟩:∃E,iG R1 q O1=E:=⟨_,rfl⟩
   have hE':iG (row j) q (oth j)=E:=by rw[hO1,hR1];exact hE
   have hc1:=LM RQ1.out HQK.out;have HC1:=aA hc1
   have hrbr:rb<wr.drew.heap.size:=cU _ _ cR;clear hocl hrcl hS cR hO1 hR1 hB hA hBd dr hc1;cases hP:bY (lf q) (lf O1) O1.length q.length with
   |none=>
    rw[hP]at hm;have hRn:R=none:=by rw[←HR.out];refine pJ hlt HX.out (hE'.trans ?_);rw[←hE];unfold iG;rw[hP]
    subst hRn;have HC2:Hid (∀(W:World) (a b:Option Addr) (ca cb:Nat),RL W a ca (kE 100 q)→RL W b cb O1→Calls Tryz.prog 39 #[.slice a (kE 100 q).length ca,.slice b O1.length cb] W (zS W ([],false))):=fun W a b ca cb k1 k2=>by have:=IH k1 k2 (BC HQK.out) okO;rw[gA,hm]at this;rw[gA];exact this
    clear hm hP hE hE';go_wp2_with fail;have hS:=HS.out
    go_region_held3 (fun u=>u.cell? ⟨ob,off+j,none⟩=some (.slice (adO j) O1.length (cpO j))) (first|with_reducible exact hS|with_reducible exact((b5.cell (p:=⟨ob,off+j,none⟩) (cU _ _ hS)).trans hS)|with_reducible exact h6) (first|(go_at_call 112;refine HC1.out.mono ?_;rintro e w5 ⟨za,zc,rfl,b5,hz⟩)|(go_at_call 39;refine(HC2.out _ _ _ _ _ hz (RO1.out.below b5)).mono ?_;rintro e w6 ⟨ya,yc,rfl,b6,hy⟩;have h6:=(b6.cell (p:=⟨ob,off+j,none⟩) (cU w5 _ ((b5.cell (p:=⟨ob,off+j,none⟩) (cU _ _ hS)).trans hS))).trans ((b5.cell (p:=⟨ob,off+j,none⟩) (cU _ _ hS)).trans hS)))
    have HB6:=aA (aB (aB HBd.out b5) b6);clear hS b5 b6 hz hy h6;go_wp2;refine cB (results_tmp2 rfl _ _ _) rfl ?_;exact⟨HB6.out.alloc HB6.out.size _,.inr ⟨rfl,_,_,rfl⟩⟩
   |some P=>
    rw[hP]at hm;have okP:cT (kE 100 P)=true:=BC (gJ (fT _ P hP) (dA (bV (show aN q.length (lf q)=true from HQK.out)).2 (bV (show aN O1.length (lf O1)=true from okO)).2 _ P (Nat.le_refl _) hP))
    have HC2:Hid (∀(W:World) (a b:Option Addr) (ca cb:Nat),RL W a ca (kE 100 q)→RL W b cb O1→Calls Tryz.prog 39 #[.slice a (kE 100 q).length ca,.slice b O1.length cb] W (zS W (kE 100 P,true))):=fun W a b ca cb k1 k2=>by have:=IH k1 k2 (BC HQK.out) okO;rw[gA,hm]at this;rw[gA];exact this
    have hE2:E=if(cQ R1 P).length≤400 then some (cQ R1 P)else none:=by rw[←hE];unfold iG;rw[hP]
    have hsl:(cQ R1 P).length≤800:=by
     have h1:=xJ R1 P;have h2:=(aE okR).1
     have h3:=fT _ P hP;omega
    clear hm hP hE;obtain⟨Y,hY⟩:∃Y,cQ R1 P=Y:=⟨_,rfl⟩
    have HC3:Hid (∀(W:World) (a:Option Addr) (ca:Nat),RL W (adR j) (cpR j) R1→RL W a ca (kE 100 P)→Calls Tryz.prog 86 #[.slice (adR j) R1.length (cpR j),.slice a (kE 100 P).length ca] W fun r w'=>∃a' c',r= .returned (.slice a' Y.length c')∧Below W.heap.size W w'∧lI W.heap.size w' a' c' Y):=fun W a ca k1 k2=>by
     refine(oS W (adR j) a R1.length (cpR j) (kE 100 P).length ca (lf R1) (lf (kE 100 P)) k1 k2 (by have h2:=(aE okR).1;have h3:=(aE okP).1;omega) (fun i hi=>((bV (show aN R1.length (lf R1)=true from okR)).2 i hi).2) (fun i hi=>((bV (show aN (kE 100 P).length (lf (kE 100 P))=true from okP)).2 i hi).2)).mono ?_;rintro r w' ⟨v,rfl,hb,hown⟩;have e:eI (lf R1) R1.length (lf (kE 100 P)) (kE 100 P).length 0 0=Y:=by rw[←hY];rfl
     rw[e]at hown;obtain⟨a',c',rfl,hout⟩:=aH hown (by rw[←hY];omega);exact⟨a',c',rfl,hb,hout⟩
    rw[hY]at hE2 hsl;have HYE:=aA hE2
    have HE':=aA hE';have hYl:(Y.length:Int)≤800:=by omega
    clear hY hE2 hE' hsl;go_wp2_with fail;have hS:=HS.out
    go_region_held3 (fun u=>u.cell? ⟨ob,off+j,none⟩=some (.slice (adO j) O1.length (cpO j))) (first|with_reducible exact hS|with_reducible exact((b5.cell (p:=⟨ob,off+j,none⟩) (cU _ _ hS)).trans hS)|with_reducible exact h6) (first|(go_at_call 112;refine HC1.out.mono ?_;rintro e w5 ⟨za,zc,rfl,b5,hz⟩)|(go_at_call 39;refine(HC2.out _ _ _ _ _ hz (RO1.out.below b5)).mono ?_;rintro e w6 ⟨ya,yc,rfl,b6,hy⟩;have h6:=(b6.cell (p:=⟨ob,off+j,none⟩) (cU w5 _ ((b5.cell (p:=⟨ob,off+j,none⟩) (cU _ _ hS)).trans hS))).trans ((b5.cell (p:=⟨ob,off+j,none⟩) (cU _ _ hS)).trans hS)))
    have hB6:=aB (aB HBd.out b5) b6;have HB6:=aA hB6
    have b56:=aB b5 b6;have c6:w6.cell? ⟨rb,roff+j,none⟩=some (.slice (adR j) R1.length (cpR j)):=(b56.cell (p:=⟨rb,roff+j,none⟩) hrbr).trans HCR.out
    have R6:=aA (RR1.out.below b56);have Y6:=aA hy
    have A6:=aA (HAd.out.below b56);clear hS b5 b6 hz hy h6 hB6 b56 HC1 HC2;go_wp2_with fail;refine(HC3.out _ _ _ R6.out Y6.out).mono ?_;rintro r w7 ⟨va,vc,rfl,b7,hO7⟩;have HB7:=aA (aB HB6.out b7)
    have HA7:=aA (A6.out.below b7);have HO7:=aA hO7
    clear b7 hO7 c6 R6 Y6 HC3;by_cases hl4:Y.length≤400
    ·have hng:¬(400:Int)<(Y.length:Int):=by omega
     have hEs:iG (row j) q (oth j)=some Y:=by rw[HE'.out,HYE.out,if_pos hl4]
     have HXN:=aA (qQ HX.out hEs);have hAX:nX w.heap.size w7 (fF X j Y) j u8 ad cp B:=HA7.out.congr (fun i hi=>(if_neg (by omega)).symm)
     have hA6X:nX w.heap.size w6 (fF X j Y) j u8 ad cp B:=A6.out.congr (fun i hi=>(if_neg (by omega)).symm);have hYj:fF X j Y j=Y:=if_pos rfl
     have HRND:Hid (∀(g0 cap0:Nat) (w5:World),w5.ownsRow w.heap.size 24 1 (.slice (some ⟨g0,0,none⟩) (j+1) cap0) (j+1) (BH ad (fun i=>(fF X j Y i).length) cp j++[.slice va Y.length vc])→(w7.alloc (.cells #[.slice va Y.length vc] 24)).grownBy w5 u8.ownBlock→(u8.ownBlock=some g0∨g0=(w7.alloc (.cells #[.slice va Y.length vc] 24)).heap.size)→g0<w5.heap.size→∃ad' cp' B',nX w.heap.size w5 (fF X j Y) (j+1) (.slice (some ⟨g0,0,none⟩) (j+1) cap0) ad' cp' B'):=fun g0 cap0 w5 h1 h2 h3 h4=>by
      refine nX.more hA6X hAX (a:=va) (c:=vc) (by rw[hYj];exact HO7.out) ?_ ?_ ?_ h4
      ·rw[hYj];exact h2
      ·rw[hYj];exact h1
      ·rw[hYj];exact h3
     have HAX:=aA hAX;have hsw:w.heap.size≤w7.heap.size:=HB7.out.size
     clear hEs hAX hA6X hYj hl4;go_wp2_with (at_builtin;refine wpList_append_lies _ rfl (.tmp 43) (.tmp 45) 23 rfl w.heap.size 24 i0 _ 1 24 Tryz.underlying23 hi0 hz0 hz1 hz2 rfl (by omega) _ j (BH ad (fun i=>(fF X j Y i).length) cp j) rfl (HAX.out.row.alloc _) ⟨w7.heap.size,0,none⟩ 1 1 [.slice va Y.length vc] rfl rfl (World.news_of_block (heap_alloc_new w7 _)) (jS _ _ _) (by omega) hmax (by omega) (by simp;omega) _ rfl ?_;intro g1 cap1 w8 hown2 hgrow2 hat2 hlt2;have HRR:=aA (HRND.out g1 cap1 w8 hown2 hgrow2 hat2 hlt2);have HB8:=aA ((HB7.out.alloc HB7.out.size _).grown hgrow2 (by simp;omega) (fun k e=>(HAX.out.row.lt k e).1));clear hown2 hgrow2 hat2 hlt2);obtain⟨ad',cp',B',hA8⟩:=HRR.out;go_roundw;case rel=>exact⟨j+1,fF X j Y,ad',cp',B',by omega,by go_num,HXN.out,HB8.out,hA8⟩
     case measure=>simp[intOf];omega
    ·have hgt:(400:Int)<(Y.length:Int):=by omega
     have hRn:R=none:=by rw[←HR.out];refine pJ hlt HX.out ?_;rw[HE'.out,HYE.out,if_neg hl4]
     subst hRn;go_wp2;refine cB (results_tmp2 rfl _ _ _) rfl ?_;exact⟨HB7.out.alloc HB7.out.size _,.inr ⟨rfl,_,_,rfl⟩⟩
  ·have hjn:¬(j:Int)<(g:Int):=by omega
   have hje:j=g:=by omega
   subst hje;have hRs:R=some X:=by rw[←HR.out];exact HX.out
   subst hRs;obtain⟨qa',qc',Rb,etv,hO⟩:=hA.out (by omega);subst etv;have HOO:=aA hO
   clear hB hA hO;go_wp2;refine cB (results_tmp2 rfl _ _ _) rfl ?_;exact⟨HB.out,.inl ⟨X,qa',qc',ad,cp,Rb,B,rfl,rfl,HOO.out⟩⟩
end Go.Proofs.YtncffcaabnjioaaGreat
