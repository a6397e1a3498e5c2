/-
  Rows of proofs in the model: l9Row, l9Less.
-/
import Derived.Test.YtelkehjdfcoeiaaGreatNbf
set_option maxHeartbeats 8000000
set_option maxRecDepth 100000
namespace Go.Proofs.YtelkehjdfcoeiaaGreat
open Go.RowKit Go.Deep Go.Joins
set_option linter.unusedVariables false
theorem pR:(Tryz.prog.info? 41).map (fun i=>(i.zero,i.size,i.bytes))=some (some (.slice none 0 0),1,24):=by kernel_rfl
theorem gQ (a:Option Addr) (n c:Nat):∀u∈[Value.slice a n c],u.oneCell'=true:=fun u hu=>by
 have:u= .slice a n c:=by simpa using hu
 subst this;rfl
theorem lE.congr {lo:Nat} {w:World} {q q':Nat→List T} {j:Nat} {tv:Value} {ad:Nat→Option Addr} {cp B:Nat→Nat} (h:lE lo w q j tv ad cp B) (he:∀i,i<j→q i=q' i):lE lo w q' j tv ad cp B where
 row:=by
  have e:xH ad (fun i=>(q i).length) cp j=xH ad (fun i=>(q' i).length) cp j:=by
   unfold xH;refine List.map_congr_left (fun i hi=>?_);show Value.slice (ad i) (q i).length (cp i)=Value.slice (ad i) (q' i).length (cp i)
   rw[he i (List.mem_range.1 hi)]
  rw[←e];exact h.row
 el:=fun i hi=>by rw[←he i hi];exact h.el i hi
 ap:=fun i k h1 h2=>by rw[←he i (by omega),←he k h2];exact h.ap i k h1 h2
 lo:=h.lo
theorem lE.empty (w:World) (q:Nat→List T):lE w.heap.size (w.alloc (.cells #[] 41)) q 0 (.slice (some ⟨w.heap.size,0,none⟩) 0 0) (fun _=>none) (fun _=>0) (fun _=>0):=
 ⟨⟨rfl,.inr ⟨w.heap.size,0,#[],rfl,Nat.le_refl _,heap_alloc_new w (.cells #[] 41),Nat.le_refl _,Nat.zero_le _,rfl,rfl⟩⟩,fun i hi=>by omega,fun i k _ hk=>by omega,by simp⟩
theorem lE.more {lo:Nat} {w0 w1 w5:World} {q:Nat→List T} {j:Nat} {tv:Value} {ad:Nat→Option Addr} {cp B:Nat→Nat} (h0:lE lo w0 q j tv ad cp B) (h:lE lo w1 q j tv ad cp B) {a:Option Addr} {c:Nat} (ho:gX w0.heap.size w1 a c (q j)) {g0 cap0:Nat} (hgrow:(w1.alloc (.cells #[.slice a (q j).length c] 41)).grownBy w5 tv.ownBlock) (hown:w5.ownsRow lo 41 1 (.slice (some ⟨g0,0,none⟩) (j+1) cap0) (j+1) (xH ad (fun i=>(q i).length) cp j++[.slice a (q j).length c])) (hat:tv.ownBlock=some g0∨g0=(w1.alloc (.cells #[.slice a (q j).length c] 41)).heap.size) (hlt:g0<w5.heap.size):∃ad' cp' B',lE lo w5 q (j+1) (.slice (some ⟨g0,0,none⟩) (j+1) cap0) ad' cp' B':=
 ⟨_,_,_,h.round (m:=w0.heap.size) (fun i hi h1=>by
  rcases(h0.el i hi).2.2 with hz|⟨_,_,_,h3,_⟩
  ·exact absurd hz h1
  ·exact h3) (fun k hk=>(h0.row.lt k hk).2) h0.lo ho hgrow hown (hat.imp id (fun e=>e.trans (by simp))) hlt⟩
def pF (k:Int) (i:Nat):List T:=if(i:Int)=k then[⟨1,⟨0,0,0,0⟩⟩]else[]
def ZJ (w:World) (n:Nat) (q:Nat→List T) (r:Ending) (w':World):Prop:=∃ra rc ad cp Rb B,r= .returned (.slice ra n rc)∧Below w.heap.size w w'∧dV w.heap.size w' ra n rc ad (fun i=>(q i).length) cp (fun i=>lf (q i)) Rb B
theorem FP (w:World) (n:Nat) (k:Int) (hn:n≤12):Calls Tryz.prog 32 #[.int .i64 (n:Int),.int .i64 k] w (ZJ w n (pF k)):=by
 obtain⟨i0,hi0,hz0,hz1,hz2⟩:=info_parts pR;have hnl:(n:Int)≤12:=by omega
 have HQ0:=aA (lE.empty w (pF k));have HB0:=aA (aC w (.cells #[] 41))
 go_enter Tryz.func32,Tryz.ntmps32;go_wp2;go_loopw [5,6] (fun tv ii wr=>∃(j:Nat) (ad:Nat→Option Addr) (cp B:Nat→Nat),j≤n∧ii= .int .i64 (j:Int)∧Below w.heap.size w wr∧lE w.heap.size wr (pF k) j tv ad cp B) (fun _ ii _=>n-(intOf ii).toNat);case atStart=>exact⟨0,_,_,_,Nat.zero_le _,rfl,HB0.out,HQ0.out⟩
 case round=>
  obtain⟨j,ad,cp,B,hj,rfl,hB,hA⟩:=hrel;have HB:=aA hB
  have HA:=aA hA;by_cases hlt:j<n
  ·have hjl:(j:Int)<(n:Int):=by omega
   have hmax:j+1≤maxLen:=by unfold maxLen;omega
   by_cases hjk:(j:Int)=k
   ·have hjb:((j:Int)==k)=true:=by simpa using hjk
    have hq:pF k j=[⟨1,⟨0,0,0,0⟩⟩]:=if_pos hjk;have b1:=aC wr (.cells #[.int .i64 1,.int .i64 0,.int .i64 0,.int .i64 0,.int .i64 0] 86)
    have hA1:=hA.below b1;have hO1:gX wr.heap.size (wr.alloc (.cells #[.int .i64 1,.int .i64 0,.int .i64 0,.int .i64 0,.int .i64 0] 86)) (some ⟨wr.heap.size,0,none⟩) 1 (pF k j):=by
     rw[hq];have:=World.ownsRow_lit (base:=wr.heap.size) (e:=86) (size:=5) wr #[.int .i64 1,.int .i64 0,.int .i64 0,.int .i64 0,.int .i64 0] 1 (Nat.le_refl _) (by unfold maxLen;omega) rfl
     obtain⟨a',c',e,ho⟩:=aM (L:=[⟨1,⟨0,0,0,0⟩⟩]) this (by simp);cases e;exact ho
    have hB1:=aB hB b1;have HRND:Hid (∀(g0 cap0:Nat) (w5:World),w5.ownsRow w.heap.size 41 1 (.slice (some ⟨g0,0,none⟩) (j+1) cap0) (j+1) (xH ad (fun i=>(pF k i).length) cp j++[.slice (some ⟨wr.heap.size,0,none⟩) 1 1])→((wr.alloc (.cells #[.int .i64 1,.int .i64 0,.int .i64 0,.int .i64 0,.int .i64 0] 86)).alloc (.cells #[.slice (some ⟨wr.heap.size,0,none⟩) 1 1] 41)).grownBy w5 u5.ownBlock→(u5.ownBlock=some g0∨g0=((wr.alloc (.cells #[.int .i64 1,.int .i64 0,.int .i64 0,.int .i64 0,.int .i64 0] 86)).alloc (.cells #[.slice (some ⟨wr.heap.size,0,none⟩) 1 1] 41)).heap.size)→g0<w5.heap.size→∃ad' cp' B',lE w.heap.size w5 (pF k) (j+1) (.slice (some ⟨g0,0,none⟩) (j+1) cap0) ad' cp' B'):=fun g0 cap0 w5 h1 h2 h3 h4=>by
     refine lE.more hA hA1 hO1 ?_ ?_ ?_ h4
     ·rw[hq];exact h2
     ·rw[hq];exact h1
     ·rw[hq];exact h3
    have HA1:=aA hA1;have HB1:=aA hB1
    have HN:=aA (heap_alloc_new (wr.alloc (.cells #[.int .i64 1,.int .i64 0,.int .i64 0,.int .i64 0,.int .i64 0] 86)) (.cells #[.slice (some ⟨wr.heap.size,0,none⟩) 1 1] 41));have hsw:w.heap.size≤wr.heap.size:=hB.size
    clear hq hjk b1 hA1 hO1 hB1 hA hB;go_wp2_with (at_builtin;refine wpList_append_lies _ rfl (.tmp 16) (.tmp 19) 24 rfl w.heap.size 41 i0 _ 1 24 Tryz.underlying24 hi0 hz0 hz1 hz2 rfl (by omega) _ j (xH ad (fun i=>(pF k i).length) cp j) rfl (HA1.out.row.alloc _) ⟨wr.heap.size+1,0,none⟩ 1 1 [.slice (some ⟨wr.heap.size,0,none⟩) 1 1] rfl rfl (by have:=HN.out;rw[World.size_alloc]at this;exact World.news_of_block this) (gQ _ _ _) (by omega) hmax (by omega) (by simp;omega) _ rfl ?_;intro g1 cap1 w7 hown2 hgrow2 hat2 hlt2;have HR:=aA (HRND.out g1 cap1 w7 hown2 hgrow2 hat2 hlt2);have HB7:=aA ((HB1.out.alloc HB1.out.size _).grown hgrow2 (by simp;omega) (fun k e=>(HA1.out.row.lt k e).1));clear hown2 hgrow2 hat2 hlt2);obtain⟨ad',cp',B',hA7⟩:=HR.out;go_roundw;case rel=>exact⟨j+1,ad',cp',B',by omega,by go_num,HB7.out,hA7⟩
    case measure=>simp[intOf];omega
   ·have hjb:((j:Int)==k)=false:=by simpa using hjk
    have hq:pF k j=[]:=if_neg hjk;have b1:=aC wr (.cells #[] 86)
    have hA1:=hA.below b1;have hO1:gX wr.heap.size (wr.alloc (.cells #[] 86)) (some ⟨wr.heap.size,0,none⟩) 0 (pF k j):=by rw[hq];exact⟨⟨Nat.le_refl _,by simp,.inl rfl⟩,.inl rfl,.inl rfl⟩
    have hB1:=aB hB b1;have HRND:Hid (∀(g0 cap0:Nat) (w5:World),w5.ownsRow w.heap.size 41 1 (.slice (some ⟨g0,0,none⟩) (j+1) cap0) (j+1) (xH ad (fun i=>(pF k i).length) cp j++[.slice (some ⟨wr.heap.size,0,none⟩) 0 0])→((wr.alloc (.cells #[] 86)).alloc (.cells #[.slice (some ⟨wr.heap.size,0,none⟩) 0 0] 41)).grownBy w5 u5.ownBlock→(u5.ownBlock=some g0∨g0=((wr.alloc (.cells #[] 86)).alloc (.cells #[.slice (some ⟨wr.heap.size,0,none⟩) 0 0] 41)).heap.size)→g0<w5.heap.size→∃ad' cp' B',lE w.heap.size w5 (pF k) (j+1) (.slice (some ⟨g0,0,none⟩) (j+1) cap0) ad' cp' B'):=fun g0 cap0 w5 h1 h2 h3 h4=>by
     refine lE.more hA hA1 hO1 ?_ ?_ ?_ h4
     ·rw[hq];exact h2
     ·rw[hq];exact h1
     ·rw[hq];exact h3
    have HA1:=aA hA1;have HB1:=aA hB1
    have HN:=aA (heap_alloc_new (wr.alloc (.cells #[] 86)) (.cells #[.slice (some ⟨wr.heap.size,0,none⟩) 0 0] 41));have hsw:w.heap.size≤wr.heap.size:=hB.size
    clear hq hjk b1 hA1 hO1 hB1 hA hB;go_wp2_with (at_builtin;refine wpList_append_lies _ rfl (.tmp 21) (.tmp 23) 24 rfl w.heap.size 41 i0 _ 1 24 Tryz.underlying24 hi0 hz0 hz1 hz2 rfl (by omega) _ j (xH ad (fun i=>(pF k i).length) cp j) rfl (HA1.out.row.alloc _) ⟨wr.heap.size+1,0,none⟩ 1 1 [.slice (some ⟨wr.heap.size,0,none⟩) 0 0] rfl rfl (by have:=HN.out;rw[World.size_alloc]at this;exact World.news_of_block this) (gQ _ _ _) (by omega) hmax (by omega) (by simp;omega) _ rfl ?_;intro g1 cap1 w7 hown2 hgrow2 hat2 hlt2;have HR:=aA (HRND.out g1 cap1 w7 hown2 hgrow2 hat2 hlt2);have HB7:=aA ((HB1.out.alloc HB1.out.size _).grown hgrow2 (by simp;omega) (fun k e=>(HA1.out.row.lt k e).1));clear hown2 hgrow2 hat2 hlt2);obtain⟨ad',cp',B',hA7⟩:=HR.out;go_roundw;case rel=>exact⟨j+1,ad',cp',B',by omega,by go_num,HB7.out,hA7⟩
    case measure=>simp[intOf];omega
  ·have hjn:¬(j:Int)<(n:Int):=by omega
   have hje:j=n:=by omega
   subst hje;obtain⟨qa,qc,R,etv,hO⟩:=hA.out (by omega);subst etv;have HO:=aA hO
   clear hB hA hO;go_wp2;go_ret;exact⟨qa,qc,ad,cp,R,B,rfl,HB.out,HO.out⟩
theorem UF (w:World) (n:Nat) (hn:n≤12):Calls Tryz.prog 120 #[.int .i64 (n:Int)] w (ZJ w n (fun _=>[])):=by
 have hq:pF (-1)=fun _=>[]:=funext fun i=>if_neg (by omega);have HC:=FP w n (-1) hn
 rw[hq]at HC;have HCC:=aA HC
 clear HC hq;go_enter Tryz.func120,Tryz.ntmps120;go_wp2_with fail;refine HCC.out.mono ?_;rintro r w1 ⟨ra,rc,ad,cp,Rb,B,rfl,b1,ho⟩;have HO:=aA ho
 have HB:=aA b1;clear b1 ho;go_wp2;go_ret;exact⟨ra,rc,ad,cp,Rb,B,rfl,HB.out,HO.out⟩
def qJ (w:World) (n:Nat) (R:Option (Nat→List T)) (r:Ending) (w':World):Prop:=
 Below w.heap.size w w'∧((∃q ra rc ad cp Rb B,R=some q∧r= .returned (.tuple #[.slice ra n rc,.bool true])∧dV w.heap.size w' ra n rc ad (fun i=>(q i).length) cp (fun i=>lf (q i)) Rb B)∨(R=none∧∃ra rc,r= .returned (.tuple #[.slice ra 0 rc,.bool false])))
theorem AP {q:List T} (hq:cJ q=true):cJ (jA 100 q)=true:=fO (by rw[fU];exact(aD hq).1) (fM (by omega) (by omega) (aD hq).2)
theorem LJ {w:World} {a:Option Addr} {c:Nat} {q:List T} (h:RL w a c q) (hq:cJ q=true):Calls Tryz.prog 59 #[.int .i64 100,.slice a q.length c] w (ZH w (jA 100 q)):=by
 refine(OQ w 100 a q.length c (lf q) h (by omega) (by omega) (by have:=(aD hq).1;omega) (fun i hi=>(bL (show aK q.length (lf q)=true from hq)).2 i hi |>.2)).mono ?_;rintro r w' ⟨v,rfl,hb,ho⟩;rw[if_neg (by omega)]at ho;have e:MO 100 (lf q) q.length=jA 100 q:=rfl
 rw[e]at ho;exact PO (by rw[fU];exact(aD hq).1) ⟨v,rfl,hb,by rw[fU];exact ho⟩
theorem IJ {w:World} {a b:Option Addr} {ca cb:Nat} {q X:List T} (ha:RL w a ca q) (hb:RL w b cb X) (hq:cJ q=true) (hX:cJ X=true):Calls Tryz.prog 115 #[.slice a q.length ca,.slice b X.length cb] w (NK w (iN (bN (lf q) (lf X) X.length q.length))):=by
 refine(PM w a b q.length ca X.length cb (lf q) (lf X) ha hb (aD hq).1 (aD hX).1 (bL hq).2 (bL hX).2).mono fun _ _ h=>EV ?_ h;cases hm:bN (lf q) (lf X) X.length q.length with
 |none=>exact Nat.zero_le _
 |some K=>exact eJ _ K hm
theorem zS (w:World) (g:Nat) (hg:g≤12) (ra:Option Addr) (rc:Nat) (adR:Nat→Option Addr) (cpR:Nat→Nat) (row:Nat→List T) (hr:eH w ra g rc adR (lN row) cpR (fN row)) (hrok:∀i,i<g→cJ (row i)=true) (qa:Option Addr) (qc:Nat) (q:List T) (hq:RL w qa qc q) (hqok:cJ q=true) (oa:Option Addr) (oc:Nat) (adO:Nat→Option Addr) (cpO:Nat→Nat) (oth:Nat→List T) (ho:eH w oa g oc adO (lN oth) cpO (fN oth)) (hook:∀i,i<g→cJ (oth i)=true):Calls Tryz.prog 119 #[.slice ra g rc,.slice qa q.length qc,.slice oa g oc] w (qJ w g (bU row q oth g)):=by
 obtain⟨i0,hi0,hz0,hz1,hz2⟩:=info_parts pR;have hgl:(g:Int)≤12:=by omega
 obtain⟨R,hR⟩:∃R,bU row q oth g=R:=⟨_,rfl⟩
 rw[hR];have HR:=aA hR
 have HRO:=aA hr;have HQ:=aA hq
 have HO:=aA ho;have HB0:=aA (aC w (.cells #[] 41))
 have HA0:=aA (lE.empty w (fun _=>[]));have HQK:=aA hqok
 have HOK:=aA hook;have HRK:=aA hrok
 clear hr hq ho hR hqok hook hrok;go_enter Tryz.func119,Tryz.ntmps119;go_wp2;go_loopw [8,9] (fun tv ii wr=>∃(j:Nat) (X:Nat→List T) (ad:Nat→Option Addr) (cp B:Nat→Nat),j≤g∧ii= .int .i64 (j:Int)∧bU row q oth j=some X∧Below w.heap.size w wr∧lE w.heap.size wr X j tv ad cp B) (fun _ ii _=>g-(intOf ii).toNat);case atStart=>exact⟨0,fun _=>[],_,_,_,Nat.zero_le _,rfl,rfl,HB0.out,HA0.out⟩
 case round=>
  obtain⟨j,X,ad,cp,B,hj,rfl,hX,hB,hA⟩:=hrel;have HX:=aA hX
  have HB:=aA hB;have HA:=aA hA
  clear hX;by_cases hlt:j<g
  ·have hjl:(j:Int)<(g:Int):=by omega
   have hmax:j+1≤maxLen:=by unfold maxLen;omega
   rcases HO.out.2.2.1 with h0|⟨ob,off,rfl,hobl,hocl⟩
   ·omega
   rcases HRO.out.2.2.1 with h0|⟨rb,roff,rfl,hrbl,hrcl⟩
   ·omega
   obtain⟨O1,hO1⟩:∃O1,oth j=O1:=⟨_,rfl⟩
   obtain⟨R1,hR1⟩:∃R1,row j=R1:=⟨_,rfl⟩
   have dr:Below wr.heap.size wr wr.drew:=(bQ _ _).drew;have hBd:=aB hB dr
   have hS:wr.drew.cell? ⟨ob,off+j,none⟩=some (.slice (adO j) O1.length (cpO j)):=(hBd.cell (p:=⟨ob,off+j,none⟩) hobl).trans (by rw[←hO1];exact hocl j hlt);have cR:wr.drew.cell? ⟨rb,roff+j,none⟩=some (.slice (adR j) R1.length (cpR j)):=(hBd.cell (p:=⟨rb,roff+j,none⟩) hrbl).trans (by rw[←hR1];exact hrcl j hlt)
   have RO1:Hid (RL wr.drew (adO j) (cpO j) O1):=by rw[←hO1];exact(HO.out.2.2.2 j hlt).below hBd
   have RR1:Hid (RL wr.drew (adR j) (cpR j) R1):=by rw[←hR1];exact(HRO.out.2.2.2 j hlt).below hBd
   have RQ1:=aA (HQ.out.below hBd);have okO:cJ O1=true:=by rw[←hO1];exact HOK.out j hlt
   have okR:cJ R1=true:=by rw[←hR1];exact HRK.out j hlt
   have HS:=aA hS;have HCR:=aA cR
   have HBd:=aA hBd;have HAd:=aA (hA.below dr)
   have hm:=uM (f:=lf q) (f2:=lf (jA 100 q)) (la:=q.length) (c:=100) (by omega) (by omega) (bL (show aK q.length (lf q)=true from HQK.out)).2 (bL (show aK O1.length (lf O1)=true from okO)).2 (fun i hi=>Ab 100 q hi) q.length (Nat.le_refl _);obtain⟨E,hE⟩:∃E,cT R1 q O1=E:=⟨_,rfl⟩
   have hE':cT (row j) q (oth j)=E:=by rw[hO1,hR1];exact hE
   have hc1:=LJ RQ1.out HQK.out;have HC1:=aA hc1
   have hrbr:rb<wr.drew.heap.size:=cQ _ _ cR;clear hocl hrcl hS cR hO1 hR1 hB hA hBd dr hc1;cases hP:bN (lf q) (lf O1) O1.length q.length with
   |none=>
    rw[hP]at hm;have hRn:R=none:=by rw[←HR.out];refine oN hlt HX.out (hE'.trans ?_);rw[←hE];unfold cT;rw[hP]
    subst hRn;have HC2:Hid (∀(W:World) (a b:Option Addr) (ca cb:Nat),RL W a ca (jA 100 q)→RL W b cb O1→Calls Tryz.prog 115 #[.slice a (jA 100 q).length ca,.slice b O1.length cb] W (NK W ([],false))):=fun W a b ca cb k1 k2=>by have:=IJ k1 k2 (AP HQK.out) okO;rw[fU,hm]at this;rw[fU];exact this
    clear hm hP hE hE';go_wp2_with fail;have hS:=HS.out
    go_region_held3 (fun u=>u.cell? ⟨ob,off+j,none⟩=some (.slice (adO j) O1.length (cpO j))) (first|with_reducible exact hS|with_reducible exact((b5.cell (p:=⟨ob,off+j,none⟩) (cQ _ _ hS)).trans hS)|with_reducible exact h6) (first|(go_at_call 59;refine HC1.out.mono ?_;rintro e w5 ⟨za,zc,rfl,b5,hz⟩)|(go_at_call 115;refine(HC2.out _ _ _ _ _ hz (RO1.out.below b5)).mono ?_;rintro e w6 ⟨ya,yc,rfl,b6,hy⟩;have h6:=(b6.cell (p:=⟨ob,off+j,none⟩) (cQ w5 _ ((b5.cell (p:=⟨ob,off+j,none⟩) (cQ _ _ hS)).trans hS))).trans ((b5.cell (p:=⟨ob,off+j,none⟩) (cQ _ _ hS)).trans hS)))
    have HB6:=aA (aB (aB HBd.out b5) b6);clear hS b5 b6 hz hy h6;go_wp2;refine cV (results_tmp2 rfl _ _ _) rfl ?_;exact⟨HB6.out.alloc HB6.out.size _,.inr ⟨rfl,_,_,rfl⟩⟩
   |some P=>
    rw[hP]at hm;have okP:cJ (jA 100 P)=true:=AP (fO (eJ _ P hP) (cE (bL (show aK q.length (lf q)=true from HQK.out)).2 (bL (show aK O1.length (lf O1)=true from okO)).2 _ P (Nat.le_refl _) hP))
    have HC2:Hid (∀(W:World) (a b:Option Addr) (ca cb:Nat),RL W a ca (jA 100 q)→RL W b cb O1→Calls Tryz.prog 115 #[.slice a (jA 100 q).length ca,.slice b O1.length cb] W (NK W (jA 100 P,true))):=fun W a b ca cb k1 k2=>by have:=IJ k1 k2 (AP HQK.out) okO;rw[fU,hm]at this;rw[fU];exact this
    have hE2:E=if(bY R1 P).length≤400 then some (bY R1 P)else none:=by rw[←hE];unfold cT;rw[hP]
    have hsl:(bY R1 P).length≤800:=by
     have h1:=wL R1 P;have h2:=(aD okR).1
     have h3:=eJ _ P hP;omega
    clear hm hP hE;obtain⟨Y,hY⟩:∃Y,bY R1 P=Y:=⟨_,rfl⟩
    have HC3:Hid (∀(W:World) (a:Option Addr) (ca:Nat),RL W (adR j) (cpR j) R1→RL W a ca (jA 100 P)→Calls Tryz.prog 118 #[.slice (adR j) R1.length (cpR j),.slice a (jA 100 P).length ca] W fun r w'=>∃a' c',r= .returned (.slice a' Y.length c')∧Below W.heap.size W w'∧gX W.heap.size w' a' c' Y):=fun W a ca k1 k2=>by
     refine(nV W (adR j) a R1.length (cpR j) (jA 100 P).length ca (lf R1) (lf (jA 100 P)) k1 k2 (by have h2:=(aD okR).1;have h3:=(aD okP).1;omega) (fun i hi=>((bL (show aK R1.length (lf R1)=true from okR)).2 i hi).2) (fun i hi=>((bL (show aK (jA 100 P).length (lf (jA 100 P))=true from okP)).2 i hi).2)).mono ?_;rintro r w' ⟨v,rfl,hb,hown⟩;have e:fG (lf R1) R1.length (lf (jA 100 P)) (jA 100 P).length 0 0=Y:=by rw[←hY];rfl
     rw[e]at hown;obtain⟨a',c',rfl,hout⟩:=aM hown (by rw[←hY];omega);exact⟨a',c',rfl,hb,hout⟩
    rw[hY]at hE2 hsl;have HYE:=aA hE2
    have HE':=aA hE';have hYl:(Y.length:Int)≤800:=by omega
    clear hY hE2 hE' hsl;go_wp2_with fail;have hS:=HS.out
    go_region_held3 (fun u=>u.cell? ⟨ob,off+j,none⟩=some (.slice (adO j) O1.length (cpO j))) (first|with_reducible exact hS|with_reducible exact((b5.cell (p:=⟨ob,off+j,none⟩) (cQ _ _ hS)).trans hS)|with_reducible exact h6) (first|(go_at_call 59;refine HC1.out.mono ?_;rintro e w5 ⟨za,zc,rfl,b5,hz⟩)|(go_at_call 115;refine(HC2.out _ _ _ _ _ hz (RO1.out.below b5)).mono ?_;rintro e w6 ⟨ya,yc,rfl,b6,hy⟩;have h6:=(b6.cell (p:=⟨ob,off+j,none⟩) (cQ w5 _ ((b5.cell (p:=⟨ob,off+j,none⟩) (cQ _ _ hS)).trans hS))).trans ((b5.cell (p:=⟨ob,off+j,none⟩) (cQ _ _ hS)).trans hS)))
    have hB6:=aB (aB HBd.out b5) b6;have HB6:=aA hB6
    have b56:=aB b5 b6;have c6:w6.cell? ⟨rb,roff+j,none⟩=some (.slice (adR j) R1.length (cpR j)):=(b56.cell (p:=⟨rb,roff+j,none⟩) hrbr).trans HCR.out
    have R6:=aA (RR1.out.below b56);have Y6:=aA hy
    have A6:=aA (HAd.out.below b56);clear hS b5 b6 hz hy h6 hB6 b56 HC1 HC2;go_wp2_with fail;refine(HC3.out _ _ _ R6.out Y6.out).mono ?_;rintro r w7 ⟨va,vc,rfl,b7,hO7⟩;have HB7:=aA (aB HB6.out b7)
    have HA7:=aA (A6.out.below b7);have HO7:=aA hO7
    clear b7 hO7 c6 R6 Y6 HC3;by_cases hl4:Y.length≤400
    ·have hng:¬(400:Int)<(Y.length:Int):=by omega
     have hEs:cT (row j) q (oth j)=some Y:=by rw[HE'.out,HYE.out,if_pos hl4]
     have HXN:=aA (pV HX.out hEs);have hAX:lE w.heap.size w7 (bK X j Y) j u8 ad cp B:=HA7.out.congr (fun i hi=>(if_neg (by omega)).symm)
     have hA6X:lE w.heap.size w6 (bK X j Y) j u8 ad cp B:=A6.out.congr (fun i hi=>(if_neg (by omega)).symm);have hYj:bK X j Y j=Y:=if_pos rfl
     have HRND:Hid (∀(g0 cap0:Nat) (w5:World),w5.ownsRow w.heap.size 41 1 (.slice (some ⟨g0,0,none⟩) (j+1) cap0) (j+1) (xH ad (fun i=>(bK X j Y i).length) cp j++[.slice va Y.length vc])→(w7.alloc (.cells #[.slice va Y.length vc] 41)).grownBy w5 u8.ownBlock→(u8.ownBlock=some g0∨g0=(w7.alloc (.cells #[.slice va Y.length vc] 41)).heap.size)→g0<w5.heap.size→∃ad' cp' B',lE w.heap.size w5 (bK X j Y) (j+1) (.slice (some ⟨g0,0,none⟩) (j+1) cap0) ad' cp' B'):=fun g0 cap0 w5 h1 h2 h3 h4=>by
      refine lE.more hA6X hAX (a:=va) (c:=vc) (by rw[hYj];exact HO7.out) ?_ ?_ ?_ h4
      ·rw[hYj];exact h2
      ·rw[hYj];exact h1
      ·rw[hYj];exact h3
     have HAX:=aA hAX;have hsw:w.heap.size≤w7.heap.size:=HB7.out.size
     clear hEs hAX hA6X hYj hl4;go_wp2_with (at_builtin;refine wpList_append_lies _ rfl (.tmp 43) (.tmp 45) 24 rfl w.heap.size 41 i0 _ 1 24 Tryz.underlying24 hi0 hz0 hz1 hz2 rfl (by omega) _ j (xH ad (fun i=>(bK X j Y i).length) cp j) rfl (HAX.out.row.alloc _) ⟨w7.heap.size,0,none⟩ 1 1 [.slice va Y.length vc] rfl rfl (World.news_of_block (heap_alloc_new w7 _)) (gQ _ _ _) (by omega) hmax (by omega) (by simp;omega) _ rfl ?_;intro g1 cap1 w8 hown2 hgrow2 hat2 hlt2;have HRR:=aA (HRND.out g1 cap1 w8 hown2 hgrow2 hat2 hlt2);have HB8:=aA ((HB7.out.alloc HB7.out.size _).grown hgrow2 (by simp;omega) (fun k e=>(HAX.out.row.lt k e).1));clear hown2 hgrow2 hat2 hlt2);obtain⟨ad',cp',B',hA8⟩:=HRR.out;go_roundw;case rel=>exact⟨j+1,bK X j Y,ad',cp',B',by omega,by go_num,HXN.out,HB8.out,hA8⟩
     case measure=>simp[intOf];omega
    ·have hgt:(400:Int)<(Y.length:Int):=by omega
     have hRn:R=none:=by rw[←HR.out];refine oN hlt HX.out ?_;rw[HE'.out,HYE.out,if_neg hl4]
     subst hRn;go_wp2;refine cV (results_tmp2 rfl _ _ _) rfl ?_;exact⟨HB7.out.alloc HB7.out.size _,.inr ⟨rfl,_,_,rfl⟩⟩
  ·have hjn:¬(j:Int)<(g:Int):=by omega
   have hje:j=g:=by omega
   subst hje;have hRs:R=some X:=by rw[←HR.out];exact HX.out
   subst hRs;obtain⟨qa',qc',Rb,etv,hO⟩:=hA.out (by omega);subst etv;have HOO:=aA hO
   clear hB hA hO;go_wp2;refine cV (results_tmp2 rfl _ _ _) rfl ?_;exact⟨HB.out,.inl ⟨X,qa',qc',ad,cp,Rb,B,rfl,rfl,HOO.out⟩⟩
end Go.Proofs.YtelkehjdfcoeiaaGreat
