/-
  Rows of proofs in the model: l9Row, l9Less.
-/
import Derived.Test.YtbkighpmkadmmaaMas
set_option maxHeartbeats 16000000
set_option maxRecDepth 100000
namespace Go.Proofs.Ytbkighpmkadmmaa
open Go.RowKit Go.Deep Go.Joins
set_option linter.unusedVariables false
theorem sM:(Try.prog.info? 29).map (fun i=>(i.zero,i.size,i.bytes))=some (some (.slice none 0 0),1,24):=by kernel_rfl
theorem gD (a:Option Addr) (n c:Nat):∀u∈[Value.slice a n c],u.oneCell'=true:=fun u hu=>by
 have:u= .slice a n c:=by simpa using hu
 subst this;rfl
theorem jW.congr {lo:Nat} {w:World} {q q':Nat→List T} {j:Nat} {tv:Value} {ad:Nat→Option Addr} {cp B:Nat→Nat} (h:jW lo w q j tv ad cp B) (he:∀i,i<j→q i=q' i):jW lo w q' j tv ad cp B where
 row:=by
  have e:uC ad (fun i=>(q i).length) cp j=uC ad (fun i=>(q' i).length) cp j:=by
   unfold uC;refine List.map_congr_left (fun i hi=>?_);show Value.slice (ad i) (q i).length (cp i)=Value.slice (ad i) (q' i).length (cp i)
   rw[he i (List.mem_range.1 hi)]
  rw[←e];exact h.row
 el:=fun i hi=>by rw[←he i hi];exact h.el i hi
 ap:=fun i k h1 h2=>by rw[←he i (by omega),←he k h2];exact h.ap i k h1 h2
 lo:=h.lo
theorem jW.empty (w:World) (q:Nat→List T):jW w.heap.size (w.alloc (.cells #[] 29)) q 0 (.slice (some ⟨w.heap.size,0,none⟩) 0 0) (fun _=>none) (fun _=>0) (fun _=>0):=
 ⟨⟨rfl,.inr ⟨w.heap.size,0,#[],rfl,Nat.le_refl _,heap_alloc_new w (.cells #[] 29),Nat.le_refl _,gT _,rfl,rfl⟩⟩,fun i hi=>by omega,fun i k _ hk=>by omega,by simp⟩
theorem jW.more {lo:Nat} {w0 w1 w5:World} {q:Nat→List T} {j:Nat} {tv:Value} {ad:Nat→Option Addr} {cp B:Nat→Nat} (h0:jW lo w0 q j tv ad cp B) (h:jW lo w1 q j tv ad cp B) {a:Option Addr} {c:Nat} (ho:oS w0.heap.size w1 a c (q j)) {g0 cap0:Nat} (hgrow:(w1.alloc (.cells #[.slice a (q j).length c] 29)).grownBy w5 tv.ownBlock) (hown:w5.ownsRow lo 29 1 (.slice (some ⟨g0,0,none⟩) (j+1) cap0) (j+1) (uC ad (fun i=>(q i).length) cp j++[.slice a (q j).length c])) (hat:tv.ownBlock=some g0∨g0=(w1.alloc (.cells #[.slice a (q j).length c] 29)).heap.size) (hlt:g0<w5.heap.size):∃ad' cp' B',jW lo w5 q (j+1) (.slice (some ⟨g0,0,none⟩) (j+1) cap0) ad' cp' B':=
 ⟨_,_,_,h.round (m:=w0.heap.size) (fun i hi h1=>by
  rcases(h0.el i hi).2.2 with hz|⟨_,_,_,h3,_⟩
  ·exact absurd hz h1
  ·exact h3) (fun k hk=>(h0.row.lt k hk).2) h0.lo ho hgrow hown (hat.imp id (fun e=>e.trans (by simp))) hlt⟩
def lG (k:Int) (i:Nat):List T:=if(i:Int)=k then[⟨1,⟨0,0,0,0⟩⟩]else[]
def LK (w:World) (n:Nat) (q:Nat→List T) (r:Ending) (w':World):Prop:=∃ra rc ad cp Rb B,r= .returned (.slice ra n rc)∧Below w.heap.size w w'∧qO w.heap.size w' ra n rc ad (fun i=>(q i).length) cp (fun i=>lf (q i)) Rb B
theorem xF (w:World) (n:Nat) (k:Int) (hn:n≤12):Calls Try.prog 80 #[.int .i64 (n:Int),.int .i64 k] w (LK w n (lG k)):=by
 obtain⟨i0,hi0,hz0,hz1,hz2⟩:=info_parts sM;have hnl:(n:Int)≤12:=by omega
 have HQ0:=aA (jW.empty w (lG k));have HB0:=aA (aC w (.cells #[] 29))
 go_enter Try.func80,Try.ntmps80;go_wp2;go_loopw [5,6] (fun tv ii wr=>∃(j:Nat) (ad:Nat→Option Addr) (cp B:Nat→Nat),j≤n∧ii= .int .i64 (j:Int)∧Below w.heap.size w wr∧jW w.heap.size wr (lG k) j tv ad cp B) (fun _ ii _=>n-(intOf ii).toNat);case atStart=>exact⟨0,_,_,_,gT _,rfl,HB0.out,HQ0.out⟩
 case round=>
  obtain⟨j,ad,cp,B,hj,rfl,hB,hA⟩:=hrel;have HB:=aA hB
  have HA:=aA hA;by_cases hlt:j<n
  ·have hjl:(j:Int)<(n:Int):=by omega
   have hmax:j+1≤maxLen:=by unfold maxLen;omega
   by_cases hjk:(j:Int)=k
   ·have hjb:((j:Int)==k)=true:=by simpa using hjk
    have hq:lG k j=[⟨1,⟨0,0,0,0⟩⟩]:=if_pos hjk;have b1:=aC wr (.cells #[.int .i64 1,.int .i64 0,.int .i64 0,.int .i64 0,.int .i64 0] 33)
    have hA1:=hA.below b1;have hO1:oS wr.heap.size (wr.alloc (.cells #[.int .i64 1,.int .i64 0,.int .i64 0,.int .i64 0,.int .i64 0] 33)) (some ⟨wr.heap.size,0,none⟩) 1 (lG k j):=by
     rw[hq];have:=World.ownsRow_lit (base:=wr.heap.size) (e:=33) (size:=5) wr #[.int .i64 1,.int .i64 0,.int .i64 0,.int .i64 0,.int .i64 0] 1 (Nat.le_refl _) (by unfold maxLen;omega) rfl
     obtain⟨a',c',e,ho⟩:=aI (L:=[⟨1,⟨0,0,0,0⟩⟩]) this (by simp);cases e;exact ho
    have hB1:=aB hB b1;have HRND:Hid (∀(g0 cap0:Nat) (w5:World),w5.ownsRow w.heap.size 29 1 (.slice (some ⟨g0,0,none⟩) (j+1) cap0) (j+1) (uC ad (fun i=>(lG k i).length) cp j++[.slice (some ⟨wr.heap.size,0,none⟩) 1 1])→((wr.alloc (.cells #[.int .i64 1,.int .i64 0,.int .i64 0,.int .i64 0,.int .i64 0] 33)).alloc (.cells #[.slice (some ⟨wr.heap.size,0,none⟩) 1 1] 29)).grownBy w5 u5.ownBlock→(u5.ownBlock=some g0∨g0=((wr.alloc (.cells #[.int .i64 1,.int .i64 0,.int .i64 0,.int .i64 0,.int .i64 0] 33)).alloc (.cells #[.slice (some ⟨wr.heap.size,0,none⟩) 1 1] 29)).heap.size)→g0<w5.heap.size→∃ad' cp' B',jW w.heap.size w5 (lG k) (j+1) (.slice (some ⟨g0,0,none⟩) (j+1) cap0) ad' cp' B'):=fun g0 cap0 w5 h1 h2 h3 h4=>by
     refine jW.more hA hA1 hO1 ?_ ?_ ?_ h4
     ·rw[hq];exact h2
     ·rw[hq];exact h1
     ·rw[hq];exact h3
    have HA1:=aA hA1;have HB1:=aA hB1
    have HN:=aA (heap_alloc_new (wr.alloc (.cells #[.int .i64 1,.int .i64 0,.int .i64 0,.int .i64 0,.int .i64 0] 33)) (.cells #[.slice (some ⟨wr.heap.size,0,none⟩) 1 1] 29));have hsw:w.heap.size≤wr.heap.size:=hB.size
    clear hq hjk b1 hA1 hO1 hB1 hA hB;go_wp2_with (at_builtin;refine wpList_append_lies _ rfl (.tmp 16) (.tmp 19) 23 rfl w.heap.size 29 i0 _ 1 24 Try.underlying23 hi0 hz0 hz1 hz2 rfl (by omega) _ j (uC ad (fun i=>(lG k i).length) cp j) rfl (HA1.out.row.alloc _) ⟨wr.heap.size+1,0,none⟩ 1 1 [.slice (some ⟨wr.heap.size,0,none⟩) 1 1] rfl rfl (by have:=HN.out;rw[World.size_alloc]at this;exact World.news_of_block this) (gD _ _ _) (by omega) hmax (by omega) (by simp;omega) _ rfl ?_;intro g1 cap1 w7 hown2 hgrow2 hat2 hlt2;have HR:=aA (HRND.out g1 cap1 w7 hown2 hgrow2 hat2 hlt2);have HB7:=aA ((HB1.out.alloc HB1.out.size _).grown hgrow2 (by simp;omega) (fun k e=>(HA1.out.row.lt k e).1));clear hown2 hgrow2 hat2 hlt2);obtain⟨ad',cp',B',hA7⟩:=HR.out;go_roundw;case rel=>exact⟨j+1,ad',cp',B',by omega,by go_num,HB7.out,hA7⟩
    case measure=>simp[intOf];omega
   ·have hjb:((j:Int)==k)=false:=by simpa using hjk
    have hq:lG k j=[]:=if_neg hjk;have b1:=aC wr (.cells #[] 33)
    have hA1:=hA.below b1;have hO1:oS wr.heap.size (wr.alloc (.cells #[] 33)) (some ⟨wr.heap.size,0,none⟩) 0 (lG k j):=by rw[hq];exact⟨⟨Nat.le_refl _,by simp,.inl rfl⟩,.inl rfl,.inl rfl⟩
    have hB1:=aB hB b1;have HRND:Hid (∀(g0 cap0:Nat) (w5:World),w5.ownsRow w.heap.size 29 1 (.slice (some ⟨g0,0,none⟩) (j+1) cap0) (j+1) (uC ad (fun i=>(lG k i).length) cp j++[.slice (some ⟨wr.heap.size,0,none⟩) 0 0])→((wr.alloc (.cells #[] 33)).alloc (.cells #[.slice (some ⟨wr.heap.size,0,none⟩) 0 0] 29)).grownBy w5 u5.ownBlock→(u5.ownBlock=some g0∨g0=((wr.alloc (.cells #[] 33)).alloc (.cells #[.slice (some ⟨wr.heap.size,0,none⟩) 0 0] 29)).heap.size)→g0<w5.heap.size→∃ad' cp' B',jW w.heap.size w5 (lG k) (j+1) (.slice (some ⟨g0,0,none⟩) (j+1) cap0) ad' cp' B'):=fun g0 cap0 w5 h1 h2 h3 h4=>by
     refine jW.more hA hA1 hO1 ?_ ?_ ?_ h4
     ·rw[hq];exact h2
     ·rw[hq];exact h1
     ·rw[hq];exact h3
    have HA1:=aA hA1;have HB1:=aA hB1
    have HN:=aA (heap_alloc_new (wr.alloc (.cells #[] 33)) (.cells #[.slice (some ⟨wr.heap.size,0,none⟩) 0 0] 29));have hsw:w.heap.size≤wr.heap.size:=hB.size
    clear hq hjk b1 hA1 hO1 hB1 hA hB;go_wp2_with (at_builtin;refine wpList_append_lies _ rfl (.tmp 21) (.tmp 23) 23 rfl w.heap.size 29 i0 _ 1 24 Try.underlying23 hi0 hz0 hz1 hz2 rfl (by omega) _ j (uC ad (fun i=>(lG k i).length) cp j) rfl (HA1.out.row.alloc _) ⟨wr.heap.size+1,0,none⟩ 1 1 [.slice (some ⟨wr.heap.size,0,none⟩) 0 0] rfl rfl (by have:=HN.out;rw[World.size_alloc]at this;exact World.news_of_block this) (gD _ _ _) (by omega) hmax (by omega) (by simp;omega) _ rfl ?_;intro g1 cap1 w7 hown2 hgrow2 hat2 hlt2;have HR:=aA (HRND.out g1 cap1 w7 hown2 hgrow2 hat2 hlt2);have HB7:=aA ((HB1.out.alloc HB1.out.size _).grown hgrow2 (by simp;omega) (fun k e=>(HA1.out.row.lt k e).1));clear hown2 hgrow2 hat2 hlt2);obtain⟨ad',cp',B',hA7⟩:=HR.out;go_roundw;case rel=>exact⟨j+1,ad',cp',B',by omega,by go_num,HB7.out,hA7⟩
    case measure=>simp[intOf];omega
  ·have hjn:¬(j:Int)<(n:Int):=by omega
   have hje:j=n:=by omega
   subst hje;obtain⟨qa,qc,R,etv,hO⟩:=hA.out (by omega);subst etv;have HO:=aA hO
   clear hB hA hO;go_wp2;go_ret;exact⟨qa,qc,ad,cp,R,B,rfl,HB.out,HO.out⟩
theorem GY (w:World) (n:Nat) (hn:n≤12):Calls Try.prog 124 #[.int .i64 (n:Int)] w (LK w n (fun _=>[])):=by
 have hq:lG (-1)=fun _=>[]:=funext fun i=>if_neg (by omega);have HC:=xF w n (-1) hn
 rw[hq]at HC;have HCC:=aA HC
 clear HC hq;go_enter Try.func124,Try.ntmps124;go_wp2_with fail;refine HCC.out.mono ?_;rintro r w1 ⟨ra,rc,ad,cp,Rb,B,rfl,b1,ho⟩;have HO:=aA ho
 have HB:=aA b1;clear b1 ho;go_wp2;go_ret;exact⟨ra,rc,ad,cp,Rb,B,rfl,HB.out,HO.out⟩
def mE (w:World) (n:Nat) (R:Option (Nat→List T)) (r:Ending) (w':World):Prop:=
 Below w.heap.size w w'∧((∃q ra rc ad cp Rb B,R=some q∧r= .returned (.tuple #[.slice ra n rc,.bool true])∧qO w.heap.size w' ra n rc ad (fun i=>(q i).length) cp (fun i=>lf (q i)) Rb B)∨(R=none∧∃ra rc,r= .returned (.tuple #[.slice ra 0 rc,.bool false])))
theorem tK {q:List T} (hq:bZ q=true):bZ (gN 100 q)=true:=dX (by rw[dI];exact(aH hq).1) (dV (by omega) (by omega) (aH hq).2)
theorem AU {w:World} {a:Option Addr} {c:Nat} {q:List T} (h:RL w a c q) (hq:bZ q=true):Calls Try.prog 137 #[.int .i64 100,.slice a q.length c] w (LJ w (gN 100 q)):=by
 refine(DB w 100 a q.length c (lf q) h (by omega) (by omega) (by have:=(aH hq).1;omega) (fun i hi=>(bG (show aL q.length (lf q)=true from hq)).2 i hi |>.2)).mono ?_;rintro r w' ⟨v,rfl,hb,ho⟩;rw[if_neg (by omega)]at ho;have e:BK 100 (lf q) q.length=gN 100 q:=rfl
 rw[e]at ho;exact DT (by rw[dI];exact(aH hq).1) ⟨v,rfl,hb,by rw[dI];exact ho⟩
theorem yV {w:World} {a b:Option Addr} {ca cb:Nat} {q X:List T} (ha:RL w a ca q) (hb:RL w b cb X) (hq:bZ q=true) (hX:bZ X=true):Calls Try.prog 65 #[.slice a q.length ca,.slice b X.length cb] w (CB w (jM (bR (lf q) (lf X) X.length q.length))):=by
 refine(DS w a b q.length ca X.length cb (lf q) (lf X) ha hb (aH hq).1 (aH hX).1 (bG hq).2 (bG hX).2).mono fun _ _ h=>wO ?_ h;cases hm:bR (lf q) (lf X) X.length q.length with
 |none=>exact gT _
 |some K=>exact eD _ K hm
theorem sQ (w:World) (g:Nat) (hg:g≤12) (ra:Option Addr) (rc:Nat) (adR:Nat→Option Addr) (cpR:Nat→Nat) (row:Nat→List T) (hr:gO w ra g rc adR (lN row) cpR (fN row)) (hrok:∀i,i<g→bZ (row i)=true) (qa:Option Addr) (qc:Nat) (q:List T) (hq:RL w qa qc q) (hqok:bZ q=true) (oa:Option Addr) (oc:Nat) (adO:Nat→Option Addr) (cpO:Nat→Nat) (oth:Nat→List T) (ho:gO w oa g oc adO (lN oth) cpO (fN oth)) (hook:∀i,i<g→bZ (oth i)=true):Calls Try.prog 123 #[.slice ra g rc,.slice qa q.length qc,.slice oa g oc] w (mE w g (bN row q oth g)):=by
 obtain⟨i0,hi0,hz0,hz1,hz2⟩:=info_parts sM;have hgl:(g:Int)≤12:=by omega
 obtain⟨R,hR⟩:∃R,bN row q oth g=R:=⟨_,rfl⟩
 rw[hR];have HR:=aA hR
 have HRO:=aA hr;have HQ:=aA hq
 have HO:=aA ho;have HB0:=aA (aC w (.cells #[] 29))
 have HA0:=aA (jW.empty w (fun _=>[]));have HQK:=aA hqok
 have HOK:=aA hook;have HRK:=aA hrok
 clear hr hq ho hR hqok hook hrok;go_enter Try.func123,Try.ntmps123;go_wp2;go_loopw [8,9] (fun tv ii wr=>∃(j:Nat) (X:Nat→List T) (ad:Nat→Option Addr) (cp B:Nat→Nat),j≤g∧ii= .int .i64 (j:Int)∧bN row q oth j=some X∧Below w.heap.size w wr∧jW w.heap.size wr X j tv ad cp B) (fun _ ii _=>g-(intOf ii).toNat);case atStart=>exact⟨0,fun _=>[],_,_,_,gT _,rfl,rfl,HB0.out,HA0.out⟩
 case round=>
  obtain⟨j,X,ad,cp,B,hj,rfl,hX,hB,hA⟩:=hrel;have HX:=aA hX
  have HB:=aA hB;have HA:=aA hA
  clear hX;by_cases hlt:j<g
  ·have hjl:(j:Int)<(g:Int):=by omega
   have hmax:j+1≤maxLen:=by unfold maxLen;omega
   rcases HO.out.2.2.1 with h0|⟨ob,off,rfl,hobl,hocl⟩
   ·omega
   rcases HRO.out.2.2.1 with h0|⟨rb,roff,rfl,hrbl,hrcl⟩
   ·omega
   obtain⟨O1,hO1⟩:∃O1,oth j=O1:=⟨_,rfl⟩
   obtain⟨R1,hR1⟩:∃R1,row j=R1:=⟨_,rfl⟩
   have dr:Below wr.heap.size wr wr.drew:=(cM _ _).drew;have hBd:=aB hB dr
   have hS:wr.drew.cell? ⟨ob,off+j,none⟩=some (.slice (adO j) O1.length (cpO j)):=(hBd.cell (p:=⟨ob,off+j,none⟩) hobl).trans (by rw[←hO1];exact hocl j hlt);have cR:wr.drew.cell? ⟨rb,roff+j,none⟩=some (.slice (adR j) R1.length (cpR j)):=(hBd.cell (p:=⟨rb,roff+j,none⟩) hrbl).trans (by rw[←hR1];exact hrcl j hlt)
   have RO1:Hid (RL wr.drew (adO j) (cpO j) O1):=by rw[←hO1];exact(HO.out.2.2.2 j hlt).below hBd
   have RR1:Hid (RL wr.drew (adR j) (cpR j) R1):=by rw[←hR1];exact(HRO.out.2.2.2 j hlt).below hBd
   have RQ1:=aA (HQ.out.below hBd);have okO:bZ O1=true:=by rw[←hO1];exact HOK.out j hlt
   have okR:bZ R1=true:=by rw[←hR1];exact HRK.out j hlt
   have HS:=aA hS;have HCR:=aA cR
   have HBd:=aA hBd;have HAd:=aA (hA.below dr)
   have hm:=sV (f:=lf q) (f2:=lf (gN 100 q)) (la:=q.length) (c:=100) (by omega) (by omega) (bG (show aL q.length (lf q)=true from HQK.out)).2 (bG (show aL O1.length (lf O1)=true from okO)).2 (fun i hi=>LW 100 q hi) q.length (Nat.le_refl _);obtain⟨E,hE⟩:∃E,eQ R1 q O1=E:=⟨_,rfl⟩
   have hE':eQ (row j) q (oth j)=E:=by rw[hO1,hR1];exact hE
   have hc1:=AU RQ1.out HQK.out;have HC1:=aA hc1
   have hrbr:rb<wr.drew.heap.size:=fG _ _ cR;clear hocl hrcl hS cR hO1 hR1 hB hA hBd dr hc1;cases hP:bR (lf q) (lf O1) O1.length q.length with
   |none=>
    rw[hP]at hm;have hRn:R=none:=by rw[←HR.out];refine kW hlt HX.out (hE'.trans ?_);rw[←hE];unfold eQ;rw[hP]
    subst hRn;have HC2:Hid (∀(W:World) (a b:Option Addr) (ca cb:Nat),RL W a ca (gN 100 q)→RL W b cb O1→Calls Try.prog 65 #[.slice a (gN 100 q).length ca,.slice b O1.length cb] W (CB W ([],false))):=fun W a b ca cb k1 k2=>by have:=yV k1 k2 (tK HQK.out) okO;rw[dI,hm]at this;rw[dI];exact this
    clear hm hP hE hE';go_wp2_with fail;have hS:=HS.out
    go_region_held3 (fun u=>u.cell? ⟨ob,off+j,none⟩=some (.slice (adO j) O1.length (cpO j))) (first|with_reducible exact hS|with_reducible exact((b5.cell (p:=⟨ob,off+j,none⟩) (fG _ _ hS)).trans hS)|with_reducible exact h6) (first|(go_at_call 137;refine HC1.out.mono ?_;rintro e w5 ⟨za,zc,rfl,b5,hz⟩)|(go_at_call 65;refine(HC2.out _ _ _ _ _ hz (RO1.out.below b5)).mono ?_;rintro e w6 ⟨ya,yc,rfl,b6,hy⟩;have h6:=(b6.cell (p:=⟨ob,off+j,none⟩) (fG w5 _ ((b5.cell (p:=⟨ob,off+j,none⟩) (fG _ _ hS)).trans hS))).trans ((b5.cell (p:=⟨ob,off+j,none⟩) (fG _ _ hS)).trans hS)))
    have HB6:=aA (aB (aB HBd.out b5) b6);clear hS b5 b6 hz hy h6;go_wp2;refine cN (results_tmp2 rfl _ _ _) rfl ?_;exact⟨HB6.out.alloc HB6.out.size _,.inr ⟨rfl,_,_,rfl⟩⟩
   |some P=>
    rw[hP]at hm;have okP:bZ (gN 100 P)=true:=tK (dX (eD _ P hP) (bM (bG (show aL q.length (lf q)=true from HQK.out)).2 (bG (show aL O1.length (lf O1)=true from okO)).2 _ P (Nat.le_refl _) hP))
    have HC2:Hid (∀(W:World) (a b:Option Addr) (ca cb:Nat),RL W a ca (gN 100 q)→RL W b cb O1→Calls Try.prog 65 #[.slice a (gN 100 q).length ca,.slice b O1.length cb] W (CB W (gN 100 P,true))):=fun W a b ca cb k1 k2=>by have:=yV k1 k2 (tK HQK.out) okO;rw[dI,hm]at this;rw[dI];exact this
    have hE2:E=if(cA R1 P).length≤400 then some (cA R1 P)else none:=by rw[←hE];unfold eQ;rw[hP]
    have hsl:(cA R1 P).length≤800:=by
     have h1:=wG R1 P;have h2:=(aH okR).1
     have h3:=eD _ P hP;omega
    clear hm hP hE;obtain⟨Y,hY⟩:∃Y,cA R1 P=Y:=⟨_,rfl⟩
    have HC3:Hid (∀(W:World) (a:Option Addr) (ca:Nat),RL W (adR j) (cpR j) R1→RL W a ca (gN 100 P)→Calls Try.prog 66 #[.slice (adR j) R1.length (cpR j),.slice a (gN 100 P).length ca] W fun r w'=>∃a' c',r= .returned (.slice a' Y.length c')∧Below W.heap.size W w'∧oS W.heap.size w' a' c' Y):=fun W a ca k1 k2=>by
     refine(kG W (adR j) a R1.length (cpR j) (gN 100 P).length ca (lf R1) (lf (gN 100 P)) k1 k2 (by have h2:=(aH okR).1;have h3:=(aH okP).1;omega) (fun i hi=>((bG (show aL R1.length (lf R1)=true from okR)).2 i hi).2) (fun i hi=>((bG (show aL (gN 100 P).length (lf (gN 100 P))=true from okP)).2 i hi).2)).mono ?_;rintro r w' ⟨v,rfl,hb,hown⟩;have e:dS (lf R1) R1.length (lf (gN 100 P)) (gN 100 P).length 0 0=Y:=by rw[←hY];rfl
     rw[e]at hown;obtain⟨a',c',rfl,hout⟩:=aI hown (by rw[←hY];omega);exact⟨a',c',rfl,hb,hout⟩
    rw[hY]at hE2 hsl;have HYE:=aA hE2
    have HE':=aA hE';have hYl:(Y.length:Int)≤800:=by omega
    clear hY hE2 hE' hsl;go_wp2_with fail;have hS:=HS.out
    go_region_held3 (fun u=>u.cell? ⟨ob,off+j,none⟩=some (.slice (adO j) O1.length (cpO j))) (first|with_reducible exact hS|with_reducible exact((b5.cell (p:=⟨ob,off+j,none⟩) (fG _ _ hS)).trans hS)|with_reducible exact h6) (first|(go_at_call 137;refine HC1.out.mono ?_;rintro e w5 ⟨za,zc,rfl,b5,hz⟩)|(go_at_call 65;refine(HC2.out _ _ _ _ _ hz (RO1.out.below b5)).mono ?_;rintro e w6 ⟨ya,yc,rfl,b6,hy⟩;have h6:=(b6.cell (p:=⟨ob,off+j,none⟩) (fG w5 _ ((b5.cell (p:=⟨ob,off+j,none⟩) (fG _ _ hS)).trans hS))).trans ((b5.cell (p:=⟨ob,off+j,none⟩) (fG _ _ hS)).trans hS)))
    have hB6:=aB (aB HBd.out b5) b6;have HB6:=aA hB6
    have b56:=aB b5 b6;have c6:w6.cell? ⟨rb,roff+j,none⟩=some (.slice (adR j) R1.length (cpR j)):=(b56.cell (p:=⟨rb,roff+j,none⟩) hrbr).trans HCR.out
    have R6:=aA (RR1.out.below b56);have Y6:=aA hy
    have A6:=aA (HAd.out.below b56);clear hS b5 b6 hz hy h6 hB6 b56 HC1 HC2;go_wp2_with fail;refine(HC3.out _ _ _ R6.out Y6.out).mono ?_;rintro r w7 ⟨va,vc,rfl,b7,hO7⟩;have HB7:=aA (aB HB6.out b7)
    have HA7:=aA (A6.out.below b7);have HO7:=aA hO7
    clear b7 hO7 c6 R6 Y6 HC3;by_cases hl4:Y.length≤400
    ·have hng:¬(400:Int)<(Y.length:Int):=by omega
     have hEs:eQ (row j) q (oth j)=some Y:=by rw[HE'.out,HYE.out,if_pos hl4]
     have HXN:=aA (lU HX.out hEs);have hAX:jW w.heap.size w7 (cU X j Y) j u8 ad cp B:=HA7.out.congr (fun i hi=>(if_neg (by omega)).symm)
     have hA6X:jW w.heap.size w6 (cU X j Y) j u8 ad cp B:=A6.out.congr (fun i hi=>(if_neg (by omega)).symm);have hYj:cU X j Y j=Y:=if_pos rfl
     have HRND:Hid (∀(g0 cap0:Nat) (w5:World),w5.ownsRow w.heap.size 29 1 (.slice (some ⟨g0,0,none⟩) (j+1) cap0) (j+1) (uC ad (fun i=>(cU X j Y i).length) cp j++[.slice va Y.length vc])→(w7.alloc (.cells #[.slice va Y.length vc] 29)).grownBy w5 u8.ownBlock→(u8.ownBlock=some g0∨g0=(w7.alloc (.cells #[.slice va Y.length vc] 29)).heap.size)→g0<w5.heap.size→∃ad' cp' B',jW w.heap.size w5 (cU X j Y) (j+1) (.slice (some ⟨g0,0,none⟩) (j+1) cap0) ad' cp' B'):=fun g0 cap0 w5 h1 h2 h3 h4=>by
      refine jW.more hA6X hAX (a:=va) (c:=vc) (by rw[hYj];exact HO7.out) ?_ ?_ ?_ h4
      ·rw[hYj];exact h2
      ·rw[hYj];exact h1
      ·rw[hYj];exact h3
     have HAX:=aA hAX;have hsw:w.heap.size≤w7.heap.size:=HB7.out.size
     clear hEs hAX hA6X hYj hl4;go_wp2_with (at_builtin;refine wpList_append_lies _ rfl (.tmp 43) (.tmp 45) 23 rfl w.heap.size 29 i0 _ 1 24 Try.underlying23 hi0 hz0 hz1 hz2 rfl (by omega) _ j (uC ad (fun i=>(cU X j Y i).length) cp j) rfl (HAX.out.row.alloc _) ⟨w7.heap.size,0,none⟩ 1 1 [.slice va Y.length vc] rfl rfl (World.news_of_block (heap_alloc_new w7 _)) (gD _ _ _) (by omega) hmax (by omega) (by simp;omega) _ rfl ?_;intro g1 cap1 w8 hown2 hgrow2 hat2 hlt2;have HRR:=aA (HRND.out g1 cap1 w8 hown2 hgrow2 hat2 hlt2);have HB8:=aA ((HB7.out.alloc HB7.out.size _).grown hgrow2 (by simp;omega) (fun k e=>(HAX.out.row.lt k e).1));clear hown2 hgrow2 hat2 hlt2);obtain⟨ad',cp',B',hA8⟩:=HRR.out;go_roundw;case rel=>exact⟨j+1,cU X j Y,ad',cp',B',by omega,by go_num,HXN.out,HB8.out,hA8⟩
     case measure=>simp[intOf];omega
    ·have hgt:(400:Int)<(Y.length:Int):=by omega
     have hRn:R=none:=by rw[←HR.out];refine kW hlt HX.out ?_;rw[HE'.out,HYE.out,if_neg hl4]
     subst hRn;go_wp2;refine cN (results_tmp2 rfl _ _ _) rfl ?_;exact⟨HB7.out.alloc HB7.out.size _,.inr ⟨rfl,_,_,rfl⟩⟩
  ·have hjn:¬(j:Int)<(g:Int):=by omega
   have hje:j=g:=by omega
   subst hje;have hRs:R=some X:=by rw[←HR.out];exact HX.out
   subst hRs;obtain⟨qa',qc',Rb,etv,hO⟩:=hA.out (by omega);subst etv;have HOO:=aA hO
   clear hB hA hO;go_wp2;refine cN (results_tmp2 rfl _ _ _) rfl ?_;exact⟨HB.out,.inl ⟨X,qa',qc',ad,cp,Rb,B,rfl,rfl,HOO.out⟩⟩
def MR (w:World) (a:Option Addr) (n cap:Nat) (A:Nat→Option Addr) (C:Nat→Nat) (AD:Nat→Nat→Option Addr) (CP:Nat→Nat→Nat) (N:Nat→Nat) (L:Nat→Nat→Nat) (F:Nat→Nat→Nat→T):Prop:=
 n≤cap∧n*40≤140737488351232∧(n=0∨∃b off,a=some ⟨b,off,none⟩∧b<w.heap.size∧∀i,i<n→w.cell? ⟨b,off+i,none⟩=some (.slice (A i) (N i) (C i)))∧∀i,i<n→gO w (A i) (N i) (C i) (AD i) (L i) (CP i) (F i)
theorem MR.below {w w':World} {a:Option Addr} {n cap:Nat} {A:Nat→Option Addr} {C:Nat→Nat} {AD:Nat→Nat→Option Addr} {CP:Nat→Nat→Nat} {N:Nat→Nat} {L:Nat→Nat→Nat} {F:Nat→Nat→Nat→T} (h:MR w a n cap A C AD CP N L F) (hb:Below w.heap.size w w'):MR w' a n cap A C AD CP N L F:=by
 refine⟨h.1,h.2.1,?_,fun i hi=>(h.2.2.2 i hi).below hb⟩;rcases h.2.2.1 with h0|⟨b,off,he,hlt,hc⟩
 ·exact .inl h0
 ·exact .inr ⟨b,off,he,lD hlt hb.size,fun i hi=>(hb.cell (p:=⟨b,off+i,none⟩) hlt).trans (hc i hi)⟩
abbrev iJ (u:World) (bx:Nat) (pv:Value) (ub:Nat) (t:T) (pb i:Nat) (v:Value):Prop:=
 u.cell? ⟨bx,1,none⟩=some pv∧u.cell? ⟨ub,0,none⟩=some (.int .i64 t.c)∧u.cell? ⟨ub,1,none⟩=some (.int .i64 t.m.x)∧u.cell? ⟨ub,2,none⟩=some (.int .i64 t.m.y)∧u.cell? ⟨ub,3,none⟩=some (.int .i64 t.m.d)∧u.cell? ⟨ub,4,none⟩=some (.int .i64 t.m.e)∧u.cell? ⟨pb,i,none⟩=some v
theorem iJ.mk {u:World} {bx:Nat} {pv:Value} {ub:Nat} {t:T} {pb i:Nat} {v:Value} (h1:u.cell? ⟨bx,1,none⟩=some pv) (h2:C5 u ub t) (h3:u.cell? ⟨pb,i,none⟩=some v):iJ u bx pv ub t pb i v:=⟨h1,h2.1,h2.2.1,h2.2.2.1,h2.2.2.2.1,h2.2.2.2.2,h3⟩
theorem iJ.below {u u':World} {bx:Nat} {pv:Value} {ub:Nat} {t:T} {pb i:Nat} {v:Value} (h:iJ u bx pv ub t pb i v) (hb:Below u.heap.size u u'):iJ u' bx pv ub t pb i v:=by
 obtain⟨a0,c0,c1,c2,c3,c4,d0⟩:=h;have l1:=fG u _ a0
 have l2:=fG u _ c0;have l3:=fG u _ d0
 exact⟨(hb.cell (p:=⟨bx,1,none⟩) l1).trans a0,(hb.cell (p:=⟨ub,0,none⟩) l2).trans c0,(hb.cell (p:=⟨ub,1,none⟩) l2).trans c1,(hb.cell (p:=⟨ub,2,none⟩) l2).trans c2,(hb.cell (p:=⟨ub,3,none⟩) l2).trans c3,(hb.cell (p:=⟨ub,4,none⟩) l2).trans c4,(hb.cell (p:=⟨pb,i,none⟩) l3).trans d0⟩
abbrev JI (u:World) (bx:Nat) (pv:Value) (qb j:Nat) (v1:Value) (pb i:Nat) (v2:Value):Prop:=u.cell? ⟨bx,1,none⟩=some pv∧u.cell? ⟨qb,j,none⟩=some v1∧u.cell? ⟨pb,i,none⟩=some v2
theorem JI.below {u u':World} {bx:Nat} {pv:Value} {qb j:Nat} {v1:Value} {pb i:Nat} {v2:Value} (h:JI u bx pv qb j v1 pb i v2) (hb:Below u.heap.size u u'):JI u' bx pv qb j v1 pb i v2:=
 ⟨(hb.cell (p:=⟨bx,1,none⟩) (fG u _ h.1)).trans h.1,(hb.cell (p:=⟨qb,j,none⟩) (fG u _ h.2.1)).trans h.2.1,(hb.cell (p:=⟨pb,i,none⟩) (fG u _ h.2.2)).trans h.2.2⟩
abbrev R3 (w:World) (pa:Option Addr) (m pc g:Nat) (A:Nat→Option Addr) (C:Nat→Nat) (AD:Nat→Nat→Option Addr) (CP:Nat→Nat→Nat) (P:Nat→Nat→List T):Prop:=MR w pa m pc A C AD CP (fun _=>g) (fun i=>lN (P i)) (fun i=>fN (P i))
theorem mE.no {w:World} {n:Nat} {r:Ending} {w':World} (h:mE w n none r w'):∃ra rc,r= .returned (.tuple #[.slice ra 0 rc,.bool false])∧Below w.heap.size w w':=by
 rcases h with⟨hb,⟨q,_,_,_,_,_,_,e,_⟩|⟨_,ra,rc,e⟩⟩
 ·cases e
 ·exact⟨ra,rc,e,hb⟩
theorem mE.yes {w:World} {n:Nat} {q:Nat→List T} {r:Ending} {w':World} (h:mE w n (some q) r w'):∃ra rc ad cp Rb B,r= .returned (.tuple #[.slice ra n rc,.bool true])∧Below w.heap.size w w'∧qO w.heap.size w' ra n rc ad (lN q) cp (fN q) Rb B:=by
 rcases h with⟨hb,⟨q',ra,rc,ad,cp,Rb,B,e,hr,ho⟩|⟨e,_⟩⟩
 ·cases e;exact⟨ra,rc,ad,cp,Rb,B,hr,hb,ho⟩
 ·cases e
def LI (w:World) (g:Nat) (E:Option (Nat→List T)) (r:Ending) (w':World):Prop:=Below w.heap.size w w'∧((∃R ra rc ad cp lo Rb B,E=some R∧r= .returned (.tuple #[.slice ra g rc,.bool true])∧w.heap.size≤lo∧qO lo w' ra g rc ad (fun i=>(R i).length) cp (fun i=>lf (R i)) Rb B)∨(E=none∧∃xa xc,r= .returned (.tuple #[.slice xa 0 xc,.bool false])))
theorem xH {g:Nat} {P:Nat→Nat→List T} {i k:Nat} {u v:T} {nq:Nat} {qs:Nat→List T} (h:bN (fun _=>[]) [gH u] (P i) g=none):jU g P i k u v nq qs=none:=by
 have e:eC g P i k u v=none:=by unfold eC;rw[h]
 unfold jU;rw[e];have:=fE (g:=g) (P:=P) (qs:=qs) (row:=none) (t:=0) rfl nq
 rwa[Nat.zero_add]at this
theorem xI {g:Nat} {P:Nat→Nat→List T} {i k:Nat} {u v:T} {R:Nat→List T} (h:bN (fun _=>[]) [gH u] (P i) g=some R):eC g P i k u v=bN R [v] (P k) g:=by unfold eC;rw[h]
theorem xJ {g:Nat} {P:Nat→Nat→List T} {qs:Nat→List T} {row:Option (Nat→List T)} {t:Nat} {R:Nat→List T} (h:eY g P qs row t=some R):eY g P qs row (t+1)=bN R (qs t) (P t) g:=by show(match eY g P qs row t with|none=>none|some R=>bN R (qs t) (P t) g)=_;rw[h]
theorem GV (w:World) (o:Int) (g m:Nat) (hg:g≤12) (hm:m≤12) (lv:Value) (hlv:lv.oneCell'=true) (pa:Option Addr) (pc:Nat) (d:Bool) (A:Nat→Option Addr) (C:Nat→Nat) (AD:Nat→Nat→Option Addr) (CP:Nat→Nat→Nat) (P:Nat→Nat→List T) (hP:R3 w pa m pc g A C AD CP P) (hPok:∀i,i<m→∀j,j<g→bZ (P i j)=true) (i k:Nat) (hi:i<m) (hk:k<m) (u v:T) (hu:u.m.ok=true∧1≤u.c∧u.c≤100) (hv:v.m.ok=true∧1≤v.c∧v.c≤100) (qa:Option Addr) (qc:Nat) (adQ:Nat→Option Addr) (cpQ:Nat→Nat) (qs:Nat→List T) (hq:gO w qa m qc adQ (lN qs) cpQ (fN qs)) (hqok:∀t,t<m→bZ (qs t)=true) (la:Option Addr) (lc:Nat) (hlve:lv= .slice la m lc):Calls Try.prog 108 #[.agg #[lv,.slice pa m pc,.bool d],.int .i64 (i:Int),.int .i64 (k:Int),.agg #[.int .i64 u.c,.int .i64 u.m.x,.int .i64 u.m.y,.int .i64 u.m.d,.int .i64 u.m.e],.agg #[.int .i64 v.c,.int .i64 v.m.x,.int .i64 v.m.y,.int .i64 v.m.d,.int .i64 v.m.e],.slice qa m qc] w (LI w g (jU g P i k u v m qs)):=by
 subst hlve;obtain⟨w3,hw3⟩:∃w3,((w.alloc (.cells #[.slice la m lc,.slice pa m pc,.bool d] 71)).alloc (.cells #[.int .i64 u.c,.int .i64 u.m.x,.int .i64 u.m.y,.int .i64 u.m.d,.int .i64 u.m.e] 33)).alloc (.cells #[.int .i64 v.c,.int .i64 v.m.x,.int .i64 v.m.y,.int .i64 v.m.d,.int .i64 v.m.e] 33)=w3:=⟨_,rfl⟩
 have b1:=aC w (.cells #[.slice la m lc,.slice pa m pc,.bool d] 71);have b2:=aC (w.alloc (.cells #[.slice la m lc,.slice pa m pc,.bool d] 71)) (.cells #[.int .i64 u.c,.int .i64 u.m.x,.int .i64 u.m.y,.int .i64 u.m.d,.int .i64 u.m.e] 33)
 have b3:=aC ((w.alloc (.cells #[.slice la m lc,.slice pa m pc,.bool d] 71)).alloc (.cells #[.int .i64 u.c,.int .i64 u.m.x,.int .i64 u.m.y,.int .i64 u.m.d,.int .i64 u.m.e] 33)) (.cells #[.int .i64 v.c,.int .i64 v.m.x,.int .i64 v.m.y,.int .i64 v.m.d,.int .i64 v.m.e] 33);have hB3:Below w.heap.size w w3:=by rw[←hw3];exact aB (aB b1 b2) b3
 have cb:w3.cell? ⟨w.heap.size,1,none⟩=some (.slice pa m pc):=by rw[←hw3];refine((aB b2 b3).cell (p:=⟨w.heap.size,1,none⟩) (by simp)).trans ?_;rw[World.cell?_alloc_at _ _ _ _ rfl];rfl
 have cu:C5 w3 (w.heap.size+1) u:=by
  rw[←hw3];have:=C5.box (w.alloc (.cells #[.slice la m lc,.slice pa m pc,.bool d] 71)) 33 u
  rw[World.size_alloc]at this;exact this.below b3
 have cv:C5 w3 (w.heap.size+1+1) v:=by
  rw[←hw3];have:=C5.box ((w.alloc (.cells #[.slice la m lc,.slice pa m pc,.bool d] 71)).alloc (.cells #[.int .i64 u.c,.int .i64 u.m.x,.int .i64 u.m.y,.int .i64 u.m.d,.int .i64 u.m.e] 33)) 33 v
  rwa[World.size_alloc,World.size_alloc]at this
 have hP3:=hP.below hB3;rcases hP3.2.2.1 with h0|⟨pb,off,rfl,hpl,hpc⟩
 ·omega
 have ci:w3.cell? ⟨pb,off+i,none⟩=some (.slice (A i) g (C i)):=hpc i hi;have ck:w3.cell? ⟨pb,off+k,none⟩=some (.slice (A k) g (C k)):=hpc k hk
 have hil:(i:Int)<(m:Int):=by omega
 have hkl:(k:Int)<(m:Int):=by omega
 have hml:(m:Int)≤12:=by omega
 have hgl:(g:Int)≤12:=by omega
 have dr:Below w3.heap.size w3 w3.drew:=(cM _ _).drew;have hS0:=(iJ.mk cb cu ci).below dr
 have hneg:=gZ (t:=gH u) ⟨hu.1,(xL hu.2.1 hu.2.2).1,(xL hu.2.1 hu.2.2).2⟩;have hone:=gZ hv
 have HS0:=aA hS0;have HCB:=aA cb
 have HCV:=aA cv;have HCK:=aA ck
 have HPC:=aA hpc;have HP3:=aA hP3
 have HB3:=aA hB3;have HQ3:=aA (hq.below hB3)
 have HPO:=aA hPok;have HQO:=aA hqok
 have HNG:=aA hneg;have HON:=aA hone
 have hwu:IntKind.i64.wrap (101-u.c)=101-u.c:=by rw[IntKind.wrap_i64];omega
 have DR:=aA dr;have hs3:w.heap.size≤w3.heap.size:=hB3.size
 have HPi:=aA ((hP3.2.2.2 i hi).below dr);have HZ:=fun(W:World)=>GY W g hg
 obtain⟨E1,hE1⟩:∃E,bN (fun _=>[]) [gH u] (P i) g=E:=⟨_,rfl⟩
 have HL1:Hid (∀(W:World) (za:Option Addr) (zc:Nat) (zad:Nat→Option Addr) (zcp:Nat→Nat) (na:Option Addr) (nc:Nat),gO W za g zc zad (lN (fun _=>[])) zcp (fN (fun _=>[]))→RL W na nc [gH u]→gO W (A i) g (C i) (AD i) (lN (P i)) (CP i) (fN (P i))→Calls Try.prog 123 #[.slice za g zc,.slice na 1 nc,.slice (A i) g (C i)] W (mE W g E1)):=fun W za zc zad zcp na nc k1 k2 k3=>by have:=sQ W g hg za zc zad zcp (fun _=>[]) k1 (fun _ _=>lA) na nc [gH u] k2 HNG.out (A i) (C i) (AD i) (CP i) (P i) k3 (HPO.out i hi);rw[hE1]at this;exact this
 have HE1:=aA hE1;clear hP hPok hq hqok hpc hP3 hS0 cb cu cv ci ck dr hneg hone b1 b2 b3 hB3 hu hv hE1;cases E1 with
 |none=>
  have HMN:=xH (k:=k) (v:=v) (nq:=m) (qs:=qs) HE1.out;rw[HMN];have HL2:Hid (∀(W:World) (za:Option Addr) (zc:Nat) (zad:Nat→Option Addr) (zcp:Nat→Nat) (na:Option Addr) (nc:Nat),gO W za g zc zad (lN (fun _=>[])) zcp (fN (fun _=>[]))→RL W na nc [gH u]→gO W (A i) g (C i) (AD i) (lN (P i)) (CP i) (fN (P i))→Calls Try.prog 123 #[.slice za g zc,.slice na 1 nc,.slice (A i) g (C i)] W fun r w'=>∃ra rc,r= .returned (.tuple #[.slice ra 0 rc,.bool false])∧Below W.heap.size W w'):=fun W za zc zad zcp na nc k1 k2 k3=>(HL1.out W za zc zad zcp na nc k1 k2 k3).mono fun r w' h=>h.no
  clear HL1 HMN HE1;go_enter Try.func108,Try.ntmps108;go_wp2_with fail;clear hw3;have hS:=HS0.out
  have bSa:Below w3.drew.heap.size w3.drew (w3.alloc (.cells #[.int .i64 (101-u.c),.int .i64 u.m.x,.int .i64 u.m.y,.int .i64 u.m.d,.int .i64 u.m.e] 33)).drew:=aC w3.drew _;have hSa:iJ (w3.alloc (.cells #[.int .i64 (101-u.c),.int .i64 u.m.x,.int .i64 u.m.y,.int .i64 u.m.d,.int .i64 u.m.e] 33)).drew w.heap.size (.slice (some ⟨pb,off,none⟩) m pc) (w.heap.size+1) u pb (off+i) (.slice (A i) g (C i)):=iJ.below hS bSa
  go_region_held3 (fun x=>iJ x w.heap.size (.slice (some ⟨pb,off,none⟩) m pc) (w.heap.size+1) u pb (off+i) (.slice (A i) g (C i))) (first|with_reducible exact h6|with_reducible exact iJ.below hS b5|with_reducible exact iJ.below (iJ.below hS b5) (aC _ _)|with_reducible exact iJ.below hSa b5|with_reducible exact hSa|with_reducible exact hS) (first|(go_at_call 124;refine(HZ _).mono ?_;rintro e w5 ⟨za,zc,zad,zcp,zR,zB,rfl,b5,ho5⟩)|(go_at_call 123;refine(HL2.out _ _ _ _ _ _ _ (by first|with_reducible exact ho5.rd.below (aC _ _)|with_reducible exact ho5.rd) (by first|exact eT _ (gH u)|exact((eT w3 (gH u)).below (cM _ _).drew).below b5) (by first|exact(HPi.out.below b5).below (aC _ _)|exact(HPi.out.below bSa).below b5)).mono ?_;rintro e w6 ⟨xa,xc,rfl,b6⟩;have h6:iJ w6 w.heap.size (.slice (some ⟨pb,off,none⟩) m pc) (w.heap.size+1) u pb (off+i) (.slice (A i) g (C i)):=(by first|exact iJ.below (iJ.below (iJ.below hS b5) (aC _ _)) b6|exact iJ.below (iJ.below hSa b5) b6);have hB6:Below w3.heap.size w3 w6:=(by first|exact aB (aB (aB DR.out b5) (aC _ _)) b6|exact aB (aB (aB DR.out bSa) b5) b6)))
  all_goals(
   have HB6:=aA (HB3.out.trans (hB6.mono hs3));clear hS hSa bSa b5 b6 h6 hB6 ho5;go_wp2;go_loopw [14,15,16] (fun rv ok ii wr=>rv= .slice xa 0 xc∧ok= .bool false∧ii= .int .i64 0∧wr=w6) (fun _ _ _ _=>0);case atStart=>exact⟨rfl,rfl,rfl,rfl⟩
   case round=>
    obtain⟨rfl,rfl,rfl,rfl⟩:=hrel;go_wp2;refine cN (results_tmp2 rfl _ _ _) rfl ?_
    exact⟨HB6.out,.inr ⟨rfl,_,_,rfl⟩⟩)
 |some R1=>
  have HL2:Hid (∀(W:World) (za:Option Addr) (zc:Nat) (zad:Nat→Option Addr) (zcp:Nat→Nat) (na:Option Addr) (nc:Nat),gO W za g zc zad (lN (fun _=>[])) zcp (fN (fun _=>[]))→RL W na nc [gH u]→gO W (A i) g (C i) (AD i) (lN (P i)) (CP i) (fN (P i))→Calls Try.prog 123 #[.slice za g zc,.slice na 1 nc,.slice (A i) g (C i)] W fun r w'=>∃ra rc ad cp Rb B,r= .returned (.tuple #[.slice ra g rc,.bool true])∧Below W.heap.size W w'∧qO W.heap.size w' ra g rc ad (lN R1) cp (fN R1) Rb B):=fun W za zc zad zcp na nc k1 k2 k3=>(HL1.out W za zc zad zcp na nc k1 k2 k3).mono fun r w' h=>h.yes;have HR1:=aA (iU (g:=g) (fun _ _=>lA) HNG.out (HPO.out i hi) g R1 (Nat.le_refl _) HE1.out)
  obtain⟨E2,hE2⟩:∃E,bN R1 [v] (P k) g=E:=⟨_,rfl⟩
  have HMD:=aA ((xI (k:=k) (v:=v) HE1.out).trans hE2);have HL3:Hid (∀(W:World) (za:Option Addr) (zc:Nat) (zad:Nat→Option Addr) (zcp:Nat→Nat) (na:Option Addr) (nc:Nat),gO W za g zc zad (lN R1) zcp (fN R1)→RL W na nc [v]→gO W (A k) g (C k) (AD k) (lN (P k)) (CP k) (fN (P k))→Calls Try.prog 123 #[.slice za g zc,.slice na 1 nc,.slice (A k) g (C k)] W (mE W g E2)):=fun W za zc zad zcp na nc k1 k2 k3=>by have:=sQ W g hg za zc zad zcp R1 k1 HR1.out na nc [v] k2 HON.out (A k) (C k) (AD k) (CP k) (P k) k3 (HPO.out k hk);rw[hE2]at this;exact this
  clear HL1 HE1 hE2;go_enter Try.func108,Try.ntmps108;go_wp2_with fail;clear hw3;have hS:=HS0.out
  have bSa:Below w3.drew.heap.size w3.drew (w3.alloc (.cells #[.int .i64 (101-u.c),.int .i64 u.m.x,.int .i64 u.m.y,.int .i64 u.m.d,.int .i64 u.m.e] 33)).drew:=aC w3.drew _;have hSa:iJ (w3.alloc (.cells #[.int .i64 (101-u.c),.int .i64 u.m.x,.int .i64 u.m.y,.int .i64 u.m.d,.int .i64 u.m.e] 33)).drew w.heap.size (.slice (some ⟨pb,off,none⟩) m pc) (w.heap.size+1) u pb (off+i) (.slice (A i) g (C i)):=iJ.below hS bSa
  go_region_held3 (fun x=>iJ x w.heap.size (.slice (some ⟨pb,off,none⟩) m pc) (w.heap.size+1) u pb (off+i) (.slice (A i) g (C i))) (first|with_reducible exact h6|with_reducible exact iJ.below hS b5|with_reducible exact iJ.below (iJ.below hS b5) (aC _ _)|with_reducible exact iJ.below hSa b5|with_reducible exact hSa|with_reducible exact hS) (first|(go_at_call 124;refine(HZ _).mono ?_;rintro e w5 ⟨za,zc,zad,zcp,zR,zB,rfl,b5,ho5⟩)|(go_at_call 123;refine(HL2.out _ _ _ _ _ _ _ (by first|with_reducible exact ho5.rd.below (aC _ _)|with_reducible exact ho5.rd) (by first|exact eT _ (gH u)|exact((eT w3 (gH u)).below (cM _ _).drew).below b5) (by first|exact(HPi.out.below b5).below (aC _ _)|exact(HPi.out.below bSa).below b5)).mono ?_;rintro e w6 ⟨xa,xc,xad,xcp,xRb,xB,rfl,b6,ho6⟩;have h6:iJ w6 w.heap.size (.slice (some ⟨pb,off,none⟩) m pc) (w.heap.size+1) u pb (off+i) (.slice (A i) g (C i)):=(by first|exact iJ.below (iJ.below (iJ.below hS b5) (aC _ _)) b6|exact iJ.below (iJ.below hSa b5) b6);have hB6:Below w3.heap.size w3 w6:=(by first|exact aB (aB (aB DR.out b5) (aC _ _)) b6|exact aB (aB (aB DR.out bSa) b5) b6)))
  all_goals(
   have HB6:=aA hB6;have HX6:=aA ho6.rd
   have dr6:Below w6.heap.size w6 w6.drew:=(cM _ _).drew;have hB6d:=aB hB6 dr6
   have hSv:=(iJ.mk HCB.out HCV.out HCK.out).below hB6d;have HSV:=aA hSv
   have HPk:=aA ((HP3.out.2.2.2 k hk).below hB6d);have HX6d:=aA (ho6.rd.below dr6)
   have HB6d:=aA hB6d;clear hS hSa bSa b5 b6 h6 hB6 ho5 ho6 hB6d hSv dr6;rcases E2 with _|R2
   ·have HL4:Hid (∀(W:World) (za:Option Addr) (zc:Nat) (zad:Nat→Option Addr) (zcp:Nat→Nat) (na:Option Addr) (nc:Nat),gO W za g zc zad (lN R1) zcp (fN R1)→RL W na nc [v]→gO W (A k) g (C k) (AD k) (lN (P k)) (CP k) (fN (P k))→Calls Try.prog 123 #[.slice za g zc,.slice na 1 nc,.slice (A k) g (C k)] W fun r w'=>∃ra rc,r= .returned (.tuple #[.slice ra 0 rc,.bool false])∧Below W.heap.size W w'):=fun W za zc zad zcp na nc k1 k2 k3=>(HL3.out W za zc zad zcp na nc k1 k2 k3).mono fun r w' h=>h.no;have hmn:jU g P i k u v m qs=none:=by
     have:=fE (g:=g) (P:=P) (qs:=qs) (row:=eC g P i k u v) (t:=0) HMD.out m
     rwa[Nat.zero_add]at this
    have HMN:=aA hmn;clear hmn HL3;go_wp2_with fail;have hSv:=HSV.out
    go_region_held3 (fun x=>iJ x w.heap.size (.slice (some ⟨pb,off,none⟩) m pc) (w.heap.size+1+1) v pb (off+k) (.slice (A k) g (C k))) (first|with_reducible exact h7|with_reducible exact iJ.below hSv (aC _ _)|with_reducible exact hSv) (first|(go_at_call 123;refine(HL4.out _ _ _ _ _ _ _ (HX6d.out.below (aC _ _)) (eT _ v) (HPk.out.below (aC _ _))).mono ?_;rintro e w7 ⟨xa2,xc2,rfl,b7⟩;have h7:iJ w7 w.heap.size (.slice (some ⟨pb,off,none⟩) m pc) (w.heap.size+1+1) v pb (off+k) (.slice (A k) g (C k)):=iJ.below (iJ.below hSv (aC _ _)) b7))
    have HB7:=aA (HB3.out.trans ((aB (aB HB6d.out (aC _ _)) b7).mono hs3));clear hSv h7 b7;go_wp2;go_loopw [14,15,16] (fun rv ok ii wr=>rv= .slice xa2 0 xc2∧ok= .bool false∧ii= .int .i64 0∧wr=w7) (fun _ _ _ _=>0);case atStart=>exact⟨rfl,rfl,rfl,rfl⟩
    case round=>
     obtain⟨rfl,rfl,rfl,rfl⟩:=hrel;go_wp2;refine cN (results_tmp2 rfl _ _ _) rfl ?_;exact⟨HB7.out,.inr ⟨HMN.out,_,_,rfl⟩⟩
   ·have HL4:Hid (∀(W:World) (za:Option Addr) (zc:Nat) (zad:Nat→Option Addr) (zcp:Nat→Nat) (na:Option Addr) (nc:Nat),gO W za g zc zad (lN R1) zcp (fN R1)→RL W na nc [v]→gO W (A k) g (C k) (AD k) (lN (P k)) (CP k) (fN (P k))→Calls Try.prog 123 #[.slice za g zc,.slice na 1 nc,.slice (A k) g (C k)] W fun r w'=>∃ra rc ad cp Rb B,r= .returned (.tuple #[.slice ra g rc,.bool true])∧Below W.heap.size W w'∧qO W.heap.size w' ra g rc ad (lN R2) cp (fN R2) Rb B):=fun W za zc zad zcp na nc k1 k2 k3=>(HL3.out W za zc zad zcp na nc k1 k2 k3).mono fun r w' h=>h.yes;clear HL3;go_wp2_with fail;have hSv:=HSV.out
    go_region_held3 (fun x=>iJ x w.heap.size (.slice (some ⟨pb,off,none⟩) m pc) (w.heap.size+1+1) v pb (off+k) (.slice (A k) g (C k))) (first|with_reducible exact h7|with_reducible exact iJ.below hSv (aC _ _)|with_reducible exact hSv) (first|(go_at_call 123;refine(HL4.out _ _ _ _ _ _ _ (HX6d.out.below (aC _ _)) (eT _ v) (HPk.out.below (aC _ _))).mono ?_;rintro e w7 ⟨ya,yc,yad,ycp,yRb,yB,rfl,b7,ho7⟩;have h7:iJ w7 w.heap.size (.slice (some ⟨pb,off,none⟩) m pc) (w.heap.size+1+1) v pb (off+k) (.slice (A k) g (C k)):=iJ.below (iJ.below hSv (aC _ _)) b7))
    have hB7:=aB (aB HB6d.out (aC _ _)) b7;have HB7:=aA hB7
    have HO7:=aA ho7;have HSZ:Hid (w.heap.size≤(w6.drew.alloc (.cells #[.int .i64 v.c,.int .i64 v.m.x,.int .i64 v.m.y,.int .i64 v.m.d,.int .i64 v.m.e] 33)).heap.size):=kM (kM hs3 HB6d.out.size) (by simp)
    clear hSv h7 b7 ho7 hB7;go_wp2;go_loopw [14,15,16] (fun rv ok ii wr=>∃t:Nat,t≤m∧ii= .int .i64 (t:Int)∧Below w3.heap.size w3 wr∧((ok= .bool true∧∃(X:Nat→List T) (ra:Option Addr) (rc:Nat) (ad:Nat→Option Addr) (cp:Nat→Nat) (lo Rb:Nat) (B:Nat→Nat),rv= .slice ra g rc∧eY g P qs (eC g P i k u v) t=some X∧w.heap.size≤lo∧qO lo wr ra g rc ad (lN X) cp (fN X) Rb B)∨(ok= .bool false∧(∃xa xc,rv= .slice xa 0 xc)∧jU g P i k u v m qs=none))) (fun _ _ ii _=>m-(intOf ii).toNat);case atStart=>exact⟨0,gT _,rfl,HB7.out,.inl ⟨rfl,R2,ya,yc,yad,ycp,_,yRb,yB,rfl,HMD.out,HSZ.out,HO7.out⟩⟩
    case round=>
     obtain⟨t,ht,rfl,hB,hcase⟩:=hrel;have HB:=aA hB
     rcases hcase with⟨rfl,X,ra,rc,ad,cp,lo,Rb,Bq,rfl,hX,hlo,hO⟩|⟨rfl,⟨xa2,xc2,rfl⟩,hno⟩
     ·have HX:=aA hX;have HO:=aA hO
      clear hX;by_cases htm:t<m
      ·have htl:(t:Int)<(m:Int):=by omega
       rcases HQ3.out.2.2.1 with h0|⟨qb,qoff,rfl,hqb,hqc⟩
       ·omega
       obtain⟨q1,hq1⟩:∃q1,qs t=q1:=⟨_,rfl⟩
       have dr7:Below wr.heap.size wr wr.drew:=(cM _ _).drew;have hBd:=aB hB dr7
       have hSt:JI wr.drew w.heap.size (.slice (some ⟨pb,off,none⟩) m pc) qb (qoff+t) (.slice (adQ t) q1.length (cpQ t)) pb (off+t) (.slice (A t) g (C t)):=⟨(hBd.cell (p:=⟨w.heap.size,1,none⟩) (fG w3 _ HCB.out)).trans HCB.out,(hBd.cell (p:=⟨qb,qoff+t,none⟩) hqb).trans (by rw[←hq1];exact hqc t htm),(hBd.cell (p:=⟨pb,off+t,none⟩) hpl).trans (HPC.out t htm)⟩
       have HST:=aA hSt;have RQ:Hid (RL wr.drew (adQ t) (cpQ t) q1):=by rw[←hq1];exact(HQ3.out.2.2.2 t htm).below hBd
       have RP:=aA ((HP3.out.2.2.2 t htm).below hBd);have RX:=aA (hO.rd.below dr7)
       have okq:bZ q1=true:=by rw[←hq1];exact HQO.out t htm
       have okX:=pE (u:=u) (v:=v) hi hk HPO.out HNG.out HON.out HQO.out t X ht HX.out;obtain⟨E3,hE3⟩:∃E,bN X q1 (P t) g=E:=⟨_,rfl⟩
       have hstep:eY g P qs (eC g P i k u v) (t+1)=E3:=by rw[xJ HX.out,hq1,hE3]
       have hc:=sQ wr.drew g hg ra rc ad cp X RX.out okX (adQ t) (cpQ t) q1 RQ.out okq (A t) (C t) (AD t) (CP t) (P t) RP.out (HPO.out t htm);rw[hE3]at hc;have HC:=aA hc
       have HSTEP:=aA hstep;have HBd:=aA hBd
       clear hSt hqc hq1 hBd dr7 hc hstep hE3 okX okq hB hO;rcases E3 with _|X3
       ·have HC2:=aA (HC.out.mono fun r w' h=>mE.no h);have hmn:jU g P i k u v m qs=none:=by
         have:=fE (g:=g) (P:=P) (qs:=qs) (row:=eC g P i k u v) HSTEP.out (m-(t+1))
         rwa[show t+1+(m-(t+1))=m by omega]at this
        have HMN:=aA hmn;clear hmn HC;go_wp2_with fail;have hS:=HST.out
        go_region_held3 (fun x=>JI x w.heap.size (.slice (some ⟨pb,off,none⟩) m pc) qb (qoff+t) (.slice (adQ t) q1.length (cpQ t)) pb (off+t) (.slice (A t) g (C t))) (first|with_reducible exact JI.below hS b8|with_reducible exact hS) (first|(go_at_call 123;refine HC2.out.mono ?_;rintro e w8 ⟨xa3,xc3,rfl,b8⟩))
        have HB8:=aA (aB HBd.out b8);clear hS b8;go_wp2;go_roundw;case rel=>exact⟨t+1,by omega,by go_num,HB8.out,.inr ⟨rfl,⟨xa3,xc3,rfl⟩,HMN.out⟩⟩
        case measure=>simp[intOf];omega
       ·have HC2:=aA (HC.out.mono fun r w' h=>mE.yes h);clear HC;go_wp2_with fail;have hS:=HST.out
        go_region_held3 (fun x=>JI x w.heap.size (.slice (some ⟨pb,off,none⟩) m pc) qb (qoff+t) (.slice (adQ t) q1.length (cpQ t)) pb (off+t) (.slice (A t) g (C t))) (first|with_reducible exact JI.below hS b8|with_reducible exact hS) (first|(go_at_call 123;refine HC2.out.mono ?_;rintro e w8 ⟨ya3,yc3,yad3,ycp3,yRb3,yB3,rfl,b8,ho8⟩))
        have HB8:=aA (aB HBd.out b8);have HO8:=aA ho8
        have hlo8:w.heap.size≤wr.drew.heap.size:=by have:=HBd.out.size;omega
        have HLO8:=aA hlo8;clear hS b8 ho8 hlo8;go_wp2;go_roundw;case rel=>exact⟨t+1,by omega,by go_num,HB8.out,.inl ⟨rfl,X3,ya3,yc3,yad3,ycp3,_,yRb3,yB3,rfl,HSTEP.out,HLO8.out,HO8.out⟩⟩
        case measure=>simp[intOf];omega
      ·have hte:t=m:=by omega
       subst hte;have hnl:¬(t:Int)<(t:Int):=by omega
       have HBW:=aA (HB3.out.trans (hB.mono hs3));clear hB hO;go_wp2;refine cN (results_tmp2 rfl _ _ _) rfl ?_;exact⟨HBW.out,.inl ⟨X,ra,rc,ad,cp,lo,Rb,Bq,HX.out,rfl,hlo,HO.out⟩⟩
     ·have HNO:=aA hno;have HBW:=aA (HB3.out.trans (hB.mono hs3))
      clear hno hB;by_cases htm:t<m
      ·have htl:(t:Int)<(m:Int):=by omega
       go_wp2;refine cN (results_tmp2 rfl _ _ _) rfl ?_;exact⟨HBW.out,.inr ⟨HNO.out,_,_,rfl⟩⟩
      ·have htl:¬(t:Int)<(m:Int):=by omega
       go_wp2;refine cN (results_tmp2 rfl _ _ _) rfl ?_
       exact⟨HBW.out,.inr ⟨HNO.out,_,_,rfl⟩⟩)
end Go.Proofs.Ytbkighpmkadmmaa
