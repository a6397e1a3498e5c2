/-
  The model runs lines (DskRun).
-/
import Derived.Test.YtkcmamepoplcdaaGreatDoorVbp
import Derived.Test.YtkcmamepoplcdaaGreatDoorVbu
set_option maxHeartbeats 16000000
set_option maxRecDepth 100000
namespace Go.Proofs.YtkcmamepoplcdaaGreatDoor
open Go.Shelf Go.RowKit Go.Deep
set_option linter.unusedVariables false
set_option linter.unusedSimpArgs false
theorem NG (W:List (List UInt8)) (a0:Option Addr) (cap0:Nat) (w:World) (h:GL w a0 cap0 W):Calls Tryz.prog 14 #[.slice a0 W.length cap0] w fun e w'=>∃v,e= .returned v∧Below w.heap.size w w'∧qB w.heap.size v (cN W) w':=by
 obtain⟨i0,hi0,hz0,hz1,hz2⟩:=info_parts pM;obtain⟨N,hN⟩:∃N,W.length=N:=⟨_,rfl⟩
 by_cases h60:60<N
 ·have hI:(60:Int)<(N:Int):=by omega
  have HR:Hid (cN W=[[108,111,110,103]]):=by unfold cN;rw[if_pos (by omega)];exact aA rfl
  rw[hN];clear h hN h60;go_enter Tryz.func14,Tryz.ntmps14;go_wp2;go_ret;have HL:qB w.heap.size (.slice (some ⟨w.heap.size+1,0,none⟩) 1 1) [[108,111,110,103]] ((w.alloc (.cells #[] 9)).alloc (.cells #[.string ⟨#[108,111,110,103]⟩] 9)):=by have q:=World.ownsRow_lit (base:=w.heap.size) (e:=9) (size:=1) (w.alloc (.cells #[] 9)) #[.string ⟨#[108,111,110,103]⟩] 1 (by simp) (by decide) rfl;rw[World.size_alloc]at q;exact q
  exact⟨_,rfl,dN _ _ _,by rw[HR.out];exact HL⟩
 have hI:¬(60:Int)<(N:Int):=by omega
 have hN60:N≤60:=by omega
 have HR:Hid (cN W=(fH W N).2):=by unfold cN;rw[hN,if_neg h60];exact aA rfl
 have HH:=aA h;have HN:=aA hN
 rw[hN];clear h hN h60;have hmk:=QA
 have HI0:Hid (EC w ((w.alloc (.cells #[] 9)).alloc (.cells #[.slice none 0 0,.slice none 0 0,.slice none 0 0,.slice none 0 0,.slice none 0 0,.slice none 0 0] 22)) (w.heap.size+1) (fH W 0).1 (fH W 0).2 (fun _=>none) (fun _=>0) (.slice (some ⟨w.heap.size,0,none⟩) 0 0)):=aA ⟨by have q:=tP.new (w.alloc (.cells #[] 9));rw[World.size_alloc]at q;exact q,(oU w w.heap.size (Nat.le_refl _)).alloc _,dN w _ _⟩;go_enter Tryz.func14,Tryz.ntmps14;go_wp2;go_loopw [5,3] (fun vj vt wr=>∃(j:Nat) (tv:Value) (ad:Nat→Option Addr) (cp:Nat→Nat),j≤N∧vj= .int .i64 (j:Int)∧vt=tv∧Hid (EC w wr (w.heap.size+1) (fH W j).1 (fH W j).2 ad cp tv)) (fun vj _ _=>N-(intOf vj).toNat);case atStart=>exact⟨0,_,_,_,iK _,rfl,rfl,HI0⟩
 case round=>
  obtain⟨j,tv,ad,cp,hj,rfl,hvt,HI⟩:=hrel;obtain rfl:=hvt.symm;by_cases hjN:j<N
  ·have hjI:(j:Int)<(N:Int):=by omega
   obtain⟨l,hl⟩:∃l,W[j]? =some l:=⟨_,List.getElem?_eq_getElem (by rw[HN.out];exact hjN)⟩
   have hll:l.length≤1048576:=HH.out.2.2 l (List.mem_of_getElem? hl);have HST:Hid (fH W (j+1)=dT j l (fH W j)):=by show Hid (dT j (W.getD j []) (fH W j)=_);rw[List.getD_eq_getElem?_getD,hl];exact aA rfl
   have HOL:=aA (pA W j);obtain⟨F,out,hst⟩:∃F out,fH W j=(F,out):=⟨_,_,rfl⟩
   rw[hst]at HI HST HOL;simp only at HI HOL;obtain⟨b0,off0,rfl,hb0,hcl⟩:∃b off,a0=some ⟨b,off,none⟩∧b<w.heap.size∧∀(i:Nat) (l:List UInt8),W[i]? =some l→w.cell? ⟨b,off+i,none⟩=some (.string ⟨l.toArray⟩):=HH.out.2.1.resolve_left (by rw[HN.out];omega)
   have hcx:=(HI.out.2.2.cell (p:=⟨b0,off0+j,none⟩) hb0).trans (hcl j l hl);have hol:=HOL.out
   have hs1:w.heap.size≤wr.heap.size:=HI.out.2.2.size;have hblt:(w.heap.size+1)<wr.heap.size:=HI.out.1.lt
   clear hl hcl hb0 HOL hst;obtain⟨R,hR⟩:∃R,dP l=R:=⟨_,rfl⟩
   obtain⟨⟨k,to,a,b,p⟩,ok⟩:=R;have HLN:Hid (ok=true→0≤to∧to≤5):=aA (fun e=>by have q:=(uI (s:=l) (by rw[hR];exact e)).ok.to;rw[hR]at q;exact q)
   have HRD:Hid (∀u,Calls Tryz.prog 8 #[.string ⟨l.toArray⟩] u fun e w'=>∃pa cap,e= .returned (.tuple #[.agg #[.int .i64 k,.int .i64 to,.int .i64 a,.int .i64 b,.slice pa p.length cap],.bool ok])∧Below u.heap.size u w'∧iT u.heap.size w' pa cap p):=aA (fun u=>by
    have q:=IP l hll u;unfold hZ at q;rw[hR]at q
    exact q)
   have HQ:Hid ((ok=false→dT j l (F,out)=(F,out++[jL (j+1)]))∧(ok=true→(pK ⟨k,to,a,b,p⟩ F).2=false→dT j l (F,out)=(F,out++[jM (j+1)]))∧(ok=true→(pK ⟨k,to,a,b,p⟩ F).2=true→k=8→dT j l (F,out)=(F,out++[cY (pK ⟨k,to,a,b,p⟩ F).1.length (lf (pK ⟨k,to,a,b,p⟩ F).1)]))∧(ok=true→(pK ⟨k,to,a,b,p⟩ F).2=true→k≠8→dT j l (F,out)=(fun i=>if i=to.toNat then(pK ⟨k,to,a,b,p⟩ F).1 else F i,out))):=aA (by
    have q1:=@AD j l (F,out);have q2:=@sU j l (F,out)
    have q3:=@sV j l (F,out);have q4:=@vE j l (F,out)
    rw[hR]at q1 q2 q3 q4
    exact⟨q1,q2,q3,q4⟩)
   clear hR;obtain⟨Q,hQ⟩:∃Q,pK ⟨k,to,a,b,p⟩ F=Q:=⟨_,rfl⟩
   obtain⟨L,fine⟩:=Q
   have HDO:Hid (∀(u:World) pa cap,tP u (w.heap.size+1) F ad cp→Rd u pa p.length cap (lf p)→Calls Tryz.prog 42 #[.slice (some ⟨(w.heap.size+1),0,none⟩) 6 6,.agg #[.int .i64 k,.int .i64 to,.int .i64 a,.int .i64 b,.slice pa p.length cap]] u fun e w'=>∃a' cap',e= .returned (.tuple #[.slice a' L.length cap',.bool fine])∧Below u.heap.size u w'∧iT u.heap.size w' a' cap' L):=aA (fun u pa cap hs hr=>by
    have lenL:L.length≤400:=by have q:=ER k to a b p 6 (fun i=>(F i).length) (fun i=>lf (F i));unfold pK at hQ;simp only at hQ;rw[hQ]at q;exact q
    refine(QY k to a b _ 6 6 ad _ cp _ pa cap p u hs.rds hr).mono ?_;unfold pK at hQ;simp only at hQ;rw[hQ];rintro e w' ⟨v,rfl,hb,hown⟩;obtain⟨a',cap',rfl,hout⟩:=aJ hown (by show L.length*40≤_;omega)
    exact⟨a',cap',rfl,hb,hout⟩)
   rw[hQ]at HQ;simp only at HQ;clear hQ;have hmax:out.length+1≤maxLen:=by unfold maxLen;omega
   have hjw:IntKind.i64.wrap ((j:Int)+1)=(j:Int)+1:=by rw[IntKind.wrap_i64];omega
   have HI1:=HI;clear HI;go_wp2_with fail;refine(HRD.out _).mono ?_;rintro e w2 ⟨pa,cap,rfl,hb2,hout⟩;have bx:=aF w2 (.cells #[.int .i64 k,.int .i64 to,.int .i64 a,.int .i64 b,.slice pa p.length cap] 24)
   have HI2:=aA (HI1.out.below (aC hb2 bx));have HP2:=aA (hout.1.below bx)
   have HV2:=aA (V5.box w2 24 (.int .i64 k) (.int .i64 to) (.int .i64 a) (.int .i64 b) (.slice pa p.length cap));have hbw:(w.heap.size+1)<w2.heap.size:=eH HI1.out.1.lt hb2.size
   clear hb2 hout bx HI1 HRD hcx;cases ok
   ·skip
    have HDG:=aA (mN (j+1) (by omega) (w2.alloc (.cells #[.int .i64 k,.int .i64 to,.int .i64 a,.int .i64 b,.slice pa p.length cap] 24)));rw[show(((j+1:Nat)):Int)=(j:Int)+1 by omega]at HDG;go_wp2_with fail;refine HDG.out.mono ?_;rintro e wg ⟨rfl,hbg⟩;have HG:=aA (HI2.out.below hbg)
    clear hbg HDG;have HA:=aA (HG.out.below (aF wg (.cells #[.string ⟨(jL (j+1)).toArray⟩] 9)))
    have HNW:=aA (heap_alloc_new wg (.cells #[.string ⟨(jL (j+1)).toArray⟩] 9));have HOW:=aA HA.out.2.1
    have hbs:w.heap.size≤(wg.alloc (.cells #[.string ⟨(jL (j+1)).toArray⟩] 9)).heap.size:=HA.out.2.2.size;obtain⟨TX,hTX⟩:∃TX,jL (j+1)=TX:=⟨_,rfl⟩
    rw[hTX]at HA HNW HOW hbs;have HTX:=aA hTX
    have hcat:(⟨#[108,105,110,101,32]⟩:ByteArray)++⟨(Lib.decDigits (j+1)).toArray⟩=⟨TX.toArray⟩:=by rw[←HTX.out];apply ByteArray.ext;simp[jL]
    have hdl:¬(9223372036854775807<5+(Lib.decDigits (j+1)).length):=by have:=iE (n:=j+1) (by omega);omega
    clear hTX;go_wp2_with (at_builtin;refine wpList_append_lies _ rfl (.tmp 32) (.tmp 37) 30 rfl w.heap.size 9 i0 _ 1 16 Tryz.underlying30 hi0 hz0 hz1 hz2 rfl (by omega) tv out.length (rM out) rfl HOW.out ⟨wg.heap.size,0,none⟩ 1 1 [.string ⟨TX.toArray⟩] rfl rfl (World.news_of_block HNW.out) (fW _) (by omega) hmax (by omega) hbs _ rfl ?_;intro g1 cap1 w7 hown2 hgrow2 hat2 hlt2;have HF:=aA (HA.out.app (t:=TX) hown2 hgrow2);clear hown2 hgrow2 hat2 hlt2);go_roundw;case rel=>exact⟨j+1,_,_,_,by omega,by go_num,rfl,by rw[HST.out,HQ.out.1 (by simp)];exact HTX.out▸HF⟩
    case measure=>simp[intOf];omega
   have hto:=HLN.out rfl;obtain⟨⟨d0,d1,d2,d3,d4⟩,dz⟩:=HV2.out;go_wp2_with fail;refine(HDO.out _ _ _ HI2.out.1 HP2.out).mono ?_;rintro e w3 ⟨a',cap',rfl,hb3,hout3⟩;have HI3:=aA (HI2.out.below hb3)
   have HO3:=aA hout3;have HV3:=aA (HV2.out.below hb3)
   clear hb3 hout3 HI2 HP2 HV2 HDO d0 d1 d2 d3 d4 dz;cases fine
   ·skip
    have HDG:=aA (mN (j+1) (by omega) w3);rw[show(((j+1:Nat)):Int)=(j:Int)+1 by omega]at HDG;go_wp2_with fail;refine HDG.out.mono ?_;rintro e wg ⟨rfl,hbg⟩;have HG:=aA (HI3.out.below hbg)
    clear hbg HDG;have HA:=aA (HG.out.below (aF wg (.cells #[.string ⟨(jM (j+1)).toArray⟩] 9)))
    have HNW:=aA (heap_alloc_new wg (.cells #[.string ⟨(jM (j+1)).toArray⟩] 9));have HOW:=aA HA.out.2.1
    have hbs:w.heap.size≤(wg.alloc (.cells #[.string ⟨(jM (j+1)).toArray⟩] 9)).heap.size:=HA.out.2.2.size;obtain⟨TX,hTX⟩:∃TX,jM (j+1)=TX:=⟨_,rfl⟩
    rw[hTX]at HA HNW HOW hbs;have HTX:=aA hTX
    have hcat:(⟨#[116,111,111,32,109,117,99,104,32]⟩:ByteArray)++⟨(Lib.decDigits (j+1)).toArray⟩=⟨TX.toArray⟩:=by rw[←HTX.out];apply ByteArray.ext;simp[jM]
    have hdl:¬(9223372036854775807<9+(Lib.decDigits (j+1)).length):=by have:=iE (n:=j+1) (by omega);omega
    clear hTX;go_wp2_with (at_builtin;refine wpList_append_lies _ rfl (.tmp 53) (.tmp 58) 30 rfl w.heap.size 9 i0 _ 1 16 Tryz.underlying30 hi0 hz0 hz1 hz2 rfl (by omega) tv out.length (rM out) rfl HOW.out ⟨wg.heap.size,0,none⟩ 1 1 [.string ⟨TX.toArray⟩] rfl rfl (World.news_of_block HNW.out) (fW _) (by omega) hmax (by omega) hbs _ rfl ?_;intro g1 cap1 w7 hown2 hgrow2 hat2 hlt2;have HF:=aA (HA.out.app (t:=TX) hown2 hgrow2);clear hown2 hgrow2 hat2 hlt2);go_roundw;case rel=>exact⟨j+1,_,_,_,by omega,by go_num,rfl,by rw[HST.out,HQ.out.2.1 (by simp) (by simp)];exact HTX.out▸HF⟩
    case measure=>simp[intOf];omega
   obtain⟨⟨d0,d1,d2,d3,d4⟩,dz⟩:=HV3.out;by_cases hk8:k=8
   ·have hk8b:(k==8)=true:=by simp[hk8]
    obtain⟨TX,hPT⟩:∃S,cY L.length (lf L)=S:=⟨_,rfl⟩
    have HTX2:=aA (sP w3 a' L.length cap' (lf L) HO3.out.1);have HQ8:=aA (HQ.out.2.2.1 (by simp) (by simp) hk8)
    rw[hPT]at HTX2 HQ8;clear hk8 hPT;go_wp2_with fail;refine HTX2.out.mono ?_;rintro e w4 ⟨rfl,hb4⟩;have HI4:=aA (HI3.out.below hb4)
    clear hb4 HTX2 HI3 HO3 HV3 d0 d1 d2 d3 d4 dz;have HA:=aA (HI4.out.below (aF w4 (.cells #[.string ⟨(TX).toArray⟩] 9)))
    have HNW:=aA (heap_alloc_new w4 (.cells #[.string ⟨(TX).toArray⟩] 9));have HOW:=aA HA.out.2.1
    have hbs:w.heap.size≤(w4.alloc (.cells #[.string ⟨(TX).toArray⟩] 9)).heap.size:=HA.out.2.2.size;go_wp2_with (at_builtin;refine wpList_append_lies _ rfl (.tmp 64) (.tmp 67) 30 rfl w.heap.size 9 i0 _ 1 16 Tryz.underlying30 hi0 hz0 hz1 hz2 rfl (by omega) tv out.length (rM out) rfl HOW.out ⟨w4.heap.size,0,none⟩ 1 1 [.string ⟨TX.toArray⟩] rfl rfl (World.news_of_block HNW.out) (fW _) (by omega) hmax (by omega) hbs _ rfl ?_;intro g1 cap1 w7 hown2 hgrow2 hat2 hlt2;have HF:=aA (HA.out.app (t:=TX) hown2 hgrow2);clear hown2 hgrow2 hat2 hlt2);go_roundw;case rel=>exact⟨j+1,_,_,_,by omega,by go_num,rfl,by rw[HST.out,HQ8.out];exact HF⟩
    case measure=>simp[intOf];omega
   ·have hk8b:(k==8)=false:=by simp[hk8]
    obtain⟨t,rfl,ht⟩:∃t:Nat,to=(t:Int)∧t<6:=⟨to.toNat,by omega,by omega⟩
    have HQ9:=aA (HQ.out.2.2.2 (by simp) (by simp) hk8);have HF:=aA (HI3.out.set (by omega) t HO3.out.1 HO3.out.2.1)
    have hcc:=HI3.out.1.1.cell (i:=t) ht;have hfz:=HI3.out.1.1.frozen
    have htI:(t:Int)<6:=by omega
    clear hk8 hto HLN;go_wp2;go_roundw;case rel=>exact⟨j+1,_,_,_,by omega,by go_num,rfl,by rw[HST.out,HQ9.out];exact HF⟩
    case measure=>simp[intOf];omega
  ·have hje:j=N:=by omega
   have hnl:¬(j:Int)<(N:Int):=by omega
   have HF:Hid (Below w.heap.size w wr∧qB w.heap.size tv (cN W) wr):=by rw[HR.out,←hje];exact aA ⟨HI.out.2.2,HI.out.2.1⟩
   clear hje HI;go_wp2;go_ret;exact⟨_,rfl,HF.out.1,HF.out.2⟩
end Go.Proofs.YtkcmamepoplcdaaGreatDoor
namespace Go.Proofs.YtkcmamepoplcdaaGreatDoor
open Go.RowKit
set_option linter.unusedVariables false
theorem M4.ext {w:World} {b:Nat} {x y d e:Int} (h:M4 w b x y d e):(∀u:dX w,u.1.cell? ⟨b,0,none⟩=some (.int .i64 x))∧(∀u:dX w,u.1.cell? ⟨b,1,none⟩=some (.int .i64 y))∧(∀u:dX w,u.1.cell? ⟨b,2,none⟩=some (.int .i64 d))∧(∀u:dX w,u.1.cell? ⟨b,3,none⟩=some (.int .i64 e)):=
 ⟨fun u=>(u.cell h.lt).trans h.1,fun u=>(u.cell h.lt).trans h.2.1,fun u=>(u.cell h.lt).trans h.2.2.1,fun u=>(u.cell h.lt).trans h.2.2.2⟩
theorem RF (w:World):Calls Tryz.prog 58 #[] w fun e w'=>e= .returned (.slice (some ⟨w.heap.size,0,none⟩) 1 1)∧w'=w.alloc (.cells #[.int .i64 1,.int .i64 0,.int .i64 0,.int .i64 0,.int .i64 0] 79):=by go_enter Tryz.func58,Tryz.ntmps58;go_wp2;go_ret;exact⟨rfl,rfl⟩
theorem TI (w:World):Calls Tryz.prog 27 #[] w fun e w'=>e= .returned (.bool true)∧Below w.heap.size w w':=by
 have hb0:Below w.heap.size w (w.alloc (.cells #[.int .i64 1,.int .i64 0,.int .i64 0,.int .i64 0,.int .i64 0] 79)):=(aD _ _).alloc (Nat.le_refl _) _;have hr:Rd (w.alloc (.cells #[.int .i64 1,.int .i64 0,.int .i64 0,.int .i64 0,.int .i64 0] 79)) (some ⟨w.heap.size,0,none⟩) 1 1 (fun _=>⟨1,0,0,0,0⟩):=by
  refine⟨Nat.le_refl _,by omega,.inr ⟨w.heap.size,0,rfl,by simp,fun i hi=>?_⟩⟩;obtain rfl:i=0:=by omega
  exact⟨by rw[World.cell?_alloc_at _ _ _ _ rfl];rfl,by rw[World.cell?_alloc_at _ _ _ _ rfl];rfl,by rw[World.cell?_alloc_at _ _ _ _ rfl];rfl,by rw[World.cell?_alloc_at _ _ _ _ rfl];rfl,by rw[World.cell?_alloc_at _ _ _ _ rfl];rfl⟩
 have hp:aK 1 (fun _=>⟨1,0,0,0,0⟩)=true:=by
  simp only[aK,decide_eq_true_eq];refine⟨by omega,fun i hi=>?_⟩;obtain rfl:i=0:=by omega
  decide
 go_enter Tryz.func27,Tryz.ntmps27;go_wp2_with fail;refine(RF _).mono ?_;rintro e w1 ⟨rfl,rfl⟩;generalize(w.alloc (.cells #[.int .i64 1,.int .i64 0,.int .i64 0,.int .i64 0,.int .i64 0] 79))=w1 at hb0 hr⊢;go_wp2_with fail;refine(eF _ _ _ _ _ hr).mono ?_;rw[hp];rintro e w2 ⟨rfl,b2⟩;have bz:=hb0.trans (b2.mono hb0.size)
 clear hr hp hb0 b2;go_wp2;go_ret;exact⟨rfl,bz⟩
open Go.Shelf Go.RowKit
set_option linter.unusedSimpArgs false
theorem rH {lo:Nat} {v:Value} {W:List (List UInt8)} {w:World} (h:qB lo v W w) (hl:∀l∈W,l.length≤1048576):∃a cap,v= .slice a W.length cap∧GL w a cap W:=by
 have h0:=h;rcases h.2 with⟨q,e⟩|⟨g,cap,cur,q,_⟩
 ·exact⟨none,0,by rw[q,e],by rw[e];exact Nat.le_refl _,.inl e,hl⟩
 ·subst q;exact⟨_,_,rfl,wP h0,.inr ⟨g,0,rfl,(mU h0).2.2,fun i l hi=>by rw[Nat.zero_add];exact eE h0 hi⟩,hl⟩
theorem DO {w:World} {a:Option Addr} {cap:Nat} {A B:List (List UInt8)} (h:GL w a cap (A++B)):GL w a cap A:=
 ⟨by have:=h.1;rw[List.length_append]at this;omega,h.2.1.elim (fun e=>.inl (by rw[List.length_append]at e;omega)) (fun⟨b,off,e,hlt,hc⟩=>.inr ⟨b,off,e,hlt,fun i l hi=>hc i l (by rw[List.getElem?_append_left ((List.getElem?_eq_some_iff.1 hi).1)];exact hi)⟩),fun l hl=>h.2.2 l (List.mem_append_left _ hl)⟩
theorem BN (n:Nat) (f:Nat→T):(cY n f).length≤1048576:=by
 cases h:aK n f
 ·rw[wS h];exact iK _
 ·exact iS (DK h) (by omega)
theorem sS (W:List (List UInt8)):∀k,k≤60→∀l∈(fH W k).2,l.length≤1048576
 |0,_,l,h=>by cases h
 |k+1,hk,l,h=>by
  have hd:=iE (n:=k+1) (by omega);have ih:=sS W k (by omega)
  have h':l∈(dT k (W.getD k []) (fH W k)).2:=h;unfold dT at h';split at h'
  ·rcases List.mem_append.1 h' with q|q
   ·exact ih l q
   ·rw[List.mem_singleton.1 q];unfold jL;simp only[List.length_append,List.length_cons,List.length_nil];omega
  ·split at h'
   ·rcases List.mem_append.1 h' with q|q
    ·exact ih l q
    ·rw[List.mem_singleton.1 q];unfold jM;simp only[List.length_append,List.length_cons,List.length_nil];omega
   ·split at h'
    ·rcases List.mem_append.1 h' with q|q
     ·exact ih l q
     ·rw[List.mem_singleton.1 q];exact BN _ _
    ·exact ih l h'
theorem pW (W:List (List UInt8)):∀l∈cN W,l.length≤1048576:=by
 intro l h;unfold cN at h;split at h
 ·rw[List.mem_singleton.1 h];decide
 ·exact sS W _ (by omega) l h
theorem tK (w:World) (a0:Option Addr) (len0 cap0:Nat) (s0:QJ w a0 len0 cap0) (hM:GF w) (hE:Er w) (hT:Tb w) (hD:Dw w) (HDW:Calls Tryz.prog 25 #[.slice a0 len0 cap0] w fun e w'=>∃(v:Value) (W:List (List UInt8)),e= .returned v∧Below w.heap.size w w'∧qB w.heap.size v W w'∧W.length≤100∧∀l∈W,l.length≤1048576):Calls Tryz.prog 6 #[.slice a0 len0 cap0] w fun e w'=>e= .returned (.bool true)∧Below w.heap.size w w':=by
 by_cases c0:(1048576:Int)<(len0:Int)
 ·go_enter Tryz.func6,Tryz.ntmps6;go_wp2;go_ret;exact⟨rfl,aD _ _⟩
 have HM:=aA hM;have HE:=aA hE
 have HT:=aA hT;have HD:=aA hD
 clear hM hE hT hD;have HDW:=aA HDW
 go_enter Tryz.func6,Tryz.ntmps6;go_wp2_with fail;refine HDW.out.mono ?_;rintro e w1 ⟨v,W,rfl,hb,hown,hW,hWl⟩;obtain⟨al,cl,rfl,hrd⟩:=rH hown hWl;have R1:=aA hrd
 have Z1:=aA hb;have HWL:=aA hWl
 clear hb hown hrd HDW s0 hWl;have HRI:=aA (fun(u:World) (W:List (List UInt8)) (a:Option Addr) (c:Nat) (hr:GL u a c W) (hb:Below w.heap.size w u)=>NF W a c u hr (HM.out.below hb) (HE.out.below hb) (HT.out.below hb) (HD.out.below hb))
 go_wp2_with fail;refine(HRI.out _ _ _ _ R1.out Z1.out).mono ?_;rintro e w2 ⟨v,rfl,hb,hown⟩;obtain⟨ao,co,rfl,hrd⟩:=rH hown (pW W);have O2:=aA hrd
 have R2:=aA (R1.out.below hb);have Z2:=aA (aC Z1.out hb)
 clear hb hown hrd R1 Z1;go_wp2_with fail;refine(NG W _ _ _ R2.out).mono ?_;rintro e w3 ⟨v,rfl,hb,hown⟩;obtain⟨aq,cq,rfl,hrd⟩:=rH hown (pW W);have S3:=aA hrd
 have O3:=aA (O2.out.below hb);have R3:=aA (R2.out.below hb)
 have Z3:=aA (aC Z2.out hb);clear hb hown hrd R2 Z2 O2;have HT1:=aA (zA w3 _ _ _ _ (cN W) (iS (vF W) (by omega)) O3.out S3.out)
 obtain⟨N,hN⟩:∃N,W.length=N:=⟨_,rfl⟩
 obtain⟨X,hX⟩:∃X,cN W=X:=⟨_,rfl⟩
 have hNI:(N:Int)≤100:=by omega
 have hXl:X.length≤60:=by rw[←hX];exact vF W
 rw[hX]at HT1 O3;clear S3;rw[hN,hX];go_wp2_with fail;refine HT1.out.mono ?_;rintro e w4 ⟨rfl,hb⟩;have O4:=aA (O3.out.below hb)
 have R4:=aA (R3.out.below hb);have Z4:=aA (aC Z3.out hb)
 clear hb O3 R3 Z3 HT1;by_cases h60:60<N
 ·have h60I:(60:Int)<(N:Int):=by omega
  have hx1:X.length=1:=by rw[←hX];exact LB (by omega)
  have hx1I:(X.length:Int)=1:=by omega
  have hx2:((X.length:Int)==1)=true:=by rw[hx1I];rfl
  clear h60 hN hX hx1;go_wp2;go_ret;exact⟨rfl,Z4.out⟩
 have h60I:¬(60:Int)<(N:Int):=by omega
 obtain⟨K,hK,hKN⟩:∃K:Nat,len0%(N+1)=K∧K≤N:=⟨_,rfl,by have:=Nat.mod_lt len0 (show 0<N+1 by omega);omega⟩
 have hKI:(len0:Int)%((N:Int)+1)=(K:Int):=by rw[←hK];simp
 have hKt:(len0:Int).tmod ((N:Int)+1)=(K:Int):=by rw[Int.tmod_eq_emod_of_nonneg (by omega)];exact hKI
 have hNw:IntKind.i64.wrap ((N:Int)+1)=(N:Int)+1:=by rw[IntKind.wrap_i64];omega
 have hN0:((N:Int)+1==0)=false:=beq_eq_false_iff_ne.2 (by omega);have hN1:¬((N:Int)+1=0):=by omega
 have hKcap:K≤cl:=by have:=R4.out.1;omega
 have hKcI:(K:Int)≤(cl:Int):=by omega
 have hK0:(0:Int)≤(K:Int):=by omega
 go_wp2_with fail;have hcutW:(W.take K).length=K:=by rw[List.length_take];omega
 have RK:=aA (DO (A:=W.take K) (B:=W.drop K) (by rw[List.take_append_drop];exact R4.out));have HRK:=aA (HRI.out _ _ _ _ RK.out Z4.out)
 rw[hcutW]at HRK;obtain⟨Y,hY⟩:=OZ (W:=W) (by omega) (k:=K) (by omega);have hFs:=pW (W.take K)
 have hTN:=FR (W:=W) (by omega);obtain⟨F,hF⟩:∃F,cN (W.take K)=F:=⟨_,rfl⟩
 rw[hF]at HRK hY hFs;rw[hX]at hY hTN;rw[hN]at hTN;have HTN:=aA hTN
 clear hF hX RK hcutW HRI hTN;have hlen:F.length+Y.length=X.length:=by rw[hY,List.length_append]
 refine HRK.out.mono ?_;rintro e w5 ⟨v,rfl,hb,hown⟩;obtain⟨af,cf,rfl,hrd⟩:=rH hown hFs;have F5:=aA hrd
 have O5:=aA (O4.out.below hb);have R5:=aA (R4.out.below hb)
 have Z5:=aA (aC Z4.out hb);clear hb hown hrd R4 Z4 O4 HRK hFs hK hKI hKt hKcap hKcI hK0 hKN;have HY:=aA hY
 clear hY;have HNN:=aA hN
 clear hN;go_wp2;go_loopw [7,8] (fun vn vi wr=>∃(j:Nat),j≤N∧vn= .int .i64 (iJ W j:Int)∧vi= .int .i64 (j:Int)∧Hid (Below w5.heap.size w5 wr)) (fun _ vi _=>N-(intOf vi).toNat);case atStart=>exact⟨0,iK _,rfl,rfl,aA (aD _ _)⟩
 case round=>
  obtain⟨j,hj,rfl,rfl,HB⟩:=hrel;by_cases hjN:j<N
  ·have hjI:(j:Int)<(N:Int):=by omega
   obtain⟨l,hl⟩:∃l,W[j]? =some l:=⟨_,List.getElem?_eq_getElem (by have:=HNN.out;omega)⟩
   have hll:l.length≤1048576:=HWL.out l (List.mem_of_getElem? hl);have hwl:W.getD j []=l:=by rw[List.getD_eq_getElem?_getD,hl];rfl
   have hT1:iJ W (j+1)=iJ W j+if(dP l).2=false∨(dP l).1.k=8 then 1 else 0:=by show(iJ W j+if(dP (W.getD j [])).2=false∨(dP (W.getD j [])).1.k=8 then 1 else 0)=_;rw[hwl]
   have hTL:=AG W j;obtain⟨b0,off0,rfl,hb0,hcl⟩:∃b off,al=some ⟨b,off,none⟩∧b<w5.heap.size∧∀(i:Nat) (l:List UInt8),W[i]? =some l→w5.cell? ⟨b,off+i,none⟩=some (.string ⟨l.toArray⟩):=R5.out.2.1.resolve_left (by have:=HNN.out;omega)
   have hcx:=(HB.out.cell (p:=⟨b0,off0+j,none⟩) hb0).trans (hcl j l hl);clear hl hcl hb0 hwl;obtain⟨R,hR⟩:∃R,dP l=R:=⟨_,rfl⟩
   obtain⟨⟨k,to,a,b,p⟩,ok⟩:=R
   have HRD:Hid (∀u,Below w.heap.size w u→Calls Tryz.prog 9 #[.string ⟨l.toArray⟩] u fun e w'=>∃pa cap,e= .returned (.tuple #[.agg #[.int .i64 k,.int .i64 to,.int .i64 a,.int .i64 b,.slice pa p.length cap],.bool ok])∧Below u.heap.size u w'∧iT u.heap.size w' pa cap p):=aA (fun u hb=>by
    have q:=yO l hll u (HM.out.below hb) (HE.out.below hb) (HT.out.below hb) (HD.out.below hb);unfold hZ at q;rw[hR]at q
    exact q)
   rw[hR]at hT1;simp only at hT1;clear hR;obtain⟨n0,hn0⟩:∃n0,iJ W j=n0:=⟨_,rfl⟩
   have HN1:=aA hT1;rw[hn0]at HN1 hTL⊢;clear hT1 hn0;have hnw:IntKind.i64.wrap ((n0:Int)+1)=(n0:Int)+1:=by rw[IntKind.wrap_i64];omega
   go_wp2_with fail;refine(HRD.out _ (aC Z5.out HB.out)).mono ?_;rintro e w6 ⟨pa,cap,rfl,hb,_⟩;have bx:=aF w6 (.cells #[.int .i64 k,.int .i64 to,.int .i64 a,.int .i64 b,.slice pa p.length cap] 24)
   have HB6:=aA (aC HB.out (aC hb bx));have V6:=aA (V5.box w6 24 (.int .i64 k) (.int .i64 to) (.int .i64 a) (.int .i64 b) (.slice pa p.length cap))
   clear hb bx HRD hcx HB;obtain⟨⟨d0,d1,d2,d3,d4⟩,dz⟩:=V6.out;cases ok
   ·have e1:iJ W (j+1)=n0+1:=by rw[HN1.out,if_pos (.inl rfl)]
    have E2:Hid ((n0:Int)+1=((iJ W (j+1):Nat):Int)):=aA (by rw[e1];rfl);clear e1;go_wp2;go_roundw;case rel=>exact⟨j+1,by omega,by rw[E2.out],by go_num,HB6⟩
    case measure=>simp[intOf];omega
   ·by_cases hk8:k=8
    ·have hkb:(k==8)=true:=by simp[hk8]
     have e1:iJ W (j+1)=n0+1:=by rw[HN1.out,if_pos (.inr hk8)]
     have E2:Hid ((n0:Int)+1=((iJ W (j+1):Nat):Int)):=aA (by rw[e1];rfl);clear e1;clear hk8;go_wp2;go_roundw;case rel=>exact⟨j+1,by omega,by rw[E2.out],by go_num,HB6⟩
     case measure=>simp[intOf];omega
    ·have hkb:(k==8)=false:=by simp[hk8]
     have E1:Hid (iJ W (j+1)=n0):=aA (by rw[HN1.out,if_neg (fun q=>q.elim (fun e=>by cases e) hk8)];rfl);clear hk8;go_wp2;go_roundw;case rel=>exact⟨j+1,by omega,by rw[E1.out],by go_num,HB6⟩
     case measure=>simp[intOf];omega
  ·have hje:j=N:=by omega
   subst hje;have hnl:¬(j:Int)<(j:Int):=by omega
   have hTL:=HTN.out;obtain⟨n0,hn0⟩:∃n0,iJ W j=n0:=⟨_,rfl⟩
   rw[hn0]at hTL⊢;clear hn0;have hFX:(F.length:Int)≤(X.length:Int):=by omega
   have hnX:(n0:Int)≤(X.length:Int):=by omega
   have hFc:(F.length:Int)≤(co:Int):=by have:=O5.out.1;omega
   have hF0:(0:Int)≤(F.length:Int):=by omega
   have hFd:=aA (iS (show F.length≤X.length by omega) (iS hXl (show 60≤1000 by omega)))
   have HPO:=aA (by
    have q:=O5.out.below HB.out;rw[HY.out]at q
    exact zA wr _ _ _ _ F hFd.out (DO q) (F5.out.below HB.out))
   go_wp2_with fail;refine HPO.out.mono ?_;rintro e w6 ⟨rfl,hb⟩;have HB6:=aA (aC HB.out hb)
   clear hb HB HPO;go_wp2_with fail;refine(TI _).mono ?_;rintro e w7 ⟨rfl,hb⟩;have HU:=aA (aC Z5.out (aC HB6.out hb))
   clear hb;go_wp2;go_ret;exact⟨rfl,HU.out⟩
end Go.Proofs.YtkcmamepoplcdaaGreatDoor
namespace Go.Proofs.YtkcmamepoplcdaaGreatDoor
open Go.RowKit
set_option linter.unusedVariables false
theorem jE (w:World) (B p:Nat) (n:Int) (h:iN w B p) (hn:1≤n) (hn':n≤1000) (hp:p≤50000):
 Calls Tryz.prog 59 #[.pointer (some ⟨B,0,none⟩),.int .i64 n] w fun r w'=>∃(a:Option Addr) (m cap:Nat) (f:Nat→T) (q:Nat),r= .returned (.slice a m cap)∧Rd w' a m cap f∧m≤5∧(m=0∨∃g off,a=some ⟨g,off,none⟩∧w.heap.size≤g)∧q≤p+700∧iN w' B q∧aH B w w':=MM w B p n h hn hn' hp
theorem Rd.setOther {w:World} {a:Option Addr} {n cap g o:Nat} {f:Nat→T} {v:Value} (h:Rd w a n cap f) (hne:n=0∨∀b off,a=some ⟨b,off,none⟩→b≠g):Rd (w.setCell ⟨g,o,none⟩ v) a n cap f:=
 h.grown (row:=some g) ⟨rfl,rfl,rfl,by simp[World.setCell],fun k _ hk=>Below.heap_setCell _ _ _ _ (fun e=>hk (by rw[e]))⟩ (hne.imp id (fun k b off he hb=>k b off he (by cases hb;rfl)))
theorem Rd.beside {w w':World} {a:Option Addr} {n cap B:Nat} {f:Nat→T} (h:Rd w a n cap f) (hb:aH B w w') (hne:n=0∨∀b off,a=some ⟨b,off,none⟩→b≠B):Rd w' a n cap f:=
 h.grown (nX hb) (hne.imp id (fun k b off he hb=>k b off he (by cases hb;rfl)))
open Go.RowKit Go.Deep Go.Joins Go.WideShapes Go.ChangeShapes
set_option linter.unusedSimpArgs false
theorem ID {W:World} {b:Nat} {c0 c1 c2 c3 c4:Value} {t:TypeId} (h:W.heap[b]? =some (.cells #[c0,c1,c2,c3,c4] t (0,0))):(W.cell? ⟨b,0,none⟩=some c0∧W.cell? ⟨b,1,none⟩=some c1∧W.cell? ⟨b,2,none⟩=some c2∧W.cell? ⟨b,3,none⟩=some c3∧W.cell? ⟨b,4,none⟩=some c4)∧∀j,W.frozen? ⟨b,j,none⟩=false:=
 ⟨⟨cell_of_row W b 0 _ _ _ h,cell_of_row W b 1 _ _ _ h,cell_of_row W b 2 _ _ _ h,cell_of_row W b 3 _ _ _ h,cell_of_row W b 4 _ _ _ h⟩,fun j=>by simp[World.frozen?,h]⟩
end Go.Proofs.YtkcmamepoplcdaaGreatDoor
