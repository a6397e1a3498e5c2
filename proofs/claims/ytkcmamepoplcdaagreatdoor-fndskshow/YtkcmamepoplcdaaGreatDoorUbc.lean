/-
  The program runs lines (DskRun).
-/
import Derived.Test.YtkcmamepoplcdaaGreatDoorUbb
set_option maxHeartbeats 16000000
set_option maxRecDepth 100000
namespace Go.Proofs.YtkcmamepoplcdaaGreatDoor
open Go.Shelf Go.RowKit Go.Deep
set_option linter.unusedVariables false
set_option linter.unusedSimpArgs false
theorem GD (W:List (List UInt8)) (a0:Option Addr) (cap0:Nat) (w:World) (h:MG w a0 cap0 W) (hM:AU w) (hE:Er w) (hT:Tb w) (hD:Dw w):Calls Tryz.prog 16 #[.slice a0 W.length cap0] w fun e w'=>∃v,e= .returned v∧Below w.heap.size w w'∧wU w.heap.size v (kP W) w':=by
 obtain⟨i0,hi0,hz0,hz1,hz2⟩:=info_parts CO;obtain⟨N,hN⟩:∃N,W.length=N:=⟨_,rfl⟩
 by_cases h60:60<N
 ·have hI:(60:Int)<(N:Int):=by omega
  have HR:Hid (kP W=[[108,111,110,103]]):=by unfold kP;rw[if_pos (by omega)];exact aA rfl
  rw[hN];clear h hN h60 hM hE hT hD;go_enter Tryz.func16,Tryz.ntmps16;go_wp2;go_ret;exact⟨_,rfl,aF _ _,by rw[HR.out];exact World.ownsRow_lit _ _ _ (Nat.le_refl _) (by decide) rfl⟩
 have hI:¬(60:Int)<(N:Int):=by omega
 have hN60:N≤60:=by omega
 have HR:Hid (kP W=(gZ W N).2):=by unfold kP;rw[hN,if_neg h60];exact aA rfl
 have HH:=aA h;have HN:=aA hN
 have HM:=aA hM;have HE:=aA hE
 have HT:=aA hT;have HD:=aA hD
 rw[hN];clear h hN h60 hM hE hT hD;have hmk:=NC
 have HI0:Hid (BD w (w.alloc (.cells #[.slice none 0 0,.slice none 0 0,.slice none 0 0,.slice none 0 0,.slice none 0 0,.slice none 0 0] 22)) w.heap.size (gZ W 0).1 (gZ W 0).2 (fun _=>none) (fun _=>0) (.slice none 0 0)):=aA ⟨sX.new w,IJ _ _,aF w _⟩;go_enter Tryz.func16,Tryz.ntmps16;go_wp2;go_loopw [19,4] (fun vj vt wr=>∃(j:Nat) (tv:Value) (ad:Nat→Option Addr) (cp:Nat→Nat),j≤N∧vj= .int .i64 (j:Int)∧vt=tv∧Hid (BD w wr w.heap.size (gZ W j).1 (gZ W j).2 ad cp tv)) (fun vj _ _=>N-(intOf vj).toNat);case atStart=>exact⟨0,_,_,_,mE _,rfl,rfl,HI0⟩
 case round=>
  obtain⟨j,tv,ad,cp,hj,rfl,hvt,HI⟩:=hrel;obtain rfl:=hvt.symm;by_cases hjN:j<N
  ·have hjI:(j:Int)<(N:Int):=by omega
   obtain⟨l,hl⟩:∃l,W[j]? =some l:=⟨_,List.getElem?_eq_getElem (by rw[HN.out];exact hjN)⟩
   have hll:l.length≤1048576:=HH.out.2.2 l (List.mem_of_getElem? hl);have HST:Hid (gZ W (j+1)=eN j l (gZ W j)):=by show Hid (eN j (W.getD j []) (gZ W j)=_);rw[List.getD_eq_getElem?_getD,hl];exact aA rfl
   have HOL:=aA (vA W j);obtain⟨F,out,hst⟩:∃F out,gZ W j=(F,out):=⟨_,_,rfl⟩
   rw[hst]at HI HST HOL;simp only at HI HOL;obtain⟨b0,off0,rfl,hb0,hcl⟩:∃b off,a0=some ⟨b,off,none⟩∧b<w.heap.size∧∀(i:Nat) (l:List UInt8),W[i]? =some l→w.cell? ⟨b,off+i,none⟩=some (.string ⟨l.toArray⟩):=HH.out.2.1.resolve_left (by rw[HN.out];omega)
   have hcx:=(HI.out.2.2.cell (p:=⟨b0,off0+j,none⟩) hb0).trans (hcl j l hl);have hol:=HOL.out
   have hs1:w.heap.size≤wr.heap.size:=HI.out.2.2.size;have hblt:w.heap.size<wr.heap.size:=HI.out.1.lt
   clear hl hcl hb0 HOL hst;obtain⟨R,hR⟩:∃R,dE l=R:=⟨_,rfl⟩
   obtain⟨⟨k,to,a,b,p⟩,ok⟩:=R;have HLN:Hid (ok=true→0≤to∧to≤5):=aA (fun e=>by have q:=(zC (s:=l) (by rw[hR];exact e)).ok.to;rw[hR]at q;exact q)
   have HRD:Hid (∀u,Below w.heap.size w u→Calls Tryz.prog 9 #[.string ⟨l.toArray⟩] u fun e w'=>∃pa cap,e= .returned (.tuple #[.agg #[.int .i64 k,.int .i64 to,.int .i64 a,.int .i64 b,.slice pa p.length cap],.bool ok])∧Below u.heap.size u w'∧gO u.heap.size w' pa cap p):=aA (fun u hb=>by
    have q:=CC l hll u (HM.out.below hb) (HE.out.below hb) (HT.out.below hb) (HD.out.below hb);unfold kH at q;rw[hR]at q
    exact q)
   have HQ:Hid ((ok=false→eN j l (F,out)=(F,out++[nD (j+1)]))∧(ok=true→(nK ⟨k,to,a,b,p⟩ F).2=false→eN j l (F,out)=(F,out++[nE (j+1)]))∧(ok=true→(nK ⟨k,to,a,b,p⟩ F).2=true→k=8→eN j l (F,out)=(F,out++[bQ (nK ⟨k,to,a,b,p⟩ F).1.length (lf (nK ⟨k,to,a,b,p⟩ F).1)]))∧(ok=true→(nK ⟨k,to,a,b,p⟩ F).2=true→k≠8→eN j l (F,out)=(fun i=>if i=to.toNat then(nK ⟨k,to,a,b,p⟩ F).1 else F i,out))):=aA (by
    have q1:=@EA j l (F,out);have q2:=@wP j l (F,out)
    have q3:=@kT j l (F,out);have q4:=@mQ j l (F,out)
    rw[hR]at q1 q2 q3 q4
    exact⟨q1,q2,q3,q4⟩)
   clear hR;obtain⟨Q,hQ⟩:∃Q,nK ⟨k,to,a,b,p⟩ F=Q:=⟨_,rfl⟩
   obtain⟨L,fine⟩:=Q
   have HDO:Hid (∀(u:World) pa cap,Below w.heap.size w u→sX u w.heap.size F ad cp→Rd u pa p.length cap (lf p)→Calls Tryz.prog 45 #[.slice (some ⟨w.heap.size,0,none⟩) 6 6,.agg #[.int .i64 k,.int .i64 to,.int .i64 a,.int .i64 b,.slice pa p.length cap]] u fun e w'=>∃a' cap',e= .returned (.tuple #[.slice a' L.length cap',.bool fine])∧Below u.heap.size u w'∧gO u.heap.size w' a' cap' L):=aA (fun u pa cap hb hs hr=>by
    have q:=KI k to a b _ 6 6 ad _ cp _ pa cap p u hs.rds hr (HT.out.below hb) (HD.out.below hb);unfold nK at hQ;simp only at hQ;rw[hQ]at q
    exact q)
   rw[hQ]at HQ;simp only at HQ;clear hQ;have hmax:out.length+1≤maxLen:=by unfold maxLen;omega
   have hjw:IntKind.i64.wrap ((j:Int)+1)=(j:Int)+1:=by rw[IntKind.wrap_i64];omega
   have HIT:=aA (xN (j+1) (by omega) wr (HT.out.below HI.out.2.2));rw[show(((j+1:Nat)):Int)=(j:Int)+1 by omega]at HIT;go_wp2_with fail;refine HIT.out.mono ?_;rintro e w1 ⟨rfl,hb1⟩;have HI1:=aA (HI.out.below hb1)
   clear hb1 HIT HI;go_wp2_with fail;refine(HRD.out _ HI1.out.2.2).mono ?_;rintro e w2 ⟨pa,cap,rfl,hb2,hout⟩;have bx:=aF w2 (.cells #[.int .i64 k,.int .i64 to,.int .i64 a,.int .i64 b,.slice pa p.length cap] 24)
   have HI2:=aA (HI1.out.below (aC hb2 bx));have HP2:=aA (hout.1.below bx)
   have HV2:=aA (V5.box w2 24 (.int .i64 k) (.int .i64 to) (.int .i64 a) (.int .i64 b) (.slice pa p.length cap));have hbw:w.heap.size<w2.heap.size:=eH HI1.out.1.lt hb2.size
   clear hb2 hout bx HI1 HRD hcx;obtain⟨⟨d0,d1,d2,d3,d4⟩,dz⟩:=HV2.out;go_wp2_with fail;refine(HDO.out _ _ _ HI2.out.2.2 HI2.out.1 HP2.out).mono ?_;rintro e w3 ⟨a',cap',rfl,hb3,hout3⟩;have HI3:=aA (HI2.out.below hb3)
   have HO3:=aA hout3;have HV3:=aA (HV2.out.below hb3)
   clear hb3 hout3 HI2 HP2 HV2 HDO d0 d1 d2 d3 d4 dz;cases ok
   ·skip
    have HA:=aA (HI3.out.below (aF w3 (.cells #[.string ⟨(nD (j+1)).toArray⟩] 9)));have HNW:=aA (heap_alloc_new w3 (.cells #[.string ⟨(nD (j+1)).toArray⟩] 9))
    have HOW:=aA HA.out.2.1;have hbs:w.heap.size≤(w3.alloc (.cells #[.string ⟨(nD (j+1)).toArray⟩] 9)).heap.size:=HA.out.2.2.size
    obtain⟨TX,hTX⟩:∃TX,nD (j+1)=TX:=⟨_,rfl⟩
    rw[hTX]at HA HNW HOW hbs;have HTX:=aA hTX
    have hcat:(⟨#[108,105,110,101,32]⟩:ByteArray)++⟨(Lib.decDigits (j+1)).toArray⟩=⟨TX.toArray⟩:=by rw[←HTX.out];apply ByteArray.ext;simp[nD]
    have hdl:¬(9223372036854775807<5+(Lib.decDigits (j+1)).length):=by have:=jG (n:=j+1) (by omega);omega
    clear hTX;go_wp2_with (at_builtin;refine wpList_append_lies _ rfl (.tmp 46) (.tmp 49) 30 rfl w.heap.size 9 i0 _ 1 16 Tryz.underlying30 hi0 hz0 hz1 hz2 rfl (by omega) tv out.length (AE out) rfl HOW.out ⟨w3.heap.size,0,none⟩ 1 1 [.string ⟨TX.toArray⟩] rfl rfl (World.news_of_block HNW.out) (oT _) (by omega) hmax (by omega) hbs _ rfl ?_;intro g1 cap1 w7 hown2 hgrow2 hat2 hlt2;have HF:=aA (HA.out.app (t:=TX) hown2 hgrow2);clear hown2 hgrow2 hat2 hlt2);go_roundw;case rel=>exact⟨j+1,_,_,_,by omega,by go_num,rfl,by rw[HST.out,HQ.out.1 (by simp)];exact HTX.out▸HF⟩
    case measure=>simp[intOf];omega
   have hto:=HLN.out rfl;cases fine
   ·skip
    have HA:=aA (HI3.out.below (aF w3 (.cells #[.string ⟨(nE (j+1)).toArray⟩] 9)));have HNW:=aA (heap_alloc_new w3 (.cells #[.string ⟨(nE (j+1)).toArray⟩] 9))
    have HOW:=aA HA.out.2.1;have hbs:w.heap.size≤(w3.alloc (.cells #[.string ⟨(nE (j+1)).toArray⟩] 9)).heap.size:=HA.out.2.2.size
    obtain⟨TX,hTX⟩:∃TX,nE (j+1)=TX:=⟨_,rfl⟩
    rw[hTX]at HA HNW HOW hbs;have HTX:=aA hTX
    have hcat:(⟨#[116,111,111,32,109,117,99,104,32]⟩:ByteArray)++⟨(Lib.decDigits (j+1)).toArray⟩=⟨TX.toArray⟩:=by rw[←HTX.out];apply ByteArray.ext;simp[nE]
    have hdl:¬(9223372036854775807<9+(Lib.decDigits (j+1)).length):=by have:=jG (n:=j+1) (by omega);omega
    clear hTX;go_wp2_with (at_builtin;refine wpList_append_lies _ rfl (.tmp 54) (.tmp 57) 30 rfl w.heap.size 9 i0 _ 1 16 Tryz.underlying30 hi0 hz0 hz1 hz2 rfl (by omega) tv out.length (AE out) rfl HOW.out ⟨w3.heap.size,0,none⟩ 1 1 [.string ⟨TX.toArray⟩] rfl rfl (World.news_of_block HNW.out) (oT _) (by omega) hmax (by omega) hbs _ rfl ?_;intro g1 cap1 w7 hown2 hgrow2 hat2 hlt2;have HF:=aA (HA.out.app (t:=TX) hown2 hgrow2);clear hown2 hgrow2 hat2 hlt2);go_roundw;case rel=>exact⟨j+1,_,_,_,by omega,by go_num,rfl,by rw[HST.out,HQ.out.2.1 (by simp) (by simp)];exact HTX.out▸HF⟩
    case measure=>simp[intOf];omega
   obtain⟨⟨d0,d1,d2,d3,d4⟩,dz⟩:=HV3.out;by_cases hk8:k=8
   ·have hk8b:(k==8)=true:=by simp[hk8]
    obtain⟨TX,hPT⟩:∃S,bQ L.length (lf L)=S:=⟨_,rfl⟩
    have HTX2:=aA (oW w3 a' L.length cap' (lf L) HO3.out.1 (HT.out.below HI3.out.2.2));have HQ8:=aA (HQ.out.2.2.1 (by simp) (by simp) hk8)
    rw[hPT]at HTX2 HQ8;clear hk8 hPT;go_wp2_with fail;refine HTX2.out.mono ?_;rintro e w4 ⟨rfl,hb4⟩;have HI4:=aA (HI3.out.below hb4)
    clear hb4 HTX2 HI3 HO3 HV3 d0 d1 d2 d3 d4 dz;have HA:=aA (HI4.out.below (aF w4 (.cells #[.string ⟨(TX).toArray⟩] 9)))
    have HNW:=aA (heap_alloc_new w4 (.cells #[.string ⟨(TX).toArray⟩] 9));have HOW:=aA HA.out.2.1
    have hbs:w.heap.size≤(w4.alloc (.cells #[.string ⟨(TX).toArray⟩] 9)).heap.size:=HA.out.2.2.size;go_wp2_with (at_builtin;refine wpList_append_lies _ rfl (.tmp 63) (.tmp 66) 30 rfl w.heap.size 9 i0 _ 1 16 Tryz.underlying30 hi0 hz0 hz1 hz2 rfl (by omega) tv out.length (AE out) rfl HOW.out ⟨w4.heap.size,0,none⟩ 1 1 [.string ⟨TX.toArray⟩] rfl rfl (World.news_of_block HNW.out) (oT _) (by omega) hmax (by omega) hbs _ rfl ?_;intro g1 cap1 w7 hown2 hgrow2 hat2 hlt2;have HF:=aA (HA.out.app (t:=TX) hown2 hgrow2);clear hown2 hgrow2 hat2 hlt2);go_roundw;case rel=>exact⟨j+1,_,_,_,by omega,by go_num,rfl,by rw[HST.out,HQ8.out];exact HF⟩
    case measure=>simp[intOf];omega
   ·have hk8b:(k==8)=false:=by simp[hk8]
    obtain⟨t,rfl,ht⟩:∃t:Nat,to=(t:Int)∧t<6:=⟨to.toNat,by omega,by omega⟩
    have HQ9:=aA (HQ.out.2.2.2 (by simp) (by simp) hk8);have HF:=aA (HI3.out.set (by omega) t HO3.out.1 HO3.out.2.1)
    have hcc:=HI3.out.1.1.cell (i:=t) ht;have hfz:=HI3.out.1.1.frozen
    have htI:(t:Int)<6:=by omega
    clear hk8 hto HLN;go_wp2;go_roundw;case rel=>exact⟨j+1,_,_,_,by omega,by go_num,rfl,by rw[HST.out,HQ9.out];exact HF⟩
    case measure=>simp[intOf];omega
  ·have hje:j=N:=by omega
   have hnl:¬(j:Int)<(N:Int):=by omega
   have HF:Hid (Below w.heap.size w wr∧wU w.heap.size tv (kP W) wr):=by rw[HR.out,←hje];exact aA ⟨HI.out.2.2,HI.out.2.1⟩
   clear hje HI;go_wp2;go_ret;exact⟨_,rfl,HF.out.1,HF.out.2⟩
end Go.Proofs.YtkcmamepoplcdaaGreatDoor
