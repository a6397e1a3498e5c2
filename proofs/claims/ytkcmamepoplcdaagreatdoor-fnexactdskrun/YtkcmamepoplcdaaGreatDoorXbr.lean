/-
  The model runs lines (DskRun).
-/
import Derived.Test.YtkcmamepoplcdaaGreatDoorXbo
import Derived.Test.YtkcmamepoplcdaaGreatDoorXbq
import Derived.Stop.LaidErr
import Derived.LaidMore
import Derived.OpenShut
import Derived.ChangeArms
set_option maxHeartbeats 16000000
set_option maxRecDepth 100000
namespace Go.Proofs.YtkcmamepoplcdaaGreatDoor
open Go.Shelf Go.RowKit Go.Deep
set_option linter.unusedVariables false
set_option linter.unusedSimpArgs false
theorem LI (W:List (List UInt8)) (a0:Option Addr) (cap0:Nat) (w:World) (h:qN w a0 cap0 W):Calls Tryz.prog 14 #[.slice a0 W.length cap0] w fun e w'=>∃v,e= .returned v∧Below w.heap.size w w'∧oJ w.heap.size v (eJ W) w':=by
 obtain⟨i0,hi0,hz0,hz1,hz2⟩:=info_parts oQ;obtain⟨N,hN⟩:∃N,W.length=N:=⟨_,rfl⟩
 by_cases h60:60<N
 ·have hI:(60:Int)<(N:Int):=by omega
  have HR:Hid (eJ W=[[108,111,110,103]]):=by unfold eJ;rw[if_pos (by omega)];exact aA rfl
  rw[hN];clear h hN h60;go_enter Tryz.func14,Tryz.ntmps14;go_wp2;go_ret;have HL:oJ w.heap.size (.slice (some ⟨w.heap.size+1,0,none⟩) 1 1) [[108,111,110,103]] ((w.alloc (.cells #[] 9)).alloc (.cells #[.string ⟨#[108,111,110,103]⟩] 9)):=by have q:=World.ownsRow_lit (base:=w.heap.size) (e:=9) (size:=1) (w.alloc (.cells #[] 9)) #[.string ⟨#[108,111,110,103]⟩] 1 (by simp) (by decide) rfl;rw[World.size_alloc]at q;exact q
  exact⟨_,rfl,dB _ _ _,by rw[HR.out];exact HL⟩
 have hI:¬(60:Int)<(N:Int):=by omega
 have hN60:N≤60:=by omega
 have HR:Hid (eJ W=(iI W N).2):=by unfold eJ;rw[hN,if_neg h60];exact aA rfl
 have HH:=aA h;have HN:=aA hN
 rw[hN];clear h hN h60;have hmk:=NY
 have HI0:Hid (CO w ((w.alloc (.cells #[] 9)).alloc (.cells #[.slice none 0 0,.slice none 0 0,.slice none 0 0,.slice none 0 0,.slice none 0 0,.slice none 0 0] 22)) (w.heap.size+1) (iI W 0).1 (iI W 0).2 (fun _=>none) (fun _=>0) (.slice (some ⟨w.heap.size,0,none⟩) 0 0)):=aA ⟨by have q:=sS.new (w.alloc (.cells #[] 9));rw[World.size_alloc]at q;exact q,(rR w w.heap.size (Nat.le_refl _)).alloc _,dB w _ _⟩;go_enter Tryz.func14,Tryz.ntmps14;go_wp2;go_loopw [5,3] (fun vj vt wr=>∃(j:Nat) (tv:Value) (ad:Nat→Option Addr) (cp:Nat→Nat),j≤N∧vj= .int .i64 (j:Int)∧vt=tv∧Hid (CO w wr (w.heap.size+1) (iI W j).1 (iI W j).2 ad cp tv)) (fun vj _ _=>N-(intOf vj).toNat);case atStart=>exact⟨0,_,_,_,gO _,rfl,rfl,HI0⟩
 case round=>
  obtain⟨j,tv,ad,cp,hj,rfl,hvt,HI⟩:=hrel;obtain rfl:=hvt.symm;by_cases hjN:j<N
  ·have hjI:(j:Int)<(N:Int):=by omega
   obtain⟨l,hl⟩:∃l,W[j]? =some l:=⟨_,List.getElem?_eq_getElem (by rw[HN.out];exact hjN)⟩
   have hll:l.length≤1048576:=HH.out.2.2 l (List.mem_of_getElem? hl);have HST:Hid (iI W (j+1)=eG j l (iI W j)):=by show Hid (eG j (W.getD j []) (iI W j)=_);rw[List.getD_eq_getElem?_getD,hl];exact aA rfl
   have HOL:=aA (oC W j);obtain⟨F,out,hst⟩:∃F out,iI W j=(F,out):=⟨_,_,rfl⟩
   rw[hst]at HI HST HOL;simp only at HI HOL;obtain⟨b0,off0,rfl,hb0,hcl⟩:∃b off,a0=some ⟨b,off,none⟩∧b<w.heap.size∧∀(i:Nat) (l:List UInt8),W[i]? =some l→w.cell? ⟨b,off+i,none⟩=some (.string ⟨l.toArray⟩):=HH.out.2.1.resolve_left (by rw[HN.out];omega)
   have hcx:=(HI.out.2.2.cell (p:=⟨b0,off0+j,none⟩) hb0).trans (hcl j l hl);have hol:=HOL.out
   have hs1:w.heap.size≤wr.heap.size:=HI.out.2.2.size;have hblt:(w.heap.size+1)<wr.heap.size:=HI.out.1.lt
   clear hl hcl hb0 HOL hst;obtain⟨R,hR⟩:∃R,eI l=R:=⟨_,rfl⟩
   obtain⟨⟨k,to,a,b,p⟩,ok⟩:=R;have HLN:Hid (ok=true→0≤to∧to≤5):=aA (fun e=>by have q:=(tP (s:=l) (by rw[hR];exact e)).ok.to;rw[hR]at q;exact q)
   have HRD:Hid (∀u,Calls Tryz.prog 8 #[.string ⟨l.toArray⟩] u fun e w'=>∃pa cap,e= .returned (.tuple #[.agg #[.int .i64 k,.int .i64 to,.int .i64 a,.int .i64 b,.slice pa p.length cap],.bool ok])∧Below u.heap.size u w'∧iJ u.heap.size w' pa cap p):=aA (fun u=>by
    have q:=FU l hll u;unfold iB at q;rw[hR]at q
    exact q)
   have HQ:Hid ((ok=false→eG j l (F,out)=(F,out++[iU (j+1)]))∧(ok=true→(oO ⟨k,to,a,b,p⟩ F).2=false→eG j l (F,out)=(F,out++[iV (j+1)]))∧(ok=true→(oO ⟨k,to,a,b,p⟩ F).2=true→k=8→eG j l (F,out)=(F,out++[cO (oO ⟨k,to,a,b,p⟩ F).1.length (lf (oO ⟨k,to,a,b,p⟩ F).1)]))∧(ok=true→(oO ⟨k,to,a,b,p⟩ F).2=true→k≠8→eG j l (F,out)=(fun i=>if i=to.toNat then(oO ⟨k,to,a,b,p⟩ F).1 else F i,out))):=aA (by
    have q1:=@zA j l (F,out);have q2:=@sA j l (F,out)
    have q3:=@sB j l (F,out);have q4:=@uI j l (F,out)
    rw[hR]at q1 q2 q3 q4
    exact⟨q1,q2,q3,q4⟩)
   clear hR;obtain⟨Q,hQ⟩:∃Q,oO ⟨k,to,a,b,p⟩ F=Q:=⟨_,rfl⟩
   obtain⟨L,fine⟩:=Q
   have HDO:Hid (∀(u:World) pa cap,sS u (w.heap.size+1) F ad cp→Rd u pa p.length cap (lf p)→Calls Tryz.prog 42 #[.slice (some ⟨(w.heap.size+1),0,none⟩) 6 6,.agg #[.int .i64 k,.int .i64 to,.int .i64 a,.int .i64 b,.slice pa p.length cap]] u fun e w'=>∃a' cap',e= .returned (.tuple #[.slice a' L.length cap',.bool fine])∧Below u.heap.size u w'∧iJ u.heap.size w' a' cap' L):=aA (fun u pa cap hs hr=>by
    have lenL:L.length≤400:=by have q:=DA k to a b p 6 (fun i=>(F i).length) (fun i=>lf (F i));unfold oO at hQ;simp only at hQ;rw[hQ]at q;exact q
    refine(OY k to a b _ 6 6 ad _ cp _ pa cap p u hs.rds hr).mono ?_;unfold oO at hQ;simp only at hQ;rw[hQ];rintro e w' ⟨v,rfl,hb,hown⟩;obtain⟨a',cap',rfl,hout⟩:=aO hown (by show L.length*40≤_;omega)
    exact⟨a',cap',rfl,hb,hout⟩)
   rw[hQ]at HQ;simp only at HQ;clear hQ;have hmax:out.length+1≤maxLen:=by unfold maxLen;omega
   have hjw:IntKind.i64.wrap ((j:Int)+1)=(j:Int)+1:=by rw[IntKind.wrap_i64];omega
   have HI1:=HI;clear HI;go_wp2_with fail;refine(HRD.out _).mono ?_;rintro e w2 ⟨pa,cap,rfl,hb2,hout⟩;have bx:=aF w2 (.cells #[.int .i64 k,.int .i64 to,.int .i64 a,.int .i64 b,.slice pa p.length cap] 24)
   have HI2:=aA (HI1.out.below (aC hb2 bx));have HP2:=aA (hout.1.below bx)
   have HV2:=aA (V5.box w2 24 (.int .i64 k) (.int .i64 to) (.int .i64 a) (.int .i64 b) (.slice pa p.length cap));have hbw:(w.heap.size+1)<w2.heap.size:=eB HI1.out.1.lt hb2.size
   clear hb2 hout bx HI1 HRD hcx;cases ok
   ·skip
    have HDG:=aA (lR (j+1) (by omega) (w2.alloc (.cells #[.int .i64 k,.int .i64 to,.int .i64 a,.int .i64 b,.slice pa p.length cap] 24)));rw[show(((j+1:Nat)):Int)=(j:Int)+1 by omega]at HDG;go_wp2_with fail;refine HDG.out.mono ?_;rintro e wg ⟨rfl,hbg⟩;have HG:=aA (HI2.out.below hbg)
    clear hbg HDG;have HA:=aA (HG.out.below (aF wg (.cells #[.string ⟨(iU (j+1)).toArray⟩] 9)))
    have HNW:=aA (heap_alloc_new wg (.cells #[.string ⟨(iU (j+1)).toArray⟩] 9));have HOW:=aA HA.out.2.1
    have hbs:w.heap.size≤(wg.alloc (.cells #[.string ⟨(iU (j+1)).toArray⟩] 9)).heap.size:=HA.out.2.2.size;obtain⟨TX,hTX⟩:∃TX,iU (j+1)=TX:=⟨_,rfl⟩
    rw[hTX]at HA HNW HOW hbs;have HTX:=aA hTX
    have hcat:(⟨#[108,105,110,101,32]⟩:ByteArray)++⟨(Lib.decDigits (j+1)).toArray⟩=⟨TX.toArray⟩:=by rw[←HTX.out];apply ByteArray.ext;simp[iU]
    have hdl:¬(9223372036854775807<5+(Lib.decDigits (j+1)).length):=by have:=gU (n:=j+1) (by omega);omega
    clear hTX;go_wp2_with (at_builtin;refine wpList_append_lies _ rfl (.tmp 32) (.tmp 37) 30 rfl w.heap.size 9 i0 _ 1 16 Tryz.underlying30 hi0 hz0 hz1 hz2 rfl (by omega) tv out.length (uM out) rfl HOW.out ⟨wg.heap.size,0,none⟩ 1 1 [.string ⟨TX.toArray⟩] rfl rfl (World.news_of_block HNW.out) (hU _) (by omega) hmax (by omega) hbs _ rfl ?_;intro g1 cap1 w7 hown2 hgrow2 hat2 hlt2;have HF:=aA (HA.out.app (t:=TX) hown2 hgrow2);clear hown2 hgrow2 hat2 hlt2);go_roundw;case rel=>exact⟨j+1,_,_,_,by omega,by go_num,rfl,by rw[HST.out,HQ.out.1 (by simp)];exact HTX.out▸HF⟩
    case measure=>simp[intOf];omega
   have hto:=HLN.out rfl;obtain⟨⟨d0,d1,d2,d3,d4⟩,dz⟩:=HV2.out;go_wp2_with fail;refine(HDO.out _ _ _ HI2.out.1 HP2.out).mono ?_;rintro e w3 ⟨a',cap',rfl,hb3,hout3⟩;have HI3:=aA (HI2.out.below hb3)
   have HO3:=aA hout3;have HV3:=aA (HV2.out.below hb3)
   clear hb3 hout3 HI2 HP2 HV2 HDO d0 d1 d2 d3 d4 dz;cases fine
   ·skip
    have HDG:=aA (lR (j+1) (by omega) w3);rw[show(((j+1:Nat)):Int)=(j:Int)+1 by omega]at HDG;go_wp2_with fail;refine HDG.out.mono ?_;rintro e wg ⟨rfl,hbg⟩;have HG:=aA (HI3.out.below hbg)
    clear hbg HDG;have HA:=aA (HG.out.below (aF wg (.cells #[.string ⟨(iV (j+1)).toArray⟩] 9)))
    have HNW:=aA (heap_alloc_new wg (.cells #[.string ⟨(iV (j+1)).toArray⟩] 9));have HOW:=aA HA.out.2.1
    have hbs:w.heap.size≤(wg.alloc (.cells #[.string ⟨(iV (j+1)).toArray⟩] 9)).heap.size:=HA.out.2.2.size;obtain⟨TX,hTX⟩:∃TX,iV (j+1)=TX:=⟨_,rfl⟩
    rw[hTX]at HA HNW HOW hbs;have HTX:=aA hTX
    have hcat:(⟨#[116,111,111,32,109,117,99,104,32]⟩:ByteArray)++⟨(Lib.decDigits (j+1)).toArray⟩=⟨TX.toArray⟩:=by rw[←HTX.out];apply ByteArray.ext;simp[iV]
    have hdl:¬(9223372036854775807<9+(Lib.decDigits (j+1)).length):=by have:=gU (n:=j+1) (by omega);omega
    clear hTX;go_wp2_with (at_builtin;refine wpList_append_lies _ rfl (.tmp 53) (.tmp 58) 30 rfl w.heap.size 9 i0 _ 1 16 Tryz.underlying30 hi0 hz0 hz1 hz2 rfl (by omega) tv out.length (uM out) rfl HOW.out ⟨wg.heap.size,0,none⟩ 1 1 [.string ⟨TX.toArray⟩] rfl rfl (World.news_of_block HNW.out) (hU _) (by omega) hmax (by omega) hbs _ rfl ?_;intro g1 cap1 w7 hown2 hgrow2 hat2 hlt2;have HF:=aA (HA.out.app (t:=TX) hown2 hgrow2);clear hown2 hgrow2 hat2 hlt2);go_roundw;case rel=>exact⟨j+1,_,_,_,by omega,by go_num,rfl,by rw[HST.out,HQ.out.2.1 (by simp) (by simp)];exact HTX.out▸HF⟩
    case measure=>simp[intOf];omega
   obtain⟨⟨d0,d1,d2,d3,d4⟩,dz⟩:=HV3.out;by_cases hk8:k=8
   ·have hk8b:(k==8)=true:=by simp[hk8]
    obtain⟨TX,hPT⟩:∃S,cO L.length (lf L)=S:=⟨_,rfl⟩
    have HTX2:=aA (rW w3 a' L.length cap' (lf L) HO3.out.1);have HQ8:=aA (HQ.out.2.2.1 (by simp) (by simp) hk8)
    rw[hPT]at HTX2 HQ8;clear hk8 hPT;go_wp2_with fail;refine HTX2.out.mono ?_;rintro e w4 ⟨rfl,hb4⟩;have HI4:=aA (HI3.out.below hb4)
    clear hb4 HTX2 HI3 HO3 HV3 d0 d1 d2 d3 d4 dz;have HA:=aA (HI4.out.below (aF w4 (.cells #[.string ⟨(TX).toArray⟩] 9)))
    have HNW:=aA (heap_alloc_new w4 (.cells #[.string ⟨(TX).toArray⟩] 9));have HOW:=aA HA.out.2.1
    have hbs:w.heap.size≤(w4.alloc (.cells #[.string ⟨(TX).toArray⟩] 9)).heap.size:=HA.out.2.2.size;go_wp2_with (at_builtin;refine wpList_append_lies _ rfl (.tmp 64) (.tmp 67) 30 rfl w.heap.size 9 i0 _ 1 16 Tryz.underlying30 hi0 hz0 hz1 hz2 rfl (by omega) tv out.length (uM out) rfl HOW.out ⟨w4.heap.size,0,none⟩ 1 1 [.string ⟨TX.toArray⟩] rfl rfl (World.news_of_block HNW.out) (hU _) (by omega) hmax (by omega) hbs _ rfl ?_;intro g1 cap1 w7 hown2 hgrow2 hat2 hlt2;have HF:=aA (HA.out.app (t:=TX) hown2 hgrow2);clear hown2 hgrow2 hat2 hlt2);go_roundw;case rel=>exact⟨j+1,_,_,_,by omega,by go_num,rfl,by rw[HST.out,HQ8.out];exact HF⟩
    case measure=>simp[intOf];omega
   ·have hk8b:(k==8)=false:=by simp[hk8]
    obtain⟨t,rfl,ht⟩:∃t:Nat,to=(t:Int)∧t<6:=⟨to.toNat,by omega,by omega⟩
    have HQ9:=aA (HQ.out.2.2.2 (by simp) (by simp) hk8);have HF:=aA (HI3.out.set (by omega) t HO3.out.1 HO3.out.2.1)
    have hcc:=HI3.out.1.1.cell (i:=t) ht;have hfz:=HI3.out.1.1.frozen
    have htI:(t:Int)<6:=by omega
    clear hk8 hto HLN;go_wp2;go_roundw;case rel=>exact⟨j+1,_,_,_,by omega,by go_num,rfl,by rw[HST.out,HQ9.out];exact HF⟩
    case measure=>simp[intOf];omega
  ·have hje:j=N:=by omega
   have hnl:¬(j:Int)<(N:Int):=by omega
   have HF:Hid (Below w.heap.size w wr∧oJ w.heap.size tv (eJ W) wr):=by rw[HR.out,←hje];exact aA ⟨HI.out.2.2,HI.out.2.1⟩
   clear hje HI;go_wp2;go_ret;exact⟨_,rfl,HF.out.1,HF.out.2⟩
end Go.Proofs.YtkcmamepoplcdaaGreatDoor
namespace Go.Proofs.YtkcmamepoplcdaaGreatDoor
open Go.RowKit Go.Deep
set_option linter.unusedVariables false
set_option linter.unusedSimpArgs false
theorem EB (W:List (List UInt8)):(eJ W).length≤60:=by
 unfold eJ;split
 ·decide
 ·exact jW (oC W _) (by omega)
theorem qH {lo:Nat} {v:Value} {W:List (List UInt8)} {w:World} (h:oJ lo v W w) (hl:∀l∈W,l.length≤1048576):∃a cap,v= .slice a W.length cap∧qN w a cap W:=by
 have h0:=h;rcases h.2 with⟨q,e⟩|⟨g,cap,cur,q,_⟩
 ·exact⟨none,0,by rw[q,e],by rw[e];exact Nat.le_refl _,.inl e,hl⟩
 ·subst q;exact⟨_,_,rfl,vR h0,.inr ⟨g,0,rfl,(lZ h0).2.2,fun i l hi=>by rw[Nat.zero_add];exact dP h0 hi⟩,hl⟩
theorem AB (n:Nat) (f:Nat→T):(cO n f).length≤1048576:=by
 cases h:aH n f
 ·rw[vU h];exact gO _
 ·exact jW (CB h) (by omega)
theorem rZ (W:List (List UInt8)):∀k,k≤60→∀l∈(iI W k).2,l.length≤1048576
 |0,_,l,h=>by cases h
 |k+1,hk,l,h=>by
  have hd:=gU (n:=k+1) (by omega);have ih:=rZ W k (by omega)
  have h':l∈(eG k (W.getD k []) (iI W k)).2:=h;unfold eG at h';split at h'
  ·rcases List.mem_append.1 h' with q|q
   ·exact ih l q
   ·rw[List.mem_singleton.1 q];unfold iU;simp only[List.length_append,List.length_cons,List.length_nil];omega
  ·split at h'
   ·rcases List.mem_append.1 h' with q|q
    ·exact ih l q
    ·rw[List.mem_singleton.1 q];unfold iV;simp only[List.length_append,List.length_cons,List.length_nil];omega
   ·split at h'
    ·rcases List.mem_append.1 h' with q|q
     ·exact ih l q
     ·rw[List.mem_singleton.1 q];exact AB _ _
    ·exact ih l h'
theorem EA (W:List (List UInt8)):∀l∈eJ W,l.length≤1048576:=by
 intro l h;unfold eJ at h;split at h
 ·rw[List.mem_singleton.1 h];decide
 ·exact rZ W _ (by omega) l h
end Go.Proofs.YtkcmamepoplcdaaGreatDoor
namespace Go.Proofs.YtkcmamepoplcdaaGreatDoor
open Go.Shelf Go.RowKit
set_option linter.unusedVariables false
set_option linter.unusedSimpArgs false
theorem oV {lo:Nat} {v:Value} {xs:List (List UInt8)} {w w':World} {row:Option Nat} (h:oJ lo v xs w) (hg:w.grownBy w' row) (hr:∀g,v.ownBlock=some g→some g≠row):oJ lo v xs w':=by have hlt:=h;refine⟨h.1,h.2.imp id (fun⟨g,cap,cur,q,hlo,h3,r⟩=>⟨g,cap,cur,q,hlo,?_,r⟩)⟩;exact(hg.block g (vA h3) (hr g (by rw[q];rfl))).trans h3
theorem IL {lo:Nat} {a:Option Addr} {n cp:Nat} {xs:List (List UInt8)} {w:World} (h:oJ lo (.slice a n cp) xs w):xs.length=0∨∃g N F,a=some ⟨g,0,none⟩∧xs.length≤N∧w.rowIs g 9 N F:=by
 rcases h.2 with⟨_,e⟩|⟨g,cap,cur,q,hlo,h3,h4,h5,h6,h7⟩
 ·exact .inl e
 ·injection q with q1 q2 q3;refine .inr ⟨g,cur.size,fun i=>cur[i]!,q1,by omega,cur,h3,rfl,fun i hi=>?_⟩;simp[hi]
theorem NA {w:World} {a:Option Addr} {cap n:Nat} (hn:n≤1048576) (hc:n≤cap) (h:n=0∨∃g N F,a=some ⟨g,0,none⟩∧n≤N∧w.rowIs g 9 N (KI F 1 n)):qN w a cap (MD 1 n):=by
 refine⟨by rw[qB];exact hc,?_,fun l hl=>?_⟩
 ·rcases h with h0|⟨g,N,F,rfl,hN,hr⟩
  ·exact .inl (by rw[qB];exact h0)
  ·refine .inr ⟨g,0,rfl,hr.lt,fun i l hi=>?_⟩;have hlt:i<n:=by have:=(List.getElem?_eq_some_iff.1 hi).1;rw[qB]at this;exact this
   rw[GZ hlt]at hi;obtain rfl:=Option.some.inj hi;rw[Nat.zero_add,hr.cell (show i<N by omega)];unfold KI;rw[if_pos hlt]
 ·simp only[MD,List.mem_map,List.mem_range]at hl;obtain⟨i,hi,rfl⟩:=hl;exact jW (MG (by omega)) (by omega)
theorem IK {lo:Nat} {v:Value} {xs:List (List UInt8)} {w:World} (h:oJ lo v xs w):∀g,v.ownBlock=some g→g<w.heap.size:=fun g e=>by
 obtain⟨_,c,q⟩:=jR h g e;exact vA q
theorem yJ (a:Option Addr) (n c:Nat):(Value.slice a n c).ownBlock=a.map (·.block):=by cases a<;>rfl
theorem TR (w:World) (a b:Option Addr) (ca cb:Nat) (W:List (List UInt8)) (n:Nat) (e:W.length=n) (hn:n≤9000000) (h:qN w a ca W) (h':qN w b cb W):Calls Tryz.prog 17 #[.slice a n ca,.slice b n cb] w fun r w'=>r= .returned (.bool true)∧Below w.heap.size w w':=by subst e;exact xO w a b ca cb W hn h h'
theorem mX (W:List (List UInt8)) (a:Option Addr) (cap:Nat) (w:World) (hc:W.length≤cap) (hn:(W.length:Int)≤9223372036854775807) (hin:W.length=0∨∃b off,a=some ⟨b,off,none⟩∧b<w.heap.size∧∀(i:Nat) (l:List UInt8),W[i]? =some l→w.cell? ⟨b,off+i,none⟩=some (.string ⟨l.toArray⟩)) (hl:∀l∈W,(l.length:Int)≤9223372036854775807) (hM:EP w) (hE:Er w) (hT:Tb w) (hD:Dw w):Calls Tryz.prog 4 #[.slice a W.length cap] w fun e w'=>e= .returned (.bool true)∧Below w.heap.size w w':=by
 have HM:=aA hM;have HE:=aA hE
 have HT:=aA hT;have HD:=aA hD
 have HSZ:=aA (JP W a cap w hn hin hl);have HIN:=aA hin
 have HRI:=aA (fun(u:World) (a:Option Addr) (c:Nat) (hr:qN u a c W) (hb:Below w.heap.size w u)=>LH W a c u hr (hM.below hb) (hE.below hb) (hT.below hb) (hD.below hb));have HRS:=aA (fun(u:World) (a:Option Addr) (c:Nat) (hr:qN u a c W)=>LI W a c u hr)
 obtain⟨D,hDD⟩:∃D,eJ W=D:=⟨_,rfl⟩
 have hDl:D.length≤60:=by rw[←hDD];exact EB W
 have hDs:=aA (EA W);rw[hDD]at HRI HRS hDs;clear hM hE hT hD hin hl hDD;obtain⟨n,hN⟩:∃n,W.length=n:=⟨_,rfl⟩
 have HN:=aA hN;rw[hN]at HSZ HRI HRS hc hn⊢;clear hN;go_enter Tryz.func4,Tryz.ntmps4;go_wp2_with fail;refine HSZ.out.mono ?_;rintro e w1 ⟨hb,v,rfl,hv⟩;have Z1:=aA hb
 clear hb HSZ;rcases hv with hv|⟨hv0,hn1,hls⟩
 ·go_wp2;go_ret;exact⟨rfl,Z1.out⟩
 have hv1:¬v<0:=by omega
 have A0:Hid (∀u,Below w.heap.size w u→qN u a cap W):=aA (fun u hb=>⟨by rw[HN.out];exact hc,HIN.out.imp id (fun⟨b,off,e,hlt,hcl⟩=>⟨b,off,e,eB hlt hb.size,fun i l hi=>(hb.cell (p:=⟨b,off+i,none⟩) hlt).trans (hcl i l hi)⟩),hls⟩);have HLS:=aA hls
 have HTO:Hid (∀u,Below w.heap.size w u→Calls Tryz.prog 15 #[.slice a n cap] u fun r w'=>r= .returned (.slice (some ⟨u.heap.size,0,none⟩) n n)∧Below u.heap.size u w'∧qN w' (some ⟨u.heap.size,0,none⟩) n W∧w'.rowIs u.heap.size 9 n (tx W)):=aA (fun u hb=>by
  have q:=JS u a cap W (by rw[HN.out];exact hn1) (A0.out u hb);rw[HN.out]at q;refine q.mono ?_;rintro r w' ⟨rfl,hb2,hr⟩
  exact⟨rfl,hb2,NB hr (by rw[HN.out];exact Nat.le_refl _) (fun i _=>rfl) n (by rw[HN.out];exact Nat.le_refl _) HLS.out,hr⟩)
 have HEQ:Hid (∀(u:World) (a1 a2:Option Addr) (c1 c2:Nat),qN u a1 c1 D→qN u a2 c2 D→Calls Tryz.prog 17 #[.slice a1 D.length c1,.slice a2 D.length c2] u fun r w'=>r= .returned (.bool true)∧Below u.heap.size u w'):=aA (fun u a1 a2 c1 c2 h1 h2=>xO u a1 a2 c1 c2 D (by omega) h1 h2);clear hls HIN hv0;have nI:((1+n:Nat):Int)=1+(n:Int):=by omega
 have dI:((1+D.length:Nat):Int)=1+(D.length:Int):=by omega
 have HNI:=aA nI;have HDI:=aA dI
 clear nI dI;go_wp2_with fail;refine(HTO.out _ Z1.out).mono ?_;rintro e w2 ⟨rfl,hb,hr,_⟩;have Z2:=aA (aC Z1.out hb)
 have R2:=aA hr;clear hb hr Z1;go_wp2_with fail;refine(HRS.out _ _ _ R2.out).mono ?_;rintro e w3 ⟨v0,rfl,hb,hown⟩;have Z3:=aA (aC Z2.out hb)
 obtain⟨as0,cs0,rfl,_⟩:=qH hown hDs.out;have S3:=aA hown
 clear hb hown R2;go_wp2_with fail;refine(HTO.out _ Z3.out).mono ?_;rintro e w4 ⟨rfl,hb,hr,hx⟩;have Z4:=aA (aC Z3.out hb)
 have S4:=aA (aK S3.out hb);have R4:=aA hr
 have X4:=aA hx;have hX3:=aA S3.out
 clear hb hr hx S3;go_wp2_with fail;refine(HRI.out _ _ _ R4.out Z4.out).mono ?_;rintro e w5 ⟨v1,rfl,hb,hown⟩;have Z5:=aA (aC Z4.out hb)
 have S5:=aA (aK S4.out hb);have R5:=aA (R4.out.below hb)
 have X5:=aA (X4.out.of_block (hb.block _ X4.out.lt));have hX4:=aA X4.out.lt
 have hZ4:=aA Z4.out.size;obtain⟨ag,cg,rfl,_⟩:=qH hown hDs.out;have G5:=aA hown
 have HGC:=aA (G5.out.2);clear hb hown Z4 S4 R4 X4
 have HR':Hid (∀(lo:Nat) (u:World) (b:Option Addr) (c:Nat),oJ lo (.slice b D.length c) D u→qN u b c D):=aA (fun lo u b c h=>by
  obtain⟨b',c',e,r⟩:=qH h hDs.out;injection e with e1 e2 e3
  rw[e1,e3];exact r)
 go_wp2_with fail;refine(HEQ.out _ _ _ _ _ (HR'.out _ _ _ _ G5.out) (HR'.out _ _ _ _ S5.out)).mono ?_;rintro e w6 ⟨rfl,hb⟩;have Z6:=aA (aC Z5.out hb)
 have S6:=aA (aK S5.out hb);have G6:=aA (aK G5.out hb)
 have R6:=aA (R5.out.below hb);have X6:=aA (X5.out.of_block (hb.block _ X5.out.lt))
 clear hb Z5 S5 G5 R5 X5;go_wp2_with fail;refine(HTO.out _ Z6.out).mono ?_;rintro e w7 ⟨rfl,hb,hr,_⟩;have Z7:=aA (aC Z6.out hb)
 have S7:=aA (aK S6.out hb);have G7:=aA (aK G6.out hb)
 have R7:=aA (R6.out.below hb);have X7:=aA (X6.out.of_block (hb.block _ X6.out.lt))
 clear hb Z6 S6 G6 R6 X6;have Y7:=aA hr
 clear hr;go_wp2_with fail;refine(TR w7 _ _ _ _ W n HN.out (by omega) R7.out Y7.out).mono ?_;rintro e w8 ⟨rfl,hb⟩;have Z8:=aA (aC Z7.out hb)
 have S8:=aA (aK S7.out hb);have G8:=aA (aK G7.out hb)
 have R8:=aA (R7.out.below hb);have X8:=aA (X7.out.of_block (hb.block _ X7.out.lt))
 clear hb Z7 S7 G7 R7 X7;clear Y7;have HMX:Hid (Calls Tryz.prog 18 #[.slice (some ⟨w3.heap.size,0,none⟩) n n,.int .i64 1] w8 fun r w'=>r= .returned (.int .i64 (1+(n:Int)))∧w8.grownBy w' (some w3.heap.size)):=aA ((rO w8 (some ⟨w3.heap.size,0,none⟩) n 1 n hn1 (by omega) (by omega) (.inr ⟨_,n,_,rfl,Nat.le_refl _,X8.out⟩)).mono (fun r w' h=>⟨by rw[h.1,HNI.out],h.2.1⟩))
 clear R8 X8;go_wp2_with fail;refine HMX.out.mono ?_;rintro e w9 ⟨rfl,hg⟩;have Z9:=aA (Z8.out.grown hg Z8.out.size (fun k e=>by cases e;exact Z3.out.size))
 have S9:=aA (oV S8.out hg (fun g e q=>by have:=IK hX3.out g e;cases q;omega));have G9:=aA (oV G8.out hg (fun g e q=>by have:=(jR G8.out g e).1;have:=hX4.out;cases q;omega))
 clear hg Z8 S8 G8 HMX;have hk1:¬1+(n:Int)<0:=by omega
 go_wp2_with fail;refine(HEQ.out _ _ _ _ _ (HR'.out _ _ _ _ G9.out) (HR'.out _ _ _ _ S9.out)).mono ?_;rintro e w10 ⟨rfl,hb⟩;have Z10:=aA (aC Z9.out hb)
 have S10:=aA (aK S9.out hb);have G10:=aA (aK G9.out hb)
 clear hb Z9 S9 G9;have hDc:Hid (D.length≤cg):=aA (HR'.out _ _ _ _ G10.out).1
 have HMG:Hid (Calls Tryz.prog 18 #[.slice ag D.length cg,.int .i64 1] w10 fun r w'=>r= .returned (.int .i64 (1+(D.length:Int)))∧w10.grownBy w' (ag.map (·.block))∧qN w' ag cg (MD 1 D.length)):=aA ((rO w10 ag cg 1 D.length (by omega) (by omega) (by omega) (IL G10.out)).mono (fun r w' h=>⟨by rw[h.1,HDI.out],h.2.1,NA (by omega) hDc.out h.2.2⟩));go_wp2_with fail;refine HMG.out.mono ?_;rintro e w11 ⟨rfl,hg,hm⟩
 have Z11:=aA (Z10.out.grown hg Z10.out.size (fun k e=>by
  have:=(jR G10.out k (by rw[←e];exact yJ _ _ _)).1;have:=hZ4.out
  omega))
 have S11:=aA (oV S10.out hg (fun g e q=>by
  have h1:=IK hX3.out g e;have h2:=(jR G10.out g (by rw[q];exact yJ _ _ _)).1
  have:=hX4.out
  omega))
 have M11:=aA hm;clear hg hm Z10 S10 G10 HMG;have hkd:¬1+(D.length:Int)<0:=by omega
 have hqm:(1+(D.length:Int)!=1+(D.length:Int))=false:=by simp
 have HHE:Hid (∀u:World,qN u ag cg (MD 1 D.length)→Calls Tryz.prog 19 #[.slice ag D.length cg,.int .i64 1] u fun r w'=>r= .returned (.int .i64 (1+(D.length:Int)))∧Below u.heap.size u w'):=aA (fun u h=>(zQ u ag cg 1 D.length (by omega) (by omega) (by omega) h).mono (fun r w' h=>⟨by rw[h.1,HDI.out],h.2⟩));go_wp2_with fail;refine(HHE.out _ M11.out).mono ?_;rintro e w12 ⟨rfl,hb⟩;have Z12:=aA (aC Z11.out hb)
 have S12:=aA (aK S11.out hb);have M12:=aA (M11.out.below hb)
 clear hb Z11 S11 M11;go_wp2_with fail;refine(HTO.out _ Z12.out).mono ?_;rintro e w13 ⟨rfl,hb,hr,_⟩;have Z13:=aA (aC Z12.out hb)
 have S13:=aA (aK S12.out hb);have M13:=aA (M12.out.below hb)
 have R13:=aA hr;clear hb hr Z12 S12 M12;go_wp2_with fail;refine(HRI.out _ _ _ R13.out Z13.out).mono ?_;rintro e w14 ⟨v2,rfl,hb,hown⟩;have Z14:=aA (aC Z13.out hb)
 have S14:=aA (aK S13.out hb);have M14:=aA (M13.out.below hb)
 obtain⟨ah,ch,rfl,hrd⟩:=qH hown hDs.out;have H14:=aA hrd
 clear hb hown hrd Z13 S13 M13 R13;go_wp2_with fail;refine(HEQ.out _ _ _ _ _ H14.out (HR'.out _ _ _ _ S14.out)).mono ?_;rintro e w15 ⟨rfl,hb⟩;have Z15:=aA (aC Z14.out hb)
 have M15:=aA (M14.out.below hb);clear hb Z14 S14 M14 H14;go_wp2_with fail;refine(HHE.out _ M15.out).mono ?_;rintro e w16 ⟨rfl,hb⟩;have Z16:=aA (aC Z15.out hb)
 clear hb Z15 M15;go_wp2;go_ret;exact⟨rfl,Z16.out⟩
end Go.Proofs.YtkcmamepoplcdaaGreatDoor
namespace Go.Proofs.YtkcmamepoplcdaaGreatDoor
open Go.RowKit
set_option linter.unusedVariables false
theorem PC : Tryz.prog.globalNamed "strconv.ErrRange" = some 8 := by kernel_rfl
theorem LQ : Tryz.prog.globalNamed "strconv.ErrSyntax" = some 7 := by kernel_rfl
theorem LP:(Tryz.prog.globals[8]?).map (·.type)=some 97:=by kernel_rfl
theorem GC:(Tryz.prog.globals[7]?).map (·.type)=some 97:=by kernel_rfl
theorem CI : "*" ++ "errors.errorString" = "*errors.errorString" := by decide
theorem JF (u : TypeId) (h : Tryz.prog.typeName? 3 u = some "*errors.errorString") : u = 225 :=
 typeName_ptr_named (nm := "errors.errorString") (by rw [CI]; kernel_rfl) (by kernel_rfl) (by decide) u (by rw [CI]; exact h)
theorem RB {W : World} {a b c : String × DataW Unit} {r : List (String × DataW Unit)} (h : laidMet Tryz.prog (a :: b :: c :: ("strconv.ErrRange", Rows.laid_strconv_ErrRange) :: ("strconv.ErrSyntax", Rows.laid_strconv_ErrSyntax) :: r) W) : Er W := by
 have h1:=h.tail.tail.tail;have h2:=h1.tail
 obtain⟨a1,s1,v1, -, -, -⟩:=laid_sentinel h1 PC LP Tryz.underlying97 JF Tryz.underlying225 Tryz.underlying227 rfl rfl Tryz.underlying9 (by kernel_rfl) (by kernel_rfl);obtain⟨a2,s2,v2, -, -, -⟩:=laid_sentinel h2 LQ GC Tryz.underlying97 JF Tryz.underlying225 Tryz.underlying227 rfl rfl Tryz.underlying9 (by kernel_rfl) (by kernel_rfl);exact⟨⟨_,_,v2⟩,⟨_,_,v1⟩⟩
theorem EH {W : World} {rest : List (String × DataW Unit)} {n0 n1 : String} {d0 d1 : DataW Unit}
    (h : laidMet Tryz.prog ((n0, d0) :: (n1, d1) :: ("internal/strconv.uint64pow10", Rows.laid_internal_strconv_uint64pow10) :: rest) W) : Tb W := by
  have e:(Rows.laid_internal_strconv_uint64pow10:DataW Unit)=Lib.tabData .u64 Lib.pow10Tab:=by kernel_rfl
  rw[e]at h
  obtain⟨ps,⟨_,_,_,_,_,_,_,_,_,_,⟨_,_,_,_,_,_,_,_,_,_,⟨g',t',cs,fuel,p,q,hg',ht',hvar,hd,_,_⟩,_⟩,_⟩,_⟩:=h
  obtain rfl := Option.some.inj ((show Tryz.prog.globalNamed "internal/strconv.uint64pow10" = some 2 by kernel_rfl).symm.trans hg')
  obtain rfl:=Option.some.inj ((show(Tryz.prog.globals[2]?).map (·.type)=some 175 by kernel_rfl).symm.trans ht')
  show Lib.TabIs _ _ _ _ _
  unfold Lib.TabIs
  rw[hvar,←Lib.cells_of_tab Tryz.underlying175 Tryz.underlying144 (by kernel_rfl) (by kernel_rfl) hd]
set_option linter.unusedSimpArgs false
theorem mY : Tryz.prog.globalNamed "loop.example/selvedge/impl.dskWords" = some 0 := by kernel_rfl
theorem uS:(Tryz.prog.globals[0]?).map (·.type)=some 67:=by kernel_rfl
def wordsA:Array Value:=#[.string ⟨#[]⟩,.string ⟨#[115,101,116]⟩,.string ⟨#[97,100,100]⟩,.string ⟨#[109,117,108]⟩,.string ⟨#[97,112,97,114,116]⟩,.string ⟨#[100,111]⟩,.string ⟨#[114,111,117,110,100]⟩,.string ⟨#[98,97,99,107]⟩,.string ⟨#[115,104,111,119]⟩]
theorem zF {H:Type} {enc:TypeId×Value→H} {w:World} {base:Nat} {sp:Nat→Bool} {held:Bool} {fuel:Nat} {cs:List Value} {p:List MemPlace} (h:DataW.trod enc Tryz.prog w base sp held fuel 67 cs=some (Rows.laid_loop_example_selvedge_impl_dskWords,p)):cs=wordsA.toList:=by
 obtain⟨xs,m,hk,hx,hl,hlen,hf⟩:=DataW.trod_array Tryz.underlying67 h;have hc9:Tryz.prog.cellsOf 67=9:=by kernel_rfl
 have hc1:Tryz.prog.cellsOf 9=1:=by kernel_rfl
 rw[hc9]at hl;simp only[hc1,Nat.mul_one]at hf;have hm:xs.map (·.1)=[.lit (.string []),.lit (.string [115,101,116]),.lit (.string [97,100,100]),.lit (.string [109,117,108]),.lit (.string [97,112,97,114,116]),.lit (.string [100,111]),.lit (.string [114,111,117,110,100]),.lit (.string [98,97,99,107]),.lit (.string [115,104,111,119])]:=by
  have h1:=congrArg Prod.fst hx;have h2:(DataW.agg [.lit (.string []),.lit (.string [115,101,116]),.lit (.string [97,100,100]),.lit (.string [109,117,108]),.lit (.string [97,112,97,114,116]),.lit (.string [100,111]),.lit (.string [114,111,117,110,100]),.lit (.string [98,97,99,107]),.lit (.string [115,104,111,119])]:DataW H)=DataW.agg (xs.map (·.1)):=h1
  injection h2 with h3;exact h3.symm
 have key:∀(i:Nat) (bytes:List UInt8),i<9→(xs.map (·.1))[i]? =some (.lit (.string bytes))→cs[i]? =some (.string ⟨bytes.toArray⟩):=fun i bytes hi hb=>by
  rw[List.getElem?_map]at hb;cases hy:xs[i]? with
  |none=>rw[hy]at hb;cases hb
  |some y=>
   rw[hy]at hb;have h1:=hf i hi
   rw[hy]at h1;obtain⟨s,e1,e2,_⟩:=DataW.trod_string Tryz.underlying9 h1;rw[e2]at hb;have h3:s.data.toList=bytes:=by simp at hb;exact hb
   have h4:=congrArg (·[0]?) e1;simp[List.getElem?_drop]at h4;rw[h4,←h3]
 rw[hm]at key;apply List.ext_getElem?;intro i;by_cases hi:i<9
 ·rcases(show i=0∨i=1∨i=2∨i=3∨i=4∨i=5∨i=6∨i=7∨i=8 by omega)with rfl|rfl|rfl|rfl|rfl|rfl|rfl|rfl|rfl;all_goals(rw[key _ _ hi rfl];rfl)
 ·rw[List.getElem?_eq_none (by omega),List.getElem?_eq_none (by show 9≤i;omega)]
theorem RA {W : World} (h : W.var? Tryz.prog "loop.example/selvedge/impl.dskWords" = some wordsA) : Dw W := fun k h1 h8 => by
 unfold World.var? at h;rw[mY]at h;simp only[Option.bind_some]at h;cases hb:W.heap[0]? with
 |none=>rw[hb]at h;simp at h
 |some o=>
  rw[hb]at h;cases o with
  |cells c t fr=>
   simp at h;subst h;rw[cell_of_row W 0 k _ _ _ hb];rcases(show k=1∨k=2∨k=3∨k=4∨k=5∨k=6∨k=7∨k=8 by omega)with rfl|rfl|rfl|rfl|rfl|rfl|rfl|rfl<;>rfl
  |_=>simp at h
theorem LJ {W : World} {a b c : String × DataW Unit} {r : List (String × DataW Unit)} (h : laidMet Tryz.prog (a :: b :: c :: ("loop.example/selvedge/impl.dskWords", Rows.laid_loop_example_selvedge_impl_dskWords) :: r) W) : W.var? Tryz.prog "loop.example/selvedge/impl.dskWords" = some wordsA := by
 have h1:=h.tail.tail.tail;obtain⟨ps,⟨g1,t1,cs1,fuel1,p1,q1,hg1,ht1,hv1,hd1,_,_⟩,_⟩:=h1;obtain rfl:=Option.some.inj (mY.symm.trans hg1);obtain rfl:=Option.some.inj (uS.symm.trans ht1);rw[hv1];congr 1;exact Array.toList_inj.1 (zF hd1)
end Go.Proofs.YtkcmamepoplcdaaGreatDoor
