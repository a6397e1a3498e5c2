/-
  The program runs lines (DskRun).
-/
import Derived.Test.YtkcmamepoplcdaaGreatDoorXav
import Derived.Test.YtkcmamepoplcdaaGreatDoorXbi
set_option maxHeartbeats 16000000
set_option maxRecDepth 100000
namespace Go.Proofs.YtkcmamepoplcdaaGreatDoor
open Go.Shelf Go.RowKit Go.Deep
set_option linter.unusedVariables false
set_option linter.unusedSimpArgs false
theorem LH (W:List (List UInt8)) (a0:Option Addr) (cap0:Nat) (w:World) (h:qN w a0 cap0 W) (hM:EP w) (hE:Er w) (hT:Tb w) (hD:Dw w):Calls Tryz.prog 16 #[.slice a0 W.length cap0] w fun e w'=>∃v,e= .returned v∧Below w.heap.size w w'∧oJ w.heap.size v (eJ W) w':=by
 obtain⟨i0,hi0,hz0,hz1,hz2⟩:=info_parts oQ;obtain⟨N,hN⟩:∃N,W.length=N:=⟨_,rfl⟩
 by_cases h60:60<N
 ·have hI:(60:Int)<(N:Int):=by omega
  have HR:Hid (eJ W=[[108,111,110,103]]):=by unfold eJ;rw[if_pos (by omega)];exact aA rfl
  rw[hN];clear h hN h60 hM hE hT hD;go_enter Tryz.func16,Tryz.ntmps16;go_wp2;go_ret;exact⟨_,rfl,aF _ _,by rw[HR.out];exact World.ownsRow_lit _ _ _ (Nat.le_refl _) (by decide) rfl⟩
 have hI:¬(60:Int)<(N:Int):=by omega
 have hN60:N≤60:=by omega
 have HR:Hid (eJ W=(iI W N).2):=by unfold eJ;rw[hN,if_neg h60];exact aA rfl
 have HH:=aA h;have HN:=aA hN
 have HM:=aA hM;have HE:=aA hE
 have HT:=aA hT;have HD:=aA hD
 rw[hN];clear h hN h60 hM hE hT hD;have hmk:=NY
 have HI0:Hid (CO w (w.alloc (.cells #[.slice none 0 0,.slice none 0 0,.slice none 0 0,.slice none 0 0,.slice none 0 0,.slice none 0 0] 22)) w.heap.size (iI W 0).1 (iI W 0).2 (fun _=>none) (fun _=>0) (.slice none 0 0)):=aA ⟨sS.new w,MO _ _,aF w _⟩;go_enter Tryz.func16,Tryz.ntmps16;go_wp2;go_loopw [19,4] (fun vj vt wr=>∃(j:Nat) (tv:Value) (ad:Nat→Option Addr) (cp:Nat→Nat),j≤N∧vj= .int .i64 (j:Int)∧vt=tv∧Hid (CO w wr w.heap.size (iI W j).1 (iI W j).2 ad cp tv)) (fun vj _ _=>N-(intOf vj).toNat);case atStart=>exact⟨0,_,_,_,gO _,rfl,rfl,HI0⟩
 case round=>
  obtain⟨j,tv,ad,cp,hj,rfl,hvt,HI⟩:=hrel;obtain rfl:=hvt.symm;by_cases hjN:j<N
  ·have hjI:(j:Int)<(N:Int):=by omega
   obtain⟨l,hl⟩:∃l,W[j]? =some l:=⟨_,List.getElem?_eq_getElem (by rw[HN.out];exact hjN)⟩
   have hll:l.length≤1048576:=HH.out.2.2 l (List.mem_of_getElem? hl);have HST:Hid (iI W (j+1)=eG j l (iI W j)):=by show Hid (eG j (W.getD j []) (iI W j)=_);rw[List.getD_eq_getElem?_getD,hl];exact aA rfl
   have HOL:=aA (oC W j);obtain⟨F,out,hst⟩:∃F out,iI W j=(F,out):=⟨_,_,rfl⟩
   rw[hst]at HI HST HOL;simp only at HI HOL;obtain⟨b0,off0,rfl,hb0,hcl⟩:∃b off,a0=some ⟨b,off,none⟩∧b<w.heap.size∧∀(i:Nat) (l:List UInt8),W[i]? =some l→w.cell? ⟨b,off+i,none⟩=some (.string ⟨l.toArray⟩):=HH.out.2.1.resolve_left (by rw[HN.out];omega)
   have hcx:=(HI.out.2.2.cell (p:=⟨b0,off0+j,none⟩) hb0).trans (hcl j l hl);have hol:=HOL.out
   have hs1:w.heap.size≤wr.heap.size:=HI.out.2.2.size;have hblt:w.heap.size<wr.heap.size:=HI.out.1.lt
   clear hl hcl hb0 HOL hst;obtain⟨R,hR⟩:∃R,eI l=R:=⟨_,rfl⟩
   obtain⟨⟨k,to,a,b,p⟩,ok⟩:=R;have HLN:Hid (ok=true→0≤to∧to≤5):=aA (fun e=>by have q:=(tP (s:=l) (by rw[hR];exact e)).ok.to;rw[hR]at q;exact q)
   have HRD:Hid (∀u,Below w.heap.size w u→Calls Tryz.prog 9 #[.string ⟨l.toArray⟩] u fun e w'=>∃pa cap,e= .returned (.tuple #[.agg #[.int .i64 k,.int .i64 to,.int .i64 a,.int .i64 b,.slice pa p.length cap],.bool ok])∧Below u.heap.size u w'∧iJ u.heap.size w' pa cap p):=aA (fun u hb=>by
    have q:=FT l hll u (HM.out.below hb) (HE.out.below hb) (HT.out.below hb) (HD.out.below hb);unfold iB at q;rw[hR]at q
    exact q)
   have HQ:Hid ((ok=false→eG j l (F,out)=(F,out++[iU (j+1)]))∧(ok=true→(oO ⟨k,to,a,b,p⟩ F).2=false→eG j l (F,out)=(F,out++[iV (j+1)]))∧(ok=true→(oO ⟨k,to,a,b,p⟩ F).2=true→k=8→eG j l (F,out)=(F,out++[cO (oO ⟨k,to,a,b,p⟩ F).1.length (lf (oO ⟨k,to,a,b,p⟩ F).1)]))∧(ok=true→(oO ⟨k,to,a,b,p⟩ F).2=true→k≠8→eG j l (F,out)=(fun i=>if i=to.toNat then(oO ⟨k,to,a,b,p⟩ F).1 else F i,out))):=aA (by
    have q1:=@zA j l (F,out);have q2:=@sA j l (F,out)
    have q3:=@sB j l (F,out);have q4:=@uI j l (F,out)
    rw[hR]at q1 q2 q3 q4
    exact⟨q1,q2,q3,q4⟩)
   clear hR;obtain⟨Q,hQ⟩:∃Q,oO ⟨k,to,a,b,p⟩ F=Q:=⟨_,rfl⟩
   obtain⟨L,fine⟩:=Q
   have HDO:Hid (∀(u:World) pa cap,Below w.heap.size w u→sS u w.heap.size F ad cp→Rd u pa p.length cap (lf p)→Calls Tryz.prog 45 #[.slice (some ⟨w.heap.size,0,none⟩) 6 6,.agg #[.int .i64 k,.int .i64 to,.int .i64 a,.int .i64 b,.slice pa p.length cap]] u fun e w'=>∃a' cap',e= .returned (.tuple #[.slice a' L.length cap',.bool fine])∧Below u.heap.size u w'∧iJ u.heap.size w' a' cap' L):=aA (fun u pa cap hb hs hr=>by
    have q:=OX k to a b _ 6 6 ad _ cp _ pa cap p u hs.rds hr (HT.out.below hb) (HD.out.below hb);unfold oO at hQ;simp only at hQ;rw[hQ]at q
    exact q)
   rw[hQ]at HQ;simp only at HQ;clear hQ;have hmax:out.length+1≤maxLen:=by unfold maxLen;omega
   have hjw:IntKind.i64.wrap ((j:Int)+1)=(j:Int)+1:=by rw[IntKind.wrap_i64];omega
   have HIT:=aA (BL (j+1) (by omega) wr (HT.out.below HI.out.2.2));rw[show(((j+1:Nat)):Int)=(j:Int)+1 by omega]at HIT;go_wp2_with fail;refine HIT.out.mono ?_;rintro e w1 ⟨rfl,hb1⟩;have HI1:=aA (HI.out.below hb1)
   clear hb1 HIT HI;go_wp2_with fail;refine(HRD.out _ HI1.out.2.2).mono ?_;rintro e w2 ⟨pa,cap,rfl,hb2,hout⟩;have bx:=aF w2 (.cells #[.int .i64 k,.int .i64 to,.int .i64 a,.int .i64 b,.slice pa p.length cap] 24)
   have HI2:=aA (HI1.out.below (aC hb2 bx));have HP2:=aA (hout.1.below bx)
   have HV2:=aA (V5.box w2 24 (.int .i64 k) (.int .i64 to) (.int .i64 a) (.int .i64 b) (.slice pa p.length cap));have hbw:w.heap.size<w2.heap.size:=eB HI1.out.1.lt hb2.size
   clear hb2 hout bx HI1 HRD hcx;obtain⟨⟨d0,d1,d2,d3,d4⟩,dz⟩:=HV2.out;go_wp2_with fail;refine(HDO.out _ _ _ HI2.out.2.2 HI2.out.1 HP2.out).mono ?_;rintro e w3 ⟨a',cap',rfl,hb3,hout3⟩;have HI3:=aA (HI2.out.below hb3)
   have HO3:=aA hout3;have HV3:=aA (HV2.out.below hb3)
   clear hb3 hout3 HI2 HP2 HV2 HDO d0 d1 d2 d3 d4 dz;cases ok
   ·skip
    have HA:=aA (HI3.out.below (aF w3 (.cells #[.string ⟨(iU (j+1)).toArray⟩] 9)));have HNW:=aA (heap_alloc_new w3 (.cells #[.string ⟨(iU (j+1)).toArray⟩] 9))
    have HOW:=aA HA.out.2.1;have hbs:w.heap.size≤(w3.alloc (.cells #[.string ⟨(iU (j+1)).toArray⟩] 9)).heap.size:=HA.out.2.2.size
    obtain⟨TX,hTX⟩:∃TX,iU (j+1)=TX:=⟨_,rfl⟩
    rw[hTX]at HA HNW HOW hbs;have HTX:=aA hTX
    have hcat:(⟨#[108,105,110,101,32]⟩:ByteArray)++⟨(Lib.decDigits (j+1)).toArray⟩=⟨TX.toArray⟩:=by rw[←HTX.out];apply ByteArray.ext;simp[iU]
    have hdl:¬(9223372036854775807<5+(Lib.decDigits (j+1)).length):=by have:=gU (n:=j+1) (by omega);omega
    clear hTX;go_wp2_with (at_builtin;refine wpList_append_lies _ rfl (.tmp 46) (.tmp 49) 30 rfl w.heap.size 9 i0 _ 1 16 Tryz.underlying30 hi0 hz0 hz1 hz2 rfl (by omega) tv out.length (uM out) rfl HOW.out ⟨w3.heap.size,0,none⟩ 1 1 [.string ⟨TX.toArray⟩] rfl rfl (World.news_of_block HNW.out) (hU _) (by omega) hmax (by omega) hbs _ rfl ?_;intro g1 cap1 w7 hown2 hgrow2 hat2 hlt2;have HF:=aA (HA.out.app (t:=TX) hown2 hgrow2);clear hown2 hgrow2 hat2 hlt2);go_roundw;case rel=>exact⟨j+1,_,_,_,by omega,by go_num,rfl,by rw[HST.out,HQ.out.1 (by simp)];exact HTX.out▸HF⟩
    case measure=>simp[intOf];omega
   have hto:=HLN.out rfl;cases fine
   ·skip
    have HA:=aA (HI3.out.below (aF w3 (.cells #[.string ⟨(iV (j+1)).toArray⟩] 9)));have HNW:=aA (heap_alloc_new w3 (.cells #[.string ⟨(iV (j+1)).toArray⟩] 9))
    have HOW:=aA HA.out.2.1;have hbs:w.heap.size≤(w3.alloc (.cells #[.string ⟨(iV (j+1)).toArray⟩] 9)).heap.size:=HA.out.2.2.size
    obtain⟨TX,hTX⟩:∃TX,iV (j+1)=TX:=⟨_,rfl⟩
    rw[hTX]at HA HNW HOW hbs;have HTX:=aA hTX
    have hcat:(⟨#[116,111,111,32,109,117,99,104,32]⟩:ByteArray)++⟨(Lib.decDigits (j+1)).toArray⟩=⟨TX.toArray⟩:=by rw[←HTX.out];apply ByteArray.ext;simp[iV]
    have hdl:¬(9223372036854775807<9+(Lib.decDigits (j+1)).length):=by have:=gU (n:=j+1) (by omega);omega
    clear hTX;go_wp2_with (at_builtin;refine wpList_append_lies _ rfl (.tmp 54) (.tmp 57) 30 rfl w.heap.size 9 i0 _ 1 16 Tryz.underlying30 hi0 hz0 hz1 hz2 rfl (by omega) tv out.length (uM out) rfl HOW.out ⟨w3.heap.size,0,none⟩ 1 1 [.string ⟨TX.toArray⟩] rfl rfl (World.news_of_block HNW.out) (hU _) (by omega) hmax (by omega) hbs _ rfl ?_;intro g1 cap1 w7 hown2 hgrow2 hat2 hlt2;have HF:=aA (HA.out.app (t:=TX) hown2 hgrow2);clear hown2 hgrow2 hat2 hlt2);go_roundw;case rel=>exact⟨j+1,_,_,_,by omega,by go_num,rfl,by rw[HST.out,HQ.out.2.1 (by simp) (by simp)];exact HTX.out▸HF⟩
    case measure=>simp[intOf];omega
   obtain⟨⟨d0,d1,d2,d3,d4⟩,dz⟩:=HV3.out;by_cases hk8:k=8
   ·have hk8b:(k==8)=true:=by simp[hk8]
    obtain⟨TX,hPT⟩:∃S,cO L.length (lf L)=S:=⟨_,rfl⟩
    have HTX2:=aA (yT w3 a' L.length cap' (lf L) HO3.out.1 (HT.out.below HI3.out.2.2));have HQ8:=aA (HQ.out.2.2.1 (by simp) (by simp) hk8)
    rw[hPT]at HTX2 HQ8;clear hk8 hPT;go_wp2_with fail;refine HTX2.out.mono ?_;rintro e w4 ⟨rfl,hb4⟩;have HI4:=aA (HI3.out.below hb4)
    clear hb4 HTX2 HI3 HO3 HV3 d0 d1 d2 d3 d4 dz;have HA:=aA (HI4.out.below (aF w4 (.cells #[.string ⟨(TX).toArray⟩] 9)))
    have HNW:=aA (heap_alloc_new w4 (.cells #[.string ⟨(TX).toArray⟩] 9));have HOW:=aA HA.out.2.1
    have hbs:w.heap.size≤(w4.alloc (.cells #[.string ⟨(TX).toArray⟩] 9)).heap.size:=HA.out.2.2.size;go_wp2_with (at_builtin;refine wpList_append_lies _ rfl (.tmp 63) (.tmp 66) 30 rfl w.heap.size 9 i0 _ 1 16 Tryz.underlying30 hi0 hz0 hz1 hz2 rfl (by omega) tv out.length (uM out) rfl HOW.out ⟨w4.heap.size,0,none⟩ 1 1 [.string ⟨TX.toArray⟩] rfl rfl (World.news_of_block HNW.out) (hU _) (by omega) hmax (by omega) hbs _ rfl ?_;intro g1 cap1 w7 hown2 hgrow2 hat2 hlt2;have HF:=aA (HA.out.app (t:=TX) hown2 hgrow2);clear hown2 hgrow2 hat2 hlt2);go_roundw;case rel=>exact⟨j+1,_,_,_,by omega,by go_num,rfl,by rw[HST.out,HQ8.out];exact HF⟩
    case measure=>simp[intOf];omega
   ·have hk8b:(k==8)=false:=by simp[hk8]
    obtain⟨t,rfl,ht⟩:∃t:Nat,to=(t:Int)∧t<6:=⟨to.toNat,by omega,by omega⟩
    have HQ9:=aA (HQ.out.2.2.2 (by simp) (by simp) hk8);have HF:=aA (HI3.out.set (by omega) t HO3.out.1 HO3.out.2.1)
    have hcc:=HI3.out.1.1.cell (i:=t) ht;have hfz:=HI3.out.1.1.frozen
    have htI:(t:Int)<6:=by omega
    clear hk8 hto HLN;go_wp2;go_roundw;case rel=>exact⟨j+1,_,_,_,by omega,by go_num,rfl,by rw[HST.out,HQ9.out];exact HF⟩
    case measure=>simp[intOf];omega
  ·have hje:j=N:=by omega
   have hnl:¬(j:Int)<(N:Int):=by omega
   have HF:Hid (Below w.heap.size w wr∧oJ w.heap.size tv (eJ W) wr):=by rw[HR.out,←hje];exact aA ⟨HI.out.2.2,HI.out.2.1⟩
   clear hje HI;go_wp2;go_ret;exact⟨_,rfl,HF.out.1,HF.out.2⟩
end Go.Proofs.YtkcmamepoplcdaaGreatDoor
namespace Go.Proofs.YtkcmamepoplcdaaGreatDoor
open Go.RowKit
set_option linter.unusedVariables false
set_option linter.unusedSimpArgs false
def sO (s:List UInt8):List (List UInt8):=if s.length≤420 then dK s else[]
theorem QI (s:List UInt8):(sO s).length≤421:=by
 unfold sO;split
 ·have:=AR s;omega
 ·simp
theorem QJ (s:List UInt8):sO s=[]∨sO s=dK s:=by
 unfold sO;split
 ·exact .inr rfl
 ·exact .inl rfl
theorem NI {s:List UInt8} {i:Nat} {l:List UInt8} (h:(sO s)[i]? =some l):l.length≤420:=by
 unfold sO at h;split at h
 ·have:=jB s l (List.mem_of_getElem? h);omega
 ·simp at h
def UN (w:World) (o:List (List UInt8)) (v:Value) (wr:World):Prop:=oJ w.heap.size v o wr∧Below w.heap.size w wr
theorem DJ (s:List UInt8) (hs:s.length≤1048576) (w:World):Calls Tryz.prog 31 #[.string ⟨s.toArray⟩] w fun r w'=>∃g cp,r= .returned (.slice (some ⟨g,0,none⟩) (sO s).length cp)∧oJ w.heap.size (.slice (some ⟨g,0,none⟩) (sO s).length cp) (sO s) w'∧Below w.heap.size w w':=by
 have hsI:(s.length:Int)≤1048576:=by omega
 obtain⟨i0,hi0,hz0,hz1,hz2⟩:=info_parts oQ;have HO0:=aA (rR w w.heap.size (Nat.le_refl _))
 have HB0:=aA (aF w (.cells #[] 9));by_cases hl:s.length≤420
 ·have hlI:¬(420:Int)<(s.length:Int):=by omega
  have hlJ:(s.length:Int)≤420:=by omega
  have HE:Hid (sO s=dK s):=by unfold sO;rw[if_pos hl];exact aA rfl
  go_enter Tryz.func31,Tryz.ntmps31;go_wp2;go_loopw [5,3,4] (fun v5 v3 v4 wr=>∃(k g cp n:Nat) (o:List (List UInt8)) (wd:List UInt8),k≤s.length∧n≤k∧v5= .int .i64 (k:Int)∧v3= .slice (some ⟨g,0,none⟩) n cp∧v4= .string ⟨wd.toArray⟩∧wd.length≤k∧Hid (n=o.length∧dK (s.take k)=o++[wd])∧Hid (UN w o (.slice (some ⟨g,0,none⟩) n cp) wr)) (fun v5 _ _ _=>s.length-(intOf v5).toNat);case atStart=>exact⟨0,_,_,0,[],[],gO _,Nat.le_refl _,rfl,rfl,rfl,Nat.le_refl _,aA ⟨rfl,rfl⟩,aA ⟨HO0.out,HB0.out⟩⟩
  case round=>
   obtain⟨k,g,cp,n,o,wd,hk,hnk,rfl,rfl,rfl,hwd,HC,HI⟩:=hrel;have hmax:n+1≤maxLen:=by unfold maxLen;omega
   have hs0:=HI.out.2.size;by_cases hkl:k<s.length
   ·have hkI:(k:Int)<(s.length:Int):=by omega
    obtain⟨c,hc⟩:∃c,s[k]? =some c:=⟨_,List.getElem?_eq_getElem hkl⟩
    have hix:=gJ hc;have htk:s.take (k+1)=s.take k++[c]:=by rw[List.take_add_one,hc];rfl
    by_cases hp:c=32
    ·subst hp;have HC2:Hid (dK (s.take (k+1))=(o++[wd])++[[]]):=by rw[htk,tM,HC.out.2];exact aA rfl
     have HO4:=aA (HI.out.1.alloc (.cells #[.string ⟨wd.toArray⟩] 9));have HB4:=aA (HI.out.2.alloc hs0 (.cells #[.string ⟨wd.toArray⟩] 9))
     have HN:=aA (heap_alloc_new wr (.cells #[.string ⟨wd.toArray⟩] 9));clear hc htk;have hix':∀u:World,(Instr.index 9 (.string ⟨s.toArray⟩) (.int .i64 (k:Int))).run Tryz.prog u= .ok (.int .u8 32) u:=fun u=>hix u
     clear hix;go_wp2_with (at_builtin;refine wpList_append_lies _ rfl (.tmp 21) (.tmp 23) 30 rfl w.heap.size 9 i0 _ 1 16 Tryz.underlying30 hi0 hz0 hz1 hz2 rfl (by omega) _ n (uM o) rfl (HC.out.1▸HO4.out) ⟨wr.heap.size,0,none⟩ 1 1 [.string ⟨wd.toArray⟩] rfl rfl (World.news_of_block HN.out) (hU _) (by omega) hmax (by omega) (by simp;omega) _ rfl ?_;intro g1 cap1 w7 hown2 hgrow2 hat2 hlt2;have HO7:=aA hown2;have HB7:=aA (HB4.out.grown hgrow2 (by simp;omega) (fun k' e'=>(HO4.out.lt k' e').1));clear hown2 hgrow2 hat2 hlt2);go_roundw
     case rel=>exact⟨k+1,g1,cap1,n+1,o++[wd],[],by omega,by omega,by go_num,rfl,rfl,by simp,aA ⟨by rw[HC.out.1];simp,HC2.out⟩,aA ⟨by
      have:=HO7.out;show World.ownsRow _ _ _ _ _ _ _
      rw[kO,List.length_append,←HC.out.1];exact this,HB7.out⟩⟩
     case measure=>simp[intOf];omega
    ·have HC2:Hid (dK (s.take (k+1))=o++[wd++[c]]):=by rw[htk,xD hp,HC.out.2,pC];exact aA rfl
     have hcv:=uD wr c 5;have HB4:=aA (HI.out.2.alloc hs0 (.cells #[.int .u8 (c.toNat:Int)] 5))
     have HO4:=aA (HI.out.1.alloc (.cells #[.int .u8 (c.toNat:Int)] 5))
     have hp32:(c.toNat:Int)≠32:=fun e=>hp (by
      apply UInt8.toNat_inj.1;have:c.toNat=32:=by omega
      rw[this];rfl)
     have hpb:((c.toNat:Int)==32)=false:=beq_eq_false_iff_ne.2 hp32;have hsz:¬(9223372036854775807<wd.length+1):=by omega
     clear hc htk hp hp32;go_wp2;go_roundw;case rel=>exact⟨k+1,g,cp,n,o,wd++[c],by omega,by omega,by go_num,rfl,by first|rfl|exact congrArg Value.string (pU wd c)|(simp;exact pU wd c),by simp;omega,aA ⟨HC.out.1,HC2.out⟩,aA ⟨HO4.out,HB4.out⟩⟩
     case measure=>simp[intOf];omega
   ·have hke:k=s.length:=by omega
    have hnl:¬(k:Int)<(s.length:Int):=by omega
    have HCE:Hid (sO s=o++[wd]):=by
     rw[HE.out];have:=HC.out.2
     rw[hke,List.take_length]at this;exact aA this
    clear hke;have HO4:=aA (HI.out.1.alloc (.cells #[.string ⟨wd.toArray⟩] 9))
    have HB4:=aA (HI.out.2.alloc hs0 (.cells #[.string ⟨wd.toArray⟩] 9));have HN:=aA (heap_alloc_new wr (.cells #[.string ⟨wd.toArray⟩] 9))
    go_wp2_with (at_builtin;refine wpList_append_lies _ rfl (.tmp 32) (.tmp 34) 30 rfl w.heap.size 9 i0 _ 1 16 Tryz.underlying30 hi0 hz0 hz1 hz2 rfl (by omega) _ n (uM o) rfl (HC.out.1▸HO4.out) ⟨wr.heap.size,0,none⟩ 1 1 [.string ⟨wd.toArray⟩] rfl rfl (World.news_of_block HN.out) (hU _) (by omega) hmax (by omega) (by simp;omega) _ rfl ?_;intro g1 cap1 w7 hown2 hgrow2 hat2 hlt2;have HO7:=aA hown2;have HB7:=aA (HB4.out.grown hgrow2 (by simp;omega) (fun k' e'=>(HO4.out.lt k' e').1));clear hown2 hgrow2 hat2 hlt2);go_ret;have hn1:n+1=(sO s).length:=by rw[HCE.out];simp[HC.out.1]
    refine⟨g1,cap1,by rw[hn1];rfl,?_,HB7.out⟩;have:=HO7.out
    show World.ownsRow _ _ _ _ _ _ _;rw[←hn1,HCE.out,kO];exact this
 ·have hlI:(420:Int)<(s.length:Int):=by omega
  have HE:Hid (sO s=[]):=by unfold sO;rw[if_neg hl];exact aA rfl
  clear hl;go_enter Tryz.func31,Tryz.ntmps31;go_wp2;go_ret;exact⟨_,0,by rw[HE.out];rfl,by rw[HE.out];exact HO0.out,HB0.out⟩
theorem QC {w:List UInt8} (h:w.length≠1):jX w= -1:=by
 match w,h with
 |[],_=>rfl
 |[c],h=>exact absurd rfl h
 |_::_::_,_=>rfl
theorem iT (s:List UInt8) (hs:s.length≤1048576) (w:World):Calls Tryz.prog 34 #[.string ⟨s.toArray⟩] w fun e w'=>e= .returned (.int .i64 (jX s))∧w'=w:=by
 by_cases h1:s.length=1
 ·obtain⟨c,rfl⟩:=List.length_eq_one_iff.1 h1;have hix:∀u:World,(Instr.index 9 (.string ⟨#[c]⟩) (.int .i64 0)).run Tryz.prog u= .ok (.int .u8 (c.toNat:Int)) u:=fun u=>gJ (l:=[c]) (k:=0) (c:=c) rfl u
  have hc:c.toNat<256:=c.toNat_lt;have hw:IntKind.i64.wrap (c.toNat:Int)=(c.toNat:Int):=by rw[IntKind.wrap_i64];omega
  clear h1 hs;by_cases hb:65≤(c.toNat:Int)∧(c.toNat:Int)≤70
  ·obtain⟨b1,b2⟩:=hb;have e:jX [c]=(c.toNat:Int)-65:=if_pos ⟨b1,b2⟩
   have hw2:IntKind.i64.wrap ((c.toNat:Int)-65)=(c.toNat:Int)-65:=by rw[IntKind.wrap_i64];omega
   rw[e];clear e;go_enter Tryz.func34,Tryz.ntmps34;go_wp2_with (go_at_call 54;refine(aM _ _ _ _ (by omega) (by omega)).mono ?_;rintro e w' ⟨rfl,rfl⟩);go_ret;exact⟨rfl,rfl⟩
  ·have e:jX [c]= -1:=if_neg hb;have hb':(c.toNat:Int)<65∨(65≤(c.toNat:Int)∧70<(c.toNat:Int)):=by omega
   rw[e];clear e hb;go_enter Tryz.func34,Tryz.ntmps34;go_wp2_with (go_at_call 54;refine(aJ _ _ _ _ hb').mono ?_;rintro e w' ⟨rfl,rfl⟩);go_ret;exact⟨rfl,rfl⟩
 ·have h1b:((s.length:Int)!=1)=true:=by simp;omega
  rw[QC h1];clear h1;go_enter Tryz.func34,Tryz.ntmps34;go_wp2;go_ret;exact⟨rfl,rfl⟩
theorem OS {s:List UInt8} (h:s.length≤400):(tL s).map gK=wT s:=by unfold tL wT;rw[if_pos h]
theorem OR (s:List UInt8):(tL s).length≤401:=by
 unfold tL;split
 ·have:=vB s;omega
 ·simp
theorem KY {s:List UInt8} {i:Nat} {l:List UInt8} (h:(tL s)[i]? =some l):l.length≤400:=by
 unfold tL at h;split at h
 ·have:=gT s l (List.mem_of_getElem? h);omega
 ·simp at h
def UI (w1:World) (ts:List T) (v:Value) (wr:World):Prop:=wr.ownsRow w1.heap.size 79 5 v ts.length (aG ts)∧Below w1.heap.size w1 wr
theorem qE (w:World) (lo:Nat) (h:lo≤w.heap.size):iJ lo (w.alloc (.cells #[] 79)) (some ⟨w.heap.size,0,none⟩) 0 []:=by obtain⟨a,cap,e,ho⟩:=aO (L:=[]) (aQ w lo h) (by simp);cases e;exact ho
theorem yS (s:List UInt8) (hs:s.length≤1048576) (w:World):Calls Tryz.prog 35 #[.string ⟨s.toArray⟩] w fun r w'=>∃a cap,r= .returned (.tuple #[.slice a (dV s).1.length cap,.bool (dV s).2])∧Below w.heap.size w w'∧iJ w.heap.size w' a cap (dV s).1:=by
 have hsI:(s.length:Int)≤1048576:=by omega
 obtain⟨i0,hi0,hz0,hz1,hz2⟩:=info_parts xZ;by_cases h0:s=[48]
 ·subst h0;rw[oW];have HO:=aA (qE w w.heap.size (Nat.le_refl _))
  have HB:=aA (aF w (.cells #[] 79));go_enter Tryz.func35,Tryz.ntmps35;go_wp2
  go_ret2
  exact⟨_,_,rfl,HB.out,HO.out⟩
 ·have h0b:(s==[48])=false:=beq_eq_false_iff_ne.2 h0;have HC:=aA (PI s hs w)
  have hbd:=OR s;have HM:Hid (∀(i:Nat) (l:List UInt8),(tL s)[i]? =some l→l.length≤400):=aA (fun i l h=>KY h)
  have HCW:Hid (s.length≤400→(tL s).map gK=wT s):=aA OS;have HCZ:Hid (¬s.length≤400→(tL s)=[]):=aA (fun h=>by unfold tL;rw[if_neg h])
  obtain⟨W,hW⟩:∃W,tL s=W:=⟨_,rfl⟩
  rw[hW]at HC hbd HM HCW HCZ;obtain⟨N,hN⟩:∃N,W.length=N:=⟨_,rfl⟩
  rw[hN]at HC hbd;have HH0:=aA h0
  have HN:=aA hN;obtain⟨Rr,hRr⟩:∃R,dV s=R:=⟨_,rfl⟩
  have HRR:=aA hRr;rw[hRr];clear hW hN h0 hRr;go_enter Tryz.func35,Tryz.ntmps35;go_wp2_with fail;refine HC.out.mono ?_;rintro r w1 ⟨g,cp,rfl,how,hb1⟩;have HOW:=aA how
  have HB1:=aA hb1;have hs1:=hb1.size
  have HI0:Hid (UI w1 [] (.slice (some ⟨w1.heap.size,0,none⟩) 0 0) (w1.alloc (.cells #[] 79))):=⟨aQ w1 _ (Nat.le_refl _),aF w1 _⟩
  clear how hb1 HC;go_wp2;go_loopw [6,5] (fun v6 v5 wr=>∃(k g5 cp5:Nat) (ts:List T),k≤N∧v6= .int .i64 (k:Int)∧v5= .slice (some ⟨g5,0,none⟩) k cp5∧Hid (ts.length=k∧ts=(W.take k).map gK)∧Hid (UI w1 ts (.slice (some ⟨g5,0,none⟩) k cp5) wr)) (fun v6 _ _=>N-(intOf v6).toNat);case atStart=>exact⟨0,_,_,[],gO _,rfl,rfl,aA ⟨rfl,rfl⟩,HI0⟩
  case round=>
   obtain⟨k,g5,cp5,ts,hk,rfl,rfl,HT,HI⟩:=hrel;have hs5:=HI.out.2.size
   by_cases hkl:k<N
   ·have hkI:(k:Int)<(N:Int):=by omega
    obtain⟨l,hl⟩:∃l,W[k]? =some l:=⟨_,List.getElem?_eq_getElem (by rw[HN.out];exact hkl)⟩
    have hll:=HM.out k l hl;have hcl:=dP (aK HOW.out HI.out.2) hl
    have htk:(W.take (k+1)).map gK=ts++[gK l]:=by rw[List.take_add_one,hl,HT.out.2];simp
    have HTK:=aA htk;obtain⟨t,ht⟩:∃t,gK l=t:=⟨_,rfl⟩
    have HCT:=aA (MB l (by omega) wr);rw[ht]at HCT HTK;clear ht htk hl;have hmax:k+1≤maxLen:=by unfold maxLen;omega
    go_wp2_with fail;refine HCT.out.mono ?_;rintro r w3 ⟨rfl,hb3⟩;have hO3:=aK HI.out.1 hb3
    have hB3:=aC HI.out.2 hb3;have hs3:w1.heap.size≤w3.heap.size:=hB3.size
    have HO4:=aA (hO3.alloc (.cells #[.int .i64 t.c,.int .i64 t.m.x,.int .i64 t.m.y,.int .i64 t.m.d,.int .i64 t.m.e] 79));have HB4:=aA (hB3.alloc hs3 (.cells #[.int .i64 t.c,.int .i64 t.m.x,.int .i64 t.m.y,.int .i64 t.m.d,.int .i64 t.m.e] 79))
    have HNW:=aA (heap_alloc_new w3 (.cells #[.int .i64 t.c,.int .i64 t.m.x,.int .i64 t.m.y,.int .i64 t.m.d,.int .i64 t.m.e] 79));clear hb3 hO3 hB3 HCT hcl;go_wp2_with (at_builtin;refine wpList_append_lies _ rfl (.tmp 19) (.tmp 25) 22 rfl w1.heap.size 79 i0 _ 5 40 Tryz.underlying22 hi0 hz0 hz1 hz2 rfl (by omega) _ k (aG ts) rfl (HT.out.1▸HO4.out) ⟨w3.heap.size,0,none⟩ 1 1 (aG [t]) rfl (by rw[bL];rfl) (by rw[dE];exact World.news_of_block HNW.out) (eC _) (by omega) hmax (by omega) (by simp;omega) _ rfl ?_;intro g1 cap1 w7 hown2 hgrow2 hat2 hlt2;have HO7:=aA hown2;have HB7:=aA (HB4.out.grown hgrow2 (by simp;omega) (fun k' e'=>(HO4.out.lt k' e').1));clear hown2 hgrow2 hat2 hlt2);go_roundw
    case rel=>exact⟨k+1,g1,cap1,ts++[t],by omega,by go_num,rfl,aA ⟨by simp[HT.out.1],HTK.out.symm⟩,aA ⟨by
     have:=HO7.out;show World.ownsRow _ _ _ _ _ _ _
     rw[bY,List.length_append,HT.out.1];exact this,HB7.out⟩⟩
    case measure=>simp[intOf];omega
   ·have hke:k=N:=by omega
    have hnl:¬(k:Int)<(N:Int):=by omega
    have HTE:Hid (ts=W.map gK):=by have:=HT.out.2;rw[hke,←HN.out,List.take_length]at this;exact aA this
    have HKL:Hid (ts.length=k):=aA HT.out.1;clear hke HT;have HBw:=aA (aC HB1.out HI.out.2)
    by_cases hk0:k=0
    ·have HZ:Hid (Rr=([],false)):=by
      rw[←HRR.out];refine aA (nZ HH0.out (fun q=>?_));have e1:=HTE.out
      rw[HCW.out q.1]at e1;have e2:=wJ s
      rw[←e1,HKL.out,hk0]at e2;exact jF s (List.length_eq_zero_iff.1 e2.symm)
     have hk0b:((k:Int)==0)=true:=by rw[hk0];rfl
     have HOo:=aA (qE wr w.heap.size HBw.out.size);have HBo:=aA (HBw.out.alloc HBw.out.size (.cells #[] 79))
     clear hk0;go_wp2
     go_ret2
     exact⟨_,_,by rw[HZ.out];rfl,HBo.out,by rw[HZ.out];exact HOo.out⟩
    ·have hk0b:((k:Int)==0)=false:=beq_eq_false_iff_ne.2 (by omega)
     have HL4:Hid (s.length≤400):=aA<|Decidable.byContradiction fun q=>hk0 (by
      have:=HTE.out;rw[HCZ.out q]at this
      rw[←HKL.out,this];rfl)
     have HTW:Hid (ts=wT s):=by rw[HTE.out];exact aA (HCW.out HL4.out)
     obtain⟨a5,c5,hv5,hout⟩:=aO (bO HI.out.1 hs1) (by rw[HKL.out];omega);rw[HKL.out]at hv5;cases hv5;have HOUT:=aA hout
     have hrd:=hout.1;rw[HKL.out]at hrd;have HRD:=aA hrd
     obtain⟨ok,hok⟩:∃b,aH k (lf ts)=b:=⟨_,rfl⟩
     have HOKC:=aA (aY wr _ _ _ _ hrd);rw[hok]at HOKC;have HOK:=aA hok
     clear hout hrd hok;go_wp2_with fail;refine HOKC.out.mono ?_;rintro r w4 ⟨rfl,hb4⟩;have HB4:=aA (aC HBw.out hb4)
     have HOUT4:=aA (HOUT.out.below hb4);have HRD4:=aA (HRD.out.below hb4)
     clear hb4 HOKC;cases ok
     ·have HZ:Hid (Rr=([],false)):=by
       rw[←HRR.out];refine aA (nZ HH0.out (fun q=>?_));have e1:=q.2.1
       rw[←HTW.out,HKL.out,HOK.out]at e1;cases e1
      have HOo:=aA (qE w4 w.heap.size HB4.out.size);have HBo:=aA (HB4.out.alloc HB4.out.size (.cells #[] 79))
      go_wp2
      go_ret2
      exact⟨_,_,by rw[HZ.out];rfl,HBo.out,by rw[HZ.out];exact HOo.out⟩
     ·obtain⟨S,hS⟩:∃S,cO k (lf ts)=S:=⟨_,rfl⟩
      have HTC:=aA (rW w4 _ _ _ _ HRD4.out);rw[hS]at HTC;have HS:=aA hS
      clear hS;go_wp2_with fail;refine HTC.out.mono ?_;rintro r w5 ⟨rfl,hb5⟩;have HB5:=aA (aC HB4.out hb5)
      have HOUT5:=aA (HOUT4.out.below hb5);clear hb5 HTC;by_cases q:S=s
      ·have HZ:Hid (Rr=(ts,true)):=by
        rw[←HRR.out];have e1:=rU HH0.out HL4.out (by rw[←HTW.out,HKL.out];exact HOK.out) (by rw[←HTW.out,HKL.out,HS.out];exact q)
        rw[←HTW.out]at e1;exact aA e1
       clear HS HM HCW HCZ HN HTE HTW HRR;subst q;go_wp2
       go_ret2
       exact⟨_,_,by rw[HZ.out,HKL.out];rfl,HB5.out,by rw[HZ.out];exact HOUT5.out⟩
      ·have HZ:Hid (Rr=([],false)):=by
        rw[←HRR.out];refine aA (nZ HH0.out (fun z=>q ?_));have e1:=z.2.2
        rw[←HTW.out,HKL.out,HS.out]at e1;exact e1
       have q1:(S==s)=false:=beq_eq_false_iff_ne.2 q;have HOo:=aA (qE w5 w.heap.size HB5.out.size)
       have HBo:=aA (HB5.out.alloc HB5.out.size (.cells #[] 79));clear HS q;go_wp2
       go_ret2
       exact⟨_,_,by rw[HZ.out];rfl,HBo.out,by rw[HZ.out];exact HOo.out⟩
end Go.Proofs.YtkcmamepoplcdaaGreatDoor
