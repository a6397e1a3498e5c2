/-
  The product of two operators: the model's loops.
-/
import Derived.Test.YtncffcaabnjioaaGreatMao
set_option maxHeartbeats 8000000
set_option maxRecDepth 100000
namespace Go.Proofs.YtncffcaabnjioaaGreat
open Go.RowKit
set_option linter.unusedVariables false
theorem IU (w:World) (a b:Option Addr) (la ca lb cb:Nat) (f g:Nat→T) (ha:Rd w a la ca f) (hb:Rd w b lb cb g) (l1:la≤400) (l2:lb≤400) (gf:mO f la) (gg:mO g lb):Calls Tryz.prog 39 #[.slice a la ca,.slice b lb cb] w fun r w'=>∃v,r= .returned (.tuple #[v,.bool (iR (bY f g lb la)).2])∧Below w.heap.size w w'∧w'.ownsRow w.heap.size 47 5 v (iR (bY f g lb la)).1.length (aF (iR (bY f g lb la)).1):=by
 have HA:=aA ha;have HB:=aA hb
 have HGF:=aA gf;have HGG:=aA gg
 have hO0:=cD w w.heap.size (Nat.le_refl _);have hB0:=aC w (.cells #[] 47)
 clear ha hb gf gg;go_enter Tryz.func39,Tryz.ntmps39;go_wp2;generalize w.alloc (.cells #[] 47)=w0 at *;go_loopw [6,7] (fun v ii wr=>∃(i:Nat) (K:List T),i≤la∧ii= .int .i64 (i:Int)∧bY f g lb i=some K∧aK K∧K.length≤400∧wr.ownsRow w.heap.size 47 5 v K.length (aF K)∧Below w.heap.size w wr) (fun _ ii _=>la-(intOf ii).toNat);case atStart=>exact⟨0,[],gL _,rfl,rfl,eT,gL _,hO0,hB0⟩
 case round=>
  obtain⟨i,K,hi,rfl,hM,hKf,hKl,hown,hbl⟩:=hrel;by_cases hlt:i<la
  ·have hil:(i:Int)<(la:Int):=by omega
   have HM:=aA hM;have HKF:=aA hKf
   have HOWN:=aA hown;have HBL:=aA hbl
   clear hM hKf hown hbl;go_wp2;go_loopw [6,8] (fun v kk wr=>∃(k:Nat) (K':List T),k≤lb∧kk= .int .i64 (k:Int)∧eY K (f i) g k=some K'∧aK K'∧K'.length≤400∧wr.ownsRow w.heap.size 47 5 v K'.length (aF K')∧Below w.heap.size w wr) (fun _ kk _=>lb-(intOf kk).toNat);case atStart=>exact⟨0,K,gL _,rfl,rfl,HKF.out,hKl,HOWN.out,HBL.out⟩
   case round=>
    obtain⟨k,K',hk,rfl,hM',hKf',hKl',hown',hbl'⟩:=hrel;by_cases hlt2:k<lb
    ·have hkl:(k:Int)<(lb:Int):=by omega
     have hri:=HA.out.below hbl';have hrk:=HB.out.below hbl'
     rcases hri.2.2 with h0|⟨pb,off,hpe,hblt,hcl⟩
     ·omega
     rcases hrk.2.2 with h0|⟨pb2,off2,hpe2,hblt2,hcl2⟩
     ·omega
     obtain⟨g0,g1,g2,g3,g4⟩:=hcl i hlt;obtain⟨j0,j1,j2,j3,j4⟩:=hcl2 k hlt2;have hfi:=HGF.out i hlt
     have hgk:=HGG.out k hlt2;obtain⟨av,cv,hv,hout⟩:=aH hown' (by omega);have HM':=aA hM'
     have HKF':=aA hKf';have HOUT:=aA hout
     have HBL':=aA hbl';clear hM' hKf' hown' hout hcl hcl2 hri hrk hbl';subst hpe hpe2 hv;go_wp2_with fail;have hps:=DP hfi hgk
     have hps2:(qC (f i) (g k)).length*40≤140737488351232:=by omega
     have hbr:=HBL'.out.size
     go_region_with (go_at_call 85;refine(ZN _ (f i) (g k) hfi hgk).mono ?_;rintro r w5 ⟨v5,rfl,hb5,ho5⟩;obtain⟨a5,c5,rfl,hout5⟩:=aH ho5 hps2;have HB5:=aA ((cE wr.heap.size wr).drew.trans hb5);have HOUT5:=aA hout5;clear hb5 ho5 hout5)
     all_goals
      have hB5:Below w.heap.size w w5:=HBL'.out.trans (HB5.out.mono HBL'.out.size);by_cases hok:((f i).m.sum (g k).m).ok=true
      ·have hTwo:pY (f i) (g k) ((f i).m.sum (g k).m):=⟨hfi.1,hgk.1,hok,rfl,rfl,rfl,rfl,hfi.2,hgk.2⟩
       have epo:qC (f i) (g k)=cM (f i) (g k):=if_pos hok;have hfp:=(fG hTwo).1
       have hfa:=(cV HKF'.out hfp).1;have hR5:Rd w5 av K'.length cv (lf K'):=HOUT.out.1.below (HB5.out)
       have hX5:=HOUT5.out.1;rw[epo]at hX5 hps;rw[epo,hok];have hadd:=oS w5 av a5 K'.length cv (cM (f i) (g k)).length c5 (lf K') (lf (cM (f i) (g k))) hR5 hX5 (by omega) ((tE HKF'.out).at) ((tE hfp).at)
       have eA:eI (lf K') K'.length (lf (cM (f i) (g k))) (cM (f i) (g k)).length 0 0=cF K' (cM (f i) (g k)):=rfl;rw[eA]at hadd;have hal:(cF K' (cM (f i) (g k))).length≤K'.length+(cM (f i) (g k)).length:=by have:=vS (lf K') K'.length (lf (cM (f i) (g k))) (cM (f i) (g k)).length 0 0;simp only[Nat.sub_zero]at this;exact this
       by_cases h4:(cF K' (cM (f i) (g k))).length≤400
       ·have hstep:eY K (f i) g (k+1)=some (cF K' (cM (f i) (g k))):=by rw[eY,HM'.out];show fI _ _ _=_;unfold fI;rw[if_pos ⟨hok,h4⟩]
        have HST:=aA hstep;have h4':((cF K' (cM (f i) (g k))).length:Int)≤400:=by omega
        clear hstep;generalize hL:cF K' (cM (f i) (g k))=L at *;go_wp2_with (go_at_call 86;refine hadd.mono ?_;rintro r w6 ⟨v6,rfl,hb6,ho6⟩;obtain⟨a6,c6,rfl,hout6⟩:=aH ho6 (by omega);have HB6:=aA hb6;have HO6:=aA ho6;clear hb6 ho6 hout6);go_roundw;case rel=>exact⟨k+1,L,by omega,by go_num,HST.out,hfa,h4,gE HO6.out hB5.size,hB5.trans (HB6.out.mono hB5.size)⟩
        case measure=>simp[intOf];omega
       ·have hstep:eY K (f i) g (k+1)=none:=by rw[eY,HM'.out];show fI _ _ _=_;unfold fI;rw[if_neg (fun h=>h4 h.2)]
        have hno:bY f g lb la=none:=pL (i:=i+1) (by rw[bY,HM.out];exact pT hstep lb (by omega)) la (by omega);have h4':(400:Int)<((cF K' (cM (f i) (g k))).length:Int):=by omega
        clear hstep;generalize hL:cF K' (cM (f i) (g k))=L at *;go_wp2_with (go_at_call 86;refine hadd.mono ?_;rintro r w6 ⟨v6,rfl,hb6,ho6⟩;obtain⟨a6,c6,rfl,hout6⟩:=aH ho6 (by omega);have HB6:=aA hb6;clear hb6 ho6 hout6);refine cB (results_tmp2 rfl _ _ _) rfl ?_;rw[hno];have hB6:Below w.heap.size w w6:=hB5.trans (HB6.out.mono hB5.size)
        exact⟨_,rfl,hB6.alloc hB6.size _,cD w6 w.heap.size hB6.size⟩
      ·have hstep:eY K (f i) g (k+1)=none:=by rw[eY,HM'.out];show fI _ _ _=_;unfold fI;rw[if_neg (fun h=>hok h.1)]
       have hno:bY f g lb la=none:=pL (i:=i+1) (by rw[bY,HM.out];exact pT hstep lb (by omega)) la (by omega);have hok':((f i).m.sum (g k).m).ok=false:=by simpa using hok
       rw[hok'];clear hstep;go_wp2;refine cB (results_tmp2 rfl _ _ _) rfl ?_;rw[hno];exact⟨_,rfl,hB5.alloc hB5.size _,cD w5 w.heap.size hB5.size⟩
    ·obtain rfl:k=lb:=by omega
     have HMk:Hid (bY f g k (i+1)=some K'):=by show _=_;rw[bY,HM.out];exact hM'
     go_wp2;go_roundw;case rel=>exact⟨i+1,K',by omega,by go_num,HMk.out,hKf',hKl',hown',hbl'⟩
     case measure=>simp[intOf];omega
  ·obtain rfl:i=la:=by omega
   go_wp2;refine cB (results_tmp2 rfl _ _ _) rfl ?_;rw[hM];exact⟨_,rfl,hbl,hown⟩
end Go.Proofs.YtncffcaabnjioaaGreat
