/-
  The product of two operators: the model's loops.
-/
import Derived.Test.YtmlaedpamobmhaaGreatMap
set_option maxHeartbeats 8000000
set_option maxRecDepth 100000
namespace Go.Proofs.YtmlaedpamobmhaaGreat
open Go.RowKit
set_option linter.unusedVariables false
theorem UB (w:World) (a b:Option Addr) (la ca lb cb:Nat) (f g:Nat→T) (ha:Rd w a la ca f) (hb:Rd w b lb cb g) (l1:la≤400) (l2:lb≤400) (gf:nG f la) (gg:nG g lb):Calls Tryz.prog 94 #[.slice a la ca,.slice b lb cb] w fun r w'=>∃v,r= .returned (.tuple #[v,.bool (iK (cC f g lb la)).2])∧Below w.heap.size w w'∧w'.ownsRow w.heap.size 54 5 v (iK (cC f g lb la)).1.length (aE (iK (cC f g lb la)).1):=by
 have HA:=aA ha;have HB:=aA hb
 have HGF:=aA gf;have HGG:=aA gg
 have hO0:=dM w w.heap.size (Nat.le_refl _);have hB0:=aC w (.cells #[] 54)
 clear ha hb gf gg;go_enter Tryz.func94,Tryz.ntmps94;go_wp2;generalize w.alloc (.cells #[] 54)=w0 at *;go_loopw [6,7] (fun v ii wr=>∃(i:Nat) (K:List T),i≤la∧ii= .int .i64 (i:Int)∧cC f g lb i=some K∧aK K∧K.length≤400∧wr.ownsRow w.heap.size 54 5 v K.length (aE K)∧Below w.heap.size w wr) (fun _ ii _=>la-(intOf ii).toNat);case atStart=>exact⟨0,[],gY _,rfl,rfl,eW,gY _,hO0,hB0⟩
 case round=>
  obtain⟨i,K,hi,rfl,hM,hKf,hKl,hown,hbl⟩:=hrel;by_cases hlt:i<la
  ·have hil:(i:Int)<(la:Int):=by omega
   have HM:=aA hM;have HKF:=aA hKf
   have HOWN:=aA hown;have HBL:=aA hbl
   clear hM hKf hown hbl;go_wp2;go_loopw [6,8] (fun v kk wr=>∃(k:Nat) (K':List T),k≤lb∧kk= .int .i64 (k:Int)∧fT K (f i) g k=some K'∧aK K'∧K'.length≤400∧wr.ownsRow w.heap.size 54 5 v K'.length (aE K')∧Below w.heap.size w wr) (fun _ kk _=>lb-(intOf kk).toNat);case atStart=>exact⟨0,K,gY _,rfl,rfl,HKF.out,hKl,HOWN.out,HBL.out⟩
   case round=>
    obtain⟨k,K',hk,rfl,hM',hKf',hKl',hown',hbl'⟩:=hrel;by_cases hlt2:k<lb
    ·have hkl:(k:Int)<(lb:Int):=by omega
     have hri:=HA.out.below hbl';have hrk:=HB.out.below hbl'
     rcases hri.2.2 with h0|⟨pb,off,hpe,hblt,hcl⟩
     ·omega
     rcases hrk.2.2 with h0|⟨pb2,off2,hpe2,hblt2,hcl2⟩
     ·omega
     obtain⟨g0,g1,g2,g3,g4⟩:=hcl i hlt;obtain⟨j0,j1,j2,j3,j4⟩:=hcl2 k hlt2;have hfi:=HGF.out i hlt
     have hgk:=HGG.out k hlt2;obtain⟨av,cv,hv,hout⟩:=aI hown' (by omega);have HM':=aA hM'
     have HKF':=aA hKf';have HOUT:=aA hout
     have HBL':=aA hbl';clear hM' hKf' hown' hout hcl hcl2 hri hrk hbl';subst hpe hpe2 hv;go_wp2_with fail;have hps:=GF hfi hgk
     have hps2:(qN (f i) (g k)).length*40≤140737488351232:=by omega
     have hbr:=HBL'.out.size
     go_region_with (go_at_call 130;refine(Ex _ (f i) (g k) hfi hgk).mono ?_;rintro r w5 ⟨v5,rfl,hb5,ho5⟩;obtain⟨a5,c5,rfl,hout5⟩:=aI ho5 hps2;have HB5:=aA ((bQ wr.heap.size wr).drew.trans hb5);have HOUT5:=aA hout5;clear hb5 ho5 hout5)
     all_goals
      have hB5:Below w.heap.size w w5:=HBL'.out.trans (HB5.out.mono HBL'.out.size);by_cases hok:((f i).m.sum (g k).m).ok=true
      ·have hTwo:qG (f i) (g k) ((f i).m.sum (g k).m):=⟨hfi.1,hgk.1,hok,rfl,rfl,rfl,rfl,hfi.2,hgk.2⟩
       have epo:qN (f i) (g k)=dG (f i) (g k):=if_pos hok;have hfp:=(fZ hTwo).1
       have hfa:=(dD HKF'.out hfp).1;have hR5:Rd w5 av K'.length cv (lf K'):=HOUT.out.1.below (HB5.out)
       have hX5:=HOUT5.out.1;rw[epo]at hX5 hps;rw[epo,hok];have hadd:=pG w5 av a5 K'.length cv (dG (f i) (g k)).length c5 (lf K') (lf (dG (f i) (g k))) hR5 hX5 (by omega) ((uG HKF'.out).at) ((uG hfp).at)
       have eA:fC (lf K') K'.length (lf (dG (f i) (g k))) (dG (f i) (g k)).length 0 0=bT K' (dG (f i) (g k)):=rfl;rw[eA]at hadd;have hal:(bT K' (dG (f i) (g k))).length≤K'.length+(dG (f i) (g k)).length:=by have:=xH (lf K') K'.length (lf (dG (f i) (g k))) (dG (f i) (g k)).length 0 0;simp only[Nat.sub_zero]at this;exact this
       by_cases h4:(bT K' (dG (f i) (g k))).length≤400
       ·have hstep:fT K (f i) g (k+1)=some (bT K' (dG (f i) (g k))):=by rw[fT,HM'.out];show gB _ _ _=_;unfold gB;rw[if_pos ⟨hok,h4⟩]
        have HST:=aA hstep;have h4':((bT K' (dG (f i) (g k))).length:Int)≤400:=by omega
        clear hstep;generalize hL:bT K' (dG (f i) (g k))=L at *;go_wp2_with (go_at_call 97;refine hadd.mono ?_;rintro r w6 ⟨v6,rfl,hb6,ho6⟩;obtain⟨a6,c6,rfl,hout6⟩:=aI ho6 (by omega);have HB6:=aA hb6;have HO6:=aA ho6;clear hb6 ho6 hout6);go_roundw;case rel=>exact⟨k+1,L,by omega,by go_num,HST.out,hfa,h4,gX HO6.out hB5.size,hB5.trans (HB6.out.mono hB5.size)⟩
        case measure=>simp[intOf];omega
       ·have hstep:fT K (f i) g (k+1)=none:=by rw[fT,HM'.out];show gB _ _ _=_;unfold gB;rw[if_neg (fun h=>h4 h.2)]
        have hno:cC f g lb la=none:=pT (i:=i+1) (by rw[cC,HM.out];exact qB hstep lb (by omega)) la (by omega);have h4':(400:Int)<((bT K' (dG (f i) (g k))).length:Int):=by omega
        clear hstep;generalize hL:bT K' (dG (f i) (g k))=L at *;go_wp2_with (go_at_call 97;refine hadd.mono ?_;rintro r w6 ⟨v6,rfl,hb6,ho6⟩;obtain⟨a6,c6,rfl,hout6⟩:=aI ho6 (by omega);have HB6:=aA hb6;clear hb6 ho6 hout6);refine cW (results_tmp2 rfl _ _ _) rfl ?_;rw[hno];have hB6:Below w.heap.size w w6:=hB5.trans (HB6.out.mono hB5.size)
        exact⟨_,rfl,hB6.alloc hB6.size _,dM w6 w.heap.size hB6.size⟩
      ·have hstep:fT K (f i) g (k+1)=none:=by rw[fT,HM'.out];show gB _ _ _=_;unfold gB;rw[if_neg (fun h=>hok h.1)]
       have hno:cC f g lb la=none:=pT (i:=i+1) (by rw[cC,HM.out];exact qB hstep lb (by omega)) la (by omega);have hok':((f i).m.sum (g k).m).ok=false:=by simpa using hok
       rw[hok'];clear hstep;go_wp2;refine cW (results_tmp2 rfl _ _ _) rfl ?_;rw[hno];exact⟨_,rfl,hB5.alloc hB5.size _,dM w5 w.heap.size hB5.size⟩
    ·obtain rfl:k=lb:=by omega
     have HMk:Hid (cC f g k (i+1)=some K'):=by show _=_;rw[cC,HM.out];exact hM'
     go_wp2;go_roundw;case rel=>exact⟨i+1,K',by omega,by go_num,HMk.out,hKf',hKl',hown',hbl'⟩
     case measure=>simp[intOf];omega
  ·obtain rfl:i=la:=by omega
   go_wp2;refine cW (results_tmp2 rfl _ _ _) rfl ?_;rw[hM];exact⟨_,rfl,hbl,hown⟩
end Go.Proofs.YtmlaedpamobmhaaGreat
