/-
  The product of two operators: the program.
-/
import Derived.Test.YtdidlcjhodejjaaGreatMaj
set_option maxHeartbeats 8000000
set_option maxRecDepth 100000
namespace Go.Proofs.YtdidlcjhodejjaaGreat
open Go.RowKit Go.Maps
set_option linter.unusedVariables false
theorem Kw (w:World) (a b:Option Addr) (la ca lb cb:Nat) (f g:Nat→T) (ha:Rd w a la ca f) (hb:Rd w b lb cb g):Calls Tryz.prog 154 #[.slice a la ca,.slice b lb cb] w fun r w'=>∃v,r= .returned (.tuple #[v,.bool (bV f la g lb).2])∧Below w.heap.size w w'∧w'.ownsRow w.heap.size 42 5 v (bV f la g lb).1.length (aE (bV f la g lb).1):=by
 have HA:=aA ha;have HB:=aA hb
 have hla:(la:Int)≤140737488351232:=by have:=ha.2.1;omega
 have hlb:(lb:Int)≤140737488351232:=by have:=hb.2.1;omega
 clear ha hb;cases hpa:aN la f
 ·have e1:bV f la g lb=([],false):=by simp[bV,hpa]
  rw[e1];go_enter Tryz.func154,Tryz.ntmps154;go_wp2_with (go_at_call 63;refine(eO _ _ _ _ f HA.out).mono ?_;rw[hpa];rintro r w1 ⟨rfl,hb1⟩;have HB1:=aA hb1;clear hb1);refine bY (results_tmp2 rfl _ _ _) rfl ?_;exact⟨_,rfl,HB1.out,mI w1 _⟩
 ·cases hpb:aN lb g
  ·have e1:bV f la g lb=([],false):=by simp[bV,hpb]
   rw[e1];go_enter Tryz.func154,Tryz.ntmps154
   go_wp2_with (first
    |(go_at_call_of 63 (Value.slice a la ca);refine(eO _ _ _ _ f HA.out).mono ?_;rw[hpa];rintro r w1 ⟨rfl,hb1⟩;have HB1:=aA hb1;clear hb1)
    |(go_at_call_of 63 (Value.slice b lb cb);refine(eO _ _ _ _ g (HB.out.below HB1.out)).mono ?_;rw[hpb];rintro r w2 ⟨rfl,hb2⟩;have HB2:=aA hb2;clear hb2))
   refine bY (results_tmp2 rfl _ _ _) rfl ?_;exact⟨_,rfl,aB HB1.out HB2.out,mI w2 _⟩
  ·have e2:bV f la g lb=lC (cT f g lb la):=by simp[bV,hpa,hpb]
   rw[e2];clear e2;have l1:la≤400:=by have h:=hpa;simp only[aN,decide_eq_true_eq]at h;exact h.1
   have l2:lb≤400:=by have h:=hpb;simp only[aN,decide_eq_true_eq]at h;exact h.1
   have HPA:=aA hpa;have HPB:=aA hpb
   have hmm:=@run_makeMap Tryz.prog;go_enter Tryz.func154,Tryz.ntmps154
   go_wp2_with (first
    |(go_at_call_of 63 (Value.slice a la ca);refine(eO _ _ _ _ f HA.out).mono ?_;rw[hpa];rintro r w1 ⟨rfl,hb1⟩;have HB1:=aA hb1;clear hb1)
    |(go_at_call_of 63 (Value.slice b lb cb);refine(eO _ _ _ _ g (HB.out.below HB1.out)).mono ?_;rw[hpb];rintro r w2 ⟨rfl,hb2⟩;have HB2:=aA (aB HB1.out hb2);clear hb2))
   clear hpa hpb;have HRA:=aA (HA.out.below HB2.out)
   have HRB:=aA (HB.out.below HB2.out);have HNA:=aA (HRA.out.apart (Nat.le_refl _))
   have HNB:=aA (HRB.out.apart (Nat.le_refl _));have hlo:w.heap.size≤w2.heap.size:=HB2.out.size
   have HS0:=aA ((yZ w2).cap);have HG0:=aA (World.grownBy_alloc w2 (.map #[] 0) (some w2.heap.size))
   generalize hw3:w2.alloc (.map #[] 0)=w3 at *;clear hw3 hmm;go_loopw [22] (fun v wr=>∃(i:Nat) (K:List T) (c:M→Int),i≤la∧v= .int .i64 (i:Int)∧cT f g lb i=some K∧aK K∧(∀m,m.ok=true→aM K m=c m)∧bZ wr w2.heap.size 65536 c∧w2.grownBy wr (some w2.heap.size)) (fun v _=>la-(intOf v).toNat);case atStart=>exact⟨0,[],fun _=>0,Nat.zero_le _,rfl,rfl,eQ,fun _ _=>rfl,HS0.out,HG0.out⟩
   case round=>
    obtain⟨i,K,c,hi,rfl,hM,hKf,hKc,hS,hg⟩:=hrel;by_cases hlt:i<la
    ·have hil:(i:Int)<(la:Int):=by omega
     have hri:=HRA.out.grown hg HNA.out;rcases hri.2.2 with h0|⟨pb,off,hpe,hblt,hcl⟩
     ·omega
     obtain⟨g0,g1,g2,g3,g4⟩:=hcl i hlt;have hfi:=OJ HPA.out hlt
     have HS:=aA hS;have HG:=aA hg
     have HM:=aA hM;clear hcl hri hS hg hM;subst hpe;go_wp2;have hT1:dL (wr.alloc (.cells #[.int .i64 (f i).c,.int .i64 (f i).m.x,.int .i64 (f i).m.y,.int .i64 (f i).m.d,.int .i64 (f i).m.e] 42)) wr.heap.size (f i):=World.alloc_heap_new wr _
     have HS1:=aA (HS.out.grown (World.grownBy_alloc wr (.cells #[.int .i64 (f i).c,.int .i64 (f i).m.x,.int .i64 (f i).m.y,.int .i64 (f i).m.d,.int .i64 (f i).m.e] 42) none) (by simp));have HG1:=aA (HG.out.trans (World.grownBy_alloc wr (.cells #[.int .i64 (f i).c,.int .i64 (f i).m.x,.int .i64 (f i).m.y,.int .i64 (f i).m.d,.int .i64 (f i).m.e] 42) (some w2.heap.size)))
     have hbl:w2.heap.size<wr.heap.size:=HS.out.lt;have hs1:(wr.alloc (.cells #[.int .i64 (f i).c,.int .i64 (f i).m.x,.int .i64 (f i).m.y,.int .i64 (f i).m.d,.int .i64 (f i).m.e] 42)).heap.size=wr.heap.size+1:=by simp
     clear g0 g1 g2 g3 g4;generalize wr.alloc (.cells #[.int .i64 (f i).c,.int .i64 (f i).m.x,.int .i64 (f i).m.y,.int .i64 (f i).m.d,.int .i64 (f i).m.e] 42)=wi at *;generalize wr.heap.size=Bf at *;go_loopw [28] (fun v wr'=>∃(k:Nat) (K':List T) (c':M→Int),k≤lb∧v= .int .i64 (k:Int)∧gT K (f i) g k=some K'∧aK K'∧(∀m,m.ok=true→aM K' m=c' m)∧bZ wr' w2.heap.size 65536 c'∧w2.grownBy wr' (some w2.heap.size)∧dL wr' Bf (f i)) (fun v _=>lb-(intOf v).toNat);case atStart=>exact⟨0,K,c,Nat.zero_le _,rfl,rfl,hKf,hKc,HS1.out,HG1.out,hT1⟩
     case round=>
      obtain⟨k,K',c',hk,rfl,hM',hKf',hKc',hS',hg',hT'⟩:=hrel;by_cases hlt2:k<lb
      ·have hkl:(k:Int)<(lb:Int):=by omega
       have hrk:=HRB.out.grown hg' HNB.out;rcases hrk.2.2 with h0|⟨pb2,off2,hpe2,hblt2,hcl2⟩
       ·omega
       obtain⟨g0,g1,g2,g3,g4⟩:=hcl2 k hlt2;obtain⟨t0,t1,t2,t3,t4⟩:=hT'.cells;have hgk:=OJ HPB.out hlt2
       have htl:Bf<wr.heap.size:=(Array.getElem?_eq_some_iff.1 hT').1;have HSk:=aA (hS'.grown (World.grownBy_alloc wr (.cells #[.int .i64 (g k).c,.int .i64 (g k).m.x,.int .i64 (g k).m.y,.int .i64 (g k).m.d,.int .i64 (g k).m.e] 42) none) (by simp))
       have HGk:=aA (hg'.trans (World.grownBy_alloc wr (.cells #[.int .i64 (g k).c,.int .i64 (g k).m.x,.int .i64 (g k).m.y,.int .i64 (g k).m.d,.int .i64 (g k).m.e] 42) (some w2.heap.size)));have HTk:Hid (dL (wr.alloc (.cells #[.int .i64 (g k).c,.int .i64 (g k).m.x,.int .i64 (g k).m.y,.int .i64 (g k).m.d,.int .i64 (g k).m.e] 42)) Bf (f i)):=(Below.heap_alloc _ _ _ htl).trans hT'
       have HMk:=aA hM';have hcr:=hS'.range
       clear hcl2 hrk hS' hg' hM' hT';subst hpe2;by_cases hok:((f i).m.sum (g k).m).ok=true
       ·have hTwo:uN (f i) (g k) ((f i).m.sum (g k).m):=uN.of hfi.1 hgk.1 hok hfi.2 hgk.2;obtain⟨nf,nc⟩:=WP hTwo hKf' hcr hKc';have hcall:=Ae _ w2.heap.size c' HSk.out (f i) (g k) hTwo nf nc
        by_cases h4:(dJ K' (dR (f i) (g k))).length≤400
        ·have hstep:gT K (f i) g (k+1)=some (dJ K' (dR (f i) (g k))):=by rw[gT,HMk.out];show iG _ _ _=_;unfold iG;rw[if_pos ⟨hok,h4⟩]
         have HST:=aA hstep;rw[decide_eq_true h4]at hcall;clear hstep;go_wp2_with (go_at_call 170;refine hcall.mono ?_;rintro r w6 ⟨rfl,hs6,hg6⟩;have HS6:=aA hs6;have HG6:=aA hg6;clear hs6 hg6);go_roundw;case rel=>exact⟨k+1,_,_,by omega,by go_num,HST.out,nf,nc,HS6.out,HGk.out.trans HG6.out,(HG6.out.block _ (by simp;omega) (fun e=>by cases e;omega)).trans HTk.out⟩
         case measure=>simp[intOf];omega
        ·have hstep:gT K (f i) g (k+1)=none:=by rw[gT,HMk.out];show iG _ _ _=_;unfold iG;rw[if_neg (fun h=>h4 h.2)]
         have hno:cT f g lb la=none:=tM (i:=i+1) (by rw[cT,HM.out];exact tR hstep lb (by omega)) la (by omega);rw[decide_eq_false h4]at hcall;clear hstep;go_wp2_with (go_at_call 170;refine hcall.mono ?_;rintro r w6 ⟨rfl,hs6,hg6⟩;have HG6:=aA hg6;clear hs6 hg6);refine bY (results_tmp2 rfl _ _ _) rfl ?_;rw[hno];exact⟨_,rfl,HB2.out.grown (HGk.out.trans HG6.out) hlo (fun k' e=>by cases e;exact hlo),mI w6 _⟩
       ·have hstep:gT K (f i) g (k+1)=none:=by rw[gT,HMk.out];show iG _ _ _=_;unfold iG;rw[if_neg (fun h=>hok h.1)]
        have hno:cT f g lb la=none:=tM (i:=i+1) (by rw[cT,HM.out];exact tR hstep lb (by omega)) la (by omega);have hcall:=WQ (wr.alloc (.cells #[.int .i64 (g k).c,.int .i64 (g k).m.x,.int .i64 (g k).m.y,.int .i64 (g k).m.d,.int .i64 (g k).m.e] 42)) w2.heap.size (f i) (g k) hfi.1 hgk.1 (by simpa using hok)
        clear hstep;go_wp2_with (go_at_call 170;refine hcall.mono ?_;rintro r w6 ⟨rfl,hb6⟩;have HG6:=aA (cK hb6 (some w2.heap.size));clear hb6);refine bY (results_tmp2 rfl _ _ _) rfl ?_;rw[hno];exact⟨_,rfl,HB2.out.grown (HGk.out.trans HG6.out) hlo (fun k' e=>by cases e;exact hlo),mI w6 _⟩
      ·obtain rfl:k=lb:=by omega
       have HMk:Hid (cT f g k (i+1)=some K'):=by show _=_;rw[cT,HM.out];exact hM'
       have HSk:=aA hS';have HGk:=aA hg'
       clear hS' hg' hM' hT';go_wp2;go_roundw;case rel=>exact⟨i+1,K',c',by omega,by go_num,HMk.out,hKf',hKc',HSk.out,HGk.out⟩
       case measure=>simp[intOf];omega
    ·obtain rfl:i=la:=by omega
     have hKl:=gQ _ _ hM;have e3:lC (cT f g lb i)=FF K:=by rw[hM];simp[lC,FF,hKl]
     go_wp2_with (go_at_call 151;refine(TD _ _ _ _ hS (by omega) hKf hKc).mono ?_;rintro r w5 ⟨v,rfl,hb5,ho5⟩);refine bY (results_tmp2 rfl _ _ _) rfl ?_;rw[e3];have hB4:Below w.heap.size w wr:=HB2.out.grown hg hlo (fun k' e=>by cases e;exact hlo)
     exact⟨_,rfl,hB4.trans (hb5.mono hB4.size),jG ho5 hB4.size⟩
theorem AX (w:World) (a b:Option Addr) (la ca lb cb:Nat) (f g:Nat→T) (ha:Rd w a la ca f) (hb:Rd w b lb cb g):Calls Tryz.prog 154 #[.slice a la ca,.slice b lb cb] w fun r w'=>∃a' cap',r= .returned (.tuple #[.slice a' (bV f la g lb).1.length cap',.bool (bV f la g lb).2])∧Below w.heap.size w w'∧jN w.heap.size w' a' cap' (bV f la g lb).1:=by
 refine(Kw w a b la ca lb cb f g ha hb).mono ?_;rintro r w' ⟨v,rfl,hb1,ho1⟩;have hlen:=vH f la g lb
 obtain⟨a',cap',rfl,hout⟩:=aH ho1 (by omega);exact⟨a',cap',rfl,hb1,hout⟩
end Go.Proofs.YtdidlcjhodejjaaGreat
namespace Go.Proofs.YtdidlcjhodejjaaGreat
open Go.RowKit
set_option linter.unusedVariables false
theorem EY (n k:Int):0≤fQ n k∧fQ n k≤100:=by unfold fQ;split<;>omega
theorem Ci (n:Int):∀k:Nat,0≤fl n k∧fl n k≤100
 |0=>by unfold fl;omega
 |k+1=>by unfold fl;omega
theorem MP (n k:Int):0≤lD n k∧lD n k≤100:=by
 unfold lD;split
 ·exact Ci _ _
 ·omega
theorem Qv (s t k:Int) (w:World):Calls Tryz.prog 146 #[.int .i64 s,.int .i64 t,.int .i64 k] w fun e w'=>e= .returned (.int .i64 (wy s t k))∧w'=w:=by
 have h1:=EY s k;have h2:=MP t k
 have hm:wy s t k=fQ s k*lD t k%101:=jW h1.1 h1.2 h2.1 h2.2
 have hb:0≤fQ s k*lD t k∧fQ s k*lD t k≤10000:=⟨Int.mul_nonneg h1.1 h2.1,by
  have:=Int.mul_le_mul h1.2 h2.2 h2.1 (by omega);omega⟩
 rw[hm];have hc:=Hp s k
 have hf:=Lz t k;generalize fQ s k=p at *;generalize lD t k=q at *;generalize hpq:p*q=r at *;clear hm;go_enter Tryz.func146,Tryz.ntmps146
 go_wp2_with (first
  |(go_at_call 163;refine(hc _).mono ?_;rintro e w' ⟨rfl,hw'⟩;obtain rfl:=hw'.symm;clear hw')
  |(go_at_call 164;refine(hf _).mono ?_;rintro e w' ⟨rfl,hw'⟩;obtain rfl:=hw'.symm;clear hw'))
 go_ret;exact⟨rfl,rfl⟩
theorem KH (xs:List T) (t:T) (L:List T):gS (xs++[t]) L=mJ t.c t.m (gS xs L):=by simp[gS]
theorem vC:∀(xs L:List T),(gS xs L).length≤L.length+xs.length
 |[],L=>Nat.le_refl _
 |t::r,L=>by
  have h1:=vC r (mJ t.c t.m L);have h2:=xD t.c t.m L
  show(gS r (mJ t.c t.m L)).length≤_;rw[List.length_cons];omega
theorem FS (a b:T) (i:Nat):(gH a b i).length=i*(jT a b+1):=by unfold gH;rw[sF (jT a b+1) _ (fun i=>by simp[pK])];simp
def Ow (W:World) (Bx:Nat) (m:M):Prop:=W.heap[Bx]? =some (.cells #[.int .i64 m.x,.int .i64 m.y,.int .i64 m.d,.int .i64 m.e] 40 (0,0))
theorem Ow.cells {W:World} {Bx:Nat} {m:M} (h:Ow W Bx m):W.cell? ⟨Bx,0,none⟩=some (.int .i64 m.x)∧W.cell? ⟨Bx,1,none⟩=some (.int .i64 m.y)∧W.cell? ⟨Bx,2,none⟩=some (.int .i64 m.d)∧W.cell? ⟨Bx,3,none⟩=some (.int .i64 m.e):=by unfold Ow at h;refine⟨?_,?_,?_,?_⟩<;>(unfold World.cell?;simp only[h];rfl)
theorem Nx (w:World) (a b:T) (h3:(a.m.sum b.m).ok=false):Calls Tryz.prog 111 #[.agg #[.int .i64 a.c,.int .i64 a.m.x,.int .i64 a.m.y,.int .i64 a.m.d,.int .i64 a.m.e],.agg #[.int .i64 b.c,.int .i64 b.m.x,.int .i64 b.m.y,.int .i64 b.m.d,.int .i64 b.m.e]] w fun e w'=>∃v,e= .returned (.tuple #[v,.bool false])∧Below w.heap.size w w'∧w'.ownsRow w.heap.size 42 5 v 0 (aE []):=by
 have hm:M.mul a.m b.m=(M.zero,false):=by simp[M.mul,h3]
 have hc:=UN a.m.x a.m.y a.m.d a.m.e b.m.x b.m.y b.m.d b.m.e;have ea:(⟨a.m.x,a.m.y,a.m.d,a.m.e⟩:M)=a.m:=rfl
 have eb:(⟨b.m.x,b.m.y,b.m.d,b.m.e⟩:M)=b.m:=rfl;rw[ea,eb,hm]at hc;have HO:=aA (dY ((w.alloc (.cells #[.int .i64 a.c,.int .i64 a.m.x,.int .i64 a.m.y,.int .i64 a.m.d,.int .i64 a.m.e] 42)).alloc (.cells #[.int .i64 b.c,.int .i64 b.m.x,.int .i64 b.m.y,.int .i64 b.m.d,.int .i64 b.m.e] 42)) w.heap.size (by simp;omega))
 have HW:=aA ((((bL w.heap.size w).alloc (Nat.le_refl _) (.cells #[.int .i64 a.c,.int .i64 a.m.x,.int .i64 a.m.y,.int .i64 a.m.d,.int .i64 a.m.e] 42)).alloc (by simp) (.cells #[.int .i64 b.c,.int .i64 b.m.x,.int .i64 b.m.y,.int .i64 b.m.d,.int .i64 b.m.e] 42)).alloc (by simp;omega) (.cells #[] 42));go_enter Tryz.func111,Tryz.ntmps111;go_wp2_with (go_at_call 145;refine(hc _).mono ?_;rintro e w1 ⟨rfl,hb1⟩);refine bY (results_tmp2 rfl _ _ _) rfl ?_;have hO:=HO.out
 simp only[World.size_alloc]at hO;have hb2:=(HW.out.trans (hb1.mono (by simp;omega)))
 exact⟨_,rfl,hb2.alloc hb2.size _,dC hO (hb1.alloc (jZ (Nat.le_refl _) hb1.size) _)⟩
theorem Jj (w:World) (a b:T) (h:uN a b (a.m.sum b.m)):Calls Tryz.prog 111 #[.agg #[.int .i64 a.c,.int .i64 a.m.x,.int .i64 a.m.y,.int .i64 a.m.d,.int .i64 a.m.e],.agg #[.int .i64 b.c,.int .i64 b.m.x,.int .i64 b.m.y,.int .i64 b.m.d,.int .i64 b.m.e]] w fun e w'=>∃v,e= .returned (.tuple #[v,.bool true])∧Below w.heap.size w w'∧w'.ownsRow w.heap.size 42 5 v (dR a b).length (aE (dR a b)):=by
 have hm:M.mul a.m b.m=(a.m.sum b.m,true):=by simp[M.mul,h.ok1,h.ok2,h.ok3]
 have hc:=UN a.m.x a.m.y a.m.d a.m.e b.m.x b.m.y b.m.d b.m.e;have ea:(⟨a.m.x,a.m.y,a.m.d,a.m.e⟩:M)=a.m:=rfl
 have eb:(⟨b.m.x,b.m.y,b.m.d,b.m.e⟩:M)=b.m:=rfl;rw[ea,eb,hm]at hc;have m1:=M.ok_iff.1 h.ok1
 have m2:=M.ok_iff.1 h.ok2;have m3:=M.ok_iff.1 h.ok3
 have lx:=h.lx;have ly:=h.ly
 have k1:=h.c1;have k2:=h.c2
 have H:=aA h;have HO:=aA (dY ((w.alloc (.cells #[.int .i64 a.c,.int .i64 a.m.x,.int .i64 a.m.y,.int .i64 a.m.d,.int .i64 a.m.e] 42)).alloc (.cells #[.int .i64 b.c,.int .i64 b.m.x,.int .i64 b.m.y,.int .i64 b.m.d,.int .i64 b.m.e] 42)) w.heap.size (by simp;omega))
 have HW:=aA ((((bL w.heap.size w).alloc (Nat.le_refl _) (.cells #[.int .i64 a.c,.int .i64 a.m.x,.int .i64 a.m.y,.int .i64 a.m.d,.int .i64 a.m.e] 42)).alloc (by simp) (.cells #[.int .i64 b.c,.int .i64 b.m.x,.int .i64 b.m.y,.int .i64 b.m.d,.int .i64 b.m.e] 42)).alloc (by simp;omega) (.cells #[] 42));have HTA:Hid (dL (((w.alloc (.cells #[.int .i64 a.c,.int .i64 a.m.x,.int .i64 a.m.y,.int .i64 a.m.d,.int .i64 a.m.e] 42)).alloc (.cells #[.int .i64 b.c,.int .i64 b.m.x,.int .i64 b.m.y,.int .i64 b.m.d,.int .i64 b.m.e] 42)).alloc (.cells #[] 42)) w.heap.size a):=(Below.heap_alloc _ _ _ (by simp;omega)).trans ((Below.heap_alloc _ _ _ (by simp)).trans (World.alloc_heap_new w _))
 have HTB:Hid (dL (((w.alloc (.cells #[.int .i64 a.c,.int .i64 a.m.x,.int .i64 a.m.y,.int .i64 a.m.d,.int .i64 a.m.e] 42)).alloc (.cells #[.int .i64 b.c,.int .i64 b.m.x,.int .i64 b.m.y,.int .i64 b.m.d,.int .i64 b.m.e] 42)).alloc (.cells #[] 42)) (w.heap.size+1) b):=by have:=World.alloc_heap_new (w.alloc (.cells #[.int .i64 a.c,.int .i64 a.m.x,.int .i64 a.m.y,.int .i64 a.m.d,.int .i64 a.m.e] 42)) (.cells #[.int .i64 b.c,.int .i64 b.m.x,.int .i64 b.m.y,.int .i64 b.m.d,.int .i64 b.m.e] 42);rw[World.size_alloc]at this;exact(Below.heap_alloc _ _ _ (by simp)).trans this
 clear h;generalize a.m.sum b.m=g at *;go_enter Tryz.func111,Tryz.ntmps111;go_wp2_with (go_at_call 145;refine(hc _).mono ?_;rintro e w1 ⟨rfl,hb1⟩;have HB1:=aA hb1;clear hb1);have hb1:=HB1.out
 have hO:=HO.out;simp only[World.size_alloc]at hO;have hbw:Below w.heap.size w w1:=HW.out.trans (hb1.mono (by simp;omega))
 have hs1:=hb1.size;simp only[World.size_alloc]at hs1;have hT1:dL w1 w.heap.size a:=(hb1.block _ (by simp;omega)).trans HTA.out
 have hT2:dL w1 (w.heap.size+1) b:=(hb1.block _ (by simp)).trans HTB.out;have hO1:=dC hO hb1
 have hG:Ow (w1.alloc (.cells #[.int .i64 g.x,.int .i64 g.y,.int .i64 g.d,.int .i64 g.e] 40)) w1.heap.size g:=World.alloc_heap_new w1 _;have hT1':dL (w1.alloc (.cells #[.int .i64 g.x,.int .i64 g.y,.int .i64 g.d,.int .i64 g.e] 40)) w.heap.size a:=(Below.heap_alloc _ _ _ (by omega)).trans hT1
 have hT2':dL (w1.alloc (.cells #[.int .i64 g.x,.int .i64 g.y,.int .i64 g.d,.int .i64 g.e] 40)) (w.heap.size+1) b:=(Below.heap_alloc _ _ _ (by omega)).trans hT2;have hO2:=hO1.alloc (.cells #[.int .i64 g.x,.int .i64 g.y,.int .i64 g.d,.int .i64 g.e] 40)
 have hB2:=hbw.alloc hbw.size (.cells #[.int .i64 g.x,.int .i64 g.y,.int .i64 g.d,.int .i64 g.e] 40);have hs2:(w1.alloc (.cells #[.int .i64 g.x,.int .i64 g.y,.int .i64 g.d,.int .i64 g.e] 40)).heap.size=w1.heap.size+1:=by simp
 generalize w1.alloc (.cells #[.int .i64 g.x,.int .i64 g.y,.int .i64 g.d,.int .i64 g.e] 40)=w3 at *;generalize w1.heap.size=Bg at *;clear hb1 hO hT1 hT2 hO1 hbw HB1 HO HW HTA HTB hc;have hq0:0≤a.c*b.c:=Int.mul_nonneg k1.1 k2.1
 have hq1:a.c*b.c≤10000:=by have:=Int.mul_le_mul k1.2 k2.2 k2.1 (by omega);omega
 go_loopw [6,9] (fun v ii wr=>∃i:Nat,i≤iO a b+1∧ii= .int .i64 (i:Int)∧wr.ownsRow w.heap.size 42 5 v (gS (gH a b i) []).length (aE (gS (gH a b i) []))∧Below w.heap.size w wr∧dL wr w.heap.size a∧dL wr (w.heap.size+1) b∧Ow wr Bg g) (fun _ ii _=>iO a b+1-(intOf ii).toNat);case atStart=>exact⟨0,Nat.zero_le _,rfl,hO2,hB2,hT1',hT2',hG⟩
 case round=>
  obtain⟨i,hi,rfl,hown,hbl,hTa,hTb,hGg⟩:=hrel;obtain⟨a0,a1,a2,a3,a4⟩:=hTa.cells;obtain⟨b0,b1,b2,b3,b4⟩:=hTb.cells;obtain⟨g0,g1,g2,g3⟩:=hGg.cells;by_cases hlt:i≤iO a b
  ·have i1:(i:Int)≤a.m.d:=by omega
   have i2:(i:Int)≤b.m.x:=by omega
   have HOWN:=aA hown;have HBL:=aA hbl
   have HTA2:=aA hTa;have HTB2:=aA hTb
   have HGG:=aA hGg;clear hown hbl hTa hTb hGg;go_wp2;clear a0 a1 a2 a3 a4 b0 b1 b2 b3 b4 g0 g1 g2 g3;go_loopw [6,10] (fun v kk wr=>∃k:Nat,k≤jT a b+1∧kk= .int .i64 (k:Int)∧wr.ownsRow w.heap.size 42 5 v (gS (gH a b i++pK a b i k) []).length (aE (gS (gH a b i++pK a b i k) []))∧Below w.heap.size w wr∧dL wr w.heap.size a∧dL wr (w.heap.size+1) b∧Ow wr Bg g) (fun _ kk _=>jT a b+1-(intOf kk).toNat);case atStart=>exact⟨0,Nat.zero_le _,rfl,by have e0:gH a b i++pK a b i 0=gH a b i:=List.append_nil _;rw[e0];exact HOWN.out,HBL.out,HTA2.out,HTB2.out,HGG.out⟩
   case round=>
    obtain⟨k,hk,rfl,hown,hbl,hTa,hTb,hGg⟩:=hrel;obtain⟨a0,a1,a2,a3,a4⟩:=hTa.cells;obtain⟨b0,b1,b2,b3,b4⟩:=hTb.cells;obtain⟨g0,g1,g2,g3⟩:=hGg.cells;have HOK:=aA hown
    have HBK:=aA hbl;have HTAk:=aA hTa
    have HTBk:=aA hTb;have HGGk:=aA hGg
    clear hown hbl hTa hTb hGg;by_cases hlt2:k≤jT a b
    ·have j1:(k:Int)≤a.m.e:=by omega
     have j2:(k:Int)≤b.m.y:=by omega
     have p1:=uP (fQ a.m.d i) (lD b.m.x i);have p2:=uP (fQ a.m.e k) (lD b.m.y k)
     change 0≤wy a.m.d b.m.x i∧wy a.m.d b.m.x i≤100 at p1;change 0≤wy a.m.e b.m.y k∧wy a.m.e b.m.y k≤100 at p2;have q0:0≤a.c*b.c%101∧a.c*b.c%101≤100:=by omega
     have q1:0≤a.c*b.c%101*wy a.m.d b.m.x i:=Int.mul_nonneg q0.1 p1.1;have q2:a.c*b.c%101*wy a.m.d b.m.x i≤10000:=by have:=Int.mul_le_mul q0.2 p1.2 p1.1 (by omega);omega
     have q3:0≤a.c*b.c%101*wy a.m.d b.m.x i%101∧a.c*b.c%101*wy a.m.d b.m.x i%101≤100:=by omega
     have q4:0≤a.c*b.c%101*wy a.m.d b.m.x i%101*wy a.m.e b.m.y k:=Int.mul_nonneg q3.1 p2.1;have q5:a.c*b.c%101*wy a.m.d b.m.x i%101*wy a.m.e b.m.y k≤10000:=by have:=Int.mul_le_mul q3.2 p2.2 p2.1 (by omega);omega
     have hTN:pB a b i k=⟨a.c*b.c%101*wy a.m.d b.m.x i%101*wy a.m.e b.m.y k%101,⟨g.x-i,g.y-k,g.d-i,g.e-k⟩⟩:=by unfold pB;rw[H.out.gx,H.out.gy,H.out.gd,H.out.ge]
     have htok:Pn (gH a b i++pK a b i k):=by
      have hall:=sE H.out;intro t ht;refine hall t ?_;unfold gH;rcases List.mem_append.1 ht with h1|h1
      ·unfold gH at h1;obtain⟨i',hi',h2⟩:=List.mem_flatMap.1 h1;exact List.mem_flatMap.2 ⟨i',List.mem_range.2 (by have:=List.mem_range.1 hi';omega),h2⟩
      ·refine List.mem_flatMap.2 ⟨i,List.mem_range.2 (by omega),?_⟩;unfold pK at h1⊢;obtain⟨k',hk',h2⟩:=List.mem_map.1 h1;exact List.mem_map.2 ⟨k',List.mem_range.2 (by have:=List.mem_range.1 hk';omega),h2⟩
     have hfl:=(rF _ [] htok eQ).1;have hlen:(gS (gH a b i++pK a b i k) []).length≤1000:=by
      have h1:=vC (gH a b i++pK a b i k) [];have h2:(pK a b i k).length=k:=by simp[pK]
      rw[List.length_append,FS,h2]at h1;have h3:i*(jT a b+1)≤15*16:=Nat.mul_le_mul (by omega) (by omega)
      simp at h1;omega
     have hnx:gS (gH a b i++pK a b i (k+1)) []=mJ (a.c*b.c%101*wy a.m.d b.m.x i%101*wy a.m.e b.m.y k%101) ⟨g.x-i,g.y-k,g.d-i,g.e-k⟩ (gS (gH a b i++pK a b i k) []):=by rw[ZG,←List.append_assoc,KH,hTN]
     have HNX:=aA hnx;have HFL:=aA hfl
     have HLE:=aA hlen;clear hTN htok hfl hlen hnx
     go_wp2_with (first
      |(go_at_call 146;refine(Qv _ _ _ _).mono ?_;rintro e w' ⟨rfl,hw'⟩;obtain rfl:=hw'.symm;clear hw')
      |(go_at_call 143;refine(JM _ w.heap.size _ _ _ _ _ _ _ HOK.out HBK.out.size HLE.out (yD HFL.out) (by omega) (by omega)).mono ?_;rintro e w5 ⟨v5,rfl,hb5,ho5⟩;have HB5:=aA hb5;have HO5:=aA ho5;clear hb5 ho5))
     go_roundw;case rel=>exact⟨k+1,by omega,by go_num,by rw[HNX.out];exact HO5.out,HBK.out.trans (HB5.out.mono HBK.out.size),(HB5.out.block _ (Array.getElem?_eq_some_iff.1 HTAk.out).1).trans HTAk.out,(HB5.out.block _ (Array.getElem?_eq_some_iff.1 HTBk.out).1).trans HTBk.out,(HB5.out.block _ (Array.getElem?_eq_some_iff.1 HGGk.out).1).trans HGGk.out⟩
     case measure=>simp[intOf];omega
    ·have hkl:k=jT a b+1:=by omega
     subst hkl;have hoe:=HOK.out
     rw[←BT]at hoe;have HOE:=aA hoe
     clear hoe;by_cases hd:((jT a b+1:Nat):Int)≤a.m.e
     ·have hx:¬((jT a b+1:Nat):Int)≤b.m.y:=by omega
      go_wp2;go_roundw;case rel=>exact⟨i+1,by omega,by go_num,HOE.out,HBK.out,HTAk.out,HTBk.out,HGGk.out⟩
      case measure=>simp[intOf];omega
     ·go_wp2;go_roundw;case rel=>exact⟨i+1,by omega,by go_num,HOE.out,HBK.out,HTAk.out,HTBk.out,HGGk.out⟩
      case measure=>simp[intOf];omega
  ·have hil:i=iO a b+1:=by omega
   subst hil;by_cases hd:((iO a b+1:Nat):Int)≤a.m.d
   ·have hx:¬((iO a b+1:Nat):Int)≤b.m.x:=by omega
    go_wp2;refine bY (results_tmp2 rfl _ _ _) rfl ?_;exact⟨_,rfl,hbl,hown⟩
   ·go_wp2;refine bY (results_tmp2 rfl _ _ _) rfl ?_;exact⟨_,rfl,hbl,hown⟩
def uJ (a b:T):List T:=if(a.m.sum b.m).ok=true then dR a b else[]
theorem Qo (w:World) (a b:T) (h1:a.m.ok=true∧0≤a.c∧a.c≤100) (h2:b.m.ok=true∧0≤b.c∧b.c≤100):Calls Tryz.prog 111 #[.agg #[.int .i64 a.c,.int .i64 a.m.x,.int .i64 a.m.y,.int .i64 a.m.d,.int .i64 a.m.e],.agg #[.int .i64 b.c,.int .i64 b.m.x,.int .i64 b.m.y,.int .i64 b.m.d,.int .i64 b.m.e]] w fun e w'=>∃v,e= .returned (.tuple #[v,.bool (a.m.sum b.m).ok])∧Below w.heap.size w w'∧w'.ownsRow w.heap.size 42 5 v (uJ a b).length (aE (uJ a b)):=by
 cases hok:(a.m.sum b.m).ok
 ·have e:uJ a b=[]:=by simp[uJ,hok]
  rw[e];exact Nx w a b hok
 ·have e:uJ a b=dR a b:=by simp[uJ,hok]
  rw[e];exact Jj w a b ⟨h1.1,h2.1,hok,rfl,rfl,rfl,rfl,h1.2,h2.2⟩
theorem OE {a b:T} (h:uN a b (a.m.sum b.m)):(dR a b).length≤1000:=by
 have h1:=vC (gH a b (iO a b+1)) [];have m1:=M.ok_iff.1 h.ok1
 have lx:=h.lx;have ly:=h.ly
 rw[FS]at h1;have h3:(iO a b+1)*(jT a b+1)≤16*16:=Nat.mul_le_mul (by omega) (by omega)
 unfold dR;simp at h1;omega
theorem OG {a b:T} (h1:a.m.ok=true∧0≤a.c∧a.c≤100) (h2:b.m.ok=true∧0≤b.c∧b.c≤100):(uJ a b).length≤1000:=by
 unfold uJ;split
 ·rename_i hok;exact OE ⟨h1.1,h2.1,hok,rfl,rfl,rfl,rfl,h1.2,h2.2⟩
 ·simp
theorem UQ (w:World) (a b:Option Addr) (la ca lb cb:Nat) (f g:Nat→T) (ha:Rd w a la ca f) (hb:Rd w b lb cb g) (l1:la≤400) (l2:lb≤400) (gf:qL f la) (gg:qL g lb):Calls Tryz.prog 68 #[.slice a la ca,.slice b lb cb] w fun r w'=>∃v,r= .returned (.tuple #[v,.bool (lC (cT f g lb la)).2])∧Below w.heap.size w w'∧w'.ownsRow w.heap.size 42 5 v (lC (cT f g lb la)).1.length (aE (lC (cT f g lb la)).1):=by
 have HA:=aA ha;have HB:=aA hb
 have HGF:=aA gf;have HGG:=aA gg
 have hO0:=dY w w.heap.size (Nat.le_refl _);have hB0:=aC w (.cells #[] 42)
 clear ha hb gf gg;go_enter Tryz.func68,Tryz.ntmps68;go_wp2;generalize w.alloc (.cells #[] 42)=w0 at *;go_loopw [6,7] (fun v ii wr=>∃(i:Nat) (K:List T),i≤la∧ii= .int .i64 (i:Int)∧cT f g lb i=some K∧aK K∧K.length≤400∧wr.ownsRow w.heap.size 42 5 v K.length (aE K)∧Below w.heap.size w wr) (fun _ ii _=>la-(intOf ii).toNat);case atStart=>exact⟨0,[],Nat.zero_le _,rfl,rfl,eQ,Nat.zero_le _,hO0,hB0⟩
 case round=>
  obtain⟨i,K,hi,rfl,hM,hKf,hKl,hown,hbl⟩:=hrel;by_cases hlt:i<la
  ·have hil:(i:Int)<(la:Int):=by omega
   have HM:=aA hM;have HKF:=aA hKf
   have HOWN:=aA hown;have HBL:=aA hbl
   clear hM hKf hown hbl;go_wp2;go_loopw [6,8] (fun v kk wr=>∃(k:Nat) (K':List T),k≤lb∧kk= .int .i64 (k:Int)∧gT K (f i) g k=some K'∧aK K'∧K'.length≤400∧wr.ownsRow w.heap.size 42 5 v K'.length (aE K')∧Below w.heap.size w wr) (fun _ kk _=>lb-(intOf kk).toNat);case atStart=>exact⟨0,K,Nat.zero_le _,rfl,rfl,HKF.out,hKl,HOWN.out,HBL.out⟩
   case round=>
    obtain⟨k,K',hk,rfl,hM',hKf',hKl',hown',hbl'⟩:=hrel;by_cases hlt2:k<lb
    ·have hkl:(k:Int)<(lb:Int):=by omega
     have hri:=HA.out.below hbl';have hrk:=HB.out.below hbl'
     rcases hri.2.2 with h0|⟨pb,off,hpe,hblt,hcl⟩
     ·omega
     rcases hrk.2.2 with h0|⟨pb2,off2,hpe2,hblt2,hcl2⟩
     ·omega
     obtain⟨g0,g1,g2,g3,g4⟩:=hcl i hlt;obtain⟨j0,j1,j2,j3,j4⟩:=hcl2 k hlt2;have hfi:=HGF.out i hlt
     have hgk:=HGG.out k hlt2;obtain⟨av,cv,hv,hout⟩:=aH hown' (by omega);have HM':=aA hM'
     have HKF':=aA hKf';have HOUT:=aA hout
     have HBL':=aA hbl';clear hM' hKf' hown' hout hcl hcl2 hri hrk hbl';subst hpe hpe2 hv;go_wp2_with fail;have hps:=OG hfi hgk
     have hps2:(uJ (f i) (g k)).length*40≤140737488351232:=by omega
     have hbr:=HBL'.out.size
     go_region_with (go_at_call 111;refine(Qo _ (f i) (g k) hfi hgk).mono ?_;rintro r w5 ⟨v5,rfl,hb5,ho5⟩;obtain⟨a5,c5,rfl,hout5⟩:=aH ho5 hps2;have HB5:=aA ((bL wr.heap.size wr).drew.trans hb5);have HOUT5:=aA hout5;clear hb5 ho5 hout5)
     all_goals
      have hB5:Below w.heap.size w w5:=HBL'.out.trans (HB5.out.mono HBL'.out.size);by_cases hok:((f i).m.sum (g k).m).ok=true
      ·have hTwo:uN (f i) (g k) ((f i).m.sum (g k).m):=⟨hfi.1,hgk.1,hok,rfl,rfl,rfl,rfl,hfi.2,hgk.2⟩
       have epo:uJ (f i) (g k)=dR (f i) (g k):=if_pos hok;have hfp:=(iB hTwo).1
       have hfa:=(cU HKF'.out hfp).1;have hR5:Rd w5 av K'.length cv (lf K'):=HOUT.out.1.below (HB5.out)
       have hX5:=HOUT5.out.1;rw[epo]at hX5 hps;rw[epo,hok];have hadd:=sG w5 av a5 K'.length cv (dR (f i) (g k)).length c5 (lf K') (lf (dR (f i) (g k))) hR5 hX5 (by omega) ((yD HKF'.out).at) ((yD hfp).at)
       have eA:iM (lf K') K'.length (lf (dR (f i) (g k))) (dR (f i) (g k)).length 0 0=dJ K' (dR (f i) (g k)):=rfl;rw[eA]at hadd;have hal:(dJ K' (dR (f i) (g k))).length≤K'.length+(dR (f i) (g k)).length:=by have:=BH (lf K') K'.length (lf (dR (f i) (g k))) (dR (f i) (g k)).length 0 0;simp only[Nat.sub_zero]at this;exact this
       by_cases h4:(dJ K' (dR (f i) (g k))).length≤400
       ·have hstep:gT K (f i) g (k+1)=some (dJ K' (dR (f i) (g k))):=by rw[gT,HM'.out];show iG _ _ _=_;unfold iG;rw[if_pos ⟨hok,h4⟩]
        have HST:=aA hstep;have h4':((dJ K' (dR (f i) (g k))).length:Int)≤400:=by omega
        clear hstep;generalize hL:dJ K' (dR (f i) (g k))=L at *;go_wp2_with (go_at_call 85;refine hadd.mono ?_;rintro r w6 ⟨v6,rfl,hb6,ho6⟩;obtain⟨a6,c6,rfl,hout6⟩:=aH ho6 (by omega);have HB6:=aA hb6;have HO6:=aA ho6;clear hb6 ho6 hout6);go_roundw;case rel=>exact⟨k+1,L,by omega,by go_num,HST.out,hfa,h4,jG HO6.out hB5.size,hB5.trans (HB6.out.mono hB5.size)⟩
        case measure=>simp[intOf];omega
       ·have hstep:gT K (f i) g (k+1)=none:=by rw[gT,HM'.out];show iG _ _ _=_;unfold iG;rw[if_neg (fun h=>h4 h.2)]
        have hno:cT f g lb la=none:=tM (i:=i+1) (by rw[cT,HM.out];exact tR hstep lb (by omega)) la (by omega);have h4':(400:Int)<((dJ K' (dR (f i) (g k))).length:Int):=by omega
        clear hstep;generalize hL:dJ K' (dR (f i) (g k))=L at *;go_wp2_with (go_at_call 85;refine hadd.mono ?_;rintro r w6 ⟨v6,rfl,hb6,ho6⟩;obtain⟨a6,c6,rfl,hout6⟩:=aH ho6 (by omega);have HB6:=aA hb6;clear hb6 ho6 hout6);refine bY (results_tmp2 rfl _ _ _) rfl ?_;rw[hno];have hB6:Below w.heap.size w w6:=hB5.trans (HB6.out.mono hB5.size)
        exact⟨_,rfl,hB6.alloc hB6.size _,dY w6 w.heap.size hB6.size⟩
      ·have hstep:gT K (f i) g (k+1)=none:=by rw[gT,HM'.out];show iG _ _ _=_;unfold iG;rw[if_neg (fun h=>hok h.1)]
       have hno:cT f g lb la=none:=tM (i:=i+1) (by rw[cT,HM.out];exact tR hstep lb (by omega)) la (by omega);have hok':((f i).m.sum (g k).m).ok=false:=by simpa using hok
       rw[hok'];clear hstep;go_wp2;refine bY (results_tmp2 rfl _ _ _) rfl ?_;rw[hno];exact⟨_,rfl,hB5.alloc hB5.size _,dY w5 w.heap.size hB5.size⟩
    ·obtain rfl:k=lb:=by omega
     have HMk:Hid (cT f g k (i+1)=some K'):=by show _=_;rw[cT,HM.out];exact hM'
     go_wp2;go_roundw;case rel=>exact⟨i+1,K',by omega,by go_num,HMk.out,hKf',hKl',hown',hbl'⟩
     case measure=>simp[intOf];omega
  ·obtain rfl:i=la:=by omega
   go_wp2;refine bY (results_tmp2 rfl _ _ _) rfl ?_;rw[hM];exact⟨_,rfl,hbl,hown⟩
inductive SK where
 |sl (m:Nat)|rd|pk (m:Nat)|ix|ld|ag|no
def KP (B N:Nat) (w:World) (v:Value):SK→Prop
 | .sl m=>Sl w N m v
 | .rd=>v= .pointer (some ⟨B,0,none⟩)
 | .pk m=>Pk m v
 | .ix=>Ix w N v
 | .ld=>Ld v
 | .ag=>Ag v
 | .no=>True
theorem KP.set {B N g o:Nat} {w:World} {v x:Value} {k:SK} (h:KP B N w v k) (hg:g<N):KP B N (w.setCell ⟨g,o,none⟩ x) v k:=by
 cases k with
 |sl m=>
  obtain⟨b,rfl,hN,hc⟩:=h;exact⟨b,rfl,hN,fun i hi=>by obtain⟨y,hy⟩:=hc i hi;exact⟨y,(eS (by omega)).trans hy⟩⟩
 |ix=>
  obtain⟨b,i,y,rfl,hN,hc⟩:=h;exact⟨b,i,y,rfl,hN,(eS (by omega)).trans hc⟩
 |_=>exact h
def S1 (w:World) (N:Nat) (v:Value):Prop:=∃b c x y d e,v= .slice (some ⟨b,0,none⟩) 1 1∧N≤b∧b<w.heap.size∧w.heap[b]? =some (.cells #[.int .i64 c,.int .i64 x,.int .i64 y,.int .i64 d,.int .i64 e] 42)
theorem Ai (b o j:Nat):(⟨b,o,none⟩:Addr).add j=⟨b,o+j,none⟩:=by unfold Addr.add;split<;>simp_all
theorem Rd.news {w:World} {b off cap:Nat} {L:List T} (h:Rd w (some ⟨b,off,none⟩) L.length cap (lf L)):∀j u,(aE L)[j]? =some u→w.cell? ((⟨b,off,none⟩:Addr).add j)=some u:=by
 intro j u hu;have hj:j<L.length*5:=by rw[←aX];exact(List.getElem?_eq_some_iff.1 hu).1
 rw[yA L j hj]at hu;cases hu;rw[Ai];rcases h.2.2 with h0|⟨b',off',he,_,hc⟩
 ·omega
 ·cases he;obtain⟨c0,c1,c2,c3,c4⟩:=hc (j / 5) (by omega);have h5:j%5=0∨j%5=1∨j%5=2∨j%5=3∨j%5=4:=by omega
  rcases h5 with h|h|h|h|h
  ·rw[show j=j / 5*5 by omega,cf0];exact c0
  ·rw[show j=j / 5*5+1 by omega,TP,←Nat.add_assoc];exact c1
  ·rw[show j=j / 5*5+2 by omega,TR,←Nat.add_assoc];exact c2
  ·rw[show j=j / 5*5+3 by omega,Lm,←Nat.add_assoc];exact c3
  ·rw[show j=j / 5*5+4 by omega,Ln,←Nat.add_assoc];exact c4
def nU (L K:List T):List T×Bool:=bV (lf L) L.length (lf K) K.length
theorem mL {K:List T} {a:T} {g:Nat→T} {lb:Nat} (hK:aK K) (ha:a.m.ok=true∧0≤a.c∧a.c≤100) (hg:qL g lb):∀k K',k≤lb→gT K a g k=some K'→aK K'
 |0,K',_,h=>by cases h;exact hK
 |k+1,K',hk,h=>by
  rw[gT]at h;cases hr:gT K a g k with
  |none=>rw[hr]at h;cases h
  |some K1=>
   rw[hr]at h;change iG K1 a (g k)=some K' at h;have h1:=mL hK ha hg k K1 (by omega) hr
   unfold iG at h;split at h
   ·rename_i hok;cases h;have h2:=hg k (by omega)
    exact(cU h1 (iB ⟨ha.1,h2.1,hok.1,rfl,rfl,rfl,rfl,ha.2,h2.2⟩).1).1
   ·cases h
theorem dQ {f g:Nat→T} {la lb:Nat} (hf:qL f la) (hg:qL g lb):∀i K,i≤la→cT f g lb i=some K→aK K
 |0,K,_,h=>by cases h;exact eQ
 |i+1,K,hi,h=>by
  rw[cT]at h;cases hr:cT f g lb i with
  |none=>rw[hr]at h;cases h
  |some K1=>
   rw[hr]at h;exact mL (dQ hf hg i K1 (by omega) hr) (hf i (by omega)) hg lb K (Nat.le_refl _) h
theorem ER (L K:List T):nU L K=([],false)∨∃P,nU L K=(P,true)∧cG P=true:=by
 unfold nU bV;split
 ·rename_i h;obtain⟨l1,g1⟩:=cF h.1;obtain⟨l2,g2⟩:=cF h.2;cases hm:cT (lf L) (lf K) K.length L.length with
  |none=>exact .inl rfl
  |some P=>exact .inr ⟨P,rfl,gE (gQ _ P hm) (dQ g1 g2 _ P (Nat.le_refl _) hm)⟩
 ·exact .inl rfl
variable {w:World} {a b:Option Addr} {ca cb:Nat} {L K:List T}
end Go.Proofs.YtdidlcjhodejjaaGreat
namespace Go.Proofs.YtdidlcjhodejjaaGreat
open Go.RowKit
set_option linter.unusedVariables false
theorem Tr:∀D X i:Fin 16,i.val≤D.val→i.val≤X.val→zz (wy (D.val:Int) (X.val:Int) (i.val:Int))=nf (wN D.val X.val i.val):=by decide+kernel
theorem Gv {d x:Int} {i:Nat} (d0:0≤d) (d1:d≤15) (x0:0≤x) (x1:x≤15) (hi:(i:Int)≤d) (hx:(i:Int)≤x):zz (wy d x i)=nf (wN d.toNat x.toNat i):=by have h:=Tr ⟨d.toNat,by omega⟩ ⟨x.toNat,by omega⟩ ⟨i,by omega⟩ (by show i≤d.toNat;omega) (by show i≤x.toNat;omega);simp only[Int.toNat_of_nonneg d0,Int.toNat_of_nonneg x0]at h;exact h
theorem mC (B:Lq) (f:Nat→Lq):∀n,Lq.mul (Lq.sumN f n) B=Lq.sumN (fun i=>Lq.mul (f i) B) n
 |0=>Lq.nil_mul B
 |n+1=>by rw[Lq.sumN,Lq.sum_mul,mC B f n];rfl
theorem lF (c:Fq) (f:Nat→Lq):∀n,Lq.sc c (Lq.sumN f n)=Lq.sumN (fun i=>Lq.sc c (f i)) n
 |0=>Lq.ext fun u n k=>by show c*(0:Fq)=0;grind
 |n+1=>by rw[Lq.sumN,Lq.sc_sum,lF c f n];rfl
theorem VM {xa ya x' d' y' e' db eb:Lq} (h1:Lq.Com ya x') (h2:Lq.Com d' y') (h3:Lq.Com e' db):Lq.mul (Lq.mul xa ya) (Lq.mul (Lq.mul x' d') (Lq.mul (Lq.mul y' e') (Lq.mul db eb)))=Lq.mul (Lq.mul (Lq.mul xa x') (Lq.mul ya y')) (Lq.mul (Lq.mul d' db) (Lq.mul e' eb)):=
 calc _=Lq.mul xa (Lq.mul (Lq.mul ya x') (Lq.mul (Lq.mul d' y') (Lq.mul (Lq.mul e' db) eb))):=rfl
  _=Lq.mul xa (Lq.mul (Lq.mul x' ya) (Lq.mul (Lq.mul y' d') (Lq.mul (Lq.mul db e') eb))):=by rw[h1,h2,h3]
  _=_:=rfl
theorem Nv (g:xR) (a b:T) (ha:a.m.ok=true) (hb:b.m.ok=true):Lq.mul (mo g a.m) (mo g b.m)=Lq.sumN (fun i=>Lq.sumN (fun k=>Lq.sc (nf (wN a.m.d.toNat b.m.x.toNat i)*nf (wN a.m.e.toNat b.m.y.toNat k)) (mo g (pB a b i k).m)) (jT a b+1)) (iO a b+1):=by
 obtain⟨ax0,ax1,ay0,ay1,ad0,ad1,ae0,ae1⟩:=M.ok_iff.1 ha;obtain⟨bx0,bx1,by0,by1,bd0,bd1,be0,be1⟩:=M.ok_iff.1 hb;have e1:Lq.mul (mo g a.m) (mo g b.m)=Lq.mul (Lq.mul (Lq.pow g.x a.m.x.toNat) (Lq.pow g.y a.m.y.toNat)) (Lq.mul (Lq.mul (Lq.pow g.d a.m.d.toNat) (Lq.pow g.x b.m.x.toNat)) (Lq.mul (Lq.mul (Lq.pow g.e a.m.e.toNat) (Lq.pow g.y b.m.y.toNat)) (Lq.mul (Lq.pow g.d b.m.d.toNat) (Lq.pow g.e b.m.e.toNat)))):=by
  have h:=g.xe.symm.pows a.m.e.toNat b.m.x.toNat
  calc _=Lq.mul (Lq.mul (Lq.pow g.x a.m.x.toNat) (Lq.pow g.y a.m.y.toNat)) (Lq.mul (Lq.pow g.d a.m.d.toNat) (Lq.mul (Lq.mul (Lq.pow g.e a.m.e.toNat) (Lq.pow g.x b.m.x.toNat)) (Lq.mul (Lq.pow g.y b.m.y.toNat) (Lq.mul (Lq.pow g.d b.m.d.toNat) (Lq.pow g.e b.m.e.toNat))))):=rfl
   _=Lq.mul (Lq.mul (Lq.pow g.x a.m.x.toNat) (Lq.pow g.y a.m.y.toNat)) (Lq.mul (Lq.pow g.d a.m.d.toNat) (Lq.mul (Lq.mul (Lq.pow g.x b.m.x.toNat) (Lq.pow g.e a.m.e.toNat)) (Lq.mul (Lq.pow g.y b.m.y.toNat) (Lq.mul (Lq.pow g.d b.m.d.toNat) (Lq.pow g.e b.m.e.toNat))))):=by rw[h]
   _=_:=rfl
 have lx:iO a b=min a.m.d.toNat b.m.x.toNat:=by unfold iO;omega
 have ly:jT a b=min a.m.e.toNat b.m.y.toNat:=by unfold jT;omega
 rw[e1,tN g.wx,tN g.wy,mC,Lq.mul_sumN,lx,ly];refine Lq.sumN_congr (fun i hi=>?_);rw[Lq.sc_mul,Lq.mul_sc,mC,Lq.mul_sumN,Lq.mul_sumN,lF];refine Lq.sumN_congr (fun k hk=>?_);rw[Lq.sc_mul,Lq.mul_sc,Lq.mul_sc,Lq.sc_sc,VM (g.xy.symm.pows _ _) (g.dy.pows _ _) (g.de.symm.pows _ _),←Lq.pow_add,←Lq.pow_add,←Lq.pow_add,←Lq.pow_add];unfold mo pB;simp only;rw[show a.m.x.toNat+(b.m.x.toNat-i)=(a.m.x+b.m.x-(i:Int)).toNat by omega,show a.m.y.toNat+(b.m.y.toNat-k)=(a.m.y+b.m.y-(k:Int)).toNat by omega,show a.m.d.toNat-i+b.m.d.toNat=(a.m.d+b.m.d-(i:Int)).toNat by omega,show a.m.e.toNat-k+b.m.e.toNat=(a.m.e+b.m.e-(k:Int)).toNat by omega]
theorem IV (g:xR) {a b:T} {m:M} (h:uN a b m):Rp g (dR a b)=Lq.sc (zz a.c*zz b.c) (Lq.mul (mo g a.m) (mo g b.m)):=by
 obtain⟨ax0,ax1,ay0,ay1,ad0,ad1,ae0,ae1⟩:=M.ok_iff.1 h.ok1;obtain⟨bx0,bx1,by0,by1,bd0,bd1,be0,be1⟩:=M.ok_iff.1 h.ok2;rw[Nv g a b h.ok1 h.ok2,lF];refine Lq.ext fun u p q=>?_;show nM (fun m=>(mo g m).f u p q) (gS (gH a b (iO a b+1)) [])=_
 rw[uZ _ _ (sE h) eQ,JS,LG];unfold nM gH pK;rw[LD];have z:∀x:Fq,0+x=x:=by intro x;grind
 rw[z];refine fE (fun i hi=>?_);rw[List.mem_range]at hi;rw[yW,lF,LG];refine fE (fun k hk=>?_);rw[List.mem_range]at hk;have hx:iO a b=min a.m.d.toNat b.m.x.toNat:=by unfold iO;omega
 have hy:jT a b=min a.m.e.toNat b.m.y.toNat:=by unfold jT;omega
 show zz (pB a b i k).c*_=zz a.c*zz b.c*(nf _*nf _*_);have hc:zz (pB a b i k).c=zz a.c*zz b.c*nf (wN a.m.d.toNat b.m.x.toNat i)*nf (wN a.m.e.toNat b.m.y.toNat k):=by show zz (a.c*b.c%101*wy a.m.d b.m.x i%101*wy a.m.e b.m.y k%101)=_;rw[mS,pN,mS,pN,mS,pN,Gv ad0 ad1 bx0 bx1 (by omega) (by omega),Gv ae0 ae1 by0 by1 (by omega) (by omega)]
 rw[hc]
 grind
def tX:Lq:=⟨fun u n k=>u (n+1) k,fun _ _=>rfl,fun _ _=>rfl⟩
def tY:Lq:=⟨fun u n k=>u n (k+1),fun _ _=>rfl,fun _ _=>rfl⟩
def sX:Lq:=⟨fun u n k=>nf n*u (n-1) k,fun u v=>by funext n k;simp only[va];grind,fun c u=>by funext n k;simp only[vs];grind⟩
def sY:Lq:=⟨fun u n k=>nf k*u n (k-1),fun u v=>by funext n k;simp only[va];grind,fun c u=>by funext n k;simp only[vs];grind⟩
def LA:xR where
 x:=tX
 y:=tY
 d:=sX
 e:=sY
 wx:=Lq.ext fun u n k=>by
  show nf (n+1)*u (n+1-1) k=nf n*u (n-1+1) k+u n k;rw[yN,qZ,show n+1-1=n by omega];cases n with
  |zero=>rw[jX];grind
  |succ n=>rw[show n+1-1+1=n+1 by omega];grind
 wy:=Lq.ext fun u n k=>by
  show nf (k+1)*u n (k+1-1)=nf k*u n (k-1+1)+u n k;rw[yN,qZ,show k+1-1=k by omega];cases k with
  |zero=>rw[jX];grind
  |succ k=>rw[show k+1-1+1=k+1 by omega];grind
 xy:=rfl
 xe:=rfl
 dy:=rfl
 de:=Lq.ext fun u n k=>by
  show nf k*(nf n*u (n-1) (k-1))=nf n*(nf k*u (n-1) (k-1))
  grind
theorem Eu (u:Vq) (n k:Nat):∀j,(Lq.pow tX j).f u n k=u (n+j) k
 |0=>rfl
 |j+1=>by rw[Lq.pow_succ'];show(Lq.pow tX j).f (tX.f u) n k=_;rw[Eu];rfl
theorem Ev (u:Vq) (n k:Nat):∀j,(Lq.pow tY j).f u n k=u n (k+j)
 |0=>rfl
 |j+1=>by rw[Lq.pow_succ'];show(Lq.pow tY j).f (tY.f u) n k=_;rw[Ev];rfl
theorem Es:∀(j:Nat) (u:Vq) (n k:Nat),(Lq.pow sX j).f u n k=nf (TZ n j)*u (n-j) k
 |0,u,n,k=>by show u n k=nf 1*u n k;rw[qZ];grind
 |j+1,u,n,k=>by
  rw[Lq.pow_succ'];show(Lq.pow sX j).f (sX.f u) n k=_
  rw[Es j];show nf (TZ n j)*(nf (n-j)*u (n-j-1) k)=nf (TZ n j*(n-j))*u (n-(j+1)) k
  rw[SH,show n-j-1=n-(j+1) by omega];grind
theorem Et:∀(j:Nat) (u:Vq) (n k:Nat),(Lq.pow sY j).f u n k=nf (TZ k j)*u n (k-j)
 |0,u,n,k=>by show u n k=nf 1*u n k;rw[qZ];grind
 |j+1,u,n,k=>by
  rw[Lq.pow_succ'];show(Lq.pow sY j).f (sY.f u) n k=_
  rw[Et j];show nf (TZ k j)*(nf (k-j)*u n (k-j-1))=nf (TZ k j*(k-j))*u n (k-(j+1))
  rw[SH,show k-j-1=k-(j+1) by omega];grind
theorem Dm (m:M) (u:Vq) (n k:Nat):(mo LA m).f u n k=nf (TZ n m.d.toNat)*nf (TZ k m.e.toNat)*u (n-m.d.toNat+m.x.toNat) (k-m.e.toNat+m.y.toNat):=by
 show(Lq.pow sY m.e.toNat).f ((Lq.pow sX m.d.toNat).f ((Lq.pow tY m.y.toNat).f ((Lq.pow tX m.x.toNat).f u))) n k=_;rw[Et,Es,Ev,Eu]
 grind
theorem xJ {P:List T} (hP:aK P) {t0:T} (h0:t0∈P) {f:T→Fq} (hf:∀t∈P,t.m≠t0.m→f t=0):su P f=f t0:=by
 induction P with
 |nil=>cases h0
 |cons t r ih=>
  rw[su];have hp:=(List.pairwise_cons.1 hP.1).1
  rcases List.mem_cons.1 h0 with rfl|h1
  ·rw[rJ f r (fun s hs=>hf s (List.mem_cons_of_mem _ hs) (fun e=>by have:=hp s hs;rw[e]at this;omega))]
   grind
  ·rw[ih hP.tail h1 (fun s hs=>hf s (List.mem_cons_of_mem _ hs)),hf t (List.mem_cons_self ..) (fun e=>by have:=hp t0 h1;rw[e]at this;omega)]
   grind
theorem JD:∀a b:Fq,a*b=0→a=0∨b=0:=by decide+kernel
theorem Ly:∀D:Fin 16,nf (TZ D.val D.val)≠0:=by decide+kernel
theorem NK {α:Type} (f:α→Nat):∀L:List α,L≠[]→∃t∈L,∀s∈L,f t≤f s
 |[],h=>absurd rfl h
 |[t],_=>⟨t,List.mem_singleton.2 rfl,fun s hs=>by rw[List.mem_singleton.1 hs];exact Nat.le_refl _⟩
 |t::s::r,_=>by
  obtain⟨m,hm,hl⟩:=NK f (s::r) (by simp);by_cases h:f t≤f m
  ·exact⟨t,List.mem_cons_self ..,fun x hx=>by
    rcases List.mem_cons.1 hx with rfl|hx
    ·exact Nat.le_refl _
    ·exact jZ h (hl x hx)⟩
  ·exact⟨m,List.mem_cons_of_mem _ hm,fun x hx=>by
    rcases List.mem_cons.1 hx with rfl|hx
    ·omega
    ·exact hl x hx⟩
theorem XC {P:List T} (hP:aK P) (hne:P≠[]):∃t0∈P,(Rp LA P).f (fun n k=>if n=t0.m.x.toNat∧k=t0.m.y.toNat then 1 else 0) t0.m.d.toNat t0.m.e.toNat≠0:=by
 obtain⟨t0,h0,hmin⟩:=NK (fun t:T=>t.m.d.toNat+t.m.e.toNat) P hne;refine⟨t0,h0,?_⟩;have r0:=hP.2 t0 h0
 obtain⟨x0,x1,y0,y1,d0,d1,e0,e1⟩:=M.ok_iff.1 r0.1;show su P (fun t=>zz t.c*(mo LA t.m).f _ t0.m.d.toNat t0.m.e.toNat)≠0
 rw[xJ hP h0 (fun t ht hm=>?_)]
 ·rw[Dm];have hz:(if t0.m.d.toNat-t0.m.d.toNat+t0.m.x.toNat=t0.m.x.toNat∧t0.m.e.toNat-t0.m.e.toNat+t0.m.y.toNat=t0.m.y.toNat then(1:Fq)else 0)=1:=if_pos ⟨by omega,by omega⟩
  simp only[hz];intro h;rcases JD _ _ h with h|h
  ·exact IQ r0.2.1 r0.2.2 h
  ·rcases JD _ _ h with h|h
   ·rcases JD _ _ h with h|h
    ·exact Ly ⟨t0.m.d.toNat,by omega⟩ h
    ·exact Ly ⟨t0.m.e.toNat,by omega⟩ h
   ·exact absurd h (by decide)
 ·rw[Dm];have r1:=hP.2 t ht
  obtain⟨u0,u1,v0,v1,f0,f1,g0,g1⟩:=M.ok_iff.1 r1.1;have hm2:t0.m.d.toNat+t0.m.e.toNat≤t.m.d.toNat+t.m.e.toNat:=hmin t ht
  have zl:∀x:Fq,0*x=0:=by intro x;grind
  have zr:∀x:Fq,x*0=0:=by intro x;grind
  by_cases hd:t0.m.d.toNat<t.m.d.toNat
  ·rw[wG _ _ hd,jX,zl,zl,zr]
  ·by_cases he:t0.m.e.toNat<t.m.e.toNat
   ·rw[wG _ _ he,jX,zr,zl,zr]
   ·rw[if_neg,zr,zr];rintro⟨hx,hy⟩;refine hm ?_;have a1:t.m.x=t0.m.x:=by omega
    have a2:t.m.y=t0.m.y:=by omega
    have a3:t.m.d=t0.m.d:=by omega
    have a4:t.m.e=t0.m.e:=by omega
    revert a1 a2 a3 a4
    cases t.m;cases t0.m;intro a1 a2 a3 a4;simp only at a1 a2 a3 a4;rw[a1,a2,a3,a4]
theorem yO {P:List T} (hP:aK P) (h:Rp LA P=Lq.nil):P=[]:=by
 by_cases hne:P=[]
 ·exact hne
 ·obtain⟨t0,_,h1⟩:=XC hP hne;rw[h]at h1;exact absurd rfl h1
theorem MM {P Q:List T} (hP:aK P) (hQ:aK Q) (h:Rp LA P=Rp LA Q):P=Q:=by
 refine(PY hP hQ).1 (yO (cW hP hQ).1 ?_);rw[BC LA hP hQ,h];refine Lq.ext fun u n k=>?_;show _+zz 100*_=(0:Fq)
 have:zz 100=100:=rfl;rw[this]
 grind
theorem zV {A B P:List T} (h:nU A B=(P,true)):cG P=true:=by
 rcases ER A B with h1|⟨Q,h1,o⟩
 ·rw[h1]at h;simp at h
 ·rw[h1]at h;simp only[Prod.mk.injEq,and_true]at h;rw[←h];exact o
theorem oM {A B P:List T} (h:nU A B=(P,true)):aK P:=(aD (zV h)).2
theorem LK {A B P:List T} (h:nU A B=(P,true)):cG A=true∧cG B=true:=by
 unfold nU bV at h;split at h
 ·rename_i hh;exact hh
 ·simp at h
def vG (c:Int) (t:T):T:=⟨c*t.c%101,t.m⟩
theorem Hg {c:Int} (c1:1≤c) (c2:c≤100) {K X:List T} (hK:aK K) (hX:aK X):dJ (kZ c K) (kZ c X)=kZ c (dJ K X):=by
 have f1:=gW c1 c2 hK;have f2:=gW c1 c2 hX
 refine MM (cU f1 f2).1 (gW c1 c2 (cU hK hX).1) ?_;rw[xW _ f1 f2,FL,FL,FL,xW _ hK hX,Lq.sc_sum]
theorem Jq {c:Int} (c1:1≤c) (c2:c≤100) {a b:T} {m:M} (h:uN a b m):uN (vG c a) b m∧dR (vG c a) b=kZ c (dR a b):=by
 have h2:uN (vG c a) b m:=⟨h.ok1,h.ok2,h.ok3,h.gx,h.gy,h.gd,h.ge,⟨by show 0≤c*a.c%101;omega,by show c*a.c%101≤100;omega⟩,h.c2⟩
 refine⟨h2,MM (iB h2).1 (gW c1 c2 (iB h).1) ?_⟩;rw[IV _ h2,FL,IV _ h,Lq.sc_sc];congr 1;show zz (c*a.c%101)*zz b.c=_
 rw[mS,pN];grind
theorem VJ {c:Int} (c1:1≤c) (c2:c≤100) {K:List T} {a:T} {f:Nat→T} {lb:Nat} (hK:aK K) (ha:a.m.ok=true∧0≤a.c∧a.c≤100) (hg:qL f lb):∀k,k≤lb→gT (kZ c K) (vG c a) f k=(gT K a f k).map (kZ c)
 |0,_=>rfl
 |k+1,hk=>by
  rw[gT,gT,VJ c1 c2 hK ha hg k (by omega)];cases hr:gT K a f k with
  |none=>rfl
  |some K1=>
   show iG (kZ c K1) (vG c a) (f k)=(iG K1 a (f k)).map (kZ c);have hf1:=mL hK ha hg k K1 (by omega) hr
   have h2:=hg k (by omega);unfold iG;show(if(a.m.sum (f k).m).ok=true∧(dJ (kZ c K1) (dR (vG c a) (f k))).length≤400 then some (dJ (kZ c K1) (dR (vG c a) (f k)))else none)=_
   by_cases hok:(a.m.sum (f k).m).ok=true
   ·have tw:uN a (f k) (a.m.sum (f k).m):=⟨ha.1,h2.1,hok,rfl,rfl,rfl,rfl,ha.2,h2.2⟩
    rw[(Jq c1 c2 tw).2,Hg c1 c2 hf1 (iB tw).1,gA];by_cases hl:(dJ K1 (dR a (f k))).length≤400
    ·rw[if_pos ⟨hok,hl⟩,if_pos ⟨hok,hl⟩];rfl
    ·rw[if_neg (fun h=>hl h.2),if_neg (fun h=>hl h.2)];rfl
   ·rw[if_neg (fun h=>hok h.1),if_neg (fun h=>hok h.1)];rfl
theorem AQ {c:Int} (c1:1≤c) (c2:c≤100) {f f' f2:Nat→T} {la lb:Nat} (hf:qL f la) (hg:qL f' lb) (he:∀i,i<la→f2 i=vG c (f i)):∀i,i≤la→cT f2 f' lb i=(cT f f' lb i).map (kZ c)
 |0,_=>by show some []=some (kZ c []);rw[show kZ c []=[]from by rw[nF];rfl]
 |i+1,hi=>by
  rw[cT,cT,AQ c1 c2 hf hg he i (by omega)];cases hr:cT f f' lb i with
  |none=>rfl
  |some K1=>
   show gT (kZ c K1) (f2 i) f' lb=(gT K1 (f i) f' lb).map (kZ c);rw[he i (by omega)];exact VJ c1 c2 (dQ hf hg i K1 (by omega) hr) (hf i (by omega)) hg lb (Nat.le_refl _)
end Go.Proofs.YtdidlcjhodejjaaGreat
