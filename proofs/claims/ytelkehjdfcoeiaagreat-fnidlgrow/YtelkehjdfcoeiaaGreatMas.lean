/-
  The product of two operators: the model's loops.
-/
import Derived.Test.YtelkehjdfcoeiaaGreatMar
set_option maxHeartbeats 8000000
set_option maxRecDepth 100000
namespace Go.Proofs.YtelkehjdfcoeiaaGreat
open Go.RowKit
set_option linter.unusedVariables false
theorem ZW (w:World) (a b:Option Addr) (la ca lb cb:Nat) (f g:Nat→T) (ha:Rd w a la ca f) (hb:Rd w b lb cb g) (l1:la≤400) (l2:lb≤400) (gf:pR f la) (gg:pR g lb):Calls Tryz.prog 115 #[.slice a la ca,.slice b lb cb] w fun r w'=>∃v,r= .returned (.tuple #[v,.bool (kW (cM f g lb la)).2])∧Below w.heap.size w w'∧w'.ownsRow w.heap.size 86 5 v (kW (cM f g lb la)).1.length (aE (kW (cM f g lb la)).1):=by
 have HA:=aA ha;have HB:=aA hb
 have HGF:=aA gf;have HGG:=aA gg
 have hO0:=dA w w.heap.size (Nat.le_refl _);have hB0:=aC w (.cells #[] 86)
 clear ha hb gf gg;go_enter Tryz.func115,Tryz.ntmps115;go_wp2;generalize w.alloc (.cells #[] 86)=w0 at *;go_loopw [6,7] (fun v ii wr=>∃(i:Nat) (K:List T),i≤la∧ii= .int .i64 (i:Int)∧cM f g lb i=some K∧aL K∧K.length≤400∧wr.ownsRow w.heap.size 86 5 v K.length (aE K)∧Below w.heap.size w wr) (fun _ ii _=>la-(intOf ii).toNat);case atStart=>exact⟨0,[],Nat.zero_le _,rfl,rfl,eY,Nat.zero_le _,hO0,hB0⟩
 case round=>
  obtain⟨i,K,hi,rfl,hM,hKf,hKl,hown,hbl⟩:=hrel;by_cases hlt:i<la
  ·have hil:(i:Int)<(la:Int):=by omega
   have HM:=aA hM;have HKF:=aA hKf
   have HOWN:=aA hown;have HBL:=aA hbl
   clear hM hKf hown hbl;go_wp2;go_loopw [6,8] (fun v kk wr=>∃(k:Nat) (K':List T),k≤lb∧kk= .int .i64 (k:Int)∧gQ K (f i) g k=some K'∧aL K'∧K'.length≤400∧wr.ownsRow w.heap.size 86 5 v K'.length (aE K')∧Below w.heap.size w wr) (fun _ kk _=>lb-(intOf kk).toNat);case atStart=>exact⟨0,K,Nat.zero_le _,rfl,rfl,HKF.out,hKl,HOWN.out,HBL.out⟩
   case round=>
    obtain⟨k,K',hk,rfl,hM',hKf',hKl',hown',hbl'⟩:=hrel;by_cases hlt2:k<lb
    ·have hkl:(k:Int)<(lb:Int):=by omega
     have hri:=HA.out.below hbl';have hrk:=HB.out.below hbl'
     rcases hri.2.2 with h0|⟨pb,off,hpe,hblt,hcl⟩
     ·omega
     rcases hrk.2.2 with h0|⟨pb2,off2,hpe2,hblt2,hcl2⟩
     ·omega
     obtain⟨g0,g1,g2,g3,g4⟩:=hcl i hlt;obtain⟨j0,j1,j2,j3,j4⟩:=hcl2 k hlt2;have hfi:=HGF.out i hlt
     have hgk:=HGG.out k hlt2;obtain⟨av,cv,hv,hout⟩:=aI hown' (by omega);have HM':=aA hM'
     have HKF':=aA hKf';have HOUT:=aA hout
     have HBL':=aA hbl';clear hM' hKf' hown' hout hcl hcl2 hri hrk hbl';subst hpe hpe2 hv;go_wp2_with fail;have hps:=LO hfi hgk
     have hps2:(tJ (f i) (g k)).length*40≤140737488351232:=by omega
     have hbr:=HBL'.out.size
     go_region_with (go_at_call 158;refine(Mf _ (f i) (g k) hfi hgk).mono ?_;rintro r w5 ⟨v5,rfl,hb5,ho5⟩;obtain⟨a5,c5,rfl,hout5⟩:=aI ho5 hps2;have HB5:=aA ((bG wr.heap.size wr).drew.trans hb5);have HOUT5:=aA hout5;clear hb5 ho5 hout5)
     all_goals
      have hB5:Below w.heap.size w w5:=HBL'.out.trans (HB5.out.mono HBL'.out.size);by_cases hok:((f i).m.sum (g k).m).ok=true
      ·have hTwo:tM (f i) (g k) ((f i).m.sum (g k).m):=⟨hfi.1,hgk.1,hok,rfl,rfl,rfl,rfl,hfi.2,hgk.2⟩
       have epo:tJ (f i) (g k)=dL (f i) (g k):=if_pos hok;have hfp:=(gY hTwo).1
       have hfa:=(cW HKF'.out hfp).1;have hR5:Rd w5 av K'.length cv (lf K'):=HOUT.out.1.below (HB5.out)
       have hX5:=HOUT5.out.1;rw[epo]at hX5 hps;rw[epo,hok];have hadd:=rK w5 av a5 K'.length cv (dL (f i) (g k)).length c5 (lf K') (lf (dL (f i) (g k))) hR5 hX5 (by omega) ((xE HKF'.out).at) ((xE hfp).at)
       have eA:iJ (lf K') K'.length (lf (dL (f i) (g k))) (dL (f i) (g k)).length 0 0=dG K' (dL (f i) (g k)):=rfl;rw[eA]at hadd;have hal:(dG K' (dL (f i) (g k))).length≤K'.length+(dL (f i) (g k)).length:=by have:=AC (lf K') K'.length (lf (dL (f i) (g k))) (dL (f i) (g k)).length 0 0;simp only[Nat.sub_zero]at this;exact this
       by_cases h4:(dG K' (dL (f i) (g k))).length≤400
       ·have hstep:gQ K (f i) g (k+1)=some (dG K' (dL (f i) (g k))):=by rw[gQ,HM'.out];show iC _ _ _=_;unfold iC;rw[if_pos ⟨hok,h4⟩]
        have HST:=aA hstep;have h4':((dG K' (dL (f i) (g k))).length:Int)≤400:=by omega
        clear hstep;generalize hL:dG K' (dL (f i) (g k))=L at *;go_wp2_with (go_at_call 118;refine hadd.mono ?_;rintro r w6 ⟨v6,rfl,hb6,ho6⟩;obtain⟨a6,c6,rfl,hout6⟩:=aI ho6 (by omega);have HB6:=aA hb6;have HO6:=aA ho6;clear hb6 ho6 hout6);go_roundw;case rel=>exact⟨k+1,L,by omega,by go_num,HST.out,hfa,h4,iY HO6.out hB5.size,hB5.trans (HB6.out.mono hB5.size)⟩
        case measure=>simp[intOf];omega
       ·have hstep:gQ K (f i) g (k+1)=none:=by rw[gQ,HM'.out];show iC _ _ _=_;unfold iC;rw[if_neg (fun h=>h4 h.2)]
        have hno:cM f g lb la=none:=sL (i:=i+1) (by rw[cM,HM.out];exact sQ hstep lb (by omega)) la (by omega);have h4':(400:Int)<((dG K' (dL (f i) (g k))).length:Int):=by omega
        clear hstep;generalize hL:dG K' (dL (f i) (g k))=L at *;go_wp2_with (go_at_call 118;refine hadd.mono ?_;rintro r w6 ⟨v6,rfl,hb6,ho6⟩;obtain⟨a6,c6,rfl,hout6⟩:=aI ho6 (by omega);have HB6:=aA hb6;clear hb6 ho6 hout6);refine cD (results_tmp2 rfl _ _ _) rfl ?_;rw[hno];have hB6:Below w.heap.size w w6:=hB5.trans (HB6.out.mono hB5.size)
        exact⟨_,rfl,hB6.alloc hB6.size _,dA w6 w.heap.size hB6.size⟩
      ·have hstep:gQ K (f i) g (k+1)=none:=by rw[gQ,HM'.out];show iC _ _ _=_;unfold iC;rw[if_neg (fun h=>hok h.1)]
       have hno:cM f g lb la=none:=sL (i:=i+1) (by rw[cM,HM.out];exact sQ hstep lb (by omega)) la (by omega);have hok':((f i).m.sum (g k).m).ok=false:=by simpa using hok
       rw[hok'];clear hstep;go_wp2;refine cD (results_tmp2 rfl _ _ _) rfl ?_;rw[hno];exact⟨_,rfl,hB5.alloc hB5.size _,dA w5 w.heap.size hB5.size⟩
    ·obtain rfl:k=lb:=by omega
     have HMk:Hid (cM f g k (i+1)=some K'):=by show _=_;rw[cM,HM.out];exact hM'
     go_wp2;go_roundw;case rel=>exact⟨i+1,K',by omega,by go_num,HMk.out,hKf',hKl',hown',hbl'⟩
     case measure=>simp[intOf];omega
  ·obtain rfl:i=la:=by omega
   go_wp2;refine cD (results_tmp2 rfl _ _ _) rfl ?_;rw[hM];exact⟨_,rfl,hbl,hown⟩
inductive SK where
 |sl (m:Nat)|rd|pk (m:Nat)|ix|ld|ag|no
def KP (B N:Nat) (w:World) (v:Value):SK→Prop
 | .sl m=>Sl w N m v
 | .rd=>v= .pointer (some ⟨B,0,none⟩)
 | .pk m=>Pk m v
 | .ix=>Ix w N v
 | .ld=>Ld v
 | .ag=>Ag v
 | .no=>True
theorem KP.move {B N:Nat} {w w':World} {v:Value} {k:SK} (h:KP B N w v k) (hb:aF B w w') (hB:B<N):KP B N w' v k:=by
 cases k with
 |sl m=>exact Sl.move h hb hB
 |ix=>exact Ix.move h hb hB
 |_=>exact h
theorem KP.set {B N g o:Nat} {w:World} {v x:Value} {k:SK} (h:KP B N w v k) (hg:g<N):KP B N (w.setCell ⟨g,o,none⟩ x) v k:=by
 cases k with
 |sl m=>
  obtain⟨b,rfl,hN,hc⟩:=h;exact⟨b,rfl,hN,fun i hi=>by obtain⟨y,hy⟩:=hc i hi;exact⟨y,(eR (by omega)).trans hy⟩⟩
 |ix=>
  obtain⟨b,i,y,rfl,hN,hc⟩:=h;exact⟨b,i,y,rfl,hN,(eR (by omega)).trans hc⟩
 |_=>exact h
theorem JC.set {w:World} {g o:Nat} {v:Int} (h:JC w g) (ho:o=0∨o=1∨o=2∨o=3):JC (w.setCell ⟨g,o,none⟩ (.int .i64 v)) g:=by
 obtain⟨⟨x0,x1,x2,x3,c0,c1,c2,c3⟩,f0,f1,f2,f3⟩:=h;refine⟨?_,by rw[World.frozen?_setCell];exact f0,by rw[World.frozen?_setCell];exact f1,by rw[World.frozen?_setCell];exact f2,by rw[World.frozen?_setCell];exact f3⟩;rcases ho with rfl|rfl|rfl|rfl
 ·exact⟨v,x1,x2,x3,by go_simp,by go_simp,by go_simp,by go_simp⟩
 ·exact⟨x0,v,x2,x3,by go_simp,by go_simp,by go_simp,by go_simp⟩
 ·exact⟨x0,x1,v,x3,by go_simp,by go_simp,by go_simp,by go_simp⟩
 ·exact⟨x0,x1,x2,v,by go_simp,by go_simp,by go_simp,by go_simp⟩
def lP (ops:Array Oper) (l:Array Bool):Prop:=∀i o,ops[i]? =some o→l.getD i false=true→∀e∈o.after,Region.binds .any e=true→l.getD e.on false=true
theorem lP.start (ops:Array Oper) (n:Nat):lP ops (Array.replicate n false):=fun i o _ h=>by rw[lK]at h;cases h
theorem lP.step {ops:Array Oper} {l:Array Bool} {i:Nat} (h:lP ops l) (hi:i∈Region.ready .any ops l) (hl:l.size=ops.size):lP ops (l.setIfInBounds i true):=by
 intro j o ho hj e he hb;obtain⟨_,o',ho',ha⟩:=mem_ready.1 hi;have hil:i<l.size:=by rw[hl];exact(Array.getElem?_eq_some_iff.1 ho').1
 have hd:l.getD e.on false=true:=by
  by_cases hji:j=i
  ·subst hji;rw[ho]at ho';obtain rfl:=Option.some.inj ho';exact ha e he hb
  ·rw[getD_set_ne false (fun e=>hji e.symm)]at hj;exact h j o ho hj e he hb
 by_cases hei:e.on=i
 ·rw[hei,lG false hil]
 ·rw[getD_set_ne false (fun e=>hei e.symm)];exact hd
theorem lP.dep {ops:Array Oper} {l:Array Bool} {i:Nat} {o:Oper} (h:lP ops l) (ho:ops[i]? =some o) (hd:l.getD i false=true) (k:Nat) (hk:o.after.any (fun e=>Region.binds .any e&&e.on==k)=true):l.getD k false=true:=by rw[Array.any_eq_true']at hk;obtain⟨e,he,hh⟩:=hk;simp only[Bool.and_eq_true,beq_iff_eq]at hh;rw[←hh.2];exact h i o ho hd e he hh.1
theorem cV {l:Array Bool} {i:Nat} (h:l.getD i true=false):l.getD i false=true→False:=fun k=>by
 rw[Array.getD_eq_getD_getElem?]at h k;cases hx:l[i]? with
 |none=>rw[hx]at h;simp at h
 |some b=>rw[hx]at h k;simp at h k;rw[h]at k;cases k
theorem JL {ops:Array Oper} {l:Array Bool} (h:(List.range ops.size).all (fun i=>match ops[i]? with|some o=>o.after.all (fun e=> !Region.binds .any e||decide (e.on<i))|none=>true)=true) (hr:Region.ready .any ops l=[]) (hl:l.size=ops.size):∀i,i<ops.size→l.getD i false=true:=by
 intro i;induction i using Nat.strongRecOn with
 |_ i ih=>
  intro hi;cases hx:l.getD i false
  ·exfalso;rw[List.eq_nil_iff_forall_not_mem]at hr;refine hr i (mem_ready.2 ⟨?_,ops[i],Array.getElem?_eq_getElem hi,fun e he hb=>?_⟩)
   ·rw[Array.getD_eq_getD_getElem?]at hx⊢;rw[Array.getElem?_eq_getElem (by omega)]at hx⊢;simpa using hx
   ·rw[List.all_eq_true]at h;have h1:=h i (List.mem_range.2 hi)
    rw[Array.getElem?_eq_getElem hi]at h1;simp only[Array.all_eq_true']at h1;have h2:=h1 e he
    rw[hb]at h2;simp at h2;exact ih e.on h2 (by omega)
  ·rfl
theorem uS {B:Nat} {w w':World} (h:aF B w w'):w.grownBy w' (some B):=⟨h.os,h.tape,h.output,h.size,fun k hk hn=>h.block k hk (fun e=>hn (by rw[e]))⟩
theorem fR {B:Nat} {w w':World} (h:Below w.heap.size w w'):aF B w w':=⟨h.os,h.tape,h.output,h.size,fun k hk _=>h.block k hk⟩
theorem kO.beside {w w':World} {B p:Nat} (h:kO w B p) (hb:aF w.heap.size w w'):kO w' B p:=by
 have hlt:=h.lt;obtain⟨hc1,hf,a,len,cap,hc0,hl,h0⟩:=h;have he:=hb.block B hlt (by omega)
 refine⟨(lM (w:=w) (a:=⟨B,1,none⟩) he).trans hc1,(World.frozen?_of_block (w:=w) (a:=⟨B,1,none⟩) he).trans hf,a,len,cap,(lM (w:=w) (a:=⟨B,0,none⟩) he).trans hc0,hl,?_⟩;rcases h0 with h0|⟨bb,off,z,rfl,hbb,hz,z0,z1⟩
 ·exact .inl h0
 ·exact .inr ⟨bb,off,z,rfl,hbb,fun i hi=>(lM (w:=w) (a:=⟨bb,off+i,none⟩) (hb.block bb (by omega) (by omega))).trans (hz i hi),z0,z1⟩
theorem bO {w w':World} {B base:Nat} {e:TypeId} {size:Nat} {v:Value} {n:Nat} {xs:List Value} (h:w.ownsRow base e size v n xs) (hb:aF B w w') (hB:B<base):w'.ownsRow base e size v n xs:=by
 refine h.kept (uS hb) ?_;cases hv:v.ownBlock with
 |none=>exact .inl rfl
 |some k=>
  refine .inr (fun he=>?_);have:=(h.lt k hv).1
  cases he;omega
theorem Gp (w:World) (B p:Nat) (n:Int) (h:kO w B p) (hn0:0≤n) (hn:n≤50) (hp:p≤10000):Calls Tryz.prog 103 #[.pointer (some ⟨B,0,none⟩),.int .i64 n] w fun r w'=>∃(v:Value) (L:List T) (q:Nat),r= .returned v∧w'.ownsRow w.heap.size 86 5 v L.length (aE L)∧(L.length:Int)≤n∧XA L∧(q:Int)≤p+1+31*n∧kO w' B q∧aF B w w':=by
 have hB:=h.lt;have HO0:=aA (dA w w.heap.size (Nat.le_refl _))
 have HR0:=aA (h.alloc (.cells #[] 86));have HB0:=aA ((aF.refl B w).alloc (.cells #[] 86))
 clear h;go_enter Tryz.func103,Tryz.ntmps103;go_wp2_with fail;generalize(w.alloc (.cells #[] 86))=W at HO0 HR0 HB0⊢;refine(bR _ B p (n+1) HR0.out (by omega) (by omega) (by omega)).mono ?_;rintro e w1 ⟨k,rfl,k0,k1,hk⟩;have HR1:=aA (hk.rdr HR0.out)
 have HB1:=aA (HB0.out.trans hk.beside);have HO1:=aA (bO HO0.out hk.beside hB)
 clear hk HO0 HR0 HB0;go_wp2;go_loopw [5,6] (fun v i wr=>∃(j:Nat) (L:List T) (q:Nat),i= .int .i64 j∧wr.ownsRow w.heap.size 86 5 v L.length (aE L)∧(L.length:Int)+j≤n∧Hid (XA L)∧(q:Int)+31*j≤p+1+31*n∧kO wr B q∧aF B w wr) (fun _ i _=>(intOf i).toNat);case atStart=>exact⟨k.toNat,[],p+1,by rw[Int.toNat_of_nonneg k0],HO1.out,by simp;omega,FY,by omega,HR1.out,HB1.out⟩
 case round=>
  obtain⟨j,L,q,rfl,ho,hl,hc,hq,hR,hb⟩:=hrel;by_cases hj:0<j
  ·obtain⟨m,rfl⟩:∃m,j=m+1:=⟨j-1,by omega⟩
   have HO:=aA ho;have HR:=aA hR
   have HB:=aA hb;have hjb:(0:Int)<((m+1:Nat):Int):=by omega
   clear ho hR hb;go_wp2_with fail;refine(bR wr B q 100 HR.out (by omega) (by omega) (by omega)).mono ?_;rintro e w2 ⟨c,rfl,c0,c1,hk⟩;have HR2:=aA (hk.rdr HR.out)
   have HB2:=aA (HB.out.trans hk.beside);have HO2:=aA (bO HO.out hk.beside hB)
   clear hk HR HB HO;go_wp2_with fail;refine(zK w2 B _ 99999 HR2.out (by omega) (by omega) (by omega)).mono ?_;rintro e w3 ⟨x,y,d,z,q3,rfl,hq3,r3,s3⟩;have HR3:=aA r3
   have HB3:=aA (HB2.out.trans s3);have HO3:=aA (bO HO2.out s3 hB)
   clear r3 s3 HR2 HB2 HO2;go_wp2_with fail;refine(GF _ w.heap.size _ L (1+c) x y d z HO3.out HB3.out.size (by omega) hc.out (by omega) (by omega)).mono ?_;rintro e w4 ⟨v4,rfl,hb4,ho4⟩;have HR4:=aA (HR3.out.beside (fR hb4))
   have HB4:=aA (HB3.out.trans (fR hb4));have HO4:=aA ho4
   have HC4:=aA (PM (c:=1+c) (m:=⟨x,y,d,z⟩) hc.out (by omega) (by omega));have hl4:=wC (1+c) ⟨x,y,d,z⟩ L
   clear hb4 ho4 HR3 HB3 HO3;go_wp2;go_roundw;case rel=>exact⟨m,lJ (1+c) ⟨x,y,d,z⟩ L,q3,by first|go_num|(congr 1;omega),HO4.out,by omega,HC4.out,by omega,HR4.out,HB4.out⟩
   case measure=>simp[intOf]
  ·obtain rfl:j=0:=by omega
   have HR:=aA hR;obtain⟨hc1,hf,a,len,cap,hc0,hl0,h0⟩:=hR;clear hc1 hf h0;have hlen:(len:Int)≤2000:=by omega
   by_cases hz:len=0
   ·subst hz;have HO:=aA (dA wr w.heap.size hb.size)
    have HB:=aA (hb.alloc (.cells #[] 86));have HR2:=aA (HR.out.alloc (.cells #[] 86))
    clear ho hb;go_wp2;go_ret;exact⟨_,[],q,rfl,HO.out,by simpa using hn0,FY,by omega,HR2.out,HB.out⟩
   ·have hzb:((len:Int)==0)=false:=by simp;omega
    have HO:=aA ho;clear ho;go_wp2;go_ret;exact⟨_,L,q,rfl,HO.out,by omega,hc.out,by omega,HR.out,hb⟩
inductive sC where
 |old (k:SK)|is (v:Value)|a5|s1|own
def A5 (v:Value):Prop:=∃c x y d e,v= .agg #[.int .i64 c,.int .i64 x,.int .i64 y,.int .i64 d,.int .i64 e]
def S1 (w:World) (N:Nat) (v:Value):Prop:=∃b c x y d e,v= .slice (some ⟨b,0,none⟩) 1 1∧N≤b∧b<w.heap.size∧w.heap[b]? =some (.cells #[.int .i64 c,.int .i64 x,.int .i64 y,.int .i64 d,.int .i64 e] 86)
def TI (B N:Nat) (Y:World→Value→Prop) (w:World) (v:Value):sC→Prop
 | .old k=>KP B N w v k
 | .is u=>v=u
 | .a5=>A5 v
 | .s1=>S1 w N v
 | .own=>Y w v
theorem TI.move {B N:Nat} {Y:World→Value→Prop} {w w':World} {v:Value} {k:sC} (h:TI B N Y w v k) (hb:aF B w w') (hB:B<N) (hY:∀v,Y w v→Y w' v):TI B N Y w' v k:=by
 cases k with
 |old k=>exact KP.move h hb hB
 |s1=>
  obtain⟨b,c,x,y,d,e,hv,hN,hl,hc⟩:=h;exact⟨b,c,x,y,d,e,hv,hN,lB hl hb.size,(hb.block b hl (by omega)).trans hc⟩
 |own=>exact hY _ h
 |_=>exact h
theorem Cf (u:World) (N:Nat) (c x y d e:Int) (hN:N≤u.heap.size):S1 (u.alloc (.cells #[.int .i64 c,.int .i64 x,.int .i64 y,.int .i64 d,.int .i64 e] 86)) N (.slice (some ⟨u.heap.size,0,none⟩) 1 1):=
 ⟨u.heap.size,c,x,y,d,e,rfl,hN,by simp,heap_alloc_new u _⟩
def pS (ops:Array Oper) (F:(Nat→Value)→Act) (T:Nat→sC) (n A B p N:Nat) (X:World→Prop) (Y:World→Value→Prop) (w0:World) (l:Array Bool) (a:Act) (u:World):Prop:=
 ∃(q:Nat) (vs:Nat→Value),a=F vs∧kO u B q∧q+30*iH l≤p+30*n∧aF B w0 u∧N≤u.heap.size∧(l.getD A false=false→X u)∧l.size=n∧lP ops l∧∀k,l.getD k false=true→(k<A→l.getD A false=false)→TI B N Y u (vs k) (T k)
theorem pS.start {ops:Array Oper} {F:(Nat→Value)→Act} {T:Nat→sC} {n A B p N:Nat} {X:World→Prop} {Y:World→Value→Prop} {w0 u:World} {a:Act} (vs:Nat→Value) (ha:a=F vs) (hR:kO u B p) (hb:aF B w0 u) (hN:N≤u.heap.size) (hX:X u.drew):pS ops F T n A B p N X Y w0 (Array.replicate n false) a u.drew:=
 ⟨p,vs,ha,hR,by rw[fE];exact Nat.le_refl _,hb.drew,hN,fun _=>hX,by simp,lP.start _ _,fun k h=>by rw[lK]at h;cases h⟩
theorem pS.step {ops:Array Oper} {F:(Nat→Value)→Act} {T:Nat→sC} {n A B p N:Nat} {X:World→Prop} {Y:World→Value→Prop} {w0 u u':World} {l:Array Bool} {q q':Nat} {vs:Nat→Value} (i:Nat) (v:Value) {a:Act} (hBN:B<N) (hi:i∈Region.ready .any ops l) (hno:ops.size=n) (hA:l.getD A false=false) (hiA:i<A) (hq:q+30*iH l≤p+30*n) (hR:kO u' B q') (hqq:q'≤q+30) (hb:aF B w0 u) (hN:N≤u.heap.size) (hX:l.getD A false=false→X u) (hXm:∀u u',X u→aF B u u'→X u') (hl:l.size=n) (hcl:lP ops l) (hf:∀k,l.getD k false=true→(k<A→l.getD A false=false)→TI B N Y u (vs k) (T k)) (hYm:∀u u' v,Y u v→aF B u u'→Y u' v) (hm:aF B u u') (hv:TI B N Y u' v (T i)) (ha:a=F (fun k=>if k=i then v else vs k)):pS ops F T n A B p N X Y w0 (l.setIfInBounds i true) a u':=by
 have hund:=iI (bL (mem_ready.1 hi).1);refine⟨q',fun k=>if k=i then v else vs k,ha,hR,by omega,hb.trans hm,jQ hN hm.size,fun _=>hXm u u' (hX hA) hm,by simp[hl],hcl.step hi (by omega),fun k hk _=>?_⟩;by_cases hki:k=i
 ·have hv2:TI B N Y u' v (T k):=by rw[hki];exact hv
  exact Eq.mpr (congrArg (fun z=>TI B N Y u' z (T k)) (if_pos hki)) hv2
 ·rw[getD_set_ne false (fun e=>hki e.symm)]at hk;exact Eq.mpr (congrArg (fun z=>TI B N Y u' z (T k)) (if_neg hki)) ((hf k hk (fun _=>hA)).move hm hBN (fun v h=>hYm u u' v h hm))
theorem pS.last {ops:Array Oper} {F:(Nat→Value)→Act} {T:Nat→sC} {n A B p N:Nat} {X:World→Prop} {Y:World→Value→Prop} {w0 u':World} {l:Array Bool} {q:Nat} {vs:Nat→Value} (v:Value) {a:Act} (hi:A∈Region.ready .any ops l) (hno:ops.size=n) (hAn:A<n) (hgt:∀k,A<k→l.getD k false=false) (hq:q+30*iH l≤p+30*n) (hR:kO u' B q) (hb:aF B w0 u') (hN:N≤u'.heap.size) (hl:l.size=n) (hcl:lP ops l) (hT:T A= .own) (hv:Y u' v) (ha:a=F (fun k=>if k=A then v else vs k)):pS ops F T n A B p N X Y w0 (l.setIfInBounds A true) a u':=by
 have hund:=iI (bL (mem_ready.1 hi).1);refine⟨q,fun k=>if k=A then v else vs k,ha,hR,by omega,hb,hN,fun h=>?_,by simp[hl],hcl.step hi (by omega),fun k hk hkA=>?_⟩
 ·rw[lG false (by omega)]at h;cases h
 ·by_cases hki:k=A
  ·subst hki;refine Eq.mpr (congrArg (fun z=>TI B N Y u' z (T k)) (if_pos rfl)) ?_;rw[hT];exact hv
  ·rw[getD_set_ne false (fun e=>hki e.symm)]at hk;by_cases hlt:k<A
   ·have:=hkA hlt;rw[lG false (by omega)]at this;cases this
   ·rw[hgt k (by omega)]at hk;cases hk
theorem QA {ops:Array Oper} {F:(Nat→Value)→Act} {T:Nat→sC} {n A B p N:Nat} {X:World→Prop} {Y:World→Value→Prop} {w0 u:World} {l:Array Bool} {q:Nat} {vs:Nat→Value} (i:Nat) (v:Value) {a:Act} (hi:i∈Region.ready .any ops l) (hno:ops.size=n) (hA:l.getD A false=true) (hiA:A<i) (hq:q+30*iH l≤p+30*n) (hR:kO u B q) (hb:aF B w0 u) (hN:N≤u.heap.size) (hl:l.size=n) (hcl:lP ops l) (hf:∀k,l.getD k false=true→(k<A→l.getD A false=false)→TI B N Y u (vs k) (T k)) (hT:T i= .own) (hv:Y u v) (ha:a=F (fun k=>if k=i then v else vs k)):pS ops F T n A B p N X Y w0 (l.setIfInBounds i true) a u:=by
 have hund:=iI (bL (mem_ready.1 hi).1);refine⟨q,fun k=>if k=i then v else vs k,ha,hR,by omega,hb,hN,fun h=>?_,by simp[hl],hcl.step hi (by omega),fun k hk hkA=>?_⟩
 ·rw[getD_set_ne false (by omega),hA]at h;cases h
 ·by_cases hki:k=i
  ·subst hki;refine Eq.mpr (congrArg (fun z=>TI B N Y u z (T k)) (if_pos rfl)) ?_;rw[hT];exact hv
  ·rw[getD_set_ne false (fun e=>hki e.symm)]at hk;refine Eq.mpr (congrArg (fun z=>TI B N Y u z (T k)) (if_neg hki)) (hf k hk (fun h=>?_));have:=hkA h
   rw[getD_set_ne false (by omega),hA]at this;cases this
theorem kO.grown {w w':World} {B p:Nat} {row:Option Nat} (h:kO w B p) (hg:w.grownBy w' row) (hr:∀k,row=some k→B<k):kO w' B p:=by
 have hlt:=h.lt;obtain⟨hc1,hf,a,len,cap,hc0,hl,h0⟩:=h;have hb:∀k,k≤B→w'.heap[k]? =w.heap[k]? :=fun k hk=>hg.block k (by omega) (fun e=>by have:=hr k e.symm;omega)
 refine⟨(lM (w:=w) (a:=⟨B,1,none⟩) (hb B (Nat.le_refl _))).trans hc1,(World.frozen?_of_block (w:=w) (a:=⟨B,1,none⟩) (hb B (Nat.le_refl _))).trans hf,a,len,cap,(lM (w:=w) (a:=⟨B,0,none⟩) (hb B (Nat.le_refl _))).trans hc0,hl,?_⟩;rcases h0 with h0|⟨bb,off,z,rfl,hbb,hz,z0,z1⟩
 ·exact .inl h0
 ·exact .inr ⟨bb,off,z,rfl,hbb,fun i hi=>(lM (w:=w) (a:=⟨bb,off+i,none⟩) (hb bb (by omega))).trans (hz i hi),z0,z1⟩
theorem aF.grown {B:Nat} {a w w':World} {row:Option Nat} (h:aF B a w) (hg:w.grownBy w' row) (hr:∀k,row=some k→a.heap.size≤k):aF B a w':=
 ⟨hg.os.trans h.os,hg.tape.trans h.tape,hg.output.trans h.output,jQ h.size hg.size,fun k hk hn=>(hg.block k (lB hk h.size) (fun e=>by have:=hr k e.symm;omega)).trans (h.block k hk hn)⟩
theorem tK {P:Program} {id:Nat} {ops:Array Oper} {Q:Exit→Act→World→Prop} (F:(Nat→Value)→Act) (T:Nat→sC) (n A B p N:Nat) (X:World→Prop) (Y:World→Value→Prop) (w0:World) {a:Act} {w:World} (hm:P.follows .mixedOrders=true)
 (h0:pS ops F T n A B p N X Y w0 (Array.replicate ops.size false) a w.drew)
 (hs:∀l a w,pS ops F T n A B p N X Y w0 l a w→∀i∈Region.ready .any ops l,wpOp P ops Q i (pS ops F T n A B p N X Y w0 (l.setIfInBounds i true)) a w)
 (he:∀l a w,pS ops F T n A B p N X Y w0 l a w→Region.ready .any ops l=[]→Q .normal a w):(Code.region id ops true).wp P Q a w:=oV (I:=pS ops F T n A B p N X Y w0) hm h0 hs he
end Go.Proofs.YtelkehjdfcoeiaaGreat
