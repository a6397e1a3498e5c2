/-
  Products of operators: their lists and numbers.
  The product of two operators: the program.
  The product of two operators: the model.
-/
import Derived.Test.YtncffcaabnjioaaGreatMan
set_option maxHeartbeats 8000000
set_option maxRecDepth 100000
namespace Go.Proofs.YtncffcaabnjioaaGreat
open Go.RowKit
set_option linter.unusedVariables false
def lM (a b:T) (i k:Nat):T:=⟨a.c*b.c%101*wy a.m.d b.m.x i%101*wy a.m.e b.m.y k%101,⟨a.m.x+b.m.x-i,a.m.y+b.m.y-k,a.m.d+b.m.d-i,a.m.e+b.m.e-k⟩⟩
def lW (a b:T) (i k:Nat):List T:=(List.range k).map (lM a b i)
def eR (a b:T) (i:Nat):List T:=(List.range i).flatMap fun i=>lW a b i (gO a b+1)
theorem vZ (a b:T) (i:Nat):eR a b (i+1)=eR a b i++lW a b i (gO a b+1):=by simp[eR,List.range_succ]
theorem MM (a b:T) (i k:Nat):lW a b i (k+1)=lW a b i k++[lM a b i k]:=by simp[lW,List.range_succ]
theorem zI {lim:Nat} {s t:Int} {k:Nat} (h:k≤lim):(sO lim s t k).1.1=(k:Int):=if_pos h
theorem IA {a b:T} {g:M} (h:pY a b g):(mG h (NQ a b)).map (·.1)=eR a b (fR a b+1):=by
 have key:∀i,i≤fR a b→((SY a b).map (nW h (sO (fR a b) a.m.d b.m.x i))).map (·.1)=lW a b i (gO a b+1):=fun i hi=>by
  unfold SY mM lW;rw[List.map_map,List.map_map];refine List.map_congr_left (fun k hk=>?_);rw[List.mem_range]at hk;show xO a b g (sO (fR a b) a.m.d b.m.x i) (sO (gO a b) a.m.e b.m.y k)=lM a b i k
  unfold xO lM;rw[zI hi,zI (show k≤gO a b by omega),h.gx,h.gy,h.gd,h.ge];rfl
 have:∀n,n≤fR a b+1→(mG h (mM (fR a b) a.m.d b.m.x n)).map (·.1)=eR a b n:=fun n=>by
  induction n with
  |zero=>intro _;rfl
  |succ n ih=>
   intro hn;rw[←xS,yJ,List.map_append,ih (by omega),key n (by omega),vZ]
 exact this _ (Nat.le_refl _)
theorem KC (c:M→Int) (xs:List TO):lR c xs=jX c (xs.map (·.1)):=by unfold lR jX;rw[List.foldl_map]
theorem oO {a b:T} {g:M} (h:pY a b g):YW (eR a b (fR a b+1)):=by rw[←IA h];intro t ht;obtain⟨x,_,rfl⟩:=List.mem_map.1 ht;exact x.2
def cM (a b:T):List T:=eX (eR a b (fR a b+1)) []
theorem fG {a b:T} {g:M} (h:pY a b g):aK (cM a b)∧aL (cM a b)=jX (fun _=>0) (eR a b (fR a b+1)):=nM _ [] (oO h) eT
theorem KD {a b:T} {g:M} (h:pY a b g) {K:List T} (hK:aK K) {c:M→Int} (hc:∀m,0≤c m∧c m≤100) (hKc:∀m,m.ok=true→aL K m=c m):aK (cF K (cM a b))∧∀m,m.ok=true→aL (cF K (cM a b)) m=lR c (mG h (NQ a b)) m:=by
 have h1:=fG h;have h2:=cV hK h1.1
 refine⟨h2.1,fun m hm=>?_⟩;rw[h2.2,h1.2,hKc m hm,KC,IA h,oJ _ c m (oO h) hc]
def fI (K:List T) (a b:T):Option (List T):=if(a.m.sum b.m).ok=true∧(cF K (cM a b)).length≤400 then some (cF K (cM a b))else none
def eY (K:List T) (a:T) (g:Nat→T):Nat→Option (List T)
 |0=>some K
 |k+1=>(eY K a g k).bind fun K'=>fI K' a (g k)
def bY (f:Nat→T) (g:Nat→T) (lb:Nat):Nat→Option (List T)
 |0=>some []
 |i+1=>(bY f g lb i).bind fun K=>eY K (f i) g lb
theorem pT {K:List T} {a:T} {g:Nat→T} {k:Nat} (h:eY K a g k=none):∀j,k≤j→eY K a g j=none:=fun j hj=>by
 induction j with
 |zero=>
  have e:k=0:=by omega
  rw[e]at h;exact h
 |succ j ih=>
  by_cases e:k=j+1
  ·rw[←e];exact h
  ·rw[eY,ih (by omega)];rfl
theorem pL {f g:Nat→T} {lb i:Nat} (h:bY f g lb i=none):∀j,i≤j→bY f g lb j=none:=fun j hj=>by
 induction j with
 |zero=>
  have e:i=0:=by omega
  rw[e]at h;exact h
 |succ j ih=>
  by_cases e:i=j+1
  ·rw[←e];exact h
  ·rw[bY,ih (by omega)];rfl
def bJ (f:Nat→T) (la:Nat) (g:Nat→T) (lb:Nat):List T×Bool:=if aN la f=true∧aN lb g=true then iR (bY f g lb la)else([],false)
theorem QV {K:List T} {a:T} {g:Nat→T} (hK:K.length≤400):∀k K',eY K a g k=some K'→K'.length≤400
 |0,K',h=>by cases h;exact hK
 |k+1,K',h=>by
  rw[eY]at h;cases hr:eY K a g k with
  |none=>rw[hr]at h;cases h
  |some K1=>
   rw[hr]at h;change fI K1 a (g k)=some K' at h;unfold fI at h;split at h
   ·rename_i hh;cases h;exact hh.2
   ·cases h
theorem fT {f g:Nat→T} {lb:Nat}:∀i K,bY f g lb i=some K→K.length≤400
 |0,K,h=>by cases h;exact gL _
 |i+1,K,h=>by
  rw[bY]at h;cases hr:bY f g lb i with
  |none=>rw[hr]at h;cases h
  |some K1=>
   rw[hr]at h;exact QV (fT i K1 hr) lb K h
theorem qY (f:Nat→T) (la:Nat) (g:Nat→T) (lb:Nat):(bJ f la g lb).1.length≤400:=by
 unfold bJ;split
 ·cases h:bY f g lb la with
  |none=>simp[iR]
  |some K=>exact fT la K h
 ·simp
open Go.RowKit Go.Maps
theorem VV (w:World) (a b:Option Addr) (la ca lb cb:Nat) (f g:Nat→T) (ha:Rd w a la ca f) (hb:Rd w b lb cb g):Calls Tryz.prog 16 #[.slice a la ca,.slice b lb cb] w fun r w'=>∃v,r= .returned (.tuple #[v,.bool (bJ f la g lb).2])∧Below w.heap.size w w'∧w'.ownsRow w.heap.size 47 5 v (bJ f la g lb).1.length (aF (bJ f la g lb).1):=by
 have HA:=aA ha;have HB:=aA hb
 have hla:(la:Int)≤140737488351232:=by have:=ha.2.1;omega
 have hlb:(lb:Int)≤140737488351232:=by have:=hb.2.1;omega
 clear ha hb;cases hpa:aN la f
 ·have e1:bJ f la g lb=([],false):=by simp[bJ,hpa]
  rw[e1];go_enter Tryz.func16,Tryz.ntmps16;go_wp2_with (go_at_call 52;refine(eD _ _ _ _ f HA.out).mono ?_;rw[hpa];rintro r w1 ⟨rfl,hb1⟩;have HB1:=aA hb1;clear hb1);refine cB (results_tmp2 rfl _ _ _) rfl ?_;exact⟨_,rfl,HB1.out,jC w1 _⟩
 ·cases hpb:aN lb g
  ·have e1:bJ f la g lb=([],false):=by simp[bJ,hpb]
   rw[e1];go_enter Tryz.func16,Tryz.ntmps16
   go_wp2_with (first
    |(go_at_call_of 52 (Value.slice a la ca);refine(eD _ _ _ _ f HA.out).mono ?_;rw[hpa];rintro r w1 ⟨rfl,hb1⟩;have HB1:=aA hb1;clear hb1)
    |(go_at_call_of 52 (Value.slice b lb cb);refine(eD _ _ _ _ g (HB.out.below HB1.out)).mono ?_;rw[hpb];rintro r w2 ⟨rfl,hb2⟩;have HB2:=aA hb2;clear hb2))
   refine cB (results_tmp2 rfl _ _ _) rfl ?_;exact⟨_,rfl,aB HB1.out HB2.out,jC w2 _⟩
  ·have e2:bJ f la g lb=iR (bY f g lb la):=by simp[bJ,hpa,hpb]
   rw[e2];clear e2;have l1:la≤400:=by have h:=hpa;simp only[aN,decide_eq_true_eq]at h;exact h.1
   have l2:lb≤400:=by have h:=hpb;simp only[aN,decide_eq_true_eq]at h;exact h.1
   have HPA:=aA hpa;have HPB:=aA hpb
   have hmm:=@run_makeMap Tryz.prog;go_enter Tryz.func16,Tryz.ntmps16
   go_wp2_with (first
    |(go_at_call_of 52 (Value.slice a la ca);refine(eD _ _ _ _ f HA.out).mono ?_;rw[hpa];rintro r w1 ⟨rfl,hb1⟩;have HB1:=aA hb1;clear hb1)
    |(go_at_call_of 52 (Value.slice b lb cb);refine(eD _ _ _ _ g (HB.out.below HB1.out)).mono ?_;rw[hpb];rintro r w2 ⟨rfl,hb2⟩;have HB2:=aA (aB HB1.out hb2);clear hb2))
   clear hpa hpb;have HRA:=aA (HA.out.below HB2.out)
   have HRB:=aA (HB.out.below HB2.out);have HNA:=aA (HRA.out.apart (Nat.le_refl _))
   have HNB:=aA (HRB.out.apart (Nat.le_refl _));have hlo:w.heap.size≤w2.heap.size:=HB2.out.size
   have HS0:=aA ((uB w2).cap);have HG0:=aA (World.grownBy_alloc w2 (.map #[] 0) (some w2.heap.size))
   generalize hw3:w2.alloc (.map #[] 0)=w3 at *;clear hw3 hmm;go_loopw [22] (fun v wr=>∃(i:Nat) (K:List T) (c:M→Int),i≤la∧v= .int .i64 (i:Int)∧bY f g lb i=some K∧aK K∧(∀m,m.ok=true→aL K m=c m)∧bD wr w2.heap.size 65536 c∧w2.grownBy wr (some w2.heap.size)) (fun v _=>la-(intOf v).toNat);case atStart=>exact⟨0,[],fun _=>0,gL _,rfl,rfl,eT,fun _ _=>rfl,HS0.out,HG0.out⟩
   case round=>
    obtain⟨i,K,c,hi,rfl,hM,hKf,hKc,hS,hg⟩:=hrel;by_cases hlt:i<la
    ·have hil:(i:Int)<(la:Int):=by omega
     have hri:=HRA.out.grown hg HNA.out;rcases hri.2.2 with h0|⟨pb,off,hpe,hblt,hcl⟩
     ·omega
     obtain⟨g0,g1,g2,g3,g4⟩:=hcl i hlt;have hfi:=DS HPA.out hlt
     have HS:=aA hS;have HG:=aA hg
     have HM:=aA hM;clear hcl hri hS hg hM;subst hpe;go_wp2;have hT1:cH (wr.alloc (.cells #[.int .i64 (f i).c,.int .i64 (f i).m.x,.int .i64 (f i).m.y,.int .i64 (f i).m.d,.int .i64 (f i).m.e] 47)) wr.heap.size (f i):=World.alloc_heap_new wr _
     have HS1:=aA (HS.out.grown (World.grownBy_alloc wr (.cells #[.int .i64 (f i).c,.int .i64 (f i).m.x,.int .i64 (f i).m.y,.int .i64 (f i).m.d,.int .i64 (f i).m.e] 47) none) (by simp));have HG1:=aA (HG.out.trans (World.grownBy_alloc wr (.cells #[.int .i64 (f i).c,.int .i64 (f i).m.x,.int .i64 (f i).m.y,.int .i64 (f i).m.d,.int .i64 (f i).m.e] 47) (some w2.heap.size)))
     have hbl:w2.heap.size<wr.heap.size:=HS.out.lt;have hs1:(wr.alloc (.cells #[.int .i64 (f i).c,.int .i64 (f i).m.x,.int .i64 (f i).m.y,.int .i64 (f i).m.d,.int .i64 (f i).m.e] 47)).heap.size=wr.heap.size+1:=by simp
     clear g0 g1 g2 g3 g4;generalize wr.alloc (.cells #[.int .i64 (f i).c,.int .i64 (f i).m.x,.int .i64 (f i).m.y,.int .i64 (f i).m.d,.int .i64 (f i).m.e] 47)=wi at *;generalize wr.heap.size=Bf at *;go_loopw [28] (fun v wr'=>∃(k:Nat) (K':List T) (c':M→Int),k≤lb∧v= .int .i64 (k:Int)∧eY K (f i) g k=some K'∧aK K'∧(∀m,m.ok=true→aL K' m=c' m)∧bD wr' w2.heap.size 65536 c'∧w2.grownBy wr' (some w2.heap.size)∧cH wr' Bf (f i)) (fun v _=>lb-(intOf v).toNat);case atStart=>exact⟨0,K,c,gL _,rfl,rfl,hKf,hKc,HS1.out,HG1.out,hT1⟩
     case round=>
      obtain⟨k,K',c',hk,rfl,hM',hKf',hKc',hS',hg',hT'⟩:=hrel;by_cases hlt2:k<lb
      ·have hkl:(k:Int)<(lb:Int):=by omega
       have hrk:=HRB.out.grown hg' HNB.out;rcases hrk.2.2 with h0|⟨pb2,off2,hpe2,hblt2,hcl2⟩
       ·omega
       obtain⟨g0,g1,g2,g3,g4⟩:=hcl2 k hlt2;obtain⟨t0,t1,t2,t3,t4⟩:=hT'.cells;have hgk:=DS HPB.out hlt2
       have htl:Bf<wr.heap.size:=(Array.getElem?_eq_some_iff.1 hT').1;have HSk:=aA (hS'.grown (World.grownBy_alloc wr (.cells #[.int .i64 (g k).c,.int .i64 (g k).m.x,.int .i64 (g k).m.y,.int .i64 (g k).m.d,.int .i64 (g k).m.e] 47) none) (by simp))
       have HGk:=aA (hg'.trans (World.grownBy_alloc wr (.cells #[.int .i64 (g k).c,.int .i64 (g k).m.x,.int .i64 (g k).m.y,.int .i64 (g k).m.d,.int .i64 (g k).m.e] 47) (some w2.heap.size)));have HTk:Hid (cH (wr.alloc (.cells #[.int .i64 (g k).c,.int .i64 (g k).m.x,.int .i64 (g k).m.y,.int .i64 (g k).m.d,.int .i64 (g k).m.e] 47)) Bf (f i)):=(Below.heap_alloc _ _ _ htl).trans hT'
       have HMk:=aA hM';have hcr:=hS'.range
       clear hcl2 hrk hS' hg' hM' hT';subst hpe2;by_cases hok:((f i).m.sum (g k).m).ok=true
       ·have hTwo:pY (f i) (g k) ((f i).m.sum (g k).m):=pY.of hfi.1 hgk.1 hok hfi.2 hgk.2;obtain⟨nf,nc⟩:=KD hTwo hKf' hcr hKc';have hcall:=NJ _ w2.heap.size c' HSk.out (f i) (g k) hTwo nf nc
        by_cases h4:(cF K' (cM (f i) (g k))).length≤400
        ·have hstep:eY K (f i) g (k+1)=some (cF K' (cM (f i) (g k))):=by rw[eY,HMk.out];show fI _ _ _=_;unfold fI;rw[if_pos ⟨hok,h4⟩]
         have HST:=aA hstep;rw[decide_eq_true h4]at hcall;clear hstep;go_wp2_with (go_at_call 54;refine hcall.mono ?_;rintro r w6 ⟨rfl,hs6,hg6⟩;have HS6:=aA hs6;have HG6:=aA hg6;clear hs6 hg6);go_roundw;case rel=>exact⟨k+1,_,_,by omega,by go_num,HST.out,nf,nc,HS6.out,HGk.out.trans HG6.out,(HG6.out.block _ (by simp;omega) (fun e=>by cases e;omega)).trans HTk.out⟩
         case measure=>simp[intOf];omega
        ·have hstep:eY K (f i) g (k+1)=none:=by rw[eY,HMk.out];show fI _ _ _=_;unfold fI;rw[if_neg (fun h=>h4 h.2)]
         have hno:bY f g lb la=none:=pL (i:=i+1) (by rw[bY,HM.out];exact pT hstep lb (by omega)) la (by omega);rw[decide_eq_false h4]at hcall;clear hstep;go_wp2_with (go_at_call 54;refine hcall.mono ?_;rintro r w6 ⟨rfl,hs6,hg6⟩;have HG6:=aA hg6;clear hs6 hg6);refine cB (results_tmp2 rfl _ _ _) rfl ?_;rw[hno];exact⟨_,rfl,HB2.out.grown (HGk.out.trans HG6.out) hlo (fun k' e=>by cases e;exact hlo),jC w6 _⟩
       ·have hstep:eY K (f i) g (k+1)=none:=by rw[eY,HMk.out];show fI _ _ _=_;unfold fI;rw[if_neg (fun h=>hok h.1)]
        have hno:bY f g lb la=none:=pL (i:=i+1) (by rw[bY,HM.out];exact pT hstep lb (by omega)) la (by omega);have hcall:=KE (wr.alloc (.cells #[.int .i64 (g k).c,.int .i64 (g k).m.x,.int .i64 (g k).m.y,.int .i64 (g k).m.d,.int .i64 (g k).m.e] 47)) w2.heap.size (f i) (g k) hfi.1 hgk.1 (by simpa using hok)
        clear hstep;go_wp2_with (go_at_call 54;refine hcall.mono ?_;rintro r w6 ⟨rfl,hb6⟩;have HG6:=aA (bM hb6 (some w2.heap.size));clear hb6);refine cB (results_tmp2 rfl _ _ _) rfl ?_;rw[hno];exact⟨_,rfl,HB2.out.grown (HGk.out.trans HG6.out) hlo (fun k' e=>by cases e;exact hlo),jC w6 _⟩
      ·obtain rfl:k=lb:=by omega
       have HMk:Hid (bY f g k (i+1)=some K'):=by show _=_;rw[bY,HM.out];exact hM'
       have HSk:=aA hS';have HGk:=aA hg'
       clear hS' hg' hM' hT';go_wp2;go_roundw;case rel=>exact⟨i+1,K',c',by omega,by go_num,HMk.out,hKf',hKc',HSk.out,HGk.out⟩
       case measure=>simp[intOf];omega
    ·obtain rfl:i=la:=by omega
     have hKl:=fT _ _ hM;have e3:iR (bY f g lb i)=yA K:=by rw[hM];simp[iR,yA,hKl]
     go_wp2_with (go_at_call 55;refine(GP _ _ _ _ hS (by omega) hKf hKc).mono ?_;rintro r w5 ⟨v,rfl,hb5,ho5⟩);refine cB (results_tmp2 rfl _ _ _) rfl ?_;rw[e3];have hB4:Below w.heap.size w wr:=HB2.out.grown hg hlo (fun k' e=>by cases e;exact hlo)
     exact⟨_,rfl,hB4.trans (hb5.mono hB4.size),gE ho5 hB4.size⟩
theorem vJ (w:World) (a b:Option Addr) (la ca lb cb:Nat) (f g:Nat→T) (ha:Rd w a la ca f) (hb:Rd w b lb cb g):Calls Tryz.prog 16 #[.slice a la ca,.slice b lb cb] w fun r w'=>∃a' cap',r= .returned (.tuple #[.slice a' (bJ f la g lb).1.length cap',.bool (bJ f la g lb).2])∧Below w.heap.size w w'∧lI w.heap.size w' a' cap' (bJ f la g lb).1:=by
 refine(VV w a b la ca lb cb f g ha hb).mono ?_;rintro r w' ⟨v,rfl,hb1,ho1⟩;have hlen:=qY f la g lb
 obtain⟨a',cap',rfl,hout⟩:=aH ho1 (by omega);exact⟨a',cap',rfl,hb1,hout⟩
end Go.Proofs.YtncffcaabnjioaaGreat
namespace Go.Proofs.YtncffcaabnjioaaGreat
open Go.RowKit
set_option linter.unusedVariables false
theorem xY (n k:Int):0≤eK n k∧eK n k≤100:=by unfold eK;split<;>omega
theorem OJ (n:Int):∀k:Nat,0≤fl n k∧fl n k≤100
 |0=>by unfold fl;omega
 |k+1=>by unfold fl;omega
theorem CS (n k:Int):0≤iH n k∧iH n k≤100:=by
 unfold iH;split
 ·exact OJ _ _
 ·omega
theorem ZW (s t k:Int) (w:World):Calls Tryz.prog 131 #[.int .i64 s,.int .i64 t,.int .i64 k] w fun e w'=>e= .returned (.int .i64 (wy s t k))∧w'=w:=by
 have h1:=xY s k;have h2:=CS t k
 have hm:wy s t k=eK s k*iH t k%101:=iD h1.1 h1.2 h2.1 h2.2
 have hb:0≤eK s k*iH t k∧eK s k*iH t k≤10000:=⟨Int.mul_nonneg h1.1 h2.1,by
  have:=Int.mul_le_mul h1.2 h2.2 h2.1 (by omega);omega⟩
 rw[hm];have hc:=TI s k
 have hf:=WK t k;generalize eK s k=p at *;generalize iH t k=q at *;generalize hpq:p*q=r at *;clear hm;go_enter Tryz.func131,Tryz.ntmps131
 go_wp2_with (first
  |(go_at_call 156;refine(hc _).mono ?_;rintro e w' ⟨rfl,hw'⟩;obtain rfl:=hw'.symm;clear hw')
  |(go_at_call 157;refine(hf _).mono ?_;rintro e w' ⟨rfl,hw'⟩;obtain rfl:=hw'.symm;clear hw'))
 go_ret;exact⟨rfl,rfl⟩
theorem DT (xs:List T) (t:T) (L:List T):eX (xs++[t]) L=jD t.c t.m (eX xs L):=by simp[eX]
theorem qW:∀(xs L:List T),(eX xs L).length≤L.length+xs.length
 |[],L=>Nat.le_refl _
 |t::r,L=>by
  have h1:=qW r (jD t.c t.m L);have h2:=sK t.c t.m L
  show(eX r (jD t.c t.m L)).length≤_;rw[List.length_cons];omega
theorem yI (a b:T) (i:Nat):(eR a b i).length=i*(gO a b+1):=by unfold eR;rw[oR (gO a b+1) _ (fun i=>by simp[lW])];simp
def YL (W:World) (Bx:Nat) (m:M):Prop:=W.heap[Bx]? =some (.cells #[.int .i64 m.x,.int .i64 m.y,.int .i64 m.d,.int .i64 m.e] 45 (0,0))
theorem YL.cells {W:World} {Bx:Nat} {m:M} (h:YL W Bx m):W.cell? ⟨Bx,0,none⟩=some (.int .i64 m.x)∧W.cell? ⟨Bx,1,none⟩=some (.int .i64 m.y)∧W.cell? ⟨Bx,2,none⟩=some (.int .i64 m.d)∧W.cell? ⟨Bx,3,none⟩=some (.int .i64 m.e):=by unfold YL at h;refine⟨?_,?_,?_,?_⟩<;>(unfold World.cell?;simp only[h];rfl)
theorem XR (w:World) (a b:T) (h3:(a.m.sum b.m).ok=false):Calls Tryz.prog 85 #[.agg #[.int .i64 a.c,.int .i64 a.m.x,.int .i64 a.m.y,.int .i64 a.m.d,.int .i64 a.m.e],.agg #[.int .i64 b.c,.int .i64 b.m.x,.int .i64 b.m.y,.int .i64 b.m.d,.int .i64 b.m.e]] w fun e w'=>∃v,e= .returned (.tuple #[v,.bool false])∧Below w.heap.size w w'∧w'.ownsRow w.heap.size 47 5 v 0 (aF []):=by
 have hm:M.mul a.m b.m=(M.zero,false):=by simp[M.mul,h3]
 have hc:=IQ a.m.x a.m.y a.m.d a.m.e b.m.x b.m.y b.m.d b.m.e;have ea:(⟨a.m.x,a.m.y,a.m.d,a.m.e⟩:M)=a.m:=rfl
 have eb:(⟨b.m.x,b.m.y,b.m.d,b.m.e⟩:M)=b.m:=rfl;rw[ea,eb,hm]at hc;have HO:=aA (cD ((w.alloc (.cells #[.int .i64 a.c,.int .i64 a.m.x,.int .i64 a.m.y,.int .i64 a.m.d,.int .i64 a.m.e] 47)).alloc (.cells #[.int .i64 b.c,.int .i64 b.m.x,.int .i64 b.m.y,.int .i64 b.m.d,.int .i64 b.m.e] 47)) w.heap.size (by simp;omega))
 have HW:=aA ((((cE w.heap.size w).alloc (Nat.le_refl _) (.cells #[.int .i64 a.c,.int .i64 a.m.x,.int .i64 a.m.y,.int .i64 a.m.d,.int .i64 a.m.e] 47)).alloc (by simp) (.cells #[.int .i64 b.c,.int .i64 b.m.x,.int .i64 b.m.y,.int .i64 b.m.d,.int .i64 b.m.e] 47)).alloc (by simp;omega) (.cells #[] 47));go_enter Tryz.func85,Tryz.ntmps85;go_wp2_with (go_at_call 130;refine(hc _).mono ?_;rintro e w1 ⟨rfl,hb1⟩);refine cB (results_tmp2 rfl _ _ _) rfl ?_;have hO:=HO.out
 simp only[World.size_alloc]at hO;have hb2:=(HW.out.trans (hb1.mono (by simp;omega)))
 exact⟨_,rfl,hb2.alloc hb2.size _,dW hO (hb1.alloc (jW (Nat.le_refl _) hb1.size) _)⟩
theorem UT (w:World) (a b:T) (h:pY a b (a.m.sum b.m)):Calls Tryz.prog 85 #[.agg #[.int .i64 a.c,.int .i64 a.m.x,.int .i64 a.m.y,.int .i64 a.m.d,.int .i64 a.m.e],.agg #[.int .i64 b.c,.int .i64 b.m.x,.int .i64 b.m.y,.int .i64 b.m.d,.int .i64 b.m.e]] w fun e w'=>∃v,e= .returned (.tuple #[v,.bool true])∧Below w.heap.size w w'∧w'.ownsRow w.heap.size 47 5 v (cM a b).length (aF (cM a b)):=by
 have hm:M.mul a.m b.m=(a.m.sum b.m,true):=by simp[M.mul,h.ok1,h.ok2,h.ok3]
 have hc:=IQ a.m.x a.m.y a.m.d a.m.e b.m.x b.m.y b.m.d b.m.e;have ea:(⟨a.m.x,a.m.y,a.m.d,a.m.e⟩:M)=a.m:=rfl
 have eb:(⟨b.m.x,b.m.y,b.m.d,b.m.e⟩:M)=b.m:=rfl;rw[ea,eb,hm]at hc;have m1:=M.ok_iff.1 h.ok1
 have m2:=M.ok_iff.1 h.ok2;have m3:=M.ok_iff.1 h.ok3
 have lx:=h.lx;have ly:=h.ly
 have k1:=h.c1;have k2:=h.c2
 have H:=aA h;have HO:=aA (cD ((w.alloc (.cells #[.int .i64 a.c,.int .i64 a.m.x,.int .i64 a.m.y,.int .i64 a.m.d,.int .i64 a.m.e] 47)).alloc (.cells #[.int .i64 b.c,.int .i64 b.m.x,.int .i64 b.m.y,.int .i64 b.m.d,.int .i64 b.m.e] 47)) w.heap.size (by simp;omega))
 have HW:=aA ((((cE w.heap.size w).alloc (Nat.le_refl _) (.cells #[.int .i64 a.c,.int .i64 a.m.x,.int .i64 a.m.y,.int .i64 a.m.d,.int .i64 a.m.e] 47)).alloc (by simp) (.cells #[.int .i64 b.c,.int .i64 b.m.x,.int .i64 b.m.y,.int .i64 b.m.d,.int .i64 b.m.e] 47)).alloc (by simp;omega) (.cells #[] 47));have HTA:Hid (cH (((w.alloc (.cells #[.int .i64 a.c,.int .i64 a.m.x,.int .i64 a.m.y,.int .i64 a.m.d,.int .i64 a.m.e] 47)).alloc (.cells #[.int .i64 b.c,.int .i64 b.m.x,.int .i64 b.m.y,.int .i64 b.m.d,.int .i64 b.m.e] 47)).alloc (.cells #[] 47)) w.heap.size a):=(Below.heap_alloc _ _ _ (by simp;omega)).trans ((Below.heap_alloc _ _ _ (by simp)).trans (World.alloc_heap_new w _))
 have HTB:Hid (cH (((w.alloc (.cells #[.int .i64 a.c,.int .i64 a.m.x,.int .i64 a.m.y,.int .i64 a.m.d,.int .i64 a.m.e] 47)).alloc (.cells #[.int .i64 b.c,.int .i64 b.m.x,.int .i64 b.m.y,.int .i64 b.m.d,.int .i64 b.m.e] 47)).alloc (.cells #[] 47)) (w.heap.size+1) b):=by have:=World.alloc_heap_new (w.alloc (.cells #[.int .i64 a.c,.int .i64 a.m.x,.int .i64 a.m.y,.int .i64 a.m.d,.int .i64 a.m.e] 47)) (.cells #[.int .i64 b.c,.int .i64 b.m.x,.int .i64 b.m.y,.int .i64 b.m.d,.int .i64 b.m.e] 47);rw[World.size_alloc]at this;exact(Below.heap_alloc _ _ _ (by simp)).trans this
 clear h;generalize a.m.sum b.m=g at *;go_enter Tryz.func85,Tryz.ntmps85;go_wp2_with (go_at_call 130;refine(hc _).mono ?_;rintro e w1 ⟨rfl,hb1⟩;have HB1:=aA hb1;clear hb1);have hb1:=HB1.out
 have hO:=HO.out;simp only[World.size_alloc]at hO;have hbw:Below w.heap.size w w1:=HW.out.trans (hb1.mono (by simp;omega))
 have hs1:=hb1.size;simp only[World.size_alloc]at hs1;have hT1:cH w1 w.heap.size a:=(hb1.block _ (by simp;omega)).trans HTA.out
 have hT2:cH w1 (w.heap.size+1) b:=(hb1.block _ (by simp)).trans HTB.out;have hO1:=dW hO hb1
 have hG:YL (w1.alloc (.cells #[.int .i64 g.x,.int .i64 g.y,.int .i64 g.d,.int .i64 g.e] 45)) w1.heap.size g:=World.alloc_heap_new w1 _;have hT1':cH (w1.alloc (.cells #[.int .i64 g.x,.int .i64 g.y,.int .i64 g.d,.int .i64 g.e] 45)) w.heap.size a:=(Below.heap_alloc _ _ _ (by omega)).trans hT1
 have hT2':cH (w1.alloc (.cells #[.int .i64 g.x,.int .i64 g.y,.int .i64 g.d,.int .i64 g.e] 45)) (w.heap.size+1) b:=(Below.heap_alloc _ _ _ (by omega)).trans hT2;have hO2:=hO1.alloc (.cells #[.int .i64 g.x,.int .i64 g.y,.int .i64 g.d,.int .i64 g.e] 45)
 have hB2:=hbw.alloc hbw.size (.cells #[.int .i64 g.x,.int .i64 g.y,.int .i64 g.d,.int .i64 g.e] 45);have hs2:(w1.alloc (.cells #[.int .i64 g.x,.int .i64 g.y,.int .i64 g.d,.int .i64 g.e] 45)).heap.size=w1.heap.size+1:=by simp
 generalize w1.alloc (.cells #[.int .i64 g.x,.int .i64 g.y,.int .i64 g.d,.int .i64 g.e] 45)=w3 at *;generalize w1.heap.size=Bg at *;clear hb1 hO hT1 hT2 hO1 hbw HB1 HO HW HTA HTB hc;have hq0:0≤a.c*b.c:=Int.mul_nonneg k1.1 k2.1
 have hq1:a.c*b.c≤10000:=by have:=Int.mul_le_mul k1.2 k2.2 k2.1 (by omega);omega
 go_loopw [6,9] (fun v ii wr=>∃i:Nat,i≤fR a b+1∧ii= .int .i64 (i:Int)∧wr.ownsRow w.heap.size 47 5 v (eX (eR a b i) []).length (aF (eX (eR a b i) []))∧Below w.heap.size w wr∧cH wr w.heap.size a∧cH wr (w.heap.size+1) b∧YL wr Bg g) (fun _ ii _=>fR a b+1-(intOf ii).toNat);case atStart=>exact⟨0,gL _,rfl,hO2,hB2,hT1',hT2',hG⟩
 case round=>
  obtain⟨i,hi,rfl,hown,hbl,hTa,hTb,hGg⟩:=hrel;obtain⟨a0,a1,a2,a3,a4⟩:=hTa.cells;obtain⟨b0,b1,b2,b3,b4⟩:=hTb.cells;obtain⟨g0,g1,g2,g3⟩:=hGg.cells;by_cases hlt:i≤fR a b
  ·have i1:(i:Int)≤a.m.d:=by omega
   have i2:(i:Int)≤b.m.x:=by omega
   have HOWN:=aA hown;have HBL:=aA hbl
   have HTA2:=aA hTa;have HTB2:=aA hTb
   have HGG:=aA hGg;clear hown hbl hTa hTb hGg;go_wp2;clear a0 a1 a2 a3 a4 b0 b1 b2 b3 b4 g0 g1 g2 g3;go_loopw [6,10] (fun v kk wr=>∃k:Nat,k≤gO a b+1∧kk= .int .i64 (k:Int)∧wr.ownsRow w.heap.size 47 5 v (eX (eR a b i++lW a b i k) []).length (aF (eX (eR a b i++lW a b i k) []))∧Below w.heap.size w wr∧cH wr w.heap.size a∧cH wr (w.heap.size+1) b∧YL wr Bg g) (fun _ kk _=>gO a b+1-(intOf kk).toNat);case atStart=>exact⟨0,gL _,rfl,by have e0:eR a b i++lW a b i 0=eR a b i:=List.append_nil _;rw[e0];exact HOWN.out,HBL.out,HTA2.out,HTB2.out,HGG.out⟩
   case round=>
    obtain⟨k,hk,rfl,hown,hbl,hTa,hTb,hGg⟩:=hrel;obtain⟨a0,a1,a2,a3,a4⟩:=hTa.cells;obtain⟨b0,b1,b2,b3,b4⟩:=hTb.cells;obtain⟨g0,g1,g2,g3⟩:=hGg.cells;have HOK:=aA hown
    have HBK:=aA hbl;have HTAk:=aA hTa
    have HTBk:=aA hTb;have HGGk:=aA hGg
    clear hown hbl hTa hTb hGg;by_cases hlt2:k≤gO a b
    ·have j1:(k:Int)≤a.m.e:=by omega
     have j2:(k:Int)≤b.m.y:=by omega
     have p1:=qJ (eK a.m.d i) (iH b.m.x i);have p2:=qJ (eK a.m.e k) (iH b.m.y k)
     change 0≤wy a.m.d b.m.x i∧wy a.m.d b.m.x i≤100 at p1;change 0≤wy a.m.e b.m.y k∧wy a.m.e b.m.y k≤100 at p2;have q0:0≤a.c*b.c%101∧a.c*b.c%101≤100:=by omega
     have q1:0≤a.c*b.c%101*wy a.m.d b.m.x i:=Int.mul_nonneg q0.1 p1.1;have q2:a.c*b.c%101*wy a.m.d b.m.x i≤10000:=by have:=Int.mul_le_mul q0.2 p1.2 p1.1 (by omega);omega
     have q3:0≤a.c*b.c%101*wy a.m.d b.m.x i%101∧a.c*b.c%101*wy a.m.d b.m.x i%101≤100:=by omega
     have q4:0≤a.c*b.c%101*wy a.m.d b.m.x i%101*wy a.m.e b.m.y k:=Int.mul_nonneg q3.1 p2.1;have q5:a.c*b.c%101*wy a.m.d b.m.x i%101*wy a.m.e b.m.y k≤10000:=by have:=Int.mul_le_mul q3.2 p2.2 p2.1 (by omega);omega
     have hTN:lM a b i k=⟨a.c*b.c%101*wy a.m.d b.m.x i%101*wy a.m.e b.m.y k%101,⟨g.x-i,g.y-k,g.d-i,g.e-k⟩⟩:=by unfold lM;rw[H.out.gx,H.out.gy,H.out.gd,H.out.ge]
     have htok:YW (eR a b i++lW a b i k):=by
      have hall:=oO H.out;intro t ht;refine hall t ?_;unfold eR;rcases List.mem_append.1 ht with h1|h1
      ·unfold eR at h1;obtain⟨i',hi',h2⟩:=List.mem_flatMap.1 h1;exact List.mem_flatMap.2 ⟨i',List.mem_range.2 (by have:=List.mem_range.1 hi';omega),h2⟩
      ·refine List.mem_flatMap.2 ⟨i,List.mem_range.2 (by omega),?_⟩;unfold lW at h1⊢;obtain⟨k',hk',h2⟩:=List.mem_map.1 h1;exact List.mem_map.2 ⟨k',List.mem_range.2 (by have:=List.mem_range.1 hk';omega),h2⟩
     have hfl:=(nM _ [] htok eT).1;have hlen:(eX (eR a b i++lW a b i k) []).length≤1000:=by
      have h1:=qW (eR a b i++lW a b i k) [];have h2:(lW a b i k).length=k:=by simp[lW]
      rw[List.length_append,yI,h2]at h1;have h3:i*(gO a b+1)≤15*16:=Nat.mul_le_mul (by omega) (by omega)
      simp at h1;omega
     have hnx:eX (eR a b i++lW a b i (k+1)) []=jD (a.c*b.c%101*wy a.m.d b.m.x i%101*wy a.m.e b.m.y k%101) ⟨g.x-i,g.y-k,g.d-i,g.e-k⟩ (eX (eR a b i++lW a b i k) []):=by rw[MM,←List.append_assoc,DT,hTN]
     have HNX:=aA hnx;have HFL:=aA hfl
     have HLE:=aA hlen;clear hTN htok hfl hlen hnx
     go_wp2_with (first
      |(go_at_call 131;refine(ZW _ _ _ _).mono ?_;rintro e w' ⟨rfl,hw'⟩;obtain rfl:=hw'.symm;clear hw')
      |(go_at_call 121;refine(AF _ w.heap.size _ _ _ _ _ _ _ HOK.out HBK.out.size HLE.out (tE HFL.out) (by omega) (by omega)).mono ?_;rintro e w5 ⟨v5,rfl,hb5,ho5⟩;have HB5:=aA hb5;have HO5:=aA ho5;clear hb5 ho5))
     go_roundw;case rel=>exact⟨k+1,by omega,by go_num,by rw[HNX.out];exact HO5.out,HBK.out.trans (HB5.out.mono HBK.out.size),(HB5.out.block _ (Array.getElem?_eq_some_iff.1 HTAk.out).1).trans HTAk.out,(HB5.out.block _ (Array.getElem?_eq_some_iff.1 HTBk.out).1).trans HTBk.out,(HB5.out.block _ (Array.getElem?_eq_some_iff.1 HGGk.out).1).trans HGGk.out⟩
     case measure=>simp[intOf];omega
    ·have hkl:k=gO a b+1:=by omega
     subst hkl;have hoe:=HOK.out
     rw[←vZ]at hoe;have HOE:=aA hoe
     clear hoe;by_cases hd:((gO a b+1:Nat):Int)≤a.m.e
     ·have hx:¬((gO a b+1:Nat):Int)≤b.m.y:=by omega
      go_wp2;go_roundw;case rel=>exact⟨i+1,by omega,by go_num,HOE.out,HBK.out,HTAk.out,HTBk.out,HGGk.out⟩
      case measure=>simp[intOf];omega
     ·go_wp2;go_roundw;case rel=>exact⟨i+1,by omega,by go_num,HOE.out,HBK.out,HTAk.out,HTBk.out,HGGk.out⟩
      case measure=>simp[intOf];omega
  ·have hil:i=fR a b+1:=by omega
   subst hil;by_cases hd:((fR a b+1:Nat):Int)≤a.m.d
   ·have hx:¬((fR a b+1:Nat):Int)≤b.m.x:=by omega
    go_wp2;refine cB (results_tmp2 rfl _ _ _) rfl ?_;exact⟨_,rfl,hbl,hown⟩
   ·go_wp2;refine cB (results_tmp2 rfl _ _ _) rfl ?_;exact⟨_,rfl,hbl,hown⟩
def qC (a b:T):List T:=if(a.m.sum b.m).ok=true then cM a b else[]
theorem ZN (w:World) (a b:T) (h1:a.m.ok=true∧0≤a.c∧a.c≤100) (h2:b.m.ok=true∧0≤b.c∧b.c≤100):Calls Tryz.prog 85 #[.agg #[.int .i64 a.c,.int .i64 a.m.x,.int .i64 a.m.y,.int .i64 a.m.d,.int .i64 a.m.e],.agg #[.int .i64 b.c,.int .i64 b.m.x,.int .i64 b.m.y,.int .i64 b.m.d,.int .i64 b.m.e]] w fun e w'=>∃v,e= .returned (.tuple #[v,.bool (a.m.sum b.m).ok])∧Below w.heap.size w w'∧w'.ownsRow w.heap.size 47 5 v (qC a b).length (aF (qC a b)):=by
 cases hok:(a.m.sum b.m).ok
 ·have e:qC a b=[]:=by simp[qC,hok]
  rw[e];exact XR w a b hok
 ·have e:qC a b=cM a b:=by simp[qC,hok]
  rw[e];exact UT w a b ⟨h1.1,h2.1,hok,rfl,rfl,rfl,rfl,h1.2,h2.2⟩
theorem DO {a b:T} (h:pY a b (a.m.sum b.m)):(cM a b).length≤1000:=by
 have h1:=qW (eR a b (fR a b+1)) [];have m1:=M.ok_iff.1 h.ok1
 have lx:=h.lx;have ly:=h.ly
 rw[yI]at h1;have h3:(fR a b+1)*(gO a b+1)≤16*16:=Nat.mul_le_mul (by omega) (by omega)
 unfold cM;simp at h1;omega
theorem DP {a b:T} (h1:a.m.ok=true∧0≤a.c∧a.c≤100) (h2:b.m.ok=true∧0≤b.c∧b.c≤100):(qC a b).length≤1000:=by
 unfold qC;split
 ·rename_i hok;exact DO ⟨h1.1,h2.1,hok,rfl,rfl,rfl,rfl,h1.2,h2.2⟩
 ·simp
end Go.Proofs.YtncffcaabnjioaaGreat
