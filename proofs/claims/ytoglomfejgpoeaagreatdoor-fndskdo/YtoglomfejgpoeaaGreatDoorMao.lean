/-
  Lists of terms that fall: their sums, and what is put to them.
  Products of operators: their lists and numbers.
  The product of two operators: the program.
-/
import Derived.Test.YtoglomfejgpoeaaGreatDoorMan
set_option maxHeartbeats 8000000
set_option maxRecDepth 100000
namespace Go.Proofs.YtoglomfejgpoeaaGreatDoor
open Go.RowKit
set_option linter.unusedVariables false
theorem mZ (f:Nat→T) (m:M):∀(u i:Nat),cB f u (i+1) m=cB (fun j=>f (j+1)) u i m
 |0,_=>rfl
 |u+1,i=>by rw[cB,cB,mZ f m u (i+1)]
theorem lK (m:M):∀L:List T,cB (lf L) L.length 0 m=bY L m
 |[]=>rfl
 |t::r=>by
  have e:(fun j=>lf (t::r) (j+1))=lf r:=by funext j;simp[lf]
  have e0:lf (t::r) 0=t:=rfl;rw[List.length_cons,cB,e0,bY,mZ,e,lK m r]
theorem tE {L:List T} (h:aV L):Fl (lf L) L.length:=by
 have at_:∀i (hi:i<L.length),lf L i=L[i]:=fun i hi=>by unfold lf;rw[List.getD_eq_getElem?_getD,List.getElem?_eq_getElem hi];rfl
 refine⟨fun j i hji hi=>?_,fun i hi=>?_⟩
 ·rw[at_ i hi,at_ j (by omega)];exact(List.pairwise_iff_getElem.1 h.1) j i (by omega) hi hji
 ·rw[at_ i hi];exact h.2 _ (List.getElem_mem hi)
theorem nV {L:List T} (h:aV L) (m:M):0≤bY L m∧bY L m≤100:=by
 induction L with
 |nil=>simp[bY]
 |cons t r ih=>
  rw[bY];split
  ·have:=h.2 t (List.mem_cons_self ..);omega
  ·exact ih h.tail
theorem cL:aV []:=⟨List.Pairwise.nil,fun t h=>by cases h⟩
def dC (K X:List T):List T:=cT (lf K) K.length (lf X) X.length 0 0
theorem eP {K X:List T} (hK:aV K) (hX:aV X):aV (dC K X)∧∀m,bY (dC K X) m=(bY K m+bY X m)%101:=by obtain⟨_,h2,h3⟩:=fL (tE hK) (tE hX) (K.length-0+(X.length-0)) 0 0 (Nat.le_refl _);refine⟨h2,fun m=>(h3 m).trans ?_⟩;rw[Nat.sub_zero,Nat.sub_zero,lK,lK]
theorem vF {L:List T} (hL:aV L) {c:Int} {m:M} (hm:m.ok=true) (c0:0≤c) (c1:c≤100):aV (fU c m L)∧∀x,bY (fU c m L) x=gV (bY L) m c x:=by
 unfold fU;by_cases hc:c=0
 ·rw[if_pos hc];refine⟨hL,fun x=>?_⟩;unfold gV;split
  ·rename_i hx;have:=nV hL m
   rw[gF.1 hx,hc];omega
  ·rfl
 ·rw[if_neg hc];have G:Fl (fun _=>(⟨c,m⟩:T)) 1:=⟨fun j i h1 h2=>by omega,fun i hi=>⟨hm,by show 1≤c;omega,c1⟩⟩
  obtain⟨_,h2,h3⟩:=fL (tE hL) G (L.length-0+(1-0)) 0 0 (Nat.le_refl _);refine⟨h2,fun x=>(h3 x).trans ?_⟩;rw[Nat.sub_zero,Nat.sub_zero,lK];show(bY L x+(if kE m x=true then c else 0))%101=_
  have hr:=nV hL x;unfold gV;by_cases hx:x=m
  ·subst hx;rw[if_pos (cF.2 rfl),if_pos (gF.2 rfl)]
  ·rw[if_neg (fun e=>hx (cF.1 e).symm),if_neg (fun e=>hx (gF.1 e))];omega
def cE (xs:List T) (L:List T):List T:=xs.foldl (fun L t=>fU t.c t.m L) L
def dL (c:M→Int) (xs:List T):M→Int:=xs.foldl (fun c t=>gV c t.m t.c) c
def IG (xs:List T):Prop:=∀t∈xs,t.m.ok=true∧0≤t.c∧t.c≤100
theorem dN:∀(xs:List T) (L:List T),IG xs→aV L→aV (cE xs L)∧bY (cE xs L)=dL (bY L) xs
 |[],L,_,hL=>⟨hL,rfl⟩
 |t::r,L,hx,hL=>by
  have h1:=hx t (List.mem_cons_self ..);have h2:=vF hL h1.1 h1.2.1 h1.2.2
  have h3:=dN r (fU t.c t.m L) (fun s hs=>hx s (List.mem_cons_of_mem _ hs)) h2.1;refine⟨h3.1,?_⟩;show bY (cE r (fU t.c t.m L))=dL (gV (bY L) t.m t.c) r
  rw[h3.2,funext h2.2]
theorem jI:∀(xs:List T) (c:M→Int) (m:M),IG xs→(∀m,0≤c m∧c m≤100)→dL c xs m=(c m+dL (fun _=>0) xs m)%101
 |[],c,m,_,hc=>by
  have:=hc m;show c m=(c m+0)%101
  omega
 |t::r,c,m,hx,hc=>by
  have h1:=hx t (List.mem_cons_self ..);have hr:∀(d:M→Int),(∀m,0≤d m∧d m≤100)→∀m,0≤gV d t.m t.c m∧gV d t.m t.c m≤100:=fun d hd m=>by
   unfold gV;split
   ·omega
   ·exact hd m
  have hz:∀m:M,(0:Int)≤(fun _=>0:M→Int) m∧(fun _=>0:M→Int) m≤100:=fun _=>⟨Int.le_refl _,by show(0:Int)≤100;decide⟩
  have e1:=jI r (gV c t.m t.c) m (fun s hs=>hx s (List.mem_cons_of_mem _ hs)) (hr c hc);have e2:=jI r (gV (fun _=>0) t.m t.c) m (fun s hs=>hx s (List.mem_cons_of_mem _ hs)) (hr _ hz)
  show dL (gV c t.m t.c) r m=(c m+dL (gV (fun _=>0) t.m t.c) r m)%101;rw[e1,e2];unfold gV;by_cases hx:m=t.m
  ·subst hx;rw[if_pos (gF.2 rfl),if_pos (gF.2 rfl)];clear e1 e2;dsimp only;omega
  ·rw[if_neg (fun e=>hx (gF.1 e)),if_neg (fun e=>hx (gF.1 e))];clear e1 e2;dsimp only;omega
def eH:Option (List T)→List T×Bool
 |some K=>(K,true)
 |none=>([],false)
theorem dE {L:List T} (h:aV L):CI L:=fun t ht=>by have:=h.2 t ht;omega
def pA (f:Nat→T) (n:Nat):Prop:=∀i,i<n→(f i).m.ok=true∧0≤(f i).c∧(f i).c≤100
theorem fN {n:Nat} {f:Nat→T} (h:aN n f=true):n≤400∧pA f n:=by
 have hp:=h;simp only[aN,decide_eq_true_eq]at hp;refine⟨hp.1,fun i hi=>?_⟩;have:=(cD h).2 i hi
 exact⟨this.1,by omega,this.2.2⟩
theorem tY {n:Nat} {f:Nat→T} (h:aN n f=true) {i:Nat} (hi:i<n):(f i).m.ok=true∧0≤(f i).c∧(f i).c≤100:=by have:=(cD h).2 i hi;exact⟨this.1,by omega,this.2.2⟩
def qQ (a b:T) (i k:Nat):T:=⟨a.c*b.c%101*wy a.m.d b.m.x i%101*wy a.m.e b.m.y k%101,⟨a.m.x+b.m.x-i,a.m.y+b.m.y-k,a.m.d+b.m.d-i,a.m.e+b.m.e-k⟩⟩
def iX (a b:T) (i k:Nat):List T:=(List.range k).map (qQ a b i)
def dU (a b:T) (i:Nat):List T:=(List.range i).flatMap fun i=>iX a b i (fS a b+1)
theorem nZ (a b:T) (i:Nat):dU a b (i+1)=dU a b i++iX a b i (fS a b+1):=by simp[dU,List.range_succ]
theorem yH (a b:T) (i k:Nat):iX a b i (k+1)=iX a b i k++[qQ a b i k]:=by simp[iX,List.range_succ]
theorem qP {lim:Nat} {s t:Int} {k:Nat} (h:k≤lim):(lZ lim s t k).1.1=(k:Int):=if_pos h
theorem vR {a b:T} {g:M} (h:jH a b g):(iB h (zA a b)).map (·.1)=dU a b (eU a b+1):=by
 have key:∀i,i≤eU a b→((CQ a b).map (jF h (lZ (eU a b) a.m.d b.m.x i))).map (·.1)=iX a b i (fS a b+1):=fun i hi=>by
  unfold CQ iH iX;rw[List.map_map,List.map_map];refine List.map_congr_left (fun k hk=>?_);rw[List.mem_range]at hk;show oW a b g (lZ (eU a b) a.m.d b.m.x i) (lZ (fS a b) a.m.e b.m.y k)=qQ a b i k
  unfold oW qQ;rw[qP hi,qP (show k≤fS a b by omega),h.gx,h.gy,h.gd,h.ge];rfl
 have:∀n,n≤eU a b+1→(iB h (iH (eU a b) a.m.d b.m.x n)).map (·.1)=dU a b n:=fun n=>by
  induction n with
  |zero=>intro _;rfl
  |succ n ih=>
   intro hn;rw[←oZ,pX,List.map_append,ih (by omega),key n (by omega),nZ]
 exact this _ (Nat.le_refl _)
theorem wZ (c:M→Int) (xs:List TO):gZ c xs=dL c (xs.map (·.1)):=by unfold gZ dL;rw[List.foldl_map]
theorem oA {a b:T} {g:M} (h:jH a b g):IG (dU a b (eU a b+1)):=by rw[←vR h];intro t ht;obtain⟨x,_,rfl⟩:=List.mem_map.1 ht;exact x.2
def aY (a b:T):List T:=cE (dU a b (eU a b+1)) []
theorem dK {a b:T} {g:M} (h:jH a b g):aV (aY a b)∧bY (aY a b)=dL (fun _=>0) (dU a b (eU a b+1)):=dN _ [] (oA h) cL
theorem hZ {a b:T} {g:M} (h:jH a b g) {K:List T} (hK:aV K) {c:M→Int} (hc:∀m,0≤c m∧c m≤100) (hKc:∀m,m.ok=true→bY K m=c m):aV (dC K (aY a b))∧∀m,m.ok=true→bY (dC K (aY a b)) m=gZ c (iB h (zA a b)) m:=by
 have h1:=dK h;have h2:=eP hK h1.1
 refine⟨h2.1,fun m hm=>?_⟩;rw[h2.2,h1.2,hKc m hm,wZ,vR h,jI _ c m (oA h) hc]
def bO (K:List T) (a b:T):Option (List T):=if(a.m.sum b.m).ok=true∧(dC K (aY a b)).length≤400 then some (dC K (aY a b))else none
def fJ (K:List T) (a:T) (g:Nat→T):Nat→Option (List T)
 |0=>some K
 |k+1=>(fJ K a g k).bind fun K'=>bO K' a (g k)
def dD (f:Nat→T) (g:Nat→T) (lb:Nat):Nat→Option (List T)
 |0=>some []
 |i+1=>(dD f g lb i).bind fun K=>fJ K (f i) g lb
theorem kD {K:List T} {a:T} {g:Nat→T} {k:Nat} (h:fJ K a g k=none):∀j,k≤j→fJ K a g j=none:=fun j hj=>by
 induction j with
 |zero=>
  have e:k=0:=by omega
  rw[e]at h;exact h
 |succ j ih=>
  by_cases e:k=j+1
  ·rw[←e];exact h
  ·rw[fJ,ih (by omega)];rfl
theorem jZ {f g:Nat→T} {lb i:Nat} (h:dD f g lb i=none):∀j,i≤j→dD f g lb j=none:=fun j hj=>by
 induction j with
 |zero=>
  have e:i=0:=by omega
  rw[e]at h;exact h
 |succ j ih=>
  by_cases e:i=j+1
  ·rw[←e];exact h
  ·rw[dD,ih (by omega)];rfl
def aX (f:Nat→T) (la:Nat) (g:Nat→T) (lb:Nat):List T×Bool:=if aN la f=true∧aN lb g=true then eH (dD f g lb la)else([],false)
theorem BO {K:List T} {a:T} {g:Nat→T} (hK:K.length≤400):∀k K',fJ K a g k=some K'→K'.length≤400
 |0,K',h=>by cases h;exact hK
 |k+1,K',h=>by
  rw[fJ]at h;cases hr:fJ K a g k with
  |none=>rw[hr]at h;cases h
  |some K1=>
   rw[hr]at h;change bO K1 a (g k)=some K' at h;unfold bO at h;split at h
   ·rename_i hh;cases h;exact hh.2
   ·cases h
theorem fT {f g:Nat→T} {lb:Nat}:∀i K,dD f g lb i=some K→K.length≤400
 |0,K,h=>by cases h;exact gC _
 |i+1,K,h=>by
  rw[dD]at h;cases hr:dD f g lb i with
  |none=>rw[hr]at h;cases h
  |some K1=>
   rw[hr]at h;exact BO (fT i K1 hr) lb K h
theorem jA (f:Nat→T) (la:Nat) (g:Nat→T) (lb:Nat):(aX f la g lb).1.length≤400:=by
 unfold aX;split
 ·cases h:dD f g lb la with
  |none=>simp[eH]
  |some K=>exact fT la K h
 ·simp
open Go.RowKit Go.Maps
theorem ET (w:World) (a b:Option Addr) (la ca lb cb:Nat) (f g:Nat→T) (ha:Rd w a la ca f) (hb:Rd w b lb cb g):Calls Tryz.prog 39 #[.slice a la ca,.slice b lb cb] w fun r w'=>∃v,r= .returned (.tuple #[v,.bool (aX f la g lb).2])∧Below w.heap.size w w'∧w'.ownsRow w.heap.size 80 5 v (aX f la g lb).1.length (aF (aX f la g lb).1):=by
 have HA:=aA ha;have HB:=aA hb
 have hla:(la:Int)≤140737488351232:=by have:=ha.2.1;omega
 have hlb:(lb:Int)≤140737488351232:=by have:=hb.2.1;omega
 clear ha hb;cases hpa:aN la f
 ·have e1:aX f la g lb=([],false):=by simp[aX,hpa]
  rw[e1];go_enter Tryz.func39,Tryz.ntmps39;go_wp2_with (go_at_call 44;refine(dM _ _ _ _ f HA.out).mono ?_;rw[hpa];rintro r w1 ⟨rfl,hb1⟩;have HB1:=aA hb1;clear hb1);refine bT (results_tmp2 rfl _ _ _) rfl ?_;exact⟨_,rfl,HB1.out,dQ w1 _⟩
 ·cases hpb:aN lb g
  ·have e1:aX f la g lb=([],false):=by simp[aX,hpb]
   rw[e1];go_enter Tryz.func39,Tryz.ntmps39
   go_wp2_with (first
    |(go_at_call_of 44 (Value.slice a la ca);refine(dM _ _ _ _ f HA.out).mono ?_;rw[hpa];rintro r w1 ⟨rfl,hb1⟩;have HB1:=aA hb1;clear hb1)
    |(go_at_call_of 44 (Value.slice b lb cb);refine(dM _ _ _ _ g (HB.out.below HB1.out)).mono ?_;rw[hpb];rintro r w2 ⟨rfl,hb2⟩;have HB2:=aA hb2;clear hb2))
   refine bT (results_tmp2 rfl _ _ _) rfl ?_;exact⟨_,rfl,aC HB1.out HB2.out,dQ w2 _⟩
  ·have e2:aX f la g lb=eH (dD f g lb la):=by simp[aX,hpa,hpb]
   rw[e2];clear e2;have l1:la≤400:=by have h:=hpa;simp only[aN,decide_eq_true_eq]at h;exact h.1
   have l2:lb≤400:=by have h:=hpb;simp only[aN,decide_eq_true_eq]at h;exact h.1
   have HPA:=aA hpa;have HPB:=aA hpb
   have hmm:=@run_makeMap Tryz.prog;go_enter Tryz.func39,Tryz.ntmps39
   go_wp2_with (first
    |(go_at_call_of 44 (Value.slice a la ca);refine(dM _ _ _ _ f HA.out).mono ?_;rw[hpa];rintro r w1 ⟨rfl,hb1⟩;have HB1:=aA hb1;clear hb1)
    |(go_at_call_of 44 (Value.slice b lb cb);refine(dM _ _ _ _ g (HB.out.below HB1.out)).mono ?_;rw[hpb];rintro r w2 ⟨rfl,hb2⟩;have HB2:=aA (aC HB1.out hb2);clear hb2))
   clear hpa hpb;have HRA:=aA (HA.out.below HB2.out)
   have HRB:=aA (HB.out.below HB2.out);have HNA:=aA (HRA.out.apart (Nat.le_refl _))
   have HNB:=aA (HRB.out.apart (Nat.le_refl _));have hlo:w.heap.size≤w2.heap.size:=HB2.out.size
   have HS0:=aA ((rY w2).cap);have HG0:=aA (World.grownBy_alloc w2 (.map #[] 0) (some w2.heap.size))
   generalize hw3:w2.alloc (.map #[] 0)=w3 at *;clear hw3 hmm;go_loopw [22] (fun v wr=>∃(i:Nat) (K:List T) (c:M→Int),i≤la∧v= .int .i64 (i:Int)∧dD f g lb i=some K∧aV K∧(∀m,m.ok=true→bY K m=c m)∧eF wr w2.heap.size 65536 c∧w2.grownBy wr (some w2.heap.size)) (fun v _=>la-(intOf v).toNat);case atStart=>exact⟨0,[],fun _=>0,gC _,rfl,rfl,cL,fun _ _=>rfl,HS0.out,HG0.out⟩
   case round=>
    obtain⟨i,K,c,hi,rfl,hM,hKf,hKc,hS,hg⟩:=hrel;by_cases hlt:i<la
    ·have hil:(i:Int)<(la:Int):=by omega
     have hri:=HRA.out.grown hg HNA.out;rcases hri.2.2 with h0|⟨pb,off,hpe,hblt,hcl⟩
     ·omega
     obtain⟨g0,g1,g2,g3,g4⟩:=hcl i hlt;have hfi:=tY HPA.out hlt
     have HS:=aA hS;have HG:=aA hg
     have HM:=aA hM;clear hcl hri hS hg hM;subst hpe;go_wp2;have hT1:bB (wr.alloc (.cells #[.int .i64 (f i).c,.int .i64 (f i).m.x,.int .i64 (f i).m.y,.int .i64 (f i).m.d,.int .i64 (f i).m.e] 80)) wr.heap.size (f i):=World.alloc_heap_new wr _
     have HS1:=aA (HS.out.grown (World.grownBy_alloc wr (.cells #[.int .i64 (f i).c,.int .i64 (f i).m.x,.int .i64 (f i).m.y,.int .i64 (f i).m.d,.int .i64 (f i).m.e] 80) none) (by simp));have HG1:=aA (HG.out.trans (World.grownBy_alloc wr (.cells #[.int .i64 (f i).c,.int .i64 (f i).m.x,.int .i64 (f i).m.y,.int .i64 (f i).m.d,.int .i64 (f i).m.e] 80) (some w2.heap.size)))
     have hbl:w2.heap.size<wr.heap.size:=HS.out.lt;have hs1:(wr.alloc (.cells #[.int .i64 (f i).c,.int .i64 (f i).m.x,.int .i64 (f i).m.y,.int .i64 (f i).m.d,.int .i64 (f i).m.e] 80)).heap.size=wr.heap.size+1:=by simp
     clear g0 g1 g2 g3 g4;generalize wr.alloc (.cells #[.int .i64 (f i).c,.int .i64 (f i).m.x,.int .i64 (f i).m.y,.int .i64 (f i).m.d,.int .i64 (f i).m.e] 80)=wi at *;generalize wr.heap.size=Bf at *;go_loopw [28] (fun v wr'=>∃(k:Nat) (K':List T) (c':M→Int),k≤lb∧v= .int .i64 (k:Int)∧fJ K (f i) g k=some K'∧aV K'∧(∀m,m.ok=true→bY K' m=c' m)∧eF wr' w2.heap.size 65536 c'∧w2.grownBy wr' (some w2.heap.size)∧bB wr' Bf (f i)) (fun v _=>lb-(intOf v).toNat);case atStart=>exact⟨0,K,c,gC _,rfl,rfl,hKf,hKc,HS1.out,HG1.out,hT1⟩
     case round=>
      obtain⟨k,K',c',hk,rfl,hM',hKf',hKc',hS',hg',hT'⟩:=hrel;by_cases hlt2:k<lb
      ·have hkl:(k:Int)<(lb:Int):=by omega
       have hrk:=HRB.out.grown hg' HNB.out;rcases hrk.2.2 with h0|⟨pb2,off2,hpe2,hblt2,hcl2⟩
       ·omega
       obtain⟨g0,g1,g2,g3,g4⟩:=hcl2 k hlt2;obtain⟨t0,t1,t2,t3,t4⟩:=hT'.cells;have hgk:=tY HPB.out hlt2
       have htl:Bf<wr.heap.size:=(Array.getElem?_eq_some_iff.1 hT').1;have HSk:=aA (hS'.grown (World.grownBy_alloc wr (.cells #[.int .i64 (g k).c,.int .i64 (g k).m.x,.int .i64 (g k).m.y,.int .i64 (g k).m.d,.int .i64 (g k).m.e] 80) none) (by simp))
       have HGk:=aA (hg'.trans (World.grownBy_alloc wr (.cells #[.int .i64 (g k).c,.int .i64 (g k).m.x,.int .i64 (g k).m.y,.int .i64 (g k).m.d,.int .i64 (g k).m.e] 80) (some w2.heap.size)));have HTk:Hid (bB (wr.alloc (.cells #[.int .i64 (g k).c,.int .i64 (g k).m.x,.int .i64 (g k).m.y,.int .i64 (g k).m.d,.int .i64 (g k).m.e] 80)) Bf (f i)):=(Below.heap_alloc _ _ _ htl).trans hT'
       have HMk:=aA hM';have hcr:=hS'.range
       clear hcl2 hrk hS' hg' hM' hT';subst hpe2;by_cases hok:((f i).m.sum (g k).m).ok=true
       ·have hTwo:jH (f i) (g k) ((f i).m.sum (g k).m):=jH.of hfi.1 hgk.1 hok hfi.2 hgk.2;obtain⟨nf,nc⟩:=hZ hTwo hKf' hcr hKc';have hcall:=jJ _ w2.heap.size c' HSk.out (f i) (g k) hTwo nf nc
        by_cases h4:(dC K' (aY (f i) (g k))).length≤400
        ·have hstep:fJ K (f i) g (k+1)=some (dC K' (aY (f i) (g k))):=by rw[fJ,HMk.out];show bO _ _ _=_;unfold bO;rw[if_pos ⟨hok,h4⟩]
         have HST:=aA hstep;rw[decide_eq_true h4]at hcall;clear hstep;go_wp2_with (go_at_call 79;refine hcall.mono ?_;rintro r w6 ⟨rfl,hs6,hg6⟩;have HS6:=aA hs6;have HG6:=aA hg6;clear hs6 hg6);go_roundw;case rel=>exact⟨k+1,_,_,by omega,by go_num,HST.out,nf,nc,HS6.out,HGk.out.trans HG6.out,(HG6.out.block _ (by simp;omega) (fun e=>by cases e;omega)).trans HTk.out⟩
         case measure=>simp[intOf];omega
        ·have hstep:fJ K (f i) g (k+1)=none:=by rw[fJ,HMk.out];show bO _ _ _=_;unfold bO;rw[if_neg (fun h=>h4 h.2)]
         have hno:dD f g lb la=none:=jZ (i:=i+1) (by rw[dD,HM.out];exact kD hstep lb (by omega)) la (by omega);rw[decide_eq_false h4]at hcall;clear hstep;go_wp2_with (go_at_call 79;refine hcall.mono ?_;rintro r w6 ⟨rfl,hs6,hg6⟩;have HG6:=aA hg6;clear hs6 hg6);refine bT (results_tmp2 rfl _ _ _) rfl ?_;rw[hno];exact⟨_,rfl,HB2.out.grown (HGk.out.trans HG6.out) hlo (fun k' e=>by cases e;exact hlo),dQ w6 _⟩
       ·have hstep:fJ K (f i) g (k+1)=none:=by rw[fJ,HMk.out];show bO _ _ _=_;unfold bO;rw[if_neg (fun h=>hok h.1)]
        have hno:dD f g lb la=none:=jZ (i:=i+1) (by rw[dD,HM.out];exact kD hstep lb (by omega)) la (by omega);have hcall:=xA (wr.alloc (.cells #[.int .i64 (g k).c,.int .i64 (g k).m.x,.int .i64 (g k).m.y,.int .i64 (g k).m.d,.int .i64 (g k).m.e] 80)) w2.heap.size (f i) (g k) hfi.1 hgk.1 (by simpa using hok)
        clear hstep;go_wp2_with (go_at_call 79;refine hcall.mono ?_;rintro r w6 ⟨rfl,hb6⟩;have HG6:=aA (dX hb6 (some w2.heap.size));clear hb6);refine bT (results_tmp2 rfl _ _ _) rfl ?_;rw[hno];exact⟨_,rfl,HB2.out.grown (HGk.out.trans HG6.out) hlo (fun k' e=>by cases e;exact hlo),dQ w6 _⟩
      ·obtain rfl:k=lb:=by omega
       have HMk:Hid (dD f g k (i+1)=some K'):=by show _=_;rw[dD,HM.out];exact hM'
       have HSk:=aA hS';have HGk:=aA hg'
       clear hS' hg' hM' hT';go_wp2;go_roundw;case rel=>exact⟨i+1,K',c',by omega,by go_num,HMk.out,hKf',hKc',HSk.out,HGk.out⟩
       case measure=>simp[intOf];omega
    ·obtain rfl:i=la:=by omega
     have hKl:=fT _ _ hM;have e3:eH (dD f g lb i)=gB K:=by rw[hM];simp[eH,gB,hKl]
     go_wp2_with (go_at_call 80;refine(rZ _ _ _ _ hS (by omega) hKf hKc).mono ?_;rintro r w5 ⟨v,rfl,hb5,ho5⟩);refine bT (results_tmp2 rfl _ _ _) rfl ?_;rw[e3];have hB4:Below w.heap.size w wr:=HB2.out.grown hg hlo (fun k' e=>by cases e;exact hlo)
     exact⟨_,rfl,hB4.trans (hb5.mono hB4.size),dJ ho5 hB4.size⟩
theorem nP (w:World) (a b:Option Addr) (la ca lb cb:Nat) (f g:Nat→T) (ha:Rd w a la ca f) (hb:Rd w b lb cb g):Calls Tryz.prog 39 #[.slice a la ca,.slice b lb cb] w fun r w'=>∃a' cap',r= .returned (.tuple #[.slice a' (aX f la g lb).1.length cap',.bool (aX f la g lb).2])∧Below w.heap.size w w'∧mB w.heap.size w' a' cap' (aX f la g lb).1:=by
 refine(ET w a b la ca lb cb f g ha hb).mono ?_;rintro r w' ⟨v,rfl,hb1,ho1⟩;have hlen:=jA f la g lb
 obtain⟨a',cap',rfl,hout⟩:=aM ho1 (by omega);exact⟨a',cap',rfl,hb1,hout⟩
end Go.Proofs.YtoglomfejgpoeaaGreatDoor
