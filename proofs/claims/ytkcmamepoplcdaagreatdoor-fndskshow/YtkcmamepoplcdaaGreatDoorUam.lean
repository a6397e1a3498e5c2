/-
  Products of operators: their lists and numbers.
-/
import Derived.Test.YtkcmamepoplcdaaGreatDoorUal
namespace Go.Proofs.YtkcmamepoplcdaaGreatDoor
open Go.RowKit
set_option linter.unusedVariables false
def EN (a b:T) (i k:Nat):T:=⟨a.c*b.c%101*wy a.m.d b.m.x i%101*wy a.m.e b.m.y k%101,⟨a.m.x+b.m.x-i,a.m.y+b.m.y-k,a.m.d+b.m.d-i,a.m.e+b.m.e-k⟩⟩
def JA (a b:T) (i k:Nat):List T:=(List.range k).map (EN a b i)
def mZ (a b:T) (i:Nat):List T:=(List.range i).flatMap fun i=>JA a b i (kF a b+1)
theorem vU (a b:T) (i:Nat):mZ a b (i+1)=mZ a b i++JA a b i (kF a b+1):=by simp[mZ,List.range_succ]
theorem rB {lim:Nat} {s t:Int} {k:Nat} (h:k≤lim):(mA lim s t k).1.1=(k:Int):=if_pos h
theorem xH {a b:T} {g:M} (h:mV a b g):(gW h (BP a b)).map (·.1)=mZ a b (gG a b+1):=by
 have key:∀i,i≤gG a b→((FM a b).map (iU h (mA (gG a b) a.m.d b.m.x i))).map (·.1)=JA a b i (kF a b+1):=fun i hi=>by
  unfold FM hZ JA;rw[List.map_map,List.map_map];refine List.map_congr_left (fun k hk=>?_);rw[List.mem_range]at hk;show pA a b g (mA (gG a b) a.m.d b.m.x i) (mA (kF a b) a.m.e b.m.y k)=EN a b i k
  unfold pA EN;rw[rB hi,rB (show k≤kF a b by omega),h.gx,h.gy,h.gd,h.ge];rfl
 have:∀n,n≤gG a b+1→(gW h (hZ (gG a b) a.m.d b.m.x n)).map (·.1)=mZ a b n:=fun n=>by
  induction n with
  |zero=>intro _;rfl
  |succ n ih=>
   intro hn;rw[←pD,qC,List.map_append,ih (by omega),key n (by omega),vU]
 exact this _ (Nat.le_refl _)
theorem yR (c:M→Int) (xs:List TO):gR c xs=cY c (xs.map (·.1)):=by unfold gR cY;rw[List.foldl_map]
theorem tZ {a b:T} {g:M} (h:mV a b g):NU (mZ a b (gG a b+1)):=by rw[←xH h];intro t ht;obtain⟨x,_,rfl⟩:=List.mem_map.1 ht;exact x.2
def eL (a b:T):List T:=fM (mZ a b (gG a b+1)) []
theorem uP {a b:T} {g:M} (h:mV a b g):bE (eL a b)∧bG (eL a b)=cY (fun _=>0) (mZ a b (gG a b+1)):=fR _ [] (tZ h) gX
theorem gU {a b:T} {g:M} (h:mV a b g) {K:List T} (hK:bE K) {c:M→Int} (hc:∀m,0≤c m∧c m≤100) (hKc:∀m,m.ok=true→bG K m=c m):bE (gT K (eL a b))∧∀m,m.ok=true→bG (gT K (eL a b)) m=gR c (gW h (BP a b)) m:=by
 have h1:=uP h;have h2:=vM hK h1.1
 refine⟨h2.1,fun m hm=>?_⟩;rw[h2.2,h1.2,hKc m hm,yR,xH h,jC _ c m (tZ h) hc]
def eX (K:List T) (a b:T):Option (List T):=if(a.m.sum b.m).ok=true∧(gT K (eL a b)).length≤400 then some (gT K (eL a b))else none
def kS (K:List T) (a:T) (g:Nat→T):Nat→Option (List T)
 |0=>some K
 |k+1=>(kS K a g k).bind fun K'=>eX K' a (g k)
def iY (f:Nat→T) (g:Nat→T) (lb:Nat):Nat→Option (List T)
 |0=>some []
 |i+1=>(iY f g lb i).bind fun K=>kS K (f i) g lb
theorem qY {K:List T} {a:T} {g:Nat→T} {k:Nat} (h:kS K a g k=none):∀j,k≤j→kS K a g j=none:=fun j hj=>by
 induction j with
 |zero=>
  have e:k=0:=by omega
  rw[e]at h;exact h
 |succ j ih=>
  by_cases e:k=j+1
  ·rw[←e];exact h
  ·rw[kS,ih (by omega)];rfl
theorem qP {f g:Nat→T} {lb i:Nat} (h:iY f g lb i=none):∀j,i≤j→iY f g lb j=none:=fun j hj=>by
 induction j with
 |zero=>
  have e:i=0:=by omega
  rw[e]at h;exact h
 |succ j ih=>
  by_cases e:i=j+1
  ·rw[←e];exact h
  ·rw[iY,ih (by omega)];rfl
def bV (f:Nat→T) (la:Nat) (g:Nat→T) (lb:Nat):List T×Bool:=if aJ la f=true∧aJ lb g=true then pJ (iY f g lb la)else([],false)
theorem DZ {K:List T} {a:T} {g:Nat→T} (hK:K.length≤400):∀k K',kS K a g k=some K'→K'.length≤400
 |0,K',h=>by cases h;exact hK
 |k+1,K',h=>by
  rw[kS]at h;cases hr:kS K a g k with
  |none=>rw[hr]at h;cases h
  |some K1=>
   rw[hr]at h;change eX K1 a (g k)=some K' at h;unfold eX at h;split at h
   ·rename_i hh;cases h;exact hh.2
   ·cases h
theorem oQ {f g:Nat→T} {lb:Nat}:∀i K,iY f g lb i=some K→K.length≤400
 |0,K,h=>by cases h;exact mE _
 |i+1,K,h=>by
  rw[iY]at h;cases hr:iY f g lb i with
  |none=>rw[hr]at h;cases h
  |some K1=>
   rw[hr]at h;exact DZ (oQ i K1 hr) lb K h
theorem kX (f:Nat→T) (la:Nat) (g:Nat→T) (lb:Nat):(bV f la g lb).1.length≤400:=by
 unfold bV;split
 ·cases h:iY f g lb la with
  |none=>simp[pJ]
  |some K=>exact oQ la K h
 ·simp
def OY (c:Int) (f:Nat→T) (k:Nat):List T:=(List.range k).map fun i=>⟨c*(f i).c%101,(f i).m⟩
theorem rT (c:Int) (f:Nat→T) (n i:Nat) (h:i<n):lf (OY c f n) i=⟨c*(f i).c%101,(f i).m⟩:=by simp[lf,OY,List.getD,List.getElem?_map,List.getElem?_range h]
def oS (g:Nat→T) (lb:Nat):Nat→T:=lf (OY 100 g lb)
def jQ (f:Nat→T) (la:Nat) (g:Nat→T) (lb:Nat):List T×Bool:=
 if aJ la f=true∧aJ lb g=true∧(cR f la (oS g lb) lb 0 0).length≤400 then(cR f la (oS g lb) lb 0 0,true)else([],false)
theorem wI (f:Nat→T) (la:Nat) (g:Nat→T) (lb:Nat):(jQ f la g lb).1.length≤400:=by
 unfold jQ;split
 ·rename_i h;exact h.2.2
 ·simp
theorem xZ {n:Nat} {f:Nat→T} (h:aJ n f=true):∀i,i<n→(f i).m.ok=true:=by
 intro i hi;simp only[aJ,decide_eq_true_eq]at h;have:=h.2 i hi
 simp only[eF,Bool.and_eq_true,decide_eq_true_eq]at this;exact this.1.2
def cZ (n:Nat) (f:Nat→T):Bool:=aJ n f&&decide (∀i,i<n→(f i).m.d+(f i).m.e≤0)
def tV (a b:T):T:=⟨lJ (lJ a.c b.c) (lJ (nA b.m.x a.m.d) (nA b.m.y a.m.e)),⟨b.m.x-a.m.d+a.m.x,b.m.y-a.m.e+a.m.y,0,0⟩⟩
abbrev DT:Type:={t:T // 0≤t.c∧t.c≤100∧t.m.d=0∧t.m.e=0}
def KJ (x:DT):Array Value:=#[.agg #[.int .i64 x.1.c,.int .i64 x.1.m.x,.int .i64 x.1.m.y,.int .i64 x.1.m.d,.int .i64 x.1.m.e]]
def MP (a b:T):DT:=⟨tV a b,(xI _ _).1,(xI _ _).2,rfl,rfl⟩
def MC (a b:T):List DT:=if b.m.x<a.m.d∨b.m.y<a.m.e then[]else[MP a b]
def dU (a:T) (g:Nat→T):Nat→List DT
 |0=>[]
 |k+1=>dU a g k++MC a (g k)
def cX (f g:Nat→T) (lb:Nat):Nat→List DT
 |0=>[]
 |i+1=>cX f g lb i++dU (f i) g lb
theorem FZ (a b:T):(MC a b).length≤1:=by unfold MC;split<;>simp
theorem mP (a:T) (g:Nat→T):∀k,(dU a g k).length≤k
 |0=>Nat.le_refl _
 |k+1=>by have h1:=mP a g k;have h2:=FZ a (g k);rw[dU,List.length_append];omega
theorem pQ (f g:Nat→T) (lb:Nat):∀i,(cX f g lb i).length≤i*lb
 |0=>mE _
 |i+1=>by have h1:=pQ f g lb i;have h2:=mP (f i) g lb;rw[cX,List.length_append,Nat.succ_mul];omega
theorem qX        (a : T) (g : Nat → T) {k : Nat} : ∀ {j : Nat}, k ≤ j → dU    a g k <+: dU    a g j
  | 0, h => by obtain rfl : k = 0 := by omega
               exact List.prefix_refl _
  | j + 1, h => by
    by_cases e : k = j + 1
    · rw [e]
      exact List.prefix_refl _
    · exact (qX        a g (j := j) (by omega)).trans (List.prefix_append _ _)
theorem pR        (f g : Nat → T) (lb : Nat) {k : Nat} : ∀ {j : Nat}, k ≤ j → cX    f g lb k <+: cX    f g lb j
  | 0, h => by obtain rfl : k = 0 := by omega
               exact List.prefix_refl _
  | j + 1, h => by
    by_cases e : k = j + 1
    · rw [e]
      exact List.prefix_refl _
    · exact (pR        f g lb (j := j) (by omega)).trans (List.prefix_append _ _)
theorem AA (f g:Nat→T) (lb la:Nat) {i k:Nat} (hi:i<la) (hk:k≤lb):cX f g lb i++dU (f i) g k<+:cX f g lb la:=by refine List.IsPrefix.trans ?_ (pR f g lb (k:=i+1) (j:=la) (by omega));rw[cX];exact(List.prefix_append_right_inj _).2 (qX _ _ hk)
def gI (L:List DT):Bool:=L.all (fun t=>t.1.m.ok)
theorem iD (L R:List DT):gI (L++R)=(gI L&&gI R):=by simp[gI]
theorem yT {L R:List DT} (h:L<+:R) (hL:gI L=false):gI R=false:=by obtain⟨X,rfl⟩:=h;rw[iD,hL];rfl
def iV (f:Nat→T) (la:Nat) (g:Nat→T) (lb:Nat):List T×Bool:=if aJ la f=true∧cZ lb g=true then(if gI (cX f g lb la)=true then(fM ((cX f g lb la).map (·.1)) [],true)else([],false))else([],false)
theorem EP {L:List DT} (h:gI L=true):NU (L.map (·.1)):=by
 intro t ht;obtain⟨x,hx,rfl⟩:=List.mem_map.1 ht;have hx2:=x.2
 exact⟨(List.all_eq_true.1 h) x hx,hx2.1,hx2.2.1⟩
theorem kI (m:M):∀(xs:List T) (c:M→Int),(∀t∈xs,t.m≠m)→cY c xs m=c m
 |[],c,_=>rfl
 |t::r,c,h=>by show cY (gH c t.m t.c) r m=_;rw[kI m r _ (fun s hs=>h s (List.mem_cons_of_mem _ hs)),kV (fun e=>h t (List.mem_cons_self ..) e.symm)]
theorem tO {L:List T} (h:bE L) {t:T} (ht:t∈L):bG L t.m=t.c:=by
 induction L with
 |nil=>cases ht
 |cons s r ih=>
  rw[bG];rcases List.mem_cons.1 ht with rfl|ht'
  ·rw[if_pos (bL.2 rfl)]
  ·have h1:=(List.pairwise_cons.1 h.1).1 t ht';rw[if_neg (fun e=>by rw[bL.1 e]at h1;omega)];exact ih h.tail ht'
def allF:List M:=(List.range 16).flatMap fun(x:Nat)=>(List.range 16).map fun(y:Nat)=>(⟨(x:Int),(y:Int),0,0⟩:M)
theorem BL:allF.length=256:=by unfold allF;rw[jH 16 _ (fun x=>by simp)];simp
theorem BM {m:M} (h:m.ok=true) (hd:m.d=0) (he:m.e=0):m∈allF:=by obtain⟨x1,x2,y1,y2,d1,d2,e1,e2⟩:=M.ok_iff.1 h;unfold allF;refine List.mem_flatMap.2 ⟨m.x.toNat,List.mem_range.2 (by omega),List.mem_map.2 ⟨m.y.toNat,List.mem_range.2 (by omega),?_⟩⟩;cases m;simp only at x1 y1 hd he⊢;rw[Int.toNat_of_nonneg x1,Int.toNat_of_nonneg y1,hd,he]
theorem qB {L:List DT} (h:gI L=true):(fM (L.map (·.1)) []).length≤256:=by
 have hf:=fR (L.map (·.1)) [] (EP h) gX;have hnd:((fM (L.map (·.1)) []).map (·.m)).Nodup:=by rw[List.Nodup,List.pairwise_map];exact hf.1.1.imp (fun{a b} hab e=>by rw[e]at hab;omega)
 haveI:DecidableEq M:=fun a b=>Classical.propDecidable (a=b)
 have hl:=iN ((fM (L.map (·.1)) []).map (·.m)) allF hnd (fun m hm=>by
  obtain⟨t,ht,rfl⟩:=List.mem_map.1 hm;have hr:=hf.1.2 t ht
  by_cases hx:∃s∈L.map (·.1),s.m=t.m
  ·obtain⟨s,hs,he⟩:=hx;obtain⟨x,_,rfl⟩:=List.mem_map.1 hs;have hx2:=x.2
   rw[←he]at hr⊢;exact BM hr.1 hx2.2.2.1 hx2.2.2.2
  ·exfalso;have h0:=tO hf.1 ht
   rw[hf.2,kI t.m _ _ (fun s hs e=>hx ⟨s,hs,e⟩)]at h0;change (0:Int)=t.c at h0
   omega)
 rw[BL,List.length_map]at hl;exact hl
theorem AP (f:Nat→T) (la:Nat) (g:Nat→T) (lb:Nat):(iV f la g lb).1.length≤400:=by
 unfold iV;split
 ·split
  ·rename_i h;have:=qB h
   show(fM _ []).length≤400;omega
  ·simp
 ·simp
theorem rI (xs:List T) (t:T) (c:M→Int):cY c (xs++[t])=gH (cY c xs) t.m t.c:=by simp[cY]
end Go.Proofs.YtkcmamepoplcdaaGreatDoor
