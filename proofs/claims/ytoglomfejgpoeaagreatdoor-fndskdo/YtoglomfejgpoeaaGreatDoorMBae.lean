/-
  A copy of lists, its blocks rise; and it is marked.
  Operators as lists: sums, differences, so many times, the most that is counted.
  What the functions over operators hand back, as lists.
-/
import Derived.Test.YtoglomfejgpoeaaGreatDoorMax
import Derived.Test.YtoglomfejgpoeaaGreatDoorMBad
set_option maxHeartbeats 8000000
set_option maxRecDepth 100000
namespace Go.Proofs.YtoglomfejgpoeaaGreatDoor
open Go.RowKit Go.Deep Go.Joins
set_option linter.unusedVariables false
end Go.Proofs.YtoglomfejgpoeaaGreatDoor
namespace Go.Proofs.YtoglomfejgpoeaaGreatDoor
open Go.RowKit
set_option linter.unusedVariables false
def xX (L:List T):Bool:=aN L.length (lf L)
theorem oS {L:List T} (hl:L.length≤400) (h:aV L):xX L=true:=by
 unfold xX aN;rw[decide_eq_true_eq];refine⟨hl,fun i hi=>?_⟩;have h1:=h.2 (L[i]) (List.getElem_mem hi)
 simp only[eW,Bool.and_eq_true,Bool.or_eq_true,decide_eq_true_eq];rw[vZ hi];refine⟨⟨h1.2,h1.1⟩,?_⟩;by_cases h0:i=0
 ·exact .inl h0
 ·refine .inr ?_;have hi1:i-1<L.length:=by omega
  rw[vZ hi1];exact(kC (h.2 _ (List.getElem_mem hi1)).1 h1.1).2 ((List.pairwise_iff_getElem.1 h.1) (i-1) i hi1 hi (by omega))
def sq (L K:List T):Bool:=bL L.length (lf L) K.length (lf K)
theorem gI (L:List T):sq L L=true:=fH _ _
def JF (w:World) (v:Value) (e:Ending) (w':World):Prop:=e= .returned v∧Below w.heap.size w w'
theorem uE {w:World} {a:Option Addr} {n cap:Nat} {f g:Nat→T} (h:Rd w a n cap f) (e:∀i,i<n→f i=g i):Rd w a n cap g:=
 ⟨h.1,h.2.1,h.2.2.imp id (fun⟨b,off,h1,h2,h3⟩=>⟨b,off,h1,h2,fun i hi=>by rw[←e i hi];exact h3 i hi⟩)⟩
theorem GQ (w:World) (t:T):RL (w.alloc (.cells #[.int .i64 t.c,.int .i64 t.m.x,.int .i64 t.m.y,.int .i64 t.m.d,.int .i64 t.m.e] 80)) (some ⟨w.heap.size,0,none⟩) 1 [t]:=
 uE (n:=1) (g:=lf [t]) (BK w t) (fun i hi=>by
  have h0:i=0:=by omega
  subst h0
  rfl)
variable {w:World} {a b:Option Addr} {ca cb:Nat} {L K:List T}
theorem lR (ha:RL w a ca L):Calls Tryz.prog 44 #[.slice a L.length ca] w (JF w (.bool (xX L))):=dM w a L.length ca (lf L) ha
theorem rE (ha:RL w a ca L) (hb:RL w b cb K):Calls Tryz.prog 35 #[.slice a L.length ca,.slice b K.length cb] w (JF w (.bool (sq L K))):=DM w a b L.length ca K.length cb (lf L) (lf K) ha hb
theorem GB (w:World):Calls Tryz.prog 37 #[] w (JF w (.bool true)):=by
 have h1:∀u:World,Calls Tryz.prog 77 #[] u fun e w'=>e= .returned (.slice (some ⟨u.heap.size,0,none⟩) 1 1)∧Below u.heap.size u w'∧RL w' (some ⟨u.heap.size,0,none⟩) 1 [⟨1,⟨0,0,0,0⟩⟩]:=fun u=>by go_enter Tryz.func77,Tryz.ntmps77;go_wp2;go_ret;exact⟨rfl,aG u _,GQ u ⟨1,⟨0,0,0,0⟩⟩⟩
 have h2:xX [⟨1,⟨0,0,0,0⟩⟩]=true:=by decide
 go_enter Tryz.func37,Tryz.ntmps37;go_wp2_with fail;refine(h1 _).mono ?_;rintro e w1 ⟨rfl,hb1,hr1⟩;have HR1:=aA hr1
 have HB1:=aA hb1;clear hr1 hb1;go_wp2_with fail;refine(lR HR1.out).mono ?_;rw[h2];rintro e w2 ⟨rfl,hb2⟩;go_wp2;go_ret;exact⟨rfl,aC HB1.out hb2⟩
end Go.Proofs.YtoglomfejgpoeaaGreatDoor
namespace Go.Proofs.YtoglomfejgpoeaaGreatDoor
open Go.RowKit
set_option linter.unusedVariables false
theorem Rd.setOther {w:World} {a:Option Addr} {n cap g o:Nat} {f:Nat→T} {v:Value} (h:Rd w a n cap f) (hne:n=0∨∀b off,a=some ⟨b,off,none⟩→b≠g):Rd (w.setCell ⟨g,o,none⟩ v) a n cap f:=
 h.grown (row:=some g) ⟨rfl,rfl,rfl,by simp[World.setCell],fun k _ hk=>Below.heap_setCell _ _ _ _ (fun e=>hk (by rw[e]))⟩ (hne.imp id (fun k b off he hb=>k b off he (by cases hb;rfl)))
theorem Rd.beside {w w':World} {a:Option Addr} {n cap B:Nat} {f:Nat→T} (h:Rd w a n cap f) (hb:aH B w w') (hne:n=0∨∀b off,a=some ⟨b,off,none⟩→b≠B):Rd w' a n cap f:=
 h.grown (kZ hb) (hne.imp id (fun k b off he hb=>k b off he (by cases hb;rfl)))
theorem nD {K:List T} {a:T} {g:Nat→T} {lb:Nat} (hK:aV K) (ha:a.m.ok=true∧0≤a.c∧a.c≤100) (hg:pA g lb):∀k K',k≤lb→fJ K a g k=some K'→aV K'
 |0,K',_,h=>by cases h;exact hK
 |k+1,K',hk,h=>by
  rw[fJ]at h;cases hr:fJ K a g k with
  |none=>rw[hr]at h;cases h
  |some K1=>
   rw[hr]at h;change bO K1 a (g k)=some K' at h;have h1:=nD hK ha hg k K1 (by omega) hr
   unfold bO at h;split at h
   ·rename_i hok;cases h;have h2:=hg k (by omega)
    exact(eP h1 (dK ⟨ha.1,h2.1,hok.1,rfl,rfl,rfl,rfl,ha.2,h2.2⟩).1).1
   ·cases h
theorem nB {f g:Nat→T} {la lb:Nat} (hf:pA f la) (hg:pA g lb):∀i K,i≤la→dD f g lb i=some K→aV K
 |0,K,_,h=>by cases h;exact cL
 |i+1,K,hi,h=>by
  rw[dD]at h;cases hr:dD f g lb i with
  |none=>rw[hr]at h;cases h
  |some K1=>
   rw[hr]at h;exact nD (nB hf hg i K1 (by omega) hr) (hf i (by omega)) hg lb K (Nat.le_refl _) h
variable {w:World} {a b:Option Addr} {ca cb:Nat} {L K:List T}
end Go.Proofs.YtoglomfejgpoeaaGreatDoor
namespace Go.Proofs.YtoglomfejgpoeaaGreatDoor
open Go.RowKit
set_option linter.unusedVariables false
theorem fP (w:World) (B p:Nat) (n:Int) (h:gO w B p) (hn:1≤n) (hn':n≤1000) (hp:p≤5000):
 Calls Tryz.prog 75 #[.pointer (some ⟨B,0,none⟩),.int .i64 n] w fun r w'=>∃(a:Option Addr) (m cap:Nat) (f:Nat→T) (q:Nat),r= .returned (.slice a m cap)∧Rd w' a m cap f∧m≤5∧(m=0∨∃g off,a=some ⟨g,off,none⟩∧w.heap.size≤g)∧q≤p+700∧gO w' B q∧aH B w w':=CR w B p n h hn hn' hp
theorem mV {st:List T→T→Option (List T)} {f:Nat→T} {la:Nat} (hst:∀K t K',aV K→(t.m.ok=true∧1≤t.c∧t.c≤100)→st K t=some K'→aV K') (hf:∀i,i<la→(f i).m.ok=true∧1≤(f i).c∧(f i).c≤100):∀i K,i≤la→cQ st f i=some K→aV K
 |0,K,_,h=>by cases h;exact cL
 |i+1,K,hi,h=>by
  rw[cQ]at h;cases hr:cQ st f i with
  |none=>rw[hr]at h;cases h
  |some K1=>
   rw[hr]at h;have h1:=mV hst hf i K1 (by omega) hr
   cases hs:st K1 (f i)with
   |none=>
    have h':(st K1 (f i)).bind jP=some K:=h;rw[hs]at h';cases h'
   |some K2=>
    have h':(st K1 (f i)).bind jP=some K:=h;rw[hs]at h';have h2:jP K2=some K:=h'
    unfold jP at h2;split at h2
    ·cases h2;exact hst K1 (f i) _ h1 (hf i (by omega)) hs
    ·cases h2
theorem tM {st:List T→T→Option (List T)} (hst:∀K t K',aV K→(t.m.ok=true∧1≤t.c∧t.c≤100)→st K t=some K'→aV K') {f:Nat→T} {la:Nat} {X:List T} (h:iS st f la=(X,true)):xX X=true:=by
 unfold iS at h;split at h
 ·rename_i hok;cases hm:cQ st f la with
  |none=>rw[hm]at h;simp[eH]at h
  |some K=>
   rw[hm]at h;have e:K=X:=by simpa[eH]using h
   rw[←e];exact oS (gK _ K hm) (mV hst (fun i hi=>(cD hok).2 i hi) la K (Nat.le_refl _) hm)
 ·simp at h
theorem nE {K K':List T} {a b:T} (hK:aV K) (ha:a.m.ok=true∧0≤a.c∧a.c≤100) (hb:b.m.ok=true∧0≤b.c∧b.c≤100) (h:bO K a b=some K'):aV K':=by
 unfold bO at h;split at h
 ·rename_i hok;cases h;exact(eP hK (dK ⟨ha.1,hb.1,hok.1,rfl,rfl,rfl,rfl,ha.2,hb.2⟩).1).1
 ·cases h
theorem BN {f:Nat→T} {n:Nat} {X:List T} (h:bX f n=(X,true)):xX X=true:=
 tM (st:=dP) (fun K t K' hK ht hs=>by
  have hr:=iG t (t.m.d+t.m.e);have o:=vH ht.1
  exact nE hK ⟨o.1,hr⟩ ⟨o.2,by show(0:Int)≤1;omega,by show(1:Int)≤100;omega⟩ hs) h
theorem CU {f:Nat→T} {n:Nat} {X:List T} (h:cH f n=(X,true)):xX X=true:=
 tM (st:=eJ) (fun K t K' hK ht hs=>by
  have hr:=iG t (t.m.d+t.m.e);have o:=uP ht.1
  exact nE hK ⟨o.1,hr⟩ ⟨o.2,by show(0:Int)≤1;omega,by show(1:Int)≤100;omega⟩ hs) h
theorem IK {f g:Nat→T} {la lb:Nat} {X:List T} (h:dH f la g lb=(X,true)):xX X=true:=by
 have hl:=mQ f la g lb;unfold dH at h hl;split at h
 ·split at h
  ·rename_i h1 h2;rw[if_pos h1,if_pos h2]at hl;cases h;exact oS hl (dN _ [] (sC h2) cL).1
  ·cases h
 ·cases h
theorem AD {f:Nat→T} {n:Nat} (h:aN n f=true):pA f n:=fun i hi=>by
 have:=(cD h).2 i hi;exact⟨this.1,by omega,this.2.2⟩
theorem GO {f g:Nat→T} {la lb:Nat} {X:List T} (h:aX f la g lb=(X,true)):xX X=true:=by
 unfold aX at h;split at h
 ·rename_i hh;cases hm:dD f g lb la with
  |none=>rw[hm]at h;simp[eH]at h
  |some P=>
   rw[hm]at h;have e:P=X:=by simpa[eH]using h
   rw[←e];exact oS (fT _ P hm) (nB (AD hh.1) (AD hh.2) _ P (Nat.le_refl _) hm)
 ·cases h
theorem yU {f g:Nat→T} {la lb:Nat} {X:List T} (h:bF f la g lb=(X,true)):xX X=true:=by
 have hl:=iV f la g lb;unfold bF at h hl;split at h
 ·rename_i hh;rw[if_pos hh]at hl;cases h;exact oS hl (tU hh.1 hh.2.1).1
 ·cases h
theorem GX {f g:Nat→T} {la lb:Nat} {X:List T} (h:eC f la g lb=(X,true)):xX X=true:=by
 have hl:=kR f la g lb;unfold eC at h hl;split at h
 ·rename_i hh;rw[if_pos hh]at hl;cases h;exact oS hl (tZ hh.1 hh.2.1).1
 ·cases h
theorem xC {f g:Nat→T} {la lb:Nat} {X:List T} (h:bH f la g lb=(X,true)):xX X=true:=by
 unfold bH at h;split at h
 ·exact GX h
 ·cases h
theorem zV {k to a b:Int} {p:List T} {m:Nat} {ln:Nat→Nat} {F:Nat→Nat→T} {X:List T} (h:aJ k to a b p m ln F=(X,true)):xX X=true:=by
 unfold aJ at h;split at h
 ·next hh=>
  split at h
  ·cases h;exact(bA hh.2).2.2.2.2
  ·repeat' split at h
   ·exact yU h
   ·exact GO h
   ·exact xC h
   ·exact IK h
   ·exact BN h
   ·exact CU h
   ·exact yU h
 ·cases h
theorem zU {k to a b:Int} {p:List T} {m:Nat} {ln:Nat→Nat} {F:Nat→Nat→T} {X:List T} (h:aJ k to a b p m ln F=(X,true)):m=6∧dW k to a b p.length (lf p)≠[]:=by
 by_cases q:m=6∧dW k to a b p.length (lf p)≠[]
 ·exact q
 ·rw[nY q]at h;cases h
theorem zT {k to a b:Int} {p:List T} {m:Nat} {ln:Nat→Nat} {F:Nat→Nat→T} (q:m=6∧dW k to a b p.length (lf p)≠[]):aJ k to a b p m ln F=
 if k=1 then(p,true)
 else if k=2 then bF (F a.toNat) (ln a.toNat) (F b.toNat) (ln b.toNat)
 else if k=3 then aX (F a.toNat) (ln a.toNat) (F b.toNat) (ln b.toNat)
 else if k=4 then bH (F a.toNat) (ln a.toNat) (F b.toNat) (ln b.toNat)
 else if k=5 then dH (F a.toNat) (ln a.toNat) (F b.toNat) (ln b.toNat)
 else if k=6 then bX (F a.toNat) (ln a.toNat)
 else if k=7 then cH (F a.toNat) (ln a.toNat)
 else bF (F to.toNat) (ln to.toNat) DZ 0:=if_pos q
end Go.Proofs.YtoglomfejgpoeaaGreatDoor
