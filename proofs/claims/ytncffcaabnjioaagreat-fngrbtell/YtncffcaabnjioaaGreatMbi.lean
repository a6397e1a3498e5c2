/-
  What is true of a division: what is taken and what is left is all; nothing is greater; what is left is free, and is left
-/
import Derived.Test.YtncffcaabnjioaaGreatMbg
import Derived.Test.YtncffcaabnjioaaGreatMbh
namespace Go.Proofs.YtncffcaabnjioaaGreat
open Go.RowKit Go.Deep Go.Joins
set_option linter.unusedVariables false
abbrev fN (L:Nat→List T):Nat→Nat→T:=fun i=>lf (L i)
abbrev lN (L:Nat→List T):Nat→Nat:=fun i=>(L i).length
theorem PL {t:T} {B Y:List T} (ht:cT [t]=true) (hB:cT B=true) (h:bY (lf [t]) (lf B) B.length 1=some Y):lF [t] B=(Y,true):=by
 unfold lF bJ;rw[if_pos ⟨ht,hB⟩];show iR (bY (lf [t]) (lf B) B.length 1)=_
 rw[h];rfl
theorem vF {A B:List T} (hA:aK A) (hB:aK B) {s:T} (hs:s∈cF A B):(∃a∈A,a.m=s.m)∨(∃b∈B,b.m=s.m):=by
 obtain⟨hf,hc⟩:=cV hA hB;have h1:=(iP hf hs).2
 rw[hc]at h1;by_cases ha:aL A s.m=0
 ·by_cases hb:aL B s.m=0
  ·rw[ha,hb]at h1;exact absurd rfl h1
  ·obtain⟨b,h2,h3⟩:=List.mem_map.1 (jA hb);exact .inr ⟨b,h2,h3⟩
 ·obtain⟨a,h2,h3⟩:=List.mem_map.1 (jA ha);exact .inl ⟨a,h2,h3⟩
theorem XO {c:Int} {A:List T} {s:T} (hs:s∈kE c A):∃a∈A,a.m=s.m:=by rw[nS]at hs;obtain⟨a,h1,rfl⟩:=List.mem_map.1 hs;exact⟨a,h1,rfl⟩
theorem AM {A B:List T} (hA:aK A) (hB:aK B) {s:T} (hs:s∈cQ A B):(∃a∈A,a.m=s.m)∨(∃b∈B,b.m=s.m):=by
 rcases vF hA (gG (by omega) (by omega) hB) hs with h|⟨b,h1,h2⟩
 ·exact .inl h
 ·obtain⟨a,h3,h4⟩:=XO h1;exact .inr ⟨a,h3,h4.trans h2⟩
theorem mV {o:Int} {n:Nat} {L:Nat→List T} (hl:aW n (lN L) (fN L)=true) {S S':Dv} (hp:cT S.p=true) (h0:S.p.length≠0) (hs:dB o n (lN L) (fN L) S=some S'):(∃k Y,k<n∧M.dvd (dQ o (L k)).m (dQ o S.p).m=true∧cT [eW (dQ o S.p) (dQ o (L k))]=true∧lF [eW (dQ o S.p) (dQ o (L k))] (L k)=(Y,true)∧(cQ S.p Y).length≤400∧S'=⟨cQ S.p Y,lE S.q k (cF (S.q k) [eW (dQ o S.p) (dQ o (L k))]),S.r⟩)∨((∀i,i<n→M.dvd (dQ o (L i)).m (dQ o S.p).m=false)∧S'=gS o S):=by
 unfold dB at hs;split at hs
 ·rename_i hk;have hf:=kJ hk
  have hg:=CO hl hp h0 hk;generalize(vX o n (lN L) (fN L) (dQ o S.p).m).toNat=k at hs hf hg;unfold gI at hs;split at hs
  ·cases hs
  ·rename_i Y hY;split at hs
   ·rename_i hle;cases hs;have ho:=jR hg
    exact .inl ⟨k,Y,hf.1,hf.2,ho,PL ho ((aT hl).2 k hf.1).2 hY,hle,rfl⟩
   ·cases hs
 ·rename_i hk;cases hs;refine .inr ⟨fun i hi=>?_,rfl⟩;cases hd:M.dvd (dQ o (L i)).m (dQ o S.p).m
  ·rfl
  ·exact absurd (AB.2 ⟨i,hi,hd⟩) hk
theorem uI {o:Int} {n:Nat} {L:Nat→List T} (hl:aW n (lN L) (fN L)=true) (I:Dv→Prop) (hI:∀u S S',iK u S→S.p.length≠0→I S→dB o n (lN L) (fN L) S=some S'→I S'):∀{v u:Nat} {S S':Dv},iK u S→I S→dV o n (lN L) (fN L) v S=some S'→I S'
 |0,u,S,S',h,hi,hr=>by
  unfold dV at hr;split at hr
  ·cases hr;exact hi
  ·cases hr
 |v+1,u,S,S',h,hi,hr=>by
  by_cases h0:S.p.length=0
  ·rw[mU h0]at hr;cases hr;exact hi
  ·cases hs:dB o n (lN L) (fN L) S with
   |none=>rw[rN h0 hs]at hr;cases hr
   |some S1=>
    rw[kR h0 hs]at hr;exact uI hl I hI (mF hl h h0 hs) (hI u S S1 h h0 hi hs) hr
theorem dS {o:Int} {p:List T} {n:Nat} {L:Nat→List T} {S:Dv} (h:aP o p n (lN L) (fN L)=some S):(1≤o∧o≤3)∧cT p=true∧aW n (lN L) (fN L)=true∧dV o n (lN L) (fN L) 300 (jO p)=some S:=by
 unfold aP at h;split at h
 ·rename_i hh;exact⟨hh.1,hh.2.1,hh.2.2,h⟩
 ·cases h
theorem nN {o:Int} {p:List T} {n:Nat} {L:Nat→List T} {S:Dv} (h:aP o p n (lN L) (fN L)=some S) (I:Dv→Prop) (h0:I (jO p)) (hI:∀u S S',iK u S→S.p.length≠0→I S→dB o n (lN L) (fN L) S=some S'→I S'):I S:=by obtain⟨_,h2,h3,h4⟩:=dS h;exact uI h3 I hI (iK.start h2) h0 h4
theorem dT {o:Int} {p:List T} {n:Nat} {L:Nat→List T} {S:Dv} (h:aP o p n (lN L) (fN L)=some S):iK 300 S∧S.p=[]:=by
 obtain⟨_,h2,h3,h4⟩:=dS h;have:=vY h3 (iK.start h2) h4
 exact⟨by simpa using this.1,this.2⟩
theorem EM (F:Nat→Lq) (X:Lq) (k:Nat):∀n,k<n→Lq.sumN (fun i=>if i=k then Lq.sum (F i) X else F i) n=Lq.sum (Lq.sumN F n) X
 |0,h=>by omega
 |n+1,h=>by
  rw[Lq.sumN,Lq.sumN];by_cases e:k=n
  ·subst e;rw[if_pos rfl,Lq.sumN_congr (g:=F) (fun i hi=>if_neg (by omega)),Lq.sum_assoc]
  ·rw[EM F X k n (by omega),if_neg (fun h=>e h.symm),Lq.sum_assoc,Lq.sum_assoc,Lq.sum_comm X]
def qsum (g:sS) (n:Nat) (L:Nat→List T) (q:Nat→List T):Lq:=Lq.sumN (fun i=>Lq.mul (Rp g (q i)) (Rp g (L i))) n
theorem uA:∀n,Lq.sumN (fun _=>Lq.nil) n=Lq.nil
 |0=>rfl
 |n+1=>by rw[Lq.sumN,uA n,Lq.sum_nil]
theorem DV (g:sS) (n:Nat) (L:Nat→List T):qsum g n L (fun _=>[])=Lq.nil:=by unfold qsum;rw[Lq.sumN_congr (g:=fun _=>Lq.nil) (fun i _=>by rw[lP,Lq.nil_mul]),uA]
theorem QL (g:sS) {n:Nat} {L q:Nat→List T} {k:Nat} {t:T} (hk:k<n) (hq:aK (q k)) (ht:cT [t]=true):qsum g n L (lE q k (cF (q k) [t]))=Lq.sum (qsum g n L q) (Lq.mul (Rp g [t]) (Rp g (L k))):=by
 unfold qsum;rw[←EM _ _ k n hk];refine Lq.sumN_congr (fun i _=>?_);unfold lE;split
 ·rename_i e;subst e;rw[qH g hq (aE ht).2,Lq.sum_mul]
 ·rfl
theorem lC (g:sS) {o:Int} {p:List T} {n:Nat} {L:Nat→List T} {S:Dv} (h:aP o p n (lN L) (fN L)=some S):Lq.sum (qsum g n L S.q) (Rp g S.r)=Rp g p:=by
 obtain⟨_,h2,h3,h4⟩:=dS h
 have key:=nN h (fun S=>Lq.sum (qsum g n L S.q) (Lq.sum (Rp g S.r) (Rp g S.p))=Rp g p) (by
  show Lq.sum (qsum g n L (fun _=>[])) (Lq.sum (Rp g []) (Rp g p))=_;rw[DV,lP]
  exact Lq.ext fun u i j=>by show(0:Fq)+(0+_)=_;grind) (fun u S S' hok h0 hI hs=>by
  rw[←hI];rcases mV h3 hok.p h0 hs with⟨k,Y,hk,_,ho,hY,_,rfl⟩|⟨_,rfl⟩
  ·show Lq.sum (qsum g n L (lE S.q k _)) (Lq.sum (Rp g S.r) (Rp g (cQ S.p Y)))=_;rw[QL g hk (hok.q k).1 ho,oI g (aE hok.p).2 (mN hY),qI g hY];exact Lq.ext fun u i j=>by
    show _+_+(_+(_+zz 100*_))=_+(_+_)
    have e:zz 100=100:=rfl;rw[e]
    grind
  ·show Lq.sum (qsum g n L S.q) (Lq.sum (Rp g (cF S.r [dQ o S.p])) (Rp g (cQ S.p [dQ o S.p])))=_;have f1:=eS (iF (o:=o) (aE hok.p).2 h0)
   rw[qH g hok.r.1 f1,oI g (aE hok.p).2 f1];exact Lq.ext fun u i j=>by
    show _+(_+_+(_+zz 100*_))=_+(_+_)
    have e:zz 100=100:=rfl;rw[e]
    grind)
 have hp:=(dT h).2;rw[hp,lP,Lq.sum_nil]at key;exact key
theorem xA {o:Int} {p:List T} {n:Nat} {L:Nat→List T} {S:Dv} (h:aP o p n (lN L) (fN L)=some S):∀t∈S.r,∀i,i<n→M.dvd (dQ o (L i)).m t.m=false:=by
 obtain⟨_,h2,h3,h4⟩:=dS h;refine nN h (fun S=>∀t∈S.r,∀i,i<n→M.dvd (dQ o (L i)).m t.m=false) (fun t ht=>by cases ht) (fun u S S' hok h0 hI hs=>?_);rcases mV h3 hok.p h0 hs with⟨k,Y,_,_,_,_,_,rfl⟩|⟨hno,rfl⟩
 ·exact hI
 ·intro t ht i hi;rcases vF hok.r.1 (eS (iF (o:=o) (aE hok.p).2 h0)) ht with⟨a,ha,e⟩|⟨b,hb,e⟩
  ·rw[←e];exact hI a ha i hi
  ·rw[←e,List.mem_singleton.1 hb];exact hno i hi
theorem PV {t l:T} (hd:M.dvd l.m t.m=true):(eW t l).m.sum l.m=t.m:=by
 have h:=xM hd;unfold M.mul at h;split at h
 ·exact congrArg Prod.fst h
 ·exact absurd (congrArg Prod.snd h) (by simp)
theorem QK {o:Int} (ho:1≤o∧o≤3) {t:T} {B Y:List T} (hB:cT B=true) (hB0:B.length≠0) (h:lF [t] B=(Y,true)):∀s∈Y,iX o s.m≤iX o t.m+iX o (dQ o B).m:=fun s hs=>by
 have:=(yS (AZ o) pS h (List.mem_singleton.2 rfl) (kC (o:=o) hB0) (fun a ha=>by rw[List.mem_singleton.1 ha];exact Int.le_refl _) (AK ho hB hB0)).2 s hs;rw[(AZ o t.m (dQ o B).m 0 0).2]at this;exact this
theorem QQ {o:Int} {p:List T} {n:Nat} {L:Nat→List T} {S:Dv} (h:aP o p n (lN L) (fN L)=some S) {N:Int} (hN:∀t∈p,iX o t.m≤N):(∀t∈S.r,iX o t.m≤N)∧∀i,i<n→∀s∈S.q i,(s.m.sum (dQ o (L i)).m).ok=true∧iX o (s.m.sum (dQ o (L i)).m)≤N:=by
 obtain⟨h1,h2,h3,h4⟩:=dS h
 have key:=nN h (fun S=>(∀t∈S.p,iX o t.m≤N)∧(∀t∈S.r,iX o t.m≤N)∧∀i,i<n→∀s∈S.q i,(s.m.sum (dQ o (L i)).m).ok=true∧iX o (s.m.sum (dQ o (L i)).m)≤N) ⟨hN,⟨fun t ht=>absurd ht (List.not_mem_nil),fun i _ s hs=>absurd hs (List.not_mem_nil)⟩⟩ (fun u S S' hok h0 hI hs=>by
  obtain⟨i1,i2,i3⟩:=hI;have hl:=kC (o:=o) h0
  have hg:=iF (o:=o) (aE hok.p).2 h0;rcases mV h3 hok.p h0 hs with⟨k,Y,hk,hd,ho,hY,_,rfl⟩|⟨hno,rfl⟩
  ·have hk2:=(aT h3).2 k hk;have htop:=QK h1 hk2.2 hk2.1 hY
   have hsum:=PV hd;have hw:=(AZ o (eW (dQ o S.p) (dQ o (L k))).m (dQ o (L k)).m 0 0).2
   rw[hsum]at hw;refine⟨fun t ht=>?_,i2,fun i hi s hs=>?_⟩
   ·rcases AM (aE hok.p).2 (mN hY) ht with⟨a,ha,e⟩|⟨b,hb,e⟩
    ·rw[←e];exact i1 a ha
    ·rw[←e];have:=htop b hb
     have:=i1 _ hl;omega
   ·change s∈lE S.q k _ i at hs;unfold lE at hs;split at hs
    ·rename_i e;subst e;rcases vF (hok.q i).1 (aE ho).2 hs with⟨a,ha,e⟩|⟨b,hb,e⟩
     ·rw[←e];exact i3 i hi a ha
     ·rw[←e,List.mem_singleton.1 hb,hsum];exact⟨hg.1,i1 _ hl⟩
    ·exact i3 i hi s hs
  ·refine⟨fun t ht=>?_,fun t ht=>?_,i3⟩
   ·rcases AM (aE hok.p).2 (eS hg) ht with⟨a,ha,e⟩|⟨b,hb,e⟩
    ·rw[←e];exact i1 a ha
    ·rw[←e,List.mem_singleton.1 hb];exact i1 _ hl
   ·rcases vF hok.r.1 (eS hg) ht with⟨a,ha,e⟩|⟨b,hb,e⟩
    ·rw[←e];exact i2 a ha
    ·rw[←e,List.mem_singleton.1 hb];exact i1 _ hl)
 exact⟨key.2.1,key.2.2⟩
theorem ZK (c:Int) (L:List T) {i:Nat} (h:i<L.length):lf (kE c L) i=BD c (lf L i):=by
 have h2:i<(kE c L).length:=by rw[gA];exact h
 rw[iA h2,iA h];simp only[nS,List.getElem_map];rfl
end Go.Proofs.YtncffcaabnjioaaGreat
