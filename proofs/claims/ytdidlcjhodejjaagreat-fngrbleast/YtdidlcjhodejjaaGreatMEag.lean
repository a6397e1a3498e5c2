/-
  Bases that are made: each proves itself, and one that is done is a basis.
-/
import Derived.Test.YtdidlcjhodejjaaGreatMEaf
namespace Go.Proofs.YtdidlcjhodejjaaGreat
open Go.RowKit Go.Deep Go.Joins
set_option linter.unusedVariables false
theorem WE {q X P:List T} (hq:cG q=true) (hX:cG X=true) (h:cT (lf q) (lf X) X.length q.length=some P):nU q X=(P,true):=by unfold nU bV;rw[if_pos ⟨hq,hX⟩,h];rfl
theorem Cx (g:xR) {R q X Y:List T} (hR:cG R=true) (hq:cG q=true) (hX:cG X=true) (h:dZ R q X=some Y):Rp g Y=Lq.sum (Rp g R) (Lq.sc (-1) (Lq.mul (Rp g q) (Rp g X))):=by
 unfold dZ at h;split at h
 ·rename_i P hP;split at h
  ·have hw:=WE hq hX hP;cases h;rw[BC g (aD hR).2 (aD (zV hw)).2,xX g hw,Mf]
  ·cases h
 ·cases h
theorem NJ {row:Nat→List T} {q:List T} {oth:Nat→List T} {g:Nat} (hrow:∀i,i<g→cG (row i)=true) (hq:cG q=true) (ho:∀i,i<g→cG (oth i)=true):∀j R,j≤g→dI row q oth j=some R→∀i,i<j→Rp aQ (R i)=Lq.sum (Rp aQ (row i)) (Lq.sc (-1) (Lq.mul (Rp aQ q) (Rp aQ (oth i))))
 |0,R,_,_,i,hi=>by omega
 |j+1,R,hj,h,i,hi=>by
  cases hr:dI row q oth j with
  |none=>have:=qW hr 1;rw[this]at h;cases h
  |some R1=>
   cases he:dZ (row j) q (oth j)with
   |none=>have:=tH (g:=j+1) (by omega) hr he;rw[this]at h;cases h
   |some Y=>
    rw[uY hr he]at h;cases h;unfold dD;split
    ·rename_i e;subst e;exact Cx aQ (hrow i (by omega)) hq (ho i (by omega)) he
    ·exact NJ hrow hq ho j R1 (by omega) hr i (by omega)
theorem ZA {g:Nat} {L0 row oth R:Nat→List T} {A:Lq} (h:∀i,i<g→Rp aQ (R i)=Lq.sum (Rp aQ (row i)) (Lq.sc (-1) (Lq.mul A (Rp aQ (oth i))))):qsum aQ g L0 R=Lq.sum (qsum aQ g L0 row) (Lq.sc (-1) (Lq.mul A (qsum aQ g L0 oth))):=by unfold qsum;rw[Lq.mul_sumN,lF,←Lq.sumN_sum];exact Lq.sumN_congr fun i hi=>by rw[h i hi,Lq.sum_mul,Lq.sc_mul,Lq.mul_assoc]
theorem uX {g:Nat} {L0 row oth R:Nat→List T} {q:List T} (hrow:∀i,i<g→cG (row i)=true) (hq:cG q=true) (ho:∀i,i<g→cG (oth i)=true) (h:dI row q oth g=some R):qsum aQ g L0 R=Lq.sum (qsum aQ g L0 row) (Lq.sc (-1) (Lq.mul (Rp aQ q) (qsum aQ g L0 oth))):=
 ZA (NJ hrow hq ho g R (Nat.le_refl _) h)
theorem Kz (c:Int):zz (101-c)= -(zz c):=by
 have h:zz (101-c)+zz c=0:=by rw[←TF,show 101-c+c=101 by omega];rfl
 grind
theorem GN {g m:Nat} {L0 L:Nat→List T} {P:Nat→Nat→List T} {i k:Nat} {u v:T} {qs:Nat→List T} (hi:i<m) (hk:k<m) (hP:∀i,i<m→∀j,j<g→cG (P i j)=true) (hu:cG [fC u]=true) (hv:cG [v]=true) (hq:∀t,t<m→cG (qs t)=true) (hpf:∀i,i<m→qsum aQ g L0 (P i)=Rp aQ (L i)):∀t R,t≤m→kL g P qs (gZ g P i k u v) t=some R→qsum aQ g L0 R=Lq.sum (Lq.sum (Lq.sc (zz u.c) (Lq.mul (mo aQ u.m) (Rp aQ (L i)))) (Lq.sc (-(zz v.c)) (Lq.mul (mo aQ v.m) (Rp aQ (L k))))) (Lq.sc (-1) (qsum aQ t L qs))
 |0,R,_,h=>by
  change gZ g P i k u v=some R at h;unfold gZ at h;split at h
  ·cases h
  ·rename_i R1 h1;have ok1:=pW (fun _ _=>oV) hu (hP i hi) g R1 (Nat.le_refl _) h1
   rw[uX ok1 hv (hP k hk) h,uX (fun _ _=>oV) hu (hP i hi) h1,hpf i hi,hpf k hk,OQ,AZ,AZ];have e:qsum aQ 0 L qs=Lq.nil:=rfl
   rw[e,Fp,Lq.sum_nil,KA,Lq.sc_mul,Lq.sc_mul,Lq.sc_sc,Lq.sc_sc];show Lq.sum (Lq.sc (-1*zz (101-u.c)) _) _=_
   rw[Kz,show(-1:Fq)*-(zz u.c)=zz u.c by grind,show(-1:Fq)*zz v.c= -(zz v.c) by grind];rfl
 |t+1,R,ht,h=>by
  cases hr:kL g P qs (gZ g P i k u v) t with
  |none=>have:=lM hr 1;rw[this]at h;cases h
  |some R1=>
   have h':dI R1 (qs t) (P t) g=some R:=by
    have:kL g P qs (gZ g P i k u v) (t+1)=dI R1 (qs t) (P t) g:=by show(match kL g P qs (gZ g P i k u v) t with|none=>none|some R=>dI R (qs t) (P t) g)=_;rw[hr]
    rw[←this];exact h
   rw[uX (AN hi hk hP hu hv hq t R1 (by omega) hr) (hq t (by omega)) (hP t (by omega)) h',GN hi hk hP hu hv hq hpf t R1 (by omega) hr,hpf t (by omega)];have e:qsum aQ (t+1) L qs=Lq.sum (qsum aQ t L qs) (Lq.mul (Rp aQ (qs t)) (Rp aQ (L t))):=rfl
   rw[e];refine Lq.ext fun u a b=>?_;simp only[VW,Kf]
   grind
theorem sK {o:Int} {L L':Nat→List T} {j:Nat} (h:L' j=L j):fV o L' j=fV o L j:=by unfold fV;rw[h]
theorem Lo.grow {o:Int} {n n':Nat} {L L':Nat→List T} (hn:n≤n') (h:∀j,j<n→L' j=L j) {δ:M} {A:Lq} (hA:Lo o n L δ A):Lo o n' L' δ A:=by
 induction hA with
 |nil=>exact Lo.nil
 |cons c m j h1 h2 h3 h4 ih=>
  rw[←h j h1];exact Lo.cons c m j (by omega) h2 (by rw[sK (h j h1)];exact h3) ih
theorem AY.grow {o:Int} {n n':Nat} {L L':Nat→List T} (hn:n≤n') (h:∀j,j<n→L' j=L j) {i k:Nat} (hi:i<n) (hk:k<n) (hP:AY o n L i k):AY o n' L' i k:=fun u v hu hv=>by
 rw[h i hi]at hu;rw[h k hk]at hv;rw[sK (h i hi),sK (h k hk),h i hi,h k hk];exact(hP u v hu hv).grow hn h
theorem LJ {L:Nat→List T} {m:Nat} {r:List T} {j:Nat} (h:j<m):dD L m r j=L j:=by unfold dD;rw[if_neg (by omega)]
theorem LI {L:Nat→List T} {m:Nat} {r:List T}:dD L m r m=r:=by unfold dD;rw[if_pos rfl]
theorem Ku {P:Nat→Nat→List T} {m:Nat} {R:Nat→List T} {j:Nat} (h:j<m):xO P m R j=P j:=by unfold xO;rw[if_neg (by omega)]
theorem Kt {P:Nat→Nat→List T} {m:Nat} {R:Nat→List T}:xO P m R m=R:=by unfold xO;rw[if_pos rfl]
structure Mk (o:Int) (g:Nat) (L0:Nat→List T) (B:Bs) (j:Nat):Prop where
 ok:EU o g B
 le:g≤B.m
 pre:∀i,i<g→B.L i=L0 i
 pf:∀i,i<B.m→qsum aQ g L0 (B.P i)=Rp aQ (B.L i)
 pr:∀i k,i<k→k<B.m→aZ k+i<j→AY o B.m B.L i k
theorem PV {o:Int} {g:Nat} {B B':Bs} {i k:Nat} (hs:gJ o g B i k=some B'):∃s S,VP o (B.L i) (B.L k)=(s,true)∧aW o s B.m (lN B.L) (fN B.L)=some S∧((S.r=[]∧B'=B)∨(S.r.length≠0∧∃R,rR g B.P i k (QK o (B.L i) (B.L k)) (TA o (B.L i) (B.L k)) B.m S.q=some R∧B'=IW B S.r R)):=by
 unfold gJ at hs;split at hs
 ·rename_i s hsp;split at hs
  ·rename_i S hS;refine⟨s,S,hsp,hS,?_⟩;split at hs
   ·rename_i h0;cases hs;exact .inl ⟨List.length_eq_zero_iff.1 h0,rfl⟩
   ·rename_i h0;split at hs
    ·cases hs
    ·split at hs
     ·rename_i R hR;cases hs;exact .inr ⟨h0,R,hR,rfl⟩
     ·cases hs
  ·cases hs
 ·cases hs
theorem Mk.step {o:Int} {g:Nat} {L0:Nat→List T} {B B':Bs} {j:Nat} (h:Mk o g L0 B j) (hj:j<aZ B.m) (hs:gJ o g B (pq j).1 (pq j).2=some B'):Mk o g L0 B' (j+1):=by
 obtain⟨k,i,hk,hik,ej⟩:=TE B.m j hj;have epq:pq j=(i,k):=by rw[ej];exact pJ k i hik
 rw[epq]at hs;have hs':gJ o g B i k=some B':=hs
 have hi:i<B.m:=by omega
 have hok':=xI h.ok hi hk hs';have hL:=yJ h.ok.ho h.ok.l
 obtain⟨s,S,hsp,hS,hc⟩:=PV hs';have one:∀i' k',i'<k'→aZ k'+i'<j+1→aZ k'+i'<j∨(i'=i∧k'=k):=fun i' k' h1 h2=>by
  by_cases e:aZ k'+i'=j
  ·have:=pJ k' i' h1;rw[e,epq]at this;cases this;exact .inr ⟨rfl,rfl⟩
  ·exact .inl (by omega)
 obtain⟨U,V,eU,eV,u1,v1,um,vm,e,k1,hb⟩:=LC hL hi hk hsp;obtain⟨lo1,lo2⟩:=VU hL hS k1 hb;rcases hc with⟨h0,rfl⟩|⟨h0,R,hR,rfl⟩
 ·refine⟨hok',h.le,h.pre,h.pf,fun i' k' h1 h2 h3=>?_⟩;rcases one i' k' h1 h3 with q|⟨rfl,rfl⟩
  ·exact h.pr i' k' h1 h2 q
  ·exact GY hL hi hk hsp hS h0
 ·have hok2:=hok';have hle:=h.le
  refine⟨hok',by show g≤B.m+1;omega,fun i' hi'=>(LJ (by omega)).trans (h.pre i' hi'),fun i' hi'=>?_,fun i' k' h1 h2 h3=>?_⟩
  ·show qsum aQ g L0 (xO B.P B.m R i')=Rp aQ (dD B.L B.m S.r i');by_cases ei:i'=B.m
   ·subst ei;rw[Kt,LI];obtain⟨⟨_,g2,g3⟩,_⟩:=tS hsp;rw[GN hi hk h.ok.p g2 g3 (fun t _=>gE (by have:=((dG hS).1.q t).2;omega) ((dG hS).1.q t).1) h.pf B.m R (Nat.le_refl _) hR,AK hS,e,eU,eV]
   ·have hi2:i'<B.m+1:=hi';rw[Ku (by omega),LJ (by omega)];exact h.pf i' (by omega)
  ·have grow:∀j,j<B.m→dD B.L B.m S.r j=B.L j:=fun j hj=>LJ hj;have hk':k'<B.m:=by
    have h2':k'<B.m+1:=h2;by_cases ek:k'=B.m
    ·subst ek;omega
    ·omega
   show AY o (B.m+1) (dD B.L B.m S.r) i' k';rcases one i' k' h1 h3 with q|⟨rfl,rfl⟩
   ·exact(h.pr i' k' h1 hk' q).grow (by omega) grow (by omega) hk'
   ·have hL':=yJ hok2.ho hok2.l;have hL2:vJ o (B.m+1) (dD B.L B.m S.r):=hL'
    refine OH hL2 (by omega) (by omega) (s:=s) (by rw[grow i' hi,grow k' hk];exact hsp) ?_;rw[sK (grow i' hi),sK (grow k' hk),←vE aQ hS];refine(lo1.grow (by omega) grow).sum ?_;have hmem:aV o S.r∈S.r:=gN h0
    have hr:=(dG hS).1.r.1
    have:=Lo.one (o:=o) (n:=B.m+1) (L:=dD B.L B.m S.r) (δ:=M.lcm (fV o B.L i') (fV o B.L k')) 1 (m:=⟨0,0,0,0⟩) (j:=B.m) (by omega) ⟨by decide,by decide,by decide,by decide⟩ (by
     have e0:M.sum ⟨0,0,0,0⟩ (fV o (dD B.L B.m S.r) B.m)=(aV o S.r).m:=by unfold fV;rw[LI];unfold M.sum;refine qM ?_ ?_ ?_ ?_<;>(simp only;omega)
     rw[e0]
     exact KO hL.ho (hr.2 _ hmem).1 k1 (lo2 _ hmem))
    rw[Lq.sc_one,JX,LI]at this;exact this
theorem NC {o:Int} {g:Nat} {L0:Nat→List T}:∀(f:Nat) (B:Bs) (j:Nat),Mk o g L0 B j→∀B' d,oN o g f B j=(B',d)→∃j',Mk o g L0 B' j'∧(d=true→aZ B'.m≤j')
 |0,B,j,h,B',d,e=>by unfold oN at e;cases e;exact⟨j,h,fun q=>of_decide_eq_true q⟩
 |f+1,B,j,h,B',d,e=>by
  unfold oN at e;split at e
  ·rename_i hj;split at e
   ·cases e;exact⟨j,h,fun q=>by cases q⟩
   ·rename_i B2 hs;exact NC f B2 (j+1) (h.step hj hs) B' d e
  ·cases e;exact⟨j,h,fun _=>by omega⟩
theorem PZ (f:Nat→Lq) (i:Nat):∀n,i<n→(∀j,j<n→j≠i→f j=Lq.nil)→Lq.sumN f n=f i
 |0,h,_=>by omega
 |n+1,h,h0=>by
  show Lq.sum (Lq.sumN f n) (f n)=f i;by_cases e:i=n
  ·subst e;have:Lq.sumN f i=Lq.sumN (fun _=>Lq.nil) i:=Lq.sumN_congr fun j hj=>h0 j (by omega) (by omega)
   rw[this,yY,KA]
  ·rw[PZ f i n (by omega) (fun j hj=>h0 j (by omega)),h0 n (by omega) (fun q=>e q.symm),Lq.sum_nil]
theorem Dz {n:Nat} {L:Nat→List T} {i:Nat} (hi:i<n):qsum aQ n L (jD i)=Rp aQ (L i):=by
 unfold qsum
 rw[PZ _ i n hi (fun j hj hne=>by
  unfold jD
  rw[if_neg hne,qP,Lq.nil_mul])]
 unfold jD;rw[if_pos rfl,AZ,Lq.sc_mul,JX];exact Lq.sc_one _
theorem Mk.start {o:Int} {n:Nat} {L:Nat→List T} (ho:1≤o∧o≤3) (hl:aT n (lN L) (fN L)=true):Mk o n L (MX n L) 0:=
 ⟨JF ho hl,Nat.le_refl _,fun _ _=>rfl,fun i hi=>Dz hi,fun i k _ _ h=>by omega⟩
theorem QZ {o:Int} {n:Nat} {L:Nat→List T} {fuel:Int} {B:Bs} {d:Bool} (h:eT o n L fuel=(B,d)):(B.m=0∧d=false∧¬((1≤o∧o≤3)∧aT n (lN L) (fN L)=true∧(1≤n∧n≤3)∧(0≤fuel∧fuel≤60)))∨(((1≤o∧o≤3)∧aT n (lN L) (fN L)=true∧(1≤n∧n≤3)∧(0≤fuel∧fuel≤60))∧∃j,Mk o n L B j∧(d=true→aZ B.m≤j)):=by
 unfold eT at h;split at h
 ·rename_i hc;exact .inr ⟨hc,NC fuel.toNat _ 0 (Mk.start hc.1 hc.2.1) B d h⟩
 ·rename_i hc;cases h;exact .inl ⟨rfl,rfl,hc⟩
theorem tU.below {N:Nat→Prop} {w w':World} {a:Option Addr} {g c:Nat} {ad:Nat→Option Addr} {cp:Nat→Nat} {Q:Nat→List T} (h:tU N w a g c ad cp Q) (hb:Below w.heap.size w w'):tU N w' a g c ad cp Q:=h.fr (P:=fun _=>False) (bA hb) (fun _ _ q=>q)
theorem GA {o:Int} {n:Nat} {L:Nat→List T} {fuel:Int}:(eT o n L fuel).1.m≤12:=by
 obtain⟨B,d,h⟩:∃B d,eT o n L fuel=(B,d):=⟨_,_,rfl⟩
 rw[h];rcases QZ h with⟨h0,_⟩|⟨_,j,hm,_⟩
 ·show B.m≤12;omega
 ·exact(aL hm.ok.l).1
end Go.Proofs.YtdidlcjhodejjaaGreat
