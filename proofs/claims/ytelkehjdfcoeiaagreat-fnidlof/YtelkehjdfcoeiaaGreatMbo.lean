/-
  Bases that are made: each proves itself, and one that is done is a basis.
-/
import Derived.Test.YtelkehjdfcoeiaaGreatMbj
namespace Go.Proofs.YtelkehjdfcoeiaaGreat
open Go.RowKit Go.Deep Go.Joins
set_option linter.unusedVariables false
theorem TF {q X P:List T} (hq:cF q=true) (hX:cF X=true) (h:cM (lf q) (lf X) X.length q.length=some P):lO q X=(P,true):=by unfold lO bT;rw[if_pos ⟨hq,hX⟩,h];rfl
theorem YY (g:wS) {R q X Y:List T} (hR:cF R=true) (hq:cF q=true) (hX:cF X=true) (h:dT R q X=some Y):Rp g Y=Lq.sum (Rp g R) (Lq.sc (-1) (Lq.mul (Rp g q) (Rp g X))):=by
 unfold dT at h;split at h
 ·rename_i P hP;split at h
  ·have hw:=TF hq hX hP;cases h;rw[wZ g (aD hR).2 (aD (DG hw)).2,tL g hw,Io]
  ·cases h
 ·cases h
theorem KT {row:Nat→List T} {q:List T} {oth:Nat→List T} {g:Nat} (hrow:∀i,i<g→cF (row i)=true) (hq:cF q=true) (ho:∀i,i<g→cF (oth i)=true):∀j R,j≤g→dB row q oth j=some R→∀i,i<j→Rp aK (R i)=Lq.sum (Rp aK (row i)) (Lq.sc (-1) (Lq.mul (Rp aK q) (Rp aK (oth i))))
 |0,R,_,_,i,hi=>by omega
 |j+1,R,hj,h,i,hi=>by
  cases hr:dB row q oth j with
  |none=>have:=pZ hr 1;rw[this]at h;cases h
  |some R1=>
   cases he:dT (row j) q (oth j)with
   |none=>have:=sI (g:=j+1) (by omega) hr he;rw[this]at h;cases h
   |some Y=>
    rw[tZ hr he]at h;cases h;unfold cY;split
    ·rename_i e;subst e;exact YY aK (hrow i (by omega)) hq (ho i (by omega)) he
    ·exact KT hrow hq ho j R1 (by omega) hr i (by omega)
theorem WB {g:Nat} {L0 row oth R:Nat→List T} {A:Lq} (h:∀i,i<g→Rp aK (R i)=Lq.sum (Rp aK (row i)) (Lq.sc (-1) (Lq.mul A (Rp aK (oth i))))):qsum aK g L0 R=Lq.sum (qsum aK g L0 row) (Lq.sc (-1) (Lq.mul A (qsum aK g L0 oth))):=by unfold qsum;rw[Lq.mul_sumN,kQ,←Lq.sumN_sum];exact Lq.sumN_congr fun i hi=>by rw[h i hi,Lq.sum_mul,Lq.sc_mul,Lq.mul_assoc]
theorem tW {g:Nat} {L0 row oth R:Nat→List T} {q:List T} (hrow:∀i,i<g→cF (row i)=true) (hq:cF q=true) (ho:∀i,i<g→cF (oth i)=true) (h:dB row q oth g=some R):qsum aK g L0 R=Lq.sum (qsum aK g L0 row) (Lq.sc (-1) (Lq.mul (Rp aK q) (qsum aK g L0 oth))):=
 WB (KT hrow hq ho g R (Nat.le_refl _) h)
theorem Hs (c:Int):zz (101-c)= -(zz c):=by
 have h:zz (101-c)+zz c=0:=by rw[←PY,show 101-c+c=101 by omega];rfl
 grind
theorem ES {g m:Nat} {L0 L:Nat→List T} {P:Nat→Nat→List T} {i k:Nat} {u v:T} {qs:Nat→List T} (hi:i<m) (hk:k<m) (hP:∀i,i<m→∀j,j<g→cF (P i j)=true) (hu:cF [fF u]=true) (hv:cF [v]=true) (hq:∀t,t<m→cF (qs t)=true) (hpf:∀i,i<m→qsum aK g L0 (P i)=Rp aK (L i)):∀t R,t≤m→jW g P qs (gW g P i k u v) t=some R→qsum aK g L0 R=Lq.sum (Lq.sum (Lq.sc (zz u.c) (Lq.mul (mo aK u.m) (Rp aK (L i)))) (Lq.sc (-(zz v.c)) (Lq.mul (mo aK v.m) (Rp aK (L k))))) (Lq.sc (-1) (qsum aK t L qs))
 |0,R,_,h=>by
  change gW g P i k u v=some R at h;unfold gW at h;split at h
  ·cases h
  ·rename_i R1 h1;have ok1:=pG (fun _ _=>oH) hu (hP i hi) g R1 (Nat.le_refl _) h1
   rw[tW ok1 hv (hP k hk) h,tW (fun _ _=>oH) hu (hP i hi) h1,hpf i hi,hpf k hk,MA,zZ,zZ];have e:qsum aK 0 L qs=Lq.nil:=rfl
   rw[e,Cm,Lq.sum_nil,GU,Lq.sc_mul,Lq.sc_mul,Lq.sc_sc,Lq.sc_sc];show Lq.sum (Lq.sc (-1*zz (101-u.c)) _) _=_
   rw[Hs,show(-1:Fq)*-(zz u.c)=zz u.c by grind,show(-1:Fq)*zz v.c= -(zz v.c) by grind];rfl
 |t+1,R,ht,h=>by
  cases hr:jW g P qs (gW g P i k u v) t with
  |none=>have:=kV hr 1;rw[this]at h;cases h
  |some R1=>
   have h':dB R1 (qs t) (P t) g=some R:=by
    have:jW g P qs (gW g P i k u v) (t+1)=dB R1 (qs t) (P t) g:=by show(match jW g P qs (gW g P i k u v) t with|none=>none|some R=>dB R (qs t) (P t) g)=_;rw[hr]
    rw[←this];exact h
   rw[tW (zH hi hk hP hu hv hq t R1 (by omega) hr) (hq t (by omega)) (hP t (by omega)) h',ES hi hk hP hu hv hq hpf t R1 (by omega) hr,hpf t (by omega)];have e:qsum aK (t+1) L qs=Lq.sum (qsum aK t L qs) (Lq.mul (Rp aK (qs t)) (Rp aK (L t))):=rfl
   rw[e];refine Lq.ext fun u a b=>?_;simp only[NL,Cl]
   grind
theorem rQ {o:Int} {L L':Nat→List T} {j:Nat} (h:L' j=L j):eT o L' j=eT o L j:=by unfold eT;rw[h]
theorem Lo.grow {o:Int} {n n':Nat} {L L':Nat→List T} (hn:n≤n') (h:∀j,j<n→L' j=L j) {δ:M} {A:Lq} (hA:Lo o n L δ A):Lo o n' L' δ A:=by
 induction hA with
 |nil=>exact Lo.nil
 |cons c m j h1 h2 h3 h4 ih=>
  rw[←h j h1];exact Lo.cons c m j (by omega) h2 (by rw[rQ (h j h1)];exact h3) ih
theorem wW.grow {o:Int} {n n':Nat} {L L':Nat→List T} (hn:n≤n') (h:∀j,j<n→L' j=L j) {i k:Nat} (hi:i<n) (hk:k<n) (hP:wW o n L i k):wW o n' L' i k:=fun u v hu hv=>by
 rw[h i hi]at hu;rw[h k hk]at hv;rw[rQ (h i hi),rQ (h k hk),h i hi,h k hk];exact(hP u v hu hv).grow hn h
theorem IX {L:Nat→List T} {m:Nat} {r:List T} {j:Nat} (h:j<m):cY L m r j=L j:=by unfold cY;rw[if_neg (by omega)]
theorem IW {L:Nat→List T} {m:Nat} {r:List T}:cY L m r m=r:=by unfold cY;rw[if_pos rfl]
theorem Hp {P:Nat→Nat→List T} {m:Nat} {R:Nat→List T} {j:Nat} (h:j<m):wO P m R j=P j:=by unfold wO;rw[if_neg (by omega)]
theorem Ho {P:Nat→Nat→List T} {m:Nat} {R:Nat→List T}:wO P m R m=R:=by unfold wO;rw[if_pos rfl]
structure Mk (o:Int) (g:Nat) (L0:Nat→List T) (B:Bs) (j:Nat):Prop where
 ok:DH o g B
 le:g≤B.m
 pre:∀i,i<g→B.L i=L0 i
 pf:∀i,i<B.m→qsum aK g L0 (B.P i)=Rp aK (B.L i)
 pr:∀i k,i<k→k<B.m→cG k+i<j→wW o B.m B.L i k
theorem NG {o:Int} {g:Nat} {B B':Bs} {i k:Nat} (hs:gI o g B i k=some B'):∃s S,SU o (B.L i) (B.L k)=(s,true)∧aY o s B.m (lN B.L) (fN B.L)=some S∧((S.r=[]∧B'=B)∨(S.r.length≠0∧∃R,nH g B.P i k (NU o (B.L i) (B.L k)) (PT o (B.L i) (B.L k)) B.m S.q=some R∧B'=FQ B S.r R)):=by
 unfold gI at hs;split at hs
 ·rename_i s hsp;split at hs
  ·rename_i S hS;refine⟨s,S,hsp,hS,?_⟩;split at hs
   ·rename_i h0;cases hs;exact .inl ⟨List.length_eq_zero_iff.1 h0,rfl⟩
   ·rename_i h0;split at hs
    ·cases hs
    ·split at hs
     ·rename_i R hR;cases hs;exact .inr ⟨h0,R,hR,rfl⟩
     ·cases hs
  ·cases hs
 ·cases hs
theorem Mk.step {o:Int} {g:Nat} {L0:Nat→List T} {B B':Bs} {j:Nat} (h:Mk o g L0 B j) (hj:j<cG B.m) (hs:gI o g B (pq j).1 (pq j).2=some B'):Mk o g L0 B' (j+1):=by
 obtain⟨k,i,hk,hik,ej⟩:=PX B.m j hj;have epq:pq j=(i,k):=by rw[ej];exact rS k i hik
 rw[epq]at hs;have hs':gI o g B i k=some B':=hs
 have hi:i<B.m:=by omega
 have hok':=wI h.ok hi hk hs';have hL:=nE h.ok.ho h.ok.l
 obtain⟨s,S,hsp,hS,hc⟩:=NG hs';have one:∀i' k',i'<k'→cG k'+i'<j+1→cG k'+i'<j∨(i'=i∧k'=k):=fun i' k' h1 h2=>by
  by_cases e:cG k'+i'=j
  ·have:=rS k' i' h1;rw[e,epq]at this;cases this;exact .inr ⟨rfl,rfl⟩
  ·exact .inl (by omega)
 obtain⟨U,V,eU,eV,u1,v1,um,vm,e,k1,hb⟩:=zT hL hi hk hsp;obtain⟨lo1,lo2⟩:=SX hL hS k1 hb;rcases hc with⟨h0,rfl⟩|⟨h0,R,hR,rfl⟩
 ·refine⟨hok',h.le,h.pre,h.pf,fun i' k' h1 h2 h3=>?_⟩;rcases one i' k' h1 h3 with q|⟨rfl,rfl⟩
  ·exact h.pr i' k' h1 h2 q
  ·exact VO hL hi hk hsp hS h0
 ·have hok2:=hok';have hle:=h.le
  refine⟨hok',by show g≤B.m+1;omega,fun i' hi'=>(IX (by omega)).trans (h.pre i' hi'),fun i' hi'=>?_,fun i' k' h1 h2 h3=>?_⟩
  ·show qsum aK g L0 (wO B.P B.m R i')=Rp aK (cY B.L B.m S.r i');by_cases ei:i'=B.m
   ·subst ei;rw[Ho,IW];obtain⟨⟨_,g2,g3⟩,_⟩:=sR hsp;rw[ES hi hk h.ok.p g2 g3 (fun t _=>gO (by have:=((cU hS).1.q t).2;omega) ((cU hS).1.q t).1) h.pf B.m R (Nat.le_refl _) hR,zF hS,e,eU,eV]
   ·have hi2:i'<B.m+1:=hi';rw[Hp (by omega),IX (by omega)];exact h.pf i' (by omega)
  ·have grow:∀j,j<B.m→cY B.L B.m S.r j=B.L j:=fun j hj=>IX hj;have hk':k'<B.m:=by
    have h2':k'<B.m+1:=h2;by_cases ek:k'=B.m
    ·subst ek;omega
    ·omega
   show wW o (B.m+1) (cY B.L B.m S.r) i' k';rcases one i' k' h1 h3 with q|⟨rfl,rfl⟩
   ·exact(h.pr i' k' h1 hk' q).grow (by omega) grow (by omega) hk'
   ·have hL':=nE hok2.ho hok2.l;have hL2:sT o (B.m+1) (cY B.L B.m S.r):=hL'
    refine LP hL2 (by omega) (by omega) (s:=s) (by rw[grow i' hi,grow k' hk];exact hsp) ?_;rw[rQ (grow i' hi),rQ (grow k' hk),←uG aK hS];refine(lo1.grow (by omega) grow).sum ?_;have hmem:aU o S.r∈S.r:=gJ h0
    have hr:=(cU hS).1.r.1
    have:=Lo.one (o:=o) (n:=B.m+1) (L:=cY B.L B.m S.r) (δ:=M.lcm (eT o B.L i') (eT o B.L k')) 1 (m:=⟨0,0,0,0⟩) (j:=B.m) (by omega) ⟨by decide,by decide,by decide,by decide⟩ (by
     have e0:M.sum ⟨0,0,0,0⟩ (eT o (cY B.L B.m S.r) B.m)=(aU o S.r).m:=by unfold eT;rw[IW];unfold M.sum;refine oK ?_ ?_ ?_ ?_<;>(simp only;omega)
     rw[e0]
     exact zO hL.ho (hr.2 _ hmem).1 k1 (lo2 _ hmem))
    rw[Lq.sc_one,GR,IW]at this;exact this
theorem KM {o:Int} {g:Nat} {L0:Nat→List T}:∀(f:Nat) (B:Bs) (j:Nat),Mk o g L0 B j→∀B' d,nS o g f B j=(B',d)→∃j',Mk o g L0 B' j'∧(d=true→cG B'.m≤j')
 |0,B,j,h,B',d,e=>by unfold nS at e;cases e;exact⟨j,h,fun q=>of_decide_eq_true q⟩
 |f+1,B,j,h,B',d,e=>by
  unfold nS at e;split at e
  ·rename_i hj;split at e
   ·cases e;exact⟨j,h,fun q=>by cases q⟩
   ·rename_i B2 hs;exact KM f B2 (j+1) (h.step hj hs) B' d e
  ·cases e;exact⟨j,h,fun _=>by omega⟩
theorem NJ (f:Nat→Lq) (i:Nat):∀n,i<n→(∀j,j<n→j≠i→f j=Lq.nil)→Lq.sumN f n=f i
 |0,h,_=>by omega
 |n+1,h,h0=>by
  show Lq.sum (Lq.sumN f n) (f n)=f i;by_cases e:i=n
  ·subst e;have:Lq.sumN f i=Lq.sumN (fun _=>Lq.nil) i:=Lq.sumN_congr fun j hj=>h0 j (by omega) (by omega)
   rw[this,xY,GU]
  ·rw[NJ f i n (by omega) (fun j hj=>h0 j (by omega)),h0 n (by omega) (fun q=>e q.symm),Lq.sum_nil]
theorem Aa {n:Nat} {L:Nat→List T} {i:Nat} (hi:i<n):qsum aK n L (iW i)=Rp aK (L i):=by
 unfold qsum
 rw[NJ _ i n hi (fun j hj hne=>by
  unfold iW
  rw[if_neg hne,pT,Lq.nil_mul])]
 unfold iW;rw[if_pos rfl,zZ,Lq.sc_mul,GR];exact Lq.sc_one _
theorem Mk.start {o:Int} {n:Nat} {L:Nat→List T} (ho:1≤o∧o≤3) (hl:bB n (lN L) (fN L)=true):Mk o n L (KH n L) 0:=
 ⟨GA ho hl,Nat.le_refl _,fun _ _=>rfl,fun i hi=>Aa hi,fun i k _ _ h=>by omega⟩
theorem AV {o:Int} {n:Nat} {L:Nat→List T} {fuel:Int} {B:Bs} {d:Bool} (h:eS o n L fuel=(B,d)):(B.m=0∧d=false∧¬((1≤o∧o≤3)∧bB n (lN L) (fN L)=true∧(1≤n∧n≤3)∧(0≤fuel∧fuel≤60)))∨(((1≤o∧o≤3)∧bB n (lN L) (fN L)=true∧(1≤n∧n≤3)∧(0≤fuel∧fuel≤60))∧∃j,Mk o n L B j∧(d=true→cG B.m≤j)):=by
 unfold eS at h;split at h
 ·rename_i hc;exact .inr ⟨hc,KM fuel.toNat _ 0 (Mk.start hc.1 hc.2.1) B d h⟩
 ·rename_i hc;cases h;exact .inl ⟨rfl,rfl,hc⟩
open Go.RowKit
theorem Md (u:Int) (u0:0≤u) (u1:u<11):∃x,#[Value.int .i64 1,.int .i64 2,.int .i64 3,.int .i64 1,.int .i64 2,.int .i64 3,.int .i64 1,.int .i64 2,.int .i64 3,.int .i64 0,.int .i64 4][u.toNat]? =some (.int .i64 x):=by
 have hu:u=0∨u=1∨u=2∨u=3∨u=4∨u=5∨u=6∨u=7∨u=8∨u=9∨u=10:=by omega
 rcases hu with rfl|rfl|rfl|rfl|rfl|rfl|rfl|rfl|rfl|rfl|rfl<;>exact⟨_,rfl⟩
theorem VM (w:World) (B p:Nat) (h:kO w B p) (hp:p≤90000):Calls Tryz.prog 46 #[.pointer (some ⟨B,0,none⟩)] w fun e w'=>∃x,e= .returned (.int .i64 x)∧kO w' B (p+1)∧aF B w w':=by
 have hB:=h.lt;go_enter Tryz.func46,Tryz.ntmps46;go_wp2_with fail;refine(bR _ B p 11 (h.alloc _) (by omega) (by omega) (by omega)).mono ?_;rintro e w1 ⟨j,rfl,j0,j1,hk⟩;obtain⟨x,hx⟩:=Md j j0 j1;have hc:w1.cell? ⟨w.heap.size,j.toNat,none⟩=some (.int .i64 x):=by rw[hk.beside.cell (by simp) (by omega),World.cell?_alloc_at _ _ _ _ rfl];exact hx
 have hr:=hk.rdr (h.alloc _);have hb:=(dS B w _).trans hk.beside
 clear hk hx h;go_wp2;go_ret;exact⟨_,rfl,hr,hb⟩
end Go.Proofs.YtelkehjdfcoeiaaGreat
