/-
  What is true of a division: what is taken and what is left is all; nothing is greater; what is left is free, and is left again; so many times an operator.
-/
import Derived.Test.YtdidlcjhodejjaaGreatMal
import Derived.Maps.RangeWalk
import Derived.Defers
import Derived.Recover
set_option maxHeartbeats 8000000
set_option maxRecDepth 100000
namespace Go.Proofs.YtdidlcjhodejjaaGreat
open Go.RowKit Go.Deep Go.Joins
set_option linter.unusedVariables false
abbrev fN (L:Nat→List T):Nat→Nat→T:=fun i=>lf (L i)
abbrev lN (L:Nat→List T):Nat→Nat:=fun i=>(L i).length
theorem Du {t:T} {B Y:List T} (ht:cG [t]=true) (hB:cG B=true) (h:cT (lf [t]) (lf B) B.length 1=some Y):nU [t] B=(Y,true):=by
 unfold nU bV;rw[if_pos ⟨ht,hB⟩];show lC (cT (lf [t]) (lf B) B.length 1)=_
 rw[h];rfl
theorem AO {A B:List T} (hA:aK A) (hB:aK B) {s:T} (hs:s∈dJ A B):(∃a∈A,a.m=s.m)∨(∃b∈B,b.m=s.m):=by
 obtain⟨hf,hc⟩:=cU hA hB;have h1:=(iR hf hs).2
 rw[hc]at h1;by_cases ha:aM A s.m=0
 ·by_cases hb:aM B s.m=0
  ·rw[ha,hb]at h1;exact absurd rfl h1
  ·obtain⟨b,h2,h3⟩:=List.mem_map.1 (mD hb);exact .inr ⟨b,h2,h3⟩
 ·obtain⟨a,h2,h3⟩:=List.mem_map.1 (mD ha);exact .inl ⟨a,h2,h3⟩
theorem Dl {c:Int} {A:List T} {s:T} (hs:s∈kZ c A):∃a∈A,a.m=s.m:=by rw[nF]at hs;obtain⟨a,h1,rfl⟩:=List.mem_map.1 hs;exact⟨a,h1,rfl⟩
theorem tK {A B:List T} (hA:aK A) (hB:aK B) {s:T} (hs:s∈cY A B):(∃a∈A,a.m=s.m)∨(∃b∈B,b.m=s.m):=by
 rcases AO hA (gW (by omega) (by omega) hB) hs with h|⟨b,h1,h2⟩
 ·exact .inl h
 ·obtain⟨a,h3,h4⟩:=Dl h1;exact .inr ⟨a,h3,h4.trans h2⟩
theorem kS {o:Int} {n:Nat} {L:Nat→List T} (hl:aT n (lN L) (fN L)=true) {S S':Dv} (hp:cG S.p=true) (h0:S.p.length≠0) (hs:dS o n (lN L) (fN L) S=some S'):(∃k Y,k<n∧M.dvd (aV o (L k)).m (aV o S.p).m=true∧cG [gI (aV o S.p) (aV o (L k))]=true∧nU [gI (aV o S.p) (aV o (L k))] (L k)=(Y,true)∧(cY S.p Y).length≤400∧S'=⟨cY S.p Y,oK S.q k (dJ (S.q k) [gI (aV o S.p) (aV o (L k))]),S.r⟩)∨((∀i,i<n→M.dvd (aV o (L i)).m (aV o S.p).m=false)∧S'=iW o S):=by
 unfold dS at hs;split at hs
 ·rename_i hk;have hf:=nK hk
  have hg:=MK hl hp h0 hk;generalize(BR o n (lN L) (fN L) (aV o S.p).m).toNat=k at hs hf hg;unfold jO at hs;split at hs
  ·cases hs
  ·rename_i Y hY;split at hs
   ·rename_i hle;cases hs;have ho:=jE hg
    exact .inl ⟨k,Y,hf.1,hf.2,ho,Du ho ((aL hl).2 k hf.1).2 hY,hle,rfl⟩
   ·cases hs
 ·rename_i hk;cases hs;refine .inr ⟨fun i hi=>?_,rfl⟩;cases hd:M.dvd (aV o (L i)).m (aV o S.p).m
  ·rfl
  ·exact absurd (qT.2 ⟨i,hi,hd⟩) hk
theorem zJ {o:Int} {n:Nat} {L:Nat→List T} (hl:aT n (lN L) (fN L)=true) (I:Dv→Prop) (hI:∀u S S',lA u S→S.p.length≠0→I S→dS o n (lN L) (fN L) S=some S'→I S'):∀{v u:Nat} {S S':Dv},lA u S→I S→eR o n (lN L) (fN L) v S=some S'→I S'
 |0,u,S,S',h,hi,hr=>by
  unfold eR at hr;split at hr
  ·cases hr;exact hi
  ·cases hr
 |v+1,u,S,S',h,hi,hr=>by
  by_cases h0:S.p.length=0
  ·rw[lG h0]at hr;cases hr;exact hi
  ·cases hs:dS o n (lN L) (fN L) S with
   |none=>rw[vY h0 hs]at hr;cases hr
   |some S1=>
    rw[lH h0 hs]at hr;exact zJ hl I hI (pQ hl h h0 hs) (hI u S S1 h h0 hi hs) hr
theorem jI {o:Int} {p:List T} {n:Nat} {L:Nat→List T} {S:Dv} (h:aW o p n (lN L) (fN L)=some S):(1≤o∧o≤3)∧cG p=true∧aT n (lN L) (fN L)=true∧eR o n (lN L) (fN L) 300 (lB p)=some S:=by
 unfold aW at h;split at h
 ·rename_i hh;exact⟨hh.1,hh.2.1,hh.2.2,h⟩
 ·cases h
theorem nD {o:Int} {p:List T} {n:Nat} {L:Nat→List T} {S:Dv} (h:aW o p n (lN L) (fN L)=some S) (I:Dv→Prop) (h0:I (lB p)) (hI:∀u S S',lA u S→S.p.length≠0→I S→dS o n (lN L) (fN L) S=some S'→I S'):I S:=by obtain⟨_,h2,h3,h4⟩:=jI h;exact zJ h3 I hI (lA.start h2) h0 h4
theorem dG {o:Int} {p:List T} {n:Nat} {L:Nat→List T} {S:Dv} (h:aW o p n (lN L) (fN L)=some S):lA 300 S∧S.p=[]:=by
 obtain⟨_,h2,h3,h4⟩:=jI h;have:=vZ h3 (lA.start h2) h4
 exact⟨by simpa using this.1,this.2⟩
theorem xF {o:Int} {p:List T} {n:Nat} {L:Nat→List T} {S:Dv} (h:aW o p n (lN L) (fN L)=some S):∀t∈S.r,∀i,i<n→M.dvd (aV o (L i)).m t.m=false:=by
 obtain⟨_,h2,h3,h4⟩:=jI h;refine nD h (fun S=>∀t∈S.r,∀i,i<n→M.dvd (aV o (L i)).m t.m=false) (fun t ht=>by cases ht) (fun u S S' hok h0 hI hs=>?_);rcases kS h3 hok.p h0 hs with⟨k,Y,_,_,_,_,_,rfl⟩|⟨hno,rfl⟩
 ·exact hI
 ·intro t ht i hi;rcases AO hok.r.1 (dH (dU (o:=o) (aD hok.p).2 h0)) ht with⟨a,ha,e⟩|⟨b,hb,e⟩
  ·rw[←e];exact hI a ha i hi
  ·rw[←e,List.mem_singleton.1 hb];exact hno i hi
theorem OC {t l:T} (hd:M.dvd l.m t.m=true):(gI t l).m.sum l.m=t.m:=by
 have h:=EJ hd;unfold M.mul at h;split at h
 ·exact congrArg Prod.fst h
 ·exact absurd (congrArg Prod.snd h) (by simp)
theorem OL {o:Int} (ho:1≤o∧o≤3) {t:T} {B Y:List T} (hB:cG B=true) (hB0:B.length≠0) (h:nU [t] B=(Y,true)):∀s∈Y,fH o s.m≤fH o t.m+fH o (aV o B).m:=fun s hs=>by
 have:=(GJ (DP o) lW h (List.mem_singleton.2 rfl) (gN (o:=o) hB0) (fun a ha=>by rw[List.mem_singleton.1 ha];exact Int.le_refl _) (sZ ho hB hB0)).2 s hs;rw[(DP o t.m (aV o B).m 0 0).2]at this;exact this
theorem OV {o:Int} {p:List T} {n:Nat} {L:Nat→List T} {S:Dv} (h:aW o p n (lN L) (fN L)=some S) {N:Int} (hN:∀t∈p,fH o t.m≤N):(∀t∈S.r,fH o t.m≤N)∧∀i,i<n→∀s∈S.q i,(s.m.sum (aV o (L i)).m).ok=true∧fH o (s.m.sum (aV o (L i)).m)≤N:=by
 obtain⟨h1,h2,h3,h4⟩:=jI h
 have key:=nD h (fun S=>(∀t∈S.p,fH o t.m≤N)∧(∀t∈S.r,fH o t.m≤N)∧∀i,i<n→∀s∈S.q i,(s.m.sum (aV o (L i)).m).ok=true∧fH o (s.m.sum (aV o (L i)).m)≤N) ⟨hN,⟨fun t ht=>absurd ht (List.not_mem_nil),fun i _ s hs=>absurd hs (List.not_mem_nil)⟩⟩ (fun u S S' hok h0 hI hs=>by
  obtain⟨i1,i2,i3⟩:=hI;have hl:=gN (o:=o) h0
  have hg:=dU (o:=o) (aD hok.p).2 h0;rcases kS h3 hok.p h0 hs with⟨k,Y,hk,hd,ho,hY,_,rfl⟩|⟨hno,rfl⟩
  ·have hk2:=(aL h3).2 k hk;have htop:=OL h1 hk2.2 hk2.1 hY
   have hsum:=OC hd;have hw:=(DP o (gI (aV o S.p) (aV o (L k))).m (aV o (L k)).m 0 0).2
   rw[hsum]at hw;refine⟨fun t ht=>?_,i2,fun i hi s hs=>?_⟩
   ·rcases tK (aD hok.p).2 (oM hY) ht with⟨a,ha,e⟩|⟨b,hb,e⟩
    ·rw[←e];exact i1 a ha
    ·rw[←e];have:=htop b hb
     have:=i1 _ hl;omega
   ·change s∈oK S.q k _ i at hs;unfold oK at hs;split at hs
    ·rename_i e;subst e;rcases AO (hok.q i).1 (aD ho).2 hs with⟨a,ha,e⟩|⟨b,hb,e⟩
     ·rw[←e];exact i3 i hi a ha
     ·rw[←e,List.mem_singleton.1 hb,hsum];exact⟨hg.1,i1 _ hl⟩
    ·exact i3 i hi s hs
  ·refine⟨fun t ht=>?_,fun t ht=>?_,i3⟩
   ·rcases tK (aD hok.p).2 (dH hg) ht with⟨a,ha,e⟩|⟨b,hb,e⟩
    ·rw[←e];exact i1 a ha
    ·rw[←e,List.mem_singleton.1 hb];exact i1 _ hl
   ·rcases AO hok.r.1 (dH hg) ht with⟨a,ha,e⟩|⟨b,hb,e⟩
    ·rw[←e];exact i2 a ha
    ·rw[←e,List.mem_singleton.1 hb];exact i1 _ hl)
 exact⟨key.2.1,key.2.2⟩
theorem Cz (c:Int) (L:List T) {i:Nat} (h:i<L.length):lf (kZ c L) i=vG c (lf L i):=by
 have h2:i<(kZ c L).length:=by rw[gA];exact h
 rw[jA h2,jA h];simp only[nF,List.getElem_map];rfl
theorem sI (o:Int) (f g:Nat→T):∀(u i k n:Nat),i+u≤n→k<n→(∀j,j<n→(f j).m=(g j).m)→bB o f u i k=bB o g u i k
 |0,i,k,n,_,_,_=>rfl
 |u+1,i,k,n,hi,hk,h=>by
  simp only[bB];rw[h i (by omega),h k hk];split
  ·exact sI o f g u (i+1) i n (by omega) (by omega) h
  ·exact sI o f g u (i+1) k n (by omega) hk h
theorem Nr (o c:Int) {L:List T} (h0:L.length≠0):aV o (kZ c L)=vG c (aV o L):=by
 have e:bD o (lf (kZ c L)) (kZ c L).length=bD o (lf L) L.length:=by rw[gA];exact sI o _ _ (L.length-1) 1 0 L.length (by omega) (by omega) (fun j hj=>by rw[Cz c L hj];rfl)
 unfold aV;rw[e,Cz c L (tD (by omega))]
open Go.RowKit Go.Deep Go.Joins Go.Maps
theorem cJ.grown {w w':World} {b:Nat} {t:T} {row:Option Nat} (h:cJ w b t) (hg:w.grownBy w' row) (hne:some b≠row):cJ w' b t:=by
 have hl:=h.1.lt;have hb:=hg.block b hl hne
 obtain⟨⟨h0,h1,h2,h3,h4⟩,h5⟩:=h;exact⟨⟨(mB (a:=⟨b,0,none⟩) hb).trans h0,(mB (a:=⟨b,1,none⟩) hb).trans h1,(mB (a:=⟨b,2,none⟩) hb).trans h2,(mB (a:=⟨b,3,none⟩) hb).trans h3,(mB (a:=⟨b,4,none⟩) hb).trans h4⟩,fun j=>(World.frozen?_of_block (a:=⟨b,j,none⟩) hb).trans (h5 j)⟩
theorem jR (w:World) (b i:Nat) (v:Value):w.grownBy (w.setCell ⟨b,i,none⟩ v) (some b):=
 ⟨(bL 0 w).setCell (p:=⟨b,i,none⟩) (Nat.zero_le _) v |>.os,(bL 0 w).setCell (p:=⟨b,i,none⟩) (Nat.zero_le _) v |>.tape,(bL 0 w).setCell (p:=⟨b,i,none⟩) (Nat.zero_le _) v |>.output,(bL 0 w).setCell (p:=⟨b,i,none⟩) (Nat.zero_le _) v |>.size,fun k _ hk=>Below.heap_setCell _ _ _ k (fun e=>hk (by rw[e]))⟩
theorem pS (w:World) (B:Nat) (v0 v1 v2 v3 v4:Value):w.grownBy (((((w.setCell ⟨B,0,none⟩ v0).setCell ⟨B,1,none⟩ v1).setCell ⟨B,2,none⟩ v2).setCell ⟨B,3,none⟩ v3).setCell ⟨B,4,none⟩ v4) (some B):=
 ((((jR w B 0 v0).trans (jR _ B 1 v1)).trans (jR _ B 2 v2)).trans (jR _ B 3 v3)).trans (jR _ B 4 v4)
def QH (rk:M→Int) (c:M→Int) (ss:List M) (G:T):Prop:=(ss=[]∧G=cB)∨(1≤G.c∧G.m.ok=true∧G.m∈ss∧G.c=c G.m∧∀m∈ss,rk m≤rk G.m)
theorem QH.first {rk c:M→Int} {G:T} (h:QH rk c [] G):G=cB:=by
 rcases h with⟨_,h⟩|⟨_,_,h,_⟩
 ·exact h
 ·simp at h
theorem QH.put {rk c:M→Int} {ss:List M} {G:T} {m:M} (h:QH rk c ss G) (hm:m.ok=true) (hc:1≤c m) (hg:G.c=0∨rk G.m<rk m):QH rk c (ss++[m]) ⟨c m,m⟩:=by
 refine .inr ⟨hc,hm,by simp,rfl,fun x hx=>?_⟩;rcases List.mem_append.1 hx with hx|hx
 ·rcases h with⟨rfl,_⟩|⟨h1,_,_,_,h5⟩
  ·simp at hx
  ·rcases hg with hg|hg
   ·omega
   ·have:=h5 x hx;show rk x≤rk m
    omega
 ·simp at hx;rw[hx];exact Int.le_refl _
theorem QH.keep {rk c:M→Int} {ss:List M} {G:T} {m:M} (h:QH rk c ss G) (h1:1≤G.c) (hg:¬rk G.m<rk m):QH rk c (ss++[m]) G:=by
 rcases h with⟨_,rfl⟩|⟨_,h0,h2,h3,h5⟩
 ·exact absurd h1 (by decide)
 ·refine .inr ⟨h1,h0,List.mem_append_left _ h2,h3,fun x hx=>?_⟩;rcases List.mem_append.1 hx with hx|hx
  ·exact h5 x hx
  ·simp at hx;rw[hx];omega
theorem QH.all {o:Int} {p:List T} (ho:1≤o∧o≤3) (hp:cG p=true) (h0:p.length≠0) {ss:List M} {G:T} (h:QH (fH o) (aM p) ss G) (hs:∀m:M,m.ok=true→(m∈ss↔aM p m≠0)):G=aV o p:=by
 have hl:=gN (o:=o) h0;have hf:=(aD hp).2
 have hlm:=hf.2 _ hl;have hcl:=iR hf hl
 have hin:(aV o p).m∈ss:=(hs _ hlm.1).2 hcl.2;rcases h with⟨rfl,_⟩|⟨h1,h2,h3,h4,h5⟩
 ·simp at hin
 ·have hc:aM p G.m≠0:=(hs _ h2).1 h3;obtain⟨t,ht,he⟩:=List.mem_map.1 (mD hc);have he:t.m=G.m:=he
  have e1:=h5 _ hin;have e2:=sZ ho hp h0 t ht
  rw[he]at e2;have e3:G.m=(aV o p).m:=lW _ _ h2 hlm.1 (Int.le_antisymm e2 e1)
  have e4:G.c=(aV o p).c:=by rw[h4,e3,hcl.1]
  cases hG:G with|mk gc gm=>
  cases hL:aV o p with|mk lc lm=>
  rw[hG,hL]at e3 e4;simp at e3 e4;rw[e3,e4]
theorem nV.all {D:DataW Unit} {left:Lit→Bool} {ss:List M} {c:M→Int} (h:nV D left ss) (hl:∀kl,left kl=false) (hat:∀m:M,m.ok=true→D.atKey (eI m) (.lit (.int .i64 0))= .lit (.int .i64 (c m))∧(Maps.has D (eI m)=true↔c m≠0)):∀m:M,m.ok=true→(m∈ss↔c m≠0):=fun m hm=>by
 rw[h.2.2 m hm,hl];simp[(hat m hm).2]
theorem XN (w:World) (b n:Nat) (c:M→Int) (h:bZ w b n c):Calls Tryz.prog 148 #[.map (some b),.func (.func 103) #[] #[]] w fun r w'=>∃G:T,r= .returned (.agg #[.int .i64 G.c,.int .i64 G.m.x,.int .i64 G.m.y,.int .i64 G.m.d,.int .i64 G.m.e])∧Below w.heap.size w w'∧∃ss,QH fF c ss G∧∀m:M,m.ok=true→(m∈ss↔c m≠0):=by
 obtain⟨D,hown,hc,hat,hks⟩:=h;have hblt:=hown.lt
 have HKS:=aA hks;have HAT:=aA hat
 have HC:=aA hc;have HO2:=aA ((hown.alloc (.cells #[.int .i64 0,.int .i64 0,.int .i64 0,.int .i64 0,.int .i64 0] 42)).alloc (.cells #[.int .i64 0,.int .i64 0,.int .i64 0,.int .i64 0,.int .i64 0] 42))
 have HB0:=aA (aR w (.cells #[.int .i64 0,.int .i64 0,.int .i64 0,.int .i64 0,.int .i64 0] 42) (.cells #[.int .i64 0,.int .i64 0,.int .i64 0,.int .i64 0,.int .i64 0] 42));have HZ0:=aA ((cJ.box w 42 cB).below (aC _ (.cells #[.int .i64 0,.int .i64 0,.int .i64 0,.int .i64 0,.int .i64 0] 42)))
 have HG0:=aA (cJ.box (w.alloc (.cells #[.int .i64 0,.int .i64 0,.int .i64 0,.int .i64 0,.int .i64 0] 42)) 42 cB);clear hks hat hown hc;go_enter Tryz.func148,Tryz.ntmps148
 go_wp2_with (first
  |(at_range;refine wpList_range_own _ rfl _ 170 rfl 40 138 nA Tryz.underlying170 _ b n D rfl HO2.out ?_;intro w0 hrg0 hg0 hs0)
  |go_in)
 have hs2:((w.alloc (.cells #[.int .i64 0,.int .i64 0,.int .i64 0,.int .i64 0,.int .i64 0] 42)).alloc (.cells #[.int .i64 0,.int .i64 0,.int .i64 0,.int .i64 0,.int .i64 0] 42)).heap.size=w.heap.size+2:=by simp
 have HB1:=aA (nI HB0.out hg0 (by simp));have HZ1:=aA (HZ0.out.grown hg0 (by simp))
 have HG1:=aA (HG0.out.grown hg0 (by simp));have HRG:=aA hrg0
 rw[hs2]at HRG;simp only[World.size_alloc]at HG1;clear HB0 HZ0 HG0 HO2 hrg0 hg0 hs0
 go_frame
 rw[hs2]
 go_loopw [6] (fun _ wr=>∃(left:Lit→Bool) (BO:Nat) (ss:List M) (G:T),wr.ranges Tryz.prog 40 (plainElem Tryz.prog 138) b (w.heap.size+2) n D left BO∧nV D left ss∧Below w.heap.size w wr∧cJ wr w.heap.size cB∧cJ wr (w.heap.size+1) G∧QH fF c ss G)
  (fun _ wr=>wr.rangeLeft b (w.heap.size+2))
 case atStart=>exact⟨_,_,[],cB,HRG.out,nV.start D,HB1.out,HZ1.out,HG1.out,.inl ⟨rfl,rfl⟩⟩
 case round=>
  obtain⟨left,BO,ss,G,hrg,hC,hB,hZ,hG,hM⟩:=hrel;have HCO:=aA hC
  have HB:=aA hB;have HZ:=aA hZ
  have HGG:=aA hG;have HM:=aA hM
  have HRR:=aA hrg;have hGl:w.heap.size+1<wr.heap.size:=hG.1.lt
  clear hC hB hZ hG hM
  go_wp2_with (first
   |(at_next;refine wpList_next_ranges _ rfl _ rfl 40 nA (plainElem Tryz.prog 138) (id:Value→Value) (Value.int .i64) (fun key kl hk=>⟨key,rfl⟩) (fun v y hv=>by obtain⟨c,rfl,_⟩:=plainElem_int_inv Tryz.underlying138 hv;exact⟨c,rfl⟩) b (w.heap.size+2) n _ _ _ rfl HRR.out ?_ ?_)
   |go_in)
  ·intro hc0 hl0;obtain⟨⟨z0,z1,z2,z3,z4⟩,fz⟩:=HZ.out;obtain⟨⟨l0,l1,l2,l3,l4⟩,_⟩:=HGG.out;simp only[cB]at z0 z1 z2 z3 z4;have HAL:=aA (HCO.out.all hl0 HAT.out)
   clear hl0 hrg HZ HGG;go_wp2;refine bY (v:=.agg #[.int .i64 G.c,.int .i64 G.m.x,.int .i64 G.m.y,.int .i64 G.m.d,.int .i64 G.m.e]) (by simp[results,Tryz.results148,go_sem, *]) rfl ⟨G,rfl,?_,ss,HM.out,HAL.out⟩;exact cE HB.out (Nat.le_refl _) _ _ _ _ _
  ·intro x cv kl yd yp w2 cnt2 hkey hlk hv hatx hrg2 hlt hg2 hsz2 hen;obtain⟨m,hmo,rfl⟩:=HKS.out kl (has_true_of_atKey hatx);obtain rfl:x=XH m:=nA.inj hkey (pH hmo);obtain rfl:cv=c m:=by
    obtain⟨c',e,e2,_⟩:=plainElem_int_inv Tryz.underlying138 hv;cases e;cases e2;have h1:=(HAT.out m hmo).1
    rw[hatx]at h1;simpa using h1
   have hcm:1≤c m:=by
    have h1:=(HAT.out m hmo).2.1 (has_true_of_atKey hatx);have h2:=(HC.out m).1
    omega
   have hcm2:=(HC.out m).2;have HRG2:=aA (hrg2.alloc (.cells #[.int .i64 m.x,.int .i64 m.y,.int .i64 m.d,.int .i64 m.e] 40))
   have HLT:=aA (show cnt2<wr.rangeLeft b (w.heap.size+2) by rw[hrg.left_eq];exact hlt);have HCO2:=aA (HCO.out.step hmo hlk hatx)
   have hB2:=nI HB.out hg2 (fun k e=>by cases e;omega);have HB2:=aA (hB2.alloc hB2.size (.cells #[.int .i64 m.x,.int .i64 m.y,.int .i64 m.d,.int .i64 m.e] 40))
   have HZ2:=aA ((HZ.out.grown hg2 (by simp)).below (aC w2 (.cells #[.int .i64 m.x,.int .i64 m.y,.int .i64 m.d,.int .i64 m.e] 40)));have HG2:=aA ((HGG.out.grown hg2 (by simp)).below (aC w2 (.cells #[.int .i64 m.x,.int .i64 m.y,.int .i64 m.d,.int .i64 m.e] 40)))
   have HM2:=aA (M4.box w2 40 m.x m.y m.d m.e);have hsw:w.heap.size+1<w2.heap.size:=by rw[hsz2];exact hGl
   have hrw:w.heap.size+2<w2.heap.size:=hrg2.lt;have hbw:b<w2.heap.size:=hrg2.owns.lt
   clear hlk hatx hrg hrg2 hlt hg2 hsz2 hkey hv hB2 HRR HB HZ HGG HCO hGl;go_wp2_with fail;generalize(w2.alloc (.cells #[.int .i64 m.x,.int .i64 m.y,.int .i64 m.d,.int .i64 m.e] 40))=wq at HRG2 HB2 HZ2 HG2 HM2⊢;have ne:=bJ.there wq
   have s0:∀u:bJ wq,u.1.cell? ⟨w2.heap.size,0,none⟩=some (.int .i64 m.x):=fun u=>(u.cell HM2.out.lt).trans HM2.out.1;have s1:∀u:bJ wq,u.1.cell? ⟨w2.heap.size,1,none⟩=some (.int .i64 m.y):=fun u=>(u.cell HM2.out.lt).trans HM2.out.2.1
   have s2:∀u:bJ wq,u.1.cell? ⟨w2.heap.size,2,none⟩=some (.int .i64 m.d):=fun u=>(u.cell HM2.out.lt).trans HM2.out.2.2.1;have s3:∀u:bJ wq,u.1.cell? ⟨w2.heap.size,3,none⟩=some (.int .i64 m.e):=fun u=>(u.cell HM2.out.lt).trans HM2.out.2.2.2
   have t0:∀u:bJ wq,u.1.cell? ⟨w.heap.size+1,0,none⟩=some (.int .i64 G.c):=fun u=>(u.cell HG2.out.1.lt).trans HG2.out.1.1;have t1:∀u:bJ wq,u.1.cell? ⟨w.heap.size+1,1,none⟩=some (.int .i64 G.m.x):=fun u=>(u.cell HG2.out.1.lt).trans HG2.out.1.2.1
   have t2:∀u:bJ wq,u.1.cell? ⟨w.heap.size+1,2,none⟩=some (.int .i64 G.m.y):=fun u=>(u.cell HG2.out.1.lt).trans HG2.out.1.2.2.1;have t3:∀u:bJ wq,u.1.cell? ⟨w.heap.size+1,3,none⟩=some (.int .i64 G.m.d):=fun u=>(u.cell HG2.out.1.lt).trans HG2.out.1.2.2.2.1
   have t4:∀u:bJ wq,u.1.cell? ⟨w.heap.size+1,4,none⟩=some (.int .i64 G.m.e):=fun u=>(u.cell HG2.out.1.lt).trans HG2.out.1.2.2.2.2;by_cases hG0:G.c=0
   ·have hgz:((G.c:Int)==0)=true:=by simpa using hG0
    have HMT:=aA (HM.out.put hmo hcm (.inl hG0));clear HM hG0;refine aG (by kernel_rfl) (by kernel_rfl) ?_;repeat(go_big_quiet_step (fail))
    refine wpQuiet_nil ?_;rintro _ ⟨v,rfl⟩;have HBV:=aA (HB2.out.trans (v.2.mono HB2.out.size))
    have HZV:=aA (HZ2.out.below v.2);have HGV:=aA (HG2.out.below v.2)
    have HMV:=aA (HM2.out.below v.2);have HRV:=aA (HRG2.out.kept (cK v.2 none) (by simp) (by simp))
    obtain⟨u,hu⟩:∃u,v.1=u:=⟨_,rfl⟩
    rw[hu]at HBV HZV HGV HMV HRV⊢;clear hu s0 s1 s2 s3 t0 t1 t2 t3 t4 ne v;obtain⟨q0,q1,q2,q3⟩:=HMV.out;obtain⟨⟨l0,l1,l2,l3,l4⟩,lz⟩:=HGV.out;have HRW:=aA (HRV.out.kept (pS u (w.heap.size+1) (.int .i64 (c m)) (.int .i64 m.x) (.int .i64 m.y) (.int .i64 m.d) (.int .i64 m.e)) (by simp;omega) (by simp))
    clear HRV;go_wp2;go_roundw
    case rel=>
     refine⟨_,cnt2,ss++[m],⟨c m,m⟩,HRW.out,HCO2.out,cE HBV.out (by omega) _ _ _ _ _,HZV.out.far (by omega),⟨⟨by go_simp,by go_simp,by go_simp,by go_simp,by go_simp⟩,fun j=>by go_simp⟩,HMT.out⟩
    case measure=>rw[HRW.out.left_eq];exact HLT.out
   ·have hgz:((G.c:Int)==0)=false:=by simpa using hG0
    obtain⟨hg1,hgo⟩:1≤G.c∧G.m.ok=true:=by
     rcases HM.out with⟨_,e⟩|⟨e1,e2,_⟩
     ·rw[e]at hG0;exact absurd rfl hG0
     ·exact⟨e1,e2⟩
    by_cases hq:fF G.m<fF m
    ·have dq:decide (fF ⟨G.m.x,G.m.y,G.m.d,G.m.e⟩<fF ⟨m.x,m.y,m.d,m.e⟩)=true:=decide_eq_true hq;have HMT:=aA (HM.out.put hmo hcm (.inr hq))
     clear HM hG0 hq;refine aG (by kernel_rfl) (by kernel_rfl) ?_;repeat(go_big_quiet_step (first|(go_at_call 103;exact aJ (fZ _ _ _ _ _ hmo))|(go_at_call 103;exact aJ (fZ _ _ _ _ _ hgo))))
     refine wpQuiet_nil ?_;rintro _ ⟨v,rfl⟩;have HBV:=aA (HB2.out.trans (v.2.mono HB2.out.size))
     have HZV:=aA (HZ2.out.below v.2);have HGV:=aA (HG2.out.below v.2)
     have HMV:=aA (HM2.out.below v.2);have HRV:=aA (HRG2.out.kept (cK v.2 none) (by simp) (by simp))
     obtain⟨u,hu⟩:∃u,v.1=u:=⟨_,rfl⟩
     rw[hu]at HBV HZV HGV HMV HRV⊢;clear hu s0 s1 s2 s3 t0 t1 t2 t3 t4 ne v;obtain⟨q0,q1,q2,q3⟩:=HMV.out;obtain⟨⟨l0,l1,l2,l3,l4⟩,lz⟩:=HGV.out;have HRW:=aA (HRV.out.kept (pS u (w.heap.size+1) (.int .i64 (c m)) (.int .i64 m.x) (.int .i64 m.y) (.int .i64 m.d) (.int .i64 m.e)) (by simp;omega) (by simp))
     clear HRV;go_wp2;go_roundw
     case rel=>
      refine⟨_,cnt2,ss++[m],⟨c m,m⟩,HRW.out,HCO2.out,cE HBV.out (by omega) _ _ _ _ _,HZV.out.far (by omega),⟨⟨by go_simp,by go_simp,by go_simp,by go_simp,by go_simp⟩,fun j=>by go_simp⟩,HMT.out⟩
     case measure=>rw[HRW.out.left_eq];exact HLT.out
    ·have dq:decide (fF ⟨G.m.x,G.m.y,G.m.d,G.m.e⟩<fF ⟨m.x,m.y,m.d,m.e⟩)=false:=decide_eq_false hq;have HMT:=aA (HM.out.keep hg1 hq)
     clear HM hG0 hq;refine aG (by kernel_rfl) (by kernel_rfl) ?_;repeat(go_big_quiet_step (first|(go_at_call 103;exact aJ (fZ _ _ _ _ _ hmo))|(go_at_call 103;exact aJ (fZ _ _ _ _ _ hgo))))
     refine wpQuiet_nil ?_;rintro _ ⟨v,rfl⟩;have HBV:=aA (HB2.out.trans (v.2.mono HB2.out.size))
     have HZV:=aA (HZ2.out.below v.2);have HGV:=aA (HG2.out.below v.2)
     have HRV:=aA (HRG2.out.kept (cK v.2 none) (by simp) (by simp));obtain⟨u,hu⟩:∃u,v.1=u:=⟨_,rfl⟩
     rw[hu]at HBV HZV HGV HRV⊢;clear hu s0 s1 s2 s3 t0 t1 t2 t3 t4 ne v;go_wp2;go_roundw;case rel=>exact⟨_,cnt2,ss++[m],G,HRV.out,HCO2.out,HBV.out,HZV.out,HGV.out,HMT.out⟩
     case measure=>rw[HRV.out.left_eq];exact HLT.out
theorem XO (w:World) (b n:Nat) (c:M→Int) (h:bZ w b n c):Calls Tryz.prog 148 #[.map (some b),.func (.func 104) #[] #[]] w fun r w'=>∃G:T,r= .returned (.agg #[.int .i64 G.c,.int .i64 G.m.x,.int .i64 G.m.y,.int .i64 G.m.d,.int .i64 G.m.e])∧Below w.heap.size w w'∧∃ss,QH iF c ss G∧∀m:M,m.ok=true→(m∈ss↔c m≠0):=by
 obtain⟨D,hown,hc,hat,hks⟩:=h;have hblt:=hown.lt
 have HKS:=aA hks;have HAT:=aA hat
 have HC:=aA hc;have HO2:=aA ((hown.alloc (.cells #[.int .i64 0,.int .i64 0,.int .i64 0,.int .i64 0,.int .i64 0] 42)).alloc (.cells #[.int .i64 0,.int .i64 0,.int .i64 0,.int .i64 0,.int .i64 0] 42))
 have HB0:=aA (aR w (.cells #[.int .i64 0,.int .i64 0,.int .i64 0,.int .i64 0,.int .i64 0] 42) (.cells #[.int .i64 0,.int .i64 0,.int .i64 0,.int .i64 0,.int .i64 0] 42));have HZ0:=aA ((cJ.box w 42 cB).below (aC _ (.cells #[.int .i64 0,.int .i64 0,.int .i64 0,.int .i64 0,.int .i64 0] 42)))
 have HG0:=aA (cJ.box (w.alloc (.cells #[.int .i64 0,.int .i64 0,.int .i64 0,.int .i64 0,.int .i64 0] 42)) 42 cB);clear hks hat hown hc;go_enter Tryz.func148,Tryz.ntmps148
 go_wp2_with (first
  |(at_range;refine wpList_range_own _ rfl _ 170 rfl 40 138 nA Tryz.underlying170 _ b n D rfl HO2.out ?_;intro w0 hrg0 hg0 hs0)
  |go_in)
 have hs2:((w.alloc (.cells #[.int .i64 0,.int .i64 0,.int .i64 0,.int .i64 0,.int .i64 0] 42)).alloc (.cells #[.int .i64 0,.int .i64 0,.int .i64 0,.int .i64 0,.int .i64 0] 42)).heap.size=w.heap.size+2:=by simp
 have HB1:=aA (nI HB0.out hg0 (by simp));have HZ1:=aA (HZ0.out.grown hg0 (by simp))
 have HG1:=aA (HG0.out.grown hg0 (by simp));have HRG:=aA hrg0
 rw[hs2]at HRG;simp only[World.size_alloc]at HG1;clear HB0 HZ0 HG0 HO2 hrg0 hg0 hs0
 go_frame
 rw[hs2]
 go_loopw [6] (fun _ wr=>∃(left:Lit→Bool) (BO:Nat) (ss:List M) (G:T),wr.ranges Tryz.prog 40 (plainElem Tryz.prog 138) b (w.heap.size+2) n D left BO∧nV D left ss∧Below w.heap.size w wr∧cJ wr w.heap.size cB∧cJ wr (w.heap.size+1) G∧QH iF c ss G)
  (fun _ wr=>wr.rangeLeft b (w.heap.size+2))
 case atStart=>exact⟨_,_,[],cB,HRG.out,nV.start D,HB1.out,HZ1.out,HG1.out,.inl ⟨rfl,rfl⟩⟩
 case round=>
  obtain⟨left,BO,ss,G,hrg,hC,hB,hZ,hG,hM⟩:=hrel;have HCO:=aA hC
  have HB:=aA hB;have HZ:=aA hZ
  have HGG:=aA hG;have HM:=aA hM
  have HRR:=aA hrg;have hGl:w.heap.size+1<wr.heap.size:=hG.1.lt
  clear hC hB hZ hG hM
  go_wp2_with (first
   |(at_next;refine wpList_next_ranges _ rfl _ rfl 40 nA (plainElem Tryz.prog 138) (id:Value→Value) (Value.int .i64) (fun key kl hk=>⟨key,rfl⟩) (fun v y hv=>by obtain⟨c,rfl,_⟩:=plainElem_int_inv Tryz.underlying138 hv;exact⟨c,rfl⟩) b (w.heap.size+2) n _ _ _ rfl HRR.out ?_ ?_)
   |go_in)
  ·intro hc0 hl0;obtain⟨⟨z0,z1,z2,z3,z4⟩,fz⟩:=HZ.out;obtain⟨⟨l0,l1,l2,l3,l4⟩,_⟩:=HGG.out;simp only[cB]at z0 z1 z2 z3 z4;have HAL:=aA (HCO.out.all hl0 HAT.out)
   clear hl0 hrg HZ HGG;go_wp2;refine bY (v:=.agg #[.int .i64 G.c,.int .i64 G.m.x,.int .i64 G.m.y,.int .i64 G.m.d,.int .i64 G.m.e]) (by simp[results,Tryz.results148,go_sem, *]) rfl ⟨G,rfl,?_,ss,HM.out,HAL.out⟩;exact cE HB.out (Nat.le_refl _) _ _ _ _ _
  ·intro x cv kl yd yp w2 cnt2 hkey hlk hv hatx hrg2 hlt hg2 hsz2 hen;obtain⟨m,hmo,rfl⟩:=HKS.out kl (has_true_of_atKey hatx);obtain rfl:x=XH m:=nA.inj hkey (pH hmo);obtain rfl:cv=c m:=by
    obtain⟨c',e,e2,_⟩:=plainElem_int_inv Tryz.underlying138 hv;cases e;cases e2;have h1:=(HAT.out m hmo).1
    rw[hatx]at h1;simpa using h1
   have hcm:1≤c m:=by
    have h1:=(HAT.out m hmo).2.1 (has_true_of_atKey hatx);have h2:=(HC.out m).1
    omega
   have hcm2:=(HC.out m).2;have HRG2:=aA (hrg2.alloc (.cells #[.int .i64 m.x,.int .i64 m.y,.int .i64 m.d,.int .i64 m.e] 40))
   have HLT:=aA (show cnt2<wr.rangeLeft b (w.heap.size+2) by rw[hrg.left_eq];exact hlt);have HCO2:=aA (HCO.out.step hmo hlk hatx)
   have hB2:=nI HB.out hg2 (fun k e=>by cases e;omega);have HB2:=aA (hB2.alloc hB2.size (.cells #[.int .i64 m.x,.int .i64 m.y,.int .i64 m.d,.int .i64 m.e] 40))
   have HZ2:=aA ((HZ.out.grown hg2 (by simp)).below (aC w2 (.cells #[.int .i64 m.x,.int .i64 m.y,.int .i64 m.d,.int .i64 m.e] 40)));have HG2:=aA ((HGG.out.grown hg2 (by simp)).below (aC w2 (.cells #[.int .i64 m.x,.int .i64 m.y,.int .i64 m.d,.int .i64 m.e] 40)))
   have HM2:=aA (M4.box w2 40 m.x m.y m.d m.e);have hsw:w.heap.size+1<w2.heap.size:=by rw[hsz2];exact hGl
   have hrw:w.heap.size+2<w2.heap.size:=hrg2.lt;have hbw:b<w2.heap.size:=hrg2.owns.lt
   clear hlk hatx hrg hrg2 hlt hg2 hsz2 hkey hv hB2 HRR HB HZ HGG HCO hGl;go_wp2_with fail;generalize(w2.alloc (.cells #[.int .i64 m.x,.int .i64 m.y,.int .i64 m.d,.int .i64 m.e] 40))=wq at HRG2 HB2 HZ2 HG2 HM2⊢;have ne:=bJ.there wq
   have s0:∀u:bJ wq,u.1.cell? ⟨w2.heap.size,0,none⟩=some (.int .i64 m.x):=fun u=>(u.cell HM2.out.lt).trans HM2.out.1;have s1:∀u:bJ wq,u.1.cell? ⟨w2.heap.size,1,none⟩=some (.int .i64 m.y):=fun u=>(u.cell HM2.out.lt).trans HM2.out.2.1
   have s2:∀u:bJ wq,u.1.cell? ⟨w2.heap.size,2,none⟩=some (.int .i64 m.d):=fun u=>(u.cell HM2.out.lt).trans HM2.out.2.2.1;have s3:∀u:bJ wq,u.1.cell? ⟨w2.heap.size,3,none⟩=some (.int .i64 m.e):=fun u=>(u.cell HM2.out.lt).trans HM2.out.2.2.2
   have t0:∀u:bJ wq,u.1.cell? ⟨w.heap.size+1,0,none⟩=some (.int .i64 G.c):=fun u=>(u.cell HG2.out.1.lt).trans HG2.out.1.1;have t1:∀u:bJ wq,u.1.cell? ⟨w.heap.size+1,1,none⟩=some (.int .i64 G.m.x):=fun u=>(u.cell HG2.out.1.lt).trans HG2.out.1.2.1
   have t2:∀u:bJ wq,u.1.cell? ⟨w.heap.size+1,2,none⟩=some (.int .i64 G.m.y):=fun u=>(u.cell HG2.out.1.lt).trans HG2.out.1.2.2.1;have t3:∀u:bJ wq,u.1.cell? ⟨w.heap.size+1,3,none⟩=some (.int .i64 G.m.d):=fun u=>(u.cell HG2.out.1.lt).trans HG2.out.1.2.2.2.1
   have t4:∀u:bJ wq,u.1.cell? ⟨w.heap.size+1,4,none⟩=some (.int .i64 G.m.e):=fun u=>(u.cell HG2.out.1.lt).trans HG2.out.1.2.2.2.2;by_cases hG0:G.c=0
   ·have hgz:((G.c:Int)==0)=true:=by simpa using hG0
    have HMT:=aA (HM.out.put hmo hcm (.inl hG0));clear HM hG0;refine aG (by kernel_rfl) (by kernel_rfl) ?_;repeat(go_big_quiet_step (fail))
    refine wpQuiet_nil ?_;rintro _ ⟨v,rfl⟩;have HBV:=aA (HB2.out.trans (v.2.mono HB2.out.size))
    have HZV:=aA (HZ2.out.below v.2);have HGV:=aA (HG2.out.below v.2)
    have HMV:=aA (HM2.out.below v.2);have HRV:=aA (HRG2.out.kept (cK v.2 none) (by simp) (by simp))
    obtain⟨u,hu⟩:∃u,v.1=u:=⟨_,rfl⟩
    rw[hu]at HBV HZV HGV HMV HRV⊢;clear hu s0 s1 s2 s3 t0 t1 t2 t3 t4 ne v;obtain⟨q0,q1,q2,q3⟩:=HMV.out;obtain⟨⟨l0,l1,l2,l3,l4⟩,lz⟩:=HGV.out;have HRW:=aA (HRV.out.kept (pS u (w.heap.size+1) (.int .i64 (c m)) (.int .i64 m.x) (.int .i64 m.y) (.int .i64 m.d) (.int .i64 m.e)) (by simp;omega) (by simp))
    clear HRV;go_wp2;go_roundw
    case rel=>
     refine⟨_,cnt2,ss++[m],⟨c m,m⟩,HRW.out,HCO2.out,cE HBV.out (by omega) _ _ _ _ _,HZV.out.far (by omega),⟨⟨by go_simp,by go_simp,by go_simp,by go_simp,by go_simp⟩,fun j=>by go_simp⟩,HMT.out⟩
    case measure=>rw[HRW.out.left_eq];exact HLT.out
   ·have hgz:((G.c:Int)==0)=false:=by simpa using hG0
    obtain⟨hg1,hgo⟩:1≤G.c∧G.m.ok=true:=by
     rcases HM.out with⟨_,e⟩|⟨e1,e2,_⟩
     ·rw[e]at hG0;exact absurd rfl hG0
     ·exact⟨e1,e2⟩
    by_cases hq:iF G.m<iF m
    ·have dq:decide (iF ⟨G.m.x,G.m.y,G.m.d,G.m.e⟩<iF ⟨m.x,m.y,m.d,m.e⟩)=true:=decide_eq_true hq;have HMT:=aA (HM.out.put hmo hcm (.inr hq))
     clear HM hG0 hq;refine aG (by kernel_rfl) (by kernel_rfl) ?_;repeat(go_big_quiet_step (first|(go_at_call 104;exact aJ (iP _ _ _ _ _ hmo))|(go_at_call 104;exact aJ (iP _ _ _ _ _ hgo))))
     refine wpQuiet_nil ?_;rintro _ ⟨v,rfl⟩;have HBV:=aA (HB2.out.trans (v.2.mono HB2.out.size))
     have HZV:=aA (HZ2.out.below v.2);have HGV:=aA (HG2.out.below v.2)
     have HMV:=aA (HM2.out.below v.2);have HRV:=aA (HRG2.out.kept (cK v.2 none) (by simp) (by simp))
     obtain⟨u,hu⟩:∃u,v.1=u:=⟨_,rfl⟩
     rw[hu]at HBV HZV HGV HMV HRV⊢;clear hu s0 s1 s2 s3 t0 t1 t2 t3 t4 ne v;obtain⟨q0,q1,q2,q3⟩:=HMV.out;obtain⟨⟨l0,l1,l2,l3,l4⟩,lz⟩:=HGV.out;have HRW:=aA (HRV.out.kept (pS u (w.heap.size+1) (.int .i64 (c m)) (.int .i64 m.x) (.int .i64 m.y) (.int .i64 m.d) (.int .i64 m.e)) (by simp;omega) (by simp))
     clear HRV;go_wp2;go_roundw
     case rel=>
      refine⟨_,cnt2,ss++[m],⟨c m,m⟩,HRW.out,HCO2.out,cE HBV.out (by omega) _ _ _ _ _,HZV.out.far (by omega),⟨⟨by go_simp,by go_simp,by go_simp,by go_simp,by go_simp⟩,fun j=>by go_simp⟩,HMT.out⟩
     case measure=>rw[HRW.out.left_eq];exact HLT.out
    ·have dq:decide (iF ⟨G.m.x,G.m.y,G.m.d,G.m.e⟩<iF ⟨m.x,m.y,m.d,m.e⟩)=false:=decide_eq_false hq;have HMT:=aA (HM.out.keep hg1 hq)
     clear HM hG0 hq;refine aG (by kernel_rfl) (by kernel_rfl) ?_;repeat(go_big_quiet_step (first|(go_at_call 104;exact aJ (iP _ _ _ _ _ hmo))|(go_at_call 104;exact aJ (iP _ _ _ _ _ hgo))))
     refine wpQuiet_nil ?_;rintro _ ⟨v,rfl⟩;have HBV:=aA (HB2.out.trans (v.2.mono HB2.out.size))
     have HZV:=aA (HZ2.out.below v.2);have HGV:=aA (HG2.out.below v.2)
     have HRV:=aA (HRG2.out.kept (cK v.2 none) (by simp) (by simp));obtain⟨u,hu⟩:∃u,v.1=u:=⟨_,rfl⟩
     rw[hu]at HBV HZV HGV HRV⊢;clear hu s0 s1 s2 s3 t0 t1 t2 t3 t4 ne v;go_wp2;go_roundw;case rel=>exact⟨_,cnt2,ss++[m],G,HRV.out,HCO2.out,HBV.out,HZV.out,HGV.out,HMT.out⟩
     case measure=>rw[HRV.out.left_eq];exact HLT.out
theorem XP (w:World) (b n:Nat) (c:M→Int) (h:bZ w b n c):Calls Tryz.prog 148 #[.map (some b),.func (.func 105) #[] #[]] w fun r w'=>∃G:T,r= .returned (.agg #[.int .i64 G.c,.int .i64 G.m.x,.int .i64 G.m.y,.int .i64 G.m.d,.int .i64 G.m.e])∧Below w.heap.size w w'∧∃ss,QH xT c ss G∧∀m:M,m.ok=true→(m∈ss↔c m≠0):=by
 obtain⟨D,hown,hc,hat,hks⟩:=h;have hblt:=hown.lt
 have HKS:=aA hks;have HAT:=aA hat
 have HC:=aA hc;have HO2:=aA ((hown.alloc (.cells #[.int .i64 0,.int .i64 0,.int .i64 0,.int .i64 0,.int .i64 0] 42)).alloc (.cells #[.int .i64 0,.int .i64 0,.int .i64 0,.int .i64 0,.int .i64 0] 42))
 have HB0:=aA (aR w (.cells #[.int .i64 0,.int .i64 0,.int .i64 0,.int .i64 0,.int .i64 0] 42) (.cells #[.int .i64 0,.int .i64 0,.int .i64 0,.int .i64 0,.int .i64 0] 42));have HZ0:=aA ((cJ.box w 42 cB).below (aC _ (.cells #[.int .i64 0,.int .i64 0,.int .i64 0,.int .i64 0,.int .i64 0] 42)))
 have HG0:=aA (cJ.box (w.alloc (.cells #[.int .i64 0,.int .i64 0,.int .i64 0,.int .i64 0,.int .i64 0] 42)) 42 cB);clear hks hat hown hc;go_enter Tryz.func148,Tryz.ntmps148
 go_wp2_with (first
  |(at_range;refine wpList_range_own _ rfl _ 170 rfl 40 138 nA Tryz.underlying170 _ b n D rfl HO2.out ?_;intro w0 hrg0 hg0 hs0)
  |go_in)
 have hs2:((w.alloc (.cells #[.int .i64 0,.int .i64 0,.int .i64 0,.int .i64 0,.int .i64 0] 42)).alloc (.cells #[.int .i64 0,.int .i64 0,.int .i64 0,.int .i64 0,.int .i64 0] 42)).heap.size=w.heap.size+2:=by simp
 have HB1:=aA (nI HB0.out hg0 (by simp));have HZ1:=aA (HZ0.out.grown hg0 (by simp))
 have HG1:=aA (HG0.out.grown hg0 (by simp));have HRG:=aA hrg0
 rw[hs2]at HRG;simp only[World.size_alloc]at HG1;clear HB0 HZ0 HG0 HO2 hrg0 hg0 hs0
 go_frame
 rw[hs2]
 go_loopw [6] (fun _ wr=>∃(left:Lit→Bool) (BO:Nat) (ss:List M) (G:T),wr.ranges Tryz.prog 40 (plainElem Tryz.prog 138) b (w.heap.size+2) n D left BO∧nV D left ss∧Below w.heap.size w wr∧cJ wr w.heap.size cB∧cJ wr (w.heap.size+1) G∧QH xT c ss G)
  (fun _ wr=>wr.rangeLeft b (w.heap.size+2))
 case atStart=>exact⟨_,_,[],cB,HRG.out,nV.start D,HB1.out,HZ1.out,HG1.out,.inl ⟨rfl,rfl⟩⟩
 case round=>
  obtain⟨left,BO,ss,G,hrg,hC,hB,hZ,hG,hM⟩:=hrel;have HCO:=aA hC
  have HB:=aA hB;have HZ:=aA hZ
  have HGG:=aA hG;have HM:=aA hM
  have HRR:=aA hrg;have hGl:w.heap.size+1<wr.heap.size:=hG.1.lt
  clear hC hB hZ hG hM
  go_wp2_with (first
   |(at_next;refine wpList_next_ranges _ rfl _ rfl 40 nA (plainElem Tryz.prog 138) (id:Value→Value) (Value.int .i64) (fun key kl hk=>⟨key,rfl⟩) (fun v y hv=>by obtain⟨c,rfl,_⟩:=plainElem_int_inv Tryz.underlying138 hv;exact⟨c,rfl⟩) b (w.heap.size+2) n _ _ _ rfl HRR.out ?_ ?_)
   |go_in)
  ·intro hc0 hl0;obtain⟨⟨z0,z1,z2,z3,z4⟩,fz⟩:=HZ.out;obtain⟨⟨l0,l1,l2,l3,l4⟩,_⟩:=HGG.out;simp only[cB]at z0 z1 z2 z3 z4;have HAL:=aA (HCO.out.all hl0 HAT.out)
   clear hl0 hrg HZ HGG;go_wp2;refine bY (v:=.agg #[.int .i64 G.c,.int .i64 G.m.x,.int .i64 G.m.y,.int .i64 G.m.d,.int .i64 G.m.e]) (by simp[results,Tryz.results148,go_sem, *]) rfl ⟨G,rfl,?_,ss,HM.out,HAL.out⟩;exact cE HB.out (Nat.le_refl _) _ _ _ _ _
  ·intro x cv kl yd yp w2 cnt2 hkey hlk hv hatx hrg2 hlt hg2 hsz2 hen;obtain⟨m,hmo,rfl⟩:=HKS.out kl (has_true_of_atKey hatx);obtain rfl:x=XH m:=nA.inj hkey (pH hmo);obtain rfl:cv=c m:=by
    obtain⟨c',e,e2,_⟩:=plainElem_int_inv Tryz.underlying138 hv;cases e;cases e2;have h1:=(HAT.out m hmo).1
    rw[hatx]at h1;simpa using h1
   have hcm:1≤c m:=by
    have h1:=(HAT.out m hmo).2.1 (has_true_of_atKey hatx);have h2:=(HC.out m).1
    omega
   have hcm2:=(HC.out m).2;have HRG2:=aA (hrg2.alloc (.cells #[.int .i64 m.x,.int .i64 m.y,.int .i64 m.d,.int .i64 m.e] 40))
   have HLT:=aA (show cnt2<wr.rangeLeft b (w.heap.size+2) by rw[hrg.left_eq];exact hlt);have HCO2:=aA (HCO.out.step hmo hlk hatx)
   have hB2:=nI HB.out hg2 (fun k e=>by cases e;omega);have HB2:=aA (hB2.alloc hB2.size (.cells #[.int .i64 m.x,.int .i64 m.y,.int .i64 m.d,.int .i64 m.e] 40))
   have HZ2:=aA ((HZ.out.grown hg2 (by simp)).below (aC w2 (.cells #[.int .i64 m.x,.int .i64 m.y,.int .i64 m.d,.int .i64 m.e] 40)));have HG2:=aA ((HGG.out.grown hg2 (by simp)).below (aC w2 (.cells #[.int .i64 m.x,.int .i64 m.y,.int .i64 m.d,.int .i64 m.e] 40)))
   have HM2:=aA (M4.box w2 40 m.x m.y m.d m.e);have hsw:w.heap.size+1<w2.heap.size:=by rw[hsz2];exact hGl
   have hrw:w.heap.size+2<w2.heap.size:=hrg2.lt;have hbw:b<w2.heap.size:=hrg2.owns.lt
   clear hlk hatx hrg hrg2 hlt hg2 hsz2 hkey hv hB2 HRR HB HZ HGG HCO hGl;go_wp2_with fail;generalize(w2.alloc (.cells #[.int .i64 m.x,.int .i64 m.y,.int .i64 m.d,.int .i64 m.e] 40))=wq at HRG2 HB2 HZ2 HG2 HM2⊢;have ne:=bJ.there wq
   have s0:∀u:bJ wq,u.1.cell? ⟨w2.heap.size,0,none⟩=some (.int .i64 m.x):=fun u=>(u.cell HM2.out.lt).trans HM2.out.1;have s1:∀u:bJ wq,u.1.cell? ⟨w2.heap.size,1,none⟩=some (.int .i64 m.y):=fun u=>(u.cell HM2.out.lt).trans HM2.out.2.1
   have s2:∀u:bJ wq,u.1.cell? ⟨w2.heap.size,2,none⟩=some (.int .i64 m.d):=fun u=>(u.cell HM2.out.lt).trans HM2.out.2.2.1;have s3:∀u:bJ wq,u.1.cell? ⟨w2.heap.size,3,none⟩=some (.int .i64 m.e):=fun u=>(u.cell HM2.out.lt).trans HM2.out.2.2.2
   have t0:∀u:bJ wq,u.1.cell? ⟨w.heap.size+1,0,none⟩=some (.int .i64 G.c):=fun u=>(u.cell HG2.out.1.lt).trans HG2.out.1.1;have t1:∀u:bJ wq,u.1.cell? ⟨w.heap.size+1,1,none⟩=some (.int .i64 G.m.x):=fun u=>(u.cell HG2.out.1.lt).trans HG2.out.1.2.1
   have t2:∀u:bJ wq,u.1.cell? ⟨w.heap.size+1,2,none⟩=some (.int .i64 G.m.y):=fun u=>(u.cell HG2.out.1.lt).trans HG2.out.1.2.2.1;have t3:∀u:bJ wq,u.1.cell? ⟨w.heap.size+1,3,none⟩=some (.int .i64 G.m.d):=fun u=>(u.cell HG2.out.1.lt).trans HG2.out.1.2.2.2.1
   have t4:∀u:bJ wq,u.1.cell? ⟨w.heap.size+1,4,none⟩=some (.int .i64 G.m.e):=fun u=>(u.cell HG2.out.1.lt).trans HG2.out.1.2.2.2.2;by_cases hG0:G.c=0
   ·have hgz:((G.c:Int)==0)=true:=by simpa using hG0
    have HMT:=aA (HM.out.put hmo hcm (.inl hG0));clear HM hG0;refine aG (by kernel_rfl) (by kernel_rfl) ?_;repeat(go_big_quiet_step (fail))
    refine wpQuiet_nil ?_;rintro _ ⟨v,rfl⟩;have HBV:=aA (HB2.out.trans (v.2.mono HB2.out.size))
    have HZV:=aA (HZ2.out.below v.2);have HGV:=aA (HG2.out.below v.2)
    have HMV:=aA (HM2.out.below v.2);have HRV:=aA (HRG2.out.kept (cK v.2 none) (by simp) (by simp))
    obtain⟨u,hu⟩:∃u,v.1=u:=⟨_,rfl⟩
    rw[hu]at HBV HZV HGV HMV HRV⊢;clear hu s0 s1 s2 s3 t0 t1 t2 t3 t4 ne v;obtain⟨q0,q1,q2,q3⟩:=HMV.out;obtain⟨⟨l0,l1,l2,l3,l4⟩,lz⟩:=HGV.out;have HRW:=aA (HRV.out.kept (pS u (w.heap.size+1) (.int .i64 (c m)) (.int .i64 m.x) (.int .i64 m.y) (.int .i64 m.d) (.int .i64 m.e)) (by simp;omega) (by simp))
    clear HRV;go_wp2;go_roundw
    case rel=>
     refine⟨_,cnt2,ss++[m],⟨c m,m⟩,HRW.out,HCO2.out,cE HBV.out (by omega) _ _ _ _ _,HZV.out.far (by omega),⟨⟨by go_simp,by go_simp,by go_simp,by go_simp,by go_simp⟩,fun j=>by go_simp⟩,HMT.out⟩
    case measure=>rw[HRW.out.left_eq];exact HLT.out
   ·have hgz:((G.c:Int)==0)=false:=by simpa using hG0
    obtain⟨hg1,hgo⟩:1≤G.c∧G.m.ok=true:=by
     rcases HM.out with⟨_,e⟩|⟨e1,e2,_⟩
     ·rw[e]at hG0;exact absurd rfl hG0
     ·exact⟨e1,e2⟩
    by_cases hq:xT G.m<xT m
    ·have dq:decide (xT ⟨G.m.x,G.m.y,G.m.d,G.m.e⟩<xT ⟨m.x,m.y,m.d,m.e⟩)=true:=decide_eq_true hq;have HMT:=aA (HM.out.put hmo hcm (.inr hq))
     clear HM hG0 hq;refine aG (by kernel_rfl) (by kernel_rfl) ?_;repeat(go_big_quiet_step (first|(go_at_call 105;exact aJ (jV _ _ _ _ _ hmo))|(go_at_call 105;exact aJ (jV _ _ _ _ _ hgo))))
     refine wpQuiet_nil ?_;rintro _ ⟨v,rfl⟩;have HBV:=aA (HB2.out.trans (v.2.mono HB2.out.size))
     have HZV:=aA (HZ2.out.below v.2);have HGV:=aA (HG2.out.below v.2)
     have HMV:=aA (HM2.out.below v.2);have HRV:=aA (HRG2.out.kept (cK v.2 none) (by simp) (by simp))
     obtain⟨u,hu⟩:∃u,v.1=u:=⟨_,rfl⟩
     rw[hu]at HBV HZV HGV HMV HRV⊢;clear hu s0 s1 s2 s3 t0 t1 t2 t3 t4 ne v;obtain⟨q0,q1,q2,q3⟩:=HMV.out;obtain⟨⟨l0,l1,l2,l3,l4⟩,lz⟩:=HGV.out;have HRW:=aA (HRV.out.kept (pS u (w.heap.size+1) (.int .i64 (c m)) (.int .i64 m.x) (.int .i64 m.y) (.int .i64 m.d) (.int .i64 m.e)) (by simp;omega) (by simp))
     clear HRV;go_wp2;go_roundw
     case rel=>
      refine⟨_,cnt2,ss++[m],⟨c m,m⟩,HRW.out,HCO2.out,cE HBV.out (by omega) _ _ _ _ _,HZV.out.far (by omega),⟨⟨by go_simp,by go_simp,by go_simp,by go_simp,by go_simp⟩,fun j=>by go_simp⟩,HMT.out⟩
     case measure=>rw[HRW.out.left_eq];exact HLT.out
    ·have dq:decide (xT ⟨G.m.x,G.m.y,G.m.d,G.m.e⟩<xT ⟨m.x,m.y,m.d,m.e⟩)=false:=decide_eq_false hq;have HMT:=aA (HM.out.keep hg1 hq)
     clear HM hG0 hq;refine aG (by kernel_rfl) (by kernel_rfl) ?_;repeat(go_big_quiet_step (first|(go_at_call 105;exact aJ (jV _ _ _ _ _ hmo))|(go_at_call 105;exact aJ (jV _ _ _ _ _ hgo))))
     refine wpQuiet_nil ?_;rintro _ ⟨v,rfl⟩;have HBV:=aA (HB2.out.trans (v.2.mono HB2.out.size))
     have HZV:=aA (HZ2.out.below v.2);have HGV:=aA (HG2.out.below v.2)
     have HRV:=aA (HRG2.out.kept (cK v.2 none) (by simp) (by simp));obtain⟨u,hu⟩:∃u,v.1=u:=⟨_,rfl⟩
     rw[hu]at HBV HZV HGV HRV⊢;clear hu s0 s1 s2 s3 t0 t1 t2 t3 t4 ne v;go_wp2;go_roundw;case rel=>exact⟨_,cnt2,ss++[m],G,HRV.out,HCO2.out,HBV.out,HZV.out,HGV.out,HMT.out⟩
     case measure=>rw[HRV.out.left_eq];exact HLT.out
def Oy (o:Int):Nat:=if o=1 then 103 else if o=3 then 105 else 104
theorem Ti:fH 1=fF:=by funext m;rfl
theorem Tj:fH 2=iF:=by funext m;rfl
theorem Tk:fH 3=xT:=by funext m;rfl
theorem XQ (o:Int) (ho:1≤o∧o≤3) (w:World) (b n:Nat) (p:List T) (h:bZ w b n (aM p)) (hp:cG p=true) (h0:p.length≠0) (t:T) (ht:aV o p=t):Calls Tryz.prog 148 #[.map (some b),.func (.func (Oy o)) #[] #[]] w fun r w'=>r= .returned (.agg #[.int .i64 t.c,.int .i64 t.m.x,.int .i64 t.m.y,.int .i64 t.m.d,.int .i64 t.m.e])∧Below w.heap.size w w':=by
 have ho3:o=1∨o=2∨o=3:=by omega
 rcases ho3 with rfl|rfl|rfl
 ·refine(XN w b n (aM p) h).mono ?_;rintro r w' ⟨G,rfl,hb,ss,hm,hs⟩;rw[←Ti]at hm;have:=hm.all ho hp h0 hs
  rw[ht]at this;subst this;exact⟨rfl,hb⟩
 ·refine(XO w b n (aM p) h).mono ?_;rintro r w' ⟨G,rfl,hb,ss,hm,hs⟩;rw[←Tj]at hm;have:=hm.all ho hp h0 hs
  rw[ht]at this;subst this;exact⟨rfl,hb⟩
 ·refine(XP w b n (aM p) h).mono ?_;rintro r w' ⟨G,rfl,hb,ss,hm,hs⟩;rw[←Tk]at hm;have:=hm.all ho hp h0 hs
  rw[ht]at this;subst this;exact⟨rfl,hb⟩
theorem Eb (o:Int) (w:World) (h1:1≤o) (h2:o≤3):Calls Tryz.prog 62 #[.int .i64 o] w fun r w'=>r= .returned (.tuple #[.func (.func (Oy o)) #[] #[],.bool true])∧Below w.heap.size w w':=by
 have ho3:o=1∨o=2∨o=3:=by omega
 rcases ho3 with rfl|rfl|rfl
 ·exact pZ w
 ·exact qB w
 ·exact qD w
end Go.Proofs.YtdidlcjhodejjaaGreat
namespace Go.Proofs.YtdidlcjhodejjaaGreat
open Go.RowKit Go.Deep Go.Joins
set_option linter.unusedVariables false
abbrev fG:Value:=.iface 149 (.agg #[])
theorem iE (v:Value) (w:World):Calls Tryz.prog 124 #[v,.bool true] w fun r w'=>r= .returned v∧w'=w:=by go_enter Tryz.func124,Tryz.ntmps124;go_wp2;go_ret;exact⟨rfl,rfl⟩
theorem gF (v:Value) (w:World):Calls Tryz.prog 124 #[v,.bool false] w fun r w'=>r= .panicked [{v:=fG,recovered:=false}]∧w'=w:=by go_enter Tryz.func124,Tryz.ntmps124;go_wp2;exact⟨rfl,rfl,rfl⟩
theorem Gi (t:TypeId) (w:World):(Instr.typeAssert Value.nilIface t 149 true).run Tryz.prog w= .ok (.tuple #[.agg #[],.bool false]) w:=by kernel_rfl
theorem VY (t:TypeId) (w:World):(Instr.typeAssert fG t 149 true).run Tryz.prog w= .ok (.tuple #[.agg #[],.bool true]) w:=by kernel_rfl
theorem Dx (w:World):(binOp BinOp.neq 20 Value.nilIface Value.nilIface).run Tryz.prog w= .ok (.bool false) w:=by kernel_rfl
theorem UT (w:World):(binOp BinOp.neq 20 fG Value.nilIface).run Tryz.prog w= .ok (.bool true) w:=by kernel_rfl
theorem BU (w:World):CallsD Tryz.prog 123 #[] .returning w fun e u' w'=>e= .returned (.tuple #[])∧u'= .returning∧w'=w.alloc (.cells #[] 149):=by
 refine callsD_of_wpS Tryz.func123 rfl fun c₀ cs hu=>?_;apply wpS_seq;apply wpS_region;simp[wpOpsS,go_sem,recoverD,hu,Tryz.ntmps123,Exit.thenS];simp only[Array.replicate];refine wpS_of_wp ?_;have h1:=Gi
 have h2:=VY;have h3:=Dx
 have h4:=UT;go_wp2;cases c₀
 simp_all [bodyPostS,results,Tryz.results123]
theorem wA (w:World):CallsD Tryz.prog 123 #[] (.panicking [{v:=fG,recovered:=false}]) w fun e u' w'=>e= .returned (.tuple #[])∧u'= .panicking [{v:=fG,recovered:=true}]∧w'=w.alloc (.cells #[] 149):=by
 refine callsD_of_wpS Tryz.func123 rfl fun c₀ cs hu=>?_;apply wpS_seq;apply wpS_region;simp[wpOpsS,go_sem,recoverD,hu,Tryz.ntmps123,Exit.thenS];simp only[Array.replicate];refine wpS_of_wp ?_;have h1:=Gi
 have h2:=VY;have h3:=Dx
 have h4:=UT;go_wp2;cases c₀
 simp_all [bodyPostS,results,Tryz.results123]
theorem sM (g:Nat) (lb:Array Value) (w:World) (Q:World→Prop) (eg:∀args w,(callFunc g args).run Tryz.prog w= .ok (.enter g args) w) (h:Calls Tryz.prog g lb w fun r w'=>r= .returned (.tuple #[])∧Q w'):Calls Tryz.prog 78 #[.func (.func g) #[] lb] w fun r w'=>r= .returned (.bool true)∧∃w1,Q w1∧w'=w1.alloc (.cells #[] 149):=by
 have HC:=aA h;clear h
 go_enter_defers Tryz.func78,Tryz.ntmps78
 go_wp2_with fail;refine HC.out.mono ?_;rintro r w1 ⟨rfl,hq⟩;have HQ:=aA hq
 clear hq HC;go_wp2;refine leaves_cons (f:=123) (args:=#[]) (by simp) (by simp[go_sem]) ?_;refine(BU _).mono ?_;rintro e u' w'' ⟨rfl,rfl,rfl⟩;simp[Leaves,settle,results,Tryz.results78,go_sem];exact⟨w1,HQ.out,rfl⟩
theorem DO (g:Nat) (lb:Array Value) (w:World) (Q:World→Prop) (eg:∀args w,(callFunc g args).run Tryz.prog w= .ok (.enter g args) w) (h:Calls Tryz.prog g lb w fun r w'=>r= .panicked [{v:=fG,recovered:=false}]∧Q w'):Calls Tryz.prog 78 #[.func (.func g) #[] lb] w fun r w'=>r= .returned (.bool false)∧∃w1,Q w1∧w'=w1.alloc (.cells #[] 149):=by
 have HC:=aA h;clear h
 go_enter_defers Tryz.func78,Tryz.ntmps78
 go_wp2_with fail;refine HC.out.mono ?_;rintro r w1 ⟨rfl,hq⟩;have HQ:=aA hq
 clear hq HC;go_wp2;refine leaves_cons (f:=123) (args:=#[]) (by simp) (by simp[go_sem]) ?_;refine(wA _).mono ?_;rintro e u' w'' ⟨rfl,rfl,rfl⟩;simp[Leaves,settle,results,Tryz.results78,go_sem];exact⟨w1,HQ.out,rfl⟩
end Go.Proofs.YtdidlcjhodejjaaGreat
