/-
  A sum of products of two lists: the mathematics, and the model's RedSum.
-/
import Derived.Test.YtbkighpmkadmmaaMar
namespace Go.Proofs.Ytbkighpmkadmmaa
open Go.RowKit Go.Deep Go.Joins
set_option linter.unusedVariables false
abbrev fN (L:Nat→List T):Nat→Nat→T:=fun i=>lf (L i)
abbrev lN (L:Nat→List T):Nat→Nat:=fun i=>(L i).length
theorem DP {t:T} {B Y:List T} (ht:bZ [t]=true) (hB:bZ B=true) (h:bR (lf [t]) (lf B) B.length 1=some Y):mD [t] B=(Y,true):=by
 unfold mD cJ;rw[if_pos ⟨ht,hB⟩];show jM (bR (lf [t]) (lf B) B.length 1)=_
 rw[h];rfl
theorem sT {A B:List T} (hA:aJ A) (hB:aJ B) {s:T} (hs:s∈bT A B):(∃a∈A,a.m=s.m)∨(∃b∈B,b.m=s.m):=by
 obtain⟨hf,hc⟩:=cZ hA hB;have h1:=(iW hf hs).2
 rw[hc]at h1;by_cases ha:aQ A s.m=0
 ·by_cases hb:aQ B s.m=0
  ·rw[ha,hb]at h1;exact absurd rfl h1
  ·obtain⟨b,h2,h3⟩:=List.mem_map.1 (iS hb);exact .inr ⟨b,h2,h3⟩
 ·obtain⟨a,h2,h3⟩:=List.mem_map.1 (iS ha);exact .inl ⟨a,h2,h3⟩
theorem KO {c:Int} {A:List T} {s:T} (hs:s∈gN c A):∃a∈A,a.m=s.m:=by rw[jR]at hs;obtain⟨a,h1,rfl⟩:=List.mem_map.1 hs;exact⟨a,h1,rfl⟩
theorem zA {A B:List T} (hA:aJ A) (hB:aJ B) {s:T} (hs:s∈cA A B):(∃a∈A,a.m=s.m)∨(∃b∈B,b.m=s.m):=by
 rcases sT hA (dV (by omega) (by omega) hB) hs with h|⟨b,h1,h2⟩
 ·exact .inl h
 ·obtain⟨a,h3,h4⟩:=KO h1;exact .inr ⟨a,h3,h4.trans h2⟩
theorem mL {o:Int} {n:Nat} {L:Nat→List T} (hl:aY n (lN L) (fN L)=true) {S S':Dv} (hp:bZ S.p=true) (h0:S.p.length≠0) (hs:cP o n (lN L) (fN L) S=some S'):(∃k Y,k<n∧M.dvd (dY o (L k)).m (dY o S.p).m=true∧bZ [dH (dY o S.p) (dY o (L k))]=true∧mD [dH (dY o S.p) (dY o (L k))] (L k)=(Y,true)∧(cA S.p Y).length≤400∧S'=⟨cA S.p Y,jV S.q k (bT (S.q k) [dH (dY o S.p) (dY o (L k))]),S.r⟩)∨((∀i,i<n→M.dvd (dY o (L i)).m (dY o S.p).m=false)∧S'=jG o S):=by
 unfold cP at hs;split at hs
 ·rename_i hk;have hf:=iT hk
  have hg:=uM hl hp h0 hk;generalize(sH o n (lN L) (fN L) (dY o S.p).m).toNat=k at hs hf hg;unfold lM at hs;split at hs
  ·cases hs
  ·rename_i Y hY;split at hs
   ·rename_i hle;cases hs;have ho:=gZ hg
    exact .inl ⟨k,Y,hf.1,hf.2,ho,DP ho ((aZ hl).2 k hf.1).2 hY,hle,rfl⟩
   ·cases hs
 ·rename_i hk;cases hs;refine .inr ⟨fun i hi=>?_,rfl⟩;cases hd:M.dvd (dY o (L i)).m (dY o S.p).m
  ·rfl
  ·exact absurd (sL.2 ⟨i,hi,hd⟩) hk
theorem oH {o:Int} {n:Nat} {L:Nat→List T} (hl:aY n (lN L) (fN L)=true) (I:Dv→Prop) (hI:∀u S S',iQ u S→S.p.length≠0→I S→cP o n (lN L) (fN L) S=some S'→I S'):∀{v u:Nat} {S S':Dv},iQ u S→I S→dK o n (lN L) (fN L) v S=some S'→I S'
 |0,u,S,S',h,hi,hr=>by
  unfold dK at hr;split at hr
  ·cases hr;exact hi
  ·cases hr
 |v+1,u,S,S',h,hi,hr=>by
  by_cases h0:S.p.length=0
  ·rw[lL h0]at hr;cases hr;exact hi
  ·cases hs:cP o n (lN L) (fN L) S with
   |none=>rw[pO h0 hs]at hr;cases hr
   |some S1=>
    rw[jH h0 hs]at hr;exact oH hl I hI (kQ hl h h0 hs) (hI u S S1 h h0 hi hs) hr
theorem iH {o:Int} {p:List T} {n:Nat} {L:Nat→List T} {S:Dv} (h:dF o p n (lN L) (fN L)=some S):(1≤o∧o≤3)∧bZ p=true∧aY n (lN L) (fN L)=true∧dK o n (lN L) (fN L) 300 (mK p)=some S:=by
 unfold dF at h;split at h
 ·rename_i hh;exact⟨hh.1,hh.2.1,hh.2.2,h⟩
 ·cases h
theorem nA {o:Int} {p:List T} {n:Nat} {L:Nat→List T} {S:Dv} (h:dF o p n (lN L) (fN L)=some S) (I:Dv→Prop) (h0:I (mK p)) (hI:∀u S S',iQ u S→S.p.length≠0→I S→cP o n (lN L) (fN L) S=some S'→I S'):I S:=by obtain⟨_,h2,h3,h4⟩:=iH h;exact oH h3 I hI (iQ.start h2) h0 h4
theorem dT {o:Int} {p:List T} {n:Nat} {L:Nat→List T} {S:Dv} (h:dF o p n (lN L) (fN L)=some S):iQ 300 S∧S.p=[]:=by
 obtain⟨_,h2,h3,h4⟩:=iH h;have:=uL h3 (iQ.start h2) h4
 exact⟨by simpa using this.1,this.2⟩
theorem wJ (F:Nat→Lq) (X:Lq) (k:Nat):∀n,k<n→Lq.sumN (fun i=>if i=k then Lq.sum (F i) X else F i) n=Lq.sum (Lq.sumN F n) X
 |0,h=>by omega
 |n+1,h=>by
  rw[Lq.sumN,Lq.sumN];by_cases e:k=n
  ·subst e;rw[if_pos rfl,Lq.sumN_congr (g:=F) (fun i hi=>if_neg (by omega)),Lq.sum_assoc]
  ·rw[wJ F X k n (by omega),if_neg (fun h=>e h.symm),Lq.sum_assoc,Lq.sum_assoc,Lq.sum_comm X]
def eW (g:nE) (n:Nat) (L:Nat→List T) (q:Nat→List T):Lq:=Lq.sumN (fun i=>Lq.mul (Rp g (q i)) (Rp g (L i))) n
theorem oF:∀n,Lq.sumN (fun _=>Lq.nil) n=Lq.nil
 |0=>rfl
 |n+1=>by rw[Lq.sumN,oF n,Lq.sum_nil]
theorem vT (g:nE) (n:Nat) (L:Nat→List T):eW g n L (fun _=>[])=Lq.nil:=by unfold eW;rw[Lq.sumN_congr (g:=fun _=>Lq.nil) (fun i _=>by rw[jZ,Lq.nil_mul]),oF]
theorem EL (g:nE) {n:Nat} {L q:Nat→List T} {k:Nat} {t:T} (hk:k<n) (hq:aJ (q k)) (ht:bZ [t]=true):eW g n L (jV q k (bT (q k) [t]))=Lq.sum (eW g n L q) (Lq.mul (Rp g [t]) (Rp g (L k))):=by
 unfold eW;rw[←wJ _ _ k n hk];refine Lq.sumN_congr (fun i _=>?_);unfold jV;split
 ·rename_i e;subst e;rw[nG g hq (aH ht).2,Lq.sum_mul]
 ·rfl
theorem mB (g:nE) {o:Int} {p:List T} {n:Nat} {L:Nat→List T} {S:Dv} (h:dF o p n (lN L) (fN L)=some S):Lq.sum (eW g n L S.q) (Rp g S.r)=Rp g p:=by
 obtain⟨_,h2,h3,h4⟩:=iH h
 have key:=nA h (fun S=>Lq.sum (eW g n L S.q) (Lq.sum (Rp g S.r) (Rp g S.p))=Rp g p) (by
  show Lq.sum (eW g n L (fun _=>[])) (Lq.sum (Rp g []) (Rp g p))=_;rw[vT,jZ]
  exact Lq.ext fun u i j=>by show(0:Fq)+(0+_)=_;grind) (fun u S S' hok h0 hI hs=>by
  rw[←hI];rcases mL h3 hok.p h0 hs with⟨k,Y,hk,_,ho,hY,_,rfl⟩|⟨_,rfl⟩
  ·show Lq.sum (eW g n L (jV S.q k _)) (Lq.sum (Rp g S.r) (Rp g (cA S.p Y)))=_;rw[EL g hk (hok.q k).1 ho,pK g (aH hok.p).2 (jB hY),nH g hY];exact Lq.ext fun u i j=>by
    show _+_+(_+(_+zz 100*_))=_+(_+_)
    have e:zz 100=100:=rfl;rw[e]
    grind
  ·show Lq.sum (eW g n L S.q) (Lq.sum (Rp g (bT S.r [dY o S.p])) (Rp g (cA S.p [dY o S.p])))=_;have f1:=gW (kH (o:=o) (aH hok.p).2 h0)
   rw[nG g hok.r.1 f1,pK g (aH hok.p).2 f1];exact Lq.ext fun u i j=>by
    show _+(_+_+(_+zz 100*_))=_+(_+_)
    have e:zz 100=100:=rfl;rw[e]
    grind)
 have hp:=(dT h).2;rw[hp,jZ,Lq.sum_nil]at key;exact key
theorem DX {t l:T} (hd:M.dvd l.m t.m=true):(dH t l).m.sum l.m=t.m:=by
 have h:=qI hd;unfold M.mul at h;split at h
 ·exact congrArg Prod.fst h
 ·exact absurd (congrArg Prod.snd h) (by simp)
theorem EK {o:Int} (ho:1≤o∧o≤3) {t:T} {B Y:List T} (hB:bZ B=true) (hB0:B.length≠0) (h:mD [t] B=(Y,true)):∀s∈Y,gI o s.m≤gI o t.m+gI o (dY o B).m:=fun s hs=>by
 have:=(qY (tJ o) nB h (List.mem_singleton.2 rfl) (jJ (o:=o) hB0) (fun a ha=>by rw[List.mem_singleton.1 ha];exact Int.le_refl _) (yX ho hB hB0)).2 s hs;rw[(tJ o t.m (dY o B).m 0 0).2]at this;exact this
theorem EQ {o:Int} {p:List T} {n:Nat} {L:Nat→List T} {S:Dv} (h:dF o p n (lN L) (fN L)=some S) {N:Int} (hN:∀t∈p,gI o t.m≤N):(∀t∈S.r,gI o t.m≤N)∧∀i,i<n→∀s∈S.q i,(s.m.sum (dY o (L i)).m).ok=true∧gI o (s.m.sum (dY o (L i)).m)≤N:=by
 obtain⟨h1,h2,h3,h4⟩:=iH h
 have key:=nA h (fun S=>(∀t∈S.p,gI o t.m≤N)∧(∀t∈S.r,gI o t.m≤N)∧∀i,i<n→∀s∈S.q i,(s.m.sum (dY o (L i)).m).ok=true∧gI o (s.m.sum (dY o (L i)).m)≤N) ⟨hN,⟨fun t ht=>absurd ht (List.not_mem_nil),fun i _ s hs=>absurd hs (List.not_mem_nil)⟩⟩ (fun u S S' hok h0 hI hs=>by
  obtain⟨i1,i2,i3⟩:=hI;have hl:=jJ (o:=o) h0
  have hg:=kH (o:=o) (aH hok.p).2 h0;rcases mL h3 hok.p h0 hs with⟨k,Y,hk,hd,ho,hY,_,rfl⟩|⟨hno,rfl⟩
  ·have hk2:=(aZ h3).2 k hk;have htop:=EK h1 hk2.2 hk2.1 hY
   have hsum:=DX hd;have hw:=(tJ o (dH (dY o S.p) (dY o (L k))).m (dY o (L k)).m 0 0).2
   rw[hsum]at hw;refine⟨fun t ht=>?_,i2,fun i hi s hs=>?_⟩
   ·rcases zA (aH hok.p).2 (jB hY) ht with⟨a,ha,e⟩|⟨b,hb,e⟩
    ·rw[←e];exact i1 a ha
    ·rw[←e];have:=htop b hb
     have:=i1 _ hl;omega
   ·change s∈jV S.q k _ i at hs;unfold jV at hs;split at hs
    ·rename_i e;subst e;rcases sT (hok.q i).1 (aH ho).2 hs with⟨a,ha,e⟩|⟨b,hb,e⟩
     ·rw[←e];exact i3 i hi a ha
     ·rw[←e,List.mem_singleton.1 hb,hsum];exact⟨hg.1,i1 _ hl⟩
    ·exact i3 i hi s hs
  ·refine⟨fun t ht=>?_,fun t ht=>?_,i3⟩
   ·rcases zA (aH hok.p).2 (gW hg) ht with⟨a,ha,e⟩|⟨b,hb,e⟩
    ·rw[←e];exact i1 a ha
    ·rw[←e,List.mem_singleton.1 hb];exact i1 _ hl
   ·rcases sT hok.r.1 (gW hg) ht with⟨a,ha,e⟩|⟨b,hb,e⟩
    ·rw[←e];exact i2 a ha
    ·rw[←e,List.mem_singleton.1 hb];exact i1 _ hl)
 exact⟨key.2.1,key.2.2⟩
theorem LW (c:Int) (L:List T) {i:Nat} (h:i<L.length):lf (gN c L) i=tL c (lf L i):=by
 have h2:i<(gN c L).length:=by rw[dI];exact h
 rw[fM h2,fM h];simp only[jR,List.getElem_map];rfl
theorem BH {o:Int} {p:List T} {n:Nat} {L:Nat→List T} (ho:1≤o∧o≤3) (hp:bZ p=true) (hl:aY n (lN L) (fN L)=true):dF o p n (lN L) (fN L)=dK o n (lN L) (fN L) 300 (mK p):=if_pos ⟨ho,hp,hl⟩
theorem IZ {w:World} (o:Int) {a b:Option Addr} {ca cb:Nat} {A B:List T} (ha:RL w a ca A) (hb:RL w b cb B):Calls Try.prog 107 #[.int .i64 o,.slice a A.length ca,.slice b B.length cb] w (CB w (cE o (lf A) A.length (lf B) B.length)):=
 (FD w o a b A.length ca B.length cb (lf A) (lf B) ha hb).mono fun _ _ h=>wO (vY _ _ _ _ _) h
structure Fr (P:Nat→Prop) (w w':World):Prop where
 os:w'.os=w.os
 tape:w'.tape=w.tape
 output:w'.output=w.output
 size:w.heap.size≤w'.heap.size
 block:∀k,k<w.heap.size→¬P k→w'.heap[k]? =w.heap[k]?
theorem Fr.refl (P:Nat→Prop) (w:World):Fr P w w:=⟨rfl,rfl,rfl,Nat.le_refl _,fun _ _ _=>rfl⟩
theorem Fr.trans {P:Nat→Prop} {a b c:World} (h:Fr P a b) (k:Fr P b c):Fr P a c:=
 ⟨k.os.trans h.os,k.tape.trans h.tape,k.output.trans h.output,kM h.size k.size,fun i hi hn=>(k.block i (lD hi h.size) hn).trans (h.block i hi hn)⟩
theorem Fr.mono {P P':Nat→Prop} {w w':World} (h:Fr P w w') (hp:∀k,k<w.heap.size→P k→P' k):Fr P' w w':=⟨h.os,h.tape,h.output,h.size,fun k hk hn=>h.block k hk (fun e=>hn (hp k hk e))⟩
theorem eK {P:Nat→Prop} {w w':World} (h:Below w.heap.size w w'):Fr P w w':=⟨h.os,h.tape,h.output,h.size,fun k hk _=>h.block k hk⟩
theorem Fr.next {P:Nat→Prop} {a b c:World} (h:Fr P a b) (k:Below b.heap.size b c):Fr P a c:=h.trans (eK k)
theorem Fr.set {P:Nat→Prop} {w w':World} (h:Fr P w w') {b o:Nat} {v:Value} (hb:b<w.heap.size→P b):Fr P w (w'.setCell ⟨b,o,none⟩ v):=
 ⟨h.os,h.tape,h.output,by simpa[World.setCell]using h.size,fun k hk hn=>(Below.heap_setCell _ _ _ _ (by show k≠b;intro e;subst e;exact hn (hb hk))).trans (h.block k hk hn)⟩
theorem Fr.grown {P:Nat→Prop} {w w' w'':World} {row:Option Nat} (h:Fr P w w') (hg:w'.grownBy w'' row) (hr:∀g,row=some g→g<w.heap.size→P g):Fr P w w'':=
 ⟨hg.os.trans h.os,hg.tape.trans h.tape,hg.output.trans h.output,kM h.size hg.size,fun k hk hn=>(hg.block k (lD hk h.size) (fun e=>hn (hr k e.symm hk))).trans (h.block k hk hn)⟩
theorem Fr.cell {P:Nat→Prop} {w w':World} (h:Fr P w w') {b o:Nat} (hb:b<w.heap.size) (hp:¬P b):w'.cell? ⟨b,o,none⟩=w.cell? ⟨b,o,none⟩:=
 mC (w:=w) (a:=⟨b,o,none⟩) (h.block b hb hp)
theorem Fr.frozen {P:Nat→Prop} {w w':World} (h:Fr P w w') {b o:Nat} (hb:b<w.heap.size) (hp:¬P b):w'.frozen? ⟨b,o,none⟩=w.frozen? ⟨b,o,none⟩:=
 World.frozen?_of_block (w:=w) (a:=⟨b,o,none⟩) (h.block b hb hp)
theorem Fr.rd {P:Nat→Prop} {w w':World} (h:Fr P w w') {a:Option Addr} {n cap:Nat} {f:Nat→T} (hr:Rd w a n cap f) (hp:n=0∨∀b off,a=some ⟨b,off,none⟩→¬P b):Rd w' a n cap f:=by
 obtain⟨h1,h2,h3⟩:=hr;refine⟨h1,h2,?_⟩;rcases h3 with h0|⟨b,off,he,hlt,hc⟩
 ·exact .inl h0
 ·rcases hp with h0|hp
  ·exact .inl h0
  ·refine .inr ⟨b,off,he,lD hlt h.size,fun i hi=>?_⟩;have hn:=hp b off he
   obtain⟨c0,c1,c2,c3,c4⟩:=hc i hi;exact⟨(h.cell hlt hn).trans c0,(h.cell hlt hn).trans c1,(h.cell hlt hn).trans c2,(h.cell hlt hn).trans c3,(h.cell hlt hn).trans c4⟩
theorem Fr.c5 {P:Nat→Prop} {w w':World} (h:Fr P w w') {b:Nat} {t:T} (hc:C5 w b t) (hp:¬P b):C5 w' b t:=by have hlt:=hc.lt;obtain⟨c0,c1,c2,c3,c4⟩:=hc;exact⟨(h.cell hlt hp).trans c0,(h.cell hlt hp).trans c1,(h.cell hlt hp).trans c2,(h.cell hlt hp).trans c3,(h.cell hlt hp).trans c4⟩
theorem Fr.below {P:Nat→Prop} {lo:Nat} {u w w':World} (hb:Below lo u w) (h:Fr P w w') (hp:∀k,P k→lo≤k) (hlo:lo≤u.heap.size):Below lo u w':=
 ⟨h.os.trans hb.os,h.tape.trans hb.tape,h.output.trans hb.output,kM hb.size h.size,fun k hk=>(h.block k (lD hk (kM hlo hb.size)) (fun e=>by have:=hp k e;omega)).trans (hb.block k hk)⟩
theorem Fr.owns {P:Nat→Prop} {w w':World} (h:Fr P w w') {lo:Nat} {e:TypeId} {size:Nat} {v:Value} {n:Nat} {xs:List Value} (ho:w.ownsRow lo e size v n xs) (hp:∀g,v.ownBlock=some g→¬P g):w'.ownsRow lo e size v n xs:=by
 refine⟨ho.1,ho.2.imp id ?_⟩;rintro⟨g,cap,cur,hv,hlo,hgg,hn,hm,hs,ht⟩;refine⟨g,cap,cur,hv,hlo,?_,hn,hm,hs,ht⟩;have hlt:g<w.heap.size:=(Array.getElem?_eq_some_iff.1 hgg).1
 exact(h.block g hlt (hp g (by rw[hv];rfl))).trans hgg
theorem tM {w:World} {a:Addr} {v u:Value} (h:w.cell? a=some u):(w.setCell a v).cell? a=some v:=World.cell?_setCell_same (w:=w) (a:=a) (v:=v) h
theorem iB {w:World} {a b:Addr} {v:Value} (h:a≠b):(w.setCell a v).cell? b=w.cell? b:=World.cell?_setCell_other (w:=w) (a:=a) (b:=b) (v:=v) h
def MB (q:Nat×Nat):Nat×Nat:=if q.1+1<q.2 then(q.1+1,q.2)else(0,q.2+1)
def pq:Nat→Nat×Nat
 |0=>(0,1)
 |j+1=>MB (pq j)
def gJ:Nat→Nat
 |0=>0
 |k+1=>gJ k+k
theorem nX:∀k i,i<k→pq (gJ k+i)=(i,k)
 |0,i,h=>by omega
 |1,i,h=>by
  obtain rfl:i=0:=by omega
  rfl
 |k+2,0,_=>by
  have:=nX (k+1) k (by omega);show pq (gJ (k+1)+(k+1))=(0,k+2)
  rw[show gJ (k+1)+(k+1)=(gJ (k+1)+k)+1 by omega];show MB (pq (gJ (k+1)+k))=_
  rw[this];unfold MB;rw[if_neg (by simp)]
 |k+2,i+1,h=>by
  have:=nX (k+2) i (by omega);rw[show gJ (k+2)+(i+1)=(gJ (k+2)+i)+1 by omega];show MB (pq (gJ (k+2)+i))=_
  rw[this];unfold MB;rw[if_pos (by simpa using h)]
theorem wM       {a b : Nat} (h : a ≤ b) : gJ  a ≤ gJ  b := by
  induction b with
  | zero => obtain rfl : a = 0 := by omega
            exact Nat.le_refl _
  | succ b ih =>
    rcases Nat.lt_or_ge a (b + 1) with h' | h'
    · have := ih (by omega); show gJ  a ≤ gJ  b + b; omega
    · obtain rfl : a = b + 1 := by omega
      exact Nat.le_refl _
theorem FO:∀(m j:Nat),j<gJ m→∃k i,k<m∧i<k∧j=gJ k+i
 |0,j,h=>absurd h (Nat.not_lt_zero _)
 |m+1,j,h=>by
  rcases Nat.lt_or_ge j (gJ m)with h'|h'
  ·obtain⟨k,i,h1,h2,h3⟩:=FO m j h';exact⟨k,i,by omega,h2,h3⟩
  ·have h:j<gJ m+m:=h;exact⟨m,j-gJ m,by omega,by omega,by omega⟩
abbrev vi (z:Int):Value:=.int .i64 z
theorem LG {Q z z':Nat} (h:z≠z'):(⟨Q,z,none⟩:Addr)≠⟨Q,z',none⟩:=fun e=>h (by injection e)
def eQ (R q X:List T):Option (List T):=match bR (lf q) (lf X) X.length q.length with
 |some P=>if(cA R P).length≤400 then some (cA R P)else none
 |none=>none
def cU (R:Nat→List T) (j:Nat) (Y:List T) (i:Nat):List T:=if i=j then Y else R i
def bN (row:Nat→List T) (q:List T) (oth:Nat→List T):Nat→Option (Nat→List T)
 |0=>some (fun _=>[])
 |j+1=>match bN row q oth j with
  |none=>none
  |some R=>match eQ (row j) q (oth j)with
   |none=>none
   |some Y=>some (cU R j Y)
theorem jK {row:Nat→List T} {q:List T} {oth:Nat→List T} {j:Nat} (h:bN row q oth j=none):∀d,bN row q oth (j+d)=none
 |0=>h
 |d+1=>by show(match bN row q oth (j+d)with|none=>none|some R=>match eQ (row (j+d)) q (oth (j+d))with|none=>none|some Y=>some (cU R (j+d) Y))=none;rw[jK h d]
theorem kW {row:Nat→List T} {q:List T} {oth:Nat→List T} {j g:Nat} {R:Nat→List T} (hj:j<g) (h:bN row q oth j=some R) (he:eQ (row j) q (oth j)=none):bN row q oth g=none:=by
 have h1:bN row q oth (j+1)=none:=by
  show(match bN row q oth j with|none=>none|some R=>match eQ (row j) q (oth j)with|none=>none|some Y=>some (cU R j Y))=none;rw[h];show(match eQ (row j) q (oth j)with|none=>none|some Y=>some (cU R j Y))=none
  rw[he]
 have:=jK h1 (g-(j+1))
 rwa[show j+1+(g-(j+1))=g by omega]at this
theorem lU {row:Nat→List T} {q:List T} {oth:Nat→List T} {j:Nat} {R:Nat→List T} {Y:List T} (h:bN row q oth j=some R) (he:eQ (row j) q (oth j)=some Y):bN row q oth (j+1)=some (cU R j Y):=by
 show(match bN row q oth j with|none=>none|some R=>match eQ (row j) q (oth j)with|none=>none|some Y=>some (cU R j Y))=_;rw[h];show(match eQ (row j) q (oth j)with|none=>none|some Y=>some (cU R j Y))=_
 rw[he]
theorem DF {R q X Y:List T} (hR:bZ R=true) (hq:bZ q=true) (hX:bZ X=true) (h:eQ R q X=some Y):bZ Y=true:=by
 unfold eQ at h;split at h
 ·rename_i P hP;split at h
  ·rename_i hl;cases h;exact dX hl (dB (aH hR).2 (bM (bG hq).2 (bG hX).2 _ P (Nat.le_refl _) hP)).1
  ·cases h
 ·cases h
theorem iU {row:Nat→List T} {q:List T} {oth:Nat→List T} {g:Nat} (hrow:∀i,i<g→bZ (row i)=true) (hq:bZ q=true) (ho:∀i,i<g→bZ (oth i)=true):∀j R,j≤g→bN row q oth j=some R→∀i,i<j→bZ (R i)=true
 |0,R,_,_,i,hi=>by omega
 |j+1,R,hj,h,i,hi=>by
  cases hr:bN row q oth j with
  |none=>have:=jK hr 1;rw[this]at h;cases h
  |some R1=>
   cases he:eQ (row j) q (oth j)with
   |none=>have:=kW (g:=j+1) (by omega) hr he;rw[this]at h;cases h
   |some Y=>
    rw[lU hr he]at h;cases h;unfold cU;split
    ·exact DF (hrow j (by omega)) hq (ho j (by omega)) he
    ·exact iU hrow hq ho j R1 (by omega) hr i (by omega)
def eY (g:Nat) (P:Nat→Nat→List T) (qs:Nat→List T) (row:Option (Nat→List T)):Nat→Option (Nat→List T)
 |0=>row
 |t+1=>match eY g P qs row t with
  |none=>none
  |some R=>bN R (qs t) (P t) g
def gH (u:T):T:=⟨101-u.c,u.m⟩
def eC (g:Nat) (P:Nat→Nat→List T) (i k:Nat) (u v:T):Option (Nat→List T):=match bN (fun _=>[]) [gH u] (P i) g with
 |none=>none
 |some R=>bN R [v] (P k) g
def jU (g:Nat) (P:Nat→Nat→List T) (i k:Nat) (u v:T) (nq:Nat) (qs:Nat→List T):Option (Nat→List T):=eY g P qs (eC g P i k u v) nq
theorem fE {g:Nat} {P:Nat→Nat→List T} {qs:Nat→List T} {row:Option (Nat→List T)} {t:Nat} (h:eY g P qs row t=none):∀d,eY g P qs row (t+d)=none
 |0=>h
 |d+1=>by show(match eY g P qs row (t+d)with|none=>none|some R=>bN R (qs (t+d)) (P (t+d)) g)=none;rw[fE h d]
structure Bs where
 m:Nat
 L:Nat→List T
 P:Nat→Nat→List T
def nD (P:Nat→Nat→List T) (m:Nat) (R:Nat→List T) (i:Nat):Nat→List T:=if i=m then R else P i
def GD (B:Bs) (r:List T) (R:Nat→List T):Bs:=⟨B.m+1,cU B.L B.m r,nD B.P B.m R⟩
abbrev FC (o:Int) (A C:List T):T:=cV o A.length (lf A) C.length (lf C)
abbrev FZ (o:Int) (A C:List T):T:=cW o A.length (lf A) C.length (lf C)
abbrev FB (o:Int) (A C:List T):List T×Bool:=cE o (lf A) A.length (lf C) C.length
def dD (o:Int) (g:Nat) (B:Bs) (i k:Nat):Option Bs:=
 match FB o (B.L i) (B.L k)with
 |(s,true)=>(match dF o s B.m (lN B.L) (fN B.L)with
  |some S=>if S.r.length=0 then some B else if B.m=12 then none else(match jU g B.P i k (FC o (B.L i) (B.L k)) (FZ o (B.L i) (B.L k)) B.m S.q with
   |some R=>some (GD B S.r R)
   |none=>none)
  |none=>none)
 |(_,false)=>none
def lF (o:Int) (g:Nat):Nat→Bs→Nat→Bs×Bool
 |0,B,j=>(B,decide (gJ B.m≤j))
 |f+1,B,j=>if j<gJ B.m then(match dD o g B (pq j).1 (pq j).2 with
  |none=>(B,false)
  |some B'=>lF o g f B' (j+1))else(B,true)
def jO (k i:Nat):List T:=if i=k then[⟨1,⟨0,0,0,0⟩⟩]else[]
def CV (n:Nat) (L:Nat→List T):Bs:=⟨n,L,fun k=>jO k⟩
def iD (o:Int) (n:Nat) (L:Nat→List T) (fuel:Int):Bs×Bool:=
 if(1≤o∧o≤3)∧aY n (lN L) (fN L)=true∧(1≤n∧n≤3)∧(0≤fuel∧fuel≤60)then lF o n fuel.toNat (CV n L) 0 else(⟨0,fun _=>[],fun _ _=>[]⟩,false)
structure wR (o:Int) (g:Nat) (B:Bs):Prop where
 ho:1≤o∧o≤3
 l:aY B.m (lN B.L) (fN B.L)=true
 p:∀i,i<B.m→∀j,j<g→bZ (B.P i j)=true
theorem IP:bZ [(⟨1,⟨0,0,0,0⟩⟩:T)]=true:=by decide
theorem yQ {o:Int} {n:Nat} {L:Nat→List T} (ho:1≤o∧o≤3) (hl:aY n (lN L) (fN L)=true):wR o n (CV n L):=⟨ho,hl,fun i _ j _=>by
 show bZ (jO i j)=true;unfold jO;split
 ·exact IP
 ·exact lA⟩
theorem xL {a:Int} (h1:1≤a) (h2:a≤100):1≤101-a∧101-a≤100:=by omega
theorem nZ {o:Int} {A C:List T} {s:List T} (h:FB o A C=(s,true)):(bZ [FC o A C]=true∧bZ [gH (FC o A C)]=true∧bZ [FZ o A C]=true)∧((FC o A C).m.ok=true∧1≤(FC o A C).c∧(FC o A C).c≤100)∧((FZ o A C).m.ok=true∧1≤(FZ o A C).c∧(FZ o A C).c≤100):=by
 have hs:dC o A.length (lf A) C.length (lf C)=true:=by
  unfold FB cE at h;split at h
  ·assumption
  ·cases h
 obtain⟨h1,h2⟩:=nC hs;have g1:=xL h1.2.1 h1.2.2
 exact⟨⟨gZ h1,gZ ⟨h1.1,g1.1,g1.2⟩,gZ h2⟩,h1,h2⟩
theorem pE {g:Nat} {P:Nat→Nat→List T} {i k m:Nat} {u v:T} {qs:Nat→List T} (hi:i<m) (hk:k<m) (hP:∀i,i<m→∀j,j<g→bZ (P i j)=true) (hu:bZ [gH u]=true) (hv:bZ [v]=true) (hq:∀t,t<m→bZ (qs t)=true):∀t R,t≤m→eY g P qs (eC g P i k u v) t=some R→∀j,j<g→bZ (R j)=true
 |0,R,_,h=>by
  change eC g P i k u v=some R at h;unfold eC at h;split at h
  ·cases h
  ·rename_i R1 h1;exact iU (iU (fun _ _=>lA) hu (hP i hi) g R1 (Nat.le_refl _) h1) hv (hP k hk) g R (Nat.le_refl _) h
 |t+1,R,ht,h=>by
  cases hr:eY g P qs (eC g P i k u v) t with
  |none=>have:=fE hr 1;rw[this]at h;cases h
  |some R1=>
   have h':bN R1 (qs t) (P t) g=some R:=by
    have:eY g P qs (eC g P i k u v) (t+1)=bN R1 (qs t) (P t) g:=by show(match eY g P qs (eC g P i k u v) t with|none=>none|some R=>bN R (qs t) (P t) g)=_;rw[hr]
    rw[←this];exact h
   exact iU (pE hi hk hP hu hv hq t R1 (by omega) hr) (hq t (by omega)) (hP t (by omega)) g R (Nat.le_refl _) h'
theorem AX {m:Nat} {L:Nat→List T} (hl:aY m (lN L) (fN L)=true) (hm:m≠12) {r:List T} (hr:bZ r=true) (h0:r.length≠0):aY (m+1) (lN (cU L m r)) (fN (cU L m r))=true:=by
 have h:=aZ hl;refine decide_eq_true ⟨by omega,fun i hi=>?_⟩;show(cU L m r i).length≠0∧bZ (cU L m r i)=true
 unfold cU;split
 ·exact⟨h0,hr⟩
 ·exact h.2 i (by omega)
theorem qE {o:Int} {g:Nat} {B B':Bs} {i k:Nat} (h:wR o g B) (hi:i<B.m) (hk:k<B.m) (hs:dD o g B i k=some B'):wR o g B':=by
 unfold dD at hs;split at hs
 ·rename_i s hsp;split at hs
  ·rename_i S hS;split at hs
   ·cases hs;exact h
   ·rename_i h0;split at hs
    ·cases hs
    ·rename_i h12;split at hs
     ·rename_i R hR;cases hs;obtain⟨d1,d2⟩:=dT hS;obtain⟨⟨_,g2,g3⟩,_⟩:=nZ hsp;refine⟨h.ho,AX h.l h12 (dX (by have:=d1.r.2;omega) d1.r.1) h0,fun a ha j hj=>?_⟩;show bZ (nD B.P B.m R a j)=true
      unfold nD;split
      ·exact pE hi hk h.p g2 g3 (fun t _=>dX (by have:=(d1.q t).2;omega) (d1.q t).1) B.m R (Nat.le_refl _) hR j hj
      ·have ha':a<B.m+1:=ha;exact h.p a (by omega) j hj
     ·cases hs
  ·cases hs
 ·cases hs
theorem JA {o:Int} {g:Nat} {B B':Bs} {i k:Nat} (hs:dD o g B i k=some B'):B.m≤B'.m:=by
 unfold dD at hs;split at hs
 ·split at hs
  ·split at hs
   ·cases hs;exact Nat.le_refl _
   ·split at hs
    ·cases hs
    ·split at hs
     ·cases hs;exact Nat.le_succ _
     ·cases hs
  ·cases hs
 ·cases hs
end Go.Proofs.Ytbkighpmkadmmaa
