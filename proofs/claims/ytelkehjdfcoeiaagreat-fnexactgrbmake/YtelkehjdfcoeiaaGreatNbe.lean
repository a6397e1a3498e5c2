/-
  What is true of a division: what is taken and what is left is all; nothing is greater; what is left is free, and is left again; so many times an operator.
-/
import Derived.Test.YtelkehjdfcoeiaaGreatNbd
set_option maxHeartbeats 4000000
set_option maxRecDepth 100000
namespace Go.Proofs.YtelkehjdfcoeiaaGreat
open Go.RowKit Go.Deep Go.Joins
set_option linter.unusedVariables false
abbrev fN (L:Nat→List T):Nat→Nat→T:=fun i=>lf (L i)
abbrev lN (L:Nat→List T):Nat→Nat:=fun i=>(L i).length
theorem PK {t:T} {B Y:List T} (ht:cJ [t]=true) (hB:cJ B=true) (h:bN (lf [t]) (lf B) B.length 1=some Y):kO [t] B=(Y,true):=by
 unfold kO aZ;rw[if_pos ⟨ht,hB⟩];show iN (bN (lf [t]) (lf B) B.length 1)=_
 rw[h];rfl
theorem zZ {A B:List T} (hA:aH A) (hB:aH B) {s:T} (hs:s∈cG A B):(∃a∈A,a.m=s.m)∨(∃b∈B,b.m=s.m):=by
 obtain⟨hf,hc⟩:=cM hA hB;have h1:=(iM hf hs).2
 rw[hc]at h1;by_cases ha:aI A s.m=0
 ·by_cases hb:aI B s.m=0
  ·rw[ha,hb]at h1;exact absurd rfl h1
  ·obtain⟨b,h2,h3⟩:=List.mem_map.1 (iU hb);exact .inr ⟨b,h2,h3⟩
 ·obtain⟨a,h2,h3⟩:=List.mem_map.1 (iU ha);exact .inl ⟨a,h2,h3⟩
theorem YA {c:Int} {A:List T} {s:T} (hs:s∈jA c A):∃a∈A,a.m=s.m:=by rw[mZ]at hs;obtain⟨a,h1,rfl⟩:=List.mem_map.1 hs;exact⟨a,h1,rfl⟩
theorem IM {A B:List T} (hA:aH A) (hB:aH B) {s:T} (hs:s∈bY A B):(∃a∈A,a.m=s.m)∨(∃b∈B,b.m=s.m):=by
 rcases zZ hA (fM (by omega) (by omega) hB) hs with h|⟨b,h1,h2⟩
 ·exact .inl h
 ·obtain⟨a,h3,h4⟩:=YA h1;exact .inr ⟨a,h3,h4.trans h2⟩
theorem qT {o:Int} {n:Nat} {L:Nat→List T} (hl:aW n (lN L) (fN L)=true) {S S':Dv} (hp:cJ S.p=true) (h0:S.p.length≠0) (hs:cU o n (lN L) (fN L) S=some S'):(∃k Y,k<n∧M.dvd (dD o (L k)).m (dD o S.p).m=true∧cJ [eK (dD o S.p) (dD o (L k))]=true∧kO [eK (dD o S.p) (dD o (L k))] (L k)=(Y,true)∧(bY S.p Y).length≤400∧S'=⟨bY S.p Y,kN S.q k (cG (S.q k) [eK (dD o S.p) (dD o (L k))]),S.r⟩)∨((∀i,i<n→M.dvd (dD o (L i)).m (dD o S.p).m=false)∧S'=gO o S):=by
 unfold cU at hs;split at hs
 ·rename_i hk;have hf:=jT hk
  have hg:=CE hl hp h0 hk;generalize(vA o n (lN L) (fN L) (dD o S.p).m).toNat=k at hs hf hg;unfold gH at hs;split at hs
  ·cases hs
  ·rename_i Y hY;split at hs
   ·rename_i hle;cases hs;have ho:=gB hg
    exact .inl ⟨k,Y,hf.1,hf.2,ho,PK ho ((aU hl).2 k hf.1).2 hY,hle,rfl⟩
   ·cases hs
 ·rename_i hk;cases hs;refine .inr ⟨fun i hi=>?_,rfl⟩;cases hd:M.dvd (dD o (L i)).m (dD o S.p).m
  ·rfl
  ·exact absurd (zO.2 ⟨i,hi,hd⟩) hk
theorem tR {o:Int} {n:Nat} {L:Nat→List T} (hl:aW n (lN L) (fN L)=true) (I:Dv→Prop) (hI:∀u S S',iS u S→S.p.length≠0→I S→cU o n (lN L) (fN L) S=some S'→I S'):∀{v u:Nat} {S S':Dv},iS u S→I S→eE o n (lN L) (fN L) v S=some S'→I S'
 |0,u,S,S',h,hi,hr=>by
  unfold eE at hr;split at hr
  ·cases hr;exact hi
  ·cases hr
 |v+1,u,S,S',h,hi,hr=>by
  by_cases h0:S.p.length=0
  ·rw[mK h0]at hr;cases hr;exact hi
  ·cases hs:cU o n (lN L) (fN L) S with
   |none=>rw[qS h0 hs]at hr;cases hr
   |some S1=>
    rw[kE h0 hs]at hr;exact tR hl I hI (lT hl h h0 hs) (hI u S S1 h h0 hi hs) hr
theorem lC {o:Int} {p:List T} {n:Nat} {L:Nat→List T} {S:Dv} (h:dA o p n (lN L) (fN L)=some S):(1≤o∧o≤3)∧cJ p=true∧aW n (lN L) (fN L)=true∧eE o n (lN L) (fN L) 300 (kP p)=some S:=by
 unfold dA at h;split at h
 ·rename_i hh;exact⟨hh.1,hh.2.1,hh.2.2,h⟩
 ·cases h
theorem rT {o:Int} {p:List T} {n:Nat} {L:Nat→List T} {S:Dv} (h:dA o p n (lN L) (fN L)=some S) (I:Dv→Prop) (h0:I (kP p)) (hI:∀u S S',iS u S→S.p.length≠0→I S→cU o n (lN L) (fN L) S=some S'→I S'):I S:=by obtain⟨_,h2,h3,h4⟩:=lC h;exact tR h3 I hI (iS.start h2) h0 h4
theorem dB {o:Int} {p:List T} {n:Nat} {L:Nat→List T} {S:Dv} (h:dA o p n (lN L) (fN L)=some S):iS 300 S∧S.p=[]:=by
 obtain⟨_,h2,h3,h4⟩:=lC h;have:=CD h3 (iS.start h2) h4
 exact⟨by simpa using this.1,this.2⟩
theorem ET (F:Nat→Lq) (X:Lq) (k:Nat):∀n,k<n→Lq.sumN (fun i=>if i=k then Lq.sum (F i) X else F i) n=Lq.sum (Lq.sumN F n) X
 |0,h=>by omega
 |n+1,h=>by
  rw[Lq.sumN,Lq.sumN];by_cases e:k=n
  ·subst e;rw[if_pos rfl,Lq.sumN_congr (g:=F) (fun i hi=>if_neg (by omega)),Lq.sum_assoc]
  ·rw[ET F X k n (by omega),if_neg (fun h=>e h.symm),Lq.sum_assoc,Lq.sum_assoc,Lq.sum_comm X]
def iD (g:sF) (n:Nat) (L:Nat→List T) (q:Nat→List T):Lq:=Lq.sumN (fun i=>Lq.mul (Rp g (q i)) (Rp g (L i))) n
theorem tL:∀n,Lq.sumN (fun _=>Lq.nil) n=Lq.nil
 |0=>rfl
 |n+1=>by rw[Lq.sumN,tL n,Lq.sum_nil]
theorem DU (g:sF) (n:Nat) (L:Nat→List T):iD g n L (fun _=>[])=Lq.nil:=by unfold iD;rw[Lq.sumN_congr (g:=fun _=>Lq.nil) (fun i _=>by rw[nK,Lq.nil_mul]),tL]
theorem QO (g:sF) {n:Nat} {L q:Nat→List T} {k:Nat} {t:T} (hk:k<n) (hq:aH (q k)) (ht:cJ [t]=true):iD g n L (kN q k (cG (q k) [t]))=Lq.sum (iD g n L q) (Lq.mul (Rp g [t]) (Rp g (L k))):=by
 unfold iD;rw[←ET _ _ k n hk];refine Lq.sumN_congr (fun i _=>?_);unfold kN;split
 ·rename_i e;subst e;rw[sI g hq (aD ht).2,Lq.sum_mul]
 ·rfl
theorem qE (g:sF) {o:Int} {p:List T} {n:Nat} {L:Nat→List T} {S:Dv} (h:dA o p n (lN L) (fN L)=some S):Lq.sum (iD g n L S.q) (Rp g S.r)=Rp g p:=by
 obtain⟨_,h2,h3,h4⟩:=lC h
 have key:=rT h (fun S=>Lq.sum (iD g n L S.q) (Lq.sum (Rp g S.r) (Rp g S.p))=Rp g p) (by
  show Lq.sum (iD g n L (fun _=>[])) (Lq.sum (Rp g []) (Rp g p))=_;rw[DU,nK]
  exact Lq.ext fun u i j=>by show(0:Fq)+(0+_)=_;grind) (fun u S S' hok h0 hI hs=>by
  rw[←hI];rcases qT h3 hok.p h0 hs with⟨k,Y,hk,_,ho,hY,_,rfl⟩|⟨_,rfl⟩
  ·show Lq.sum (iD g n L (kN S.q k _)) (Lq.sum (Rp g S.r) (Rp g (bY S.p Y)))=_;rw[QO g hk (hok.q k).1 ho,uS g (aD hok.p).2 (mG hY),sJ g hY];exact Lq.ext fun u i j=>by
    show _+_+(_+(_+zz 100*_))=_+(_+_)
    have e:zz 100=100:=rfl;rw[e]
    grind
  ·show Lq.sum (iD g n L S.q) (Lq.sum (Rp g (cG S.r [dD o S.p])) (Rp g (bY S.p [dD o S.p])))=_;have f1:=fH (iV (o:=o) (aD hok.p).2 h0)
   rw[sI g hok.r.1 f1,uS g (aD hok.p).2 f1];exact Lq.ext fun u i j=>by
    show _+(_+_+(_+zz 100*_))=_+(_+_)
    have e:zz 100=100:=rfl;rw[e]
    grind)
 have hp:=(dB h).2;rw[hp,nK,Lq.sum_nil]at key;exact key
theorem PU {t l:T} (hd:M.dvd l.m t.m=true):(eK t l).m.sum l.m=t.m:=by
 have h:=wM hd;unfold M.mul at h;split at h
 ·exact congrArg Prod.fst h
 ·exact absurd (congrArg Prod.snd h) (by simp)
theorem QL {o:Int} (ho:1≤o∧o≤3) {t:T} {B Y:List T} (hB:cJ B=true) (hB0:B.length≠0) (h:kO [t] B=(Y,true)):∀s∈Y,iR o s.m≤iR o t.m+iR o (dD o B).m:=fun s hs=>by
 have:=(yF (AO o) oV h (List.mem_singleton.2 rfl) (jL (o:=o) hB0) (fun a ha=>by rw[List.mem_singleton.1 ha];exact Int.le_refl _) (zT ho hB hB0)).2 s hs;rw[(AO o t.m (dD o B).m 0 0).2]at this;exact this
theorem QT {o:Int} {p:List T} {n:Nat} {L:Nat→List T} {S:Dv} (h:dA o p n (lN L) (fN L)=some S) {N:Int} (hN:∀t∈p,iR o t.m≤N):(∀t∈S.r,iR o t.m≤N)∧∀i,i<n→∀s∈S.q i,(s.m.sum (dD o (L i)).m).ok=true∧iR o (s.m.sum (dD o (L i)).m)≤N:=by
 obtain⟨h1,h2,h3,h4⟩:=lC h
 have key:=rT h (fun S=>(∀t∈S.p,iR o t.m≤N)∧(∀t∈S.r,iR o t.m≤N)∧∀i,i<n→∀s∈S.q i,(s.m.sum (dD o (L i)).m).ok=true∧iR o (s.m.sum (dD o (L i)).m)≤N) ⟨hN,⟨fun t ht=>absurd ht (List.not_mem_nil),fun i _ s hs=>absurd hs (List.not_mem_nil)⟩⟩ (fun u S S' hok h0 hI hs=>by
  obtain⟨i1,i2,i3⟩:=hI;have hl:=jL (o:=o) h0
  have hg:=iV (o:=o) (aD hok.p).2 h0;rcases qT h3 hok.p h0 hs with⟨k,Y,hk,hd,ho,hY,_,rfl⟩|⟨hno,rfl⟩
  ·have hk2:=(aU h3).2 k hk;have htop:=QL h1 hk2.2 hk2.1 hY
   have hsum:=PU hd;have hw:=(AO o (eK (dD o S.p) (dD o (L k))).m (dD o (L k)).m 0 0).2
   rw[hsum]at hw;refine⟨fun t ht=>?_,i2,fun i hi s hs=>?_⟩
   ·rcases IM (aD hok.p).2 (mG hY) ht with⟨a,ha,e⟩|⟨b,hb,e⟩
    ·rw[←e];exact i1 a ha
    ·rw[←e];have:=htop b hb
     have:=i1 _ hl;omega
   ·change s∈kN S.q k _ i at hs;unfold kN at hs;split at hs
    ·rename_i e;subst e;rcases zZ (hok.q i).1 (aD ho).2 hs with⟨a,ha,e⟩|⟨b,hb,e⟩
     ·rw[←e];exact i3 i hi a ha
     ·rw[←e,List.mem_singleton.1 hb,hsum];exact⟨hg.1,i1 _ hl⟩
    ·exact i3 i hi s hs
  ·refine⟨fun t ht=>?_,fun t ht=>?_,i3⟩
   ·rcases IM (aD hok.p).2 (fH hg) ht with⟨a,ha,e⟩|⟨b,hb,e⟩
    ·rw[←e];exact i1 a ha
    ·rw[←e,List.mem_singleton.1 hb];exact i1 _ hl
   ·rcases zZ hok.r.1 (fH hg) ht with⟨a,ha,e⟩|⟨b,hb,e⟩
    ·rw[←e];exact i2 a ha
    ·rw[←e,List.mem_singleton.1 hb];exact i1 _ hl)
 exact⟨key.2.1,key.2.2⟩
theorem Ab (c:Int) (L:List T) {i:Nat} (h:i<L.length):lf (jA c L) i=uH c (lf L i):=by
 have h2:i<(jA c L).length:=by rw[fU];exact h
 rw[iH h2,iH h];simp only[mZ,List.getElem_map];rfl
theorem MH {o:Int} {p:List T} {n:Nat} {L:Nat→List T} (ho:1≤o∧o≤3) (hp:cJ p=true) (hl:aW n (lN L) (fN L)=true):dA o p n (lN L) (fN L)=eE o n (lN L) (fN L) 300 (kP p):=if_pos ⟨ho,hp,hl⟩
theorem VJ {w:World} (o:Int) {a b:Option Addr} {ca cb:Nat} {A B:List T} (ha:RL w a ca A) (hb:RL w b cb B):Calls Tryz.prog 69 #[.int .i64 o,.slice a A.length ca,.slice b B.length cb] w (NK w (dH o (lf A) A.length (lf B) B.length)):=
 (RO w o a b A.length ca B.length cb (lf A) (lf B) ha hb).mono fun _ _ h=>EV (EH _ _ _ _ _) h
structure Fr (P:Nat→Prop) (w w':World):Prop where
 os:w'.os=w.os
 tape:w'.tape=w.tape
 output:w'.output=w.output
 size:w.heap.size≤w'.heap.size
 block:∀k,k<w.heap.size→¬P k→w'.heap[k]? =w.heap[k]?
theorem Fr.refl (P:Nat→Prop) (w:World):Fr P w w:=⟨rfl,rfl,rfl,Nat.le_refl _,fun _ _ _=>rfl⟩
theorem Fr.trans {P:Nat→Prop} {a b c:World} (h:Fr P a b) (k:Fr P b c):Fr P a c:=
 ⟨k.os.trans h.os,k.tape.trans h.tape,k.output.trans h.output,gW h.size k.size,fun i hi hn=>(k.block i (iZ hi h.size) hn).trans (h.block i hi hn)⟩
theorem Fr.mono {P P':Nat→Prop} {w w':World} (h:Fr P w w') (hp:∀k,k<w.heap.size→P k→P' k):Fr P' w w':=⟨h.os,h.tape,h.output,h.size,fun k hk hn=>h.block k hk (fun e=>hn (hp k hk e))⟩
theorem aO {P:Nat→Prop} {w w':World} (h:Below w.heap.size w w'):Fr P w w':=⟨h.os,h.tape,h.output,h.size,fun k hk _=>h.block k hk⟩
theorem Fr.next {P:Nat→Prop} {a b c:World} (h:Fr P a b) (k:Below b.heap.size b c):Fr P a c:=h.trans (aO k)
theorem Fr.set {P:Nat→Prop} {w w':World} (h:Fr P w w') {b o:Nat} {v:Value} (hb:b<w.heap.size→P b):Fr P w (w'.setCell ⟨b,o,none⟩ v):=
 ⟨h.os,h.tape,h.output,by simpa[World.setCell]using h.size,fun k hk hn=>(Below.heap_setCell _ _ _ _ (by show k≠b;intro e;subst e;exact hn (hb hk))).trans (h.block k hk hn)⟩
theorem Fr.grown {P:Nat→Prop} {w w' w'':World} {row:Option Nat} (h:Fr P w w') (hg:w'.grownBy w'' row) (hr:∀g,row=some g→g<w.heap.size→P g):Fr P w w'':=
 ⟨hg.os.trans h.os,hg.tape.trans h.tape,hg.output.trans h.output,gW h.size hg.size,fun k hk hn=>(hg.block k (iZ hk h.size) (fun e=>hn (hr k e.symm hk))).trans (h.block k hk hn)⟩
theorem Fr.cell {P:Nat→Prop} {w w':World} (h:Fr P w w') {b o:Nat} (hb:b<w.heap.size) (hp:¬P b):w'.cell? ⟨b,o,none⟩=w.cell? ⟨b,o,none⟩:=
 nC (w:=w) (a:=⟨b,o,none⟩) (h.block b hb hp)
theorem Fr.frozen {P:Nat→Prop} {w w':World} (h:Fr P w w') {b o:Nat} (hb:b<w.heap.size) (hp:¬P b):w'.frozen? ⟨b,o,none⟩=w.frozen? ⟨b,o,none⟩:=
 World.frozen?_of_block (w:=w) (a:=⟨b,o,none⟩) (h.block b hb hp)
theorem Fr.rd {P:Nat→Prop} {w w':World} (h:Fr P w w') {a:Option Addr} {n cap:Nat} {f:Nat→T} (hr:Rd w a n cap f) (hp:n=0∨∀b off,a=some ⟨b,off,none⟩→¬P b):Rd w' a n cap f:=by
 obtain⟨h1,h2,h3⟩:=hr;refine⟨h1,h2,?_⟩;rcases h3 with h0|⟨b,off,he,hlt,hc⟩
 ·exact .inl h0
 ·rcases hp with h0|hp
  ·exact .inl h0
  ·refine .inr ⟨b,off,he,iZ hlt h.size,fun i hi=>?_⟩;have hn:=hp b off he
   obtain⟨c0,c1,c2,c3,c4⟩:=hc i hi;exact⟨(h.cell hlt hn).trans c0,(h.cell hlt hn).trans c1,(h.cell hlt hn).trans c2,(h.cell hlt hn).trans c3,(h.cell hlt hn).trans c4⟩
theorem Fr.c5 {P:Nat→Prop} {w w':World} (h:Fr P w w') {b:Nat} {t:T} (hc:C5 w b t) (hp:¬P b):C5 w' b t:=by have hlt:=hc.lt;obtain⟨c0,c1,c2,c3,c4⟩:=hc;exact⟨(h.cell hlt hp).trans c0,(h.cell hlt hp).trans c1,(h.cell hlt hp).trans c2,(h.cell hlt hp).trans c3,(h.cell hlt hp).trans c4⟩
theorem Fr.below {P:Nat→Prop} {lo:Nat} {u w w':World} (hb:Below lo u w) (h:Fr P w w') (hp:∀k,P k→lo≤k) (hlo:lo≤u.heap.size):Below lo u w':=
 ⟨h.os.trans hb.os,h.tape.trans hb.tape,h.output.trans hb.output,gW hb.size h.size,fun k hk=>(h.block k (iZ hk (gW hlo hb.size)) (fun e=>by have:=hp k e;omega)).trans (hb.block k hk)⟩
theorem Fr.owns {P:Nat→Prop} {w w':World} (h:Fr P w w') {lo:Nat} {e:TypeId} {size:Nat} {v:Value} {n:Nat} {xs:List Value} (ho:w.ownsRow lo e size v n xs) (hp:∀g,v.ownBlock=some g→¬P g):w'.ownsRow lo e size v n xs:=by
 refine⟨ho.1,ho.2.imp id ?_⟩;rintro⟨g,cap,cur,hv,hlo,hgg,hn,hm,hs,ht⟩;refine⟨g,cap,cur,hv,hlo,?_,hn,hm,hs,ht⟩;have hlt:g<w.heap.size:=(Array.getElem?_eq_some_iff.1 hgg).1
 exact(h.block g hlt (hp g (by rw[hv];rfl))).trans hgg
theorem gF {w:World} {a:Addr} {v u:Value} (h:w.cell? a=some u):(w.setCell a v).cell? a=some v:=World.cell?_setCell_same (w:=w) (a:=a) (v:=v) h
theorem aJ {w:World} {a b:Addr} {v:Value} (h:a≠b):(w.setCell a v).cell? b=w.cell? b:=World.cell?_setCell_other (w:=w) (a:=a) (b:=b) (v:=v) h
def Ad (q:Nat×Nat):Nat×Nat:=if q.1+1<q.2 then(q.1+1,q.2)else(0,q.2+1)
def pq:Nat→Nat×Nat
 |0=>(0,1)
 |j+1=>Ad (pq j)
def bA:Nat→Nat
 |0=>0
 |k+1=>bA k+k
theorem oD:∀k i,i<k→pq (bA k+i)=(i,k)
 |0,i,h=>by omega
 |1,i,h=>by
  obtain rfl:i=0:=by omega
  rfl
 |k+2,0,_=>by
  have:=oD (k+1) k (by omega);show pq (bA (k+1)+(k+1))=(0,k+2)
  rw[show bA (k+1)+(k+1)=(bA (k+1)+k)+1 by omega];show Ad (pq (bA (k+1)+k))=_
  rw[this];unfold Ad;rw[if_neg (by simp)]
 |k+2,i+1,h=>by
  have:=oD (k+2) i (by omega);rw[show bA (k+2)+(i+1)=(bA (k+2)+i)+1 by omega];show Ad (pq (bA (k+2)+i))=_
  rw[this];unfold Ad;rw[if_pos (by simpa using h)]
theorem wR       {a b : Nat} (h : a ≤ b) : bA  a ≤ bA  b := by
  induction b with
  | zero => obtain rfl : a = 0 := by omega
            exact Nat.le_refl _
  | succ b ih =>
    rcases Nat.lt_or_ge a (b + 1) with h' | h'
    · have := ih (by omega); show bA  a ≤ bA  b + b; omega
    · obtain rfl : a = b + 1 := by omega
      exact Nat.le_refl _
theorem GS:∀(m j:Nat),j<bA m→∃k i,k<m∧i<k∧j=bA k+i
 |0,j,h=>absurd h (EZ _)
 |m+1,j,h=>by
  rcases Nat.lt_or_ge j (bA m)with h'|h'
  ·obtain⟨k,i,h1,h2,h3⟩:=GS m j h';exact⟨k,i,by omega,h2,h3⟩
  ·have h:j<bA m+m:=h;exact⟨m,j-bA m,by omega,by omega,by omega⟩
theorem JG {m j:Nat} (h:j<bA m):(pq j).1<(pq j).2∧(pq j).2<m:=by obtain⟨k,i,h1,h2,rfl⟩:=GS m j h;rw[oD k i h2];exact⟨h2,h1⟩
structure Pr where
 t1:T
 t2:T
 i:Nat
 k:Nat
def uG (kf:Nat→T) (j:Nat):Pr:=⟨gG (kf (pq j).1) (M.both (kf (pq j).1).m (kf (pq j).2).m),gG (kf (pq j).2) (M.both (kf (pq j).1).m (kf (pq j).2).m),(pq j).1,(pq j).2⟩
theorem MC {kf kf':Nat→T} {m j:Nat} (h:∀i,i<m→kf i=kf' i) (hj:j<bA m):uG kf j=uG kf' j:=by obtain⟨h1,h2⟩:=JG hj;unfold uG;rw[h _ (Nat.lt_trans h1 h2),h _ h2]
abbrev vi (z:Int):Value:=.int .i64 z
abbrev VC (p:Pr) (nx:Option Addr):Array Value:=#[vi p.t1.c,vi p.t1.m.x,vi p.t1.m.y,vi p.t1.m.d,vi p.t1.m.e,vi p.t2.c,vi p.t2.m.x,vi p.t2.m.y,vi p.t2.m.d,vi p.t2.m.e,vi (p.i:Int),vi (p.k:Int),.pointer nx]
structure iF (w:World) (b:Nat) (p:Pr) (nx:Option Addr):Prop where
 a0:w.cell? ⟨b,0,none⟩=some (.int .i64 p.t1.c)
 a1:w.cell? ⟨b,1,none⟩=some (.int .i64 p.t1.m.x)
 a2:w.cell? ⟨b,2,none⟩=some (.int .i64 p.t1.m.y)
 a3:w.cell? ⟨b,3,none⟩=some (.int .i64 p.t1.m.d)
 a4:w.cell? ⟨b,4,none⟩=some (.int .i64 p.t1.m.e)
 b0:w.cell? ⟨b,5,none⟩=some (.int .i64 p.t2.c)
 b1:w.cell? ⟨b,6,none⟩=some (.int .i64 p.t2.m.x)
 b2:w.cell? ⟨b,7,none⟩=some (.int .i64 p.t2.m.y)
 b3:w.cell? ⟨b,8,none⟩=some (.int .i64 p.t2.m.d)
 b4:w.cell? ⟨b,9,none⟩=some (.int .i64 p.t2.m.e)
 ci:w.cell? ⟨b,10,none⟩=some (.int .i64 (p.i:Int))
 ck:w.cell? ⟨b,11,none⟩=some (.int .i64 (p.k:Int))
 nx:w.cell? ⟨b,12,none⟩=some (.pointer nx)
 fz:w.frozen? ⟨b,12,none⟩=false
theorem iF.lt {w:World} {b:Nat} {p:Pr} {nx:Option Addr} (h:iF w b p nx):b<w.heap.size:=cQ w _ h.a0
theorem iF.fr {P:Nat→Prop} {w w':World} {b:Nat} {p:Pr} {nx:Option Addr} (h:iF w b p nx) (hf:Fr P w w') (hp:¬P b):iF w' b p nx:=
 have hl:=h.lt
 ⟨(hf.cell hl hp).trans h.a0,(hf.cell hl hp).trans h.a1,(hf.cell hl hp).trans h.a2,(hf.cell hl hp).trans h.a3,(hf.cell hl hp).trans h.a4,(hf.cell hl hp).trans h.b0,(hf.cell hl hp).trans h.b1,(hf.cell hl hp).trans h.b2,(hf.cell hl hp).trans h.b3,(hf.cell hl hp).trans h.b4,(hf.cell hl hp).trans h.ci,(hf.cell hl hp).trans h.ck,(hf.cell hl hp).trans h.nx,(hf.frozen hl hp).trans h.fz⟩
theorem iF.below {w w':World} {b:Nat} {p:Pr} {nx:Option Addr} (h:iF w b p nx) (hb:Below w.heap.size w w'):iF w' b p nx:=h.fr (P:=fun _=>False) (aO hb) id
theorem iF.box (w:World) (y:TypeId) (p:Pr) (nx:Option Addr):iF (w.alloc (.cells (VC p nx) y)) w.heap.size p nx:=by constructor<;>first|(rw[World.cell?_alloc_at _ _ _ _ rfl];rfl)|(simp[go_sem])
theorem uD {b j:Nat} (h:j≠12):(⟨b,12,none⟩:Addr)≠⟨b,j,none⟩:=fun e=>h (by injection e with _ e2;exact e2.symm)
theorem iF.link {w:World} {b:Nat} {p:Pr} {nx:Option Addr} (h:iF w b p nx) (nx':Option Addr):iF (w.setCell ⟨b,12,none⟩ (.pointer nx')) b p nx' where
 a0:=(aJ (uD (by omega))).trans h.a0
 a1:=(aJ (uD (by omega))).trans h.a1
 a2:=(aJ (uD (by omega))).trans h.a2
 a3:=(aJ (uD (by omega))).trans h.a3
 a4:=(aJ (uD (by omega))).trans h.a4
 b0:=(aJ (uD (by omega))).trans h.b0
 b1:=(aJ (uD (by omega))).trans h.b1
 b2:=(aJ (uD (by omega))).trans h.b2
 b3:=(aJ (uD (by omega))).trans h.b3
 b4:=(aJ (uD (by omega))).trans h.b4
 ci:=(aJ (uD (by omega))).trans h.ci
 ck:=(aJ (uD (by omega))).trans h.ck
 nx:=gF h.nx
 fz:=by rw[World.frozen?_setCell];exact h.fz
def qF (B:Nat→Nat) (a e:Nat):Option Addr:=if a<e then some ⟨B a,0,none⟩else none
structure nE (w:World) (lo Q z:Nat) (lv:Value) (m:Nat) (kf:Nat→T) (B:Nat→Nat) (a e:Nat):Prop where
 cl:w.cell? ⟨Q,z,none⟩=some lv
 cf:w.cell? ⟨Q,z+1,none⟩=some (.pointer (qF B a e))
 ct:∃v,w.cell? ⟨Q,z+2,none⟩=some v∧(a<e→v= .pointer (some ⟨B (e-1),0,none⟩))
 fz:w.frozen? ⟨Q,z,none⟩=false∧w.frozen? ⟨Q,z+1,none⟩=false∧w.frozen? ⟨Q,z+2,none⟩=false
 own:w.ownsRow lo 86 5 lv ((List.range m).map kf).length (aE ((List.range m).map kf))
 ap:∀g,lv.ownBlock=some g→g≠Q
 pr:∀j,a≤j→j<e→iF w (B j) (uG kf j) (if j+1<e then some ⟨B (j+1),0,none⟩else none)
 bk:∀j,a≤j→j<e→lo≤B j∧B j≠Q∧lv.ownBlock≠some (B j)
 inj:∀i j,a≤i→i<j→j<e→B i≠B j
 hQ:lo≤Q
def QS (Q:Nat) (lv:Value) (B:Nat→Nat) (a e k:Nat):Prop:=k=Q∨lv.ownBlock=some k∨(a<e∧k=B (e-1))
theorem nE.lt {w:World} {lo Q z:Nat} {lv:Value} {m:Nat} {kf:Nat→T} {B:Nat→Nat} {a e:Nat} (h:nE w lo Q z lv m kf B a e):Q<w.heap.size:=cQ w _ h.cl
theorem nE.fr {P:Nat→Prop} {w w':World} {lo Q z:Nat} {lv:Value} {m:Nat} {kf:Nat→T} {B:Nat→Nat} {a e:Nat} (h:nE w lo Q z lv m kf B a e) (hf:Fr P w w') (h1:¬P Q) (h2:∀g,lv.ownBlock=some g→¬P g) (h3:∀j,a≤j→j<e→¬P (B j)):nE w' lo Q z lv m kf B a e where
 cl:=(hf.cell h.lt h1).trans h.cl
 cf:=(hf.cell h.lt h1).trans h.cf
 ct:=h.ct.imp fun v ⟨c1,c2⟩=>⟨(hf.cell h.lt h1).trans c1,c2⟩
 fz:=⟨(hf.frozen h.lt h1).trans h.fz.1,(hf.frozen h.lt h1).trans h.fz.2.1,(hf.frozen h.lt h1).trans h.fz.2.2⟩
 own:=hf.owns h.own h2
 ap:=h.ap
 pr:=fun j i1 i2=>(h.pr j i1 i2).fr hf (h3 j i1 i2)
 bk:=h.bk
 inj:=h.inj
 hQ:=h.hQ
theorem nE.below {w w':World} {lo Q z:Nat} {lv:Value} {m:Nat} {kf:Nat→T} {B:Nat→Nat} {a e:Nat} (h:nE w lo Q z lv m kf B a e) (hb:Below w.heap.size w w'):nE w' lo Q z lv m kf B a e:=h.fr (P:=fun _=>False) (aO hb) id (fun _ _=>id) (fun _ _ _=>id)
theorem pE {Q z z':Nat} (h:z≠z'):(⟨Q,z,none⟩:Addr)≠⟨Q,z',none⟩:=fun e=>h (by injection e)
def EW (B:Nat→Nat) (e b j:Nat):Nat:=if j=e then b else B j
theorem VD {B B':Nat→Nat} {a e e':Nat} (h:a<e) (h':a<e') (hB:B a=B' a):qF B a e=qF B' a e':=by unfold qF;rw[if_pos h,if_pos h',hB]
theorem nE.push {w:World} {lo Q z:Nat} {lv:Value} {m:Nat} {kf:Nat→T} {B:Nat→Nat} {a e:Nat} (h:nE w lo Q z lv m kf B a e) (hae:a≤e) {b:Nat} (hb:iF w b (uG kf e) none) (hlo:lo≤b) (hbQ:b≠Q) (hbl:lv.ownBlock≠some b) (hbB:∀j,a≤j→j<e→B j≠b):nE (if a<e then(w.setCell ⟨B (e-1),12,none⟩ (.pointer (some ⟨b,0,none⟩))).setCell ⟨Q,z+2,none⟩ (.pointer (some ⟨b,0,none⟩))else(w.setCell ⟨Q,z+1,none⟩ (.pointer (some ⟨b,0,none⟩))).setCell ⟨Q,z+2,none⟩ (.pointer (some ⟨b,0,none⟩))) lo Q z lv m kf (EW B e b) a (e+1):=by
 have hub:∀j,j<e→EW B e b j=B j:=fun j hj=>if_neg (by omega);have hue:EW B e b e=b:=if_pos rfl
 obtain⟨tv,ht,_⟩:=h.ct;by_cases hlt:a<e
 ·rw[if_pos hlt];have hl:=h.bk (e-1) (by omega) (by omega)
  have f1:Fr (fun k=>k=B (e-1)) w (w.setCell ⟨B (e-1),12,none⟩ (.pointer (some ⟨b,0,none⟩))):=(Fr.refl _ w).set (fun _=>rfl);have c1:(w.setCell ⟨B (e-1),12,none⟩ (.pointer (some ⟨b,0,none⟩))).cell? ⟨Q,z+2,none⟩=some tv:=(f1.cell h.lt (fun q=>hl.2.1 q.symm)).trans ht
  generalize hw1:w.setCell ⟨B (e-1),12,none⟩ (.pointer (some ⟨b,0,none⟩))=w1 at f1 c1;have hlnk:iF w1 (B (e-1)) (uG kf (e-1)) (some ⟨b,0,none⟩):=by rw[←hw1];exact(h.pr (e-1) (by omega) (by omega)).link _
  have f2:Fr (fun k=>k=Q) w1 (w1.setCell ⟨Q,z+2,none⟩ (.pointer (some ⟨b,0,none⟩))):=(Fr.refl _ w1).set (fun _=>rfl);have hlt1:Q<w1.heap.size:=iZ h.lt f1.size
  refine⟨?_,?_,⟨_,gF c1,fun _=>by rw[show e+1-1=e by omega,hue]⟩,?_,?_,h.ap,?_,?_,?_,h.hQ⟩
  ·rw[aJ (pE (by omega))];exact(f1.cell h.lt (fun q=>hl.2.1 q.symm)).trans h.cl
  ·rw[aJ (pE (by omega)),(f1.cell h.lt (fun q=>hl.2.1 q.symm)).trans h.cf,VD (B':=EW B e b) (e':=e+1) hlt (by omega) (hub a hlt).symm]
  ·simp only[World.frozen?_setCell];exact⟨(f1.frozen h.lt (fun q=>hl.2.1 q.symm)).trans h.fz.1,(f1.frozen h.lt (fun q=>hl.2.1 q.symm)).trans h.fz.2.1,(f1.frozen h.lt (fun q=>hl.2.1 q.symm)).trans h.fz.2.2⟩
  ·exact f2.owns (f1.owns h.own (fun g hg q=>hl.2.2 (by rw[hg,q]))) (fun g hg q=>h.ap g hg q)
  ·intro j j1 j2;by_cases e1:j=e
   ·subst e1;rw[hue,if_neg (by omega)];exact(hb.fr f1 (fun q=>hbB (j-1) (by omega) (by omega) q.symm)).fr f2 hbQ
   ·rw[hub j (by omega),if_pos (by omega)];by_cases e2:j=e-1
    ·have e3:j+1=e:=by omega
     rw[e3,hue,e2];exact hlnk.fr f2 hl.2.1
    ·rw[hub (j+1) (by omega)];have:=h.pr j j1 (by omega)
     rw[if_pos (by omega)]at this;exact(this.fr f1 (h.inj j (e-1) j1 (by omega) (by omega))).fr f2 (h.bk j j1 (by omega)).2.1
  ·intro j j1 j2;by_cases e1:j=e
   ·subst e1;rw[hue];exact⟨hlo,hbQ,hbl⟩
   ·rw[hub j (by omega)];exact h.bk j j1 (by omega)
  ·intro i j i1 i2 i3;rw[hub i (by omega)];by_cases e1:j=e
   ·subst e1;rw[hue];exact hbB i i1 (by omega)
   ·rw[hub j (by omega)];exact h.inj i j i1 i2 (by omega)
 ·rw[if_neg hlt];have hea:a=e:=by omega
  subst hea;have f1:Fr (fun k=>k=Q) w (w.setCell ⟨Q,z+1,none⟩ (.pointer (some ⟨b,0,none⟩))):=(Fr.refl _ w).set (fun _=>rfl)
  have f2:Fr (fun k=>k=Q) w ((w.setCell ⟨Q,z+1,none⟩ (.pointer (some ⟨b,0,none⟩))).setCell ⟨Q,z+2,none⟩ (.pointer (some ⟨b,0,none⟩))):=f1.set (fun _=>rfl);have c1:(w.setCell ⟨Q,z+1,none⟩ (.pointer (some ⟨b,0,none⟩))).cell? ⟨Q,z+2,none⟩=some tv:=(aJ (pE (by omega))).trans ht
  refine⟨?_,?_,⟨_,gF c1,fun _=>by rw[show a+1-1=a by omega,hue]⟩,?_,?_,h.ap,?_,?_,?_,h.hQ⟩
  ·rw[aJ (pE (by omega)),aJ (pE (by omega))];exact h.cl
  ·rw[aJ (pE (by omega)),gF h.cf];unfold qF;rw[if_pos (by omega),hue]
  ·simp only[World.frozen?_setCell];exact h.fz
  ·exact f2.owns h.own (fun g hg q=>h.ap g hg q)
  ·intro j j1 j2;obtain rfl:j=a:=by omega
   rw[hue,if_neg (by omega)];exact hb.fr f2 hbQ
  ·intro j j1 j2;obtain rfl:j=a:=by omega
   rw[hue];exact⟨hlo,hbQ,hbl⟩
  ·intro i j i1 i2 i3;omega
theorem nE.pop {w:World} {lo Q z:Nat} {lv:Value} {m:Nat} {kf:Nat→T} {B:Nat→Nat} {a e:Nat} (h:nE w lo Q z lv m kf B a e) (hlt:a<e):nE (w.setCell ⟨Q,z+1,none⟩ (.pointer (qF B (a+1) e))) lo Q z lv m kf B (a+1) e∧iF (w.setCell ⟨Q,z+1,none⟩ (.pointer (qF B (a+1) e))) (B a) (uG kf a) (qF B (a+1) e):=by
 have f1:Fr (fun k=>k=Q) w (w.setCell ⟨Q,z+1,none⟩ (.pointer (qF B (a+1) e))):=(Fr.refl _ w).set (fun _=>rfl);obtain⟨tv,ht,ht2⟩:=h.ct;refine⟨⟨?_,gF h.cf,⟨tv,(aJ (pE (by omega))).trans ht,fun q=>ht2 hlt⟩,by simp only[World.frozen?_setCell];exact h.fz,f1.owns h.own (fun g hg q=>h.ap g hg q),h.ap,fun j j1 j2=>(h.pr j (by omega) j2).fr f1 (h.bk j (by omega) j2).2.1,fun j j1 j2=>h.bk j (by omega) j2,fun i j i1 i2 i3=>h.inj i j (by omega) i2 i3,h.hQ⟩,?_⟩
 ·rw[aJ (pE (by omega))];exact h.cl
 ·exact(h.pr a (Nat.le_refl _) hlt).fr f1 (h.bk a (Nat.le_refl _) hlt).2.1
theorem MB (w:World) (lo Q z:Nat) (lv:Value) (m:Nat) (kf:Nat→T) (B:Nat→Nat) (a e:Nat) (h:nE w lo Q z lv m kf B a e) (hlt:¬a<e):Calls Tryz.prog 79 #[.pointer (some ⟨Q,z,none⟩)] w fun r w'=>r= .returned (.pointer none)∧w'=w:=by
 have c0:=h.cf;have e0:qF B a e=none:=if_neg hlt
 rw[e0]at c0;clear h e0;go_enter Tryz.func79,Tryz.ntmps79;go_wp2;go_ret;exact⟨rfl,rfl⟩
end Go.Proofs.YtelkehjdfcoeiaaGreat
