/-
  Whether operators are a basis: the program's GrbOk.
-/
import Derived.Test.YtmlaedpamobmhaaGreatMIab
import Derived.Deep.LoopGhost
set_option maxHeartbeats 8000000
set_option maxRecDepth 100000
namespace Go.Proofs.YtmlaedpamobmhaaGreat
open Go.RowKit Go.Deep Go.Joins
set_option linter.unusedVariables false
def wH (F:Nat→Nat):Nat→Nat
 |0=>2
 |m+1=>if wH F m=2 then F m else wH F m
theorem yV       {F : Nat → Nat} {j : Nat} (h : wH  F j ≠ 2) : ∀ e, j ≤ e → wH  F e = wH  F j
  | 0, hj => by obtain rfl : j = 0 := by omega
                rfl
  | e + 1, hj => by
    rcases Nat.lt_or_ge j (e + 1) with h' | h'
    · have := yV       h e (by omega)
      show (if wH  F e = 2 then F e else wH  F e) = _
      rw [this, if_neg h]
    · obtain rfl : j = e + 1 := by omega
      rfl
theorem wU {F:Nat→Nat}:∀{e:Nat},wH F e=2↔∀j,j<e→F j=2
 |0=>⟨fun _ j hj=>by omega,fun _=>rfl⟩
 |e+1=>by
  show(if wH F e=2 then F e else wH F e)=2↔_;constructor
  ·intro h j hj;split at h
   ·rename_i h2;by_cases e1:j=e
    ·rw[e1];exact h
    ·exact wU.1 h2 j (by omega)
   ·exact absurd h (by assumption)
  ·intro h;rw[if_pos (wU.2 (fun j hj=>h j (by omega)))];exact h e (by omega)
def yP (o:Int) (n:Nat) (L:Nat→List T) (j:Nat):Nat:=DJ o n L (pq j).1 (pq j).2
theorem Da (o:Int) (n:Nat) (L:Nat→List T) (i k:Nat):DJ o n L i k≤2:=by
 unfold DJ;split
 ·split
  ·split<;>omega
  ·omega
 ·omega
theorem VU (o:Int) (n:Nat) (L:Nat→List T):∀e,wH (yP o n L) e≤2
 |0=>Nat.le_refl _
 |e+1=>by
  show(if wH (yP o n L) e=2 then yP o n L e else wH (yP o n L) e)≤2;split
  ·exact Da _ _ _ _ _
  ·exact VU o n L e
theorem PB {o:Int} {n:Nat} {L:Nat→List T} (ho:1≤o∧o≤3) (hl:aU n (lN L) (fN L)=true):lK o n L=decide (wH (yP o n L) (aT n)=2):=by
 unfold lK;refine decide_eq_decide.2 ⟨fun h=>wU.2 (fun j hj=>?_),fun h=>⟨ho,hl,fun k hk i hi=>?_⟩⟩
 ·obtain⟨h1,h2⟩:=yO hj;exact h.2.2 _ h2 _ h1
 ·have:=wU.1 h (aT k+i) (by have:=pL (show k+1≤n by omega);show aT k+i<aT n;have h':aT (k+1)=aT k+k:=rfl;omega);unfold yP at this
  rwa[mP k i hi]at this
theorem FQ {o:Int} {A:List T} (ho:1≤o∧o≤3) (hA:cM A=true) (h0:A.length≠0):bD o A.length (lf A)=true∧bL o A.length (lf A)=dH o A:=by have h:bD o A.length (lf A)=true:=iI.2 ⟨ho,hA,fun e=>h0 (by rw[e];rfl)⟩;exact⟨h,eX h⟩
theorem SQ {o : Int} {n : Nat} {L : Nat → List T} (ho : 1 ≤ o ∧ o ≤ 3) (hl : aU n (lN L) (fN L) = true) {kf : Nat → T} (hk : ∀ i, i < n → kf i = dH o (L i)) {j : Nat} (hj : j < aT n) : yP o n L j = match uH o n L (mF kf j) with
    |some S=>if S.r.length=0 then 2 else 1
    |none=>0:=by
  obtain⟨h1,h2⟩:=yO hj
  have a1:=(aR hl).2 (pq j).1 (by omega)
  have a2:=(aR hl).2 (pq j).2 h2
  obtain⟨k1,e1⟩:=FQ (o:=o) (A:=L (pq j).1) ho a1.2 a1.1
  obtain⟨k2,e2⟩:=FQ (o:=o) (A:=L (pq j).2) ho a2.2 a2.1
  have hs:eG o (L (pq j).1).length (lf (L (pq j).1)) (L (pq j).2).length (lf (L (pq j).2))=true:=by unfold eG;rw[k1,k2];rfl
  have e:aZ o (lf (L (pq j).1)) (L (pq j).1).length (lf (L (pq j).2)) (L (pq j).2).length=iM (mF kf j).t1 (mF kf j).t2 (lf (L (pq j).1)) (L (pq j).1).length (lf (L (pq j).2)) (L (pq j).2).length:=by
    unfold aZ
    rw[if_pos hs]
    unfold eD eE kP mF
    rw[if_pos hs,if_pos hs,e1,e2]
    simp only
    rw[hk _ (by omega),hk _ h2]
  unfold yP DJ uH
  show(match aZ o (lf (L (pq j).1)) (L (pq j).1).length (lf (L (pq j).2)) (L (pq j).2).length with
    |(s,true)=>(match bJ o s n (lN L) (fN L)with|some S=>if S.r.length=0 then 2 else 1|none=>0)
    |(_,false)=>0)=match (match iM (mF kf j).t1 (mF kf j).t2 (lf (L (pq j).1)) (L (pq j).1).length (lf (L (pq j).2)) (L (pq j).2).length with|(s,true)=>bJ o s n (lN L) (fN L)|(_,false)=>none)with|some S=>if S.r.length=0 then 2 else 1|none=>0
  rw[e]
  generalize iM (mF kf j).t1 (mF kf j).t2 (lf (L (pq j).1)) (L (pq j).1).length (lf (L (pq j).2)) (L (pq j).2).length=X
  obtain⟨s,b⟩:=X
  cases b<;>rfl
theorem SS {o:Int} {n:Nat} {L:Nat→List T} (ho:1≤o∧o≤3) (hl:aU n (lN L) (fN L)=true) {kf:Nat→T} (hk:∀i,i<n→kf i=dH o (L i)) {j:Nat} (hj:j<aT n) {S:Dv} (h:uH o n L (mF kf j)=some S):yP o n L j=if S.r.length=0 then 2 else 1:=by rw[SQ ho hl hk hj,h]
theorem SR {o:Int} {n:Nat} {L:Nat→List T} (ho:1≤o∧o≤3) (hl:aU n (lN L) (fN L)=true) {kf:Nat→T} (hk:∀i,i<n→kf i=dH o (L i)) {j:Nat} (hj:j<aT n) (h:uH o n L (mF kf j)=none):yP o n L j=0:=by rw[SQ ho hl hk hj,h]
def Ho (w:World) (Q NL v:Nat) (r:Ending) (w':World):Prop:=
 Fr (fun k=>k=Q∨k=NL) w w'∧((v=2∧r= .returned (.tuple #[])∧w'.cell? ⟨NL,0,none⟩=some (.bool true))∨(v=1∧r= .returned (.tuple #[])∧w'.cell? ⟨NL,0,none⟩=some (.bool false))∨(v=0∧r= .panicked [{v:=dW,recovered:=false}]))
theorem XT (w:World) (lo Q NL OB LB:Nat) (lv:Value) (n:Nat) (kf:Nat→T) (B:Nat→Nat) (hQ:jK w lo Q 0 lv n kf B 0 (aT n)) (hN:w.cell? ⟨NL,0,none⟩=some (.bool true)) (hNz:w.frozen? ⟨NL,0,none⟩=false) (o:Int) (hO:w.cell? ⟨OB,0,none⟩=some (.int .i64 o)) (a:Option Addr) (cap:Nat) (ad:Nat→Option Addr) (cp:Nat→Nat) (L:Nat→List T) (hL:w.cell? ⟨LB,0,none⟩=some (.slice a n cap)) (h:eJ w a n cap ad (lN L) cp (fN L)) (ho:1≤o∧o≤3) (hl:aU n (lN L) (fN L)=true) (hk:∀i,i<n→kf i=dH o (L i)) (n1:NL≠Q) (n2:∀j,j<aT n→B j≠NL) (n3:∀g,lv.ownBlock=some g→g≠NL) (n4:OB≠Q∧OB≠NL) (n5:LB≠Q∧LB≠NL) (n6:n≠0→∀b off,a=some ⟨b,off,none⟩→b≠Q∧b≠NL) (n7:∀i,i<n→(L i).length≠0→∀b off,ad i=some ⟨b,off,none⟩→b≠Q∧b≠NL):Calls Tryz.prog 53 #[.pointer (some ⟨Q,0,none⟩),.pointer (some ⟨NL,0,none⟩),.pointer (some ⟨OB,0,none⟩),.pointer (some ⟨LB,0,none⟩)] w (Ho w Q NL (wH (yP o n L) (aT n))):=by
 obtain⟨v,hv⟩:∃v,wH (yP o n L) (aT n)=v:=⟨_,rfl⟩
 rw[hv];have HV:=aA hv
 have HQ0:=aA hQ;have HK:=aA hk
 have HL:=aA hl;have HN2:=aA n2
 have HN3:=aA n3;have keep:∀u:World,Fr (fun k=>k=Q∨k=NL) w u→u.cell? ⟨OB,0,none⟩=some (.int .i64 o)∧u.cell? ⟨LB,0,none⟩=some (.slice a n cap)∧eJ u a n cap ad (lN L) cp (fN L):=fun u hf=>by
  refine⟨(hf.cell (cE w _ hO) (fun q=>by rcases q with q|q;exact n4.1 q;exact n4.2 q)).trans hO,(hf.cell (cE w _ hL) (fun q=>by rcases q with q|q;exact n5.1 q;exact n5.2 q)).trans hL,h.1,h.2.1,?_,fun i hi=>?_⟩
  ·rcases h.2.2.1 with h0|⟨b,off,e,hlt,hc⟩
   ·exact .inl h0
   ·by_cases hn0:n=0
    ·exact .inl hn0
    ·exact .inr ⟨b,off,e,iZ hlt hf.size,fun i hi=>(hf.cell hlt (fun q=>by have:=n6 hn0 b off e;rcases q with q|q;exact this.1 q;exact this.2 q)).trans (hc i hi)⟩
  ·refine hf.rd (h.2.2.2 i hi) ?_;by_cases h0:(L i).length=0
   ·exact .inl h0
   ·exact .inr fun b off e q=>by have:=n7 i hi h0 b off e;rcases q with q|q;exact this.1 q;exact this.2 q
 have KEEP:=aA keep;have hNlt:NL<w.heap.size:=cE w _ hN
 have HN:=aA hN;have HNZ:=aA hNz
 clear hQ hk hl n2 n3 keep hv h hN hNz hO hL;have pop:∀(u:World) (j:Nat),j≤aT n→jK u lo Q 0 lv n kf B j (aT n)→Calls Tryz.prog 54 #[.pointer (some ⟨Q,0,none⟩)] u fun r u'=>∃p,r= .returned (.pointer p)∧Fr (fun k=>k=Q) u u'∧((j<aT n∧p=some ⟨B j,0,none⟩∧jK u' lo Q 0 lv n kf B (j+1) (aT n)∧gO u' (B j) (mF kf j) (qF B (j+1) (aT n)))∨(j=aT n∧p=none∧jK u' lo Q 0 lv n kf B j (aT n))):=fun u j hj hq=>by
  by_cases hlt:j<aT n
  ·refine(He u lo Q 0 lv n kf B j (aT n) hq hlt).mono ?_;rintro r u' ⟨rfl,h1,h2,h3⟩;exact⟨_,rfl,h3,.inl ⟨hlt,rfl,h1,h2⟩⟩
  ·refine(BM u lo Q 0 lv n kf B j (aT n) hq hlt).mono ?_;rintro r u' ⟨rfl,rfl⟩;exact⟨_,rfl,Fr.refl _ _,.inr ⟨by omega,rfl,hq⟩⟩
 have POP:=aA pop;clear pop;go_enter Tryz.func53,Tryz.ntmps53;go_wp2_with fail;refine(POP.out w 0 (gY _) HQ0.out).mono ?_;rintro r w1 ⟨p1,rfl,f1,hh1⟩;have HF1:Hid (Fr (fun k=>k=Q∨k=NL) w w1):=f1.mono (fun k _ q=>.inl q)
 have HNw1:Hid (w1.cell? ⟨NL,0,none⟩=some (.bool true)):=(f1.cell hNlt n1).trans HN.out;have HZ1:Hid (w1.frozen? ⟨NL,0,none⟩=false):=(f1.frozen hNlt n1).trans HNZ.out
 have HH1:=aA hh1;clear f1 hh1;go_wp2
 go_loopg [4] (aT n) (fun gk pv wr=>∃(j:Nat) (p:Option Addr) (c:Bool),j+gk=aT n∧pv= .pointer p∧Fr (fun k=>k=Q∨k=NL) w wr∧wr.cell? ⟨NL,0,none⟩=some (.bool c)∧wr.frozen? ⟨NL,0,none⟩=false∧wH (yP o n L) j=(if c=true then 2 else 1)∧((j<aT n∧p=some ⟨B j,0,none⟩∧jK wr lo Q 0 lv n kf B (j+1) (aT n)∧gO wr (B j) (mF kf j) (qF B (j+1) (aT n)))∨(j=aT n∧p=none∧jK wr lo Q 0 lv n kf B j (aT n))))
 case atStart=>exact⟨0,p1,true,by omega,rfl,HF1.out,HNw1.out,HZ1.out,rfl,HH1.out⟩
 case round=>
  obtain⟨j,p,c,hg,rfl,hF,hNc,hZc,hsc,hcase⟩:=hrel;have HF:=aA hF
  have HSC:=aA hsc;clear hsc;cases c
  ·have hv1:v=1:=by have h1:wH (yP o n L) j=1:=HSC.out;rw[←HV.out,yV (by rw[h1];omega) (aT n) (by omega),h1]
   have HNC:=aA hNc;rcases hcase with⟨hlt,rfl,hq,hp⟩|⟨rfl,rfl,hq⟩
   ·clear hq hp hF;go_wp2
    go_end0
    exact⟨HF.out,.inr (.inl ⟨(by first|exact hv1|rfl),rfl,HNC.out⟩)⟩
   ·clear hq hF;go_wp2
    go_end0
    exact⟨HF.out,.inr (.inl ⟨(by first|exact hv1|rfl),rfl,HNC.out⟩)⟩
  ·rcases hcase with⟨hlt,rfl,hq,hp⟩|⟨rfl,rfl,hq⟩
   ·obtain⟨hO,hL,hR⟩:=KEEP.out wr hF;obtain⟨h1,h2⟩:=yO hlt;obtain⟨R,hRR⟩:∃R,uH o n L (mF kf j)=R:=⟨_,rfl⟩
    have HC:=aA (xN wr (B j) (mF kf j) _ hp o a n cap ad cp L hR (show(pq j).1<n by omega) (show(pq j).2<n from h2) hRR);have HRR:=aA hRR
    have HQ:=aA hq;have HNC:=aA hNc
    have HZC:=aA hZc;clear hq hp hR hRR hF hZc;go_wp2_with fail;refine HC.out.mono ?_;rintro r w3 ⟨b3,hh⟩;have HB3:=aA b3
    rcases hh with⟨S,qa,qc,ad3,cp3,Rb,B3,la,lc,mid,lo3,rfl,rfl,_⟩|⟨rfl,rfl⟩
    ·have hpk:=SS ho HL.out HK.out hlt HRR.out;have hN3:w3.cell? ⟨NL,0,none⟩=some (.bool true):=(b3.cell (p:=⟨NL,0,none⟩) (cE wr _ hNc)).trans hNc
     have hZ3:w3.frozen? ⟨NL,0,none⟩=false:=(b3.frozen (p:=⟨NL,0,none⟩) (cE wr _ hNc)).trans HZC.out;obtain⟨c,hc⟩:∃c:Bool,((S.r.length:Int)==0)=c:=⟨_,rfl⟩
     have hsc2:wH (yP o n L) (j+1)=if c=true then 2 else 1:=by
      show(if wH (yP o n L) j=2 then yP o n L j else wH (yP o n L) j)=_;rw[if_pos (by rw[HSC.out];rfl),hpk,←hc];by_cases e0:S.r.length=0
      ·rw[if_pos e0,if_pos (by simp[e0])]
      ·rw[if_neg e0,if_neg (by simp[e0])]
     have HSC2:=aA hsc2;have hf3:Fr (fun k=>k=Q∨k=NL) w (w3.setCell ⟨NL,0,none⟩ (.bool c)):=(HF.out.next b3).set (fun _=>.inr rfl)
     have fN:Fr (fun k=>k=NL) w3 (w3.setCell ⟨NL,0,none⟩ (.bool c)):=(Fr.refl _ w3).set (fun _=>rfl);have hq3:jK (w3.setCell ⟨NL,0,none⟩ (.bool c)) lo Q 0 lv n kf B (j+1) (aT n):=(HQ.out.below b3).fr fN (fun q=>n1 q.symm) (fun g hg q=>HN3.out g hg q) (fun i i1 i2 q=>HN2.out i i2 q)
     have cN:(w3.setCell ⟨NL,0,none⟩ (.bool c)).cell? ⟨NL,0,none⟩=some (.bool c):=gN hN3;have zN:(w3.setCell ⟨NL,0,none⟩ (.bool c)).frozen? ⟨NL,0,none⟩=false:=by rw[World.frozen?_setCell];exact hZ3
     have hNl3:NL<w3.heap.size:=cE w3 _ hN3;have HF3:=aA hf3
     have HQ3:=aA hq3;have HCN:=aA cN
     have HZN:=aA zN;clear hpk hsc2 hf3 fN hq3 cN zN b3 hO hL hNc;go_wp2_with fail;refine(POP.out _ (j+1) (by omega) HQ3.out).mono ?_;rintro r w4 ⟨p4,rfl,f4,hh4⟩;have HF4:=aA (HF3.out.step f4 (fun i _ q=>.inl q))
     have HC4:Hid (w4.cell? ⟨NL,0,none⟩=some (.bool c)):=(f4.cell (by simpa using hNl3) n1).trans HCN.out;have HZ4:Hid (w4.frozen? ⟨NL,0,none⟩=false):=(f4.frozen (by simpa using hNl3) n1).trans HZN.out
     have HH4:=aA hh4;clear f4 hh4 hN3 hZ3 hc;go_wp2
     go_roundg (gk-1)
     case measure=>omega
     case rel=>exact⟨j+1,p4,c,by omega,rfl,HF4.out,HC4.out,HZ4.out,HSC2.out,HH4.out⟩
    ·have h0:wH (yP o n L) (j+1)=0:=by show(if wH (yP o n L) j=2 then yP o n L j else wH (yP o n L) j)=_;rw[if_pos (by rw[HSC.out];rfl),SR ho HL.out HK.out hlt HRR.out]
     have hv0:v=0:=by rw[←HV.out,yV (by rw[h0];omega) (aT n) (by omega),h0]
     exact⟨rfl,HF.out.next HB3.out,.inr (.inr ⟨hv0,rfl⟩)⟩
   ·have hv2:v=2:=by rw[←HV.out,HSC.out];rfl
    have HNC:=aA hNc;clear hq hF;go_wp2
    go_end0
    exact⟨HF.out,.inl ⟨(by first|exact hv2|rfl),rfl,HNC.out⟩⟩
theorem Bj (w:World) (v:Value) (y:TypeId):(w.alloc (.cells #[v] y)).cell? ⟨w.heap.size,0,none⟩=some v:=by rw[World.cell?_alloc_at _ _ _ _ rfl];rfl
theorem JJ (w:World) (o:Int) (a:Option Addr) (n cap:Nat) (ad:Nat→Option Addr) (cp:Nat→Nat) (L:Nat→List T) (h:eJ w a n cap ad (lN L) cp (fN L)):Calls Tryz.prog 19 #[.int .i64 o,.slice a n cap] w (LE w (.bool (lK o n L))):=by
 have q1:(n:Int)≤140737488351232:=by have:=h.2.1;omega
 have hb0:=aQ w (.cells #[.int .i64 o] 3) (.cells #[.slice a n cap] 23);have HH:=aA (h.below hb0)
 have HB0:=aA hb0;have hcO:((w.alloc (.cells #[.int .i64 o] 3)).alloc (.cells #[.slice a n cap] 23)).cell? ⟨w.heap.size,0,none⟩=some (.int .i64 o):=((aC _ _).cell (p:=⟨w.heap.size,0,none⟩) (by simp)).trans (Bj w _ _)
 have hcL:((w.alloc (.cells #[.int .i64 o] 3)).alloc (.cells #[.slice a n cap] 23)).cell? ⟨w.heap.size+1,0,none⟩=some (.slice a n cap):=by
  have:=Bj (w.alloc (.cells #[.int .i64 o] 3)) (.slice a n cap) 23
  rwa[World.size_alloc]at this
 have hlist:∀b off,a=some ⟨b,off,none⟩→n≠0→b<w.heap.size:=fun b off e h0=>by
  rcases h.2.2.1 with q|⟨b',off',e',hlt,_⟩
  ·exact absurd q h0
  ·rw[e]at e';cases e';exact hlt
 have hels:∀i,i<n→(L i).length≠0→∀b off,ad i=some ⟨b,off,none⟩→b<w.heap.size:=fun i hi h0 b off e=>by
  rcases(h.2.2.2 i hi).2.2 with q|⟨b',off',e',hlt,_⟩
  ·exact absurd q h0
  ·rw[e]at e';cases e';exact hlt
 have HLI:=aA hlist;have HEL:=aA hels
 clear h hlist hels;unfold LE;by_cases ho:1≤o∧o≤3
 ·cases hl:aU n (lN L) (fN L)
  ·have e0:lK o n L=false:=decide_eq_false (fun hh=>by rw[hl]at hh;exact absurd hh.2.1 (by simp));rw[e0];have HC:=aA (oH _ o a n cap ad (lN L) cp (fN L) HH.out ho.1 ho.2 hl)
   clear e0;go_enter Tryz.func19,Tryz.ntmps19;go_wp2_with fail;refine HC.out.mono ?_;rintro r w1 ⟨rfl,b1⟩;have HB1:=aA (aB HB0.out b1)
   clear b1;go_wp2;go_ret;exact⟨rfl,HB1.out⟩
  ·have n12:=(aR hl).1;have hn12:(n:Int)≤12:=by omega
   have HC:=aA (nC _ o a n cap ad (lN L) cp (fN L) HH.out ho.1 ho.2 hl);have HL:=aA hl
   rw[PB ho hl];obtain⟨v,hv⟩:∃v,wH (yP o n L) (aT n)=v:=⟨_,rfl⟩
   rw[hv];have HV:=aA hv
   clear hl hv;go_enter Tryz.func19,Tryz.ntmps19;go_wp2_with fail;refine HC.out.mono ?_;rintro r w1 ⟨lv0,rfl,b1,hown⟩;have hlen:=lP o (lN L) (fN L) n
   obtain⟨la,lc,rfl,hout⟩:=aI hown (by rw[hlen];omega);rw[hlen];have hB1:=aB HB0.out b1
   have HB1:=aA hB1;have HH1:=aA (HH.out.below b1)
   have cO:w1.cell? ⟨w.heap.size,0,none⟩=some (.int .i64 o):=(b1.cell (p:=⟨w.heap.size,0,none⟩) (cE _ _ hcO)).trans hcO;have cL:w1.cell? ⟨w.heap.size+1,0,none⟩=some (.slice a n cap):=(b1.cell (p:=⟨w.heap.size+1,0,none⟩) (cE _ _ hcL)).trans hcL
   have hs1:w.heap.size+2≤w1.heap.size:=by have:=b1.size;simp at this;omega
   have HRD:=aA hout.1;have hrb:∀b off,la=some ⟨b,off,none⟩→n≠0→b<w1.heap.size:=fun b off e h0=>by
    rcases hout.1.2.2 with q|⟨b',off',e',hlt,_⟩
    ·rw[hlen]at q;exact absurd q h0
    ·rw[e]at e';cases e';exact hlt
   have HRB:=aA hrb;have HCO:=aA cO
   have HCL:=aA cL;have HQ0:Hid (jK (w1.alloc (.cells #[.slice none 0 0,.pointer none,.pointer none] 69)) w1.heap.size w1.heap.size 0 (.slice none 0 0) 0 (fun i=>dH o (L i)) (fun _=>0) 0 0):=⟨by rw[World.cell?_alloc_at _ _ _ _ rfl];rfl,by rw[World.cell?_alloc_at _ _ _ _ rfl];rfl,⟨_,by rw[World.cell?_alloc_at _ _ _ _ rfl];rfl,fun q=>by omega⟩,⟨by simp[go_sem],by simp[go_sem],by simp[go_sem]⟩,BK _ _,fun g hg=>by simp[Value.ownBlock]at hg,fun j _ hj=>by omega,fun j _ hj=>by omega,fun i j _ _ hj=>by omega,Nat.le_refl _⟩
   have HBQ:=aA (aC w1 (.cells #[.slice none 0 0,.pointer none,.pointer none] 69));clear hown hout b1 hB1 hcO hcL cO cL hrb HC HH;go_wp2;generalize hwq:w1.alloc (.cells #[.slice none 0 0,.pointer none,.pointer none] 69)=wq at *;go_loopw [22] (fun vi wr=>∃(i:Nat) (lv:Value) (B:Nat→Nat),i≤n∧vi= .int .i64 (i:Int)∧jK wr w1.heap.size w1.heap.size 0 lv i (fun i=>dH o (L i)) B 0 (aT i)∧Below w1.heap.size w1 wr∧(∀g,lv.ownBlock=some g→w1.heap.size<g)∧(∀j,j<aT i→w1.heap.size<B j)) (fun vi _=>n-(intOf vi).toNat);case atStart=>exact⟨0,_,_,gY _,rfl,HQ0.out,HBQ.out,fun g hg=>by simp[Value.ownBlock]at hg,fun j hj=>absurd hj (NX _)⟩
   case round=>
    obtain⟨i,lv,B,hi,rfl,hQ,hB,hg,hBj⟩:=hrel;have HB:=aA hB
    have HG:=aA hg;have HBJ:=aA hBj
    have HQ:=aA hQ;by_cases hlt:i<n
    ·have hil:(i:Int)<(n:Int):=by omega
     rcases HRD.out.2.2 with h0|⟨bb,off,rfl,hblt,hcl⟩
     ·rw[hlen]at h0;omega
     obtain⟨g0,g1,g2,g3,g4⟩:=hcl i (by rw[hlen];exact hlt);rw[wO o (lN L) (fN L) n i hlt]at g0 g1 g2 g3 g4;obtain⟨t,ht⟩:∃t,dH o (L i)=t:=⟨_,rfl⟩
     have ht':lO o (lN L) (fN L) i=t:=ht;rw[ht']at g0 g1 g2 g3 g4;have k0:wr.cell? ⟨bb,off+i*5,none⟩=some (.int .i64 t.c):=(hB.cell (p:=⟨bb,off+i*5,none⟩) hblt).trans g0
     have k1:wr.cell? ⟨bb,off+i*5+1,none⟩=some (.int .i64 t.m.x):=(hB.cell (p:=⟨bb,off+i*5+1,none⟩) hblt).trans g1;have k2:wr.cell? ⟨bb,off+i*5+2,none⟩=some (.int .i64 t.m.y):=(hB.cell (p:=⟨bb,off+i*5+2,none⟩) hblt).trans g2
     have k3:wr.cell? ⟨bb,off+i*5+3,none⟩=some (.int .i64 t.m.d):=(hB.cell (p:=⟨bb,off+i*5+3,none⟩) hblt).trans g3;have k4:wr.cell? ⟨bb,off+i*5+4,none⟩=some (.int .i64 t.m.e):=(hB.cell (p:=⟨bb,off+i*5+4,none⟩) hblt).trans g4
     have bbx:=aC wr (.cells #[.int .i64 t.c,.int .i64 t.m.x,.int .i64 t.m.y,.int .i64 t.m.d,.int .i64 t.m.e] 54);have hsr:w1.heap.size≤wr.heap.size:=hB.size
     have HCM:=aA (Ej _ w1.heap.size w1.heap.size 0 lv i (fun i=>dH o (L i)) B 0 (hQ.below bbx) (gY _) (by omega) (by simp;omega) t ht);have HBX:=aA (hB.trans (bbx.mono hsr))
     have hlw:lv.ownBlock=none∨True:=.inr trivial;clear hcl g0 g1 g2 g3 g4 ht ht' hQ hB hg hBj bbx hlw;go_wp2_with fail;refine HCM.out.mono ?_;rintro r w3 ⟨rfl,lv',B',hQ3,e1,e2,e3,f3⟩;have HQ3:=aA hQ3
     have HB3:Hid (Below w1.heap.size w1 w3):=f3.below HBX.out (fun k q=>by
      rcases q with q|q|⟨q1,q2⟩
      ·omega
      ·have:=HG.out k q;omega
      ·have:=HBJ.out (aT i-1) (by omega);omega) (Nat.le_refl _)
     have HG3:Hid (∀g,lv'.ownBlock=some g→w1.heap.size<g):=fun g hg=>by
      rcases e3 g hg with q|q
      ·exact HG.out g q
      ·simp at q;omega
     have HBJ3:Hid (∀j,j<aT (i+1)→w1.heap.size<B' j):=fun j hj=>by
      rcases Nat.lt_or_ge j (aT i)with q|q
      ·rw[e1 j q];exact HBJ.out j q
      ·have:=e2 j q hj;simp at this;omega
     clear hQ3 e1 e2 e3 f3 k0 k1 k2 k3 k4;go_wp2;go_roundw;case rel=>exact⟨i+1,lv',B',by omega,by go_num,HQ3.out,HB3.out,HG3.out,HBJ3.out⟩
     case measure=>simp[intOf];omega
    ·have hie:i=n:=by omega
     subst hie;have hnl:¬(i:Int)<(i:Int):=by omega
     have hsr:w1.heap.size≤wr.heap.size:=hB.size;have bN:=aC wr (.cells #[.bool true] 4)
     have hcN:=Bj wr (.bool true) 4;have hBN:=hB.trans (bN.mono hsr)
     have HCL1:=aA (XT (wr.alloc (.cells #[.bool true] 4)) w1.heap.size w1.heap.size wr.heap.size w.heap.size (w.heap.size+1) lv i (fun i=>dH o (L i)) B (hQ.below bN) hcN (by simp[go_sem]) o ((hBN.cell (p:=⟨w.heap.size,0,none⟩) (by show w.heap.size<w1.heap.size;omega)).trans HCO.out) a cap ad cp L ((hBN.cell (p:=⟨w.heap.size+1,0,none⟩) (by show w.heap.size+1<w1.heap.size;omega)).trans HCL.out) (HH1.out.below hBN) ho HL.out (fun _ _=>rfl) (by have:=hQ.lt;omega) (fun j hj=>by have:=(hQ.pr j (gY _) hj).lt;omega) (fun g hg=>by have:=(hQ.own.lt g hg).2;omega) ⟨by omega,by omega⟩ ⟨by omega,by omega⟩ (fun h0 b off e=>by have:=HLI.out b off e h0;omega) (fun j hj h0 b off e=>by have:=HEL.out j hj h0 b off e;omega));have hv3:v=2∨v=1∨v=0:=by
      have:=VU o i L (aT i);have:=HV.out
      omega
     have HBN:=aA hBN;have HcN:=aA hcN
     have hfb:∀u,Fr (fun k=>k=w1.heap.size∨k=wr.heap.size) (wr.alloc (.cells #[.bool true] 4)) u→Below w.heap.size w u:=fun u hf=>HB1.out.trans ((hf.below hBN (fun k q=>by omega) (Nat.le_refl _)).mono (by omega));have HFB:=aA hfb
     rw[HV.out]at HCL1;clear hQ hB hg hBj bN hcN hBN hfb;rcases hv3 with rfl|rfl|rfl
     ·have HE:=aA (mG 53 #[.pointer (some ⟨w1.heap.size,0,none⟩),.pointer (some ⟨wr.heap.size,0,none⟩),.pointer (some ⟨w.heap.size,0,none⟩),.pointer (some ⟨w.heap.size+1,0,none⟩)] (wr.alloc (.cells #[.bool true] 4)) (fun u=>Below w.heap.size w u∧u.cell? ⟨wr.heap.size,0,none⟩=some (.bool true)) (enters_of Tryz.func53 (by kernel_rfl) rfl) (HCL1.out.mono fun r u hh=>by
       rcases hh with⟨hf,⟨_,hr,hc⟩|⟨q,_⟩|⟨q,_⟩⟩
       ·exact⟨hr,HFB.out u hf,hc⟩
       ·omega
       ·omega))
      clear HCL1;go_wp2_with fail;refine HE.out.mono ?_;rintro r w5 ⟨rfl,w4,⟨b4,c4⟩,rfl⟩;have c5:(w4.alloc (.cells #[] 114)).cell? ⟨wr.heap.size,0,none⟩=some (.bool true):=((aC w4 _).cell (p:=⟨wr.heap.size,0,none⟩) (cE w4 _ c4)).trans c4
      have HB5:=aA (aB b4 (aC w4 (.cells #[] 114)));clear b4 c4;go_wp2;go_ret;exact⟨rfl,HB5.out⟩
     ·have HE:=aA (mG 53 #[.pointer (some ⟨w1.heap.size,0,none⟩),.pointer (some ⟨wr.heap.size,0,none⟩),.pointer (some ⟨w.heap.size,0,none⟩),.pointer (some ⟨w.heap.size+1,0,none⟩)] (wr.alloc (.cells #[.bool true] 4)) (fun u=>Below w.heap.size w u∧u.cell? ⟨wr.heap.size,0,none⟩=some (.bool false)) (enters_of Tryz.func53 (by kernel_rfl) rfl) (HCL1.out.mono fun r u hh=>by
       rcases hh with⟨hf,⟨q,_⟩|⟨_,hr,hc⟩|⟨q,_⟩⟩
       ·omega
       ·exact⟨hr,HFB.out u hf,hc⟩
       ·omega))
      clear HCL1;go_wp2_with fail;refine HE.out.mono ?_;rintro r w5 ⟨rfl,w4,⟨b4,c4⟩,rfl⟩;have c5:(w4.alloc (.cells #[] 114)).cell? ⟨wr.heap.size,0,none⟩=some (.bool false):=((aC w4 _).cell (p:=⟨wr.heap.size,0,none⟩) (cE w4 _ c4)).trans c4
      have HB5:=aA (aB b4 (aC w4 (.cells #[] 114)));clear b4 c4;go_wp2;go_ret;exact⟨rfl,HB5.out⟩
     ·have HE:=aA (rQ 53 #[.pointer (some ⟨w1.heap.size,0,none⟩),.pointer (some ⟨wr.heap.size,0,none⟩),.pointer (some ⟨w.heap.size,0,none⟩),.pointer (some ⟨w.heap.size+1,0,none⟩)] (wr.alloc (.cells #[.bool true] 4)) (fun u=>Below w.heap.size w u) (enters_of Tryz.func53 (by kernel_rfl) rfl) (HCL1.out.mono fun r u hh=>by
       rcases hh with⟨hf,⟨q,_⟩|⟨q,_⟩|⟨_,hr⟩⟩
       ·omega
       ·omega
       ·exact⟨hr,HFB.out u hf⟩))
      clear HCL1;go_wp2_with fail;refine HE.out.mono ?_;rintro r w5 ⟨rfl,w4,b4,rfl⟩;have HB5:=aA (aB b4 (aC w4 (.cells #[] 114)))
      clear b4;go_wp2;go_ret;exact⟨rfl,HB5.out⟩
 ·have e0:lK o n L=false:=decide_eq_false (fun hh=>ho hh.1);rw[e0];have HC:=aA (mQ ((w.alloc (.cells #[.int .i64 o] 3)).alloc (.cells #[.slice a n cap] 23)) o a n cap (by omega))
  clear e0;go_enter Tryz.func19,Tryz.ntmps19;go_wp2_with fail;refine HC.out.mono ?_;rintro r w1 ⟨rfl,b1⟩;have HB1:=aA (aB HB0.out b1)
  clear b1;go_wp2;go_ret;exact⟨rfl,HB1.out⟩
end Go.Proofs.YtmlaedpamobmhaaGreat
