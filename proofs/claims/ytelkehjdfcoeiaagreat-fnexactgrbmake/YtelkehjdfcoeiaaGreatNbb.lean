/-
  An answer that is a list of operators: its memory is its own; it is marked, and the marks are held.
-/
import Derived.Test.YtelkehjdfcoeiaaGreatNba
set_option maxHeartbeats 8000000
set_option maxRecDepth 100000
namespace Go.Proofs.YtelkehjdfcoeiaaGreat
open Go.RowKit Go.Deep Go.Joins
set_option linter.unusedVariables false
structure dV (lo:Nat) (w:World) (a:Option Addr) (n cap:Nat) (ad:Nat→Option Addr) (ln cp:Nat→Nat) (f:Nat→Nat→T) (R:Nat) (B:Nat→Nat):Prop where
 rd:eH w a n cap ad ln cp f
 row:n=0∨∃off,a=some ⟨R,off,none⟩∧lo≤R
 wr:∀i,i<n→Wr w (ad i) (ln i) (f i)
 el:∀i,i<n→ln i=0∨∃off,ad i=some ⟨B i,off,none⟩∧lo≤B i∧B i≠R
 ap:∀i j,i<j→j<n→ln i≠0→ln j≠0→B i≠B j
structure fV (P:Nat→Prop) (w w':World):Prop where
 os:w'.os=w.os
 tape:w'.tape=w.tape
 output:w'.output=w.output
 size:w'.heap.size=w.heap.size
 block:∀k,k<w.heap.size→¬P k→w'.heap[k]? =w.heap[k]?
theorem fV.refl (P:Nat→Prop) (w:World):fV P w w:=⟨rfl,rfl,rfl,rfl,fun _ _ _=>rfl⟩
theorem fV.grown {P:Nat→Prop} {w w' w'':World} {g:Nat} (h:fV P w w') (hg:w'.grownBy w'' (some g)) (hs:w''.heap.size=w'.heap.size) (h1:P g):fV P w w'':=
 ⟨hg.os.trans h.os,hg.tape.trans h.tape,hg.output.trans h.output,hs.trans h.size,fun k hk hc=>(hg.block k (by rw[h.size];exact hk) (fun e=>by cases e;exact hc h1)).trans (h.block k hk hc)⟩
theorem fV.cell {P:Nat→Prop} {w w':World} (h:fV P w w') {b o:Nat} (hb:b<w.heap.size) (hp:¬P b):w'.cell? ⟨b,o,none⟩=w.cell? ⟨b,o,none⟩:=
 nC (w:=w) (a:=⟨b,o,none⟩) (h.block b hb hp)
theorem fV.rd {P:Nat→Prop} {w w':World} (h:fV P w w') {a:Option Addr} {n cap:Nat} {f:Nat→T} (hr:Rd w a n cap f) (hp:n=0∨∀b off,a=some ⟨b,off,none⟩→¬P b):Rd w' a n cap f:=by
 obtain⟨h1,h2,h3⟩:=hr;refine⟨h1,h2,?_⟩;rcases h3 with h0|⟨b,off,he,hlt,hc⟩
 ·exact .inl h0
 ·rcases hp with h0|hp
  ·exact .inl h0
  ·refine .inr ⟨b,off,he,by rw[h.size];exact hlt,fun i hi=>?_⟩;have hn:=hp b off he
   obtain⟨c0,c1,c2,c3,c4⟩:=hc i hi;exact⟨(h.cell hlt hn).trans c0,(h.cell hlt hn).trans c1,(h.cell hlt hn).trans c2,(h.cell hlt hn).trans c3,(h.cell hlt hn).trans c4⟩
theorem fV.wr {P:Nat→Prop} {w w':World} (h:fV P w w') {a:Option Addr} {n:Nat} {f:Nat→T} (hr:Wr w a n f) (hp:n=0∨∀b off,a=some ⟨b,off,none⟩→¬P b):Wr w' a n f:=by
 rcases hr with h0|⟨g,off,N,F,he,hrow,hle,hF⟩
 ·exact .inl h0
 ·rcases hp with h0|hp
  ·exact .inl h0
  ·exact .inr ⟨g,off,N,F,he,hrow.of_block (h.block g hrow.lt (hp g off he)),hle,hF⟩
theorem fV.below {P:Nat→Prop} {lo:Nat} {u w w':World} (hb:Below lo u w) (h:fV P w w') (hp:∀k,P k→lo≤k) (hlo:lo≤u.heap.size):Below lo u w':=
 ⟨h.os.trans hb.os,h.tape.trans hb.tape,h.output.trans hb.output,by rw[h.size];exact hb.size,fun k hk=>(h.block k (iZ hk (gW hlo hb.size)) (fun e=>by have:=hp k e;omega)).trans (hb.block k hk)⟩
def dK (k:Int) (ln:Nat→Nat):Nat→Int
 |0=>k
 |i+1=>dK k ln i+5*(ln i)
theorem kZ {k:Int} {ln:Nat→Nat} {n:Nat} (hl:∀i,i<n→ln i≤1048576):∀i,i≤n→k≤dK k ln i∧dK k ln i≤k+5242880*i
 |0,_=>⟨Int.le_refl _,by show k≤k+5242880*((0:Nat):Int);omega⟩
 |i+1,h=>by
  have h1:=kZ (k:=k) hl i (by omega);have h2:=hl i (by omega)
  show k≤dK k ln i+5*(ln i)∧dK k ln i+5*(ln i)≤k+5242880*((i+1:Nat):Int);omega
theorem vR (lo:Nat) (w:World) (a:Option Addr) (n cap:Nat) (ad:Nat→Option Addr) (ln cp:Nat→Nat) (f:Nat→Nat→T) (R:Nat) (B:Nat→Nat) (k:Int) (h:dV lo w a n cap ad ln cp f R B) (hn:n≤1048576) (hl:∀i,i<n→ln i≤1048576) (hk0:0≤k) (hk1:k≤10000000000000):Calls Tryz.prog 13 #[.slice a n cap,.int .i64 k] w fun r w'=>r= .returned (.int .i64 (dK k ln n))∧fV (fun b=>∃i,i<n∧ln i≠0∧B i=b) w w'∧eH w' a n cap ad ln cp (fun i=>mk (dK k ln i)):=by
 have hn':(n:Int)≤1048576:=by omega
 have HH:=aA h;have HL:=aA hl
 have HK:=aA (kZ (k:=k) hl);clear h hl;go_enter Tryz.func13,Tryz.ntmps13;go_wp2;go_loopw [1,5] (fun kk ii wr=>∃i:Nat,i≤n∧ii= .int .i64 (i:Int)∧kk= .int .i64 (dK k ln i)∧fV (fun b=>∃i,i<n∧ln i≠0∧B i=b) w wr∧(∀j,i≤j→j<n→Wr wr (ad j) (ln j) (f j))∧(∀j,j<i→Rd wr (ad j) (ln j) (cp j) (mk (dK k ln j)))) (fun _ ii _=>n-(intOf ii).toNat);case atStart=>exact⟨0,Nat.zero_le _,rfl,rfl,fV.refl _ _,fun j _ hj=>HH.out.wr j hj,fun j hj=>by omega⟩
 case round=>
  obtain⟨i,hi,rfl,rfl,hA,hW,hM⟩:=hrel;have HA:=aA hA
  have HW:=aA hW;have HM:=aA hM
  clear hW hM;obtain⟨z0,z1⟩:=HK.out i hi;by_cases hlt:i<n
  ·have hil:(i:Int)<(n:Int):=by omega
   rcases HH.out.rd.2.2.1 with h0|⟨b,off,rfl,hblt,hcl⟩
   ·omega
   have hbR:b=R:=by
    rcases HH.out.row with h0|⟨off',e,_⟩
    ·omega
    ·simpa using congrArg (fun x:Option Addr=>x.map (·.block)) e
   have hnp:¬(fun b=>∃i,i<n∧ln i≠0∧B i=b) b:=fun⟨j,hj,h0,e⟩=>by
    rcases HH.out.el j hj with h1|⟨_,_,_,h2⟩
    ·exact h0 h1
    ·exact h2 (e.trans hbR)
   have g0:wr.cell? ⟨b,off+i,none⟩=some (.slice (ad i) (ln i) (cp i)):=(hA.cell hblt hnp).trans (hcl i hlt);have hli:=HL.out i hlt
   obtain⟨y,hy⟩:∃y,dK k ln i=y:=⟨_,rfl⟩
   rw[hy]at z0 z1;have hr0:=HH.out.rd.2.2.2 i hlt
   have HMK:=aA (yK wr (ad i) (ln i) (cp i) (f i) y (HW.out i (Nat.le_refl _) hlt) (by omega) (by omega) (by omega));have hks:dK k ln (i+1)=y+5*(ln i):=by show dK k ln i+5*(ln i)=_;rw[hy]
   have HKS:=aA hks;have HR0:=aA (And.intro hr0.1 hr0.2.1)
   have HY:=aA hy;clear hcl hA hr0 hks hy hbR hnp;rw[HY.out];go_wp2_with fail;refine HMK.out.mono ?_;rintro r w1 ⟨rfl,hg,hz,hw,hsame⟩;have HA1:Hid (fV (fun b=>∃i,i<n∧ln i≠0∧B i=b) w w1):=by
    by_cases h0:ln i=0
    ·rw[hsame h0];exact HA.out
    ·rcases HH.out.el i hlt with h1|⟨o1,e1,_,_⟩
     ·exact absurd h1 h0
     ·rw[e1]at hg;exact HA.out.grown hg hz ⟨i,hlt,h0,rfl⟩
   have HW1:Hid (∀j,i+1≤j→j<n→Wr w1 (ad j) (ln j) (f j)):=fun j h1 h2=>by
    by_cases h0:ln i=0
    ·rw[hsame h0];exact HW.out j (by omega) h2
    ·have hwj:=HW.out j (by omega) h2;by_cases hj0:ln j=0
     ·exact .inl hj0
     ·rcases hwj with h3|⟨g,off2,N,F,he,hrow,hle,hF⟩
      ·exact absurd h3 hj0
      ·refine .inr ⟨g,off2,N,F,he,hrow.of_block (hg.block g hrow.lt ?_),hle,hF⟩;rcases HH.out.el i hlt with h4|⟨o1,e1,_,_⟩
       ·exact absurd h4 h0
       ·rcases HH.out.el j h2 with h5|⟨o2,e2,_,_⟩
        ·exact absurd h5 hj0
        ·rw[he]at e2;have e3:g=B j:=by simpa using congrArg (fun x:Option Addr=>x.map (·.block)) e2
         rw[e1];intro e4;have e5:g=B i:=by simpa using e4
         exact HH.out.ap i j (by omega) h2 h0 hj0 (e5.symm.trans e3)
   have HM1:Hid (∀j,j<i+1→Rd w1 (ad j) (ln j) (cp j) (mk (dK k ln j))):=fun j h1=>by
    by_cases e:j=i
    ·subst e;rw[HY.out];by_cases h0:ln j=0
     ·exact⟨HR0.out.1,HR0.out.2,.inl h0⟩
     ·exact hw.rd HR0.out.1 HR0.out.2
    ·have hr:=HM.out j (by omega);by_cases h0:ln i=0
     ·rw[hsame h0];exact hr
     ·refine hr.grown hg ?_;by_cases hj0:ln j=0
      ·exact .inl hj0
      ·refine .inr fun b' off' eb=>?_;rcases HH.out.el i hlt with h4|⟨o1,e1,_,_⟩
       ·exact absurd h4 h0
       ·rcases HH.out.el j (by omega)with h5|⟨o2,e2,_,_⟩
        ·exact absurd h5 hj0
        ·rw[eb]at e2;have e3:b'=B j:=by simpa using congrArg (fun x:Option Addr=>x.map (·.block)) e2
         rw[e1];intro e4;have e5:b'=B i:=by simpa using e4
         exact HH.out.ap j i (by omega) hlt hj0 h0 (e3.symm.trans e5)
   clear hg hz hw hsame HMK g0;go_wp2;go_roundw;case rel=>exact⟨i+1,by omega,by go_num,by rw[HKS.out],HA1.out,HW1.out,HM1.out⟩
   case measure=>simp[intOf];omega
  ·have hnl:¬(i:Int)<(n:Int):=by omega
   have hie:i=n:=by omega
   subst hie;have HRR:Hid (eH wr a i cap ad ln cp (fun i=>mk (dK k ln i))):=by
    refine⟨HH.out.rd.1,HH.out.rd.2.1,?_,fun j hj=>HM.out j hj⟩;rcases HH.out.rd.2.2.1 with h0|⟨b,off,e,hblt,hcl⟩
    ·exact .inl h0
    ·refine .inr ⟨b,off,e,by rw[HA.out.size];exact hblt,fun j hj=>(HA.out.cell hblt ?_).trans (hcl j hj)⟩;rintro⟨j',hj',h0,e'⟩;rcases HH.out.row with h1|⟨off',e2,_⟩
     ·omega
     ·rw[e]at e2;have hbR:b=R:=by simpa using congrArg (fun x:Option Addr=>x.map (·.block)) e2
      rcases HH.out.el j' hj' with h1|⟨_,_,_,h2⟩
      ·exact h0 h1
      ·exact h2 (e'.trans hbR)
   go_wp2;go_ret;exact⟨rfl,HA.out,HRR.out⟩
theorem yC (w:World) (a:Option Addr) (n cap:Nat) (ad:Nat→Option Addr) (ln cp:Nat→Nat) (k:Int) (h:eH w a n cap ad ln cp (fun i=>mk (dK k ln i))) (hn:n≤1048576) (hl:∀i,i<n→ln i≤1048576) (hk0:0≤k) (hk1:k≤10000000000000):Calls Tryz.prog 43 #[.slice a n cap,.int .i64 k] w fun r w'=>r= .returned (.int .i64 (dK k ln n))∧w'=w:=by
 have hn':(n:Int)≤1048576:=by omega
 have HH:=aA h;have HL:=aA hl
 have HK:=aA (kZ (k:=k) hl);clear h hl;go_enter Tryz.func43,Tryz.ntmps43;go_wp2;go_loopw [1,5] (fun kk ii wr=>∃i:Nat,i≤n∧ii= .int .i64 (i:Int)∧kk= .int .i64 (dK k ln i)∧wr=w) (fun _ ii _=>n-(intOf ii).toNat);case atStart=>exact⟨0,Nat.zero_le _,rfl,rfl,rfl⟩
 case round=>
  obtain⟨i,hi,rfl,rfl,rfl⟩:=hrel;obtain⟨z0,z1⟩:=HK.out i hi;by_cases hlt:i<n
  ·have hil:(i:Int)<(n:Int):=by omega
   rcases HH.out.2.2.1 with h0|⟨b,off,rfl,hblt,hcl⟩
   ·omega
   have g0:=hcl i hlt;have hli:=HL.out i hlt
   obtain⟨y,hy⟩:∃y,dK k ln i=y:=⟨_,rfl⟩
   rw[hy]at z0 z1;have hr0:=HH.out.2.2.2 i hlt
   rw[show(fun i=>mk (dK k ln i)) i=mk y by rw[←hy]]at hr0;have HMK:=aA (LH _ (ad i) (ln i) (cp i) y hr0 (by omega) (by omega))
   have hks:dK k ln (i+1)=y+5*(ln i):=by show dK k ln i+5*(ln i)=_;rw[hy]
   have HKS:=aA hks;have hng:¬(y+5*(ln i:Int))<0:=by omega
   have hng':decide ((y+5*(ln i:Int))<0)=false:=decide_eq_false hng;have HY:=aA hy
   clear hcl hr0 hks hy;rw[HY.out];go_wp2_with fail;refine HMK.out.mono ?_;rintro r w1 ⟨rfl,hw⟩;obtain rfl:=hw.symm;clear hw HMK g0;go_wp2;go_roundw;case rel=>exact⟨i+1,by omega,by go_num,by rw[HKS.out],by first|rfl|trivial⟩
   case measure=>simp[intOf];omega
  ·have hnl:¬(i:Int)<(n:Int):=by omega
   have hie:i=n:=by omega
   subst hie;go_wp2;go_ret;exact⟨rfl,rfl⟩
open Go.RowKit Go.Deep Go.Joins Go.Maps
theorem XA {w w':World} (h:Below w.heap.size w w') (row:Option Nat):w.grownBy w' row:=⟨h.os,h.tape,h.output,h.size,fun k hk _=>h.block k hk⟩
def xH (ad:Nat→Option Addr) (ln cp:Nat→Nat) (j:Nat):List Value:=(List.range j).map fun i=>.slice (ad i) (ln i) (cp i)
theorem RK {ad:Nat→Option Addr} {ln cp:Nat→Nat} {j i:Nat} (h:i<j):(xH ad ln cp j)[i]? =some (.slice (ad i) (ln i) (cp i)):=by simp[xH,h]
theorem RM {ad:Nat→Option Addr} {ln cp:Nat→Nat} {j:Nat} {a:Option Addr} {c:Nat}:xH (fun i=>if i=j then a else ad i) ln (fun i=>if i=j then c else cp i) (j+1)=xH ad ln cp j++[.slice a (ln j) c]:=by
 unfold xH;rw[List.range_succ,List.map_append];congr 1
 ·refine List.map_congr_left fun i hi=>?_;have:i<j:=by simpa using hi
  dsimp only;rw[if_neg (by omega),if_neg (by omega)]
 ·simp
structure lE (lo:Nat) (wr:World) (q:Nat→List T) (j:Nat) (tv:Value) (ad:Nat→Option Addr) (cp B:Nat→Nat):Prop where
 row:wr.ownsRow lo 41 1 tv j (xH ad (fun i=>(q i).length) cp j)
 el:∀i,i<j→Rd wr (ad i) (q i).length (cp i) (lf (q i))∧Wr wr (ad i) (q i).length (lf (q i))∧((q i).length=0∨∃off,ad i=some ⟨B i,off,none⟩∧lo≤B i∧B i<wr.heap.size∧some (B i)≠tv.ownBlock)
 ap:∀i k,i<k→k<j→(q i).length≠0→(q k).length≠0→B i<B k
 lo:lo≤wr.heap.size
theorem lE.start {lo:Nat} {wr:World} (h:lo≤wr.heap.size) (q:Nat→List T):lE lo wr q 0 (.slice none 0 0) (fun _=>none) (fun _=>0) (fun _=>0):=
 ⟨⟨rfl,.inl ⟨rfl,rfl⟩⟩,fun i hi=>by omega,fun i k _ hk=>by omega,h⟩
theorem lE.below {lo:Nat} {w w':World} {q:Nat→List T} {j:Nat} {tv:Value} {ad:Nat→Option Addr} {cp B:Nat→Nat} (h:lE lo w q j tv ad cp B) (hb:Below w.heap.size w w'):lE lo w' q j tv ad cp B where
 row:=h.row.kept (XA hb none) (by
  cases e:tv.ownBlock with
  |none=>exact .inl rfl
  |some k=>exact .inr (by simp))
 el:=fun i hi=>⟨(h.el i hi).1.below hb,(h.el i hi).2.1.below hb,(h.el i hi).2.2.imp id (fun⟨off,e1,e2,e3,e4⟩=>⟨off,e1,e2,iZ e3 hb.size,e4⟩)⟩
 ap:=h.ap
 lo:=gW h.lo hb.size
theorem lE.round {lo:Nat} {w1 w5:World} {q:Nat→List T} {j:Nat} {tv:Value} {ad:Nat→Option Addr} {cp B:Nat→Nat} {m:Nat} (h:lE lo w1 q j tv ad cp B) (hm:∀i,i<j→(q i).length≠0→B i<m) (hmr:∀k,tv.ownBlock=some k→k<m) (hlm:lo≤m) {a:Option Addr} {c:Nat} (ho:gX m w1 a c (q j)) {g0 cap0:Nat} (hgrow:(w1.alloc (.cells #[.slice a (q j).length c] 41)).grownBy w5 tv.ownBlock) (hown:w5.ownsRow lo 41 1 (.slice (some ⟨g0,0,none⟩) (j+1) cap0) (j+1) (xH ad (fun i=>(q i).length) cp j++[.slice a (q j).length c])) (hat:tv.ownBlock=some g0∨g0=w1.heap.size+1) (hlt:g0<w5.heap.size):lE lo w5 q (j+1) (.slice (some ⟨g0,0,none⟩) (j+1) cap0) (fun i=>if i=j then a else ad i) (fun i=>if i=j then c else cp i) (fun i=>if i=j then(match a with|some x=>x.block|none=>0)else B i):=by
 have hb1:=aC w1 (.cells #[.slice a (q j).length c] 41);have hs5:w1.heap.size+1≤w5.heap.size:=by have:=hgrow.size;simpa using this
 have hnew:(q j).length=0∨∃g off,a=some ⟨g,off,none⟩∧m≤g∧g<w1.heap.size:=by
  rcases ho.2.2 with h0|⟨g,off,e,hg⟩
  ·exact .inl h0
  ·by_cases hz:(q j).length=0
   ·exact .inl hz
   ·exact .inr ⟨g,off,e,hg,(ho.1.under.resolve_left hz) g off e⟩
 refine⟨?_,fun i hi=>?_,fun i k hik hk hi0 hk0=>?_,by have:=h.lo;omega⟩
 ·rw[RM (ln:=fun i=>(q i).length)];exact hown
 ·by_cases e:i=j
  ·subst e;simp only[if_pos];refine⟨(ho.1.below hb1).grown hgrow ?_,(ho.2.1.below hb1).grown hgrow ?_,?_⟩
   ·rcases hnew with h0|⟨g,off,e,hg,hgl⟩
    ·exact .inl h0
    ·refine .inr fun b off' e' e2=>?_;rw[e]at e';cases e';have:=hmr g e2.symm
     omega
   ·rcases hnew with h0|⟨g,off,e,hg,hgl⟩
    ·exact .inl h0
    ·refine .inr fun b off' e' e2=>?_;rw[e]at e';cases e';have:=hmr g e2.symm
     omega
   ·rcases hnew with h0|⟨g,off,e,hg,hgl⟩
    ·exact .inl h0
    ·subst e;refine .inr ⟨off,rfl,by show lo≤g;omega,by show g<w5.heap.size;omega,?_⟩;show some g≠some g0
     intro e2;obtain rfl:g=g0:=by simpa using e2
     rcases hat with e3|e3
     ·have:=hmr g e3;omega
     ·omega
  ·simp only[if_neg e];obtain⟨r1,r2,r3⟩:=h.el i (by omega);have hne:(q i).length=0∨∀b off,ad i=some ⟨b,off,none⟩→some b≠tv.ownBlock:=r3.imp id (fun⟨off,e1,_,_,e4⟩ b off' e'=>by rw[e1]at e';cases e';exact e4)
   refine⟨(r1.below hb1).grown hgrow hne,(r2.below hb1).grown hgrow hne,?_⟩;rcases r3 with h0|⟨off,e1,e2,e3,e4⟩
   ·exact .inl h0
   ·refine .inr ⟨off,e1,e2,by omega,?_⟩;show some (B i)≠some g0
    intro e5;obtain e6:B i=g0:=by simpa using e5
    rcases hat with e7|e7
    ·exact e4 (by rw[e6,e7])
    ·omega
 ·show(if i=j then _ else B i)<(if k=j then _ else B k);rw[if_neg (show ¬i=j by omega)];by_cases e:k=j
  ·subst e;rw[if_pos rfl];rcases hnew with h0|⟨g,off,e,hg,hgl⟩
   ·exact absurd h0 hk0
   ·subst e;have:=hm i (by omega) hi0
    show B i<g;omega
  ·rw[if_neg e];exact h.ap i k hik (by omega) hi0 hk0
theorem lE.out {lo:Nat} {w:World} {q:Nat→List T} {n:Nat} {tv:Value} {ad:Nat→Option Addr} {cp B:Nat→Nat} (h:lE lo w q n tv ad cp B) (hn:n*40≤140737488351232):∃qa qc R,tv= .slice qa n qc∧dV lo w qa n qc ad (fun i=>(q i).length) cp (fun i=>lf (q i)) R B:=by
 rcases h.row.2 with⟨e,h0⟩|⟨g,cap,cur,e,hlo,hg,hnc,_⟩
 ·subst h0;exact⟨none,0,0,e,⟨⟨Nat.le_refl _,hn,.inl rfl,fun i hi=>by omega⟩,.inl rfl,fun i hi=>by omega,fun i hi=>by omega,fun i j _ hj=>by omega⟩⟩
 ·have hr:=h.row;rw[e]at hr;have hgl:g<w.heap.size:=(hr.lt g rfl).2
  refine⟨some ⟨g,0,none⟩,cap,g,e,⟨⟨hnc,hn,.inr ⟨g,0,rfl,hgl,fun i hi=>?_⟩,fun i hi=>(h.el i hi).1⟩,.inr ⟨0,rfl,hlo⟩,fun i hi=>(h.el i hi).2.1,fun i hi=>?_,fun i j hij hj hi0 hj0=>?_⟩⟩
  ·rw[Nat.zero_add,hr.cellAt i (by omega),RK hi]
  ·refine(h.el i hi).2.2.imp id (fun⟨off,e1,e2,_,e4⟩=>⟨off,e1,e2,fun e5=>e4 ?_⟩);rw[e,e5];rfl
  ·have:=h.ap i j hij hj hi0 hj0;omega
theorem XO:(Tryz.prog.info? 41).map (fun i=>(i.zero,i.size,i.bytes))=some (some (.slice none 0 0),1,24):=by kernel_rfl
theorem SA (w:World) (b n:Nat) (K:List T) (h:aV w b n (aI K)) (hn:n≤1000000) (hK:aH K) (hl:K.length≤300):Calls Tryz.prog 66 #[.map (some b)] w fun e w'=>∃a c,e= .returned (.tuple #[.slice a K.length c,.bool true])∧Below w.heap.size w w'∧gX w.heap.size w' a c K:=by
 refine(GR w b n (aI K) h hn hK (fun _ _=>rfl)).mono ?_;have e:xJ K=(K,true):=if_pos (by omega)
 rw[e];rintro r w' ⟨v,rfl,hb,ho⟩;obtain⟨a,c,rfl,hout⟩:=aM ho (by show K.length*40≤_;omega);exact⟨a,c,rfl,hb,hout⟩
theorem TA (X:sE) (w:World) (fu u N:Nat) (S:Dv) (h:kU X w fu u N S) (hok:iS u S) (hu:u≤300) (hn:X.n≤12):Calls Tryz.prog 99 #[.pointer (some ⟨X.Bd,0,none⟩)] w fun r w'=>∃qa qc ad cp R B la lc mid,r= .returned (.tuple #[.slice qa X.n qc,.slice la S.r.length lc])∧Below w.heap.size w w'∧dV w.heap.size w' qa X.n qc ad (fun i=>(S.q i).length) cp (fun i=>lf (S.q i)) R B∧gX mid w' la lc S.r∧(X.n=0∨R<mid)∧(∀i,i<X.n→(S.q i).length≠0→B i<mid)∧w.heap.size≤mid:=by
 obtain⟨i0,hi0,hz0,hz1,hz2⟩:=info_parts XO;have hnl:(X.n:Int)≤12:=by omega
 have k4:=h.c4;have HH:=aA h
 have HOK:=aA hok;clear h hok;go_enter Tryz.func99,Tryz.ntmps99;go_wp2;clear k4;go_loopw [4,12] (fun tv ii wr=>∃(j:Nat) (ad:Nat→Option Addr) (cp B:Nat→Nat),j≤X.n∧ii= .int .i64 (j:Int)∧Below w.heap.size w wr∧lE w.heap.size wr S.q j tv ad cp B) (fun _ ii _=>X.n-(intOf ii).toNat);case atStart=>exact⟨0,_,_,_,Nat.zero_le _,rfl,bQ _ _,lE.start (Nat.le_refl _) S.q⟩
 case round=>
  obtain⟨j,ad,cp,B,hj,rfl,hB,hA⟩:=hrel;have HB:=aA hB
  have HA:=aA hA;have HW:=aA (HH.out.below hB)
  clear hB hA;by_cases hlt:j<X.n
  ·have hjn:(j:Int)<(X.n:Int):=by omega
   obtain⟨bt,offt,et,hct⟩:=HW.out.tk.2.resolve_left (by omega);have kt:=hct j hlt
   have HOPR:=aA (SA wr (X.bk j) u (S.q j) (HW.out.tq j hlt) (by omega) (HOK.out.q j).1 (by have:=(HOK.out.q j).2;omega));clear hct;rw[et];go_wp2_with fail;refine HOPR.out.mono ?_;rintro r w1 ⟨va,vc,rfl,hb1,ho1⟩;have HB1:=aA (aB HB.out hb1)
   have HA1:=aA (HA.out.below hb1);have HO1:=aA ho1
   have hsz0:w.heap.size≤wr.heap.size:=HB.out.size;have hsz1:wr.heap.size≤w1.heap.size:=hb1.size
   have HM:Hid (∀i,i<j→(S.q i).length≠0→B i<wr.heap.size):=fun i hi h0=>by
    rcases(HA.out.el i hi).2.2 with hz|⟨_,_,_,h3,_⟩
    ·exact absurd hz h0
    ·exact h3
   have HMR:Hid (∀k,u4.ownBlock=some k→k<wr.heap.size):=fun k hk=>(HA.out.row.lt k hk).2;have hnew:=heap_alloc_new w1 (.cells #[.slice va (S.q j).length vc] 41)
   have HN:=aA hnew;have hrow:=HA1.out.row.alloc (.cells #[.slice va (S.q j).length vc] 41)
   have hnews:∀jj u,[Value.slice va (S.q j).length vc][jj]? =some u→(w1.alloc (.cells #[.slice va (S.q j).length vc] 41)).cell? ((⟨w1.heap.size,0,none⟩:Addr).add jj)=some u:=World.news_of_block HN.out
   have hone:∀u∈[Value.slice va (S.q j).length vc],u.oneCell'=true:=fun u hu=>by
    have:u= .slice va (S.q j).length vc:=by simpa using hu
    subst this;rfl
   have hbase:w.heap.size≤(w1.alloc (.cells #[.slice va (S.q j).length vc] 41)).heap.size:=by simp;omega
   have hmax:j+1≤maxLen:=by unfold maxLen;omega
   clear hb1 ho1 hnew kt HOPR
   go_wp2_with (first
    |(go_at_call 142;refine(eZ _ _).mono ?_;rintro e wn ⟨rfl,hwn⟩;obtain rfl:=hwn.symm;clear hwn)
    |(at_builtin;refine wpList_append_lies _ rfl (.tmp 16) (.tmp 22) 24 rfl w.heap.size 41 i0 _ 1 24 Tryz.underlying24 hi0 hz0 hz1 hz2 rfl (by omega) _ j (xH ad (fun i=>(S.q i).length) cp j) rfl hrow ⟨w1.heap.size,0,none⟩ 1 1 [.slice va (S.q j).length vc] rfl rfl hnews hone (by omega) hmax (by omega) hbase _ rfl ?_;intro g0 cap0 w5 hown1 hgrow hat hlt1;have HR:=aA (HA1.out.round (m:=wr.heap.size) HM.out HMR.out hsz0 HO1.out hgrow hown1 (hat.imp id (fun e=>e.trans (by simp))) hlt1);have HB5:=aA ((HB1.out.alloc HB1.out.size _).grown hgrow hbase (fun k e=>(HA1.out.row.lt k e).1));clear hown1 hgrow hat hlt1 hrow))
   go_roundw;case rel=>exact⟨j+1,_,_,_,by omega,by go_num,HB5.out,HR.out⟩
   case measure=>simp[intOf];omega
  ·have hjn:¬(j:Int)<(X.n:Int):=by omega
   have hje:j=X.n:=by omega
   subst hje;have k5:=HW.out.c5
   have HOPR:=aA (SA wr X.bl u S.r HW.out.lf (by omega) HOK.out.r.1 (by have:=HOK.out.r.2;omega));go_wp2_with fail;refine HOPR.out.mono ?_;rintro r w1 ⟨la,lc,rfl,hb1,ho1⟩;have HB1:=aA (aB HB.out hb1)
   obtain⟨qa,qc,R,etv,hO⟩:=(HA.out.below hb1).out (by omega);subst etv;have HOS:=aA hO
   have HO1:=aA ho1;have HRM:Hid (X.n=0∨R<wr.heap.size):=by
    rcases hO.row with h0|⟨off,e,_⟩
    ·exact .inl h0
    ·refine .inr (HA.out.row.lt R ?_).2;rw[e];rfl
   have HM:Hid (∀i,i<X.n→(S.q i).length≠0→B i<wr.heap.size):=fun i hi h0=>by
    rcases(HA.out.el i hi).2.2 with hz|⟨_,_,_,h3,_⟩
    ·exact absurd hz h0
    ·exact h3
   clear hb1 ho1 hO k5 HOPR;go_wp2_with (go_at_call 142;refine(eZ _ _).mono ?_;rintro e wn ⟨rfl,hwn⟩;obtain rfl:=hwn.symm;clear hwn);refine cV (results_tmp2 rfl _ _ _) rfl ?_;exact⟨qa,qc,ad,cp,R,B,la,lc,wr.heap.size,rfl,HB1.out,HOS.out,HO1.out,HRM.out,HM.out,HB.out.size⟩
set_option linter.unusedSimpArgs false
theorem WJ (X:sE) (w:World) (fu u N:Nat) (S:Dv) (h:kU X w fu u N S) (hp:aH S.p) (b:Bool) (hb:((S.p.length:Int)==0)=b):Calls Tryz.prog 97 #[.pointer (some ⟨X.Bd,0,none⟩)] w fun r w'=>r= .returned (.bool b)∧w'=w:=by
 have hlen:=h.rs.len hp 3;have k3:=h.c3
 clear h;go_enter Tryz.func97,Tryz.ntmps97;go_wp2;go_ret;exact⟨rfl,rfl⟩
theorem dW.cell {X:sE} {w w':World} (h:dW X w w') {fu u N:Nat} {S:Dv} (hd:kU X w fu u N S) {b o:Nat} {v:Value} (hc:w.cell? ⟨b,o,none⟩=some v) (hne:b≠X.Bd):w'.cell? ⟨b,o,none⟩=some v:=
 (nC (a:=⟨b,o,none⟩) (h.block b (cQ w _ hc) hne (hd.rs.ne_cell hc) (hd.lf.ne_cell hc) (fun i hi=>(hd.tq i hi).ne_cell hc))).trans hc
theorem dW.frozen {X:sE} {w w':World} (h:dW X w w') {fu u N:Nat} {S:Dv} (hd:kU X w fu u N S) {b o:Nat} {v:Value} (hc:w.cell? ⟨b,o,none⟩=some v) (hne:b≠X.Bd) {z:Bool} (hz:w.frozen? ⟨b,o,none⟩=z):w'.frozen? ⟨b,o,none⟩=z:=
 (World.frozen?_of_block (a:=⟨b,o,none⟩) (h.block b (cQ w _ hc) hne (hd.rs.ne_cell hc) (hd.lf.ne_cell hc) (fun i hi=>(hd.tq i hi).ne_cell hc))).trans hz
def pP (b:Nat) (w:World):Nat:=match w.cell? ⟨b,6,none⟩with
 |some (.int .i64 z)=>z.toNat
 |_=>0
theorem kU.fuel {X:sE} {w:World} {fu u N:Nat} {S:Dv} (h:kU X w fu u N S):pP X.Bd w=fu:=by unfold pP;rw[h.c6];simp
theorem dV.far {lo:Nat} {w w':World} {a:Option Addr} {n cap:Nat} {ad:Nat→Option Addr} {ln cp:Nat→Nat} {f:Nat→Nat→T} {R:Nat} {B:Nat→Nat} (h:dV lo w a n cap ad ln cp f R B) {b:Nat} (hg:w.grownBy w' (some b)) (hb:b<lo):dV lo w' a n cap ad ln cp f R B:=by
 have hne:∀i,i<n→ln i=0∨∀b' off,ad i=some ⟨b',off,none⟩→some b'≠some b:=fun i hi=>(h.el i hi).imp id (fun⟨off,e,h1,_⟩ b' off' e' e2=>by
  rw[e]at e';cases e';have:B i=b:=by simpa using e2
  omega)
 refine⟨⟨h.rd.1,h.rd.2.1,?_,fun i hi=>(h.rd.2.2.2 i hi).grown hg (hne i hi)⟩,h.row,fun i hi=>(h.wr i hi).grown hg (hne i hi),h.el,h.ap⟩;rcases h.rd.2.2.1 with h0|⟨b',off,e,hlt,hc⟩
 ·exact .inl h0
 ·rcases h.row with h0|⟨off',e',hlo⟩
  ·exact .inl h0
  ·rw[e']at e;obtain⟨rfl,rfl⟩:R=b'∧off'=off:=by simpa using e
   exact .inr ⟨R,off',e',iZ hlt hg.size,fun i hi=>(nC (a:=⟨R,off'+i,none⟩) (hg.block R hlt (fun e2=>by
    have:R=b:=by simpa using e2
    omega))).trans (hc i hi)⟩
theorem dV.low {lo lo':Nat} {w:World} {a:Option Addr} {n cap:Nat} {ad:Nat→Option Addr} {ln cp:Nat→Nat} {f:Nat→Nat→T} {R:Nat} {B:Nat→Nat} (h:dV lo w a n cap ad ln cp f R B) (hl:lo'≤lo):dV lo' w a n cap ad ln cp f R B:=
 ⟨h.rd,h.row.imp id (fun⟨off,e,h1⟩=>⟨off,e,gW hl h1⟩),h.wr,fun i hi=>(h.el i hi).imp id (fun⟨off,e,h1,h2⟩=>⟨off,e,gW hl h1,h2⟩),h.ap⟩
theorem dV.below {lo:Nat} {w w':World} {a:Option Addr} {n cap:Nat} {ad:Nat→Option Addr} {ln cp:Nat→Nat} {f:Nat→Nat→T} {R:Nat} {B:Nat→Nat} (h:dV lo w a n cap ad ln cp f R B) (hb:Below w.heap.size w w'):dV lo w' a n cap ad ln cp f R B:=
 ⟨h.rd.below hb,h.row,fun i hi=>(h.wr i hi).below hb,h.el,h.ap⟩
theorem gX.far {lo:Nat} {w w':World} {a:Option Addr} {c:Nat} {L:List T} (h:gX lo w a c L) {b:Nat} (hg:w.grownBy w' (some b)) (hb:b<lo):gX lo w' a c L:=by
 have hne:L.length=0∨∀b' off,a=some ⟨b',off,none⟩→some b'≠some b:=h.2.2.imp id (fun⟨g,off,e,h1⟩ b' off' e' e2=>by
  rw[e]at e';cases e';have:b'=b:=by simpa using e2
  omega)
 exact⟨h.1.grown hg hne,h.2.1.grown hg hne,h.2.2⟩
def GU (s0:Nat) (W:World) (Bt Bl n:Nat) (R:Option Dv) (r:Ending) (w':World):Prop:=
 Below s0 W w'∧((∃S qa qc ad cp Rb B la lc mid,R=some S∧r= .returned (.tuple #[])∧w'.cell? ⟨Bt,0,none⟩=some (.slice qa n qc)∧w'.cell? ⟨Bl,0,none⟩=some (.slice la S.r.length lc)∧dV W.heap.size w' qa n qc ad (fun i=>(S.q i).length) cp (fun i=>lf (S.q i)) Rb B∧gX mid w' la lc S.r∧(n=0∨Rb<mid)∧(∀i,i<n→(S.q i).length≠0→B i<mid)∧W.heap.size≤mid)∨(R=none∧r= .panicked [{v:=dU,recovered:=false}]∧w'.cell? ⟨Bt,0,none⟩=some (.slice none 0 0)∧w'.cell? ⟨Bl,0,none⟩=some (.slice none 0 0)))
theorem ZM (X:sE) (W:World) (p:List T) (h:kU X W 300 0 400 (kP p)) (hp:cJ p=true) (hrk:X.rk=ZC X.o) (ho:1≤X.o∧X.o≤3) (hl:aW X.n X.ln X.f=true) (Bv Bt Bl:Nat) (hv:W.cell? ⟨Bv,0,none⟩=some (.pointer (some ⟨X.Bd,0,none⟩))) (ht:W.cell? ⟨Bt,0,none⟩=some (.slice none 0 0)) (hz:W.frozen? ⟨Bt,0,none⟩=false) (hc:W.cell? ⟨Bl,0,none⟩=some (.slice none 0 0)) (hy:W.frozen? ⟨Bl,0,none⟩=false) (n1:Bv≠X.Bd) (n2:Bt≠X.Bd) (n3:Bl≠X.Bd) (n4:Bt≠Bl) (l2:X.s0≤Bt) (l3:X.s0≤Bl):Calls Tryz.prog 96 #[.pointer (some ⟨Bv,0,none⟩),.pointer (some ⟨Bt,0,none⟩),.pointer (some ⟨Bl,0,none⟩)] W fun r w'=>GU X.s0 W Bt Bl X.n (eE X.o X.n X.ln X.f 300 (kP p)) r w':=by
 have HH:=aA h;have HV:=aA hv
 have HT:=aA (And.intro ht hz);have HC:=aA (And.intro hc hy)
 have n12:=(aU hl).1;clear h hv ht hz hc hy;go_enter Tryz.func96,Tryz.ntmps96;go_wp2;go_loopw [3] (fun _ wr=>∃(fu u N:Nat) (S:Dv),fu+u=300∧N≤400+400*u∧iS u S∧kU X wr fu u N S∧dW X W wr∧eE X.o X.n X.ln X.f fu S=eE X.o X.n X.ln X.f 300 (kP p)) (fun _ wr=>pP X.Bd wr);case atStart=>exact⟨300,0,400,kP p,rfl,by omega,iS.start hp,HH.out,dW.of (bQ _ _),rfl⟩
 case round=>
  obtain⟨fu,u,N,S,hfu,hN,hok,hW,hT,hR⟩:=hrel;have HOK:=aA hok
  have HW:=aA hW;have HTR:=aA hT
  have HR:=aA hR;have kv:=hT.cell HH.out HV.out n1
  clear hok hW hT hR;by_cases h0:S.p.length=0
  ·have hb:((S.p.length:Int)==0)=true:=by simpa using h0
   have HDN:=aA (WJ X wr fu u N S HW.out (aD HOK.out.p).2 true hb);have HE:=aA (HR.out.symm.trans (mK h0))
   have HAN:=aA (TA X wr fu u N S HW.out HOK.out (by omega) n12);obtain⟨kt,kz⟩:=And.intro (HTR.out.cell HH.out HT.out.1 n2) (HTR.out.frozen HH.out HT.out.1 n2 HT.out.2);obtain⟨kl,ky⟩:=And.intro (HTR.out.cell HH.out HC.out.1 n3) (HTR.out.frozen HH.out HC.out.1 n3 HC.out.2);have HK:=aA (And.intro (And.intro kt kz) (And.intro kl ky))
   clear kt kz kl ky hb;go_wp2_with fail;refine HDN.out.mono ?_;rintro r w' ⟨rfl,hw'⟩;obtain rfl:=hw'.symm;clear hw' HDN;go_wp2_with fail;refine HAN.out.mono ?_;rintro r w1 ⟨qa,qc,ad,cp,Rb,B,la,lc,mid,rfl,hb1,hO,hL,hm1,hm2,hm3⟩;have ltt:Bt<wr.heap.size:=cQ wr _ HK.out.1.1
   have ltl:Bl<wr.heap.size:=cQ wr _ HK.out.2.1;have kt:w1.cell? ⟨Bt,0,none⟩=some (.slice none 0 0):=(hb1.cell (p:=⟨Bt,0,none⟩) ltt).trans HK.out.1.1
   have kz:w1.frozen? ⟨Bt,0,none⟩=false:=(hb1.frozen (p:=⟨Bt,0,none⟩) ltt).trans HK.out.1.2;have kl:w1.cell? ⟨Bl,0,none⟩=some (.slice none 0 0):=(hb1.cell (p:=⟨Bl,0,none⟩) ltl).trans HK.out.2.1
   have ky:w1.frozen? ⟨Bl,0,none⟩=false:=(hb1.frozen (p:=⟨Bl,0,none⟩) ltl).trans HK.out.2.2;have HFIN:Hid (GU X.s0 W Bt Bl X.n (some S) (.returned (.tuple #[])) ((w1.setCell ⟨Bt,0,none⟩ (.slice qa X.n qc)).setCell ⟨Bl,0,none⟩ (.slice la S.r.length lc))):=by
    have hs:=HH.out.s0;have hsw:W.heap.size≤wr.heap.size:=HTR.out.size
    have g1:=gJ w1 Bt 0 (.slice qa X.n qc);have g2:=gJ (w1.setCell ⟨Bt,0,none⟩ (.slice qa X.n qc)) Bl 0 (.slice la S.r.length lc)
    have hbw:Below X.s0 W w1:=(HTR.out.below HH.out).trans (hb1.mono HW.out.s0);refine⟨(hbw.setCell (p:=⟨Bt,0,none⟩) l2 _).setCell (p:=⟨Bl,0,none⟩) l3 _,.inl ⟨S,qa,qc,ad,cp,Rb,B,la,lc,mid,rfl,rfl,?_,?_,?_,?_,hm1,hm2,by omega⟩⟩
    ·simp[go_sem,kt,n4,n4.symm]
    ·simp[go_sem,kl,n4,n4.symm]
    ·exact((hO.far g1 ltt).far g2 ltl).low hsw
    ·exact(hL.far g1 (by omega)).far g2 (by omega)
   clear hb1 hO hL hm1 hm2 hm3 HAN;have hnl:¬Bl=Bt:=fun e=>n4 e.symm
   go_wp2
   go_end0
   rw[HE.out];exact HFIN.out
  ·have hb:((S.p.length:Int)==0)=false:=by simpa using h0
   have HDN:=aA (WJ X wr fu u N S HW.out (aD HOK.out.p).2 false hb);clear hb;cases fu with
   |zero=>
    have HE:=aA (HR.out.symm.trans (xR h0));have HS:=aA (YR X wr u N S HW.out)
    go_wp2_with fail;refine HDN.out.mono ?_;rintro r w' ⟨rfl,hw'⟩;obtain rfl:=hw'.symm;clear hw' HDN;go_wp2_with fail;refine HS.out.mono ?_;rintro r w' ⟨rfl,hw'⟩;obtain rfl:=hw'.symm;clear hw' HS;go_wp2;rw[HE.out];exact⟨rfl,HTR.out.below HH.out,.inr ⟨rfl,rfl,HTR.out.cell HH.out HT.out.1 n2,HTR.out.cell HH.out HC.out.1 n3⟩⟩
   |succ fu=>
    have HS:=aA (Cb X wr fu u N hN S HW.out hrk ho HOK.out (by omega) hl h0 (by omega));go_wp2_with fail;refine HDN.out.mono ?_;rintro r w' ⟨rfl,hw'⟩;obtain rfl:=hw'.symm;clear hw' HDN;go_wp2_with fail;refine HS.out.mono ?_;rintro r w1 ⟨ht1,hh⟩;rcases hh with⟨S',e1,rfl,hW1⟩|⟨e1,rfl⟩
    ·have HT1:=aA (HTR.out.trans ht1);have HW1:=aA hW1
     have HO1:=aA (lT hl HOK.out h0 e1);have HE1:=aA ((kE h0 e1).symm.trans HR.out)
     have HF:Hid (pP X.Bd w1<pP X.Bd wr):=by show pP X.Bd w1<pP X.Bd wr;rw[hW1.fuel,HW.out.fuel];omega
     clear ht1 hW1 e1 HS;go_wp2;go_roundw;case rel=>exact⟨fu,u+1,N+400,S',by omega,by omega,HO1.out,HW1.out,HT1.out,HE1.out⟩
     case measure=>exact HF.out
    ·have HE:=aA (HR.out.symm.trans (qS h0 e1));have HT1:=aA (HTR.out.trans ht1)
     clear ht1 e1 HS;go_wp2;rw[HE.out];exact⟨rfl,HT1.out.below HH.out,.inr ⟨rfl,rfl,HT1.out.cell HH.out HT.out.1 n2,HT1.out.cell HH.out HC.out.1 n3⟩⟩
end Go.Proofs.YtelkehjdfcoeiaaGreat
