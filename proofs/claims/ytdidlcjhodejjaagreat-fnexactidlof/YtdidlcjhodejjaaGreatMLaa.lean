/-
  What the helpers of the exact laws do: they copy terms, hold them against each other, write marks into them and look for these.
-/
import Derived.Test.YtdidlcjhodejjaaGreatMHaa
set_option maxHeartbeats 4000000
set_option maxRecDepth 100000
namespace Go.Proofs.YtdidlcjhodejjaaGreat
open Go.RowKit
set_option linter.unusedVariables false
def sL (F:Nat→Value) (k:Int) (off j:Nat) (t:Nat):Value:=if off≤t∧t<off+j*5 then cf (mk k) (t-off)else F t
theorem NN {w:World} {g N off j:Nat} {F:Nat→Value} {k:Int} (h:w.rowIs g 42 N (sL F k off j)):(((((w.setCell ⟨g,off+j*5,none⟩ (.int .i64 (k+5*j))).setCell ⟨g,off+j*5+1,none⟩ (.int .i64 (k+5*j+1))).setCell ⟨g,off+j*5+2,none⟩ (.int .i64 (k+5*j+2))).setCell ⟨g,off+j*5+3,none⟩ (.int .i64 (k+5*j+3))).setCell ⟨g,off+j*5+4,none⟩ (.int .i64 (k+5*j+4))).rowIs g 42 N (sL F k off (j+1)):=by
 refine(((((h.set _ _).set _ _).set _ _).set _ _).set _ _).congr fun t ht=>?_;unfold sL;by_cases h4:t=off+j*5+4
 ·subst h4;rw[if_pos rfl,if_pos (by omega),show off+j*5+4-off=j*5+4 by omega,Ln];rfl
 rw[if_neg h4];by_cases h3:t=off+j*5+3
 ·subst h3;rw[if_pos rfl,if_pos (by omega),show off+j*5+3-off=j*5+3 by omega,Lm];rfl
 rw[if_neg h3];by_cases h2:t=off+j*5+2
 ·subst h2;rw[if_pos rfl,if_pos (by omega),show off+j*5+2-off=j*5+2 by omega,TR];rfl
 rw[if_neg h2];by_cases h1:t=off+j*5+1
 ·subst h1;rw[if_pos rfl,if_pos (by omega),show off+j*5+1-off=j*5+1 by omega,TP];rfl
 rw[if_neg h1];by_cases h0:t=off+j*5
 ·subst h0;rw[if_pos rfl,if_pos (by omega),show off+j*5-off=j*5 by omega,cf0];rfl
 rw[if_neg h0];by_cases hl:off≤t∧t<off+j*5
 ·rw[if_pos hl,if_pos (by omega)]
 ·rw[if_neg hl,if_neg (by omega)]
theorem JW {w:World} {g N off j o1 o2 o3 o4:Nat} {F:Nat→Value} {k v1 v2 v3 v4:Int} (h:w.rowIs g 42 N (sL F k off j)) (e1:o1=off+j*5+1) (e2:o2=off+j*5+2) (e3:o3=off+j*5+3) (e4:o4=off+j*5+4) (u1:v1=k+5*j+1) (u2:v2=k+5*j+2) (u3:v3=k+5*j+3) (u4:v4=k+5*j+4):(((((w.setCell ⟨g,off+j*5,none⟩ (.int .i64 (k+5*j))).setCell ⟨g,o1,none⟩ (.int .i64 v1)).setCell ⟨g,o2,none⟩ (.int .i64 v2)).setCell ⟨g,o3,none⟩ (.int .i64 v3)).setCell ⟨g,o4,none⟩ (.int .i64 v4)).rowIs g 42 N (sL F k off (j+1)):=by subst e1 e2 e3 e4 u1 u2 u3 u4;exact NN h
theorem pT {w0 w:World} {g o:Nat} (h:w0.grownBy w (some g)) (u:Value):w0.grownBy (w.setCell ⟨g,o,none⟩ u) (some g):=
 ⟨h.os,h.tape,h.output,jZ h.size (by simp[World.setCell]),fun k hk hn=>(Below.heap_setCell _ _ _ _ (by intro e;exact hn (by rw[e]))).trans (h.block k hk hn)⟩
theorem Fv (w:World) (a:Addr) (u:Value):(w.setCell a u).heap.size=w.heap.size:=by simp[World.setCell]
theorem GS (w:World) (a:Option Addr) (n cap:Nat) (f:Nat→T) (k:Int) (h:Wr w a n f) (hn:(n:Int)≤140737488351232) (hk0:0≤k) (hk1:k≤1000000000000000):Calls Tryz.prog 52 #[.slice a n cap,.int .i64 k] w fun r w'=>r= .returned (.int .i64 (k+5*n))∧w.grownBy w' (a.map (·.block))∧w'.heap.size=w.heap.size∧Wr w' a n (mk k)∧(n=0→w'=w):=by
 by_cases hn0:n=0
 ·subst hn0;go_enter Tryz.func52,Tryz.ntmps52;go_wp2;go_loopw [1,5] (fun kk i wr=>wr=w∧kk= .int .i64 k∧i= .int .i64 0) (fun _ _ _=>0);case atStart=>exact⟨rfl,rfl,rfl⟩
  case round=>
   obtain⟨rfl,rfl,rfl⟩:=hrel;go_wp2;go_ret;exact⟨nE (by simp),uT _ _,rfl,.inl rfl,fun _=>rfl⟩
 ·obtain⟨g,off,N,F,rfl,hR,hN,hF⟩:=h.resolve_left hn0;clear h;go_enter Tryz.func52,Tryz.ntmps52;go_wp2;go_loopw [1,5] (fun kk i wr=>∃j:Nat,j≤n∧i= .int .i64 j∧kk= .int .i64 (k+5*j)∧w.grownBy wr (some g)∧wr.heap.size=w.heap.size∧wr.rowIs g 42 N (sL F k off j)) (fun _ i _=>n-(intOf i).toNat);case atStart=>exact⟨0,Nat.zero_le _,rfl,by simp,uT _ _,rfl,hR.congr fun t _=>by unfold sL;rw[if_neg (by omega)]⟩
  case round=>
   obtain⟨j,hj,rfl,rfl,hG,hS,hM⟩:=hrel;by_cases hlt:j<n
   ·have hjn:(j:Int)<(n:Int):=by omega
    have q0:=hM.cell (i:=off+j*5) (by omega);have q1:=hM.cell (i:=off+j*5+1) (by omega)
    have q2:=hM.cell (i:=off+j*5+2) (by omega);have q3:=hM.cell (i:=off+j*5+3) (by omega)
    have q4:=hM.cell (i:=off+j*5+4) (by omega);have fz:=fun i=>hM.frozen i
    have HM:=aA hM;have HG:=aA hG
    have HS:=aA hS;clear hM hR hF hG hS;go_wp2;go_roundw
    case rel=>
     exact⟨j+1,by omega,by go_num,congrArg (Value.int .i64) (by omega),pT (pT (pT (pT (pT HG.out _) _) _) _) _,by simp only[Fv];exact HS.out,JW HM.out (by omega) (by omega) (by omega) (by omega) (by omega) (by omega) (by omega) (by omega)⟩
    case measure=>simp[intOf];omega
   ·have hjn:j=n:=by omega
    subst hjn;have HM:=aA hM
    clear hM;go_wp2;go_ret;exact⟨nE rfl,hG,hS,.inr ⟨g,off,N,_,rfl,HM.out,hN,fun t ht=>by unfold sL;rw[if_pos (by omega),show off+t-off=t by omega]⟩,fun h0=>absurd h0 hn0⟩
theorem NO (k:Int) (i:Nat):(mk k i).c=k+5*i∧(mk k i).m.x=k+5*i+1∧(mk k i).m.y=k+5*i+2∧(mk k i).m.d=k+5*i+3∧(mk k i).m.e=k+5*i+4:=⟨rfl,rfl,rfl,rfl,rfl⟩
theorem XU (w:World) (a:Option Addr) (n cap:Nat) (k:Int) (h:Rd w a n cap (mk k)) (hk0:0≤k) (hk1:k≤1000000000000000):Calls Tryz.prog 53 #[.slice a n cap,.int .i64 k] w fun r w'=>r= .returned (.int .i64 (k+5*n))∧w'=w:=by
 obtain⟨h1,h2,h3⟩:=h;have hn:(n:Int)≤140737488351232:=by omega
 go_enter Tryz.func53,Tryz.ntmps53;go_wp2
 go_loop [1,5] (fun kk i=>∃j:Nat,j≤n∧i= .int .i64 j∧kk= .int .i64 (k+5*j)) (fun _ i=>n-(intOf i).toNat)
 case atStart=>exact⟨0,Nat.zero_le _,rfl,by simp⟩
 case round=>
  obtain⟨j,hj,rfl,rfl⟩:=hrel;by_cases hlt:j<n
  ·rcases h3 with h0|⟨b,off,rfl,hblt,hcl⟩
   ·omega
   have hjn:(j:Int)<(n:Int):=by omega
   obtain⟨g0,g1,g2,g3,g4⟩:=hcl j hlt;rw[(NO k j).1]at g0;rw[(NO k j).2.1]at g1;rw[(NO k j).2.2.1]at g2;rw[(NO k j).2.2.2.1]at g3;rw[(NO k j).2.2.2.2]at g4;clear hcl;go_wp2;go_round;case rel=>exact⟨j+1,by omega,by go_num,congrArg (Value.int .i64) (by omega)⟩
   case measure=>simp[intOf];omega
  ·have hjn:j=n:=by omega
   subst hjn;go_wp2;go_ret;exact⟨nE rfl,rfl⟩
open Go.RowKit Go.Deep Go.Joins
structure rK (lo hi:Nat) (w w':World):Prop where
 os:w'.os=w.os
 tape:w'.tape=w.tape
 output:w'.output=w.output
 size:w'.heap.size=w.heap.size
 block:∀k,k<w.heap.size→k<lo∨hi≤k→w'.heap[k]? =w.heap[k]?
theorem rK.refl (lo hi:Nat) (w:World):rK lo hi w w:=⟨rfl,rfl,rfl,rfl,fun _ _ _=>rfl⟩
theorem rK.grown {lo hi:Nat} {w w' w'':World} {g:Nat} (h:rK lo hi w w') (hg:w'.grownBy w'' (some g)) (hs:w''.heap.size=w'.heap.size) (h1:lo≤g) (h2:g<hi):rK lo hi w w'':=
 ⟨hg.os.trans h.os,hg.tape.trans h.tape,hg.output.trans h.output,hs.trans h.size,fun k hk hc=>(hg.block k (by rw[h.size];exact hk) (fun e=>by cases e;omega)).trans (h.block k hk hc)⟩
theorem GR (w:World) (g n hi:Nat) (B ln:Nat→Nat) (f:Nat→Nat→T) (k:Int) (hR:w.rowIs g 45 n (lE B ln n)) (hO:∀i,i<n→g<B i∧B i<hi∧Own w (B i) (ln i) (f i)) (hD:∀i j,i<j→j<n→B i<B j) (hn:n≤1048576) (hl:∀i,i<n→ln i≤1048576) (hk0:0≤k) (hk1:k≤10000000000000):Calls Tryz.prog 14 #[.slice (some ⟨g,0,none⟩) n n,.int .i64 k] w fun r w'=>∃z:Int,r= .returned (.int .i64 z)∧0≤z∧z≤k+5242880*n∧rK (g+1) hi w w':=by
 have hn':(n:Int)≤1048576:=by omega
 have HR:=aA hR;have HO:=aA hO
 have HD:=aA hD;have HL:=aA hl
 clear hR hO hD hl;go_enter Tryz.func14,Tryz.ntmps14;go_wp2;go_loopw [1,5] (fun kk ii wr=>∃(i:Nat) (z:Int),i≤n∧ii= .int .i64 (i:Int)∧kk= .int .i64 z∧0≤z∧z≤k+5242880*i∧rK (g+1) hi w wr∧∀j,i≤j→j<n→Own wr (B j) (ln j) (f j)) (fun _ ii _=>n-(intOf ii).toNat);case atStart=>exact⟨0,k,Nat.zero_le _,rfl,rfl,hk0,by omega,rK.refl _ _ _,fun j _ hj=>(HO.out j hj).2.2⟩
 case round=>
  obtain⟨i,z,hi,rfl,rfl,z0,z1,hA,hW⟩:=hrel;have HA:=aA hA
  have HW:=aA hW;clear hW;by_cases hlt:i<n
  ·have hil:(i:Int)<(n:Int):=by omega
   have hgl:g<w.heap.size:=HR.out.lt;have hrow:=HR.out.of_block (hA.block g hgl (.inl (Nat.lt_succ_self _)))
   have g0:=hrow.cell (i:=i) hlt;have e0:lE B ln n i= .slice (some ⟨B i,0,none⟩) (ln i) (ln i):=by simp[lE,hlt]
   rw[e0]at g0;have hli:=HL.out i hlt
   have hw:=HW.out i (Nat.le_refl _) hlt;have HM:=aA (GS wr (some ⟨B i,0,none⟩) (ln i) (ln i) (f i) z hw.wr (by omega) z0 (by omega))
   clear hrow hA hw e0;go_wp2_with fail;refine HM.out.mono ?_;rintro r w1 ⟨rfl,hg,hz,_,_⟩;have HA1:=aA (HA.out.grown (show wr.grownBy w1 (some (B i))from hg) hz (HO.out i hlt).1 (HO.out i hlt).2.1)
   have HW1:Hid (∀j,i+1≤j→j<n→Own w1 (B j) (ln j) (f j)):=fun j h1 h2=>(HW.out j (by omega) h2).of_block (hg.block (B j) (HW.out j (by omega) h2).lt (fun e=>by
    have:=HD.out i j (by omega) h2;have e':B j=B i:=by simpa using e
    omega))
   clear hg hz HM g0;go_wp2;go_roundw;case rel=>exact⟨i+1,z+5*(ln i),by omega,by go_num,rfl,by omega,by omega,HA1.out,HW1.out⟩
   case measure=>simp[intOf];omega
  ·have hnl:¬(i:Int)<(n:Int):=by omega
   have hie:i=n:=by omega
   subst hie;go_wp2;go_ret;exact⟨z,rfl,z0,z1,HA.out⟩
structure pE (P:Nat→Prop) (w w':World):Prop where
 os:w'.os=w.os
 tape:w'.tape=w.tape
 output:w'.output=w.output
 size:w'.heap.size=w.heap.size
 block:∀k,k<w.heap.size→¬P k→w'.heap[k]? =w.heap[k]?
theorem pE.refl (P:Nat→Prop) (w:World):pE P w w:=⟨rfl,rfl,rfl,rfl,fun _ _ _=>rfl⟩
theorem pE.grown {P:Nat→Prop} {w w' w'':World} {g:Nat} (h:pE P w w') (hg:w'.grownBy w'' (some g)) (hs:w''.heap.size=w'.heap.size) (h1:P g):pE P w w'':=
 ⟨hg.os.trans h.os,hg.tape.trans h.tape,hg.output.trans h.output,hs.trans h.size,fun k hk hc=>(hg.block k (by rw[h.size];exact hk) (fun e=>by cases e;exact hc h1)).trans (h.block k hk hc)⟩
theorem pE.cell {P:Nat→Prop} {w w':World} (h:pE P w w') {b o:Nat} (hb:b<w.heap.size) (hp:¬P b):w'.cell? ⟨b,o,none⟩=w.cell? ⟨b,o,none⟩:=
 mB (w:=w) (a:=⟨b,o,none⟩) (h.block b hb hp)
theorem pE.rd {P:Nat→Prop} {w w':World} (h:pE P w w') {a:Option Addr} {n cap:Nat} {f:Nat→T} (hr:Rd w a n cap f) (hp:n=0∨∀b off,a=some ⟨b,off,none⟩→¬P b):Rd w' a n cap f:=by
 obtain⟨h1,h2,h3⟩:=hr;refine⟨h1,h2,?_⟩;rcases h3 with h0|⟨b,off,he,hlt,hc⟩
 ·exact .inl h0
 ·rcases hp with h0|hp
  ·exact .inl h0
  ·refine .inr ⟨b,off,he,by rw[h.size];exact hlt,fun i hi=>?_⟩;have hn:=hp b off he
   obtain⟨c0,c1,c2,c3,c4⟩:=hc i hi;exact⟨(h.cell hlt hn).trans c0,(h.cell hlt hn).trans c1,(h.cell hlt hn).trans c2,(h.cell hlt hn).trans c3,(h.cell hlt hn).trans c4⟩
theorem pE.wr {P:Nat→Prop} {w w':World} (h:pE P w w') {a:Option Addr} {n:Nat} {f:Nat→T} (hr:Wr w a n f) (hp:n=0∨∀b off,a=some ⟨b,off,none⟩→¬P b):Wr w' a n f:=by
 rcases hr with h0|⟨g,off,N,F,he,hrow,hle,hF⟩
 ·exact .inl h0
 ·rcases hp with h0|hp
  ·exact .inl h0
  ·exact .inr ⟨g,off,N,F,he,hrow.of_block (h.block g hrow.lt (hp g off he)),hle,hF⟩
theorem pE.below {P:Nat→Prop} {lo:Nat} {u w w':World} (hb:Below lo u w) (h:pE P w w') (hp:∀k,P k→lo≤k) (hlo:lo≤u.heap.size):Below lo u w':=
 ⟨h.os.trans hb.os,h.tape.trans hb.tape,h.output.trans hb.output,by rw[h.size];exact hb.size,fun k hk=>(h.block k (jY hk (jZ hlo hb.size)) (fun e=>by have:=hp k e;omega)).trans (hb.block k hk)⟩
def oF (k:Int) (ln:Nat→Nat):Nat→Int
 |0=>k
 |i+1=>oF k ln i+5*(ln i)
theorem wO {k:Int} {ln:Nat→Nat} {n:Nat} (hl:∀i,i<n→ln i≤1048576):∀i,i≤n→k≤oF k ln i∧oF k ln i≤k+5242880*i
 |0,_=>⟨Int.le_refl _,by show k≤k+5242880*((0:Nat):Int);omega⟩
 |i+1,h=>by
  have h1:=wO (k:=k) hl i (by omega);have h2:=hl i (by omega)
  show k≤oF k ln i+5*(ln i)∧oF k ln i+5*(ln i)≤k+5242880*((i+1:Nat):Int);omega
theorem CV (lo:Nat) (w:World) (a:Option Addr) (n cap:Nat) (ad:Nat→Option Addr) (ln cp:Nat→Nat) (f:Nat→Nat→T) (R:Nat) (B:Nat→Nat) (k:Int) (h:iL lo w a n cap ad ln cp f R B) (hn:n≤1048576) (hl:∀i,i<n→ln i≤1048576) (hk0:0≤k) (hk1:k≤10000000000000):Calls Tryz.prog 14 #[.slice a n cap,.int .i64 k] w fun r w'=>r= .returned (.int .i64 (oF k ln n))∧pE (fun b=>∃i,i<n∧ln i≠0∧B i=b) w w'∧cZ w' a n cap ad ln cp (fun i=>mk (oF k ln i)):=by
 have hn':(n:Int)≤1048576:=by omega
 have HH:=aA h;have HL:=aA hl
 have HK:=aA (wO (k:=k) hl);clear h hl;go_enter Tryz.func14,Tryz.ntmps14;go_wp2;go_loopw [1,5] (fun kk ii wr=>∃i:Nat,i≤n∧ii= .int .i64 (i:Int)∧kk= .int .i64 (oF k ln i)∧pE (fun b=>∃i,i<n∧ln i≠0∧B i=b) w wr∧(∀j,i≤j→j<n→Wr wr (ad j) (ln j) (f j))∧(∀j,j<i→Rd wr (ad j) (ln j) (cp j) (mk (oF k ln j)))) (fun _ ii _=>n-(intOf ii).toNat);case atStart=>exact⟨0,Nat.zero_le _,rfl,rfl,pE.refl _ _,fun j _ hj=>HH.out.wr j hj,fun j hj=>by omega⟩
 case round=>
  obtain⟨i,hi,rfl,rfl,hA,hW,hM⟩:=hrel;have HA:=aA hA
  have HW:=aA hW;have HM:=aA hM
  clear hW hM;obtain⟨z0,z1⟩:=HK.out i hi;by_cases hlt:i<n
  ·have hil:(i:Int)<(n:Int):=by omega
   rcases HH.out.rd.2.2.1 with h0|⟨b,off,rfl,hblt,hcl⟩
   ·omega
   have hbR:b=R:=by
    rcases HH.out.row with h0|⟨off',e,_⟩
    ·omega
    ·simpa using congrArg (fun x:Option Addr=>x.map (·.block)) e
   have hnp:¬(fun b=>∃i,i<n∧ln i≠0∧B i=b) b:=fun⟨j,hj,h0,e⟩=>by
    rcases HH.out.el j hj with h1|⟨_,_,_,h2⟩
    ·exact h0 h1
    ·exact h2 (e.trans hbR)
   have g0:wr.cell? ⟨b,off+i,none⟩=some (.slice (ad i) (ln i) (cp i)):=(hA.cell hblt hnp).trans (hcl i hlt);have hli:=HL.out i hlt
   obtain⟨y,hy⟩:∃y,oF k ln i=y:=⟨_,rfl⟩
   rw[hy]at z0 z1;have hr0:=HH.out.rd.2.2.2 i hlt
   have HMK:=aA (GS wr (ad i) (ln i) (cp i) (f i) y (HW.out i (Nat.le_refl _) hlt) (by omega) (by omega) (by omega));have hks:oF k ln (i+1)=y+5*(ln i):=by show oF k ln i+5*(ln i)=_;rw[hy]
   have HKS:=aA hks;have HR0:=aA (And.intro hr0.1 hr0.2.1)
   have HY:=aA hy;clear hcl hA hr0 hks hy hbR hnp;rw[HY.out];go_wp2_with fail;refine HMK.out.mono ?_;rintro r w1 ⟨rfl,hg,hz,hw,hsame⟩;have HA1:Hid (pE (fun b=>∃i,i<n∧ln i≠0∧B i=b) w w1):=by
    by_cases h0:ln i=0
    ·rw[hsame h0];exact HA.out
    ·rcases HH.out.el i hlt with h1|⟨o1,e1,_,_⟩
     ·exact absurd h1 h0
     ·rw[e1]at hg;exact HA.out.grown hg hz ⟨i,hlt,h0,rfl⟩
   have HW1:Hid (∀j,i+1≤j→j<n→Wr w1 (ad j) (ln j) (f j)):=fun j h1 h2=>by
    by_cases h0:ln i=0
    ·rw[hsame h0];exact HW.out j (by omega) h2
    ·have hwj:=HW.out j (by omega) h2;by_cases hj0:ln j=0
     ·exact .inl hj0
     ·rcases hwj with h3|⟨g,off2,N,F,he,hrow,hle,hF⟩
      ·exact absurd h3 hj0
      ·refine .inr ⟨g,off2,N,F,he,hrow.of_block (hg.block g hrow.lt ?_),hle,hF⟩;rcases HH.out.el i hlt with h4|⟨o1,e1,_,_⟩
       ·exact absurd h4 h0
       ·rcases HH.out.el j h2 with h5|⟨o2,e2,_,_⟩
        ·exact absurd h5 hj0
        ·rw[he]at e2;have e3:g=B j:=by simpa using congrArg (fun x:Option Addr=>x.map (·.block)) e2
         rw[e1];intro e4;have e5:g=B i:=by simpa using e4
         exact HH.out.ap i j (by omega) h2 h0 hj0 (e5.symm.trans e3)
   have HM1:Hid (∀j,j<i+1→Rd w1 (ad j) (ln j) (cp j) (mk (oF k ln j))):=fun j h1=>by
    by_cases e:j=i
    ·subst e;rw[HY.out];by_cases h0:ln j=0
     ·exact⟨HR0.out.1,HR0.out.2,.inl h0⟩
     ·exact hw.rd HR0.out.1 HR0.out.2
    ·have hr:=HM.out j (by omega);by_cases h0:ln i=0
     ·rw[hsame h0];exact hr
     ·refine hr.grown hg ?_;by_cases hj0:ln j=0
      ·exact .inl hj0
      ·refine .inr fun b' off' eb=>?_;rcases HH.out.el i hlt with h4|⟨o1,e1,_,_⟩
       ·exact absurd h4 h0
       ·rcases HH.out.el j (by omega)with h5|⟨o2,e2,_,_⟩
        ·exact absurd h5 hj0
        ·rw[eb]at e2;have e3:b'=B j:=by simpa using congrArg (fun x:Option Addr=>x.map (·.block)) e2
         rw[e1];intro e4;have e5:b'=B i:=by simpa using e4
         exact HH.out.ap j i (by omega) hlt hj0 h0 (e3.symm.trans e5)
   clear hg hz hw hsame HMK g0;go_wp2;go_roundw;case rel=>exact⟨i+1,by omega,by go_num,by rw[HKS.out],HA1.out,HW1.out,HM1.out⟩
   case measure=>simp[intOf];omega
  ·have hnl:¬(i:Int)<(n:Int):=by omega
   have hie:i=n:=by omega
   subst hie;have HRR:Hid (cZ wr a i cap ad ln cp (fun i=>mk (oF k ln i))):=by
    refine⟨HH.out.rd.1,HH.out.rd.2.1,?_,fun j hj=>HM.out j hj⟩;rcases HH.out.rd.2.2.1 with h0|⟨b,off,e,hblt,hcl⟩
    ·exact .inl h0
    ·refine .inr ⟨b,off,e,by rw[HA.out.size];exact hblt,fun j hj=>(HA.out.cell hblt ?_).trans (hcl j hj)⟩;rintro⟨j',hj',h0,e'⟩;rcases HH.out.row with h1|⟨off',e2,_⟩
     ·omega
     ·rw[e]at e2;have hbR:b=R:=by simpa using congrArg (fun x:Option Addr=>x.map (·.block)) e2
      rcases HH.out.el j' hj' with h1|⟨_,_,_,h2⟩
      ·exact h0 h1
      ·exact h2 (e'.trans hbR)
   go_wp2;go_ret;exact⟨rfl,HA.out,HRR.out⟩
theorem sW (w:World) (a:Option Addr) (n cap:Nat) (ad:Nat→Option Addr) (ln cp:Nat→Nat) (k:Int) (h:cZ w a n cap ad ln cp (fun i=>mk (oF k ln i))) (hn:n≤1048576) (hl:∀i,i<n→ln i≤1048576) (hk0:0≤k) (hk1:k≤10000000000000):Calls Tryz.prog 15 #[.slice a n cap,.int .i64 k] w fun r w'=>r= .returned (.int .i64 (oF k ln n))∧w'=w:=by
 have hn':(n:Int)≤1048576:=by omega
 have HH:=aA h;have HL:=aA hl
 have HK:=aA (wO (k:=k) hl);clear h hl;go_enter Tryz.func15,Tryz.ntmps15;go_wp2;go_loopw [1,5] (fun kk ii wr=>∃i:Nat,i≤n∧ii= .int .i64 (i:Int)∧kk= .int .i64 (oF k ln i)∧wr=w) (fun _ ii _=>n-(intOf ii).toNat);case atStart=>exact⟨0,Nat.zero_le _,rfl,rfl,rfl⟩
 case round=>
  obtain⟨i,hi,rfl,rfl,rfl⟩:=hrel;obtain⟨z0,z1⟩:=HK.out i hi;by_cases hlt:i<n
  ·have hil:(i:Int)<(n:Int):=by omega
   rcases HH.out.2.2.1 with h0|⟨b,off,rfl,hblt,hcl⟩
   ·omega
   have g0:=hcl i hlt;have hli:=HL.out i hlt
   obtain⟨y,hy⟩:∃y,oF k ln i=y:=⟨_,rfl⟩
   rw[hy]at z0 z1;have hr0:=HH.out.2.2.2 i hlt
   rw[show(fun i=>mk (oF k ln i)) i=mk y by rw[←hy]]at hr0;have HMK:=aA (XU _ (ad i) (ln i) (cp i) y hr0 (by omega) (by omega))
   have hks:oF k ln (i+1)=y+5*(ln i):=by show oF k ln i+5*(ln i)=_;rw[hy]
   have HKS:=aA hks;have hng:¬(y+5*(ln i:Int))<0:=by omega
   have hng':decide ((y+5*(ln i:Int))<0)=false:=decide_eq_false hng;have HY:=aA hy
   clear hcl hr0 hks hy;rw[HY.out];go_wp2_with fail;refine HMK.out.mono ?_;rintro r w1 ⟨rfl,hw⟩;obtain rfl:=hw.symm;clear hw HMK g0;go_wp2;go_roundw;case rel=>exact⟨i+1,by omega,by go_num,by rw[HKS.out],by first|rfl|trivial⟩
   case measure=>simp[intOf];omega
  ·have hnl:¬(i:Int)<(n:Int):=by omega
   have hie:i=n:=by omega
   subst hie;go_wp2;go_ret;exact⟨rfl,rfl⟩
end Go.Proofs.YtdidlcjhodejjaaGreat
