/-
  The program writes a line (DskText).
  Lines that come in, are copied and are held against each other.
  What a row's list says of the program's table of words.
-/
import Derived.Test.YtoglomfejgpoeaaGreatDoorMaw
import Derived.OpenShut
import Derived.ChangeArms
import Derived.Test.YtoglomfejgpoeaaGreatDoorMaq
import Derived.Test.YtoglomfejgpoeaaGreatDoorMas
set_option maxHeartbeats 8000000
set_option maxRecDepth 100000
namespace Go.Proofs.YtoglomfejgpoeaaGreatDoor
open Go.Shelf Go.RowKit
set_option linter.unusedVariables false
set_option linter.unusedSimpArgs false
def Dw (w:World):Prop:=∀k:Nat,1≤k→k≤8→w.cell? ⟨0,k,none⟩=some (.string ⟨(AU (k:Int)).toArray⟩)
theorem Dw.below {w w':World} (h:Dw w) (hb:Below w.heap.size w w'):Dw w':=fun k h1 h2=>(hb.cell (p:=⟨0,k,none⟩) (uK _ _ (h k h1 h2))).trans (h k h1 h2)
theorem FA (bk c:Nat) (xs:List (List UInt8)) (w:World) (hcells:∀(j:Nat) x,xs[j]? =some x→w.cell? ⟨bk,j,none⟩=some (.string ⟨x.toArray⟩)) (hbk:bk<w.heap.size) (hN:xs.length≤1000) (hcap:xs.length≤c) (hlen:(Lib.join xs [32]).length≤140737488355328):Calls Tryz.prog 71 #[.slice (some ⟨bk,0,none⟩) xs.length c,.string ⟨#[32]⟩] w fun e w'=>e= .returned (.string ⟨(Lib.join xs [32]).toArray⟩)∧Below w.heap.size w w':=by
 have e:(xs.map fun l=>(⟨l.toArray⟩:ByteArray)).map (fun s=>s.data.toList)=xs:=oP xs
 have:=Any.strings_Join AJ sV bk 0 c (xs.map fun l=>(⟨l.toArray⟩:ByteArray)) ⟨#[32]⟩ w (fun j s hs=>by
  rw[Nat.zero_add];rw[List.getElem?_map]at hs;cases hq:xs[j]? with
  |none=>rw[hq]at hs;cases hs
  |some l=>rw[hq]at hs;cases hs;exact hcells j l hq) hbk (by rw[List.length_map];omega) (by rw[List.length_map];exact hcap) (by rw[e];exact hlen)
 rw[List.length_map,e]at this;exact this
theorem KN {x:Int} (h0:0≤x) (h5:x≤5) (u:World):(Instr.slice 9 (.string ⟨#[65,66,67,68,69,70]⟩) (some (.int .i64 x)) (some (.int .i64 (x+1))) none).run Tryz.prog u= .ok (.string ⟨#[eX x]⟩) u:=by rcases(show x=0∨x=1∨x=2∨x=3∨x=4∨x=5 by omega)with rfl|rfl|rfl|rfl|rfl|rfl<;>kernel_rfl
theorem nK (k:Int):(AU k).length≤5:=by unfold AU;repeat(first|(split;· simp)|simp)
def pG (k to a b:Int) (j:Nat):List (List UInt8):=AU k::(JA to a b).take j
theorem CE (k to a b:Int) {j:Nat} (hj:j<3):pG k to a b (j+1)=pG k to a b j++[[eX (sv to a b j)]]:=by rcases(show j=0∨j=1∨j=2 by omega)with rfl|rfl|rfl<;>rfl
theorem sF (k to a b:Int) {j:Nat} (hj:j≤3):(pG k to a b j).length=j+1:=by rcases(show j=0∨j=1∨j=2∨j=3 by omega)with rfl|rfl|rfl|rfl<;>rfl
theorem oF (ws:List (List UInt8)) (x:List UInt8):(Lib.join (ws++[x]) [32]).length≤(Lib.join ws [32]).length+1+x.length:=by
 rw[qE];split
 ·simp
 ·simp;omega
theorem DQ (k to a b:Int):∀j,j≤3→(Lib.join (pG k to a b j) [32]).length≤20
 |0,_=>by
  show(Lib.join [AU k] [32]).length≤20;rw[Lib.join_one];have:=nK k
  omega
 |1,_=>by
  have:=nK k;show(Lib.join [AU k,[eX to]] [32]).length≤20
  simp[Lib.join_cons,Lib.joinTail];omega
 |2,_=>by
  have:=nK k;show(Lib.join [AU k,[eX to],[eX a]] [32]).length≤20
  simp[Lib.join_cons,Lib.joinTail];omega
 |3,_=>by
  have:=nK k;show(Lib.join [AU k,[eX to],[eX a],[eX b]] [32]).length≤20
  simp[Lib.join_cons,Lib.joinTail];omega
 |n+4,h=>by omega
theorem EO (k to a b:Int) (n:Nat) (f:Nat→T):JC k to a b n f=pG k to a b (gA k)++if k=1 then[iW n f]else[]:=rfl
theorem yM {k to a b:Int} {n:Nat} {f:Nat→T} (h:qS k to a b n f=true):(1≤k∧k≤8)∧(0≤to∧to≤5)∧(0≤a∧a≤5)∧(0≤b∧b≤5)∧aN n f=true:=by have:=of_decide_eq_true h;exact⟨this.1,this.2.1,this.2.2.1,this.2.2.2.1,this.2.2.2.2.1⟩
theorem AX {k:Int} (h:1≤k∧k≤8):1≤gA k∧gA k≤3:=by
 unfold gA;split
 ·omega
 ·split
  ·omega
  ·split
   ·omega
   ·omega
theorem EF {n:Nat} {f:Nat→T} (h:aN n f=true):(iW n f).length≤6801:=by
 unfold iW;rw[if_pos h];split
 ·simp
 ·have:=lL n (fun i hi=>(eB h).2 i hi);have:=(eB h).1
  omega
def IF (w w1:World) (B4:Nat) (k to a b:Int) (pa:Option Addr) (n cap:Nat) (f:Nat→T) (j:Nat) (v:Value) (wr:World):Prop:=
 FF w1.heap.size v (pG k to a b j) wr∧Below w.heap.size w wr∧Rd wr pa n cap f∧(∀i,i<5→wr.cell? ⟨w.heap.size,i,none⟩=#[Value.int .i64 k,.int .i64 to,.int .i64 a,.int .i64 b,.slice pa n cap][i]?)∧wr.heap[B4]? =some (.cells #[.int .i64 to,.int .i64 a,.int .i64 b] 88 (0,0))
theorem DE {wr:World} {B4:Nat} {to a b:Int} (h:wr.heap[B4]? =some (.cells #[.int .i64 to,.int .i64 a,.int .i64 b] 88 (0,0))) {j:Nat} (hj:j<3):wr.cell? ⟨B4,j,none⟩=some (.int .i64 (sv to a b j)):=by rw[cell_of_row wr B4 j _ _ _ h];rcases(show j=0∨j=1∨j=2 by omega)with rfl|rfl|rfl<;>rfl
theorem EC {lo:Nat} {g k cp:Nat} {xs:List (List UInt8)} {w:World} (h:FF lo (.slice (some ⟨g,0,none⟩) k cp) xs w):∃cur,w.heap[g]? =some (.cells cur 9 (0,0)):=by
 rcases h.2 with⟨e,_⟩|⟨g',cap',cur,e,h2,h3,_⟩
 ·cases e
 ·cases e;exact⟨cur,h3⟩
theorem wJ {lo:Nat} {g k cp:Nat} {xs:List (List UInt8)} {w:World} (h:FF lo (.slice (some ⟨g,0,none⟩) k cp) xs w):k≤cp:=by
 rcases h.2 with⟨e,_⟩|⟨g',cap',cur,e,h2,h3,h4,_⟩
 ·cases e
 ·cases e;exact h4
theorem FO {a w:World} (h:Below a.heap.size a w) (o:Obj):Below a.heap.size a (w.alloc o):=h.alloc h.size o
theorem IF.next {w w1:World} {B4:Nat} {k to a b:Int} {pa:Option Addr} {n cap:Nat} {f:Nat→T} {j g cp:Nat} {wr:World} {x:Int} (h:IF w w1 B4 k to a b pa n cap f j (.slice (some ⟨g,0,none⟩) (j+1) cp) wr) (hj:j<3) (hs0:w.heap.size<wr.heap.size) (hs1:w1.heap.size≤wr.heap.size) (hws:pG k to a b (j+1)=pG k to a b j++[[eX x]]) {w7:World} {g1 cap1:Nat} (hown:w7.ownsRow w1.heap.size 9 1 (.slice (some ⟨g1,0,none⟩) (j+1+1) cap1) (j+1+1) (EJ (pG k to a b j)++[.string ⟨#[eX x]⟩])) (hgrow:(wr.alloc (.cells #[.string ⟨#[eX x]⟩] 9)).grownBy w7 (Value.slice (some ⟨g,0,none⟩) (j+1) cp).ownBlock) (hw1:w.heap.size<w1.heap.size) (hrd:n=0∨∀b off,pa=some ⟨b,off,none⟩→b<w1.heap.size):IF w w1 B4 k to a b pa n cap f (j+1) (.slice (some ⟨g1,0,none⟩) (j+1+1) cap1) w7:=by
 obtain⟨ho,hb,hr,hc,h4⟩:=h;have hlt:=lT ho
 obtain⟨cur,hrow⟩:=EC ho;have hob:∀q,(Value.slice (some ⟨g,0,none⟩) (j+1) cp).ownBlock=some q→q=g:=fun q e=>by simpa[Value.ownBlock]using e.symm
 have hb1:=aG wr (.cells #[.string ⟨#[eX x]⟩] 9);have hB4:B4<wr.heap.size:=(Array.getElem?_eq_some_iff.1 h4).1
 have hne:B4≠g:=fun e=>by
  rw[e,hrow]at h4;have:=congrArg (fun o=>match o with|some (Obj.cells _ t _)=>t|_=>0) h4
  have q:(9:Nat)=88:=this;exact absurd q (by decide)
 refine⟨?_,?_,?_,?_,?_⟩
 ·show World.ownsRow _ _ _ _ _ _ _;rw[hws,wT,List.length_append,sF k to a b (by omega)];exact hown
 ·exact(aC hb hb1).grown hgrow (by simp;omega) (fun q e=>by rw[hob q e];omega)
 ·exact(hr.below hb1).grown hgrow (hrd.imp id (fun hh b off e=>by
   intro q;have:=hob b q.symm
   have:=hh b off e
   omega))
 ·intro i hi;have e:w7.heap[w.heap.size]? =wr.heap[w.heap.size]? :=(hgrow.block _ (by simp;omega) (fun e=>by have:=hob _ e.symm;omega)).trans (hb1.block _ hs0)
  rw[←hc i hi];exact kV (w:=wr) (a:=⟨w.heap.size,i,none⟩) e
 ·exact((hgrow.block _ (by simp;omega) (fun e=>hne (hob _ e.symm))).trans (hb1.block _ hB4)).trans h4
theorem fA (k to a b:Int) (pa:Option Addr) (n cap:Nat) (f:Nat→T) (w:World) (h:Rd w pa n cap f) (hT:Tb w) (hD:Dw w):Calls Tryz.prog 32 #[.agg #[.int .i64 k,.int .i64 to,.int .i64 a,.int .i64 b,.slice pa n cap]] w fun r w'=>r= .returned (.string ⟨(dW k to a b n f).toArray⟩)∧Below w.heap.size w w':=by
 have hB0:=aG w (.cells #[.int .i64 k,.int .i64 to,.int .i64 a,.int .i64 b,.slice pa n cap] 24);have hnI:(n:Int)≤9223372036854775807:=by have:=h.2.1;omega
 have HRD:=aA (h.below hB0);have hund:n=0∨∀b off,pa=some ⟨b,off,none⟩→b<w.heap.size:=by
  rcases h.2.2 with q|⟨b',off',e,q,_⟩
  ·exact .inl q
  ·exact .inr (fun b off e2=>by rw[e]at e2;cases e2;exact q)
 have HUN0:=aA hund;have HTB:=aA hT
 have HDW:=aA hD;have HB0:=aA hB0
 have hx:∀j:Nat,(w.alloc (.cells #[.int .i64 k,.int .i64 to,.int .i64 a,.int .i64 b,.slice pa n cap] 24)).cell? ⟨w.heap.size,j,none⟩=#[Value.int .i64 k,.int .i64 to,.int .i64 a,.int .i64 b,.slice pa n cap][j]? :=fun j=>World.cell?_alloc_at _ _ _ _ rfl
 have HX:=aA hx;have HWC:=aA (xN k to a b pa n cap f _ HRD.out)
 obtain⟨wh,hwh⟩:∃x,qS k to a b n f=x:=⟨_,rfl⟩
 rw[hwh]at HWC;obtain⟨R,hR⟩:∃R,dW k to a b n f=R:=⟨_,rfl⟩
 rw[hR];have HWH:=aA hwh
 have HR:=aA hR;clear hB0 h hx hT hD hwh hR hund;cases wh
 ·have HZ:Hid (R=[]):=by rw[←HR.out];exact aA (aU HWH.out)
  go_enter Tryz.func32,Tryz.ntmps32;go_wp2_with fail;refine HWC.out.mono ?_;rintro r w1 ⟨rfl,hb1⟩;have HB1:=aA (aC HB0.out hb1)
  clear hb1;go_wp2;go_ret;exact⟨by rw[HZ.out];rfl,HB1.out⟩
 ·obtain⟨⟨k1,k8⟩,⟨t0,t5⟩,⟨a0,a5⟩,⟨b0,b5⟩,hok⟩:=yM HWH.out;obtain⟨K,rfl⟩:∃K:Nat,k=(K:Int):=⟨k.toNat,by omega⟩
  have hK1:1≤K:=by omega
  have hK8:K≤8:=by omega
  have hKI:(K:Int)<9:=by omega
  obtain⟨N,hN⟩:∃N,gA (K:Int)=N:=⟨_,rfl⟩
  have hNb:=AX (k:=(K:Int)) ⟨k1,k8⟩;rw[hN]at hNb;obtain⟨hN1,hN3⟩:=hNb;have hNI:(N:Int)≤3:=by omega
  have HNN:=aA hN
  have HSV:Hid (∀j,j<3→0≤sv to a b j∧sv to a b j≤5):=aA (fun j hj=>by
   unfold sv;split
   ·exact⟨t0,t5⟩
   ·split
    ·exact⟨a0,a5⟩
    ·exact⟨b0,b5⟩)
  have HPB:=aA (EF hok);obtain⟨i0,hi0,hz0,hz1,hz2⟩:=info_parts GE;clear hN hok t0 t5 a0 a5 b0 b5;go_enter Tryz.func32,Tryz.ntmps32;go_wp2_with fail;refine HWC.out.mono ?_;rintro r w1 ⟨rfl,hb1⟩;have hlt1:w.heap.size<w1.heap.size:=dR (by simp) hb1.size
  have hcc:∀j:Nat,w1.cell? ⟨w.heap.size,j,none⟩=#[Value.int .i64 (K:Int),.int .i64 to,.int .i64 a,.int .i64 b,.slice pa n cap][j]? :=fun j=>(hb1.cell (p:=⟨w.heap.size,j,none⟩) (by simp)).trans (HX.out j)
  have HUND:Hid (n=0∨∀b off,pa=some ⟨b,off,none⟩→b<w1.heap.size):=aA (HUN0.out.imp id (fun hh b off e=>by have:=hh b off e;omega));have HB1:=aA (aC HB0.out hb1)
  have HRD1:=aA (HRD.out.below hb1);have hdw:=(HDW.out.below HB1.out) K hK1 hK8
  have l0:=hcc 0;have l1:=hcc 1
  have l2:=hcc 2;have l3:=hcc 3
  have l4:=hcc 4;simp at l0 l1 l2 l3 l4;have HCC:=aA hcc
  clear hb1 hcc HX HWC HRD HB0;go_wp2_with fail;have hO1:FF w1.heap.size (.slice (some ⟨w1.heap.size,0,none⟩) 1 1) (pG (K:Int) to a b 0) (w1.alloc (.cells #[.string ⟨(AU (K:Int)).toArray⟩] 9)):=World.ownsRow_lit _ _ _ (Nat.le_refl _) (by unfold maxLen;omega) rfl
  have hbb1:=aG w1 (.cells #[.string ⟨(AU (K:Int)).toArray⟩] 9);have HO1:=aA hO1
  have HBB1:=aA hbb1;clear hO1 hbb1 l0 l1 l2 l3 l4 hdw;refine(BT (K:Int) to a b pa n cap _).mono ?_;rintro r w2 ⟨rfl,hb2⟩;have hb2':=aC HBB1.out hb2
  have HB2:=aA (aC HB1.out hb2');have HO2:=aA (aT HO1.out hb2)
  have HRD2:=aA (HRD1.out.below hb2');have hs2:w1.heap.size<w2.heap.size:=dR (by simp) hb2.size
  have hcc:∀j:Nat,w2.cell? ⟨w.heap.size,j,none⟩=#[Value.int .i64 (K:Int),.int .i64 to,.int .i64 a,.int .i64 b,.slice pa n cap][j]? :=fun j=>(hb2'.cell (p:=⟨w.heap.size,j,none⟩) hlt1).trans (HCC.out j)
  have HCC2:=aA hcc;have l0:=hcc 0
  simp at l0;have HNM:=aA (AV (K:Int))
  rw[HNN.out]at HNM;clear hb2 hb2' hcc HO1 HRD1 HCC HBB1;have hba:=aG w2 (.cells #[.int .i64 to,.int .i64 a,.int .i64 b] 88)
  have HBA:=aA hba;have HB3:=aA (aC HB2.out hba)
  have HO3:=aA (aT HO2.out hba);have HRD3:=aA (HRD2.out.below hba)
  have hlt2:w.heap.size<w2.heap.size:=by omega
  have hne2:w.heap.size≠w2.heap.size:=by omega
  have hc3:∀j:Nat,(w2.alloc (.cells #[.int .i64 to,.int .i64 a,.int .i64 b] 88)).cell? ⟨w.heap.size,j,none⟩=#[Value.int .i64 (K:Int),.int .i64 to,.int .i64 a,.int .i64 b,.slice pa n cap][j]? :=fun j=>(hba.cell (p:=⟨w.heap.size,j,none⟩) hlt2).trans (HCC2.out j)
  have hv3:∀j:Nat,j<3→(w2.alloc (.cells #[.int .i64 to,.int .i64 a,.int .i64 b] 88)).cell? ⟨w2.heap.size,j,none⟩=some (.int .i64 (sv to a b j)):=fun j hj=>by rw[World.cell?_alloc_at _ _ _ _ rfl];rcases(show j=0∨j=1∨j=2 by omega)with rfl|rfl|rfl<;>rfl
  have HC3:=aA hc3;have HH4:=aA (heap_alloc_new w2 (.cells #[.int .i64 to,.int .i64 a,.int .i64 b] 88))
  clear hba hc3 hv3;go_wp2_with fail;refine(HNM.out _).mono ?_;rintro r w' ⟨rfl,hw'⟩;obtain rfl:=hw'.symm;clear hw' l0;go_wp2;obtain⟨W3,hW3⟩:∃W,w2.alloc (.cells #[.int .i64 to,.int .i64 a,.int .i64 b] 88)=W:=⟨_,rfl⟩
  obtain⟨B4,hB4⟩:∃B,B=w2.heap.size:=⟨_,rfl⟩
  rw[hW3]at HB3 HO3 HRD3 HC3 HH4⊢;rw[←hB4]at HH4⊢;have hB4lt:B4<W3.heap.size:=by rw[←hW3,hB4];simp
  have hwlt:w.heap.size<W3.heap.size:=by rw[←hW3];simp;omega
  have hwB:w.heap.size≤B4:=by omega
  have HBA2:Hid (Below w2.heap.size w2 W3):=by rw[←hW3];exact HBA
  clear hW3 HBA HB2 HO2 HRD2 HCC2 hne2 hlt2 hB4 HBA2;have H4:Hid (W3.heap[B4]? =some (.cells #[.int .i64 to,.int .i64 a,.int .i64 b] 88 (0,0))):=HH4
  go_loopw [23,3] (fun v23 v3 wr=>∃(j g cp:Nat),j≤N∧v23= .int .i64 (j:Int)∧v3= .slice (some ⟨g,0,none⟩) (j+1) cp∧Hid (IF w w1 B4 (K:Int) to a b pa n cap f j (.slice (some ⟨g,0,none⟩) (j+1) cp) wr)) (fun v23 _ _=>N-(intOf v23).toNat);case atStart=>exact⟨0,_,_,by omega,rfl,rfl,aA ⟨HO3.out,HB3.out,HRD3.out,fun i _=>HC3.out i,H4.out⟩⟩
  case round=>
   obtain⟨j,g,cp,hj,rfl,rfl,HI⟩:=hrel;have hs0:w.heap.size<wr.heap.size:=uK _ _ (HI.out.2.2.2.1 0 (by omega))
   have hs1:w1.heap.size≤wr.heap.size:=by have:=(lT HI.out.1).2;omega
   by_cases hjN:j<N
   ·have hjI:(j:Int)<(N:Int):=by omega
    obtain⟨x0,x5⟩:=HSV.out j (by omega);have c4:=DE HI.out.2.2.2.2 (show j<3 by omega)
    obtain⟨x,hx⟩:∃x,sv to a b j=x:=⟨_,rfl⟩
    have HWS:=aA (CE (K:Int) to a b (show j<3 by omega));rw[hx]at x0 x5 c4 HWS;clear hx;have hsl:=fun u=>KN x0 x5 u
    have hw:IntKind.i64.wrap (x+1)=x+1:=by rw[IntKind.wrap_i64];omega
    have hmax:j+1+1≤maxLen:=by unfold maxLen;omega
    have hO4:=HI.out.1.alloc (.cells #[.string ⟨#[eX x]⟩] 9);rw[sF (K:Int) to a b (show j≤3 by omega)]at hO4;have HO4:=aA hO4
    have HN:=aA (heap_alloc_new wr (.cells #[.string ⟨#[eX x]⟩] 9));have HST:=aA (fun g1 cap1 w7 hown hgrow=>IF.next (x:=x) HI.out (show j<3 by omega) hs0 hs1 HWS.out (w7:=w7) (g1:=g1) (cap1:=cap1) hown hgrow hlt1 HUND.out)
    clear hO4 HI;go_wp2_with (at_builtin;refine wpList_append_lies _ rfl (.tmp 27) (.tmp 32) 46 rfl w1.heap.size 9 i0 _ 1 16 Tryz.underlying46 hi0 hz0 hz1 hz2 rfl (by omega) _ (j+1) (EJ (pG (K:Int) to a b j)) rfl HO4.out ⟨wr.heap.size,0,none⟩ 1 1 [.string ⟨#[eX x]⟩] rfl rfl (World.news_of_block HN.out) (AY _) (by omega) hmax (by omega) (by simp;omega) _ rfl ?_;intro g1 cap1 w7 hown2 hgrow2 hat2 hlt2;have HP:=aA (HST.out g1 cap1 w7 hown2 hgrow2);clear hown2 hgrow2 hat2 hlt2);go_roundw;case rel=>exact⟨j+1,g1,cap1,by omega,by go_num,rfl,HP⟩
    case measure=>simp[intOf];omega
   ·have hje:j=N:=by omega
    subst hje;have hnl:¬(j:Int)<(j:Int):=by omega
    have l0:=HI.out.2.2.2.1 0 (by omega);have l4:=HI.out.2.2.2.1 4 (by omega)
    simp at l0 l4;have HWD:=aA (EO (K:Int) to a b n f)
    rw[HNN.out]at HWD;have HLEN:=aA (sF (K:Int) to a b (show j≤3 by omega))
    have HJB:=aA (DQ (K:Int) to a b j (by omega));by_cases hk1:K=1
    ·have hk1b:((K:Int)==1)=true:=by simp[hk1]
     obtain⟨PT,hPT⟩:∃S,iW n f=S:=⟨_,rfl⟩
     have HTX:=aA (BD wr pa n cap f HI.out.2.2.1 (HTB.out.below HI.out.2.1));rw[hPT]at HTX HPB;have HRAW:Hid (fI (K:Int) to a b n f=Lib.join (pG (K:Int) to a b j++[PT]) [32]):=by unfold fI;rw[HWD.out,if_pos (by rw[hk1];rfl),hPT];exact aA rfl
     have hmax:j+1+1≤maxLen:=by unfold maxLen;omega
     clear hPT hk1 HWD;go_wp2_with fail;refine HTX.out.mono ?_;rintro r w4 ⟨rfl,hb4⟩;have hO4:=(aT HI.out.1 hb4).alloc (.cells #[.string ⟨PT.toArray⟩] 9)
     rw[HLEN.out]at hO4;have HO4:=aA hO4
     have HB4':=aA (FO (aC HI.out.2.1 hb4) (.cells #[.string ⟨PT.toArray⟩] 9));have HN:=aA (heap_alloc_new w4 (.cells #[.string ⟨PT.toArray⟩] 9))
     have hs4:w1.heap.size≤w4.heap.size:=gU hs1 hb4.size;have hw1:w.heap.size≤w1.heap.size:=by omega
     clear hO4 hb4 HTX HI l0 l4;go_wp2_with (at_builtin;refine wpList_append_lies _ rfl (.tmp 38) (.tmp 42) 46 rfl w1.heap.size 9 i0 _ 1 16 Tryz.underlying46 hi0 hz0 hz1 hz2 rfl (by omega) _ (j+1) (EJ (pG (K:Int) to a b j)) rfl HO4.out ⟨w4.heap.size,0,none⟩ 1 1 [.string ⟨PT.toArray⟩] rfl rfl (World.news_of_block HN.out) (AY _) (by omega) hmax (by omega) (by simp;omega) _ rfl ?_;intro g1 cap1 w7 hown2 hgrow2 hat2 hlt2;have HO7:=aA hown2;have HB7:=aA (HB4'.out.grown hgrow2 (by simp;omega) (fun k' e'=>gU hw1 (HO4.out.lt k' e').1));clear hown2 hgrow2 hat2 hlt2);have hO7:FF w1.heap.size (.slice (some ⟨g1,0,none⟩) (j+1+1) cap1) (pG (K:Int) to a b j++[PT]) w7:=by
      have:=HO7.out;show World.ownsRow _ _ _ _ _ _ _
      rw[wT,List.length_append,HLEN.out];exact this
     have hlenw:(pG (K:Int) to a b j++[PT]).length=j+1+1:=by rw[List.length_append,HLEN.out];rfl
     have hJ:=FA g1 cap1 (pG (K:Int) to a b j++[PT]) w7 (fun i l hl=>tS hO7 hl) (lT hO7).2.2 (by omega) (by
      rw[hlenw]
      exact wJ hO7) (by
      have h1:=oF (pG (K:Int) to a b j) PT;have h2:=HJB.out
      have h3:=HPB.out
      omega)
     rw[hlenw,←HRAW.out]at hJ;have HJ:=aA hJ
     clear hJ hO7 hlenw;obtain⟨S,hS⟩:∃S,fI (K:Int) to a b n f=S:=⟨_,rfl⟩
     have hSl:S.length≤10000:=by
      rw[←hS,HRAW.out];have h2:=HJB.out
      first|omega|(have h1:=oF (pG (K:Int) to a b j) PT;have h3:=HPB.out;omega)
     have HS:=aA hS;rw[hS]at HJ;clear hS HRAW;go_wp2_with fail;refine HJ.out.mono ?_;rintro r w9 ⟨rfl,hb9⟩;have HB9:=aA (aC HB7.out hb9)
     clear hb9 HJ;by_cases h4:S.length≤400
     ·have h4I:¬(400:Int)<(S.length:Int):=by omega
      have HZ:Hid (R=S):=by rw[←HR.out,hU HWH.out (by rw[HS.out];exact h4),HS.out];exact aA rfl
      go_wp2;go_ret;exact⟨by rw[HZ.out];rfl,HB9.out⟩
     ·have h4I:(400:Int)<(S.length:Int):=by omega
      have HZ:Hid (R=[]):=by rw[←HR.out,oM (by rw[HS.out];exact h4)];exact aA rfl
      go_wp2;go_ret;exact⟨by rw[HZ.out];rfl,HB9.out⟩
    ·have hk1b:((K:Int)==1)=false:=by simp;omega
     have HRAW:Hid (fI (K:Int) to a b n f=Lib.join (pG (K:Int) to a b j) [32]):=by unfold fI;rw[HWD.out,if_neg (by omega),List.append_nil];exact aA rfl
     have hJ:=FA g cp (pG (K:Int) to a b j) wr (fun i l hl=>tS HI.out.1 hl) (lT HI.out.1).2.2 (by rw[HLEN.out];omega) (by rw[HLEN.out];exact wJ HI.out.1) (by have h2:=HJB.out;omega);rw[HLEN.out,←HRAW.out]at hJ;have HJ:=aA hJ
     have HB7:=aA HI.out.2.1;clear hJ hk1 HWD;obtain⟨S,hS⟩:∃S,fI (K:Int) to a b n f=S:=⟨_,rfl⟩
     have hSl:S.length≤10000:=by
      rw[←hS,HRAW.out];have h2:=HJB.out
      first|omega|(have h1:=oF (pG (K:Int) to a b j) PT;have h3:=HPB.out;omega)
     have HS:=aA hS;rw[hS]at HJ;clear hS HRAW;go_wp2_with fail;refine HJ.out.mono ?_;rintro r w9 ⟨rfl,hb9⟩;have HB9:=aA (aC HB7.out hb9)
     clear hb9 HJ;by_cases h4:S.length≤400
     ·have h4I:¬(400:Int)<(S.length:Int):=by omega
      have HZ:Hid (R=S):=by rw[←HR.out,hU HWH.out (by rw[HS.out];exact h4),HS.out];exact aA rfl
      go_wp2;go_ret;exact⟨by rw[HZ.out];rfl,HB9.out⟩
     ·have h4I:(400:Int)<(S.length:Int):=by omega
      have HZ:Hid (R=[]):=by rw[←HR.out,oM (by rw[HS.out];exact h4)];exact aA rfl
      go_wp2;go_ret;exact⟨by rw[HZ.out];rfl,HB9.out⟩
end Go.Proofs.YtoglomfejgpoeaaGreatDoor
namespace Go.Proofs.YtoglomfejgpoeaaGreatDoor
open Go.RowKit Go.Deep Go.Joins Go.WideShapes Go.ChangeShapes
set_option linter.unusedVariables false
set_option linter.unusedSimpArgs false
theorem dS {W:World} {b:Nat} {c0 c1 c2 c3 c4:Value} {t:TypeId} (h:W.heap[b]? =some (.cells #[c0,c1,c2,c3,c4] t (0,0))):(W.cell? ⟨b,0,none⟩=some c0∧W.cell? ⟨b,1,none⟩=some c1∧W.cell? ⟨b,2,none⟩=some c2∧W.cell? ⟨b,3,none⟩=some c3∧W.cell? ⟨b,4,none⟩=some c4)∧∀j,W.frozen? ⟨b,j,none⟩=false:=
 ⟨⟨cell_of_row W b 0 _ _ _ h,cell_of_row W b 1 _ _ _ h,cell_of_row W b 2 _ _ _ h,cell_of_row W b 3 _ _ _ h,cell_of_row W b 4 _ _ _ h⟩,fun j=>by simp[World.frozen?,h]⟩
end Go.Proofs.YtoglomfejgpoeaaGreatDoor
namespace Go.Proofs.YtoglomfejgpoeaaGreatDoor
open Go.RowKit
set_option linter.unusedVariables false
set_option linter.unusedSimpArgs false
theorem iZ : Tryz.prog.globalNamed "loop.example/selvedge/impl.dskWords" = some 0 := by kernel_rfl
theorem mO:(Tryz.prog.globals[0]?).map (·.type)=some 87:=by kernel_rfl
def wordsA:Array Value:=#[.string ⟨#[]⟩,.string ⟨#[115,101,116]⟩,.string ⟨#[97,100,100]⟩,.string ⟨#[109,117,108]⟩,.string ⟨#[97,112,97,114,116]⟩,.string ⟨#[100,111]⟩,.string ⟨#[114,111,117,110,100]⟩,.string ⟨#[98,97,99,107]⟩,.string ⟨#[115,104,111,119]⟩]
theorem uJ {H:Type} {enc:TypeId×Value→H} {w:World} {base:Nat} {sp:Nat→Bool} {held:Bool} {fuel:Nat} {cs:List Value} {p:List MemPlace} (h:DataW.trod enc Tryz.prog w base sp held fuel 87 cs=some (Rows.laid_loop_example_selvedge_impl_dskWords,p)):cs=wordsA.toList:=by
 obtain⟨xs,m,hk,hx,hl,hlen,hf⟩:=DataW.trod_array Tryz.underlying87 h;have hc9:Tryz.prog.cellsOf 87=9:=by kernel_rfl
 have hc1:Tryz.prog.cellsOf 9=1:=by kernel_rfl
 rw[hc9]at hl;simp only[hc1,Nat.mul_one]at hf;have hm:xs.map (·.1)=[.lit (.string []),.lit (.string [115,101,116]),.lit (.string [97,100,100]),.lit (.string [109,117,108]),.lit (.string [97,112,97,114,116]),.lit (.string [100,111]),.lit (.string [114,111,117,110,100]),.lit (.string [98,97,99,107]),.lit (.string [115,104,111,119])]:=by
  have h1:=congrArg Prod.fst hx;have h2:(DataW.agg [.lit (.string []),.lit (.string [115,101,116]),.lit (.string [97,100,100]),.lit (.string [109,117,108]),.lit (.string [97,112,97,114,116]),.lit (.string [100,111]),.lit (.string [114,111,117,110,100]),.lit (.string [98,97,99,107]),.lit (.string [115,104,111,119])]:DataW H)=DataW.agg (xs.map (·.1)):=h1
  injection h2 with h3;exact h3.symm
 have key:∀(i:Nat) (bytes:List UInt8),i<9→(xs.map (·.1))[i]? =some (.lit (.string bytes))→cs[i]? =some (.string ⟨bytes.toArray⟩):=fun i bytes hi hb=>by
  rw[List.getElem?_map]at hb;cases hy:xs[i]? with
  |none=>rw[hy]at hb;cases hb
  |some y=>
   rw[hy]at hb;have h1:=hf i hi
   rw[hy]at h1;obtain⟨s,e1,e2,_⟩:=DataW.trod_string Tryz.underlying9 h1;rw[e2]at hb;have h3:s.data.toList=bytes:=by simp at hb;exact hb
   have h4:=congrArg (·[0]?) e1;simp[List.getElem?_drop]at h4;rw[h4,←h3]
 rw[hm]at key;apply List.ext_getElem?;intro i;by_cases hi:i<9
 ·rcases(show i=0∨i=1∨i=2∨i=3∨i=4∨i=5∨i=6∨i=7∨i=8 by omega)with rfl|rfl|rfl|rfl|rfl|rfl|rfl|rfl|rfl;all_goals(rw[key _ _ hi rfl];rfl)
 ·rw[List.getElem?_eq_none (by omega),List.getElem?_eq_none (by show 9≤i;omega)]
theorem EX {W : World} (h : W.var? Tryz.prog "loop.example/selvedge/impl.dskWords" = some wordsA) : Dw W := fun k h1 h8 => by
 unfold World.var? at h;rw[iZ]at h;simp only[Option.bind_some]at h;cases hb:W.heap[0]? with
 |none=>rw[hb]at h;simp at h
 |some o=>
  rw[hb]at h;cases o with
  |cells c t fr=>
   simp at h;subst h;rw[cell_of_row W 0 k _ _ _ hb];rcases(show k=1∨k=2∨k=3∨k=4∨k=5∨k=6∨k=7∨k=8 by omega)with rfl|rfl|rfl|rfl|rfl|rfl|rfl|rfl<;>rfl
  |_=>simp at h
theorem vQ {W : World} {a b c : String × DataW Unit} {r : List (String × DataW Unit)} (h : laidMet Tryz.prog (a :: b :: c :: ("loop.example/selvedge/impl.dskWords", Rows.laid_loop_example_selvedge_impl_dskWords) :: r) W) : W.var? Tryz.prog "loop.example/selvedge/impl.dskWords" = some wordsA := by
 have h1:=h.tail.tail.tail;obtain⟨ps,⟨g1,t1,cs1,fuel1,p1,q1,hg1,ht1,hv1,hd1,_,_⟩,_⟩:=h1;obtain rfl:=Option.some.inj (iZ.symm.trans hg1);obtain rfl:=Option.some.inj (mO.symm.trans ht1);rw[hv1];congr 1;exact Array.toList_inj.1 (uJ hd1)
open Go.RowKit Go.Deep Go.Joins
def kM (w:World) (a:Option Addr) (n cap:Nat) (ad:Nat→Option Addr) (ln cp:Nat→Nat) (f:Nat→Nat→T):Prop:=
 n≤cap∧n*40≤140737488351232∧(n=0∨∃b off,a=some ⟨b,off,none⟩∧b<w.heap.size∧∀i,i<n→w.cell? ⟨b,off+i,none⟩=some (.slice (ad i) (ln i) (cp i)))∧∀i,i<n→Rd w (ad i) (ln i) (cp i) (f i)
theorem kM.below {w w':World} {a:Option Addr} {n cap:Nat} {ad:Nat→Option Addr} {ln cp:Nat→Nat} {f:Nat→Nat→T} (h:kM w a n cap ad ln cp f) (hb:Below w.heap.size w w'):kM w' a n cap ad ln cp f:=by
 refine⟨h.1,h.2.1,?_,fun i hi=>(h.2.2.2 i hi).below hb⟩;rcases h.2.2.1 with h0|⟨b,off,he,hlt,hc⟩
 ·exact .inl h0
 ·exact .inr ⟨b,off,he,dR hlt hb.size,fun i hi=>(hb.cell (p:=⟨b,off+i,none⟩) hlt).trans (hc i hi)⟩
end Go.Proofs.YtoglomfejgpoeaaGreatDoor
namespace Go.Proofs.YtoglomfejgpoeaaGreatDoor
open Go.RowKit
set_option linter.unusedVariables false
def RL (w:World) (a:Option Addr) (c:Nat) (L:List T):Prop:=Rd w a L.length c (lf L)
theorem RL.below {w w':World} {a:Option Addr} {c:Nat} {L:List T} (h:RL w a c L) (hb:Below w.heap.size w w'):RL w' a c L:=Rd.below h hb
theorem vZ {L:List T} {i:Nat} (h:i<L.length):lf L i=L[i]:=by unfold lf;rw[List.getD_eq_getElem?_getD,List.getElem?_eq_getElem h];rfl
theorem wA {w:World} {a:Option Addr} {n cap:Nat} {f:Nat→T} (h:Rd w a n cap f):∃L:List T,n=L.length∧RL w a cap L:=by
 refine⟨(List.range n).map f,by simp,?_⟩;have e:((List.range n).map f).length=n:=by simp
 have hf:∀i,i<n→lf ((List.range n).map f) i=f i:=fun i hi=>by rw[vZ (by simpa using hi)];simp
 unfold RL;rw[e];refine⟨h.1,h.2.1,?_⟩;rcases h.2.2 with h0|⟨b,off,he,hlt,hc⟩
 ·exact .inl h0
 ·exact .inr ⟨b,off,he,hlt,fun i hi=>by rw[hf i hi];exact hc i hi⟩
variable {w:World} {a b:Option Addr} {ca cb:Nat} {L K:List T}
end Go.Proofs.YtoglomfejgpoeaaGreatDoor
namespace Go.Proofs.YtoglomfejgpoeaaGreatDoor
open Go.RowKit
set_option linter.unusedVariables false
def DZ:Nat→T:=fun _=>⟨0,⟨0,0,0,0⟩⟩
def aJ (k to a b:Int) (p:List T) (m:Nat) (ln:Nat→Nat) (F:Nat→Nat→T):List T×Bool:=
 if m=6∧dW k to a b p.length (lf p)≠[]then
  if k=1 then(p,true)
  else if k=2 then bF (F a.toNat) (ln a.toNat) (F b.toNat) (ln b.toNat)
  else if k=3 then aX (F a.toNat) (ln a.toNat) (F b.toNat) (ln b.toNat)
  else if k=4 then bH (F a.toNat) (ln a.toNat) (F b.toNat) (ln b.toNat)
  else if k=5 then dH (F a.toNat) (ln a.toNat) (F b.toNat) (ln b.toNat)
  else if k=6 then bX (F a.toNat) (ln a.toNat)
  else if k=7 then cH (F a.toNat) (ln a.toNat)
  else bF (F to.toNat) (ln to.toNat) DZ 0
 else([],false)
theorem nY {k to a b:Int} {p:List T} {m:Nat} {ln:Nat→Nat} {F:Nat→Nat→T} (h:¬(m=6∧dW k to a b p.length (lf p)≠[])):aJ k to a b p m ln F=([],false):=if_neg h
theorem DV {k to a b:Int} {n:Nat} {f:Nat→T} (h:dW k to a b n f≠[]):qS k to a b n f=true:=by
 cases e:qS k to a b n f
 ·exact absurd (aU e) h
 ·rfl
theorem bA {k to a b:Int} {n:Nat} {f:Nat→T} (h:dW k to a b n f≠[]):(1≤k∧k≤8)∧(0≤to∧to≤5)∧(0≤a∧a≤5)∧(0≤b∧b≤5)∧aN n f=true:=by have:=of_decide_eq_true (DV h);exact⟨this.1,this.2.1,this.2.2.1,this.2.2.2.1,this.2.2.2.2.1⟩
theorem mD (f:Nat→T) (la:Nat) (g:Nat→T):∀u i,la-i=u→cT f la g 0 i 0=(List.range' i u).map f
 |0,i,h=>by rw[sM (by omega) (by omega)];rfl
 |u+1,i,h=>by rw[qW (by omega) (.inl (by omega)),mD f la g u (i+1) (by omega)];rfl
theorem GI (p:List T):(List.range' 0 p.length).map (lf p)=p:=by refine List.ext_getElem (by simp) (fun i h1 h2=>?_);simp[lf,List.getD_eq_getElem?_getD,List.getElem?_eq_getElem h2]
theorem tV {p:List T} {g:Nat→T} (h:aN p.length (lf p)=true):bF (lf p) p.length g 0=(p,true):=by
 have e:cT (lf p) p.length g 0 0 0=p:=by rw[mD (lf p) p.length g p.length 0 (by omega),GI]
 have hl:p.length≤400:=(eB h).1;have h0:aN 0 g=true:=by simp[aN]
 unfold bF;rw[e,if_pos ⟨h,h0,hl⟩]
theorem pV (k to a b:Int) (p:List T) (m:Nat) (ln:Nat→Nat) (F:Nat→Nat→T):(aJ k to a b p m ln F).1.length≤400:=by
 unfold aJ;split
 ·next h=>
  repeat' split
  ·exact(eB (bA h.2).2.2.2.2).1
  ·exact iV _ _ _ _
  ·exact jA _ _ _ _
  ·exact sH _ _ _ _
  ·exact mQ _ _ _ _
  ·exact lP _ _
  ·exact nA _ _
  ·exact iV _ _ _ _
 ·exact gC _
theorem nN (w:World) (g:Nat→T):Rd w none 0 0 g:=⟨Nat.le_refl _,by omega,.inl rfl⟩
theorem BJ (w:World) (a:Option Addr) (g:Nat→T):Rd w a 0 0 g:=⟨Nat.le_refl _,by omega,.inl rfl⟩
abbrev gN (B sb:Nat) (x y:Int) (off A C:Nat) (u v:Value) (w:World):Prop:=
 w.cell? ⟨B,2,none⟩=some (.int .i64 x)∧w.cell? ⟨B,3,none⟩=some (.int .i64 y)∧w.cell? ⟨sb,off+A,none⟩=some u∧w.cell? ⟨sb,off+C,none⟩=some v
end Go.Proofs.YtoglomfejgpoeaaGreatDoor
