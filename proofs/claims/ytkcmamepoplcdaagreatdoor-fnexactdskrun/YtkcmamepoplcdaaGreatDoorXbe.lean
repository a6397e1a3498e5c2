/-
  The program writes a line: its parts (named, slots, dskWhole).
-/
import Derived.Test.YtkcmamepoplcdaaGreatDoorXbd
set_option maxHeartbeats 8000000
set_option maxRecDepth 100000
namespace Go.Proofs.YtkcmamepoplcdaaGreatDoor
open Go.Shelf Go.RowKit
set_option linter.unusedVariables false
set_option linter.unusedSimpArgs false
theorem zW (k:Int) (w:World):Calls Tryz.prog 51 #[.int .i64 k] w fun e w'=>e= .returned (.int .i64 (dR k))∧w'=w:=by
 rcases(show k=1∨k=2∨k=3∨k=4∨k=5∨k=6∨k=7∨k=8∨¬(1≤k∧k≤8) by omega)with rfl|rfl|rfl|rfl|rfl|rfl|rfl|rfl|hk
 ·go_enter Tryz.func51,Tryz.ntmps51;go_wp2;go_ret;exact⟨rfl,rfl⟩
 ·go_enter Tryz.func51,Tryz.ntmps51;go_wp2;go_ret;exact⟨rfl,rfl⟩
 ·go_enter Tryz.func51,Tryz.ntmps51;go_wp2;go_ret;exact⟨rfl,rfl⟩
 ·go_enter Tryz.func51,Tryz.ntmps51;go_wp2;go_ret;exact⟨rfl,rfl⟩
 ·go_enter Tryz.func51,Tryz.ntmps51;go_wp2;go_ret;exact⟨rfl,rfl⟩
 ·go_enter Tryz.func51,Tryz.ntmps51;go_wp2;go_ret;exact⟨rfl,rfl⟩
 ·go_enter Tryz.func51,Tryz.ntmps51;go_wp2;go_ret;exact⟨rfl,rfl⟩
 ·go_enter Tryz.func51,Tryz.ntmps51;go_wp2;go_ret;exact⟨rfl,rfl⟩
 ·have e:dR k=0:=by unfold dR;rw[if_neg (by omega),if_neg (by omega),if_neg (by omega)]
  have b1:(k==1)=false:=by simp;omega
  have b2:(k==2)=false:=by simp;omega
  have b3:(k==3)=false:=by simp;omega
  have b4:(k==4)=false:=by simp;omega
  have b5:(k==5)=false:=by simp;omega
  have b6:(k==6)=false:=by simp;omega
  have b7:(k==7)=false:=by simp;omega
  have b8:(k==8)=false:=by simp;omega
  rw[e];clear e hk;go_enter Tryz.func51,Tryz.ntmps51;go_wp2;go_ret;exact⟨rfl,rfl⟩
theorem JK (k to a b:Int) (pa:Option Addr) (n cap:Nat) (w:World):Calls Tryz.prog 50 #[.agg #[.int .i64 k,.int .i64 to,.int .i64 a,.int .i64 b,.slice pa n cap]] w fun e w'=>e= .returned (.agg #[.int .i64 to,.int .i64 a,.int .i64 b])∧Below w.heap.size w w':=by go_enter Tryz.func50,Tryz.ntmps50;go_wp2;refine bC (v:=.agg #[.int .i64 to,.int .i64 a,.int .i64 b]) (by simp[results,Tryz.results50,go_sem]) rfl ⟨rfl,?_⟩;first|exact dB w _ _|exact aF w _
def sv (to a b:Int) (j:Nat):Int:=if j=0 then to else if j=1 then a else b
def pS (N:Nat) (to a b:Int) (j:Nat):Bool:=decide ((0≤sv to a b j∧sv to a b j≤5)∧(j<N∨sv to a b j=0))
theorem QK {k to a b:Int} {n:Nat} {f:Nat→T} (hN:dR k≠0):uR k to a b n f=(aH n f&&pS (dR k) to a b 0&&pS (dR k) to a b 1&&pS (dR k) to a b 2&&(decide (k=1)||decide (n=0))):=by
 have hk:1≤k∧k≤8:=by
  unfold dR at hN;split at hN
  ·omega
  ·split at hN
   ·omega
   ·split at hN
    ·omega
    ·exact absurd rfl hN
 have hN1:1≤dR k:=by omega
 rw[Bool.eq_iff_iff];simp only[uR,pS,sv,decide_eq_true_eq,Bool.and_eq_true,Bool.or_eq_true,if_true,if_false,if_pos,show(1:Nat)≠0 by omega,show(2:Nat)≠0 by omega,show(2:Nat)≠1 by omega];generalize dR k=N at *;constructor
 ·rintro⟨q1,q2,q3,q4,q5,q6,q7,q8⟩;exact⟨⟨⟨⟨q5,q2,.inl (by omega)⟩,q3,by omega⟩,q4,by omega⟩,q8⟩
 ·rintro⟨⟨⟨⟨q5,q2,_⟩,q3,q6⟩,q4,q7⟩,q8⟩;exact⟨hk,q2,q3,q4,q5,by omega,by omega,q8⟩
theorem DB (k to a b:Int) (pa:Option Addr) (n cap:Nat) (f:Nat→T) (w:World) (h:Rd w pa n cap f):Calls Tryz.prog 49 #[.agg #[.int .i64 k,.int .i64 to,.int .i64 a,.int .i64 b,.slice pa n cap]] w fun r w'=>r= .returned (.bool (uR k to a b n f))∧Below w.heap.size w w':=by
 have hB0:=aF w (.cells #[.int .i64 k,.int .i64 to,.int .i64 a,.int .i64 b,.slice pa n cap] 24);have hnI:(n:Int)≤9223372036854775807:=by have:=h.2.1;omega
 have HRD:=aA (h.below hB0);have HB0:=aA hB0
 have hx:∀j:Nat,(w.alloc (.cells #[.int .i64 k,.int .i64 to,.int .i64 a,.int .i64 b,.slice pa n cap] 24)).cell? ⟨w.heap.size,j,none⟩=#[Value.int .i64 k,.int .i64 to,.int .i64 a,.int .i64 b,.slice pa n cap][j]? :=fun j=>World.cell?_alloc_at _ _ _ _ rfl
 have HX:=aA hx;obtain⟨N,hN⟩:∃N,dR k=N:=⟨_,rfl⟩
 have HNM:=aA (zW k (w.alloc (.cells #[.int .i64 k,.int .i64 to,.int .i64 a,.int .i64 b,.slice pa n cap] 24)));rw[hN]at HNM;clear hB0 h hx;obtain⟨R,hR⟩:∃R,uR k to a b n f=R:=⟨_,rfl⟩
 rw[hR];by_cases h0:N=0
 ·have HZ:Hid (R=false):=by
   rw[←hR]
   exact aA (aT (fun q=>by
    have:=q.1;rw[h0]at hN
    revert hN
    unfold dR;split
    ·omega
    ·split
     ·omega
     ·split
      ·omega
      ·omega))
  have h0b:((N:Int)==0)=true:=by rw[h0];rfl
  clear hN hR h0;go_enter Tryz.func49,Tryz.ntmps49;go_wp2_with fail;refine HNM.out.mono ?_;rintro r w' ⟨rfl,hw'⟩;obtain rfl:=hw'.symm;clear hw';go_wp2;go_ret;exact⟨by rw[HZ.out];rfl,HB0.out⟩
 ·have h0b:((N:Int)==0)=false:=by simp;omega
  have HW:Hid (R=(aH n f&&pS N to a b 0&&pS N to a b 1&&pS N to a b 2&&(decide (k=1)||decide (n=0)))):=by rw[←hR,QK (by rw[hN];exact h0),hN];exact aA rfl
  clear hN hR;obtain⟨ok,hok⟩:∃x,aH n f=x:=⟨_,rfl⟩
  have HC:=aA (dU _ pa n cap f HRD.out);rw[hok]at HC HW;clear hok;cases ok
  ·have HZ:Hid (R=false):=by rw[HW.out];exact aA (by simp)
   go_enter Tryz.func49,Tryz.ntmps49;go_wp2_with fail;refine HNM.out.mono ?_;rintro r w' ⟨rfl,hw'⟩;obtain rfl:=hw'.symm;clear hw';go_wp2_with fail;refine HC.out.mono ?_;rintro r w1 ⟨rfl,hb1⟩;have HB1:=aA (aC HB0.out hb1)
   clear hb1;go_wp2;go_ret;exact⟨by rw[HZ.out];rfl,HB1.out⟩
  ·have i0:∀u:World,(Instr.index 68 (.agg #[.int .i64 to,.int .i64 a,.int .i64 b]) (.int .i64 0)).run Tryz.prog u= .ok (.int .i64 to) u:=fun _=>by kernel_rfl
   have i1:∀u:World,(Instr.index 68 (.agg #[.int .i64 to,.int .i64 a,.int .i64 b]) (.int .i64 1)).run Tryz.prog u= .ok (.int .i64 a) u:=fun _=>by kernel_rfl
   have i2:∀u:World,(Instr.index 68 (.agg #[.int .i64 to,.int .i64 a,.int .i64 b]) (.int .i64 2)).run Tryz.prog u= .ok (.int .i64 b) u:=fun _=>by kernel_rfl
   have HI:Hid (∀(j:Nat),j<3→∀u:World,(Instr.index 68 (.agg #[.int .i64 to,.int .i64 a,.int .i64 b]) (.int .i64 (j:Int))).run Tryz.prog u= .ok (.int .i64 (sv to a b j)) u):=aA (fun j hj u=>by
    rcases(show j=0∨j=1∨j=2 by omega)with rfl|rfl|rfl
    ·exact i0 u
    ·exact i1 u
    ·exact i2 u)
   clear i0 i1 i2;go_enter Tryz.func49,Tryz.ntmps49;go_wp2_with fail;refine HNM.out.mono ?_;rintro r w' ⟨rfl,hw'⟩;obtain rfl:=hw'.symm;clear hw';go_wp2_with fail;refine HC.out.mono ?_;rintro r w1 ⟨rfl,hb1⟩;have hlt1:w.heap.size<w1.heap.size:=eB (by simp) hb1.size
   have hcc:∀j:Nat,w1.cell? ⟨w.heap.size,j,none⟩=#[Value.int .i64 k,.int .i64 to,.int .i64 a,.int .i64 b,.slice pa n cap][j]? :=fun j=>(hb1.cell (p:=⟨w.heap.size,j,none⟩) (by simp)).trans (HX.out j)
   have l0:=hcc 0;have l1:=hcc 1
   have l2:=hcc 2;have l3:=hcc 3
   have l4:=hcc 4;simp at l0 l1 l2 l3 l4;have HCC:=aA hcc
   have HB1:=aA (aC HB0.out hb1);clear hb1 hcc;go_wp2_with fail;refine(JK k to a b pa n cap _).mono ?_;rintro r w2 ⟨rfl,hb2⟩;have HB2:=aA (aC HB1.out hb2)
   have m0:w2.cell? ⟨w.heap.size,0,none⟩=some (.int .i64 k):=(hb2.cell (p:=⟨w.heap.size,0,none⟩) hlt1).trans l0;have m4:w2.cell? ⟨w.heap.size,4,none⟩=some (.slice pa n cap):=(hb2.cell (p:=⟨w.heap.size,4,none⟩) hlt1).trans l4
   have M0:=aA m0;have M4':=aA m4
   clear hb2 l0 l1 l2 l3 l4 m0 m4 HB1 HCC;go_wp2;go_loopw [19] (fun v wr=>∃j:Nat,j≤3∧v= .int .i64 (j:Int)∧Hid (∀i,i<j→pS N to a b i=true)∧wr=w2) (fun v _=>3-(intOf v).toNat);case atStart=>exact⟨0,by omega,rfl,aA (fun i hi=>by omega),rfl⟩
   case round=>
    obtain⟨j,hj,rfl,HS,hwr⟩:=hrel;obtain rfl:=hwr.symm;clear hwr;by_cases hj3:j<3
    ·have hjI:(j:Int)<3:=by omega
     have hix:=HI.out j hj3;obtain⟨x,hxx⟩:∃x,sv to a b j=x:=⟨_,rfl⟩
     rw[hxx]at hix;have HXX:=aA hxx
     clear hxx
     have HBAD:Hid (¬((0≤x∧x≤5)∧(j<N∨x=0))→R=false):=aA (fun q=>by
      have e:pS N to a b j=false:=by unfold pS;rw[HXX.out];exact decide_eq_false q
      rw[HW.out]
      rcases(show j=0∨j=1∨j=2 by omega)with rfl|rfl|rfl<;>rw[e]<;>simp)
     have HGO:Hid (((0≤x∧x≤5)∧(j<N∨x=0))→∀i,i<j+1→pS N to a b i=true):=aA (fun q i hi=>by
      by_cases hij:i=j
      ·subst hij;unfold pS;rw[HXX.out];exact decide_eq_true q
      ·exact HS.out i (by omega))
     by_cases x0:x<0
     ·have HZ:=aA (HBAD.out (fun q=>by omega));clear HBAD HGO;go_wp2;go_ret;exact⟨by rw[HZ.out];rfl,HB2.out⟩
     ·by_cases x5:6≤x
      ·have HZ:=aA (HBAD.out (fun q=>by omega));have x0b:¬x<0:=x0
       clear HBAD HGO;go_wp2;go_ret;exact⟨by rw[HZ.out];rfl,HB2.out⟩
      ·by_cases hjN:j<N
       ·have HZ:=aA (HGO.out ⟨⟨by omega,by omega⟩,.inl hjN⟩);have hNI:¬(N:Int)≤(j:Int):=by omega
        clear HBAD HGO;go_wp2;go_roundw;case rel=>exact⟨j+1,by omega,by go_num,HZ,by first|rfl|trivial⟩
        case measure=>simp[intOf];omega
       ·have hNI:(N:Int)≤(j:Int):=by omega
        by_cases xz:x=0
        ·have HZ:=aA (HGO.out ⟨⟨by omega,by omega⟩,.inr xz⟩);have xzb:(x !=0)=false:=by simp[xz]
         clear HBAD HGO xz;go_wp2;go_roundw;case rel=>exact⟨j+1,by omega,by go_num,HZ,by first|rfl|trivial⟩
         case measure=>simp[intOf];omega
        ·have HZ:=aA (HBAD.out (fun q=>by omega));have xzb:(x !=0)=true:=by simp[xz]
         clear HBAD HGO xz;go_wp2;go_ret;exact⟨by rw[HZ.out];rfl,HB2.out⟩
    ·have hje:j=3:=by omega
     subst hje;have HZ:Hid (R=(decide (k=1)||decide (n=0))):=by rw[HW.out,HS.out 0 (by omega),HS.out 1 (by omega),HS.out 2 (by omega)];exact aA (by simp)
     have m0:=M0.out;have m4:=M4'.out
     by_cases k1:k=1
     ·have k1b:(k==1)=true:=by simp[k1]
      have HY:Hid (R=true):=by rw[HZ.out];exact aA (by simp[k1])
      clear k1;go_wp2;go_ret;exact⟨by rw[HY.out];rfl,HB2.out⟩
     ·have k1b:(k==1)=false:=by simp[k1]
      have HY:Hid (R=decide (n=0)):=by rw[HZ.out];exact aA (by simp[k1])
      clear k1;by_cases n0:n=0
      ·have n0b:((n:Int)==0)=true:=by simp[n0]
       have HY2:Hid (R=true):=by rw[HY.out];exact aA (decide_eq_true n0)
       clear n0;go_wp2;go_ret;exact⟨by rw[HY2.out];rfl,HB2.out⟩
      ·have n0b:((n:Int)==0)=false:=by simp;omega
       have HY2:Hid (R=false):=by rw[HY.out];exact aA (decide_eq_false n0)
       clear n0;go_wp2;go_ret;exact⟨by rw[HY2.out];rfl,HB2.out⟩
def Dw (w:World):Prop:=∀k:Nat,1≤k→k≤8→w.cell? ⟨0,k,none⟩=some (.string ⟨(fN (k:Int)).toArray⟩)
theorem Dw.below {w w':World} (h:Dw w) (hb:Below w.heap.size w w'):Dw w':=fun k h1 h2=>(hb.cell (p:=⟨0,k,none⟩) (EU _ _ (h k h1 h2))).trans (h k h1 h2)
theorem NV (bk c:Nat) (xs:List (List UInt8)) (w:World) (hcells:∀(j:Nat) x,xs[j]? =some x→w.cell? ⟨bk,j,none⟩=some (.string ⟨x.toArray⟩)) (hbk:bk<w.heap.size) (hN:xs.length≤1000) (hcap:xs.length≤c) (hlen:(Lib.join xs [32]).length≤140737488355328):Calls Tryz.prog 52 #[.slice (some ⟨bk,0,none⟩) xs.length c,.string ⟨#[32]⟩] w fun e w'=>e= .returned (.string ⟨(Lib.join xs [32]).toArray⟩)∧Below w.heap.size w w':=by
 have e:(xs.map fun l=>(⟨l.toArray⟩:ByteArray)).map (fun s=>s.data.toList)=xs:=rN xs
 have:=Any.strings_Join GN xP bk 0 c (xs.map fun l=>(⟨l.toArray⟩:ByteArray)) ⟨#[32]⟩ w (fun j s hs=>by
  rw[Nat.zero_add];rw[List.getElem?_map]at hs;cases hq:xs[j]? with
  |none=>rw[hq]at hs;cases hs
  |some l=>rw[hq]at hs;cases hs;exact hcells j l hq) hbk (by rw[List.length_map];omega) (by rw[List.length_map];exact hcap) (by rw[e];exact hlen)
 rw[List.length_map,e]at this;exact this
theorem TU {x:Int} (h0:0≤x) (h5:x≤5) (u:World):(Instr.slice 9 (.string ⟨#[65,66,67,68,69,70]⟩) (some (.int .i64 x)) (some (.int .i64 (x+1))) none).run Tryz.prog u= .ok (.string ⟨#[cQ x]⟩) u:=by rcases(show x=0∨x=1∨x=2∨x=3∨x=4∨x=5 by omega)with rfl|rfl|rfl|rfl|rfl|rfl<;>kernel_rfl
theorem qC (k:Int):(fN k).length≤5:=by unfold fN;repeat(first|(split;· simp)|simp)
def sN (k to a b:Int) (j:Nat):List (List UInt8):=fN k::(AJ to a b).take j
theorem KA (k to a b:Int) {j:Nat} (hj:j<3):sN k to a b (j+1)=sN k to a b j++[[cQ (sv to a b j)]]:=by rcases(show j=0∨j=1∨j=2 by omega)with rfl|rfl|rfl<;>rfl
theorem wK (k to a b:Int) {j:Nat} (hj:j≤3):(sN k to a b j).length=j+1:=by rcases(show j=0∨j=1∨j=2∨j=3 by omega)with rfl|rfl|rfl|rfl<;>rfl
theorem rB (ws:List (List UInt8)) (x:List UInt8):(Lib.join (ws++[x]) [32]).length≤(Lib.join ws [32]).length+1+x.length:=by
 rw[tW];split
 ·simp
 ·simp;omega
theorem LX (k to a b:Int):∀j,j≤3→(Lib.join (sN k to a b j) [32]).length≤20
 |0,_=>by
  show(Lib.join [fN k] [32]).length≤20;rw[Lib.join_one];have:=qC k
  omega
 |1,_=>by
  have:=qC k;show(Lib.join [fN k,[cQ to]] [32]).length≤20
  simp[Lib.join_cons,Lib.joinTail];omega
 |2,_=>by
  have:=qC k;show(Lib.join [fN k,[cQ to],[cQ a]] [32]).length≤20
  simp[Lib.join_cons,Lib.joinTail];omega
 |3,_=>by
  have:=qC k;show(Lib.join [fN k,[cQ to],[cQ a],[cQ b]] [32]).length≤20
  simp[Lib.join_cons,Lib.joinTail];omega
 |n+4,h=>by omega
theorem NJ (k to a b:Int) (n:Nat) (f:Nat→T):lN k to a b n f=sN k to a b (dR k)++if k=1 then[cO n f]else[]:=rfl
theorem EK {k to a b:Int} {n:Nat} {f:Nat→T} (h:uR k to a b n f=true):(1≤k∧k≤8)∧(0≤to∧to≤5)∧(0≤a∧a≤5)∧(0≤b∧b≤5)∧aH n f=true:=by have:=of_decide_eq_true h;exact⟨this.1,this.2.1,this.2.2.1,this.2.2.2.1,this.2.2.2.2.1⟩
theorem PR {k:Int} (h:1≤k∧k≤8):1≤dR k∧dR k≤3:=by
 unfold dR;split
 ·omega
 ·split
  ·omega
  ·split
   ·omega
   ·omega
theorem CB {n:Nat} {f:Nat→T} (h:aH n f=true):(cO n f).length≤6801:=by
 unfold cO;rw[if_pos h];split
 ·simp
 ·have:=nM n (fun i hi=>(cJ h).2 i hi);have:=(cJ h).1
  omega
def QS (w w1:World) (B4:Nat) (k to a b:Int) (pa:Option Addr) (n cap:Nat) (f:Nat→T) (j:Nat) (v:Value) (wr:World):Prop:=
 oJ w1.heap.size v (sN k to a b j) wr∧Below w.heap.size w wr∧Rd wr pa n cap f∧(∀i,i<5→wr.cell? ⟨w.heap.size,i,none⟩=#[Value.int .i64 k,.int .i64 to,.int .i64 a,.int .i64 b,.slice pa n cap][i]?)∧wr.heap[B4]? =some (.cells #[.int .i64 to,.int .i64 a,.int .i64 b] 68 (0,0))
theorem LD {wr:World} {B4:Nat} {to a b:Int} (h:wr.heap[B4]? =some (.cells #[.int .i64 to,.int .i64 a,.int .i64 b] 68 (0,0))) {j:Nat} (hj:j<3):wr.cell? ⟨B4,j,none⟩=some (.int .i64 (sv to a b j)):=by rw[cell_of_row wr B4 j _ _ _ h];rcases(show j=0∨j=1∨j=2 by omega)with rfl|rfl|rfl<;>rfl
theorem MP {lo:Nat} {g k cp:Nat} {xs:List (List UInt8)} {w:World} (h:oJ lo (.slice (some ⟨g,0,none⟩) k cp) xs w):∃cur,w.heap[g]? =some (.cells cur 9 (0,0)):=by
 rcases h.2 with⟨e,_⟩|⟨g',cap',cur,e,h2,h3,_⟩
 ·cases e
 ·cases e;exact⟨cur,h3⟩
theorem vR {lo:Nat} {g k cp:Nat} {xs:List (List UInt8)} {w:World} (h:oJ lo (.slice (some ⟨g,0,none⟩) k cp) xs w):k≤cp:=by
 rcases h.2 with⟨e,_⟩|⟨g',cap',cur,e,h2,h3,h4,_⟩
 ·cases e
 ·cases e;exact h4
theorem OQ {a w:World} (h:Below a.heap.size a w) (o:Obj):Below a.heap.size a (w.alloc o):=h.alloc h.size o
theorem QS.next {w w1:World} {B4:Nat} {k to a b:Int} {pa:Option Addr} {n cap:Nat} {f:Nat→T} {j g cp:Nat} {wr:World} {x:Int} (h:QS w w1 B4 k to a b pa n cap f j (.slice (some ⟨g,0,none⟩) (j+1) cp) wr) (hj:j<3) (hs0:w.heap.size<wr.heap.size) (hs1:w1.heap.size≤wr.heap.size) (hws:sN k to a b (j+1)=sN k to a b j++[[cQ x]]) {w7:World} {g1 cap1:Nat} (hown:w7.ownsRow w1.heap.size 9 1 (.slice (some ⟨g1,0,none⟩) (j+1+1) cap1) (j+1+1) (uM (sN k to a b j)++[.string ⟨#[cQ x]⟩])) (hgrow:(wr.alloc (.cells #[.string ⟨#[cQ x]⟩] 9)).grownBy w7 (Value.slice (some ⟨g,0,none⟩) (j+1) cp).ownBlock) (hw1:w.heap.size<w1.heap.size) (hrd:n=0∨∀b off,pa=some ⟨b,off,none⟩→b<w1.heap.size):QS w w1 B4 k to a b pa n cap f (j+1) (.slice (some ⟨g1,0,none⟩) (j+1+1) cap1) w7:=by
 obtain⟨ho,hb,hr,hc,h4⟩:=h;have hlt:=lZ ho
 obtain⟨cur,hrow⟩:=MP ho;have hob:∀q,(Value.slice (some ⟨g,0,none⟩) (j+1) cp).ownBlock=some q→q=g:=fun q e=>by simpa[Value.ownBlock]using e.symm
 have hb1:=aF wr (.cells #[.string ⟨#[cQ x]⟩] 9);have hB4:B4<wr.heap.size:=(Array.getElem?_eq_some_iff.1 h4).1
 have hne:B4≠g:=fun e=>by
  rw[e,hrow]at h4;have:=congrArg (fun o=>match o with|some (Obj.cells _ t _)=>t|_=>0) h4
  have q:(9:Nat)=68:=this;exact absurd q (by decide)
 refine⟨?_,?_,?_,?_,?_⟩
 ·show World.ownsRow _ _ _ _ _ _ _;rw[hws,kO,List.length_append,wK k to a b (by omega)];exact hown
 ·exact(aC hb hb1).grown hgrow (by simp;omega) (fun q e=>by rw[hob q e];omega)
 ·exact(hr.below hb1).grown hgrow (hrd.imp id (fun hh b off e=>by
   intro q;have:=hob b q.symm
   have:=hh b off e
   omega))
 ·intro i hi;have e:w7.heap[w.heap.size]? =wr.heap[w.heap.size]? :=(hgrow.block _ (by simp;omega) (fun e=>by have:=hob _ e.symm;omega)).trans (hb1.block _ hs0)
  rw[←hc i hi];exact sP (w:=wr) (a:=⟨w.heap.size,i,none⟩) e
 ·exact((hgrow.block _ (by simp;omega) (fun e=>hne (hob _ e.symm))).trans (hb1.block _ hB4)).trans h4
theorem eK (k to a b:Int) (pa:Option Addr) (n cap:Nat) (f:Nat→T) (w:World) (h:Rd w pa n cap f) (hT:Tb w) (hD:Dw w):Calls Tryz.prog 21 #[.agg #[.int .i64 k,.int .i64 to,.int .i64 a,.int .i64 b,.slice pa n cap]] w fun r w'=>r= .returned (.string ⟨(dW k to a b n f).toArray⟩)∧Below w.heap.size w w':=by
 have hB0:=aF w (.cells #[.int .i64 k,.int .i64 to,.int .i64 a,.int .i64 b,.slice pa n cap] 24);have hnI:(n:Int)≤9223372036854775807:=by have:=h.2.1;omega
 have HRD:=aA (h.below hB0);have hund:n=0∨∀b off,pa=some ⟨b,off,none⟩→b<w.heap.size:=by
  rcases h.2.2 with q|⟨b',off',e,q,_⟩
  ·exact .inl q
  ·exact .inr (fun b off e2=>by rw[e]at e2;cases e2;exact q)
 have HUN0:=aA hund;have HTB:=aA hT
 have HDW:=aA hD;have HB0:=aA hB0
 have hx:∀j:Nat,(w.alloc (.cells #[.int .i64 k,.int .i64 to,.int .i64 a,.int .i64 b,.slice pa n cap] 24)).cell? ⟨w.heap.size,j,none⟩=#[Value.int .i64 k,.int .i64 to,.int .i64 a,.int .i64 b,.slice pa n cap][j]? :=fun j=>World.cell?_alloc_at _ _ _ _ rfl
 have HX:=aA hx;have HWC:=aA (DB k to a b pa n cap f _ HRD.out)
 obtain⟨wh,hwh⟩:∃x,uR k to a b n f=x:=⟨_,rfl⟩
 rw[hwh]at HWC;obtain⟨R,hR⟩:∃R,dW k to a b n f=R:=⟨_,rfl⟩
 rw[hR];have HWH:=aA hwh
 have HR:=aA hR;clear hB0 h hx hT hD hwh hR hund;cases wh
 ·have HZ:Hid (R=[]):=by rw[←HR.out];exact aA (aS HWH.out)
  go_enter Tryz.func21,Tryz.ntmps21;go_wp2_with fail;refine HWC.out.mono ?_;rintro r w1 ⟨rfl,hb1⟩;have HB1:=aA (aC HB0.out hb1)
  clear hb1;go_wp2;go_ret;exact⟨by rw[HZ.out];rfl,HB1.out⟩
 ·obtain⟨⟨k1,k8⟩,⟨t0,t5⟩,⟨a0,a5⟩,⟨b0,b5⟩,hok⟩:=EK HWH.out;obtain⟨K,rfl⟩:∃K:Nat,k=(K:Int):=⟨k.toNat,by omega⟩
  have hK1:1≤K:=by omega
  have hK8:K≤8:=by omega
  have hKI:(K:Int)<9:=by omega
  obtain⟨N,hN⟩:∃N,dR (K:Int)=N:=⟨_,rfl⟩
  have hNb:=PR (k:=(K:Int)) ⟨k1,k8⟩;rw[hN]at hNb;obtain⟨hN1,hN3⟩:=hNb;have hNI:(N:Int)≤3:=by omega
  have HNN:=aA hN
  have HSV:Hid (∀j,j<3→0≤sv to a b j∧sv to a b j≤5):=aA (fun j hj=>by
   unfold sv;split
   ·exact⟨t0,t5⟩
   ·split
    ·exact⟨a0,a5⟩
    ·exact⟨b0,b5⟩)
  have HPB:=aA (CB hok);obtain⟨i0,hi0,hz0,hz1,hz2⟩:=info_parts oQ;clear hN hok t0 t5 a0 a5 b0 b5;go_enter Tryz.func21,Tryz.ntmps21;go_wp2_with fail;refine HWC.out.mono ?_;rintro r w1 ⟨rfl,hb1⟩;have hlt1:w.heap.size<w1.heap.size:=eB (by simp) hb1.size
  have hcc:∀j:Nat,w1.cell? ⟨w.heap.size,j,none⟩=#[Value.int .i64 (K:Int),.int .i64 to,.int .i64 a,.int .i64 b,.slice pa n cap][j]? :=fun j=>(hb1.cell (p:=⟨w.heap.size,j,none⟩) (by simp)).trans (HX.out j)
  have HUND:Hid (n=0∨∀b off,pa=some ⟨b,off,none⟩→b<w1.heap.size):=aA (HUN0.out.imp id (fun hh b off e=>by have:=hh b off e;omega));have HB1:=aA (aC HB0.out hb1)
  have HRD1:=aA (HRD.out.below hb1);have hdw:=(HDW.out.below HB1.out) K hK1 hK8
  have l0:=hcc 0;have l1:=hcc 1
  have l2:=hcc 2;have l3:=hcc 3
  have l4:=hcc 4;simp at l0 l1 l2 l3 l4;have HCC:=aA hcc
  clear hb1 hcc HX HWC HRD HB0;go_wp2_with fail;have hO1:oJ w1.heap.size (.slice (some ⟨w1.heap.size,0,none⟩) 1 1) (sN (K:Int) to a b 0) (w1.alloc (.cells #[.string ⟨(fN (K:Int)).toArray⟩] 9)):=World.ownsRow_lit _ _ _ (Nat.le_refl _) (by unfold maxLen;omega) rfl
  have hbb1:=aF w1 (.cells #[.string ⟨(fN (K:Int)).toArray⟩] 9);have HO1:=aA hO1
  have HBB1:=aA hbb1;clear hO1 hbb1 l0 l1 l2 l3 l4 hdw;refine(JK (K:Int) to a b pa n cap _).mono ?_;rintro r w2 ⟨rfl,hb2⟩;have hb2':=aC HBB1.out hb2
  have HB2:=aA (aC HB1.out hb2');have HO2:=aA (aK HO1.out hb2)
  have HRD2:=aA (HRD1.out.below hb2');have hs2:w1.heap.size<w2.heap.size:=eB (by simp) hb2.size
  have hcc:∀j:Nat,w2.cell? ⟨w.heap.size,j,none⟩=#[Value.int .i64 (K:Int),.int .i64 to,.int .i64 a,.int .i64 b,.slice pa n cap][j]? :=fun j=>(hb2'.cell (p:=⟨w.heap.size,j,none⟩) hlt1).trans (HCC.out j)
  have HCC2:=aA hcc;have l0:=hcc 0
  simp at l0;have HNM:=aA (zW (K:Int))
  rw[HNN.out]at HNM;clear hb2 hb2' hcc HO1 HRD1 HCC HBB1;have hba:=aF w2 (.cells #[.int .i64 to,.int .i64 a,.int .i64 b] 68)
  have HBA:=aA hba;have HB3:=aA (aC HB2.out hba)
  have HO3:=aA (aK HO2.out hba);have HRD3:=aA (HRD2.out.below hba)
  have hlt2:w.heap.size<w2.heap.size:=by omega
  have hne2:w.heap.size≠w2.heap.size:=by omega
  have hc3:∀j:Nat,(w2.alloc (.cells #[.int .i64 to,.int .i64 a,.int .i64 b] 68)).cell? ⟨w.heap.size,j,none⟩=#[Value.int .i64 (K:Int),.int .i64 to,.int .i64 a,.int .i64 b,.slice pa n cap][j]? :=fun j=>(hba.cell (p:=⟨w.heap.size,j,none⟩) hlt2).trans (HCC2.out j)
  have hv3:∀j:Nat,j<3→(w2.alloc (.cells #[.int .i64 to,.int .i64 a,.int .i64 b] 68)).cell? ⟨w2.heap.size,j,none⟩=some (.int .i64 (sv to a b j)):=fun j hj=>by rw[World.cell?_alloc_at _ _ _ _ rfl];rcases(show j=0∨j=1∨j=2 by omega)with rfl|rfl|rfl<;>rfl
  have HC3:=aA hc3;have HH4:=aA (heap_alloc_new w2 (.cells #[.int .i64 to,.int .i64 a,.int .i64 b] 68))
  clear hba hc3 hv3;go_wp2_with fail;refine(HNM.out _).mono ?_;rintro r w' ⟨rfl,hw'⟩;obtain rfl:=hw'.symm;clear hw' l0;go_wp2;obtain⟨W3,hW3⟩:∃W,w2.alloc (.cells #[.int .i64 to,.int .i64 a,.int .i64 b] 68)=W:=⟨_,rfl⟩
  obtain⟨B4,hB4⟩:∃B,B=w2.heap.size:=⟨_,rfl⟩
  rw[hW3]at HB3 HO3 HRD3 HC3 HH4⊢;rw[←hB4]at HH4⊢;have hB4lt:B4<W3.heap.size:=by rw[←hW3,hB4];simp
  have hwlt:w.heap.size<W3.heap.size:=by rw[←hW3];simp;omega
  have hwB:w.heap.size≤B4:=by omega
  have HBA2:Hid (Below w2.heap.size w2 W3):=by rw[←hW3];exact HBA
  clear hW3 HBA HB2 HO2 HRD2 HCC2 hne2 hlt2 hB4 HBA2;have H4:Hid (W3.heap[B4]? =some (.cells #[.int .i64 to,.int .i64 a,.int .i64 b] 68 (0,0))):=HH4
  go_loopw [23,3] (fun v23 v3 wr=>∃(j g cp:Nat),j≤N∧v23= .int .i64 (j:Int)∧v3= .slice (some ⟨g,0,none⟩) (j+1) cp∧Hid (QS w w1 B4 (K:Int) to a b pa n cap f j (.slice (some ⟨g,0,none⟩) (j+1) cp) wr)) (fun v23 _ _=>N-(intOf v23).toNat);case atStart=>exact⟨0,_,_,by omega,rfl,rfl,aA ⟨HO3.out,HB3.out,HRD3.out,fun i _=>HC3.out i,H4.out⟩⟩
  case round=>
   obtain⟨j,g,cp,hj,rfl,rfl,HI⟩:=hrel;have hs0:w.heap.size<wr.heap.size:=EU _ _ (HI.out.2.2.2.1 0 (by omega))
   have hs1:w1.heap.size≤wr.heap.size:=by have:=(lZ HI.out.1).2;omega
   by_cases hjN:j<N
   ·have hjI:(j:Int)<(N:Int):=by omega
    obtain⟨x0,x5⟩:=HSV.out j (by omega);have c4:=LD HI.out.2.2.2.2 (show j<3 by omega)
    obtain⟨x,hx⟩:∃x,sv to a b j=x:=⟨_,rfl⟩
    have HWS:=aA (KA (K:Int) to a b (show j<3 by omega));rw[hx]at x0 x5 c4 HWS;clear hx;have hsl:=fun u=>TU x0 x5 u
    have hw:IntKind.i64.wrap (x+1)=x+1:=by rw[IntKind.wrap_i64];omega
    have hmax:j+1+1≤maxLen:=by unfold maxLen;omega
    have hO4:=HI.out.1.alloc (.cells #[.string ⟨#[cQ x]⟩] 9);rw[wK (K:Int) to a b (show j≤3 by omega)]at hO4;have HO4:=aA hO4
    have HN:=aA (heap_alloc_new wr (.cells #[.string ⟨#[cQ x]⟩] 9));have HST:=aA (fun g1 cap1 w7 hown hgrow=>QS.next (x:=x) HI.out (show j<3 by omega) hs0 hs1 HWS.out (w7:=w7) (g1:=g1) (cap1:=cap1) hown hgrow hlt1 HUND.out)
    clear hO4 HI;go_wp2_with (at_builtin;refine wpList_append_lies _ rfl (.tmp 27) (.tmp 32) 30 rfl w1.heap.size 9 i0 _ 1 16 Tryz.underlying30 hi0 hz0 hz1 hz2 rfl (by omega) _ (j+1) (uM (sN (K:Int) to a b j)) rfl HO4.out ⟨wr.heap.size,0,none⟩ 1 1 [.string ⟨#[cQ x]⟩] rfl rfl (World.news_of_block HN.out) (hU _) (by omega) hmax (by omega) (by simp;omega) _ rfl ?_;intro g1 cap1 w7 hown2 hgrow2 hat2 hlt2;have HP:=aA (HST.out g1 cap1 w7 hown2 hgrow2);clear hown2 hgrow2 hat2 hlt2);go_roundw;case rel=>exact⟨j+1,g1,cap1,by omega,by go_num,rfl,HP⟩
    case measure=>simp[intOf];omega
   ·have hje:j=N:=by omega
    subst hje;have hnl:¬(j:Int)<(j:Int):=by omega
    have l0:=HI.out.2.2.2.1 0 (by omega);have l4:=HI.out.2.2.2.1 4 (by omega)
    simp at l0 l4;have HWD:=aA (NJ (K:Int) to a b n f)
    rw[HNN.out]at HWD;have HLEN:=aA (wK (K:Int) to a b (show j≤3 by omega))
    have HJB:=aA (LX (K:Int) to a b j (by omega));by_cases hk1:K=1
    ·have hk1b:((K:Int)==1)=true:=by simp[hk1]
     obtain⟨PT,hPT⟩:∃S,cO n f=S:=⟨_,rfl⟩
     have HTX:=aA (yT wr pa n cap f HI.out.2.2.1 (HTB.out.below HI.out.2.1));rw[hPT]at HTX HPB;have HRAW:Hid (gC (K:Int) to a b n f=Lib.join (sN (K:Int) to a b j++[PT]) [32]):=by unfold gC;rw[HWD.out,if_pos (by rw[hk1];rfl),hPT];exact aA rfl
     have hmax:j+1+1≤maxLen:=by unfold maxLen;omega
     clear hPT hk1 HWD;go_wp2_with fail;refine HTX.out.mono ?_;rintro r w4 ⟨rfl,hb4⟩;have hO4:=(aK HI.out.1 hb4).alloc (.cells #[.string ⟨PT.toArray⟩] 9)
     rw[HLEN.out]at hO4;have HO4:=aA hO4
     have HB4':=aA (OQ (aC HI.out.2.1 hb4) (.cells #[.string ⟨PT.toArray⟩] 9));have HN:=aA (heap_alloc_new w4 (.cells #[.string ⟨PT.toArray⟩] 9))
     have hs4:w1.heap.size≤w4.heap.size:=jW hs1 hb4.size;have hw1:w.heap.size≤w1.heap.size:=by omega
     clear hO4 hb4 HTX HI l0 l4;go_wp2_with (at_builtin;refine wpList_append_lies _ rfl (.tmp 38) (.tmp 42) 30 rfl w1.heap.size 9 i0 _ 1 16 Tryz.underlying30 hi0 hz0 hz1 hz2 rfl (by omega) _ (j+1) (uM (sN (K:Int) to a b j)) rfl HO4.out ⟨w4.heap.size,0,none⟩ 1 1 [.string ⟨PT.toArray⟩] rfl rfl (World.news_of_block HN.out) (hU _) (by omega) hmax (by omega) (by simp;omega) _ rfl ?_;intro g1 cap1 w7 hown2 hgrow2 hat2 hlt2;have HO7:=aA hown2;have HB7:=aA (HB4'.out.grown hgrow2 (by simp;omega) (fun k' e'=>jW hw1 (HO4.out.lt k' e').1));clear hown2 hgrow2 hat2 hlt2);have hO7:oJ w1.heap.size (.slice (some ⟨g1,0,none⟩) (j+1+1) cap1) (sN (K:Int) to a b j++[PT]) w7:=by
      have:=HO7.out;show World.ownsRow _ _ _ _ _ _ _
      rw[kO,List.length_append,HLEN.out];exact this
     have hlenw:(sN (K:Int) to a b j++[PT]).length=j+1+1:=by rw[List.length_append,HLEN.out];rfl
     have hJ:=NV g1 cap1 (sN (K:Int) to a b j++[PT]) w7 (fun i l hl=>dP hO7 hl) (lZ hO7).2.2 (by omega) (by
      rw[hlenw]
      exact vR hO7) (by
      have h1:=rB (sN (K:Int) to a b j) PT;have h2:=HJB.out
      have h3:=HPB.out
      omega)
     rw[hlenw,←HRAW.out]at hJ;have HJ:=aA hJ
     clear hJ hO7 hlenw;obtain⟨S,hS⟩:∃S,gC (K:Int) to a b n f=S:=⟨_,rfl⟩
     have hSl:S.length≤10000:=by
      rw[←hS,HRAW.out];have h2:=HJB.out
      first|omega|(have h1:=rB (sN (K:Int) to a b j) PT;have h3:=HPB.out;omega)
     have HS:=aA hS;rw[hS]at HJ;clear hS HRAW;go_wp2_with fail;refine HJ.out.mono ?_;rintro r w9 ⟨rfl,hb9⟩;have HB9:=aA (aC HB7.out hb9)
     clear hb9 HJ;by_cases h4:S.length≤400
     ·have h4I:¬(400:Int)<(S.length:Int):=by omega
      have HZ:Hid (R=S):=by rw[←HR.out,jG HWH.out (by rw[HS.out];exact h4),HS.out];exact aA rfl
      go_wp2;go_ret;exact⟨by rw[HZ.out];rfl,HB9.out⟩
     ·have h4I:(400:Int)<(S.length:Int):=by omega
      have HZ:Hid (R=[]):=by rw[←HR.out,rL (by rw[HS.out];exact h4)];exact aA rfl
      go_wp2;go_ret;exact⟨by rw[HZ.out];rfl,HB9.out⟩
    ·have hk1b:((K:Int)==1)=false:=by simp;omega
     have HRAW:Hid (gC (K:Int) to a b n f=Lib.join (sN (K:Int) to a b j) [32]):=by unfold gC;rw[HWD.out,if_neg (by omega),List.append_nil];exact aA rfl
     have hJ:=NV g cp (sN (K:Int) to a b j) wr (fun i l hl=>dP HI.out.1 hl) (lZ HI.out.1).2.2 (by rw[HLEN.out];omega) (by rw[HLEN.out];exact vR HI.out.1) (by have h2:=HJB.out;omega);rw[HLEN.out,←HRAW.out]at hJ;have HJ:=aA hJ
     have HB7:=aA HI.out.2.1;clear hJ hk1 HWD;obtain⟨S,hS⟩:∃S,gC (K:Int) to a b n f=S:=⟨_,rfl⟩
     have hSl:S.length≤10000:=by
      rw[←hS,HRAW.out];have h2:=HJB.out
      first|omega|(have h1:=rB (sN (K:Int) to a b j) PT;have h3:=HPB.out;omega)
     have HS:=aA hS;rw[hS]at HJ;clear hS HRAW;go_wp2_with fail;refine HJ.out.mono ?_;rintro r w9 ⟨rfl,hb9⟩;have HB9:=aA (aC HB7.out hb9)
     clear hb9 HJ;by_cases h4:S.length≤400
     ·have h4I:¬(400:Int)<(S.length:Int):=by omega
      have HZ:Hid (R=S):=by rw[←HR.out,jG HWH.out (by rw[HS.out];exact h4),HS.out];exact aA rfl
      go_wp2;go_ret;exact⟨by rw[HZ.out];rfl,HB9.out⟩
     ·have h4I:(400:Int)<(S.length:Int):=by omega
      have HZ:Hid (R=[]):=by rw[←HR.out,rL (by rw[HS.out];exact h4)];exact aA rfl
      go_wp2;go_ret;exact⟨by rw[HZ.out];rfl,HB9.out⟩
end Go.Proofs.YtkcmamepoplcdaaGreatDoor
