/-
  The program reads a line (readSlots, readSet, DskRead).
-/
import Derived.Test.YtkcmamepoplcdaaGreatDoorXbe
set_option maxHeartbeats 8000000
set_option maxRecDepth 100000
namespace Go.Proofs.YtkcmamepoplcdaaGreatDoor
open Go.Shelf Go.RowKit Go.Maps
set_option linter.unusedVariables false
set_option linter.unusedSimpArgs false
def V3 (w:World) (b:Nat) (f:Nat→Int):Prop:=(∀j,j<3→w.cell? ⟨b,j,none⟩=some (.int .i64 (f j)))∧∀j,w.frozen? ⟨b,j,none⟩=false
theorem V3.lt {w:World} {b:Nat} {f:Nat→Int} (h:V3 w b f):b<w.heap.size:=EU w _ (h.1 0 (by omega))
theorem V3.below {w w':World} {b:Nat} {f:Nat→Int} (h:V3 w b f) (hb:Below w.heap.size w w'):V3 w' b f:=
 ⟨fun j hj=>(hb.cell (p:=⟨b,j,none⟩) h.lt).trans (h.1 j hj),fun j=>(hb.frozen (p:=⟨b,j,none⟩) h.lt).trans (h.2 j)⟩
theorem V3.box (w:World) (y:TypeId):V3 (w.alloc (.cells #[.int .i64 0,.int .i64 0,.int .i64 0] y)) w.heap.size (fun _=>0):=
 ⟨fun j hj=>by
  rw[World.cell?_alloc_at _ _ _ _ rfl]
  rcases(show j=0∨j=1∨j=2 by omega)with rfl|rfl|rfl<;>rfl,fun j=>by rw[World.frozen?_alloc_at _ _ _ _ rfl]⟩
theorem V3.set {w:World} {b:Nat} {f:Nat→Int} (h:V3 w b f) (i:Nat) (x:Int) (hi:i<3):V3 (w.setCell ⟨b,i,none⟩ (.int .i64 x)) b (fun j=>if j=i then x else f j):=
 ⟨fun j hj=>by
  show(w.setCell ⟨b,i,none⟩ (.int .i64 x)).cell? ⟨b,j,none⟩=some (.int .i64 (if j=i then x else f j));by_cases e:j=i
  ·subst e;rw[if_pos rfl];exact World.cell?_setCell_same _ _ _ (h.1 j hj)
  ·rw[if_neg e,World.cell?_setCell_other _ _ _ _ (fun q=>e (by cases q;rfl))];exact h.1 j hj,fun j=>by rw[World.frozen?_setCell];exact h.2 j⟩
def ET (P:List (List UInt8)) (k j:Nat):Int:=if j<k then wS (P.getD j [])else 0
theorem JJ (P:List (List UInt8)) (k:Nat) (x:List UInt8) (hx:P[k]? =some x):(fun j=>if j=k then wS x else ET P k j)=ET P (k+1):=by
 funext j;unfold ET;by_cases e:j=k
 ·subst e;rw[if_pos rfl,if_pos (by omega),List.getD_eq_getElem?_getD,hx];rfl
 ·rw[if_neg e];by_cases q:j<k
  ·rw[if_pos q,if_pos (by omega)]
  ·rw[if_neg q,if_neg (by omega)]
theorem PD (k:Int) (r:List UInt8):DE k r=⟨k,ET (Lib.splitN r [32] (dR k)) (Lib.splitN r [32] (dR k)).length 0,ET (Lib.splitN r [32] (dR k)) (Lib.splitN r [32] (dR k)).length 1,ET (Lib.splitN r [32] (dR k)) (Lib.splitN r [32] (dR k)).length 2,[]⟩:=by unfold DE ET;rw[if_pos (show 0<(Lib.splitN r [32] (dR k)).length from EC _ _)]
theorem AG (k:Int) (hk:2≤k∧k≤8) (r:List UInt8) (hr:r.length≤1048576) (w:World) (hM:EP w):Calls Tryz.prog 67 #[.int .i64 k,.string ⟨r.toArray⟩] w fun e w'=>e= .returned (.agg #[.int .i64 (DE k r).k,.int .i64 (DE k r).to,.int .i64 (DE k r).a,.int .i64 (DE k r).b,.slice none 0 0])∧Below w.heap.size w w':=by
 have hB0:=dB w (.cells #[.int .i64 0,.int .i64 0,.int .i64 0,.int .i64 0,.slice none 0 0] 24) (.cells #[.int .i64 0,.int .i64 0,.int .i64 0] 68);have HB0:=aA hB0
 have hV:=V5.box w 24 (.int .i64 0) (.int .i64 0) (.int .i64 0) (.int .i64 0) (.slice none 0 0);have HV0:=aA (hV.below (aF _ (.cells #[.int .i64 0,.int .i64 0,.int .i64 0] 68)))
 have hA:=V3.box (w.alloc (.cells #[.int .i64 0,.int .i64 0,.int .i64 0,.int .i64 0,.slice none 0 0] 24)) 68;rw[World.size_alloc]at hA;have HA0:=aA hA
 have HNM:=aA (zW k ((w.alloc (.cells #[.int .i64 0,.int .i64 0,.int .i64 0,.int .i64 0,.slice none 0 0] 24)).alloc (.cells #[.int .i64 0,.int .i64 0,.int .i64 0] 68)));have hn:1≤dR k∧dR k≤3:=by rcases(show k=2∨k=3∨k=4∨k=5∨k=6∨k=7∨k=8 by omega)with rfl|rfl|rfl|rfl|rfl|rfl|rfl<;>decide
 obtain⟨n,hnn⟩:∃n,dR k=n:=⟨_,rfl⟩
 have HG:=aA (PD k r);rw[hnn]at HNM hn HG;clear hnn;have HSP:=aA (NE r hr n hn.1 hn.2 _ (hM.below hB0))
 have hPl:(Lib.splitN r [32] n).length≤n:=by have:=uL (min n (r.length+1)-1) r;unfold Lib.splitN;omega
 obtain⟨P,hP⟩:∃P,Lib.splitN r [32] n=P:=⟨_,rfl⟩
 rw[hP]at HSP HG hPl;have HMX:=aA hM
 clear hP hB0 hV hA hM;obtain⟨L,hL⟩:∃L,P.length=L:=⟨_,rfl⟩
 rw[hL]at HSP HG hPl;have HL:=aA hL
 have hL3:L≤3:=by omega
 clear hL hPl;go_enter Tryz.func67,Tryz.ntmps67;go_wp2_with fail;refine HNM.out.mono ?_;rintro e w' ⟨rfl,hw'⟩;obtain rfl:=hw'.symm;clear hw';go_wp2_with fail;refine HSP.out.mono ?_;rintro e w2 ⟨cp,rfl,hb2,hlt2,hcell⟩;have HC:=aA hcell
 have HB2:=aA (aC HB0.out hb2);have HV2:=aA (HV0.out.below hb2)
 have HA2:=aA (HA0.out.below hb2);have hs2:w.heap.size+1+1<w2.heap.size:=by simpa using hlt2
 simp only[World.size_alloc]at HC;clear hcell hb2 hlt2 HSP HNM HB0 HV0 HA0;go_wp2;go_loopw [13] (fun v13 wr=>∃j:Nat,j≤L∧v13= .int .i64 (j:Int)∧Hid (Below w.heap.size w wr∧wr.heap.size=w2.heap.size∧V5 wr w.heap.size (.int .i64 0) (.int .i64 0) (.int .i64 0) (.int .i64 0) (.slice none 0 0)∧V3 wr (w.heap.size+1) (ET P j)∧∀(i:Nat) (x:List UInt8),P[i]? =some x→wr.cell? ⟨w.heap.size+1+1,i,none⟩=some (.string ⟨x.toArray⟩))) (fun v13 _=>L-(intOf v13).toNat);case atStart=>exact⟨0,gO _,rfl,aA ⟨HB2.out,rfl,HV2.out,HA2.out,HC.out⟩⟩
 case round=>
  obtain⟨j,hj,rfl,HI⟩:=hrel;by_cases hjL:j<L
  ·have hjI:(j:Int)<(L:Int):=by omega
   have hj3:(j:Int)<3:=by omega
   obtain⟨x,hx⟩:∃x,P[j]? =some x:=⟨_,List.getElem?_eq_getElem (by rw[HL.out];exact hjL)⟩
   have hcx:=HI.out.2.2.2.2 j x hx;have hca:=HI.out.2.2.2.1.1 j (by omega)
   have hfz:=HI.out.2.2.2.1.2;have HIX:=aA (RE x wr (HMX.out.below HI.out.1))
   obtain⟨y,hy⟩:∃y,wS x=y:=⟨_,rfl⟩
   rw[hy]at HIX
   have HNX:Hid (Below w.heap.size w (wr.setCell ⟨w.heap.size+1,j,none⟩ (.int .i64 y))∧(wr.setCell ⟨w.heap.size+1,j,none⟩ (.int .i64 y)).heap.size=w2.heap.size∧V5 (wr.setCell ⟨w.heap.size+1,j,none⟩ (.int .i64 y)) w.heap.size (.int .i64 0) (.int .i64 0) (.int .i64 0) (.int .i64 0) (.slice none 0 0)∧V3 (wr.setCell ⟨w.heap.size+1,j,none⟩ (.int .i64 y)) (w.heap.size+1) (ET P (j+1))∧∀(i:Nat) (x:List UInt8),P[i]? =some x→(wr.setCell ⟨w.heap.size+1,j,none⟩ (.int .i64 y)).cell? ⟨w.heap.size+1+1,i,none⟩=some (.string ⟨x.toArray⟩)):=aA ⟨HI.out.1.setCell (show w.heap.size≤w.heap.size+1 by omega) _,(World.size_setCell ..).trans HI.out.2.1,HI.out.2.2.1.other (show w.heap.size+1≠w.heap.size by omega) _,by
    have q:=HI.out.2.2.2.1.set j y (by omega);rw[←hy,JJ P j x hx]at q;rw[←hy];exact q,fun i z hz=>by
    rw[World.cell?_setCell_other _ _ _ _ (fun q=>by simp at q)]
    exact HI.out.2.2.2.2 i z hz⟩
   clear hx hy HI;go_wp2_with fail;refine HIX.out.mono ?_;rintro e w' ⟨rfl,hw'⟩;obtain rfl:=hw'.symm;clear hw';go_wp2;go_roundw;case rel=>exact⟨j+1,by omega,by go_num,HNX⟩
   case measure=>simp[intOf];omega
  ·have hje:j=L:=by omega
   have hnl:¬(j:Int)<(L:Int):=by omega
   obtain⟨hBr,hSr,⟨⟨c0,c1,c2,c3,c4⟩,cz⟩,hV3,hCr⟩:=HI.out;have a0:=hV3.1 0 (by omega)
   have a1:=hV3.1 1 (by omega);have a2:=hV3.1 2 (by omega)
   rw[hje]at a0 a1 a2;have HBr:=aA hBr
   clear hBr hSr hV3 hCr HI hje;go_wp2;refine bC (v:=.agg #[.int .i64 k,.int .i64 (ET P L 0),.int .i64 (ET P L 1),.int .i64 (ET P L 2),.slice none 0 0]) (by simp[results,Tryz.results67,go_sem, *]) rfl ?_;rw[HG.out];exact⟨rfl,((((HBr.out.setCell (Nat.le_refl _) _).setCell (Nat.le_refl _) _).setCell (Nat.le_refl _) _).setCell (Nat.le_refl _) _).setCell (Nat.le_refl _) _⟩
theorem JB (r:List UInt8) (hr:r.length≤1048576) (w:World) (hM:EP w) (hE:Er w) (hT:Tb w):Calls Tryz.prog 66 #[.int .i64 1,.string ⟨r.toArray⟩] w fun e w'=>∃pa cap,e= .returned (.agg #[.int .i64 (EQ r).k,.int .i64 (EQ r).to,.int .i64 (EQ r).a,.int .i64 (EQ r).b,.slice pa (EQ r).P.length cap])∧Below w.heap.size w w'∧iJ w.heap.size w' pa cap (EQ r).P:=by
 have hB0:=aF w (.cells #[.int .i64 0,.int .i64 0,.int .i64 0,.int .i64 0,.slice none 0 0] 24);have HV0:=aA (V5.box w 24 (.int .i64 0) (.int .i64 0) (.int .i64 0) (.int .i64 0) (.slice none 0 0))
 have HCU:=aA (QY r hr _ (hM.below hB0));have HG:Hid (EQ r=⟨1,wS (Lib.cut r [32]).1,0,0,(dV (Lib.cut r [32]).2.1).1⟩):=aA rfl
 have hl2:(Lib.cut r [32]).2.1.length≤1048576:=by
  unfold Lib.cut;split
  ·simp;omega
  ·simp
 obtain⟨q,hq⟩:∃q,Lib.cut r [32]=q:=⟨_,rfl⟩
 rw[hq]at HCU HG hl2;obtain⟨x,y,z⟩:=q;simp only at HCU HG hl2;have HB0:=aA hB0
 have HMX:=aA hM;have HE:=aA hE
 have HT:=aA hT;clear hq hB0 hM hE hT;go_enter Tryz.func66,Tryz.ntmps66;go_wp2_with fail;refine HCU.out.mono ?_;rintro e w1 ⟨rfl,hb1⟩;have HB1:=aA (aC HB0.out hb1)
 have HV1:=aA (HV0.out.below hb1);have hlt1:w.heap.size<w1.heap.size:=eB (by simp) hb1.size
 clear hb1 HB0 HV0 HCU;have HPR:=aA (IR y hl2 w1 (HE.out.below HB1.out) (HT.out.below HB1.out))
 go_wp2_with fail;refine HPR.out.mono ?_;rintro e w2 ⟨pa,cap,rfl,hb2,hout⟩;have HB2:=aA (aC HB1.out hb2)
 have HV2:=aA (HV1.out.below hb2);have HO2:=aA hout
 clear hb2 hout HPR HB1 HV1;obtain⟨⟨c0,c1,c2,c3,c4⟩,cz⟩:=HV2.out;have HIX:=aA (RE x w2 (HMX.out.below HB2.out))
 go_wp2_with fail;refine HIX.out.mono ?_;rintro e w' ⟨rfl,hw'⟩;obtain rfl:=hw'.symm;clear hw' HIX;go_wp2;refine bC (v:=.agg #[.int .i64 1,.int .i64 (wS x),.int .i64 0,.int .i64 0,.slice pa (dV y).1.length cap]) (by simp[results,Tryz.results66,go_sem, *]) rfl ?_;rw[HG.out];exact⟨pa,cap,rfl,((((HB2.out.setCell (Nat.le_refl _) _).setCell (Nat.le_refl _) _).setCell (Nat.le_refl _) _).setCell (Nat.le_refl _) _).setCell (Nat.le_refl _) _,nW (rQ HO2.out (by omega) _ _ _ _ _) (by omega)⟩
theorem FT (s:List UInt8) (hs:s.length≤1048576) (w:World) (hM:EP w) (hE:Er w) (hT:Tb w) (hD:Dw w):Calls Tryz.prog 9 #[.string ⟨s.toArray⟩] w (iB w s):=by
 have hB0:=aF w (.cells #[.int .i64 0,.int .i64 0,.int .i64 0,.int .i64 0,.slice none 0 0] 24);have HV0:=aA (V5.box w 24 (.int .i64 0) (.int .i64 0) (.int .i64 0) (.int .i64 0) (.slice none 0 0))
 have HCU:=aA (QY s hs _ (hM.below hB0));have HNO:Hid (∀w',(∀l,cD l s→False)→Below w.heap.size w w'→iB w s (.returned (.tuple #[.agg #[.int .i64 0,.int .i64 0,.int .i64 0,.int .i64 0,.slice none 0 0],.bool false])) w'):=aA (fun w' h hb=>yC h hb)
 have HYES:Hid (∀(k to a b:Int) (P:List T) (w':World) (pa:Option Addr) (cap:Nat),cD ⟨k,to,a,b,P⟩ s→Below w.heap.size w w'→iJ w.heap.size w' pa cap P→iB w s (.returned (.tuple #[.agg #[.int .i64 k,.int .i64 to,.int .i64 a,.int .i64 b,.slice pa P.length cap],.bool true])) w'):=aA (fun k to a b P w' pa cap h hb ho=>lT h hb ho);have HYES0:Hid (∀(k to a b:Int) (w':World),cD ⟨k,to,a,b,[]⟩ s→Below w.heap.size w w'→iB w s (.returned (.tuple #[.agg #[.int .i64 k,.int .i64 to,.int .i64 a,.int .i64 b,.slice none 0 0],.bool true])) w'):=aA (fun k to a b w' h hb=>lT h hb (mP _ _))
 have HEND:Hid (∀(V:World) (B:Below w.heap.size w V) (v0 v1 v2 v3 v4:Value),Below w.heap.size w (((((V.setCell ⟨w.heap.size,0,none⟩ v0).setCell ⟨w.heap.size,1,none⟩ v1).setCell ⟨w.heap.size,2,none⟩ v2).setCell ⟨w.heap.size,3,none⟩ v3).setCell ⟨w.heap.size,4,none⟩ v4)):=aA (fun V B v0 v1 v2 v3 v4=>((((B.setCell (Nat.le_refl _) _).setCell (Nat.le_refl _) _).setCell (Nat.le_refl _) _).setCell (Nat.le_refl _) _).setCell (Nat.le_refl _) _);obtain⟨PS,hPS⟩:∃Q:Ending→World→Prop,iB w s=Q:=⟨_,rfl⟩
 rw[hPS]at HNO HYES HYES0⊢;have hl1:(Lib.cut s [32]).1.length≤1048576:=by
  unfold Lib.cut;split
  ·simp;omega
  ·exact hs
 have hl2:(Lib.cut s [32]).2.1.length≤1048576:=by
  unfold Lib.cut;split
  ·simp;omega
  ·simp
 have HIS:Hid (∀l,cD l s→l.k=kn (Lib.cut s [32]).1∧(1≤l.k∧l.k≤8)∧LO l.k (Lib.cut s [32]).2.1=l):=aA (fun l hl=>by
  obtain⟨e1,e2⟩:=RD hl.ok
  exact⟨by rw[e1,rH hl.ok.k],hl.ok.k,e2⟩)
 have HS0:Hid (kn (Lib.cut s [32]).1≠0→s≠[]):=aA (fun q e=>by rw[e]at q;exact q (by decide));obtain⟨q,hq⟩:∃q,Lib.cut s [32]=q:=⟨_,rfl⟩
 rw[hq]at HCU HIS HS0 hl1 hl2;obtain⟨x,y,z⟩:=q;simp only at HCU HIS HS0 hl1 hl2;have HB0:=aA hB0
 have HMX:=aA hM;have HE:=aA hE
 have HT:=aA hT;have HD:=aA hD
 have hky:=vJ x hl1;have hat:=PY x
 obtain⟨K,hK⟩:∃K,kn x=K:=⟨_,rfl⟩
 have hKb:=GI x;rw[hK]at hat hKb HIS HS0;clear hq hB0 hM hE hT hD hPS hK;have hzf:∀u:World,(zeroValue 55).run Tryz.prog u= .ok .nilFunc u:=fun _=>by kernel_rfl
 go_enter Tryz.func9,Tryz.ntmps9;go_wp2_with fail;refine HCU.out.mono ?_;rintro e w1 ⟨rfl,hb1⟩;have HB1:=aA (aC HB0.out hb1)
 have HV1:=aA (HV0.out.below hb1);clear hb1 HB0 HV0 HCU;go_wp2_with fail;refine(xN w1).mono ?_;rintro e w2 ⟨b,rfl,hown,hb2⟩;have HB2:=aA (aC HB1.out hb2)
 have HV2:=aA (HV1.out.below hb2);have hlt2:w.heap.size<w2.heap.size:=HV2.out.lt
 have HOWN:=aA hown;clear hb2 HB1 HV1 hown;by_cases hK0:K=0
 ·have hhas:Maps.has rdD (mE x)=false:=by rw[hat.2,hK0];rfl
  have HBAD:Hid (∀l,cD l s→False):=aA (fun l hl=>by have q:=HIS.out l hl;omega);obtain⟨⟨c0,c1,c2,c3,c4⟩,cz⟩:=HV2.out;go_wp2_with (at_lookup;refine wpList_lookup_own_ok _ rfl _ _ 57 rfl 9 55 (string_keyed Tryz.underlying9) Tryz.underlying57 nH (hzf _) (.lit (.int .i64 0)) [] vF b 8 rdD rfl HOWN.out _ (mE x) rfl hky ?_;intro v ps hv;rw[hhas]);refine bC (v:=.tuple #[.agg #[.int .i64 0,.int .i64 0,.int .i64 0,.int .i64 0,.slice none 0 0],.bool false]) (by simp[results,Tryz.results9,go_sem, *]) rfl ?_;with_reducible exact HNO.out _ HBAD.out (HEND.out _ HB2.out _ _ _ _ _)
 ·have hhas:Maps.has rdD (mE x)=true:=by rw[hat.2];exact decide_eq_true hK0
  have hk1:1≤K∧K≤8:=by omega
  by_cases hS:K=1
  ·have HG:Hid (∀l,cD l s→l=EQ y):=aA (fun l hl=>by
    obtain⟨e1,e2,e3⟩:=HIS.out l hl
    rw[←e3,e1,hS];rfl)
   have hgk:(EQ y).k=1:=rfl;have HRD:=aA (fun u (hb:Below w.heap.size w u)=>JB y hl2 u (HMX.out.below hb) (HE.out.below hb) (HT.out.below hb))
   obtain⟨G,hG⟩:∃G,EQ y=G:=⟨_,rfl⟩
   rw[hG]at HG HRD;clear hG hgk;obtain⟨gk,gt,ga,gb,gP⟩:=G;simp only at HRD HG;have HI1:Hid ((⟨gk,gt,ga,gb,gP⟩:kR).txt=s→cD ⟨gk,gt,ga,gb,gP⟩ s):=aA (fun q=>⟨q,HS0.out hK0⟩)
   have HTX:=aA (fun u pa cap (hb:Below w.heap.size w u) (h:Rd u pa gP.length cap (lf gP))=>eK gk gt ga gb pa gP.length cap (lf gP) u h (HT.out.below hb) (HD.out.below hb));obtain⟨X,hX⟩:∃X,dW gk gt ga gb gP.length (lf gP)=X:=⟨_,rfl⟩
   have HXX:Hid ((⟨gk,gt,ga,gb,gP⟩:kR).txt=X):=aA hX;rw[hX]at HTX;clear hX;have hfv:∀(v:Value) (ps:List MemPlace),nH v=some (rdD.atKey (mE x) (.lit (.int .i64 0)),ps)→v= .func (.func 66) #[.int .i64 1] #[]:=fun v ps h=>by
    rw[hat.1]at h;rcases BH h with⟨q,_⟩|⟨_,q⟩
    ·exact absurd q hK0
    ·rw[q,hS];rfl
   go_wp2_with (at_lookup;refine wpList_lookup_own_ok _ rfl _ _ 57 rfl 9 55 (string_keyed Tryz.underlying9) Tryz.underlying57 nH (hzf _) (.lit (.int .i64 0)) [] vF b 8 rdD rfl HOWN.out _ (mE x) rfl hky ?_;intro v ps hv;rw[hhas];obtain rfl:=hfv v ps hv;clear hv);refine(HRD.out _ HB2.out).mono ?_;rintro e w3 ⟨pa,cap,rfl,hb3,hout⟩;have HV3:=aA ((HV2.out.below hb3).below (aF w3 (.cells #[.int .i64 gk,.int .i64 gt,.int .i64 ga,.int .i64 gb,.slice pa gP.length cap] 24)))
   have HL3:=aA (V5.box w3 24 (.int .i64 gk) (.int .i64 gt) (.int .i64 ga) (.int .i64 gb) (.slice pa gP.length cap));have HB3:=aA (aC (aC HB2.out hb3) (aF w3 (.cells #[.int .i64 gk,.int .i64 gt,.int .i64 ga,.int .i64 gb,.slice pa gP.length cap] 24)))
   have hlt3:w.heap.size<w3.heap.size:=eB hlt2 hb3.size;have HO3:=aA (nW (lo':=w2.heap.size) (hout.below (aF w3 (.cells #[.int .i64 gk,.int .i64 gt,.int .i64 ga,.int .i64 gb,.slice pa gP.length cap] 24))) (Nat.le_refl _))
   clear hb3 HV2 HB2 HOWN hat hky hhas hfv HRD hout;have HTY:=aA (HTX.out _ _ _ HB3.out HO3.out.1)
   clear HTX;obtain⟨⟨d0,d1,d2,d3,d4⟩,dz⟩:=HL3.out;go_wp2_with fail;with_reducible refine HTY.out.mono ?_
   rintro e w4 ⟨rfl,hb4⟩;have HB4:=aA (aC HB3.out hb4)
   have HO4:=aA (HO3.out.below hb4);clear d0 d1 d2 d3 d4 dz;obtain⟨⟨c0,c1,c2,c3,c4⟩,cz⟩:=HV3.out.below hb4;obtain⟨⟨d0,d1,d2,d3,d4⟩,dz⟩:=HL3.out.below hb4;clear hb4 HTY HV3 HL3 HB3;by_cases q:X=s
   ·have HIS2:=aA (HI1.out (HXX.out.trans q));have qb:(X==s)=true:=by rw[q];exact beq_self_eq_true _
    clear q;go_wp2;refine bC (v:=.tuple #[.agg #[.int .i64 gk,.int .i64 gt,.int .i64 ga,.int .i64 gb,.slice pa gP.length cap],.bool true]) (by simp[results,Tryz.results9,go_sem, *]) rfl ?_;with_reducible exact HYES.out _ _ _ _ _ _ _ _ HIS2.out (HEND.out _ HB4.out _ _ _ _ _) (nW (rQ HO4.out hlt2 _ _ _ _ _) (Nat.le_of_lt hlt2))
   ·have HBAD:Hid (∀l,cD l s→False):=aA (fun l hl=>q (by have z:=HG.out l hl;rw[←HXX.out,←z];exact hl.1));have qb:(X==s)=false:=beq_eq_false_iff_ne.2 q
    clear q;go_wp2;refine bC (v:=.tuple #[.agg #[.int .i64 0,.int .i64 0,.int .i64 0,.int .i64 0,.slice none 0 0],.bool false]) (by simp[results,Tryz.results9,go_sem, *]) rfl ?_;with_reducible exact HNO.out _ HBAD.out (HEND.out _ HB4.out _ _ _ _ _)
  ·have HG:Hid (∀l,cD l s→l=DE K y):=aA (fun l hl=>by
    obtain⟨e1,e2,e3⟩:=HIS.out l hl
    rw[←e3,e1];unfold LO;rw[if_neg hS])
   have HRD:=aA (fun u (hb:Below w.heap.size w u)=>AG K (by omega) y hl2 u (HMX.out.below hb));have hgP:(DE K y).P=[]:=rfl
   obtain⟨G,hG⟩:∃G,DE K y=G:=⟨_,rfl⟩
   rw[hG]at HG HRD hgP;clear hG;obtain⟨gk,gt,ga,gb,gP⟩:=G;simp only at HRD HG hgP;subst hgP;have HI1:Hid ((⟨gk,gt,ga,gb,[]⟩:kR).txt=s→cD ⟨gk,gt,ga,gb,[]⟩ s):=aA (fun q=>⟨q,HS0.out hK0⟩)
   have HTX:=aA (fun u (hb:Below w.heap.size w u)=>eK gk gt ga gb none 0 0 (lf []) u (mP 0 u).1 (HT.out.below hb) (HD.out.below hb));obtain⟨X,hX⟩:∃X,dW gk gt ga gb 0 (lf [])=X:=⟨_,rfl⟩
   have HXX:Hid ((⟨gk,gt,ga,gb,[]⟩:kR).txt=X):=aA hX;rw[hX]at HTX;clear hX;have hfv:∀(v:Value) (ps:List MemPlace),nH v=some (rdD.atKey (mE x) (.lit (.int .i64 0)),ps)→v= .func (.func 67) #[.int .i64 K] #[]:=fun v ps h=>by
    rw[hat.1]at h;rcases BH h with⟨q,_⟩|⟨_,q⟩
    ·exact absurd q hK0
    ·rw[q];unfold KH;rw[if_neg hS]
   go_wp2_with (at_lookup;refine wpList_lookup_own_ok _ rfl _ _ 57 rfl 9 55 (string_keyed Tryz.underlying9) Tryz.underlying57 nH (hzf _) (.lit (.int .i64 0)) [] vF b 8 rdD rfl HOWN.out _ (mE x) rfl hky ?_;intro v ps hv;rw[hhas];obtain rfl:=hfv v ps hv;clear hv);refine(HRD.out _ HB2.out).mono ?_;rintro e w3 ⟨rfl,hb3⟩;have HV3:=aA ((HV2.out.below hb3).below (aF w3 (.cells #[.int .i64 gk,.int .i64 gt,.int .i64 ga,.int .i64 gb,.slice none 0 0] 24)))
   have HL3:=aA (V5.box w3 24 (.int .i64 gk) (.int .i64 gt) (.int .i64 ga) (.int .i64 gb) (.slice none 0 0));have HB3:=aA (aC (aC HB2.out hb3) (aF w3 (.cells #[.int .i64 gk,.int .i64 gt,.int .i64 ga,.int .i64 gb,.slice none 0 0] 24)))
   have hlt3:w.heap.size<w3.heap.size:=eB hlt2 hb3.size;clear hb3 HV2 HB2 HOWN hat hky hhas hfv HRD;have HTY:=aA (HTX.out _ HB3.out)
   clear HTX;obtain⟨⟨d0,d1,d2,d3,d4⟩,dz⟩:=HL3.out;go_wp2_with fail;with_reducible refine HTY.out.mono ?_
   rintro e w4 ⟨rfl,hb4⟩;have HB4:=aA (aC HB3.out hb4)
   clear d0 d1 d2 d3 d4 dz;obtain⟨⟨c0,c1,c2,c3,c4⟩,cz⟩:=HV3.out.below hb4;obtain⟨⟨d0,d1,d2,d3,d4⟩,dz⟩:=HL3.out.below hb4;clear hb4 HTY HV3 HL3 HB3;by_cases q:X=s
   ·have HIS2:=aA (HI1.out (HXX.out.trans q));have qb:(X==s)=true:=by rw[q];exact beq_self_eq_true _
    clear q;go_wp2;refine bC (v:=.tuple #[.agg #[.int .i64 gk,.int .i64 gt,.int .i64 ga,.int .i64 gb,.slice none 0 0],.bool true]) (by simp[results,Tryz.results9,go_sem, *]) rfl ?_;with_reducible exact HYES0.out _ _ _ _ _ HIS2.out (HEND.out _ HB4.out _ _ _ _ _)
   ·have HBAD:Hid (∀l,cD l s→False):=aA (fun l hl=>q (by have z:=HG.out l hl;rw[←HXX.out,←z];exact hl.1));have qb:(X==s)=false:=beq_eq_false_iff_ne.2 q
    clear q;go_wp2;refine bC (v:=.tuple #[.agg #[.int .i64 0,.int .i64 0,.int .i64 0,.int .i64 0,.slice none 0 0],.bool false]) (by simp[results,Tryz.results9,go_sem, *]) rfl ?_;with_reducible exact HNO.out _ HBAD.out (HEND.out _ HB4.out _ _ _ _ _)
end Go.Proofs.YtkcmamepoplcdaaGreatDoor
namespace Go.Proofs.YtkcmamepoplcdaaGreatDoor
open Go.RowKit
set_option linter.unusedVariables false
theorem yO (w:World) (a:Option Addr) (n cap:Nat) (f:Nat→T) (h:Rd w a n cap f):Calls Tryz.prog 114 #[.slice a n cap] w fun r w'=>r= .returned (.bool (bU n f))∧Below w.heap.size w w':=by
 have HR:=aA h;obtain⟨h1,h2,h3⟩:=h;have hn:(n:Int)≤140737488351232:=by omega
 have hno:Hid (∀k,k<n→((f k).m.d≠0∨(f k).m.e≠0)→bU n f=false):=fun k hk hd=>by
  cases hp:bU n f
  ·rfl
  ·exfalso;simp only[bU,Bool.and_eq_true,decide_eq_true_eq]at hp;have h1:=hp.2 k hk
   have h2:=hp.1;simp only[aH,decide_eq_true_eq]at h2;have h3:=h2.2 k hk
   simp only[fC,Bool.and_eq_true]at h3;have h4:=M.ok_iff.1 h3.1.2
   omega
 go_enter Tryz.func114,Tryz.ntmps114;go_wp2;go_loopw [7] (fun i wr=>∃k:Nat,k≤n∧i= .int .i64 k∧Below w.heap.size w wr∧Hid (∀j,j<k→(f j).m.d=0∧(f j).m.e=0)) (fun i _=>n-(intOf i).toNat);case atStart=>exact⟨0,gO _,rfl,aD _ _,fun j hj=>absurd hj (Nat.not_lt_zero _)⟩
 case round=>
  obtain⟨k,hk,rfl,hB,hok⟩:=hrel;by_cases hlt:k<n
  ·rcases h3 with h0|⟨b,off,rfl,hblt,hcl⟩
   ·omega
   have hkn:(k:Int)<(n:Int):=by omega
   obtain⟨g0,g1,g2,g3,g4⟩:=(hcl k hlt).below hB hblt;have HB:Hid (∀o:Obj,Below w.heap.size w (wr.alloc o)):=fun o=>hB.alloc hB.size o
   clear hcl;by_cases hd:(f k).m.d=0
   ·have hdb:((f k).m.d !=0)=false:=by simp[hd]
    by_cases he:(f k).m.e=0
    ·have heb:((f k).m.e !=0)=false:=by simp[he]
     have hok':Hid (∀j,j<k+1→(f j).m.d=0∧(f j).m.e=0):=fun j hj=>by
      by_cases hjk:j=k
      ·rw[hjk];exact⟨hd,he⟩
      ·exact hok.out j (by omega)
     clear hok hd he;go_wp2;go_roundw;case rel=>exact⟨k+1,by omega,by go_num,HB.out _,hok'⟩
     case measure=>simp[intOf];omega
    ·have heb:((f k).m.e !=0)=true:=by simp[he]
     have HF:Hid (bU n f=false):=hno.out k hlt (.inr he);clear hok hd he hno;go_wp2;go_ret;exact⟨by rw[HF.out];rfl,HB.out _⟩
   ·have hdb:((f k).m.d !=0)=true:=by simp[hd]
    have HF:Hid (bU n f=false):=hno.out k hlt (.inl hd);clear hok hd hno;go_wp2;go_ret;exact⟨by rw[HF.out];rfl,HB.out _⟩
  ·have HE:Hid (bU n f=aH n f):=by
    show _=_;have:(∀i,i<n→(f i).m.d+(f i).m.e≤0):=fun i hi=>by have:=hok.out i (by omega);omega
    rw[bU,decide_eq_true this,Bool.and_true]
   clear hok hno;go_wp2_with fail;refine(dU _ _ _ _ f (HR.out.below hB)).mono ?_;rintro r w1 ⟨rfl,hb⟩;have HB1:=aA (aC hB hb)
   clear hb;go_wp2;go_ret;exact⟨by rw[HE.out];rfl,HB1.out⟩
end Go.Proofs.YtkcmamepoplcdaaGreatDoor
