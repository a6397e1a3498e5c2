/-
  What GrbMake hands back, laid open; boxes of bases.
-/
import Derived.Test.YtdidlcjhodejjaaGreatUbk
import Derived.Test.YtdidlcjhodejjaaGreatUbm
import Derived.Test.YtdidlcjhodejjaaGreatUbp
import Derived.Test.YtdidlcjhodejjaaGreatUbl
import Derived.Test.YtdidlcjhodejjaaGreatUbd
import Derived.Test.YtdidlcjhodejjaaGreatUbe
import Derived.Test.YtdidlcjhodejjaaGreatUbg
import Derived.Test.YtdidlcjhodejjaaGreatUbh
import Derived.Test.YtdidlcjhodejjaaGreatUaf
import Derived.ProofKit
import Derived.Deep.Slices
import Derived.Lib.SmallJoins
namespace Go.Proofs.YtdidlcjhodejjaaGreat
open Go.RowKit Go.Deep Go.Joins
set_option linter.unusedVariables false
def MkO (w:World) (n m:Nat) (BL:Nat→List T) (BP:Nat→Nat→List T) (d:Bool) (e:Ending) (w':World):Prop:=∃ (a:Option Addr) (c:Nat) (ad:Nat→Option Addr) (cp:Nat→Nat) (pa:Option Addr) (pc:Nat) (A:Nat→Option Addr) (C:Nat→Nat) (AD:Nat→Nat→Option Addr) (CP:Nat→Nat→Nat),e=.returned (.agg #[.slice a m c,.slice pa m pc,.bool d])∧Below w.heap.size w w'∧RdS w' a m c ad (lN BL) cp (fN BL)∧R3 w' pa m pc n A C AD CP BP
theorem make_open {w:World} {n m:Nat} {BL:Nat→List T} {BP:Nat→Nat→List T} {d:Bool} (hm:m≤12) {e:Ending} {w':World} (h:MakeP w n (⟨m,BL,BP⟩,d) e w'):MkO w n m BL BP d e w':=by
 obtain ⟨tvL,tvP,LS,PS,he,hb,hk⟩:=h
 have hk':BsW (fun b=>b<w.heap.size) w' w.heap.size tvL tvP n m BL m BP LS PS:=hk
 obtain ⟨a,c,ad,cp,rfl,hr⟩:=hk'.readL (by omega)
 obtain ⟨pa,pc,A,C,AD,CP,rfl,hp⟩:=hk'.readP (by omega)
 exact ⟨a,c,ad,cp,pa,pc,A,C,AD,CP,he,hb,hr,hp⟩
theorem mk_m {o:Int} {n:Nat} {L:Nat→List T} {fuel:Int} {m:Nat} {BL:Nat→List T} {BP:Nat→Nat→List T} {d:Bool} (h:grbMake o n L fuel=(⟨m,BL,BP⟩,d)):m≤12:=by
 have:=grbMake_m (o:=o) (n:=n) (L:=L) (fuel:=fuel)
 rw [h] at this
 exact this
theorem mkI {w:World} {o:Int} {a:Option Addr} {n cap:Nat} {ad:Nat→Option Addr} {cp:Nat→Nat} {L:Nat→List T} (h:RdS w a n cap ad (lN L) cp (fN L)) {fuel:Int} {m:Nat} {BL:Nat→List T} {BP:Nat→Nat→List T} {d:Bool} (hX:grbMake o n L fuel=(⟨m,BL,BP⟩,d)):Calls Tryz.prog 55 #[.int .i64 o,.slice a n cap,.int .i64 fuel] w (MkO w n m BL BP d):=
 (grbMakeI w o a n cap ad cp L h fuel).mono fun e w' k=>make_open (mk_m hX) (by rw [hX] at k;exact k)
theorem mkS {w:World} {o:Int} {a:Option Addr} {n cap:Nat} {ad:Nat→Option Addr} {cp:Nat→Nat} {L:Nat→List T} (h:RdS w a n cap ad (lN L) cp (fN L)) {fuel:Int} {m:Nat} {BL:Nat→List T} {BP:Nat→Nat→List T} {d:Bool} (hX:grbMake o n L fuel=(⟨m,BL,BP⟩,d)):Calls Tryz.prog 54 #[.int .i64 o,.slice a n cap,.int .i64 fuel] w (MkO w n m BL BP d):=
 (grbMakeS w o a n cap ad cp L h fuel).mono fun e w' k=>make_open (mk_m hX) (by rw [hX] at k;exact k)
abbrev C3k (b:Nat) (v0 v1 v2:Value) (u:World):Prop:=u.cell? ⟨b,0,none⟩=some v0∧u.cell? ⟨b,1,none⟩=some v1∧u.cell? ⟨b,2,none⟩=some v2
theorem C3k.below {b:Nat} {v0 v1 v2:Value} {u u':World} (h:C3k b v0 v1 v2 u) (hb:Below u.heap.size u u'):C3k b v0 v1 v2 u':=
 ⟨(hb.cell (p:=⟨b,0,none⟩) (World.block_lt_of_cell? u _ h.1)).trans h.1,(hb.cell (p:=⟨b,1,none⟩) (World.block_lt_of_cell? u _ h.2.1)).trans h.2.1,(hb.cell (p:=⟨b,2,none⟩) (World.block_lt_of_cell? u _ h.2.2)).trans h.2.2⟩
end Go.Proofs.YtdidlcjhodejjaaGreat
namespace Go.Proofs.YtdidlcjhodejjaaGreat
open Go.RowKit Go.Deep Go.Joins
set_option linter.unusedVariables false
def rlO:Option (List (List T))→List (List T)
 | some l=>l
 | none=>[]
theorem lof_nil {l:List (List T)} {i:Nat} (h:l.length≤i):Lof l i=[]:=by
 show l.getD i []=[]
 rw [List.getD_eq_getElem?_getD,List.getElem?_eq_none h]
 rfl
theorem least_bd {o:Int} {n:Nat} {L:Nat→List T}:(rlO (grbLeast o n L)).length≤12∧∀ i,(Lof (rlO (grbLeast o n L)) i).length≤400:=by
 cases h:grbLeast o n L with
 | none=>exact ⟨Nat.zero_le _,fun i=>by rw [lof_nil (Nat.zero_le _)];exact Nat.zero_le _⟩
 | some l=>
  have hL:=grbLeast_least h
  refine ⟨hL.le,fun i=>?_⟩
  by_cases hi:i<l.length
  ·exact (okL_falls (hL.ok _ (lof_mem hi)).1).1
  ·show (Lof l i).length≤400
   rw [lof_nil (Nat.le_of_not_lt hi)]
   exact Nat.zero_le _
def LeastI (w:World) (R:Option (List (List T))) (r:Ending) (w':World):Prop:=∃ qa qc ad cp Rb B,r=.returned (.tuple #[.slice qa (rlO R).length qc,.bool R.isSome])∧Below w.heap.size w w'∧OutS w.heap.size w' qa (rlO R).length qc ad (lN (Lof (rlO R))) cp (fN (Lof (rlO R))) Rb B
def LeastM (w:World) (R:Option (List (List T))) (r:Ending) (w':World):Prop:=∃ qa qc ad cp,r=.returned (.tuple #[.slice qa (rlO R).length qc,.bool R.isSome])∧Below w.heap.size w w'∧RdS w' qa (rlO R).length qc ad (lN (Lof (rlO R))) cp (fN (Lof (rlO R)))
theorem LeastO.all {w:World} {R:Option (List (List T))} {r:Ending} {w':World} (h:LeastO w R r w'):LeastI w R r w':=by
 obtain ⟨hb,⟨l,qa,qc,ad,cp,Rb,B,rfl,rfl,hO⟩ | ⟨rfl,rfl⟩⟩:=h
 ·exact ⟨qa,qc,ad,cp,Rb,B,rfl,hb,hO⟩
 ·exact ⟨none,0,fun _=>none,fun _=>0,0,fun _=>0,rfl,hb,⟨⟨Nat.le_refl _,Nat.zero_le _,.inl rfl,fun i hi=>absurd hi (Nat.not_lt_zero _)⟩,.inl rfl,fun i hi=>absurd hi (Nat.not_lt_zero _),fun i hi=>absurd hi (Nat.not_lt_zero _),fun i j _ hj=>absurd hj (Nat.not_lt_zero _)⟩⟩
theorem LeastS.all {w:World} {R:Option (List (List T))} {r:Ending} {w':World} (h:LeastS w R r w'):LeastM w R r w':=by
 obtain ⟨hb,⟨l,qa,qc,ad,cp,rfl,rfl,hO⟩ | ⟨rfl,qa,qc,rfl⟩⟩:=h
 ·exact ⟨qa,qc,ad,cp,rfl,hb,hO⟩
 ·exact ⟨qa,qc,fun _=>none,fun _=>0,rfl,hb,⟨Nat.zero_le _,Nat.zero_le _,.inl rfl,fun i hi=>absurd hi (Nat.not_lt_zero _)⟩⟩
theorem LeastI.from {w w1:World} {R:Option (List (List T))} {r:Ending} {w':World} (h:LeastI w1 R r w') (hb:Below w.heap.size w w1):LeastI w R r w':=by
 obtain ⟨qa,qc,ad,cp,Rb,B,e,hb1,hO⟩:=h
 exact ⟨qa,qc,ad,cp,Rb,B,e,bel_next hb hb1,hO.low hb.size⟩
theorem LeastM.from {w w1:World} {R:Option (List (List T))} {r:Ending} {w':World} (h:LeastM w1 R r w') (hb:Below w.heap.size w w1):LeastM w R r w':=by
 obtain ⟨qa,qc,ad,cp,e,hb1,hO⟩:=h
 exact ⟨qa,qc,ad,cp,e,bel_next hb hb1,hO⟩
def idlOf (o:Int) (n:Nat) (L:Nat→List T):Option (List (List T)):=if (grbMake o n L 60).2=true then grbLeast o (grbMake o n L 60).1.m (grbMake o n L 60).1.L else none
theorem idlOf_bd {o:Int} {n:Nat} {L:Nat→List T}:(rlO (idlOf o n L)).length≤12∧∀ i,(Lof (rlO (idlOf o n L)) i).length≤400:=by
 unfold idlOf
 split
 ·exact least_bd
 ·exact ⟨Nat.zero_le _,fun i=>by rw [lof_nil (Nat.zero_le _)];exact Nat.zero_le _⟩
theorem idlOf_case {o:Int} {n:Nat} {L:Nat→List T} {m:Nat} {BL:Nat→List T} {BP:Nat→Nat→List T} {d:Bool} (h:grbMake o n L 60=(⟨m,BL,BP⟩,d)):idlOf o n L=if d=true then grbLeast o m BL else none:=by unfold idlOf;rw [h]
set_option maxRecDepth 100000 in
set_option maxHeartbeats 4000000 in
theorem idlOfI (w:World) (o:Int) (a:Option Addr) (n cap:Nat) (ad:Nat→Option Addr) (cp:Nat→Nat) (L:Nat→List T) (h:RdS w a n cap ad (lN L) cp (fN L)) :
  Calls Tryz.prog 17 #[.int .i64 o,.slice a n cap] w (LeastI w (idlOf o n L)):=by
 obtain ⟨⟨⟨m,BL,BP⟩,d⟩,hX⟩:∃ X,grbMake o n L 60=X:=⟨_,rfl⟩
 rw [idlOf_case hX]
 obtain ⟨R0,hR0⟩:∃ R0,(if d=true then grbLeast o m BL else none)=R0:=⟨_,rfl⟩
 rw [hR0]
 have HR0:=Hid.mk' hR0
 clear hR0
 have HC:=Hid.mk' (mkI h hX)
 clear h hX
 go_enter Tryz.func17,Tryz.ntmps17
 go_wp2_with fail
 refine HC.out.mono ?_
 rintro r w1 ⟨qa,qc,qad,qcp,pa,pc,A,C,AD,CP,rfl,hb,hr,_⟩
 have bx:=bel_one w1 (.cells #[.slice qa m qc,.slice pa m pc,.bool d] 77)
 have HB:=Hid.mk' (bel_next hb bx)
 have HR:=Hid.mk' (hr.below bx)
 obtain ⟨k0,k1,k2⟩:C3k w1.heap.size (.slice qa m qc) (.slice pa m pc) (.bool d) (w1.alloc (.cells #[.slice qa m qc,.slice pa m pc,.bool d] 77)):=⟨by rw [World.cell?_alloc_at _ _ _ _ rfl];rfl,by rw [World.cell?_alloc_at _ _ _ _ rfl];rfl,by rw [World.cell?_alloc_at _ _ _ _ rfl];rfl⟩
 clear hb hr bx
 cases d
 ·obtain rfl:none=R0:=HR0.out
  go_wp2
  refine bodyPost_ret (results_tmp2 rfl _ _ _) rfl ?_
  exact LeastO.all ⟨HB.out,.inr ⟨rfl,rfl⟩⟩
 ·obtain rfl:grbLeast o m BL=R0:=HR0.out
  go_wp2_with fail
  refine (grbLeastI _ o qa m qc qad qcp BL HR.out).mono ?_
  rintro r w2 hh
  obtain ⟨ya,yc,yad,ycp,Rb,B,rfl,hb2,hO⟩:=LeastI.from (LeastO.all hh) HB.out
  have HH:Hid (LeastI w (grbLeast o m BL) (.returned (.tuple #[.slice ya (rlO (grbLeast o m BL)).length yc,.bool (grbLeast o m BL).isSome])) w2):=⟨ya,yc,yad,ycp,Rb,B,rfl,hb2,hO⟩
  clear hh hb2 hO k0 k1 k2
  go_wp2
  refine bodyPost_ret (results_tmp2 rfl _ _ _) rfl ?_
  exact HH.out
set_option maxRecDepth 100000 in
set_option maxHeartbeats 4000000 in
theorem idlOfS (w:World) (o:Int) (a:Option Addr) (n cap:Nat) (ad:Nat→Option Addr) (cp:Nat→Nat) (L:Nat→List T) (h:RdS w a n cap ad (lN L) cp (fN L)) :
  Calls Tryz.prog 16 #[.int .i64 o,.slice a n cap] w (LeastM w (idlOf o n L)):=by
 obtain ⟨⟨⟨m,BL,BP⟩,d⟩,hX⟩:∃ X,grbMake o n L 60=X:=⟨_,rfl⟩
 rw [idlOf_case hX]
 obtain ⟨R0,hR0⟩:∃ R0,(if d=true then grbLeast o m BL else none)=R0:=⟨_,rfl⟩
 rw [hR0]
 have HR0:=Hid.mk' hR0
 clear hR0
 have HC:=Hid.mk' (mkS h hX)
 clear h hX
 go_enter Tryz.func16,Tryz.ntmps16
 go_wp2_with fail
 refine HC.out.mono ?_
 rintro r w1 ⟨qa,qc,qad,qcp,pa,pc,A,C,AD,CP,rfl,hb,hr,_⟩
 have bx:=bel_one w1 (.cells #[.slice qa m qc,.slice pa m pc,.bool d] 77)
 have HB:=Hid.mk' (bel_next hb bx)
 have HR:=Hid.mk' (hr.below bx)
 obtain ⟨k0,k1,k2⟩:C3k w1.heap.size (.slice qa m qc) (.slice pa m pc) (.bool d) (w1.alloc (.cells #[.slice qa m qc,.slice pa m pc,.bool d] 77)):=⟨by rw [World.cell?_alloc_at _ _ _ _ rfl];rfl,by rw [World.cell?_alloc_at _ _ _ _ rfl];rfl,by rw [World.cell?_alloc_at _ _ _ _ rfl];rfl⟩
 clear hb hr bx
 cases d
 ·obtain rfl:none=R0:=HR0.out
  have HB2:=Hid.mk' (bel_next HB.out (bel_one _ (.cells #[] 45)))
  go_wp2
  refine bodyPost_ret (results_tmp2 rfl _ _ _) rfl ?_
  exact LeastS.all ⟨HB2.out,.inr ⟨rfl,_,_,rfl⟩⟩
 ·obtain rfl:grbLeast o m BL=R0:=HR0.out
  go_wp2_with fail
  refine (grbLeastS _ o qa m qc qad qcp BL HR.out).mono ?_
  rintro r w2 hh
  obtain ⟨ya,yc,yad,ycp,rfl,hb2,hO⟩:=LeastM.from (LeastS.all hh) HB.out
  have HH:Hid (LeastM w (grbLeast o m BL) (.returned (.tuple #[.slice ya (rlO (grbLeast o m BL)).length yc,.bool (grbLeast o m BL).isSome])) w2):=⟨ya,yc,yad,ycp,rfl,hb2,hO⟩
  clear hh hb2 hO k0 k1 k2
  go_wp2
  refine bodyPost_ret (results_tmp2 rfl _ _ _) rfl ?_
  exact HH.out
end Go.Proofs.YtdidlcjhodejjaaGreat
namespace Go.Proofs.YtdidlcjhodejjaaGreat
open Go.RowKit Go.Deep Go.Joins
set_option linter.unusedVariables false
set_option linter.unusedSimpArgs false
def sameR:Option (List (List T))→Option (List (List T))→Bool × Bool
 | some x,some y=>(lsq x.length (Lof x) y.length (Lof y),true)
 | _,_=>(false,false)
def idlSame (o:Int) (n:Nat) (A:Nat→List T) (n':Nat) (B:Nat→List T):Bool × Bool:=sameR (idlOf o n A) (idlOf o n' B)
theorem eg_sameP:∀ args w,(callFunc 58 args).run Tryz.prog w=.ok (.enter 58 args) w:=enters_of Tryz.func58 (by kernel_rfl) rfl
set_option maxRecDepth 100000 in
set_option maxHeartbeats 4000000 in
theorem eqFuncI (w:World) (a a':Option Addr) (n cap n' cap':Nat) (ad ad':Nat→Option Addr) (cp cp':Nat→Nat) (L L':Nat→List T) (h:RdS w a n cap ad (lN L) cp (fN L)) (h':RdS w a' n' cap' ad' (lN L') cp' (fN L')) :
  Calls Tryz.prog 57 #[.slice a n cap,.slice a' n' cap',.func (.func 58) #[] #[]] w (Val w (.bool (lsq n L n' L'))):=by
 have hn:(n:Int)≤140737488351232:=by have:=h.2.1;omega
 have hn':(n':Int)≤140737488351232:=by have:=h'.2.1;omega
 obtain ⟨r,hr⟩:∃ r,lsq n L n' L'=r:=⟨_,rfl⟩
 rw [hr]
 have HR:=Hid.mk' hr
 have HH:=Hid.mk' h
 have HH':=Hid.mk' h'
 clear h h' hr
 unfold Val
 by_cases hnn:n=n'
 ·subst hnn
  have hne:((n:Int) != (n:Int))=false:=by simp
  go_enter Tryz.func57,Tryz.ntmps57
  go_wp2
  go_loopw [17] (fun v wr=>∃ i:Nat,i≤n∧v=.int .i64 (i:Int)∧Below w.heap.size w wr∧Hid (∀ j,j<i→L j=L' j)) (fun v _=>n - (intOf v).toNat)
  case atStart=>exact ⟨0,Nat.zero_le _,rfl,Below.refl _ _,fun j hj=>absurd hj (Nat.not_lt_zero _)⟩
  case round=>
   obtain ⟨i,hi,rfl,hB,HJ⟩:=hrel
   by_cases hlt:i<n
   ·rcases HH.out.2.2.1 with h0 | ⟨b,off,rfl,hblt,hcl⟩
    ·omega
    rcases HH'.out.2.2.1 with h0 | ⟨b',off',rfl,hblt',hcl'⟩
    ·omega
    have hil:(i:Int)<(n:Int):=by omega
    obtain ⟨l,hl⟩:∃ l,(L i).length=l:=⟨_,rfl⟩
    obtain ⟨l',hl'⟩:∃ l',(L' i).length=l':=⟨_,rfl⟩
    have g0:wr.cell? ⟨b,off+i,none⟩=some (.slice (ad i) l (cp i)):=(hB.cell (p:=⟨b,off+i,none⟩) hblt).trans (by rw [← hl];exact hcl i hlt)
    have g1:wr.cell? ⟨b',off'+i,none⟩=some (.slice (ad' i) l' (cp' i)):=(hB.cell (p:=⟨b',off'+i,none⟩) hblt').trans (by rw [← hl'];exact hcl' i hlt)
    have HK:=Hid.mk' ((HH.out.2.2.2 i hlt).below hB)
    have HK':=Hid.mk' ((HH'.out.2.2.2 i hlt).below hB)
    have HB:=Hid.mk' hB
    obtain ⟨q,hq⟩:∃ q,sq (L i) (L' i)=q:=⟨_,rfl⟩
    have HQ:=Hid.mk' hq
    have HCA:Hid (Calls Tryz.prog 58 #[.slice (ad i) l (cp i),.slice (ad' i) l' (cp' i)] wr fun r w'=>r=.returned (.bool q)∧Below wr.heap.size wr w'):=by
     have:=sameI_L (w:=wr) (a:=ad i) (ca:=cp i) (L:=L i) (b:=ad' i) (cb:=cp' i) (K:=L' i) HK.out HK'.out
     rw [hq,hl,hl'] at this
     exact this
    have eg:=eg_sameP
    clear hcl hcl' hB hq hl hl'
    cases q
    ·have hr:r=false:=by
      rw [← HR.out]
      refine lsq_no (fun hh=>?_)
      have h1:=HQ.out
      rw [hh.2 i hlt,sq_same] at h1
      cases h1
     subst hr
     go_wp2_with (go_at_fn 58;refine HCA.out.mono ?_;rintro e w2 ⟨rfl,hb2⟩;have HV:=Hid.mk' hb2;clear hb2)
     go_ret
     exact ⟨rfl,bel_next HB.out HV.out⟩
    ·have HE:=Hid.mk' (sq_iff.1 HQ.out)
     go_wp2_with (go_at_fn 58;refine HCA.out.mono ?_;rintro e w2 ⟨rfl,hb2⟩;have HV:=Hid.mk' hb2;clear hb2)
     go_roundw
     case rel=>exact ⟨i+1,by omega,by go_num,bel_next HB.out HV.out,fun j hj=>by
      by_cases e:j=i
      ·rw [e];exact HE.out
      ·exact HJ.out j (by omega)⟩
     case measure=>simp [intOf];omega
   ·have hnl:¬ (i:Int)<(n:Int):=by omega
    have hr:r=true:=by
     rw [← HR.out]
     exact lsq_iff.2 ⟨rfl,fun j hj=>HJ.out j (by omega)⟩
    subst hr
    go_wp2
    go_ret
    exact ⟨rfl,hB⟩
 ·have hne:((n:Int) != (n':Int))=true:=by simp;omega
  have hr:r=false:=by
   rw [← HR.out]
   exact lsq_no (fun hh=>hnn hh.1)
  subst hr
  go_enter Tryz.func57,Tryz.ntmps57
  go_wp2
  go_ret
  exact ⟨rfl,Below.refl _ _⟩
set_option maxRecDepth 100000 in
set_option maxHeartbeats 4000000 in
theorem idlSameI (w:World) (o:Int) (a a':Option Addr) (n cap n' cap':Nat) (ad ad':Nat→Option Addr) (cp cp':Nat→Nat) (A B:Nat→List T) (h:RdS w a n cap ad (lN A) cp (fN A)) (h':RdS w a' n' cap' ad' (lN B) cp' (fN B)) :
  Calls Tryz.prog 19 #[.int .i64 o,.slice a n cap,.slice a' n' cap'] w fun r w'=>r=.returned (.tuple #[.bool (idlSame o n A n' B).1,.bool (idlSame o n A n' B).2])∧Below w.heap.size w w':=by
 have HC1:=Hid.mk' (idlOfI w o a n cap ad cp A h)
 have HC2:Hid (∀ W,Below w.heap.size w W→Calls Tryz.prog 17 #[.int .i64 o,.slice a' n' cap'] W (LeastI W (idlOf o n' B))):=fun W hW=>idlOfI W o a' n' cap' ad' cp' B (h'.below hW)
 obtain ⟨R1,hR1⟩:∃ R,idlOf o n A=R:=⟨_,rfl⟩
 obtain ⟨R2,hR2⟩:∃ R,idlOf o n' B=R:=⟨_,rfl⟩
 have e0:idlSame o n A n' B=sameR R1 R2:=by unfold idlSame;rw [hR1,hR2]
 rw [e0]
 rw [hR1] at HC1
 rw [hR2] at HC2
 clear h h' hR1 hR2 e0
 go_enter Tryz.func19,Tryz.ntmps19
 go_wp2_with fail
 refine HC1.out.mono ?_
 rintro r w1 ⟨qa,qc,qad,qcp,Rb,Bb,rfl,hb1,hO1⟩
 have HB1:=Hid.mk' hb1
 have HO1:=Hid.mk' hO1.rd
 clear hb1 hO1
 go_wp2_with fail
 refine (HC2.out w1 HB1.out).mono ?_
 rintro r w2 ⟨ya,yc,yad,ycp,Rb2,Bb2,rfl,hb2,hO2⟩
 have HB2:=Hid.mk' (bel_next HB1.out hb2)
 have HO3:=Hid.mk' (HO1.out.below hb2)
 have HO2:=Hid.mk' hO2.rd
 clear hb2 hO2 HO1
 rcases R1 with _ | x
 ·go_wp2
  refine bodyPost_ret (results_tmp2 rfl _ _ _) rfl ?_
  exact ⟨rfl,HB2.out⟩
 ·rcases R2 with _ | y
  ·go_wp2
   refine bodyPost_ret (results_tmp2 rfl _ _ _) rfl ?_
   exact ⟨rfl,HB2.out⟩
  ·have HCE:Hid (Calls Tryz.prog 57 #[.slice qa x.length qc,.slice ya y.length yc,.func (.func 58) #[] #[]] w2 (Val w2 (.bool (lsq x.length (Lof x) y.length (Lof y))))):=eqFuncI w2 qa ya x.length qc y.length yc _ _ _ _ (Lof x) (Lof y) HO3.out HO2.out
   simp only [rlO,Option.isSome,sameR]
   go_wp2_with fail
   refine HCE.out.mono ?_
   rintro r w3 ⟨rfl,hb3⟩
   have HB3:=Hid.mk' (bel_next HB2.out hb3)
   clear hb3
   go_wp2
   refine bodyPost_ret (results_tmp2 rfl _ _ _) rfl ?_
   exact ⟨rfl,HB3.out⟩
set_option maxRecDepth 100000 in
set_option maxHeartbeats 8000000 in
theorem idlSameS (w:World) (o:Int) (a a':Option Addr) (n cap n' cap':Nat) (ad ad':Nat→Option Addr) (cp cp':Nat→Nat) (A B:Nat→List T) (h:RdS w a n cap ad (lN A) cp (fN A)) (h':RdS w a' n' cap' ad' (lN B) cp' (fN B)) :
  Calls Tryz.prog 18 #[.int .i64 o,.slice a n cap,.slice a' n' cap'] w fun r w'=>r=.returned (.tuple #[.bool (idlSame o n A n' B).1,.bool (idlSame o n A n' B).2])∧Below w.heap.size w w':=by
 have HC1:=Hid.mk' (idlOfS w o a n cap ad cp A h)
 have HC2:Hid (∀ W,Below w.heap.size w W→Calls Tryz.prog 16 #[.int .i64 o,.slice a' n' cap'] W (LeastM W (idlOf o n' B))):=fun W hW=>idlOfS W o a' n' cap' ad' cp' B (h'.below hW)
 have hbd1:=idlOf_bd (o:=o) (n:=n) (L:=A)
 have hbd2:=idlOf_bd (o:=o) (n:=n') (L:=B)
 obtain ⟨R1,hR1⟩:∃ R,idlOf o n A=R:=⟨_,rfl⟩
 obtain ⟨R2,hR2⟩:∃ R,idlOf o n' B=R:=⟨_,rfl⟩
 have e0:idlSame o n A n' B=sameR R1 R2:=by unfold idlSame;rw [hR1,hR2]
 rw [e0]
 rw [hR1] at HC1 hbd1
 rw [hR2] at HC2 hbd2
 clear h h' hR1 hR2 e0
 go_enter Tryz.func18,Tryz.ntmps18
 go_wp2_with fail
 refine HC1.out.mono ?_
 rintro r w1 ⟨qa,qc,qad,qcp,rfl,hb1,hO1⟩
 have HB1:=Hid.mk' hb1
 have HO1:=Hid.mk' hO1
 clear hb1 hO1
 go_wp2_with fail
 refine (HC2.out w1 HB1.out).mono ?_
 rintro r w2 ⟨ya,yc,yad,ycp,rfl,hb2,hO2⟩
 have HB2:=Hid.mk' (bel_next HB1.out hb2)
 have HO3:=Hid.mk' (HO1.out.below hb2)
 have HO2:=Hid.mk' hO2
 clear hb2 hO2 HO1
 rcases R1 with _ | x
 ·clear hbd1 hbd2
  go_wp2
  refine bodyPost_ret (results_tmp2 rfl _ _ _) rfl ?_
  exact ⟨rfl,HB2.out⟩
 rcases R2 with _ | y
 ·clear hbd1 hbd2
  go_wp2
  refine bodyPost_ret (results_tmp2 rfl _ _ _) rfl ?_
  exact ⟨rfl,HB2.out⟩
 simp only [rlO,Option.isSome] at hbd1 hbd2 HO3 HO2 ⊢
 have HE0:Hid (sameR (some x) (some y)=(lsq x.length (Lof x) y.length (Lof y),true)):=rfl
 obtain ⟨n1,hn1⟩:∃ k,x.length=k:=⟨_,rfl⟩
 obtain ⟨n2,hn2⟩:∃ k,y.length=k:=⟨_,rfl⟩
 obtain ⟨X,hX⟩:∃ X,Lof x=X:=⟨_,rfl⟩
 obtain ⟨Y,hY⟩:∃ X,Lof y=X:=⟨_,rfl⟩
 rw [hn1] at hbd1 HO3 HE0 ⊢
 rw [hn2] at hbd2 HO2 HE0 ⊢
 rw [hX] at HO3 HE0
 rw [hY] at HO2 HE0
 have hI1:(n1:Int)≤12:=by have:=hbd1.1;omega
 have hI2:(n2:Int)≤12:=by have:=hbd2.1;omega
 obtain ⟨r,hr⟩:∃ r,lsq n1 X n2 Y=r:=⟨_,rfl⟩
 rw [hr] at HE0
 have HR:=Hid.mk' hr
 clear hn1 hn2 hX hY hbd1 hbd2 hr
 by_cases hnn:n1=n2
 ·subst hnn
  have hne:((n1:Int) != (n1:Int))=false:=by simp
  go_wp2
  go_loopw [12] (fun v wr=>∃ i:Nat,i≤n1∧v=.int .i64 (i:Int)∧Below w2.heap.size w2 wr∧Hid (∀ j,j<i→X j=Y j)) (fun v _=>n1 - (intOf v).toNat)
  case atStart=>exact ⟨0,Nat.zero_le _,rfl,Below.refl _ _,fun j hj=>absurd hj (Nat.not_lt_zero _)⟩
  case round=>
   obtain ⟨i,hi,rfl,hB,HJ⟩:=hrel
   by_cases hlt:i<n1
   ·rcases HO3.out.2.2.1 with h0 | ⟨b,off,rfl,hblt,hcl⟩
    ·omega
    rcases HO2.out.2.2.1 with h0 | ⟨b',off',rfl,hblt',hcl'⟩
    ·omega
    have hil:(i:Int)<(n1:Int):=by omega
    have hbr:b<wr.heap.size:=Nat.lt_of_lt_of_le hblt hB.size
    have hbr':b'<wr.heap.size:=Nat.lt_of_lt_of_le hblt' hB.size
    have ne:=Ext.there wr
    obtain ⟨l,hl⟩:∃ l,(X i).length=l:=⟨_,rfl⟩
    obtain ⟨l',hl'⟩:∃ l',(Y i).length=l':=⟨_,rfl⟩
    have g0:wr.cell? ⟨b,off+i,none⟩=some (.slice (qad i) l (qcp i)):=(hB.cell (p:=⟨b,off+i,none⟩) hblt).trans (by rw [← hl];exact hcl i hlt)
    have g1:wr.cell? ⟨b',off'+i,none⟩=some (.slice (yad i) l' (ycp i)):=(hB.cell (p:=⟨b',off'+i,none⟩) hblt').trans (by rw [← hl'];exact hcl' i hlt)
    have s0:∀ u:Ext wr,u.1.cell? ⟨b,off+i,none⟩=some (.slice (qad i) l (qcp i)):=fun u=>(u.cell hbr).trans g0
    have s1:∀ u:Ext wr,u.1.cell? ⟨b',off'+i,none⟩=some (.slice (yad i) l' (ycp i)):=fun u=>(u.cell hbr').trans g1
    have HK:=Hid.mk' ((HO3.out.2.2.2 i hlt).below hB)
    have HK':=Hid.mk' ((HO2.out.2.2.2 i hlt).below hB)
    have HB:=Hid.mk' hB
    obtain ⟨q,hq⟩:∃ q,sq (X i) (Y i)=q:=⟨_,rfl⟩
    have HQ:=Hid.mk' hq
    have hcall:∀ u:Ext wr,Calls Tryz.prog 56 #[.slice (qad i) l (qcp i),.slice (yad i) l' (ycp i)] u.1 fun r w'=>r=.returned (.bool q)∧Below u.1.heap.size u.1 w':=fun u=>by
     have:=polSameS u.1 (qad i) (yad i) (X i).length (qcp i) (Y i).length (ycp i) (lf (X i)) (lf (Y i)) (HK.out.below u.2) (HK'.out.below u.2)
     rw [show termsEq (X i).length (lf (X i)) (Y i).length (lf (Y i))=q from hq,hl,hl'] at this
     exact this
    clear hcl hcl' hB g0 g1 hq hl hl'
    go_wp2_with fail
    refine wp_region_ext (by kernel_rfl) (by kernel_rfl) ?_
    repeat (go_big_quiet_step (first | (go_at_call 56;exact ext_grows (hcall _)) | fail))
    refine wpQuiet_nil ?_
    rintro _ ⟨v,rfl⟩
    have HV:=Hid.mk' v.2
    clear s0 s1 ne hcall
    cases q
    ·have hr:r=false:=by
      rw [← HR.out]
      refine lsq_no (fun hh=>?_)
      have h1:=HQ.out
      rw [hh.2 i hlt,sq_same] at h1
      cases h1
     subst hr
     go_wp2
     refine bodyPost_ret (results_tmp2 rfl _ _ _) rfl ?_
     exact ⟨by rw [HE0.out];rfl,bel_next HB2.out (bel_next HB.out HV.out)⟩
    ·have HE:=Hid.mk' (sq_iff.1 HQ.out)
     go_wp2
     go_roundw
     case rel=>exact ⟨i+1,by omega,by go_num,bel_next HB.out HV.out,fun j hj=>by
      by_cases e:j=i
      ·rw [e];exact HE.out
      ·exact HJ.out j (by omega)⟩
     case measure=>simp [intOf];omega
   ·have hnl:¬ (i:Int)<(n1:Int):=by omega
    have hr:r=true:=by
     rw [← HR.out]
     exact lsq_iff.2 ⟨rfl,fun j hj=>HJ.out j (by omega)⟩
    subst hr
    go_wp2
    refine bodyPost_ret (results_tmp2 rfl _ _ _) rfl ?_
    exact ⟨by rw [HE0.out];rfl,bel_next HB2.out hB⟩
 ·have hne:((n1:Int) != (n2:Int))=true:=by simp;omega
  have hr:r=false:=by
   rw [← HR.out]
   exact lsq_no (fun hh=>hnn hh.1)
  subst hr
  go_wp2
  refine bodyPost_ret (results_tmp2 rfl _ _ _) rfl ?_
  exact ⟨by rw [HE0.out];rfl,HB2.out⟩
end Go.Proofs.YtdidlcjhodejjaaGreat
namespace Go.Proofs.YtdidlcjhodejjaaGreat
open Go.RowKit Go.Deep Go.Joins
set_option linter.unusedVariables false
def IsLists (w:World) (a:Option Addr) (n cap:Nat) (ad:Nat→Option Addr) (ln cp:Nat→Nat) (f:Nat→Nat→T):Prop:=
 n≤cap∧cap≤maxLen∧(n=0∨∃ b off,a=some ⟨b,off,none⟩∧b<w.heap.size∧∀ i,i<n→w.cell? ⟨b,off+i,none⟩=some (.slice (ad i) (ln i) (cp i)))∧∀ i,i<n→IsTerms w (ad i) (ln i) (cp i) (f i)
theorem IsLists.rd {w:World} {a:Option Addr} {n cap:Nat} {ad:Nat→Option Addr} {ln cp:Nat→Nat} {f:Nat→Nat→T} (h:IsLists w a n cap ad ln cp f) (hn:n * 40≤140737488351232) (hl:∀ i,i<n→ln i * 40≤140737488351232):RdS w a n cap ad ln cp f:=
 ⟨h.1,hn,h.2.2.1,fun i hi=>(h.2.2.2 i hi).rd (hl i hi)⟩
theorem cellsOfS:Tryz.prog.cellsOf 60=1:=by kernel_rfl
theorem slice_of_trod {H:Type} {enc:TypeId × Value→H} {w:World} {base:Nat} {spare:Nat→Bool} {held:Bool} {fuel:Nat} {v:Value} {x:DataW H × List MemPlace}
  (h:DataW.trod enc Tryz.prog w base spare held fuel 60 [v]=some x):∃ (t:Option Addr × Nat × Nat) (f:Nat→T),v=.slice t.1 t.2.1 t.2.2∧IsTerms w t.1 t.2.1 t.2.2 f:=by
 have h':=h
 rcases open_slice Tryz.underlying60 h with ⟨hc,_⟩ | ⟨ad,len,cp,m,k,D,Pl,hc,_⟩
 ·simp at hc
  subst hc
  obtain ⟨f,hf⟩:=terms_open h'
  exact ⟨(none,0,0),f,rfl,hf⟩
 ·simp at hc
  subst hc
  obtain ⟨f,hf⟩:=terms_open h'
  exact ⟨(some ad,len,cp),f,rfl,hf⟩
set_option maxRecDepth 100000 in
theorem lists_open {H:Type} {enc:TypeId × Value→H} {w:World} {base:Nat} {spare:Nat→Bool} {held:Bool} {fuel:Nat} {a:Option Addr} {n cap:Nat} {x:DataW H × List MemPlace}
  (h:DataW.trod enc Tryz.prog w base spare held fuel 22 [.slice a n cap]=some x):∃ ad ln cp f,IsLists w a n cap ad ln cp f:=by
 rcases open_slice Tryz.underlying22 h with ⟨hc,_⟩ | ⟨ad,len,cp,m,k,D,Pl,hc,_,hl,hm,hmm,_,hx⟩
 ·simp at hc
  obtain ⟨rfl,rfl,rfl⟩:=hc
  exact ⟨fun _=>none,fun _=>0,fun _=>0,fun _ _=>⟨0,⟨0,0,0,0⟩⟩,Nat.le_refl _,Nat.zero_le _,.inl rfl,fun i hi=>absurd hi (Nat.not_lt_zero _)⟩
 ·simp at hc
  obtain ⟨rfl,rfl,rfl⟩:=hc
  by_cases h0:n=0
  ·exact ⟨fun _=>none,fun _=>0,fun _=>0,fun _ _=>⟨0,⟨0,0,0,0⟩⟩,hl,hm,.inl h0,fun i hi=>by omega⟩
  have hnm:n≤m:=by rw [hmm];split <;> omega
  have each:∀ i,i<n→∃ t:(Option Addr × Nat × Nat) × (Nat→T),w.cell? (ad.add i)=some (.slice t.1.1 t.1.2.1 t.1.2.2)∧IsTerms w t.1.1 t.1.2.1 t.1.2.2 t.2:=by
   intro i hi
   obtain ⟨cs',h1,h2⟩:=hx i (by omega)
   rw [cellsOfS] at h1
   obtain ⟨_,hlen,hcell⟩:=World.cells?_some h1
   match cs',hlen with
   | [v0],_=>
    obtain ⟨t,f,rfl,ht⟩:=slice_of_trod h2
    have c0:=hcell 0 (by omega)
    rw [add_add] at c0
    exact ⟨(t,f),by simpa using c0,ht⟩
  haveI:Inhabited ((Option Addr × Nat × Nat) × (Nat→T)):=⟨((none,0,0),fun _=>⟨0,⟨0,0,0,0⟩⟩)⟩
  obtain ⟨q,hq⟩:=choose_lt each
  obtain ⟨b,off,spot⟩:=ad
  have hs:spot=none:=by
   have:=World.cell?_spot (hq 0 (by omega)).1
   simpa [Addr.add] using this
  subst hs
  have hadd:∀ j,(⟨b,off,none⟩:Addr).add j=⟨b,off+j,none⟩:=fun j=>by unfold Addr.add;split <;> simp_all
  refine ⟨fun i=>(q i).1.1,fun i=>(q i).1.2.1,fun i=>(q i).1.2.2,fun i=>(q i).2,hl,hm,.inr ⟨b,off,rfl,?_,fun i hi=>?_⟩,fun i hi=>(hq i hi).2⟩
  ·have:=World.block_lt_of_cell? w _ (hq 0 (by omega)).1
   rw [hadd] at this
   exact this
  ·have:=(hq i hi).1
   rw [hadd] at this
   exact this
end Go.Proofs.YtdidlcjhodejjaaGreat
