/-
  A proof is made, column by column: impl.grbProof.
-/
import Derived.Test.YtdidlcjhodejjaaGreatUbm
import Derived.Test.YtdidlcjhodejjaaGreatUba
import Derived.Test.YtdidlcjhodejjaaGreatUbi
import Derived.Test.YtdidlcjhodejjaaGreatUay
import Derived.Test.YtdidlcjhodejjaaGreatUau
import Derived.Test.YtdidlcjhodejjaaGreatUbj
import Derived.Deep.RegionLaw
namespace Go.Proofs.YtdidlcjhodejjaaGreat
open Go.RowKit Go.Deep Go.Joins
set_option linter.unusedVariables false
set_option linter.unusedSimpArgs false
structure Parts (w:World) (oa:Option Addr) (M oc:Nat) (qa:Nat→Option Addr) (qc:Nat→Nat) (ra:Nat→Option Addr) (rc:Nat→Nat) (rad:Nat→Nat→Option Addr) (rcp:Nat→Nat→Nat) (g:Nat) (qs:Nat→List T) (Q:Nat→Nat→List T):Prop where
 cap:M≤oc
 len:M≤100
 pos:M=0∨∃ b off,oa=some ⟨b,off,none⟩∧b<w.heap.size∧∀ t,t<M→w.cell? ⟨b,off+t * 2,none⟩=some (.slice (qa t) (qs t).length (qc t))∧w.cell? ⟨b,off+t * 2+1,none⟩=some (.slice (ra t) g (rc t))
 q:∀ t,t<M→RL w (qa t) (qc t) (qs t)
 r:∀ t,t<M→RdS w (ra t) g (rc t) (rad t) (lN (Q t)) (rcp t) (fN (Q t))
theorem Parts.below {w w':World} {oa:Option Addr} {M oc:Nat} {qa:Nat→Option Addr} {qc:Nat→Nat} {ra:Nat→Option Addr} {rc:Nat→Nat} {rad:Nat→Nat→Option Addr} {rcp:Nat→Nat→Nat} {g:Nat} {qs:Nat→List T} {Q:Nat→Nat→List T} (h:Parts w oa M oc qa qc ra rc rad rcp g qs Q) (hb:Below w.heap.size w w'):Parts w' oa M oc qa qc ra rc rad rcp g qs Q:=
 ⟨h.cap,h.len,h.pos.imp id (fun ⟨b,off,e,hlt,hc⟩=>⟨b,off,e,Nat.lt_of_lt_of_le hlt hb.size,fun t ht=>⟨(hb.cell (p:=⟨b,off+t * 2,none⟩) hlt).trans (hc t ht).1,(hb.cell (p:=⟨b,off+t * 2+1,none⟩) hlt).trans (hc t ht).2⟩⟩),fun t ht=>(h.q t ht).below hb,fun t ht=>(h.r t ht).below hb⟩
def PfP (w:World) (g:Nat) (E:Option (Nat→List T)) (r:Ending) (w':World):Prop:=
 Below w.heap.size w w'∧((∃ R ra rc ad cp lo Rb B,E=some R∧r=.returned (.slice ra g rc)∧w.heap.size≤lo∧OutS lo w' ra g rc ad (lN R) cp (fN R) Rb B)∨(E=none∧r=.panicked [{ v:=tooMuch,recovered:=false }]))
abbrev S3q (u:World) (bx:Nat) (v0 v1:Value) (rb x:Nat) (v2:Value):Prop:=u.cell? ⟨bx,0,none⟩=some v0∧u.cell? ⟨bx,1,none⟩=some v1∧u.cell? ⟨rb,x,none⟩=some v2
theorem S3q.below {u u':World} {bx:Nat} {v0 v1:Value} {rb x:Nat} {v2:Value} (h:S3q u bx v0 v1 rb x v2) (hb:Below u.heap.size u u'):S3q u' bx v0 v1 rb x v2:=
 ⟨(hb.cell (p:=⟨bx,0,none⟩) (World.block_lt_of_cell? u _ h.1)).trans h.1,(hb.cell (p:=⟨bx,1,none⟩) (World.block_lt_of_cell? u _ h.2.1)).trans h.2.1,(hb.cell (p:=⟨rb,x,none⟩) (World.block_lt_of_cell? u _ h.2.2)).trans h.2.2⟩
theorem C2box (w:World) (y:TypeId) (v0 v1:Value):(w.alloc (.cells #[v0,v1] y)).cell? ⟨w.heap.size,0,none⟩=some v0∧(w.alloc (.cells #[v0,v1] y)).cell? ⟨w.heap.size,1,none⟩=some v1:=⟨by rw [World.cell?_alloc_at _ _ _ _ rfl];rfl,by rw [World.cell?_alloc_at _ _ _ _ rfl];rfl⟩
theorem pcN_next {F:List T} {P0:Nat→List T} {qs:Nat→List T} {Q:Nat→Nat→List T} {j t:Nat} {s:List T} (h:pcN F P0 qs Q j t=some s):pcN F P0 qs Q j (t+1)=pcS s (qs t) (Q t j):=by
 show (pcN F P0 qs Q j t).bind (fun s=>pcS s (qs t) (Q t j))=_
 rw [h];rfl
theorem pcN_stop {F:List T} {P0:Nat→List T} {qs:Nat→List T} {Q:Nat→Nat→List T} {j t:Nat} (h:pcN F P0 qs Q j t=none):∀ d,pcN F P0 qs Q j (t+d)=none
 | 0=>h
 | d+1=>by
  show (pcN F P0 qs Q j (t+d)).bind (fun s=>pcS s (qs (t+d)) (Q (t+d) j))=none
  rw [pcN_stop h d];rfl
theorem pcS_1 {s q X Y:List T} (h:wmV q X=(Y,false)):pcS s q X=none:=by unfold pcS;rw [h]
theorem pcS_2 {s q X Y Z:List T} (h:wmV q X=(Y,true)) (h2:subV s Y=(Z,false)):pcS s q X=none:=by unfold pcS;rw [h];simp only [h2]
theorem pcS_3 {s q X Y Z:List T} (h:wmV q X=(Y,true)) (h2:subV s Y=(Z,true)):pcS s q X=some Z:=by unfold pcS;rw [h];simp only [h2]
theorem pc0_1 {F X Y:List T} (h:wmV F X=(Y,false)):pc0 F X=none:=by unfold pc0;rw [h]
theorem pc0_2 {F X Y:List T} (h:wmV F X=(Y,true)):pc0 F X=some Y:=by unfold pc0;rw [h]
theorem wmI_O {w:World} {a b:Option Addr} {ca cb:Nat} {L K:List T} (ha:RL w a ca L) (hb:RL w b cb K):Calls Tryz.prog 154 #[.slice a L.length ca,.slice b K.length cb] w fun r w'=>∃ a' c',r=.returned (.tuple #[.slice a' (wmV L K).1.length c',.bool (wmV L K).2])∧Below w.heap.size w w'∧Out w.heap.size w' a' c' (wmV L K).1:=wylMulI w a b L.length ca K.length cb (lf L) (lf K) ha hb
theorem subI_O {w:World} {a b:Option Addr} {ca cb:Nat} {L K:List T} (ha:RL w a ca L) (hb:RL w b cb K):Calls Tryz.prog 155 #[.slice a L.length ca,.slice b K.length cb] w fun r w'=>∃ a' c',r=.returned (.tuple #[.slice a' (subV L K).1.length c',.bool (subV L K).2])∧Below w.heap.size w w'∧Out w.heap.size w' a' c' (subV L K).1:=polSubI w a b L.length ca K.length cb (lf L) (lf K) ha hb
set_option maxRecDepth 100000 in
set_option maxHeartbeats 16000000 in
theorem grbProofI (w:World) (fa:Option Addr) (fc:Nat) (F:List T) (hF:RL w fa fc F) (ia:Option Addr) (g ic:Nat) (iad:Nat→Option Addr) (icp:Nat→Nat) (P0:Nat→List T) (hI:RdS w ia g ic iad (lN P0) icp (fN P0)) (hg:g≤12) (oa:Option Addr) (M oc:Nat) (qa:Nat→Option Addr) (qc:Nat→Nat) (ra:Nat→Option Addr) (rc:Nat→Nat) (rad:Nat→Nat→Option Addr) (rcp:Nat→Nat→Nat) (qs:Nat→List T) (Q:Nat→Nat→List T) (hO:Parts w oa M oc qa qc ra rc rad rcp g qs Q) {E:Option (Nat→List T)} (hE:rowO (fun j=>pcN F P0 qs Q j M) g=E) :
  Calls Tryz.prog 174 #[.agg #[.slice fa F.length fc,.slice ia g ic],.slice oa M oc] w (PfP w g E):=by
 obtain ⟨i0,hi0,hz0,hz1,hz2⟩:=info_parts infoSL
 have hgl:(g:Int)≤12:=by omega
 have hMl:(M:Int)≤100:=by have:=hO.len;omega
 obtain ⟨w1,hw1⟩:∃ w1,w.alloc (.cells #[.slice fa F.length fc,.slice ia g ic] 192)=w1:=⟨_,rfl⟩
 have b1:Below w.heap.size w w1:=by rw [← hw1];exact bel_one w _
 have HX1:Hid (w1.cell? ⟨w.heap.size,0,none⟩=some (.slice fa F.length fc)∧w1.cell? ⟨w.heap.size,1,none⟩=some (.slice ia g ic)):=by rw [← hw1];exact C2box w 192 _ _
 have HB1:=Hid.mk' b1
 have HF1:=Hid.mk' (hF.below b1)
 have HI1:=Hid.mk' (hI.below b1)
 have HO1:=Hid.mk' (hO.below b1)
 have HE:=Hid.mk' hE
 have hs1:w.heap.size<w1.heap.size:=World.block_lt_of_cell? w1 _ HX1.out.1
 obtain ⟨k0,k1⟩:=HX1.out
 clear hF hI hO hE b1
 go_enter Tryz.func174,Tryz.ntmps174
 go_wp2
 clear hw1
 go_loopw [5,14] (fun tv ii wr=>∃ (j:Nat) (X:Nat→List T) (ad:Nat→Option Addr) (cp B:Nat→Nat),j≤g∧ii=.int .i64 (j:Int)∧rowO (fun j=>pcN F P0 qs Q j M) j=some X∧Below w1.heap.size w1 wr∧AnW w1.heap.size wr X j tv ad cp B) (fun _ ii _=>g - (intOf ii).toNat)
 case atStart=>exact ⟨0,fun _=>[],_,_,_,Nat.zero_le _,rfl,rfl,Below.refl _ _,AnW.start (Nat.le_refl _) _⟩
 case round=>
  obtain ⟨j,X,ad,cp,B,hj,rfl,hX,hB,hA⟩:=hrel
  obtain ⟨wo,rfl⟩:∃ x,x=wr:=⟨_,rfl⟩
  have HX:=Hid.mk' hX
  have HB:=Hid.mk' hB
  have HA:=Hid.mk' hA
  clear hX k0 k1
  by_cases hlt:j<g
  ·have hjl:(j:Int)<(g:Int):=by omega
   have hmax:j+1≤maxLen:=by unfold maxLen;omega
   obtain ⟨ib,ioff,rfl,hib,hicl⟩:=HI1.out.2.2.1.resolve_left (by omega)
   obtain ⟨PJ,hPJ⟩:∃ PJ,P0 j=PJ:=⟨_,rfl⟩
   have cj:wo.cell? ⟨ib,ioff+j,none⟩=some (.slice (iad j) PJ.length (icp j)):=(hB.cell (p:=⟨ib,ioff+j,none⟩) hib).trans (by rw [← hPJ];exact hicl j hlt)
   have c0:wo.cell? ⟨w.heap.size,0,none⟩=some (.slice fa F.length fc):=(hB.cell (p:=⟨w.heap.size,0,none⟩) hs1).trans HX1.out.1
   have RJ:Hid (RL wo (iad j) (icp j) PJ):=by rw [← hPJ];exact (HI1.out.2.2.2 j hlt).below hB
   have RF:=Hid.mk' (HF1.out.below hB)
   obtain ⟨Y,o0,hY⟩:∃ Y b,wmV F PJ=(Y,b):=⟨_,_,rfl⟩
   have hc:=wmI_O RF.out RJ.out
   rw [hY] at hc
   have HC:=Hid.mk' hc
   have hY':wmV F (P0 j)=(Y,o0):=by rw [hPJ];exact hY
   have HY:=Hid.mk' hY'
   have hsr:w1.heap.size≤wo.heap.size:=hB.size
   clear hicl hPJ hY hY' hc hB hA
   go_wp2_with fail
   refine HC.out.mono ?_
   rintro e w4 ⟨ya,yc,rfl,b4,hy⟩
   have HB4:=Hid.mk' (bel_next HB.out b4)
   have HA4:=Hid.mk' (HA.out.below b4)
   have HBr4:=Hid.mk' b4
   have HY4:=Hid.mk' hy
   clear b4 hy HC cj c0
   cases o0
   ·have hEn:E=none:=by
     rw [← HE.out]
     refine rowO_none (i:=j) ?_ g hlt
     have:=pcN_stop (qs:=qs) (Q:=Q) (j:=j) (t:=0) (pc0_1 HY.out) M
     rwa [Nat.zero_add] at this
    subst hEn
    go_wp2_with fail
    refine (redNeed_no _ _).mono ?_
    rintro e wn ⟨rfl,hwn⟩
    obtain rfl:=hwn.symm
    clear hwn
    exact ⟨rfl,HB1.out.trans (HB4.out.mono (Nat.le_of_lt hs1)),.inr ⟨rfl,rfl⟩⟩
   go_wp2_with fail
   refine (redNeed_yes _ _).mono ?_
   rintro e wn ⟨rfl,hwn⟩
   obtain rfl:=hwn.symm
   clear hwn
   go_wp2
   go_loopw [8,28] (fun sv tt wi=>∃ (t:Nat) (s:List T) (sa:Option Addr) (sc:Nat),t≤M∧tt=.int .i64 (t:Int)∧pcN F P0 qs Q j t=some s∧sv=.slice sa s.length sc∧Below w4.heap.size w4 wi∧Out wo.heap.size wi sa sc s) (fun _ tt _=>M - (intOf tt).toNat)
   case atStart=>exact ⟨0,Y,ya,yc,Nat.zero_le _,rfl,pc0_2 HY.out,rfl,Below.refl _ _,HY4.out⟩
   case round=>
    obtain ⟨t,s,sa,sc,ht,rfl,hs,rfl,hBi,hso⟩:=hrel
    have HS:=Hid.mk' hs
    have HBi:=Hid.mk' hBi
    have HSO:=Hid.mk' hso
    clear hs hso
    by_cases htm:t<M
    ·have htl:(t:Int)<(M:Int):=by omega
     obtain ⟨ob,off,rfl,hob,hocl⟩:=HO1.out.pos.resolve_left (by omega)
     have hB1i:=bel_next HB4.out hBi
     obtain ⟨ca,cb⟩:=hocl t htm
     have d0:=(hB1i.cell (p:=⟨ob,off+t * 2,none⟩) hob).trans ca
     have d1:=(hB1i.cell (p:=⟨ob,off+t * 2+1,none⟩) hob).trans cb
     obtain ⟨rb,roff,era,hrb,hrcl⟩:=(HO1.out.r t htm).2.2.1.resolve_left (by omega)
     obtain ⟨QJ,hQJ⟩:∃ QJ,Q t j=QJ:=⟨_,rfl⟩
     have cr:wr.cell? ⟨rb,roff+j,none⟩=some (.slice (rad t j) QJ.length (rcp t j)):=(hB1i.cell (p:=⟨rb,roff+j,none⟩) hrb).trans (by rw [← hQJ];exact hrcl j hlt)
     rw [era] at d1
     obtain ⟨bx,hbx⟩:∃ bx,bx=wr.heap.size:=⟨_,rfl⟩
     have bX:=bel_next (bel_one wr (.cells #[.slice (qa t) (qs t).length (qc t),.slice (some ⟨rb,roff,none⟩) g (rc t)] 192)) (Below.refl _ _).drew
     have HS0:Hid (S3q (wr.alloc (.cells #[.slice (qa t) (qs t).length (qc t),.slice (some ⟨rb,roff,none⟩) g (rc t)] 192)).drew wr.heap.size (.slice (qa t) (qs t).length (qc t)) (.slice (some ⟨rb,roff,none⟩) g (rc t)) rb (roff+j) (.slice (rad t j) QJ.length (rcp t j))):=⟨(C2box wr 192 _ _).1,(C2box wr 192 _ _).2,(bX.cell (p:=⟨rb,roff+j,none⟩) (World.block_lt_of_cell? wr _ cr)).trans cr⟩
     have HBX:=Hid.mk' (bel_next hBi bX)
     have HB1X:=Hid.mk' (bel_next hB1i bX)
     have RQ:=Hid.mk' (((HO1.out.q t htm).below hB1i).below bX)
     have RR:Hid (RL (wr.alloc (.cells #[.slice (qa t) (qs t).length (qc t),.slice (some ⟨rb,roff,none⟩) g (rc t)] 192)).drew (rad t j) (rcp t j) QJ):=by rw [← hQJ];exact (((HO1.out.r t htm).2.2.2 j hlt).below hB1i).below bX
     have HS5:Hid (Out wo.heap.size (wr.alloc (.cells #[.slice (qa t) (qs t).length (qc t),.slice (some ⟨rb,roff,none⟩) g (rc t)] 192)).drew sa sc s):=HSO.out.below bX
     obtain ⟨Y1,o1,hY1⟩:∃ Y b,wmV (qs t) QJ=(Y,b):=⟨_,_,rfl⟩
     obtain ⟨Z1,o2,hZ1⟩:∃ Z b,subV s Y1=(Z,b):=⟨_,_,rfl⟩
     have hc1:=wmI_O RQ.out RR.out
     rw [hY1] at hc1
     have HC1:=Hid.mk' hc1
     have HC2:Hid (∀ (W:World) (ya:Option Addr) (yc:Nat),RL W sa sc s→RL W ya yc Y1→Calls Tryz.prog 155 #[.slice sa s.length sc,.slice ya Y1.length yc] W fun r w'=>∃ a' c',r=.returned (.tuple #[.slice a' Z1.length c',.bool o2])∧Below W.heap.size W w'∧Out W.heap.size w' a' c' Z1):=fun W ya yc h1 h2=>by
      have:=subI_O h1 h2
      rw [hZ1] at this
      exact this
     have hY2:wmV (qs t) (Q t j)=(Y1,o1):=by rw [hQJ];exact hY1
     have HY1:=Hid.mk' hY2
     have HZ1:=Hid.mk' hZ1
     have hsx:wo.heap.size≤wr.heap.size:=by have:=HBr4.out.size;have:=hBi.size;omega
     clear hrcl hocl hQJ hY1 hY2 hZ1 hc1 ca cb hB1i bX hBi cr
     subst hbx
     cases o1
     ·have hEn:E=none:=by
       rw [← HE.out]
       refine rowO_none (i:=j) ?_ g hlt
       have:=pcN_stop (t:=t+1) ((pcN_next HS.out).trans (pcS_1 HY1.out)) (M - (t+1))
       rwa [show t+1+(M - (t+1))=M by omega] at this
      subst hEn
      go_wp2_with fail
      have hS:=HS0.out
      refine wp_region_held_drew (S:=(fun x=>S3q x wr.heap.size (.slice (qa t) (qs t).length (qc t)) (.slice (some ⟨rb,roff,none⟩) g (rc t)) rb (roff+j) (.slice (rad t j) QJ.length (rcp t j)))) (by kernel_rfl) (hS) (fun hHeld=>?_)
      refine wpAnyH_take (i:=0) (v:=?_) rfl (by kernel_rfl) (by kernel_rfl) (by kernel_rfl) (fun _ _ _ h=>h) (Or.inl ⟨by rfl,?_⟩) (by assumption) ?_
      rotate_left
      ·(intro w9 hSw;(try dsimp only at hSw);go_simp) <;> with_reducible rfl
      try simp only [Act.put,List.getElem_toArray,List.getElem_cons_succ,List.getElem_cons_zero,List.setIfInBounds_toArray,List.set_cons_zero,List.set_cons_succ]
      refine wpAnyH_take (i:=1) (v:=?_) rfl (by kernel_rfl) (by kernel_rfl) (by kernel_rfl) (fun _ _ _ h=>h) (Or.inl ⟨by rfl,?_⟩) (by assumption) ?_
      rotate_left
      ·(intro w9 hSw;(try dsimp only at hSw);go_simp) <;> with_reducible rfl
      try simp only [Act.put,List.getElem_toArray,List.getElem_cons_succ,List.getElem_cons_zero,List.setIfInBounds_toArray,List.set_cons_zero,List.set_cons_succ]
      refine wpAnyH_take (i:=2) (v:=?_) rfl (by kernel_rfl) (by kernel_rfl) (by kernel_rfl) (fun _ _ _ h=>h) (Or.inl ⟨by rfl,?_⟩) (by assumption) ?_
      rotate_left
      ·(intro w9 hSw;(try dsimp only at hSw);go_simp) <;> with_reducible rfl
      try simp only [Act.put,List.getElem_toArray,List.getElem_cons_succ,List.getElem_cons_zero,List.setIfInBounds_toArray,List.set_cons_zero,List.set_cons_succ]
      refine wpAnyH_take (i:=3) (v:=?_) rfl (by kernel_rfl) (by kernel_rfl) (by kernel_rfl) (fun _ _ _ h=>h) (Or.inl ⟨by rfl,?_⟩) (by assumption) ?_
      rotate_left
      ·(intro w9 hSw;(try dsimp only at hSw);go_simp) <;> with_reducible rfl
      try simp only [Act.put,List.getElem_toArray,List.getElem_cons_succ,List.getElem_cons_zero,List.setIfInBounds_toArray,List.set_cons_zero,List.set_cons_succ]
      refine wpAnyH_take (i:=4) (v:=?_) rfl (by kernel_rfl) (by kernel_rfl) (by kernel_rfl) (fun _ _ _ h=>h) (Or.inl ⟨by rfl,?_⟩) (by assumption) ?_
      rotate_left
      ·(intro w9 hSw;(try dsimp only at hSw);go_simp) <;> with_reducible rfl
      try simp only [Act.put,List.getElem_toArray,List.getElem_cons_succ,List.getElem_cons_zero,List.setIfInBounds_toArray,List.set_cons_zero,List.set_cons_succ]
      refine wpAnyH_take (i:=5) (v:=?_) rfl (by kernel_rfl) (by kernel_rfl) (by kernel_rfl) (fun _ _ _ h=>h) (Or.inl ⟨by rfl,?_⟩) (by assumption) ?_
      rotate_left
      ·(intro w9 hSw;(try dsimp only at hSw);go_simp) <;> with_reducible rfl
      try simp only [Act.put,List.getElem_toArray,List.getElem_cons_succ,List.getElem_cons_zero,List.setIfInBounds_toArray,List.set_cons_zero,List.set_cons_succ]
      refine wpAnyH_take (i:=6) (v:=?_) rfl (by kernel_rfl) (by kernel_rfl) (by kernel_rfl) (fun _ _ _ h=>h) (Or.inl ⟨by rfl,?_⟩) (by assumption) ?_
      rotate_left
      ·(intro w9 hSw;(try dsimp only at hSw);go_simp) <;> with_reducible rfl
      try simp only [Act.put,List.getElem_toArray,List.getElem_cons_succ,List.getElem_cons_zero,List.setIfInBounds_toArray,List.set_cons_zero,List.set_cons_succ]
      refine wpAnyH_take (i:=7) (v:=?_) rfl (by kernel_rfl) (by kernel_rfl) (by kernel_rfl) (fun _ _ _ h=>h) (Or.inl ⟨by rfl,?_⟩) (by assumption) ?_
      rotate_left
      ·(intro w9 hSw;(try dsimp only at hSw);go_simp) <;> with_reducible rfl
      try simp only [Act.put,List.getElem_toArray,List.getElem_cons_succ,List.getElem_cons_zero,List.setIfInBounds_toArray,List.set_cons_zero,List.set_cons_succ]
      refine wpAnyH_ready (rs:=[8]) (by kernel_rfl) (by simp) ?_
      refine AllReadyH.cons rfl (fun K hK=>?_) AllReadyH.nil
      go_simp
      go_wp2_with (go_at_call 154;refine HC1.out.mono ?_;rintro e w5 ⟨ya,yc,rfl,b5,hy⟩)
      refine hK.out _ _ (by exact S3q.below hS b5) (fun hHeld2=>?_)
      clear hK K hHeld
      have hHeld:=hHeld2
      clear hHeld2
      try simp only [Act.put,List.getElem_toArray,List.getElem_cons_succ,List.getElem_cons_zero,List.setIfInBounds_toArray,List.set_cons_zero,List.set_cons_succ]
      refine wpAnyH_take (i:=9) (v:=?_) rfl (by kernel_rfl) (by kernel_rfl) (by kernel_rfl) (fun _ _ _ h=>h) (Or.inl ⟨by rfl,?_⟩) (by assumption) ?_
      rotate_left
      ·(intro w9 hSw;(try dsimp only at hSw);go_simp) <;> with_reducible rfl
      try simp only [Act.put,List.getElem_toArray,List.getElem_cons_succ,List.getElem_cons_zero,List.setIfInBounds_toArray,List.set_cons_zero,List.set_cons_succ]
      refine wpAnyH_take (i:=10) (v:=?_) rfl (by kernel_rfl) (by kernel_rfl) (by kernel_rfl) (fun _ _ _ h=>h) (Or.inl ⟨by rfl,?_⟩) (by assumption) ?_
      rotate_left
      ·(intro w9 hSw;(try dsimp only at hSw);go_simp) <;> with_reducible rfl
      try simp only [Act.put,List.getElem_toArray,List.getElem_cons_succ,List.getElem_cons_zero,List.setIfInBounds_toArray,List.set_cons_zero,List.set_cons_succ]
      refine wpAnyH_ready (rs:=[11]) (by kernel_rfl) (by simp) ?_
      refine AllReadyH.cons rfl (fun K hK=>?_) AllReadyH.nil
      go_simp
      go_wp2_with (go_at_call 124;refine (redNeed_no _ _).mono ?_;rintro e wn ⟨rfl,hwn⟩;obtain rfl:=hwn.symm;clear hwn)
      exact ⟨rfl,HB1.out.trans ((bel_next HB1X.out b5).mono (Nat.le_of_lt hs1)),.inr ⟨rfl,rfl⟩⟩
     cases o2
     ·have hEn:E=none:=by
       rw [← HE.out]
       refine rowO_none (i:=j) ?_ g hlt
       have:=pcN_stop (t:=t+1) ((pcN_next HS.out).trans (pcS_2 HY1.out HZ1.out)) (M - (t+1))
       rwa [show t+1+(M - (t+1))=M by omega] at this
      subst hEn
      go_wp2_with fail
      have hS:=HS0.out
      refine wp_region_held_drew (S:=(fun x=>S3q x wr.heap.size (.slice (qa t) (qs t).length (qc t)) (.slice (some ⟨rb,roff,none⟩) g (rc t)) rb (roff+j) (.slice (rad t j) QJ.length (rcp t j)))) (by kernel_rfl) (hS) (fun hHeld=>?_)
      refine wpAnyH_take (i:=0) (v:=?_) rfl (by kernel_rfl) (by kernel_rfl) (by kernel_rfl) (fun _ _ _ h=>h) (Or.inl ⟨by rfl,?_⟩) (by assumption) ?_
      rotate_left
      ·(intro w9 hSw;(try dsimp only at hSw);go_simp) <;> with_reducible rfl
      try simp only [Act.put,List.getElem_toArray,List.getElem_cons_succ,List.getElem_cons_zero,List.setIfInBounds_toArray,List.set_cons_zero,List.set_cons_succ]
      refine wpAnyH_take (i:=1) (v:=?_) rfl (by kernel_rfl) (by kernel_rfl) (by kernel_rfl) (fun _ _ _ h=>h) (Or.inl ⟨by rfl,?_⟩) (by assumption) ?_
      rotate_left
      ·(intro w9 hSw;(try dsimp only at hSw);go_simp) <;> with_reducible rfl
      try simp only [Act.put,List.getElem_toArray,List.getElem_cons_succ,List.getElem_cons_zero,List.setIfInBounds_toArray,List.set_cons_zero,List.set_cons_succ]
      refine wpAnyH_take (i:=2) (v:=?_) rfl (by kernel_rfl) (by kernel_rfl) (by kernel_rfl) (fun _ _ _ h=>h) (Or.inl ⟨by rfl,?_⟩) (by assumption) ?_
      rotate_left
      ·(intro w9 hSw;(try dsimp only at hSw);go_simp) <;> with_reducible rfl
      try simp only [Act.put,List.getElem_toArray,List.getElem_cons_succ,List.getElem_cons_zero,List.setIfInBounds_toArray,List.set_cons_zero,List.set_cons_succ]
      refine wpAnyH_take (i:=3) (v:=?_) rfl (by kernel_rfl) (by kernel_rfl) (by kernel_rfl) (fun _ _ _ h=>h) (Or.inl ⟨by rfl,?_⟩) (by assumption) ?_
      rotate_left
      ·(intro w9 hSw;(try dsimp only at hSw);go_simp) <;> with_reducible rfl
      try simp only [Act.put,List.getElem_toArray,List.getElem_cons_succ,List.getElem_cons_zero,List.setIfInBounds_toArray,List.set_cons_zero,List.set_cons_succ]
      refine wpAnyH_take (i:=4) (v:=?_) rfl (by kernel_rfl) (by kernel_rfl) (by kernel_rfl) (fun _ _ _ h=>h) (Or.inl ⟨by rfl,?_⟩) (by assumption) ?_
      rotate_left
      ·(intro w9 hSw;(try dsimp only at hSw);go_simp) <;> with_reducible rfl
      try simp only [Act.put,List.getElem_toArray,List.getElem_cons_succ,List.getElem_cons_zero,List.setIfInBounds_toArray,List.set_cons_zero,List.set_cons_succ]
      refine wpAnyH_take (i:=5) (v:=?_) rfl (by kernel_rfl) (by kernel_rfl) (by kernel_rfl) (fun _ _ _ h=>h) (Or.inl ⟨by rfl,?_⟩) (by assumption) ?_
      rotate_left
      ·(intro w9 hSw;(try dsimp only at hSw);go_simp) <;> with_reducible rfl
      try simp only [Act.put,List.getElem_toArray,List.getElem_cons_succ,List.getElem_cons_zero,List.setIfInBounds_toArray,List.set_cons_zero,List.set_cons_succ]
      refine wpAnyH_take (i:=6) (v:=?_) rfl (by kernel_rfl) (by kernel_rfl) (by kernel_rfl) (fun _ _ _ h=>h) (Or.inl ⟨by rfl,?_⟩) (by assumption) ?_
      rotate_left
      ·(intro w9 hSw;(try dsimp only at hSw);go_simp) <;> with_reducible rfl
      try simp only [Act.put,List.getElem_toArray,List.getElem_cons_succ,List.getElem_cons_zero,List.setIfInBounds_toArray,List.set_cons_zero,List.set_cons_succ]
      refine wpAnyH_take (i:=7) (v:=?_) rfl (by kernel_rfl) (by kernel_rfl) (by kernel_rfl) (fun _ _ _ h=>h) (Or.inl ⟨by rfl,?_⟩) (by assumption) ?_
      rotate_left
      ·(intro w9 hSw;(try dsimp only at hSw);go_simp) <;> with_reducible rfl
      try simp only [Act.put,List.getElem_toArray,List.getElem_cons_succ,List.getElem_cons_zero,List.setIfInBounds_toArray,List.set_cons_zero,List.set_cons_succ]
      refine wpAnyH_ready (rs:=[8]) (by kernel_rfl) (by simp) ?_
      refine AllReadyH.cons rfl (fun K hK=>?_) AllReadyH.nil
      go_simp
      go_wp2_with (go_at_call 154;refine HC1.out.mono ?_;rintro e w5 ⟨ya,yc,rfl,b5,hy⟩)
      refine hK.out _ _ (by exact S3q.below hS b5) (fun hHeld2=>?_)
      clear hK K hHeld
      have hHeld:=hHeld2
      clear hHeld2
      try simp only [Act.put,List.getElem_toArray,List.getElem_cons_succ,List.getElem_cons_zero,List.setIfInBounds_toArray,List.set_cons_zero,List.set_cons_succ]
      refine wpAnyH_take (i:=9) (v:=?_) rfl (by kernel_rfl) (by kernel_rfl) (by kernel_rfl) (fun _ _ _ h=>h) (Or.inl ⟨by rfl,?_⟩) (by assumption) ?_
      rotate_left
      ·(intro w9 hSw;(try dsimp only at hSw);go_simp) <;> with_reducible rfl
      try simp only [Act.put,List.getElem_toArray,List.getElem_cons_succ,List.getElem_cons_zero,List.setIfInBounds_toArray,List.set_cons_zero,List.set_cons_succ]
      refine wpAnyH_take (i:=10) (v:=?_) rfl (by kernel_rfl) (by kernel_rfl) (by kernel_rfl) (fun _ _ _ h=>h) (Or.inl ⟨by rfl,?_⟩) (by assumption) ?_
      rotate_left
      ·(intro w9 hSw;(try dsimp only at hSw);go_simp) <;> with_reducible rfl
      try simp only [Act.put,List.getElem_toArray,List.getElem_cons_succ,List.getElem_cons_zero,List.setIfInBounds_toArray,List.set_cons_zero,List.set_cons_succ]
      refine wpAnyH_ready (rs:=[11]) (by kernel_rfl) (by simp) ?_
      refine AllReadyH.cons rfl (fun K hK=>?_) AllReadyH.nil
      go_simp
      go_wp2_with (go_at_call 124;refine (redNeed_yes _ _).mono ?_;rintro e wn ⟨rfl,hwn⟩;obtain rfl:=hwn.symm;clear hwn)
      refine hK.out _ _ (by exact S3q.below hS b5) (fun hHeld2=>?_)
      clear hK K hHeld
      have hHeld:=hHeld2
      clear hHeld2
      try simp only [Act.put,List.getElem_toArray,List.getElem_cons_succ,List.getElem_cons_zero,List.setIfInBounds_toArray,List.set_cons_zero,List.set_cons_succ]
      refine wpAnyH_ready (rs:=[12]) (by kernel_rfl) (by simp) ?_
      refine AllReadyH.cons rfl (fun K hK=>?_) AllReadyH.nil
      go_simp
      go_wp2_with (go_at_call 155;refine (HC2.out w5 ya yc (HS5.out.below b5).1 hy.1).mono ?_;rintro e w6 ⟨za,zc,rfl,b6,hz⟩)
      refine hK.out _ _ (by exact S3q.below (S3q.below hS b5) b6) (fun hHeld2=>?_)
      clear hK K hHeld
      have hHeld:=hHeld2
      clear hHeld2
      try simp only [Act.put,List.getElem_toArray,List.getElem_cons_succ,List.getElem_cons_zero,List.setIfInBounds_toArray,List.set_cons_zero,List.set_cons_succ]
      refine wpAnyH_take (i:=13) (v:=?_) rfl (by kernel_rfl) (by kernel_rfl) (by kernel_rfl) (fun _ _ _ h=>h) (Or.inl ⟨by rfl,?_⟩) (by assumption) ?_
      rotate_left
      ·(intro w9 hSw;(try dsimp only at hSw);go_simp) <;> with_reducible rfl
      try simp only [Act.put,List.getElem_toArray,List.getElem_cons_succ,List.getElem_cons_zero,List.setIfInBounds_toArray,List.set_cons_zero,List.set_cons_succ]
      refine wpAnyH_take (i:=14) (v:=?_) rfl (by kernel_rfl) (by kernel_rfl) (by kernel_rfl) (fun _ _ _ h=>h) (Or.inl ⟨by rfl,?_⟩) (by assumption) ?_
      rotate_left
      ·(intro w9 hSw;(try dsimp only at hSw);go_simp) <;> with_reducible rfl
      try simp only [Act.put,List.getElem_toArray,List.getElem_cons_succ,List.getElem_cons_zero,List.setIfInBounds_toArray,List.set_cons_zero,List.set_cons_succ]
      refine wpAnyH_ready (rs:=[15]) (by kernel_rfl) (by simp) ?_
      refine AllReadyH.cons rfl (fun K hK=>?_) AllReadyH.nil
      go_simp
      go_wp2_with (go_at_call 124;refine (redNeed_no _ _).mono ?_;rintro e wn ⟨rfl,hwn⟩;obtain rfl:=hwn.symm;clear hwn)
      exact ⟨rfl,HB1.out.trans ((bel_next (bel_next HB1X.out b5) b6).mono (Nat.le_of_lt hs1)),.inr ⟨rfl,rfl⟩⟩
     have HN:=Hid.mk' ((pcN_next HS.out).trans (pcS_3 HY1.out HZ1.out))
     go_wp2_with fail
     have hS:=HS0.out
     go_region_held3 (fun x=>S3q x wr.heap.size (.slice (qa t) (qs t).length (qc t)) (.slice (some ⟨rb,roff,none⟩) g (rc t)) rb (roff+j) (.slice (rad t j) QJ.length (rcp t j))) (first | with_reducible exact hS | with_reducible exact S3q.below (S3q.below hS b5) b6 | with_reducible exact S3q.below hS b5) (first | (go_at_call 154;refine HC1.out.mono ?_;rintro e w5 ⟨ya5,yc5,rfl,b5,hy5⟩) | (go_at_call 124;refine (redNeed_yes _ _).mono ?_;rintro e wn ⟨rfl,hwn⟩;obtain rfl:=hwn.symm;clear hwn) | (go_at_call 155;refine (HC2.out w5 ya5 yc5 (HS5.out.below b5).1 hy5.1).mono ?_;rintro e w6 ⟨za6,zc6,rfl,b6,hz6⟩))
     have hBx6:=bel_next (bel_next HBX.out b5) b6
     have HBX6:=Hid.mk' hBx6
     have h6:wr.heap.size≤(wr.alloc (.cells #[.slice (qa t) (qs t).length (qc t),.slice (some ⟨rb,roff,none⟩) g (rc t)] 192)).drew.heap.size:=by simp
     have h5:=b5.size
     have hO6:Out wo.heap.size w6 za6 zc6 Z1:=hz6.low (by omega)
     clear h6 h5
     have HO6:=Hid.mk' hO6
     clear hS b5 b6 hy5 hz6 hBx6 hO6
     go_wp2
     go_roundw
     case rel=>exact ⟨t+1,Z1,za6,zc6,by omega,by go_num,HN.out,rfl,HBX6.out,HO6.out⟩
     case measure=>simp [intOf];omega
    ·have htl:¬ (t:Int)<(M:Int):=by omega
     have hte:t=M:=by omega
     subst hte
     have HXN:=Hid.mk' (rowO_step HX.out HS.out)
     have hBw:Below wo.heap.size wo wr:=bel_next HBr4.out hBi
     have hAX:AnW w1.heap.size wr (updL X j s) j u5 ad cp B:=(HA.out.below hBw).congr (fun i hi=>(if_neg (by omega)).symm)
     have hA6X:AnW w1.heap.size wo (updL X j s) j u5 ad cp B:=HA.out.congr (fun i hi=>(if_neg (by omega)).symm)
     have hYj:updL X j s j=s:=if_pos rfl
     have HRND:Hid (∀ (g0 cap0:Nat) (w5:World),w5.ownsRow w1.heap.size 45 1 (.slice (some ⟨g0,0,none⟩) (j+1) cap0) (j+1) (slL ad (fun i=>(updL X j s i).length) cp j ++ [.slice sa s.length sc])→(wr.alloc (.cells #[.slice sa s.length sc] 45)).grownBy w5 u5.ownBlock→(u5.ownBlock=some g0∨g0=(wr.alloc (.cells #[.slice sa s.length sc] 45)).heap.size)→g0<w5.heap.size→∃ ad' cp' B',AnW w1.heap.size w5 (updL X j s) (j+1) (.slice (some ⟨g0,0,none⟩) (j+1) cap0) ad' cp' B'):=fun g0 cap0 w5 h1 h2 h3 h4=>by
      refine AnW.more hA6X hAX (a:=sa) (c:=sc) (by rw [hYj];exact HSO.out) ?_ ?_ ?_ h4
      ·rw [hYj];exact h2
      ·rw [hYj];exact h1
      ·rw [hYj];exact h3
     have HAX:=Hid.mk' hAX
     have HBW:=Hid.mk' (bel_next HB4.out hBi)
     have hsw:w1.heap.size≤wr.heap.size:=HBW.out.size
     clear hAX hA6X hYj hBw hBi
     go_wp2_with (at_builtin;refine wpList_append_lies _ rfl (.tmp 49) (.tmp 51) 24 rfl w1.heap.size 45 i0 _ 1 24 Tryz.underlying24 hi0 hz0 hz1 hz2 rfl (by omega) _ j (slL ad (fun i=>(updL X j s i).length) cp j) rfl (HAX.out.row.alloc _) ⟨wr.heap.size,0,none⟩ 1 1 [.slice sa s.length sc] rfl rfl (World.news_of_block (heap_alloc_new wr _)) (one_sl _ _ _) (by omega) hmax (by omega) (by simp;omega) _ rfl ?_;intro g1 cap1 w8 hown2 hgrow2 hat2 hlt2;have HRR:=Hid.mk' (HRND.out g1 cap1 w8 hown2 hgrow2 hat2 hlt2);have HB8:=Hid.mk' ((HBW.out.alloc HBW.out.size _).grown hgrow2 (by simp;omega) (fun k e=>(HAX.out.row.lt k e).1));clear hown2 hgrow2 hat2 hlt2)
     obtain ⟨ad',cp',B',hA8⟩:=HRR.out
     go_roundw
     case rel=>exact ⟨j+1,updL X j s,ad',cp',B',by omega,by go_num,HXN.out,HB8.out,hA8⟩
     case measure=>simp [intOf];omega
  ·have hjn:¬ (j:Int)<(g:Int):=by omega
   have hje:j=g:=by omega
   subst hje
   have hEs:E=some X:=by rw [← HE.out];exact HX.out
   subst hEs
   obtain ⟨qa',qc',Rb,etv,hO⟩:=HA.out.out (by omega)
   subst etv
   have HOO:=Hid.mk' hO
   clear hB hA hO
   go_wp2
   go_ret
   exact ⟨HB1.out.trans (HB.out.mono (Nat.le_of_lt hs1)),.inl ⟨X,qa',qc',ad,cp,w1.heap.size,Rb,B,rfl,rfl,Nat.le_of_lt hs1,HOO.out⟩⟩
end Go.Proofs.YtdidlcjhodejjaaGreat
namespace Go.Proofs.YtdidlcjhodejjaaGreat
open Go.RowKit Go.Deep Go.Joins
set_option linter.unusedVariables false
set_option linter.unusedSimpArgs false
abbrev S8p (u:World) (pb z:Nat) (t:T) (Mb:Nat) (pv:Value) (x:Nat) (i:Int) (prb y:Nat) (rv:Value):Prop:=
 u.cell? ⟨pb,z,none⟩=some (.int .i64 t.c)∧u.cell? ⟨pb,z+1,none⟩=some (.int .i64 t.m.x)∧u.cell? ⟨pb,z+2,none⟩=some (.int .i64 t.m.y)∧u.cell? ⟨pb,z+3,none⟩=some (.int .i64 t.m.d)∧u.cell? ⟨pb,z+4,none⟩=some (.int .i64 t.m.e)∧u.cell? ⟨Mb,1,none⟩=some pv∧u.cell? ⟨pb,x,none⟩=some (.int .i64 i)∧u.cell? ⟨prb,y,none⟩=some rv
theorem S8p.below {u u':World} {pb z:Nat} {t:T} {Mb:Nat} {pv:Value} {x:Nat} {i:Int} {prb y:Nat} {rv:Value} (h:S8p u pb z t Mb pv x i prb y rv) (hb:Below u.heap.size u u'):S8p u' pb z t Mb pv x i prb y rv:=by
 obtain ⟨a0,a1,a2,a3,a4,b0,c0,d0⟩:=h
 have l1:=World.block_lt_of_cell? u _ a0
 have l2:=World.block_lt_of_cell? u _ b0
 have l3:=World.block_lt_of_cell? u _ d0
 exact ⟨(hb.cell (p:=⟨pb,z,none⟩) l1).trans a0,(hb.cell (p:=⟨pb,z+1,none⟩) l1).trans a1,(hb.cell (p:=⟨pb,z+2,none⟩) l1).trans a2,(hb.cell (p:=⟨pb,z+3,none⟩) l1).trans a3,(hb.cell (p:=⟨pb,z+4,none⟩) l1).trans a4,(hb.cell (p:=⟨Mb,1,none⟩) l2).trans b0,(hb.cell (p:=⟨pb,x,none⟩) l1).trans c0,(hb.cell (p:=⟨prb,y,none⟩) l3).trans d0⟩
theorem infoPA:(Tryz.prog.info? 192).map (fun i=>(i.zero,i.size,i.bytes))=some (some (.agg #[.slice none 0 0,.slice none 0 0]),2,48):=by kernel_rfl
def paL (qa:Nat→Option Addr) (qs:Nat→List T) (qc:Nat→Nat) (ra:Nat→Option Addr) (g:Nat) (rc:Nat→Nat):Nat→List Value
 | 0=>[]
 | t+1=>paL qa qs qc ra g rc t ++ [.slice (qa t) (qs t).length (qc t),.slice (ra t) g (rc t)]
theorem paL_len (qa:Nat→Option Addr) (qs:Nat→List T) (qc:Nat→Nat) (ra:Nat→Option Addr) (g:Nat) (rc:Nat→Nat):∀ t,(paL qa qs qc ra g rc t).length=t * 2
 | 0=>rfl
 | t+1=>by
  show (paL qa qs qc ra g rc t ++ _).length=_
  rw [List.length_append,paL_len qa qs qc ra g rc t]
  simp;omega
theorem paL_at {qa:Nat→Option Addr} {qs:Nat→List T} {qc:Nat→Nat} {ra:Nat→Option Addr} {g:Nat} {rc:Nat→Nat}:∀ (n t:Nat),t<n→(paL qa qs qc ra g rc n)[t * 2]? = some (.slice (qa t) (qs t).length (qc t))∧(paL qa qs qc ra g rc n)[t * 2+1]? = some (.slice (ra t) g (rc t))
 | 0,t,h=>by omega
 | n+1,t,h=>by
  have hl:=paL_len qa qs qc ra g rc n
  show (paL qa qs qc ra g rc n ++ _)[t * 2]? = _∧(paL qa qs qc ra g rc n ++ _)[t * 2+1]? = _
  by_cases e:t=n
  ·subst e
   rw [List.getElem?_append_right (by omega),List.getElem?_append_right (by omega),hl]
   simp
  ·obtain ⟨h1,h2⟩:=paL_at (qa:=qa) (qs:=qs) (qc:=qc) (ra:=ra) (g:=g) (rc:=rc) n t (by omega)
   rw [List.getElem?_append_left (by omega),List.getElem?_append_left (by omega)]
   exact ⟨h1,h2⟩
theorem two_cells (a b:Option Addr) (n m c d:Nat):∀ u∈[Value.slice a n c,Value.slice b m d],u.oneCell'=true:=fun u hu=>by
 simp at hu
 rcases hu with h | h <;> (subst h;rfl)
theorem parts_owns {w:World} {lo:Nat} {v:Value} {M:Nat} {qa:Nat→Option Addr} {qc:Nat→Nat} {ra:Nat→Option Addr} {rc:Nat→Nat} {rad:Nat→Nat→Option Addr} {rcp:Nat→Nat→Nat} {g:Nat} {qs:Nat→List T} {Q:Nat→Nat→List T} (h:w.ownsRow lo 192 2 v M (paL qa qs qc ra g rc M)) (hM:M≤100) (hq:∀ t,t<M→RL w (qa t) (qc t) (qs t)) (hr:∀ t,t<M→RdS w (ra t) g (rc t) (rad t) (lN (Q t)) (rcp t) (fN (Q t))):∃ oa oc,v=.slice oa M oc∧Parts w oa M oc qa qc ra rc rad rcp g qs Q:=by
 rcases h.2 with ⟨hv,h0⟩ | ⟨b,cap,cur,hv,hlo,hg,hnc,_⟩
 ·exact ⟨none,0,by rw [hv,h0],by omega,hM,.inl h0,hq,hr⟩
 ·have hr':=h
  rw [hv] at hr'
  refine ⟨some ⟨b,0,none⟩,cap,hv,hnc,hM,.inr ⟨b,0,rfl,(hr'.lt b rfl).2,fun t ht=>?_⟩,hq,hr⟩
  obtain ⟨e1,e2⟩:=paL_at (qa:=qa) (qs:=qs) (qc:=qc) (ra:=ra) (g:=g) (rc:=rc) M t ht
  exact ⟨by rw [Nat.zero_add,hr'.cellAt (t * 2) (by omega),e1],by rw [Nat.zero_add,hr'.cellAt (t * 2+1) (by omega),e2]⟩
def shF {α:Type} (x0:α) (f:Nat→α):Nat→α
 | 0=>x0
 | t+1=>f t
theorem po_a (w:World) (U:Obj) (y:TypeId) (v0 v1:Value):((w.alloc U).alloc (.cells #[v0,v1] y)).drew.cell? ⟨w.heap.size+1,0,none⟩=some v0∧((w.alloc U).alloc (.cells #[v0,v1] y)).drew.cell? ⟨w.heap.size+1,1,none⟩=some v1:=by
 have:=C2box (w.alloc U) y v0 v1
 rwa [World.size_alloc] at this
theorem po_b (w:World) (U:Obj) (y:TypeId) (v0 v1:Value):((w.alloc (.cells #[v0,v1] y)).alloc U).drew.cell? ⟨w.heap.size,0,none⟩=some v0∧((w.alloc (.cells #[v0,v1] y)).alloc U).drew.cell? ⟨w.heap.size,1,none⟩=some v1:=by
 have h:=C2box w y v0 v1
 have b:=bel_one (w.alloc (.cells #[v0,v1] y)) U
 exact ⟨(b.cell (p:=⟨w.heap.size,0,none⟩) (by simp)).trans h.1,(b.cell (p:=⟨w.heap.size,1,none⟩) (by simp)).trans h.2⟩
theorem po_rl (w:World) (X:Obj) (t:T):RL ((w.alloc X).alloc (.cells #[.int .i64 t.c,.int .i64 t.m.x,.int .i64 t.m.y,.int .i64 t.m.d,.int .i64 t.m.e] 42)).drew (some ⟨w.heap.size+1,0,none⟩) 1 [t]:=by
 have:=one_RL (w.alloc X) t
 rw [World.size_alloc] at this
 exact RL.below this (Below.refl _ _).drew
set_option maxRecDepth 100000 in
set_option maxHeartbeats 16000000 in
theorem proofOfI (w:World) (Mb pb:Nat) (p:Pr) (nx:Option Addr) (hp:PrAt w pb p nx) (g m:Nat) (hg:g≤12) (hm:m≤12) (pa:Option Addr) (pc:Nat) (hMb:w.cell? ⟨Mb,1,none⟩=some (.slice pa m pc)) (A:Nat→Option Addr) (C:Nat→Nat) (AD:Nat→Nat→Option Addr) (CP:Nat→Nat→Nat) (P:Nat→Nat→List T) (hP:R3 w pa m pc g A C AD CP P) (hi:p.i<m) (hk:p.k<m) (ta:Option Addr) (tc:Nat) (tad:Nat→Option Addr) (tcp:Nat→Nat) (q:Nat→List T) (hq:RdS w ta m tc tad (lN q) tcp (fN q)) {E:Option (Nat→List T)} (hE:rowO (fun j=>pcN [p.t1] (P p.i) (othQ p.t2 q) (othP P p.k) j (m+1)) g=E) :
  Calls Tryz.prog 162 #[.pointer (some ⟨Mb,0,none⟩),.pointer (some ⟨pb,0,none⟩),.slice ta m tc] w (PfP w g E):=by
 obtain ⟨i2,hi2,hx0,hx1,hx2⟩:=info_parts infoPA
 obtain ⟨prb,poff,rfl,hprb,hpcl⟩:=hP.2.2.1.resolve_left (by omega)
 obtain ⟨tb,toff,rfl,htb,htcl⟩:=hq.2.2.1.resolve_left (by omega)
 have hil:(p.i:Int)<(m:Int):=by omega
 have hkl:(p.k:Int)<(m:Int):=by omega
 have hi0:(0:Int)≤(p.i:Int):=by omega
 have hk0:(0:Int)≤(p.k:Int):=by omega
 have hml:(m:Int)≤12:=by omega
 have dr:Below w.heap.size w w.drew:=(Below.refl _ _).drew
 have HS1:Hid (S8p w.drew pb 0 p.t1 Mb (.slice (some ⟨prb,poff,none⟩) m pc) 10 (p.i:Int) prb (poff+p.i) (.slice (A p.i) g (C p.i))):=S8p.below (u:=w) ⟨hp.a0,hp.a1,hp.a2,hp.a3,hp.a4,hMb,hp.ci,hpcl p.i hi⟩ dr
 have HS2:Hid (S8p w pb 5 p.t2 Mb (.slice (some ⟨prb,poff,none⟩) m pc) 11 (p.k:Int) prb (poff+p.k) (.slice (A p.k) g (C p.k))):=⟨hp.b0,hp.b1,hp.b2,hp.b3,hp.b4,hMb,hp.ck,hpcl p.k hk⟩
 have HP:=Hid.mk' hP
 have HQ:=Hid.mk' hq
 have HE:=Hid.mk' hE
 have HTC:=Hid.mk' htcl
 have HPC:=Hid.mk' hpcl
 have HMB:=Hid.mk' hMb
 have hMl:Mb<w.heap.size:=World.block_lt_of_cell? w _ hMb
 clear hp hP hq hE htcl hpcl hMb dr
 go_enter Tryz.func162,Tryz.ntmps162
 go_wp2_with fail
 refine Code.wp_mono (Q:=NoPanic fun e a z=>e=Exit.normal∧∃ (g7:Nat) (fa:Option Addr) (x11 x12 x13 x14 x15 x16 x17 x18 x19 x20 x21 x22 x23 x24 x25 x26 x27 x28:Value),a={ tmps:=#[.pointer (some ⟨Mb,0,none⟩),.pointer (some ⟨pb,0,none⟩),.slice (some ⟨tb,toff,none⟩) m tc,undef,undef,undef,.slice none 0 0,.pointer (some ⟨g7,0,none⟩),undef,undef,undef,x11,x12,x13,x14,x15,x16,x17,x18,x19,x20,x21,x22,x23,x24,x25,x26,x27,x28,undef,undef,undef,undef,undef,undef,undef,undef,undef,undef,undef,undef,undef,undef,undef,undef,undef,undef,undef,undef,undef,undef,undef,undef,undef,undef,undef,undef,undef,undef,undef,undef,undef,undef,undef,undef,undef,undef,undef,undef,undef,undef,undef],defers:=[] }∧z.cell? ⟨g7,0,none⟩=some (.slice fa 1 1)∧z.cell? ⟨g7,1,none⟩=some (.slice (A p.i) g (C p.i))∧RL z fa 1 [p.t1]∧Below w.heap.size w z) ?_ ?_
 rotate_left
 ·have hS:=HS1.out
  go_region_held3 (fun x=>S8p x pb 0 p.t1 Mb (.slice (some ⟨prb,poff,none⟩) m pc) 10 (p.i:Int) prb (poff+p.i) (.slice (A p.i) g (C p.i))) (first | with_reducible exact hS | with_reducible exact S8p.below hS (bel_one _ _) | with_reducible exact S8p.below (S8p.below hS (bel_one _ _)) (bel_one _ _)) (fail)
  ·exact NoPanic.normal ⟨rfl,_,_,_,_,_,_,_,_,_,_,_,_,_,_,_,_,_,_,_,_,  rfl,(po_a w _ 192 _ _).1,(po_a w _ 192 _ _).2,RL.below (RL.below (one_RL w p.t1) (bel_one _ _)) (Below.refl _ _).drew,(bel_two w _ _).drew⟩
  ·exact NoPanic.normal ⟨rfl,_,_,_,_,_,_,_,_,_,_,_,_,_,_,_,_,_,_,_,_,  rfl,(po_b w _ 192 _ _).1,(po_b w _ 192 _ _).2,po_rl w _ p.t1,(bel_two w _ _).drew⟩
 ·rintro e a z hqz
  obtain ⟨rfl,g7,fa,x11,x12,x13,x14,x15,x16,x17,x18,x19,x20,x21,x22,x23,x24,x25,x26,x27,x28,rfl,c70,c71,hrl7,hbz⟩:=NoPanic.imp _ _ _ hqz
  have dz:Below z.heap.size z z.drew:=(Below.refl _ _).drew
  have HBZ:=Hid.mk' hbz
  have HBZd:=Hid.mk' (bel_next hbz dz)
  have HRL7:=Hid.mk' hrl7
  have H7:=Hid.mk' (And.intro c70 c71)
  have hS:=S8p.below (S8p.below HS2.out hbz) dz
  have hg7:g7<z.heap.size:=World.block_lt_of_cell? z _ c70
  have hwz:w.heap.size≤z.heap.size:=hbz.size
  clear hqz c70 c71 hrl7 hbz dz
  go_wp2_with fail
  go_region_held3 (fun x=>S8p x pb 5 p.t2 Mb (.slice (some ⟨prb,poff,none⟩) m pc) 11 (p.k:Int) prb (poff+p.k) (.slice (A p.k) g (C p.k))) (first | with_reducible exact hS | with_reducible exact S8p.below hS (bel_one _ _) | with_reducible exact S8p.below (S8p.below hS (bel_one _ _)) (bel_one _ _)) (fail)
  obtain ⟨z2,hz2⟩:∃ z2,z2=z.alloc (.cells #[.int .i64 p.t2.c,.int .i64 p.t2.m.x,.int .i64 p.t2.m.y,.int .i64 p.t2.m.d,.int .i64 p.t2.m.e] 42):=⟨_,rfl⟩
  have bz2:Below z.heap.size z z2:=by rw [hz2];exact bel_one z _
  have hs2:z2.heap.size=z.heap.size+1:=by rw [hz2];simp
  have HOW0:=Hid.mk' (World.ownsRow_lit (base:=z2.heap.size) (e:=192) (size:=2) z2 #[.slice (some ⟨z.heap.size,0,none⟩) 1 1,.slice (A p.k) g (C p.k)] 1 (Nat.le_refl _) (by unfold maxLen;omega) rfl)
  have HRL2:Hid (RL z2 (some ⟨z.heap.size,0,none⟩) 1 [p.t2]):=by rw [hz2];exact one_RL z p.t2
  have HBZ2:=Hid.mk' (bel_next HBZ.out bz2)
  have HBz2:=Hid.mk' bz2
  have HZ2:=Hid.mk' hz2
  have hs2':z.heap.size<z2.heap.size:=by omega
  have HB0:=Hid.mk' ((bel_one z2 (.cells #[.slice (some ⟨z.heap.size,0,none⟩) 1 1,.slice (A p.k) g (C p.k)] 192)).drew)
  have HOW:Hid (((z.alloc (.cells #[.int .i64 p.t2.c,.int .i64 p.t2.m.x,.int .i64 p.t2.m.y,.int .i64 p.t2.m.d,.int .i64 p.t2.m.e] 42)).alloc (.cells #[.slice (some ⟨z.heap.size,0,none⟩) 1 1,.slice (A p.k) g (C p.k)] 192)).drew.ownsRow z2.heap.size 192 2 (.slice (some ⟨z.heap.size+1,0,none⟩) 1 1) (0+1) (paL (shF (some ⟨z.heap.size,0,none⟩) tad) (othQ p.t2 q) (shF 1 tcp) (shF (A p.k) A) g (shF (C p.k) C) (0+1))):=by
   rw [← HZ2.out,← hs2]
   exact owns_below HOW0.out (Below.refl _ _).drew
  have HB00:Hid (Below z2.heap.size z2 ((z.alloc (.cells #[.int .i64 p.t2.c,.int .i64 p.t2.m.x,.int .i64 p.t2.m.y,.int .i64 p.t2.m.d,.int .i64 p.t2.m.e] 42)).alloc (.cells #[.slice (some ⟨z.heap.size,0,none⟩) 1 1,.slice (A p.k) g (C p.k)] 192)).drew):=by rw [← HZ2.out];exact HB0.out
  clear hS bz2 hz2 hs2 HOW0 HB0 HS1 HS2
  go_wp2
  go_loopw [8,50] (fun ov tt wr=>∃ t:Nat,t≤m∧tt=.int .i64 (t:Int)∧Below z2.heap.size z2 wr∧wr.ownsRow z2.heap.size 192 2 ov (t+1) (paL (shF (some ⟨z.heap.size,0,none⟩) tad) (othQ p.t2 q) (shF 1 tcp) (shF (A p.k) A) g (shF (C p.k) C) (t+1))) (fun _ tt _=>m - (intOf tt).toNat)
  case atStart=>exact ⟨0,Nat.zero_le _,rfl,HB00.out,HOW.out⟩
  case round=>
   obtain ⟨t,ht,rfl,hB,hown⟩:=hrel
   have HB:=Hid.mk' hB
   have HO:=Hid.mk' hown
   have hBw:=bel_next HBZ2.out hB
   have HBW:=Hid.mk' hBw
   have hsr:z2.heap.size≤wr.heap.size:=hB.size
   by_cases htm:t<m
   ·have htl:(t:Int)<(m:Int):=by omega
    have hmax:t+1+1≤maxLen:=by unfold maxLen;omega
    have d0:wr.cell? ⟨tb,toff+t,none⟩=some (.slice (tad t) (q t).length (tcp t)):=(hBw.cell (p:=⟨tb,toff+t,none⟩) htb).trans (HTC.out t htm)
    have d1:wr.cell? ⟨Mb,1,none⟩=some (.slice (some ⟨prb,poff,none⟩) m pc):=(hBw.cell (p:=⟨Mb,1,none⟩) hMl).trans HMB.out
    have d2:wr.cell? ⟨prb,poff+t,none⟩=some (.slice (A t) g (C t)):=(hBw.cell (p:=⟨prb,poff+t,none⟩) hprb).trans (HPC.out t htm)
    clear hB hown hBw
    go_wp2_with (at_builtin;refine wpList_append_lies _ rfl (.tmp 55) (.tmp 66) 193 rfl z2.heap.size 192 i2 _ 2 48 Tryz.underlying193 hi2 hx0 hx1 hx2 rfl (by omega) _ (t+1) (paL (shF (some ⟨z.heap.size,0,none⟩) tad) (othQ p.t2 q) (shF 1 tcp) (shF (A p.k) A) g (shF (C p.k) C) (t+1)) rfl (HO.out.alloc _) ⟨wr.heap.size,0,none⟩ 1 1 [.slice (tad t) (q t).length (tcp t),.slice (A t) g (C t)] rfl rfl (World.news_of_block (heap_alloc_new wr _)) (two_cells _ _ _ _ _ _) (by omega) hmax (by omega) (by simp;omega) _ rfl ?_;intro g1 cap1 w8 hown2 hgrow2 hat2 hlt2;have HO8:=Hid.mk' hown2;have HB8:=Hid.mk' ((HB.out.alloc HB.out.size _).grown hgrow2 (by simp;omega) (fun k e=>(HO.out.lt k e).1));clear hown2 hgrow2 hat2 hlt2)
    go_roundw
    case rel=>exact ⟨t+1,by omega,by go_num,HB8.out,HO8.out⟩
    case measure=>simp [intOf];omega
   ·have htl:¬ (t:Int)<(m:Int):=by omega
    have hte:t=m:=by omega
    subst hte
    have hq9:∀ x,x<t+1→RL wr (shF (some ⟨z.heap.size,0,none⟩) tad x) (shF 1 tcp x) (othQ p.t2 q x):=fun x hx=>by
     cases x with
     | zero=>exact HRL2.out.below hB
     | succ x=>exact (HQ.out.2.2.2 x (by omega)).below hBw
    have hr9:∀ x,x<t+1→RdS wr (shF (A p.k) A x) g (shF (C p.k) C x) (shF (AD p.k) AD x) (lN (othP P p.k x)) (shF (CP p.k) CP x) (fN (othP P p.k x)):=fun x hx=>by
     cases x with
     | zero=>exact (HP.out.2.2.2 p.k hk).below hBw
     | succ x=>exact (HP.out.2.2.2 x (by omega)).below hBw
    obtain ⟨oa,oc,rfl,hPa⟩:=parts_owns hown (by omega) hq9 hr9
    have hz9:=bel_next HBz2.out hB
    have c0:=(hz9.cell (p:=⟨g7,0,none⟩) hg7).trans H7.out.1
    have c1:=(hz9.cell (p:=⟨g7,1,none⟩) hg7).trans H7.out.2
    have hcall:=grbProofI wr fa 1 [p.t1] (HRL7.out.below hz9) (A p.i) g (C p.i) (AD p.i) (CP p.i) (P p.i) ((HP.out.2.2.2 p.i hi).below hBw) hg oa (t+1) oc _ _ _ _ _ _ _ _ hPa HE.out
    have HCL:=Hid.mk' hcall
    clear hB hown hBw hq9 hr9 hPa hz9 hcall
    go_wp2_with fail
    refine HCL.out.mono ?_
    rintro e w9 ⟨b9,h9⟩
    have HB9:=Hid.mk' (bel_next HBW.out b9)
    have hs9:w.heap.size≤wr.heap.size:=HBW.out.size
    clear b9 HCL
    rcases h9 with ⟨R,xa,xc,xad,xcp,xlo,xRb,xB,rfl,rfl,hxl,hxo⟩ | ⟨rfl,rfl⟩
    ·have HXO:=Hid.mk' hxo
     have HXL:=Hid.mk' hxl
     clear hxo hxl
     go_wp2
     go_ret
     exact ⟨HB9.out,.inl ⟨R,xa,xc,xad,xcp,xlo,xRb,xB,rfl,rfl,Nat.le_trans hs9 HXL.out,HXO.out⟩⟩
    ·exact ⟨rfl,HB9.out,.inr ⟨rfl,rfl⟩⟩
end Go.Proofs.YtdidlcjhodejjaaGreat
namespace Go.Proofs.YtdidlcjhodejjaaGreat
open Go.RowKit Go.Deep Go.Joins
set_option linter.unusedVariables false
theorem Fr.step {P P':Nat→Prop} {a b c:World} (h:Fr P a b) (k:Fr P' b c) (hp:∀ i,i<a.heap.size→P' i→P i):Fr P a c:=
 ⟨k.os.trans h.os,k.tape.trans h.tape,k.output.trans h.output,Nat.le_trans h.size k.size,fun i hi hn=>(k.block i (Nat.lt_of_lt_of_le hi h.size) (fun e=>hn (hp i hi e))).trans (h.block i hi hn)⟩
abbrev S11 (u:World) (b1 b2 Q z:Nat) (t1 t2:T) (lv:Value):Prop:=
 u.cell? ⟨b1,0,none⟩=some (.int .i64 t1.c)∧u.cell? ⟨b1,1,none⟩=some (.int .i64 t1.m.x)∧u.cell? ⟨b1,2,none⟩=some (.int .i64 t1.m.y)∧u.cell? ⟨b1,3,none⟩=some (.int .i64 t1.m.d)∧u.cell? ⟨b1,4,none⟩=some (.int .i64 t1.m.e)∧u.cell? ⟨b2,0,none⟩=some (.int .i64 t2.c)∧u.cell? ⟨b2,1,none⟩=some (.int .i64 t2.m.x)∧u.cell? ⟨b2,2,none⟩=some (.int .i64 t2.m.y)∧u.cell? ⟨b2,3,none⟩=some (.int .i64 t2.m.d)∧u.cell? ⟨b2,4,none⟩=some (.int .i64 t2.m.e)∧u.cell? ⟨Q,z,none⟩=some lv
theorem S11.mk {u:World} {b1 b2 Q z:Nat} {t1 t2:T} {lv:Value} (h1:C5 u b1 t1) (h2:C5 u b2 t2) (h3:u.cell? ⟨Q,z,none⟩=some lv):S11 u b1 b2 Q z t1 t2 lv:=⟨h1.1,h1.2.1,h1.2.2.1,h1.2.2.2.1,h1.2.2.2.2,h2.1,h2.2.1,h2.2.2.1,h2.2.2.2.1,h2.2.2.2.2,h3⟩
theorem S11.below {u u':World} {b1 b2 Q z:Nat} {t1 t2:T} {lv:Value} (h:S11 u b1 b2 Q z t1 t2 lv) (hb:Below u.heap.size u u'):S11 u' b1 b2 Q z t1 t2 lv:=by
 obtain ⟨a0,a1,a2,a3,a4,c0,c1,c2,c3,c4,d0⟩:=h
 have l1:=World.block_lt_of_cell? u _ a0
 have l2:=World.block_lt_of_cell? u _ c0
 have l3:=World.block_lt_of_cell? u _ d0
 exact ⟨(hb.cell (p:=⟨b1,0,none⟩) l1).trans a0,(hb.cell (p:=⟨b1,1,none⟩) l1).trans a1,(hb.cell (p:=⟨b1,2,none⟩) l1).trans a2,(hb.cell (p:=⟨b1,3,none⟩) l1).trans a3,(hb.cell (p:=⟨b1,4,none⟩) l1).trans a4,(hb.cell (p:=⟨b2,0,none⟩) l2).trans c0,(hb.cell (p:=⟨b2,1,none⟩) l2).trans c1,(hb.cell (p:=⟨b2,2,none⟩) l2).trans c2,(hb.cell (p:=⟨b2,3,none⟩) l2).trans c3,(hb.cell (p:=⟨b2,4,none⟩) l2).trans c4,(hb.cell (p:=⟨Q,z,none⟩) l3).trans d0⟩
theorem S11.fr {P:Nat→Prop} {u u':World} {b1 b2 Q z:Nat} {t1 t2:T} {lv:Value} (h:S11 u b1 b2 Q z t1 t2 lv) (hf:Fr P u u') (h1:¬ P b1) (h2:¬ P b2) (h3:u'.cell? ⟨Q,z,none⟩=some lv):S11 u' b1 b2 Q z t1 t2 lv:=by
 obtain ⟨a0,a1,a2,a3,a4,c0,c1,c2,c3,c4,d0⟩:=h
 have l1:=World.block_lt_of_cell? u _ a0
 have l2:=World.block_lt_of_cell? u _ c0
 exact ⟨(hf.cell l1 h1).trans a0,(hf.cell l1 h1).trans a1,(hf.cell l1 h1).trans a2,(hf.cell l1 h1).trans a3,(hf.cell l1 h1).trans a4,(hf.cell l2 h2).trans c0,(hf.cell l2 h2).trans c1,(hf.cell l2 h2).trans c2,(hf.cell l2 h2).trans c3,(hf.cell l2 h2).trans c4,h3⟩
theorem S11.c5 {u:World} {b1 b2 Q z:Nat} {t1 t2:T} {lv:Value} (h:S11 u b1 b2 Q z t1 t2 lv):C5 u b2 t2:=⟨h.2.2.2.2.2.1,h.2.2.2.2.2.2.1,h.2.2.2.2.2.2.2.1,h.2.2.2.2.2.2.2.2.1,h.2.2.2.2.2.2.2.2.2.1⟩
theorem gb_cell {w w':World} {row:Option Nat} (hg:w.grownBy w' row) {b o:Nat} (hb:b<w.heap.size) (hne:¬ row=some b):w'.cell? ⟨b,o,none⟩=w.cell? ⟨b,o,none⟩:=World.cell?_of_block (w:=w) (a:=⟨b,o,none⟩) (hg.block b hb (fun e=>hne e.symm))
theorem gb_frozen {w w':World} {row:Option Nat} (hg:w.grownBy w' row) {b o:Nat} (hb:b<w.heap.size) (hne:¬ row=some b):w'.frozen? ⟨b,o,none⟩=w.frozen? ⟨b,o,none⟩:=World.frozen?_of_block (w:=w) (a:=⟨b,o,none⟩) (hg.block b hb (fun e=>hne e.symm))
theorem rng_succ (kf:Nat→T) (m:Nat):(List.range (m+1)).map kf=(List.range m).map kf ++ [kf m]:=by simp [List.range_succ]
theorem lf_rng (kf:Nat→T) {m i:Nat} (h:i<m):lf ((List.range m).map kf) i=kf i:=by
 rw [lf_eq (by simpa using h)]
 simp
theorem Que.lead {w w':World} {lo Q z:Nat} {lv lv':Value} {m:Nat} {kf:Nat→T} {B:Nat→Nat} {a e:Nat} (h:Que w lo Q z lv m kf B a e) {row:Option Nat} (hg:w.grownBy w' row) (hr:row=lv.ownBlock) (ho:w'.ownsRow lo 42 5 lv' ((List.range (m+1)).map kf).length (cellsL ((List.range (m+1)).map kf))) (hl:∀ g,lv'.ownBlock=some g→lv.ownBlock=some g∨g=w.heap.size):Que (w'.setCell ⟨Q,z,none⟩ lv') lo Q z lv' (m+1) kf B a e:=by
 have f1:Fr (fun k=>lv.ownBlock=some k) w w':=(Fr.refl _ w).grown hg (fun g e _=>by rw [hr] at e;exact e)
 have f2:Fr (fun k=>k=Q) w' (w'.setCell ⟨Q,z,none⟩ lv'):=(Fr.refl _ w').set (fun _=>rfl)
 have nQ:¬ lv.ownBlock=some Q:=fun e=>h.ap Q e rfl
 have hlt:Q<w.heap.size:=h.lt
 have ap':∀ g,lv'.ownBlock=some g→g≠Q:=fun g hg'=>by
  rcases hl g hg' with q | q
  ·exact h.ap g q
  ·omega
 refine ⟨sc_same ((f1.cell h.lt nQ).trans h.cl),?_,?_,?_,f2.owns ho (fun g hg' q=>ap' g hg' q),ap',?_,?_,h.inj,h.hQ⟩
 ·rw [sc_other (neQ (by omega))];exact (f1.cell h.lt nQ).trans h.cf
 ·obtain ⟨v,c1,c2⟩:=h.ct
  exact ⟨v,by rw [sc_other (neQ (by omega))];exact (f1.cell h.lt nQ).trans c1,c2⟩
 ·simp only [World.frozen?_setCell]
  exact ⟨(f1.frozen h.lt nQ).trans h.fz.1,(f1.frozen h.lt nQ).trans h.fz.2.1,(f1.frozen h.lt nQ).trans h.fz.2.2⟩
 ·exact fun j j1 j2=>((h.pr j j1 j2).fr f1 (h.bk j j1 j2).2.2).fr f2 (h.bk j j1 j2).2.1
 ·intro j j1 j2
  refine ⟨(h.bk j j1 j2).1,(h.bk j j1 j2).2.1,fun q=>?_⟩
  rcases hl _ q with q' | q'
  ·exact (h.bk j j1 j2).2.2 q'
  ·have:=(h.pr j j1 j2).lt;omega
end Go.Proofs.YtdidlcjhodejjaaGreat
namespace Go.Proofs.YtdidlcjhodejjaaGreat
open Go.RowKit Go.Deep Go.Joins
set_option linter.unusedVariables false
def Kx (Q z:Nat) (w w':World):Prop:=∀ x,x≠z→x≠z+1→x≠z+2→w'.cell? ⟨Q,x,none⟩=w.cell? ⟨Q,x,none⟩∧w'.frozen? ⟨Q,x,none⟩=w.frozen? ⟨Q,x,none⟩
theorem Kx.refl (Q z:Nat) (w:World):Kx Q z w w:=fun _ _ _ _=>⟨rfl,rfl⟩
theorem Kx.trans {Q z:Nat} {a b c:World} (h:Kx Q z a b) (k:Kx Q z b c):Kx Q z a c:=fun x h1 h2 h3=>⟨(k x h1 h2 h3).1.trans (h x h1 h2 h3).1,(k x h1 h2 h3).2.trans (h x h1 h2 h3).2⟩
theorem Kx.next {Q z:Nat} {a b c:World} (h:Kx Q z a b) (hQ:Q<b.heap.size) (hb:Below b.heap.size b c):Kx Q z a c:=h.trans fun x _ _ _=>⟨hb.cell (p:=⟨Q,x,none⟩) hQ,hb.frozen (p:=⟨Q,x,none⟩) hQ⟩
theorem Kx.setQ {Q z:Nat} {a b:World} (h:Kx Q z a b) {y:Nat} (hy:y=z∨y=z+1∨y=z+2) (v:Value):Kx Q z a (b.setCell ⟨Q,y,none⟩ v):=h.trans fun x h1 h2 h3=>⟨sc_other (neQ (by omega)),World.frozen?_setCell ..⟩
theorem Kx.setO {Q z:Nat} {a b:World} (h:Kx Q z a b) {k y:Nat} (hk:k≠Q) (v:Value):Kx Q z a (b.setCell ⟨k,y,none⟩ v):=h.trans fun x h1 h2 h3=>⟨sc_other (fun e=>hk (by injection e)),World.frozen?_setCell ..⟩
theorem Kx.grownK {Q z:Nat} {a b c:World} (h:Kx Q z a b) {row:Option Nat} (hg:b.grownBy c row) (hQ:Q<b.heap.size) (hr:¬ row=some Q):Kx Q z a c:=h.trans fun x _ _ _=>⟨gb_cell (b:=Q) (o:=x) hg hQ hr,gb_frozen (b:=Q) (o:=x) hg hQ hr⟩
set_option maxRecDepth 100000 in
set_option maxHeartbeats 4000000 in
theorem pushK (w:World) (lo Q z:Nat) (lv:Value) (m:Nat) (kf:Nat→T) (B:Nat→Nat) (a e:Nat) (h:Que w lo Q z lv m kf B a e) (hae:a≤e) (b:Nat) (hb:PrAt w b (prQ kf e) none) (hlo:lo≤b) (hbQ:b≠Q) (hbl:lv.ownBlock≠some b) (hbB:∀ j,a≤j→j<e→B j≠b) :
  Calls Tryz.prog 121 #[.pointer (some ⟨Q,z,none⟩),.pointer (some ⟨b,0,none⟩)] w fun r w'=>r=.returned (.tuple #[])∧Que w' lo Q z lv m kf (updB B e b) a (e+1)∧Fr (fun k=>k=Q∨(a<e∧k=B (e - 1))) w w'∧Kx Q z w w':=by
 have HP:=Hid.mk' (h.push hae hb hlo hbQ hbl hbB)
 obtain ⟨tv,ht,ht2⟩:=h.ct
 have c0:=h.cf
 have z1:=h.fz.2.1
 have z2:=h.fz.2.2
 by_cases hlt:a<e
 ·obtain rfl:=ht2 hlt
  have e0:qF B a e=some ⟨B a,0,none⟩:=if_pos hlt
  rw [e0] at c0
  have hp:=h.pr (e - 1) (by omega) (by omega)
  have k1:=hp.nx
  have k2:=hp.fz
  have hne:B (e - 1)≠Q:=(h.bk (e - 1) (by omega) (by omega)).2.1
  have HQ:=HP.out
  rw [if_pos hlt] at HQ
  have HF:Hid (Fr (fun k=>k=Q∨(a<e∧k=B (e - 1))) w ((w.setCell ⟨B (e - 1),12,none⟩ (.pointer (some ⟨b,0,none⟩))).setCell ⟨Q,z+2,none⟩ (.pointer (some ⟨b,0,none⟩)))):=((Fr.refl _ w).set (fun _=>.inr ⟨hlt,rfl⟩)).set (fun _=>.inl rfl)
  have HK:Hid (Kx Q z w ((w.setCell ⟨B (e - 1),12,none⟩ (.pointer (some ⟨b,0,none⟩))).setCell ⟨Q,z+2,none⟩ (.pointer (some ⟨b,0,none⟩)))):=((Kx.refl Q z w).setO hne _).setQ (.inr (.inr rfl)) _
  have HQ2:=Hid.mk' HQ
  obtain ⟨L,hL⟩:∃ L,B (e - 1)=L:=⟨_,rfl⟩
  rw [hL] at ht k1 k2 hne
  have HL:=Hid.mk' hL
  clear h hp HQ ht2 e0 HP hb hL hbB
  go_enter Tryz.func121,Tryz.ntmps121
  go_wp2
  go_end0
  refine ⟨rfl,?_⟩
  have h1:=HQ2.out
  have h2:=HF.out
  have h3:=HK.out
  rw [HL.out] at h1
  rw [← HL.out] at h1 ⊢
  exact ⟨h1,h2,h3⟩
 ·have e0:qF B a e=none:=if_neg hlt
  rw [e0] at c0
  have HQ:=HP.out
  rw [if_neg hlt] at HQ
  have HF:Hid (Fr (fun k=>k=Q∨(a<e∧k=B (e - 1))) w ((w.setCell ⟨Q,z+1,none⟩ (.pointer (some ⟨b,0,none⟩))).setCell ⟨Q,z+2,none⟩ (.pointer (some ⟨b,0,none⟩)))):=((Fr.refl _ w).set (fun _=>.inl rfl)).set (fun _=>.inl rfl)
  have HQ2:=Hid.mk' HQ
  clear h HQ ht2 e0 HP hb hbB
  go_enter Tryz.func121,Tryz.ntmps121
  go_wp2
  go_end0
  exact ⟨rfl,HQ2.out,HF.out,((Kx.refl Q z w).setQ (.inr (.inl rfl)) _).setQ (.inr (.inr rfl)) _⟩
set_option maxRecDepth 100000 in
set_option maxHeartbeats 4000000 in
theorem popK (w:World) (lo Q z:Nat) (lv:Value) (m:Nat) (kf:Nat→T) (B:Nat→Nat) (a e:Nat) (h:Que w lo Q z lv m kf B a e) (hlt:a<e) :
  Calls Tryz.prog 80 #[.pointer (some ⟨Q,z,none⟩)] w fun r w'=>r=.returned (.pointer (some ⟨B a,0,none⟩))∧Que w' lo Q z lv m kf B (a+1) e∧PrAt w' (B a) (prQ kf a) (qF B (a+1) e)∧Fr (fun k=>k=Q) w w'∧Kx Q z w w':=by
 have HP:=Hid.mk' (h.pop hlt)
 have c0:=h.cf
 have z1:=h.fz.2.1
 have e0:qF B a e=some ⟨B a,0,none⟩:=if_pos hlt
 rw [e0] at c0
 have hp:=h.pr a (Nat.le_refl _) hlt
 have k1:=hp.nx
 have k2:(if a+1<e then some (⟨B (a+1),0,none⟩:Addr) else none)=qF B (a+1) e:=rfl
 rw [k2] at k1
 have hne:B a≠Q:=(h.bk a (Nat.le_refl _) hlt).2.1
 have HF:Hid (Fr (fun k=>k=Q) w (w.setCell ⟨Q,z+1,none⟩ (.pointer (qF B (a+1) e)))):=(Fr.refl _ w).set (fun _=>rfl)
 clear h hp e0 k2
 go_enter Tryz.func80,Tryz.ntmps80
 go_wp2
 go_ret
 exact ⟨rfl,HP.out.1,HP.out.2,HF.out,(Kx.refl Q z w).setQ (.inr (.inl rfl)) _⟩
set_option maxRecDepth 100000 in
set_option maxHeartbeats 8000000 in
theorem comeK (w:World) (lo Q z:Nat) (lv:Value) (m:Nat) (kf:Nat→T) (B:Nat→Nat) (a:Nat) (h:Que w lo Q z lv m kf B a (tri m)) (ha:a≤tri m) (hm:m≤12) (hlo:lo≤w.heap.size) (t:T) (ht:kf m=t) :
  Calls Tryz.prog 77 #[.pointer (some ⟨Q,z,none⟩),.agg #[.int .i64 t.c,.int .i64 t.m.x,.int .i64 t.m.y,.int .i64 t.m.d,.int .i64 t.m.e]] w fun r w'=>r=.returned (.tuple #[])∧∃ lv' B',Que w' lo Q z lv' (m+1) kf B' a (tri (m+1))∧(∀ j,j<tri m→B' j=B j)∧(∀ j,tri m≤j→j<tri (m+1)→w.heap.size≤B' j)∧(∀ g,lv'.ownBlock=some g→lv.ownBlock=some g∨w.heap.size≤g)∧Fr (QS Q lv B a (tri m)) w w'∧Kx Q z w w':=by
 obtain ⟨i0,hi0,hz0,hz1,hz2⟩:=info_parts infoT
 have bo:=bel_one w (.cells #[.int .i64 t.c,.int .i64 t.m.x,.int .i64 t.m.y,.int .i64 t.m.d,.int .i64 t.m.e] 42)
 have HQ0:=Hid.mk' (h.below bo)
 have HF0:Hid (Fr (QS Q lv B a (tri m)) w (w.alloc (.cells #[.int .i64 t.c,.int .i64 t.m.x,.int .i64 t.m.y,.int .i64 t.m.d,.int .i64 t.m.e] 42))):=Fr.of_below bo
 have HL0:=Hid.mk' (C5.box w 42 t)
 have HK0:=Hid.mk' ((Kx.refl Q z w).next h.lt bo)
 have hQw:Q<w.heap.size:=h.lt
 have hlen:((List.range m).map kf).length=m:=by simp
 obtain ⟨la,lc,hlv,hout⟩:=out_of_owns h.own (by rw [hlen];omega)
 rw [hlen] at hlv
 subst hlv
 have hgw:∀ g,(Value.slice la m lc).ownBlock=some g→g<w.heap.size:=fun g hg=>(h.own.lt g hg).2
 have hBw:∀ j,a≤j→j<tri m→B j<w.heap.size:=fun j j1 j2=>(h.pr j j1 j2).lt
 have HGW:=Hid.mk' hgw
 have HBW:=Hid.mk' hBw
 have hml:(m:Int)≤12:=by omega
 have c0:=(h.below bo).cl
 clear h hout hgw hBw
 go_enter Tryz.func77,Tryz.ntmps77
 go_wp2
 clear c0 bo
 generalize hw0:w.alloc (.cells #[.int .i64 t.c,.int .i64 t.m.x,.int .i64 t.m.y,.int .i64 t.m.d,.int .i64 t.m.e] 42)=w0 at *
 have hs0:w.heap.size≤w0.heap.size:=HF0.out.size
 clear hw0
 go_loopw [11] (fun v wr=>∃ (i:Nat) (Bi:Nat→Nat),i≤m∧v=.int .i64 (i:Int)∧Que wr lo Q z (.slice la m lc) m kf Bi a (tri m+i)∧(∀ j,j<tri m→Bi j=B j)∧(∀ j,tri m≤j→j<tri m+i→w.heap.size<Bi j)∧Fr (QS Q (.slice la m lc) B a (tri m)) w wr∧C5 wr w.heap.size t∧Kx Q z w wr) (fun v _=>m - (intOf v).toNat)
 case atStart=>exact ⟨0,B,Nat.zero_le _,rfl,HQ0.out,fun _ _=>rfl,fun j j1 j2=>by omega,HF0.out,HL0.out,HK0.out⟩
 case round=>
  obtain ⟨i,Bi,hi,rfl,hQ,hB1,hB2,hF,hL,hKx⟩:=hrel
  have HKX:=Hid.mk' hKx
  have hQr0:Q<wr.heap.size:=hQ.lt
  clear hKx
  have HB1:=Hid.mk' hB1
  have HB2:=Hid.mk' hB2
  have HF:=Hid.mk' hF
  have HQ:=Hid.mk' hQ
  have HLD:=Hid.mk' hL
  have hsr:w.heap.size≤wr.heap.size:=hF.size
  clear hB1 hB2
  by_cases hlt:i<m
  ·have hil:(i:Int)<(m:Int):=by omega
   obtain ⟨la2,lc2,hlv2,hout2⟩:=out_of_owns hQ.own (by rw [hlen];omega)
   rw [hlen] at hlv2
   obtain ⟨rfl,rfl⟩:la=la2∧lc=lc2:=by
    injection hlv2 with e1 e2 e3
    exact ⟨e1,e3⟩
   rcases hout2.1.2.2 with h0 | ⟨bb,off,rfl,hblt,hcl⟩
   ·omega
   obtain ⟨g0,g1,g2,g3,g4⟩:=hcl i (by rw [hlen];exact hlt)
   rw [lf_rng kf hlt] at g0 g1 g2 g3 g4
   obtain ⟨t1,ht1⟩:∃ t1,kf i=t1:=⟨_,rfl⟩
   rw [ht1] at g0 g1 g2 g3 g4
   have be:=bel_one wr (.cells #[.int .i64 t1.c,.int .i64 t1.m.x,.int .i64 t1.m.y,.int .i64 t1.m.d,.int .i64 t1.m.e] 42)
   have HS0:=Hid.mk' ((S11.mk (C5.box wr 42 t1) (hL.below be) (hQ.below be).cl).below (Below.refl _ _).drew)
   have hpr:prQ kf (tri m+i)=⟨sprT t1 (M.both t1.m t.m),sprT t (M.both t1.m t.m),i,m⟩:=by
    unfold prQ
    rw [pq_tri m i hlt,ht1,ht]
   have HPR:=Hid.mk' hpr
   have HC:=fun (W:World)=>sprOfI W t1 t
   generalize sprT t1 (M.both t1.m t.m)=u at HC HPR
   generalize sprT t (M.both t1.m t.m)=v at HC HPR
   have HQd:=Hid.mk' ((hQ.below be).below (Below.refl _ _).drew)
   have HFd:=Hid.mk' ((hF.next be).next (Below.refl _ _).drew)
   have HKd:=Hid.mk' ((HKX.out.next hQr0 be).next (by simp;omega) (Below.refl _ _).drew)
   have HLd:=Hid.mk' ((hL.below be).below (Below.refl _ _).drew)
   have hsd:w.heap.size≤(wr.alloc (.cells #[.int .i64 t1.c,.int .i64 t1.m.x,.int .i64 t1.m.y,.int .i64 t1.m.d,.int .i64 t1.m.e] 42)).drew.heap.size:=HFd.out.size
   have hBd:∀ j,a≤j→j<tri m+i→Bi j<wr.heap.size:=fun j j1 j2=>(hQ.pr j j1 j2).lt
   have HBD:=Hid.mk' hBd
   have hlg:∀ g,(Value.slice (some ⟨bb,off,none⟩) m lc).ownBlock=some g→g<wr.heap.size:=fun g hg=>(hQ.own.lt g hg).2
   have HLG:=Hid.mk' hlg
   clear hcl hout2 hlv2 hQ hF hL be hpr hBd hlg
   go_wp2_with fail
   clear g0 g1 g2 g3 g4
   have hS:=HS0.out
   go_region_held3 (fun u=>S11 u wr.heap.size w.heap.size Q z t1 t (.slice (some ⟨bb,off,none⟩) m lc)) (first | with_reducible exact hS | with_reducible exact S11.below hS b5 | with_reducible exact S11.below (S11.below hS b5) (bel_one _ _) | with_reducible exact hS8) (first | (go_at_call 122;refine (HC _).mono ?_;rintro e w5 ⟨rfl,b5⟩) | (go_at_call 121;have hP:PrAt (w5.alloc (.cells #[.int .i64 u.c,.int .i64 u.m.x,.int .i64 u.m.y,.int .i64 u.m.d,.int .i64 u.m.e,.int .i64 v.c,.int .i64 v.m.x,.int .i64 v.m.y,.int .i64 v.m.d,.int .i64 v.m.e,.int .i64 (i:Int),.int .i64 (m:Int),.pointer none] 147)) w5.heap.size (prQ kf (tri m+i)) none:=(by rw [HPR.out];exact PrAt.box w5 147 ⟨u,v,i,m⟩ none);have hsz5:=b5.size;refine (pushK _ lo Q z _ m kf Bi a (tri m+i) ((HQd.out.below b5).below (bel_one _ _)) (by omega) _ hP (by simp at hsz5;omega) (by simp at hsz5;omega) (fun q=>by have:=HLG.out _ q;simp at hsz5;omega) (fun j j1 j2=>by have:=HBD.out j j1 j2;simp at hsz5;omega)).mono ?_;rintro e w8 ⟨rfl,hq8,hf8,hk8⟩;have hS8:S11 w8 wr.heap.size w.heap.size Q z t1 t (.slice (some ⟨bb,off,none⟩) m lc):=S11.fr (S11.below (S11.below hS b5) (bel_one _ _)) hf8 (fun q=>by rcases q with q | ⟨q1,q2⟩;(· omega);(· have:=HBD.out (tri m+i - 1) (by omega) (by omega);omega)) (fun q=>by rcases q with q | ⟨q1,q2⟩;(· omega);(· rcases Nat.lt_or_ge (tri m+i - 1) (tri m) with k | k;(· have:=HB1.out _ k;have:=HBW.out (tri m+i - 1) (by omega) k;omega);(· have:=HB2.out _ k (by omega);omega))) hq8.cl))
   have hL8:C5 w8 w.heap.size t:=hS8.c5
   have hF8:Fr (QS Q (.slice (some ⟨bb,off,none⟩) m lc) B a (tri m)) w w8:=((HFd.out.next b5).next (bel_one _ _)).step hf8 (fun k hk q=>by
    rcases q with q | ⟨q1,q2⟩
    ·exact .inl q
    ·rcases Nat.lt_or_ge (tri m+i - 1) (tri m) with k' | k'
     ·by_cases e0:i=0
      ·subst e0
       exact .inr (.inr ⟨by omega,by rw [q2];exact HB1.out _ k'⟩)
      ·omega
     ·have:=HB2.out _ k' (by omega)
      omega)
   have hs5:w.heap.size<w5.heap.size:=by have:=b5.size;simp at this;omega
   have HK8:=Hid.mk' (((HKd.out.next (by simp;omega) b5).next (by omega) (bel_one _ _)).trans hk8)
   have HQ8:=Hid.mk' hq8
   have HL8:=Hid.mk' hL8
   have HF8:=Hid.mk' hF8
   clear hS hS8 hq8 hf8 hk8 hL8 hF8 b5 HC hP hsz5
   go_wp2
   go_roundw
   case rel=>exact ⟨i+1,updB Bi (tri m+i) w5.heap.size,by omega,by go_num,HQ8.out,fun j hj=>by
     unfold updB
     rw [if_neg (by omega)]
     exact HB1.out j hj,fun j j1 j2=>by
     unfold updB
     split
     ·exact hs5
     ·exact HB2.out j j1 (by omega),HF8.out,HL8.out,HK8.out⟩
   case measure=>simp [intOf];omega
  ·have hie:i=m:=by omega
   subst hie
   have hnl:¬ (i:Int)<(i:Int):=by omega
   have bd:Below wr.heap.size wr wr.drew:=(Below.refl _ _).drew
   have ba:=bel_one wr.drew (.cells #[.int .i64 t.c,.int .i64 t.m.x,.int .i64 t.m.y,.int .i64 t.m.d,.int .i64 t.m.e] 42)
   have hQa:=(hQ.below bd).below ba
   have c0:=hQ.cl
   have z0:=hQ.fz.1
   obtain ⟨l0,l1,l2,l3,l4⟩:=hL
   have hOa:((wr.drew).alloc (.cells #[.int .i64 t.c,.int .i64 t.m.x,.int .i64 t.m.y,.int .i64 t.m.d,.int .i64 t.m.e] 42)).ownsRow lo 42 5 (.slice la i lc) i (cellsL ((List.range i).map kf)):=by
    have:=hQa.own
    rwa [hlen] at this
   have hnQ:¬ (Value.slice la i lc).ownBlock=some Q:=fun q=>hQ.ap Q q rfl
   have hQr:Q<wr.heap.size:=hQ.lt
   have hnew:=heap_alloc_new wr.drew (.cells #[.int .i64 t.c,.int .i64 t.m.x,.int .i64 t.m.y,.int .i64 t.m.d,.int .i64 t.m.e] 42)
   have HQa:=Hid.mk' hQa
   have HFa:=Hid.mk' ((HF.out.next bd).next ba)
   have HKa:=Hid.mk' ((HKX.out.next hQr bd).next (by simp;omega) ba)
   have HOA:=Hid.mk' hOa
   have HNE:=Hid.mk' hnew
   have hlor:lo≤wr.heap.size:=Nat.le_trans hlo hsr
   have cA:=hQa.cl
   have zA:=hQa.fz.1
   have HCA:=Hid.mk' cA
   have HZA:=Hid.mk' zA
   clear hQ hF hQa hOa hnew bd ba cA zA
   go_wp2_with fail
   go_region_law (refine step_append_lies _ (by rfl) (.tmp 34) (.tmp 36) 45 (by rfl) lo 42 i0 _ 5 40 Tryz.underlying45 hi0 hz0 hz1 hz2 rfl (by omega) _ i (cellsL ((List.range i).map kf)) (by rfl) HOA.out ⟨wr.heap.size,0,none⟩ 1 1 (cellsL [t]) (by rfl) (by rw [cellsL_length];rfl) (by rw [cellsL_one];exact World.news_of_block HNE.out) (one_cells _) (by omega) (by unfold maxLen;omega) (by omega) (by simp;omega) _ rfl ?_;intro g0 cap0 w9 hown hgrow hat hlt9;have c9:=(gb_cell (b:=Q) (o:=z) hgrow (by simp;omega) hnQ).trans HCA.out;have z9:=(gb_frozen (b:=Q) (o:=z) hgrow (by simp;omega) hnQ).trans HZA.out)
   all_goals (
    clear c9 z9 l0 l1 l2 l3 l4 c0 z0
    have HOWN:=Hid.mk' hown
    have HGR:=Hid.mk' hgrow
    have HAT:=Hid.mk' hat
    clear hown hgrow hat hlt9
    go_wp2
    go_end0
    have hl':∀ g,(Value.slice (some ⟨g0,0,none⟩) (i+1) cap0).ownBlock=some g→(Value.slice la i lc).ownBlock=some g∨g=wr.heap.size+1:=fun g hg=>by
     have e:g0=g:=by simpa [Value.ownBlock] using hg
     subst e
     exact HAT.out.imp id (fun q=>by rw [q];simp)
    have ho:w9.ownsRow lo 42 5 (.slice (some ⟨g0,0,none⟩) (i+1) cap0) ((List.range (i+1)).map kf).length (cellsL ((List.range (i+1)).map kf)):=by
     have h:=HOWN.out
     rw [← ht,← cellsL_append,← rng_succ] at h
     rw [show ((List.range (i+1)).map kf).length=i+1 by simp]
     exact h
    refine ⟨rfl,.slice (some ⟨g0,0,none⟩) (i+1) cap0,Bi,HQa.out.lead HGR.out rfl ho (fun g hg=>by simpa using hl' g hg),HB1.out,fun j j1 j2=>Nat.le_of_lt (HB2.out j j1 j2),fun g hg=>(hl' g hg).imp id (fun q=>by omega),?_,?_⟩
    ·exact (HFa.out.grown HGR.out (fun g e hk=>.inr (.inl e))).set (fun _=>.inl rfl)
    ·exact (HKa.out.grownK HGR.out (by simp;omega) (fun q=>hnQ q)).setQ (.inl rfl) _)
end Go.Proofs.YtdidlcjhodejjaaGreat
