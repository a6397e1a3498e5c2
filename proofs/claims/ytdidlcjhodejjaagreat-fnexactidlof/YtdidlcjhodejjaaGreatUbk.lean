/-
  A basis is made: the model's GrbMake.
-/
import Derived.Test.YtdidlcjhodejjaaGreatUbj
import Derived.Test.YtdidlcjhodejjaaGreatUbf
import Derived.Test.YtdidlcjhodejjaaGreatUbi
import Derived.Test.YtdidlcjhodejjaaGreatUau
import Derived.Test.YtdidlcjhodejjaaGreatUah
namespace Go.Proofs.YtdidlcjhodejjaaGreat
open Go.RowKit Go.Deep Go.Joins
set_option linter.unusedVariables false
def MakeP (w:World) (n:Nat) (X:Bs × Bool) (r:Ending) (w':World):Prop:=∃ tvL tvP LS PS,r=.returned (.agg #[tvL,tvP,.bool X.2])∧Below w.heap.size w w'∧BsW (fun b=>b<w.heap.size) w' w.heap.size tvL tvP n X.1.m X.1.L X.1.m X.1.P LS PS
theorem BsW.none (Y:Nat→Prop) (w:World) (lo g:Nat) (L:Nat→List T) (P:Nat→Nat→List T):BsW Y w lo (.slice none 0 0) (.slice none 0 0) g 0 L 0 P [] []:=
 ⟨⟨rfl,.inl ⟨rfl,rfl⟩⟩,⟨rfl,.inl ⟨rfl,rfl⟩⟩,fun i hi=>by omega,fun i hi=>by omega,fun k hk=>by simp [Value.ownBlock] at hk,fun k hk=>by simp [Value.ownBlock] at hk⟩
def Y2 (a b x:Nat):Prop:=x≤a∨x=b
structure GW (w:World) (b7 n:Nat) (o:Int) (wr:World) (B:Bs) (tvL tvP:Value) (LS PS:List Value):Prop where
 bel:Below w.heap.size w wr
 box:Own3 wr b7 tvL tvP (.bool false)
 res:Own3 wr w.heap.size (.slice none 0 0) (.slice none 0 0) (.bool false)
 book:BsW (Y2 w.heap.size b7) wr w.heap.size tvL tvP n B.m B.L B.m B.P LS PS
theorem makeP_end {w:World} {b7 n:Nat} {o:Int} {wr:World} {B:Bs} {tvL tvP:Value} {LS PS:List Value} (h:GW w b7 n o wr B tvL tvP LS PS) (d:Bool) (u0 u1 u2:Value):MakeP w n (B,d) (.returned (.agg #[tvL,tvP,.bool d])) (((wr.setCell ⟨w.heap.size,0,none⟩ u0).setCell ⟨w.heap.size,1,none⟩ u1).setCell ⟨w.heap.size,2,none⟩ u2):=
 ⟨tvL,tvP,LS,PS,rfl,bel_s3 h.bel (Nat.le_refl _) _ _ _,(h.book.fr ((((Fr.refl (Y2 w.heap.size b7) wr).set (fun _=>.inl (Nat.le_refl _))).set (fun _=>.inl (Nat.le_refl _))).set (fun _=>.inl (Nat.le_refl _))) (fun _ q=>q)).yet (fun b _ q=>.inl (Nat.le_of_lt q))⟩
theorem makeP_end2 {w:World} {b7 n:Nat} {o:Int} {wr:World} {B:Bs} {tvL tvP:Value} {LS PS:List Value} (h:GW w b7 n o wr B tvL tvP LS PS) (hb7:w.heap.size≤b7) (u0 u1 u2 u3:Value):MakeP w n (B,true) (.returned (.agg #[tvL,tvP,.bool true])) ((((wr.setCell ⟨b7,2,none⟩ u3).setCell ⟨w.heap.size,0,none⟩ u0).setCell ⟨w.heap.size,1,none⟩ u1).setCell ⟨w.heap.size,2,none⟩ u2):=
 ⟨tvL,tvP,LS,PS,rfl,bel_s3 (h.bel.setCell hb7 _) (Nat.le_refl _) _ _ _,(h.book.fr (((((Fr.refl (Y2 w.heap.size b7) wr).set (fun _=>.inr rfl)).set (fun _=>.inl (Nat.le_refl _))).set (fun _=>.inl (Nat.le_refl _))).set (fun _=>.inl (Nat.le_refl _))) (fun _ q=>q)).yet (fun b _ q=>.inl (Nat.le_of_lt q))⟩
theorem grbMake_bad {o:Int} {n:Nat} {L:Nat→List T} {fuel:Int} (h:¬ ((1≤o∧o≤3)∧lstOk n (lN L) (fN L)=true∧(1≤n∧n≤3)∧(0≤fuel∧fuel≤60))):grbMake o n L fuel=(⟨0,fun _=>[],fun _ _=>[]⟩,false):=if_neg h
set_option maxRecDepth 100000 in
set_option maxHeartbeats 8000000 in
theorem grbMakeS_bad (w:World) (o:Int) (a:Option Addr) (n cap:Nat) (ad:Nat→Option Addr) (cp:Nat→Nat) (L:Nat→List T) (h:RdS w a n cap ad (lN L) cp (fN L)) (fuel:Int) (hbad:¬ ((1≤o∧o≤3)∧lstOk n (lN L) (fN L)=true∧(1≤n∧n≤3)∧(0≤fuel∧fuel≤60))) :
  Calls Tryz.prog 54 #[.int .i64 o,.slice a n cap,.int .i64 fuel] w (MakeP w n (⟨0,fun _=>[],fun _ _=>[]⟩,false)):=by
 have q1:(n:Int)≤140737488351232:=by have:=h.2.1;omega
 have HH:=Hid.mk' (h.below (bel_one w (.cells #[.slice none 0 0,.slice none 0 0,.bool false] 77)))
 have HX0:=Hid.mk' (Own3.box w 77 (.slice none 0 0) (.slice none 0 0) (.bool false))
 clear h
 by_cases ho:1≤o∧o≤3
 rotate_left
 ·have ho':o<1∨(1≤o∧3<o):=by omega
  clear hbad
  go_enter Tryz.func54,Tryz.ntmps54
  go_wp2_with (go_at_call 39;refine (inS_out _ _ _ _ ho').mono ?_;rintro r w' ⟨rfl,hw'⟩;obtain rfl:=hw'.symm;clear hw')
  refine bodyPost_ret (v:=.agg #[.slice none 0 0,.slice none 0 0,.bool false]) (by simp [results,Tryz.results54,go_sem, *]) rfl ?_
  exact ⟨_,_,[],[],rfl,bel_one w _,BsW.none _ _ _ _ _ _⟩
 obtain ⟨o1,o2⟩:=ho
 cases hl:lstOk n (lN L) (fN L)
 ·clear hbad
  go_enter Tryz.func54,Tryz.ntmps54
  go_wp2_with (go_at_call 39;refine (inS_in _ _ _ _ (by omega) (by omega)).mono ?_;rintro r w' ⟨rfl,hw'⟩;obtain rfl:=hw'.symm;clear hw')
  refine (lstOkS _ _ _ _ _ _ _ _ HH.out).mono ?_
  rw [hl]
  rintro r w2 ⟨rfl,hb2⟩
  have HB2:=Hid.mk' (bel_next (bel_one w (.cells #[.slice none 0 0,.slice none 0 0,.bool false] 77)) hb2)
  obtain ⟨⟨x0,x1,x2⟩,xz⟩:=HX0.out.below hb2
  clear hb2
  go_wp2
  refine bodyPost_ret (v:=.agg #[.slice none 0 0,.slice none 0 0,.bool false]) (by simp [results,Tryz.results54,go_sem, *]) rfl ?_
  refine ⟨_,_,[],[],rfl,?_,BsW.none _ _ _ _ _ _⟩
  with_reducible exact bel_s3 HB2.out (Nat.le_refl _) _ _ _
 by_cases hn:1≤n∧n≤3
 rotate_left
 ·have hn':(n:Int)<1∨(1≤(n:Int)∧3<(n:Int)):=by omega
  clear hbad
  go_enter Tryz.func54,Tryz.ntmps54
  go_wp2_with (go_at_call 39;refine (inS_in _ _ _ _ (by omega) (by omega)).mono ?_;rintro r w' ⟨rfl,hw'⟩;obtain rfl:=hw'.symm;clear hw')
  refine (lstOkS _ _ _ _ _ _ _ _ HH.out).mono ?_
  rw [hl]
  rintro r w2 ⟨rfl,hb2⟩
  have HB2:=Hid.mk' (bel_next (bel_one w (.cells #[.slice none 0 0,.slice none 0 0,.bool false] 77)) hb2)
  obtain ⟨⟨x0,x1,x2⟩,xz⟩:=HX0.out.below hb2
  clear hb2
  go_wp2_with (go_at_call 39;refine (inS_out _ _ _ _ hn').mono ?_;rintro r w' ⟨rfl,hw'⟩;obtain rfl:=hw'.symm;clear hw')
  refine bodyPost_ret (v:=.agg #[.slice none 0 0,.slice none 0 0,.bool false]) (by simp [results,Tryz.results54,go_sem, *]) rfl ?_
  refine ⟨_,_,[],[],rfl,?_,BsW.none _ _ _ _ _ _⟩
  with_reducible exact bel_s3 HB2.out (Nat.le_refl _) _ _ _
 have hf':fuel<0∨(0≤fuel∧60<fuel):=by
  by_cases h1:fuel<0
  ·exact .inl h1
  ·by_cases h2:60<fuel
   ·exact .inr ⟨by omega,h2⟩
   ·exact absurd ⟨⟨o1,o2⟩,hl,hn,by omega,by omega⟩ hbad
 have hn1:(1:Int)≤(n:Int):=by omega
 have hn3:(n:Int)≤3:=by omega
 clear hbad
 go_enter Tryz.func54,Tryz.ntmps54
 go_wp2_with (go_at_call 39;refine (inS_in _ _ _ _ (by omega) (by omega)).mono ?_;rintro r w' ⟨rfl,hw'⟩;obtain rfl:=hw'.symm;clear hw')
 refine (lstOkS _ _ _ _ _ _ _ _ HH.out).mono ?_
 rw [hl]
 rintro r w2 ⟨rfl,hb2⟩
 have HB2:=Hid.mk' (bel_next (bel_one w (.cells #[.slice none 0 0,.slice none 0 0,.bool false] 77)) hb2)
 obtain ⟨⟨x0,x1,x2⟩,xz⟩:=HX0.out.below hb2
 clear hb2
 go_wp2_with (first | (go_at_call 39;refine (inS_in _ _ _ _ (by omega) (by omega)).mono ?_;rintro r w' ⟨rfl,hw'⟩;obtain rfl:=hw'.symm;clear hw') | (go_at_call 39;refine (inS_out _ _ _ _ hf').mono ?_;rintro r w' ⟨rfl,hw'⟩;obtain rfl:=hw'.symm;clear hw'))
 refine bodyPost_ret (v:=.agg #[.slice none 0 0,.slice none 0 0,.bool false]) (by simp [results,Tryz.results54,go_sem, *]) rfl ?_
 refine ⟨_,_,[],[],rfl,?_,BsW.none _ _ _ _ _ _⟩
 with_reducible exact bel_s3 HB2.out (Nat.le_refl _) _ _ _
theorem Own3.set2 {w:World} {b:Nat} {v0 v1 v2:Value} (h:Own3 w b v0 v1 v2) (v:Value):Own3 (w.setCell ⟨b,2,none⟩ v) b v0 v1 v:=⟨⟨(sc_other (neQ (by decide))).trans h.1.1,(sc_other (neQ (by decide))).trans h.1.2.1,sc_same h.1.2.2⟩,fun j=>(World.frozen?_setCell ..).trans (h.2 j)⟩
theorem c_far {w:World} {b b' o o':Nat} {v u:Value} (h:w.cell? ⟨b,o,none⟩=some v∧b≠b'):(w.setCell ⟨b',o',none⟩ u).cell? ⟨b,o,none⟩=some v:=(sc_other (fun e=>h.2 (by injection e with e1;exact e1.symm))).trans h.1
theorem rowK_oneP (j:Nat):rowK (j:Int)=oneP j:=funext fun i=>by
 unfold rowK oneP
 by_cases h:i=j
 ·rw [if_pos h,if_pos (by omega)]
 ·rw [if_neg h,if_neg (by omega)]
theorem updL_self (L:Nat→List T) (j:Nat):updL L j (L j)=L:=funext fun i=>by
 unfold updL
 split
 ·rename_i e;rw [e]
 ·rfl
theorem updP_one (j:Nat):updP (fun k=>oneP k) j (oneP j)=fun k=>oneP k:=funext fun i=>by
 unfold updP
 split
 ·rename_i e;rw [e]
 ·rfl
structure G7 (w:World) (b7 n j:Nat) (wr:World) (L:Nat→List T) (tvL tvP:Value) (LS PS:List Value):Prop where
 bel:Below w.heap.size w wr
 box:Own3 wr b7 tvL tvP (.bool false)
 res:Own3 wr w.heap.size (.slice none 0 0) (.slice none 0 0) (.bool false)
 book:BsW (Y2 w.heap.size b7) wr w.heap.size tvL tvP n (j+1) L j (fun k=>oneP k) LS PS
theorem G7.below {w:World} {b7 n j:Nat} {wr wr':World} {L:Nat→List T} {tvL tvP:Value} {LS PS:List Value} (h:G7 w b7 n j wr L tvL tvP LS PS) (hb:Below wr.heap.size wr wr'):G7 w b7 n j wr' L tvL tvP LS PS:=⟨bel_next h.bel hb,h.box.below hb,h.res.below hb,h.book.below hb⟩
theorem GW.below {w:World} {b7 n:Nat} {o:Int} {wr wr':World} {B:Bs} {tvL tvP:Value} {LS PS:List Value} (h:GW w b7 n o wr B tvL tvP LS PS) (hb:Below wr.heap.size wr wr'):GW w b7 n o wr' B tvL tvP LS PS:=⟨bel_next h.bel hb,h.box.below hb,h.res.below hb,h.book.below hb⟩
theorem GW.app1 {w:World} {b7 n:Nat} {o:Int} {wr w5 w7:World} {j:Nat} {L:Nat→List T} {tvL tvP:Value} {LS PS:List Value} (h:GW w b7 n o wr ⟨j,L,fun k=>oneP k⟩ tvL tvP LS PS) (hb7:w.heap.size<b7) (hb:Below wr.heap.size wr w5) {a:Option Addr} {c:Nat} (hr:Out wr.heap.size w5 a c (L j)) {g1 cap1:Nat}
  (ho:w7.ownsRow w.heap.size 45 1 (.slice (some ⟨g1,0,none⟩) (j+1) cap1) (j+1) (LS ++ [.slice a (L j).length c])) (hg:(w5.alloc (.cells #[.slice a (L j).length c] 45)).grownBy w7 tvL.ownBlock) (ha:tvL.ownBlock=some g1∨g1=(w5.alloc (.cells #[.slice a (L j).length c] 45)).heap.size) :
  Own3 w7 b7 tvL tvP (.bool false)∧G7 w b7 n j (w7.setCell ⟨b7,0,none⟩ (.slice (some ⟨g1,0,none⟩) (j+1) cap1)) L (.slice (some ⟨g1,0,none⟩) (j+1) cap1) tvP (LS ++ [.slice a (L j).length c]) PS:=by
 have h5:=h.below hb
 have f7:Fr (fun k=>tvL.ownBlock=some k) w5 w7:=((Fr.refl _ w5).next (bel_one w5 _)).grown hg (fun k e _=>e)
 have hbr:=h.box.lt
 have hrr:=h.res.lt
 have hrl:RLo (NB (Y2 w.heap.size b7) tvL tvP) w5 a c (L j):=⟨hr.1,hr.2.2.imp id (fun ⟨g,off,e,hlo⟩ b off' e'=>by
  rw [e] at e'
  cases e'
  exact NB.far (m:=wr.heap.size) (fun k e=>(h.book.rL.lt k e).2) (fun k e=>(h.book.rP.lt k e).2) (fun k q=>by rcases q with q | q <;> omega) hlo)⟩
 have hY5:∀ b,Y2 w.heap.size b7 b→b<w5.heap.size:=fun b q=>by have:=h5.box.lt;have:=h5.res.lt;rcases q with q | q <;> omega
 have k7:=h5.book.appL hY5 hrl hg ho ha
 rw [updL_self] at k7
 have x7:=h5.box.fr f7 (fun q=>(h5.book.nL _ q).2 (.inr rfl))
 have r7:=h5.res.fr f7 (fun q=>(h5.book.nL _ q).2 (.inl (Nat.le_refl _)))
 have bel7:Below w.heap.size w w7:=Fr.below h5.bel f7 (fun k e=>(h5.book.rL.lt k e).1) (Nat.le_refl _)
 have sB:Fr (fun b=>b=b7) w7 (w7.setCell ⟨b7,0,none⟩ (.slice (some ⟨g1,0,none⟩) (j+1) cap1)):=(Fr.refl _ w7).set (fun _=>rfl)
 refine ⟨x7,bel7.setCell (by show w.heap.size≤b7;omega) _,x7.set0 _,r7.fr sB (fun q=>by omega),k7.fr ((Fr.refl (Y2 w.heap.size b7) w7).set (fun _=>.inr rfl)) (fun b q=>q)⟩
theorem G7.app2 {w:World} {b7 n:Nat} {o:Int} {wr w8 w10:World} {j lo:Nat} {L:Nat→List T} {tvL tvP:Value} {LS PS:List Value} (h:G7 w b7 n j wr L tvL tvP LS PS) (hb7:w.heap.size<b7) (hb:Below wr.heap.size wr w8) (hlo:wr.heap.size≤lo) {a:Option Addr} {c:Nat} {ad:Nat→Option Addr} {cp:Nat→Nat} {Rb:Nat} {Bb:Nat→Nat} (hr:OutS lo w8 a n c ad (lN (oneP j)) cp (fN (oneP j)) Rb Bb) {g1 cap1:Nat}
  (ho:w10.ownsRow w.heap.size 24 1 (.slice (some ⟨g1,0,none⟩) (j+1) cap1) (j+1) (PS ++ [.slice a n c])) (hg:(w8.alloc (.cells #[.slice a n c] 24)).grownBy w10 tvP.ownBlock) (ha:tvP.ownBlock=some g1∨g1=(w8.alloc (.cells #[.slice a n c] 24)).heap.size) :
  Own3 w10 b7 tvL tvP (.bool false)∧GW w b7 n o (w10.setCell ⟨b7,1,none⟩ (.slice (some ⟨g1,0,none⟩) (j+1) cap1)) ⟨j+1,L,fun k=>oneP k⟩ tvL (.slice (some ⟨g1,0,none⟩) (j+1) cap1) LS (PS ++ [.slice a n c]):=by
 have h5:=h.below hb
 have f7:Fr (fun k=>tvP.ownBlock=some k) w8 w10:=((Fr.refl _ w8).next (bel_one w8 _)).grown hg (fun k e _=>e)
 have hbr:=h.box.lt
 have hrr:=h.res.lt
 have hrs:RSo (NB (Y2 w.heap.size b7) tvL tvP) w8 a n c ad cp (oneP j):=(rso_outs (hi:=w8.heap.size) hr (Nat.le_refl _)).mono (fun b _ hb=>NB.far (m:=wr.heap.size) (fun k e=>(h.book.rL.lt k e).2) (fun k e=>(h.book.rP.lt k e).2) (fun k q=>by rcases q with q | q <;> omega) (by omega))
 have hY5:∀ b,Y2 w.heap.size b7 b→b<w8.heap.size:=fun b q=>by have:=h5.box.lt;have:=h5.res.lt;rcases q with q | q <;> omega
 have k7:=h5.book.appP hY5 hrs hg ho ha
 rw [updP_one] at k7
 have x7:=h5.box.fr f7 (fun q=>h5.book.nP _ q (.inr rfl))
 have r7:=h5.res.fr f7 (fun q=>h5.book.nP _ q (.inl (Nat.le_refl _)))
 have bel7:Below w.heap.size w w10:=Fr.below h5.bel f7 (fun k e=>(h5.book.rP.lt k e).1) (Nat.le_refl _)
 have sB:Fr (fun b=>b=b7) w10 (w10.setCell ⟨b7,1,none⟩ (.slice (some ⟨g1,0,none⟩) (j+1) cap1)):=(Fr.refl _ w10).set (fun _=>rfl)
 refine ⟨x7,bel7.setCell (by show w.heap.size≤b7;omega) _,x7.set1 _,r7.fr sB (fun q=>by omega),k7.fr ((Fr.refl (Y2 w.heap.size b7) w10).set (fun _=>.inr rfl)) (fun b q=>q)⟩
theorem GW.step {w:World} {b7 n:Nat} {o:Int} {wr w':World} {B B':Bs} {tvL tvP tvL' tvP':Value} {LS PS LS' PS':List Value} (h:GW w b7 n o wr B tvL tvP LS PS) (hb7:w.heap.size<b7) (hf:Fr (fun k=>tvL.ownBlock=some k∨tvP.ownBlock=some k) wr w') (hk:BsW (Y2 w.heap.size b7) w' w.heap.size tvL' tvP' n B'.m B'.L B'.m B'.P LS' PS') :
  (Own3 w' b7 tvL tvP (.bool false)∧Own3 w' w.heap.size (.slice none 0 0) (.slice none 0 0) (.bool false))∧GW w b7 n o (((w'.setCell ⟨b7,0,none⟩ tvL').setCell ⟨b7,1,none⟩ tvP').setCell ⟨b7,2,none⟩ (.bool false)) B' tvL' tvP' LS' PS':=by
 have nx:∀ x,Y2 w.heap.size b7 x→¬ (tvL.ownBlock=some x∨tvP.ownBlock=some x):=fun x q e=>by
  rcases e with e | e
  ·exact (h.book.nL _ e).2 q
  ·exact h.book.nP _ e q
 have x7:=h.box.fr hf (nx _ (.inr rfl))
 have r7:=h.res.fr hf (nx _ (.inl (Nat.le_refl _)))
 have bel7:Below w.heap.size w w':=Fr.below h.bel hf (fun k e=>by rcases e with e | e;exact (h.book.rL.lt k e).1;exact (h.book.rP.lt k e).1) (Nat.le_refl _)
 have sB:Fr (fun b=>b=b7) w' (((w'.setCell ⟨b7,0,none⟩ tvL').setCell ⟨b7,1,none⟩ tvP').setCell ⟨b7,2,none⟩ (.bool false)):=(((Fr.refl (fun b=>b=b7) w').set (fun _=>rfl)).set (fun _=>rfl)).set (fun _=>rfl)
 have hb7':w.heap.size≤b7:=by omega
 exact ⟨⟨x7,r7⟩,bel_s3 bel7 hb7' _ _ _,((x7.set0 tvL').set1 tvP').set2 (.bool false),r7.fr sB (fun q=>by omega),hk.fr ((((Fr.refl (Y2 w.heap.size b7) w').set (fun _=>.inr rfl)).set (fun _=>.inr rfl)).set (fun _=>.inr rfl)) (fun b q=>q)⟩
theorem grun_none {o:Int} {g f:Nat} {B:Bs} {k i:Nat} (hj:tri k+i<tri B.m) (hi:i<k) (hE:stepB o g B i k=none):grun o g (f+1) B (tri k+i)=(B,false):=by
 have e:pq (tri k+i)=(i,k):=pq_tri k i hi
 rw [grun,if_pos hj,e]
 simp only [hE]
theorem grun_some {o:Int} {g f:Nat} {B B2:Bs} {k i:Nat} (hj:tri k+i<tri B.m) (hi:i<k) (hE:stepB o g B i k=some B2):grun o g (f+1) B (tri k+i)=grun o g f B2 (tri k+i+1):=by
 have e:pq (tri k+i)=(i,k):=pq_tri k i hi
 rw [grun,if_pos hj,e]
 simp only [hE]
theorem grun_stop {o:Int} {g f:Nat} {B:Bs} {j:Nat} (hj:tri B.m≤j):grun o g f B j=(B,true):=by
 cases f with
 | zero=>show (B,decide (tri B.m≤j))=(B,true);rw [decide_eq_true hj]
 | succ f=>rw [grun,if_neg (by omega)]
theorem grun_out {o:Int} {g:Nat} {B:Bs} {j:Nat} (hj:j<tri B.m):grun o g 0 B j=(B,false):=by
 show (B,decide (tri B.m≤j))=(B,false);rw [decide_eq_false (by omega)]
theorem tri_lt2 {k m i:Nat} (hk:k<m) (hi:i<k):tri k+i<tri m:=by
 have h1:tri (k+1)≤tri m:=tri_mono hk
 have h2:tri (k+1)=tri k+k:=rfl
 omega
end Go.Proofs.YtdidlcjhodejjaaGreat
namespace Go.Proofs.YtdidlcjhodejjaaGreat
open Go.RowKit Go.Deep Go.Joins
set_option linter.unusedVariables false
set_option linter.unusedSimpArgs false
set_option maxRecDepth 100000 in
set_option maxHeartbeats 16000000 in
theorem grbMakeS_ok (w:World) (o:Int) (a:Option Addr) (n cap:Nat) (ad:Nat→Option Addr) (cp:Nat→Nat) (L:Nat→List T) (h:RdS w a n cap ad (lN L) cp (fN L)) (fu:Nat) (ho:1≤o∧o≤3) (hl:lstOk n (lN L) (fN L)=true) (hn:1≤n∧n≤3) (hf:fu≤60) {G:Bs × Bool} (hG:grun o n fu (grb0 n L) 0=G) :
  Calls Tryz.prog 54 #[.int .i64 o,.slice a n cap,.int .i64 (fu:Int)] w (MakeP w n G):=by
 obtain ⟨i0,hi0,hz0,hz1,hz2⟩:=info_parts infoSL
 obtain ⟨i1,hi1,hy0,hy1,hy2⟩:=info_parts infoS3
 obtain ⟨i2,hi2,hx0,hx1,hx2⟩:=info_parts infoT
 obtain ⟨o1,o2⟩:=ho
 have hn1:(1:Int)≤(n:Int):=by omega
 have hn3:(n:Int)≤3:=by omega
 have hf0:(0:Int)≤(fu:Int):=by omega
 have hf6:(fu:Int)≤60:=by omega
 rcases h.2.2.1 with h0 | ⟨lb,off,rfl,hlb,hcl⟩
 ·omega
 have HH:=Hid.mk' h
 have HC:=Hid.mk' hcl
 have HL:=Hid.mk' hl
 have HG:=Hid.mk' hG
 have HBK0:=Hid.mk' (grb0_ok ⟨o1,o2⟩ hl)
 have HX0:=Hid.mk' (Own3.box w 77 (.slice none 0 0) (.slice none 0 0) (.bool false))
 have HLA:=Hid.mk' (lstOk_all hl).2
 clear h hcl hG
 go_enter Tryz.func54,Tryz.ntmps54
 go_wp2_with (go_at_call 39;refine (inS_in _ _ _ _ (by omega) (by omega)).mono ?_;rintro r w' ⟨rfl,hw'⟩;obtain rfl:=hw'.symm;clear hw')
 refine (lstOkS _ _ _ _ _ _ _ _ (HH.out.below (bel_one w (.cells #[.slice none 0 0,.slice none 0 0,.bool false] 77)))).mono ?_
 rw [hl]
 rintro r w2 ⟨rfl,hb2⟩
 have hs2:w.heap.size<w2.heap.size:=by have:=hb2.size;simp at this;omega
 have HG0:Hid (GW w w2.heap.size n o (w2.alloc (.cells #[.slice none 0 0,.slice none 0 0,.bool false] 77)) ⟨0,L,fun k=>oneP k⟩ (.slice none 0 0) (.slice none 0 0) [] []):=⟨bel_next (bel_next (bel_one w (.cells #[.slice none 0 0,.slice none 0 0,.bool false] 77)) hb2) (bel_one w2 _),Own3.box w2 77 _ _ _,(HX0.out.below hb2).below (bel_one w2 _),BsW.none _ _ _ _ _ _⟩
 clear hb2 hl
 go_wp2_with (go_at_call 39;refine (inS_in _ _ _ _ (by omega) (by omega)).mono ?_;rintro r w' ⟨rfl,hw'⟩;obtain rfl:=hw'.symm;clear hw')
 go_loopw [8] (fun v wr=>∃ (j:Nat) (tvL tvP:Value) (LS PS:List Value),j≤n∧v=.int .i64 (j:Int)∧GW w w2.heap.size n o wr ⟨j,L,fun k=>oneP k⟩ tvL tvP LS PS) (fun v _=>n - (intOf v).toNat)
 case atStart=>exact ⟨0,_,_,_,_,Nat.zero_le _,rfl,HG0.out⟩
 case round=>
  obtain ⟨j,tvL,tvP,LS,PS,hj,rfl,hGW⟩:=hrel
  have HGW:=Hid.mk' hGW
  by_cases hlt:j<n
  ·have hjl:(j:Int)<(n:Int):=by omega
   obtain ⟨⟨c0,c1,c2⟩,cz⟩:=hGW.box
   have hb7:w2.heap.size<wr.heap.size:=hGW.box.lt
   have hwr:w.heap.size<wr.heap.size:=hGW.res.lt
   obtain ⟨A,hA⟩:∃ A,L j=A:=⟨_,rfl⟩
   have hS0:wr.cell? ⟨lb,off+j,none⟩=some (.slice (ad j) A.length (cp j)):=(hGW.bel.cell (p:=⟨lb,off+j,none⟩) hlb).trans (by rw [← hA];exact HC.out j hlt)
   have hrd:RL wr (ad j) (cp j) A:=by rw [← hA];exact (HH.out.2.2.2 j hlt).below hGW.bel
   have hA0:A.length≠0:=by rw [← hA];exact (HLA.out j hlt).1
   have hA4:A.length≤400:=by rw [← hA];exact (okL_falls (HLA.out j hlt).2).1
   obtain ⟨b2,off2,e2,hb2l,_⟩:=hrd.2.2.resolve_left hA0
   rw [e2] at hS0 hrd
   have hlw:lb<wr.heap.size:=World.block_lt_of_cell? wr _ hS0
   have bE:Below wr.heap.size wr (wr.alloc (.cells #[] 42)).drew:=(bel_one wr (.cells #[] 42)).drew
   have hown4:=owns_below (owns_empty wr) (Below.refl _ _).drew
   have HO4:=Hid.mk' hown4
   have HNEWS:=Hid.mk' (Rd.newsR (hrd.below bE))
   have hone:=cellsL_one_all A
   have hlen:(cellsL A).length=A.length * 5:=cellsL_length _
   have HIN:Hid (∀ (g0 cap0:Nat) (w5:World),w5.ownsRow wr.heap.size 42 5 (.slice (some ⟨g0,0,none⟩) (0+A.length) cap0) (0+A.length) (cellsL [] ++ cellsL A)→(wr.alloc (.cells #[] 42)).drew.grownBy w5 (Value.slice (some ⟨wr.heap.size,0,none⟩) 0 0).ownBlock→Below wr.heap.size wr w5∧Out wr.heap.size w5 (some ⟨g0,0,none⟩) cap0 (L j)):=fun g0 cap0 w5 h1 h2=>by
    have ho:=h1
    simp only [Nat.zero_add,show cellsL [] ++ cellsL A=cellsL A from rfl] at ho
    obtain ⟨a',c',e,hO⟩:=out_of_owns ho (by omega)
    obtain ⟨e3,e4⟩:some ⟨g0,0,none⟩=a'∧cap0=c':=by simpa using e
    subst e3 e4
    refine ⟨(bE).grown h2 (by simp) (fun k e=>by
     have:wr.heap.size=k:=by simpa [Value.ownBlock] using e
     omega),?_⟩
    rw [hA];exact hO
   have HB5:Hid (∀ (w5:World),Below wr.heap.size wr w5→w5.cell? ⟨w2.heap.size,0,none⟩=some tvL∧w5.cell? ⟨lb,off+j,none⟩=some (.slice (some ⟨b2,off2,none⟩) A.length (cp j))∧(w5.alloc (.cells #[] 42)).heap.size=w5.heap.size+1):=fun w5 hb=>⟨(hb.cell (p:=⟨w2.heap.size,0,none⟩) hb7).trans c0,(hb.cell (p:=⟨lb,off+j,none⟩) hlw).trans hS0,by simp⟩
   have HA:=Hid.mk' hA
   have hmax:j+1≤maxLen:=by unfold maxLen;omega
   have HS7:Hid (∀ (g0 cap0 g1 cap1:Nat) (w5 w7:World),Below wr.heap.size wr w5→Out wr.heap.size w5 (some ⟨g0,0,none⟩) cap0 (L j)→w7.ownsRow w.heap.size 45 1 (.slice (some ⟨g1,0,none⟩) (j+1) cap1) (j+1) (LS ++ [.slice (some ⟨g0,0,none⟩) A.length cap0])→(w5.alloc (.cells #[.slice (some ⟨g0,0,none⟩) A.length cap0] 45)).grownBy w7 tvL.ownBlock→(tvL.ownBlock=some g1∨g1=(w5.alloc (.cells #[.slice (some ⟨g0,0,none⟩) A.length cap0] 45)).heap.size) →
     (Own3 w7 w2.heap.size tvL tvP (.bool false)∧G7 w w2.heap.size n j (w7.setCell ⟨w2.heap.size,0,none⟩ (.slice (some ⟨g1,0,none⟩) (j+1) cap1)) L (.slice (some ⟨g1,0,none⟩) (j+1) cap1) tvP (LS ++ [.slice (some ⟨g0,0,none⟩) A.length cap0]) PS)∧(w7.cell? ⟨lb,off+j,none⟩=some (.slice (some ⟨b2,off2,none⟩) A.length (cp j))∧lb≠w2.heap.size)):=fun g0 cap0 g1 cap1 w5 w7 h1 h2 h3 h4 h5=>by
    have hlb7:lb<w.heap.size:=hlb
    have f7:Fr (fun k=>tvL.ownBlock=some k) w5 w7:=((Fr.refl _ w5).next (bel_one w5 _)).grown h4 (fun k e _=>e)
    have key:=fun k1 k2 k3=>HGW.out.app1 (g1:=g1) (cap1:=cap1) (w7:=w7) hs2 h1 h2 k1 k2 k3
    rw [HA.out] at key
    refine ⟨key h3 h4 h5,(f7.cell (by have:=h1.size;omega) (fun q=>by have:=(HGW.out.book.rL.lt _ q).1;omega)).trans (HB5.out w5 h1).2.1,by omega⟩
   clear hA hrd hown4 e2 hGW c1 c2 hS0
   have hS:=(HB5.out wr.drew (Below.refl _ _).drew).2.1
   have HBE:=Hid.mk' bE
   clear bE
   go_wp2_with fail
   refine wp_region_held_drew (S:=fun u=>u.cell? ⟨lb,off+j,none⟩=some (.slice (some ⟨b2,off2,none⟩) A.length (cp j))) (by kernel_rfl) (hS) (fun hHeld=>?_)
   refine wpAnyH_take (i:=0) (v:=?_) rfl (by kernel_rfl) (by kernel_rfl) (by kernel_rfl) (fun _ _ _ h=>h) (Or.inl ⟨by rfl,?_⟩) (by assumption) ?_
   rotate_left
   ·(intro w9 hSw;(try dsimp only at hSw);go_simp) <;> with_reducible rfl
   try simp only [Act.put,List.getElem_toArray,List.getElem_cons_succ,List.getElem_cons_zero,List.setIfInBounds_toArray,List.set_cons_zero,List.set_cons_succ]
   refine wpAnyH_take (i:=3) (v:=?_) rfl (by kernel_rfl) (by kernel_rfl) (by kernel_rfl) (fun _ _ _ h=>h) (Or.inl ⟨by rfl,?_⟩) (by assumption) ?_
   rotate_left
   ·(intro w9 hSw;(try dsimp only at hSw);go_simp) <;> with_reducible rfl
   try simp only [Act.put,List.getElem_toArray,List.getElem_cons_succ,List.getElem_cons_zero,List.setIfInBounds_toArray,List.set_cons_zero,List.set_cons_succ]
   refine wpAnyH_take (i:=4) (v:=?_) rfl (by kernel_rfl) (by kernel_rfl) (by kernel_rfl) (fun _ _ _ h=>h) (Or.inl ⟨by rfl,?_⟩) (by assumption) ?_
   rotate_left
   ·(intro w9 hSw;(try dsimp only at hSw);go_simp) <;> with_reducible rfl
   try simp only [Act.put,List.getElem_toArray,List.getElem_cons_succ,List.getElem_cons_zero,List.setIfInBounds_toArray,List.set_cons_zero,List.set_cons_succ]
   refine wpAnyH_take (i:=5) (v:=?_) rfl (by kernel_rfl) (by kernel_rfl) (by kernel_rfl) (fun _ _ _ h=>h) (Or.inl ⟨by rfl,?_⟩) (by assumption) ?_
   rotate_left
   ·(intro w9 hSw;(try dsimp only at hSw);go_simp) <;> with_reducible rfl
   try simp only [Act.put,List.getElem_toArray,List.getElem_cons_succ,List.getElem_cons_zero,List.setIfInBounds_toArray,List.set_cons_zero,List.set_cons_succ]
   refine wpAnyH_take (i:=6) (v:=?_) rfl (by kernel_rfl) (by kernel_rfl) (by kernel_rfl) (fun _ _ _ h=>h) (Or.inl ⟨by rfl,?_⟩) (by assumption) ?_
   rotate_left
   ·(intro w9 hSw;(try dsimp only at hSw);go_simp) <;> with_reducible rfl
   try simp only [Act.put,List.getElem_toArray,List.getElem_cons_succ,List.getElem_cons_zero,List.setIfInBounds_toArray,List.set_cons_zero,List.set_cons_succ]
   refine wpAnyH_ready (rs:=[1,2]) (by kernel_rfl) (by simp) ?_
   refine AllReadyH.cons rfl (fun K hK=>?_) ?_
   rotate_left
   refine AllReadyH.cons rfl (fun K hK=>?_) AllReadyH.nil
   go_simp
   refine hK.out _ _ (by first | with_reducible exact c_far h7S | with_reducible exact (HB5.out _ HBE.out).2.1 | with_reducible exact (HB5.out _ HF1.out).2.1 | with_reducible exact (HB5.out _ (bel_next HF1.out (bel_one w5 _))).2.1 | with_reducible exact h7S.1 | with_reducible exact hS) (fun hHeld2=>?_)
   clear hK K hHeld
   have hHeld:=hHeld2
   clear hHeld2
   try simp only [Act.put,List.getElem_toArray,List.getElem_cons_succ,List.getElem_cons_zero,List.setIfInBounds_toArray,List.set_cons_zero,List.set_cons_succ]
   refine wpAnyH_ready (rs:=[1,7]) (by kernel_rfl) (by simp) ?_
   refine AllReadyH.cons rfl (fun K hK=>?_) ?_
   rotate_left
   refine AllReadyH.cons rfl (fun K hK=>?_) AllReadyH.nil
   (refine step_append_lies _ (by rfl) (.tmp 42) (.tmp 46) 45 (by rfl) wr.heap.size 42 i2 _ 5 40 Tryz.underlying45 hi2 hx0 hx1 hx2 rfl (by omega) _ 0 (cellsL []) (by rfl) HO4.out ⟨b2,off2,none⟩ A.length (cp j) (cellsL A) (by rfl) hlen HNEWS.out hone (by omega) (by unfold maxLen;omega) (by omega) (by simp) _ (by rfl) ?_;intro g0 cap0 w5 hown1 hgrow hat hlt1;obtain ⟨f1,f2⟩:=HIN.out g0 cap0 w5 hown1 hgrow;have HF1:=Hid.mk' f1;have HF2:=Hid.mk' f2;have c5:=(HB5.out w5 f1).1;have c6:=(HB5.out _ (bel_next f1 (bel_one w5 (.cells #[.slice (some ⟨g0,0,none⟩) A.length cap0] 45)))).1;have hs5:wr.heap.size≤w5.heap.size:=f1.size;clear hown1 hgrow hat hlt1 f1 f2;simp only [Nat.zero_add])
   refine hK.out _ _ (by first | with_reducible exact c_far h7S | with_reducible exact (HB5.out _ HBE.out).2.1 | with_reducible exact (HB5.out _ HF1.out).2.1 | with_reducible exact (HB5.out _ (bel_next HF1.out (bel_one w5 _))).2.1 | with_reducible exact h7S.1 | with_reducible exact hS) (fun hHeld2=>?_)
   clear hK K hHeld
   have hHeld:=hHeld2
   clear hHeld2
   try simp only [Act.put,List.getElem_toArray,List.getElem_cons_succ,List.getElem_cons_zero,List.setIfInBounds_toArray,List.set_cons_zero,List.set_cons_succ]
   refine wpAnyH_ready (rs:=[1,8]) (by kernel_rfl) (by simp) ?_
   refine AllReadyH.cons rfl (fun K hK=>?_) ?_
   rotate_left
   refine AllReadyH.cons rfl (fun K hK=>?_) AllReadyH.nil
   go_simp
   refine hK.out _ _ (by first | with_reducible exact c_far h7S | with_reducible exact (HB5.out _ HBE.out).2.1 | with_reducible exact (HB5.out _ HF1.out).2.1 | with_reducible exact (HB5.out _ (bel_next HF1.out (bel_one w5 _))).2.1 | with_reducible exact h7S.1 | with_reducible exact hS) (fun hHeld2=>?_)
   clear hK K hHeld
   have hHeld:=hHeld2
   clear hHeld2
   try simp only [Act.put,List.getElem_toArray,List.getElem_cons_succ,List.getElem_cons_zero,List.setIfInBounds_toArray,List.set_cons_zero,List.set_cons_succ]
   refine wpAnyH_ready (rs:=[1]) (by kernel_rfl) (by simp) ?_
   refine AllReadyH.cons rfl (fun K hK=>?_) AllReadyH.nil
   go_simp
   refine hK.out _ _ (by first | with_reducible exact c_far h7S | with_reducible exact (HB5.out _ HBE.out).2.1 | with_reducible exact (HB5.out _ HF1.out).2.1 | with_reducible exact (HB5.out _ (bel_next HF1.out (bel_one w5 _))).2.1 | with_reducible exact h7S.1 | with_reducible exact hS) (fun hHeld2=>?_)
   clear hK K hHeld
   have hHeld:=hHeld2
   clear hHeld2
   try simp only [Act.put,List.getElem_toArray,List.getElem_cons_succ,List.getElem_cons_zero,List.setIfInBounds_toArray,List.set_cons_zero,List.set_cons_succ]
   refine wpAnyH_ready (rs:=[9]) (by kernel_rfl) (by simp) ?_
   refine AllReadyH.cons rfl (fun K hK=>?_) AllReadyH.nil
   (refine step_append_lies _ (by rfl) (.tmp 41) (.tmp 48) 24 (by rfl) w.heap.size 45 i0 _ 1 24 Tryz.underlying24 hi0 hz0 hz1 hz2 rfl (by omega) _ j LS (by rfl) ((HGW.out.below HF1.out).book.rL.alloc _) ⟨w5.heap.size,0,none⟩ 1 1 [.slice (some ⟨g0,0,none⟩) A.length cap0] (by rfl) (by rfl) (World.news_of_block (heap_alloc_new w5 _)) (one_sl _ _ _) (by omega) hmax (by omega) (by simp;omega) _ (by rfl) ?_;intro g1 cap1 w7 hown2 hgrow2 hat2 hlt2;have HP7:=Hid.mk' (HS7.out g0 cap0 g1 cap1 w5 w7 HF1.out HF2.out hown2 hgrow2 hat2);obtain ⟨⟨d0,d1,d2⟩,dz⟩:=HP7.out.1.1;have h7S:=HP7.out.2;clear hown2 hgrow2 hat2 hlt2 c5 c6 c0 cz)
   refine hK.out _ _ (by first | with_reducible exact c_far h7S | with_reducible exact (HB5.out _ HBE.out).2.1 | with_reducible exact (HB5.out _ HF1.out).2.1 | with_reducible exact (HB5.out _ (bel_next HF1.out (bel_one w5 _))).2.1 | with_reducible exact h7S.1 | with_reducible exact hS) (fun hHeld2=>?_)
   clear hK K hHeld
   have hHeld:=hHeld2
   clear hHeld2
   try simp only [Act.put,List.getElem_toArray,List.getElem_cons_succ,List.getElem_cons_zero,List.setIfInBounds_toArray,List.set_cons_zero,List.set_cons_succ]
   refine wpAnyH_take (i:=10) (v:=?_) rfl (by kernel_rfl) (by kernel_rfl) (by kernel_rfl) (fun _ _ _ h=>h) (Or.inl ⟨by rfl,?_⟩) (by assumption) ?_
   rotate_left
   ·(intro w9 hSw;(try dsimp only at hSw);go_simp) <;> with_reducible rfl
   try simp only [Act.put,List.getElem_toArray,List.getElem_cons_succ,List.getElem_cons_zero,List.setIfInBounds_toArray,List.set_cons_zero,List.set_cons_succ]
   refine wpAnyH_ready (rs:=[11]) (by kernel_rfl) (by simp) ?_
   refine AllReadyH.cons rfl (fun K hK=>?_) AllReadyH.nil
   go_simp
   refine hK.out _ _ (by first | with_reducible exact c_far h7S | with_reducible exact (HB5.out _ HBE.out).2.1 | with_reducible exact (HB5.out _ HF1.out).2.1 | with_reducible exact (HB5.out _ (bel_next HF1.out (bel_one w5 _))).2.1 | with_reducible exact h7S.1 | with_reducible exact hS) (fun hHeld2=>?_)
   clear hK K hHeld
   have hHeld:=hHeld2
   clear hHeld2
   try simp only [Act.put,List.getElem_toArray,List.getElem_cons_succ,List.getElem_cons_zero,List.setIfInBounds_toArray,List.set_cons_zero,List.set_cons_succ]
   refine wpAnyH_done (by kernel_rfl) ?_ _
   rotate_left
   go_simp
   refine hK.out _ _ (by first | with_reducible exact c_far h7S | with_reducible exact (HB5.out _ HBE.out).2.1 | with_reducible exact (HB5.out _ HF1.out).2.1 | with_reducible exact (HB5.out _ (bel_next HF1.out (bel_one w5 _))).2.1 | with_reducible exact h7S.1 | with_reducible exact hS) (fun hHeld2=>?_)
   clear hK K hHeld
   have hHeld:=hHeld2
   clear hHeld2
   try simp only [Act.put,List.getElem_toArray,List.getElem_cons_succ,List.getElem_cons_zero,List.setIfInBounds_toArray,List.set_cons_zero,List.set_cons_succ]
   refine wpAnyH_ready (rs:=[2]) (by kernel_rfl) (by simp) ?_
   refine AllReadyH.cons rfl (fun K hK=>?_) AllReadyH.nil
   go_simp
   refine hK.out _ _ (by first | with_reducible exact c_far h7S | with_reducible exact (HB5.out _ HBE.out).2.1 | with_reducible exact (HB5.out _ HF1.out).2.1 | with_reducible exact (HB5.out _ (bel_next HF1.out (bel_one w5 _))).2.1 | with_reducible exact h7S.1 | with_reducible exact hS) (fun hHeld2=>?_)
   clear hK K hHeld
   have hHeld:=hHeld2
   clear hHeld2
   try simp only [Act.put,List.getElem_toArray,List.getElem_cons_succ,List.getElem_cons_zero,List.setIfInBounds_toArray,List.set_cons_zero,List.set_cons_succ]
   refine wpAnyH_ready (rs:=[7]) (by kernel_rfl) (by simp) ?_
   refine AllReadyH.cons rfl (fun K hK=>?_) AllReadyH.nil
   (refine step_append_lies _ (by rfl) (.tmp 42) (.tmp 46) 45 (by rfl) wr.heap.size 42 i2 _ 5 40 Tryz.underlying45 hi2 hx0 hx1 hx2 rfl (by omega) _ 0 (cellsL []) (by rfl) HO4.out ⟨b2,off2,none⟩ A.length (cp j) (cellsL A) (by rfl) hlen HNEWS.out hone (by omega) (by unfold maxLen;omega) (by omega) (by simp) _ (by rfl) ?_;intro g0 cap0 w5 hown1 hgrow hat hlt1;obtain ⟨f1,f2⟩:=HIN.out g0 cap0 w5 hown1 hgrow;have HF1:=Hid.mk' f1;have HF2:=Hid.mk' f2;have c5:=(HB5.out w5 f1).1;have c6:=(HB5.out _ (bel_next f1 (bel_one w5 (.cells #[.slice (some ⟨g0,0,none⟩) A.length cap0] 45)))).1;have hs5:wr.heap.size≤w5.heap.size:=f1.size;clear hown1 hgrow hat hlt1 f1 f2;simp only [Nat.zero_add])
   refine hK.out _ _ (by first | with_reducible exact c_far h7S | with_reducible exact (HB5.out _ HBE.out).2.1 | with_reducible exact (HB5.out _ HF1.out).2.1 | with_reducible exact (HB5.out _ (bel_next HF1.out (bel_one w5 _))).2.1 | with_reducible exact h7S.1 | with_reducible exact hS) (fun hHeld2=>?_)
   clear hK K hHeld
   have hHeld:=hHeld2
   clear hHeld2
   try simp only [Act.put,List.getElem_toArray,List.getElem_cons_succ,List.getElem_cons_zero,List.setIfInBounds_toArray,List.set_cons_zero,List.set_cons_succ]
   refine wpAnyH_ready (rs:=[8]) (by kernel_rfl) (by simp) ?_
   refine AllReadyH.cons rfl (fun K hK=>?_) AllReadyH.nil
   go_simp
   refine hK.out _ _ (by first | with_reducible exact c_far h7S | with_reducible exact (HB5.out _ HBE.out).2.1 | with_reducible exact (HB5.out _ HF1.out).2.1 | with_reducible exact (HB5.out _ (bel_next HF1.out (bel_one w5 _))).2.1 | with_reducible exact h7S.1 | with_reducible exact hS) (fun hHeld2=>?_)
   clear hK K hHeld
   have hHeld:=hHeld2
   clear hHeld2
   try simp only [Act.put,List.getElem_toArray,List.getElem_cons_succ,List.getElem_cons_zero,List.setIfInBounds_toArray,List.set_cons_zero,List.set_cons_succ]
   refine wpAnyH_ready (rs:=[9]) (by kernel_rfl) (by simp) ?_
   refine AllReadyH.cons rfl (fun K hK=>?_) AllReadyH.nil
   (refine step_append_lies _ (by rfl) (.tmp 41) (.tmp 48) 24 (by rfl) w.heap.size 45 i0 _ 1 24 Tryz.underlying24 hi0 hz0 hz1 hz2 rfl (by omega) _ j LS (by rfl) ((HGW.out.below HF1.out).book.rL.alloc _) ⟨w5.heap.size,0,none⟩ 1 1 [.slice (some ⟨g0,0,none⟩) A.length cap0] (by rfl) (by rfl) (World.news_of_block (heap_alloc_new w5 _)) (one_sl _ _ _) (by omega) hmax (by omega) (by simp;omega) _ (by rfl) ?_;intro g1 cap1 w7 hown2 hgrow2 hat2 hlt2;have HP7:=Hid.mk' (HS7.out g0 cap0 g1 cap1 w5 w7 HF1.out HF2.out hown2 hgrow2 hat2);obtain ⟨⟨d0,d1,d2⟩,dz⟩:=HP7.out.1.1;have h7S:=HP7.out.2;clear hown2 hgrow2 hat2 hlt2 c5 c6 c0 cz)
   refine hK.out _ _ (by first | with_reducible exact c_far h7S | with_reducible exact (HB5.out _ HBE.out).2.1 | with_reducible exact (HB5.out _ HF1.out).2.1 | with_reducible exact (HB5.out _ (bel_next HF1.out (bel_one w5 _))).2.1 | with_reducible exact h7S.1 | with_reducible exact hS) (fun hHeld2=>?_)
   clear hK K hHeld
   have hHeld:=hHeld2
   clear hHeld2
   try simp only [Act.put,List.getElem_toArray,List.getElem_cons_succ,List.getElem_cons_zero,List.setIfInBounds_toArray,List.set_cons_zero,List.set_cons_succ]
   refine wpAnyH_take (i:=10) (v:=?_) rfl (by kernel_rfl) (by kernel_rfl) (by kernel_rfl) (fun _ _ _ h=>h) (Or.inl ⟨by rfl,?_⟩) (by assumption) ?_
   rotate_left
   ·(intro w9 hSw;(try dsimp only at hSw);go_simp) <;> with_reducible rfl
   try simp only [Act.put,List.getElem_toArray,List.getElem_cons_succ,List.getElem_cons_zero,List.setIfInBounds_toArray,List.set_cons_zero,List.set_cons_succ]
   refine wpAnyH_ready (rs:=[11]) (by kernel_rfl) (by simp) ?_
   refine AllReadyH.cons rfl (fun K hK=>?_) AllReadyH.nil
   go_simp
   refine hK.out _ _ (by first | with_reducible exact c_far h7S | with_reducible exact (HB5.out _ HBE.out).2.1 | with_reducible exact (HB5.out _ HF1.out).2.1 | with_reducible exact (HB5.out _ (bel_next HF1.out (bel_one w5 _))).2.1 | with_reducible exact h7S.1 | with_reducible exact hS) (fun hHeld2=>?_)
   clear hK K hHeld
   have hHeld:=hHeld2
   clear hHeld2
   try simp only [Act.put,List.getElem_toArray,List.getElem_cons_succ,List.getElem_cons_zero,List.setIfInBounds_toArray,List.set_cons_zero,List.set_cons_succ]
   refine wpAnyH_done (by kernel_rfl) ?_ _
   rotate_left
   go_simp
   refine hK.out _ _ (by first | with_reducible exact c_far h7S | with_reducible exact (HB5.out _ HBE.out).2.1 | with_reducible exact (HB5.out _ HF1.out).2.1 | with_reducible exact (HB5.out _ (bel_next HF1.out (bel_one w5 _))).2.1 | with_reducible exact h7S.1 | with_reducible exact hS) (fun hHeld2=>?_)
   clear hK K hHeld
   have hHeld:=hHeld2
   clear hHeld2
   try simp only [Act.put,List.getElem_toArray,List.getElem_cons_succ,List.getElem_cons_zero,List.setIfInBounds_toArray,List.set_cons_zero,List.set_cons_succ]
   refine wpAnyH_ready (rs:=[7]) (by kernel_rfl) (by simp) ?_
   refine AllReadyH.cons rfl (fun K hK=>?_) AllReadyH.nil
   (refine step_append_lies _ (by rfl) (.tmp 42) (.tmp 46) 45 (by rfl) wr.heap.size 42 i2 _ 5 40 Tryz.underlying45 hi2 hx0 hx1 hx2 rfl (by omega) _ 0 (cellsL []) (by rfl) HO4.out ⟨b2,off2,none⟩ A.length (cp j) (cellsL A) (by rfl) hlen HNEWS.out hone (by omega) (by unfold maxLen;omega) (by omega) (by simp) _ (by rfl) ?_;intro g0 cap0 w5 hown1 hgrow hat hlt1;obtain ⟨f1,f2⟩:=HIN.out g0 cap0 w5 hown1 hgrow;have HF1:=Hid.mk' f1;have HF2:=Hid.mk' f2;have c5:=(HB5.out w5 f1).1;have c6:=(HB5.out _ (bel_next f1 (bel_one w5 (.cells #[.slice (some ⟨g0,0,none⟩) A.length cap0] 45)))).1;have hs5:wr.heap.size≤w5.heap.size:=f1.size;clear hown1 hgrow hat hlt1 f1 f2;simp only [Nat.zero_add])
   refine hK.out _ _ (by first | with_reducible exact c_far h7S | with_reducible exact (HB5.out _ HBE.out).2.1 | with_reducible exact (HB5.out _ HF1.out).2.1 | with_reducible exact (HB5.out _ (bel_next HF1.out (bel_one w5 _))).2.1 | with_reducible exact h7S.1 | with_reducible exact hS) (fun hHeld2=>?_)
   clear hK K hHeld
   have hHeld:=hHeld2
   clear hHeld2
   try simp only [Act.put,List.getElem_toArray,List.getElem_cons_succ,List.getElem_cons_zero,List.setIfInBounds_toArray,List.set_cons_zero,List.set_cons_succ]
   refine wpAnyH_ready (rs:=[8]) (by kernel_rfl) (by simp) ?_
   refine AllReadyH.cons rfl (fun K hK=>?_) AllReadyH.nil
   go_simp
   refine hK.out _ _ (by first | with_reducible exact c_far h7S | with_reducible exact (HB5.out _ HBE.out).2.1 | with_reducible exact (HB5.out _ HF1.out).2.1 | with_reducible exact (HB5.out _ (bel_next HF1.out (bel_one w5 _))).2.1 | with_reducible exact h7S.1 | with_reducible exact hS) (fun hHeld2=>?_)
   clear hK K hHeld
   have hHeld:=hHeld2
   clear hHeld2
   try simp only [Act.put,List.getElem_toArray,List.getElem_cons_succ,List.getElem_cons_zero,List.setIfInBounds_toArray,List.set_cons_zero,List.set_cons_succ]
   refine wpAnyH_ready (rs:=[9]) (by kernel_rfl) (by simp) ?_
   refine AllReadyH.cons rfl (fun K hK=>?_) AllReadyH.nil
   (refine step_append_lies _ (by rfl) (.tmp 41) (.tmp 48) 24 (by rfl) w.heap.size 45 i0 _ 1 24 Tryz.underlying24 hi0 hz0 hz1 hz2 rfl (by omega) _ j LS (by rfl) ((HGW.out.below HF1.out).book.rL.alloc _) ⟨w5.heap.size,0,none⟩ 1 1 [.slice (some ⟨g0,0,none⟩) A.length cap0] (by rfl) (by rfl) (World.news_of_block (heap_alloc_new w5 _)) (one_sl _ _ _) (by omega) hmax (by omega) (by simp;omega) _ (by rfl) ?_;intro g1 cap1 w7 hown2 hgrow2 hat2 hlt2;have HP7:=Hid.mk' (HS7.out g0 cap0 g1 cap1 w5 w7 HF1.out HF2.out hown2 hgrow2 hat2);obtain ⟨⟨d0,d1,d2⟩,dz⟩:=HP7.out.1.1;have h7S:=HP7.out.2;clear hown2 hgrow2 hat2 hlt2 c5 c6 c0 cz)
   refine hK.out _ _ (by first | with_reducible exact c_far h7S | with_reducible exact (HB5.out _ HBE.out).2.1 | with_reducible exact (HB5.out _ HF1.out).2.1 | with_reducible exact (HB5.out _ (bel_next HF1.out (bel_one w5 _))).2.1 | with_reducible exact h7S.1 | with_reducible exact hS) (fun hHeld2=>?_)
   clear hK K hHeld
   have hHeld:=hHeld2
   clear hHeld2
   try simp only [Act.put,List.getElem_toArray,List.getElem_cons_succ,List.getElem_cons_zero,List.setIfInBounds_toArray,List.set_cons_zero,List.set_cons_succ]
   refine wpAnyH_take (i:=10) (v:=?_) rfl (by kernel_rfl) (by kernel_rfl) (by kernel_rfl) (fun _ _ _ h=>h) (Or.inl ⟨by rfl,?_⟩) (by assumption) ?_
   rotate_left
   ·(intro w9 hSw;(try dsimp only at hSw);go_simp) <;> with_reducible rfl
   try simp only [Act.put,List.getElem_toArray,List.getElem_cons_succ,List.getElem_cons_zero,List.setIfInBounds_toArray,List.set_cons_zero,List.set_cons_succ]
   refine wpAnyH_ready (rs:=[11]) (by kernel_rfl) (by simp) ?_
   refine AllReadyH.cons rfl (fun K hK=>?_) AllReadyH.nil
   go_simp
   refine hK.out _ _ (by first | with_reducible exact c_far h7S | with_reducible exact (HB5.out _ HBE.out).2.1 | with_reducible exact (HB5.out _ HF1.out).2.1 | with_reducible exact (HB5.out _ (bel_next HF1.out (bel_one w5 _))).2.1 | with_reducible exact h7S.1 | with_reducible exact hS) (fun hHeld2=>?_)
   clear hK K hHeld
   have hHeld:=hHeld2
   clear hHeld2
   try simp only [Act.put,List.getElem_toArray,List.getElem_cons_succ,List.getElem_cons_zero,List.setIfInBounds_toArray,List.set_cons_zero,List.set_cons_succ]
   refine wpAnyH_done (by kernel_rfl) ?_ _
   rotate_left
   go_simp
   refine hK.out _ _ (by first | with_reducible exact c_far h7S | with_reducible exact (HB5.out _ HBE.out).2.1 | with_reducible exact (HB5.out _ HF1.out).2.1 | with_reducible exact (HB5.out _ (bel_next HF1.out (bel_one w5 _))).2.1 | with_reducible exact h7S.1 | with_reducible exact hS) (fun hHeld2=>?_)
   clear hK K hHeld
   have hHeld:=hHeld2
   clear hHeld2
   try simp only [Act.put,List.getElem_toArray,List.getElem_cons_succ,List.getElem_cons_zero,List.setIfInBounds_toArray,List.set_cons_zero,List.set_cons_succ]
   refine wpAnyH_ready (rs:=[8]) (by kernel_rfl) (by simp) ?_
   refine AllReadyH.cons rfl (fun K hK=>?_) AllReadyH.nil
   go_simp
   refine hK.out _ _ (by first | with_reducible exact c_far h7S | with_reducible exact (HB5.out _ HBE.out).2.1 | with_reducible exact (HB5.out _ HF1.out).2.1 | with_reducible exact (HB5.out _ (bel_next HF1.out (bel_one w5 _))).2.1 | with_reducible exact h7S.1 | with_reducible exact hS) (fun hHeld2=>?_)
   clear hK K hHeld
   have hHeld:=hHeld2
   clear hHeld2
   try simp only [Act.put,List.getElem_toArray,List.getElem_cons_succ,List.getElem_cons_zero,List.setIfInBounds_toArray,List.set_cons_zero,List.set_cons_succ]
   refine wpAnyH_ready (rs:=[9]) (by kernel_rfl) (by simp) ?_
   refine AllReadyH.cons rfl (fun K hK=>?_) AllReadyH.nil
   (refine step_append_lies _ (by rfl) (.tmp 41) (.tmp 48) 24 (by rfl) w.heap.size 45 i0 _ 1 24 Tryz.underlying24 hi0 hz0 hz1 hz2 rfl (by omega) _ j LS (by rfl) ((HGW.out.below HF1.out).book.rL.alloc _) ⟨w5.heap.size,0,none⟩ 1 1 [.slice (some ⟨g0,0,none⟩) A.length cap0] (by rfl) (by rfl) (World.news_of_block (heap_alloc_new w5 _)) (one_sl _ _ _) (by omega) hmax (by omega) (by simp;omega) _ (by rfl) ?_;intro g1 cap1 w7 hown2 hgrow2 hat2 hlt2;have HP7:=Hid.mk' (HS7.out g0 cap0 g1 cap1 w5 w7 HF1.out HF2.out hown2 hgrow2 hat2);obtain ⟨⟨d0,d1,d2⟩,dz⟩:=HP7.out.1.1;have h7S:=HP7.out.2;clear hown2 hgrow2 hat2 hlt2 c5 c6 c0 cz)
   refine hK.out _ _ (by first | with_reducible exact c_far h7S | with_reducible exact (HB5.out _ HBE.out).2.1 | with_reducible exact (HB5.out _ HF1.out).2.1 | with_reducible exact (HB5.out _ (bel_next HF1.out (bel_one w5 _))).2.1 | with_reducible exact h7S.1 | with_reducible exact hS) (fun hHeld2=>?_)
   clear hK K hHeld
   have hHeld:=hHeld2
   clear hHeld2
   try simp only [Act.put,List.getElem_toArray,List.getElem_cons_succ,List.getElem_cons_zero,List.setIfInBounds_toArray,List.set_cons_zero,List.set_cons_succ]
   refine wpAnyH_take (i:=10) (v:=?_) rfl (by kernel_rfl) (by kernel_rfl) (by kernel_rfl) (fun _ _ _ h=>h) (Or.inl ⟨by rfl,?_⟩) (by assumption) ?_
   rotate_left
   ·(intro w9 hSw;(try dsimp only at hSw);go_simp) <;> with_reducible rfl
   try simp only [Act.put,List.getElem_toArray,List.getElem_cons_succ,List.getElem_cons_zero,List.setIfInBounds_toArray,List.set_cons_zero,List.set_cons_succ]
   refine wpAnyH_ready (rs:=[11]) (by kernel_rfl) (by simp) ?_
   refine AllReadyH.cons rfl (fun K hK=>?_) AllReadyH.nil
   go_simp
   refine hK.out _ _ (by first | with_reducible exact c_far h7S | with_reducible exact (HB5.out _ HBE.out).2.1 | with_reducible exact (HB5.out _ HF1.out).2.1 | with_reducible exact (HB5.out _ (bel_next HF1.out (bel_one w5 _))).2.1 | with_reducible exact h7S.1 | with_reducible exact hS) (fun hHeld2=>?_)
   clear hK K hHeld
   have hHeld:=hHeld2
   clear hHeld2
   try simp only [Act.put,List.getElem_toArray,List.getElem_cons_succ,List.getElem_cons_zero,List.setIfInBounds_toArray,List.set_cons_zero,List.set_cons_succ]
   refine wpAnyH_done (by kernel_rfl) ?_ _
   rotate_left
   all_goals (
    have HG7:=Hid.mk' HP7.out.1.2
    have hmax3:j+1≤maxLen:=hmax
    clear HP7 d0 d1 d2 dz h7S HS7 HF1 HF2 HO4 HNEWS HIN HB5 HBE hS hone hlen hs5 HG0
    generalize (w7.setCell ⟨w2.heap.size,0,none⟩ (.slice (some ⟨g1,0,none⟩) (j+1) cap1))=W7 at HG7 ⊢
    obtain ⟨⟨e0,e1,e2⟩,ez⟩:=HG7.out.box
    have hb77:w2.heap.size<W7.heap.size:=HG7.out.box.lt
    have hw7:w.heap.size<W7.heap.size:=HG7.out.res.lt
    have HE1:=Hid.mk' e1
    clear e0 e2
    go_wp2_with fail
    refine wp_region_held_drew (S:=fun _=>True) (by kernel_rfl) (trivial) (fun hHeld=>?_)
    refine wpAnyH_take (i:=0) (v:=?_) rfl (by kernel_rfl) (by kernel_rfl) (by kernel_rfl) (fun _ _ _ h=>h) (Or.inl ⟨by rfl,?_⟩) (by assumption) ?_
    rotate_left
    ·(intro w9 hSw;(try dsimp only at hSw);go_simp) <;> with_reducible rfl
    try simp only [Act.put,List.getElem_toArray,List.getElem_cons_succ,List.getElem_cons_zero,List.setIfInBounds_toArray,List.set_cons_zero,List.set_cons_succ]
    refine wpAnyH_take (i:=2) (v:=?_) rfl (by kernel_rfl) (by kernel_rfl) (by kernel_rfl) (fun _ _ _ h=>h) (Or.inl ⟨by rfl,?_⟩) (by assumption) ?_
    rotate_left
    ·(intro w9 hSw;(try dsimp only at hSw);go_simp) <;> with_reducible rfl
    try simp only [Act.put,List.getElem_toArray,List.getElem_cons_succ,List.getElem_cons_zero,List.setIfInBounds_toArray,List.set_cons_zero,List.set_cons_succ]
    refine wpAnyH_take (i:=3) (v:=?_) rfl (by kernel_rfl) (by kernel_rfl) (by kernel_rfl) (fun _ _ _ h=>h) (Or.inl ⟨by rfl,?_⟩) (by assumption) ?_
    rotate_left
    ·(intro w9 hSw;(try dsimp only at hSw);go_simp) <;> with_reducible rfl
    try simp only [Act.put,List.getElem_toArray,List.getElem_cons_succ,List.getElem_cons_zero,List.setIfInBounds_toArray,List.set_cons_zero,List.set_cons_succ]
    refine wpAnyH_take (i:=4) (v:=?_) rfl (by kernel_rfl) (by kernel_rfl) (by kernel_rfl) (fun _ _ _ h=>h) (Or.inl ⟨by rfl,?_⟩) (by assumption) ?_
    rotate_left
    ·(intro w9 hSw;(try dsimp only at hSw);go_simp) <;> with_reducible rfl
    try simp only [Act.put,List.getElem_toArray,List.getElem_cons_succ,List.getElem_cons_zero,List.setIfInBounds_toArray,List.set_cons_zero,List.set_cons_succ]
    refine wpAnyH_ready (rs:=[1,5]) (by kernel_rfl) (by simp) ?_
    refine AllReadyH.cons rfl (fun K hK=>?_) ?_
    rotate_left
    refine AllReadyH.cons rfl (fun K hK=>?_) AllReadyH.nil
    go_simp
    go_wp2_with (go_at_call 96;refine (l9RowS _ n (j:Int) (by omega)).mono ?_;rw [rowK_oneP];rintro e w8 ⟨ra,rc,rad,rcp,rRb,rB,rfl,b8,ho8⟩;have b8':Below W7.heap.size W7 w8:=bel_next (Below.refl _ _).drew b8;have HB8:=Hid.mk' b8';have HO8:=Hid.mk' ho8;have d1:w8.cell? ⟨w2.heap.size,1,none⟩=some tvP:=(b8'.cell (p:=⟨w2.heap.size,1,none⟩) hb77).trans HE1.out;have d2:(w8.alloc (.cells #[.slice ra n rc] 24)).cell? ⟨w2.heap.size,1,none⟩=some tvP:=((bel_next b8' (bel_one w8 (.cells #[.slice ra n rc] 24))).cell (p:=⟨w2.heap.size,1,none⟩) hb77).trans HE1.out;have hs8:W7.heap.size≤w8.heap.size:=b8'.size;clear b8 b8' ho8)
    refine hK.out _ _ (by trivial) (fun hHeld2=>?_)
    clear hK K hHeld
    have hHeld:=hHeld2
    clear hHeld2
    try simp only [Act.put,List.getElem_toArray,List.getElem_cons_succ,List.getElem_cons_zero,List.setIfInBounds_toArray,List.set_cons_zero,List.set_cons_succ]
    refine wpAnyH_ready (rs:=[1,6]) (by kernel_rfl) (by simp) ?_
    refine AllReadyH.cons rfl (fun K hK=>?_) ?_
    rotate_left
    refine AllReadyH.cons rfl (fun K hK=>?_) AllReadyH.nil
    go_simp
    refine hK.out _ _ (by trivial) (fun hHeld2=>?_)
    clear hK K hHeld
    have hHeld:=hHeld2
    clear hHeld2
    try simp only [Act.put,List.getElem_toArray,List.getElem_cons_succ,List.getElem_cons_zero,List.setIfInBounds_toArray,List.set_cons_zero,List.set_cons_succ]
    refine wpAnyH_ready (rs:=[1]) (by kernel_rfl) (by simp) ?_
    refine AllReadyH.cons rfl (fun K hK=>?_) AllReadyH.nil
    go_simp
    refine hK.out _ _ (by trivial) (fun hHeld2=>?_)
    clear hK K hHeld
    have hHeld:=hHeld2
    clear hHeld2
    try simp only [Act.put,List.getElem_toArray,List.getElem_cons_succ,List.getElem_cons_zero,List.setIfInBounds_toArray,List.set_cons_zero,List.set_cons_succ]
    refine wpAnyH_ready (rs:=[7]) (by kernel_rfl) (by simp) ?_
    refine AllReadyH.cons rfl (fun K hK=>?_) AllReadyH.nil
    (refine step_append_lies _ (by rfl) (.tmp 52) (.tmp 57) 75 (by rfl) w.heap.size 24 i1 _ 1 24 Tryz.underlying75 hi1 hy0 hy1 hy2 rfl (by omega) _ j PS (by rfl) ((HG7.out.below HB8.out).book.rP.alloc _) ⟨w8.heap.size,0,none⟩ 1 1 [.slice ra n rc] (by rfl) (by rfl) (World.news_of_block (heap_alloc_new w8 _)) (one_sl _ _ _) (by omega) hmax3 (by omega) (by simp;omega) _ (by rfl) ?_;intro g2 cap2 w10 hown3 hgrow3 hat3 hlt3;have HP9:=Hid.mk' (HG7.out.app2 (o:=o) hs2 HB8.out (by simp) HO8.out hown3 hgrow3 hat3);obtain ⟨⟨f0,f1,f2⟩,fz⟩:=HP9.out.1;clear hown3 hgrow3 hat3 hlt3 d1 d2 e1 ez)
    refine hK.out _ _ (by trivial) (fun hHeld2=>?_)
    clear hK K hHeld
    have hHeld:=hHeld2
    clear hHeld2
    try simp only [Act.put,List.getElem_toArray,List.getElem_cons_succ,List.getElem_cons_zero,List.setIfInBounds_toArray,List.set_cons_zero,List.set_cons_succ]
    refine wpAnyH_take (i:=8) (v:=?_) rfl (by kernel_rfl) (by kernel_rfl) (by kernel_rfl) (fun _ _ _ h=>h) (Or.inl ⟨by rfl,?_⟩) (by assumption) ?_
    rotate_left
    ·(intro w9 hSw;(try dsimp only at hSw);go_simp) <;> with_reducible rfl
    try simp only [Act.put,List.getElem_toArray,List.getElem_cons_succ,List.getElem_cons_zero,List.setIfInBounds_toArray,List.set_cons_zero,List.set_cons_succ]
    refine wpAnyH_ready (rs:=[9]) (by kernel_rfl) (by simp) ?_
    refine AllReadyH.cons rfl (fun K hK=>?_) AllReadyH.nil
    go_simp
    refine hK.out _ _ (by trivial) (fun hHeld2=>?_)
    clear hK K hHeld
    have hHeld:=hHeld2
    clear hHeld2
    try simp only [Act.put,List.getElem_toArray,List.getElem_cons_succ,List.getElem_cons_zero,List.setIfInBounds_toArray,List.set_cons_zero,List.set_cons_succ]
    refine wpAnyH_done (by kernel_rfl) ?_ _
    rotate_left
    go_simp
    refine hK.out _ _ (by trivial) (fun hHeld2=>?_)
    clear hK K hHeld
    have hHeld:=hHeld2
    clear hHeld2
    try simp only [Act.put,List.getElem_toArray,List.getElem_cons_succ,List.getElem_cons_zero,List.setIfInBounds_toArray,List.set_cons_zero,List.set_cons_succ]
    refine wpAnyH_ready (rs:=[5]) (by kernel_rfl) (by simp) ?_
    refine AllReadyH.cons rfl (fun K hK=>?_) AllReadyH.nil
    go_simp
    go_wp2_with (go_at_call 96;refine (l9RowS _ n (j:Int) (by omega)).mono ?_;rw [rowK_oneP];rintro e w8 ⟨ra,rc,rad,rcp,rRb,rB,rfl,b8,ho8⟩;have b8':Below W7.heap.size W7 w8:=bel_next (Below.refl _ _).drew b8;have HB8:=Hid.mk' b8';have HO8:=Hid.mk' ho8;have d1:w8.cell? ⟨w2.heap.size,1,none⟩=some tvP:=(b8'.cell (p:=⟨w2.heap.size,1,none⟩) hb77).trans HE1.out;have d2:(w8.alloc (.cells #[.slice ra n rc] 24)).cell? ⟨w2.heap.size,1,none⟩=some tvP:=((bel_next b8' (bel_one w8 (.cells #[.slice ra n rc] 24))).cell (p:=⟨w2.heap.size,1,none⟩) hb77).trans HE1.out;have hs8:W7.heap.size≤w8.heap.size:=b8'.size;clear b8 b8' ho8)
    refine hK.out _ _ (by trivial) (fun hHeld2=>?_)
    clear hK K hHeld
    have hHeld:=hHeld2
    clear hHeld2
    try simp only [Act.put,List.getElem_toArray,List.getElem_cons_succ,List.getElem_cons_zero,List.setIfInBounds_toArray,List.set_cons_zero,List.set_cons_succ]
    refine wpAnyH_ready (rs:=[6]) (by kernel_rfl) (by simp) ?_
    refine AllReadyH.cons rfl (fun K hK=>?_) AllReadyH.nil
    go_simp
    refine hK.out _ _ (by trivial) (fun hHeld2=>?_)
    clear hK K hHeld
    have hHeld:=hHeld2
    clear hHeld2
    try simp only [Act.put,List.getElem_toArray,List.getElem_cons_succ,List.getElem_cons_zero,List.setIfInBounds_toArray,List.set_cons_zero,List.set_cons_succ]
    refine wpAnyH_ready (rs:=[7]) (by kernel_rfl) (by simp) ?_
    refine AllReadyH.cons rfl (fun K hK=>?_) AllReadyH.nil
    (refine step_append_lies _ (by rfl) (.tmp 52) (.tmp 57) 75 (by rfl) w.heap.size 24 i1 _ 1 24 Tryz.underlying75 hi1 hy0 hy1 hy2 rfl (by omega) _ j PS (by rfl) ((HG7.out.below HB8.out).book.rP.alloc _) ⟨w8.heap.size,0,none⟩ 1 1 [.slice ra n rc] (by rfl) (by rfl) (World.news_of_block (heap_alloc_new w8 _)) (one_sl _ _ _) (by omega) hmax3 (by omega) (by simp;omega) _ (by rfl) ?_;intro g2 cap2 w10 hown3 hgrow3 hat3 hlt3;have HP9:=Hid.mk' (HG7.out.app2 (o:=o) hs2 HB8.out (by simp) HO8.out hown3 hgrow3 hat3);obtain ⟨⟨f0,f1,f2⟩,fz⟩:=HP9.out.1;clear hown3 hgrow3 hat3 hlt3 d1 d2 e1 ez)
    refine hK.out _ _ (by trivial) (fun hHeld2=>?_)
    clear hK K hHeld
    have hHeld:=hHeld2
    clear hHeld2
    try simp only [Act.put,List.getElem_toArray,List.getElem_cons_succ,List.getElem_cons_zero,List.setIfInBounds_toArray,List.set_cons_zero,List.set_cons_succ]
    refine wpAnyH_take (i:=8) (v:=?_) rfl (by kernel_rfl) (by kernel_rfl) (by kernel_rfl) (fun _ _ _ h=>h) (Or.inl ⟨by rfl,?_⟩) (by assumption) ?_
    rotate_left
    ·(intro w9 hSw;(try dsimp only at hSw);go_simp) <;> with_reducible rfl
    try simp only [Act.put,List.getElem_toArray,List.getElem_cons_succ,List.getElem_cons_zero,List.setIfInBounds_toArray,List.set_cons_zero,List.set_cons_succ]
    refine wpAnyH_ready (rs:=[9]) (by kernel_rfl) (by simp) ?_
    refine AllReadyH.cons rfl (fun K hK=>?_) AllReadyH.nil
    go_simp
    refine hK.out _ _ (by trivial) (fun hHeld2=>?_)
    clear hK K hHeld
    have hHeld:=hHeld2
    clear hHeld2
    try simp only [Act.put,List.getElem_toArray,List.getElem_cons_succ,List.getElem_cons_zero,List.setIfInBounds_toArray,List.set_cons_zero,List.set_cons_succ]
    refine wpAnyH_done (by kernel_rfl) ?_ _
    rotate_left
    go_simp
    refine hK.out _ _ (by trivial) (fun hHeld2=>?_)
    clear hK K hHeld
    have hHeld:=hHeld2
    clear hHeld2
    try simp only [Act.put,List.getElem_toArray,List.getElem_cons_succ,List.getElem_cons_zero,List.setIfInBounds_toArray,List.set_cons_zero,List.set_cons_succ]
    refine wpAnyH_ready (rs:=[6]) (by kernel_rfl) (by simp) ?_
    refine AllReadyH.cons rfl (fun K hK=>?_) AllReadyH.nil
    go_simp
    refine hK.out _ _ (by trivial) (fun hHeld2=>?_)
    clear hK K hHeld
    have hHeld:=hHeld2
    clear hHeld2
    try simp only [Act.put,List.getElem_toArray,List.getElem_cons_succ,List.getElem_cons_zero,List.setIfInBounds_toArray,List.set_cons_zero,List.set_cons_succ]
    refine wpAnyH_ready (rs:=[7]) (by kernel_rfl) (by simp) ?_
    refine AllReadyH.cons rfl (fun K hK=>?_) AllReadyH.nil
    (refine step_append_lies _ (by rfl) (.tmp 52) (.tmp 57) 75 (by rfl) w.heap.size 24 i1 _ 1 24 Tryz.underlying75 hi1 hy0 hy1 hy2 rfl (by omega) _ j PS (by rfl) ((HG7.out.below HB8.out).book.rP.alloc _) ⟨w8.heap.size,0,none⟩ 1 1 [.slice ra n rc] (by rfl) (by rfl) (World.news_of_block (heap_alloc_new w8 _)) (one_sl _ _ _) (by omega) hmax3 (by omega) (by simp;omega) _ (by rfl) ?_;intro g2 cap2 w10 hown3 hgrow3 hat3 hlt3;have HP9:=Hid.mk' (HG7.out.app2 (o:=o) hs2 HB8.out (by simp) HO8.out hown3 hgrow3 hat3);obtain ⟨⟨f0,f1,f2⟩,fz⟩:=HP9.out.1;clear hown3 hgrow3 hat3 hlt3 d1 d2 e1 ez)
    refine hK.out _ _ (by trivial) (fun hHeld2=>?_)
    clear hK K hHeld
    have hHeld:=hHeld2
    clear hHeld2
    try simp only [Act.put,List.getElem_toArray,List.getElem_cons_succ,List.getElem_cons_zero,List.setIfInBounds_toArray,List.set_cons_zero,List.set_cons_succ]
    refine wpAnyH_take (i:=8) (v:=?_) rfl (by kernel_rfl) (by kernel_rfl) (by kernel_rfl) (fun _ _ _ h=>h) (Or.inl ⟨by rfl,?_⟩) (by assumption) ?_
    rotate_left
    ·(intro w9 hSw;(try dsimp only at hSw);go_simp) <;> with_reducible rfl
    try simp only [Act.put,List.getElem_toArray,List.getElem_cons_succ,List.getElem_cons_zero,List.setIfInBounds_toArray,List.set_cons_zero,List.set_cons_succ]
    refine wpAnyH_ready (rs:=[9]) (by kernel_rfl) (by simp) ?_
    refine AllReadyH.cons rfl (fun K hK=>?_) AllReadyH.nil
    go_simp
    refine hK.out _ _ (by trivial) (fun hHeld2=>?_)
    clear hK K hHeld
    have hHeld:=hHeld2
    clear hHeld2
    try simp only [Act.put,List.getElem_toArray,List.getElem_cons_succ,List.getElem_cons_zero,List.setIfInBounds_toArray,List.set_cons_zero,List.set_cons_succ]
    refine wpAnyH_done (by kernel_rfl) ?_ _
    rotate_left
    all_goals (
     go_wp2
     go_roundw
     case rel=>exact ⟨j+1,_,_,_,_,by omega,by go_num,HP9.out.2⟩
     case measure=>simp [intOf];omega))
  ·have hjn:¬ (j:Int)<(n:Int):=by omega
   have hje:j=n:=by omega
   subst hje
   clear HG0 HX0 HC HLA hGW
   go_wp2
   go_loopw [9,2] (fun vk vf wk=>∃ (k f:Nat) (B:Bs) (tvL tvP:Value) (LS PS:List Value),1≤k∧k≤12∧vk=.int .i64 (k:Int)∧vf=.int .i64 (f:Int)∧f≤60∧GW w w2.heap.size j o wk B tvL tvP LS PS∧BsOk o j B∧grun o j f B (tri k)=G) (fun vk _ _=>13 - (intOf vk).toNat)
   case atStart=>exact ⟨1,fu,grb0 j L,_,_,_,_,Nat.le_refl _,by omega,rfl,rfl,hf,HGW.out,HBK0.out,HG.out⟩
   case round=>
    obtain ⟨k,f,B,tvL,tvP,LS,PS,hk1,hk12,rfl,rfl,hf60,hGWk,hBk,hgk⟩:=hrel
    have HGWk:=Hid.mk' hGWk
    have HBk:=Hid.mk' hBk
    have HGk:=Hid.mk' hgk
    have m12:=(lstOk_all hBk.l).1
    obtain ⟨la,lc,lad,lcp,rfl,hrl⟩:=hGWk.book.readL (by omega)
    obtain ⟨pa,pc,pA,pC,pAD,pCP,rfl,_⟩:=hGWk.book.readP (by omega)
    obtain ⟨⟨c0,c1,c2⟩,cz⟩:=hGWk.box
    have hmI:(B.m:Int)≤12:=by omega
    clear hGWk hBk hgk hrl HGW
    by_cases hkB:k<B.m
    ·have hkl:(k:Int)<(B.m:Int):=by omega
     go_wp2
     clear c0 c1 c2 cz
     go_loopw [10,2] (fun vi vf wi=>∃ (i f:Nat) (B:Bs) (tvL tvP:Value) (LS PS:List Value),i≤k∧vi=.int .i64 (i:Int)∧vf=.int .i64 (f:Int)∧f≤60∧GW w w2.heap.size j o wi B tvL tvP LS PS∧BsOk o j B∧k<B.m∧grun o j f B (tri k+i)=G) (fun vi _ _=>k - (intOf vi).toNat)
     case atStart=>exact ⟨0,f,B,_,_,_,_,Nat.zero_le _,rfl,rfl,hf60,HGWk.out,HBk.out,hkB,HGk.out⟩
     case round=>
      obtain ⟨i,f',B',tvL',tvP',LS',PS',hik,rfl,rfl,hf60',hGWi,hBi,hkB',hgi⟩:=hrel
      have HGWi:=Hid.mk' hGWi
      have HBi:=Hid.mk' hBi
      have HGi:=Hid.mk' hgi
      have m12':=(lstOk_all hBi.l).1
      obtain ⟨la',lc',lad',lcp',rfl,_⟩:=hGWi.book.readL (by omega)
      obtain ⟨pa',pc',pA',pC',pAD',pCP',rfl,_⟩:=hGWi.book.readP (by omega)
      obtain ⟨⟨c0,c1,c2⟩,cz⟩:=hGWi.box
      obtain ⟨⟨r0,r1,r2⟩,rz⟩:=hGWi.res
      have hne7:w2.heap.size≠w.heap.size:=by omega
      have hne8:w.heap.size≠w2.heap.size:=by omega
      have hwi:w2.heap.size<wr.heap.size:=hGWi.box.lt
      clear hGWi hBi hgi HGWk HBk HGk
      by_cases hlt:i<k
      ·have hil:(i:Int)<(k:Int):=by omega
       have hjt:tri k+i<tri B'.m:=tri_lt2 hkB' hlt
       rcases f' with _ | f'
       ·have HE:=Hid.mk' (HGi.out.symm.trans (grun_out hjt))
        clear HGi hjt
        go_wp2
        refine bodyPost_ret (v:=.agg #[.slice la' B'.m lc',.slice pa' B'.m pc',.bool false]) (by simp [results,Tryz.results54,go_sem, *]) rfl ?_
        rw [HE.out]
        exact makeP_end HGWi.out false _ _ _
       ·have hf1:(((f'+1:Nat):Int) == 0)=false:=by simp;omega
        have hfw:IntKind.i64.wrap (((f'+1:Nat):Int) - 1)=(f':Int):=by rw [IntKind.wrap_i64];omega
        obtain ⟨E,hE⟩:∃ E,stepB o j B' i k=E:=⟨_,rfl⟩
        have HJT:=Hid.mk' hjt
        have hcs:=l9StepS (Y2 w.heap.size w2.heap.size) wr (fun b q=>by rcases q with q | q <;> omega) w.heap.size (.slice la' B'.m lc') (.slice pa' B'.m pc') false j (by omega) B' LS' PS' o HBi.out HGWi.out.book i k (by omega) hkB' (by omega)
        rw [hE] at hcs
        have HCS:=Hid.mk' hcs
        have HE:=Hid.mk' hE
        clear hcs hE hjt
        go_wp2_with fail
        refine HCS.out.mono ?_
        rintro e w9 hp
        clear c0 c1 c2 cz r0 r1 r2 rz
        rcases hp with ⟨rfl,rfl,hb9⟩ | ⟨B2,tvL2,tvP2,LS2,PS2,rfl,rfl,hf9,hk9⟩
        ·have HEG:=Hid.mk' ((grun_none (f:=f') HJT.out hlt HE.out).symm.trans HGi.out)
         have hb9':=bel_next hb9 (bel_one w9 (.cells #[.slice la' B'.m lc',.slice pa' B'.m pc',.bool false] 77))
         have HGW9:=Hid.mk' (HGWi.out.below hb9')
         obtain ⟨⟨c0,c1,c2⟩,cz⟩:=HGW9.out.box
         obtain ⟨⟨r0,r1,r2⟩,rz⟩:=HGW9.out.res
         clear hb9 hb9'
         go_wp2
         refine bodyPost_ret (v:=.agg #[.slice la' B'.m lc',.slice pa' B'.m pc',.bool false]) (by simp [results,Tryz.results54,go_sem, *]) rfl ?_
         rw [← HEG.out]
         exact makeP_end HGW9.out false _ _ _
        ·have HGN:=Hid.mk' ((grun_some (f:=f') HJT.out hlt HE.out).symm.trans HGi.out)
         have HST:=Hid.mk' (HGWi.out.step hs2 hf9 hk9)
         have m2:=(lstOk_all (stepB_ok HBi.out (by omega) hkB' HE.out).l).1
         have hm2:=stepB_m HE.out
         obtain ⟨la2,lc2,lad2,lcp2,rfl,_⟩:=hk9.readL (by omega)
         obtain ⟨pa2,pc2,pA2,pC2,pAD2,pCP2,rfl,_⟩:=hk9.readP (by omega)
         obtain ⟨⟨c0,c1,c2⟩,cz⟩:=HST.out.1.1
         have hw9:w2.heap.size<w9.heap.size:=HST.out.1.1.lt
         have HOK2:=Hid.mk' (stepB_ok HBi.out (by omega) hkB' HE.out)
         clear hf9 hk9
         go_wp2
         go_roundw
         case rel=>exact ⟨i+1,f',B2,_,_,_,_,by omega,by go_num,rfl,by omega,HST.out.2.below (bel_one _ _),HOK2.out,by omega,HGN.out⟩
         case measure=>simp [intOf];omega
      ·have hie:i=k:=by omega
       subst hie
       have hnl:¬ (i:Int)<(i:Int):=by omega
       go_wp2
       go_roundw
       case rel=>exact ⟨i+1,f',B',_,_,_,_,by omega,by omega,by go_num,rfl,hf60',HGWi.out,HBi.out,HGi.out⟩
       case measure=>simp [intOf];omega
    ·have hkl:¬ (k:Int)<(B.m:Int):=by omega
     have HE:=Hid.mk' (HGk.out.symm.trans (grun_stop (tri_mono (by omega))))
     obtain ⟨⟨r0,r1,r2⟩,rz⟩:=HGWk.out.res
     have hne7:w2.heap.size≠w.heap.size:=by omega
     have hne8:w.heap.size≠w2.heap.size:=by omega
     go_wp2
     refine bodyPost_ret (v:=.agg #[.slice la B.m lc,.slice pa B.m pc,.bool true]) (by simp [results,Tryz.results54,go_sem, *]) rfl ?_
     rw [HE.out]
     exact makeP_end2 HGWk.out (by omega) _ _ _ _
theorem grbMakeS (w:World) (o:Int) (a:Option Addr) (n cap:Nat) (ad:Nat→Option Addr) (cp:Nat→Nat) (L:Nat→List T) (h:RdS w a n cap ad (lN L) cp (fN L)) (fuel:Int) :
  Calls Tryz.prog 54 #[.int .i64 o,.slice a n cap,.int .i64 fuel] w (MakeP w n (grbMake o n L fuel)):=by
 by_cases hc:(1≤o∧o≤3)∧lstOk n (lN L) (fN L)=true∧(1≤n∧n≤3)∧(0≤fuel∧fuel≤60)
 ·obtain ⟨fu,rfl⟩:∃ fu:Nat,fuel=(fu:Int):=⟨fuel.toNat,by omega⟩
  exact grbMakeS_ok w o a n cap ad cp L h fu hc.1 hc.2.1 hc.2.2.1 (by omega) (by unfold grbMake;rw [if_pos hc,Int.toNat_natCast])
 ·rw [grbMake_bad hc]
  exact grbMakeS_bad w o a n cap ad cp L h fuel hc
end Go.Proofs.YtdidlcjhodejjaaGreat
namespace Go.Proofs.YtdidlcjhodejjaaGreat
open Go.RowKit Go.Deep Go.Joins
set_option linter.unusedVariables false
theorem wm_mulM {q X P:List T} (hq:okL q=true) (hX:okL X=true) (h:mulM (lf q) (lf X) X.length q.length=some P):wmV q X=(P,true):=by
 unfold wmV wylMul
 rw [if_pos ⟨hq,hX⟩,h]
 rfl
theorem lessE_Rp (g:Gen) {R q X Y:List T} (hR:okL R=true) (hq:okL q=true) (hX:okL X=true) (h:lessE R q X=some Y):Rp g Y=Lq.sum (Rp g R) (Lq.sc (-1) (Lq.mul (Rp g q) (Rp g X))):=by
 unfold lessE at h
 split at h
 ·rename_i P hP
  split at h
  ·have hw:=wm_mulM hq hX hP
   cases h
   rw [Rp_sub g (okL_falls hR).2 (okL_falls (wm_ok hw)).2,Rp_mul g hw,zz100]
  ·cases h
 ·cases h
theorem lessR_Rp {row:Nat→List T} {q:List T} {oth:Nat→List T} {g:Nat} (hrow:∀ i,i<g→okL (row i)=true) (hq:okL q=true) (ho:∀ i,i<g→okL (oth i)=true):∀ j R,j≤g→lessR row q oth j=some R→∀ i,i<j→Rp regG (R i)=Lq.sum (Rp regG (row i)) (Lq.sc (-1) (Lq.mul (Rp regG q) (Rp regG (oth i))))
 | 0,R,_,_,i,hi=>by omega
 | j+1,R,hj,h,i,hi=>by
  cases hr:lessR row q oth j with
  | none=>have:=lessR_none hr 1;rw [this] at h;cases h
  | some R1=>
   cases he:lessE (row j) q (oth j) with
   | none=>have:=lessR_bad (g:=j+1) (by omega) hr he;rw [this] at h;cases h
   | some Y=>
    rw [lessR_step hr he] at h
    cases h
    unfold updL
    split
    ·rename_i e
     subst e
     exact lessE_Rp regG (hrow i (by omega)) hq (ho i (by omega)) he
    ·exact lessR_Rp hrow hq ho j R1 (by omega) hr i (by omega)
theorem qsum_less {g:Nat} {L0 row oth R:Nat→List T} {A:Lq} (h:∀ i,i<g→Rp regG (R i)=Lq.sum (Rp regG (row i)) (Lq.sc (-1) (Lq.mul A (Rp regG (oth i))))):qsum regG g L0 R=Lq.sum (qsum regG g L0 row) (Lq.sc (-1) (Lq.mul A (qsum regG g L0 oth))):=by
 unfold qsum
 rw [Lq.mul_sumN,Lq.sc_sumN,← Lq.sumN_sum]
 exact Lq.sumN_congr fun i hi=>by rw [h i hi,Lq.sum_mul,Lq.sc_mul,Lq.mul_assoc]
theorem lessR_qsum {g:Nat} {L0 row oth R:Nat→List T} {q:List T} (hrow:∀ i,i<g→okL (row i)=true) (hq:okL q=true) (ho:∀ i,i<g→okL (oth i)=true) (h:lessR row q oth g=some R):qsum regG g L0 R=Lq.sum (qsum regG g L0 row) (Lq.sc (-1) (Lq.mul (Rp regG q) (qsum regG g L0 oth))):=
 qsum_less (lessR_Rp hrow hq ho g R (Nat.le_refl _) h)
theorem zz_neg1 (c:Int):zz (101 - c)=-(zz c):=by
 have h:zz (101 - c)+zz c=0:=by rw [← zz_add,show 101 - c+c=101 by omega];rfl
 grind
theorem made_qsum {g m:Nat} {L0 L:Nat→List T} {P:Nat→Nat→List T} {i k:Nat} {u v:T} {qs:Nat→List T} (hi:i<m) (hk:k<m) (hP:∀ i,i<m→∀ j,j<g→okL (P i j)=true) (hu:okL [negT1 u]=true) (hv:okL [v]=true) (hq:∀ t,t<m→okL (qs t)=true) (hpf:∀ i,i<m→qsum regG g L0 (P i)=Rp regG (L i)) :
  ∀ t R,t≤m→madeN g P qs (made1 g P i k u v) t=some R→qsum regG g L0 R=Lq.sum (Lq.sum (Lq.sc (zz u.c) (Lq.mul (mo regG u.m) (Rp regG (L i)))) (Lq.sc (-(zz v.c)) (Lq.mul (mo regG v.m) (Rp regG (L k))))) (Lq.sc (-1) (qsum regG t L qs))
 | 0,R,_,h=>by
  change made1 g P i k u v=some R at h
  unfold made1 at h
  split at h
  ·cases h
  ·rename_i R1 h1
   have ok1:=lessR_ok (fun _ _=>okL_nil) hu (hP i hi) g R1 (Nat.le_refl _) h1
   rw [lessR_qsum ok1 hv (hP k hk) h,lessR_qsum (fun _ _=>okL_nil) hu (hP i hi) h1,hpf i hi,hpf k hk,qsum_nil,Rp_one,Rp_one]
   have e:qsum regG 0 L qs=Lq.nil:=rfl
   rw [e,sc_nil,Lq.sum_nil,nil_sum,Lq.sc_mul,Lq.sc_mul,Lq.sc_sc,Lq.sc_sc]
   show Lq.sum (Lq.sc (-1 * zz (101 - u.c)) _) _=_
   rw [zz_neg1,show (-1:Fq) * -(zz u.c)=zz u.c by grind,show (-1:Fq) * zz v.c=-(zz v.c) by grind]
   rfl
 | t+1,R,ht,h=>by
  cases hr:madeN g P qs (made1 g P i k u v) t with
  | none=>have:=madeN_none hr 1;rw [this] at h;cases h
  | some R1=>
   have h':lessR R1 (qs t) (P t) g=some R:=by
    have:madeN g P qs (made1 g P i k u v) (t+1)=lessR R1 (qs t) (P t) g:=by
     show (match madeN g P qs (made1 g P i k u v) t with | none=>none | some R=>lessR R (qs t) (P t) g)=_
     rw [hr]
    rw [← this];exact h
   rw [lessR_qsum (made_ok hi hk hP hu hv hq t R1 (by omega) hr) (hq t (by omega)) (hP t (by omega)) h',made_qsum hi hk hP hu hv hq hpf t R1 (by omega) hr,hpf t (by omega)]
   have e:qsum regG (t+1) L qs=Lq.sum (qsum regG t L qs) (Lq.mul (Rp regG (qs t)) (Rp regG (L t))):=rfl
   rw [e]
   refine Lq.ext fun u a b=>?_
   simp only [sum_f,sc_f]
   grind
theorem lmL_same {o:Int} {L L':Nat→List T} {j:Nat} (h:L' j=L j):lmL o L' j=lmL o L j:=by unfold lmL;rw [h]
theorem Lo.grow {o:Int} {n n':Nat} {L L':Nat→List T} (hn:n≤n') (h:∀ j,j<n→L' j=L j) {δ:M} {A:Lq} (hA:Lo o n L δ A):Lo o n' L' δ A:=by
 induction hA with
 | nil=>exact Lo.nil
 | cons c m j h1 h2 h3 h4 ih=>
  rw [← h j h1]
  exact Lo.cons c m j (by omega) h2 (by rw [lmL_same (h j h1)];exact h3) ih
theorem Pair.grow {o:Int} {n n':Nat} {L L':Nat→List T} (hn:n≤n') (h:∀ j,j<n→L' j=L j) {i k:Nat} (hi:i<n) (hk:k<n) (hP:Pair o n L i k):Pair o n' L' i k:=fun u v hu hv=>by
 rw [h i hi] at hu
 rw [h k hk] at hv
 rw [lmL_same (h i hi),lmL_same (h k hk),h i hi,h k hk]
 exact (hP u v hu hv).grow hn h
theorem updL_lt {L:Nat→List T} {m:Nat} {r:List T} {j:Nat} (h:j<m):updL L m r j=L j:=by unfold updL;rw [if_neg (by omega)]
theorem updL_eq {L:Nat→List T} {m:Nat} {r:List T}:updL L m r m=r:=by unfold updL;rw [if_pos rfl]
theorem updP_lt {P:Nat→Nat→List T} {m:Nat} {R:Nat→List T} {j:Nat} (h:j<m):updP P m R j=P j:=by unfold updP;rw [if_neg (by omega)]
theorem updP_eq {P:Nat→Nat→List T} {m:Nat} {R:Nat→List T}:updP P m R m=R:=by unfold updP;rw [if_pos rfl]
structure Mk (o:Int) (g:Nat) (L0:Nat→List T) (B:Bs) (j:Nat):Prop where
 ok:BsOk o g B
 le:g≤B.m
 pre:∀ i,i<g→B.L i=L0 i
 pf:∀ i,i<B.m→qsum regG g L0 (B.P i)=Rp regG (B.L i)
 pr:∀ i k,i<k→k<B.m→tri k+i<j→Pair o B.m B.L i k
theorem stepB_cases {o:Int} {g:Nat} {B B':Bs} {i k:Nat} (hs:stepB o g B i k=some B'):∃ s S,spP o (B.L i) (B.L k)=(s,true)∧redAll o s B.m (lN B.L) (fN B.L)=some S∧((S.r=[]∧B'=B)∨(S.r.length≠0∧∃ R,made g B.P i k (spU o (B.L i) (B.L k)) (spV o (B.L i) (B.L k)) B.m S.q=some R∧B'=addB B S.r R)):=by
 unfold stepB at hs
 split at hs
 ·rename_i s hsp
  split at hs
  ·rename_i S hS
   refine ⟨s,S,hsp,hS,?_⟩
   split at hs
   ·rename_i h0;cases hs;exact .inl ⟨List.length_eq_zero_iff.1 h0,rfl⟩
   ·rename_i h0
    split at hs
    ·cases hs
    ·split at hs
     ·rename_i R hR
      cases hs
      exact .inr ⟨h0,R,hR,rfl⟩
     ·cases hs
  ·cases hs
 ·cases hs
theorem Mk.step {o:Int} {g:Nat} {L0:Nat→List T} {B B':Bs} {j:Nat} (h:Mk o g L0 B j) (hj:j<tri B.m) (hs:stepB o g B (pq j).1 (pq j).2=some B'):Mk o g L0 B' (j+1):=by
 obtain ⟨k,i,hk,hik,ej⟩:=tri_at B.m j hj
 have epq:pq j=(i,k):=by rw [ej];exact pq_tri k i hik
 rw [epq] at hs
 have hs':stepB o g B i k=some B':=hs
 have hi:i<B.m:=by omega
 have hok':=stepB_ok h.ok hi hk hs'
 have hL:=lds_of h.ok.ho h.ok.l
 obtain ⟨s,S,hsp,hS,hc⟩:=stepB_cases hs'
 have one:∀ i' k',i'<k'→tri k'+i'<j+1→tri k'+i'<j∨(i'=i∧k'=k):=fun i' k' h1 h2=>by
  by_cases e:tri k'+i'=j
  ·have:=pq_tri k' i' h1
   rw [e,epq] at this
   cases this
   exact .inr ⟨rfl,rfl⟩
  ·exact .inl (by omega)
 obtain ⟨U,V,eU,eV,u1,v1,um,vm,e,k1,hb⟩:=std_rep hL hi hk hsp
 obtain ⟨lo1,lo2⟩:=std_div hL hS k1 hb
 rcases hc with ⟨h0,rfl⟩ | ⟨h0,R,hR,rfl⟩
 ·refine ⟨hok',h.le,h.pre,h.pf,fun i' k' h1 h2 h3=>?_⟩
  rcases one i' k' h1 h3 with q | ⟨rfl,rfl⟩
  ·exact h.pr i' k' h1 h2 q
  ·exact pair_done hL hi hk hsp hS h0
 ·have hok2:=hok'
  have hle:=h.le
  refine ⟨hok',by show g≤B.m+1;omega,fun i' hi'=>(updL_lt (by omega)).trans (h.pre i' hi'),fun i' hi'=>?_,fun i' k' h1 h2 h3=>?_⟩
  ·show qsum regG g L0 (updP B.P B.m R i')=Rp regG (updL B.L B.m S.r i')
   by_cases ei:i'=B.m
   ·subst ei
    rw [updP_eq,updL_eq]
    obtain ⟨⟨_,g2,g3⟩,_⟩:=spUV_good hsp
    rw [made_qsum hi hk h.ok.p g2 g3 (fun t _=>okL_of (by have:=((redAll_ok hS).1.q t).2;omega) ((redAll_ok hS).1.q t).1) h.pf B.m R (Nat.le_refl _) hR,left_Rp hS,e,eU,eV]
   ·have hi2:i'<B.m+1:=hi'
    rw [updP_lt (by omega),updL_lt (by omega)]
    exact h.pf i' (by omega)
  ·have grow:∀ j,j<B.m→updL B.L B.m S.r j=B.L j:=fun j hj=>updL_lt hj
   have hk':k'<B.m:=by
    have h2':k'<B.m+1:=h2
    by_cases ek:k'=B.m
    ·subst ek;omega
    ·omega
   show Pair o (B.m+1) (updL B.L B.m S.r) i' k'
   rcases one i' k' h1 h3 with q | ⟨rfl,rfl⟩
   ·exact (h.pr i' k' h1 hk' q).grow (by omega) grow (by omega) hk'
   ·have hL':=lds_of hok2.ho hok2.l
    have hL2:Lds o (B.m+1) (updL B.L B.m S.r):=hL'
    refine pair_std hL2 (by omega) (by omega) (s:=s) (by rw [grow i' hi,grow k' hk];exact hsp) ?_
    rw [lmL_same (grow i' hi),lmL_same (grow k' hk),← redAll_all regG hS]
    refine (lo1.grow (by omega) grow).sum ?_
    have hmem:ldL o S.r∈S.r:=ldL_mem h0
    have hr:=(redAll_ok hS).1.r.1
    have:=Lo.one (o:=o) (n:=B.m+1) (L:=updL B.L B.m S.r) (δ:=M.lcm (lmL o B.L i') (lmL o B.L k')) 1 (m:=⟨0,0,0,0⟩) (j:=B.m) (by omega) ⟨by decide,by decide,by decide,by decide⟩ (by
     have e0:M.sum ⟨0,0,0,0⟩ (lmL o (updL B.L B.m S.r) B.m)=(ldL o S.r).m:=by
      unfold lmL
      rw [updL_eq]
      unfold M.sum
      refine M.eta4 ?_ ?_ ?_ ?_ <;> (simp only;omega)
     rw [e0]
     exact rkW_klt hL.ho (hr.2 _ hmem).1 k1 (lo2 _ hmem))
    rw [Lq.sc_one,mo_zero,updL_eq] at this
    exact this
theorem grun_inv {o:Int} {g:Nat} {L0:Nat→List T}:∀ (f:Nat) (B:Bs) (j:Nat),Mk o g L0 B j→∀ B' d,grun o g f B j=(B',d)→∃ j',Mk o g L0 B' j'∧(d=true→tri B'.m≤j')
 | 0,B,j,h,B',d,e=>by
  unfold grun at e
  cases e
  exact ⟨j,h,fun q=>of_decide_eq_true q⟩
 | f+1,B,j,h,B',d,e=>by
  unfold grun at e
  split at e
  ·rename_i hj
   split at e
   ·cases e;exact ⟨j,h,fun q=>by cases q⟩
   ·rename_i B2 hs
    exact grun_inv f B2 (j+1) (h.step hj hs) B' d e
  ·cases e
   exact ⟨j,h,fun _=>by omega⟩
theorem sumN_one (f:Nat→Lq) (i:Nat):∀ n,i<n→(∀ j,j<n→j≠i→f j=Lq.nil)→Lq.sumN f n=f i
 | 0,h,_=>by omega
 | n+1,h,h0=>by
  show Lq.sum (Lq.sumN f n) (f n)=f i
  by_cases e:i=n
  ·subst e
   have:Lq.sumN f i=Lq.sumN (fun _=>Lq.nil) i:=Lq.sumN_congr fun j hj=>h0 j (by omega) (by omega)
   rw [this,sumN_nils,nil_sum]
  ·rw [sumN_one f i n (by omega) (fun j hj=>h0 j (by omega)),h0 n (by omega) (fun q=>e q.symm),Lq.sum_nil]
theorem one_qsum {n:Nat} {L:Nat→List T} {i:Nat} (hi:i<n):qsum regG n L (oneP i)=Rp regG (L i):=by
 unfold qsum
 rw [sumN_one _ i n hi (fun j hj hne=>by
  unfold oneP
  rw [if_neg hne,Rp_nil,Lq.nil_mul])]
 unfold oneP
 rw [if_pos rfl,Rp_one,Lq.sc_mul,mo_zero]
 exact Lq.sc_one _
theorem Mk.start {o:Int} {n:Nat} {L:Nat→List T} (ho:1≤o∧o≤3) (hl:lstOk n (lN L) (fN L)=true):Mk o n L (grb0 n L) 0:=
 ⟨grb0_ok ho hl,Nat.le_refl _,fun _ _=>rfl,fun i hi=>one_qsum hi,fun i k _ _ h=>by omega⟩
theorem grbMake_mk {o:Int} {n:Nat} {L:Nat→List T} {fuel:Int} {B:Bs} {d:Bool} (h:grbMake o n L fuel=(B,d)):(B.m=0∧d=false∧¬ ((1≤o∧o≤3)∧lstOk n (lN L) (fN L)=true∧(1≤n∧n≤3)∧(0≤fuel∧fuel≤60)))∨(((1≤o∧o≤3)∧lstOk n (lN L) (fN L)=true∧(1≤n∧n≤3)∧(0≤fuel∧fuel≤60))∧∃ j,Mk o n L B j∧(d=true→tri B.m≤j)):=by
 unfold grbMake at h
 split at h
 ·rename_i hc
  exact .inr ⟨hc,grun_inv fuel.toNat _ 0 (Mk.start hc.1 hc.2.1) B d h⟩
 ·rename_i hc
  cases h
  exact .inl ⟨rfl,rfl,hc⟩
end Go.Proofs.YtdidlcjhodejjaaGreat
namespace Go.Proofs.YtdidlcjhodejjaaGreat
open Go.RowKit
set_option linter.unusedVariables false
end Go.Proofs.YtdidlcjhodejjaaGreat
