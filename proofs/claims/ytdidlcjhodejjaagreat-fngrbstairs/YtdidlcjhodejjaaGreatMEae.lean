/-
  A basis is made: the model's GrbMake.
-/
import Derived.Test.YtdidlcjhodejjaaGreatMEad
set_option maxHeartbeats 8000000
set_option maxRecDepth 100000
namespace Go.Proofs.YtdidlcjhodejjaaGreat
open Go.RowKit Go.Deep Go.Joins
set_option linter.unusedVariables false
def vO (w:World) (n:Nat) (X:Bs×Bool) (r:Ending) (w':World):Prop:=∃tvL tvP LS PS,r= .returned (.agg #[tvL,tvP,.bool X.2])∧Below w.heap.size w w'∧mT (fun b=>b<w.heap.size) w' w.heap.size tvL tvP n X.1.m X.1.L X.1.m X.1.P LS PS
theorem mT.none (Y:Nat→Prop) (w:World) (lo g:Nat) (L:Nat→List T) (P:Nat→Nat→List T):mT Y w lo (.slice none 0 0) (.slice none 0 0) g 0 L 0 P [] []:=
 ⟨⟨rfl,.inl ⟨rfl,rfl⟩⟩,⟨rfl,.inl ⟨rfl,rfl⟩⟩,fun i hi=>by omega,fun i hi=>by omega,fun k hk=>by simp[Value.ownBlock]at hk,fun k hk=>by simp[Value.ownBlock]at hk⟩
def Y2 (a b x:Nat):Prop:=x≤a∨x=b
structure GW (w:World) (b7 n:Nat) (o:Int) (wr:World) (B:Bs) (tvL tvP:Value) (LS PS:List Value):Prop where
 bel:Below w.heap.size w wr
 box:gO wr b7 tvL tvP (.bool false)
 res:gO wr w.heap.size (.slice none 0 0) (.slice none 0 0) (.bool false)
 book:mT (Y2 w.heap.size b7) wr w.heap.size tvL tvP n B.m B.L B.m B.P LS PS
theorem GP {w:World} {b7 n:Nat} {o:Int} {wr:World} {B:Bs} {tvL tvP:Value} {LS PS:List Value} (h:GW w b7 n o wr B tvL tvP LS PS) (d:Bool) (u0 u1 u2:Value):vO w n (B,d) (.returned (.agg #[tvL,tvP,.bool d])) (((wr.setCell ⟨w.heap.size,0,none⟩ u0).setCell ⟨w.heap.size,1,none⟩ u1).setCell ⟨w.heap.size,2,none⟩ u2):=
 ⟨tvL,tvP,LS,PS,rfl,iH h.bel (Nat.le_refl _) _ _ _,(h.book.fr ((((Fr.refl (Y2 w.heap.size b7) wr).set (fun _=>.inl (Nat.le_refl _))).set (fun _=>.inl (Nat.le_refl _))).set (fun _=>.inl (Nat.le_refl _))) (fun _ q=>q)).yet (fun b _ q=>.inl (Nat.le_of_lt q))⟩
theorem SA {w:World} {b7 n:Nat} {o:Int} {wr:World} {B:Bs} {tvL tvP:Value} {LS PS:List Value} (h:GW w b7 n o wr B tvL tvP LS PS) (hb7:w.heap.size≤b7) (u0 u1 u2 u3:Value):vO w n (B,true) (.returned (.agg #[tvL,tvP,.bool true])) ((((wr.setCell ⟨b7,2,none⟩ u3).setCell ⟨w.heap.size,0,none⟩ u0).setCell ⟨w.heap.size,1,none⟩ u1).setCell ⟨w.heap.size,2,none⟩ u2):=
 ⟨tvL,tvP,LS,PS,rfl,iH (h.bel.setCell hb7 _) (Nat.le_refl _) _ _ _,(h.book.fr (((((Fr.refl (Y2 w.heap.size b7) wr).set (fun _=>.inr rfl)).set (fun _=>.inl (Nat.le_refl _))).set (fun _=>.inl (Nat.le_refl _))).set (fun _=>.inl (Nat.le_refl _))) (fun _ q=>q)).yet (fun b _ q=>.inl (Nat.le_of_lt q))⟩
theorem zP {o:Int} {n:Nat} {L:Nat→List T} {fuel:Int} (h:¬((1≤o∧o≤3)∧aT n (lN L) (fN L)=true∧(1≤n∧n≤3)∧(0≤fuel∧fuel≤60))):eT o n L fuel=(⟨0,fun _=>[],fun _ _=>[]⟩,false):=if_neg h
theorem JJ (w:World) (o:Int) (a:Option Addr) (n cap:Nat) (ad:Nat→Option Addr) (cp:Nat→Nat) (L:Nat→List T) (h:cZ w a n cap ad (lN L) cp (fN L)) (fuel:Int) (hbad:¬((1≤o∧o≤3)∧aT n (lN L) (fN L)=true∧(1≤n∧n≤3)∧(0≤fuel∧fuel≤60))):Calls Tryz.prog 54 #[.int .i64 o,.slice a n cap,.int .i64 fuel] w (vO w n (⟨0,fun _=>[],fun _ _=>[]⟩,false)):=by
 have q1:(n:Int)≤140737488351232:=by have:=h.2.1;omega
 have HH:=aA (h.below (aC w (.cells #[.slice none 0 0,.slice none 0 0,.bool false] 77)));have HX0:=aA (gO.box w 77 (.slice none 0 0) (.slice none 0 0) (.bool false))
 clear h;by_cases ho:1≤o∧o≤3;rotate_left
 ·have ho':o<1∨(1≤o∧3<o):=by omega
  clear hbad;go_enter Tryz.func54,Tryz.ntmps54;go_wp2_with (go_at_call 39;refine(eC _ _ _ _ ho').mono ?_;rintro r w' ⟨rfl,hw'⟩;obtain rfl:=hw'.symm;clear hw');refine bY (v:=.agg #[.slice none 0 0,.slice none 0 0,.bool false]) (by simp[results,Tryz.results54,go_sem, *]) rfl ?_;exact⟨_,_,[],[],rfl,aC w _,mT.none _ _ _ _ _ _⟩
 obtain⟨o1,o2⟩:=ho;cases hl:aT n (lN L) (fN L)
 ·clear hbad;go_enter Tryz.func54,Tryz.ntmps54;go_wp2_with (go_at_call 39;refine(cQ _ _ _ _ (by omega) (by omega)).mono ?_;rintro r w' ⟨rfl,hw'⟩;obtain rfl:=hw'.symm;clear hw');refine(kE _ _ _ _ _ _ _ _ HH.out).mono ?_;rw[hl];rintro r w2 ⟨rfl,hb2⟩;have HB2:=aA (aB (aC w (.cells #[.slice none 0 0,.slice none 0 0,.bool false] 77)) hb2)
  obtain⟨⟨x0,x1,x2⟩,xz⟩:=HX0.out.below hb2;clear hb2;go_wp2;refine bY (v:=.agg #[.slice none 0 0,.slice none 0 0,.bool false]) (by simp[results,Tryz.results54,go_sem, *]) rfl ?_;refine⟨_,_,[],[],rfl,?_,mT.none _ _ _ _ _ _⟩;with_reducible exact iH HB2.out (Nat.le_refl _) _ _ _
 by_cases hn:1≤n∧n≤3;rotate_left
 ·have hn':(n:Int)<1∨(1≤(n:Int)∧3<(n:Int)):=by omega
  clear hbad;go_enter Tryz.func54,Tryz.ntmps54;go_wp2_with (go_at_call 39;refine(cQ _ _ _ _ (by omega) (by omega)).mono ?_;rintro r w' ⟨rfl,hw'⟩;obtain rfl:=hw'.symm;clear hw');refine(kE _ _ _ _ _ _ _ _ HH.out).mono ?_;rw[hl];rintro r w2 ⟨rfl,hb2⟩;have HB2:=aA (aB (aC w (.cells #[.slice none 0 0,.slice none 0 0,.bool false] 77)) hb2)
  obtain⟨⟨x0,x1,x2⟩,xz⟩:=HX0.out.below hb2;clear hb2;go_wp2_with (go_at_call 39;refine(eC _ _ _ _ hn').mono ?_;rintro r w' ⟨rfl,hw'⟩;obtain rfl:=hw'.symm;clear hw');refine bY (v:=.agg #[.slice none 0 0,.slice none 0 0,.bool false]) (by simp[results,Tryz.results54,go_sem, *]) rfl ?_;refine⟨_,_,[],[],rfl,?_,mT.none _ _ _ _ _ _⟩;with_reducible exact iH HB2.out (Nat.le_refl _) _ _ _
 have hf':fuel<0∨(0≤fuel∧60<fuel):=by
  by_cases h1:fuel<0
  ·exact .inl h1
  ·by_cases h2:60<fuel
   ·exact .inr ⟨by omega,h2⟩
   ·exact absurd ⟨⟨o1,o2⟩,hl,hn,by omega,by omega⟩ hbad
 have hn1:(1:Int)≤(n:Int):=by omega
 have hn3:(n:Int)≤3:=by omega
 clear hbad;go_enter Tryz.func54,Tryz.ntmps54;go_wp2_with (go_at_call 39;refine(cQ _ _ _ _ (by omega) (by omega)).mono ?_;rintro r w' ⟨rfl,hw'⟩;obtain rfl:=hw'.symm;clear hw');refine(kE _ _ _ _ _ _ _ _ HH.out).mono ?_;rw[hl];rintro r w2 ⟨rfl,hb2⟩;have HB2:=aA (aB (aC w (.cells #[.slice none 0 0,.slice none 0 0,.bool false] 77)) hb2)
 obtain⟨⟨x0,x1,x2⟩,xz⟩:=HX0.out.below hb2;clear hb2;go_wp2_with (first|(go_at_call 39;refine(cQ _ _ _ _ (by omega) (by omega)).mono ?_;rintro r w' ⟨rfl,hw'⟩;obtain rfl:=hw'.symm;clear hw')|(go_at_call 39;refine(eC _ _ _ _ hf').mono ?_;rintro r w' ⟨rfl,hw'⟩;obtain rfl:=hw'.symm;clear hw'));refine bY (v:=.agg #[.slice none 0 0,.slice none 0 0,.bool false]) (by simp[results,Tryz.results54,go_sem, *]) rfl ?_;refine⟨_,_,[],[],rfl,?_,mT.none _ _ _ _ _ _⟩;with_reducible exact iH HB2.out (Nat.le_refl _) _ _ _
theorem gO.set2 {w:World} {b:Nat} {v0 v1 v2:Value} (h:gO w b v0 v1 v2) (v:Value):gO (w.setCell ⟨b,2,none⟩ v) b v0 v1 v:=⟨⟨(aS (tW (by decide))).trans h.1.1,(aS (tW (by decide))).trans h.1.2.1,iX h.1.2.2⟩,fun j=>(World.frozen?_setCell ..).trans (h.2 j)⟩
theorem jQ {w:World} {b b' o o':Nat} {v u:Value} (h:w.cell? ⟨b,o,none⟩=some v∧b≠b'):(w.setCell ⟨b',o',none⟩ u).cell? ⟨b,o,none⟩=some v:=(aS (fun e=>h.2 (by injection e with e1;exact e1.symm))).trans h.1
theorem IF (j:Nat):tZ (j:Int)=jD j:=funext fun i=>by
 unfold tZ jD;by_cases h:i=j
 ·rw[if_pos h,if_pos (by omega)]
 ·rw[if_neg h,if_neg (by omega)]
theorem IOz (L:Nat→List T) (j:Nat):dD L j (L j)=L:=funext fun i=>by
 unfold dD;split
 ·rename_i e;rw[e]
 ·rfl
theorem QD (j:Nat):xO (fun k=>jD k) j (jD j)=fun k=>jD k:=funext fun i=>by
 unfold xO;split
 ·rename_i e;rw[e]
 ·rfl
structure G7 (w:World) (b7 n j:Nat) (wr:World) (L:Nat→List T) (tvL tvP:Value) (LS PS:List Value):Prop where
 bel:Below w.heap.size w wr
 box:gO wr b7 tvL tvP (.bool false)
 res:gO wr w.heap.size (.slice none 0 0) (.slice none 0 0) (.bool false)
 book:mT (Y2 w.heap.size b7) wr w.heap.size tvL tvP n (j+1) L j (fun k=>jD k) LS PS
theorem G7.below {w:World} {b7 n j:Nat} {wr wr':World} {L:Nat→List T} {tvL tvP:Value} {LS PS:List Value} (h:G7 w b7 n j wr L tvL tvP LS PS) (hb:Below wr.heap.size wr wr'):G7 w b7 n j wr' L tvL tvP LS PS:=⟨aB h.bel hb,h.box.below hb,h.res.below hb,h.book.below hb⟩
theorem GW.below {w:World} {b7 n:Nat} {o:Int} {wr wr':World} {B:Bs} {tvL tvP:Value} {LS PS:List Value} (h:GW w b7 n o wr B tvL tvP LS PS) (hb:Below wr.heap.size wr wr'):GW w b7 n o wr' B tvL tvP LS PS:=⟨aB h.bel hb,h.box.below hb,h.res.below hb,h.book.below hb⟩
theorem GW.app1 {w:World} {b7 n:Nat} {o:Int} {wr w5 w7:World} {j:Nat} {L:Nat→List T} {tvL tvP:Value} {LS PS:List Value} (h:GW w b7 n o wr ⟨j,L,fun k=>jD k⟩ tvL tvP LS PS) (hb7:w.heap.size<b7) (hb:Below wr.heap.size wr w5) {a:Option Addr} {c:Nat} (hr:jN wr.heap.size w5 a c (L j)) {g1 cap1:Nat} (ho:w7.ownsRow w.heap.size 45 1 (.slice (some ⟨g1,0,none⟩) (j+1) cap1) (j+1) (LS++[.slice a (L j).length c])) (hg:(w5.alloc (.cells #[.slice a (L j).length c] 45)).grownBy w7 tvL.ownBlock) (ha:tvL.ownBlock=some g1∨g1=(w5.alloc (.cells #[.slice a (L j).length c] 45)).heap.size):gO w7 b7 tvL tvP (.bool false)∧G7 w b7 n j (w7.setCell ⟨b7,0,none⟩ (.slice (some ⟨g1,0,none⟩) (j+1) cap1)) L (.slice (some ⟨g1,0,none⟩) (j+1) cap1) tvP (LS++[.slice a (L j).length c]) PS:=by
 have h5:=h.below hb;have f7:Fr (fun k=>tvL.ownBlock=some k) w5 w7:=((Fr.refl _ w5).next (aC w5 _)).grown hg (fun k e _=>e)
 have hbr:=h.box.lt;have hrr:=h.res.lt
 have hrl:ES (NB (Y2 w.heap.size b7) tvL tvP) w5 a c (L j):=⟨hr.1,hr.2.2.imp id (fun⟨g,off,e,hlo⟩ b off' e'=>by
  rw[e]at e';cases e'
  exact NB.far (m:=wr.heap.size) (fun k e=>(h.book.rL.lt k e).2) (fun k e=>(h.book.rP.lt k e).2) (fun k q=>by rcases q with q|q<;>omega) hlo)⟩
 have hY5:∀b,Y2 w.heap.size b7 b→b<w5.heap.size:=fun b q=>by have:=h5.box.lt;have:=h5.res.lt;rcases q with q|q<;>omega
 have k7:=h5.book.appL hY5 hrl hg ho ha;rw[IOz]at k7;have x7:=h5.box.fr f7 (fun q=>(h5.book.nL _ q).2 (.inr rfl))
 have r7:=h5.res.fr f7 (fun q=>(h5.book.nL _ q).2 (.inl (Nat.le_refl _)));have bel7:Below w.heap.size w w7:=Fr.below h5.bel f7 (fun k e=>(h5.book.rL.lt k e).1) (Nat.le_refl _)
 have sB:Fr (fun b=>b=b7) w7 (w7.setCell ⟨b7,0,none⟩ (.slice (some ⟨g1,0,none⟩) (j+1) cap1)):=(Fr.refl _ w7).set (fun _=>rfl);refine⟨x7,bel7.setCell (by show w.heap.size≤b7;omega) _,x7.set0 _,r7.fr sB (fun q=>by omega),k7.fr ((Fr.refl (Y2 w.heap.size b7) w7).set (fun _=>.inr rfl)) (fun b q=>q)⟩
theorem G7.app2 {w:World} {b7 n:Nat} {o:Int} {wr w8 w10:World} {j lo:Nat} {L:Nat→List T} {tvL tvP:Value} {LS PS:List Value} (h:G7 w b7 n j wr L tvL tvP LS PS) (hb7:w.heap.size<b7) (hb:Below wr.heap.size wr w8) (hlo:wr.heap.size≤lo) {a:Option Addr} {c:Nat} {ad:Nat→Option Addr} {cp:Nat→Nat} {Rb:Nat} {Bb:Nat→Nat} (hr:iL lo w8 a n c ad (lN (jD j)) cp (fN (jD j)) Rb Bb) {g1 cap1:Nat} (ho:w10.ownsRow w.heap.size 24 1 (.slice (some ⟨g1,0,none⟩) (j+1) cap1) (j+1) (PS++[.slice a n c])) (hg:(w8.alloc (.cells #[.slice a n c] 24)).grownBy w10 tvP.ownBlock) (ha:tvP.ownBlock=some g1∨g1=(w8.alloc (.cells #[.slice a n c] 24)).heap.size):gO w10 b7 tvL tvP (.bool false)∧GW w b7 n o (w10.setCell ⟨b7,1,none⟩ (.slice (some ⟨g1,0,none⟩) (j+1) cap1)) ⟨j+1,L,fun k=>jD k⟩ tvL (.slice (some ⟨g1,0,none⟩) (j+1) cap1) LS (PS++[.slice a n c]):=by
 have h5:=h.below hb;have f7:Fr (fun k=>tvP.ownBlock=some k) w8 w10:=((Fr.refl _ w8).next (aC w8 _)).grown hg (fun k e _=>e)
 have hbr:=h.box.lt;have hrr:=h.res.lt
 have hrs:tU (NB (Y2 w.heap.size b7) tvL tvP) w8 a n c ad cp (jD j):=(DQ (hi:=w8.heap.size) hr (Nat.le_refl _)).mono (fun b _ hb=>NB.far (m:=wr.heap.size) (fun k e=>(h.book.rL.lt k e).2) (fun k e=>(h.book.rP.lt k e).2) (fun k q=>by rcases q with q|q<;>omega) (by omega));have hY5:∀b,Y2 w.heap.size b7 b→b<w8.heap.size:=fun b q=>by have:=h5.box.lt;have:=h5.res.lt;rcases q with q|q<;>omega
 have k7:=h5.book.appP hY5 hrs hg ho ha;rw[QD]at k7;have x7:=h5.box.fr f7 (fun q=>h5.book.nP _ q (.inr rfl))
 have r7:=h5.res.fr f7 (fun q=>h5.book.nP _ q (.inl (Nat.le_refl _)));have bel7:Below w.heap.size w w10:=Fr.below h5.bel f7 (fun k e=>(h5.book.rP.lt k e).1) (Nat.le_refl _)
 have sB:Fr (fun b=>b=b7) w10 (w10.setCell ⟨b7,1,none⟩ (.slice (some ⟨g1,0,none⟩) (j+1) cap1)):=(Fr.refl _ w10).set (fun _=>rfl);refine⟨x7,bel7.setCell (by show w.heap.size≤b7;omega) _,x7.set1 _,r7.fr sB (fun q=>by omega),k7.fr ((Fr.refl (Y2 w.heap.size b7) w10).set (fun _=>.inr rfl)) (fun b q=>q)⟩
theorem GW.step {w:World} {b7 n:Nat} {o:Int} {wr w':World} {B B':Bs} {tvL tvP tvL' tvP':Value} {LS PS LS' PS':List Value} (h:GW w b7 n o wr B tvL tvP LS PS) (hb7:w.heap.size<b7) (hf:Fr (fun k=>tvL.ownBlock=some k∨tvP.ownBlock=some k) wr w') (hk:mT (Y2 w.heap.size b7) w' w.heap.size tvL' tvP' n B'.m B'.L B'.m B'.P LS' PS'):(gO w' b7 tvL tvP (.bool false)∧gO w' w.heap.size (.slice none 0 0) (.slice none 0 0) (.bool false))∧GW w b7 n o (((w'.setCell ⟨b7,0,none⟩ tvL').setCell ⟨b7,1,none⟩ tvP').setCell ⟨b7,2,none⟩ (.bool false)) B' tvL' tvP' LS' PS':=by
 have nx:∀x,Y2 w.heap.size b7 x→¬(tvL.ownBlock=some x∨tvP.ownBlock=some x):=fun x q e=>by
  rcases e with e|e
  ·exact(h.book.nL _ e).2 q
  ·exact h.book.nP _ e q
 have x7:=h.box.fr hf (nx _ (.inr rfl));have r7:=h.res.fr hf (nx _ (.inl (Nat.le_refl _)))
 have bel7:Below w.heap.size w w':=Fr.below h.bel hf (fun k e=>by rcases e with e|e;exact(h.book.rL.lt k e).1;exact(h.book.rP.lt k e).1) (Nat.le_refl _);have sB:Fr (fun b=>b=b7) w' (((w'.setCell ⟨b7,0,none⟩ tvL').setCell ⟨b7,1,none⟩ tvP').setCell ⟨b7,2,none⟩ (.bool false)):=(((Fr.refl (fun b=>b=b7) w').set (fun _=>rfl)).set (fun _=>rfl)).set (fun _=>rfl)
 have hb7':w.heap.size≤b7:=by omega
 exact⟨⟨x7,r7⟩,iH bel7 hb7' _ _ _,((x7.set0 tvL').set1 tvP').set2 (.bool false),r7.fr sB (fun q=>by omega),hk.fr ((((Fr.refl (Y2 w.heap.size b7) w').set (fun _=>.inr rfl)).set (fun _=>.inr rfl)).set (fun _=>.inr rfl)) (fun b q=>q)⟩
theorem XS {o:Int} {g f:Nat} {B:Bs} {k i:Nat} (hj:aZ k+i<aZ B.m) (hi:i<k) (hE:gJ o g B i k=none):oN o g (f+1) B (aZ k+i)=(B,false):=by have e:pq (aZ k+i)=(i,k):=pJ k i hi;rw[oN,if_pos hj,e];simp only[hE]
theorem XT {o:Int} {g f:Nat} {B B2:Bs} {k i:Nat} (hj:aZ k+i<aZ B.m) (hi:i<k) (hE:gJ o g B i k=some B2):oN o g (f+1) B (aZ k+i)=oN o g f B2 (aZ k+i+1):=by have e:pq (aZ k+i)=(i,k):=pJ k i hi;rw[oN,if_pos hj,e];simp only[hE]
theorem GD {o:Int} {g f:Nat} {B:Bs} {j:Nat} (hj:aZ B.m≤j):oN o g f B j=(B,true):=by
 cases f with
 |zero=>show(B,decide (aZ B.m≤j))=(B,true);rw[decide_eq_true hj]
 |succ f=>rw[oN,if_neg (by omega)]
theorem ND {o:Int} {g:Nat} {B:Bs} {j:Nat} (hj:j<aZ B.m):oN o g 0 B j=(B,false):=by show(B,decide (aZ B.m≤j))=(B,false);rw[decide_eq_false (by omega)]
theorem Ks {k m i:Nat} (hk:k<m) (hi:i<k):aZ k+i<aZ m:=by
 have h1:aZ (k+1)≤aZ m:=xN hk;have h2:aZ (k+1)=aZ k+k:=rfl
 omega
end Go.Proofs.YtdidlcjhodejjaaGreat
