/-
  IdlRest: the program and the model.
-/
import Derived.Test.YtelkehjdfcoeiaaGreatNbl
set_option maxHeartbeats 8000000
set_option maxRecDepth 100000
namespace Go.Proofs.YtelkehjdfcoeiaaGreat
open Go.RowKit Go.Deep Go.Joins
set_option linter.unusedVariables false
set_option linter.unusedSimpArgs false
theorem KJ (b o j:Nat):(⟨b,o,none⟩:Addr).add j=⟨b,o+j,none⟩:=by unfold Addr.add;split<;>simp_all
theorem BO {w:World} {b off cap:Nat} {L:List T} (h:Rd w (some ⟨b,off,none⟩) L.length cap (lf L)):∀j u,(aE L)[j]? =some u→w.cell? ((⟨b,off,none⟩:Addr).add j)=some u:=by
 intro j u hu;have hj:j<L.length*5:=by rw[←bJ];exact(List.getElem?_eq_some_iff.1 hu).1
 rw[sM L j hj]at hu;cases hu;rw[KJ];rcases h.2.2 with h0|⟨b',off',he,_,hc⟩
 ·omega
 ·cases he;obtain⟨c0,c1,c2,c3,c4⟩:=hc (j / 5) (by omega);have h5:j%5=0∨j%5=1∨j%5=2∨j%5=3∨j%5=4:=by omega
  rcases h5 with h|h|h|h|h
  ·rw[show j=j / 5*5 by omega,cf0];exact c0
  ·rw[show j=j / 5*5+1 by omega,SO,←Nat.add_assoc];exact c1
  ·rw[show j=j / 5*5+2 by omega,SP,←Nat.add_assoc];exact c2
  ·rw[show j=j / 5*5+3 by omega,XD,←Nat.add_assoc];exact c3
  ·rw[show j=j / 5*5+4 by omega,XE,←Nat.add_assoc];exact c4
theorem kD:∀L:List T,∀u∈aE L,u.oneCell'=true
 |[],u,hu=>by simp[aE]at hu
 |t::r,u,hu=>by
  rw[show t::r=[t]++r from rfl,cK]at hu;rcases List.mem_append.1 hu with h|h
  ·exact fK t u h
  ·exact kD r u h
theorem vV (w:World):(w.alloc (.cells #[] 86)).ownsRow w.heap.size 86 5 (.slice (some ⟨w.heap.size,0,none⟩) 0 0) 0 (aE []):=
 ⟨rfl,.inr ⟨w.heap.size,0,#[],rfl,Nat.le_refl _,heap_alloc_new w (.cells #[] 86),Nat.le_refl _,Nat.zero_le _,rfl,rfl⟩⟩
theorem XF (w:World) (a:Option Addr) (c:Nat) (L:List T) (h:Rd w a L.length c (lf L)) (h0:L.length≠0) (hl:L.length≤400):Calls Tryz.prog 77 #[.slice a L.length c] w fun r w'=>∃a' c',r= .returned (.slice a' L.length c')∧Below w.heap.size w w'∧gX w.heap.size w' a' c' L:=by
 obtain⟨i0,hi0,hz0,hz1,hz2⟩:=info_parts vJ;obtain⟨b,off,rfl,hb,_⟩:=h.2.2.resolve_left h0;have hL:(L.length:Int)≤400:=by omega
 have hown:=vV w;have HO:=aA hown
 have hnews:∀j u,(aE L)[j]? =some u→(w.alloc (.cells #[] 86)).cell? ((⟨b,off,none⟩:Addr).add j)=some u:=BO (h.below (aC w _))
 have hone:∀u∈aE L,u.oneCell'=true:=kD L;have hnil:∀W:World,(binOp BinOp.eql 41 (Value.slice (some ⟨b,off,none⟩) L.length c) (Value.slice none 0 0)).run Tryz.prog W= .ok (.bool false) W:=fun W=>by first|rfl|kernel_rfl|simp[binOp,go_sem]
 clear h;go_enter Tryz.func77,Tryz.ntmps77;go_wp2_with (at_builtin;refine wpList_append_lies _ rfl (.tmp 5) (.tmp 6) 41 rfl w.heap.size 86 i0 _ 5 40 Tryz.underlying41 hi0 hz0 hz1 hz2 rfl (by omega) _ 0 (aE []) rfl hown ⟨b,off,none⟩ L.length c (aE L) rfl (by rw[bJ]) hnews hone (by omega) (by unfold maxLen;omega) (by omega) (by simp) _ rfl ?_;intro g0 cap0 w5 hown1 hgrow hat hlt1;have HB5:=aA (((aC w (.cells #[] 86))).grown hgrow (by simp) (fun k e=>(HO.out.lt k e).1));have HR:=aA hown1;clear hown1 hgrow hat hlt1);go_ret;have ho:=HR.out
 simp only[Nat.zero_add,show aE []++aE L=aE L from rfl]at ho;obtain⟨a',c',e,hO⟩:=aM ho (by omega);exact⟨a',c',congrArg Ending.returned e,HB5.out,hO⟩
def xK (w:World) (n:Nat) (X:Bs×Bool) (r:Ending) (w':World):Prop:=∃tvL tvP LS PS,r= .returned (.agg #[tvL,tvP,.bool X.2])∧Below w.heap.size w w'∧jG (fun b=>b<w.heap.size) w' w.heap.size tvL tvP n X.1.m X.1.L X.1.m X.1.P LS PS
theorem jG.none (Y:Nat→Prop) (w:World) (lo g:Nat) (L:Nat→List T) (P:Nat→Nat→List T):jG Y w lo (.slice none 0 0) (.slice none 0 0) g 0 L 0 P [] []:=
 ⟨⟨rfl,.inl ⟨rfl,rfl⟩⟩,⟨rfl,.inl ⟨rfl,rfl⟩⟩,fun i hi=>by omega,fun i hi=>by omega,fun k hk=>by simp[Value.ownBlock]at hk,fun k hk=>by simp[Value.ownBlock]at hk⟩
def Y2 (a b x:Nat):Prop:=x≤a∨x=b
structure GW (w:World) (b7 n:Nat) (o:Int) (wr:World) (B:Bs) (tvL tvP:Value) (LS PS:List Value):Prop where
 bel:Below w.heap.size w wr
 box:eT wr b7 tvL tvP (.bool false)
 res:eT wr w.heap.size (.slice none 0 0) (.slice none 0 0) (.bool false)
 book:jG (Y2 w.heap.size b7) wr w.heap.size tvL tvP n B.m B.L B.m B.P LS PS
theorem yJ {w:World} {b7 n:Nat} {o:Int} {wr:World} {B:Bs} {tvL tvP:Value} {LS PS:List Value} (h:GW w b7 n o wr B tvL tvP LS PS) (d:Bool) (u0 u1 u2:Value):xK w n (B,d) (.returned (.agg #[tvL,tvP,.bool d])) (((wr.setCell ⟨w.heap.size,0,none⟩ u0).setCell ⟨w.heap.size,1,none⟩ u1).setCell ⟨w.heap.size,2,none⟩ u2):=
 ⟨tvL,tvP,LS,PS,rfl,fD h.bel (Nat.le_refl _) _ _ _,(h.book.fr ((((Fr.refl (Y2 w.heap.size b7) wr).set (fun _=>.inl (Nat.le_refl _))).set (fun _=>.inl (Nat.le_refl _))).set (fun _=>.inl (Nat.le_refl _))) (fun _ q=>q)).yet (fun b _ q=>.inl (Nat.le_of_lt q))⟩
theorem FW {w:World} {b7 n:Nat} {o:Int} {wr:World} {B:Bs} {tvL tvP:Value} {LS PS:List Value} (h:GW w b7 n o wr B tvL tvP LS PS) (hb7:w.heap.size≤b7) (u0 u1 u2 u3:Value):xK w n (B,true) (.returned (.agg #[tvL,tvP,.bool true])) ((((wr.setCell ⟨b7,2,none⟩ u3).setCell ⟨w.heap.size,0,none⟩ u0).setCell ⟨w.heap.size,1,none⟩ u1).setCell ⟨w.heap.size,2,none⟩ u2):=
 ⟨tvL,tvP,LS,PS,rfl,fD (h.bel.setCell hb7 _) (Nat.le_refl _) _ _ _,(h.book.fr (((((Fr.refl (Y2 w.heap.size b7) wr).set (fun _=>.inr rfl)).set (fun _=>.inl (Nat.le_refl _))).set (fun _=>.inl (Nat.le_refl _))).set (fun _=>.inl (Nat.le_refl _))) (fun _ q=>q)).yet (fun b _ q=>.inl (Nat.le_of_lt q))⟩
theorem tW {o:Int} {n:Nat} {L:Nat→List T} {fuel:Int} (h:¬((1≤o∧o≤3)∧aW n (lN L) (fN L)=true∧(1≤n∧n≤3)∧(0≤fuel∧fuel≤60))):iA o n L fuel=(⟨0,fun _=>[],fun _ _=>[]⟩,false):=if_neg h
theorem zN (w:World) (o:Int) (a:Option Addr) (n cap:Nat) (ad:Nat→Option Addr) (cp:Nat→Nat) (L:Nat→List T) (h:eH w a n cap ad (lN L) cp (fN L)) (fuel:Int) (hbad:¬((1≤o∧o≤3)∧aW n (lN L) (fN L)=true∧(1≤n∧n≤3)∧(0≤fuel∧fuel≤60))):Calls Tryz.prog 8 #[.int .i64 o,.slice a n cap,.int .i64 fuel] w (xK w n (⟨0,fun _=>[],fun _ _=>[]⟩,false)):=by
 have q1:(n:Int)≤140737488351232:=by have:=h.2.1;omega
 have HH:=aA (h.below (aC w (.cells #[.slice none 0 0,.slice none 0 0,.bool false] 27)));have HX0:=aA (eT.box w 27 (.slice none 0 0) (.slice none 0 0) (.bool false))
 clear h;by_cases ho:1≤o∧o≤3;rotate_left
 ·have ho':o<1∨(1≤o∧3<o):=by omega
  clear hbad;go_enter Tryz.func8,Tryz.ntmps8;go_wp2_with (go_at_call 30;refine(dC _ _ _ _ ho').mono ?_;rintro r w' ⟨rfl,hw'⟩;obtain rfl:=hw'.symm;clear hw');refine cV (v:=.agg #[.slice none 0 0,.slice none 0 0,.bool false]) (by simp[results,Tryz.results8,go_sem, *]) rfl ?_;exact⟨_,_,[],[],rfl,aC w _,jG.none _ _ _ _ _ _⟩
 obtain⟨o1,o2⟩:=ho;cases hl:aW n (lN L) (fN L)
 ·clear hbad;go_enter Tryz.func8,Tryz.ntmps8;go_wp2_with (go_at_call 30;refine(cO _ _ _ _ (by omega) (by omega)).mono ?_;rintro r w' ⟨rfl,hw'⟩;obtain rfl:=hw'.symm;clear hw');refine(zW _ _ _ _ _ _ _ _ HH.out).mono ?_;rw[hl];rintro r w2 ⟨rfl,hb2⟩;have HB2:=aA (aB (aC w (.cells #[.slice none 0 0,.slice none 0 0,.bool false] 27)) hb2)
  obtain⟨⟨x0,x1,x2⟩,xz⟩:=HX0.out.below hb2;clear hb2;go_wp2;refine cV (v:=.agg #[.slice none 0 0,.slice none 0 0,.bool false]) (by simp[results,Tryz.results8,go_sem, *]) rfl ?_;refine⟨_,_,[],[],rfl,?_,jG.none _ _ _ _ _ _⟩;with_reducible exact fD HB2.out (Nat.le_refl _) _ _ _
 by_cases hn:1≤n∧n≤3;rotate_left
 ·have hn':(n:Int)<1∨(1≤(n:Int)∧3<(n:Int)):=by omega
  clear hbad;go_enter Tryz.func8,Tryz.ntmps8;go_wp2_with (go_at_call 30;refine(cO _ _ _ _ (by omega) (by omega)).mono ?_;rintro r w' ⟨rfl,hw'⟩;obtain rfl:=hw'.symm;clear hw');refine(zW _ _ _ _ _ _ _ _ HH.out).mono ?_;rw[hl];rintro r w2 ⟨rfl,hb2⟩;have HB2:=aA (aB (aC w (.cells #[.slice none 0 0,.slice none 0 0,.bool false] 27)) hb2)
  obtain⟨⟨x0,x1,x2⟩,xz⟩:=HX0.out.below hb2;clear hb2;go_wp2_with (go_at_call 30;refine(dC _ _ _ _ hn').mono ?_;rintro r w' ⟨rfl,hw'⟩;obtain rfl:=hw'.symm;clear hw');refine cV (v:=.agg #[.slice none 0 0,.slice none 0 0,.bool false]) (by simp[results,Tryz.results8,go_sem, *]) rfl ?_;refine⟨_,_,[],[],rfl,?_,jG.none _ _ _ _ _ _⟩;with_reducible exact fD HB2.out (Nat.le_refl _) _ _ _
 have hf':fuel<0∨(0≤fuel∧60<fuel):=by
  by_cases h1:fuel<0
  ·exact .inl h1
  ·by_cases h2:60<fuel
   ·exact .inr ⟨by omega,h2⟩
   ·exact absurd ⟨⟨o1,o2⟩,hl,hn,by omega,by omega⟩ hbad
 have hn1:(1:Int)≤(n:Int):=by omega
 have hn3:(n:Int)≤3:=by omega
 clear hbad;go_enter Tryz.func8,Tryz.ntmps8;go_wp2_with (go_at_call 30;refine(cO _ _ _ _ (by omega) (by omega)).mono ?_;rintro r w' ⟨rfl,hw'⟩;obtain rfl:=hw'.symm;clear hw');refine(zW _ _ _ _ _ _ _ _ HH.out).mono ?_;rw[hl];rintro r w2 ⟨rfl,hb2⟩;have HB2:=aA (aB (aC w (.cells #[.slice none 0 0,.slice none 0 0,.bool false] 27)) hb2)
 obtain⟨⟨x0,x1,x2⟩,xz⟩:=HX0.out.below hb2;clear hb2;go_wp2_with (first|(go_at_call 30;refine(cO _ _ _ _ (by omega) (by omega)).mono ?_;rintro r w' ⟨rfl,hw'⟩;obtain rfl:=hw'.symm;clear hw')|(go_at_call 30;refine(dC _ _ _ _ hf').mono ?_;rintro r w' ⟨rfl,hw'⟩;obtain rfl:=hw'.symm;clear hw'));refine cV (v:=.agg #[.slice none 0 0,.slice none 0 0,.bool false]) (by simp[results,Tryz.results8,go_sem, *]) rfl ?_;refine⟨_,_,[],[],rfl,?_,jG.none _ _ _ _ _ _⟩;with_reducible exact fD HB2.out (Nat.le_refl _) _ _ _
theorem eT.set2 {w:World} {b:Nat} {v0 v1 v2:Value} (h:eT w b v0 v1 v2) (v:Value):eT (w.setCell ⟨b,2,none⟩ v) b v0 v1 v:=⟨⟨(aJ (pE (by decide))).trans h.1.1,(aJ (pE (by decide))).trans h.1.2.1,gF h.1.2.2⟩,fun j=>(World.frozen?_setCell ..).trans (h.2 j)⟩
theorem gI {w:World} {b b' o o':Nat} {v u:Value} (h:w.cell? ⟨b,o,none⟩=some v∧b≠b'):(w.setCell ⟨b',o',none⟩ u).cell? ⟨b,o,none⟩=some v:=(aJ (fun e=>h.2 (by injection e with e1;exact e1.symm))).trans h.1
theorem yP (j:Nat):pF (j:Int)=dF j:=funext fun i=>by
 unfold pF dF;by_cases h:i=j
 ·rw[if_pos h,if_pos (by omega)]
 ·rw[if_neg h,if_neg (by omega)]
theorem yU (L:Nat→List T) (j:Nat):bK L j (L j)=L:=funext fun i=>by
 unfold bK;split
 ·rename_i e;rw[e]
 ·rfl
theorem EX (j:Nat):oG (fun k=>dF k) j (dF j)=fun k=>dF k:=funext fun i=>by
 unfold oG;split
 ·rename_i e;rw[e]
 ·rfl
structure G7 (w:World) (b7 n j:Nat) (wr:World) (L:Nat→List T) (tvL tvP:Value) (LS PS:List Value):Prop where
 bel:Below w.heap.size w wr
 box:eT wr b7 tvL tvP (.bool false)
 res:eT wr w.heap.size (.slice none 0 0) (.slice none 0 0) (.bool false)
 book:jG (Y2 w.heap.size b7) wr w.heap.size tvL tvP n (j+1) L j (fun k=>dF k) LS PS
theorem G7.below {w:World} {b7 n j:Nat} {wr wr':World} {L:Nat→List T} {tvL tvP:Value} {LS PS:List Value} (h:G7 w b7 n j wr L tvL tvP LS PS) (hb:Below wr.heap.size wr wr'):G7 w b7 n j wr' L tvL tvP LS PS:=⟨aB h.bel hb,h.box.below hb,h.res.below hb,h.book.below hb⟩
theorem GW.below {w:World} {b7 n:Nat} {o:Int} {wr wr':World} {B:Bs} {tvL tvP:Value} {LS PS:List Value} (h:GW w b7 n o wr B tvL tvP LS PS) (hb:Below wr.heap.size wr wr'):GW w b7 n o wr' B tvL tvP LS PS:=⟨aB h.bel hb,h.box.below hb,h.res.below hb,h.book.below hb⟩
theorem GW.app1 {w:World} {b7 n:Nat} {o:Int} {wr w5 w7:World} {j:Nat} {L:Nat→List T} {tvL tvP:Value} {LS PS:List Value} (h:GW w b7 n o wr ⟨j,L,fun k=>dF k⟩ tvL tvP LS PS) (hb7:w.heap.size<b7) (hb:Below wr.heap.size wr w5) {a:Option Addr} {c:Nat} (hr:gX wr.heap.size w5 a c (L j)) {g1 cap1:Nat} (ho:w7.ownsRow w.heap.size 41 1 (.slice (some ⟨g1,0,none⟩) (j+1) cap1) (j+1) (LS++[.slice a (L j).length c])) (hg:(w5.alloc (.cells #[.slice a (L j).length c] 41)).grownBy w7 tvL.ownBlock) (ha:tvL.ownBlock=some g1∨g1=(w5.alloc (.cells #[.slice a (L j).length c] 41)).heap.size):eT w7 b7 tvL tvP (.bool false)∧G7 w b7 n j (w7.setCell ⟨b7,0,none⟩ (.slice (some ⟨g1,0,none⟩) (j+1) cap1)) L (.slice (some ⟨g1,0,none⟩) (j+1) cap1) tvP (LS++[.slice a (L j).length c]) PS:=by
 have h5:=h.below hb;have f7:Fr (fun k=>tvL.ownBlock=some k) w5 w7:=((Fr.refl _ w5).next (aC w5 _)).grown hg (fun k e _=>e)
 have hbr:=h.box.lt;have hrr:=h.res.lt
 have hrl:xC (NB (Y2 w.heap.size b7) tvL tvP) w5 a c (L j):=⟨hr.1,hr.2.2.imp id (fun⟨g,off,e,hlo⟩ b off' e'=>by
  rw[e]at e';cases e'
  exact NB.far (m:=wr.heap.size) (fun k e=>(h.book.rL.lt k e).2) (fun k e=>(h.book.rP.lt k e).2) (fun k q=>by rcases q with q|q<;>omega) hlo)⟩
 have hY5:∀b,Y2 w.heap.size b7 b→b<w5.heap.size:=fun b q=>by have:=h5.box.lt;have:=h5.res.lt;rcases q with q|q<;>omega
 have k7:=h5.book.appL hY5 hrl hg ho ha;rw[yU]at k7;have x7:=h5.box.fr f7 (fun q=>(h5.book.nL _ q).2 (.inr rfl))
 have r7:=h5.res.fr f7 (fun q=>(h5.book.nL _ q).2 (.inl (Nat.le_refl _)));have bel7:Below w.heap.size w w7:=Fr.below h5.bel f7 (fun k e=>(h5.book.rL.lt k e).1) (Nat.le_refl _)
 have sB:Fr (fun b=>b=b7) w7 (w7.setCell ⟨b7,0,none⟩ (.slice (some ⟨g1,0,none⟩) (j+1) cap1)):=(Fr.refl _ w7).set (fun _=>rfl);refine⟨x7,bel7.setCell (by show w.heap.size≤b7;omega) _,x7.set0 _,r7.fr sB (fun q=>by omega),k7.fr ((Fr.refl (Y2 w.heap.size b7) w7).set (fun _=>.inr rfl)) (fun b q=>q)⟩
theorem G7.app2 {w:World} {b7 n:Nat} {o:Int} {wr w8 w10:World} {j lo:Nat} {L:Nat→List T} {tvL tvP:Value} {LS PS:List Value} (h:G7 w b7 n j wr L tvL tvP LS PS) (hb7:w.heap.size<b7) (hb:Below wr.heap.size wr w8) (hlo:wr.heap.size≤lo) {a:Option Addr} {c:Nat} {ad:Nat→Option Addr} {cp:Nat→Nat} {Rb:Nat} {Bb:Nat→Nat} (hr:dV lo w8 a n c ad (lN (dF j)) cp (fN (dF j)) Rb Bb) {g1 cap1:Nat} (ho:w10.ownsRow w.heap.size 24 1 (.slice (some ⟨g1,0,none⟩) (j+1) cap1) (j+1) (PS++[.slice a n c])) (hg:(w8.alloc (.cells #[.slice a n c] 24)).grownBy w10 tvP.ownBlock) (ha:tvP.ownBlock=some g1∨g1=(w8.alloc (.cells #[.slice a n c] 24)).heap.size):eT w10 b7 tvL tvP (.bool false)∧GW w b7 n o (w10.setCell ⟨b7,1,none⟩ (.slice (some ⟨g1,0,none⟩) (j+1) cap1)) ⟨j+1,L,fun k=>dF k⟩ tvL (.slice (some ⟨g1,0,none⟩) (j+1) cap1) LS (PS++[.slice a n c]):=by
 have h5:=h.below hb;have f7:Fr (fun k=>tvP.ownBlock=some k) w8 w10:=((Fr.refl _ w8).next (aC w8 _)).grown hg (fun k e _=>e)
 have hbr:=h.box.lt;have hrr:=h.res.lt
 have hrs:uI (NB (Y2 w.heap.size b7) tvL tvP) w8 a n c ad cp (dF j):=(wA (hi:=w8.heap.size) hr (Nat.le_refl _)).mono (fun b _ hb=>NB.far (m:=wr.heap.size) (fun k e=>(h.book.rL.lt k e).2) (fun k e=>(h.book.rP.lt k e).2) (fun k q=>by rcases q with q|q<;>omega) (by omega));have hY5:∀b,Y2 w.heap.size b7 b→b<w8.heap.size:=fun b q=>by have:=h5.box.lt;have:=h5.res.lt;rcases q with q|q<;>omega
 have k7:=h5.book.appP hY5 hrs hg ho ha;rw[EX]at k7;have x7:=h5.box.fr f7 (fun q=>h5.book.nP _ q (.inr rfl))
 have r7:=h5.res.fr f7 (fun q=>h5.book.nP _ q (.inl (Nat.le_refl _)));have bel7:Below w.heap.size w w10:=Fr.below h5.bel f7 (fun k e=>(h5.book.rP.lt k e).1) (Nat.le_refl _)
 have sB:Fr (fun b=>b=b7) w10 (w10.setCell ⟨b7,1,none⟩ (.slice (some ⟨g1,0,none⟩) (j+1) cap1)):=(Fr.refl _ w10).set (fun _=>rfl);refine⟨x7,bel7.setCell (by show w.heap.size≤b7;omega) _,x7.set1 _,r7.fr sB (fun q=>by omega),k7.fr ((Fr.refl (Y2 w.heap.size b7) w10).set (fun _=>.inr rfl)) (fun b q=>q)⟩
theorem GW.step {w:World} {b7 n:Nat} {o:Int} {wr w':World} {B B':Bs} {tvL tvP tvL' tvP':Value} {LS PS LS' PS':List Value} (h:GW w b7 n o wr B tvL tvP LS PS) (hb7:w.heap.size<b7) (hf:Fr (fun k=>tvL.ownBlock=some k∨tvP.ownBlock=some k) wr w') (hk:jG (Y2 w.heap.size b7) w' w.heap.size tvL' tvP' n B'.m B'.L B'.m B'.P LS' PS'):(eT w' b7 tvL tvP (.bool false)∧eT w' w.heap.size (.slice none 0 0) (.slice none 0 0) (.bool false))∧GW w b7 n o (((w'.setCell ⟨b7,0,none⟩ tvL').setCell ⟨b7,1,none⟩ tvP').setCell ⟨b7,2,none⟩ (.bool false)) B' tvL' tvP' LS' PS':=by
 have nx:∀x,Y2 w.heap.size b7 x→¬(tvL.ownBlock=some x∨tvP.ownBlock=some x):=fun x q e=>by
  rcases e with e|e
  ·exact(h.book.nL _ e).2 q
  ·exact h.book.nP _ e q
 have x7:=h.box.fr hf (nx _ (.inr rfl));have r7:=h.res.fr hf (nx _ (.inl (Nat.le_refl _)))
 have bel7:Below w.heap.size w w':=Fr.below h.bel hf (fun k e=>by rcases e with e|e;exact(h.book.rL.lt k e).1;exact(h.book.rP.lt k e).1) (Nat.le_refl _);have sB:Fr (fun b=>b=b7) w' (((w'.setCell ⟨b7,0,none⟩ tvL').setCell ⟨b7,1,none⟩ tvP').setCell ⟨b7,2,none⟩ (.bool false)):=(((Fr.refl (fun b=>b=b7) w').set (fun _=>rfl)).set (fun _=>rfl)).set (fun _=>rfl)
 have hb7':w.heap.size≤b7:=by omega
 exact⟨⟨x7,r7⟩,fD bel7 hb7' _ _ _,((x7.set0 tvL').set1 tvP').set2 (.bool false),r7.fr sB (fun q=>by omega),hk.fr ((((Fr.refl (Y2 w.heap.size b7) w').set (fun _=>.inr rfl)).set (fun _=>.inr rfl)).set (fun _=>.inr rfl)) (fun b q=>q)⟩
theorem LF {o:Int} {g f:Nat} {B:Bs} {k i:Nat} (hj:bA k+i<bA B.m) (hi:i<k) (hE:eG o g B i k=none):kQ o g (f+1) B (bA k+i)=(B,false):=by have e:pq (bA k+i)=(i,k):=oD k i hi;rw[kQ,if_pos hj,e];simp only[hE]
theorem LG {o:Int} {g f:Nat} {B B2:Bs} {k i:Nat} (hj:bA k+i<bA B.m) (hi:i<k) (hE:eG o g B i k=some B2):kQ o g (f+1) B (bA k+i)=kQ o g f B2 (bA k+i+1):=by have e:pq (bA k+i)=(i,k):=oD k i hi;rw[kQ,if_pos hj,e];simp only[hE]
theorem yA {o:Int} {g f:Nat} {B:Bs} {j:Nat} (hj:bA B.m≤j):kQ o g f B j=(B,true):=by
 cases f with
 |zero=>show(B,decide (bA B.m≤j))=(B,true);rw[decide_eq_true hj]
 |succ f=>rw[kQ,if_neg (by omega)]
theorem CS {o:Int} {g:Nat} {B:Bs} {j:Nat} (hj:j<bA B.m):kQ o g 0 B j=(B,false):=by show(B,decide (bA B.m≤j))=(B,false);rw[decide_eq_false (by omega)]
theorem VR {k m i:Nat} (hk:k<m) (hi:i<k):bA k+i<bA m:=by
 have h1:bA (k+1)≤bA m:=wR hk;have h2:bA (k+1)=bA k+k:=rfl
 omega
def cH (a:Option Addr):Nat:=match a with
 |some p=>p.block
 |none=>0
theorem fE {a:Option Addr} {b off:Nat} (h:a=some ⟨b,off,none⟩):cH a=b:=by rw[h];rfl
def jI {α:Type} (a:α) (f:Nat→α):Nat→α
 |0=>a
 |s+1=>f s
theorem Fr.wr {P:Nat→Prop} {w w':World} (h:Fr P w w') {a:Option Addr} {n:Nat} {f:Nat→T} (hr:Wr w a n f) (hp:n=0∨∀b off,a=some ⟨b,off,none⟩→¬P b):Wr w' a n f:=by
 rcases hr with h0|⟨g,off,N,F,he,hrow,hle,hF⟩
 ·exact .inl h0
 ·rcases hp with h0|hp
  ·exact .inl h0
  ·exact .inr ⟨g,off,N,F,he,hrow.of_block (h.block g hrow.lt (hp g off he)),hle,hF⟩
structure BK (N:Nat→Prop) (w:World) (lo hi g:Nat) (pa:Option Addr) (pc:Nat) (A:Nat→Option Addr) (C:Nat→Nat) (X:Nat→List T):Prop where
 lh:lo≤hi
 sz:hi≤w.heap.size
 gc:g≤pc
 row:g=0∨∃off,pa=some ⟨cH pa,off,none⟩∧(lo≤cH pa∧cH pa<hi∧N (cH pa))∧∀j,j<g→w.cell? ⟨cH pa,off+j,none⟩=some (.slice (A (j+1)) (X (j+1)).length (C (j+1)))
 rd:∀s,s≤g→RL w (A s) (C s) (X s)
 wr:∀s,s≤g→Wr w (A s) (X s).length (lf (X s))
 el:∀s,s≤g→(X s).length=0∨∃off,A s=some ⟨cH (A s),off,none⟩∧(lo≤cH (A s)∧cH (A s)<hi∧N (cH (A s)))∧(g≠0→cH (A s)≠cH pa)
 ap:∀s s',s<s'→s'≤g→(X s).length≠0→(X s').length≠0→cH (A s)≠cH (A s')
theorem BK.far {N P:Nat→Prop} {w:World} {lo hi g:Nat} {pa:Option Addr} {pc:Nat} {A:Nat→Option Addr} {C:Nat→Nat} {X:Nat→List T} (h:BK N w lo hi g pa pc A C X) (hp:∀b,N b→¬P b) (s:Nat) (hs:s≤g):(X s).length=0∨∀b off,A s=some ⟨b,off,none⟩→¬P b:=
 (h.el s hs).imp id fun⟨off,e,k,_⟩ b o e2=>by rw[←fE e2];exact hp _ k.2.2
theorem BK.fr {N P:Nat→Prop} {w w':World} {lo hi g:Nat} {pa:Option Addr} {pc:Nat} {A:Nat→Option Addr} {C:Nat→Nat} {X:Nat→List T} (h:BK N w lo hi g pa pc A C X) (hf:Fr P w w') (hp:∀b,N b→¬P b):BK N w' lo hi g pa pc A C X where
 lh:=h.lh
 sz:=gW h.sz hf.size
 gc:=h.gc
 row:=h.row.imp id fun⟨off,e,k,hc⟩=>⟨off,e,k,fun j hj=>(hf.cell (iZ k.2.1 h.sz) (hp _ k.2.2)).trans (hc j hj)⟩
 rd:=fun s hs=>hf.rd (h.rd s hs) (h.far hp s hs)
 wr:=fun s hs=>hf.wr (h.wr s hs) (h.far hp s hs)
 el:=h.el
 ap:=h.ap
theorem BK.mono {N N':Nat→Prop} {w:World} {lo hi g:Nat} {pa:Option Addr} {pc:Nat} {A:Nat→Option Addr} {C:Nat→Nat} {X:Nat→List T} (h:BK N w lo hi g pa pc A C X) (hn:∀b,b<w.heap.size→N b→N' b):BK N' w lo hi g pa pc A C X where
 lh:=h.lh
 sz:=h.sz
 gc:=h.gc
 row:=h.row.imp id fun⟨off,e,k,hc⟩=>⟨off,e,⟨k.1,k.2.1,hn _ (iZ k.2.1 h.sz) k.2.2⟩,hc⟩
 rd:=h.rd
 wr:=h.wr
 el:=fun s hs=>(h.el s hs).imp id fun⟨off,e,k,q⟩=>⟨off,e,⟨k.1,k.2.1,hn _ (iZ k.2.1 h.sz) k.2.2⟩,q⟩
 ap:=h.ap
theorem BK.low {N:Nat→Prop} {w:World} {lo lo' hi g:Nat} {pa:Option Addr} {pc:Nat} {A:Nat→Option Addr} {C:Nat→Nat} {X:Nat→List T} (h:BK N w lo hi g pa pc A C X) (hl:lo'≤lo):BK N w lo' hi g pa pc A C X where
 lh:=gW hl h.lh
 sz:=h.sz
 gc:=h.gc
 row:=h.row.imp id fun⟨off,e,k,hc⟩=>⟨off,e,⟨gW hl k.1,k.2⟩,hc⟩
 rd:=h.rd
 wr:=h.wr
 el:=fun s hs=>(h.el s hs).imp id fun⟨off,e,k,q⟩=>⟨off,e,⟨gW hl k.1,k.2⟩,q⟩
 ap:=h.ap
theorem WC {lo:Nat} {w:World} {a:Option Addr} {c:Nat} {L:List T} (h:gX lo w a c L) (h0:L.length≠0):lo≤cH a:=by
 rcases h.2.2 with q|⟨g,off,e,hl⟩
 ·exact absurd q h0
 ·rw[fE e];exact hl
theorem BU {w:World} {a:Option Addr} {n c:Nat} {f:Nat→T} (h:Rd w a n c f) (h0:n≠0):cH a<w.heap.size:=by
 rcases h.2.2 with q|⟨b,off,e,hl,_⟩
 ·exact absurd q h0
 ·rw[fE e];exact hl
theorem MG {w:World} {a:Option Addr} {n c:Nat} {ad:Nat→Option Addr} {ln cp:Nat→Nat} {f:Nat→Nat→T} (h:eH w a n c ad ln cp f) (h0:n≠0):cH a<w.heap.size:=by
 rcases h.2.2.1 with q|⟨b,off,e,hl,_⟩
 ·exact absurd q h0
 ·rw[fE e];exact hl
theorem DI {lo:Nat} {w:World} {a:Option Addr} {n c:Nat} {ad:Nat→Option Addr} {ln cp:Nat→Nat} {f:Nat→Nat→T} {R:Nat} {B:Nat→Nat} (h:dV lo w a n c ad ln cp f R B) (h0:n≠0):lo≤cH a:=by
 rcases h.row with q|⟨off,e,hl⟩
 ·exact absurd q h0
 ·rw[fE e];exact hl
theorem pY {lo:Nat} {w:World} {a:Option Addr} {n c:Nat} {ad:Nat→Option Addr} {ln cp:Nat→Nat} {f:Nat→Nat→T} {R:Nat} {B:Nat→Nat} (h:dV lo w a n c ad ln cp f R B) {j:Nat} (hj:j<n) (h0:ln j≠0):lo≤cH (ad j):=by
 rcases h.el j hj with q|⟨off,e,hl,_⟩
 ·exact absurd q h0
 ·rw[fE e];exact hl
theorem NY {N:Nat→Prop} {w:World} {lo g:Nat} {a:Option Addr} {c:Nat} {r:List T} {pa:Option Addr} {pc:Nat} {ad:Nat→Option Addr} {cp:Nat→Nat} {R:Nat→List T} {Rb:Nat} {B:Nat→Nat} (hlo:lo≤w.heap.size) (hN:∀b,lo≤b→N b) (ho:gX lo w a c r) (hx:dV lo w pa g pc ad (lN R) cp (fN R) Rb B) (h1:r.length≠0→g≠0→cH a≠cH pa) (h2:∀j,j<g→r.length≠0→(R j).length≠0→cH a≠cH (ad j)):BK N w lo w.heap.size g pa pc (jI a ad) (jI c cp) (jI r R) where
 lh:=hlo
 sz:=Nat.le_refl _
 gc:=hx.rd.1
 row:=by
  rcases hx.row with h0|⟨off,e,hl⟩
  ·exact .inl h0
  ·rcases hx.rd.2.2.1 with h0|⟨b,off',e',hlt,hc⟩
   ·exact .inl h0
   ·have hb:=fE e';refine .inr ⟨off',by rw[hb];exact e',⟨?_,by rw[hb];exact hlt,hN _ ?_⟩,fun j hj=>by rw[hb];exact hc j hj⟩<;>rw[fE e]<;>exact hl
 rd:=fun s hs=>by
  cases s with
  |zero=>exact ho.1
  |succ s=>exact hx.rd.2.2.2 s hs
 wr:=fun s hs=>by
  cases s with
  |zero=>exact ho.2.1
  |succ s=>exact hx.wr s hs
 el:=fun s hs=>by
  cases s with
  |zero=>
   by_cases hz:r.length=0
   ·exact .inl hz
   ·rcases ho.2.2 with h0|⟨b,off,e,hl⟩
    ·exact .inl h0
    ·rcases ho.1.2.2 with h0|⟨b',off',e',hlt,_⟩
     ·exact .inl h0
     ·have hb:=fE e';have hb2:=fE e
      refine .inr ⟨off',?_,⟨?_,?_,hN _ ?_⟩,fun hg=>h1 hz hg⟩
      ·show a=some ⟨cH a,off',none⟩;rw[hb];exact e'
      ·show lo≤cH a;rw[hb2];exact hl
      ·show cH a<_;rw[hb];exact hlt
      ·show lo≤cH a;rw[hb2];exact hl
  |succ s=>
   rcases hx.el s hs with h0|⟨off,e,hl,hne⟩
   ·exact .inl h0
   ·rcases(hx.rd.2.2.2 s hs).2.2 with h0|⟨b',off',e',hlt,_⟩
    ·exact .inl h0
    ·have hb:=fE e';have hb2:=fE e
     refine .inr ⟨off',?_,⟨?_,?_,hN _ ?_⟩,fun hg=>?_⟩
     ·show ad s=some ⟨cH (ad s),off',none⟩;rw[hb];exact e'
     ·show lo≤cH (ad s);rw[hb2];exact hl
     ·show cH (ad s)<_;rw[hb];exact hlt
     ·show lo≤cH (ad s);rw[hb2];exact hl
     ·show cH (ad s)≠cH pa;rw[hb2];rcases hx.row with q|⟨o2,e2,_⟩
      ·exact absurd q hg
      ·rw[fE e2];exact hne
 ap:=fun s s' hss hs' n1 n2=>by
  cases s' with
  |zero=>exact absurd hss (EZ _)
  |succ s'=>
   cases s with
   |zero=>exact h2 s' hs' n1 n2
   |succ s=>
    show cH (ad s)≠cH (ad s');rcases hx.el s (by omega)with h0|⟨off,e,_⟩
    ·exact absurd h0 n1
    ·rcases hx.el s' (by omega)with h0|⟨off',e',_⟩
     ·exact absurd h0 n2
     ·rw[fE e,fE e'];exact hx.ap s s' (by omega) (by omega) n1 n2
theorem XG {N:Nat→Prop} {w w':World} {lo g:Nat} {a:Option Addr} {c:Nat} {r:List T} {pa:Option Addr} {pc:Nat} {ad:Nat→Option Addr} {cp:Nat→Nat} {R:Nat→List T} {Rb:Nat} {B:Nat→Nat} (hlo:lo≤w.heap.size) (hN:∀b,lo≤b→N b) (hx:dV lo w pa g pc ad (lN R) cp (fN R) Rb B) (hb:Below w.heap.size w w') (ho:gX w.heap.size w' a c r):BK N w' lo w'.heap.size g pa pc (jI a ad) (jI c cp) (jI r R):=
 NY (gW hlo hb.size) hN ⟨ho.1,ho.2.1,ho.2.2.imp id (fun⟨g,off,e,q⟩=>⟨g,off,e,gW hlo q⟩)⟩ (hx.below hb) (fun h0 h1=>by have:=WC ho h0;have:=MG hx.rd h1;omega) (fun j hj h0 h1=>by have:=WC ho h0;have:=BU (hx.rd.2.2.2 j hj) h1;omega)
structure Ow (N:Nat→Prop) (w:World) (lo hi m g:Nat) (L:Nat→List T) (P:Nat→Nat→List T) (LS PS:List Value) (H:Nat→Nat):Prop where
 h0:lo≤H 0
 hm:H m≤hi
 sz:hi≤w.heap.size
 up:∀i,i<m→H i≤H (i+1)
 co:∀i,i<m→∃A C pa pc,LS[i]? =some (.slice (A 0) (L i).length (C 0))∧PS[i]? =some (.slice pa g pc)∧BK N w (H i) (H (i+1)) g pa pc A C (jI (L i) (P i))
theorem Ow.fr {N Q:Nat→Prop} {w w':World} {lo hi m g:Nat} {L:Nat→List T} {P:Nat→Nat→List T} {LS PS:List Value} {H:Nat→Nat} (h:Ow N w lo hi m g L P LS PS H) (hf:Fr Q w w') (hp:∀b,N b→¬Q b):Ow N w' lo hi m g L P LS PS H:=
 ⟨h.h0,h.hm,gW h.sz hf.size,h.up,fun i hi=>by obtain⟨A,C,pa,pc,e1,e2,k⟩:=h.co i hi;exact⟨A,C,pa,pc,e1,e2,k.fr hf hp⟩⟩
theorem Ow.mono {N N':Nat→Prop} {w:World} {lo hi m g:Nat} {L:Nat→List T} {P:Nat→Nat→List T} {LS PS:List Value} {H:Nat→Nat} (h:Ow N w lo hi m g L P LS PS H) (hn:∀b,b<w.heap.size→N b→N' b):Ow N' w lo hi m g L P LS PS H:=
 ⟨h.h0,h.hm,h.sz,h.up,fun i hi=>by obtain⟨A,C,pa,pc,e1,e2,k⟩:=h.co i hi;exact⟨A,C,pa,pc,e1,e2,k.mono hn⟩⟩
def wX (N:Nat→Prop) (w:World) (lo m g:Nat) (L:Nat→List T) (P:Nat→Nat→List T) (LS PS:List Value):Prop:=∃hi H,Ow N w lo hi m g L P LS PS H
theorem wX.fr {N Q:Nat→Prop} {w w':World} {lo m g:Nat} {L:Nat→List T} {P:Nat→Nat→List T} {LS PS:List Value} (h:wX N w lo m g L P LS PS) (hf:Fr Q w w') (hp:∀b,N b→¬Q b):wX N w' lo m g L P LS PS:=by obtain⟨hi,H,k⟩:=h;exact⟨hi,H,k.fr hf hp⟩
theorem wX.mono {N N':Nat→Prop} {w:World} {lo m g:Nat} {L:Nat→List T} {P:Nat→Nat→List T} {LS PS:List Value} (h:wX N w lo m g L P LS PS) (hn:∀b,b<w.heap.size→N b→N' b):wX N' w lo m g L P LS PS:=by obtain⟨hi,H,k⟩:=h;exact⟨hi,H,k.mono hn⟩
theorem wX.none (N:Nat→Prop) (w:World) (lo g:Nat) (L:Nat→List T) (P:Nat→Nat→List T) (hl:lo≤w.heap.size):wX N w lo 0 g L P [] []:=⟨lo,fun _=>lo,Nat.le_refl _,Nat.le_refl _,hl,fun i hi=>absurd hi (EZ _),fun i hi=>absurd hi (EZ _)⟩
theorem wX.low {N:Nat→Prop} {w:World} {lo lo' m g:Nat} {L:Nat→List T} {P:Nat→Nat→List T} {LS PS:List Value} (h:wX N w lo m g L P LS PS) (hl:lo'≤lo):wX N w lo' m g L P LS PS:=by obtain⟨hi,H,k⟩:=h;exact⟨hi,H,gW hl k.h0,k.hm,k.sz,k.up,k.co⟩
def wY (N:Nat→Prop) (w:World) (lo m g:Nat) (L:Nat→List T) (P:Nat→Nat→List T) (LS PS:List Value) (pa:Option Addr) (pc:Nat) (A:Nat→Option Addr) (C:Nat→Nat) (X:Nat→List T):Prop:=∃hi hi' H,Ow N w lo hi m g L P LS PS H∧BK N w hi hi' g pa pc A C X
theorem wY.fr {N Q:Nat→Prop} {w w':World} {lo m g:Nat} {L:Nat→List T} {P:Nat→Nat→List T} {LS PS:List Value} {pa:Option Addr} {pc:Nat} {A:Nat→Option Addr} {C:Nat→Nat} {X:Nat→List T} (h:wY N w lo m g L P LS PS pa pc A C X) (hf:Fr Q w w') (hp:∀b,N b→¬Q b):wY N w' lo m g L P LS PS pa pc A C X:=by obtain⟨hi,hi',H,k,c⟩:=h;exact⟨hi,hi',H,k.fr hf hp,c.fr hf hp⟩
theorem wY.mono {N N':Nat→Prop} {w:World} {lo m g:Nat} {L:Nat→List T} {P:Nat→Nat→List T} {LS PS:List Value} {pa:Option Addr} {pc:Nat} {A:Nat→Option Addr} {C:Nat→Nat} {X:Nat→List T} (h:wY N w lo m g L P LS PS pa pc A C X) (hn:∀b,b<w.heap.size→N b→N' b):wY N' w lo m g L P LS PS pa pc A C X:=by obtain⟨hi,hi',H,k,c⟩:=h;exact⟨hi,hi',H,k.mono hn,c.mono hn⟩
theorem wX.wait {N:Nat→Prop} {w w':World} {lo m g:Nat} {L:Nat→List T} {P:Nat→Nat→List T} {LS PS:List Value} (h:wX N w lo m g L P LS PS) (hb:Below w.heap.size w w') {hi':Nat} {pa:Option Addr} {pc:Nat} {A:Nat→Option Addr} {C:Nat→Nat} {X:Nat→List T} (hc:BK N w' w.heap.size hi' g pa pc A C X):wY N w' lo m g L P LS PS pa pc A C X:=by obtain⟨hi,H,k⟩:=h;exact⟨hi,hi',H,k.fr (Q:=fun _=>False) (aO hb) (fun _ _ q=>q),hc.low k.sz⟩
theorem wY.putL {N:Nat→Prop} {w:World} {lo m g:Nat} {L:Nat→List T} {P:Nat→Nat→List T} {LS PS:List Value} {pa:Option Addr} {pc:Nat} {A:Nat→Option Addr} {C:Nat→Nat} {X:Nat→List T} (h:wY N w lo m g L P LS PS pa pc A C X) (hl:LS.length=m) (r:List T) (v:Value):wY N w lo m g (bK L m r) P (LS++[v]) PS pa pc A C X:=by
 obtain⟨hi,hi',H,k,c⟩:=h;refine⟨hi,hi',H,⟨k.h0,k.hm,k.sz,k.up,fun i hi=>?_⟩,c⟩;obtain⟨A,C,pa,pc,e1,e2,q⟩:=k.co i hi;have e:bK L m r i=L i:=by unfold bK;rw[if_neg (by omega)]
 rw[e];exact⟨A,C,pa,pc,by rw[mO (by omega)];exact e1,e2,q⟩
theorem NG {N:Nat→Prop} {w:World} {lo m g:Nat} {L:Nat→List T} {P:Nat→Nat→List T} {LS PS:List Value} {pa:Option Addr} {pc:Nat} {A:Nat→Option Addr} {C:Nat→Nat} {R:Nat→List T} (h:wY N w lo m g L P LS PS pa pc A C (jI (L m) R)) (hl:PS.length=m) (hv:LS[m]? =some (.slice (A 0) (L m).length (C 0))):wX N w lo (m+1) g L (oG P m R) LS (PS++[.slice pa g pc]):=by
 obtain⟨hi,hi',H,k,c⟩:=h;have cl:=c.low k.hm
 refine⟨hi',fun i=>if i≤m then H i else hi',by rw[if_pos (Nat.zero_le _)];exact k.h0,by rw[if_neg (by omega)];exact Nat.le_refl _,c.sz,fun i hi=>?_,fun i hi=>?_⟩
 ·by_cases e:i=m
  ·subst e;rw[if_pos (Nat.le_refl _),if_neg (by omega)];exact cl.lh
  ·rw[if_pos (by omega),if_pos (by omega)];exact k.up i (by omega)
 ·by_cases e:i=m
  ·subst e;refine⟨A,C,pa,pc,hv,mN hl.symm,?_⟩;rw[if_pos (Nat.le_refl _),if_neg (by omega)];unfold oG;rw[if_pos rfl];exact cl
  ·obtain⟨A',C',pa',pc',e1,e2,q⟩:=k.co i (by omega);refine⟨A',C',pa',pc',e1,by rw[mO (by omega)];exact e2,?_⟩;rw[if_pos (by omega),if_pos (by omega)];unfold oG;rw[if_neg e];exact q
end Go.Proofs.YtelkehjdfcoeiaaGreat
