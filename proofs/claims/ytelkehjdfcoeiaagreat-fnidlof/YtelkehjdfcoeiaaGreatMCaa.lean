/-
  What the drawing functions return: the reader's pick is a number below its bound, and writes the reader's place alone; what is drawn is some number that fits its kind.
-/
import Derived.Test.YtelkehjdfcoeiaaGreatMBaa
set_option maxHeartbeats 16000000
set_option maxRecDepth 100000
namespace Go.Proofs.YtelkehjdfcoeiaaGreat
open Go.RowKit
set_option linter.unusedVariables false
def RB (w0 W:World) (p:Nat):Prop:=kO W w0.heap.size p∧Below w0.heap.size w0 W
theorem RB.alloc {w0 W:World} {p:Nat} (h:RB w0 W p) (o:Obj):RB w0 (W.alloc o) p:=⟨h.1.alloc o,h.2.alloc h.2.size o⟩
theorem RB.drewN {w0 W:World} {p:Nat} (h:RB w0 W p) (n:Nat):RB w0 (W.drewN n) p:=⟨h.1,below_drewN h.2 n⟩
theorem RB.drew {w0 W:World} {p:Nat} (h:RB w0 W p):RB w0 W.drew p:=h.drewN 1
theorem RB.lt {w0 W:World} {p:Nat} (h:RB w0 W p):w0.heap.size<W.heap.size:=h.1.lt
open Go.RowKit Go.Deep Go.Joins
theorem FV {B B':Nat} {a w:World} {O:Obj} (h:Below a.heap.size a w) (hB:a.heap.size≤B) (hB':a.heap.size≤B') (u0 u1 u2 u3 u4 u5 u6 u7 u8 u9:Value):Below a.heap.size a (((((((((((w.setCell ⟨B,0,none⟩ u0).setCell ⟨B,1,none⟩ u1).setCell ⟨B,2,none⟩ u2).setCell ⟨B,3,none⟩ u3).setCell ⟨B,4,none⟩ u4).setCell ⟨B',0,none⟩ u5).setCell ⟨B',1,none⟩ u6).setCell ⟨B',2,none⟩ u7).setCell ⟨B',3,none⟩ u8).setCell ⟨B',4,none⟩ u9).alloc O):=
 have k:=cB (cB h hB u0 u1 u2 u3 u4) hB' u5 u6 u7 u8 u9
 k.alloc k.size O
theorem WL (w:World) (o:Int) (a:Option Addr) (n ca:Nat) (f:Nat→T) (b:Option Addr) (m cb:Nat) (g:Nat→T) (ha:Rd w a n ca f) (hb:Rd w b m cb g):Calls Tryz.prog 100 #[.int .i64 o,.slice a n ca,.slice b m cb] w fun r w'=>r= .returned (.tuple #[.agg #[.int .i64 (eZ o n f m g).c,.int .i64 (eZ o n f m g).m.x,.int .i64 (eZ o n f m g).m.y,.int .i64 (eZ o n f m g).m.d,.int .i64 (eZ o n f m g).m.e],.agg #[.int .i64 (fC o n f m g).c,.int .i64 (fC o n f m g).m.x,.int .i64 (fC o n f m g).m.y,.int .i64 (fC o n f m g).m.d,.int .i64 (fC o n f m g).m.e],.bool (fM o n f m g)])∧Below w.heap.size w w':=by
 have HA:=aA ha;have HB:=aA hb
 have hla:(n:Int)≤140737488351232:=by have:=ha.2.1;omega
 have hlb:(m:Int)≤140737488351232:=by have:=hb.2.1;omega
 have HB0:=aA (aS w (.cells #[.int .i64 0,.int .i64 0,.int .i64 0,.int .i64 0,.int .i64 0] 86) (.cells #[.int .i64 0,.int .i64 0,.int .i64 0,.int .i64 0,.int .i64 0] 86));have c1:=fun(W:World) (h:Rd W a n ca f)=>kJ W o a n ca f h
 have c2:=fun(W:World) (h:Rd W b m cb g)=>kJ W o b m cb g h;clear ha hb;unfold eZ fC nM fM;generalize bN o n f=s at *;generalize bN o m g=t at *;generalize bF o n f=k1 at *;generalize bF o m g=k2 at *;by_cases hk:(k1&&k2)=true
 ·rw[if_pos hk,if_pos hk,hk];rw[Bool.and_eq_true]at hk;obtain⟨rfl,rfl⟩:=hk;have hof:=fun W=>Cs W s t
  generalize iR s (M.both s.m t.m)=U at *;generalize iR t (M.both s.m t.m)=V at *;go_enter Tryz.func100,Tryz.ntmps100;go_wp2_with fail;refine(c1 _ (HA.out.below HB0.out)).mono ?_;rintro r w1 ⟨rfl,hb1⟩;have HB1:=aA (aB HB0.out hb1)
  have hz1:w.heap.size+1<w1.heap.size:=by have:=hb1.size;simp at this;omega
  have oA:=((bV.box w 86 bJ).below (aC (w.alloc (.cells #[.int .i64 0,.int .i64 0,.int .i64 0,.int .i64 0,.int .i64 0] 86)) (.cells #[.int .i64 0,.int .i64 0,.int .i64 0,.int .i64 0,.int .i64 0] 86))).below hb1;have oB:=(bV.box (w.alloc (.cells #[.int .i64 0,.int .i64 0,.int .i64 0,.int .i64 0,.int .i64 0] 86)) 86 bJ).below hb1
  rw[World.size_alloc]at oB;have OA:=aA oA
  have OB:=aA oB;have HB2:=aA (HB1.out.alloc HB1.out.size (.cells #[.int .i64 s.c,.int .i64 s.m.x,.int .i64 s.m.y,.int .i64 s.m.d,.int .i64 s.m.e] 86))
  clear hb1 oA oB;go_wp2_with fail;refine(c2 _ (HB.out.below HB2.out)).mono ?_;rintro r w2 ⟨rfl,hb2⟩;have HB3:=aA (aB HB2.out hb2)
  have oA2:=(OA.out.below (aC w1 (.cells #[.int .i64 s.c,.int .i64 s.m.x,.int .i64 s.m.y,.int .i64 s.m.d,.int .i64 s.m.e] 86))).below hb2;have oB2:=(OB.out.below (aC w1 (.cells #[.int .i64 s.c,.int .i64 s.m.x,.int .i64 s.m.y,.int .i64 s.m.d,.int .i64 s.m.e] 86))).below hb2
  have cS:=(C5.box w1 86 s).below hb2;have hz2:w1.heap.size<w2.heap.size:=by have:=hb2.size;simp at this;omega
  have hz3:w.heap.size<w2.heap.size:=by omega
  have hz4:w.heap.size+1<w2.heap.size:=by omega
  have OA2:=aA oA2;have OB2:=aA oB2
  have CSS:=aA cS;clear hb2 oA2 oB2 cS c1 c2 OA OB;obtain⟨r0,r1,r2,r3,r4⟩:=CSS.out;go_wp2_with fail;clear r0 r1 r2 r3 r4;refine(hof _).mono ?_;rintro r w3 ⟨rfl,hb3⟩;have HB4:=aA (aB (HB3.out.alloc HB3.out.size _) hb3)
  obtain⟨⟨e0,e1,e2,e3,e4⟩,ez⟩:=(OA2.out.below (aC w2 _)).below hb3;obtain⟨⟨g0,g1,g2,g3,g4⟩,gz⟩:=(OB2.out.below (aC w2 _)).below hb3;have hz5:w.heap.size<w3.heap.size:=by have:=hb3.size;simp at this;omega
  have hz6:w.heap.size+1<w3.heap.size:=by have:=hb3.size;simp at this;omega
  clear hb3 hof OA2 OB2 CSS HB1 HB2 HB3 HB0 HA HB;go_wp2_with fail
  go_region_with (fail)
  all_goals
   go_wp2;refine cD (v:=.tuple #[.agg #[.int .i64 U.c,.int .i64 U.m.x,.int .i64 U.m.y,.int .i64 U.m.d,.int .i64 U.m.e],.agg #[.int .i64 V.c,.int .i64 V.m.x,.int .i64 V.m.y,.int .i64 V.m.d,.int .i64 V.m.e],.bool true]) (by simp[results,Tryz.results100,go_sem, *]) rfl ⟨rfl,?_⟩;exact(FV HB4.out (by omega) (by omega) _ _ _ _ _ _ _ _ _ _).drew
 ·have hk':(k1&&k2)=false:=by cases h:(k1&&k2);rfl;exact absurd h hk
  rw[if_neg hk,if_neg hk,hk'];go_enter Tryz.func100,Tryz.ntmps100;go_wp2_with fail;refine(c1 _ (HA.out.below HB0.out)).mono ?_;rintro r w1 ⟨rfl,hb1⟩;have HB1:=aA (aB HB0.out hb1)
  have hz1:w.heap.size+1<w1.heap.size:=by have:=hb1.size;simp at this;omega
  have oA:=((bV.box w 86 bJ).below (aC (w.alloc (.cells #[.int .i64 0,.int .i64 0,.int .i64 0,.int .i64 0,.int .i64 0] 86)) (.cells #[.int .i64 0,.int .i64 0,.int .i64 0,.int .i64 0,.int .i64 0] 86))).below hb1;have oB:=(bV.box (w.alloc (.cells #[.int .i64 0,.int .i64 0,.int .i64 0,.int .i64 0,.int .i64 0] 86)) 86 bJ).below hb1
  rw[World.size_alloc]at oB;have OA:=aA oA
  have OB:=aA oB;have HB2:=aA (HB1.out.alloc HB1.out.size (.cells #[.int .i64 s.c,.int .i64 s.m.x,.int .i64 s.m.y,.int .i64 s.m.d,.int .i64 s.m.e] 86))
  clear hb1 oA oB;go_wp2_with fail;refine(c2 _ (HB.out.below HB2.out)).mono ?_;rintro r w2 ⟨rfl,hb2⟩;have HB3:=aA (aB HB2.out hb2)
  have oA2:=(OA.out.below (aC w1 (.cells #[.int .i64 s.c,.int .i64 s.m.x,.int .i64 s.m.y,.int .i64 s.m.d,.int .i64 s.m.e] 86))).below hb2;have oB2:=(OB.out.below (aC w1 (.cells #[.int .i64 s.c,.int .i64 s.m.x,.int .i64 s.m.y,.int .i64 s.m.d,.int .i64 s.m.e] 86))).below hb2
  have cS:=(C5.box w1 86 s).below hb2;have hz2:w1.heap.size<w2.heap.size:=by have:=hb2.size;simp at this;omega
  have hz3:w.heap.size<w2.heap.size:=by omega
  have hz4:w.heap.size+1<w2.heap.size:=by omega
  have OA2:=aA oA2;have OB2:=aA oB2
  have CSS:=aA cS;clear hb2 oA2 oB2 cS c1 c2 OA OB;obtain⟨⟨e0,e1,e2,e3,e4⟩,ez⟩:=OA2.out;obtain⟨⟨g0,g1,g2,g3,g4⟩,gz⟩:=OB2.out;cases k1
  ·go_wp2;refine cD (v:=.tuple #[.agg #[.int .i64 0,.int .i64 0,.int .i64 0,.int .i64 0,.int .i64 0],.agg #[.int .i64 0,.int .i64 0,.int .i64 0,.int .i64 0,.int .i64 0],.bool false]) (by simp[results,Tryz.results100,go_sem, *]) rfl ⟨rfl,?_⟩;exact FV HB3.out (by omega) (by omega) _ _ _ _ _ _ _ _ _ _
  ·cases k2
   ·go_wp2;refine cD (v:=.tuple #[.agg #[.int .i64 0,.int .i64 0,.int .i64 0,.int .i64 0,.int .i64 0],.agg #[.int .i64 0,.int .i64 0,.int .i64 0,.int .i64 0,.int .i64 0],.bool false]) (by simp[results,Tryz.results100,go_sem, *]) rfl ⟨rfl,?_⟩;exact FV HB3.out (by omega) (by omega) _ _ _ _ _ _ _ _ _ _
   ·exact absurd rfl hk
section
variable {o:Int} {n:Nat} {L:Nat→List T}
theorem Em {a b:M} (h:M.dvd a b=true):M.le a b:=(eX h).2.2
theorem Ai (hL:sT o n L) {i k:Nat} (hi:i<n) (hk:k<n) {s:List T} (hs:cZ o (lf (L i)) (L i).length (lf (L k)) (L k).length=(s,true)):eJ n L (Rp aK s):=by
 obtain⟨U,V,_,_,u1,v1,um,vm,e,k1,hb⟩:=zT hL hi hk hs;have n1:U.m.nn:=by rw[um];exact kC (zX _ _).1
 have n2:V.m.nn:=by rw[vm];exact kC (zX _ _).2
 rw[e];exact(eJ.one _ hi n1).sum (eJ.one _ hk n2)
end
end Go.Proofs.YtelkehjdfcoeiaaGreat
namespace Go.Proofs.YtelkehjdfcoeiaaGreat
open Go.RowKit Go.Deep Go.Joins
set_option linter.unusedVariables false
theorem OU {o:Int} {n:Nat} {L:Nat→List T} {l:List (List T)} (hB:WT o n L) (h:aT o n L=some l) {p:List T} {S:Dv} (hS:aY o p l.length (lN (bY l)) (fN (bY l))=some S) (hi:eJ n L (Rp aK p)):S.r=[]:=by
 obtain⟨ho,hl,hr⟩:=dP h;refine hB.free (nE ho hl) (cU hS).1.r.1 ?_ (fun t ht j hj=>?_)
 ·rw[zF hS];exact hi.sum (eJ.sc _ ((iM h).lof (CD hS)))
 ·obtain⟨k,hk,hd⟩:=gL h hj;cases hc:M.dvd (aU o (L j)).m t.m
  ·rfl
  ·have h1:=CE hS t ht k hk;have h2:=xF hd hc
   rw[h2]at h1;cases h1
theorem VB {o:Int} {n:Nat} {L:Nat→List T} {l:List (List T)} (hB:WT o n L) (h:aT o n L=some l):WT o l.length (bY l):=fun A hA hne=>by
 obtain⟨ho,hl,hr⟩:=dP h;obtain⟨m,j,h1,h2,h3,h4⟩:=hB A ((iM h).lof hA) hne;obtain⟨k,hk,hd⟩:=gL h h2;obtain⟨a1,a2,a3,a4⟩:=Em hd;obtain⟨b1,b2,b3,b4⟩:=h3;exact⟨m,k,h1,hk,⟨Int.le_trans a1 b1,Int.le_trans a2 b2,Int.le_trans a3 b3,Int.le_trans a4 b4⟩,h4⟩
theorem Ct (w:World) (o:Int) (a b:Option Addr) (n ca m cb:Nat) (f g:Nat→T) (ha:Rd w a n ca f) (hb:Rd w b m cb g):Calls Tryz.prog 57 #[.int .i64 o,.slice a n ca,.slice b m cb] w fun r w'=>∃a' cap',r= .returned (.tuple #[.slice a' (cZ o f n g m).1.length cap',.bool (cZ o f n g m).2])∧Below w.heap.size w w'∧jG w.heap.size w' a' cap' (cZ o f n g m).1:=by
 have HA:=aA ha;have HB:=aA hb
 have hla:(n:Int)≤140737488351232:=by have:=ha.2.1;omega
 have hlb:(m:Int)≤140737488351232:=by have:=hb.2.1;omega
 have hcall:=WL w o a n ca f b m cb g ha hb;clear ha hb;unfold cZ;obtain⟨U,hU⟩:∃U,eZ o n f m g=U:=⟨_,rfl⟩
 obtain⟨V,hV⟩:∃V,fC o n f m g=V:=⟨_,rfl⟩
 obtain⟨ok,hok⟩:∃ok,fM o n f m g=ok:=⟨_,rfl⟩
 rw[hU,hV,hok]at hcall⊢;clear hU hV hok;cases ok
 ·rw[if_neg (by simp)];go_enter Tryz.func57,Tryz.ntmps57;go_wp2_with fail;refine hcall.mono ?_;rintro r w1 ⟨rfl,hb1⟩;have HB1:=aA hb1
  clear hb1 hcall;have HB2:=aA (HB1.out.alloc HB1.out.size (.cells #[.int .i64 U.c,.int .i64 U.m.x,.int .i64 U.m.y,.int .i64 U.m.d,.int .i64 U.m.e] 86))
  have HB3:=aA (HB2.out.alloc HB2.out.size (.cells #[.int .i64 V.c,.int .i64 V.m.x,.int .i64 V.m.y,.int .i64 V.m.d,.int .i64 V.m.e] 86));go_wp2;refine cD (results_tmp2 rfl _ _ _) rfl ?_;exact⟨none,0,rfl,HB3.out,⟨Nat.le_refl _,by simp,.inl rfl⟩,.inl rfl,.inl rfl⟩
 ·rw[if_pos rfl];have hd:=fun(W:World) (h:Rd W a n ca f) (h':Rd W b m cb g)=>Ib W U V a b n ca m cb f g h h'
  generalize mY U V f n g m=D at hd⊢;go_enter Tryz.func57,Tryz.ntmps57;go_wp2_with fail;refine hcall.mono ?_;rintro r w1 ⟨rfl,hb1⟩;have HB1:=aA hb1
  clear hb1 hcall;have HB2:=aA (HB1.out.alloc HB1.out.size (.cells #[.int .i64 U.c,.int .i64 U.m.x,.int .i64 U.m.y,.int .i64 U.m.d,.int .i64 U.m.e] 86))
  have HB3:=aA (HB2.out.alloc HB2.out.size (.cells #[.int .i64 V.c,.int .i64 V.m.x,.int .i64 V.m.y,.int .i64 V.m.d,.int .i64 V.m.e] 86));go_wp2_with fail;refine(hd _ (HA.out.below HB3.out) (HB.out.below HB3.out)).mono ?_;rintro r w2 ⟨a2,c2,rfl,hb2,ho2⟩;have HB4:=aA (aB HB3.out hb2)
  have HO4:=aA (RZ ho2 HB3.out.size);clear hb2 ho2;go_wp2;refine cD (results_tmp2 rfl _ _ _) rfl ?_;exact⟨a2,c2,rfl,HB4.out,HO4.out⟩
abbrev Nn (p1 o1 p2 o2:Nat) (v1 v2:Value) (u:World):Prop:=u.cell? ⟨p1,o1,none⟩=some v1∧u.cell? ⟨p2,o2,none⟩=some v2
theorem Nn.below {p1 o1 p2 o2:Nat} {v1 v2:Value} {u u':World} (h:Nn p1 o1 p2 o2 v1 v2 u) (hb:Below u.heap.size u u'):Nn p1 o1 p2 o2 v1 v2 u':=
 ⟨(hb.cell (p:=⟨p1,o1,none⟩) (dD u _ h.1)).trans h.1,(hb.cell (p:=⟨p2,o2,none⟩) (dD u _ h.2)).trans h.2⟩
open Go.RowKit Go.Deep Go.Joins Go.Maps
def Dp (R:Option Dv):Bool:=R.isSome&&decide ((wE R).length=0)
theorem Jc (w:World) (o:Int) (pa:Option Addr) (pc:Nat) (p:List T) (a:Option Addr) (n cap:Nat) (ad:Nat→Option Addr) (ln cp:Nat→Nat) (f:Nat→Nat→T) (hp:RL w pa pc p) (h:eQ w a n cap ad ln cp f) {R:Option Dv} (hR:aY o p n ln f=R):Calls Tryz.prog 22 #[.int .i64 o,.slice a n cap,.slice pa p.length pc] w fun r w'=>r= .returned (.tuple #[.bool (Dp R),.bool R.isSome])∧Below w.heap.size w w':=by
 have HC:=aA (wD w o pa pc p a n cap ad ln cp f hp h hR);have hbd:=(Bz (o:=o) (p:=p) (n:=n) (ln:=ln) (f:=f)).2.2
 rw[hR]at hbd;clear hp h hR;cases R with
 |none=>
  go_enter Tryz.func22,Tryz.ntmps22;go_wp2_with fail;refine HC.out.mono ?_;rintro r w1 ⟨qa,qc,ad',cp',Rb,B,la,lc,mid,rfl,hb,_⟩;have HB:=aA hb
  simp only[Option.isSome];clear hb HC;go_wp2;refine cD (results_tmp2 rfl _ _ _) rfl ?_;exact⟨rfl,HB.out⟩
 |some S=>
  have hl:(S.r.length:Int)≤300:=by have:S.r.length≤300:=hbd;omega
  by_cases h0:S.r.length=0
  ·have hi:((S.r.length:Int)==0)=true:=by simpa using h0
   have HG:Hid (Dp (some S)=true):=by show Dp (some S)=true;simp[Dp,wE,h0]
   clear h0;go_enter Tryz.func22,Tryz.ntmps22;go_wp2_with fail;refine HC.out.mono ?_;rintro r w1 ⟨qa,qc,ad',cp',Rb,B,la,lc,mid,rfl,hb,_⟩;have HB:=aA hb
   simp only[Option.isSome,wE];clear hb HC;go_wp2;refine cD (results_tmp2 rfl _ _ _) rfl ?_;rw[HG.out];exact⟨rfl,HB.out⟩
  ·have hi:((S.r.length:Int)==0)=false:=by simpa using h0
   have HG:Hid (Dp (some S)=false):=by show Dp (some S)=false;simp[Dp,wE,h0]
   clear h0;go_enter Tryz.func22,Tryz.ntmps22;go_wp2_with fail;refine HC.out.mono ?_;rintro r w1 ⟨qa,qc,ad',cp',Rb,B,la,lc,mid,rfl,hb,_⟩;have HB:=aA hb
   simp only[Option.isSome,wE];clear hb HC;go_wp2;refine cD (results_tmp2 rfl _ _ _) rfl ?_;rw[HG.out];exact⟨rfl,HB.out⟩
theorem Ey {S:Dv} (h:S.r=[]):Dp (some S)=true:=by show(true&&decide (S.r.length=0))=true;rw[h];rfl
def Nz (w:World) (n:Nat) (R:Option Dv) (e:Ending) (w':World):Prop:=∃qa qc ad cp la lc,e= .returned (.tuple #[.slice qa (MH n R) qc,.slice la (wE R).length lc,.bool R.isSome])∧Below w.heap.size w w'∧eQ w' qa (MH n R) qc ad (lN (WH R)) cp (fN (WH R))∧RL w' la lc (wE R)
theorem Bp {w:World} {o:Int} {pa:Option Addr} {pc:Nat} {p:List T} {a:Option Addr} {n cap:Nat} {ad:Nat→Option Addr} {cp:Nat→Nat} {L:Nat→List T} (hp:RL w pa pc p) (h:eQ w a n cap ad (lN L) cp (fN L)) {R:Option Dv} (hR:aY o p n (lN L) (fN L)=R):Calls Tryz.prog 56 #[.int .i64 o,.slice pa p.length pc,.slice a n cap] w (Nz w n R):=
 (wD w o pa pc p a n cap ad (lN L) cp (fN L) hp h hR).mono fun e w' ⟨qa,qc,ad,cp,Rb,B,la,lc,mid,he,hb,h1,h2,_⟩=>⟨qa,qc,ad,cp,la,lc,he,hb,h1.rd,h2.1⟩
theorem MF {w:World} {o:Int} {pa:Option Addr} {pc:Nat} {p:List T} {a:Option Addr} {n cap:Nat} {ad:Nat→Option Addr} {cp:Nat→Nat} {L:Nat→List T} (hp:RL w pa pc p) (h:eQ w a n cap ad (lN L) cp (fN L)) {S:Dv} (hR:aY o p n (lN L) (fN L)=some S):Calls Tryz.prog 56 #[.int .i64 o,.slice pa p.length pc,.slice a n cap] w fun e w'=>∃qa qc ad cp la lc,e= .returned (.tuple #[.slice qa n qc,.slice la S.r.length lc,.bool true])∧Below w.heap.size w w'∧eQ w' qa n qc ad (lN S.q) cp (fN S.q)∧RL w' la lc S.r:=Bp hp h hR
theorem Gw {w:World} {o:Int} {pa:Option Addr} {pc:Nat} {p:List T} {a:Option Addr} {n cap:Nat} {ad:Nat→Option Addr} {cp:Nat→Nat} {L:Nat→List T} (hp:RL w pa pc p) (h:eQ w a n cap ad (lN L) cp (fN L)) (hR:aY o p n (lN L) (fN L)=none):Calls Tryz.prog 56 #[.int .i64 o,.slice pa p.length pc,.slice a n cap] w fun e w'=>∃qa qc ad cp la lc,e= .returned (.tuple #[.slice qa 0 qc,.slice la 0 lc,.bool false])∧Below w.heap.size w w'∧eQ w' qa 0 qc ad (lN (fun _=>[])) cp (fN (fun _=>[]))∧RL w' la lc []:=Bp hp h hR
theorem YN {o:Int} {n:Nat} {L:Nat→List T} {l:List (List T)} (h:bQ o n L=some l) {i:Nat} (hi:i<n) {S:Dv} (hS:aY o (L i) l.length (lN (bY l)) (fN (bY l))=some S):Dp (some S)=true:=by obtain⟨_,_,_,m,BL,b1,b2,b3,b4⟩:=iU h;exact Ey (OU b1.bas b4 hS (b3 i hi))
theorem UV {o:Int} {n:Nat} {L:Nat→List T} {l:List (List T)} (h:bQ o n L=some l):WT o l.length (bY l):=by obtain⟨_,_,_,m,BL,b1,b2,b3,b4⟩:=iU h;exact VB b1.bas b4
theorem KQ {o:Int} {n:Nat} {L:Nat→List T} {l:List (List T)} (h:bQ o n L=some l):XD o l:=by obtain⟨_,_,_,m,BL,_,_,_,b4⟩:=iU h;exact gM b4
theorem YP {o:Int} {n:Nat} {L:Nat→List T} {l:List (List T)} (hl:wU (bQ o n L)=l) (hs:(bQ o n L).isSome=false):l=[]:=by
 cases h:bQ o n L with
 |none=>rw[h]at hl;exact hl.symm
 |some x=>rw[h]at hs;cases hs
theorem YQ {L:Nat→List T} {x:Lq} (h:eJ 0 L x):x=Lq.nil:=by
 induction h with
 |nil=>rfl
 |cons c m j hj _ _ _=>exact absurd hj (tD _)
theorem UW {o:Int} {n:Nat} {L:Nat→List T} {l:List (List T)} (h:bQ o n L=some l):1≤l.length:=by
 obtain⟨_,hl,hn,m,BL,_,_,hg,h4⟩:=iU h;have hm:0<m:=by
  rcases Nat.eq_zero_or_pos m with q|q
  ·subst q;have hi:=hg 0 (by omega)
   have hz:Rp aK (L 0)=Lq.nil:=YQ hi;have h0:=(aQ hl).2 0 (by omega)
   have:=FX (aD h0.2).2 hz;exact absurd (by show(L 0).length=0;rw[this];rfl) h0.1
  ·exact q
 obtain⟨k,hk,_⟩:=gL h4 hm;omega
theorem Hf {w:World} (o:Int) {a b:Option Addr} {ca cb:Nat} {A B:List T} (ha:RL w a ca A) (hb:RL w b cb B):Calls Tryz.prog 57 #[.int .i64 o,.slice a A.length ca,.slice b B.length cb] w (JI w (cZ o (lf A) A.length (lf B) B.length)):=
 (Ct w o a b A.length ca B.length cb (lf A) (lf B) ha hb).mono fun _ _ h=>TC h
abbrev Ot (p1 o1 p2 o2:Nat) (v1 v2:Value) (u:World):Prop:=u.cell? ⟨p1,o1,none⟩=some v1∧u.cell? ⟨p2,o2,none⟩=some v2
theorem YK (w:World) (o:Int) (a:Option Addr) (n c:Nat) (ad0:Nat→Option Addr) (cp0:Nat→Nat) (L:Nat→List T) (h:eQ w a n c ad0 (lN L) cp0 (fN L)) (hn:1≤n∧n≤12) (ho:1≤o∧o≤3) (hl:bB n (lN L) (fN L)=true) (hB:WT o n L):Calls Tryz.prog 23 #[.int .i64 o,.slice a n c] w (NX w (.bool true)):=by
 obtain⟨lb,off,rfl,hlb,hcl⟩:=h.2.2.1.resolve_left (by omega);have HG:=aA h
 have HCL:=aA hcl;have HL:=aA hl
 have HBS:=aA hB;have HO:=aA ho
 obtain⟨n1,n2⟩:=hn;have n12:(n:Int)≤12:=by omega
 clear h hcl hl hB ho;unfold NX;go_enter Tryz.func23,Tryz.ntmps23;go_wp2;go_loopw [5] (fun vk wr=>∃k:Nat,1≤k∧k≤n∧vk= .int .i64 (k:Int)∧Below w.heap.size w wr) (fun vk _=>n-(intOf vk).toNat);case atStart=>exact⟨1,Nat.le_refl _,by omega,rfl,bG _ _⟩
 case round=>
  obtain⟨k,hk1,hk2,rfl,hBel⟩:=hrel;have HBk:=aA hBel
  by_cases hlt:k<n
  ·have hkl:(k:Int)<(n:Int):=by omega
   clear hBel;go_wp2;go_loopw [6] (fun vi wi=>∃i:Nat,i≤k∧vi= .int .i64 (i:Int)∧Below w.heap.size w wi) (fun vi _=>k-(intOf vi).toNat);case atStart=>exact⟨0,Nat.zero_le _,rfl,HBk.out⟩
   case round=>
    obtain⟨i,hi,rfl,hBi⟩:=hrel;have HBi:=aA hBi
    by_cases hik:i<k
    ·have hil:(i:Int)<(k:Int):=by omega
     have hin:(i:Int)<(n:Int):=by omega
     have hbd:lb<wr.heap.size:=lB hlb hBi.size;obtain⟨A,hA⟩:∃A,L i=A:=⟨_,rfl⟩
     obtain⟨Bk,hBk⟩:∃A,L k=A:=⟨_,rfl⟩
     have hBd:=aB hBi ((bG _ wr).drew);have hS:Ot lb (off+i) lb (off+k) (.slice (ad0 i) A.length (cp0 i)) (.slice (ad0 k) Bk.length (cp0 k)) wr.drew:=⟨(hBd.cell (p:=⟨lb,off+i,none⟩) hlb).trans (by rw[←hA];exact HCL.out i (by omega)),(hBd.cell (p:=⟨lb,off+k,none⟩) hlb).trans (by rw[←hBk];exact HCL.out k hlt)⟩
     have RA:Hid (RL wr.drew (ad0 i) (cp0 i) A):=by rw[←hA];exact(HG.out.2.2.2 i (by omega)).below hBd
     have RB:Hid (RL wr.drew (ad0 k) (cp0 k) Bk):=by rw[←hBk];exact(HG.out.2.2.2 k hlt).below hBd
     obtain⟨s,sb,hsp⟩:∃s sb,cZ o (lf A) A.length (lf Bk) Bk.length=(s,sb):=⟨_,_,rfl⟩
     have hc:=Hf (w:=wr.drew) o RA.out RB.out;rw[hsp]at hc;have HC:=aA hc
     have hsp':cZ o (lf (L i)) (L i).length (lf (L k)) (L k).length=(s,sb):=by rw[hA,hBk];exact hsp
     have HSP:=aA hsp';have HBd:=aA hBd
     have HS:=aA hS;clear hS hc hsp hsp' hA hBk hBi hBd;go_wp2_with fail;have hS:=HS.out
     go_region_held3 (fun u=>u.cell? ⟨lb,off+i,none⟩=some (.slice (ad0 i) A.length (cp0 i))∧u.cell? ⟨lb,off+k,none⟩=some (.slice (ad0 k) Bk.length (cp0 k))) (first|with_reducible exact hS|with_reducible exact Nn.below hS b5) (first|(go_at_call 57;refine HC.out.mono ?_;rintro e w5 ⟨za,zc,rfl,b5,hz⟩))
     have HZ5:Hid (RL w5 za zc s):=hz;have HB5:=aA (aB HBd.out b5)
     have HG5:=aA (HG.out.below HB5.out);clear hS b5 hz HC RA RB HS;obtain⟨R,hR⟩:∃R,aY o s n (lN L) (fN L)=R:=⟨_,rfl⟩
     have HR:=aA hR;clear hR;rcases R with _|S
     ·go_wp2_with fail;refine(Gw HZ5.out HG5.out HR.out).mono ?_;rintro e w6 ⟨qa6,qc6,ad6,cp6,la6,lc6,rfl,hb6,_,_⟩;have HB6:=aA (aB HB5.out hb6)
      clear hb6;cases sb
      ·go_wp2;go_roundw;case rel=>exact⟨i+1,by omega,by go_num,HB6.out⟩
       case measure=>simp[intOf];omega
      ·go_wp2;go_roundw;case rel=>exact⟨i+1,by omega,by go_num,HB6.out⟩
       case measure=>simp[intOf];omega
     ·cases sb
      ·have hs300:(S.r.length:Int)≤300:=by have:=(cU HR.out).1.r.2;omega
       go_wp2_with fail;refine(MF HZ5.out HG5.out HR.out).mono ?_;rintro e w6 ⟨qa6,qc6,ad6,cp6,la6,lc6,rfl,hb6,_,_⟩;have HB6:=aA (aB HB5.out hb6)
       clear hb6;go_wp2;go_roundw;case rel=>exact⟨i+1,by omega,by go_num,HB6.out⟩
       case measure=>simp[intOf];omega
      ·have hr0:S.r.length=0:=by rw[HBS.out.left HR.out (Ai (nE HO.out HL.out) (by omega) hlt HSP.out)];rfl
       have hs0:((S.r.length:Nat):Int)=0:=by omega
       go_wp2_with fail;refine(MF HZ5.out HG5.out HR.out).mono ?_;rintro e w6 ⟨qa6,qc6,ad6,cp6,la6,lc6,rfl,hb6,_,_⟩;have HB6:=aA (aB HB5.out hb6)
       rw[hr0];clear hb6;go_wp2;go_roundw;case rel=>exact⟨i+1,by omega,by go_num,HB6.out⟩
       case measure=>simp[intOf];omega
    ·have hie:i=k:=by omega
     subst hie;have hnl:¬(i:Int)<(i:Int):=by omega
     go_wp2;go_roundw;case rel=>exact⟨i+1,by omega,by omega,by go_num,HBi.out⟩
     case measure=>simp[intOf];omega
  ·have hkn:k=n:=by omega
   subst hkn;have hkl:¬(k:Int)<(k:Int):=by omega
   clear hBel;go_wp2_with fail;refine(OW _ _ _ _ _ _ _ _ (HG.out.below HBk.out)).mono ?_;rw[HL.out];rintro e w9 ⟨rfl,hb9⟩;have HB9:=aA (aB HBk.out hb9)
   clear hb9;go_wp2;go_ret;exact⟨rfl,HB9.out⟩
set_option linter.unusedSimpArgs false
def Dq (len i:Nat):Int:=1+(((len+i)%100:Nat):Int)
theorem Jo (len i:Nat):1≤Dq len i∧Dq len i≤100:=by unfold Dq;omega
def DP (len n:Nat) (L:Nat→List T) (es:List E):Prop:=∀t,t<es.length→(es.getD t E0).p=iS (Dq len (n-1-t)) (L (n-1-t))
theorem DP.snoc {len n:Nat} {L:Nat→List T} {es:List E} (h:DP len n L es) {e:E} (he:e.p=iS (Dq len (n-1-es.length)) (L (n-1-es.length))):DP len n L (es++[e]):=fun t ht=>by
 by_cases q:t<es.length
 ·rw[List.getD_eq_getElem?_getD,List.getElem?_append_left q,←List.getD_eq_getElem?_getD];exact h t q
 ·have:t=es.length:=by rw[List.length_append]at ht;simp at ht;omega
  subst this;rw[List.getD_eq_getElem?_getD,List.getElem?_append_right (Nat.le_refl _),Nat.sub_self];exact he
theorem XQ {o:Int} {n len:Nat} {L:Nat→List T} {es:List E} {l l':List (List T)} (h:bQ o n L=some l) (hl:es.length=n) (hb:DP len n L es) (h':bQ o n (bY (es.map E.p))=some l'):l=l':=by
 have hL':∀t,t<n→bY (es.map E.p) t=iS (Dq len (n-1-t)) (L (n-1-t)):=fun t ht=>by rw[oE];exact hb t (by omega)
 refine EJ h h' (fun j hj=>?_) (fun j hj=>?_)
 ·have hk:=Jo len j;obtain⟨u,hu⟩:=BD (zz (Dq len j)) (sA hk.1 hk.2);have e:Rp aK (bY (es.map E.p) (n-1-j))=Lq.sc (zz (Dq len j)) (Rp aK (L j)):=by rw[hL' _ (by omega),show n-1-(n-1-j)=j by omega,yC]
  have e2:Rp aK (L j)=Lq.sc u (Rp aK (bY (es.map E.p) (n-1-j))):=by rw[e,Lq.sc_sc,hu,Lq.sc_one]
  rw[e2];exact eJ.sc _ (nW (by omega))
 ·rw[hL' j hj,yC];exact eJ.sc _ (nW (by omega))
theorem Ng {w:World} {a:Option Addr} {c:Nat} {k:Int} {p:List T} (k1:1≤k) (k2:k≤100) (hp:cF p=true) (h:RL w a c p):Calls Tryz.prog 21 #[.int .i64 k,.slice a p.length c] w fun e w'=>∃za zc,e= .returned (.slice za p.length zc)∧Below w.heap.size w w'∧jG w.heap.size w' za zc (iS k p):=by refine(EY w k a p.length c (lf p) h).mono ?_;rintro r w' ⟨v,rfl,hb,hown⟩;rw[show fG k (lf p) p.length=iS k p from Ck k1 k2 hp]at hown;obtain⟨a',c',rfl,hO⟩:=aI hown (by rw[eG];have:=(aD hp).1;omega);exact⟨a',c',by rw[eG],hb,hO⟩
theorem IY (w:World) (a0:Option Addr) (len0 cap0:Nat) (s0:QC w a0 len0 cap0):Calls Tryz.prog 4 #[.slice a0 len0 cap0] w fun e w'=>e= .returned (.bool true)∧Below w.heap.size w w':=by
 by_cases c0:(1048576:Int)<(len0:Int)
 ·go_enter Tryz.func4,Tryz.ntmps4;go_wp2;go_ret;exact⟨rfl,bG _ _⟩
 go_enter Tryz.func4,Tryz.ntmps4;go_wp2_with fail;refine(DY _ _ _ _ s0).mono ?_;rintro e w2 ⟨o,a,n,c,ad,cp,L,rfl,hr,hn,b1⟩;have B2:=aA b1
 have KA:=aA hr.keep;have hnI:(n:Int)≤5:=by omega
 clear s0 hr b1;obtain⟨x,hx⟩:∃x,wU (bQ o n L)=x:=⟨_,rfl⟩
 obtain⟨so,hs⟩:∃x,(bQ o n L).isSome=x:=⟨_,rfl⟩
 have HX:=aA hx;have HS:=aA hs
 clear hx hs;go_wp2_with fail;refine(xG (KA.out w2 (bG _ _)) HX.out HS.out).mono ?_;rintro e w3 ⟨xa,xc,xad,xcp,rfl,hb,hx⟩;have B3:=aA (aB B2.out hb)
 have KA3:=aA (KA.out.next hb);have KX:=aA hx.keep
 clear hb hx KA B2;go_wp2_with fail;refine(YM (KA3.out w3 (bG _ _)) HX.out HS.out).mono ?_;rintro e w4 ⟨ya,yc,yad,ycp,rfl,hb,hy⟩;have B4:=aA (aB B3.out hb)
 have KA4:=aA (KA3.out.next hb);have KX4:=aA (KX.out.next hb)
 have HY4:=aA hy;clear hb hy KA3 KX B3;go_wp2_with fail;refine(vK w4 xa ya x.length xc x.length yc _ _ _ _ (bY x) (bY x) (KX4.out w4 (bG _ _)) HY4.out).mono ?_;rw[rR];rintro e w5 ⟨rfl,hb⟩;have B5:=aA (aB B4.out hb)
 have KA5:=aA (KA4.out.next hb);have KX5:=aA (KX4.out.next hb)
 have hsb:(so !=so)=false:=by simp
 clear hb HY4 KA4 KX4 B4;cases so
 ·have hx0:x=[]:=YP HX.out HS.out;have hxl:x.length=0:=by rw[hx0];rfl
  rw[hxl];clear hx0 hxl;go_wp2_with fail;refine(nC _).mono ?_;rintro e w6 ⟨rfl,hb⟩;have B6:=aA (aB B5.out hb)
  clear hb;go_wp2;go_ret;exact⟨rfl,B6.out⟩
 have hsome:=vM HX.out HS.out;have HSOME:=aA hsome
 obtain⟨_,hlst,hn13,_⟩:=iU hsome;have HLO:=aA (aQ hlst).2
 have HLE:=aA (KQ hsome);have hpos:=UW hsome
 obtain⟨N,hN⟩:∃N,x.length=N:=⟨_,rfl⟩
 have HN:=aA hN;have hN12:N≤12:=by rw[←hN];exact HLE.out.le
 have hN1:1≤N:=by rw[←hN];exact hpos
 have hNI:(N:Int)≤12:=by omega
 rw[hN]at KX5⊢;clear hsome hlst hpos hN HX HS;have HST:=aA (cT.start (w:=w5) (Nat.le_refl w5.heap.size))
 have HBW:=aA (aC w5 (.cells #[] 41));have hwn:IntKind.i64.wrap ((n:Int)-1)=(n:Int)-1:=by rw[IntKind.wrap_i64];omega
 go_wp2;go_loopw [9,10] (fun tv ii wr=>∃(j:Nat) (es:List E),j+es.length=n∧ii= .int .i64 ((j:Int)-1)∧Below w5.heap.size w5 wr∧cT w5.heap.size wr tv es∧Hid (DP len0 n L es)) (fun _ ii _=>(intOf ii+1).toNat);case atStart=>exact⟨n,[],rfl,rfl,HBW.out,HST.out,fun t ht=>absurd ht (tD _)⟩
 case round=>
  obtain⟨j,es,hj,rfl,hBr,hR,HBK⟩:=hrel;have HBR:=aA hBr
  have HR:=aA hR;by_cases hj0:0<j
  ·obtain⟨i,rfl⟩:∃i,j=i+1:=⟨j-1,by omega⟩
   have ei:((i+1:Nat):Int)-1=(i:Int):=by omega
   rw[ei];have hin:i<n:=by omega
   have hi0:(0:Int)≤(i:Int):=by omega
   have hinI:(i:Int)<(n:Int):=by omega
   have hiw:IntKind.i64.wrap ((i:Int)-1)=(i:Int)-1:=by rw[IntKind.wrap_i64];omega
   obtain⟨b,off,rfl,hxc⟩:=KA5.out.cell hin;obtain⟨il,hil⟩:∃k,(L i).length=k:=⟨_,rfl⟩
   have kc:wr.cell? ⟨b,off+i,none⟩=some (.slice (ad i) il (cp i)):=by rw[←hil];exact hxc wr hBr
   have hokL:cF (L i)=true:=(HLO.out i hin).2;obtain⟨kk,hkk⟩:∃k:Nat,(len0+i)%100=k:=⟨_,rfl⟩
   have hkk100:kk<100:=by omega
   have hw1:IntKind.i64.wrap ((len0:Int)+(i:Int))=(len0:Int)+(i:Int):=by rw[IntKind.wrap_i64];omega
   have hq:((len0:Int)+(i:Int)).tmod 100=(kk:Int):=by rw[←hkk,←Int.natCast_add];exact(Int.ofNat_tmod (len0+i) 100).symm
   have hw2:IntKind.i64.wrap (1+(kk:Int))=1+(kk:Int):=by rw[IntKind.wrap_i64];omega
   have hkf:Dq len0 i=1+(kk:Int):=by unfold Dq;rw[hkk]
   have HKF:=aA hkf;have hcl:=Ng (w:=wr) (a:=ad i) (c:=cp i) (k:=1+(kk:Int)) (p:=L i) (by omega) (by omega) hokL ((KA5.out wr hBr).2.2.2 i hin)
   rw[hil]at hcl;have HCL:=aA hcl
   have HIL:=aA hil;clear hBr hR hxc hil hokL hkk hkf hcl;go_wp2_with fail;refine HCL.out.mono ?_;rintro e w6 ⟨ya,yc,rfl,hb,hY⟩;have bx:=aC w6 (.cells #[.slice ya il yc] 41)
   have B6:=aA (aB (aB HBR.out hb) bx);have R6:=aA ((HR.out.below hb).below bx)
   have hlo6:w5.heap.size≤(w6.alloc (.cells #[.slice ya il yc] 41)).heap.size:=B6.out.size;have hsl:(iS (1+(kk:Int)) (L i)).length=il:=by rw[eG];exact HIL.out
   have P2:Hid (mA (w6.alloc (.cells #[.slice ya il yc] 41)) (some ⟨w6.heap.size,0,none⟩) 1 [(⟨ya,yc,iS (1+(kk:Int)) (L i)⟩:E)]):=by have:=mA.box (W:=w6) (e:=(⟨ya,yc,iS (1+(kk:Int)) (L i)⟩:E)) hY.1;rw[show(⟨ya,yc,iS (1+(kk:Int)) (L i)⟩:E).v= .slice ya il yc by show Value.slice ya (iS (1+(kk:Int)) (L i)).length yc=_;rw[hsl]]at this;exact this
   have P3:Hid (∀e∈[(⟨ya,yc,iS (1+(kk:Int)) (L i)⟩:E)],lW (w6.alloc (.cells #[.slice ya il yc] 41)) u9.ownBlock e):=fun e he=>by
    rw[List.mem_singleton.1 he];refine⟨Rd.below hY.1 bx,hY.2.2.imp id (fun⟨g,off,e1,hg⟩ b' off' e2 hk=>?_)⟩;have e2':ya=some ⟨b',off',none⟩:=e2
    rw[e1]at e2';cases e2';have:=(HR.out.row.lt _ hk).2
    omega
   have hes:es.length+1≤100:=by omega
   have HBK2:Hid (DP len0 n L (es++[(⟨ya,yc,iS (1+(kk:Int)) (L i)⟩:E)])):=HBK.out.snoc (by
    rw[show n-1-es.length=i by omega,HKF.out])
   clear hb hY bx kc hsl HCL;go_wp2_with (at_builtin;refine dR (by rfl) (.tmp 61) (.tmp 73) (by rfl) R6.out (by rfl) rfl (by rfl) P2.out P3.out hlo6 hes ?_;intro tv7 w7 r1 r2 r3;have R7:=aA r1;have B7:=aA (r2 _ _ B6.out (Nat.le_refl _));clear r1 r2 r3);go_roundw;case rel=>exact⟨i,es++[(⟨ya,yc,iS (1+(kk:Int)) (L i)⟩:E)],by rw[List.length_append];simp;omega,by first|rfl|go_num,B7.out,R7.out,HBK2.out⟩
   case measure=>simp[intOf]<;>omega
  ·have hj0':j=0:=by omega
   subst hj0';have hneg:¬((0:Int)≤((0:Nat):Int)-1):=by omega
   have hneg2:((0:Nat):Int)-1<0:=by omega
   have hesn:es.length=n:=by omega
   obtain⟨ga,gc,htv,hrd⟩:=hR.rd (by omega);rw[hesn]at htv;subst htv;have hgk:=hrd.rds
   rw[hesn]at hgk;have KG:=aA (eQ.keep hgk)
   obtain⟨wo,hwo⟩:∃x,x=wr:=⟨_,rfl⟩
   subst hwo;have KA6:=aA (KA5.out.next hBr)
   have KX6:=aA (KX5.out.next hBr);have B6:=aA (aB B5.out hBr)
   have HESN:=aA hesn;clear hBr hR hrd hgk hesn HBR HR;have HG1:Hid (∀(W:World) (j:Nat),j<n→Below wo.heap.size wo W→∃g f,(f=true→g=true)∧Calls Tryz.prog 22 #[.int .i64 o,.slice xa N xc,.slice (ad j) (L j).length (cp j)] W fun r w'=>r= .returned (.tuple #[.bool g,.bool f])∧Below W.heap.size W w'):=fun W j hj hW=>by
    obtain⟨S,hS⟩:∃S,aY o (L j) N (lN (bY x)) (fN (bY x))=S:=⟨_,rfl⟩
    refine⟨Dp S,S.isSome,fun hf=>?_,Jc W o (ad j) (cp j) (L j) xa N xc _ _ _ _ ((KA6.out W hW).2.2.2 j hj) (KX6.out W hW) hS⟩;cases S with
    |none=>cases hf
    |some D=>exact YN HSOME.out hj (by rw[HN.out];exact hS)
   go_wp2;go_loopw [11] (fun v wr=>∃i:Nat,i≤n∧v= .int .i64 (i:Int)∧Below wo.heap.size wo wr) (fun v _=>n-(intOf v).toNat);case atStart=>exact⟨0,Nat.zero_le _,rfl,bG _ _⟩
   case round=>
    obtain⟨i,hi,rfl,hBr⟩:=hrel;have HB8:=aA hBr
    clear hBr;by_cases hit:i<n
    ·have hiI:(i:Int)<(n:Int):=by omega
     obtain⟨b,off,rfl,hxc⟩:=KA6.out.cell hit;obtain⟨pl,hpl⟩:∃pl,(L i).length=pl:=⟨_,rfl⟩
     have kx:wr.cell? ⟨b,off+i,none⟩=some (.slice (ad i) pl (cp i)):=by rw[←hpl];exact hxc wr HB8.out
     obtain⟨g,f,hgf,hcl⟩:=HG1.out wr i hit HB8.out;rw[hpl]at hcl;have HCL:=aA hcl
     clear hxc hpl hcl;go_wp2_with fail;refine HCL.out.mono ?_;rintro e w9 ⟨rfl,hb9⟩;have HB9:=aA (aB HB8.out hb9)
     clear hb9 kx;cases f
     ·clear hgf;go_wp2;go_roundw;case rel=>exact⟨i+1,by omega,by go_num,HB9.out⟩
      case measure=>simp[intOf]<;>omega
     ·have hg:=hgf rfl;subst hg;go_wp2;go_roundw;case rel=>exact⟨i+1,by omega,by go_num,HB9.out⟩
      case measure=>simp[intOf]<;>omega
    ·have hiI:¬(i:Int)<(n:Int):=by omega
     obtain⟨w8,hw8⟩:∃x,x=wr:=⟨_,rfl⟩
     subst hw8;have KX8:=aA (KX6.out.next HB8.out)
     have B8:=aA (aB B6.out HB8.out);obtain⟨y,hy⟩:∃y,wU (bQ o n (bY (es.map E.p)))=y:=⟨_,rfl⟩
     obtain⟨sy,hsy⟩:∃y,(bQ o n (bY (es.map E.p))).isSome=y:=⟨_,rfl⟩
     have HC9:=aA (xG (KG.out w8 HB8.out) hy hsy);have HYY:=aA hy
     have HSY:=aA hsy;clear hy hsy hi hit;go_wp2_with fail;refine HC9.out.mono ?_;rintro e w9 ⟨za,zc,zad,zcp,rfl,hb,hz⟩;have B9:=aA (aB B8.out hb)
     have KX9:=aA (KX8.out.next hb);have HZ:=aA hz
     clear hb hz HC9 KX8 B8;have HBAS:Hid (∀W,Below w9.heap.size w9 W→Calls Tryz.prog 23 #[.int .i64 o,.slice xa N xc] W (NX W (.bool true))):=fun W hW=>by
      have hb:=UV HSOME.out;rw[HN.out]at hb;have hl:=RV HLE.out.ok HLE.out.le
      rw[HN.out]at hl;exact YK W o xa N xc _ _ (bY x) (KX9.out W hW) ⟨hN1,hN12⟩ HLE.out.ho hl hb
     cases sy
     ·go_wp2_with fail;refine(HBAS.out w9 (bG _ _)).mono ?_;rintro e w10 ⟨rfl,hb⟩;have B10:=aA (aB B9.out hb)
      clear hb;go_wp2_with fail;refine(nC _).mono ?_;rintro e w11 ⟨rfl,hb⟩;have B11:=aA (aB B10.out hb)
      clear hb;go_wp2;go_ret;exact⟨rfl,B11.out⟩
     ·have hxy:x=y:=XQ HSOME.out HESN.out HBK.out (vM HYY.out HSY.out);have HC10:Hid (Calls Tryz.prog 19 #[.slice za y.length zc,.slice xa N xc] w9 (NX w9 (.bool true))):=by have:=vK w9 za xa y.length zc x.length xc _ _ _ _ (bY y) (bY x) HZ.out (by rw[HN.out];exact KX9.out w9 (bG _ _));rw[hxy,rR,←hxy,HN.out]at this;rw[←hxy,HN.out];exact this
      go_wp2_with fail;refine HC10.out.mono ?_;rintro e w10 ⟨rfl,hb⟩;have B10:=aA (aB B9.out hb)
      have BA:=aA (HBAS.out w10 hb);clear hb;go_wp2_with fail;refine BA.out.mono ?_;rintro e w11 ⟨rfl,hb⟩;have B11:=aA (aB B10.out hb)
      clear hb;go_wp2_with fail;refine(nC _).mono ?_;rintro e w12 ⟨rfl,hb⟩;have B12:=aA (aB B11.out hb)
      clear hb;go_wp2;go_ret;exact⟨rfl,B12.out⟩
end Go.Proofs.YtelkehjdfcoeiaaGreat
