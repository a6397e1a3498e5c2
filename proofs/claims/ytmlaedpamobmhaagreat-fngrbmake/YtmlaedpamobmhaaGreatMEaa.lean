/-
  What the drawing functions return: the reader's pick is a number below its bound, and writes the reader's place alone; w
-/
import Derived.Test.YtmlaedpamobmhaaGreatMCaa
import Derived.Test.YtmlaedpamobmhaaGreatMbj
set_option maxHeartbeats 8000000
set_option maxRecDepth 100000
namespace Go.Proofs.YtmlaedpamobmhaaGreat
open Go.RowKit
set_option linter.unusedVariables false
def RB (w0 W:World) (p:Nat):Prop:=jL W w0.heap.size p∧Below w0.heap.size w0 W
theorem RB.alloc {w0 W:World} {p:Nat} (h:RB w0 W p) (o:Obj):RB w0 (W.alloc o) p:=⟨h.1.alloc o,h.2.alloc h.2.size o⟩
theorem RB.drewN {w0 W:World} {p:Nat} (h:RB w0 W p) (n:Nat):RB w0 (W.drewN n) p:=⟨h.1,below_drewN h.2 n⟩
theorem RB.drew {w0 W:World} {p:Nat} (h:RB w0 W p):RB w0 W.drew p:=h.drewN 1
theorem RB.lt {w0 W:World} {p:Nat} (h:RB w0 W p):w0.heap.size<W.heap.size:=h.1.lt
open Go.RowKit Go.Deep Go.Joins
theorem CM {B B':Nat} {a w:World} {O:Obj} (h:Below a.heap.size a w) (hB:a.heap.size≤B) (hB':a.heap.size≤B') (u0 u1 u2 u3 u4 u5 u6 u7 u8 u9:Value):Below a.heap.size a (((((((((((w.setCell ⟨B,0,none⟩ u0).setCell ⟨B,1,none⟩ u1).setCell ⟨B,2,none⟩ u2).setCell ⟨B,3,none⟩ u3).setCell ⟨B,4,none⟩ u4).setCell ⟨B',0,none⟩ u5).setCell ⟨B',1,none⟩ u6).setCell ⟨B',2,none⟩ u7).setCell ⟨B',3,none⟩ u8).setCell ⟨B',4,none⟩ u9).alloc O):=
 have k:=bY (bY h hB u0 u1 u2 u3 u4) hB' u5 u6 u7 u8 u9
 k.alloc k.size O
theorem QR (w:World) (o:Int) (a:Option Addr) (n ca:Nat) (f:Nat→T) (b:Option Addr) (m cb:Nat) (g:Nat→T) (ha:Rd w a n ca f) (hb:Rd w b m cb g):Calls Tryz.prog 59 #[.int .i64 o,.slice a n ca,.slice b m cb] w fun r w'=>r= .returned (.tuple #[.agg #[.int .i64 (eD o n f m g).c,.int .i64 (eD o n f m g).m.x,.int .i64 (eD o n f m g).m.y,.int .i64 (eD o n f m g).m.d,.int .i64 (eD o n f m g).m.e],.agg #[.int .i64 (eE o n f m g).c,.int .i64 (eE o n f m g).m.x,.int .i64 (eE o n f m g).m.y,.int .i64 (eE o n f m g).m.d,.int .i64 (eE o n f m g).m.e],.bool (eG o n f m g)])∧Below w.heap.size w w':=by
 have HA:=aA ha;have HB:=aA hb
 have hla:(n:Int)≤140737488351232:=by have:=ha.2.1;omega
 have hlb:(m:Int)≤140737488351232:=by have:=hb.2.1;omega
 have HB0:=aA (aQ w (.cells #[.int .i64 0,.int .i64 0,.int .i64 0,.int .i64 0,.int .i64 0] 54) (.cells #[.int .i64 0,.int .i64 0,.int .i64 0,.int .i64 0,.int .i64 0] 54));have c1:=fun(W:World) (h:Rd W a n ca f)=>tL W o a n ca f h
 have c2:=fun(W:World) (h:Rd W b m cb g)=>tL W o b m cb g h;clear ha hb;unfold eD eE kP eG;generalize bL o n f=s at *;generalize bL o m g=t at *;generalize bD o n f=k1 at *;generalize bD o m g=k2 at *;by_cases hk:(k1&&k2)=true
 ·rw[if_pos hk,if_pos hk,hk];rw[Bool.and_eq_true]at hk;obtain⟨rfl,rfl⟩:=hk;have hof:=fun W=>KO W s t
  generalize fV s (M.both s.m t.m)=U at *;generalize fV t (M.both s.m t.m)=V at *;go_enter Tryz.func59,Tryz.ntmps59;go_wp2_with fail;refine(c1 _ (HA.out.below HB0.out)).mono ?_;rintro r w1 ⟨rfl,hb1⟩;have HB1:=aA (aB HB0.out hb1)
  have hz1:w.heap.size+1<w1.heap.size:=by have:=hb1.size;simp at this;omega
  have oA:=((bR.box w 54 bF).below (aC (w.alloc (.cells #[.int .i64 0,.int .i64 0,.int .i64 0,.int .i64 0,.int .i64 0] 54)) (.cells #[.int .i64 0,.int .i64 0,.int .i64 0,.int .i64 0,.int .i64 0] 54))).below hb1;have oB:=(bR.box (w.alloc (.cells #[.int .i64 0,.int .i64 0,.int .i64 0,.int .i64 0,.int .i64 0] 54)) 54 bF).below hb1
  rw[World.size_alloc]at oB;have OA:=aA oA
  have OB:=aA oB;have HB2:=aA (HB1.out.alloc HB1.out.size (.cells #[.int .i64 s.c,.int .i64 s.m.x,.int .i64 s.m.y,.int .i64 s.m.d,.int .i64 s.m.e] 54))
  clear hb1 oA oB;go_wp2_with fail;refine(c2 _ (HB.out.below HB2.out)).mono ?_;rintro r w2 ⟨rfl,hb2⟩;have HB3:=aA (aB HB2.out hb2)
  have oA2:=(OA.out.below (aC w1 (.cells #[.int .i64 s.c,.int .i64 s.m.x,.int .i64 s.m.y,.int .i64 s.m.d,.int .i64 s.m.e] 54))).below hb2;have oB2:=(OB.out.below (aC w1 (.cells #[.int .i64 s.c,.int .i64 s.m.x,.int .i64 s.m.y,.int .i64 s.m.d,.int .i64 s.m.e] 54))).below hb2
  have cS:=(C5.box w1 54 s).below hb2;have hz2:w1.heap.size<w2.heap.size:=by have:=hb2.size;simp at this;omega
  have hz3:w.heap.size<w2.heap.size:=by omega
  have hz4:w.heap.size+1<w2.heap.size:=by omega
  have OA2:=aA oA2;have OB2:=aA oB2
  have CSS:=aA cS;clear hb2 oA2 oB2 cS c1 c2 OA OB;obtain⟨r0,r1,r2,r3,r4⟩:=CSS.out;go_wp2_with fail;clear r0 r1 r2 r3 r4;refine(hof _).mono ?_;rintro r w3 ⟨rfl,hb3⟩;have HB4:=aA (aB (HB3.out.alloc HB3.out.size _) hb3)
  obtain⟨⟨e0,e1,e2,e3,e4⟩,ez⟩:=(OA2.out.below (aC w2 _)).below hb3;obtain⟨⟨g0,g1,g2,g3,g4⟩,gz⟩:=(OB2.out.below (aC w2 _)).below hb3;have hz5:w.heap.size<w3.heap.size:=by have:=hb3.size;simp at this;omega
  have hz6:w.heap.size+1<w3.heap.size:=by have:=hb3.size;simp at this;omega
  clear hb3 hof OA2 OB2 CSS HB1 HB2 HB3 HB0 HA HB;go_wp2_with fail
  go_region_with (fail)
  all_goals
   go_wp2;refine cW (v:=.tuple #[.agg #[.int .i64 U.c,.int .i64 U.m.x,.int .i64 U.m.y,.int .i64 U.m.d,.int .i64 U.m.e],.agg #[.int .i64 V.c,.int .i64 V.m.x,.int .i64 V.m.y,.int .i64 V.m.d,.int .i64 V.m.e],.bool true]) (by simp[results,Tryz.results59,go_sem, *]) rfl ⟨rfl,?_⟩;exact(CM HB4.out (by omega) (by omega) _ _ _ _ _ _ _ _ _ _).drew
 ·have hk':(k1&&k2)=false:=by cases h:(k1&&k2);rfl;exact absurd h hk
  rw[if_neg hk,if_neg hk,hk'];go_enter Tryz.func59,Tryz.ntmps59;go_wp2_with fail;refine(c1 _ (HA.out.below HB0.out)).mono ?_;rintro r w1 ⟨rfl,hb1⟩;have HB1:=aA (aB HB0.out hb1)
  have hz1:w.heap.size+1<w1.heap.size:=by have:=hb1.size;simp at this;omega
  have oA:=((bR.box w 54 bF).below (aC (w.alloc (.cells #[.int .i64 0,.int .i64 0,.int .i64 0,.int .i64 0,.int .i64 0] 54)) (.cells #[.int .i64 0,.int .i64 0,.int .i64 0,.int .i64 0,.int .i64 0] 54))).below hb1;have oB:=(bR.box (w.alloc (.cells #[.int .i64 0,.int .i64 0,.int .i64 0,.int .i64 0,.int .i64 0] 54)) 54 bF).below hb1
  rw[World.size_alloc]at oB;have OA:=aA oA
  have OB:=aA oB;have HB2:=aA (HB1.out.alloc HB1.out.size (.cells #[.int .i64 s.c,.int .i64 s.m.x,.int .i64 s.m.y,.int .i64 s.m.d,.int .i64 s.m.e] 54))
  clear hb1 oA oB;go_wp2_with fail;refine(c2 _ (HB.out.below HB2.out)).mono ?_;rintro r w2 ⟨rfl,hb2⟩;have HB3:=aA (aB HB2.out hb2)
  have oA2:=(OA.out.below (aC w1 (.cells #[.int .i64 s.c,.int .i64 s.m.x,.int .i64 s.m.y,.int .i64 s.m.d,.int .i64 s.m.e] 54))).below hb2;have oB2:=(OB.out.below (aC w1 (.cells #[.int .i64 s.c,.int .i64 s.m.x,.int .i64 s.m.y,.int .i64 s.m.d,.int .i64 s.m.e] 54))).below hb2
  have cS:=(C5.box w1 54 s).below hb2;have hz2:w1.heap.size<w2.heap.size:=by have:=hb2.size;simp at this;omega
  have hz3:w.heap.size<w2.heap.size:=by omega
  have hz4:w.heap.size+1<w2.heap.size:=by omega
  have OA2:=aA oA2;have OB2:=aA oB2
  have CSS:=aA cS;clear hb2 oA2 oB2 cS c1 c2 OA OB;obtain⟨⟨e0,e1,e2,e3,e4⟩,ez⟩:=OA2.out;obtain⟨⟨g0,g1,g2,g3,g4⟩,gz⟩:=OB2.out;cases k1
  ·go_wp2;refine cW (v:=.tuple #[.agg #[.int .i64 0,.int .i64 0,.int .i64 0,.int .i64 0,.int .i64 0],.agg #[.int .i64 0,.int .i64 0,.int .i64 0,.int .i64 0,.int .i64 0],.bool false]) (by simp[results,Tryz.results59,go_sem, *]) rfl ⟨rfl,?_⟩;exact CM HB3.out (by omega) (by omega) _ _ _ _ _ _ _ _ _ _
  ·cases k2
   ·go_wp2;refine cW (v:=.tuple #[.agg #[.int .i64 0,.int .i64 0,.int .i64 0,.int .i64 0,.int .i64 0],.agg #[.int .i64 0,.int .i64 0,.int .i64 0,.int .i64 0,.int .i64 0],.bool false]) (by simp[results,Tryz.results59,go_sem, *]) rfl ⟨rfl,?_⟩;exact CM HB3.out (by omega) (by omega) _ _ _ _ _ _ _ _ _ _
   ·exact absurd rfl hk
open Go.RowKit Go.Deep Go.Joins Go.Maps
theorem IC (w:World) (o:Int) (a b:Option Addr) (n ca m cb:Nat) (f g:Nat→T) (ha:Rd w a n ca f) (hb:Rd w b m cb g):Calls Tryz.prog 22 #[.int .i64 o,.slice a n ca,.slice b m cb] w fun r w'=>∃a' cap',r= .returned (.tuple #[.slice a' (aZ o f n g m).1.length cap',.bool (aZ o f n g m).2])∧Below w.heap.size w w'∧iA w.heap.size w' a' cap' (aZ o f n g m).1:=by
 have HA:=aA ha;have HB:=aA hb
 have hla:(n:Int)≤140737488351232:=by have:=ha.2.1;omega
 have hlb:(m:Int)≤140737488351232:=by have:=hb.2.1;omega
 have hcall:=QR w o a n ca f b m cb g ha hb;clear ha hb;unfold aZ;obtain⟨U,hU⟩:∃U,eD o n f m g=U:=⟨_,rfl⟩
 obtain⟨V,hV⟩:∃V,eE o n f m g=V:=⟨_,rfl⟩
 obtain⟨ok,hok⟩:∃ok,eG o n f m g=ok:=⟨_,rfl⟩
 rw[hU,hV,hok]at hcall⊢;clear hU hV hok;cases ok
 ·rw[if_neg (by simp)];go_enter Tryz.func22,Tryz.ntmps22;go_wp2_with fail;refine hcall.mono ?_;rintro r w1 ⟨rfl,hb1⟩;have HB1:=aA hb1
  clear hb1 hcall;have HB2:=aA (HB1.out.alloc HB1.out.size (.cells #[.int .i64 U.c,.int .i64 U.m.x,.int .i64 U.m.y,.int .i64 U.m.d,.int .i64 U.m.e] 54))
  have HB3:=aA (HB2.out.alloc HB2.out.size (.cells #[.int .i64 V.c,.int .i64 V.m.x,.int .i64 V.m.y,.int .i64 V.m.d,.int .i64 V.m.e] 54));go_wp2;refine cW (results_tmp2 rfl _ _ _) rfl ?_;exact⟨none,0,rfl,HB3.out,⟨Nat.le_refl _,by simp,.inl rfl⟩,.inl rfl,.inl rfl⟩
 ·rw[if_pos rfl];have hd:=fun(W:World) (h:Rd W a n ca f) (h':Rd W b m cb g)=>SO W U V a b n ca m cb f g h h'
  generalize iM U V f n g m=D at hd⊢;go_enter Tryz.func22,Tryz.ntmps22;go_wp2_with fail;refine hcall.mono ?_;rintro r w1 ⟨rfl,hb1⟩;have HB1:=aA hb1
  clear hb1 hcall;have HB2:=aA (HB1.out.alloc HB1.out.size (.cells #[.int .i64 U.c,.int .i64 U.m.x,.int .i64 U.m.y,.int .i64 U.m.d,.int .i64 U.m.e] 54))
  have HB3:=aA (HB2.out.alloc HB2.out.size (.cells #[.int .i64 V.c,.int .i64 V.m.x,.int .i64 V.m.y,.int .i64 V.m.d,.int .i64 V.m.e] 54));go_wp2_with fail;refine(hd _ (HA.out.below HB3.out) (HB.out.below HB3.out)).mono ?_;rintro r w2 ⟨a2,c2,rfl,hb2,ho2⟩;have HB4:=aA (aB HB3.out hb2)
  have HO4:=aA (MN ho2 HB3.out.size);clear hb2 ho2;go_wp2;refine cW (results_tmp2 rfl _ _ _) rfl ?_;exact⟨a2,c2,rfl,HB4.out,HO4.out⟩
def Gt (w:World) (n:Nat) (R:Option Dv) (e:Ending) (w':World):Prop:=∃qa qc ad cp la lc,e= .returned (.tuple #[.slice qa (GS n R) qc,.slice la (QM R).length lc,.bool R.isSome])∧Below w.heap.size w w'∧eJ w' qa (GS n R) qc ad (lN (VL R)) cp (fN (VL R))∧RL w' la lc (QM R)
theorem VI {w:World} {o:Int} {pa:Option Addr} {pc:Nat} {p:List T} {a:Option Addr} {n cap:Nat} {ad:Nat→Option Addr} {cp:Nat→Nat} {L:Nat→List T} (hp:RL w pa pc p) (h:eJ w a n cap ad (lN L) cp (fN L)) {R:Option Dv} (hR:bJ o p n (lN L) (fN L)=R):Calls Tryz.prog 23 #[.int .i64 o,.slice pa p.length pc,.slice a n cap] w (Gt w n R):=
 (yQ w o pa pc p a n cap ad (lN L) cp (fN L) hp h hR).mono fun e w' ⟨qa,qc,ad,cp,Rb,B,la,lc,mid,he,hb,h1,h2,_⟩=>⟨qa,qc,ad,cp,la,lc,he,hb,h1.rd,h2.1⟩
theorem yR {w:World} {o:Int} {pa:Option Addr} {pc:Nat} {p:List T} {a:Option Addr} {n cap:Nat} {ad:Nat→Option Addr} {cp:Nat→Nat} {L:Nat→List T} (hp:RL w pa pc p) (h:eJ w a n cap ad (lN L) cp (fN L)) {S:Dv} (hR:bJ o p n (lN L) (fN L)=some S):Calls Tryz.prog 23 #[.int .i64 o,.slice pa p.length pc,.slice a n cap] w fun e w'=>∃qa qc ad cp la lc,e= .returned (.tuple #[.slice qa n qc,.slice la S.r.length lc,.bool true])∧Below w.heap.size w w'∧eJ w' qa n qc ad (lN S.q) cp (fN S.q)∧RL w' la lc S.r:=VI hp h hR
theorem MZ {w:World} {o:Int} {pa:Option Addr} {pc:Nat} {p:List T} {a:Option Addr} {n cap:Nat} {ad:Nat→Option Addr} {cp:Nat→Nat} {L:Nat→List T} (hp:RL w pa pc p) (h:eJ w a n cap ad (lN L) cp (fN L)) (hR:bJ o p n (lN L) (fN L)=none):Calls Tryz.prog 23 #[.int .i64 o,.slice pa p.length pc,.slice a n cap] w fun e w'=>∃qa qc ad cp la lc,e= .returned (.tuple #[.slice qa 0 qc,.slice la 0 lc,.bool false])∧Below w.heap.size w w'∧eJ w' qa 0 qc ad (lN (fun _=>[])) cp (fN (fun _=>[]))∧RL w' la lc []:=VI hp h hR
abbrev Aa (p1 o1 p2 o2:Nat) (v1 v2:Value) (u:World):Prop:=u.cell? ⟨p1,o1,none⟩=some v1∧u.cell? ⟨p2,o2,none⟩=some v2
theorem Aa.below {p1 o1 p2 o2:Nat} {v1 v2:Value} {u u':World} (h:Aa p1 o1 p2 o2 v1 v2 u) (hb:Below u.heap.size u u'):Aa p1 o1 p2 o2 v1 v2 u':=
 ⟨(hb.cell (p:=⟨p1,o1,none⟩) (cE u _ h.1)).trans h.1,(hb.cell (p:=⟨p2,o2,none⟩) (cE u _ h.2)).trans h.2⟩
end Go.Proofs.YtmlaedpamobmhaaGreat
