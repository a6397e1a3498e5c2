/-
  The product of two terms, told term by term: the iterator.
-/
import Derived.Test.YtelkehjdfcoeiaaGreatNam
set_option maxHeartbeats 16000000
set_option maxRecDepth 100000
namespace Go.Proofs.YtelkehjdfcoeiaaGreat
open Go.RowKit
set_option linter.unusedVariables false
attribute [local go_sem] Oper.semAt_some
def ST (W:World) (Bx:Nat) (m:M):Prop:=W.heap[Bx]? =some (.cells #[.int .i64 m.x,.int .i64 m.y,.int .i64 m.d,.int .i64 m.e] 84 (0,0))
theorem ST.cells {W:World} {Bx:Nat} {m:M} (h:ST W Bx m):W.cell? ⟨Bx,0,none⟩=some (.int .i64 m.x)∧W.cell? ⟨Bx,1,none⟩=some (.int .i64 m.y)∧W.cell? ⟨Bx,2,none⟩=some (.int .i64 m.d)∧W.cell? ⟨Bx,3,none⟩=some (.int .i64 m.e):=by unfold ST at h;refine⟨?_,?_,?_,?_⟩<;>(unfold World.cell?;simp only[h];rfl)
theorem pH {β:Type} {B:Nat} (W0:World):OwnFrom B (fun(_:β) U=>cZ W0 U):=fun _ X Y row hs hg hr=>cN hs (qO hg (fun k e o ho=>by obtain⟨_,o',ho',hc⟩:=hr k e;rw[ho]at ho';cases ho';exact hc))
theorem rM {β:Type} {B B':Nat} {J:β→World→Prop} (h:OwnFrom B J) (hB:B≤B'):OwnFrom B' J:=fun s X Y row hs hg hr=>h s X Y row hs hg (fun r e=>⟨gW hB (hr r e).1,(hr r e).2⟩)
theorem DL {β γ:Type} {B:Nat} {J:β→World→Prop} (h:OwnFrom B J) (f:γ→β):OwnFrom B (fun s W=>J (f s) W):=fun s X Y row hs hg hr=>h (f s) X Y row hs hg hr
theorem YV {a b:T} {g:M} (h:pL a b g) (BA BB BG:Nat) (w:World) (hA:bZ w BA a) (hB:bZ w BB b) (hG:ST w BG g):WW Tryz.prog 146 #[.pointer (some ⟨BA,0,none⟩),.pointer (some ⟨BB,0,none⟩),.pointer (some ⟨BG,0,none⟩)] XI (lU h (NQ a b)) w:=by
 intro l J W hW hJ hY h0;have hA:bZ W BA a:=(hW.block BA (Array.getElem?_eq_some_iff.1 hA).1).trans hA
 have hB:bZ W BB b:=(hW.block BB (Array.getElem?_eq_some_iff.1 hB).1).trans hB;have hG:ST W BG g:=(hW.block BG (Array.getElem?_eq_some_iff.1 hG).1).trans hG
 clear hW;have m1:=M.ok_iff.1 h.ok1
 have m2:=M.ok_iff.1 h.ok2;have m3:=M.ok_iff.1 h.ok3
 have r0:0≤a.c*b.c%101∧a.c*b.c%101≤100:=by omega
 obtain⟨a0,a1,a2,a3,a4⟩:=hA.cells;obtain⟨b0,b1,b2,b3,b4⟩:=hB.cells;have c1:=h.c1
 have c2:=h.c2;have bAl:BA<W.heap.size:=(Array.getElem?_eq_some_iff.1 hA).1
 have bBl:BB<W.heap.size:=(Array.getElem?_eq_some_iff.1 hB).1;have HYV0:=aA hY
 clear hY;refine(callsIn_wide (n:=9)).1 ?_;refine callsIn_of_wp_marks Tryz.func146 rfl trivial ?_ rfl;simp only[Tryz.ntmps146,List.size_toArray,List.length_cons,List.length_nil,Nat.reduceAdd,Nat.reduceSub,Array.replicate_succ,Array.replicate_zero,List.push_toArray,List.append_toArray,List.nil_append,List.cons_append]
 gi_wp2_with (first
  |(refine⟨trivial,?_⟩;gi_at_call 94;refine(callsIn_wide.2 (oF _ _ _ c1.1 c1.2 c2.1 c2.2)).mono ?_;rintro e w' ⟨rfl,hw'⟩;obtain rfl:=hw'.symm;clear hw')
  |(refine⟨trivial,?_⟩;gi_at_call 147;refine(SD (F:=Fence.wide) trivial rfl _ _ _).mono ?_;rintro e w' ⟨rfl,hw'⟩;obtain rfl:=hw'.symm;clear hw')
  |gi_in)
 obtain⟨W0,hW0⟩:∃W0,(((W.alloc (.cells #[.func (.yield l) #[] #[]] 183)).alloc (.cells #[.int .i64 (a.c*b.c%101)] 131)).alloc (.cells #[.int .i64 a.m.d] 3)).alloc (.cells #[.int .i64 b.m.x] 3)=W0:=⟨_,rfl⟩
 have bv0:Boxed W0 W.heap.size 183 (.func (.yield l) #[] #[]):=by rw[←hW0];exact(((Boxed.new W _ _).alloc _).alloc _).alloc _
 have bq0:Boxed W0 (W.heap.size+1) 131 (.int .i64 (a.c*b.c%101)):=by rw[←hW0];have:=Boxed.new (W.alloc (.cells #[.func (.yield l) #[] #[]] 183)) 131 (.int .i64 (a.c*b.c%101));rw[World.size_alloc]at this;exact(this.alloc _).alloc _
 have bs0:Boxed W0 (W.heap.size+1+1) 3 (.int .i64 a.m.d):=by rw[←hW0];have:=Boxed.new ((W.alloc (.cells #[.func (.yield l) #[] #[]] 183)).alloc (.cells #[.int .i64 (a.c*b.c%101)] 131)) 3 (.int .i64 a.m.d);rw[World.size_alloc,World.size_alloc]at this;exact this.alloc _
 have bt0:Boxed W0 (W.heap.size+1+1+1) 3 (.int .i64 b.m.x):=by rw[←hW0];have:=Boxed.new (((W.alloc (.cells #[.func (.yield l) #[] #[]] 183)).alloc (.cells #[.int .i64 (a.c*b.c%101)] 131)).alloc (.cells #[.int .i64 a.m.d] 3)) 3 (.int .i64 b.m.x);rw[World.size_alloc,World.size_alloc,World.size_alloc]at this;exact this
 have hc0:cZ W W0:=by rw[←hW0];exact cN (cN (cN (bV _ _) (bV _ _)) (bV _ _)) (bV _ _)
 have hJ0:J [] W0:=by rw[←hW0];exact hJ.alloc _ (hJ.alloc _ (hJ.alloc _ (hJ.alloc _ h0)))
 have hs0:W0.heap.size=W.heap.size+4:=by rw[←hW0];simp
 have hA0:bZ W0 BA a:=hc0.2 BA _ hA rfl;have hB0:bZ W0 BB b:=hc0.2 BB _ hB rfl
 have hG0:ST W0 BG g:=hc0.2 BG _ hG rfl;have HJ:=aA (rM hJ (show W.heap.size≤W0.heap.size by omega))
 rw[hW0];clear hW0 h0 hA hB hG a0 a1 a2 a3 a4 b0 b1 b2 b3 b4 hc0
 refine wpIn_rangeFunc_ownH (w0:=W0) rfl (by decide) (gf:=174) (lb:=#[.pointer (some ⟨W.heap.size+1+1,0,none⟩),.pointer (some ⟨W.heap.size+1+1+1,0,none⟩)]) rfl trivial (enters_of Tryz.func174 (by kernel_rfl) rfl)
  (wO (n:=8) (by omega) (W.heap.size+1+1) (W.heap.size+1+1+1) a.m.d b.m.x (fI a b) (by omega) (by omega) (by omega) (by omega) h.lx W0 bs0 bt0) cN (qN) (bQ _ _) (fun _=>rfl)
  (fun(pre:List (TK (fI a b))) U=>J (lU h pre) U∧cZ W0 U) (fun _ _ _=>False)
  (OwnFrom.and (DL HJ.out (lU h)) (pH W0)) (fun _ _ _ _ _ hs _ _=>hs) ⟨hJ0,tP _⟩
  (fun x a' U=>∃Bi Bw,Boxed U Bi 3 (.int .i64 x.1.1)∧Boxed U Bw 131 (.int .i64 x.1.2)∧a'=({tmps:=#[Value.func (Fn.yield l) #[] #[],Value.pointer (some ⟨BA,0,none⟩),Value.pointer (some ⟨BB,0,none⟩),Value.pointer (some ⟨BG,0,none⟩),Value.pointer (some ⟨W.heap.size,0,none⟩),Value.pointer (some ⟨W.heap.size+1,0,none⟩),Value.pointer (some ⟨Bi,0,none⟩),Value.pointer (some ⟨Bw,0,none⟩),undef,undef,undef,Value.pointer (some ⟨BA,0,none⟩),Value.int IntKind.i64 (a.c),Value.pointer (some ⟨BB,0,none⟩),Value.int IntKind.i64 (b.c),Value.int IntKind.i64 (a.c*b.c%101),Value.pointer (some ⟨BA,1,none⟩),Value.pointer (some ⟨BA,3,none⟩),Value.int IntKind.i64 (a.m.d),Value.pointer (some ⟨BB,1,none⟩),Value.pointer (some ⟨BB,1,none⟩),Value.int IntKind.i64 (b.m.x),Value.func (Fn.func 174) #[] #[Value.pointer (some ⟨W.heap.size+1+1,0,none⟩),Value.pointer (some ⟨W.heap.size+1+1+1,0,none⟩)],Value.int IntKind.i64 (x.1.1),Value.int IntKind.i64 (x.1.2),undef,undef,undef,undef,undef,undef,undef,undef,undef,undef,undef,undef,undef,undef,undef,undef,undef,undef,undef,undef,undef,undef,undef,undef,undef,undef,undef,undef,undef,undef,undef,undef,undef,undef,undef,undef],defers:=[]}:Act))
  (fun x a' _ X Y row hs hg hr=>by obtain⟨Bi,Bw,h1,h2,h3⟩:=hs;exact⟨Bi,Bw,sW rfl h1 hg hr,sW rfl h2 hg hr,h3⟩)
  ?assign ?body ?done ?stop
 case assign=>
  rintro l1 pre x U K' ⟨hJu,hcu⟩ hK';dsimp only[KX]at hK'⊢
  gi_wp2
  refine hK' _ _ (((KeepsOthers.alloc _ _).trans (KeepsOthers.alloc _ _)).from _) (cN (bV _ _) (bV _ _)) ⟨HJ.out.alloc _ (HJ.out.alloc _ hJu),cN hcu (cN (bV _ _) (bV _ _))⟩ ⟨U.heap.size,U.heap.size+1,(Boxed.new U _ _).alloc _,?_,rfl⟩;have:=Boxed.new (U.alloc (.cells #[.int .i64 x.1.1] 3)) 131 (.int .i64 x.1.2)
  rwa[World.size_alloc]at this
 case body=>
  rintro l1 pre x a' U hl1 ⟨r,hr⟩ ⟨hJu,hcu⟩ ⟨Bi,Bw,bI,bW,rfl⟩ hlt;have hAu:bZ U BA a:=hcu.2 BA _ hA0 rfl
  have hBu:bZ U BB b:=hcu.2 BB _ hB0 rfl;obtain⟨a0,a1,a2,a3,a4⟩:=hAu.cells;obtain⟨b0,b1,b2,b3,b4⟩:=hBu.cells
  gi_wp2_with (first
   |(refine⟨trivial,?_⟩;gi_at_call 147;refine(CallsIn.inRound l1 (SD (F:=Fence.wide) trivial rfl _ _ _)).mono ?_;rintro e w' ⟨rfl,hw'⟩;obtain rfl:=hw'.symm;clear hw')
   |gi_in)
  clear a0 a1 a2 a3 a4 b0 b1 b2 b3 b4;have bs1:Boxed ((U.alloc (.cells #[.int .i64 a.m.e] 3)).alloc (.cells #[.int .i64 b.m.y] 3)) U.heap.size 3 (.int .i64 a.m.e):=(Boxed.new U _ _).alloc _
  have bt1:Boxed ((U.alloc (.cells #[.int .i64 a.m.e] 3)).alloc (.cells #[.int .i64 b.m.y] 3)) (U.heap.size+1) 3 (.int .i64 b.m.y):=by have:=Boxed.new (U.alloc (.cells #[.int .i64 a.m.e] 3)) 3 (.int .i64 b.m.y);rwa[World.size_alloc]at this
  have hr':((U.alloc (.cells #[.int .i64 a.m.e] 3)).alloc (.cells #[.int .i64 b.m.y] 3)).heap[l1]? =some (.loop r):=(Below.heap_alloc _ _ l1 (by have:=(Array.getElem?_eq_some_iff.1 hr).1;simp;omega)).trans ((Below.heap_alloc U _ l1 (Array.getElem?_eq_some_iff.1 hr).1).trans hr)
  have hcU:cZ U ((U.alloc (.cells #[.int .i64 a.m.e] 3)).alloc (.cells #[.int .i64 b.m.y] 3)):=cN (bV _ _) (bV _ _);have hkU:KeepsFrom W0.heap.size U ((U.alloc (.cells #[.int .i64 a.m.e] 3)).alloc (.cells #[.int .i64 b.m.y] 3)):=((KeepsOthers.alloc _ _).trans (KeepsOthers.alloc _ _)).from _
  have hJU:J (lU h pre) ((U.alloc (.cells #[.int .i64 a.m.e] 3)).alloc (.cells #[.int .i64 b.m.y] 3)):=HJ.out.alloc _ (HJ.out.alloc _ hJu);have hsU:((U.alloc (.cells #[.int .i64 a.m.e] 3)).alloc (.cells #[.int .i64 b.m.y] 3)).heap.size=U.heap.size+2:=by simp
  have hUs:W0.heap.size≤U.heap.size:=hcu.1;generalize(U.alloc (.cells #[.int .i64 a.m.e] 3)).alloc (.cells #[.int .i64 b.m.y] 3)=U2 at *
  refine wpIn_rangeFunc_ownN (F:=Fence.wide.inRound l1) (w0:=U2) (l₀:=l1) (r₀:=r) rfl hr' (by decide) (gf:=174) (lb:=#[.pointer (some ⟨U.heap.size,0,none⟩),.pointer (some ⟨U.heap.size+1,0,none⟩)]) rfl trivial (enters_of Tryz.func174 (by kernel_rfl) rfl)
   ((wO (n:=6) (by omega) U.heap.size (U.heap.size+1) a.m.e b.m.y (gK a b) (by omega) (by omega) (by omega) (by omega) h.ly U2 bs1 bt1).inRound l1) cN (qN) (bQ _ _) (fun _=>rfl)
   (fun(pre':List (TK (gK a b))) V=>J (lU h pre++pre'.map (nG h x)) V∧(cZ U V∧KeepsFrom W0.heap.size U V)) (fun _ _ _=>False)
   (OwnFrom.and (DL (rM HJ.out (show W0.heap.size≤U2.heap.size by omega)) (fun(pre':List (TK (gK a b)))=>lU h pre++pre'.map (nG h x))) (OwnFrom.and (pH U) (ownFrom_keepsFrom (by omega)))) (fun _ _ _ _ _ hs _ _=>hs) ⟨by simpa using hJU,hcU,hkU⟩
   (fun y a'' _=>a''=({tmps:=#[Value.func (Fn.yield l) #[] #[],Value.pointer (some ⟨BA,0,none⟩),Value.pointer (some ⟨BB,0,none⟩),Value.pointer (some ⟨BG,0,none⟩),Value.pointer (some ⟨W.heap.size,0,none⟩),Value.pointer (some ⟨W.heap.size+1,0,none⟩),Value.pointer (some ⟨Bi,0,none⟩),Value.pointer (some ⟨Bw,0,none⟩),Value.int IntKind.i64 (y.1.1),Value.int IntKind.i64 (y.1.2),undef,Value.pointer (some ⟨BA,0,none⟩),Value.int IntKind.i64 (a.c),Value.pointer (some ⟨BB,0,none⟩),Value.int IntKind.i64 (b.c),Value.int IntKind.i64 (a.c*b.c%101),Value.pointer (some ⟨BA,1,none⟩),Value.pointer (some ⟨BA,3,none⟩),Value.int IntKind.i64 (a.m.d),Value.pointer (some ⟨BB,1,none⟩),Value.pointer (some ⟨BB,1,none⟩),Value.int IntKind.i64 (b.m.x),Value.func (Fn.func 174) #[] #[Value.pointer (some ⟨W.heap.size+1+1,0,none⟩),Value.pointer (some ⟨W.heap.size+1+1+1,0,none⟩)],Value.int IntKind.i64 (x.1.1),Value.int IntKind.i64 (x.1.2),Value.pointer (some ⟨BA,1,none⟩),Value.pointer (some ⟨BA,4,none⟩),Value.int IntKind.i64 (a.m.e),Value.pointer (some ⟨BB,1,none⟩),Value.pointer (some ⟨BB,2,none⟩),Value.int IntKind.i64 (b.m.y),Value.func (Fn.func 174) #[] #[Value.pointer (some ⟨U.heap.size,0,none⟩),Value.pointer (some ⟨U.heap.size+1,0,none⟩)],Value.int IntKind.i64 (y.1.1),Value.int IntKind.i64 (y.1.2),undef,undef,undef,undef,undef,undef,undef,undef,undef,undef,undef,undef,undef,undef,undef,undef,undef,undef,undef,undef,undef,undef,undef,undef,undef,undef,undef],defers:=[]}:Act))
   (fun _ _ _ _ _ _ hs _ _=>hs)
   ?assign2 ?body2 ?done2 ?stop2
  case assign2=>
   rintro l2 pre' y V K' hi hK';dsimp only[KX]at hK'⊢
   gi_wp2
   exact hK' _ _ (KeepsFrom.refl _ _) (tP _) hi rfl
  case body2=>
   rintro l2 pre' y a'' V hl2 ⟨r2,hr2⟩ ⟨hJv,hcv,hkv⟩ rfl hlt2;have hx:=x.2
   have hy:=y.2;have hGv:ST V BG g:=hcv.2 BG _ (hcu.2 BG _ hG0 rfl) rfl
   obtain⟨g0,g1,g2,g3⟩:=hGv.cells;have bIv:Boxed V Bi 3 (.int .i64 x.1.1):=dP bI hcv
   have bWv:Boxed V Bw 131 (.int .i64 x.1.2):=dP bW hcv;have bVv:Boxed V W.heap.size 183 (.func (.yield l) #[] #[]):=dP (dP bv0 hcu) hcv
   have bQv:Boxed V (W.heap.size+1) 131 (.int .i64 (a.c*b.c%101)):=dP (dP bq0 hcu) hcv;have hxl:x.1.1≤15:=by have:=h.lx;omega
   have hyl:y.1.1≤15:=by have:=h.ly;omega
   have cI:=bIv.cell
   gi_wp2_with fail
   have c4:=(bVv.alloc (.cells #[.int .i64 (g.x-x.1.1),.int .i64 (g.y-y.1.1),.int .i64 (g.d-x.1.1),.int .i64 (g.e-y.1.1)] 84)).cell;have c5:=(bQv.alloc (.cells #[.int .i64 (g.x-x.1.1),.int .i64 (g.y-y.1.1),.int .i64 (g.d-x.1.1),.int .i64 (g.e-y.1.1)] 84)).cell
   have c7:=(bWv.alloc (.cells #[.int .i64 (g.x-x.1.1),.int .i64 (g.y-y.1.1),.int .i64 (g.d-x.1.1),.int .i64 (g.e-y.1.1)] 84)).cell;have hLs:ST (V.alloc (.cells #[.int .i64 (g.x-x.1.1),.int .i64 (g.y-y.1.1),.int .i64 (g.d-x.1.1),.int .i64 (g.e-y.1.1)] 84)) V.heap.size ⟨g.x-x.1.1,g.y-y.1.1,g.d-x.1.1,g.e-y.1.1⟩:=World.alloc_heap_new V _
   obtain⟨s0,s1,s2,s3⟩:=hLs.cells;dsimp only at s0 s1 s2 s3;have hcV1:cZ V (V.alloc (.cells #[.int .i64 (g.x-x.1.1),.int .i64 (g.y-y.1.1),.int .i64 (g.d-x.1.1),.int .i64 (g.e-y.1.1)] 84)):=bV _ _
   have hkV1:KeepsFrom W.heap.size V (V.alloc (.cells #[.int .i64 (g.x-x.1.1),.int .i64 (g.y-y.1.1),.int .i64 (g.d-x.1.1),.int .i64 (g.e-y.1.1)] 84)):=(KeepsOthers.alloc _ _).from _;have hJV1:=HJ.out.alloc (.cells #[.int .i64 (g.x-x.1.1),.int .i64 (g.y-y.1.1),.int .i64 (g.d-x.1.1),.int .i64 (g.e-y.1.1)] 84) hJv
   generalize V.alloc (.cells #[.int .i64 (g.x-x.1.1),.int .i64 (g.y-y.1.1),.int .i64 (g.d-x.1.1),.int .i64 (g.e-y.1.1)] 84)=V1 at *;have c4d:V1.drew.cell? ⟨W.heap.size,0,none⟩=some (.func (.yield l) #[] #[]):=c4
   have c5d:V1.drew.cell? ⟨W.heap.size+1,0,none⟩=some (.int .i64 (a.c*b.c%101)):=c5;have c7d:V1.drew.cell? ⟨Bw,0,none⟩=some (.int .i64 x.1.2):=c7
   have s0d:V1.drew.cell? ⟨V.heap.size,0,none⟩=some (.int .i64 (g.x-x.1.1)):=s0;have s1d:V1.drew.cell? ⟨V.heap.size,1,none⟩=some (.int .i64 (g.y-y.1.1)):=s1
   have s2d:V1.drew.cell? ⟨V.heap.size,2,none⟩=some (.int .i64 (g.d-x.1.1)):=s2;have s3d:V1.drew.cell? ⟨V.heap.size,3,none⟩=some (.int .i64 (g.e-y.1.1)):=s3
   have hJd:J (lU h pre++pre'.map (nG h x)) V1.drew:=HJ.out _ V1 V1.drew none hJV1 (WK V1) (fun r e=>by cases e);have HYV:=aA (HYV0.out (lU h pre++pre'.map (nG h x)) (nG h x y) V1.drew hJd)
   clear g0 g1 g2 g3 c4 c5 c7 s0 s1 s2 s3 cI;have r1:0≤a.c*b.c%101∧a.c*b.c%101≤100:=r0
   have r2:0≤x.1.2∧x.1.2≤100:=by omega
   have r3:0≤a.c*b.c%101*x.1.2%101∧a.c*b.c%101*x.1.2%101≤100:=by omega
   have r4:0≤y.1.2∧y.1.2≤100:=by omega
   have hLO:¬LetsOut (fun(e:Exit) (a':Act) (u:World)=>e=Exit.normal∧∃vs:Nat→Value,a'=({tmps:=#[Value.func (Fn.yield l) #[] #[],Value.pointer (some ⟨BA,0,none⟩),Value.pointer (some ⟨BB,0,none⟩),Value.pointer (some ⟨BG,0,none⟩),Value.pointer (some ⟨W.heap.size,0,none⟩),Value.pointer (some ⟨W.heap.size+1,0,none⟩),Value.pointer (some ⟨Bi,0,none⟩),Value.pointer (some ⟨Bw,0,none⟩),Value.int IntKind.i64 (y.1.1),Value.int IntKind.i64 (y.1.2),Value.pointer (some ⟨V.heap.size,0,none⟩),Value.pointer (some ⟨BA,0,none⟩),Value.int IntKind.i64 (a.c),Value.pointer (some ⟨BB,0,none⟩),Value.int IntKind.i64 (b.c),Value.int IntKind.i64 (a.c*b.c%101),Value.pointer (some ⟨BA,1,none⟩),Value.pointer (some ⟨BA,3,none⟩),Value.int IntKind.i64 (a.m.d),Value.pointer (some ⟨BB,1,none⟩),Value.pointer (some ⟨BB,1,none⟩),Value.int IntKind.i64 (b.m.x),Value.func (Fn.func 174) #[] #[Value.pointer (some ⟨W.heap.size+1+1,0,none⟩),Value.pointer (some ⟨W.heap.size+1+1+1,0,none⟩)],Value.int IntKind.i64 (x.1.1),Value.int IntKind.i64 (x.1.2),Value.pointer (some ⟨BA,1,none⟩),Value.pointer (some ⟨BA,4,none⟩),Value.int IntKind.i64 (a.m.e),Value.pointer (some ⟨BB,1,none⟩),Value.pointer (some ⟨BB,2,none⟩),Value.int IntKind.i64 (b.m.y),Value.func (Fn.func 174) #[] #[Value.pointer (some ⟨U.heap.size,0,none⟩),Value.pointer (some ⟨U.heap.size+1,0,none⟩)],Value.int IntKind.i64 (y.1.1),Value.int IntKind.i64 (y.1.2),Value.pointer (some ⟨BG,0,none⟩),Value.int IntKind.i64 (g.x),Value.int IntKind.i64 (x.1.1),Value.int IntKind.i64 (g.x-x.1.1),Value.pointer (some ⟨BG,1,none⟩),Value.int IntKind.i64 (g.y),Value.int IntKind.i64 (y.1.1),Value.int IntKind.i64 (g.y-y.1.1),Value.pointer (some ⟨BG,2,none⟩),Value.int IntKind.i64 (g.d),Value.int IntKind.i64 (x.1.1),Value.int IntKind.i64 (g.d-x.1.1),Value.pointer (some ⟨BG,3,none⟩),Value.int IntKind.i64 (g.e),Value.int IntKind.i64 (y.1.1),Value.int IntKind.i64 (g.e-y.1.1),Value.agg #[Value.int IntKind.i64 (g.x-x.1.1),Value.int IntKind.i64 (g.y-y.1.1),Value.int IntKind.i64 (g.d-x.1.1),Value.int IntKind.i64 (g.e-y.1.1)],vs 0,vs 1,vs 2,vs 3,vs 4,vs 5,vs 6,vs 7,vs 8,vs 9],defers:=[]}:Act)∧vs 9=Value.bool false∧J (lU h pre++(pre'++[y]).map (nG h x)) u∧cZ V1.drew u∧KeepsFrom W.heap.size V1.drew u):=fun⟨_,_,he,_⟩=>by cases he
   refine wpIn_mono (Q:=fun(e:Exit) (a':Act) (u:World)=>e=Exit.normal∧∃vs:Nat→Value,a'=({tmps:=#[Value.func (Fn.yield l) #[] #[],Value.pointer (some ⟨BA,0,none⟩),Value.pointer (some ⟨BB,0,none⟩),Value.pointer (some ⟨BG,0,none⟩),Value.pointer (some ⟨W.heap.size,0,none⟩),Value.pointer (some ⟨W.heap.size+1,0,none⟩),Value.pointer (some ⟨Bi,0,none⟩),Value.pointer (some ⟨Bw,0,none⟩),Value.int IntKind.i64 (y.1.1),Value.int IntKind.i64 (y.1.2),Value.pointer (some ⟨V.heap.size,0,none⟩),Value.pointer (some ⟨BA,0,none⟩),Value.int IntKind.i64 (a.c),Value.pointer (some ⟨BB,0,none⟩),Value.int IntKind.i64 (b.c),Value.int IntKind.i64 (a.c*b.c%101),Value.pointer (some ⟨BA,1,none⟩),Value.pointer (some ⟨BA,3,none⟩),Value.int IntKind.i64 (a.m.d),Value.pointer (some ⟨BB,1,none⟩),Value.pointer (some ⟨BB,1,none⟩),Value.int IntKind.i64 (b.m.x),Value.func (Fn.func 174) #[] #[Value.pointer (some ⟨W.heap.size+1+1,0,none⟩),Value.pointer (some ⟨W.heap.size+1+1+1,0,none⟩)],Value.int IntKind.i64 (x.1.1),Value.int IntKind.i64 (x.1.2),Value.pointer (some ⟨BA,1,none⟩),Value.pointer (some ⟨BA,4,none⟩),Value.int IntKind.i64 (a.m.e),Value.pointer (some ⟨BB,1,none⟩),Value.pointer (some ⟨BB,2,none⟩),Value.int IntKind.i64 (b.m.y),Value.func (Fn.func 174) #[] #[Value.pointer (some ⟨U.heap.size,0,none⟩),Value.pointer (some ⟨U.heap.size+1,0,none⟩)],Value.int IntKind.i64 (y.1.1),Value.int IntKind.i64 (y.1.2),Value.pointer (some ⟨BG,0,none⟩),Value.int IntKind.i64 (g.x),Value.int IntKind.i64 (x.1.1),Value.int IntKind.i64 (g.x-x.1.1),Value.pointer (some ⟨BG,1,none⟩),Value.int IntKind.i64 (g.y),Value.int IntKind.i64 (y.1.1),Value.int IntKind.i64 (g.y-y.1.1),Value.pointer (some ⟨BG,2,none⟩),Value.int IntKind.i64 (g.d),Value.int IntKind.i64 (x.1.1),Value.int IntKind.i64 (g.d-x.1.1),Value.pointer (some ⟨BG,3,none⟩),Value.int IntKind.i64 (g.e),Value.int IntKind.i64 (y.1.1),Value.int IntKind.i64 (g.e-y.1.1),Value.agg #[Value.int IntKind.i64 (g.x-x.1.1),Value.int IntKind.i64 (g.y-y.1.1),Value.int IntKind.i64 (g.d-x.1.1),Value.int IntKind.i64 (g.e-y.1.1)],vs 0,vs 1,vs 2,vs 3,vs 4,vs 5,vs 6,vs 7,vs 8,vs 9],defers:=[]}:Act)∧vs 9=Value.bool false∧J (lU h pre++(pre'++[y]).map (nG h x)) u∧cZ V1.drew u∧KeepsFrom W.heap.size V1.drew u) (ML (l:=l2) (fun vs:Nat→Value=>({tmps:=#[Value.func (Fn.yield l) #[] #[],Value.pointer (some ⟨BA,0,none⟩),Value.pointer (some ⟨BB,0,none⟩),Value.pointer (some ⟨BG,0,none⟩),Value.pointer (some ⟨W.heap.size,0,none⟩),Value.pointer (some ⟨W.heap.size+1,0,none⟩),Value.pointer (some ⟨Bi,0,none⟩),Value.pointer (some ⟨Bw,0,none⟩),Value.int IntKind.i64 (y.1.1),Value.int IntKind.i64 (y.1.2),Value.pointer (some ⟨V.heap.size,0,none⟩),Value.pointer (some ⟨BA,0,none⟩),Value.int IntKind.i64 (a.c),Value.pointer (some ⟨BB,0,none⟩),Value.int IntKind.i64 (b.c),Value.int IntKind.i64 (a.c*b.c%101),Value.pointer (some ⟨BA,1,none⟩),Value.pointer (some ⟨BA,3,none⟩),Value.int IntKind.i64 (a.m.d),Value.pointer (some ⟨BB,1,none⟩),Value.pointer (some ⟨BB,1,none⟩),Value.int IntKind.i64 (b.m.x),Value.func (Fn.func 174) #[] #[Value.pointer (some ⟨W.heap.size+1+1,0,none⟩),Value.pointer (some ⟨W.heap.size+1+1+1,0,none⟩)],Value.int IntKind.i64 (x.1.1),Value.int IntKind.i64 (x.1.2),Value.pointer (some ⟨BA,1,none⟩),Value.pointer (some ⟨BA,4,none⟩),Value.int IntKind.i64 (a.m.e),Value.pointer (some ⟨BB,1,none⟩),Value.pointer (some ⟨BB,2,none⟩),Value.int IntKind.i64 (b.m.y),Value.func (Fn.func 174) #[] #[Value.pointer (some ⟨U.heap.size,0,none⟩),Value.pointer (some ⟨U.heap.size+1,0,none⟩)],Value.int IntKind.i64 (y.1.1),Value.int IntKind.i64 (y.1.2),Value.pointer (some ⟨BG,0,none⟩),Value.int IntKind.i64 (g.x),Value.int IntKind.i64 (x.1.1),Value.int IntKind.i64 (g.x-x.1.1),Value.pointer (some ⟨BG,1,none⟩),Value.int IntKind.i64 (g.y),Value.int IntKind.i64 (y.1.1),Value.int IntKind.i64 (g.y-y.1.1),Value.pointer (some ⟨BG,2,none⟩),Value.int IntKind.i64 (g.d),Value.int IntKind.i64 (x.1.1),Value.int IntKind.i64 (g.d-x.1.1),Value.pointer (some ⟨BG,3,none⟩),Value.int IntKind.i64 (g.e),Value.int IntKind.i64 (y.1.1),Value.int IntKind.i64 (g.e-y.1.1),Value.agg #[Value.int IntKind.i64 (g.x-x.1.1),Value.int IntKind.i64 (g.y-y.1.1),Value.int IntKind.i64 (g.d-x.1.1),Value.int IntKind.i64 (g.e-y.1.1)],vs 0,vs 1,vs 2,vs 3,vs 4,vs 5,vs 6,vs 7,vs 8,vs 9],defers:=[]}:Act)) (fun k z=>match k with
    |0=>z=Value.func (Fn.yield l) #[] #[]
    |1=>z=Value.int IntKind.i64 (a.c*b.c%101)
    |2=>z=Value.int IntKind.i64 (x.1.2)
    |3=>z=Value.int IntKind.i64 (a.c*b.c%101*x.1.2%101)
    |4=>z=Value.int IntKind.i64 (y.1.2)
    |5=>z=Value.int IntKind.i64 (a.c*b.c%101*x.1.2%101*y.1.2%101)
    |6=>z=Value.agg #[Value.int IntKind.i64 (g.x-x.1.1),Value.int IntKind.i64 (g.y-y.1.1),Value.int IntKind.i64 (g.d-x.1.1),Value.int IntKind.i64 (g.e-y.1.1)]
    |7=>z=Value.agg #[Value.int IntKind.i64 (a.c*b.c%101*x.1.2%101*y.1.2%101),Value.int IntKind.i64 (g.x-x.1.1),Value.int IntKind.i64 (g.y-y.1.1),Value.int IntKind.i64 (g.d-x.1.1),Value.int IntKind.i64 (g.e-y.1.1)]
    |_=>True) 10 8 V1
    (fun u z=>z=Value.bool true∧J (lU h pre++(pre'++[y]).map (nG h x)) u∧cZ V1.drew u∧KeepsFrom W.heap.size V1.drew u)
    (fun u z=>z=Value.bool false∧J (lU h pre++(pre'++[y]).map (nG h x)) u∧cZ V1.drew u∧KeepsFrom W.heap.size V1.drew u) (by kernel_rfl) (RT.start (fun _=>undef) rfl) ?_ ?_) ?_
   ·intro li b0 u hI i hi;obtain⟨vs,rfl,hsz',hcl,hf,hy,hz⟩:=hI;have hl0:=(mem_ready.1 hi).1
    have hi10:i<10:=by obtain⟨_,o,ho,_⟩:=mem_ready.1 hi;exact(Array.getElem?_eq_some_iff.1 ho).1
    rcases(show i=0∨i=1∨i=2∨i=3∨i=4∨i=5∨i=6∨i=7∨i=8∨i=9 from by omega)with rfl|rfl|rfl|rfl|rfl|rfl|rfl|rfl|rfl|rfl
    ·have hA:li.getD 8 false=false:=by
      cases hx:li.getD 8 false
      ·rfl
      ·have hx0:=hcl.dep (i:=8) rfl hx 0 (by kernel_rfl);exact(cX hl0 hx0).elim
     have hA1:li.getD (8+1) false=false:=by
      cases hx:li.getD (8+1) false
      ·rfl
      ·have hx0:=hcl.dep (i:=9) rfl hx 8 (by kernel_rfl);rw[hA]at hx0;cases hx0
     obtain⟨rfl,hfv⟩:=hf hA;refine gM (by kernel_rfl) hLO (wpOp_step rfl (fun K' hK'=>?_));go_simp;refine hK' _ _ ?_;exact RT.step 0 (Value.func (Fn.yield l) #[] #[]) hi rfl hA hA1 (by decide) hsz' hcl hfv rfl rfl
    ·have hA:li.getD 8 false=false:=by
      cases hx:li.getD 8 false
      ·rfl
      ·have hx7:=hcl.dep (i:=8) rfl hx 7 (by kernel_rfl);have hx5:=hcl.dep (i:=7) rfl hx7 5 (by kernel_rfl)
       have hx3:=hcl.dep (i:=5) rfl hx5 3 (by kernel_rfl);have hx1:=hcl.dep (i:=3) rfl hx3 1 (by kernel_rfl)
       exact(cX hl0 hx1).elim
     have hA1:li.getD (8+1) false=false:=by
      cases hx:li.getD (8+1) false
      ·rfl
      ·have hx0:=hcl.dep (i:=9) rfl hx 8 (by kernel_rfl);rw[hA]at hx0;cases hx0
     obtain⟨rfl,hfv⟩:=hf hA;refine gM (by kernel_rfl) hLO (wpOp_step rfl (fun K' hK'=>?_));go_simp;refine hK' _ _ ?_;exact RT.step 1 (Value.int IntKind.i64 (a.c*b.c%101)) hi rfl hA hA1 (by decide) hsz' hcl hfv rfl rfl
    ·have hA:li.getD 8 false=false:=by
      cases hx:li.getD 8 false
      ·rfl
      ·have hx7:=hcl.dep (i:=8) rfl hx 7 (by kernel_rfl);have hx5:=hcl.dep (i:=7) rfl hx7 5 (by kernel_rfl)
       have hx3:=hcl.dep (i:=5) rfl hx5 3 (by kernel_rfl);have hx2:=hcl.dep (i:=3) rfl hx3 2 (by kernel_rfl)
       exact(cX hl0 hx2).elim
     have hA1:li.getD (8+1) false=false:=by
      cases hx:li.getD (8+1) false
      ·rfl
      ·have hx0:=hcl.dep (i:=9) rfl hx 8 (by kernel_rfl);rw[hA]at hx0;cases hx0
     obtain⟨rfl,hfv⟩:=hf hA;refine gM (by kernel_rfl) hLO (wpOp_step rfl (fun K' hK'=>?_));go_simp;refine hK' _ _ ?_;exact RT.step 2 (Value.int IntKind.i64 (x.1.2)) hi rfl hA hA1 (by decide) hsz' hcl hfv rfl rfl
    ·have hA:li.getD 8 false=false:=by
      cases hx:li.getD 8 false
      ·rfl
      ·have hx7:=hcl.dep (i:=8) rfl hx 7 (by kernel_rfl);have hx5:=hcl.dep (i:=7) rfl hx7 5 (by kernel_rfl)
       have hx3:=hcl.dep (i:=5) rfl hx5 3 (by kernel_rfl);exact(cX hl0 hx3).elim
     have hA1:li.getD (8+1) false=false:=by
      cases hx:li.getD (8+1) false
      ·rfl
      ·have hx0:=hcl.dep (i:=9) rfl hx 8 (by kernel_rfl);rw[hA]at hx0;cases hx0
     obtain⟨rfl,hfv⟩:=hf hA;have e1:vs 1=Value.int IntKind.i64 (a.c*b.c%101):=hfv 1 (bO hi rfl 1 (by kernel_rfl))
     have e2:vs 2=Value.int IntKind.i64 (x.1.2):=hfv 2 (bO hi rfl 2 (by kernel_rfl));refine gM (by kernel_rfl) hLO (wpOp_step rfl (fun K' hK'=>?_));go_simp;refine(oF _ _ _ r1.1 r1.2 r2.1 r2.2).mono ?_;rintro r' w' ⟨rfl,hw'⟩;obtain rfl:=hw'.symm;clear hw';refine hK' _ _ ?_;exact RT.step 3 (Value.int IntKind.i64 (a.c*b.c%101*x.1.2%101)) hi rfl hA hA1 (by decide) hsz' hcl hfv rfl (by first|(rw[←e1,←e2];done)|(rw[←e1,←e2];rfl))
    ·have hA:li.getD 8 false=false:=by
      cases hx:li.getD 8 false
      ·rfl
      ·have hx7:=hcl.dep (i:=8) rfl hx 7 (by kernel_rfl);have hx5:=hcl.dep (i:=7) rfl hx7 5 (by kernel_rfl)
       have hx4:=hcl.dep (i:=5) rfl hx5 4 (by kernel_rfl);exact(cX hl0 hx4).elim
     have hA1:li.getD (8+1) false=false:=by
      cases hx:li.getD (8+1) false
      ·rfl
      ·have hx0:=hcl.dep (i:=9) rfl hx 8 (by kernel_rfl);rw[hA]at hx0;cases hx0
     obtain⟨rfl,hfv⟩:=hf hA;refine gM (by kernel_rfl) hLO (wpOp_step rfl (fun K' hK'=>?_));go_simp;refine hK' _ _ ?_;exact RT.step 4 (Value.int IntKind.i64 (y.1.2)) hi rfl hA hA1 (by decide) hsz' hcl hfv rfl rfl
    ·have hA:li.getD 8 false=false:=by
      cases hx:li.getD 8 false
      ·rfl
      ·have hx7:=hcl.dep (i:=8) rfl hx 7 (by kernel_rfl);have hx5:=hcl.dep (i:=7) rfl hx7 5 (by kernel_rfl)
       exact(cX hl0 hx5).elim
     have hA1:li.getD (8+1) false=false:=by
      cases hx:li.getD (8+1) false
      ·rfl
      ·have hx0:=hcl.dep (i:=9) rfl hx 8 (by kernel_rfl);rw[hA]at hx0;cases hx0
     obtain⟨rfl,hfv⟩:=hf hA;have e3:vs 3=Value.int IntKind.i64 (a.c*b.c%101*x.1.2%101):=hfv 3 (bO hi rfl 3 (by kernel_rfl))
     have e4:vs 4=Value.int IntKind.i64 (y.1.2):=hfv 4 (bO hi rfl 4 (by kernel_rfl));refine gM (by kernel_rfl) hLO (wpOp_step rfl (fun K' hK'=>?_));go_simp;refine(oF _ _ _ r3.1 r3.2 r4.1 r4.2).mono ?_;rintro r' w' ⟨rfl,hw'⟩;obtain rfl:=hw'.symm;clear hw';refine hK' _ _ ?_;exact RT.step 5 (Value.int IntKind.i64 (a.c*b.c%101*x.1.2%101*y.1.2%101)) hi rfl hA hA1 (by decide) hsz' hcl hfv rfl (by first|(rw[←e3,←e4];done)|(rw[←e3,←e4];rfl))
    ·have hA:li.getD 8 false=false:=by
      cases hx:li.getD 8 false
      ·rfl
      ·have hx7:=hcl.dep (i:=8) rfl hx 7 (by kernel_rfl);have hx6:=hcl.dep (i:=7) rfl hx7 6 (by kernel_rfl)
       exact(cX hl0 hx6).elim
     have hA1:li.getD (8+1) false=false:=by
      cases hx:li.getD (8+1) false
      ·rfl
      ·have hx0:=hcl.dep (i:=9) rfl hx 8 (by kernel_rfl);rw[hA]at hx0;cases hx0
     obtain⟨rfl,hfv⟩:=hf hA;refine gM (by kernel_rfl) hLO (wpOp_step rfl (fun K' hK'=>?_));go_simp;refine hK' _ _ ?_;exact RT.step 6 (Value.agg #[Value.int IntKind.i64 (g.x-x.1.1),Value.int IntKind.i64 (g.y-y.1.1),Value.int IntKind.i64 (g.d-x.1.1),Value.int IntKind.i64 (g.e-y.1.1)]) hi rfl hA hA1 (by decide) hsz' hcl hfv rfl rfl
    ·have hA:li.getD 8 false=false:=by
      cases hx:li.getD 8 false
      ·rfl
      ·have hx7:=hcl.dep (i:=8) rfl hx 7 (by kernel_rfl);exact(cX hl0 hx7).elim
     have hA1:li.getD (8+1) false=false:=by
      cases hx:li.getD (8+1) false
      ·rfl
      ·have hx0:=hcl.dep (i:=9) rfl hx 8 (by kernel_rfl);rw[hA]at hx0;cases hx0
     obtain⟨rfl,hfv⟩:=hf hA;have e5:vs 5=Value.int IntKind.i64 (a.c*b.c%101*x.1.2%101*y.1.2%101):=hfv 5 (bO hi rfl 5 (by kernel_rfl))
     have e6:vs 6=Value.agg #[Value.int IntKind.i64 (g.x-x.1.1),Value.int IntKind.i64 (g.y-y.1.1),Value.int IntKind.i64 (g.d-x.1.1),Value.int IntKind.i64 (g.e-y.1.1)]:=hfv 6 (bO hi rfl 6 (by kernel_rfl));refine gM (by kernel_rfl) hLO (wpOp_step rfl (fun K' hK'=>?_));go_simp;refine hK' _ _ ?_;exact RT.step 7 (Value.agg #[Value.int IntKind.i64 (a.c*b.c%101*x.1.2%101*y.1.2%101),Value.int IntKind.i64 (g.x-x.1.1),Value.int IntKind.i64 (g.y-y.1.1),Value.int IntKind.i64 (g.d-x.1.1),Value.int IntKind.i64 (g.e-y.1.1)]) hi rfl hA hA1 (by decide) hsz' hcl hfv rfl (by first|(rw[←e5,←e6];done)|(rw[←e5,←e6];rfl))
    ·have hA:li.getD 8 false=false:=by rw[Array.getD_eq_getD_getElem?,fW hl0];rfl
     have hA1:li.getD (8+1) false=false:=by
      cases hx:li.getD (8+1) false
      ·rfl
      ·have hx0:=hcl.dep (i:=9) rfl hx 8 (by kernel_rfl);rw[hA]at hx0;cases hx0
     obtain⟨rfl,hfv⟩:=hf hA;have e0:vs 0=Value.func (Fn.yield l) #[] #[]:=hfv 0 (bO hi rfl 0 (by kernel_rfl))
     have e7:vs 7=Value.agg #[Value.int IntKind.i64 (a.c*b.c%101*x.1.2%101*y.1.2%101),Value.int IntKind.i64 (g.x-x.1.1),Value.int IntKind.i64 (g.y-y.1.1),Value.int IntKind.i64 (g.d-x.1.1),Value.int IntKind.i64 (g.e-y.1.1)]:=hfv 7 (bO hi rfl 7 (by kernel_rfl));refine GP rfl rfl (.tmp 51) (.tmp 58) #[86] rfl e0 _ e7 HYV.out ?_;rintro e W' ⟨rfl,hJ',hc',hk'⟩;exact⟨_,rfl,RT.last (.bool true) hi rfl (by decide) hA1 hsz' hcl ⟨rfl,by rw[List.map_append,←List.append_assoc];exact hJ',hc',hk'⟩ rfl⟩
    ·have hAt:li.getD 8 false=true:=bO hi rfl 8 (by kernel_rfl);have hA1:li.getD (8+1) false=false:=by rw[Array.getD_eq_getD_getElem?,fW hl0];rfl
     obtain⟨e8,hJ',hc',hk'⟩:=hy hAt hA1;refine gM (by kernel_rfl) hLO (wpOp_step rfl (fun K' hK'=>?_));go_simp;refine hK' _ _ ?_;exact RT.fin (.bool false) hi rfl hAt (by decide) hsz' hcl ⟨rfl,hJ',hc',hk'⟩ (by first|(rw[←e8];done)|(rw[←e8];rfl)|rfl)
   ·intro li b0 u hI hr3;obtain⟨vs,rfl,hsz',hcl,hf,hy,hz⟩:=hI;have hall:=xN (by kernel_rfl) hr3 hsz'
    exact⟨rfl,vs,rfl,hz (hall 9 (by decide))⟩
   ·rintro e b0 u ⟨rfl,vs,rfl,e9,hJ',hc',hk'⟩;rw[e9]
    gi_wp2
    have KF:KeepsFrom W.heap.size V u:=(hkV1.trans (show KeepsFrom W.heap.size V1 V1.drew from⟨Nat.le_refl _,fun k o _ hk _=>hk⟩)).trans hk';exact⟨rG KF (by omega),cN hcV1 (cN (tO V1) hc'),hJ',cN hcv (cN hcV1 (cN (tO V1) hc')),(rG hkv (by omega)).trans (rG KF (by omega))⟩
  case done2=>
   rintro ys V rfl ⟨hJv,hcv,hkv⟩
   gi_wp2
   exact⟨hkv,hcv,by rw[xT];exact hJv,cN hcu hcv⟩
  case stop2=>
   rintro c' pre' V _ hh;exact hh.elim
 case done=>
  rintro D xs' U hD rfl ⟨hJu,hcu⟩ hKd
  gi_wp2
  refine⟨by simp,.inl ⟨_,_,rfl,run_takeDeferred hKd,?_⟩⟩;exact⟨_,results_none rfl _ _ _,⟨_,rfl⟩,HJ.out.putObj _ hJu hD hKd rfl⟩
 case stop=>
  rintro D c' pre U _ _ hh _;exact hh.elim
end Go.Proofs.YtelkehjdfcoeiaaGreat
