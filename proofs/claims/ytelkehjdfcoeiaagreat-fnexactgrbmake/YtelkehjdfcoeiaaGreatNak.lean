/-
  A sum told as an operator.
-/
import Derived.Test.YtelkehjdfcoeiaaGreatNaj
import Derived.Shelf.SlSortCmp.WholeK
import Derived.Shelf.SlSortCmp.NoneTotal
import Derived.Deep.RegionWith
set_option maxHeartbeats 8000000
set_option maxRecDepth 100000
namespace Go.Proofs.YtelkehjdfcoeiaaGreat
open Go.RowKit Go.Maps Go.Sort Go.Shelf
set_option linter.unusedVariables false
attribute [local go_sem] Oper.semAt_some
theorem gD {W:World} {base base':Nat} {e:TypeId} {size:Nat} {v:Value} {n:Nat} {xs:List Value} (h:W.ownsRow base e size v n xs) (hb:base'≤base):W.ownsRow base' e size v n xs:=
 ⟨h.1,h.2.imp id (fun⟨g,cap,cur,a,b,r⟩=>⟨g,cap,cur,a,gW hb b,r⟩)⟩
theorem VM (hsort:uT) (w:World) (b n:Nat) (c:M→Int) (h:aV w b n c) (hn:n≤1000000) {K:List T} (hK:aH K) (hKc:∀m,m.ok=true→aI K m=c m) (h400:¬K.length≤400):Calls Tryz.prog 66 #[.map (some b)] w fun e w'=>e= .returned (.tuple #[.slice none 0 0,.bool false])∧Below w.heap.size w w':=by
 obtain⟨D,hown,hc,hat,hks⟩:=h;have hsz:=AQ hown hat hks hK hKc
 have hblt:=hown.lt;refine(callsIn_wide (n:=9)).1 ?_;refine callsIn_of_wp_marks Tryz.func66 rfl trivial ?_ rfl;simp only[Tryz.ntmps66,List.size_toArray,List.length_cons,List.length_nil,Nat.reduceAdd,Nat.reduceSub,Array.replicate_succ,Array.replicate_zero,List.push_toArray,List.append_toArray,List.nil_append,List.cons_append];have hlen:=(hown.alloc (.cells #[.map (some b)] 95)).len Tryz.underlying95 3
 have HO2:=aA ((hown.alloc (.cells #[.map (some b)] 95)).alloc (.cells #[.slice none 0 0] 41));have HKS:=aA hks
 have HAT:=aA hat;have HOW:=aA hown
 clear hks hat hown;have h4:(400:Int)<(Maps.size D:Int):=by omega
 gi_wp2_with gi_in
 exact⟨_,results_tmp2 rfl _ _ _,rfl,(bQ _ w).alloc (Nat.le_refl _) _⟩
def xM (W:World) (Bx:Nat) (m:M):Prop:=W.heap[Bx]? =some (.cells #[.int .i64 m.x,.int .i64 m.y,.int .i64 m.d,.int .i64 m.e] 84 (0,0))
theorem xM.cells {W:World} {Bx:Nat} {m:M} (h:xM W Bx m):W.cell? ⟨Bx,0,none⟩=some (.int .i64 m.x)∧W.cell? ⟨Bx,1,none⟩=some (.int .i64 m.y)∧W.cell? ⟨Bx,2,none⟩=some (.int .i64 m.d)∧W.cell? ⟨Bx,3,none⟩=some (.int .i64 m.e):=by unfold xM at h;refine⟨?_,?_,?_,?_⟩<;>(unfold World.cell?;simp only[h];rfl)
theorem BW (c:M→Int) (pre:List BA) (x:BA):aE ((pre++[x]).map (SR c))=aE (pre.map (SR c))++aE [SR c x]:=by rw[List.map_append,cK];rfl
theorem VN      (hsort:uT    ) (w:World) (b n:Nat) (c:M→Int) (h:aV   w b n c) (hn:n≤1000000) {K:List T} (hK:aH    K) (hKc:∀m,m.ok=true→aI   K m=c m) (h400:K.length≤400):Calls Tryz.prog 66 #[.map (some b)] w fun e w'=>∃v,e= .returned (.tuple #[v,.bool true])∧Below w.heap.size w w'∧w'.ownsRow w.heap.size 86 5 v K.length (aE     K):=by
 obtain⟨D,hown,hc,hat,hks⟩:=h;have hsz:=AQ     hown hat hks hK hKc
 have hblt:=hown.lt;refine(callsIn_wide (n:=9)).1 ?_;refine callsIn_of_wp_marks Tryz.func66 rfl trivial ?_ rfl;simp only[Tryz.ntmps66,List.size_toArray,List.length_cons,List.length_nil,Nat.reduceAdd,Nat.reduceSub,Array.replicate_succ,Array.replicate_zero,List.push_toArray,List.append_toArray,List.nil_append,List.cons_append];have hlen:=(hown.alloc (.cells #[.map (some b)] 95)).len Tryz.underlying95 3
 have HO2:=aA      ((hown.alloc (.cells #[.map (some b)] 95)).alloc (.cells #[.slice none 0 0] 41));have HKS:=aA      hks
 have HAT:=aA      hat;have HOW:=aA      hown
 clear hks hat hown;have h4:(Maps.size D:Int)≤400:=by omega
 gi_wp2_with (first
  |(refine⟨trivial,?_⟩;gi_at_call 110;refine(callsIn_wide.2 (TZ      hsort _ b n D HO2.out HKS.out hn)).mono ?_;rintro e W3 ⟨p,cap,dO,rfl,hs3,hm3,hl3,hv3,hp3,hb3⟩)
  |(refine⟨trivial,?_⟩;gi_at_call 109;refine(ZN    (F:=Fence.wide) trivial rfl _ _ _ _).mono ?_;rintro e w' ⟨rfl,rfl⟩)
  |gi_in)
 have hd:dO.length=K.length:=by omega
 obtain⟨Wb,hWb⟩:∃Wb,(w.alloc (.cells #[.map (some b)] 95)).alloc (.cells #[.slice none 0 0] 41)=Wb:=⟨_,rfl⟩
 rw[hWb]at hb3 hp3;have hsb:Wb.heap.size=w.heap.size+2:=by rw[←hWb];simp
 have hBb:Below w.heap.size w Wb:=by rw[←hWb];exact((bQ         _ w).alloc (Nat.le_refl _) _).alloc (by simp) _
 have bs0:Boxed Wb w.heap.size 95 (.map (some b)):=by rw[←hWb];exact(Boxed.new w _ _).alloc _
 have bp0:Boxed Wb (w.heap.size+1) 41 (.slice none 0 0):=by rw[←hWb];have:=Boxed.new (w.alloc (.cells #[.map (some b)] 95)) 41 (.slice none 0 0);rwa[World.size_alloc]at this
 have hs3':=hb3.size;obtain⟨W0,hW0⟩:∃W0,W3.alloc (.cells #[.slice p K.length cap] 151)=W0:=⟨_,rfl⟩
 rw[hW0];have hsz0:W0.heap.size=W3.heap.size+1:=by rw[←hW0];simp
 have hold:∀k,k<W3.heap.size→W0.heap[k]? =W3.heap[k]? :=fun k hk=>by rw[←hW0];exact Below.heap_alloc _ _ k hk
 have hB0:Below w.heap.size w W0:=by rw[←hW0];exact(hBb.trans (hb3.mono (by omega))).alloc (by omega) _
 have bs:Boxed W0 w.heap.size 95 (.map (some b)):=(hold _ (by omega)).trans ((hb3.block _ (by omega)).trans bs0);have bp:Boxed W0 (w.heap.size+1) 41 (.slice none 0 0):=(hold _ (by omega)).trans ((hb3.block _ (by omega)).trans bp0)
 have bm:Boxed W0 W3.heap.size 151 (.slice p dO.length cap):=by rw[←hW0,hd];exact Boxed.new W3 _ _
 have hrow0:xD   W0 p (dO.map (·.1)):=hv3.keep (by omega) (fun g e=>hold g (hp3 g e).2);have hpl:∀k,p=some ⟨k,0,none⟩→k<W0.heap.size:=fun k e=>by have:=(hp3 k e).2;omega
 have HL:=aA      (XX     hc hs3 (fun m hm=>(hm3 m hm).trans (HAT.out m hm).2) hK hKc);have HP3:=aA      hp3
 have HSEQ:=aA      (KM        (n:=8) (by omega) W3.heap.size cap p dO (by omega) W0 (by omega) bm.cell hrow0 hpl);clear hW0 hWb hb3 hs3 hm3 hv3 hrow0 hl3 hsz h4 hlen HO2 HKS hold bs0 bp0 hp3
 refine wpIn_rangeFunc_ownH (w0:=W0) rfl (by decide) (gf:=148) (lb:=#[.pointer (some ⟨W3.heap.size,0,none⟩)]) rfl trivial (enters_of Tryz.func148 (by kernel_rfl) rfl) HSEQ.out TY      (TX      (by omega) hpl) (bQ         _ _) (fun _=>rfl)
  (fun(pre:List BA) W=>(Boxed W w.heap.size 95 (.map (some b))∧∃v,Boxed W (w.heap.size+1) 41 v∧W.ownsRow W0.heap.size 86 5 v pre.length (aE     (pre.map (SR  c)))∧True)∧(Below w.heap.size w W∧W0.heap.size≤W.heap.size))
  (fun _ _ _=>False)
  (OwnFrom.and (OwnFrom.and (Own.from (boxed_own _ _ (fun _=>Value.map (some b))) _) (Own.from (holdsRow_own W0.heap.size (w.heap.size+1) 41 86 5 (fun(pre:List BA)=>pre.length) (fun pre=>aE     (pre.map (SR  c))) (fun _ _=>True)) _)) (OwnFrom.and (ownFrom_below (Nat.le_refl _) (by omega)) (fun _ _ _ _ hs hg _=>gW           hs hg.size)))
  (fun _ _ _ _ _ hs _ _=>hs)
  ⟨⟨bs,_,bp,⟨rfl,.inl ⟨rfl,rfl⟩⟩,trivial⟩,hB0,Nat.le_refl _⟩
  (fun x a' W=>∃Bx,W0.heap.size≤Bx∧xM    W Bx x.2.1∧a'=({tmps:=#[Value.map (some b),Value.pointer (some ⟨w.heap.size,0,none⟩),Value.slice none 0 0,Value.bool false,Value.pointer (some ⟨w.heap.size+1,0,none⟩),undef,Value.pointer (some ⟨Bx,0,none⟩),Value.map (some b),Value.int IntKind.i64 (K.length:Int),Value.bool (decide (400<(K.length:Int))),Value.map (some b),Value.slice p K.length cap,Value.func (Fn.func 148) #[] #[Value.pointer (some ⟨W3.heap.size,0,none⟩)],Value.int IntKind.i64 (x.1:Int),Value.agg #[Value.int IntKind.i64 x.2.1.x,Value.int IntKind.i64 x.2.1.y,Value.int IntKind.i64 x.2.1.d,Value.int IntKind.i64 x.2.1.e],undef,undef,undef,undef,undef,undef,undef,undef,undef],defers:=[]}:Act))
  (fun x a' _ X Y row hs hg hr=>by
   obtain⟨Bx,h1,h2,h3⟩:=hs;refine⟨Bx,h1,(hg.block Bx (Array.getElem?_eq_some_iff.1 h2).1 (fun e=>?_)).trans h2,h3⟩;obtain⟨_,o,ho,hoc⟩:=hr Bx e.symm
   rw[h2]at ho;cases ho;cases hoc)
  ?assign ?body ?done ?stop
 case assign=>
  rintro l pre x W K' ⟨⟨bS,v,bP,hrow,_⟩,hB,hWs⟩ hK';obtain⟨i,m,hm⟩:=x;dsimp only[TJ  ]at hK'⊢;have hsB:=hB.size
  gi_wp2
  refine hK' _ _ ((KeepsOthers.alloc _ _).from _) ⟨by simp,fun k hk=>Below.heap_alloc _ _ k ?_⟩ ⟨⟨bS.alloc _,v,bP.alloc _,hrow.alloc _,trivial⟩,hB.alloc hB.size _,by simp;omega⟩ ⟨W.heap.size,?_,World.alloc_heap_new W _,rfl⟩
  ·rcases hk with rfl|hk
   ·omega
   ·have:=hpl k hk;omega
  ·exact hWs
 case body=>
  rintro l pre x a' W hl ⟨r,hr⟩ ⟨⟨bS,v,bP,hrow,_⟩,hB,hWs⟩ ⟨Bx,hBx,hX,rfl⟩ hlt;obtain⟨i,m,hm⟩:=x;dsimp only at hX⊢;obtain⟨i0,hi0,hz0,hz1,hz2⟩:=info_parts ZX   ;have hBxl:Bx<W.heap.size:=(Array.getElem?_eq_some_iff.1 hX).1
  have HROW:=aA      hrow;have HOWN:=aA      (pI            HOW.out (hB.block b hblt))
  have hlt':pre.length<400:=by omega
  have hsB:=hB.size;clear hr hrow
  gi_wp2_with fail
  refine MK        (fun vs:Nat→Value=>({tmps:=#[Value.map (some b),Value.pointer (some ⟨w.heap.size,0,none⟩),Value.slice none 0 0,Value.bool false,Value.pointer (some ⟨w.heap.size+1,0,none⟩),undef,Value.pointer (some ⟨Bx,0,none⟩),Value.map (some b),Value.int IntKind.i64 (K.length:Int),Value.bool (decide (400<(K.length:Int))),Value.map (some b),Value.slice p K.length cap,Value.func (Fn.func 148) #[] #[Value.pointer (some ⟨W3.heap.size,0,none⟩)],Value.int IntKind.i64 (i:Int),Value.agg #[Value.int IntKind.i64 m.x,Value.int IntKind.i64 m.y,Value.int IntKind.i64 m.d,Value.int IntKind.i64 m.e],vs 0,vs 1,vs 2,vs 3,vs 4,vs 5,vs 6,vs 7,undef],defers:=[]}:Act))
   (fun k u z=>match k with
    |0=>z=v
    |1=>z=Value.map (some b)
    |2=>z=Value.agg #[Value.int IntKind.i64 m.x,Value.int IntKind.i64 m.y,Value.int IntKind.i64 m.d,Value.int IntKind.i64 m.e]
    |3=>z=Value.int IntKind.i64 (c m)
    |4=>z=Value.agg #[Value.int IntKind.i64 m.x,Value.int IntKind.i64 m.y,Value.int IntKind.i64 m.d,Value.int IntKind.i64 m.e]
    |5=>z=Value.agg #[Value.int IntKind.i64 (c m),Value.int IntKind.i64 m.x,Value.int IntKind.i64 m.y,Value.int IntKind.i64 m.d,Value.int IntKind.i64 m.e]
    |6=>∃bb,z=Value.slice (some ⟨bb,0,none⟩) 1 1∧bb<u.heap.size∧u.heap[bb]? =some (.cells #[Value.int IntKind.i64 (c m),Value.int IntKind.i64 m.x,Value.int IntKind.i64 m.y,Value.int IntKind.i64 m.d,Value.int IntKind.i64 m.e] 86 (0,0))
    |_=>True) 9 7 W
   (fun u z=>∃g0 cap0,z=Value.slice (some ⟨g0,0,none⟩) (pre.length+1) cap0∧u.ownsRow W0.heap.size 86 5 z (pre.length+1) (aE     (pre.map (SR  c))++aE     [(⟨c m,m⟩:T)])∧Below W0.heap.size W u∧KeepsOthers W u)
   (fun u=>KeepsFrom W0.heap.size W u∧vK    W3.heap.size p W u∧(Boxed u w.heap.size 95 (.map (some b))∧∃v,Boxed u (w.heap.size+1) 41 v∧u.ownsRow W0.heap.size 86 5 v (pre.length+1) (aE     (pre.map (SR  c))++aE     [(⟨c m,m⟩:T)])∧True)∧(Below w.heap.size w u∧W0.heap.size≤u.heap.size))
   (by kernel_rfl) (by kernel_rfl) (fun⟨_,_,hq⟩=>hq) ?_ ?_ ?_
  ·exact RS.start (fun _=>undef) rfl
  ·intro l' b0 u hI i' hi;obtain⟨vs,rfl,hsz',hcl,hf,hy,hz⟩:=hI
   have hPm:∀k u u' z,(fun(k:Nat) (u:World) (z:Value)=>match k with
    |0=>z=v
    |1=>z=Value.map (some b)
    |2=>z=Value.agg #[Value.int IntKind.i64 m.x,Value.int IntKind.i64 m.y,Value.int IntKind.i64 m.d,Value.int IntKind.i64 m.e]
    |3=>z=Value.int IntKind.i64 (c m)
    |4=>z=Value.agg #[Value.int IntKind.i64 m.x,Value.int IntKind.i64 m.y,Value.int IntKind.i64 m.d,Value.int IntKind.i64 m.e]
    |5=>z=Value.agg #[Value.int IntKind.i64 (c m),Value.int IntKind.i64 m.x,Value.int IntKind.i64 m.y,Value.int IntKind.i64 m.d,Value.int IntKind.i64 m.e]
    |6=>∃bb,z=Value.slice (some ⟨bb,0,none⟩) 1 1∧bb<u.heap.size∧u.heap[bb]? =some (.cells #[Value.int IntKind.i64 (c m),Value.int IntKind.i64 m.x,Value.int IntKind.i64 m.y,Value.int IntKind.i64 m.d,Value.int IntKind.i64 m.e] 86 (0,0))
    |_=>True) k u z→Below u.heap.size u u'→(fun(k:Nat) (u:World) (z:Value)=>match k with
    |0=>z=v
    |1=>z=Value.map (some b)
    |2=>z=Value.agg #[Value.int IntKind.i64 m.x,Value.int IntKind.i64 m.y,Value.int IntKind.i64 m.d,Value.int IntKind.i64 m.e]
    |3=>z=Value.int IntKind.i64 (c m)
    |4=>z=Value.agg #[Value.int IntKind.i64 m.x,Value.int IntKind.i64 m.y,Value.int IntKind.i64 m.d,Value.int IntKind.i64 m.e]
    |5=>z=Value.agg #[Value.int IntKind.i64 (c m),Value.int IntKind.i64 m.x,Value.int IntKind.i64 m.y,Value.int IntKind.i64 m.d,Value.int IntKind.i64 m.e]
    |6=>∃bb,z=Value.slice (some ⟨bb,0,none⟩) 1 1∧bb<u.heap.size∧u.heap[bb]? =some (.cells #[Value.int IntKind.i64 (c m),Value.int IntKind.i64 m.x,Value.int IntKind.i64 m.y,Value.int IntKind.i64 m.d,Value.int IntKind.i64 m.e] 86 (0,0))
    |_=>True) k u' z:=by
    intro k u u' z hp hbl;match k with
    |0|1|2|3|4|5=>exact hp
    |6=>obtain⟨bb,h1,h2,h3⟩:=hp;exact⟨bb,h1,iZ                 h2 hbl.size,(hbl.block bb h2).trans h3⟩
    |_+7=>trivial
   have hl0:=(mem_ready.1 hi).1;have hi9:i'<9:=by obtain⟨_,o,ho,_⟩:=mem_ready.1 hi;exact(Array.getElem?_eq_some_iff.1 ho).1
   rcases(show i'=0∨i'=1∨i'=2∨i'=3∨i'=4∨i'=5∨i'=6∨i'=7∨i'=8 from by omega)with rfl|rfl|rfl|rfl|rfl|rfl|rfl|rfl|rfl
   ·have hA:l'.getD 7 false=false:=by
     cases hx:l'.getD 7 false
     ·rfl
     ·have hx0:=hcl.dep (i:=7) rfl hx 0 (by kernel_rfl);exact(cX        hl0 hx0).elim
    have hA1:l'.getD (7+1) false=false:=by
     cases hx:l'.getD (7+1) false
     ·rfl
     ·have hx0:=hcl.dep (i:=8) rfl hx 7 (by kernel_rfl);rw[hA]at hx0;cases hx0
    have hbu:=(hf hA).1;have p0:u.cell? ⟨w.heap.size+1,0,none⟩=some v:=(nC                   (w:=W) (a:=⟨w.heap.size+1,0,none⟩) (hbu.block (w.heap.size+1) (by omega))).trans bP.cell
    refine wpOp_step rfl (fun K' hK'=>?_);go_simp;refine hK' _ _ ?_;exact RS.step 0 (v) hPm hi rfl hA hA1 (by decide) hsz' hcl hf (bQ         _ u) rfl rfl
   ·have hA:l'.getD 7 false=false:=by
     cases hx:l'.getD 7 false
     ·rfl
     ·have hx6:=hcl.dep (i:=7) rfl hx 6 (by kernel_rfl);have hx5:=hcl.dep (i:=6) rfl hx6 5 (by kernel_rfl)
      have hx3:=hcl.dep (i:=5) rfl hx5 3 (by kernel_rfl);have hx1:=hcl.dep (i:=3) rfl hx3 1 (by kernel_rfl)
      exact(cX        hl0 hx1).elim
    have hA1:l'.getD (7+1) false=false:=by
     cases hx:l'.getD (7+1) false
     ·rfl
     ·have hx0:=hcl.dep (i:=8) rfl hx 7 (by kernel_rfl);rw[hA]at hx0;cases hx0
    have hbu:=(hf hA).1;have p1:u.cell? ⟨w.heap.size,0,none⟩=some (.map (some b)):=(nC                   (w:=W) (a:=⟨w.heap.size,0,none⟩) (hbu.block w.heap.size (by omega))).trans bS.cell
    refine wpOp_step rfl (fun K' hK'=>?_);go_simp;refine hK' _ _ ?_;exact RS.step 1 (Value.map (some b)) hPm hi rfl hA hA1 (by decide) hsz' hcl hf (bQ         _ u) rfl rfl
   ·have hA:l'.getD 7 false=false:=by
     cases hx:l'.getD 7 false
     ·rfl
     ·have hx6:=hcl.dep (i:=7) rfl hx 6 (by kernel_rfl);have hx5:=hcl.dep (i:=6) rfl hx6 5 (by kernel_rfl)
      have hx3:=hcl.dep (i:=5) rfl hx5 3 (by kernel_rfl);have hx2:=hcl.dep (i:=3) rfl hx3 2 (by kernel_rfl)
      exact(cX        hl0 hx2).elim
    have hA1:l'.getD (7+1) false=false:=by
     cases hx:l'.getD (7+1) false
     ·rfl
     ·have hx0:=hcl.dep (i:=8) rfl hx 7 (by kernel_rfl);rw[hA]at hx0;cases hx0
    have hbu:=(hf hA).1;have hXu:xM    u Bx m:=(hbu.block Bx hBxl).trans hX
    obtain⟨x0,x1,x2,x3⟩:=hXu.cells;refine wpOp_step rfl (fun K' hK'=>?_);go_simp;refine hK' _ _ ?_;exact RS.step 2 (Value.agg #[Value.int IntKind.i64 m.x,Value.int IntKind.i64 m.y,Value.int IntKind.i64 m.d,Value.int IntKind.i64 m.e]) hPm hi rfl hA hA1 (by decide) hsz' hcl hf (bQ         _ u) rfl rfl
   ·have hA:l'.getD 7 false=false:=by
     cases hx:l'.getD 7 false
     ·rfl
     ·have hx6:=hcl.dep (i:=7) rfl hx 6 (by kernel_rfl);have hx5:=hcl.dep (i:=6) rfl hx6 5 (by kernel_rfl)
      have hx3:=hcl.dep (i:=5) rfl hx5 3 (by kernel_rfl);exact(cX        hl0 hx3).elim
    have hA1:l'.getD (7+1) false=false:=by
     cases hx:l'.getD (7+1) false
     ·rfl
     ·have hx0:=hcl.dep (i:=8) rfl hx 7 (by kernel_rfl);rw[hA]at hx0;cases hx0
    have hbu:=(hf hA).1;have e1:vs 1=Value.map (some b):=(hf hA).2 1 (bO         hi rfl 1 (by kernel_rfl))
    have e2:vs 2=Value.agg #[Value.int IntKind.i64 m.x,Value.int IntKind.i64 m.y,Value.int IntKind.i64 m.d,Value.int IntKind.i64 m.e]:=(hf hA).2 2 (bO         hi rfl 2 (by kernel_rfl));have hownu:u.ownsMap Tryz.prog 84 (plainElem Tryz.prog 131) b n D:=pI            HOWN.out (hbu.block b (by omega))
    refine wpOp_step rfl (fun K' hK'=>?_);refine EQ          rfl (.tmp 16) (.tmp 17) 95 rfl 84 131 .i64 jK   Tryz.underlying95 Tryz.underlying131 (SL    _) b n D e1 hownu _ _ e2 (lJ     hm) ?_;intro c1 hat1;obtain rfl:c1=c m:=by rw[(HAT.out m hm).1]at hat1;simpa using hat1.symm
    refine hK' _ _ ?_;exact RS.step 3 (Value.int IntKind.i64 (c m)) hPm hi rfl hA hA1 (by decide) hsz' hcl hf (bQ         _ u) rfl rfl
   ·have hA:l'.getD 7 false=false:=by
     cases hx:l'.getD 7 false
     ·rfl
     ·have hx6:=hcl.dep (i:=7) rfl hx 6 (by kernel_rfl);have hx5:=hcl.dep (i:=6) rfl hx6 5 (by kernel_rfl)
      have hx4:=hcl.dep (i:=5) rfl hx5 4 (by kernel_rfl);exact(cX        hl0 hx4).elim
    have hA1:l'.getD (7+1) false=false:=by
     cases hx:l'.getD (7+1) false
     ·rfl
     ·have hx0:=hcl.dep (i:=8) rfl hx 7 (by kernel_rfl);rw[hA]at hx0;cases hx0
    have hbu:=(hf hA).1;have hXu:xM    u Bx m:=(hbu.block Bx hBxl).trans hX
    obtain⟨x0,x1,x2,x3⟩:=hXu.cells;refine wpOp_step rfl (fun K' hK'=>?_);go_simp;refine hK' _ _ ?_;exact RS.step 4 (Value.agg #[Value.int IntKind.i64 m.x,Value.int IntKind.i64 m.y,Value.int IntKind.i64 m.d,Value.int IntKind.i64 m.e]) hPm hi rfl hA hA1 (by decide) hsz' hcl hf (bQ         _ u) rfl rfl
   ·have hA:l'.getD 7 false=false:=by
     cases hx:l'.getD 7 false
     ·rfl
     ·have hx6:=hcl.dep (i:=7) rfl hx 6 (by kernel_rfl);have hx5:=hcl.dep (i:=6) rfl hx6 5 (by kernel_rfl)
      exact(cX        hl0 hx5).elim
    have hA1:l'.getD (7+1) false=false:=by
     cases hx:l'.getD (7+1) false
     ·rfl
     ·have hx0:=hcl.dep (i:=8) rfl hx 7 (by kernel_rfl);rw[hA]at hx0;cases hx0
    have hbu:=(hf hA).1;have e3:vs 3=Value.int IntKind.i64 (c m):=(hf hA).2 3 (bO         hi rfl 3 (by kernel_rfl))
    have e4:vs 4=Value.agg #[Value.int IntKind.i64 m.x,Value.int IntKind.i64 m.y,Value.int IntKind.i64 m.d,Value.int IntKind.i64 m.e]:=(hf hA).2 4 (bO         hi rfl 4 (by kernel_rfl));refine wpOp_step rfl (fun K' hK'=>?_);go_simp;refine hK' _ _ ?_;exact RS.step 5 (Value.agg #[Value.int IntKind.i64 (c m),Value.int IntKind.i64 m.x,Value.int IntKind.i64 m.y,Value.int IntKind.i64 m.d,Value.int IntKind.i64 m.e]) hPm hi rfl hA hA1 (by decide) hsz' hcl hf (bQ         _ u) rfl (by first|(rw[←e3,←e4];done)|(rw[←e3,←e4];rfl))
   ·have hA:l'.getD 7 false=false:=by
     cases hx:l'.getD 7 false
     ·rfl
     ·have hx6:=hcl.dep (i:=7) rfl hx 6 (by kernel_rfl);exact(cX        hl0 hx6).elim
    have hA1:l'.getD (7+1) false=false:=by
     cases hx:l'.getD (7+1) false
     ·rfl
     ·have hx0:=hcl.dep (i:=8) rfl hx 7 (by kernel_rfl);rw[hA]at hx0;cases hx0
    have hbu:=(hf hA).1;have e5:vs 5=Value.agg #[Value.int IntKind.i64 (c m),Value.int IntKind.i64 m.x,Value.int IntKind.i64 m.y,Value.int IntKind.i64 m.d,Value.int IntKind.i64 m.e]:=(hf hA).2 5 (bO         hi rfl 5 (by kernel_rfl))
    refine wpOp_step rfl (fun K' hK'=>?_);go_simp;refine hK' _ _ ?_;exact RS.step 6 (Value.slice (some ⟨u.heap.size,0,none⟩) 1 1) hPm hi rfl hA hA1 (by decide) hsz' hcl hf (aC      u _) ⟨u.heap.size,rfl,by simp,heap_alloc_new u _⟩ (by first|(rw[←e5];done)|(rw[←e5];rfl))
   ·have hA:l'.getD 7 false=false:=by rw[Array.getD_eq_getD_getElem?,fW         hl0];rfl
    have hA1:l'.getD (7+1) false=false:=by
     cases hx:l'.getD (7+1) false
     ·rfl
     ·have hx0:=hcl.dep (i:=8) rfl hx 7 (by kernel_rfl);rw[hA]at hx0;cases hx0
    have hbu:=(hf hA).1;have e0:vs 0=v:=(hf hA).2 0 (bO         hi rfl 0 (by kernel_rfl))
    obtain⟨bb,e1,hbl,hbc⟩:=(hf hA).2 6 (bO         hi rfl 6 (by kernel_rfl));have hsu:=hbu.size
    have HOX:=dY         HROW.out hbu;refine wpOp_step rfl (fun K' hK'=>?_);refine step_append_lies _ rfl (.tmp 15) (.tmp 21) 41 rfl W0.heap.size 86 i0 _ 5 40 Tryz.underlying41 hi0 hz0 hz1 hz2 rfl (by omega) _ pre.length (aE     (pre.map (SR  c))) e0 HOX ⟨bb,0,none⟩ 1 1 (aE     [(⟨c m,m⟩:T)]) e1 (by rw[bJ           ];rfl) (by rw[dX        ];exact World.news_of_block hbc) (fK        _) (by omega) (by unfold maxLen;omega) (by omega) (by omega) _ rfl ?_;intro g0 cap0 w9 hown1 hgrow hat1 hlt1;refine hK' _ _ ?_;have hrw:∀k,v.ownBlock=some k→W0.heap.size≤k:=fun k hk=>(HOX.lt k hk).1
    refine RS.last (.slice (some ⟨g0,0,none⟩) (pre.length+1) cap0) hi rfl (by decide) hA1 hsz' hcl ⟨g0,cap0,rfl,hown1,?_,?_⟩ rfl
    ·exact(hbu.mono hWs).grown hgrow (by omega) (fun k hk=>hrw k hk)
    ·refine(KeepsOthers.mk hbu.size (fun k o hk ho=>(hbu.block k (Array.getElem?_eq_some_iff.1 hk).1).trans hk)).trans (KeepsOthers.of_grownBy hgrow fun j o ej hj=>?_);rcases HOX.2 with⟨rfl,_⟩|⟨g,cap1,cur,rfl,_,hgb,_⟩
     ·simp[Value.ownBlock]at ej
     ·obtain rfl:g=j:=by simpa[Value.ownBlock]using ej
      rw[hgb]at hj;cases hj;rfl
   ·have hAt:l'.getD 7 false=true:=bO         hi rfl 7 (by kernel_rfl);have hA1:l'.getD (7+1) false=false:=by rw[Array.getD_eq_getD_getElem?,fW         hl0];rfl
    obtain⟨g0,cap0,e7,hown1,hbW,hkW⟩:=hy hAt hA1;have bPu:Boxed u (w.heap.size+1) 41 v:=(hbW.block _ (by omega)).trans bP
    have bSu:Boxed u w.heap.size 95 (.map (some b)):=(hbW.block _ (by omega)).trans bS;have p0:=bPu.cell
    have q0:=bPu.frozen;have hsu:=hbW.size
    rw[e7]at hown1;refine wpOp_step rfl (fun K' hK'=>?_);go_simp;refine hK' _ _ ?_;refine RS.put hi rfl hAt (by decide) hsz' hcl ⟨(hkW.trans (KeepsOthers.setCell _ _ _)).from _,⟨?_,fun k hk=>?_⟩,⟨bSu.other (by omega) _,_,bPu.set _,hown1.kept (grownBy_setCell' u _ _) (.inr (bPu.not_row (by decide) hown1).symm),trivial⟩,((hB.trans (hbW.mono (by omega))).setCell (p:=⟨w.heap.size+1,0,none⟩) (by simp) _),?_⟩ (by first|(rw[←e7];done)|(rw[←e7];rfl)|rfl)
    ·exact gW           hsu (grownBy_setCell' u _ _).size
    ·have hkl:k<W0.heap.size∧k≠w.heap.size+1:=by
      rcases hk with rfl|hk
      ·omega
      ·have h1:=hpl k hk;have h2:=(HP3.out k hk).1
       omega
     rw[Below.heap_setCell _ _ _ k hkl.2];exact hbW.block k hkl.1
    ·exact gW           (gW           hWs hsu) (grownBy_setCell' u _ _).size
  ·intro l' b0 u hI hr;obtain⟨vs,rfl,hsz',hcl,hf,hy,hz⟩:=hI;have hall:=xN        (by kernel_rfl) hr hsz'
   obtain⟨z1,z2,⟨z3,v',z4,z5,_⟩,z6,z7⟩:=hz (hall 8 (by decide));exact⟨z1,z2,⟨z3,v',z4,by rw[BW         ,List.length_append];exact z5,trivial⟩,z6,z7⟩
 case done=>
  rintro D' xs W hD rfl ⟨⟨bS,v,bP,hrow,_⟩,hB,hWs⟩ hKd;have cP:=bP.cell
  gi_wp2
  refine⟨by simp,.inl ⟨_,_,rfl,run_takeDeferred hKd,?_⟩⟩;refine⟨_,results_tmp2 rfl _ _ _,v,rfl,hB.trans (belowK_b (w:=w) (Nat.le_refl _) W D' _ _ (by omega) hKd rfl rfl),?_⟩;have:=ownsRow_putObj hrow (.deferred none) hKd rfl
  rw[HL.out,qR          ,Nat.sub_zero,hd]at this;exact gD          this (by omega)
 case stop=>
  rintro D' c' pre W _ _ h _;exact h.elim
end Go.Proofs.YtelkehjdfcoeiaaGreat
namespace Go.Proofs.YtelkehjdfcoeiaaGreat
open Go.RowKit Go.Maps Go.Sort Go.Shelf Go.Lib
set_option linter.unusedVariables false
theorem RN:uT:=by
 have eg:∀args w,(callFunc 151 args).run Tryz.prog w= .ok (.enter 151 args) w:=enters_of Tryz.func151 (by kernel_rfl) rfl;refine⟨fun Br W gb cap d hB hne hr hH hgb hsz=>?_,fun p cap fv W=>?_⟩
 ·have hcon:=AnyQ.slices_SortFunc sortM 4 (fun w=>Tryz.isAgg84 w) (fun w=>Tryz.sizeOf84 w) dJ (fun _=>rfl) (fun x v hv=>by simp[dJ]at hv;rcases hv with rfl|rfl|rfl|rfl<;>rfl) (fun x y=>c3 (dI x.1) (dI y.1)) Da 151 #[.pointer (some ⟨Br,0,none⟩)] gb 0 cap d W eg (NX Br gb 0 d.size W hB hne hr) hH hgb hsz;exact hcon
 ·exact AnyF.slices_SortFunc_none {sortM with} p cap fv W
end Go.Proofs.YtelkehjdfcoeiaaGreat
namespace Go.Proofs.YtelkehjdfcoeiaaGreat
open Go.RowKit Go.Maps
set_option linter.unusedVariables false
def fT (k:Int) (f:Nat→T) (c:M→Int):Nat→M→Int
 |0=>c
 |i+1=>kM (fT k f c i) (f i).m (k*(f i).c%101)
theorem vG (w:World):w.grownBy w.drew none:=⟨rfl,rfl,rfl,Nat.le_refl _,fun _ _ _=>rfl⟩
theorem LE {w w':World} {row:Option Nat} (h:w.grownBy w' none):w.grownBy w' row:=⟨h.os,h.tape,h.output,h.size,fun k hk _=>h.block k hk (by simp)⟩
theorem oE (w:World) (b n:Nat) (c:M→Int) (k:Int) (a:Option Addr) (la cap:Nat) (f:Nat→T) (h:aV w b n c) (hr:Rd w a la cap f) (hne:la=0∨∀b' off,a=some ⟨b',off,none⟩→some b'≠some b) (hm:∀i,i<la→(f i).m.ok=true) (hc:∀i,i<la→0≤(f i).c∧(f i).c≤100) (k0:0≤k) (k1:k≤100) (hn:n+la≤1000000) (hb:b<w.heap.size):Calls Tryz.prog 137 #[.map (some b),.int .i64 k,.slice a la cap] w fun e w'=>e= .returned (.tuple #[])∧aV w' b (n+la) (fT k f c la)∧w.grownBy w' (some b):=by
 have HR:=aA hr;have HS:=aA h
 have HM:=aA hm;have HC:=aA hc
 have HNE:=aA hne;have hl:(la:Int)≤1000000:=by omega
 clear h hr hm hc hne;go_enter Tryz.func137,Tryz.ntmps137;go_wp2;go_loopw [10] (fun i wr=>∃j:Nat,j≤la∧i= .int .i64 j∧aV wr b (n+j) (fT k f c j)∧w.grownBy wr (some b)) (fun i _=>la-(intOf i).toNat);case atStart=>exact⟨0,Nat.zero_le _,rfl,HS.out,pQ w _⟩
 case round=>
  obtain⟨j,hj,rfl,hS,hg⟩:=hrel;by_cases hlt:j<la
  ·have hjl:(j:Int)<(la:Int):=by omega
   have hrj:=HR.out.grown hg HNE.out;rcases hrj.2.2 with h0|⟨pb,off,rfl,hblt,hcl⟩
   ·omega
   obtain⟨g0,g1,g2,g3,g4⟩:=hcl j hlt;have hmj:=HM.out j hlt
   obtain⟨c0,c1⟩:=HC.out j hlt;have HSJ:=aA hS
   have HG:=aA hg;clear hcl hrj hS hg;go_wp2_with fail;have HSQ:=aA (HSJ.out.grown (World.grownBy_alloc wr (.cells #[.int .i64 (f j).c,.int .i64 (f j).m.x,.int .i64 (f j).m.y,.int .i64 (f j).m.d,.int .i64 (f j).m.e] 86) none) (by simp))
   have HGQ:=aA (HG.out.trans (World.grownBy_alloc wr (.cells #[.int .i64 (f j).c,.int .i64 (f j).m.x,.int .i64 (f j).m.y,.int .i64 (f j).m.d,.int .i64 (f j).m.e] 86) (some b)));have hq:∀i v,#[Value.int .i64 (f j).c,.int .i64 (f j).m.x,.int .i64 (f j).m.y,.int .i64 (f j).m.d,.int .i64 (f j).m.e][i]? =some v→(wr.alloc (.cells #[.int .i64 (f j).c,.int .i64 (f j).m.x,.int .i64 (f j).m.y,.int .i64 (f j).m.d,.int .i64 (f j).m.e] 86)).cell? ⟨wr.heap.size,i,none⟩=some v:=fun i v hv=>by rw[World.cell?_alloc_at _ _ _ _ rfl];exact hv
   have q0:=hq 0 _ rfl;have q1:=hq 1 _ rfl
   have q2:=hq 2 _ rfl;have q3:=hq 3 _ rfl
   have q4:=hq 4 _ rfl;clear hq g0 g1 g2 g3 g4 HSJ HG;generalize(wr.alloc (.cells #[.int .i64 (f j).c,.int .i64 (f j).m.x,.int .i64 (f j).m.y,.int .i64 (f j).m.d,.int .i64 (f j).m.e] 86))=wq at HSQ HGQ q0 q1 q2 q3 q4⊢;have HADD:=aA (AX b (n+j) (fT k f c j) (k*(f j).c%101) (f j).m wq.drew hmj (HSQ.out.grown (vG wq) (by simp)) (by unfold maxLen;omega) (by omega) (by omega))
   go_region_with (first|(go_at_call 94;refine(oF _ _ _ k0 k1 c0 c1).mono ?_;rintro r w2 ⟨rfl,hw⟩;obtain rfl:=hw.symm;clear hw)|(go_at_call 145;refine HADD.out.mono ?_;rintro r w4 ⟨rfl,hS4,hg4⟩;have HS4:=aA hS4;have HG4:=aA ((HGQ.out.trans (LE (vG wq))).trans hg4);clear hS4 hg4))
   all_goals
    go_wp2;go_roundw;case rel=>exact⟨j+1,by omega,by go_num,HS4.out,HG4.out⟩
    case measure=>simp[intOf];omega
  ·obtain rfl:j=la:=by omega
   have HSJ:=aA hS;have HG:=aA hg
   clear hS hg;go_wp2
   go_end0
   exact⟨rfl,HSJ.out,HG.out⟩
end Go.Proofs.YtelkehjdfcoeiaaGreat
namespace Go.Proofs.YtelkehjdfcoeiaaGreat
open Go.RowKit
set_option linter.unusedVariables false
theorem vF {f:Nat→T} {m:M}:∀(u i:Nat),(f (i+u)).m≠m→cD f (u+1) i m=cD f u i m
 |0,i,h=>by show(if fZ (f i).m m=true then(f i).c else 0)=0;exact if_neg (fun e=>h (bM.1 e))
 |u+1,i,h=>by
  have:=vF (f:=f) (m:=m) u (i+1) (by rw[show i+1+u=i+(u+1) by omega];exact h);show(if fZ (f i).m m=true then(f i).c else cD f (u+1) (i+1) m)=(if fZ (f i).m m=true then(f i).c else cD f u (i+1) m)
  rw[this]
theorem xX {f:Nat→T} {m:M}:∀(u i:Nat),(∀j,i≤j→j<i+u→(f j).m≠m)→(f (i+u)).m=m→cD f (u+1) i m=(f (i+u)).c
 |0,i,_,h=>by show(if fZ (f i).m m=true then(f i).c else 0)=(f i).c;exact if_pos (bM.2 h)
 |u+1,i,h0,h=>by
  rw[cD,if_neg (fun e=>h0 i (Nat.le_refl _) (by omega) (bM.1 e))];have:=xX (f:=f) (m:=m) u (i+1) (fun j h1 h2=>h0 j (by omega) (by omega)) (by rw[show i+1+u=i+(u+1) by omega];exact h)
  rw[this,show i+1+u=i+(u+1) by omega]
theorem jY {k:Int} {f:Nat→T} {c:M→Int} {n:Nat} (F:Fl f n) (hc:∀m,0≤c m∧c m≤100):∀(i:Nat),i≤n→∀m,fT k f c i m=(c m+k*cD f i 0 m%101)%101
 |0,_,m=>by have:=hc m;simp only[fT,cD,Int.mul_zero];omega
 |i+1,hi,m=>by
  have ih:=jY (k:=k) F hc i (by omega);simp only[fT];by_cases hm:m=(f i).m
  ·subst hm;rw[yT,ih];have h0:cD f i 0 (f i).m=0:=pO i 0 (fun j _ h2 e=>by have:=F.1 j i (by omega) (by omega);rw[e]at this;omega)
   have h1:cD f (i+1) 0 (f i).m=(f i).c:=by have:=xX (f:=f) (m:=(f i).m) i 0 (fun j _ h2 e=>by have:=F.1 j i (by omega) (by omega);rw[e]at this;omega) (by rw[Nat.zero_add]);rw[this,Nat.zero_add]
   rw[h0,h1];have:=hc (f i).m
   simp only[Int.mul_zero];omega
  ·rw[wU hm,ih,vF i 0 (by rw[Nat.zero_add];exact fun e=>hm e.symm)]
theorem VO {c:Int} {f g:Nat→T} {la lb:Nat} (F:Fl f la) (G:Fl g lb) (m:M):fT c g (fT 1 f (fun _=>0) la) lb m=(cD f la 0 m+c*cD g lb 0 m)%101:=by
 have hz:∀m:M,(0:Int)≤(fun _=>0:M→Int) m∧(fun _=>0:M→Int) m≤100:=fun _=>⟨Int.le_refl _,by show(0:Int)≤100;decide⟩
 have h1:=jY (k:=1) F hz la (Nat.le_refl _);have h2:=jY (k:=c) G (c:=fT 1 f (fun _=>0) la) (fun m=>by rw[h1];omega) lb (Nat.le_refl _) m
 rw[h2,h1];simp only[Int.one_mul];omega
end Go.Proofs.YtelkehjdfcoeiaaGreat
