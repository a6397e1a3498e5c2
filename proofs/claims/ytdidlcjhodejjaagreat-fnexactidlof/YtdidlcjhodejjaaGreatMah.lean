/-
  slices.Backward of monomials as an iterator that may be stopped.
-/
import Derived.Test.YtdidlcjhodejjaaGreatMag
import Derived.RangeFuncLeaves
import Derived.OrdersIn
import Derived.RangeFuncCalls
import Derived.Deep.Quiet
import Derived.Maps.OwnIn
import Derived.Shelf.SlSortCmp.WholeK
import Derived.Shelf.SlSortCmp.NoneTotal
set_option maxHeartbeats 8000000
set_option maxRecDepth 100000
namespace Go.Proofs.YtdidlcjhodejjaaGreat
open Go.RowKit Go.Maps Go.Sort Go.Shelf
set_option linter.unusedVariables false
attribute [local go_sem] Oper.semAt_some
abbrev BA:Type:=Nat×OM
def Ht (x:BA):Array Value:=#[.int .i64 (x.1:Int),.agg #[.int .i64 x.2.1.x,.int .i64 x.2.1.y,.int .i64 x.2.1.d,.int .i64 x.2.1.e]]
def oE (d:List OM) (i:Nat):BA:=(i,d.getD i default)
def kJ (d:List OM) (k:Nat):List BA:=(List.range (d.length-k)).map fun j=>oE d (d.length-1-j)
theorem MH (d:List OM):kJ d d.length=[]:=by simp[kJ]
theorem QT (d:List OM) (k:Nat) (h:k<d.length):kJ d (k+1)++[oE d k]=kJ d k:=by unfold kJ;rw[show d.length-k=(d.length-(k+1))+1 by omega,List.range_succ,List.map_append];simp only[List.map_cons,List.map_nil];rw[show d.length-1-(d.length-(k+1))=k by omega]
theorem vX (d:List OM) (k:Nat):(kJ d k).length=d.length-k:=by simp[kJ]
def CL (Bm:Nat) (p:Option Addr) (W W':World):Prop:=W.heap.size≤W'.heap.size∧∀k,(k=Bm∨p=some ⟨k,0,none⟩)→W'.heap[k]? =W.heap[k]?
theorem Ik {Bm:Nat} {p:Option Addr} {A B C:World} (h:CL Bm p A B) (k:CL Bm p B C):CL Bm p A C:=⟨jZ h.1 k.1,fun i hi=>(k.2 i hi).trans (h.2 i hi)⟩
theorem Ij {Bm:Nat} {p:Option Addr} {w:World} (hB:Bm<w.heap.size) (hp:∀k,p=some ⟨k,0,none⟩→k<w.heap.size) (W:World) (l:Nat) (o o':Obj) (hl:w.heap.size≤l) (h:W.heap[l]? =some o) (_:o.isCells=false) (_:o.isWalk=false):CL Bm p W (W.putObj l o'):=
 ⟨by rw[World.putObj_size];exact Nat.le_refl _,fun k hk=>World.putObj_heap_other (by rcases hk with rfl|hk;omega;have:=hp k hk;omega)⟩
theorem Pq {F:Fence} {n:Nat} (h7:F.fn 168) (hro:F.round=none) (p:Option Addr) (k cap:Nat) (w:World):CallsIn F n Tryz.prog 168 #[.slice p k cap] w fun e w'=>e= .returned (.func (.func 177) #[] #[.pointer (some ⟨w.heap.size,0,none⟩)])∧w'=w.alloc (.cells #[.slice p k cap] 37):=by
 refine callsIn_of_wp Tryz.func168 rfl h7 ?_ hro;simp only[Tryz.ntmps168,List.size_toArray,List.length_cons,List.length_nil,Nat.reduceAdd,Nat.reduceSub,Array.replicate_succ,Array.replicate_zero,List.push_toArray,List.append_toArray,List.nil_append,List.cons_append]
 gi_wp2
 go_ret;exact⟨rfl,rfl⟩
theorem Mj {F:Fence} {n:Nat} (h10:F.fn 177) (hro:F.round=none) (hn:1≤n) (l Bm cap:Nat) (p:Option Addr) (d:List OM) (hd:d.length≤1000000) (J Jx:List BA→World→Prop) (hY:∀pre x W,J pre W→pre.length<d.length→YieldAt F (n-1) Tryz.prog l (Ht x) W fun e W'=>(e= .returned (.bool true)∧J (pre++[x]) W'∧CL Bm p W W')∨(e= .returned (.bool false)∧Jx (pre++[x]) W')) (W:World) (hbox:W.cell? ⟨Bm,0,none⟩=some (.slice p d.length cap)) (hrow:EV W p (d.map (·.1))) (h0:J [] W):CallsIn F n Tryz.prog 177 #[.func (.yield l) #[] #[],.pointer (some ⟨Bm,0,none⟩)] W fun e W'=>(∃v,e= .returned v)∧((∃xs,xs=kJ d 0∧J xs W')∨(∃pre,True∧Jx pre W')):=by
 refine callsIn_of_wp Tryz.func177 rfl h10 ?_ hro;simp only[Tryz.ntmps177,List.size_toArray,List.length_cons,List.length_nil,Nat.reduceAdd,Nat.reduceSub,Array.replicate_succ,Array.replicate_zero,List.push_toArray,List.append_toArray,List.nil_append,List.cons_append]
 gi_wp2
 gi_loopw [3] (fun v wr=>∃k:Nat,k≤d.length∧v= .int .i64 ((k:Int)-1)∧J (kJ d k) wr∧wr.cell? ⟨Bm,0,none⟩=some (.slice p d.length cap)∧EV wr p (d.map (·.1))) (fun v _=>(RowKit.intOf v+1).toNat)
 case atStart=>
  exact⟨d.length,Nat.le_refl _,rfl,by rw[MH];exact h0,hbox,hrow⟩
 case round=>
  obtain⟨k,hk,rfl,hJ,hb,hR⟩:=hrel;cases k with
  |zero=>
   gi_wp2
   go_end0
   exact⟨⟨_,rfl⟩,.inl ⟨_,rfl,hJ⟩⟩
  |succ k=>
   have e1:((k+1:Nat):Int)-1=(k:Int):=by omega
   rw[e1];have hi:k<d.length:=by omega
   obtain⟨g,rfl,hgl,c0,c1,c2,c3⟩:=hR.here k (by simpa using hi);have HR:=aA hR
   have hYk:=hY (kJ d (k+1)) (oE d k) _ hJ (by rw[vX];omega);rw[QT d k hi]at hYk;have eM:(d.map (·.1))[k]'(by simpa using hi)=(oE d k).2.1:=by simp[oE,hi]
   rw[eM]at c0 c1 c2 c3;have hk1:(oE d k).1=k:=rfl
   clear hR eM hY;obtain⟨fn,tmps,assign,body,hy,hRd⟩:=hYk;dsimp only[Ht]at hy;rw[hk1]at hy;clear hk1;generalize(oE d k).2.1=m at c0 c1 c2 c3 hy
   gi_wp2
   refine hRd.mono ?_;rintro e W3 (⟨rfl,hJ3,hk3⟩|⟨rfl,hJx3⟩)
   ·have hb3:W3.cell? ⟨Bm,0,none⟩=some (.slice (some ⟨g,0,none⟩) d.length cap):=(mB (w:=wr) (a:=⟨Bm,0,none⟩) (hk3.2 Bm (.inl rfl))).trans hb
    gi_wp2
    go_roundw;case rel=>exact⟨k,by omega,rfl,hJ3,hb3,HR.out.keep hk3.1 (fun g' e=>hk3.2 g' (.inr e))⟩
    case measure=>simp only[RowKit.intOf];omega
   ·gi_wp2
    refine bY (results_none rfl _ _ _) rfl ?_;exact⟨⟨_,rfl⟩,.inr ⟨_,trivial,hJx3⟩⟩
theorem WT {n:Nat} (hn:1≤n) (Bm cap:Nat) (p:Option Addr) (d:List OM) (hd:d.length≤1000000) (w:World) (hBm:Bm<w.heap.size) (hbox:w.cell? ⟨Bm,0,none⟩=some (.slice p d.length cap)) (hrow:EV w p (d.map (·.1))) (hp:∀k,p=some ⟨k,0,none⟩→k<w.heap.size):SeqStopsK Fence.wide n Tryz.prog 177 #[.pointer (some ⟨Bm,0,none⟩)] Ht (CL Bm p) (fun xs=>xs=kJ d 0) (fun _=>True) d.length w:=fun l J Jx W hW _ _ hY h0=>
 Mj (F:=Fence.wide) trivial rfl hn l Bm cap p d hd J Jx hY W ((hW.cell (p:=⟨Bm,0,none⟩) hBm).trans hbox) (hrow.keep hW.size (fun g e=>hW.block g (hp g e))) h0
end Go.Proofs.YtdidlcjhodejjaaGreat
namespace Go.Proofs.YtdidlcjhodejjaaGreat
open Go.RowKit
set_option linter.unusedVariables false
theorem cV {ops:Array Oper} {l:Array Bool} {i:Nat} {o:Oper} (hi:i∈Region.ready .any ops l) (ho:ops[i]? =some o) (k:Nat) (hk:o.after.any (fun e=>Region.binds .any e&&e.on==k)=true):l.getD k false=true:=by obtain⟨_,o',ho',ha⟩:=mem_ready.1 hi;rw[ho]at ho';obtain rfl:=Option.some.inj ho';rw[Array.any_eq_true']at hk;obtain⟨e,he,hh⟩:=hk;simp only[Bool.and_eq_true,beq_iff_eq]at hh;rw[←hh.2];exact ha e he hh.1
theorem kT {l:Array Bool} {i:Nat} (d:Bool) (h:i<l.size):(l.setIfInBounds i true).getD i d=true:=by rw[Array.getD_eq_getD_getElem?,Array.getElem?_setIfInBounds_self_of_lt h];rfl
theorem ID (n k:Nat):(Array.replicate n false).getD k false=false:=by rw[Array.getD_eq_getD_getElem?,Array.getElem?_replicate];split<;>rfl
def fM (ops:Array Oper) (l:Array Bool):Prop:=∀i o,ops[i]? =some o→l.getD i false=true→∀e∈o.after,Region.binds .any e=true→l.getD e.on false=true
theorem fM.start (ops:Array Oper) (n:Nat):fM ops (Array.replicate n false):=fun i o _ h=>by rw[ID]at h;cases h
theorem fM.step {ops:Array Oper} {l:Array Bool} {i:Nat} (h:fM ops l) (hi:i∈Region.ready .any ops l) (hl:l.size=ops.size):fM ops (l.setIfInBounds i true):=by
 intro j o ho hj e he hb;obtain⟨_,o',ho',ha⟩:=mem_ready.1 hi;have hil:i<l.size:=by rw[hl];exact(Array.getElem?_eq_some_iff.1 ho').1
 have hd:l.getD e.on false=true:=by
  by_cases hji:j=i
  ·subst hji;rw[ho]at ho';obtain rfl:=Option.some.inj ho';exact ha e he hb
  ·rw[getD_set_ne false (fun e=>hji e.symm)]at hj;exact h j o ho hj e he hb
 by_cases hei:e.on=i
 ·rw[hei,kT false hil]
 ·rw[getD_set_ne false (fun e=>hei e.symm)];exact hd
theorem fM.dep {ops:Array Oper} {l:Array Bool} {i:Nat} {o:Oper} (h:fM ops l) (ho:ops[i]? =some o) (hd:l.getD i false=true) (k:Nat) (hk:o.after.any (fun e=>Region.binds .any e&&e.on==k)=true):l.getD k false=true:=by rw[Array.any_eq_true']at hk;obtain⟨e,he,hh⟩:=hk;simp only[Bool.and_eq_true,beq_iff_eq]at hh;rw[←hh.2];exact h i o ho hd e he hh.1
theorem eG {l:Array Bool} {i:Nat} (h:l.getD i true=false):l.getD i false=true→False:=fun k=>by
 rw[Array.getD_eq_getD_getElem?]at h k;cases hx:l[i]? with
 |none=>rw[hx]at h;simp at h
 |some b=>rw[hx]at h k;simp at h k;rw[h]at k;cases k
theorem FN {ops:Array Oper} {l:Array Bool} (h:(List.range ops.size).all (fun i=>match ops[i]? with|some o=>o.after.all (fun e=> !Region.binds .any e||decide (e.on<i))|none=>true)=true) (hr:Region.ready .any ops l=[]) (hl:l.size=ops.size):∀i,i<ops.size→l.getD i false=true:=by
 intro i;induction i using Nat.strongRecOn with
 |_ i ih=>
  intro hi;cases hx:l.getD i false
  ·exfalso;rw[List.eq_nil_iff_forall_not_mem]at hr;refine hr i (mem_ready.2 ⟨?_,ops[i],Array.getElem?_eq_getElem hi,fun e he hb=>?_⟩)
   ·rw[Array.getD_eq_getD_getElem?]at hx⊢;rw[Array.getElem?_eq_getElem (by omega)]at hx⊢;simpa using hx
   ·rw[List.all_eq_true]at h;have h1:=h i (List.mem_range.2 hi)
    rw[Array.getElem?_eq_getElem hi]at h1;simp only[Array.all_eq_true']at h1;have h2:=h1 e he
    rw[hb]at h2;simp at h2;exact ih e.on h2 (by omega)
  ·rfl
theorem yR {n k:Nat} {p:Prop} (h:(Array.replicate n false).getD k false=true):p:=by rw[ID]at h;cases h
theorem SY {n l:Nat} {P:Program} {row:String} {args:Array Value} {w:World} {R:Value→World→Prop} (h:Rows P row args w R):RowsIn (Fence.wide.inRound l) n P row args w R:=
 fun c cs _=>let⟨v,w',r,s⟩:=h c cs;⟨v,w',r,stepsIn_wide.2 s⟩
theorem SJ {n l:Nat} {P:Program} {o:Oper} {a:Act} {w:World} {K:Act→World→Prop} {Q:Exit→Act→World→Prop} (hd:∀c,o.op≠ .defer c) (h:o.wp P a w K Q):o.wpIn (Fence.wide.inRound l) n P a w K Q:=by
 refine⟨fun f _=>trivial,?_⟩;unfold Oper.wp at h;rw[show(Fence.wide.inRound l).round=some l from rfl,Oper.semAt_some l _ _ hd];generalize(execOp a.eval o).run P w=r at *;cases r with
 |ok x w'=>
  cases x<;>simp only[Oper.upon,Oper.uponIn]at h⊢<;>first
   |exact h
   |exact⟨fun e=>(by cases e),CallsIn.inRound l (callsIn_wide.2 h)⟩
   |exact⟨fun e=>(by cases e),SY h⟩
 |halt x w'=>cases x<;>simp only[Oper.upon,Oper.uponIn]at h⊢<;>exact h
def rA (ops:Array Oper):Bool:=ops.all fun o=>match o.op with| .defer _=>false|_=>true
theorem SI {ops:Array Oper} (h:rA ops=true) {i:Nat} {o:Oper} (ho:ops[i]? =some o):∀c,o.op≠ .defer c:=by
 intro c hc;unfold rA at h;rw[Array.all_eq_true']at h;have:=h o (Array.mem_of_getElem? ho)
 rw[hc]at this;cases this
theorem jU {n l:Nat} {P:Program} {ops:Array Oper} {Q:Exit→Act→World→Prop} (hd:rA ops=true) (hL:¬LetsOut Q) {i:Nat} {K:Act→World→Prop} {a:Act} {w:World} (h:wpOp P ops Q i K a w):wpOpIn (Fence.wide.inRound l) n P ops Q i K a w:=by
 unfold wpOp at h;unfold wpOpIn;split
 ·rename_i ho;simp only[ho]at h;exact h
 ·rename_i o ho;simp only[ho]at h;split
  ·rename_i hw;simp only[hw,if_true]at h;rcases h with h|h
   ·exact SJ (SI hd ho) h
   ·exact absurd h.2 hL
  ·rename_i hw;simp only[hw]at h;exact⟨fun _ _=>trivial,h⟩
theorem FP {n l:Nat} {P:Program} {md:Region.Mode} {ops:Array Oper} {Q:Exit→Act→World→Prop} (hd:rA ops=true) (hL:¬LetsOut Q):∀(fuel:Nat) (li:Array Bool) (a:Act) (w:World),wpAny P md ops Q fuel li a w→wpAnyIn (Fence.wide.inRound l) n P md ops Q fuel li a w
 |0,_,_,_,h=>h
 |fuel+1,li,a,w,h=>⟨h.1,fun i hi=>wpOpIn_mono (fun a' w' h'=>FP hd hL fuel _ a' w' h') (jU hd hL (h.2 i hi))⟩
theorem KM {n l id:Nat} {P:Program} {ops:Array Oper} {Q:Exit→Act→World→Prop} {a:Act} {w:World} (hm:P.follows .mixedOrders=true) (hd:rA ops=true) (hL:¬LetsOut Q) (h:wpAny P .any ops Q ops.size (Array.replicate ops.size false) a w.drew):(Code.region id ops true).wpIn (Fence.wide.inRound l) n P Q a w:=
 wpIn_region_any hm (FP hd hL _ _ _ _ h)
theorem yQ {n l id:Nat} {P:Program} {ops:Array Oper} {Q:Exit→Act→World→Prop} {I:Array Bool→Act→World→Prop} {a:Act} {w:World} (hm:P.follows .mixedOrders=true) (hd:rA ops=true) (hL:¬LetsOut Q) (h0:I (Array.replicate ops.size false) a w.drew) (hs:∀l a w,I l a w→∀i∈Region.ready .any ops l,wpOp P ops Q i (I (l.setIfInBounds i true)) a w) (he:∀l a w,I l a w→Region.ready .any ops l=[]→Q .normal a w):(Code.region id ops true).wpIn (Fence.wide.inRound l) n P Q a w:=
 KM hm hd hL (zD hs he ops.size _ a _ (by rw[eZ];exact Nat.le_refl _) h0)
open Go.RowKit Go.Maps
def RS (ops:Array Oper) (F:(Nat→Value)→Act) (P:Nat→World→Value→Prop) (n A:Nat) (w0:World) (Y:World→Value→Prop) (Z:World→Prop) (l:Array Bool) (a:Act) (u:World):Prop:=
 ∃vs:Nat→Value,a=F vs∧l.size=n∧fM ops l∧(l.getD A false=false→Below w0.heap.size w0 u∧∀k,l.getD k false=true→P k u (vs k))∧(l.getD A false=true→l.getD (A+1) false=false→Y u (vs A))∧(l.getD (A+1) false=true→Z u)
theorem RS.start {ops:Array Oper} {F:(Nat→Value)→Act} {P:Nat→World→Value→Prop} {n A:Nat} {w0:World} {Y:World→Value→Prop} {Z:World→Prop} {a:Act} (vs:Nat→Value) (ha:a=F vs):RS ops F P n A w0 Y Z (Array.replicate n false) a w0.drew:=
 ⟨vs,ha,by simp,fM.start _ _,fun _=>⟨(bL _ _).drew,fun k h=>yR h⟩,fun h=>yR h,fun h=>yR h⟩
theorem RS.step {ops:Array Oper} {F:(Nat→Value)→Act} {P:Nat→World→Value→Prop} {n A:Nat} {w0 u u':World} {Y:World→Value→Prop} {Z:World→Prop} {l:Array Bool} {vs:Nat→Value} (i:Nat) (v:Value) {a:Act} (hP:∀k u u' v,P k u v→Below u.heap.size u u'→P k u' v) (hi:i∈Region.ready .any ops l) (hno:ops.size=n) (hA:l.getD A false=false) (hA1:l.getD (A+1) false=false) (hiA:i<A) (hl:l.size=n) (hcl:fM ops l) (hf:l.getD A false=false→Below w0.heap.size w0 u∧∀k,l.getD k false=true→P k u (vs k)) (hm:Below u.heap.size u u') (hv:P i u' v) (ha:a=F (fun k=>if k=i then v else vs k)):RS ops F P n A w0 Y Z (l.setIfInBounds i true) a u':=by
 refine⟨fun k=>if k=i then v else vs k,ha,by simp[hl],hcl.step hi (by omega),fun _=>⟨aB (hf hA).1 hm,fun k hk=>?_⟩,fun h=>?_,fun h=>?_⟩
 ·by_cases hki:k=i
  ·have hv2:P k u' v:=by rw[hki];exact hv
   exact Eq.mpr (congrArg (fun z=>P k u' z) (if_pos hki)) hv2
  ·rw[getD_set_ne false (fun e=>hki e.symm)]at hk;exact Eq.mpr (congrArg (fun z=>P k u' z) (if_neg hki)) (hP k u u' _ ((hf hA).2 k hk) hm)
 ·rw[getD_set_ne false (by omega),hA]at h;cases h
 ·rw[getD_set_ne false (by omega),hA1]at h;cases h
theorem RS.last {ops:Array Oper} {F:(Nat→Value)→Act} {P:Nat→World→Value→Prop} {n A:Nat} {w0 u':World} {Y:World→Value→Prop} {Z:World→Prop} {l:Array Bool} {vs:Nat→Value} (v:Value) {a:Act} (hi:A∈Region.ready .any ops l) (hno:ops.size=n) (hAn:A<n) (hA1:l.getD (A+1) false=false) (hl:l.size=n) (hcl:fM ops l) (hv:Y u' v) (ha:a=F (fun k=>if k=A then v else vs k)):RS ops F P n A w0 Y Z (l.setIfInBounds A true) a u':=by
 refine⟨fun k=>if k=A then v else vs k,ha,by simp[hl],hcl.step hi (by omega),fun h=>?_,fun _ _=>Eq.mpr (congrArg (fun z=>Y u' z) (if_pos rfl)) hv,fun h=>?_⟩
 ·rw[kT false (by omega)]at h;cases h
 ·rw[getD_set_ne false (by omega),hA1]at h;cases h
theorem RS.put {ops:Array Oper} {F:(Nat→Value)→Act} {P:Nat→World→Value→Prop} {n A:Nat} {w0 u':World} {Y:World→Value→Prop} {Z:World→Prop} {l:Array Bool} {vs:Nat→Value} {a:Act} (hi:A+1∈Region.ready .any ops l) (hno:ops.size=n) (hA:l.getD A false=true) (hAn:A+1<n) (hl:l.size=n) (hcl:fM ops l) (hz:Z u') (ha:a=F vs):RS ops F P n A w0 Y Z (l.setIfInBounds (A+1) true) a u':=by
 refine⟨vs,ha,by simp[hl],hcl.step hi (by omega),fun h=>?_,fun _ h=>?_,fun _=>hz⟩
 ·rw[getD_set_ne false (by omega),hA]at h;cases h
 ·rw[kT false (by omega)]at h;cases h
theorem ZD {nn l id:Nat} {P:Program} {ops:Array Oper} {Q:Exit→Act→World→Prop} (F:(Nat→Value)→Act) (K:Nat→World→Value→Prop) (n A:Nat) (w0:World) (Y:World→Value→Prop) (Z:World→Prop) {a:Act} (hm:P.follows .mixedOrders=true) (hd:rA ops=true) (hL:¬LetsOut Q)
 (h0:RS ops F K n A w0 Y Z (Array.replicate ops.size false) a w0.drew)
 (hs:∀l a w,RS ops F K n A w0 Y Z l a w→∀i∈Region.ready .any ops l,wpOp P ops Q i (RS ops F K n A w0 Y Z (l.setIfInBounds i true)) a w)
 (he:∀l a w,RS ops F K n A w0 Y Z l a w→Region.ready .any ops l=[]→Q .normal a w):(Code.region id ops true).wpIn (Fence.wide.inRound l) nn P Q a w0:=yQ (I:=RS ops F K n A w0 Y Z) hm hd hL h0 hs he
theorem PX {H:Type} {P:Program} {w:World} {ops:Array Oper} {o:Oper} {a:Act} {K:Act→World→Prop} {Q:Exit→Act→World→Prop} {E:Prop} (hgd:o.guard=none) (m x:Operand) (t:TypeId) (hop:o.op=Op.lookup t m x false) (k e:TypeId) (q:IntKind) (Ky:Keyed P k) (ht:P.underlying t=some (.map k e)) (he:P.underlying e=some (.int q)) (hz:(zeroValue e).run P w= .ok (.int q 0) w) (b n:Nat) (D:DataW H) (hm:a.eval m= .map (some b)) (hown:w.ownsMap P k (plainElem P e) b n D) (key:Value) (kl:Lit) (hx:a.eval x=key) (hkey:keyOf P k key=some kl) (h:∀c:Int,D.atKey kl (.lit (.int q 0))= .lit (.int q c)→K (a.put o.dst (.int q c)) w):if Region.wanted o (yielded ops a.tmps)=true then Oper.wp P o a w K Q else E:=by
 have hw:Region.wanted o (yielded ops a.tmps)=true:=by simp[Region.wanted,hgd]
 rw[if_pos hw];obtain⟨c,hrun,hat,hwc⟩:=hown.lookup_int Ky ht he hz hkey;unfold Oper.wp;simp[execOp,hop,hm,hx,hrun,Result.andThen];exact h c hat
open Go.RowKit Go.Maps Go.Sort Go.Shelf
attribute [local go_sem] Oper.semAt_some
def Gy (c:M→Int) (x:BA):T:=⟨c x.2.1,x.2.1⟩
theorem uI {w W:World} {P:Program} {k:TypeId} {R:Value→Option (DataW Unit×List MemPlace)} {b n:Nat} {D:DataW Unit} (h:w.ownsMap P k R b n D) (hb:W.heap[b]? =w.heap[b]?):W.ownsMap P k R b n D:=by obtain⟨es,clock,h1,r⟩:=h;exact⟨es,clock,hb.trans h1,r⟩
theorem Qh:(Tryz.prog.info? 42).map (fun i=>(i.zero,i.size,i.bytes))=some (some (.agg #[.int .i64 0,.int .i64 0,.int .i64 0,.int .i64 0,.int .i64 0]),5,40):=by kernel_rfl
theorem zI (c:M→Int) (m:M):∀ms:List M,m∈ms→aM (ms.map fun x=>(⟨c x,x⟩:T)) m=c m
 |[],h=>by cases h
 |x::r,h=>by
  simp only[List.map_cons,aM];by_cases hx:x=m
  ·rw[if_pos (cM.2 hx),hx]
  ·rw[if_neg (fun e=>hx (cM.1 e))];exact zI c m r ((List.mem_cons.1 h).resolve_left (fun e=>hx e.symm))
theorem vV (c:M→Int) (m:M):∀ms:List M,m∉ms→aM (ms.map fun x=>(⟨c x,x⟩:T)) m=0
 |[],_=>rfl
 |x::r,h=>by simp only[List.map_cons,aM];rw[if_neg (fun e=>h (by rw[←cM.1 e];exact List.mem_cons_self ..))];exact vV c m r (fun e=>h (List.mem_cons_of_mem _ e))
theorem Cw {α:Type} (key:M→α) (hinj:∀a b:M,a.ok=true→b.ok=true→key a=key b→a=b) {K:List T} (hK:aK K) (ks:List α) (h:∀t∈K,key t.m∈ks):K.length≤ks.length:=by
 letI:DecidableEq α:=fun a b=>Classical.propDecidable (a=b)
 have hnd:(K.map fun t=>key t.m).Nodup:=by
  rw[List.Nodup,List.pairwise_map];refine hK.1.imp_of_mem (S:=fun a b=>key a.m≠key b.m) ?_;intro a b ha hb h e;have:=hinj _ _ (hK.2 a ha).1 (hK.2 b hb).1 e
  rw[this]at h;omega
 have:=uW (K.map fun t=>key t.m) ks hnd (fun x hx=>by
  obtain⟨t,ht,rfl⟩:=List.mem_map.1 hx
  exact h t ht)
 simpa using this
theorem mD {m:M}:∀{L:List T},aM L m≠0→m∈L.map (·.m)
 |[],h=>absurd rfl h
 |t::r,h=>by
  rw[aM]at h;by_cases ht:eF t.m m=true
  ·simp[cM.1 ht]
  ·rw[if_neg ht]at h;simpa using Or.inr (by simpa using mD h)
theorem ME {L:List T} (hL:aK L) {t:T} (ht:t∈L):aM L t.m=t.c:=by
 induction L with
 |nil=>cases ht
 |cons s r ih=>
  rcases List.mem_cons.1 ht with rfl|h
  ·exact bO _ _
  ·have h1:=hL.head t h;rw[iI (fun e=>by rw[e]at h1;omega)];exact ih hL.tail h
theorem KV {w:World} {b n:Nat} {D:DataW Unit} {c:M→Int} (hown:w.ownsMap Tryz.prog 40 (plainElem Tryz.prog 138) b n D) (hat:∀m:M,m.ok=true→D.atKey (eI m) (.lit (.int .i64 0))= .lit (.int .i64 (c m))∧(Maps.has D (eI m)=true↔c m≠0)) (hks:∀kl,Maps.has D kl=true→∃m:M,m.ok=true∧kl=eI m) {K:List T} (hK:aK K) (hKc:∀m,m.ok=true→aM K m=c m):Maps.size D=K.length:=by
 have h1:Maps.size D≤K.length:=by
  have:=KW hown (K.map (·.m)) (fun kl hkl=>by
   obtain⟨m,hm,rfl⟩:=hks kl hkl;refine⟨m,mD ?_,rfl⟩;rw[hKc m hm]
   exact(hat m hm).2.1 hkl)
  simpa using this
 have h2:K.length≤Maps.size D:=by
  obtain⟨es,he,hp⟩:=hown.tidy nA
  have:=Cw eI (fun a b ha hb e=>wK ha hb e) hK (es.map (·.1)) (fun t ht=>by
   have hto:=hK.2 t ht;have hh:Maps.has D (eI t.m)=true:=(hat t.m hto.1).2.2 (by rw[←hKc t.m hto.1,ME hK ht];omega)
   rw[he,has_eq,List.any_eq_true]at hh;obtain⟨p,hpe,hs⟩:=hh;rw[←WideAt.sameKey_eq hs]
   exact List.mem_map_of_mem hpe)
  rw[he,size_eq];simpa using this
 omega
theorem Nu {c:M→Int} (hc:∀m,0≤c m∧c m≤100) {dO:List OM} (hs:dO.Pairwise (fun a b=>fF a.1<fF b.1)) (hm:∀m:M,m.ok=true→(m∈dO.map (·.1)↔c m≠0)) {K:List T} (hK:aK K) (hKc:∀m,m.ok=true→aM K m=c m):(kJ dO 0).map (Gy c)=K:=by
 have hcl:∀x∈kJ dO 0,x.2∈dO:=fun x hx=>by
  unfold kJ at hx;obtain⟨j,hj,rfl⟩:=List.mem_map.1 hx;rw[List.mem_range]at hj;have hi:dO.length-1-j<dO.length:=by omega
  show dO.getD (dO.length-1-j) default∈dO;rw[List.getD_eq_getElem?_getD,List.getElem?_eq_getElem hi];exact List.getElem_mem hi
 have hcl2:∀o∈dO,o.1∈(kJ dO 0).map (fun x=>x.2.1):=fun o ho=>by
  obtain⟨i,hi,rfl⟩:=List.getElem_of_mem ho;refine List.mem_map.2 ⟨oE dO i,?_,?_⟩
  ·unfold kJ;refine List.mem_map.2 ⟨dO.length-1-i,List.mem_range.2 (by omega),?_⟩;rw[show dO.length-1-(dO.length-1-i)=i by omega]
  ·simp[oE,hi]
 have e1:(kJ dO 0).map (Gy c)=((kJ dO 0).map (fun x=>x.2.1)).map (fun x=>(⟨c x,x⟩:T)):=by rw[List.map_map];rfl
 refine lI ⟨?_,?_⟩ hK (fun m hmo=>?_)
 ·rw[List.pairwise_map];unfold kJ;rw[List.pairwise_map];refine(List.pairwise_lt_range (n:=dO.length-0)).imp_of_mem ?_;intro j i hj hi hji;rw[List.mem_range]at hj hi;have:=(List.pairwise_iff_getElem.1 hs) (dO.length-1-i) (dO.length-1-j) (by omega) (by omega) (by omega)
  have g1:(oE dO (dO.length-1-i)).2=dO[dO.length-1-i]'(by omega):=by simp[oE,show dO.length-1-i<dO.length by omega]
  have g2:(oE dO (dO.length-1-j)).2=dO[dO.length-1-j]'(by omega):=by simp[oE,show dO.length-1-j<dO.length by omega]
  show fF (oE dO (dO.length-1-i)).2.1<fF (oE dO (dO.length-1-j)).2.1;rw[g1,g2];exact this
 ·intro t ht;obtain⟨x,hx,rfl⟩:=List.mem_map.1 ht;have h1:=(hm x.2.1 x.2.2).1 (List.mem_map_of_mem (hcl x hx))
  have h2:=hc x.2.1;exact⟨x.2.2,by show 1≤c x.2.1;omega,by show c x.2.1≤100;omega⟩
 ·rw[e1,hKc m hmo];by_cases hn:m∈(kJ dO 0).map (fun x=>x.2.1)
  ·exact zI c m _ hn
  ·rw[vV c m _ hn];have:¬c m≠0:=fun h=>by obtain⟨o,ho,he⟩:=List.mem_map.1 ((hm m hmo).2 h);exact hn (he▸hcl2 o ho)
   omega
end Go.Proofs.YtdidlcjhodejjaaGreat
namespace Go.Proofs.YtdidlcjhodejjaaGreat
open Go.RowKit Go.Maps Go.Sort Go.Shelf
set_option linter.unusedVariables false
attribute [local go_sem] Oper.semAt_some
theorem jG {W:World} {base base':Nat} {e:TypeId} {size:Nat} {v:Value} {n:Nat} {xs:List Value} (h:W.ownsRow base e size v n xs) (hb:base'≤base):W.ownsRow base' e size v n xs:=
 ⟨h.1,h.2.imp id (fun⟨g,cap,cur,a,b,r⟩=>⟨g,cap,cur,a,jZ hb b,r⟩)⟩
theorem Ko (hsort:BD) (w:World) (b n:Nat) (c:M→Int) (h:bZ w b n c) (hn:n≤1000000) {K:List T} (hK:aK K) (hKc:∀m,m.ok=true→aM K m=c m) (h400:¬K.length≤400):Calls Tryz.prog 151 #[.map (some b)] w fun e w'=>e= .returned (.tuple #[.slice none 0 0,.bool false])∧Below w.heap.size w w':=by
 obtain⟨D,hown,hc,hat,hks⟩:=h;have hsz:=KV hown hat hks hK hKc
 have hblt:=hown.lt;refine(callsIn_wide (n:=9)).1 ?_;refine callsIn_of_wp_marks Tryz.func151 rfl trivial ?_ rfl;simp only[Tryz.ntmps151,List.size_toArray,List.length_cons,List.length_nil,Nat.reduceAdd,Nat.reduceSub,Array.replicate_succ,Array.replicate_zero,List.push_toArray,List.append_toArray,List.nil_append,List.cons_append];have hlen:=(hown.alloc (.cells #[.map (some b)] 170)).len Tryz.underlying170 3
 have HO2:=aA ((hown.alloc (.cells #[.map (some b)] 170)).alloc (.cells #[.slice none 0 0] 45));have HKS:=aA hks
 have HAT:=aA hat;have HOW:=aA hown
 clear hks hat hown;have h4:(400:Int)<(Maps.size D:Int):=by omega
 gi_wp2_with gi_in
 exact⟨_,results_tmp2 rfl _ _ _,rfl,(bL _ w).alloc (Nat.le_refl _) _⟩
def FH (W:World) (Bx:Nat) (m:M):Prop:=W.heap[Bx]? =some (.cells #[.int .i64 m.x,.int .i64 m.y,.int .i64 m.d,.int .i64 m.e] 40 (0,0))
theorem FH.cells {W:World} {Bx:Nat} {m:M} (h:FH W Bx m):W.cell? ⟨Bx,0,none⟩=some (.int .i64 m.x)∧W.cell? ⟨Bx,1,none⟩=some (.int .i64 m.y)∧W.cell? ⟨Bx,2,none⟩=some (.int .i64 m.d)∧W.cell? ⟨Bx,3,none⟩=some (.int .i64 m.e):=by unfold FH at h;refine⟨?_,?_,?_,?_⟩<;>(unfold World.cell?;simp only[h];rfl)
theorem MB (c:M→Int) (pre:List BA) (x:BA):aE ((pre++[x]).map (Gy c))=aE (pre.map (Gy c))++aE [Gy c x]:=by rw[List.map_append,bK];rfl
theorem Kp      (hsort:BD    ) (w:World) (b n:Nat) (c:M→Int) (h:bZ   w b n c) (hn:n≤1000000) {K:List T} (hK:aK    K) (hKc:∀m,m.ok=true→aM   K m=c m) (h400:K.length≤400):Calls Tryz.prog 151 #[.map (some b)] w fun e w'=>∃v,e= .returned (.tuple #[v,.bool true])∧Below w.heap.size w w'∧w'.ownsRow w.heap.size 42 5 v K.length (aE     K):=by
 obtain⟨D,hown,hc,hat,hks⟩:=h;have hsz:=KV     hown hat hks hK hKc
 have hblt:=hown.lt;refine(callsIn_wide (n:=9)).1 ?_;refine callsIn_of_wp_marks Tryz.func151 rfl trivial ?_ rfl;simp only[Tryz.ntmps151,List.size_toArray,List.length_cons,List.length_nil,Nat.reduceAdd,Nat.reduceSub,Array.replicate_succ,Array.replicate_zero,List.push_toArray,List.append_toArray,List.nil_append,List.cons_append];have hlen:=(hown.alloc (.cells #[.map (some b)] 170)).len Tryz.underlying170 3
 have HO2:=aA      ((hown.alloc (.cells #[.map (some b)] 170)).alloc (.cells #[.slice none 0 0] 45));have HKS:=aA      hks
 have HAT:=aA      hat;have HOW:=aA      hown
 clear hks hat hown;have h4:(Maps.size D:Int)≤400:=by omega
 gi_wp2_with (first
  |(refine⟨trivial,?_⟩;gi_at_call 169;refine(callsIn_wide.2 (Il      hsort _ b n D HO2.out HKS.out hn)).mono ?_;rintro e W3 ⟨p,cap,dO,rfl,hs3,hm3,hl3,hv3,hp3,hb3⟩)
  |(refine⟨trivial,?_⟩;gi_at_call 168;refine(Pq    (F:=Fence.wide) trivial rfl _ _ _ _).mono ?_;rintro e w' ⟨rfl,rfl⟩)
  |gi_in)
 have hd:dO.length=K.length:=by omega
 obtain⟨Wb,hWb⟩:∃Wb,(w.alloc (.cells #[.map (some b)] 170)).alloc (.cells #[.slice none 0 0] 45)=Wb:=⟨_,rfl⟩
 rw[hWb]at hb3 hp3;have hsb:Wb.heap.size=w.heap.size+2:=by rw[←hWb];simp
 have hBb:Below w.heap.size w Wb:=by rw[←hWb];exact((bL         _ w).alloc (Nat.le_refl _) _).alloc (by simp) _
 have bs0:Boxed Wb w.heap.size 170 (.map (some b)):=by rw[←hWb];exact(Boxed.new w _ _).alloc _
 have bp0:Boxed Wb (w.heap.size+1) 45 (.slice none 0 0):=by rw[←hWb];have:=Boxed.new (w.alloc (.cells #[.map (some b)] 170)) 45 (.slice none 0 0);rwa[World.size_alloc]at this
 have hs3':=hb3.size;obtain⟨W0,hW0⟩:∃W0,W3.alloc (.cells #[.slice p K.length cap] 37)=W0:=⟨_,rfl⟩
 rw[hW0];have hsz0:W0.heap.size=W3.heap.size+1:=by rw[←hW0];simp
 have hold:∀k,k<W3.heap.size→W0.heap[k]? =W3.heap[k]? :=fun k hk=>by rw[←hW0];exact Below.heap_alloc _ _ k hk
 have hB0:Below w.heap.size w W0:=by rw[←hW0];exact(hBb.trans (hb3.mono (by omega))).alloc (by omega) _
 have bs:Boxed W0 w.heap.size 170 (.map (some b)):=(hold _ (by omega)).trans ((hb3.block _ (by omega)).trans bs0);have bp:Boxed W0 (w.heap.size+1) 45 (.slice none 0 0):=(hold _ (by omega)).trans ((hb3.block _ (by omega)).trans bp0)
 have bm:Boxed W0 W3.heap.size 37 (.slice p dO.length cap):=by rw[←hW0,hd];exact Boxed.new W3 _ _
 have hrow0:EV   W0 p (dO.map (·.1)):=hv3.keep (by omega) (fun g e=>hold g (hp3 g e).2);have hpl:∀k,p=some ⟨k,0,none⟩→k<W0.heap.size:=fun k e=>by have:=(hp3 k e).2;omega
 have HL:=aA      (Nu     hc hs3 (fun m hm=>(hm3 m hm).trans (HAT.out m hm).2) hK hKc);have HP3:=aA      hp3
 have HSEQ:=aA      (WT        (n:=8) (by omega) W3.heap.size cap p dO (by omega) W0 (by omega) bm.cell hrow0 hpl);clear hW0 hWb hb3 hs3 hm3 hv3 hrow0 hl3 hsz h4 hlen HO2 HKS hold bs0 bp0 hp3
 refine wpIn_rangeFunc_ownH (w0:=W0) rfl (by decide) (gf:=177) (lb:=#[.pointer (some ⟨W3.heap.size,0,none⟩)]) rfl trivial (enters_of Tryz.func177 (by kernel_rfl) rfl) HSEQ.out Ik      (Ij      (by omega) hpl) (bL         _ _) (fun _=>rfl)
  (fun(pre:List BA) W=>(Boxed W w.heap.size 170 (.map (some b))∧∃v,Boxed W (w.heap.size+1) 45 v∧W.ownsRow W0.heap.size 42 5 v pre.length (aE     (pre.map (Gy  c)))∧True)∧(Below w.heap.size w W∧W0.heap.size≤W.heap.size))
  (fun _ _ _=>False)
  (OwnFrom.and (OwnFrom.and (Own.from (boxed_own _ _ (fun _=>Value.map (some b))) _) (Own.from (holdsRow_own W0.heap.size (w.heap.size+1) 45 42 5 (fun(pre:List BA)=>pre.length) (fun pre=>aE     (pre.map (Gy  c))) (fun _ _=>True)) _)) (OwnFrom.and (ownFrom_below (Nat.le_refl _) (by omega)) (fun _ _ _ _ hs hg _=>jZ           hs hg.size)))
  (fun _ _ _ _ _ hs _ _=>hs)
  ⟨⟨bs,_,bp,⟨rfl,.inl ⟨rfl,rfl⟩⟩,trivial⟩,hB0,Nat.le_refl _⟩
  (fun x a' W=>∃Bx,W0.heap.size≤Bx∧FH    W Bx x.2.1∧a'=({tmps:=#[Value.map (some b),Value.pointer (some ⟨w.heap.size,0,none⟩),Value.slice none 0 0,Value.bool false,Value.pointer (some ⟨w.heap.size+1,0,none⟩),undef,Value.pointer (some ⟨Bx,0,none⟩),Value.map (some b),Value.int IntKind.i64 (K.length:Int),Value.bool (decide (400<(K.length:Int))),Value.map (some b),Value.slice p K.length cap,Value.func (Fn.func 177) #[] #[Value.pointer (some ⟨W3.heap.size,0,none⟩)],Value.int IntKind.i64 (x.1:Int),Value.agg #[Value.int IntKind.i64 x.2.1.x,Value.int IntKind.i64 x.2.1.y,Value.int IntKind.i64 x.2.1.d,Value.int IntKind.i64 x.2.1.e],undef,undef,undef,undef,undef,undef,undef,undef,undef],defers:=[]}:Act))
  (fun x a' _ X Y row hs hg hr=>by
   obtain⟨Bx,h1,h2,h3⟩:=hs;refine⟨Bx,h1,(hg.block Bx (Array.getElem?_eq_some_iff.1 h2).1 (fun e=>?_)).trans h2,h3⟩;obtain⟨_,o,ho,hoc⟩:=hr Bx e.symm
   rw[h2]at ho;cases ho;cases hoc)
  ?assign ?body ?done ?stop
 case assign=>
  rintro l pre x W K' ⟨⟨bS,v,bP,hrow,_⟩,hB,hWs⟩ hK';obtain⟨i,m,hm⟩:=x;dsimp only[Ht  ]at hK'⊢;have hsB:=hB.size
  gi_wp2
  refine hK' _ _ ((KeepsOthers.alloc _ _).from _) ⟨by simp,fun k hk=>Below.heap_alloc _ _ k ?_⟩ ⟨⟨bS.alloc _,v,bP.alloc _,hrow.alloc _,trivial⟩,hB.alloc hB.size _,by simp;omega⟩ ⟨W.heap.size,?_,World.alloc_heap_new W _,rfl⟩
  ·rcases hk with rfl|hk
   ·omega
   ·have:=hpl k hk;omega
  ·exact hWs
 case body=>
  rintro l pre x a' W hl ⟨r,hr⟩ ⟨⟨bS,v,bP,hrow,_⟩,hB,hWs⟩ ⟨Bx,hBx,hX,rfl⟩ hlt;obtain⟨i,m,hm⟩:=x;dsimp only at hX⊢;obtain⟨i0,hi0,hz0,hz1,hz2⟩:=info_parts Qh   ;have hBxl:Bx<W.heap.size:=(Array.getElem?_eq_some_iff.1 hX).1
  have HROW:=aA      hrow;have HOWN:=aA      (uI            HOW.out (hB.block b hblt))
  have hlt':pre.length<400:=by omega
  have hsB:=hB.size;clear hr hrow
  gi_wp2_with fail
  refine ZD        (fun vs:Nat→Value=>({tmps:=#[Value.map (some b),Value.pointer (some ⟨w.heap.size,0,none⟩),Value.slice none 0 0,Value.bool false,Value.pointer (some ⟨w.heap.size+1,0,none⟩),undef,Value.pointer (some ⟨Bx,0,none⟩),Value.map (some b),Value.int IntKind.i64 (K.length:Int),Value.bool (decide (400<(K.length:Int))),Value.map (some b),Value.slice p K.length cap,Value.func (Fn.func 177) #[] #[Value.pointer (some ⟨W3.heap.size,0,none⟩)],Value.int IntKind.i64 (i:Int),Value.agg #[Value.int IntKind.i64 m.x,Value.int IntKind.i64 m.y,Value.int IntKind.i64 m.d,Value.int IntKind.i64 m.e],vs 0,vs 1,vs 2,vs 3,vs 4,vs 5,vs 6,vs 7,undef],defers:=[]}:Act))
   (fun k u z=>match k with
    |0=>z=v
    |1=>z=Value.map (some b)
    |2=>z=Value.agg #[Value.int IntKind.i64 m.x,Value.int IntKind.i64 m.y,Value.int IntKind.i64 m.d,Value.int IntKind.i64 m.e]
    |3=>z=Value.int IntKind.i64 (c m)
    |4=>z=Value.agg #[Value.int IntKind.i64 m.x,Value.int IntKind.i64 m.y,Value.int IntKind.i64 m.d,Value.int IntKind.i64 m.e]
    |5=>z=Value.agg #[Value.int IntKind.i64 (c m),Value.int IntKind.i64 m.x,Value.int IntKind.i64 m.y,Value.int IntKind.i64 m.d,Value.int IntKind.i64 m.e]
    |6=>∃bb,z=Value.slice (some ⟨bb,0,none⟩) 1 1∧bb<u.heap.size∧u.heap[bb]? =some (.cells #[Value.int IntKind.i64 (c m),Value.int IntKind.i64 m.x,Value.int IntKind.i64 m.y,Value.int IntKind.i64 m.d,Value.int IntKind.i64 m.e] 42 (0,0))
    |_=>True) 9 7 W
   (fun u z=>∃g0 cap0,z=Value.slice (some ⟨g0,0,none⟩) (pre.length+1) cap0∧u.ownsRow W0.heap.size 42 5 z (pre.length+1) (aE     (pre.map (Gy  c))++aE     [(⟨c m,m⟩:T)])∧Below W0.heap.size W u∧KeepsOthers W u)
   (fun u=>KeepsFrom W0.heap.size W u∧CL    W3.heap.size p W u∧(Boxed u w.heap.size 170 (.map (some b))∧∃v,Boxed u (w.heap.size+1) 45 v∧u.ownsRow W0.heap.size 42 5 v (pre.length+1) (aE     (pre.map (Gy  c))++aE     [(⟨c m,m⟩:T)])∧True)∧(Below w.heap.size w u∧W0.heap.size≤u.heap.size))
   (by kernel_rfl) (by kernel_rfl) (fun⟨_,_,hq⟩=>hq) ?_ ?_ ?_
  ·exact RS.start (fun _=>undef) rfl
  ·intro l' b0 u hI i' hi;obtain⟨vs,rfl,hsz',hcl,hf,hy,hz⟩:=hI
   have hPm:∀k u u' z,(fun(k:Nat) (u:World) (z:Value)=>match k with
    |0=>z=v
    |1=>z=Value.map (some b)
    |2=>z=Value.agg #[Value.int IntKind.i64 m.x,Value.int IntKind.i64 m.y,Value.int IntKind.i64 m.d,Value.int IntKind.i64 m.e]
    |3=>z=Value.int IntKind.i64 (c m)
    |4=>z=Value.agg #[Value.int IntKind.i64 m.x,Value.int IntKind.i64 m.y,Value.int IntKind.i64 m.d,Value.int IntKind.i64 m.e]
    |5=>z=Value.agg #[Value.int IntKind.i64 (c m),Value.int IntKind.i64 m.x,Value.int IntKind.i64 m.y,Value.int IntKind.i64 m.d,Value.int IntKind.i64 m.e]
    |6=>∃bb,z=Value.slice (some ⟨bb,0,none⟩) 1 1∧bb<u.heap.size∧u.heap[bb]? =some (.cells #[Value.int IntKind.i64 (c m),Value.int IntKind.i64 m.x,Value.int IntKind.i64 m.y,Value.int IntKind.i64 m.d,Value.int IntKind.i64 m.e] 42 (0,0))
    |_=>True) k u z→Below u.heap.size u u'→(fun(k:Nat) (u:World) (z:Value)=>match k with
    |0=>z=v
    |1=>z=Value.map (some b)
    |2=>z=Value.agg #[Value.int IntKind.i64 m.x,Value.int IntKind.i64 m.y,Value.int IntKind.i64 m.d,Value.int IntKind.i64 m.e]
    |3=>z=Value.int IntKind.i64 (c m)
    |4=>z=Value.agg #[Value.int IntKind.i64 m.x,Value.int IntKind.i64 m.y,Value.int IntKind.i64 m.d,Value.int IntKind.i64 m.e]
    |5=>z=Value.agg #[Value.int IntKind.i64 (c m),Value.int IntKind.i64 m.x,Value.int IntKind.i64 m.y,Value.int IntKind.i64 m.d,Value.int IntKind.i64 m.e]
    |6=>∃bb,z=Value.slice (some ⟨bb,0,none⟩) 1 1∧bb<u.heap.size∧u.heap[bb]? =some (.cells #[Value.int IntKind.i64 (c m),Value.int IntKind.i64 m.x,Value.int IntKind.i64 m.y,Value.int IntKind.i64 m.d,Value.int IntKind.i64 m.e] 42 (0,0))
    |_=>True) k u' z:=by
    intro k u u' z hp hbl;match k with
    |0|1|2|3|4|5=>exact hp
    |6=>obtain⟨bb,h1,h2,h3⟩:=hp;exact⟨bb,h1,jY                 h2 hbl.size,(hbl.block bb h2).trans h3⟩
    |_+7=>trivial
   have hl0:=(mem_ready.1 hi).1;have hi9:i'<9:=by obtain⟨_,o,ho,_⟩:=mem_ready.1 hi;exact(Array.getElem?_eq_some_iff.1 ho).1
   rcases(show i'=0∨i'=1∨i'=2∨i'=3∨i'=4∨i'=5∨i'=6∨i'=7∨i'=8 from by omega)with rfl|rfl|rfl|rfl|rfl|rfl|rfl|rfl|rfl
   ·have hA:l'.getD 7 false=false:=by
     cases hx:l'.getD 7 false
     ·rfl
     ·have hx0:=hcl.dep (i:=7) rfl hx 0 (by kernel_rfl);exact(eG        hl0 hx0).elim
    have hA1:l'.getD (7+1) false=false:=by
     cases hx:l'.getD (7+1) false
     ·rfl
     ·have hx0:=hcl.dep (i:=8) rfl hx 7 (by kernel_rfl);rw[hA]at hx0;cases hx0
    have hbu:=(hf hA).1;have p0:u.cell? ⟨w.heap.size+1,0,none⟩=some v:=(mB                   (w:=W) (a:=⟨w.heap.size+1,0,none⟩) (hbu.block (w.heap.size+1) (by omega))).trans bP.cell
    refine wpOp_step rfl (fun K' hK'=>?_);go_simp;refine hK' _ _ ?_;exact RS.step 0 (v) hPm hi rfl hA hA1 (by decide) hsz' hcl hf (bL         _ u) rfl rfl
   ·have hA:l'.getD 7 false=false:=by
     cases hx:l'.getD 7 false
     ·rfl
     ·have hx6:=hcl.dep (i:=7) rfl hx 6 (by kernel_rfl);have hx5:=hcl.dep (i:=6) rfl hx6 5 (by kernel_rfl)
      have hx3:=hcl.dep (i:=5) rfl hx5 3 (by kernel_rfl);have hx1:=hcl.dep (i:=3) rfl hx3 1 (by kernel_rfl)
      exact(eG        hl0 hx1).elim
    have hA1:l'.getD (7+1) false=false:=by
     cases hx:l'.getD (7+1) false
     ·rfl
     ·have hx0:=hcl.dep (i:=8) rfl hx 7 (by kernel_rfl);rw[hA]at hx0;cases hx0
    have hbu:=(hf hA).1;have p1:u.cell? ⟨w.heap.size,0,none⟩=some (.map (some b)):=(mB                   (w:=W) (a:=⟨w.heap.size,0,none⟩) (hbu.block w.heap.size (by omega))).trans bS.cell
    refine wpOp_step rfl (fun K' hK'=>?_);go_simp;refine hK' _ _ ?_;exact RS.step 1 (Value.map (some b)) hPm hi rfl hA hA1 (by decide) hsz' hcl hf (bL         _ u) rfl rfl
   ·have hA:l'.getD 7 false=false:=by
     cases hx:l'.getD 7 false
     ·rfl
     ·have hx6:=hcl.dep (i:=7) rfl hx 6 (by kernel_rfl);have hx5:=hcl.dep (i:=6) rfl hx6 5 (by kernel_rfl)
      have hx3:=hcl.dep (i:=5) rfl hx5 3 (by kernel_rfl);have hx2:=hcl.dep (i:=3) rfl hx3 2 (by kernel_rfl)
      exact(eG        hl0 hx2).elim
    have hA1:l'.getD (7+1) false=false:=by
     cases hx:l'.getD (7+1) false
     ·rfl
     ·have hx0:=hcl.dep (i:=8) rfl hx 7 (by kernel_rfl);rw[hA]at hx0;cases hx0
    have hbu:=(hf hA).1;have hXu:FH    u Bx m:=(hbu.block Bx hBxl).trans hX
    obtain⟨x0,x1,x2,x3⟩:=hXu.cells;refine wpOp_step rfl (fun K' hK'=>?_);go_simp;refine hK' _ _ ?_;exact RS.step 2 (Value.agg #[Value.int IntKind.i64 m.x,Value.int IntKind.i64 m.y,Value.int IntKind.i64 m.d,Value.int IntKind.i64 m.e]) hPm hi rfl hA hA1 (by decide) hsz' hcl hf (bL         _ u) rfl rfl
   ·have hA:l'.getD 7 false=false:=by
     cases hx:l'.getD 7 false
     ·rfl
     ·have hx6:=hcl.dep (i:=7) rfl hx 6 (by kernel_rfl);have hx5:=hcl.dep (i:=6) rfl hx6 5 (by kernel_rfl)
      have hx3:=hcl.dep (i:=5) rfl hx5 3 (by kernel_rfl);exact(eG        hl0 hx3).elim
    have hA1:l'.getD (7+1) false=false:=by
     cases hx:l'.getD (7+1) false
     ·rfl
     ·have hx0:=hcl.dep (i:=8) rfl hx 7 (by kernel_rfl);rw[hA]at hx0;cases hx0
    have hbu:=(hf hA).1;have e1:vs 1=Value.map (some b):=(hf hA).2 1 (cV         hi rfl 1 (by kernel_rfl))
    have e2:vs 2=Value.agg #[Value.int IntKind.i64 m.x,Value.int IntKind.i64 m.y,Value.int IntKind.i64 m.d,Value.int IntKind.i64 m.e]:=(hf hA).2 2 (cV         hi rfl 2 (by kernel_rfl));have hownu:u.ownsMap Tryz.prog 40 (plainElem Tryz.prog 138) b n D:=uI            HOWN.out (hbu.block b (by omega))
    refine wpOp_step rfl (fun K' hK'=>?_);refine PX          rfl (.tmp 16) (.tmp 17) 170 rfl 40 138 .i64 nA   Tryz.underlying170 Tryz.underlying138 (Gt    _) b n D e1 hownu _ _ e2 (pH     hm) ?_;intro c1 hat1;obtain rfl:c1=c m:=by rw[(HAT.out m hm).1]at hat1;simpa using hat1.symm
    refine hK' _ _ ?_;exact RS.step 3 (Value.int IntKind.i64 (c m)) hPm hi rfl hA hA1 (by decide) hsz' hcl hf (bL         _ u) rfl rfl
   ·have hA:l'.getD 7 false=false:=by
     cases hx:l'.getD 7 false
     ·rfl
     ·have hx6:=hcl.dep (i:=7) rfl hx 6 (by kernel_rfl);have hx5:=hcl.dep (i:=6) rfl hx6 5 (by kernel_rfl)
      have hx4:=hcl.dep (i:=5) rfl hx5 4 (by kernel_rfl);exact(eG        hl0 hx4).elim
    have hA1:l'.getD (7+1) false=false:=by
     cases hx:l'.getD (7+1) false
     ·rfl
     ·have hx0:=hcl.dep (i:=8) rfl hx 7 (by kernel_rfl);rw[hA]at hx0;cases hx0
    have hbu:=(hf hA).1;have hXu:FH    u Bx m:=(hbu.block Bx hBxl).trans hX
    obtain⟨x0,x1,x2,x3⟩:=hXu.cells;refine wpOp_step rfl (fun K' hK'=>?_);go_simp;refine hK' _ _ ?_;exact RS.step 4 (Value.agg #[Value.int IntKind.i64 m.x,Value.int IntKind.i64 m.y,Value.int IntKind.i64 m.d,Value.int IntKind.i64 m.e]) hPm hi rfl hA hA1 (by decide) hsz' hcl hf (bL         _ u) rfl rfl
   ·have hA:l'.getD 7 false=false:=by
     cases hx:l'.getD 7 false
     ·rfl
     ·have hx6:=hcl.dep (i:=7) rfl hx 6 (by kernel_rfl);have hx5:=hcl.dep (i:=6) rfl hx6 5 (by kernel_rfl)
      exact(eG        hl0 hx5).elim
    have hA1:l'.getD (7+1) false=false:=by
     cases hx:l'.getD (7+1) false
     ·rfl
     ·have hx0:=hcl.dep (i:=8) rfl hx 7 (by kernel_rfl);rw[hA]at hx0;cases hx0
    have hbu:=(hf hA).1;have e3:vs 3=Value.int IntKind.i64 (c m):=(hf hA).2 3 (cV         hi rfl 3 (by kernel_rfl))
    have e4:vs 4=Value.agg #[Value.int IntKind.i64 m.x,Value.int IntKind.i64 m.y,Value.int IntKind.i64 m.d,Value.int IntKind.i64 m.e]:=(hf hA).2 4 (cV         hi rfl 4 (by kernel_rfl));refine wpOp_step rfl (fun K' hK'=>?_);go_simp;refine hK' _ _ ?_;exact RS.step 5 (Value.agg #[Value.int IntKind.i64 (c m),Value.int IntKind.i64 m.x,Value.int IntKind.i64 m.y,Value.int IntKind.i64 m.d,Value.int IntKind.i64 m.e]) hPm hi rfl hA hA1 (by decide) hsz' hcl hf (bL         _ u) rfl (by first|(rw[←e3,←e4];done)|(rw[←e3,←e4];rfl))
   ·have hA:l'.getD 7 false=false:=by
     cases hx:l'.getD 7 false
     ·rfl
     ·have hx6:=hcl.dep (i:=7) rfl hx 6 (by kernel_rfl);exact(eG        hl0 hx6).elim
    have hA1:l'.getD (7+1) false=false:=by
     cases hx:l'.getD (7+1) false
     ·rfl
     ·have hx0:=hcl.dep (i:=8) rfl hx 7 (by kernel_rfl);rw[hA]at hx0;cases hx0
    have hbu:=(hf hA).1;have e5:vs 5=Value.agg #[Value.int IntKind.i64 (c m),Value.int IntKind.i64 m.x,Value.int IntKind.i64 m.y,Value.int IntKind.i64 m.d,Value.int IntKind.i64 m.e]:=(hf hA).2 5 (cV         hi rfl 5 (by kernel_rfl))
    refine wpOp_step rfl (fun K' hK'=>?_);go_simp;refine hK' _ _ ?_;exact RS.step 6 (Value.slice (some ⟨u.heap.size,0,none⟩) 1 1) hPm hi rfl hA hA1 (by decide) hsz' hcl hf (aC      u _) ⟨u.heap.size,rfl,by simp,heap_alloc_new u _⟩ (by first|(rw[←e5];done)|(rw[←e5];rfl))
   ·have hA:l'.getD 7 false=false:=by rw[Array.getD_eq_getD_getElem?,bR         hl0];rfl
    have hA1:l'.getD (7+1) false=false:=by
     cases hx:l'.getD (7+1) false
     ·rfl
     ·have hx0:=hcl.dep (i:=8) rfl hx 7 (by kernel_rfl);rw[hA]at hx0;cases hx0
    have hbu:=(hf hA).1;have e0:vs 0=v:=(hf hA).2 0 (cV         hi rfl 0 (by kernel_rfl))
    obtain⟨bb,e1,hbl,hbc⟩:=(hf hA).2 6 (cV         hi rfl 6 (by kernel_rfl));have hsu:=hbu.size
    have HOX:=dC         HROW.out hbu;refine wpOp_step rfl (fun K' hK'=>?_);refine step_append_lies _ rfl (.tmp 15) (.tmp 21) 45 rfl W0.heap.size 42 i0 _ 5 40 Tryz.underlying45 hi0 hz0 hz1 hz2 rfl (by omega) _ pre.length (aE     (pre.map (Gy  c))) e0 HOX ⟨bb,0,none⟩ 1 1 (aE     [(⟨c m,m⟩:T)]) e1 (by rw[aX           ];rfl) (by rw[dM        ];exact World.news_of_block hbc) (dX        _) (by omega) (by unfold maxLen;omega) (by omega) (by omega) _ rfl ?_;intro g0 cap0 w9 hown1 hgrow hat1 hlt1;refine hK' _ _ ?_;have hrw:∀k,v.ownBlock=some k→W0.heap.size≤k:=fun k hk=>(HOX.lt k hk).1
    refine RS.last (.slice (some ⟨g0,0,none⟩) (pre.length+1) cap0) hi rfl (by decide) hA1 hsz' hcl ⟨g0,cap0,rfl,hown1,?_,?_⟩ rfl
    ·exact(hbu.mono hWs).grown hgrow (by omega) (fun k hk=>hrw k hk)
    ·refine(KeepsOthers.mk hbu.size (fun k o hk ho=>(hbu.block k (Array.getElem?_eq_some_iff.1 hk).1).trans hk)).trans (KeepsOthers.of_grownBy hgrow fun j o ej hj=>?_);rcases HOX.2 with⟨rfl,_⟩|⟨g,cap1,cur,rfl,_,hgb,_⟩
     ·simp[Value.ownBlock]at ej
     ·obtain rfl:g=j:=by simpa[Value.ownBlock]using ej
      rw[hgb]at hj;cases hj;rfl
   ·have hAt:l'.getD 7 false=true:=cV         hi rfl 7 (by kernel_rfl);have hA1:l'.getD (7+1) false=false:=by rw[Array.getD_eq_getD_getElem?,bR         hl0];rfl
    obtain⟨g0,cap0,e7,hown1,hbW,hkW⟩:=hy hAt hA1;have bPu:Boxed u (w.heap.size+1) 45 v:=(hbW.block _ (by omega)).trans bP
    have bSu:Boxed u w.heap.size 170 (.map (some b)):=(hbW.block _ (by omega)).trans bS;have p0:=bPu.cell
    have q0:=bPu.frozen;have hsu:=hbW.size
    rw[e7]at hown1;refine wpOp_step rfl (fun K' hK'=>?_);go_simp;refine hK' _ _ ?_;refine RS.put hi rfl hAt (by decide) hsz' hcl ⟨(hkW.trans (KeepsOthers.setCell _ _ _)).from _,⟨?_,fun k hk=>?_⟩,⟨bSu.other (by omega) _,_,bPu.set _,hown1.kept (grownBy_setCell' u _ _) (.inr (bPu.not_row (by decide) hown1).symm),trivial⟩,((hB.trans (hbW.mono (by omega))).setCell (p:=⟨w.heap.size+1,0,none⟩) (by simp) _),?_⟩ (by first|(rw[←e7];done)|(rw[←e7];rfl)|rfl)
    ·exact jZ           hsu (grownBy_setCell' u _ _).size
    ·have hkl:k<W0.heap.size∧k≠w.heap.size+1:=by
      rcases hk with rfl|hk
      ·omega
      ·have h1:=hpl k hk;have h2:=(HP3.out k hk).1
       omega
     rw[Below.heap_setCell _ _ _ k hkl.2];exact hbW.block k hkl.1
    ·exact jZ           (jZ           hWs hsu) (grownBy_setCell' u _ _).size
  ·intro l' b0 u hI hr;obtain⟨vs,rfl,hsz',hcl,hf,hy,hz⟩:=hI;have hall:=FN        (by kernel_rfl) hr hsz'
   obtain⟨z1,z2,⟨z3,v',z4,z5,_⟩,z6,z7⟩:=hz (hall 8 (by decide));exact⟨z1,z2,⟨z3,v',z4,by rw[MB         ,List.length_append];exact z5,trivial⟩,z6,z7⟩
 case done=>
  rintro D' xs W hD rfl ⟨⟨bS,v,bP,hrow,_⟩,hB,hWs⟩ hKd;have cP:=bP.cell
  gi_wp2
  refine⟨by simp,.inl ⟨_,_,rfl,run_takeDeferred hKd,?_⟩⟩;refine⟨_,results_tmp2 rfl _ _ _,v,rfl,hB.trans (belowK_b (w:=w) (Nat.le_refl _) W D' _ _ (by omega) hKd rfl rfl),?_⟩;have:=ownsRow_putObj hrow (.deferred none) hKd rfl
  rw[HL.out,vX          ,Nat.sub_zero,hd]at this;exact jG          this (by omega)
 case stop=>
  rintro D' c' pre W _ _ h _;exact h.elim
end Go.Proofs.YtdidlcjhodejjaaGreat
namespace Go.Proofs.YtdidlcjhodejjaaGreat
open Go.RowKit Go.Maps Go.Sort Go.Shelf Go.Lib
set_option linter.unusedVariables false
theorem Fz:BD:=by
 have eg:∀args w,(callFunc 180 args).run Tryz.prog w= .ok (.enter 180 args) w:=enters_of Tryz.func180 (by kernel_rfl) rfl;refine⟨fun Br W gb cap d hB hne hr hH hgb hsz=>?_,fun p cap fv W=>?_⟩
 ·have hcon:=AnyQ.slices_SortFunc sortM 4 (fun w=>Tryz.isAgg40 w) (fun w=>Tryz.sizeOf40 w) fI (fun _=>rfl) (fun x v hv=>by simp[fI]at hv;rcases hv with rfl|rfl|rfl|rfl<;>rfl) (fun x y=>c3 (fF x.1) (fF y.1)) Tl 180 #[.pointer (some ⟨Br,0,none⟩)] gb 0 cap d W eg (Az Br gb 0 d.size W hB hne hr) hH hgb hsz;exact hcon
 ·exact AnyF.slices_SortFunc_none {sortM with} p cap fv W
end Go.Proofs.YtdidlcjhodejjaaGreat
namespace Go.Proofs.YtdidlcjhodejjaaGreat
open Go.RowKit Go.Maps
set_option linter.unusedVariables false
def iV (k:Int) (f:Nat→T) (c:M→Int):Nat→M→Int
 |0=>c
 |i+1=>oJ (iV k f c i) (f i).m (k*(f i).c%101)
theorem CF (w:World):w.grownBy w.drew none:=⟨rfl,rfl,rfl,Nat.le_refl _,fun _ _ _=>rfl⟩
theorem XR {w w':World} {row:Option Nat} (h:w.grownBy w' none):w.grownBy w' row:=⟨h.os,h.tape,h.output,h.size,fun k hk _=>h.block k hk (by simp)⟩
theorem sQ (w:World) (b n:Nat) (c:M→Int) (k:Int) (a:Option Addr) (la cap:Nat) (f:Nat→T) (h:bZ w b n c) (hr:Rd w a la cap f) (hne:la=0∨∀b' off,a=some ⟨b',off,none⟩→some b'≠some b) (hm:∀i,i<la→(f i).m.ok=true) (hc:∀i,i<la→0≤(f i).c∧(f i).c≤100) (k0:0≤k) (k1:k≤100) (hn:n+la≤1000000) (hb:b<w.heap.size):Calls Tryz.prog 147 #[.map (some b),.int .i64 k,.slice a la cap] w fun e w'=>e= .returned (.tuple #[])∧bZ w' b (n+la) (iV k f c la)∧w.grownBy w' (some b):=by
 have HR:=aA hr;have HS:=aA h
 have HM:=aA hm;have HC:=aA hc
 have HNE:=aA hne;have hl:(la:Int)≤1000000:=by omega
 clear h hr hm hc hne;go_enter Tryz.func147,Tryz.ntmps147;go_wp2;go_loopw [10] (fun i wr=>∃j:Nat,j≤la∧i= .int .i64 j∧bZ wr b (n+j) (iV k f c j)∧w.grownBy wr (some b)) (fun i _=>la-(intOf i).toNat);case atStart=>exact⟨0,Nat.zero_le _,rfl,HS.out,uT w _⟩
 case round=>
  obtain⟨j,hj,rfl,hS,hg⟩:=hrel;by_cases hlt:j<la
  ·have hjl:(j:Int)<(la:Int):=by omega
   have hrj:=HR.out.grown hg HNE.out;rcases hrj.2.2 with h0|⟨pb,off,rfl,hblt,hcl⟩
   ·omega
   obtain⟨g0,g1,g2,g3,g4⟩:=hcl j hlt;have hmj:=HM.out j hlt
   obtain⟨c0,c1⟩:=HC.out j hlt;have HSJ:=aA hS
   have HG:=aA hg;clear hcl hrj hS hg;go_wp2_with fail;have HSQ:=aA (HSJ.out.grown (World.grownBy_alloc wr (.cells #[.int .i64 (f j).c,.int .i64 (f j).m.x,.int .i64 (f j).m.y,.int .i64 (f j).m.d,.int .i64 (f j).m.e] 42) none) (by simp))
   have HGQ:=aA (HG.out.trans (World.grownBy_alloc wr (.cells #[.int .i64 (f j).c,.int .i64 (f j).m.x,.int .i64 (f j).m.y,.int .i64 (f j).m.d,.int .i64 (f j).m.e] 42) (some b)));have hq:∀i v,#[Value.int .i64 (f j).c,.int .i64 (f j).m.x,.int .i64 (f j).m.y,.int .i64 (f j).m.d,.int .i64 (f j).m.e][i]? =some v→(wr.alloc (.cells #[.int .i64 (f j).c,.int .i64 (f j).m.x,.int .i64 (f j).m.y,.int .i64 (f j).m.d,.int .i64 (f j).m.e] 42)).cell? ⟨wr.heap.size,i,none⟩=some v:=fun i v hv=>by rw[World.cell?_alloc_at _ _ _ _ rfl];exact hv
   have q0:=hq 0 _ rfl;have q1:=hq 1 _ rfl
   have q2:=hq 2 _ rfl;have q3:=hq 3 _ rfl
   have q4:=hq 4 _ rfl;clear hq g0 g1 g2 g3 g4 HSJ HG;generalize(wr.alloc (.cells #[.int .i64 (f j).c,.int .i64 (f j).m.x,.int .i64 (f j).m.y,.int .i64 (f j).m.d,.int .i64 (f j).m.e] 42))=wq at HSQ HGQ q0 q1 q2 q3 q4⊢;have HADD:=aA (LF b (n+j) (iV k f c j) (k*(f j).c%101) (f j).m wq.drew hmj (HSQ.out.grown (CF wq) (by simp)) (by unfold maxLen;omega) (by omega) (by omega))
   go_region_with (first|(go_at_call 117;refine(oI _ _ _ k0 k1 c0 c1).mono ?_;rintro r w2 ⟨rfl,hw⟩;obtain rfl:=hw.symm;clear hw)|(go_at_call 165;refine HADD.out.mono ?_;rintro r w4 ⟨rfl,hS4,hg4⟩;have HS4:=aA hS4;have HG4:=aA ((HGQ.out.trans (XR (CF wq))).trans hg4);clear hS4 hg4))
   all_goals
    go_wp2;go_roundw;case rel=>exact⟨j+1,by omega,by go_num,HS4.out,HG4.out⟩
    case measure=>simp[intOf];omega
  ·obtain rfl:j=la:=by omega
   have HSJ:=aA hS;have HG:=aA hg
   clear hS hg;go_wp2
   go_end0
   exact⟨rfl,HSJ.out,HG.out⟩
end Go.Proofs.YtdidlcjhodejjaaGreat
