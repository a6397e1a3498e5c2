/-
  keysInOrder: a sum's monomials, the least first.
-/
import Derived.Test.YtncffcaabnjioaaGreatMai
import Derived.RangeFuncNested
import Derived.RangeFuncLeaves
import Derived.Orders
import Derived.OrdersIn
import Derived.RangeFuncCalls
import Derived.Deep.Quiet
set_option maxHeartbeats 1000000
set_option maxRecDepth 100000
namespace Go.Proofs.YtncffcaabnjioaaGreat
open Go.RowKit Go.Maps Go.Sort Go.Shelf
set_option linter.unusedVariables false
theorem qO {α:Type} [DecidableEq α]:∀(l r:List α),l.Nodup→(∀x∈l,x∈r)→l.length≤r.length
 |[],_,_,_=>gL _
 |x::l,r,hn,hs=>by
  rw[List.nodup_cons]at hn;have hx:x∈r:=hs x (List.mem_cons_self ..)
  have:=qO l (r.erase x) hn.2 (fun y hy=>(List.mem_erase_of_ne (fun e:y=x=>hn.1 (e▸hy))).2 (hs y (List.mem_cons_of_mem _ hy)));rw[List.length_erase_of_mem hx]at this;have:0<r.length:=List.length_pos_of_mem hx
  simp only[List.length_cons];omega
theorem RH {w:World} {b n:Nat} {D:DataW Unit} (h:w.ownsMap Tryz.prog 45 (plainElem Tryz.prog 81) b n D):Maps.size D≤n:=by obtain⟨es,clock,h1,F,h3,rfl⟩:=h;rw[size_eq,length_read];exact h3
theorem BF {w:World} {b n:Nat} {D:DataW Unit} (h:w.ownsMap Tryz.prog 45 (plainElem Tryz.prog 81) b n D) (ss:List M) (hk:∀kl,Maps.has D kl=true→∃m∈ss,kl=dK m):Maps.size D≤ss.length:=by
 have ht:=h.tidy jZ;obtain⟨es,clock,h1,F,h3,hD⟩:=h;obtain⟨L,hL,hp⟩:=ht;have e:L=(es.toList.map (WideElems.rg Tryz.prog 45 (plainElem Tryz.prog 81))).foldr DataW.insert []:=by rw[hL]at hD;exact DataW.map.inj hD
 have hkeys:∀p∈L,∃m∈ss,p.1=dK m:=fun p hpL=>by
  refine hk p.1 ?_;rw[hL,has_eq,List.any_eq_true];refine⟨p,hpL,?_⟩;have hmem:p∈es.toList.map (WideElems.rg Tryz.prog 45 (plainElem Tryz.prog 81)):=by rw[e]at hpL;exact(WideShapes.sorted_perm _).mem_iff.1 hpL
  obtain⟨v,hv⟩:=fit_keys F p hmem;exact WideAt.sameKey_self (jZ.key hv)
 rw[hL,size_eq]
 letI:DecidableEq Lit:=fun a b=>Classical.propDecidable (a=b)
 have:=qO (L.map (·.1)) (ss.map dK) (by rw[List.Nodup,List.pairwise_map];exact hp) (fun x hx=>by
  obtain⟨p,hpL,rfl⟩:=List.mem_map.1 hx;obtain⟨m,hm,he⟩:=hkeys p hpL;rw[he]
  exact List.mem_map_of_mem hm)
 simpa using this
theorem MQ {l:List OM} (h:l.Pairwise (fun a b=>dY a.1≤dY b.1)) (hn:(l.map (·.1)).Nodup):l.Pairwise (fun a b=>dY a.1<dY b.1):=by
 rw[List.Nodup,List.pairwise_map]at hn;refine(h.and hn).imp ?_;rintro a b ⟨h1,h2⟩;rcases Int.lt_or_eq_of_le h1 with h|h
 ·exact h
 ·exact absurd (AW a.2 b.2 h) h2
theorem UC (hsort:vO) (w:World) (b n:Nat) (D:DataW Unit) (hown:w.ownsMap Tryz.prog 45 (plainElem Tryz.prog 81) b n D) (hks:∀kl,Maps.has D kl=true→∃m:M,m.ok=true∧kl=dK m) (hn:n≤1000000):Calls Tryz.prog 102 #[.map (some b),.func (.func 97) #[] #[]] w fun e w'=>∃(p:Option Addr) (cap:Nat) (dO:List OM),e= .returned (.slice p dO.length cap)∧dO.Pairwise (fun a b=>dY a.1<dY b.1)∧(∀m:M,m.ok=true→(m∈dO.map (·.1)↔Maps.has D (dK m)=true))∧dO.length=Maps.size D∧xX w' p (dO.map (·.1))∧(∀k,p=some ⟨k,0,none⟩→w.heap.size≤k∧k<w'.heap.size)∧Below w.heap.size w w':=by
 have hN:Maps.size D≤1000000:=jW (RH hown) hn;obtain⟨W1,hW1⟩:∃W1,w.alloc (.cells #[.func (.func 97) #[] #[]] 90)=W1:=⟨_,rfl⟩
 obtain⟨W2,hW2⟩:∃W2,W1.alloc (.cells #[.map (some b)] 76)=W2:=⟨_,rfl⟩
 have hs1:W1.heap.size=w.heap.size+1:=by rw[←hW1];simp
 have hs2:W2.heap.size=w.heap.size+2:=by rw[←hW2];simp[hs1]
 have hb1:Below w.heap.size w W1:=by rw[←hW1];exact(cE _ w).alloc (Nat.le_refl _) _
 have hb2:Below w.heap.size w W2:=by rw[←hW2];exact hb1.alloc hb1.size _
 have hr1:W1.cell? ⟨w.heap.size,0,none⟩=some (.func (.func 97) #[] #[]):=by rw[←hW1];exact(Boxed.new w _ _).cell
 have hr2:W2.cell? ⟨w.heap.size,0,none⟩=some (.func (.func 97) #[] #[]):=by rw[←hW2];exact(lH (w:=W1) (a:=⟨w.heap.size,0,none⟩) (Below.heap_alloc W1 _ w.heap.size (by omega))).trans hr1
 have hm2:W2.cell? ⟨w.heap.size+1,0,none⟩=some (.map (some b)):=by rw[←hs1,←hW2];exact(Boxed.new W1 _ _).cell
 have hown2:W2.ownsMap Tryz.prog 45 (plainElem Tryz.prog 81) b n D:=by rw[←hW2,←hW1];exact(hown.alloc _).alloc _
 have hseq:SeqGives Fence.wide 5 Tryz.prog 164 #[.pointer (some ⟨w.heap.size+1,0,none⟩)] KV (EU D) (Maps.size D) W2:=LL trivial rfl (by omega) _ b n D W2 (by omega) hks hm2 hown2;have hS:=VL hsort 164 _ (enters_of Tryz.func164 (by kernel_rfl) rfl) (EU D) _ hN (fun ss h=>h.2.1) (fun ss h=>h.2.2.2) W2 hseq w.heap.size (by omega) hr2
 have hK:=(callsIn_wide (n:=5)).1 (ZJ (F:=Fence.wide) (n:=5) trivial rfl (some b) W1);rw[hs1]at hK;clear hseq hm2 hr2 hr1;go_enter Tryz.func102,Tryz.ntmps102
 go_wp2_with (first
  |(go_at_call 143;refine hK.mono ?_;rintro e W ⟨rfl,hw⟩;obtain rfl:=hw.trans hW2;clear hw)
  |(go_at_call 142;refine hS.mono ?_;rintro e W3 ⟨p,cap,dO,ss,rfl,hS3,hp3,hs3,hv3,hp4,hb3⟩))
 go_ret;have hnd:(dO.map (·.1)).Nodup:=hp3.symm.nodup hS3.1
 have hmem:∀m:M,m.ok=true→(m∈dO.map (·.1)↔Maps.has D (dK m)=true):=fun m hm=>by rw[hp3.mem_iff];exact hS3.2.2.1 m hm
 refine⟨p,cap,dO,rfl,MQ hs3 hnd,hmem,?_,hv3,fun k e=>(by have:=hp4 k e;omega),hb2.trans (hb3.mono (by omega))⟩;have h1:dO.length=ss.length:=by have:=hp3.length_eq;simpa using this
 have h2:=BF hown ss (fun kl hkl=>by
  obtain⟨m,hm,rfl⟩:=hks kl hkl
  exact⟨m,(hS3.2.2.1 m hm).2 hkl,rfl⟩)
 have h3:=hS3.2.2.2;omega
attribute [local go_sem] Oper.semAt_some
abbrev BA:Type:=Nat×OM
def TM (x:BA):Array Value:=#[.int .i64 (x.1:Int),.agg #[.int .i64 x.2.1.x,.int .i64 x.2.1.y,.int .i64 x.2.1.d,.int .i64 x.2.1.e]]
def kU (d:List OM) (i:Nat):BA:=(i,d.getD i default)
def gZ (d:List OM) (k:Nat):List BA:=(List.range (d.length-k)).map fun j=>kU d (d.length-1-j)
theorem CN (d:List OM):gZ d d.length=[]:=by simp[gZ]
theorem FC (d:List OM) (k:Nat) (h:k<d.length):gZ d (k+1)++[kU d k]=gZ d k:=by unfold gZ;rw[show d.length-k=(d.length-(k+1))+1 by omega,List.range_succ,List.map_append];simp only[List.map_cons,List.map_nil];rw[show d.length-1-(d.length-(k+1))=k by omega]
theorem rM (d:List OM) (k:Nat):(gZ d k).length=d.length-k:=by simp[gZ]
def wJ (Bm:Nat) (p:Option Addr) (W W':World):Prop:=W.heap.size≤W'.heap.size∧∀k,(k=Bm∨p=some ⟨k,0,none⟩)→W'.heap[k]? =W.heap[k]?
theorem UB {Bm:Nat} {p:Option Addr} {A B C:World} (h:wJ Bm p A B) (k:wJ Bm p B C):wJ Bm p A C:=⟨jW h.1 k.1,fun i hi=>(k.2 i hi).trans (h.2 i hi)⟩
theorem UA {Bm:Nat} {p:Option Addr} {w:World} (hB:Bm<w.heap.size) (hp:∀k,p=some ⟨k,0,none⟩→k<w.heap.size) (W:World) (l:Nat) (o o':Obj) (hl:w.heap.size≤l) (h:W.heap[l]? =some o) (_:o.isCells=false) (_:o.isWalk=false):wJ Bm p W (W.putObj l o'):=
 ⟨by rw[World.putObj_size];exact Nat.le_refl _,fun k hk=>World.putObj_heap_other (by rcases hk with rfl|hk;omega;have:=hp k hk;omega)⟩
theorem YZ {F:Fence} {n:Nat} (h7:F.fn 101) (hro:F.round=none) (p:Option Addr) (k cap:Nat) (w:World):CallsIn F n Tryz.prog 101 #[.slice p k cap] w fun e w'=>e= .returned (.func (.func 141) #[] #[.pointer (some ⟨w.heap.size,0,none⟩)])∧w'=w.alloc (.cells #[.slice p k cap] 140):=by
 refine callsIn_of_wp Tryz.func101 rfl h7 ?_ hro;simp only[Tryz.ntmps101,List.size_toArray,List.length_cons,List.length_nil,Nat.reduceAdd,Nat.reduceSub,Array.replicate_succ,Array.replicate_zero,List.push_toArray,List.append_toArray,List.nil_append,List.cons_append]
 gi_wp2
 go_ret;exact⟨rfl,rfl⟩
theorem WQ {F:Fence} {n:Nat} (h10:F.fn 141) (hro:F.round=none) (hn:1≤n) (l Bm cap:Nat) (p:Option Addr) (d:List OM) (hd:d.length≤1000000) (J Jx:List BA→World→Prop) (hY:∀pre x W,J pre W→pre.length<d.length→YieldAt F (n-1) Tryz.prog l (TM x) W fun e W'=>(e= .returned (.bool true)∧J (pre++[x]) W'∧wJ Bm p W W')∨(e= .returned (.bool false)∧Jx (pre++[x]) W')) (W:World) (hbox:W.cell? ⟨Bm,0,none⟩=some (.slice p d.length cap)) (hrow:xX W p (d.map (·.1))) (h0:J [] W):CallsIn F n Tryz.prog 141 #[.func (.yield l) #[] #[],.pointer (some ⟨Bm,0,none⟩)] W fun e W'=>(∃v,e= .returned v)∧((∃xs,xs=gZ d 0∧J xs W')∨(∃pre,True∧Jx pre W')):=by
 refine callsIn_of_wp Tryz.func141 rfl h10 ?_ hro;simp only[Tryz.ntmps141,List.size_toArray,List.length_cons,List.length_nil,Nat.reduceAdd,Nat.reduceSub,Array.replicate_succ,Array.replicate_zero,List.push_toArray,List.append_toArray,List.nil_append,List.cons_append]
 gi_wp2
 gi_loopw [3] (fun v wr=>∃k:Nat,k≤d.length∧v= .int .i64 ((k:Int)-1)∧J (gZ d k) wr∧wr.cell? ⟨Bm,0,none⟩=some (.slice p d.length cap)∧xX wr p (d.map (·.1))) (fun v _=>(RowKit.intOf v+1).toNat)
 case atStart=>
  exact⟨d.length,Nat.le_refl _,rfl,by rw[CN];exact h0,hbox,hrow⟩
 case round=>
  obtain⟨k,hk,rfl,hJ,hb,hR⟩:=hrel;cases k with
  |zero=>
   gi_wp2
   go_end0
   exact⟨⟨_,rfl⟩,.inl ⟨_,rfl,hJ⟩⟩
  |succ k=>
   have e1:((k+1:Nat):Int)-1=(k:Int):=by omega
   rw[e1];have hi:k<d.length:=by omega
   obtain⟨g,rfl,hgl,c0,c1,c2,c3⟩:=hR.here k (by simpa using hi);have HR:=aA hR
   have hYk:=hY (gZ d (k+1)) (kU d k) _ hJ (by rw[rM];omega);rw[FC d k hi]at hYk;have eM:(d.map (·.1))[k]'(by simpa using hi)=(kU d k).2.1:=by simp[kU,hi]
   rw[eM]at c0 c1 c2 c3;have hk1:(kU d k).1=k:=rfl
   clear hR eM hY;obtain⟨fn,tmps,assign,body,hy,hRd⟩:=hYk;dsimp only[TM]at hy;rw[hk1]at hy;clear hk1;generalize(kU d k).2.1=m at c0 c1 c2 c3 hy
   gi_wp2
   refine hRd.mono ?_;rintro e W3 (⟨rfl,hJ3,hk3⟩|⟨rfl,hJx3⟩)
   ·have hb3:W3.cell? ⟨Bm,0,none⟩=some (.slice (some ⟨g,0,none⟩) d.length cap):=(lH (w:=wr) (a:=⟨Bm,0,none⟩) (hk3.2 Bm (.inl rfl))).trans hb
    gi_wp2
    go_roundw;case rel=>exact⟨k,by omega,rfl,hJ3,hb3,HR.out.keep hk3.1 (fun g' e=>hk3.2 g' (.inr e))⟩
    case measure=>simp only[RowKit.intOf];omega
   ·gi_wp2
    refine cB (results_none rfl _ _ _) rfl ?_;exact⟨⟨_,rfl⟩,.inr ⟨_,trivial,hJx3⟩⟩
theorem KM {n:Nat} (hn:1≤n) (Bm cap:Nat) (p:Option Addr) (d:List OM) (hd:d.length≤1000000) (w:World) (hBm:Bm<w.heap.size) (hbox:w.cell? ⟨Bm,0,none⟩=some (.slice p d.length cap)) (hrow:xX w p (d.map (·.1))) (hp:∀k,p=some ⟨k,0,none⟩→k<w.heap.size):SeqStopsK Fence.wide n Tryz.prog 141 #[.pointer (some ⟨Bm,0,none⟩)] TM (wJ Bm p) (fun xs=>xs=gZ d 0) (fun _=>True) d.length w:=fun l J Jx W hW _ _ hY h0=>
 WQ (F:=Fence.wide) trivial rfl hn l Bm cap p d hd J Jx hY W ((hW.cell (p:=⟨Bm,0,none⟩) hBm).trans hbox) (hrow.keep hW.size (fun g e=>hW.block g (hp g e))) h0
end Go.Proofs.YtncffcaabnjioaaGreat
namespace Go.Proofs.YtncffcaabnjioaaGreat
open Go.RowKit
def fM (l:Array Bool):Nat:=(l.toList.filter (fun b=>b==false)).length
theorem uQ:∀(l:List Bool) (i:Nat),l[i]? =some false→((l.set i true).filter (fun b=>b==false)).length+1=(l.filter (fun b=>b==false)).length
 |[],i,h=>by simp at h
 |b::r,0,h=>by simp at h;subst h;simp
 |b::r,i+1,h=>by have ih:=uQ r i (by simpa using h);cases b<;>simp at ih⊢<;>omega
theorem fO {l:Array Bool} {i:Nat} (h:l[i]? =some false):fM (l.setIfInBounds i true)+1=fM l:=by unfold fM;rw[Array.toList_setIfInBounds];exact uQ _ _ (by simpa using h)
theorem iT:∀(l:List Bool),(l.filter (fun b=>b==false)).length=0→∀i:Nat,l[i]? ≠some false
 |[],_,i,h=>by simp at h
 |b::r,hl,0,h=>by simp at h;subst h;simp at hl
 |b::r,hl,i+1,h=>by refine iT r ?_ i (by simpa using h);cases b<;>simp at hl⊢;exact hl
theorem bA {l:Array Bool} {i:Nat} (h:l.getD i true=false):l[i]? =some false:=by
 rw[Array.getD_eq_getD_getElem?]at h;cases hx:l[i]? with
 |none=>rw[hx]at h;simp at h
 |some b=>rw[hx]at h;simp at h;rw[h]
theorem uC {P:Program} {md:Region.Mode} {ops:Array Oper} {Q:Exit→Act→World→Prop} {I:Array Bool→Act→World→Prop} (hs:∀l a w,I l a w→∀i∈Region.ready md ops l,wpOp P ops Q i (I (l.setIfInBounds i true)) a w) (he:∀l a w,I l a w→Region.ready md ops l=[]→Q .normal a w):∀(fuel:Nat) (l:Array Bool) (a:Act) (w:World),fM l≤fuel→I l a w→wpAny P md ops Q fuel l a w
 |0,l,a,w,hf,hI=>by
  have hr:Region.ready md ops l=[]:=by
   rw[List.eq_nil_iff_forall_not_mem];intro i hi;have h0:=bA (mem_ready.1 hi).1
   exact iT l.toList (by unfold fM at hf;omega) i (by simpa using h0)
  exact⟨hr,he l a w hI hr⟩
 |fuel+1,l,a,w,hf,hI=>by
  refine⟨fun hr=>he l a w hI hr,fun i hi=>?_⟩;have h0:=bA (mem_ready.1 hi).1
  have h1:=fO h0;exact wpOp_mono (fun a' w' h=>uC hs he fuel _ a' w' (by omega) h) (hs l a w hI i hi)
theorem dU (n:Nat):fM (Array.replicate n false)=n:=by unfold fM;simp
theorem mC {P:Program} {id:Nat} {ops:Array Oper} {Q:Exit→Act→World→Prop} {I:Array Bool→Act→World→Prop} {a:Act} {w:World} (hm:P.follows .mixedOrders=true) (h0:I (Array.replicate ops.size false) a w.drew) (hs:∀l a w,I l a w→∀i∈Region.ready .any ops l,wpOp P ops Q i (I (l.setIfInBounds i true)) a w) (he:∀l a w,I l a w→Region.ready .any ops l=[]→Q .normal a w):(Code.region id ops true).wp P Q a w:=
 wp_region_any hm (uC hs he ops.size _ a _ (by rw[dU];exact Nat.le_refl _) h0)
set_option linter.unusedVariables false
theorem bU {ops:Array Oper} {l:Array Bool} {i:Nat} {o:Oper} (hi:i∈Region.ready .any ops l) (ho:ops[i]? =some o) (k:Nat) (hk:o.after.any (fun e=>Region.binds .any e&&e.on==k)=true):l.getD k false=true:=by obtain⟨_,o',ho',ha⟩:=mem_ready.1 hi;rw[ho]at ho';obtain rfl:=Option.some.inj ho';rw[Array.any_eq_true']at hk;obtain⟨e,he,hh⟩:=hk;simp only[Bool.and_eq_true,beq_iff_eq]at hh;rw[←hh.2];exact ha e he hh.1
theorem iE {l:Array Bool} {i:Nat} (d:Bool) (h:i<l.size):(l.setIfInBounds i true).getD i d=true:=by rw[Array.getD_eq_getD_getElem?,Array.getElem?_setIfInBounds_self_of_lt h];rfl
theorem zE (n k:Nat):(Array.replicate n false).getD k false=false:=by rw[Array.getD_eq_getD_getElem?,Array.getElem?_replicate];split<;>rfl
def eG (ops:Array Oper) (l:Array Bool):Prop:=∀i o,ops[i]? =some o→l.getD i false=true→∀e∈o.after,Region.binds .any e=true→l.getD e.on false=true
theorem eG.start (ops:Array Oper) (n:Nat):eG ops (Array.replicate n false):=fun i o _ h=>by rw[zE]at h;cases h
theorem eG.step {ops:Array Oper} {l:Array Bool} {i:Nat} (h:eG ops l) (hi:i∈Region.ready .any ops l) (hl:l.size=ops.size):eG ops (l.setIfInBounds i true):=by
 intro j o ho hj e he hb;obtain⟨_,o',ho',ha⟩:=mem_ready.1 hi;have hil:i<l.size:=by rw[hl];exact(Array.getElem?_eq_some_iff.1 ho').1
 have hd:l.getD e.on false=true:=by
  by_cases hji:j=i
  ·subst hji;rw[ho]at ho';obtain rfl:=Option.some.inj ho';exact ha e he hb
  ·rw[getD_set_ne false (fun e=>hji e.symm)]at hj;exact h j o ho hj e he hb
 by_cases hei:e.on=i
 ·rw[hei,iE false hil]
 ·rw[getD_set_ne false (fun e=>hei e.symm)];exact hd
theorem eG.dep {ops:Array Oper} {l:Array Bool} {i:Nat} {o:Oper} (h:eG ops l) (ho:ops[i]? =some o) (hd:l.getD i false=true) (k:Nat) (hk:o.after.any (fun e=>Region.binds .any e&&e.on==k)=true):l.getD k false=true:=by rw[Array.any_eq_true']at hk;obtain⟨e,he,hh⟩:=hk;simp only[Bool.and_eq_true,beq_iff_eq]at hh;rw[←hh.2];exact h i o ho hd e he hh.1
theorem dI {l:Array Bool} {i:Nat} (h:l.getD i true=false):l.getD i false=true→False:=fun k=>by
 rw[Array.getD_eq_getD_getElem?]at h k;cases hx:l[i]? with
 |none=>rw[hx]at h;simp at h
 |some b=>rw[hx]at h k;simp at h k;rw[h]at k;cases k
theorem yD {ops:Array Oper} {l:Array Bool} (h:(List.range ops.size).all (fun i=>match ops[i]? with|some o=>o.after.all (fun e=> !Region.binds .any e||decide (e.on<i))|none=>true)=true) (hr:Region.ready .any ops l=[]) (hl:l.size=ops.size):∀i,i<ops.size→l.getD i false=true:=by
 intro i;induction i using Nat.strongRecOn with
 |_ i ih=>
  intro hi;cases hx:l.getD i false
  ·exfalso;rw[List.eq_nil_iff_forall_not_mem]at hr;refine hr i (mem_ready.2 ⟨?_,ops[i],Array.getElem?_eq_getElem hi,fun e he hb=>?_⟩)
   ·rw[Array.getD_eq_getD_getElem?]at hx⊢;rw[Array.getElem?_eq_getElem (by omega)]at hx⊢;simpa using hx
   ·rw[List.all_eq_true]at h;have h1:=h i (List.mem_range.2 hi)
    rw[Array.getElem?_eq_getElem hi]at h1;simp only[Array.all_eq_true']at h1;have h2:=h1 e he
    rw[hb]at h2;simp at h2;exact ih e.on h2 (by omega)
  ·rfl
theorem tR {n k:Nat} {p:Prop} (h:(Array.replicate n false).getD k false=true):p:=by rw[zE]at h;cases h
theorem GG {n l:Nat} {P:Program} {row:String} {args:Array Value} {w:World} {R:Value→World→Prop} (h:Rows P row args w R):RowsIn (Fence.wide.inRound l) n P row args w R:=
 fun c cs _=>let⟨v,w',r,s⟩:=h c cs;⟨v,w',r,stepsIn_wide.2 s⟩
theorem FV {n l:Nat} {P:Program} {o:Oper} {a:Act} {w:World} {K:Act→World→Prop} {Q:Exit→Act→World→Prop} (hd:∀c,o.op≠ .defer c) (h:o.wp P a w K Q):o.wpIn (Fence.wide.inRound l) n P a w K Q:=by
 refine⟨fun f _=>trivial,?_⟩;unfold Oper.wp at h;rw[show(Fence.wide.inRound l).round=some l from rfl,Oper.semAt_some l _ _ hd];generalize(execOp a.eval o).run P w=r at *;cases r with
 |ok x w'=>
  cases x<;>simp only[Oper.upon,Oper.uponIn]at h⊢<;>first
   |exact h
   |exact⟨fun e=>(by cases e),CallsIn.inRound l (callsIn_wide.2 h)⟩
   |exact⟨fun e=>(by cases e),GG h⟩
 |halt x w'=>cases x<;>simp only[Oper.upon,Oper.uponIn]at h⊢<;>exact h
def nG (ops:Array Oper):Bool:=ops.all fun o=>match o.op with| .defer _=>false|_=>true
theorem FU {ops:Array Oper} (h:nG ops=true) {i:Nat} {o:Oper} (ho:ops[i]? =some o):∀c,o.op≠ .defer c:=by
 intro c hc;unfold nG at h;rw[Array.all_eq_true']at h;have:=h o (Array.mem_of_getElem? ho)
 rw[hc]at this;cases this
theorem gQ {n l:Nat} {P:Program} {ops:Array Oper} {Q:Exit→Act→World→Prop} (hd:nG ops=true) (hL:¬LetsOut Q) {i:Nat} {K:Act→World→Prop} {a:Act} {w:World} (h:wpOp P ops Q i K a w):wpOpIn (Fence.wide.inRound l) n P ops Q i K a w:=by
 unfold wpOp at h;unfold wpOpIn;split
 ·rename_i ho;simp only[ho]at h;exact h
 ·rename_i o ho;simp only[ho]at h;split
  ·rename_i hw;simp only[hw,if_true]at h;rcases h with h|h
   ·exact FV (FU hd ho) h
   ·exact absurd h.2 hL
  ·rename_i hw;simp only[hw]at h;exact⟨fun _ _=>trivial,h⟩
theorem yF {n l:Nat} {P:Program} {md:Region.Mode} {ops:Array Oper} {Q:Exit→Act→World→Prop} (hd:nG ops=true) (hL:¬LetsOut Q):∀(fuel:Nat) (li:Array Bool) (a:Act) (w:World),wpAny P md ops Q fuel li a w→wpAnyIn (Fence.wide.inRound l) n P md ops Q fuel li a w
 |0,_,_,_,h=>h
 |fuel+1,li,a,w,h=>⟨h.1,fun i hi=>wpOpIn_mono (fun a' w' h'=>yF hd hL fuel _ a' w' h') (gQ hd hL (h.2 i hi))⟩
theorem AV {n l id:Nat} {P:Program} {ops:Array Oper} {Q:Exit→Act→World→Prop} {a:Act} {w:World} (hm:P.follows .mixedOrders=true) (hd:nG ops=true) (hL:¬LetsOut Q) (h:wpAny P .any ops Q ops.size (Array.replicate ops.size false) a w.drew):(Code.region id ops true).wpIn (Fence.wide.inRound l) n P Q a w:=
 wpIn_region_any hm (yF hd hL _ _ _ _ h)
theorem tQ {n l id:Nat} {P:Program} {ops:Array Oper} {Q:Exit→Act→World→Prop} {I:Array Bool→Act→World→Prop} {a:Act} {w:World} (hm:P.follows .mixedOrders=true) (hd:nG ops=true) (hL:¬LetsOut Q) (h0:I (Array.replicate ops.size false) a w.drew) (hs:∀l a w,I l a w→∀i∈Region.ready .any ops l,wpOp P ops Q i (I (l.setIfInBounds i true)) a w) (he:∀l a w,I l a w→Region.ready .any ops l=[]→Q .normal a w):(Code.region id ops true).wpIn (Fence.wide.inRound l) n P Q a w:=
 AV hm hd hL (uC hs he ops.size _ a _ (by rw[dU];exact Nat.le_refl _) h0)
open Go.RowKit Go.Maps
def RS (ops:Array Oper) (F:(Nat→Value)→Act) (P:Nat→World→Value→Prop) (n A:Nat) (w0:World) (Y:World→Value→Prop) (Z:World→Prop) (l:Array Bool) (a:Act) (u:World):Prop:=
 ∃vs:Nat→Value,a=F vs∧l.size=n∧eG ops l∧(l.getD A false=false→Below w0.heap.size w0 u∧∀k,l.getD k false=true→P k u (vs k))∧(l.getD A false=true→l.getD (A+1) false=false→Y u (vs A))∧(l.getD (A+1) false=true→Z u)
theorem RS.start {ops:Array Oper} {F:(Nat→Value)→Act} {P:Nat→World→Value→Prop} {n A:Nat} {w0:World} {Y:World→Value→Prop} {Z:World→Prop} {a:Act} (vs:Nat→Value) (ha:a=F vs):RS ops F P n A w0 Y Z (Array.replicate n false) a w0.drew:=
 ⟨vs,ha,by simp,eG.start _ _,fun _=>⟨(cE _ _).drew,fun k h=>tR h⟩,fun h=>tR h,fun h=>tR h⟩
theorem RS.step {ops:Array Oper} {F:(Nat→Value)→Act} {P:Nat→World→Value→Prop} {n A:Nat} {w0 u u':World} {Y:World→Value→Prop} {Z:World→Prop} {l:Array Bool} {vs:Nat→Value} (i:Nat) (v:Value) {a:Act} (hP:∀k u u' v,P k u v→Below u.heap.size u u'→P k u' v) (hi:i∈Region.ready .any ops l) (hno:ops.size=n) (hA:l.getD A false=false) (hA1:l.getD (A+1) false=false) (hiA:i<A) (hl:l.size=n) (hcl:eG ops l) (hf:l.getD A false=false→Below w0.heap.size w0 u∧∀k,l.getD k false=true→P k u (vs k)) (hm:Below u.heap.size u u') (hv:P i u' v) (ha:a=F (fun k=>if k=i then v else vs k)):RS ops F P n A w0 Y Z (l.setIfInBounds i true) a u':=by
 refine⟨fun k=>if k=i then v else vs k,ha,by simp[hl],hcl.step hi (by omega),fun _=>⟨aB (hf hA).1 hm,fun k hk=>?_⟩,fun h=>?_,fun h=>?_⟩
 ·by_cases hki:k=i
  ·have hv2:P k u' v:=by rw[hki];exact hv
   exact Eq.mpr (congrArg (fun z=>P k u' z) (if_pos hki)) hv2
  ·rw[getD_set_ne false (fun e=>hki e.symm)]at hk;exact Eq.mpr (congrArg (fun z=>P k u' z) (if_neg hki)) (hP k u u' _ ((hf hA).2 k hk) hm)
 ·rw[getD_set_ne false (by omega),hA]at h;cases h
 ·rw[getD_set_ne false (by omega),hA1]at h;cases h
theorem RS.last {ops:Array Oper} {F:(Nat→Value)→Act} {P:Nat→World→Value→Prop} {n A:Nat} {w0 u':World} {Y:World→Value→Prop} {Z:World→Prop} {l:Array Bool} {vs:Nat→Value} (v:Value) {a:Act} (hi:A∈Region.ready .any ops l) (hno:ops.size=n) (hAn:A<n) (hA1:l.getD (A+1) false=false) (hl:l.size=n) (hcl:eG ops l) (hv:Y u' v) (ha:a=F (fun k=>if k=A then v else vs k)):RS ops F P n A w0 Y Z (l.setIfInBounds A true) a u':=by
 refine⟨fun k=>if k=A then v else vs k,ha,by simp[hl],hcl.step hi (by omega),fun h=>?_,fun _ _=>Eq.mpr (congrArg (fun z=>Y u' z) (if_pos rfl)) hv,fun h=>?_⟩
 ·rw[iE false (by omega)]at h;cases h
 ·rw[getD_set_ne false (by omega),hA1]at h;cases h
theorem RS.put {ops:Array Oper} {F:(Nat→Value)→Act} {P:Nat→World→Value→Prop} {n A:Nat} {w0 u':World} {Y:World→Value→Prop} {Z:World→Prop} {l:Array Bool} {vs:Nat→Value} {a:Act} (hi:A+1∈Region.ready .any ops l) (hno:ops.size=n) (hA:l.getD A false=true) (hAn:A+1<n) (hl:l.size=n) (hcl:eG ops l) (hz:Z u') (ha:a=F vs):RS ops F P n A w0 Y Z (l.setIfInBounds (A+1) true) a u':=by
 refine⟨vs,ha,by simp[hl],hcl.step hi (by omega),fun h=>?_,fun _ h=>?_,fun _=>hz⟩
 ·rw[getD_set_ne false (by omega),hA]at h;cases h
 ·rw[iE false (by omega)]at h;cases h
theorem MH {nn l id:Nat} {P:Program} {ops:Array Oper} {Q:Exit→Act→World→Prop} (F:(Nat→Value)→Act) (K:Nat→World→Value→Prop) (n A:Nat) (w0:World) (Y:World→Value→Prop) (Z:World→Prop) {a:Act} (hm:P.follows .mixedOrders=true) (hd:nG ops=true) (hL:¬LetsOut Q)
 (h0:RS ops F K n A w0 Y Z (Array.replicate ops.size false) a w0.drew)
 (hs:∀l a w,RS ops F K n A w0 Y Z l a w→∀i∈Region.ready .any ops l,wpOp P ops Q i (RS ops F K n A w0 Y Z (l.setIfInBounds i true)) a w)
 (he:∀l a w,RS ops F K n A w0 Y Z l a w→Region.ready .any ops l=[]→Q .normal a w):(Code.region id ops true).wpIn (Fence.wide.inRound l) nn P Q a w0:=tQ (I:=RS ops F K n A w0 Y Z) hm hd hL h0 hs he
theorem EK {H:Type} {P:Program} {w:World} {ops:Array Oper} {o:Oper} {a:Act} {K:Act→World→Prop} {Q:Exit→Act→World→Prop} {E:Prop} (hgd:o.guard=none) (m x:Operand) (t:TypeId) (hop:o.op=Op.lookup t m x false) (k e:TypeId) (q:IntKind) (Ky:Keyed P k) (ht:P.underlying t=some (.map k e)) (he:P.underlying e=some (.int q)) (hz:(zeroValue e).run P w= .ok (.int q 0) w) (b n:Nat) (D:DataW H) (hm:a.eval m= .map (some b)) (hown:w.ownsMap P k (plainElem P e) b n D) (key:Value) (kl:Lit) (hx:a.eval x=key) (hkey:keyOf P k key=some kl) (h:∀c:Int,D.atKey kl (.lit (.int q 0))= .lit (.int q c)→K (a.put o.dst (.int q c)) w):if Region.wanted o (yielded ops a.tmps)=true then Oper.wp P o a w K Q else E:=by
 have hw:Region.wanted o (yielded ops a.tmps)=true:=by simp[Region.wanted,hgd]
 rw[if_pos hw];obtain⟨c,hrun,hat,hwc⟩:=hown.lookup_int Ky ht he hz hkey;unfold Oper.wp;simp[execOp,hop,hm,hx,hrun,Result.andThen];exact h c hat
end Go.Proofs.YtncffcaabnjioaaGreat
