/-
  keysInOrder: a sum's monomials, the least first.
-/
import Derived.Test.YtelkehjdfcoeiaaGreatNai
import Derived.RangeFuncNested
import Derived.RangeFuncLeaves
import Derived.Orders
import Derived.OrdersIn
import Derived.RangeFuncCalls
import Derived.Deep.Quiet
import Derived.Maps.OwnIn
set_option maxHeartbeats 1000000
set_option maxRecDepth 100000
namespace Go.Proofs.YtelkehjdfcoeiaaGreat
open Go.RowKit Go.Maps Go.Sort Go.Shelf
set_option linter.unusedVariables false
theorem pT {α:Type} [DecidableEq α]:∀(l r:List α),l.Nodup→(∀x∈l,x∈r)→l.length≤r.length
 |[],_,_,_=>Nat.zero_le _
 |x::l,r,hn,hs=>by
  rw[List.nodup_cons]at hn;have hx:x∈r:=hs x (List.mem_cons_self ..)
  have:=pT l (r.erase x) hn.2 (fun y hy=>(List.mem_erase_of_ne (fun e:y=x=>hn.1 (e▸hy))).2 (hs y (List.mem_cons_of_mem _ hy)));rw[List.length_erase_of_mem hx]at this;have:0<r.length:=List.length_pos_of_mem hx
  simp only[List.length_cons];omega
theorem RH {w:World} {b n:Nat} {D:DataW Unit} (h:w.ownsMap Tryz.prog 84 (plainElem Tryz.prog 131) b n D):Maps.size D≤n:=by obtain⟨es,clock,h1,F,h3,rfl⟩:=h;rw[size_eq,length_read];exact h3
theorem AR {w:World} {b n:Nat} {D:DataW Unit} (h:w.ownsMap Tryz.prog 84 (plainElem Tryz.prog 131) b n D) (ss:List M) (hk:∀kl,Maps.has D kl=true→∃m∈ss,kl=cY m):Maps.size D≤ss.length:=by
 have ht:=h.tidy jK;obtain⟨es,clock,h1,F,h3,hD⟩:=h;obtain⟨L,hL,hp⟩:=ht;have e:L=(es.toList.map (WideElems.rg Tryz.prog 84 (plainElem Tryz.prog 131))).foldr DataW.insert []:=by rw[hL]at hD;exact DataW.map.inj hD
 have hkeys:∀p∈L,∃m∈ss,p.1=cY m:=fun p hpL=>by
  refine hk p.1 ?_;rw[hL,has_eq,List.any_eq_true];refine⟨p,hpL,?_⟩;have hmem:p∈es.toList.map (WideElems.rg Tryz.prog 84 (plainElem Tryz.prog 131)):=by rw[e]at hpL;exact(WideShapes.sorted_perm _).mem_iff.1 hpL
  obtain⟨v,hv⟩:=fit_keys F p hmem;exact WideAt.sameKey_self (jK.key hv)
 rw[hL,size_eq]
 letI:DecidableEq Lit:=fun a b=>Classical.propDecidable (a=b)
 have:=pT (L.map (·.1)) (ss.map cY) (by rw[List.Nodup,List.pairwise_map];exact hp) (fun x hx=>by
  obtain⟨p,hpL,rfl⟩:=List.mem_map.1 hx;obtain⟨m,hm,he⟩:=hkeys p hpL;rw[he]
  exact List.mem_map_of_mem hm)
 simpa using this
theorem MQ {l:List OM} (h:l.Pairwise (fun a b=>dI a.1≤dI b.1)) (hn:(l.map (·.1)).Nodup):l.Pairwise (fun a b=>dI a.1<dI b.1):=by
 rw[List.Nodup,List.pairwise_map]at hn;refine(h.and hn).imp ?_;rintro a b ⟨h1,h2⟩;rcases Int.lt_or_eq_of_le h1 with h|h
 ·exact h
 ·exact absurd (AL a.2 b.2 h) h2
theorem TZ (hsort:uT) (w:World) (b n:Nat) (D:DataW Unit) (hown:w.ownsMap Tryz.prog 84 (plainElem Tryz.prog 131) b n D) (hks:∀kl,Maps.has D kl=true→∃m:M,m.ok=true∧kl=cY m) (hn:n≤1000000):Calls Tryz.prog 110 #[.map (some b),.func (.func 93) #[] #[]] w fun e w'=>∃(p:Option Addr) (cap:Nat) (dO:List OM),e= .returned (.slice p dO.length cap)∧dO.Pairwise (fun a b=>dI a.1<dI b.1)∧(∀m:M,m.ok=true→(m∈dO.map (·.1)↔Maps.has D (cY m)=true))∧dO.length=Maps.size D∧xD w' p (dO.map (·.1))∧(∀k,p=some ⟨k,0,none⟩→w.heap.size≤k∧k<w'.heap.size)∧Below w.heap.size w w':=by
 have hN:Maps.size D≤1000000:=gW (RH hown) hn;obtain⟨W1,hW1⟩:∃W1,w.alloc (.cells #[.func (.func 93) #[] #[]] 105)=W1:=⟨_,rfl⟩
 obtain⟨W2,hW2⟩:∃W2,W1.alloc (.cells #[.map (some b)] 94)=W2:=⟨_,rfl⟩
 have hs1:W1.heap.size=w.heap.size+1:=by rw[←hW1];simp
 have hs2:W2.heap.size=w.heap.size+2:=by rw[←hW2];simp[hs1]
 have hb1:Below w.heap.size w W1:=by rw[←hW1];exact(bQ _ w).alloc (Nat.le_refl _) _
 have hb2:Below w.heap.size w W2:=by rw[←hW2];exact hb1.alloc hb1.size _
 have hr1:W1.cell? ⟨w.heap.size,0,none⟩=some (.func (.func 93) #[] #[]):=by rw[←hW1];exact(Boxed.new w _ _).cell
 have hr2:W2.cell? ⟨w.heap.size,0,none⟩=some (.func (.func 93) #[] #[]):=by rw[←hW2];exact(nC (w:=W1) (a:=⟨w.heap.size,0,none⟩) (Below.heap_alloc W1 _ w.heap.size (by omega))).trans hr1
 have hm2:W2.cell? ⟨w.heap.size+1,0,none⟩=some (.map (some b)):=by rw[←hs1,←hW2];exact(Boxed.new W1 _ _).cell
 have hown2:W2.ownsMap Tryz.prog 84 (plainElem Tryz.prog 131) b n D:=by rw[←hW2,←hW1];exact(hown.alloc _).alloc _
 have hseq:SeqGives Fence.wide 5 Tryz.prog 179 #[.pointer (some ⟨w.heap.size+1,0,none⟩)] KW (FD D) (Maps.size D) W2:=LI trivial rfl (by omega) _ b n D W2 (by omega) hks hm2 hown2;have hS:=VI hsort 179 _ (enters_of Tryz.func179 (by kernel_rfl) rfl) (FD D) _ hN (fun ss h=>h.2.1) (fun ss h=>h.2.2.2) W2 hseq w.heap.size (by omega) hr2
 have hK:=(callsIn_wide (n:=5)).1 (Aa (F:=Fence.wide) (n:=5) trivial rfl (some b) W1);rw[hs1]at hK;clear hseq hm2 hr2 hr1;go_enter Tryz.func110,Tryz.ntmps110
 go_wp2_with (first
  |(go_at_call 150;refine hK.mono ?_;rintro e W ⟨rfl,hw⟩;obtain rfl:=hw.trans hW2;clear hw)
  |(go_at_call 149;refine hS.mono ?_;rintro e W3 ⟨p,cap,dO,ss,rfl,hS3,hp3,hs3,hv3,hp4,hb3⟩))
 go_ret;have hnd:(dO.map (·.1)).Nodup:=hp3.symm.nodup hS3.1
 have hmem:∀m:M,m.ok=true→(m∈dO.map (·.1)↔Maps.has D (cY m)=true):=fun m hm=>by rw[hp3.mem_iff];exact hS3.2.2.1 m hm
 refine⟨p,cap,dO,rfl,MQ hs3 hnd,hmem,?_,hv3,fun k e=>(by have:=hp4 k e;omega),hb2.trans (hb3.mono (by omega))⟩;have h1:dO.length=ss.length:=by have:=hp3.length_eq;simpa using this
 have h2:=AR hown ss (fun kl hkl=>by
  obtain⟨m,hm,rfl⟩:=hks kl hkl
  exact⟨m,(hS3.2.2.1 m hm).2 hkl,rfl⟩)
 have h3:=hS3.2.2.2;omega
attribute [local go_sem] Oper.semAt_some
abbrev BA:Type:=Nat×OM
def TJ (x:BA):Array Value:=#[.int .i64 (x.1:Int),.agg #[.int .i64 x.2.1.x,.int .i64 x.2.1.y,.int .i64 x.2.1.d,.int .i64 x.2.1.e]]
def kH (d:List OM) (i:Nat):BA:=(i,d.getD i default)
def gR (d:List OM) (k:Nat):List BA:=(List.range (d.length-k)).map fun j=>kH d (d.length-1-j)
theorem CC (d:List OM):gR d d.length=[]:=by simp[gR]
theorem FK (d:List OM) (k:Nat) (h:k<d.length):gR d (k+1)++[kH d k]=gR d k:=by unfold gR;rw[show d.length-k=(d.length-(k+1))+1 by omega,List.range_succ,List.map_append];simp only[List.map_cons,List.map_nil];rw[show d.length-1-(d.length-(k+1))=k by omega]
theorem qR (d:List OM) (k:Nat):(gR d k).length=d.length-k:=by simp[gR]
def vK (Bm:Nat) (p:Option Addr) (W W':World):Prop:=W.heap.size≤W'.heap.size∧∀k,(k=Bm∨p=some ⟨k,0,none⟩)→W'.heap[k]? =W.heap[k]?
theorem TY {Bm:Nat} {p:Option Addr} {A B C:World} (h:vK Bm p A B) (k:vK Bm p B C):vK Bm p A C:=⟨gW h.1 k.1,fun i hi=>(k.2 i hi).trans (h.2 i hi)⟩
theorem TX {Bm:Nat} {p:Option Addr} {w:World} (hB:Bm<w.heap.size) (hp:∀k,p=some ⟨k,0,none⟩→k<w.heap.size) (W:World) (l:Nat) (o o':Obj) (hl:w.heap.size≤l) (h:W.heap[l]? =some o) (_:o.isCells=false) (_:o.isWalk=false):vK Bm p W (W.putObj l o'):=
 ⟨by rw[World.putObj_size];exact Nat.le_refl _,fun k hk=>World.putObj_heap_other (by rcases hk with rfl|hk;omega;have:=hp k hk;omega)⟩
theorem ZN {F:Fence} {n:Nat} (h7:F.fn 109) (hro:F.round=none) (p:Option Addr) (k cap:Nat) (w:World):CallsIn F n Tryz.prog 109 #[.slice p k cap] w fun e w'=>e= .returned (.func (.func 148) #[] #[.pointer (some ⟨w.heap.size,0,none⟩)])∧w'=w.alloc (.cells #[.slice p k cap] 151):=by
 refine callsIn_of_wp Tryz.func109 rfl h7 ?_ hro;simp only[Tryz.ntmps109,List.size_toArray,List.length_cons,List.length_nil,Nat.reduceAdd,Nat.reduceSub,Array.replicate_succ,Array.replicate_zero,List.push_toArray,List.append_toArray,List.nil_append,List.cons_append]
 gi_wp2
 go_ret;exact⟨rfl,rfl⟩
theorem WY {F:Fence} {n:Nat} (h10:F.fn 148) (hro:F.round=none) (hn:1≤n) (l Bm cap:Nat) (p:Option Addr) (d:List OM) (hd:d.length≤1000000) (J Jx:List BA→World→Prop) (hY:∀pre x W,J pre W→pre.length<d.length→YieldAt F (n-1) Tryz.prog l (TJ x) W fun e W'=>(e= .returned (.bool true)∧J (pre++[x]) W'∧vK Bm p W W')∨(e= .returned (.bool false)∧Jx (pre++[x]) W')) (W:World) (hbox:W.cell? ⟨Bm,0,none⟩=some (.slice p d.length cap)) (hrow:xD W p (d.map (·.1))) (h0:J [] W):CallsIn F n Tryz.prog 148 #[.func (.yield l) #[] #[],.pointer (some ⟨Bm,0,none⟩)] W fun e W'=>(∃v,e= .returned v)∧((∃xs,xs=gR d 0∧J xs W')∨(∃pre,True∧Jx pre W')):=by
 refine callsIn_of_wp Tryz.func148 rfl h10 ?_ hro;simp only[Tryz.ntmps148,List.size_toArray,List.length_cons,List.length_nil,Nat.reduceAdd,Nat.reduceSub,Array.replicate_succ,Array.replicate_zero,List.push_toArray,List.append_toArray,List.nil_append,List.cons_append]
 gi_wp2
 gi_loopw [3] (fun v wr=>∃k:Nat,k≤d.length∧v= .int .i64 ((k:Int)-1)∧J (gR d k) wr∧wr.cell? ⟨Bm,0,none⟩=some (.slice p d.length cap)∧xD wr p (d.map (·.1))) (fun v _=>(RowKit.intOf v+1).toNat)
 case atStart=>
  exact⟨d.length,Nat.le_refl _,rfl,by rw[CC];exact h0,hbox,hrow⟩
 case round=>
  obtain⟨k,hk,rfl,hJ,hb,hR⟩:=hrel;cases k with
  |zero=>
   gi_wp2
   go_end0
   exact⟨⟨_,rfl⟩,.inl ⟨_,rfl,hJ⟩⟩
  |succ k=>
   have e1:((k+1:Nat):Int)-1=(k:Int):=by omega
   rw[e1];have hi:k<d.length:=by omega
   obtain⟨g,rfl,hgl,c0,c1,c2,c3⟩:=hR.here k (by simpa using hi);have HR:=aA hR
   have hYk:=hY (gR d (k+1)) (kH d k) _ hJ (by rw[qR];omega);rw[FK d k hi]at hYk;have eM:(d.map (·.1))[k]'(by simpa using hi)=(kH d k).2.1:=by simp[kH,hi]
   rw[eM]at c0 c1 c2 c3;have hk1:(kH d k).1=k:=rfl
   clear hR eM hY;obtain⟨fn,tmps,assign,body,hy,hRd⟩:=hYk;dsimp only[TJ]at hy;rw[hk1]at hy;clear hk1;generalize(kH d k).2.1=m at c0 c1 c2 c3 hy
   gi_wp2
   refine hRd.mono ?_;rintro e W3 (⟨rfl,hJ3,hk3⟩|⟨rfl,hJx3⟩)
   ·have hb3:W3.cell? ⟨Bm,0,none⟩=some (.slice (some ⟨g,0,none⟩) d.length cap):=(nC (w:=wr) (a:=⟨Bm,0,none⟩) (hk3.2 Bm (.inl rfl))).trans hb
    gi_wp2
    go_roundw;case rel=>exact⟨k,by omega,rfl,hJ3,hb3,HR.out.keep hk3.1 (fun g' e=>hk3.2 g' (.inr e))⟩
    case measure=>simp only[RowKit.intOf];omega
   ·gi_wp2
    refine cV (results_none rfl _ _ _) rfl ?_;exact⟨⟨_,rfl⟩,.inr ⟨_,trivial,hJx3⟩⟩
theorem KM {n:Nat} (hn:1≤n) (Bm cap:Nat) (p:Option Addr) (d:List OM) (hd:d.length≤1000000) (w:World) (hBm:Bm<w.heap.size) (hbox:w.cell? ⟨Bm,0,none⟩=some (.slice p d.length cap)) (hrow:xD w p (d.map (·.1))) (hp:∀k,p=some ⟨k,0,none⟩→k<w.heap.size):SeqStopsK Fence.wide n Tryz.prog 148 #[.pointer (some ⟨Bm,0,none⟩)] TJ (vK Bm p) (fun xs=>xs=gR d 0) (fun _=>True) d.length w:=fun l J Jx W hW _ _ hY h0=>
 WY (F:=Fence.wide) trivial rfl hn l Bm cap p d hd J Jx hY W ((hW.cell (p:=⟨Bm,0,none⟩) hBm).trans hbox) (hrow.keep hW.size (fun g e=>hW.block g (hp g e))) h0
end Go.Proofs.YtelkehjdfcoeiaaGreat
namespace Go.Proofs.YtelkehjdfcoeiaaGreat
open Go.RowKit
def nB (l:Array Bool):Nat:=(l.toList.filter (fun b=>b==false)).length
theorem uB:∀(l:List Bool) (i:Nat),l[i]? =some false→((l.set i true).filter (fun b=>b==false)).length+1=(l.filter (fun b=>b==false)).length
 |[],i,h=>by simp at h
 |b::r,0,h=>by simp at h;subst h;simp
 |b::r,i+1,h=>by have ih:=uB r i (by simpa using h);cases b<;>simp at ih⊢<;>omega
theorem wT {l:Array Bool} {i:Nat} (h:l[i]? =some false):nB (l.setIfInBounds i true)+1=nB l:=by unfold nB;rw[Array.toList_setIfInBounds];exact uB _ _ (by simpa using h)
theorem iP:∀(l:List Bool),(l.filter (fun b=>b==false)).length=0→∀i:Nat,l[i]? ≠some false
 |[],_,i,h=>by simp at h
 |b::r,hl,0,h=>by simp at h;subst h;simp at hl
 |b::r,hl,i+1,h=>by refine iP r ?_ i (by simpa using h);cases b<;>simp at hl⊢;exact hl
theorem fW {l:Array Bool} {i:Nat} (h:l.getD i true=false):l[i]? =some false:=by
 rw[Array.getD_eq_getD_getElem?]at h;cases hx:l[i]? with
 |none=>rw[hx]at h;simp at h
 |some b=>rw[hx]at h;simp at h;rw[h]
theorem yW {P:Program} {md:Region.Mode} {ops:Array Oper} {Q:Exit→Act→World→Prop} {I:Array Bool→Act→World→Prop} (hs:∀l a w,I l a w→∀i∈Region.ready md ops l,wpOp P ops Q i (I (l.setIfInBounds i true)) a w) (he:∀l a w,I l a w→Region.ready md ops l=[]→Q .normal a w):∀(fuel:Nat) (l:Array Bool) (a:Act) (w:World),nB l≤fuel→I l a w→wpAny P md ops Q fuel l a w
 |0,l,a,w,hf,hI=>by
  have hr:Region.ready md ops l=[]:=by
   rw[List.eq_nil_iff_forall_not_mem];intro i hi;have h0:=fW (mem_ready.1 hi).1
   exact iP l.toList (by unfold nB at hf;omega) i (by simpa using h0)
  exact⟨hr,he l a w hI hr⟩
 |fuel+1,l,a,w,hf,hI=>by
  refine⟨fun hr=>he l a w hI hr,fun i hi=>?_⟩;have h0:=fW (mem_ready.1 hi).1
  have h1:=wT h0;exact wpOp_mono (fun a' w' h=>yW hs he fuel _ a' w' (by omega) h) (hs l a w hI i hi)
theorem mE (n:Nat):nB (Array.replicate n false)=n:=by unfold nB;simp
set_option linter.unusedVariables false
theorem bO {ops:Array Oper} {l:Array Bool} {i:Nat} {o:Oper} (hi:i∈Region.ready .any ops l) (ho:ops[i]? =some o) (k:Nat) (hk:o.after.any (fun e=>Region.binds .any e&&e.on==k)=true):l.getD k false=true:=by obtain⟨_,o',ho',ha⟩:=mem_ready.1 hi;rw[ho]at ho';obtain rfl:=Option.some.inj ho';rw[Array.any_eq_true']at hk;obtain⟨e,he,hh⟩:=hk;simp only[Bool.and_eq_true,beq_iff_eq]at hh;rw[←hh.2];exact ha e he hh.1
theorem gZ {l:Array Bool} {i:Nat} (d:Bool) (h:i<l.size):(l.setIfInBounds i true).getD i d=true:=by rw[Array.getD_eq_getD_getElem?,Array.getElem?_setIfInBounds_self_of_lt h];rfl
theorem yO (n k:Nat):(Array.replicate n false).getD k false=false:=by rw[Array.getD_eq_getD_getElem?,Array.getElem?_replicate];split<;>rfl
def dN (ops:Array Oper) (l:Array Bool):Prop:=∀i o,ops[i]? =some o→l.getD i false=true→∀e∈o.after,Region.binds .any e=true→l.getD e.on false=true
theorem dN.start (ops:Array Oper) (n:Nat):dN ops (Array.replicate n false):=fun i o _ h=>by rw[yO]at h;cases h
theorem dN.step {ops:Array Oper} {l:Array Bool} {i:Nat} (h:dN ops l) (hi:i∈Region.ready .any ops l) (hl:l.size=ops.size):dN ops (l.setIfInBounds i true):=by
 intro j o ho hj e he hb;obtain⟨_,o',ho',ha⟩:=mem_ready.1 hi;have hil:i<l.size:=by rw[hl];exact(Array.getElem?_eq_some_iff.1 ho').1
 have hd:l.getD e.on false=true:=by
  by_cases hji:j=i
  ·subst hji;rw[ho]at ho';obtain rfl:=Option.some.inj ho';exact ha e he hb
  ·rw[getD_set_ne false (fun e=>hji e.symm)]at hj;exact h j o ho hj e he hb
 by_cases hei:e.on=i
 ·rw[hei,gZ false hil]
 ·rw[getD_set_ne false (fun e=>hei e.symm)];exact hd
theorem dN.dep {ops:Array Oper} {l:Array Bool} {i:Nat} {o:Oper} (h:dN ops l) (ho:ops[i]? =some o) (hd:l.getD i false=true) (k:Nat) (hk:o.after.any (fun e=>Region.binds .any e&&e.on==k)=true):l.getD k false=true:=by rw[Array.any_eq_true']at hk;obtain⟨e,he,hh⟩:=hk;simp only[Bool.and_eq_true,beq_iff_eq]at hh;rw[←hh.2];exact h i o ho hd e he hh.1
theorem cX {l:Array Bool} {i:Nat} (h:l.getD i true=false):l.getD i false=true→False:=fun k=>by
 rw[Array.getD_eq_getD_getElem?]at h k;cases hx:l[i]? with
 |none=>rw[hx]at h;simp at h
 |some b=>rw[hx]at h k;simp at h k;rw[h]at k;cases k
theorem xN {ops:Array Oper} {l:Array Bool} (h:(List.range ops.size).all (fun i=>match ops[i]? with|some o=>o.after.all (fun e=> !Region.binds .any e||decide (e.on<i))|none=>true)=true) (hr:Region.ready .any ops l=[]) (hl:l.size=ops.size):∀i,i<ops.size→l.getD i false=true:=by
 intro i;induction i using Nat.strongRecOn with
 |_ i ih=>
  intro hi;cases hx:l.getD i false
  ·exfalso;rw[List.eq_nil_iff_forall_not_mem]at hr;refine hr i (mem_ready.2 ⟨?_,ops[i],Array.getElem?_eq_getElem hi,fun e he hb=>?_⟩)
   ·rw[Array.getD_eq_getD_getElem?]at hx⊢;rw[Array.getElem?_eq_getElem (by omega)]at hx⊢;simpa using hx
   ·rw[List.all_eq_true]at h;have h1:=h i (List.mem_range.2 hi)
    rw[Array.getElem?_eq_getElem hi]at h1;simp only[Array.all_eq_true']at h1;have h2:=h1 e he
    rw[hb]at h2;simp at h2;exact ih e.on h2 (by omega)
  ·rfl
theorem tD {n k:Nat} {p:Prop} (h:(Array.replicate n false).getD k false=true):p:=by rw[yO]at h;cases h
theorem GM {n l:Nat} {P:Program} {row:String} {args:Array Value} {w:World} {R:Value→World→Prop} (h:Rows P row args w R):RowsIn (Fence.wide.inRound l) n P row args w R:=
 fun c cs _=>let⟨v,w',r,s⟩:=h c cs;⟨v,w',r,stepsIn_wide.2 s⟩
theorem GB {n l:Nat} {P:Program} {o:Oper} {a:Act} {w:World} {K:Act→World→Prop} {Q:Exit→Act→World→Prop} (hd:∀c,o.op≠ .defer c) (h:o.wp P a w K Q):o.wpIn (Fence.wide.inRound l) n P a w K Q:=by
 refine⟨fun f _=>trivial,?_⟩;unfold Oper.wp at h;rw[show(Fence.wide.inRound l).round=some l from rfl,Oper.semAt_some l _ _ hd];generalize(execOp a.eval o).run P w=r at *;cases r with
 |ok x w'=>
  cases x<;>simp only[Oper.upon,Oper.uponIn]at h⊢<;>first
   |exact h
   |exact⟨fun e=>(by cases e),CallsIn.inRound l (callsIn_wide.2 h)⟩
   |exact⟨fun e=>(by cases e),GM h⟩
 |halt x w'=>cases x<;>simp only[Oper.upon,Oper.uponIn]at h⊢<;>exact h
def mU (ops:Array Oper):Bool:=ops.all fun o=>match o.op with| .defer _=>false|_=>true
theorem GA {ops:Array Oper} (h:mU ops=true) {i:Nat} {o:Oper} (ho:ops[i]? =some o):∀c,o.op≠ .defer c:=by
 intro c hc;unfold mU at h;rw[Array.all_eq_true']at h;have:=h o (Array.mem_of_getElem? ho)
 rw[hc]at this;cases this
theorem gM {n l:Nat} {P:Program} {ops:Array Oper} {Q:Exit→Act→World→Prop} (hd:mU ops=true) (hL:¬LetsOut Q) {i:Nat} {K:Act→World→Prop} {a:Act} {w:World} (h:wpOp P ops Q i K a w):wpOpIn (Fence.wide.inRound l) n P ops Q i K a w:=by
 unfold wpOp at h;unfold wpOpIn;split
 ·rename_i ho;simp only[ho]at h;exact h
 ·rename_i o ho;simp only[ho]at h;split
  ·rename_i hw;simp only[hw,if_true]at h;rcases h with h|h
   ·exact GB (GA hd ho) h
   ·exact absurd h.2 hL
  ·rename_i hw;simp only[hw]at h;exact⟨fun _ _=>trivial,h⟩
theorem xP {n l:Nat} {P:Program} {md:Region.Mode} {ops:Array Oper} {Q:Exit→Act→World→Prop} (hd:mU ops=true) (hL:¬LetsOut Q):∀(fuel:Nat) (li:Array Bool) (a:Act) (w:World),wpAny P md ops Q fuel li a w→wpAnyIn (Fence.wide.inRound l) n P md ops Q fuel li a w
 |0,_,_,_,h=>h
 |fuel+1,li,a,w,h=>⟨h.1,fun i hi=>wpOpIn_mono (fun a' w' h'=>xP hd hL fuel _ a' w' h') (gM hd hL (h.2 i hi))⟩
theorem AK {n l id:Nat} {P:Program} {ops:Array Oper} {Q:Exit→Act→World→Prop} {a:Act} {w:World} (hm:P.follows .mixedOrders=true) (hd:mU ops=true) (hL:¬LetsOut Q) (h:wpAny P .any ops Q ops.size (Array.replicate ops.size false) a w.drew):(Code.region id ops true).wpIn (Fence.wide.inRound l) n P Q a w:=
 wpIn_region_any hm (xP hd hL _ _ _ _ h)
theorem sZ {n l id:Nat} {P:Program} {ops:Array Oper} {Q:Exit→Act→World→Prop} {I:Array Bool→Act→World→Prop} {a:Act} {w:World} (hm:P.follows .mixedOrders=true) (hd:mU ops=true) (hL:¬LetsOut Q) (h0:I (Array.replicate ops.size false) a w.drew) (hs:∀l a w,I l a w→∀i∈Region.ready .any ops l,wpOp P ops Q i (I (l.setIfInBounds i true)) a w) (he:∀l a w,I l a w→Region.ready .any ops l=[]→Q .normal a w):(Code.region id ops true).wpIn (Fence.wide.inRound l) n P Q a w:=
 AK hm hd hL (yW hs he ops.size _ a _ (by rw[mE];exact Nat.le_refl _) h0)
open Go.RowKit Go.Maps
def RS (ops:Array Oper) (F:(Nat→Value)→Act) (P:Nat→World→Value→Prop) (n A:Nat) (w0:World) (Y:World→Value→Prop) (Z:World→Prop) (l:Array Bool) (a:Act) (u:World):Prop:=
 ∃vs:Nat→Value,a=F vs∧l.size=n∧dN ops l∧(l.getD A false=false→Below w0.heap.size w0 u∧∀k,l.getD k false=true→P k u (vs k))∧(l.getD A false=true→l.getD (A+1) false=false→Y u (vs A))∧(l.getD (A+1) false=true→Z u)
theorem RS.start {ops:Array Oper} {F:(Nat→Value)→Act} {P:Nat→World→Value→Prop} {n A:Nat} {w0:World} {Y:World→Value→Prop} {Z:World→Prop} {a:Act} (vs:Nat→Value) (ha:a=F vs):RS ops F P n A w0 Y Z (Array.replicate n false) a w0.drew:=
 ⟨vs,ha,by simp,dN.start _ _,fun _=>⟨(bQ _ _).drew,fun k h=>tD h⟩,fun h=>tD h,fun h=>tD h⟩
theorem RS.step {ops:Array Oper} {F:(Nat→Value)→Act} {P:Nat→World→Value→Prop} {n A:Nat} {w0 u u':World} {Y:World→Value→Prop} {Z:World→Prop} {l:Array Bool} {vs:Nat→Value} (i:Nat) (v:Value) {a:Act} (hP:∀k u u' v,P k u v→Below u.heap.size u u'→P k u' v) (hi:i∈Region.ready .any ops l) (hno:ops.size=n) (hA:l.getD A false=false) (hA1:l.getD (A+1) false=false) (hiA:i<A) (hl:l.size=n) (hcl:dN ops l) (hf:l.getD A false=false→Below w0.heap.size w0 u∧∀k,l.getD k false=true→P k u (vs k)) (hm:Below u.heap.size u u') (hv:P i u' v) (ha:a=F (fun k=>if k=i then v else vs k)):RS ops F P n A w0 Y Z (l.setIfInBounds i true) a u':=by
 refine⟨fun k=>if k=i then v else vs k,ha,by simp[hl],hcl.step hi (by omega),fun _=>⟨aB (hf hA).1 hm,fun k hk=>?_⟩,fun h=>?_,fun h=>?_⟩
 ·by_cases hki:k=i
  ·have hv2:P k u' v:=by rw[hki];exact hv
   exact Eq.mpr (congrArg (fun z=>P k u' z) (if_pos hki)) hv2
  ·rw[getD_set_ne false (fun e=>hki e.symm)]at hk;exact Eq.mpr (congrArg (fun z=>P k u' z) (if_neg hki)) (hP k u u' _ ((hf hA).2 k hk) hm)
 ·rw[getD_set_ne false (by omega),hA]at h;cases h
 ·rw[getD_set_ne false (by omega),hA1]at h;cases h
theorem RS.last {ops:Array Oper} {F:(Nat→Value)→Act} {P:Nat→World→Value→Prop} {n A:Nat} {w0 u':World} {Y:World→Value→Prop} {Z:World→Prop} {l:Array Bool} {vs:Nat→Value} (v:Value) {a:Act} (hi:A∈Region.ready .any ops l) (hno:ops.size=n) (hAn:A<n) (hA1:l.getD (A+1) false=false) (hl:l.size=n) (hcl:dN ops l) (hv:Y u' v) (ha:a=F (fun k=>if k=A then v else vs k)):RS ops F P n A w0 Y Z (l.setIfInBounds A true) a u':=by
 refine⟨fun k=>if k=A then v else vs k,ha,by simp[hl],hcl.step hi (by omega),fun h=>?_,fun _ _=>Eq.mpr (congrArg (fun z=>Y u' z) (if_pos rfl)) hv,fun h=>?_⟩
 ·rw[gZ false (by omega)]at h;cases h
 ·rw[getD_set_ne false (by omega),hA1]at h;cases h
theorem RS.put {ops:Array Oper} {F:(Nat→Value)→Act} {P:Nat→World→Value→Prop} {n A:Nat} {w0 u':World} {Y:World→Value→Prop} {Z:World→Prop} {l:Array Bool} {vs:Nat→Value} {a:Act} (hi:A+1∈Region.ready .any ops l) (hno:ops.size=n) (hA:l.getD A false=true) (hAn:A+1<n) (hl:l.size=n) (hcl:dN ops l) (hz:Z u') (ha:a=F vs):RS ops F P n A w0 Y Z (l.setIfInBounds (A+1) true) a u':=by
 refine⟨vs,ha,by simp[hl],hcl.step hi (by omega),fun h=>?_,fun _ h=>?_,fun _=>hz⟩
 ·rw[getD_set_ne false (by omega),hA]at h;cases h
 ·rw[gZ false (by omega)]at h;cases h
theorem MK {nn l id:Nat} {P:Program} {ops:Array Oper} {Q:Exit→Act→World→Prop} (F:(Nat→Value)→Act) (K:Nat→World→Value→Prop) (n A:Nat) (w0:World) (Y:World→Value→Prop) (Z:World→Prop) {a:Act} (hm:P.follows .mixedOrders=true) (hd:mU ops=true) (hL:¬LetsOut Q)
 (h0:RS ops F K n A w0 Y Z (Array.replicate ops.size false) a w0.drew)
 (hs:∀l a w,RS ops F K n A w0 Y Z l a w→∀i∈Region.ready .any ops l,wpOp P ops Q i (RS ops F K n A w0 Y Z (l.setIfInBounds i true)) a w)
 (he:∀l a w,RS ops F K n A w0 Y Z l a w→Region.ready .any ops l=[]→Q .normal a w):(Code.region id ops true).wpIn (Fence.wide.inRound l) nn P Q a w0:=sZ (I:=RS ops F K n A w0 Y Z) hm hd hL h0 hs he
theorem EQ {H:Type} {P:Program} {w:World} {ops:Array Oper} {o:Oper} {a:Act} {K:Act→World→Prop} {Q:Exit→Act→World→Prop} {E:Prop} (hgd:o.guard=none) (m x:Operand) (t:TypeId) (hop:o.op=Op.lookup t m x false) (k e:TypeId) (q:IntKind) (Ky:Keyed P k) (ht:P.underlying t=some (.map k e)) (he:P.underlying e=some (.int q)) (hz:(zeroValue e).run P w= .ok (.int q 0) w) (b n:Nat) (D:DataW H) (hm:a.eval m= .map (some b)) (hown:w.ownsMap P k (plainElem P e) b n D) (key:Value) (kl:Lit) (hx:a.eval x=key) (hkey:keyOf P k key=some kl) (h:∀c:Int,D.atKey kl (.lit (.int q 0))= .lit (.int q c)→K (a.put o.dst (.int q c)) w):if Region.wanted o (yielded ops a.tmps)=true then Oper.wp P o a w K Q else E:=by
 have hw:Region.wanted o (yielded ops a.tmps)=true:=by simp[Region.wanted,hgd]
 rw[if_pos hw];obtain⟨c,hrun,hat,hwc⟩:=hown.lookup_int Ky ht he hz hkey;unfold Oper.wp;simp[execOp,hop,hm,hx,hrun,Result.andThen];exact h c hat
open Go.RowKit Go.Maps Go.Sort Go.Shelf
attribute [local go_sem] Oper.semAt_some
def SR (c:M→Int) (x:BA):T:=⟨c x.2.1,x.2.1⟩
theorem pI {w W:World} {P:Program} {k:TypeId} {R:Value→Option (DataW Unit×List MemPlace)} {b n:Nat} {D:DataW Unit} (h:w.ownsMap P k R b n D) (hb:W.heap[b]? =w.heap[b]?):W.ownsMap P k R b n D:=by obtain⟨es,clock,h1,r⟩:=h;exact⟨es,clock,hb.trans h1,r⟩
theorem ZX:(Tryz.prog.info? 86).map (fun i=>(i.zero,i.size,i.bytes))=some (some (.agg #[.int .i64 0,.int .i64 0,.int .i64 0,.int .i64 0,.int .i64 0]),5,40):=by kernel_rfl
theorem tQ (c:M→Int) (m:M):∀ms:List M,m∈ms→aI (ms.map fun x=>(⟨c x,x⟩:T)) m=c m
 |[],h=>by cases h
 |x::r,h=>by
  simp only[List.map_cons,aI];by_cases hx:x=m
  ·rw[if_pos (bM.2 hx),hx]
  ·rw[if_neg (fun e=>hx (bM.1 e))];exact tQ c m r ((List.mem_cons.1 h).resolve_left (fun e=>hx e.symm))
theorem qQ (c:M→Int) (m:M):∀ms:List M,m∉ms→aI (ms.map fun x=>(⟨c x,x⟩:T)) m=0
 |[],_=>rfl
 |x::r,h=>by simp only[List.map_cons,aI];rw[if_neg (fun e=>h (by rw[←bM.1 e];exact List.mem_cons_self ..))];exact qQ c m r (fun e=>h (List.mem_cons_of_mem _ e))
theorem OT {α:Type} (key:M→α) (hinj:∀a b:M,a.ok=true→b.ok=true→key a=key b→a=b) {K:List T} (hK:aH K) (ks:List α) (h:∀t∈K,key t.m∈ks):K.length≤ks.length:=by
 letI:DecidableEq α:=fun a b=>Classical.propDecidable (a=b)
 have hnd:(K.map fun t=>key t.m).Nodup:=by
  rw[List.Nodup,List.pairwise_map];refine hK.1.imp_of_mem (S:=fun a b=>key a.m≠key b.m) ?_;intro a b ha hb h e;have:=hinj _ _ (hK.2 a ha).1 (hK.2 b hb).1 e
  rw[this]at h;omega
 have:=pT (K.map fun t=>key t.m) ks hnd (fun x hx=>by
  obtain⟨t,ht,rfl⟩:=List.mem_map.1 hx
  exact h t ht)
 simpa using this
theorem iU {m:M}:∀{L:List T},aI L m≠0→m∈L.map (·.m)
 |[],h=>absurd rfl h
 |t::r,h=>by
  rw[aI]at h;by_cases ht:fZ t.m m=true
  ·simp[bM.1 ht]
  ·rw[if_neg ht]at h;simpa using Or.inr (by simpa using iU h)
theorem CA {L:List T} (hL:aH L) {t:T} (ht:t∈L):aI L t.m=t.c:=by
 induction L with
 |nil=>cases ht
 |cons s r ih=>
  rcases List.mem_cons.1 ht with rfl|h
  ·exact bG _ _
  ·have h1:=hL.head t h;rw[gE (fun e=>by rw[e]at h1;omega)];exact ih hL.tail h
theorem AQ {w:World} {b n:Nat} {D:DataW Unit} {c:M→Int} (hown:w.ownsMap Tryz.prog 84 (plainElem Tryz.prog 131) b n D) (hat:∀m:M,m.ok=true→D.atKey (cY m) (.lit (.int .i64 0))= .lit (.int .i64 (c m))∧(Maps.has D (cY m)=true↔c m≠0)) (hks:∀kl,Maps.has D kl=true→∃m:M,m.ok=true∧kl=cY m) {K:List T} (hK:aH K) (hKc:∀m,m.ok=true→aI K m=c m):Maps.size D=K.length:=by
 have h1:Maps.size D≤K.length:=by
  have:=AR hown (K.map (·.m)) (fun kl hkl=>by
   obtain⟨m,hm,rfl⟩:=hks kl hkl;refine⟨m,iU ?_,rfl⟩;rw[hKc m hm]
   exact(hat m hm).2.1 hkl)
  simpa using this
 have h2:K.length≤Maps.size D:=by
  obtain⟨es,he,hp⟩:=hown.tidy jK
  have:=OT cY (fun a b ha hb e=>rF ha hb e) hK (es.map (·.1)) (fun t ht=>by
   have hto:=hK.2 t ht;have hh:Maps.has D (cY t.m)=true:=(hat t.m hto.1).2.2 (by rw[←hKc t.m hto.1,CA hK ht];omega)
   rw[he,has_eq,List.any_eq_true]at hh;obtain⟨p,hpe,hs⟩:=hh;rw[←WideAt.sameKey_eq hs]
   exact List.mem_map_of_mem hpe)
  rw[he,size_eq];simpa using this
 omega
theorem XX {c:M→Int} (hc:∀m,0≤c m∧c m≤100) {dO:List OM} (hs:dO.Pairwise (fun a b=>dI a.1<dI b.1)) (hm:∀m:M,m.ok=true→(m∈dO.map (·.1)↔c m≠0)) {K:List T} (hK:aH K) (hKc:∀m,m.ok=true→aI K m=c m):(gR dO 0).map (SR c)=K:=by
 have hcl:∀x∈gR dO 0,x.2∈dO:=fun x hx=>by
  unfold gR at hx;obtain⟨j,hj,rfl⟩:=List.mem_map.1 hx;rw[List.mem_range]at hj;have hi:dO.length-1-j<dO.length:=by omega
  show dO.getD (dO.length-1-j) default∈dO;rw[List.getD_eq_getElem?_getD,List.getElem?_eq_getElem hi];exact List.getElem_mem hi
 have hcl2:∀o∈dO,o.1∈(gR dO 0).map (fun x=>x.2.1):=fun o ho=>by
  obtain⟨i,hi,rfl⟩:=List.getElem_of_mem ho;refine List.mem_map.2 ⟨kH dO i,?_,?_⟩
  ·unfold gR;refine List.mem_map.2 ⟨dO.length-1-i,List.mem_range.2 (by omega),?_⟩;rw[show dO.length-1-(dO.length-1-i)=i by omega]
  ·simp[kH,hi]
 have e1:(gR dO 0).map (SR c)=((gR dO 0).map (fun x=>x.2.1)).map (fun x=>(⟨c x,x⟩:T)):=by rw[List.map_map];rfl
 refine jU ⟨?_,?_⟩ hK (fun m hmo=>?_)
 ·rw[List.pairwise_map];unfold gR;rw[List.pairwise_map];refine(List.pairwise_lt_range (n:=dO.length-0)).imp_of_mem ?_;intro j i hj hi hji;rw[List.mem_range]at hj hi;have:=(List.pairwise_iff_getElem.1 hs) (dO.length-1-i) (dO.length-1-j) (by omega) (by omega) (by omega)
  have g1:(kH dO (dO.length-1-i)).2=dO[dO.length-1-i]'(by omega):=by simp[kH,show dO.length-1-i<dO.length by omega]
  have g2:(kH dO (dO.length-1-j)).2=dO[dO.length-1-j]'(by omega):=by simp[kH,show dO.length-1-j<dO.length by omega]
  show dI (kH dO (dO.length-1-i)).2.1<dI (kH dO (dO.length-1-j)).2.1;rw[g1,g2];exact this
 ·intro t ht;obtain⟨x,hx,rfl⟩:=List.mem_map.1 ht;have h1:=(hm x.2.1 x.2.2).1 (List.mem_map_of_mem (hcl x hx))
  have h2:=hc x.2.1;exact⟨x.2.2,by show 1≤c x.2.1;omega,by show c x.2.1≤100;omega⟩
 ·rw[e1,hKc m hmo];by_cases hn:m∈(gR dO 0).map (fun x=>x.2.1)
  ·exact tQ c m _ hn
  ·rw[qQ c m _ hn];have:¬c m≠0:=fun h=>by obtain⟨o,ho,he⟩:=List.mem_map.1 ((hm m hmo).2 h);exact hn (he▸hcl2 o ho)
   omega
end Go.Proofs.YtelkehjdfcoeiaaGreat
