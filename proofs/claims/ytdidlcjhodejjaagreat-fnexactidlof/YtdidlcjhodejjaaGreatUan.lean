/-
  A region that draws its order and ends in an append, by one invariant; nothing is read from a reader.
-/
import Derived.Test.YtdidlcjhodejjaaGreatUah
import Derived.Test.YtdidlcjhodejjaaGreatUab
import Derived.OrdersIn
import Derived.RangeFuncCalls
import Derived.Deep.Quiet
import Derived.Deep.AppendLies
import Derived.Maps.OwnOps
import Derived.Test.YtdidlcjhodejjaaGreatUam
import Derived.Test.YtdidlcjhodejjaaGreatUag
import Derived.Maps.OwnIn
namespace Go.Proofs.YtdidlcjhodejjaaGreat
open Go.RowKit
set_option linter.unusedVariables false
theorem ready_depG {ops:Array Oper} {l:Array Bool} {i:Nat} {o:Oper} (hi:i∈Region.ready .any ops l) (ho:ops[i]? = some o) (k:Nat) (hk:o.after.any (fun e=>Region.binds .any e && e.on == k)=true):l.getD k false=true:=by
 obtain ⟨_,o',ho',ha⟩:=mem_ready.1 hi
 rw [ho] at ho'
 obtain rfl:=Option.some.inj ho'
 rw [Array.any_eq_true'] at hk
 obtain ⟨e,he,hh⟩:=hk
 simp only [Bool.and_eq_true,beq_iff_eq] at hh
 rw [← hh.2]
 exact ha e he hh.1
theorem getD_set_eqG {l:Array Bool} {i:Nat} (d:Bool) (h:i<l.size):(l.setIfInBounds i true).getD i d=true:=by
 rw [Array.getD_eq_getD_getElem?,Array.getElem?_setIfInBounds_self_of_lt h];rfl
theorem rep_getDG (n k:Nat):(Array.replicate n false).getD k false=false:=by
 rw [Array.getD_eq_getD_getElem?,Array.getElem?_replicate];split <;> rfl
def ClosedG (ops:Array Oper) (l:Array Bool):Prop:=∀ i o,ops[i]? = some o→l.getD i false=true→∀ e∈o.after,Region.binds .any e=true→l.getD e.on false=true
theorem ClosedG.start (ops:Array Oper) (n:Nat):ClosedG ops (Array.replicate n false):=fun i o _ h=>by rw [rep_getDG] at h;cases h
theorem ClosedG.step {ops:Array Oper} {l:Array Bool} {i:Nat} (h:ClosedG ops l) (hi:i∈Region.ready .any ops l) (hl:l.size=ops.size):ClosedG ops (l.setIfInBounds i true):=by
 intro j o ho hj e he hb
 obtain ⟨_,o',ho',ha⟩:=mem_ready.1 hi
 have hil:i<l.size:=by rw [hl];exact (Array.getElem?_eq_some_iff.1 ho').1
 have hd:l.getD e.on false=true:=by
  by_cases hji:j=i
  ·subst hji
   rw [ho] at ho'
   obtain rfl:=Option.some.inj ho'
   exact ha e he hb
  ·rw [getD_set_ne false (fun e=>hji e.symm)] at hj
   exact h j o ho hj e he hb
 by_cases hei:e.on=i
 ·rw [hei,getD_set_eqG false hil]
 ·rw [getD_set_ne false (fun e=>hei e.symm)];exact hd
theorem ClosedG.dep {ops:Array Oper} {l:Array Bool} {i:Nat} {o:Oper} (h:ClosedG ops l) (ho:ops[i]? = some o) (hd:l.getD i false=true) (k:Nat) (hk:o.after.any (fun e=>Region.binds .any e && e.on == k)=true):l.getD k false=true:=by
 rw [Array.any_eq_true'] at hk
 obtain ⟨e,he,hh⟩:=hk
 simp only [Bool.and_eq_true,beq_iff_eq] at hh
 rw [← hh.2]
 exact h i o ho hd e he hh.1
theorem not_doneG {l:Array Bool} {i:Nat} (h:l.getD i true=false):l.getD i false=true→False:=fun k=>by
 rw [Array.getD_eq_getD_getElem?] at h k
 cases hx:l[i]? with
 | none=>rw [hx] at h;simp at h
 | some b=>rw [hx] at h k;simp at h k;rw [h] at k;cases k
theorem all_doneG {ops:Array Oper} {l:Array Bool} (h:(List.range ops.size).all (fun i=>match ops[i]? with | some o=>o.after.all (fun e=>!Region.binds .any e || decide (e.on<i)) | none=>true)=true) (hr:Region.ready .any ops l=[]) (hl:l.size=ops.size):∀ i,i<ops.size→l.getD i false=true:=by
 intro i
 induction i using Nat.strongRecOn with
 | _ i ih=>
  intro hi
  cases hx:l.getD i false
  ·exfalso
   rw [List.eq_nil_iff_forall_not_mem] at hr
   refine hr i (mem_ready.2 ⟨?_,ops[i],Array.getElem?_eq_getElem hi,fun e he hb=>?_⟩)
   ·rw [Array.getD_eq_getD_getElem?] at hx ⊢
    rw [Array.getElem?_eq_getElem (by omega)] at hx ⊢
    simpa using hx
   ·rw [List.all_eq_true] at h
    have h1:=h i (List.mem_range.2 hi)
    rw [Array.getElem?_eq_getElem hi] at h1
    simp only [Array.all_eq_true'] at h1
    have h2:=h1 e he
    rw [hb] at h2
    simp at h2
    exact ih e.on h2 (by omega)
  ·rfl
theorem rep_no {n k:Nat} {p:Prop} (h:(Array.replicate n false).getD k false=true):p:=by rw [rep_getDG] at h;cases h
end Go.Proofs.YtdidlcjhodejjaaGreat
namespace Go.Proofs.YtdidlcjhodejjaaGreat
open Go.RowKit
set_option linter.unusedVariables false
theorem rows_round {n l:Nat} {P:Program} {row:String} {args:Array Value} {w:World} {R:Value→World→Prop} (h:Rows P row args w R):RowsIn (Fence.wide.inRound l) n P row args w R:=
 fun c cs _=>let ⟨v,w',r,s⟩:=h c cs;⟨v,w',r,stepsIn_wide.2 s⟩
theorem oper_round {n l:Nat} {P:Program} {o:Oper} {a:Act} {w:World} {K:Act→World→Prop} {Q:Exit→Act→World→Prop} (hd:∀ c,o.op≠.defer c) (h:o.wp P a w K Q):o.wpIn (Fence.wide.inRound l) n P a w K Q:=by
 refine ⟨fun f _=>trivial,?_⟩
 unfold Oper.wp at h
 rw [show (Fence.wide.inRound l).round=some l from rfl,Oper.semAt_some l _ _ hd]
 generalize (execOp a.eval o).run P w=r at *
 cases r with
 | ok x w'=>
  cases x <;> simp only [Oper.upon,Oper.uponIn] at h ⊢ <;> first
   | exact h
   | exact ⟨fun e=>(by cases e),CallsIn.inRound l (callsIn_wide.2 h)⟩
   | exact ⟨fun e=>(by cases e),rows_round h⟩
 | halt x w'=>cases x <;> simp only [Oper.upon,Oper.uponIn] at h ⊢ <;> exact h
def noDefer (ops:Array Oper):Bool:=ops.all fun o=>match o.op with | .defer _=>false | _=>true
theorem noDefer_at {ops:Array Oper} (h:noDefer ops=true) {i:Nat} {o:Oper} (ho:ops[i]? = some o):∀ c,o.op≠.defer c:=by
 intro c hc
 unfold noDefer at h
 rw [Array.all_eq_true'] at h
 have:=h o (Array.mem_of_getElem? ho)
 rw [hc] at this
 cases this
theorem op_round {n l:Nat} {P:Program} {ops:Array Oper} {Q:Exit→Act→World→Prop} (hd:noDefer ops=true) (hL:¬ LetsOut Q) {i:Nat} {K:Act→World→Prop} {a:Act} {w:World} (h:wpOp P ops Q i K a w):wpOpIn (Fence.wide.inRound l) n P ops Q i K a w:=by
 unfold wpOp at h
 unfold wpOpIn
 split
 ·rename_i ho;simp only [ho] at h;exact h
 ·rename_i o ho
  simp only [ho] at h
  split
  ·rename_i hw
   simp only [hw,if_true] at h
   rcases h with h | h
   ·exact oper_round (noDefer_at hd ho) h
   ·exact absurd h.2 hL
  ·rename_i hw
   simp only [hw] at h
   exact ⟨fun _ _=>trivial,h⟩
theorem any_round {n l:Nat} {P:Program} {md:Region.Mode} {ops:Array Oper} {Q:Exit→Act→World→Prop} (hd:noDefer ops=true) (hL:¬ LetsOut Q) :
  ∀ (fuel:Nat) (li:Array Bool) (a:Act) (w:World),wpAny P md ops Q fuel li a w→wpAnyIn (Fence.wide.inRound l) n P md ops Q fuel li a w
 | 0,_,_,_,h=>h
 | fuel+1,li,a,w,h=>⟨h.1,fun i hi=>wpOpIn_mono (fun a' w' h'=>any_round hd hL fuel _ a' w' h') (op_round hd hL (h.2 i hi))⟩
theorem region_round {n l id:Nat} {P:Program} {ops:Array Oper} {Q:Exit→Act→World→Prop} {a:Act} {w:World} (hm:P.follows .mixedOrders=true) (hd:noDefer ops=true) (hL:¬ LetsOut Q)
  (h:wpAny P .any ops Q ops.size (Array.replicate ops.size false) a w.drew):(Code.region id ops true).wpIn (Fence.wide.inRound l) n P Q a w:=
 wpIn_region_any hm (any_round hd hL _ _ _ _ h)
theorem region_round_inv {n l id:Nat} {P:Program} {ops:Array Oper} {Q:Exit→Act→World→Prop} {I:Array Bool→Act→World→Prop} {a:Act} {w:World} (hm:P.follows .mixedOrders=true) (hd:noDefer ops=true) (hL:¬ LetsOut Q)
  (h0:I (Array.replicate ops.size false) a w.drew)
  (hs:∀ l a w,I l a w→∀ i∈Region.ready .any ops l,wpOp P ops Q i (I (l.setIfInBounds i true)) a w)
  (he:∀ l a w,I l a w→Region.ready .any ops l=[]→Q .normal a w):(Code.region id ops true).wpIn (Fence.wide.inRound l) n P Q a w:=
 region_round hm hd hL (wpAny_inv hs he ops.size _ a _ (by rw [undone_replicate];exact Nat.le_refl _) h0)
end Go.Proofs.YtdidlcjhodejjaaGreat
namespace Go.Proofs.YtdidlcjhodejjaaGreat
open Go.RowKit Go.Maps
set_option linter.unusedVariables false
def RS (ops:Array Oper) (F:(Nat→Value)→Act) (P:Nat→World→Value→Prop) (n A:Nat) (w0:World) (Y:World→Value→Prop) (Z:World→Prop) (l:Array Bool) (a:Act) (u:World):Prop:=
 ∃ vs:Nat→Value,a=F vs∧l.size=n∧ClosedG ops l∧(l.getD A false=false→Below w0.heap.size w0 u∧∀ k,l.getD k false=true→P k u (vs k))∧(l.getD A false=true→l.getD (A+1) false=false→Y u (vs A))∧(l.getD (A+1) false=true→Z u)
theorem RS.start {ops:Array Oper} {F:(Nat→Value)→Act} {P:Nat→World→Value→Prop} {n A:Nat} {w0:World} {Y:World→Value→Prop} {Z:World→Prop} {a:Act} (vs:Nat→Value) (ha:a=F vs):RS ops F P n A w0 Y Z (Array.replicate n false) a w0.drew:=
 ⟨vs,ha,by simp,ClosedG.start _ _,fun _=>⟨(Below.refl _ _).drew,fun k h=>rep_no h⟩,fun h=>rep_no h,fun h=>rep_no h⟩
theorem RS.step {ops:Array Oper} {F:(Nat→Value)→Act} {P:Nat→World→Value→Prop} {n A:Nat} {w0 u u':World} {Y:World→Value→Prop} {Z:World→Prop} {l:Array Bool} {vs:Nat→Value} (i:Nat) (v:Value) {a:Act}
  (hP:∀ k u u' v,P k u v→Below u.heap.size u u'→P k u' v) (hi:i∈Region.ready .any ops l) (hno:ops.size=n) (hA:l.getD A false=false) (hA1:l.getD (A+1) false=false) (hiA:i<A) (hl:l.size=n) (hcl:ClosedG ops l)
  (hf:l.getD A false=false→Below w0.heap.size w0 u∧∀ k,l.getD k false=true→P k u (vs k)) (hm:Below u.heap.size u u') (hv:P i u' v) (ha:a=F (fun k=>if k=i then v else vs k)):RS ops F P n A w0 Y Z (l.setIfInBounds i true) a u':=by
 refine ⟨fun k=>if k=i then v else vs k,ha,by simp [hl],hcl.step hi (by omega),fun _=>⟨bel_next (hf hA).1 hm,fun k hk=>?_⟩,fun h=>?_,fun h=>?_⟩
 ·by_cases hki:k=i
  ·have hv2:P k u' v:=by rw [hki];exact hv
   exact Eq.mpr (congrArg (fun z=>P k u' z) (if_pos hki)) hv2
  ·rw [getD_set_ne false (fun e=>hki e.symm)] at hk
   exact Eq.mpr (congrArg (fun z=>P k u' z) (if_neg hki)) (hP k u u' _ ((hf hA).2 k hk) hm)
 ·rw [getD_set_ne false (by omega),hA] at h;cases h
 ·rw [getD_set_ne false (by omega),hA1] at h;cases h
theorem RS.last {ops:Array Oper} {F:(Nat→Value)→Act} {P:Nat→World→Value→Prop} {n A:Nat} {w0 u':World} {Y:World→Value→Prop} {Z:World→Prop} {l:Array Bool} {vs:Nat→Value} (v:Value) {a:Act}
  (hi:A∈Region.ready .any ops l) (hno:ops.size=n) (hAn:A<n) (hA1:l.getD (A+1) false=false) (hl:l.size=n) (hcl:ClosedG ops l) (hv:Y u' v) (ha:a=F (fun k=>if k=A then v else vs k)):RS ops F P n A w0 Y Z (l.setIfInBounds A true) a u':=by
 refine ⟨fun k=>if k=A then v else vs k,ha,by simp [hl],hcl.step hi (by omega),fun h=>?_,fun _ _=>Eq.mpr (congrArg (fun z=>Y u' z) (if_pos rfl)) hv,fun h=>?_⟩
 ·rw [getD_set_eqG false (by omega)] at h;cases h
 ·rw [getD_set_ne false (by omega),hA1] at h;cases h
theorem RS.put {ops:Array Oper} {F:(Nat→Value)→Act} {P:Nat→World→Value→Prop} {n A:Nat} {w0 u':World} {Y:World→Value→Prop} {Z:World→Prop} {l:Array Bool} {vs:Nat→Value} {a:Act}
  (hi:A+1∈Region.ready .any ops l) (hno:ops.size=n) (hA:l.getD A false=true) (hAn:A+1<n) (hl:l.size=n) (hcl:ClosedG ops l) (hz:Z u') (ha:a=F vs):RS ops F P n A w0 Y Z (l.setIfInBounds (A+1) true) a u':=by
 refine ⟨vs,ha,by simp [hl],hcl.step hi (by omega),fun h=>?_,fun _ h=>?_,fun _=>hz⟩
 ·rw [getD_set_ne false (by omega),hA] at h;cases h
 ·rw [getD_set_eqG false (by omega)] at h;cases h
theorem region_rs {nn l id:Nat} {P:Program} {ops:Array Oper} {Q:Exit→Act→World→Prop} (F:(Nat→Value)→Act) (K:Nat→World→Value→Prop) (n A:Nat) (w0:World) (Y:World→Value→Prop) (Z:World→Prop) {a:Act} (hm:P.follows .mixedOrders=true) (hd:noDefer ops=true) (hL:¬ LetsOut Q)
  (h0:RS ops F K n A w0 Y Z (Array.replicate ops.size false) a w0.drew)
  (hs:∀ l a w,RS ops F K n A w0 Y Z l a w→∀ i∈Region.ready .any ops l,wpOp P ops Q i (RS ops F K n A w0 Y Z (l.setIfInBounds i true)) a w)
  (he:∀ l a w,RS ops F K n A w0 Y Z l a w→Region.ready .any ops l=[]→Q .normal a w):(Code.region id ops true).wpIn (Fence.wide.inRound l) nn P Q a w0:=region_round_inv (I:=RS ops F K n A w0 Y Z) hm hd hL h0 hs he
theorem step_lookup {H:Type} {P:Program} {w:World} {ops:Array Oper} {o:Oper} {a:Act} {K:Act→World→Prop} {Q:Exit→Act→World→Prop} {E:Prop} (hgd:o.guard=none) (m x:Operand) (t:TypeId) (hop:o.op=Op.lookup t m x false)
  (k e:TypeId) (q:IntKind) (Ky:Keyed P k) (ht:P.underlying t=some (.map k e)) (he:P.underlying e=some (.int q)) (hz:(zeroValue e).run P w=.ok (.int q 0) w) (b n:Nat) (D:DataW H)
  (hm:a.eval m=.map (some b)) (hown:w.ownsMap P k (plainElem P e) b n D) (key:Value) (kl:Lit) (hx:a.eval x=key) (hkey:keyOf P k key=some kl)
  (h:∀ c:Int,D.atKey kl (.lit (.int q 0))=.lit (.int q c)→K (a.put o.dst (.int q c)) w) :
  if Region.wanted o (yielded ops a.tmps)=true then Oper.wp P o a w K Q else E:=by
 have hw:Region.wanted o (yielded ops a.tmps)=true:=by simp [Region.wanted,hgd]
 rw [if_pos hw]
 obtain ⟨c,hrun,hat,hwc⟩:=hown.lookup_int Ky ht he hz hkey
 unfold Oper.wp
 simp [execOp,hop,hm,hx,hrun,Result.andThen]
 exact h c hat
end Go.Proofs.YtdidlcjhodejjaaGreat
namespace Go.Proofs.YtdidlcjhodejjaaGreat
open Go.RowKit Go.Maps Go.Sort Go.Shelf
set_option linter.unusedVariables false
attribute [local go_sem] Oper.semAt_some
def toT (c:M→Int) (x:BA):T:=⟨c x.2.1,x.2.1⟩
theorem ownsMap_below {w W:World} {P:Program} {k:TypeId} {R:Value→Option (DataW Unit × List MemPlace)} {b n:Nat} {D:DataW Unit} (h:w.ownsMap P k R b n D) (hb:W.heap[b]? = w.heap[b]?):W.ownsMap P k R b n D:=by
 obtain ⟨es,clock,h1,r⟩:=h
 exact ⟨es,clock,hb.trans h1,r⟩
theorem infoP:(Tryz.prog.info? 42).map (fun i=>(i.zero,i.size,i.bytes))=some (some (.agg #[.int .i64 0,.int .i64 0,.int .i64 0,.int .i64 0,.int .i64 0]),5,40):=by kernel_rfl
theorem coef_map_in (c:M→Int) (m:M):∀ ms:List M,m∈ms→coef (ms.map fun x=>(⟨c x,x⟩:T)) m=c m
 | [],h=>by cases h
 | x :: r,h=>by
  simp only [List.map_cons,coef]
  by_cases hx:x=m
  ·rw [if_pos (meqB_iff.2 hx),hx]
  ·rw [if_neg (fun e=>hx (meqB_iff.1 e))]
   exact coef_map_in c m r ((List.mem_cons.1 h).resolve_left (fun e=>hx e.symm))
theorem coef_map_out (c:M→Int) (m:M):∀ ms:List M,m ∉ ms→coef (ms.map fun x=>(⟨c x,x⟩:T)) m=0
 | [],_=>rfl
 | x :: r,h=>by
  simp only [List.map_cons,coef]
  rw [if_neg (fun e=>h (by rw [← meqB_iff.1 e];exact List.mem_cons_self ..))]
  exact coef_map_out c m r (fun e=>h (List.mem_cons_of_mem _ e))
theorem len_keys {α:Type} (key:M→α) (hinj:∀ a b:M,a.ok=true→b.ok=true→key a=key b→a=b) {K:List T} (hK:Falls K) (ks:List α) (h:∀ t∈K,key t.m∈ks):K.length≤ks.length:=by
 letI:DecidableEq α:=fun a b=>Classical.propDecidable (a=b)
 have hnd:(K.map fun t=>key t.m).Nodup:=by
  rw [List.Nodup,List.pairwise_map]
  refine hK.1.imp_of_mem (S:=fun a b=>key a.m≠key b.m) ?_
  intro a b ha hb h e
  have:=hinj _ _ (hK.2 a ha).1 (hK.2 b hb).1 e
  rw [this] at h
  omega
 have:=len_of_sub (K.map fun t=>key t.m) ks hnd (fun x hx=>by
  obtain ⟨t,ht,rfl⟩:=List.mem_map.1 hx
  exact h t ht)
 simpa using this
theorem coef_mem {m:M}:∀ {L:List T},coef L m≠0→m∈L.map (·.m)
 | [],h=>absurd rfl h
 | t :: r,h=>by
  rw [coef] at h
  by_cases ht:meqB t.m m=true
  ·simp [meqB_iff.1 ht]
  ·rw [if_neg ht] at h
   simpa using Or.inr (by simpa using coef_mem h)
theorem coef_of_mem {L:List T} (hL:Falls L) {t:T} (ht:t∈L):coef L t.m=t.c:=by
 induction L with
 | nil=>cases ht
 | cons s r ih=>
  rcases List.mem_cons.1 ht with rfl | h
  ·exact coef_cons_same _ _
  ·have h1:=hL.head t h
   rw [coef_cons_ne (fun e=>by rw [e] at h1;omega)]
   exact ih hL.tail h
theorem size_K {w:World} {b n:Nat} {D:DataW Unit} {c:M→Int} (hown:w.ownsMap Tryz.prog 40 (plainElem Tryz.prog 138) b n D)
  (hat:∀ m:M,m.ok=true→D.atKey (keyM m) (.lit (.int .i64 0))=.lit (.int .i64 (c m))∧(Maps.has D (keyM m)=true ↔ c m≠0)) (hks:∀ kl,Maps.has D kl=true→∃ m:M,m.ok=true∧kl=keyM m)
  {K:List T} (hK:Falls K) (hKc:∀ m,m.ok=true→coef K m=c m):Maps.size D=K.length:=by
 have h1:Maps.size D≤K.length:=by
  have:=size_le hown (K.map (·.m)) (fun kl hkl=>by
   obtain ⟨m,hm,rfl⟩:=hks kl hkl
   refine ⟨m,coef_mem ?_,rfl⟩
   rw [hKc m hm]
   exact (hat m hm).2.1 hkl)
  simpa using this
 have h2:K.length≤Maps.size D:=by
  obtain ⟨es,he,hp⟩:=hown.tidy lawM
  have:=len_keys keyM (fun a b ha hb e=>keyM_inj ha hb e) hK (es.map (·.1)) (fun t ht=>by
   have hto:=hK.2 t ht
   have hh:Maps.has D (keyM t.m)=true:=(hat t.m hto.1).2.2 (by rw [← hKc t.m hto.1,coef_of_mem hK ht];omega)
   rw [he,has_eq,List.any_eq_true] at hh
   obtain ⟨p,hpe,hs⟩:=hh
   rw [← WideAt.sameKey_eq hs]
   exact List.mem_map_of_mem hpe)
  rw [he,size_eq]
  simpa using this
 omega
theorem list_K {c:M→Int} (hc:∀ m,0≤c m∧c m≤100) {dO:List OM} (hs:dO.Pairwise (fun a b=>rkD a.1<rkD b.1)) (hm:∀ m:M,m.ok=true→(m∈dO.map (·.1) ↔ c m≠0)) {K:List T} (hK:Falls K) (hKc:∀ m,m.ok=true→coef K m=c m):(doneB dO 0).map (toT c)=K:=by
 have hcl:∀ x∈doneB dO 0,x.2∈dO:=fun x hx=>by
  unfold doneB at hx
  obtain ⟨j,hj,rfl⟩:=List.mem_map.1 hx
  rw [List.mem_range] at hj
  have hi:dO.length - 1 - j<dO.length:=by omega
  show dO.getD (dO.length - 1 - j) default∈dO
  rw [List.getD_eq_getElem?_getD,List.getElem?_eq_getElem hi]
  exact List.getElem_mem hi
 have hcl2:∀ o∈dO,o.1∈(doneB dO 0).map (fun x=>x.2.1):=fun o ho=>by
  obtain ⟨i,hi,rfl⟩:=List.getElem_of_mem ho
  refine List.mem_map.2 ⟨itemB dO i,?_,?_⟩
  ·unfold doneB
   refine List.mem_map.2 ⟨dO.length - 1 - i,List.mem_range.2 (by omega),?_⟩
   rw [show dO.length - 1 - (dO.length - 1 - i)=i by omega]
  ·simp [itemB,hi]
 have e1:(doneB dO 0).map (toT c)=((doneB dO 0).map (fun x=>x.2.1)).map (fun x=>(⟨c x,x⟩:T)):=by rw [List.map_map];rfl
 refine falls_one ⟨?_,?_⟩ hK (fun m hmo=>?_)
 ·rw [List.pairwise_map]
  unfold doneB
  rw [List.pairwise_map]
  refine (List.pairwise_lt_range (n:=dO.length - 0)).imp_of_mem ?_
  intro j i hj hi hji
  rw [List.mem_range] at hj hi
  have:=(List.pairwise_iff_getElem.1 hs) (dO.length - 1 - i) (dO.length - 1 - j) (by omega) (by omega) (by omega)
  have g1:(itemB dO (dO.length - 1 - i)).2=dO[dO.length - 1 - i]'(by omega):=by simp [itemB,show dO.length - 1 - i<dO.length by omega]
  have g2:(itemB dO (dO.length - 1 - j)).2=dO[dO.length - 1 - j]'(by omega):=by simp [itemB,show dO.length - 1 - j<dO.length by omega]
  show rkD (itemB dO (dO.length - 1 - i)).2.1<rkD (itemB dO (dO.length - 1 - j)).2.1
  rw [g1,g2]
  exact this
 ·intro t ht
  obtain ⟨x,hx,rfl⟩:=List.mem_map.1 ht
  have h1:=(hm x.2.1 x.2.2).1 (List.mem_map_of_mem (hcl x hx))
  have h2:=hc x.2.1
  exact ⟨x.2.2,by show 1≤c x.2.1;omega,by show c x.2.1≤100;omega⟩
 ·rw [e1,hKc m hmo]
  by_cases hn:m∈(doneB dO 0).map (fun x=>x.2.1)
  ·exact coef_map_in c m _ hn
  ·rw [coef_map_out c m _ hn]
   have:¬ c m≠0:=fun h=>by
    obtain ⟨o,ho,he⟩:=List.mem_map.1 ((hm m hmo).2 h)
    exact hn (he ▸ hcl2 o ho)
   omega
end Go.Proofs.YtdidlcjhodejjaaGreat
