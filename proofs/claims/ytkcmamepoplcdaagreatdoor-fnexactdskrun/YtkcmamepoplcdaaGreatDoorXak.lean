/-
  slices.AppendSeq and slices.Collect of monomials, against whatever iterator.
-/
import Derived.Test.YtkcmamepoplcdaaGreatDoorXaj
import Derived.Shelf.SlIter.Collect
set_option maxHeartbeats 4000000
set_option maxRecDepth 100000
namespace Go.Proofs.YtkcmamepoplcdaaGreatDoor
open Go.RowKit Go.Maps Go.Sort
set_option linter.unusedVariables false
def gY (m:M):List Value:=[.int .i64 m.x,.int .i64 m.y,.int .i64 m.d,.int .i64 m.e]
def iQ (ss:List M):List Value:=ss.flatMap gY
theorem zP (ss:List M) (x:M):iQ (ss++[x])=iQ ss++gY x:=by simp[iQ]
theorem CX (w:World) (x:M) (t:TypeId):∀j u,(gY x)[j]? =some u→(w.alloc (.cells #[.int .i64 x.x,.int .i64 x.y,.int .i64 x.d,.int .i64 x.e] t)).cell? ((⟨w.heap.size,0,none⟩:Addr).add j)=some u:=by
 have key:∀k:Nat,(w.alloc (.cells #[.int .i64 x.x,.int .i64 x.y,.int .i64 x.d,.int .i64 x.e] t)).cell? ⟨w.heap.size,k,none⟩=(#[Value.int .i64 x.x,.int .i64 x.y,.int .i64 x.d,.int .i64 x.e]:Array Value)[k]? :=fun k=>by unfold World.cell?;simp only[World.alloc_heap_new];rfl
 intro j u h;match j with
 |0=>exact(key 0).trans h
 |1=>exact(key 1).trans h
 |2=>exact(key 2).trans h
 |3=>exact(key 3).trans h
 |k+4=>simp[gY]at h
def qQ : Code := Code.region 2 #[{ dst := some 5, op := Op.alloc 77, type := 0, pos := "iter.go:51", after := #[], guard := none }, { dst := none, op := Op.store 77 (Operand.tmp 5) (Operand.tmp 7), type := 0, pos := "iter.go:51", after := #[{ on := 0, ground := Ground.data }, { on := 0, ground := Ground.phase }], guard := none }] false
def zI : Code := Code.block 1 (Code.region 3 #[{ dst := some 8, op := Op.load 157 (Operand.tmp 2), type := 157, pos := "iter.go:52", after := #[], guard := none }, { dst := some 9, op := Op.load 77 (Operand.tmp 5), type := 77, pos := "iter.go:52", after := #[], guard := none }, { dst := some 10, op := Op.buildSlice 157 1 #[(0, Operand.tmp 9)], type := 157, pos := "iter.go:52", after := #[{ on := 1, ground := Ground.data }], guard := none }, { dst := some 11, op := Op.call { callee := Callee.builtin Builtin.append, args := #[Operand.tmp 8, Operand.tmp 10], argTypes := #[157, 157] }, type := 157, pos := "iter.go:52", after := #[{ on := 0, ground := Ground.data }, { on := 2, ground := Ground.data }], guard := none }, { dst := none, op := Op.store 157 (Operand.tmp 2) (Operand.tmp 11), type := 0, pos := "iter.go:52", after := #[{ on := 3, ground := Ground.data }, { on := 3, ground := Ground.chain }, { on := 0, ground := Ground.phase }, { on := 1, ground := Ground.phase }, { on := 2, ground := Ground.phase }, { on := 3, ground := Ground.phase }], guard := none }] false)
def lD (fn:FuncId) (sv:Value) (Bs D:Nat) (st:LoopState) (pend:Option Code):Loop:=
 {state:=st,pending:=pend,fn,tmps:=#[.slice none 0 0,sv,.pointer (some ⟨Bs,0,none⟩),undef,.slice none 0 0,undef,sv,undef,undef,undef,undef,undef,undef],params:=#[7],assign:=qQ,body:=zI,defers:=D}
structure EV (w0:World) (fn:FuncId) (sv:Value) (Bs l D:Nat) (ss:List M) (W:World):Prop where
 box:∃v,W.heap[Bs]? =some (.cells #[v] 157 (0,0))∧W.ownsRow w0.heap.size 77 4 v ss.length (iQ ss)∧(v= .slice none 0 0↔ss=[])
 L:W.heap[l]? =some (.loop (lD fn sv Bs D .ready none))
 K:W.heap[D]? =some (.deferred (some []))
 below:Below w0.heap.size w0 W
theorem tD (w0:World) (fn:FuncId) (sv:Value) (Bs l D B:Nat) (hB:w0.heap.size≤B):AbidesFrom B (EV w0 fn sv Bs l D):=fun s W W' row h hg hrow=>by
 have hrow':∀r,row=some r→∃o:Obj,W.heap[r]? =some o∧o.isWalk=true:=fun r e=>(hrow r e).2
 obtain⟨v,hv,hr,hn⟩:=h.box
 exact⟨⟨v,(grownBy_keeps hg hrow' hv rfl).trans hv,ownsRow_abides_a hr hg hrow',hn⟩,(grownBy_keeps hg hrow' h.L rfl).trans h.L,(grownBy_keeps hg hrow' h.K rfl).trans h.K,
  h.below.grown hg h.below.size (fun k e=>jW hB (hrow k e).1)⟩
theorem RF:(Tryz.prog.info? 77).map (fun i=>(i.zero,i.size,i.bytes))=some (some (.agg #[.int .i64 0,.int .i64 0,.int .i64 0,.int .i64 0]),4,32):=by kernel_rfl
theorem KR      {F : Fence} {m : Nat} (w0 : World) (fn : FuncId) (hfn : F.fn fn) (sv : Value) (Bs l D : Nat) (hBl : Bs ≠ l) (hDl : D ≠ l) (hDB : D ≠ Bs) (h0B : w0.heap.size ≤ Bs) (h0l : w0.heap.size ≤ l)
    (N : Nat) (hN : N ≤ 1000000) (ss : List M) (x : M) (W : World) (h : EV   w0 fn sv Bs l D ss W) (hlen : ss.length < N) :
    YieldAt F m Tryz.prog l #[KG  x] W fun e W' => e = .returned (.bool true) ∧ EV   w0 fn sv Bs l D (ss ++ [x]) W' ∧ KeepsWalks W W' := by
  have hne : (157 : TypeId) ≠ 77 := by decide
  obtain ⟨i0, hi, hz0, hz1, hz2⟩ := info_parts RF   
  refine ⟨fn, #[.slice none 0 0, sv, .pointer (some ⟨Bs, 0, none⟩), undef, .slice none 0 0, undef, sv, KG  x, undef, undef, undef, undef, undef], qQ      , zI    , by simpa [lD   ] using run_yield (P := Tryz.prog) (args := #[KG  x]) h.L rfl, roundIn_of_wpIn hfn ?_⟩
  have hbx : (W.alloc (.cells #[.int .i64 x.x, .int .i64 x.y, .int .i64 x.d, .int .i64 x.e] 77)).heap[W.heap.size]? = some (.cells #[.int .i64 x.x, .int .i64 x.y, .int .i64 x.d, .int .i64 x.e] 77 (0, 0)) := World.alloc_heap_new W _
  have hA := tD        w0 fn sv Bs l D w0.heap.size (Nat.le_refl _) ss W _ none h (World.grownBy_alloc W (.cells #[.int .i64 x.x, .int .i64 x.y, .int .i64 x.d, .int .i64 x.e] 77) none) (fun r e => by cases e)
  have hlW : l < W.heap.size := (Array.getElem?_eq_some_iff.1 h.L).1
  have hkA : KeepsWalks W (W.alloc (.cells #[.int .i64 x.x, .int .i64 x.y, .int .i64 x.d, .int .i64 x.e] 77)) := KeepsWalks.alloc _ _
  obtain ⟨WA, hWA⟩ : ∃ WA, W.alloc (.cells #[.int .i64 x.x, .int .i64 x.y, .int .i64 x.d, .int .i64 x.e] 77) = WA := ⟨_, rfl⟩
  unfold qQ      
  gi_wp2_with gi_round_op_a
  rw [hWA] at hbx hA hkA
  clear hWA
  obtain ⟨v, hv, hrow, _⟩ := hA.box
  have hl : l < WA.heap.size := (Array.getElem?_eq_some_iff.1 hA.L).1
  have hbr := run_beginRound (P := Tryz.prog) hA.L rfl
  obtain ⟨W2, hW2⟩ : ∃ W2, WA.putObj l (.loop { lD    fn sv Bs D .ready none with state := .busy }) = W2 := ⟨_, rfl⟩
  rw [hW2] at hbr
  have hg2 : WA.grownBy W2 (some l) := by rw [← hW2]; exact grownBy_putObj_a _ _ _
  have hk2 : KeepsWalks W W2 := by rw [← hW2]; exact hkA.trans (KeepsWalks.putObj _ hA.L rfl)
  have hx2 : W2.heap[W.heap.size]? = some (.cells #[.int .i64 x.x, .int .i64 x.y, .int .i64 x.d, .int .i64 x.e] 77 (0, 0)) := by rw [← hW2]; exact (World.putObj_heap_other (by omega)).trans hbx
  have hv2 : W2.heap[Bs]? = some (.cells #[v] 157 (0, 0)) := by rw [← hW2]; exact (World.putObj_heap_other hBl).trans hv
  have hK2 : W2.heap[D]? = some (.deferred (some [])) := by rw [← hW2]; exact (World.putObj_heap_other hDl).trans hA.K
  have hL2 : W2.heap[l]? = some (.loop { lD    fn sv Bs D .ready none with state := .busy }) := by rw [← hW2]; exact World.putObj_heap_same hl
  have hrow2 : W2.ownsRow w0.heap.size 77 4 v ss.length (iQ    ss) := hrow.kept hg2 (ownsRow_ne_a hrow hA.L (fun cur e => by first | cases e | exact hne (Obj.cells.inj e).2.1))
  have hb2 : Below w0.heap.size w0 W2 := hA.below.grown hg2 hA.below.size (fun k e => by cases e; exact h0l)
  obtain ⟨hc2, hf2⟩ := cell_of_box_a hv2
  have hx20 : W2.cell? ⟨W.heap.size, 0, none⟩ = some (.int .i64 x.x) := by unfold World.cell?; simp only [hx2]; rfl
  have hx21 : W2.cell? ⟨W.heap.size, 1, none⟩ = some (.int .i64 x.y) := by unfold World.cell?; simp only [hx2]; rfl
  have hx22 : W2.cell? ⟨W.heap.size, 2, none⟩ = some (.int .i64 x.d) := by unfold World.cell?; simp only [hx2]; rfl
  have hx23 : W2.cell? ⟨W.heap.size, 3, none⟩ = some (.int .i64 x.e) := by unfold World.cell?; simp only [hx2]; rfl
  have hBlt : Bs < W2.heap.size := (Array.getElem?_eq_some_iff.1 hv2).1
  have hl2 : l < W2.heap.size := (Array.getElem?_eq_some_iff.1 hL2).1
  have hDlt : D < W2.heap.size := (Array.getElem?_eq_some_iff.1 hK2).1
  have ne_of : ∀ {j : Nat} {o : Obj}, W2.heap[j]? = some o → (∀ cur, o ≠ .cells cur 77 (0, 0)) → some j ≠ v.ownBlock := fun hj hno => by
    rcases ownsRow_ne_a hrow2 hj hno with e | e
    · rw [e]; simp
    · exact fun e' => e e'.symm
  clear hW2
  refine ⟨W2, hbr, ?_⟩
  unfold zI    
  gi_wp2_with (first
    | (gi_at_builtin; refine wpListIn_append_own _ rfl _ _ 157 rfl w0.heap.size 77 i0 (.agg #[.int .i64 0, .int .i64 0, .int .i64 0, .int .i64 0]) 4 32 Tryz.underlying157 hi hz0 hz1 hz2 rfl (by decide) _ _ _ rfl (hrow2.alloc _) ⟨W2.heap.size, 0, none⟩ 1 1 (gY     x) rfl rfl (CX        _ _ _) (by simp [gY    , Value.oneCell']) (by simp only [maxLen]; omega) (by omega) (by have := hb2.size; simp; omega) ?_; intro v' w3 hown' hg3 hnil3
       have hv3 : w3.heap[Bs]? = some (.cells #[v] 157 (0, 0)) := (hg3.block Bs (by simp; omega) (ne_of hv2 (fun cur e => by first | cases e | exact hne (Obj.cells.inj e).2.1))).trans ((Below.heap_alloc _ _ Bs hBlt).trans hv2)
       obtain ⟨hc3, hf3⟩ := cell_of_box_a hv3
       obtain ⟨g', cap', cur', rfl, hbase', hgb', hr1, hr2, hr3, hr4⟩ : ∃ g' cap' cur', v' = .slice (some ⟨g', 0, none⟩) (ss.length + 1) cap' ∧ w0.heap.size ≤ g' ∧ w3.heap[g']? = some (.cells cur' 77 (0, 0)) ∧ ss.length + 1 ≤ cap' ∧ cap' ≤ maxLen ∧ cur'.size = cap' * 4 ∧ cur'.toList.take ((ss.length + 1) * 4) = iQ    ss ++ gY     x := by
         rcases hown'.2 with ⟨_, h0⟩ | h'
         · exact absurd h0 (by omega)
         · exact h'
       go_frame)
    | gi_round_op_a)
  have hg3' : (W2.alloc (.cells #[.int .i64 x.x, .int .i64 x.y, .int .i64 x.d, .int .i64 x.e] 77)).grownBy w3 v.ownBlock := hg3
  have hL3 : w3.heap[l]? = some (.loop { lD    fn sv Bs D .ready none with state := .busy }) := (hg3'.block l (by simp; omega) (ne_of hL2 (fun cur e => by first | cases e | exact hne (Obj.cells.inj e).2.1))).trans ((Below.heap_alloc _ _ l hl2).trans hL2)
  have hK3 : w3.heap[D]? = some (.deferred (some [])) := (hg3'.block D (by simp; omega) (ne_of hK2 (fun cur e => by first | cases e | exact hne (Obj.cells.inj e).2.1))).trans ((Below.heap_alloc _ _ D hDlt).trans hK2)
  obtain ⟨w4, hw4⟩ : ∃ w4, w3.setCell ⟨Bs, 0, none⟩ (.slice (some ⟨g', 0, none⟩) (ss.length + 1) cap') = w4 := ⟨_, rfl⟩
  rw [hw4]
  have hg4 : w3.grownBy w4 (some Bs) := by rw [← hw4]; exact grownBy_setCell0_a _ _ _
  have hv4 : w4.heap[Bs]? = some (.cells #[.slice (some ⟨g', 0, none⟩) (ss.length + 1) cap'] 157 (0, 0)) := by rw [← hw4]; exact heap_setCell_box_a _ hv3
  have hL4 : w4.heap[l]? = some (.loop { lD    fn sv Bs D .ready none with state := .busy }) := (hg4.block l (Array.getElem?_eq_some_iff.1 hL3).1 (fun e => hBl (by cases e; rfl))).trans hL3
  have hK4 : w4.heap[D]? = some (.deferred (some [])) := (hg4.block D (Array.getElem?_eq_some_iff.1 hK3).1 (fun e => hDB (by cases e; rfl))).trans hK3
  have hrow4 := hown'.kept hg4 (ownsRow_ne_a hown' hv3 (fun cur e => by first | cases e | exact hne (Obj.cells.inj e).2.1))
  have hl4 : l < w4.heap.size := (Array.getElem?_eq_some_iff.1 hL4).1
  have hb3 : Below w0.heap.size w0 w3 := (hb2.alloc hb2.size _).grown hg3' (by have := hb2.size; simp; omega) (fun k e => (hrow2.lt k e).1)
  have hb4 : Below w0.heap.size w0 w4 := hb3.grown hg4 hb3.size (fun k e => by cases e; exact h0B)
  have hk4 : KeepsWalks W w4 := ((hk2.trans (KeepsWalks.alloc _ _)).trans (KeepsWalks.of_grownBy hg3' (ownsRow_not_walk_a (hrow2.alloc _)))).trans (by rw [← hw4]; exact KeepsWalks.setCell _ _ _)
  clear hw4
  refine ⟨_, _, run_endRound none hL4, rfl, ⟨⟨_, (World.putObj_heap_other hBl).trans hv4, ?_, by simp⟩, World.putObj_heap_same hl4, (World.putObj_heap_other hDl).trans hK4, hb4.grown (grownBy_putObj_a _ _ _) hb4.size (fun k e => by cases e; exact h0l)⟩, hk4.trans (KeepsWalks.putObj _ hL4 rfl)⟩
  have := hrow4.kept (grownBy_putObj_a w4 l (.loop { { lD    fn sv Bs D .ready none with state := .busy } with state := if (none : Option Code).isNone then .ready else .done, pending := none })) (ownsRow_ne_a hrow4 hL4 (fun cur e => by first | cases e | exact hne (Obj.cells.inj e).2.1))
  rw [zP        ]
  simpa using this
theorem zJ {F:Fence} {n:Nat} (h11:F.fn 208) (hro:F.round=none) (hn:2≤n) (g:Nat) (lb:Array Value) (hFg:F.fn g) (eg:∀args w,(callFunc g args).run Tryz.prog w= .ok (.enter g args) w) (S:List M→Prop) (N:Nat) (hN:N≤1000000) (w:World) (hseq:SeqGives F (n-1) Tryz.prog g lb KG S N w):CallsIn F n Tryz.prog 208 #[.slice none 0 0,.func (.func g) #[] lb] w fun e w'=>∃(v:Value) (ss:List M),e= .returned v∧S ss∧w'.ownsRow w.heap.size 77 4 v ss.length (iQ ss)∧(v= .slice none 0 0↔ss=[])∧Below w.heap.size w w':=by
 have h1:1≤n:=by omega
 have hne:(157:TypeId)≠77:=by decide
 refine callsIn_of_wp_marks Tryz.func208 rfl h11 ?_ hro;simp only[Tryz.ntmps208,List.size_toArray,List.length_cons,List.length_nil,Nat.reduceAdd,Nat.reduceSub,Array.replicate_succ,Array.replicate_zero,List.push_toArray,List.append_toArray,List.nil_append,List.cons_append]
 gi_wp2
 refine wpIn_rangeFunc ?_;intro fn hfn;rw[hro];obtain⟨W0,hW0⟩:∃W0,w.alloc (.cells #[.slice none 0 0] 157)=W0:=⟨_,rfl⟩
 have hs0:W0.heap.size=w.heap.size+1:=by rw[←hW0];simp
 have hv0:W0.heap[w.heap.size]? =some (.cells #[.slice none 0 0] 157 (0,0)):=by rw[←hW0];exact World.alloc_heap_new w _
 have hb0:Below w.heap.size w W0:=by rw[←hW0];exact(aD _ w).alloc (Nat.le_refl _) _
 rw[hW0];obtain⟨W1,hW1⟩:∃W1,(W0.alloc (.deferred (some []))).alloc (.loop (lD fn (.func (.func g) #[] lb) w.heap.size W0.heap.size .ready none))=W1:=⟨_,rfl⟩
 have hold:∀k,k<W0.heap.size→W1.heap[k]? =W0.heap[k]? :=fun k hk=>by rw[←hW1];exact(Below.heap_alloc _ _ k (by simp;omega)).trans (Below.heap_alloc _ _ k hk)
 have hb1:Below w.heap.size w W1:=by rw[←hW1];exact(hb0.alloc hb0.size _).alloc (by have:=hb0.size;simp;omega) _
 have hs1:W1.heap.size=W0.heap.size+2:=by rw[←hW1];simp
 have hM:EV w fn (.func (.func g) #[] lb) w.heap.size (W0.heap.size+1) W0.heap.size [] W1:=
  ⟨⟨_,(hold w.heap.size (by omega)).trans hv0,⟨rfl,.inl ⟨rfl,rfl⟩⟩,by simp⟩,
   by rw[←hW1];have:=World.alloc_heap_new (W0.alloc (.deferred (some []))) (.loop (lD fn (.func (.func g) #[] lb) w.heap.size W0.heap.size .ready none));rwa[World.size_alloc]at this,
   by rw[←hW1];exact(Below.heap_alloc _ _ _ (by simp)).trans (World.alloc_heap_new W0 _),hb1⟩
 refine⟨W0.heap.size+1,[{target:=.collected W0.heap.size,args:=#[]}],W1,{target:=.fn (.func g) lb,args:=#[.func (.yield (W0.heap.size+1)) #[] #[]]},W1,g,
  #[.func (.yield (W0.heap.size+1)) #[] #[]]++lb,W1,?_,?_,?_,?_,fun _=>h1,?_⟩
 ·rw[←hW1];exact run_enterLoop_outer _ _ _ _ _
 ·simp[resolve,go_sem]
 ·intro f' hf';simp[Target.leads]at hf';subst hf';exact hFg
 ·simp[invoke,go_sem,eg]
 ·refine(hseq (W0.heap.size+1) (EV w fn (.func (.func g) #[] lb) w.heap.size (W0.heap.size+1) W0.heap.size) W1 hb1 (tD _ _ _ _ _ _ _ hb1.size)
   (fun pre x W hJ hl=>KR w fn hfn _ w.heap.size (W0.heap.size+1) W0.heap.size (by omega) (by omega) (by omega) (Nat.le_refl _) (by omega) N hN pre x W hJ hl) hM).mono ?_
  rintro e W2 ⟨⟨v0,rfl⟩,ss,hS,h2⟩;obtain⟨v,hv,hrow,hnil⟩:=h2.box;have hend:=run_endLoop (P:=Tryz.prog) h2.L (by simp[lD])
  obtain⟨W3,hW3⟩:∃W3,W2.putObj (W0.heap.size+1) (.loop {lD fn (.func (.func g) #[] lb) w.heap.size W0.heap.size .ready none with state:=.exhausted})=W3:=⟨_,rfl⟩
  rw[hW3]at hend;have hg3:W2.grownBy W3 (some (W0.heap.size+1)):=by rw[←hW3];exact grownBy_putObj_a _ _ _
  have hv3:W3.heap[w.heap.size]? =some (.cells #[v] 157 (0,0)):=by rw[←hW3];exact(World.putObj_heap_other (by omega)).trans hv
  have hK3:W3.heap[W0.heap.size]? =some (.deferred (some [])):=by rw[←hW3];exact(World.putObj_heap_other (by omega)).trans h2.K
  have hrow3:=hrow.kept hg3 (ownsRow_ne_a hrow h2.L (fun cur e=>by first|cases e|exact hne (Obj.cells.inj e).2.1));have hb3:Below w.heap.size w W3:=h2.below.grown hg3 h2.below.size (fun k e=>by cases e;omega)
  obtain⟨hc3,hf3⟩:=cell_of_box_a hv3;clear hW3;refine⟨none,W3,hend,?_⟩
  gi_wp2
  rw[←hs0];refine⟨by simp,.inl ⟨_,_,rfl,run_takeDeferred hK3,?_⟩⟩;exact⟨_,results_tmp rfl _ _ _,v,ss,rfl,hS,hrow3.kept (grownBy_putObj_a _ _ _) (ownsRow_ne_a hrow3 hK3 (fun cur e=>by first|cases e|exact hne (Obj.cells.inj e).2.1)),hnil,hb3.grown (grownBy_putObj_a _ _ _) hb3.size (fun k e=>by cases e;omega)⟩
theorem FN {F:Fence} {n:Nat} (h8:F.fn 191) (h11:F.fn 208) (hro:F.round=none) (hn:3≤n) (g:Nat) (lb:Array Value) (hFg:F.fn g) (eg:∀args w,(callFunc g args).run Tryz.prog w= .ok (.enter g args) w) (S:List M→Prop) (N:Nat) (hN:N≤1000000) (w:World) (hseq:SeqGives F (n-1-1) Tryz.prog g lb KG S N w):CallsIn F n Tryz.prog 191 #[.func (.func g) #[] lb] w fun e w'=>∃(v:Value) (ss:List M),e= .returned v∧S ss∧w'.ownsRow w.heap.size 77 4 v ss.length (iQ ss)∧(v= .slice none 0 0↔ss=[])∧Below w.heap.size w w':=by
 have h1:1≤n:=by omega
 refine callsIn_of_wp Tryz.func191 rfl h8 ?_ hro;simp only[Tryz.ntmps191,List.size_toArray,List.length_cons,List.length_nil,Nat.reduceAdd,Nat.reduceSub,Array.replicate_succ,Array.replicate_zero,List.push_toArray,List.append_toArray,List.nil_append,List.cons_append]
 gi_wp2
 refine(zJ h11 hro (by omega) g lb hFg eg S N hN _ hseq).mono ?_;rintro e w' ⟨v,ss,rfl,hS,hrow,hnil,hb⟩
 gi_wp2
 go_ret;exact⟨v,ss,rfl,hS,hrow,hnil,hb⟩
open Go.RowKit Go.Maps Go.Sort Go.Shelf
def qO    :Prop:=
 (∀(Br:Nat) (W:World) (gb cap:Nat) (d:Array OM),Br<W.heap.size→Br≠gb→W.cell? ⟨Br,0,none⟩=some (.func (.func 88) #[] #[])→HoldsK cZ     4 W gb 0 d→gb<W.heap.size→d.size<4611686018427387904→
  Calls Tryz.prog 192 #[.slice (some ⟨gb,0,none⟩) d.size cap,.func (.func 175) #[] #[.pointer (some ⟨Br,0,none⟩)]] W fun e w'=>e= .returned (.tuple #[])∧
   ∃d' n os,PermIn 0 d.size d d'∧SortedIn (ltOf fun x y:OM=>c3 (eF  x.1) (eF  y.1)) 0 d.size d'∧w'=sortWorldK cZ     4 W gb 0 n d' os)∧
 (∀(p:Option Addr) (cap:Nat) (fv:Value) (W:World),Calls Tryz.prog 192 #[.slice p 0 cap,fv] W fun e w'=>e= .returned (.tuple #[])∧w'=W)
theorem xX:∀(ss:List M) (i c:Nat) (h:i<ss.length),c<4→(iQ ss)[i*4+c]? =(gY ss[i])[c]?
 |[],i,c,h,_=>by simp at h
 |x::r,0,c,_,hc=>by have e:iQ (x::r)=gY x++iQ r:=rfl;rw[e,List.getElem?_append_left (by simp[gY];omega)];simp
 |x::r,i+1,c,h,hc=>by
  have e:iQ (x::r)=gY x++iQ r:=rfl;have hl:(gY x).length=4:=rfl
  rw[e,List.getElem?_append_right (by rw[hl];omega),hl,show(i+1)*4+c-4=i*4+c by omega];exact xX r i c (by simpa using h) hc
theorem PF {W:World} {gb:Nat} {cur:Array Value} {t:TypeId} (dO:List OM) (hgb:W.heap[gb]? =some (.cells cur t (0,0))) (r4:cur.toList.take (dO.length*4)=iQ (dO.map (·.1))):HoldsK cZ 4 W gb 0 dO.toArray:=by
 intro j hj;rw[size_flatK]at hj;have hj':j<dO.length*4:=by simpa using hj
 refine⟨?_,by simp[World.frozen?,hgb]⟩;have h1:(cur.toList.take (dO.length*4))[j]? =(iQ (dO.map (·.1)))[j]? :=by rw[r4]
 rw[List.getElem?_take_of_lt hj']at h1;have hi:j / 4<dO.length:=by omega
 have h2:=xX (dO.map (·.1)) (j / 4) (j%4) (by simpa using hi) (by omega);have e2:(dO.map (·.1))[j / 4]'(by simpa using hi)=(dO[j / 4]'hi).1:=List.getElem_map ..
 rw[show j / 4*4+j%4=j by omega,e2]at h2;simp only[World.cell?,hgb,Nat.zero_add];simp only[Option.isSome_none,Bool.false_eq_true,if_false];rw[←Array.getElem?_toList,h1,h2,id,get_flatK _ _ _ _ hj];have hx:dO.toArray[j / 4]! =dO[j / 4]'hi:=by rw[getElem!_pos dO.toArray (j / 4) (by simpa using hi)];simp
 rw[hx];generalize dO[j / 4]'hi=z;have hc:j%4<4:=by omega
 show(cZ z)[j%4]? =some (cZ z)[j%4]!
 rw[List.getElem?_eq_getElem (show j%4<(cZ z).length from hc),getElem!_pos (cZ z) (j%4) hc];rfl
structure sI (W:World) (p:Option Addr) (d:List M):Prop where
 here:∀i (h:i<d.length),∃g,p=some ⟨g,0,none⟩∧g<W.heap.size∧W.cell? ⟨g,i*4,none⟩=some (.int .i64 d[i].x)∧W.cell? ⟨g,i*4+1,none⟩=some (.int .i64 d[i].y)∧W.cell? ⟨g,i*4+2,none⟩=some (.int .i64 d[i].d)∧W.cell? ⟨g,i*4+3,none⟩=some (.int .i64 d[i].e)
theorem sI.keep {W W':World} {p:Option Addr} {d:List M} (h:sI W p d) (hs:W.heap.size≤W'.heap.size) (hk:∀g,p=some ⟨g,0,none⟩→W'.heap[g]? =W.heap[g]?):sI W' p d:=⟨fun i hi=>by
 obtain⟨g,hp,hg,c0,c1,c2,c3⟩:=h.here i hi;have hb:=hk g hp
 exact⟨g,hp,by omega,(sP (w:=W) (a:=⟨g,_,none⟩) hb).trans c0,(sP (w:=W) (a:=⟨g,_,none⟩) hb).trans c1,(sP (w:=W) (a:=⟨g,_,none⟩) hb).trans c2,(sP (w:=W) (a:=⟨g,_,none⟩) hb).trans c3⟩⟩
theorem mH {w:World} {g n:Nat} {os:Array Obj} (d:Array OM):w.grownBy (sortWorldK cZ 4 w g 0 n d os) (some g):=by
 refine⟨rfl,rfl,rfl,by simp[sortWorldK,putRowK],fun k hk hne=>?_⟩;unfold sortWorldK;rw[heap_grow_old _ _ (by simpa[putRowK]using hk)];have:g≠k:=fun e=>hne (by rw[e])
 simp[putRowK,putRow,mapBlock,Sort.ahead,Array.getElem?_modify,this]
theorem yZ {W:World} {gb n:Nat} {os:Array Obj} (d d':Array OM) (hH:HoldsK cZ 4 W gb 0 d) (hgl:gb<W.heap.size) (hs:d'.size=d.size):sI (sortWorldK cZ 4 W gb 0 n d' os) (some ⟨gb,0,none⟩) (d'.toList.map (·.1)):=⟨fun i hi=>by
 have hK:HoldsK cZ 4 (sortWorldK cZ 4 W gb 0 n d' os) gb 0 d':=by unfold sortWorldK;exact holdsK_grow (enc:=cZ) (k:=4) _ _ _ _ _ (by rw[size_putRowK];exact hgl) (holdsK_putRowK (enc:=cZ) (k:=4) _ _ _ d d' (holdsK_ahead (enc:=cZ) (k:=4) _ _ _ _ _ hH) hs)
 have hi':i<d'.size:=by simpa using hi
 have hx:d'[i]! =d'[i]:=getElem!_pos d' i hi';have hgs:gb<(sortWorldK cZ 4 W gb 0 n d' os).heap.size:=by unfold sortWorldK;rw[Go.Sort.size_grow,size_putRowK];exact eB hgl (Nat.le_add_right _ _)
 have k:∀c:Nat,c<4→_:=fun c hc=>(hK.cell (i:=i) (c:=c) hi' hc).1;have k0:=k 0 (by omega)
 have k1:=k 1 (by omega);have k2:=k 2 (by omega)
 have k3:=k 3 (by omega);rw[hx,Nat.zero_add]at k0 k1 k2 k3;have e:(d'.toList.map (·.1))[i]=(d'[i]).1:=by simp
 rw[e]
 exact⟨gb,rfl,hgs,k0,k1,k2,k3⟩⟩
theorem ND (hsort:qO) (g:Nat) (lb:Array Value) (eg:∀args w,(callFunc g args).run Tryz.prog w= .ok (.enter g args) w) (S:List M→Prop) (N:Nat) (hN:N≤1000000) (hok:∀ss,S ss→∀m∈ss,m.ok=true) (hle:∀ss,S ss→ss.length≤N) (w:World) (hseq:SeqGives Fence.wide 5 Tryz.prog g lb KG S N w) (Br:Nat) (hB:Br<w.heap.size) (hr:w.cell? ⟨Br,0,none⟩=some (.func (.func 88) #[] #[])):Calls Tryz.prog 173 #[.func (.func g) #[] lb,.func (.func 175) #[] #[.pointer (some ⟨Br,0,none⟩)]] w fun e w'=>∃(p:Option Addr) (cap:Nat) (dO:List OM) (ss:List M),e= .returned (.slice p dO.length cap)∧S ss∧(dO.map (·.1)).Perm ss∧dO.Pairwise (fun a b=>eF a.1≤eF b.1)∧sI w' p (dO.map (·.1))∧(∀k,p=some ⟨k,0,none⟩→w.heap.size≤k∧k<w'.heap.size)∧Below w.heap.size w w':=by
 go_enter Tryz.func173,Tryz.ntmps173;have hcol:=(callsIn_wide (n:=7)).1 (FN (F:=Fence.wide) (n:=7) trivial trivial rfl (by omega) g lb trivial eg S N hN w hseq)
 go_wp2_with (go_at_call 191;refine hcol.mono ?_;rintro e W ⟨v,ss,rfl,hS,hrow,hnil,hb⟩);rcases hrow.2 with⟨rfl,hz⟩|⟨gb,cap,cur,rfl,hbase,hgb,r1,r2,r3,r4⟩
 ·have hss:ss=[]:=List.eq_nil_of_length_eq_zero hz;subst hss;go_wp2_with (go_at_call 192;refine(hsort.2 none 0 _ W).mono ?_;rintro e w' ⟨rfl,hw⟩;obtain rfl:=hw.symm;clear hw);go_ret;exact⟨none,0,[],[],rfl,hS,List.Perm.refl _,List.Pairwise.nil,⟨fun i h=>by simp at h⟩,fun k e=>(by cases e),hb⟩
 ·obtain⟨dO,hdO⟩:∃dO:List OM,dO.map (·.1)=ss:=⟨ss.pmap (fun m h=>(⟨m,h⟩:OM)) (hok ss hS),by simp[List.map_pmap]⟩
  have hl:dO.length=ss.length:=by rw[←hdO];simp
  rw[←hl]at r4;rw[←hdO]at r4;have hH:HoldsK cZ 4 W gb 0 dO.toArray:=PF dO hgb r4
  have hgl:gb<W.heap.size:=(Array.getElem?_eq_some_iff.1 hgb).1;have hsz:dO.toArray.size<4611686018427387904:=by have:=hle ss hS;simp;omega
  have cS:=hsort.1 Br W gb cap dO.toArray (by have:=hb.size;omega) (by omega) ((hb.cell (p:=⟨Br,0,none⟩) hB).trans hr) hH hgl hsz;simp only[List.size_toArray,hl]at cS;go_wp2_with (go_at_call 192;refine cS.mono ?_;rintro e w' ⟨rfl,d',nn,os,hp,hs,hw⟩;obtain rfl:=hw.symm;clear hw);go_ret;obtain⟨hp1,hp2,hp3⟩:=hp;have hsd:d'.size=dO.length:=by simpa using hp1
  have hperm:d'.toList.Perm dO:=by
   have e1:d'.extract 0 ss.length=d':=by rw[←hl,←hsd];exact Array.extract_size
   have e2:dO.toArray.extract 0 ss.length=dO.toArray:=by rw[←hl];simp
   rw[e1,e2]at hp3;simpa using hp3
  refine⟨some ⟨gb,0,none⟩,cap,d'.toList,ss,?_,hS,?_,?_,yZ dO.toArray d' hH hgl hp1,fun k e=>(by cases e;exact⟨hbase,eB hgl (mH d').size⟩),hb.grown (mH d') hb.size (fun j hj=>by cases hj;exact hbase)⟩
  ·rw[show d'.toList.length=ss.length by simp;omega];rfl
  ·rw[←hdO];exact hperm.map _
  ·rw[List.pairwise_iff_getElem];intro i j hi hj hij;have hi':i<d'.size:=by simpa using hi
   have hj':j<d'.size:=by simpa using hj
   have:=hs i j (gO _) hij (by omega);rw[getElem!_pos d' i hi',getElem!_pos d' j hj',SI]at this;simp at this;simpa using this
end Go.Proofs.YtkcmamepoplcdaaGreatDoor
namespace Go.Proofs.YtkcmamepoplcdaaGreatDoor
open Go.RowKit
set_option linter.unusedVariables false
theorem nV {a b:M} (ha:a.ok=true) (hb:b.ok=true):0<M.ord 1 a b↔eF b<eF a:=by
 rw[←JC ha hb];unfold c3;constructor
 ·intro h;split at h
  ·omega
  ·split at h<;>omega
 ·intro h;rw[if_neg (by omega),if_pos h];decide
def fK (c:Int) (m:M):Bool:=decide (1≤c∧c≤100)&&m.ok
theorem AC (c x y d e:Int) (w:World):Calls Tryz.prog 87 #[.int .i64 c,.agg #[.int .i64 x,.int .i64 y,.int .i64 d,.int .i64 e]] w fun r w'=>r= .returned (.bool (fK c ⟨x,y,d,e⟩))∧Below w.heap.size w w':=by
 by_cases h0:c=0
 ·subst h0;have e1:fK 0 ⟨x,y,d,e⟩=false:=by simp[fK]
  rw[e1];go_enter Tryz.func87,Tryz.ntmps87;go_wp2;go_ret;exact⟨rfl,aF w _⟩
 ·have hz:(c !=0)=true:=by simp[h0]
  by_cases hc:0≤c∧c≤100
  ·obtain⟨c1,c2⟩:=hc;have e1:fK c ⟨x,y,d,e⟩=M.ok ⟨x,y,d,e⟩:=by
    have:1≤c∧c≤100:=by omega
    simp[fK,this]
   rw[e1];clear h0 e1;go_enter Tryz.func87,Tryz.ntmps87;go_wp2_with (go_at_call 124;refine(zY _ _ c1 c2).mono ?_;rintro r w' ⟨rfl,rfl⟩);refine(gZ _ _ _ _ _).mono ?_;rintro r w1 ⟨rfl,hb⟩;go_wp2;go_ret;exact⟨rfl,aC (aF w _) hb⟩
  ·have hc':c<0∨100<c:=by omega
   have e1:fK c ⟨x,y,d,e⟩=false:=by
    have:¬(1≤c∧c≤100):=by omega
    simp[fK,this]
   rw[e1];clear hc e1 h0;go_enter Tryz.func87,Tryz.ntmps87;go_wp2_with (go_at_call 124;refine(vO _ _ hc').mono ?_;rintro r w' ⟨rfl,rfl⟩);go_ret;exact⟨rfl,aF w _⟩
theorem mK {c x y d e:Int} {b:Bool} (h:fK c ⟨x,y,d,e⟩=b) (w:World):Calls Tryz.prog 87 #[.int .i64 c,.agg #[.int .i64 x,.int .i64 y,.int .i64 d,.int .i64 e]] w fun r w'=>r= .returned (.bool b)∧Below w.heap.size w w':=by rw[←h];exact AC c x y d e w
theorem uC {f:Nat→T} {k:Nat} (h:fC f k=true):fK (f k).c (f k).m=true:=by simp only[fC,Bool.and_eq_true]at h;simp only[fK,Bool.and_eq_true];exact h.1
theorem dU (w:World) (a:Option Addr) (n cap:Nat) (f:Nat→T) (h:Rd w a n cap f):Calls Tryz.prog 57 #[.slice a n cap] w fun r w'=>r= .returned (.bool (aH n f))∧Below w.heap.size w w':=by
 obtain⟨h1,h2,h3⟩:=h;have hn:(n:Int)≤140737488351232:=by omega
 by_cases hl:n≤400
 ·have hl':(n:Int)≤400:=by omega
  go_enter Tryz.func57,Tryz.ntmps57;go_wp2;go_loopw [10] (fun i wr=>∃k:Nat,k≤n∧i= .int .i64 k∧Below w.heap.size w wr∧∀j,j<k→fC f j=true) (fun i _=>n-(intOf i).toNat);case atStart=>exact⟨0,gO _,rfl,aD _ _,fun j hj=>absurd hj (Nat.not_lt_zero _)⟩
  case round=>
   obtain⟨k,hk,rfl,hB,hok⟩:=hrel;by_cases hlt:k<n
   ·rcases h3 with h0|⟨b,off,rfl,hblt,hcl⟩
    ·omega
    have hkn:(k:Int)<(n:Int):=by omega
    have hbr:b<wr.heap.size:=eB hblt hB.size;obtain⟨g0,g1,g2,g3,g4⟩:=(hcl k hlt).below hB hblt;have hno:fC f k=false→aH n f=false:=fun hf=>by
     simp only[aH,decide_eq_false_iff_not];intro hh;have:=hh.2 k hlt
     rw[hf]at this;cases this
    cases ht:fK (f k).c (f k).m
    ·have HF:Hid (aH n f=false):=hno (by
      cases h:fC f k
      ·rfl
      ·rw[uC h]at ht;cases ht)
     clear hno hcl hok;go_wp2_with fail;refine(mK ht _).mono ?_;rintro r w1 ⟨rfl,hb⟩;have HB:=aA (aC (hB.alloc hB.size _) hb)
     clear hb;go_wp2;go_ret;exact⟨by rw[HF.out];rfl,HB.out⟩
    ·have hm:(f k).m.ok=true:=by simp only[fK,Bool.and_eq_true]at ht;exact ht.2
     have HM:=aA hm;have HCL:=aA hcl
     have HOK:=aA hok;have HNO:=aA hno
     clear hcl hok hno hm;go_wp2_with fail;refine(mK ht _).mono ?_;rintro r w1 ⟨rfl,hb⟩;have HB:=aA (aC (hB.alloc hB.size _) hb)
     have hb1:b<w1.heap.size:=by have:=hb.size;simp at this;omega
     have hb2:wr.heap.size<w1.heap.size:=by have:=hb.size;simp at this;omega
     have hq:∀i v,#[Value.int .i64 (f k).c,.int .i64 (f k).m.x,.int .i64 (f k).m.y,.int .i64 (f k).m.d,.int .i64 (f k).m.e][i]? =some v→w1.cell? ⟨wr.heap.size,i,none⟩=some v:=fun i v hv=>by rw[hb.cell (p:=⟨wr.heap.size,i,none⟩) (by simp),World.cell?_alloc_at _ _ _ _ rfl];exact hv
     have ne:=dQ.there w1;have s1:∀u:dQ w1,u.1.cell? ⟨wr.heap.size,1,none⟩=some (.int .i64 (f k).m.x):=fun u=>(u.cell hb2).trans (hq 1 _ rfl)
     have s2:∀u:dQ w1,u.1.cell? ⟨wr.heap.size,2,none⟩=some (.int .i64 (f k).m.y):=fun u=>(u.cell hb2).trans (hq 2 _ rfl);have s3:∀u:dQ w1,u.1.cell? ⟨wr.heap.size,3,none⟩=some (.int .i64 (f k).m.d):=fun u=>(u.cell hb2).trans (hq 3 _ rfl)
     have s4:∀u:dQ w1,u.1.cell? ⟨wr.heap.size,4,none⟩=some (.int .i64 (f k).m.e):=fun u=>(u.cell hb2).trans (hq 4 _ rfl);have HBK:=aA hB
     clear hq hb g0 g1 g2 g3 g4 hB;by_cases hk0:k=0
     ·have ht':fC f k=true:=by simp only[fC,fK,Bool.and_eq_true]at ht⊢;exact⟨ht,by simp[hk0]⟩
      have hok':Hid (∀j,j<k+1→fC f j=true):=fun j hj=>by
       by_cases hjk:j=k
       ·rw[hjk];exact ht'
       ·exact HOK.out j (by omega)
      have dk:decide (0<k)=false:=decide_eq_false (by omega);clear ht' hk0 ht;go_wp2_with fail;refine aR (by kernel_rfl) (by kernel_rfl) ?_;repeat(go_big_quiet_step (fail))
      refine wpQuiet_nil ?_;rintro _ ⟨u,rfl⟩;go_wp2;go_roundw;case rel=>exact⟨k+1,by omega,by go_num,HB.out.trans (u.2.mono HB.out.size),hok'.out⟩
      case measure=>simp[intOf];omega
     ·have hj:k-1<n:=by omega
      have hcj:=((HCL.out (k-1) hj).below HBK.out hblt)
      have hcj1:fL w1 b (off+(k-1)*5) (f (k-1)):=(HCL.out (k-1) hj).below HB.out hblt;have p1:∀u:dQ w1,u.1.cell? ⟨b,off+(k-1)*5+1,none⟩=some (.int .i64 (f (k-1)).m.x):=fun u=>(u.cell hb1).trans hcj1.2.1
      have p2:∀u:dQ w1,u.1.cell? ⟨b,off+(k-1)*5+2,none⟩=some (.int .i64 (f (k-1)).m.y):=fun u=>(u.cell hb1).trans hcj1.2.2.1;have p3:∀u:dQ w1,u.1.cell? ⟨b,off+(k-1)*5+3,none⟩=some (.int .i64 (f (k-1)).m.d):=fun u=>(u.cell hb1).trans hcj1.2.2.2.1
      have p4:∀u:dQ w1,u.1.cell? ⟨b,off+(k-1)*5+4,none⟩=some (.int .i64 (f (k-1)).m.e):=fun u=>(u.cell hb1).trans hcj1.2.2.2.2;have hmp:(f (k-1)).m.ok=true:=by have:=uC (HOK.out (k-1) (by omega));simp only[fK,Bool.and_eq_true]at this;exact this.2
      have HMP:=aA hmp;clear hcj hcj1;have dk:decide (0<k)=true:=decide_eq_true (by omega)
      have hk1:(0:Int)<(k:Int):=by omega
      have hk2:(k:Int)-1<(n:Int):=by omega
      have hk3:(0:Int)≤(k:Int)-1:=by omega
      by_cases hq:eF (f k).m<eF (f (k-1)).m
      ·have ht':fC f k=true:=by simp only[fC,fK,Bool.and_eq_true]at ht⊢;exact⟨ht,by rw[decide_eq_true ((nV hmp HM.out).2 hq)];simp⟩
       have hok':Hid (∀j,j<k+1→fC f j=true):=fun j hj=>by
        by_cases hjk:j=k
        ·rw[hjk];exact ht'
        ·exact HOK.out j (by omega)
       have dq:decide (eF ⟨(f (k-1)).m.x,(f (k-1)).m.y,(f (k-1)).m.d,(f (k-1)).m.e⟩≤eF ⟨(f k).m.x,(f k).m.y,(f k).m.d,(f k).m.e⟩)=false:=decide_eq_false (Int.not_le.2 hq);clear ht' hk0 ht hq hmp;go_wp2_with fail;refine aR (by kernel_rfl) (by kernel_rfl) ?_;repeat(go_big_quiet_step (first|(go_at_call 88;exact bQ (oB _ _ _ _ _ HMP.out))|(go_at_call 88;exact bQ (oB _ _ _ _ _ HM.out))))
       refine wpQuiet_nil ?_;rintro _ ⟨u,rfl⟩;go_wp2;go_roundw;case rel=>exact⟨k+1,by omega,by go_num,HB.out.trans (u.2.mono HB.out.size),hok'.out⟩
       case measure=>simp[intOf];omega
      ·have HF:Hid (aH n f=false):=HNO.out (by
        cases hx:fC f k
        ·rfl
        ·exfalso;simp only[fC,Bool.and_eq_true,Bool.or_eq_true,decide_eq_true_eq]at hx;rcases hx.2 with h0|h0
         ·exact hk0 h0
         ·exact hq ((nV hmp HM.out).1 h0))
       have dq:decide (eF ⟨(f (k-1)).m.x,(f (k-1)).m.y,(f (k-1)).m.d,(f (k-1)).m.e⟩≤eF ⟨(f k).m.x,(f k).m.y,(f k).m.d,(f k).m.e⟩)=true:=decide_eq_true (Int.not_lt.1 hq);clear hk0 ht hq hmp;go_wp2_with fail;refine aR (by kernel_rfl) (by kernel_rfl) ?_;repeat(go_big_quiet_step (first|(go_at_call 88;exact bQ (oB _ _ _ _ _ HMP.out))|(go_at_call 88;exact bQ (oB _ _ _ _ _ HM.out))))
       refine wpQuiet_nil ?_;rintro _ ⟨u,rfl⟩;go_wp2;go_ret;exact⟨by rw[HF.out];rfl,HB.out.trans (u.2.mono HB.out.size)⟩
   ·go_wp2;go_ret;have hp:aH n f=true:=by simp only[aH,decide_eq_true_eq];exact⟨hl,fun i hi=>hok i (by omega)⟩
    exact⟨by rw[hp];rfl,hB⟩
 ·have hl':(400:Int)<(n:Int):=by omega
  have hp:aH n f=false:=by simp only[aH,decide_eq_false_iff_not];exact fun h=>hl h.1
  rw[hp];go_enter Tryz.func57,Tryz.ntmps57;go_wp2;go_ret;exact⟨rfl,aD _ _⟩
end Go.Proofs.YtkcmamepoplcdaaGreatDoor
