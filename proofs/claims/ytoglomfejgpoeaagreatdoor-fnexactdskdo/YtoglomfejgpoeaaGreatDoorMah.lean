/-
  maps.Keys over a sum's map: its monomials come, each once, in some order.
  slices.AppendSeq and slices.Collect of monomials, against whatever iterator.
  slices.Backward of monomials.
-/
import Derived.Test.YtoglomfejgpoeaaGreatDoorMag
import Derived.RangeFuncSeq
import Derived.RangeFuncGives
import Derived.Sort.MapsRangeIn
import Derived.Sort.KeysCollected
import Derived.Shelf.AbstractIn
import Derived.RegionIn
import Derived.Shelf.SlIter.Collect
set_option maxHeartbeats 2000000
set_option maxRecDepth 100000
namespace Go.Proofs.YtoglomfejgpoeaaGreatDoor
open Go.RowKit Go.Maps Go.Sort
set_option linter.unusedVariables false
abbrev CM (m:M):Value:=.agg #[.int .i64 m.x,.int .i64 m.y,.int .i64 m.d,.int .i64 m.e]
def nQ (D0:DataW Unit) (left:Lit→Bool) (ss:List M):Prop:=ss.Nodup∧(∀m∈ss,m.ok=true)∧∀m:M,m.ok=true→(m∈ss↔(Maps.has D0 (cN m)=true∧left (cN m)=false))
theorem nQ.start (D0:DataW Unit):nQ D0 (Maps.has D0) []:=⟨List.nodup_nil,fun m h=>by simp at h,fun m hm=>by cases Maps.has D0 (cN m)<;>simp⟩
theorem qF {a b:M}:(cN a).sameKey (cN b)=true↔cN a=cN b:=by simp[cN,Lit.sameKey]
theorem nQ.step {D0:DataW Unit} {left:Lit→Bool} {ss:List M} (h:nQ D0 left ss) {x:M} (hx:x.ok=true) {y:DataW Unit} (hlk:left (cN x)=true) (hat:∀zd,D0.atKey (cN x) zd=y):nQ D0 (fun z=>left z&& !z.sameKey (cN x)) (ss++[x]):=by
 have hhas:Maps.has D0 (cN x)=true:=has_true_of_atKey hat;have hnew:x∉ss:=fun hx'=>by have:=((h.2.2 x hx).1 hx').2;rw[hlk]at this;cases this
 refine⟨List.nodup_append.2 ⟨h.1,by simp,fun a ha b hb=>by simp at hb;subst hb;exact fun e=>hnew (e▸ha)⟩,fun m hm=>?_,fun m hm=>?_⟩
 ·rcases List.mem_append.1 hm with h1|h1
  ·exact h.2.1 m h1
  ·simp at h1;rw[h1];exact hx
 ·by_cases hy:m=x
  ·subst hy;have:(cN m).sameKey (cN m)=true:=qF.2 rfl
   simp[hhas,this]
  ·have hne:(cN m).sameKey (cN x)=false:=by
    cases hb:(cN m).sameKey (cN x)with
    |false=>rfl
    |true=>exact absurd (oI hm hx (qF.1 hb)) hy
   simp[h.2.2 m hm,hy,hne]
theorem GF {F:Fence} {n:Nat} (h10:F.fn 178) (hro:F.round=none) (hn:1≤n) (l Bm b nn:Nat) (D0:DataW Unit) (J:List M→World→Prop) (hks:∀kl,Maps.has D0 kl=true→∃m:M,m.ok=true∧kl=cN m) (hY:∀pre x W,J pre W→pre.length<Maps.size D0→YieldAt F (n-1) Tryz.prog l #[CM x] W fun e W'=>e= .returned (.bool true)∧J (pre++[x]) W'∧KeepsWalks W W') (W:World) (hJ:AbidesFrom W.heap.size J) (hm:W.cell? ⟨Bm,0,none⟩=some (.map (some b))) (hown:W.ownsMap Tryz.prog 78 (plainElem Tryz.prog 99) b nn D0) (h0:J [] W):CallsIn F n Tryz.prog 178 #[.func (.yield l) #[] #[],.pointer (some ⟨Bm,0,none⟩)] W fun e W'=>(∃v,e= .returned v)∧∃ss:List M,(ss.Nodup∧(∀m∈ss,m.ok=true)∧∀m:M,m.ok=true→(m∈ss↔Maps.has D0 (cN m)=true))∧ss.length≤Maps.size D0∧J ss W':=by
 refine callsIn_of_wp Tryz.func178 rfl h10 ?_ hro;simp only[Tryz.ntmps178,List.size_toArray,List.length_cons,List.length_nil,Nat.reduceAdd,Nat.reduceSub,Array.replicate_succ,Array.replicate_zero,List.push_toArray,List.append_toArray,List.nil_append,List.cons_append]
 gi_wp2_with (first
  |(gi_at_range;refine wpListIn_range_own _ rfl _ 100 rfl 78 99 lN Tryz.underlying100 _ b nn _ rfl hown ?_;intro w0 hrg0 hg0 hs0)
  |gi_in)
 go_frame
 gi_loopw [3] (fun _ wr=>∃(left:Lit→Bool) (pU:Nat) (ss:List M),wr.ranges Tryz.prog 78 (plainElem Tryz.prog 99) b W.heap.size nn D0 left pU∧ss.length+pU≤Maps.size D0∧nQ D0 left ss∧J ss wr)
  (fun _ wr=>wr.rangeLeft b W.heap.size)
 case atStart=>
  exact⟨_,_,[],hrg0,by simp,nQ.start D0,hJ [] W w0 none h0 hg0 (fun r e=>by cases e)⟩
 case round=>
  obtain⟨left,pU,ss,hrg,hcs,hC,hJs⟩:=hrel
  gi_wp2_with (first
   |(gi_at_next;refine wpListIn_next_ranges _ rfl _ rfl 78 lN (plainElem Tryz.prog 99) (id:Value→Value) id (fun key kl hk=>⟨key,rfl⟩) (fun v _ _=>⟨v,rfl⟩) b W.heap.size nn _ _ _ rfl hrg ?_ ?_)
   |gi_in)
  ·intro hc0 hl0
   gi_wp2
   go_end0
   exact⟨⟨_,rfl⟩,ss,⟨hC.1,hC.2.1,fun m hm=>by rw[hC.2.2 m hm,hl0];simp⟩,by omega,hJs⟩
  ·intro x c kl yd yp w2 cnt2 hkey hlk hv hat hrg2 hlt hg2 hs2 hen;obtain⟨m,hmo,rfl⟩:=hks kl (has_true_of_atKey hat);obtain rfl:x=CM m:=lN.inj hkey (mG hmo);have hJ2:J ss w2:=hJ ss wr w2 (some W.heap.size) hJs hg2 (fun r e=>by cases e;exact⟨Nat.le_refl _,hrg.iter_walk⟩)
   have hJ3:=hJ ss w2 _ none hJ2 (World.grownBy_alloc w2 (.cells #[.int .i64 m.x,.int .i64 m.y,.int .i64 m.d,.int .i64 m.e] 78) none) (fun r e=>by cases e);have hrg2':=hrg2.of_walks (KeepsWalks.alloc w2 (.cells #[.int .i64 m.x,.int .i64 m.y,.int .i64 m.d,.int .i64 m.e] 78))
   have hlt':(w2.alloc (.cells #[.int .i64 m.x,.int .i64 m.y,.int .i64 m.d,.int .i64 m.e] 78)).rangeLeft b W.heap.size=cnt2:=hrg2'.left_eq;obtain⟨fn,tmps,assign,body,hy,hR⟩:=hY ss m _ hJ3 (by omega);clear hs2
   gi_wp2
   refine hR.mono ?_;rintro e W3 ⟨rfl,hJ4,hk3⟩
   gi_wp2
   have hrg3:=hrg2'.of_walks hk3;go_roundw;case rel=>exact⟨_,cnt2,ss++[m],hrg3,by simp;omega,hC.step hmo hlk hat,hJ4⟩
   case measure=>rw[hrg3.left_eq,hrg.left_eq];exact hlt
def uL (D0:DataW Unit) (ss:List M):Prop:=ss.Nodup∧(∀m∈ss,m.ok=true)∧(∀m:M,m.ok=true→(m∈ss↔Maps.has D0 (cN m)=true))∧ss.length≤Maps.size D0
theorem xR {F:Fence} {n:Nat} (h10:F.fn 178) (hro:F.round=none) (hn:1≤n) (Bm b nn:Nat) (D0:DataW Unit) (w:World) (hBm:Bm<w.heap.size) (hks:∀kl,Maps.has D0 kl=true→∃m:M,m.ok=true∧kl=cN m) (hm:w.cell? ⟨Bm,0,none⟩=some (.map (some b))) (hown:w.ownsMap Tryz.prog 78 (plainElem Tryz.prog 99) b nn D0):SeqGives F n Tryz.prog 178 #[.pointer (some ⟨Bm,0,none⟩)] CM (uL D0) (Maps.size D0) w:=fun l J W hW hJ hY h0=>by
 have hown':W.ownsMap Tryz.prog 78 (plainElem Tryz.prog 99) b nn D0:=by have hbl:=hown.lt;obtain⟨es,clock,hb,Ft,hs,hD⟩:=hown;exact⟨es,clock,(hW.block b hbl).trans hb,Ft,hs,hD⟩
 refine(GF h10 hro hn l Bm b nn D0 J hks hY W hJ ((hW.cell (p:=⟨Bm,0,none⟩) hBm).trans hm) hown' h0).mono ?_;rintro e W' ⟨h1,ss,⟨h2,h3,h4⟩,h5,h6⟩;exact⟨h1,ss,⟨h2,h3,h4,h5⟩,h6⟩
theorem IU {F:Fence} {n:Nat} (h7:F.fn 152) (hro:F.round=none) (mb:Option Nat) (w:World):CallsIn F n Tryz.prog 152 #[.map mb] w fun e w'=>e= .returned (.func (.func 178) #[] #[.pointer (some ⟨w.heap.size,0,none⟩)])∧w'=w.alloc (.cells #[.map mb] 100):=by
 refine callsIn_of_wp Tryz.func152 rfl h7 ?_ hro;simp only[Tryz.ntmps152,List.size_toArray,List.length_cons,List.length_nil,Nat.reduceAdd,Nat.reduceSub,Array.replicate_succ,Array.replicate_zero,List.push_toArray,List.append_toArray,List.nil_append,List.cons_append]
 gi_wp2
 go_ret;exact⟨rfl,rfl⟩
def fW (m:M):List Value:=[.int .i64 m.x,.int .i64 m.y,.int .i64 m.d,.int .i64 m.e]
def gR (ss:List M):List Value:=ss.flatMap fW
theorem uV (ss:List M) (x:M):gR (ss++[x])=gR ss++fW x:=by simp[gR]
theorem xG (w:World) (x:M) (t:TypeId):∀j u,(fW x)[j]? =some u→(w.alloc (.cells #[.int .i64 x.x,.int .i64 x.y,.int .i64 x.d,.int .i64 x.e] t)).cell? ((⟨w.heap.size,0,none⟩:Addr).add j)=some u:=by
 have key:∀k:Nat,(w.alloc (.cells #[.int .i64 x.x,.int .i64 x.y,.int .i64 x.d,.int .i64 x.e] t)).cell? ⟨w.heap.size,k,none⟩=(#[Value.int .i64 x.x,.int .i64 x.y,.int .i64 x.d,.int .i64 x.e]:Array Value)[k]? :=fun k=>by unfold World.cell?;simp only[World.alloc_heap_new];rfl
 intro j u h;match j with
 |0=>exact(key 0).trans h
 |1=>exact(key 1).trans h
 |2=>exact(key 2).trans h
 |3=>exact(key 3).trans h
 |k+4=>simp[fW]at h
def nU : Code := Code.region 2 #[{ dst := some 5, op := Op.alloc 78, type := 0, pos := "iter.go:51", after := #[], guard := none }, { dst := none, op := Op.store 78 (Operand.tmp 5) (Operand.tmp 7), type := 0, pos := "iter.go:51", after := #[{ on := 0, ground := Ground.data }, { on := 0, ground := Ground.phase }], guard := none }] false
def uM : Code := Code.block 1 (Code.region 3 #[{ dst := some 8, op := Op.load 146 (Operand.tmp 2), type := 146, pos := "iter.go:52", after := #[], guard := none }, { dst := some 9, op := Op.load 78 (Operand.tmp 5), type := 78, pos := "iter.go:52", after := #[], guard := none }, { dst := some 10, op := Op.buildSlice 146 1 #[(0, Operand.tmp 9)], type := 146, pos := "iter.go:52", after := #[{ on := 1, ground := Ground.data }], guard := none }, { dst := some 11, op := Op.call { callee := Callee.builtin Builtin.append, args := #[Operand.tmp 8, Operand.tmp 10], argTypes := #[146, 146] }, type := 146, pos := "iter.go:52", after := #[{ on := 0, ground := Ground.data }, { on := 2, ground := Ground.data }], guard := none }, { dst := none, op := Op.store 146 (Operand.tmp 2) (Operand.tmp 11), type := 0, pos := "iter.go:52", after := #[{ on := 3, ground := Ground.data }, { on := 3, ground := Ground.chain }, { on := 0, ground := Ground.phase }, { on := 1, ground := Ground.phase }, { on := 2, ground := Ground.phase }, { on := 3, ground := Ground.phase }], guard := none }] false)
def jL (fn:FuncId) (sv:Value) (Bs D:Nat) (st:LoopState) (pend:Option Code):Loop:=
 {state:=st,pending:=pend,fn,tmps:=#[.slice none 0 0,sv,.pointer (some ⟨Bs,0,none⟩),undef,.slice none 0 0,undef,sv,undef,undef,undef,undef,undef,undef],params:=#[7],assign:=nU,body:=uM,defers:=D}
structure yP (w0:World) (fn:FuncId) (sv:Value) (Bs l D:Nat) (ss:List M) (W:World):Prop where
 box:∃v,W.heap[Bs]? =some (.cells #[v] 146 (0,0))∧W.ownsRow w0.heap.size 78 4 v ss.length (gR ss)∧(v= .slice none 0 0↔ss=[])
 L:W.heap[l]? =some (.loop (jL fn sv Bs D .ready none))
 K:W.heap[D]? =some (.deferred (some []))
 below:Below w0.heap.size w0 W
theorem pQ (w0:World) (fn:FuncId) (sv:Value) (Bs l D B:Nat) (hB:w0.heap.size≤B):AbidesFrom B (yP w0 fn sv Bs l D):=fun s W W' row h hg hrow=>by
 have hrow':∀r,row=some r→∃o:Obj,W.heap[r]? =some o∧o.isWalk=true:=fun r e=>(hrow r e).2
 obtain⟨v,hv,hr,hn⟩:=h.box
 exact⟨⟨v,(grownBy_keeps hg hrow' hv rfl).trans hv,ownsRow_abides_a hr hg hrow',hn⟩,(grownBy_keeps hg hrow' h.L rfl).trans h.L,(grownBy_keeps hg hrow' h.K rfl).trans h.K,
  h.below.grown hg h.below.size (fun k e=>gU hB (hrow k e).1)⟩
theorem IOz:(Tryz.prog.info? 78).map (fun i=>(i.zero,i.size,i.bytes))=some (some (.agg #[.int .i64 0,.int .i64 0,.int .i64 0,.int .i64 0]),4,32):=by kernel_rfl
theorem CS      {F : Fence} {m : Nat} (w0 : World) (fn : FuncId) (hfn : F.fn fn) (sv : Value) (Bs l D : Nat) (hBl : Bs ≠ l) (hDl : D ≠ l) (hDB : D ≠ Bs) (h0B : w0.heap.size ≤ Bs) (h0l : w0.heap.size ≤ l)
    (N : Nat) (hN : N ≤ 1000000) (ss : List M) (x : M) (W : World) (h : yP   w0 fn sv Bs l D ss W) (hlen : ss.length < N) :
    YieldAt F m Tryz.prog l #[CM  x] W fun e W' => e = .returned (.bool true) ∧ yP   w0 fn sv Bs l D (ss ++ [x]) W' ∧ KeepsWalks W W' := by
  have hne : (146 : TypeId) ≠ 78 := by decide
  obtain ⟨i0, hi, hz0, hz1, hz2⟩ := info_parts IOz   
  refine ⟨fn, #[.slice none 0 0, sv, .pointer (some ⟨Bs, 0, none⟩), undef, .slice none 0 0, undef, sv, CM  x, undef, undef, undef, undef, undef], nU      , uM    , by simpa [jL   ] using run_yield (P := Tryz.prog) (args := #[CM  x]) h.L rfl, roundIn_of_wpIn hfn ?_⟩
  have hbx : (W.alloc (.cells #[.int .i64 x.x, .int .i64 x.y, .int .i64 x.d, .int .i64 x.e] 78)).heap[W.heap.size]? = some (.cells #[.int .i64 x.x, .int .i64 x.y, .int .i64 x.d, .int .i64 x.e] 78 (0, 0)) := World.alloc_heap_new W _
  have hA := pQ        w0 fn sv Bs l D w0.heap.size (Nat.le_refl _) ss W _ none h (World.grownBy_alloc W (.cells #[.int .i64 x.x, .int .i64 x.y, .int .i64 x.d, .int .i64 x.e] 78) none) (fun r e => by cases e)
  have hlW : l < W.heap.size := (Array.getElem?_eq_some_iff.1 h.L).1
  have hkA : KeepsWalks W (W.alloc (.cells #[.int .i64 x.x, .int .i64 x.y, .int .i64 x.d, .int .i64 x.e] 78)) := KeepsWalks.alloc _ _
  obtain ⟨WA, hWA⟩ : ∃ WA, W.alloc (.cells #[.int .i64 x.x, .int .i64 x.y, .int .i64 x.d, .int .i64 x.e] 78) = WA := ⟨_, rfl⟩
  unfold nU      
  gi_wp2_with gi_round_op_a
  rw [hWA] at hbx hA hkA
  clear hWA
  obtain ⟨v, hv, hrow, _⟩ := hA.box
  have hl : l < WA.heap.size := (Array.getElem?_eq_some_iff.1 hA.L).1
  have hbr := run_beginRound (P := Tryz.prog) hA.L rfl
  obtain ⟨W2, hW2⟩ : ∃ W2, WA.putObj l (.loop { jL    fn sv Bs D .ready none with state := .busy }) = W2 := ⟨_, rfl⟩
  rw [hW2] at hbr
  have hg2 : WA.grownBy W2 (some l) := by rw [← hW2]; exact grownBy_putObj_a _ _ _
  have hk2 : KeepsWalks W W2 := by rw [← hW2]; exact hkA.trans (KeepsWalks.putObj _ hA.L rfl)
  have hx2 : W2.heap[W.heap.size]? = some (.cells #[.int .i64 x.x, .int .i64 x.y, .int .i64 x.d, .int .i64 x.e] 78 (0, 0)) := by rw [← hW2]; exact (World.putObj_heap_other (by omega)).trans hbx
  have hv2 : W2.heap[Bs]? = some (.cells #[v] 146 (0, 0)) := by rw [← hW2]; exact (World.putObj_heap_other hBl).trans hv
  have hK2 : W2.heap[D]? = some (.deferred (some [])) := by rw [← hW2]; exact (World.putObj_heap_other hDl).trans hA.K
  have hL2 : W2.heap[l]? = some (.loop { jL    fn sv Bs D .ready none with state := .busy }) := by rw [← hW2]; exact World.putObj_heap_same hl
  have hrow2 : W2.ownsRow w0.heap.size 78 4 v ss.length (gR    ss) := hrow.kept hg2 (ownsRow_ne_a hrow hA.L (fun cur e => by first | cases e | exact hne (Obj.cells.inj e).2.1))
  have hb2 : Below w0.heap.size w0 W2 := hA.below.grown hg2 hA.below.size (fun k e => by cases e; exact h0l)
  obtain ⟨hc2, hf2⟩ := cell_of_box_a hv2
  have hx20 : W2.cell? ⟨W.heap.size, 0, none⟩ = some (.int .i64 x.x) := by unfold World.cell?; simp only [hx2]; rfl
  have hx21 : W2.cell? ⟨W.heap.size, 1, none⟩ = some (.int .i64 x.y) := by unfold World.cell?; simp only [hx2]; rfl
  have hx22 : W2.cell? ⟨W.heap.size, 2, none⟩ = some (.int .i64 x.d) := by unfold World.cell?; simp only [hx2]; rfl
  have hx23 : W2.cell? ⟨W.heap.size, 3, none⟩ = some (.int .i64 x.e) := by unfold World.cell?; simp only [hx2]; rfl
  have hBlt : Bs < W2.heap.size := (Array.getElem?_eq_some_iff.1 hv2).1
  have hl2 : l < W2.heap.size := (Array.getElem?_eq_some_iff.1 hL2).1
  have hDlt : D < W2.heap.size := (Array.getElem?_eq_some_iff.1 hK2).1
  have ne_of : ∀ {j : Nat} {o : Obj}, W2.heap[j]? = some o → (∀ cur, o ≠ .cells cur 78 (0, 0)) → some j ≠ v.ownBlock := fun hj hno => by
    rcases ownsRow_ne_a hrow2 hj hno with e | e
    · rw [e]; simp
    · exact fun e' => e e'.symm
  clear hW2
  refine ⟨W2, hbr, ?_⟩
  unfold uM    
  gi_wp2_with (first
    | (gi_at_builtin; refine wpListIn_append_own _ rfl _ _ 146 rfl w0.heap.size 78 i0 (.agg #[.int .i64 0, .int .i64 0, .int .i64 0, .int .i64 0]) 4 32 Tryz.underlying146 hi hz0 hz1 hz2 rfl (by decide) _ _ _ rfl (hrow2.alloc _) ⟨W2.heap.size, 0, none⟩ 1 1 (fW     x) rfl rfl (xG        _ _ _) (by simp [fW    , Value.oneCell']) (by simp only [maxLen]; omega) (by omega) (by have := hb2.size; simp; omega) ?_; intro v' w3 hown' hg3 hnil3
       have hv3 : w3.heap[Bs]? = some (.cells #[v] 146 (0, 0)) := (hg3.block Bs (by simp; omega) (ne_of hv2 (fun cur e => by first | cases e | exact hne (Obj.cells.inj e).2.1))).trans ((Below.heap_alloc _ _ Bs hBlt).trans hv2)
       obtain ⟨hc3, hf3⟩ := cell_of_box_a hv3
       obtain ⟨g', cap', cur', rfl, hbase', hgb', hr1, hr2, hr3, hr4⟩ : ∃ g' cap' cur', v' = .slice (some ⟨g', 0, none⟩) (ss.length + 1) cap' ∧ w0.heap.size ≤ g' ∧ w3.heap[g']? = some (.cells cur' 78 (0, 0)) ∧ ss.length + 1 ≤ cap' ∧ cap' ≤ maxLen ∧ cur'.size = cap' * 4 ∧ cur'.toList.take ((ss.length + 1) * 4) = gR    ss ++ fW     x := by
         rcases hown'.2 with ⟨_, h0⟩ | h'
         · exact absurd h0 (by omega)
         · exact h'
       go_frame)
    | gi_round_op_a)
  have hg3' : (W2.alloc (.cells #[.int .i64 x.x, .int .i64 x.y, .int .i64 x.d, .int .i64 x.e] 78)).grownBy w3 v.ownBlock := hg3
  have hL3 : w3.heap[l]? = some (.loop { jL    fn sv Bs D .ready none with state := .busy }) := (hg3'.block l (by simp; omega) (ne_of hL2 (fun cur e => by first | cases e | exact hne (Obj.cells.inj e).2.1))).trans ((Below.heap_alloc _ _ l hl2).trans hL2)
  have hK3 : w3.heap[D]? = some (.deferred (some [])) := (hg3'.block D (by simp; omega) (ne_of hK2 (fun cur e => by first | cases e | exact hne (Obj.cells.inj e).2.1))).trans ((Below.heap_alloc _ _ D hDlt).trans hK2)
  obtain ⟨w4, hw4⟩ : ∃ w4, w3.setCell ⟨Bs, 0, none⟩ (.slice (some ⟨g', 0, none⟩) (ss.length + 1) cap') = w4 := ⟨_, rfl⟩
  rw [hw4]
  have hg4 : w3.grownBy w4 (some Bs) := by rw [← hw4]; exact grownBy_setCell0_a _ _ _
  have hv4 : w4.heap[Bs]? = some (.cells #[.slice (some ⟨g', 0, none⟩) (ss.length + 1) cap'] 146 (0, 0)) := by rw [← hw4]; exact heap_setCell_box_a _ hv3
  have hL4 : w4.heap[l]? = some (.loop { jL    fn sv Bs D .ready none with state := .busy }) := (hg4.block l (Array.getElem?_eq_some_iff.1 hL3).1 (fun e => hBl (by cases e; rfl))).trans hL3
  have hK4 : w4.heap[D]? = some (.deferred (some [])) := (hg4.block D (Array.getElem?_eq_some_iff.1 hK3).1 (fun e => hDB (by cases e; rfl))).trans hK3
  have hrow4 := hown'.kept hg4 (ownsRow_ne_a hown' hv3 (fun cur e => by first | cases e | exact hne (Obj.cells.inj e).2.1))
  have hl4 : l < w4.heap.size := (Array.getElem?_eq_some_iff.1 hL4).1
  have hb3 : Below w0.heap.size w0 w3 := (hb2.alloc hb2.size _).grown hg3' (by have := hb2.size; simp; omega) (fun k e => (hrow2.lt k e).1)
  have hb4 : Below w0.heap.size w0 w4 := hb3.grown hg4 hb3.size (fun k e => by cases e; exact h0B)
  have hk4 : KeepsWalks W w4 := ((hk2.trans (KeepsWalks.alloc _ _)).trans (KeepsWalks.of_grownBy hg3' (ownsRow_not_walk_a (hrow2.alloc _)))).trans (by rw [← hw4]; exact KeepsWalks.setCell _ _ _)
  clear hw4
  refine ⟨_, _, run_endRound none hL4, rfl, ⟨⟨_, (World.putObj_heap_other hBl).trans hv4, ?_, by simp⟩, World.putObj_heap_same hl4, (World.putObj_heap_other hDl).trans hK4, hb4.grown (grownBy_putObj_a _ _ _) hb4.size (fun k e => by cases e; exact h0l)⟩, hk4.trans (KeepsWalks.putObj _ hL4 rfl)⟩
  have := hrow4.kept (grownBy_putObj_a w4 l (.loop { { jL    fn sv Bs D .ready none with state := .busy } with state := if (none : Option Code).isNone then .ready else .done, pending := none })) (ownsRow_ne_a hrow4 hL4 (fun cur e => by first | cases e | exact hne (Obj.cells.inj e).2.1))
  rw [uV        ]
  simpa using this
theorem uN {F:Fence} {n:Nat} (h11:F.fn 197) (hro:F.round=none) (hn:2≤n) (g:Nat) (lb:Array Value) (hFg:F.fn g) (eg:∀args w,(callFunc g args).run Tryz.prog w= .ok (.enter g args) w) (S:List M→Prop) (N:Nat) (hN:N≤1000000) (w:World) (hseq:SeqGives F (n-1) Tryz.prog g lb CM S N w):CallsIn F n Tryz.prog 197 #[.slice none 0 0,.func (.func g) #[] lb] w fun e w'=>∃(v:Value) (ss:List M),e= .returned v∧S ss∧w'.ownsRow w.heap.size 78 4 v ss.length (gR ss)∧(v= .slice none 0 0↔ss=[])∧Below w.heap.size w w':=by
 have h1:1≤n:=by omega
 have hne:(146:TypeId)≠78:=by decide
 refine callsIn_of_wp_marks Tryz.func197 rfl h11 ?_ hro;simp only[Tryz.ntmps197,List.size_toArray,List.length_cons,List.length_nil,Nat.reduceAdd,Nat.reduceSub,Array.replicate_succ,Array.replicate_zero,List.push_toArray,List.append_toArray,List.nil_append,List.cons_append]
 gi_wp2
 refine wpIn_rangeFunc ?_;intro fn hfn;rw[hro];obtain⟨W0,hW0⟩:∃W0,w.alloc (.cells #[.slice none 0 0] 146)=W0:=⟨_,rfl⟩
 have hs0:W0.heap.size=w.heap.size+1:=by rw[←hW0];simp
 have hv0:W0.heap[w.heap.size]? =some (.cells #[.slice none 0 0] 146 (0,0)):=by rw[←hW0];exact World.alloc_heap_new w _
 have hb0:Below w.heap.size w W0:=by rw[←hW0];exact(aD _ w).alloc (Nat.le_refl _) _
 rw[hW0];obtain⟨W1,hW1⟩:∃W1,(W0.alloc (.deferred (some []))).alloc (.loop (jL fn (.func (.func g) #[] lb) w.heap.size W0.heap.size .ready none))=W1:=⟨_,rfl⟩
 have hold:∀k,k<W0.heap.size→W1.heap[k]? =W0.heap[k]? :=fun k hk=>by rw[←hW1];exact(Below.heap_alloc _ _ k (by simp;omega)).trans (Below.heap_alloc _ _ k hk)
 have hb1:Below w.heap.size w W1:=by rw[←hW1];exact(hb0.alloc hb0.size _).alloc (by have:=hb0.size;simp;omega) _
 have hs1:W1.heap.size=W0.heap.size+2:=by rw[←hW1];simp
 have hM:yP w fn (.func (.func g) #[] lb) w.heap.size (W0.heap.size+1) W0.heap.size [] W1:=
  ⟨⟨_,(hold w.heap.size (by omega)).trans hv0,⟨rfl,.inl ⟨rfl,rfl⟩⟩,by simp⟩,
   by rw[←hW1];have:=World.alloc_heap_new (W0.alloc (.deferred (some []))) (.loop (jL fn (.func (.func g) #[] lb) w.heap.size W0.heap.size .ready none));rwa[World.size_alloc]at this,
   by rw[←hW1];exact(Below.heap_alloc _ _ _ (by simp)).trans (World.alloc_heap_new W0 _),hb1⟩
 refine⟨W0.heap.size+1,[{target:=.collected W0.heap.size,args:=#[]}],W1,{target:=.fn (.func g) lb,args:=#[.func (.yield (W0.heap.size+1)) #[] #[]]},W1,g,
  #[.func (.yield (W0.heap.size+1)) #[] #[]]++lb,W1,?_,?_,?_,?_,fun _=>h1,?_⟩
 ·rw[←hW1];exact run_enterLoop_outer _ _ _ _ _
 ·simp[resolve,go_sem]
 ·intro f' hf';simp[Target.leads]at hf';subst hf';exact hFg
 ·simp[invoke,go_sem,eg]
 ·refine(hseq (W0.heap.size+1) (yP w fn (.func (.func g) #[] lb) w.heap.size (W0.heap.size+1) W0.heap.size) W1 hb1 (pQ _ _ _ _ _ _ _ hb1.size)
   (fun pre x W hJ hl=>CS w fn hfn _ w.heap.size (W0.heap.size+1) W0.heap.size (by omega) (by omega) (by omega) (Nat.le_refl _) (by omega) N hN pre x W hJ hl) hM).mono ?_
  rintro e W2 ⟨⟨v0,rfl⟩,ss,hS,h2⟩;obtain⟨v,hv,hrow,hnil⟩:=h2.box;have hend:=run_endLoop (P:=Tryz.prog) h2.L (by simp[jL])
  obtain⟨W3,hW3⟩:∃W3,W2.putObj (W0.heap.size+1) (.loop {jL fn (.func (.func g) #[] lb) w.heap.size W0.heap.size .ready none with state:=.exhausted})=W3:=⟨_,rfl⟩
  rw[hW3]at hend;have hg3:W2.grownBy W3 (some (W0.heap.size+1)):=by rw[←hW3];exact grownBy_putObj_a _ _ _
  have hv3:W3.heap[w.heap.size]? =some (.cells #[v] 146 (0,0)):=by rw[←hW3];exact(World.putObj_heap_other (by omega)).trans hv
  have hK3:W3.heap[W0.heap.size]? =some (.deferred (some [])):=by rw[←hW3];exact(World.putObj_heap_other (by omega)).trans h2.K
  have hrow3:=hrow.kept hg3 (ownsRow_ne_a hrow h2.L (fun cur e=>by first|cases e|exact hne (Obj.cells.inj e).2.1));have hb3:Below w.heap.size w W3:=h2.below.grown hg3 h2.below.size (fun k e=>by cases e;omega)
  obtain⟨hc3,hf3⟩:=cell_of_box_a hv3;clear hW3;refine⟨none,W3,hend,?_⟩
  gi_wp2
  rw[←hs0];refine⟨by simp,.inl ⟨_,_,rfl,run_takeDeferred hK3,?_⟩⟩;exact⟨_,results_tmp rfl _ _ _,v,ss,rfl,hS,hrow3.kept (grownBy_putObj_a _ _ _) (ownsRow_ne_a hrow3 hK3 (fun cur e=>by first|cases e|exact hne (Obj.cells.inj e).2.1)),hnil,hb3.grown (grownBy_putObj_a _ _ _) hb3.size (fun k e=>by cases e;omega)⟩
theorem zJ {F:Fence} {n:Nat} (h8:F.fn 176) (h11:F.fn 197) (hro:F.round=none) (hn:3≤n) (g:Nat) (lb:Array Value) (hFg:F.fn g) (eg:∀args w,(callFunc g args).run Tryz.prog w= .ok (.enter g args) w) (S:List M→Prop) (N:Nat) (hN:N≤1000000) (w:World) (hseq:SeqGives F (n-1-1) Tryz.prog g lb CM S N w):CallsIn F n Tryz.prog 176 #[.func (.func g) #[] lb] w fun e w'=>∃(v:Value) (ss:List M),e= .returned v∧S ss∧w'.ownsRow w.heap.size 78 4 v ss.length (gR ss)∧(v= .slice none 0 0↔ss=[])∧Below w.heap.size w w':=by
 have h1:1≤n:=by omega
 refine callsIn_of_wp Tryz.func176 rfl h8 ?_ hro;simp only[Tryz.ntmps176,List.size_toArray,List.length_cons,List.length_nil,Nat.reduceAdd,Nat.reduceSub,Array.replicate_succ,Array.replicate_zero,List.push_toArray,List.append_toArray,List.nil_append,List.cons_append]
 gi_wp2
 refine(uN h11 hro (by omega) g lb hFg eg S N hN _ hseq).mono ?_;rintro e w' ⟨v,ss,rfl,hS,hrow,hnil,hb⟩
 gi_wp2
 go_ret;exact⟨v,ss,rfl,hS,hrow,hnil,hb⟩
end Go.Proofs.YtoglomfejgpoeaaGreatDoor
