/-
  maps.Keys over a sum's map: its monomials come, each once, in some order.
-/
import Derived.Test.YtelkehjdfcoeiaaGreatNah
import Derived.RangeFuncSeq
import Derived.RangeFuncGives
import Derived.Sort.MapsRangeIn
import Derived.Sort.KeysCollected
import Derived.Shelf.AbstractIn
import Derived.OwnWalkIn
import Derived.TacticsInMore
import Derived.RegionIn
import Derived.LoopNIn
import Derived.LoopIn
import Derived.Shelf.SlIter.Collect
set_option maxHeartbeats 2000000
set_option maxRecDepth 100000
namespace Go.Proofs.YtelkehjdfcoeiaaGreat
open Go.RowKit Go.Maps Go.Sort
set_option linter.unusedVariables false
abbrev KW (m:M):Value:=.agg #[.int .i64 m.x,.int .i64 m.y,.int .i64 m.d,.int .i64 m.e]
def jZ (D0:DataW Unit) (left:Lit→Bool) (ss:List M):Prop:=ss.Nodup∧(∀m∈ss,m.ok=true)∧∀m:M,m.ok=true→(m∈ss↔(Maps.has D0 (cY m)=true∧left (cY m)=false))
theorem jZ.start (D0:DataW Unit):jZ D0 (Maps.has D0) []:=⟨List.nodup_nil,fun m h=>by simp at h,fun m hm=>by cases Maps.has D0 (cY m)<;>simp⟩
theorem yE {a b:M}:(cY a).sameKey (cY b)=true↔cY a=cY b:=by simp[cY,Lit.sameKey]
theorem jZ.step {D0:DataW Unit} {left:Lit→Bool} {ss:List M} (h:jZ D0 left ss) {x:M} (hx:x.ok=true) {y:DataW Unit} (hlk:left (cY x)=true) (hat:∀zd,D0.atKey (cY x) zd=y):jZ D0 (fun z=>left z&& !z.sameKey (cY x)) (ss++[x]):=by
 have hhas:Maps.has D0 (cY x)=true:=has_true_of_atKey hat;have hnew:x∉ss:=fun hx'=>by have:=((h.2.2 x hx).1 hx').2;rw[hlk]at this;cases this
 refine⟨List.nodup_append.2 ⟨h.1,by simp,fun a ha b hb=>by simp at hb;subst hb;exact fun e=>hnew (e▸ha)⟩,fun m hm=>?_,fun m hm=>?_⟩
 ·rcases List.mem_append.1 hm with h1|h1
  ·exact h.2.1 m h1
  ·simp at h1;rw[h1];exact hx
 ·by_cases hy:m=x
  ·subst hy;have:(cY m).sameKey (cY m)=true:=yE.2 rfl
   simp[hhas,this]
  ·have hne:(cY m).sameKey (cY x)=false:=by
    cases hb:(cY m).sameKey (cY x)with
    |false=>rfl
    |true=>exact absurd (rF hm hx (yE.1 hb)) hy
   simp[h.2.2 m hm,hy,hne]
theorem XR {F:Fence} {n:Nat} (h10:F.fn 179) (hro:F.round=none) (hn:1≤n) (l Bm b nn:Nat) (D0:DataW Unit) (J:List M→World→Prop) (hks:∀kl,Maps.has D0 kl=true→∃m:M,m.ok=true∧kl=cY m) (hY:∀pre x W,J pre W→pre.length<Maps.size D0→YieldAt F (n-1) Tryz.prog l #[KW x] W fun e W'=>e= .returned (.bool true)∧J (pre++[x]) W'∧KeepsWalks W W') (W:World) (hJ:AbidesFrom W.heap.size J) (hm:W.cell? ⟨Bm,0,none⟩=some (.map (some b))) (hown:W.ownsMap Tryz.prog 84 (plainElem Tryz.prog 131) b nn D0) (h0:J [] W):CallsIn F n Tryz.prog 179 #[.func (.yield l) #[] #[],.pointer (some ⟨Bm,0,none⟩)] W fun e W'=>(∃v,e= .returned v)∧∃ss:List M,(ss.Nodup∧(∀m∈ss,m.ok=true)∧∀m:M,m.ok=true→(m∈ss↔Maps.has D0 (cY m)=true))∧ss.length≤Maps.size D0∧J ss W':=by
 refine callsIn_of_wp Tryz.func179 rfl h10 ?_ hro;simp only[Tryz.ntmps179,List.size_toArray,List.length_cons,List.length_nil,Nat.reduceAdd,Nat.reduceSub,Array.replicate_succ,Array.replicate_zero,List.push_toArray,List.append_toArray,List.nil_append,List.cons_append]
 gi_wp2_with (first
  |(gi_at_range;refine wpListIn_range_own _ rfl _ 94 rfl 84 131 jK Tryz.underlying94 _ b nn _ rfl hown ?_;intro w0 hrg0 hg0 hs0)
  |gi_in)
 go_frame
 gi_loopw [3] (fun _ wr=>∃(left:Lit→Bool) (uY:Nat) (ss:List M),wr.ranges Tryz.prog 84 (plainElem Tryz.prog 131) b W.heap.size nn D0 left uY∧ss.length+uY≤Maps.size D0∧jZ D0 left ss∧J ss wr)
  (fun _ wr=>wr.rangeLeft b W.heap.size)
 case atStart=>
  exact⟨_,_,[],hrg0,by simp,jZ.start D0,hJ [] W w0 none h0 hg0 (fun r e=>by cases e)⟩
 case round=>
  obtain⟨left,uY,ss,hrg,hcs,hC,hJs⟩:=hrel
  gi_wp2_with (first
   |(gi_at_next;refine wpListIn_next_ranges _ rfl _ rfl 84 jK (plainElem Tryz.prog 131) (id:Value→Value) id (fun key kl hk=>⟨key,rfl⟩) (fun v _ _=>⟨v,rfl⟩) b W.heap.size nn _ _ _ rfl hrg ?_ ?_)
   |gi_in)
  ·intro hc0 hl0
   gi_wp2
   go_end0
   exact⟨⟨_,rfl⟩,ss,⟨hC.1,hC.2.1,fun m hm=>by rw[hC.2.2 m hm,hl0];simp⟩,by omega,hJs⟩
  ·intro x c kl yd yp w2 cnt2 hkey hlk hv hat hrg2 hlt hg2 hs2 hen;obtain⟨m,hmo,rfl⟩:=hks kl (has_true_of_atKey hat);obtain rfl:x=KW m:=jK.inj hkey (lJ hmo);have hJ2:J ss w2:=hJ ss wr w2 (some W.heap.size) hJs hg2 (fun r e=>by cases e;exact⟨Nat.le_refl _,hrg.iter_walk⟩)
   have hJ3:=hJ ss w2 _ none hJ2 (World.grownBy_alloc w2 (.cells #[.int .i64 m.x,.int .i64 m.y,.int .i64 m.d,.int .i64 m.e] 84) none) (fun r e=>by cases e);have hrg2':=hrg2.of_walks (KeepsWalks.alloc w2 (.cells #[.int .i64 m.x,.int .i64 m.y,.int .i64 m.d,.int .i64 m.e] 84))
   have hlt':(w2.alloc (.cells #[.int .i64 m.x,.int .i64 m.y,.int .i64 m.d,.int .i64 m.e] 84)).rangeLeft b W.heap.size=cnt2:=hrg2'.left_eq;obtain⟨fn,tmps,assign,body,hy,hR⟩:=hY ss m _ hJ3 (by omega);clear hs2
   gi_wp2
   refine hR.mono ?_;rintro e W3 ⟨rfl,hJ4,hk3⟩
   gi_wp2
   have hrg3:=hrg2'.of_walks hk3;go_roundw;case rel=>exact⟨_,cnt2,ss++[m],hrg3,by simp;omega,hC.step hmo hlk hat,hJ4⟩
   case measure=>rw[hrg3.left_eq,hrg.left_eq];exact hlt
def FD (D0:DataW Unit) (ss:List M):Prop:=ss.Nodup∧(∀m∈ss,m.ok=true)∧(∀m:M,m.ok=true→(m∈ss↔Maps.has D0 (cY m)=true))∧ss.length≤Maps.size D0
theorem LI {F:Fence} {n:Nat} (h10:F.fn 179) (hro:F.round=none) (hn:1≤n) (Bm b nn:Nat) (D0:DataW Unit) (w:World) (hBm:Bm<w.heap.size) (hks:∀kl,Maps.has D0 kl=true→∃m:M,m.ok=true∧kl=cY m) (hm:w.cell? ⟨Bm,0,none⟩=some (.map (some b))) (hown:w.ownsMap Tryz.prog 84 (plainElem Tryz.prog 131) b nn D0):SeqGives F n Tryz.prog 179 #[.pointer (some ⟨Bm,0,none⟩)] KW (FD D0) (Maps.size D0) w:=fun l J W hW hJ hY h0=>by
 have hown':W.ownsMap Tryz.prog 84 (plainElem Tryz.prog 131) b nn D0:=by have hbl:=hown.lt;obtain⟨es,clock,hb,Ft,hs,hD⟩:=hown;exact⟨es,clock,(hW.block b hbl).trans hb,Ft,hs,hD⟩
 refine(XR h10 hro hn l Bm b nn D0 J hks hY W hJ ((hW.cell (p:=⟨Bm,0,none⟩) hBm).trans hm) hown' h0).mono ?_;rintro e W' ⟨h1,ss,⟨h2,h3,h4⟩,h5,h6⟩;exact⟨h1,ss,⟨h2,h3,h4,h5⟩,h6⟩
theorem Aa {F:Fence} {n:Nat} (h7:F.fn 150) (hro:F.round=none) (mb:Option Nat) (w:World):CallsIn F n Tryz.prog 150 #[.map mb] w fun e w'=>e= .returned (.func (.func 179) #[] #[.pointer (some ⟨w.heap.size,0,none⟩)])∧w'=w.alloc (.cells #[.map mb] 94):=by
 refine callsIn_of_wp Tryz.func150 rfl h7 ?_ hro;simp only[Tryz.ntmps150,List.size_toArray,List.length_cons,List.length_nil,Nat.reduceAdd,Nat.reduceSub,Array.replicate_succ,Array.replicate_zero,List.push_toArray,List.append_toArray,List.nil_append,List.cons_append]
 gi_wp2
 go_ret;exact⟨rfl,rfl⟩
def jB (m:M):List Value:=[.int .i64 m.x,.int .i64 m.y,.int .i64 m.d,.int .i64 m.e]
def kF (ss:List M):List Value:=ss.flatMap jB
theorem FL (ss:List M) (x:M):kF (ss++[x])=kF ss++jB x:=by simp[kF]
theorem KQ (w:World) (x:M) (t:TypeId):∀j u,(jB x)[j]? =some u→(w.alloc (.cells #[.int .i64 x.x,.int .i64 x.y,.int .i64 x.d,.int .i64 x.e] t)).cell? ((⟨w.heap.size,0,none⟩:Addr).add j)=some u:=by
 have key:∀k:Nat,(w.alloc (.cells #[.int .i64 x.x,.int .i64 x.y,.int .i64 x.d,.int .i64 x.e] t)).cell? ⟨w.heap.size,k,none⟩=(#[Value.int .i64 x.x,.int .i64 x.y,.int .i64 x.d,.int .i64 x.e]:Array Value)[k]? :=fun k=>by unfold World.cell?;simp only[World.alloc_heap_new];rfl
 intro j u h;match j with
 |0=>exact(key 0).trans h
 |1=>exact(key 1).trans h
 |2=>exact(key 2).trans h
 |3=>exact(key 3).trans h
 |k+4=>simp[jB]at h
def uW : Code := Code.region 2 #[{ dst := some 5, op := Op.alloc 84, type := 0, pos := "iter.go:51", after := #[], guard := none }, { dst := none, op := Op.store 84 (Operand.tmp 5) (Operand.tmp 7), type := 0, pos := "iter.go:51", after := #[{ on := 0, ground := Ground.data }, { on := 0, ground := Ground.phase }], guard := none }] false
def FF : Code := Code.block 1 (Code.region 3 #[{ dst := some 8, op := Op.load 151 (Operand.tmp 2), type := 151, pos := "iter.go:52", after := #[], guard := none }, { dst := some 9, op := Op.load 84 (Operand.tmp 5), type := 84, pos := "iter.go:52", after := #[], guard := none }, { dst := some 10, op := Op.buildSlice 151 1 #[(0, Operand.tmp 9)], type := 151, pos := "iter.go:52", after := #[{ on := 1, ground := Ground.data }], guard := none }, { dst := some 11, op := Op.call { callee := Callee.builtin Builtin.append, args := #[Operand.tmp 8, Operand.tmp 10], argTypes := #[151, 151] }, type := 151, pos := "iter.go:52", after := #[{ on := 0, ground := Ground.data }, { on := 2, ground := Ground.data }], guard := none }, { dst := none, op := Op.store 151 (Operand.tmp 2) (Operand.tmp 11), type := 0, pos := "iter.go:52", after := #[{ on := 3, ground := Ground.data }, { on := 3, ground := Ground.chain }, { on := 0, ground := Ground.phase }, { on := 1, ground := Ground.phase }, { on := 2, ground := Ground.phase }, { on := 3, ground := Ground.phase }], guard := none }] false)
def nO (fn:FuncId) (sv:Value) (Bs D:Nat) (st:LoopState) (pend:Option Code):Loop:=
 {state:=st,pending:=pend,fn,tmps:=#[.slice none 0 0,sv,.pointer (some ⟨Bs,0,none⟩),undef,.slice none 0 0,undef,sv,undef,undef,undef,undef,undef,undef],params:=#[7],assign:=uW,body:=FF,defers:=D}
structure MY (w0:World) (fn:FuncId) (sv:Value) (Bs l D:Nat) (ss:List M) (W:World):Prop where
 box:∃v,W.heap[Bs]? =some (.cells #[v] 151 (0,0))∧W.ownsRow w0.heap.size 84 4 v ss.length (kF ss)∧(v= .slice none 0 0↔ss=[])
 L:W.heap[l]? =some (.loop (nO fn sv Bs D .ready none))
 K:W.heap[D]? =some (.deferred (some []))
 below:Below w0.heap.size w0 W
theorem xQ (w0:World) (fn:FuncId) (sv:Value) (Bs l D B:Nat) (hB:w0.heap.size≤B):AbidesFrom B (MY w0 fn sv Bs l D):=fun s W W' row h hg hrow=>by
 have hrow':∀r,row=some r→∃o:Obj,W.heap[r]? =some o∧o.isWalk=true:=fun r e=>(hrow r e).2
 obtain⟨v,hv,hr,hn⟩:=h.box
 exact⟨⟨v,(grownBy_keeps hg hrow' hv rfl).trans hv,ownsRow_abides_a hr hg hrow',hn⟩,(grownBy_keeps hg hrow' h.L rfl).trans h.L,(grownBy_keeps hg hrow' h.K rfl).trans h.K,
  h.below.grown hg h.below.size (fun k e=>gW hB (hrow k e).1)⟩
theorem ZW:(Tryz.prog.info? 84).map (fun i=>(i.zero,i.size,i.bytes))=some (some (.agg #[.int .i64 0,.int .i64 0,.int .i64 0,.int .i64 0]),4,32):=by kernel_rfl
theorem TB      {F : Fence} {m : Nat} (w0 : World) (fn : FuncId) (hfn : F.fn fn) (sv : Value) (Bs l D : Nat) (hBl : Bs ≠ l) (hDl : D ≠ l) (hDB : D ≠ Bs) (h0B : w0.heap.size ≤ Bs) (h0l : w0.heap.size ≤ l)
    (N : Nat) (hN : N ≤ 1000000) (ss : List M) (x : M) (W : World) (h : MY   w0 fn sv Bs l D ss W) (hlen : ss.length < N) :
    YieldAt F m Tryz.prog l #[KW  x] W fun e W' => e = .returned (.bool true) ∧ MY   w0 fn sv Bs l D (ss ++ [x]) W' ∧ KeepsWalks W W' := by
  have hne : (151 : TypeId) ≠ 84 := by decide
  obtain ⟨i0, hi, hz0, hz1, hz2⟩ := info_parts ZW   
  refine ⟨fn, #[.slice none 0 0, sv, .pointer (some ⟨Bs, 0, none⟩), undef, .slice none 0 0, undef, sv, KW  x, undef, undef, undef, undef, undef], uW      , FF    , by simpa [nO   ] using run_yield (P := Tryz.prog) (args := #[KW  x]) h.L rfl, roundIn_of_wpIn hfn ?_⟩
  have hbx : (W.alloc (.cells #[.int .i64 x.x, .int .i64 x.y, .int .i64 x.d, .int .i64 x.e] 84)).heap[W.heap.size]? = some (.cells #[.int .i64 x.x, .int .i64 x.y, .int .i64 x.d, .int .i64 x.e] 84 (0, 0)) := World.alloc_heap_new W _
  have hA := xQ        w0 fn sv Bs l D w0.heap.size (Nat.le_refl _) ss W _ none h (World.grownBy_alloc W (.cells #[.int .i64 x.x, .int .i64 x.y, .int .i64 x.d, .int .i64 x.e] 84) none) (fun r e => by cases e)
  have hlW : l < W.heap.size := (Array.getElem?_eq_some_iff.1 h.L).1
  have hkA : KeepsWalks W (W.alloc (.cells #[.int .i64 x.x, .int .i64 x.y, .int .i64 x.d, .int .i64 x.e] 84)) := KeepsWalks.alloc _ _
  obtain ⟨WA, hWA⟩ : ∃ WA, W.alloc (.cells #[.int .i64 x.x, .int .i64 x.y, .int .i64 x.d, .int .i64 x.e] 84) = WA := ⟨_, rfl⟩
  unfold uW      
  gi_wp2_with gi_round_op_a
  rw [hWA] at hbx hA hkA
  clear hWA
  obtain ⟨v, hv, hrow, _⟩ := hA.box
  have hl : l < WA.heap.size := (Array.getElem?_eq_some_iff.1 hA.L).1
  have hbr := run_beginRound (P := Tryz.prog) hA.L rfl
  obtain ⟨W2, hW2⟩ : ∃ W2, WA.putObj l (.loop { nO    fn sv Bs D .ready none with state := .busy }) = W2 := ⟨_, rfl⟩
  rw [hW2] at hbr
  have hg2 : WA.grownBy W2 (some l) := by rw [← hW2]; exact grownBy_putObj_a _ _ _
  have hk2 : KeepsWalks W W2 := by rw [← hW2]; exact hkA.trans (KeepsWalks.putObj _ hA.L rfl)
  have hx2 : W2.heap[W.heap.size]? = some (.cells #[.int .i64 x.x, .int .i64 x.y, .int .i64 x.d, .int .i64 x.e] 84 (0, 0)) := by rw [← hW2]; exact (World.putObj_heap_other (by omega)).trans hbx
  have hv2 : W2.heap[Bs]? = some (.cells #[v] 151 (0, 0)) := by rw [← hW2]; exact (World.putObj_heap_other hBl).trans hv
  have hK2 : W2.heap[D]? = some (.deferred (some [])) := by rw [← hW2]; exact (World.putObj_heap_other hDl).trans hA.K
  have hL2 : W2.heap[l]? = some (.loop { nO    fn sv Bs D .ready none with state := .busy }) := by rw [← hW2]; exact World.putObj_heap_same hl
  have hrow2 : W2.ownsRow w0.heap.size 84 4 v ss.length (kF    ss) := hrow.kept hg2 (ownsRow_ne_a hrow hA.L (fun cur e => by first | cases e | exact hne (Obj.cells.inj e).2.1))
  have hb2 : Below w0.heap.size w0 W2 := hA.below.grown hg2 hA.below.size (fun k e => by cases e; exact h0l)
  obtain ⟨hc2, hf2⟩ := cell_of_box_a hv2
  have hx20 : W2.cell? ⟨W.heap.size, 0, none⟩ = some (.int .i64 x.x) := by unfold World.cell?; simp only [hx2]; rfl
  have hx21 : W2.cell? ⟨W.heap.size, 1, none⟩ = some (.int .i64 x.y) := by unfold World.cell?; simp only [hx2]; rfl
  have hx22 : W2.cell? ⟨W.heap.size, 2, none⟩ = some (.int .i64 x.d) := by unfold World.cell?; simp only [hx2]; rfl
  have hx23 : W2.cell? ⟨W.heap.size, 3, none⟩ = some (.int .i64 x.e) := by unfold World.cell?; simp only [hx2]; rfl
  have hBlt : Bs < W2.heap.size := (Array.getElem?_eq_some_iff.1 hv2).1
  have hl2 : l < W2.heap.size := (Array.getElem?_eq_some_iff.1 hL2).1
  have hDlt : D < W2.heap.size := (Array.getElem?_eq_some_iff.1 hK2).1
  have ne_of : ∀ {j : Nat} {o : Obj}, W2.heap[j]? = some o → (∀ cur, o ≠ .cells cur 84 (0, 0)) → some j ≠ v.ownBlock := fun hj hno => by
    rcases ownsRow_ne_a hrow2 hj hno with e | e
    · rw [e]; simp
    · exact fun e' => e e'.symm
  clear hW2
  refine ⟨W2, hbr, ?_⟩
  unfold FF    
  gi_wp2_with (first
    | (gi_at_builtin; refine wpListIn_append_own _ rfl _ _ 151 rfl w0.heap.size 84 i0 (.agg #[.int .i64 0, .int .i64 0, .int .i64 0, .int .i64 0]) 4 32 Tryz.underlying151 hi hz0 hz1 hz2 rfl (by decide) _ _ _ rfl (hrow2.alloc _) ⟨W2.heap.size, 0, none⟩ 1 1 (jB     x) rfl rfl (KQ        _ _ _) (by simp [jB    , Value.oneCell']) (by simp only [maxLen]; omega) (by omega) (by have := hb2.size; simp; omega) ?_; intro v' w3 hown' hg3 hnil3
       have hv3 : w3.heap[Bs]? = some (.cells #[v] 151 (0, 0)) := (hg3.block Bs (by simp; omega) (ne_of hv2 (fun cur e => by first | cases e | exact hne (Obj.cells.inj e).2.1))).trans ((Below.heap_alloc _ _ Bs hBlt).trans hv2)
       obtain ⟨hc3, hf3⟩ := cell_of_box_a hv3
       obtain ⟨g', cap', cur', rfl, hbase', hgb', hr1, hr2, hr3, hr4⟩ : ∃ g' cap' cur', v' = .slice (some ⟨g', 0, none⟩) (ss.length + 1) cap' ∧ w0.heap.size ≤ g' ∧ w3.heap[g']? = some (.cells cur' 84 (0, 0)) ∧ ss.length + 1 ≤ cap' ∧ cap' ≤ maxLen ∧ cur'.size = cap' * 4 ∧ cur'.toList.take ((ss.length + 1) * 4) = kF    ss ++ jB     x := by
         rcases hown'.2 with ⟨_, h0⟩ | h'
         · exact absurd h0 (by omega)
         · exact h'
       go_frame)
    | gi_round_op_a)
  have hg3' : (W2.alloc (.cells #[.int .i64 x.x, .int .i64 x.y, .int .i64 x.d, .int .i64 x.e] 84)).grownBy w3 v.ownBlock := hg3
  have hL3 : w3.heap[l]? = some (.loop { nO    fn sv Bs D .ready none with state := .busy }) := (hg3'.block l (by simp; omega) (ne_of hL2 (fun cur e => by first | cases e | exact hne (Obj.cells.inj e).2.1))).trans ((Below.heap_alloc _ _ l hl2).trans hL2)
  have hK3 : w3.heap[D]? = some (.deferred (some [])) := (hg3'.block D (by simp; omega) (ne_of hK2 (fun cur e => by first | cases e | exact hne (Obj.cells.inj e).2.1))).trans ((Below.heap_alloc _ _ D hDlt).trans hK2)
  obtain ⟨w4, hw4⟩ : ∃ w4, w3.setCell ⟨Bs, 0, none⟩ (.slice (some ⟨g', 0, none⟩) (ss.length + 1) cap') = w4 := ⟨_, rfl⟩
  rw [hw4]
  have hg4 : w3.grownBy w4 (some Bs) := by rw [← hw4]; exact grownBy_setCell0_a _ _ _
  have hv4 : w4.heap[Bs]? = some (.cells #[.slice (some ⟨g', 0, none⟩) (ss.length + 1) cap'] 151 (0, 0)) := by rw [← hw4]; exact heap_setCell_box_a _ hv3
  have hL4 : w4.heap[l]? = some (.loop { nO    fn sv Bs D .ready none with state := .busy }) := (hg4.block l (Array.getElem?_eq_some_iff.1 hL3).1 (fun e => hBl (by cases e; rfl))).trans hL3
  have hK4 : w4.heap[D]? = some (.deferred (some [])) := (hg4.block D (Array.getElem?_eq_some_iff.1 hK3).1 (fun e => hDB (by cases e; rfl))).trans hK3
  have hrow4 := hown'.kept hg4 (ownsRow_ne_a hown' hv3 (fun cur e => by first | cases e | exact hne (Obj.cells.inj e).2.1))
  have hl4 : l < w4.heap.size := (Array.getElem?_eq_some_iff.1 hL4).1
  have hb3 : Below w0.heap.size w0 w3 := (hb2.alloc hb2.size _).grown hg3' (by have := hb2.size; simp; omega) (fun k e => (hrow2.lt k e).1)
  have hb4 : Below w0.heap.size w0 w4 := hb3.grown hg4 hb3.size (fun k e => by cases e; exact h0B)
  have hk4 : KeepsWalks W w4 := ((hk2.trans (KeepsWalks.alloc _ _)).trans (KeepsWalks.of_grownBy hg3' (ownsRow_not_walk_a (hrow2.alloc _)))).trans (by rw [← hw4]; exact KeepsWalks.setCell _ _ _)
  clear hw4
  refine ⟨_, _, run_endRound none hL4, rfl, ⟨⟨_, (World.putObj_heap_other hBl).trans hv4, ?_, by simp⟩, World.putObj_heap_same hl4, (World.putObj_heap_other hDl).trans hK4, hb4.grown (grownBy_putObj_a _ _ _) hb4.size (fun k e => by cases e; exact h0l)⟩, hk4.trans (KeepsWalks.putObj _ hL4 rfl)⟩
  have := hrow4.kept (grownBy_putObj_a w4 l (.loop { { nO    fn sv Bs D .ready none with state := .busy } with state := if (none : Option Code).isNone then .ready else .done, pending := none })) (ownsRow_ne_a hrow4 hL4 (fun cur e => by first | cases e | exact hne (Obj.cells.inj e).2.1))
  rw [FL        ]
  simpa using this
theorem FG {F:Fence} {n:Nat} (h11:F.fn 188) (hro:F.round=none) (hn:2≤n) (g:Nat) (lb:Array Value) (hFg:F.fn g) (eg:∀args w,(callFunc g args).run Tryz.prog w= .ok (.enter g args) w) (S:List M→Prop) (N:Nat) (hN:N≤1000000) (w:World) (hseq:SeqGives F (n-1) Tryz.prog g lb KW S N w):CallsIn F n Tryz.prog 188 #[.slice none 0 0,.func (.func g) #[] lb] w fun e w'=>∃(v:Value) (ss:List M),e= .returned v∧S ss∧w'.ownsRow w.heap.size 84 4 v ss.length (kF ss)∧(v= .slice none 0 0↔ss=[])∧Below w.heap.size w w':=by
 have h1:1≤n:=by omega
 have hne:(151:TypeId)≠84:=by decide
 refine callsIn_of_wp_marks Tryz.func188 rfl h11 ?_ hro;simp only[Tryz.ntmps188,List.size_toArray,List.length_cons,List.length_nil,Nat.reduceAdd,Nat.reduceSub,Array.replicate_succ,Array.replicate_zero,List.push_toArray,List.append_toArray,List.nil_append,List.cons_append]
 gi_wp2
 refine wpIn_rangeFunc ?_;intro fn hfn;rw[hro];obtain⟨W0,hW0⟩:∃W0,w.alloc (.cells #[.slice none 0 0] 151)=W0:=⟨_,rfl⟩
 have hs0:W0.heap.size=w.heap.size+1:=by rw[←hW0];simp
 have hv0:W0.heap[w.heap.size]? =some (.cells #[.slice none 0 0] 151 (0,0)):=by rw[←hW0];exact World.alloc_heap_new w _
 have hb0:Below w.heap.size w W0:=by rw[←hW0];exact(bQ _ w).alloc (Nat.le_refl _) _
 rw[hW0];obtain⟨W1,hW1⟩:∃W1,(W0.alloc (.deferred (some []))).alloc (.loop (nO fn (.func (.func g) #[] lb) w.heap.size W0.heap.size .ready none))=W1:=⟨_,rfl⟩
 have hold:∀k,k<W0.heap.size→W1.heap[k]? =W0.heap[k]? :=fun k hk=>by rw[←hW1];exact(Below.heap_alloc _ _ k (by simp;omega)).trans (Below.heap_alloc _ _ k hk)
 have hb1:Below w.heap.size w W1:=by rw[←hW1];exact(hb0.alloc hb0.size _).alloc (by have:=hb0.size;simp;omega) _
 have hs1:W1.heap.size=W0.heap.size+2:=by rw[←hW1];simp
 have hM:MY w fn (.func (.func g) #[] lb) w.heap.size (W0.heap.size+1) W0.heap.size [] W1:=
  ⟨⟨_,(hold w.heap.size (by omega)).trans hv0,⟨rfl,.inl ⟨rfl,rfl⟩⟩,by simp⟩,
   by rw[←hW1];have:=World.alloc_heap_new (W0.alloc (.deferred (some []))) (.loop (nO fn (.func (.func g) #[] lb) w.heap.size W0.heap.size .ready none));rwa[World.size_alloc]at this,
   by rw[←hW1];exact(Below.heap_alloc _ _ _ (by simp)).trans (World.alloc_heap_new W0 _),hb1⟩
 refine⟨W0.heap.size+1,[{target:=.collected W0.heap.size,args:=#[]}],W1,{target:=.fn (.func g) lb,args:=#[.func (.yield (W0.heap.size+1)) #[] #[]]},W1,g,
  #[.func (.yield (W0.heap.size+1)) #[] #[]]++lb,W1,?_,?_,?_,?_,fun _=>h1,?_⟩
 ·rw[←hW1];exact run_enterLoop_outer _ _ _ _ _
 ·simp[resolve,go_sem]
 ·intro f' hf';simp[Target.leads]at hf';subst hf';exact hFg
 ·simp[invoke,go_sem,eg]
 ·refine(hseq (W0.heap.size+1) (MY w fn (.func (.func g) #[] lb) w.heap.size (W0.heap.size+1) W0.heap.size) W1 hb1 (xQ _ _ _ _ _ _ _ hb1.size)
   (fun pre x W hJ hl=>TB w fn hfn _ w.heap.size (W0.heap.size+1) W0.heap.size (by omega) (by omega) (by omega) (Nat.le_refl _) (by omega) N hN pre x W hJ hl) hM).mono ?_
  rintro e W2 ⟨⟨v0,rfl⟩,ss,hS,h2⟩;obtain⟨v,hv,hrow,hnil⟩:=h2.box;have hend:=run_endLoop (P:=Tryz.prog) h2.L (by simp[nO])
  obtain⟨W3,hW3⟩:∃W3,W2.putObj (W0.heap.size+1) (.loop {nO fn (.func (.func g) #[] lb) w.heap.size W0.heap.size .ready none with state:=.exhausted})=W3:=⟨_,rfl⟩
  rw[hW3]at hend;have hg3:W2.grownBy W3 (some (W0.heap.size+1)):=by rw[←hW3];exact grownBy_putObj_a _ _ _
  have hv3:W3.heap[w.heap.size]? =some (.cells #[v] 151 (0,0)):=by rw[←hW3];exact(World.putObj_heap_other (by omega)).trans hv
  have hK3:W3.heap[W0.heap.size]? =some (.deferred (some [])):=by rw[←hW3];exact(World.putObj_heap_other (by omega)).trans h2.K
  have hrow3:=hrow.kept hg3 (ownsRow_ne_a hrow h2.L (fun cur e=>by first|cases e|exact hne (Obj.cells.inj e).2.1));have hb3:Below w.heap.size w W3:=h2.below.grown hg3 h2.below.size (fun k e=>by cases e;omega)
  obtain⟨hc3,hf3⟩:=cell_of_box_a hv3;clear hW3;refine⟨none,W3,hend,?_⟩
  gi_wp2
  rw[←hs0];refine⟨by simp,.inl ⟨_,_,rfl,run_takeDeferred hK3,?_⟩⟩;exact⟨_,results_tmp rfl _ _ _,v,ss,rfl,hS,hrow3.kept (grownBy_putObj_a _ _ _) (ownsRow_ne_a hrow3 hK3 (fun cur e=>by first|cases e|exact hne (Obj.cells.inj e).2.1)),hnil,hb3.grown (grownBy_putObj_a _ _ _) hb3.size (fun k e=>by cases e;omega)⟩
theorem OC {F:Fence} {n:Nat} (h8:F.fn 177) (h11:F.fn 188) (hro:F.round=none) (hn:3≤n) (g:Nat) (lb:Array Value) (hFg:F.fn g) (eg:∀args w,(callFunc g args).run Tryz.prog w= .ok (.enter g args) w) (S:List M→Prop) (N:Nat) (hN:N≤1000000) (w:World) (hseq:SeqGives F (n-1-1) Tryz.prog g lb KW S N w):CallsIn F n Tryz.prog 177 #[.func (.func g) #[] lb] w fun e w'=>∃(v:Value) (ss:List M),e= .returned v∧S ss∧w'.ownsRow w.heap.size 84 4 v ss.length (kF ss)∧(v= .slice none 0 0↔ss=[])∧Below w.heap.size w w':=by
 have h1:1≤n:=by omega
 refine callsIn_of_wp Tryz.func177 rfl h8 ?_ hro;simp only[Tryz.ntmps177,List.size_toArray,List.length_cons,List.length_nil,Nat.reduceAdd,Nat.reduceSub,Array.replicate_succ,Array.replicate_zero,List.push_toArray,List.append_toArray,List.nil_append,List.cons_append]
 gi_wp2
 refine(FG h11 hro (by omega) g lb hFg eg S N hN _ hseq).mono ?_;rintro e w' ⟨v,ss,rfl,hS,hrow,hnil,hb⟩
 gi_wp2
 go_ret;exact⟨v,ss,rfl,hS,hrow,hnil,hb⟩
open Go.RowKit Go.Maps Go.Sort Go.Shelf
def uT    :Prop:=
 (∀(Br:Nat) (W:World) (gb cap:Nat) (d:Array OM),Br<W.heap.size→Br≠gb→W.cell? ⟨Br,0,none⟩=some (.func (.func 93) #[] #[])→HoldsK dJ     4 W gb 0 d→gb<W.heap.size→d.size<4611686018427387904→
  Calls Tryz.prog 178 #[.slice (some ⟨gb,0,none⟩) d.size cap,.func (.func 151) #[] #[.pointer (some ⟨Br,0,none⟩)]] W fun e w'=>e= .returned (.tuple #[])∧
   ∃d' n os,PermIn 0 d.size d d'∧SortedIn (ltOf fun x y:OM=>c3 (dI  x.1) (dI  y.1)) 0 d.size d'∧w'=sortWorldK dJ     4 W gb 0 n d' os)∧
 (∀(p:Option Addr) (cap:Nat) (fv:Value) (W:World),Calls Tryz.prog 178 #[.slice p 0 cap,fv] W fun e w'=>e= .returned (.tuple #[])∧w'=W)
theorem CM:∀(ss:List M) (i c:Nat) (h:i<ss.length),c<4→(kF ss)[i*4+c]? =(jB ss[i])[c]?
 |[],i,c,h,_=>by simp at h
 |x::r,0,c,_,hc=>by have e:kF (x::r)=jB x++kF r:=rfl;rw[e,List.getElem?_append_left (by simp[jB];omega)];simp
 |x::r,i+1,c,h,hc=>by
  have e:kF (x::r)=jB x++kF r:=rfl;have hl:(jB x).length=4:=rfl
  rw[e,List.getElem?_append_right (by rw[hl];omega),hl,show(i+1)*4+c-4=i*4+c by omega];exact CM r i c (by simpa using h) hc
theorem XL {W:World} {gb:Nat} {cur:Array Value} {t:TypeId} (dO:List OM) (hgb:W.heap[gb]? =some (.cells cur t (0,0))) (r4:cur.toList.take (dO.length*4)=kF (dO.map (·.1))):HoldsK dJ 4 W gb 0 dO.toArray:=by
 intro j hj;rw[size_flatK]at hj;have hj':j<dO.length*4:=by simpa using hj
 refine⟨?_,by simp[World.frozen?,hgb]⟩;have h1:(cur.toList.take (dO.length*4))[j]? =(kF (dO.map (·.1)))[j]? :=by rw[r4]
 rw[List.getElem?_take_of_lt hj']at h1;have hi:j / 4<dO.length:=by omega
 have h2:=CM (dO.map (·.1)) (j / 4) (j%4) (by simpa using hi) (by omega);have e2:(dO.map (·.1))[j / 4]'(by simpa using hi)=(dO[j / 4]'hi).1:=List.getElem_map ..
 rw[show j / 4*4+j%4=j by omega,e2]at h2;simp only[World.cell?,hgb,Nat.zero_add];simp only[Option.isSome_none,Bool.false_eq_true,if_false];rw[←Array.getElem?_toList,h1,h2,id,get_flatK _ _ _ _ hj];have hx:dO.toArray[j / 4]! =dO[j / 4]'hi:=by rw[getElem!_pos dO.toArray (j / 4) (by simpa using hi)];simp
 rw[hx];generalize dO[j / 4]'hi=z;have hc:j%4<4:=by omega
 show(dJ z)[j%4]? =some (dJ z)[j%4]!
 rw[List.getElem?_eq_getElem (show j%4<(dJ z).length from hc),getElem!_pos (dJ z) (j%4) hc];rfl
structure xD (W:World) (p:Option Addr) (d:List M):Prop where
 here:∀i (h:i<d.length),∃g,p=some ⟨g,0,none⟩∧g<W.heap.size∧W.cell? ⟨g,i*4,none⟩=some (.int .i64 d[i].x)∧W.cell? ⟨g,i*4+1,none⟩=some (.int .i64 d[i].y)∧W.cell? ⟨g,i*4+2,none⟩=some (.int .i64 d[i].d)∧W.cell? ⟨g,i*4+3,none⟩=some (.int .i64 d[i].e)
theorem xD.keep {W W':World} {p:Option Addr} {d:List M} (h:xD W p d) (hs:W.heap.size≤W'.heap.size) (hk:∀g,p=some ⟨g,0,none⟩→W'.heap[g]? =W.heap[g]?):xD W' p d:=⟨fun i hi=>by
 obtain⟨g,hp,hg,c0,c1,c2,c3⟩:=h.here i hi;have hb:=hk g hp
 exact⟨g,hp,by omega,(nC (w:=W) (a:=⟨g,_,none⟩) hb).trans c0,(nC (w:=W) (a:=⟨g,_,none⟩) hb).trans c1,(nC (w:=W) (a:=⟨g,_,none⟩) hb).trans c2,(nC (w:=W) (a:=⟨g,_,none⟩) hb).trans c3⟩⟩
theorem pG {w:World} {g n:Nat} {os:Array Obj} (d:Array OM):w.grownBy (sortWorldK dJ 4 w g 0 n d os) (some g):=by
 refine⟨rfl,rfl,rfl,by simp[sortWorldK,putRowK],fun k hk hne=>?_⟩;unfold sortWorldK;rw[heap_grow_old _ _ (by simpa[putRowK]using hk)];have:g≠k:=fun e=>hne (by rw[e])
 simp[putRowK,putRow,mapBlock,Sort.ahead,Array.getElem?_modify,this]
theorem EE {W:World} {gb n:Nat} {os:Array Obj} (d d':Array OM) (hH:HoldsK dJ 4 W gb 0 d) (hgl:gb<W.heap.size) (hs:d'.size=d.size):xD (sortWorldK dJ 4 W gb 0 n d' os) (some ⟨gb,0,none⟩) (d'.toList.map (·.1)):=⟨fun i hi=>by
 have hK:HoldsK dJ 4 (sortWorldK dJ 4 W gb 0 n d' os) gb 0 d':=by unfold sortWorldK;exact holdsK_grow (enc:=dJ) (k:=4) _ _ _ _ _ (by rw[size_putRowK];exact hgl) (holdsK_putRowK (enc:=dJ) (k:=4) _ _ _ d d' (holdsK_ahead (enc:=dJ) (k:=4) _ _ _ _ _ hH) hs)
 have hi':i<d'.size:=by simpa using hi
 have hx:d'[i]! =d'[i]:=getElem!_pos d' i hi';have hgs:gb<(sortWorldK dJ 4 W gb 0 n d' os).heap.size:=by unfold sortWorldK;rw[Go.Sort.size_grow,size_putRowK];exact iZ hgl (Nat.le_add_right _ _)
 have k:∀c:Nat,c<4→_:=fun c hc=>(hK.cell (i:=i) (c:=c) hi' hc).1;have k0:=k 0 (by omega)
 have k1:=k 1 (by omega);have k2:=k 2 (by omega)
 have k3:=k 3 (by omega);rw[hx,Nat.zero_add]at k0 k1 k2 k3;have e:(d'.toList.map (·.1))[i]=(d'[i]).1:=by simp
 rw[e]
 exact⟨gb,rfl,hgs,k0,k1,k2,k3⟩⟩
theorem VI (hsort:uT) (g:Nat) (lb:Array Value) (eg:∀args w,(callFunc g args).run Tryz.prog w= .ok (.enter g args) w) (S:List M→Prop) (N:Nat) (hN:N≤1000000) (hok:∀ss,S ss→∀m∈ss,m.ok=true) (hle:∀ss,S ss→ss.length≤N) (w:World) (hseq:SeqGives Fence.wide 5 Tryz.prog g lb KW S N w) (Br:Nat) (hB:Br<w.heap.size) (hr:w.cell? ⟨Br,0,none⟩=some (.func (.func 93) #[] #[])):Calls Tryz.prog 149 #[.func (.func g) #[] lb,.func (.func 151) #[] #[.pointer (some ⟨Br,0,none⟩)]] w fun e w'=>∃(p:Option Addr) (cap:Nat) (dO:List OM) (ss:List M),e= .returned (.slice p dO.length cap)∧S ss∧(dO.map (·.1)).Perm ss∧dO.Pairwise (fun a b=>dI a.1≤dI b.1)∧xD w' p (dO.map (·.1))∧(∀k,p=some ⟨k,0,none⟩→w.heap.size≤k∧k<w'.heap.size)∧Below w.heap.size w w':=by
 go_enter Tryz.func149,Tryz.ntmps149;have hcol:=(callsIn_wide (n:=7)).1 (OC (F:=Fence.wide) (n:=7) trivial trivial rfl (by omega) g lb trivial eg S N hN w hseq)
 go_wp2_with (go_at_call 177;refine hcol.mono ?_;rintro e W ⟨v,ss,rfl,hS,hrow,hnil,hb⟩);rcases hrow.2 with⟨rfl,hz⟩|⟨gb,cap,cur,rfl,hbase,hgb,r1,r2,r3,r4⟩
 ·have hss:ss=[]:=List.eq_nil_of_length_eq_zero hz;subst hss;go_wp2_with (go_at_call 178;refine(hsort.2 none 0 _ W).mono ?_;rintro e w' ⟨rfl,hw⟩;obtain rfl:=hw.symm;clear hw);go_ret;exact⟨none,0,[],[],rfl,hS,List.Perm.refl _,List.Pairwise.nil,⟨fun i h=>by simp at h⟩,fun k e=>(by cases e),hb⟩
 ·obtain⟨dO,hdO⟩:∃dO:List OM,dO.map (·.1)=ss:=⟨ss.pmap (fun m h=>(⟨m,h⟩:OM)) (hok ss hS),by simp[List.map_pmap]⟩
  have hl:dO.length=ss.length:=by rw[←hdO];simp
  rw[←hl]at r4;rw[←hdO]at r4;have hH:HoldsK dJ 4 W gb 0 dO.toArray:=XL dO hgb r4
  have hgl:gb<W.heap.size:=(Array.getElem?_eq_some_iff.1 hgb).1;have hsz:dO.toArray.size<4611686018427387904:=by have:=hle ss hS;simp;omega
  have cS:=hsort.1 Br W gb cap dO.toArray (by have:=hb.size;omega) (by omega) ((hb.cell (p:=⟨Br,0,none⟩) hB).trans hr) hH hgl hsz;simp only[List.size_toArray,hl]at cS;go_wp2_with (go_at_call 178;refine cS.mono ?_;rintro e w' ⟨rfl,d',nn,os,hp,hs,hw⟩;obtain rfl:=hw.symm;clear hw);go_ret;obtain⟨hp1,hp2,hp3⟩:=hp;have hsd:d'.size=dO.length:=by simpa using hp1
  have hperm:d'.toList.Perm dO:=by
   have e1:d'.extract 0 ss.length=d':=by rw[←hl,←hsd];exact Array.extract_size
   have e2:dO.toArray.extract 0 ss.length=dO.toArray:=by rw[←hl];simp
   rw[e1,e2]at hp3;simpa using hp3
  refine⟨some ⟨gb,0,none⟩,cap,d'.toList,ss,?_,hS,?_,?_,EE dO.toArray d' hH hgl hp1,fun k e=>(by cases e;exact⟨hbase,iZ hgl (pG d').size⟩),hb.grown (pG d') hb.size (fun j hj=>by cases hj;exact hbase)⟩
  ·rw[show d'.toList.length=ss.length by simp;omega];rfl
  ·rw[←hdO];exact hperm.map _
  ·rw[List.pairwise_iff_getElem];intro i j hi hj hij;have hi':i<d'.size:=by simpa using hi
   have hj':j<d'.size:=by simpa using hj
   have:=hs i j (Nat.zero_le _) hij (by omega);rw[getElem!_pos d' i hi',getElem!_pos d' j hj',Ck]at this;simp at this;simpa using this
end Go.Proofs.YtelkehjdfcoeiaaGreat
