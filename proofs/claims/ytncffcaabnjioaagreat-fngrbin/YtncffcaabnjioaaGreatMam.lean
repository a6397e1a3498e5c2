/-
  A range over an iterator that itself ranges over iterators; its body always goes on.
-/
import Derived.Test.YtncffcaabnjioaaGreatMal
set_option maxHeartbeats 4000000
set_option maxRecDepth 100000
namespace Go.Proofs.YtncffcaabnjioaaGreat
open Go.RowKit
set_option linter.unusedVariables false
theorem ML {m m':Nat} {P:Program} {l:Nat} {f:FuncId} {tmps:Array Value} {assign body:Code} {w:World} {R:Ending→World→Prop} (h:RoundIn Fence.wide m P l f tmps assign body w R):RoundIn Fence.wide m' P l f tmps assign body w R:=⟨h.1,fun c cs _=>h.2 c cs (room_wide _)⟩
theorem nV {W W':World} {row:Option Nat} {B:Nat} (hg:W.grownBy W' row) (hr:∀r,row=some r→B≤r) {k:Nat} {o:Obj} (hk:W.heap[k]? =some o) (hkB:k<B):W'.heap[k]? =some o:=
 (hg.block k (Array.getElem?_eq_some_iff.1 hk).1 (fun e=>by have:=hr k e.symm;omega)).trans hk
theorem sA {B B':Nat} {W W':World} (h:KeepsFrom B W W') (hB:B≤B'):KeepsFrom B' W W':=⟨h.size,fun k o hk=>h.same k o (jW hB hk)⟩
def WO {α:Type} (P:Program) (g:Nat) (lb:Array Value) (encs:α→Array Value) (xs:List α) (w:World):Prop:=
 ∀(l:Nat) (J:List α→World→Prop) (W:World),Below w.heap.size w W→OwnFrom W.heap.size J→
  (∀pre x W1,J pre W1→YieldAt Fence.wide 0 P l (encs x) W1 fun e W'=>e= .returned (.bool true)∧J (pre++[x]) W'∧dM W1 W'∧KeepsFrom W.heap.size W1 W')→
  J [] W→Calls P g (#[.func (.yield l) #[] #[]]++lb) W fun e W'=>(∃v,e= .returned v)∧J xs W'
theorem XZ {α:Type} {P:Program} {n:Nat} {g:Operand} {ps:Array Tmp} {assign body:Code} {Q:Exit→Act→World→Prop} {a:Act} {w:World} (h1:1≤n) {gf:Nat} {lb:Array Value} (hg:a.eval g= .func (.func gf) #[] lb) (eg:∀args w,(callFunc gf args).run P w= .ok (.enter gf args) w) {encs:α→Array Value} {xs:List α} {w0:World} (hseq:WO P gf lb encs xs w0) (hb0:Below w0.heap.size w0 w) (hps:∀x,(encs x).size=ps.size) (I:List α→World→Prop) (hI:OwnFrom w.heap.size I) (h0:I [] w) (Ax:α→Act→World→Prop) (hAx:∀x a',OwnFrom w.heap.size (fun(_:Unit) W=>Ax x a' W)) (hassign:∀(l:Nat) (pre:List α) (x:α) (W:World) (K:Act→World→Prop),I pre W→(∀a' W',KeepsFrom w.heap.size W W'→dM W W'→I pre W'→Ax x a' W'→K a' W')→assign.wpIn (Fence.wide.inRound l) 0 P (Exit.then K (fun _ _ _=>False)) {tmps:=(ps.zip (encs x)).foldl (fun t (p,v)=>t.setIfInBounds p v) a.tmps,defers:=[]} W) (hbody:∀(l:Nat) (pre:List α) (x:α) (a':Act) (W:World),I pre W→Ax x a' W→body.wpIn (Fence.wide.inRound l) 0 P (fun e _ W'=>e= .normal∧KeepsFrom w.heap.size W W'∧dM W W'∧I (pre++[x]) W') a' W) (hdone:∀(D:Nat) (W:World),w.heap.size≤D→I xs W→W.heap[D]? =some (.deferred (some []))→Q .normal {a with defers:={target:=.collected D,args:=#[]}::a.defers} W):(Code.rangeFunc g ps assign body).wpIn Fence.wide n P Q a w:=by
 refine wpIn_rangeFunc ?_;intro fn hfn;obtain⟨rec,hrec⟩:∃rec:LoopState→Option Code→Loop,rec=fun st pe=>{state:=st,pending:=pe,fn,tmps:=a.tmps,params:=ps,assign,body,defers:=w.heap.size}:=⟨_,rfl⟩
 obtain⟨W1,hW1⟩:∃W1,(w.alloc (.deferred (some []))).alloc (.loop (rec .ready none))=W1:=⟨_,rfl⟩
 have hs1:W1.heap.size=w.heap.size+2:=by rw[←hW1];simp
 have hL1:W1.heap[w.heap.size+1]? =some (.loop (rec .ready none)):=by
  rw[←hW1];have:=World.alloc_heap_new (w.alloc (.deferred (some []))) (.loop (rec .ready none))
  rwa[World.size_alloc]at this
 have hK1:W1.heap[w.heap.size]? =some (.deferred (some [])):=by rw[←hW1];exact(Below.heap_alloc _ _ _ (by simp)).trans (World.alloc_heap_new w _)
 have hI1:I [] W1:=by rw[←hW1];exact hI.alloc _ (hI.alloc _ h0)
 have hb1:Below w0.heap.size w0 W1:=by rw[←hW1];exact hb0.trans ((((cE _ w).alloc (Nat.le_refl _) _).alloc (by simp) _).mono hb0.size)
 refine⟨w.heap.size+1,[{target:=.collected w.heap.size,args:=#[]}],W1,{target:=.fn (.func gf) lb,args:=#[.func (.yield (w.heap.size+1)) #[] #[]]},W1,gf,
  #[.func (.yield (w.heap.size+1)) #[] #[]]++lb,W1,?_,?_,?_,?_,fun _=>h1,?_⟩
 ·rw[←hW1,hrec];exact run_enterLoop_outer _ _ _ _ _
 ·simp only[resolve,hg];simp[go_sem]
 ·intro f' _;exact trivial
 ·simp[invoke,go_sem,eg]
 ·refine callsIn_wide.2 ((hseq (w.heap.size+1) (fun pre W=>I pre W∧W.heap[w.heap.size+1]? =some (.loop (rec .ready none))∧W.heap[w.heap.size]? =some (.deferred (some []))) W1 hb1
   (fun s A B row hs hg' hr=>⟨hI s A B row hs.1 hg' (fun r e=>⟨by have:=(hr r e).1;omega,(hr r e).2⟩),nV hg' (B:=W1.heap.size) (fun r e=>(hr r e).1) hs.2.1 (by omega),nV hg' (B:=W1.heap.size) (fun r e=>(hr r e).1) hs.2.2 (by omega)⟩)
   ?_ ⟨hI1,hL1,hK1⟩).mono ?_)
  ·rintro pre x W ⟨hi,hl,hk⟩;have hy:=run_yield (P:=P) (args:=encs x) hl (by rw[hrec];exact hps x)
   rw[hrec]at hy;refine⟨fn,_,assign,body,hy,roundIn_of_wpIn hfn (hassign _ pre x W _ hi ?_)⟩;clear hy;intro a' Wa hkfa hkpa hia hax;have hla:=hkfa.same _ _ (by omega) hl rfl
   have hka:=hkfa.same _ _ (Nat.le_refl _) hk rfl;have hlt:w.heap.size+1<Wa.heap.size:=(Array.getElem?_eq_some_iff.1 hla).1
   refine⟨_,run_beginRound hla (by rw[hrec]),?_⟩;have hl2:(Wa.putObj (w.heap.size+1) (.loop {rec .ready none with state:=.busy})).heap[w.heap.size+1]? =some (.loop {rec .ready none with state:=.busy}):=World.putObj_heap_same hlt
   have hk2:(Wa.putObj (w.heap.size+1) (.loop {rec .ready none with state:=.busy})).heap[w.heap.size]? =some (.deferred (some [])):=(World.putObj_heap_other (by omega)).trans hka
   have hw2:dM Wa (Wa.putObj (w.heap.size+1) (.loop {rec .ready none with state:=.busy})):=rH (w:=w) _ _ _ _ (by omega) hla rfl rfl;refine wpIn_mono (hbody _ pre x a' _ (hI.putObj _ hia (by omega) hla rfl) ((hAx x a').putObj (s:=()) _ hax (by omega) hla rfl)) ?_;rintro e a3 W3 ⟨rfl,hk3,hkp3,hi3⟩;have hl3:=hk3.same _ _ (by omega) hl2 rfl
   have hr:=run_endRound (P:=P) none hl3;refine⟨_,_,hr,rfl,⟨hI.putObj _ hi3 (by omega) hl3 rfl,?_,(World.putObj_heap_other (by omega)).trans (hk3.same _ _ (Nat.le_refl _) hk2 rfl)⟩,cW hkpa (cW (cW hw2 hkp3) (rH (w:=w) _ _ _ _ (by omega) hl3 rfl rfl)),(sA hkfa (by omega)).trans ((KeepsFrom.of_grownBy (grownBy_putObj' Wa (w.heap.size+1) (.loop {rec .ready none with state:=.busy})) (fun j e=>by cases e;omega)).trans ((sA hk3 (by omega)).trans (KeepsFrom.of_grownBy (grownBy_putObj' W3 (w.heap.size+1) _) (fun j e=>by cases e;omega))))⟩;rw[hrec];exact World.putObj_heap_same (Array.getElem?_eq_some_iff.1 hl3).1
  ·rintro e W2 ⟨⟨v,rfl⟩,hi,hl,hk⟩;refine⟨none,_,by have:=run_endLoop (P:=P) hl (by rw[hrec];simp);rw[hrec]at this;exact this,hdone _ _ (Nat.le_refl _) (hI.putObj _ hi (by omega) hl rfl) ((World.putObj_heap_other (by omega)).trans hk)⟩
open Go.RowKit Go.Maps
attribute [local go_sem] Oper.semAt_some
theorem oR {α β:Type} (k:Nat) (f:α→List β) (h:∀x,(f x).length=k):∀l:List α,(l.flatMap f).length=l.length*k
 |[]=>by simp
 |x::r=>by rw[List.flatMap_cons,List.length_append,h,oR k f h r,List.length_cons,Nat.add_mul];omega
def allM:List M:=(List.range 16).flatMap fun(x:Nat)=>(List.range 16).flatMap fun(y:Nat)=>(List.range 16).flatMap fun(d:Nat)=>(List.range 16).map fun(e:Nat)=>(⟨(x:Int),(y:Int),(d:Int),(e:Int)⟩:M)
theorem NO:allM.length=65536:=by unfold allM;rw[oR (16*(16*16)) _ (fun x=>by rw[oR (16*16) _ (fun y=>by rw[oR 16 _ (fun d=>by simp)];simp)];simp)];simp
theorem NP {m:M} (h:m.ok=true):m∈allM:=by obtain⟨x1,x2,y1,y2,d1,d2,e1,e2⟩:=M.ok_iff.1 h;unfold allM;refine List.mem_flatMap.2 ⟨m.x.toNat,List.mem_range.2 (by omega),List.mem_flatMap.2 ⟨m.y.toNat,List.mem_range.2 (by omega),List.mem_flatMap.2 ⟨m.d.toNat,List.mem_range.2 (by omega),List.mem_map.2 ⟨m.e.toNat,List.mem_range.2 (by omega),?_⟩⟩⟩⟩;cases m;simp only at x1 y1 d1 e1⊢;rw[Int.toNat_of_nonneg x1,Int.toNat_of_nonneg y1,Int.toNat_of_nonneg d1,Int.toNat_of_nonneg e1]
theorem bD.cap {w:World} {b n:Nat} {c:M→Int} (h:bD w b n c):bD w b 65536 c:=by
 obtain⟨D,hown,hc,hat,hks⟩:=h;have hs:Maps.size D≤65536:=by rw[←NO];exact BF hown allM (fun kl hkl=>by obtain⟨m,hm,rfl⟩:=hks kl hkl;exact⟨m,NP hm,rfl⟩)
 refine⟨D,?_,hc,hat,hks⟩;obtain⟨es,clock,h1,h2,h3,h4⟩:=hown;subst h4;rw[size_eq,length_read]at hs;exact⟨es,clock,h1,h2,hs,rfl⟩
theorem bD.lt {w:World} {b n:Nat} {c:M→Int} (h:bD w b n c):b<w.heap.size:=by obtain⟨D,ho,_⟩:=h;exact ho.lt
theorem bD.map {w:World} {b n:Nat} {c:M→Int} (h:bD w b n c):∀o,w.heap[b]? =some o→o.isCells=false:=by obtain⟨D,⟨es,clock,h1,_⟩,_⟩:=h;intro o ho;rw[h1]at ho;cases ho;rfl
theorem yO {w W W':World} {b:Nat} {row:Option Nat} (h:w.grownBy W (some b)) (hg:W.grownBy W' row) (hr:∀r,row=some r→w.heap.size≤r):w.grownBy W' (some b):=
 ⟨hg.os.trans h.os,hg.tape.trans h.tape,hg.output.trans h.output,jW h.size hg.size,fun k hk hne=>(hg.block k (lG hk h.size) (fun e=>by have:=hr k e.symm;omega)).trans (h.block k hk hne)⟩
abbrev TO:Type:={t:T // t.m.ok=true∧0≤t.c∧t.c≤100}
def WZ (x:TO):Array Value:=#[.agg #[.int .i64 x.1.c,.int .i64 x.1.m.x,.int .i64 x.1.m.y,.int .i64 x.1.m.d,.int .i64 x.1.m.e]]
def lR (c:M→Int) (xs:List TO):M→Int:=xs.foldl (fun c t=>lD c t.1.m t.1.c) c
theorem CF (c:M→Int) (xs:List TO) (x:TO):lR c (xs++[x])=lD (lR c xs) x.1.m x.1.c:=by simp[lR]
def cH (W:World) (Bx:Nat) (t:T):Prop:=W.heap[Bx]? =some (.cells #[.int .i64 t.c,.int .i64 t.m.x,.int .i64 t.m.y,.int .i64 t.m.d,.int .i64 t.m.e] 47 (0,0))
theorem cH.cells {W:World} {Bx:Nat} {t:T} (h:cH W Bx t):W.cell? ⟨Bx,0,none⟩=some (.int .i64 t.c)∧W.cell? ⟨Bx,1,none⟩=some (.int .i64 t.m.x)∧W.cell? ⟨Bx,2,none⟩=some (.int .i64 t.m.y)∧W.cell? ⟨Bx,3,none⟩=some (.int .i64 t.m.d)∧W.cell? ⟨Bx,4,none⟩=some (.int .i64 t.m.e):=by unfold cH at h;refine⟨?_,?_,?_,?_,?_⟩<;>(unfold World.cell?;simp only[h];rfl)
theorem tO {B Bx:Nat} {o:Obj} (ho:o.isCells=true) {X Y:World} {row:Option Nat} (h:X.heap[Bx]? =some o) (hg:X.grownBy Y row) (hr:∀r,row=some r→B≤r∧∃o:Obj,X.heap[r]? =some o∧o.isCells=false):Y.heap[Bx]? =some o:=
 (hg.block Bx (Array.getElem?_eq_some_iff.1 h).1 (fun e=>by obtain⟨_,o',ho',hc⟩:=hr Bx e.symm;rw[h]at ho';cases ho';rw[ho]at hc;cases hc)).trans h
theorem TU (w:World) (b:Nat) (c:M→Int) (h:bD w b 65536 c) (g:Nat) (lb:Array Value) (eg:∀args w,(callFunc g args).run Tryz.prog w= .ok (.enter g args) w) (xs:List TO) (hseq:WO Tryz.prog g lb WZ xs w):Calls Tryz.prog 99 #[.map (some b),.func (.func g) #[] lb] w fun e w'=>e= .returned (.tuple #[])∧bD w' b 65536 (lR c xs)∧w.grownBy w' (some b):=by
 have hblt:=h.lt;have HS:=aA h
 have HQ:=aA hseq;clear h hseq;refine(callsIn_wide (n:=9)).1 ?_;refine callsIn_of_wp_marks Tryz.func99 rfl trivial ?_ rfl;simp only[Tryz.ntmps99,List.size_toArray,List.length_cons,List.length_nil,Nat.reduceAdd,Nat.reduceSub,Array.replicate_succ,Array.replicate_zero,List.push_toArray,List.append_toArray,List.nil_append,List.cons_append]
 gi_wp2
 have bs:=Boxed.new w 77 (.map (some b));have hg0:=World.grownBy_alloc w (.cells #[.map (some b)] 77) (some b)
 have hS0:=HS.out.grown (World.grownBy_alloc w (.cells #[.map (some b)] 77) none) (by simp);have hbw:Below w.heap.size w (w.alloc (.cells #[.map (some b)] 77)):=(cE _ w).alloc (Nat.le_refl _) _
 have hs0:(w.alloc (.cells #[.map (some b)] 77)).heap.size=w.heap.size+1:=by simp
 generalize w.alloc (.cells #[.map (some b)] 77)=W0 at *
 refine XZ (by decide) (gf:=g) (lb:=lb) rfl eg HQ.out hbw (fun _=>rfl)
  (fun(pre:List TO) W=>bD W b 65536 (lR c pre)∧(Boxed W w.heap.size 77 (.map (some b))∧w.grownBy W (some b)))
  (OwnFrom.and (fun s X Y row hs hg hr=>hs.grown hg (fun e=>by have:=(hr b e.symm).1;omega)) (OwnFrom.and (Own.from (boxed_own _ _ (fun _=>Value.map (some b))) _) (fun s X Y row hs hg hr=>yO hs hg (fun r e=>by have:=(hr r e).1;omega))))
  ⟨hS0,bs,hg0⟩
  (fun x a' W=>∃Bx,cH W Bx x.1∧a'=({tmps:=#[.map (some b),.func (.func g) #[] lb,.pointer (some ⟨w.heap.size,0,none⟩),undef,.pointer (some ⟨Bx,0,none⟩),.func (.func g) #[] lb,.agg #[.int .i64 x.1.c,.int .i64 x.1.m.x,.int .i64 x.1.m.y,.int .i64 x.1.m.d,.int .i64 x.1.m.e],undef,undef,undef,undef,undef,undef],defers:=[]}:Act))
  (fun x a' _ X Y row hs hg hr=>by obtain⟨Bx,h2,h3⟩:=hs;exact⟨Bx,tO rfl h2 hg hr,h3⟩)
  ?assign ?body ?done
 case assign=>
  rintro l pre x W K' ⟨hS,bS,hgW⟩ hK';obtain⟨t,ht⟩:=x;dsimp only[WZ]at hK'⊢
  gi_wp2
  exact hK' _ _ ((KeepsOthers.alloc _ _).from _) (cG _ _) ⟨hS.grown (World.grownBy_alloc W _ none) (by simp),bS.alloc _,hgW.trans (World.grownBy_alloc W _ (some b))⟩ ⟨W.heap.size,World.alloc_heap_new W _,rfl⟩
 case body=>
  rintro l pre x a' W ⟨hS,bS,hgW⟩ ⟨Bx,hX,rfl⟩;obtain⟨t,hto,htc,htc'⟩:=x;dsimp only at hX⊢;obtain⟨x0,x1,x2,x3,x4⟩:=hX.cells;have cS:=bS.cell
  have HSS:=aA hS;clear hS
  gi_wp2_with (first
   |(refine⟨trivial,rfl,?_⟩;gi_at_call 132;(refine(CallsIn.inRound l (callsIn_wide.2 (BO b 65536 _ t.c t.m W hto HSS.out (by unfold maxLen;omega) htc htc'))).mono ?_;rintro e w' ⟨rfl,hs',hg'⟩))
   |gi_in)
  have hk:dM W w':=rI hg' (fun k e o ho=>by cases e;exact HSS.out.map o ho);refine⟨KeepsFrom.of_grownBy hg' (fun j e=>by cases e;omega),hk,?_,eJ bS hk,hgW.trans hg'⟩;rw[CF];exact hs'.cap
 case done=>
  rintro D W hD ⟨hS,bS,hgW⟩ hKd
  gi_wp2
  refine⟨by simp,.inl ⟨_,_,rfl,run_takeDeferred hKd,?_⟩⟩;exact⟨_,results_none rfl _ _ _,rfl,hS.grown (grownBy_putObj' W D (.deferred none)) (fun e=>by cases e;omega),yO hgW (grownBy_putObj' W D (.deferred none)) (fun r e=>by cases e;omega)⟩
end Go.Proofs.YtncffcaabnjioaaGreat
namespace Go.Proofs.YtncffcaabnjioaaGreat
open Go.RowKit
set_option linter.unusedVariables false
theorem yE {F:Fence} {n:Nat} {P:Program} {md:Region.Mode} {ops:Array Oper} {Q:Exit→Act→World→Prop} {I:Array Bool→Act→World→Prop} (hs:∀l a w,I l a w→∀i∈Region.ready md ops l,wpOpIn F n P ops Q i (I (l.setIfInBounds i true)) a w) (he:∀l a w,I l a w→Region.ready md ops l=[]→Q .normal a w):∀(fuel:Nat) (l:Array Bool) (a:Act) (w:World),fM l≤fuel→I l a w→wpAnyIn F n P md ops Q fuel l a w
 |0,l,a,w,hf,hI=>by
  have hr:Region.ready md ops l=[]:=by
   rw[List.eq_nil_iff_forall_not_mem];intro i hi;have h0:=bA (mem_ready.1 hi).1
   exact iT l.toList (by unfold fM at hf;omega) i (by simpa using h0)
  exact⟨hr,he l a w hI hr⟩
 |fuel+1,l,a,w,hf,hI=>by
  refine⟨fun hr=>he l a w hI hr,fun i hi=>?_⟩;have h0:=bA (mem_ready.1 hi).1
  have h1:=fO h0;exact wpOpIn_mono (fun a' w' h=>yE hs he fuel _ a' w' (by omega) h) (hs l a w hI i hi)
def RT (ops:Array Oper) (F:(Nat→Value)→Act) (P:Nat→Value→Prop) (n A:Nat) (w0:World) (Y Z:World→Value→Prop) (l:Array Bool) (a:Act) (u:World):Prop:=
 ∃vs:Nat→Value,a=F vs∧l.size=n∧eG ops l∧(l.getD A false=false→u=w0∧∀k,l.getD k false=true→P k (vs k))∧(l.getD A false=true→l.getD (A+1) false=false→Y u (vs A))∧(l.getD (A+1) false=true→Z u (vs (A+1)))
theorem RT.start {ops:Array Oper} {F:(Nat→Value)→Act} {P:Nat→Value→Prop} {n A:Nat} {w0:World} {Y Z:World→Value→Prop} {a:Act} (vs:Nat→Value) (ha:a=F vs):RT ops F P n A w0 Y Z (Array.replicate n false) a w0:=
 ⟨vs,ha,by simp,eG.start _ _,fun _=>⟨rfl,fun k h=>tR h⟩,fun h=>tR h,fun h=>tR h⟩
theorem RT.step {ops:Array Oper} {F:(Nat→Value)→Act} {P:Nat→Value→Prop} {n A:Nat} {w0:World} {Y Z:World→Value→Prop} {l:Array Bool} {vs:Nat→Value} (i:Nat) (v:Value) {a:Act} (hi:i∈Region.ready .any ops l) (hno:ops.size=n) (hA:l.getD A false=false) (hA1:l.getD (A+1) false=false) (hiA:i<A) (hl:l.size=n) (hcl:eG ops l) (hf:∀k,l.getD k false=true→P k (vs k)) (hv:P i v) (ha:a=F (fun k=>if k=i then v else vs k)):RT ops F P n A w0 Y Z (l.setIfInBounds i true) a w0:=by
 refine⟨fun k=>if k=i then v else vs k,ha,by simp[hl],hcl.step hi (by omega),fun _=>⟨rfl,fun k hk=>?_⟩,fun h=>?_,fun h=>?_⟩
 ·by_cases hki:k=i
  ·have hv2:P k v:=by rw[hki];exact hv
   exact Eq.mpr (congrArg (fun z=>P k z) (if_pos hki)) hv2
  ·rw[getD_set_ne false (fun e=>hki e.symm)]at hk;exact Eq.mpr (congrArg (fun z=>P k z) (if_neg hki)) (hf k hk)
 ·rw[getD_set_ne false (by omega),hA]at h;cases h
 ·rw[getD_set_ne false (by omega),hA1]at h;cases h
theorem RT.last {ops:Array Oper} {F:(Nat→Value)→Act} {P:Nat→Value→Prop} {n A:Nat} {w0 u':World} {Y Z:World→Value→Prop} {l:Array Bool} {vs:Nat→Value} (v:Value) {a:Act} (hi:A∈Region.ready .any ops l) (hno:ops.size=n) (hAn:A<n) (hA1:l.getD (A+1) false=false) (hl:l.size=n) (hcl:eG ops l) (hv:Y u' v) (ha:a=F (fun k=>if k=A then v else vs k)):RT ops F P n A w0 Y Z (l.setIfInBounds A true) a u':=by
 refine⟨fun k=>if k=A then v else vs k,ha,by simp[hl],hcl.step hi (by omega),fun h=>?_,fun _ _=>Eq.mpr (congrArg (fun z=>Y u' z) (if_pos rfl)) hv,fun h=>?_⟩
 ·rw[iE false (by omega)]at h;cases h
 ·rw[getD_set_ne false (by omega),hA1]at h;cases h
theorem RT.fin {ops:Array Oper} {F:(Nat→Value)→Act} {P:Nat→Value→Prop} {n A:Nat} {w0 u':World} {Y Z:World→Value→Prop} {l:Array Bool} {vs:Nat→Value} (v:Value) {a:Act} (hi:A+1∈Region.ready .any ops l) (hno:ops.size=n) (hA:l.getD A false=true) (hAn:A+1<n) (hl:l.size=n) (hcl:eG ops l) (hz:Z u' v) (ha:a=F (fun k=>if k=A+1 then v else vs k)):RT ops F P n A w0 Y Z (l.setIfInBounds (A+1) true) a u':=by
 refine⟨_,ha,by simp[hl],hcl.step hi (by omega),fun h=>?_,fun _ h=>?_,fun _=>Eq.mpr (congrArg (fun z=>Z u' z) (if_pos rfl)) hz⟩
 ·rw[getD_set_ne false (by omega),hA]at h;cases h
 ·rw[iE false (by omega)]at h;cases h
theorem MK {nn l id:Nat} {P:Program} {ops:Array Oper} {Q:Exit→Act→World→Prop} (F:(Nat→Value)→Act) (K:Nat→Value→Prop) (n A:Nat) (w0:World) (Y Z:World→Value→Prop) {a:Act} (hm:P.follows .mixedOrders=true) (h0:RT ops F K n A w0.drew Y Z (Array.replicate ops.size false) a w0.drew) (hs:∀li a w,RT ops F K n A w0.drew Y Z li a w→∀i∈Region.ready .any ops li,wpOpIn (Fence.wide.inRound l) nn P ops Q i (RT ops F K n A w0.drew Y Z (li.setIfInBounds i true)) a w) (he:∀li a w,RT ops F K n A w0.drew Y Z li a w→Region.ready .any ops li=[]→Q .normal a w):(Code.region id ops true).wpIn (Fence.wide.inRound l) nn P Q a w0:=
 wpIn_region_any hm (yE hs he ops.size _ a _ (by rw[dU];exact Nat.le_refl _) h0)
theorem GN {nn l2 l m i:Nat} {P:Program} {ops:Array Oper} {o:Oper} {Q:Exit→Act→World→Prop} {K:Act→World→Prop} {a:Act} {u:World} {R:Ending→World→Prop} (ho:ops[i]? =some o) (hgd:o.guard=none) (f x:Operand) (ty:Array TypeId) (hop:o.op= .call {callee:=.value f,args:=#[x],argTypes:=ty}) (hf:a.eval f= .func (.yield l) #[] #[]) (v:Value) (hx:a.eval x=v) (hY:YieldAt Fence.wide m P l #[v] u R) (h:∀e W',R e W'→∃bv,e= .returned bv∧K (a.put o.dst bv) W'):wpOpIn (Fence.wide.inRound l2) nn P ops Q i K a u:=by
 obtain⟨fn,tmps,assign,body,hy,hR⟩:=hY;have hw:Region.wanted o (yielded ops a.tmps)=true:=by simp[Region.wanted,hgd]
 unfold wpOpIn;rw[ho];simp only[hw,if_true];refine⟨fun _ _=>trivial,?_⟩;rw[show(Fence.wide.inRound l2).round=some l2 from rfl,Oper.semAt_some l2 _ _ (by rw[hop];intro c hc;cases hc)];have hrun:(execOp a.eval o).run P u= .ok (.round l fn tmps assign body) u:=by
  have e1:execOp a.eval o=(do let d ←resolve a.eval {callee:=.value f,args:=#[x],argTypes:=ty} o.type;invoke d.target d.args):=by unfold execOp;rw[hop]
  have e2:(resolve a.eval {callee:=.value f,args:=#[x],argTypes:=ty} o.type).run P u= .ok {target:=.fn (.yield l) #[],args:=#[v]} u:=by
   show(Deferred.ofValue (a.eval f) (#[x].map a.eval)).run P u=_;have e3:(#[x]:Array Operand).map a.eval=#[v]:=by rw[←hx];simp
   rw[hf,e3];simp[Deferred.ofValue,Sem.run_pure]
  rw[e1,Sem.run_bind,e2];exact hy
 rw[hrun];refine⟨fun e=>(by cases e),?_⟩;refine RoundIn.mono (ML (m':=nn-1) hR) (fun e W' he=>?_);obtain⟨bv,rfl,hk⟩:=h e W' he;exact hk
end Go.Proofs.YtncffcaabnjioaaGreat
