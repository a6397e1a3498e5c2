/-
  What a sum's numbers are behind an operator, so many times.
-/
import Derived.Test.YtdidlcjhodejjaaGreatMah
set_option maxHeartbeats 4000000
set_option maxRecDepth 100000
namespace Go.Proofs.YtdidlcjhodejjaaGreat
open Go.RowKit
set_option linter.unusedVariables false
theorem BX {f:Nat→T} {m:M}:∀(u i:Nat),(f (i+u)).m≠m→dN f (u+1) i m=dN f u i m
 |0,i,h=>by show(if eF (f i).m m=true then(f i).c else 0)=0;exact if_neg (fun e=>h (cM.1 e))
 |u+1,i,h=>by
  have:=BX (f:=f) (m:=m) u (i+1) (by rw[show i+1+u=i+(u+1) by omega];exact h);show(if eF (f i).m m=true then(f i).c else dN f (u+1) (i+1) m)=(if eF (f i).m m=true then(f i).c else dN f u (i+1) m)
  rw[this]
theorem FY {f:Nat→T} {m:M}:∀(u i:Nat),(∀j,i≤j→j<i+u→(f j).m≠m)→(f (i+u)).m=m→dN f (u+1) i m=(f (i+u)).c
 |0,i,_,h=>by show(if eF (f i).m m=true then(f i).c else 0)=(f i).c;exact if_pos (cM.2 h)
 |u+1,i,h0,h=>by
  rw[dN,if_neg (fun e=>h0 i (Nat.le_refl _) (by omega) (cM.1 e))];have:=FY (f:=f) (m:=m) u (i+1) (fun j h1 h2=>h0 j (by omega) (by omega)) (by rw[show i+1+u=i+(u+1) by omega];exact h)
  rw[this,show i+1+u=i+(u+1) by omega]
theorem nT {k:Int} {f:Nat→T} {c:M→Int} {n:Nat} (F:Fl f n) (hc:∀m,0≤c m∧c m≤100):∀(i:Nat),i≤n→∀m,iV k f c i m=(c m+k*dN f i 0 m%101)%101
 |0,_,m=>by have:=hc m;simp only[iV,dN,Int.mul_zero];omega
 |i+1,hi,m=>by
  have ih:=nT (k:=k) F hc i (by omega);simp only[iV];by_cases hm:m=(f i).m
  ·subst hm;rw[IM,ih];have h0:dN f i 0 (f i).m=0:=uR i 0 (fun j _ h2 e=>by have:=F.1 j i (by omega) (by omega);rw[e]at this;omega)
   have h1:dN f (i+1) 0 (f i).m=(f i).c:=by have:=FY (f:=f) (m:=(f i).m) i 0 (fun j _ h2 e=>by have:=F.1 j i (by omega) (by omega);rw[e]at this;omega) (by rw[Nat.zero_add]);rw[this,Nat.zero_add]
   rw[h0,h1];have:=hc (f i).m
   simp only[Int.mul_zero];omega
  ·rw[EP hm,ih,BX i 0 (by rw[Nat.zero_add];exact fun e=>hm e.symm)]
open Go.RowKit Go.Maps Go.Sort Go.Shelf
theorem bZ.range {w:World} {b n:Nat} {c:M→Int} (h:bZ w b n c):∀m,0≤c m∧c m≤100:=by obtain⟨D,_,hc,_⟩:=h;exact hc
theorem yZ (w:World):bZ (w.alloc (.map #[] 0)) w.heap.size 0 (fun _=>0):=
 ⟨.map [],World.ownsMap_made w _ _ _,fun _=>⟨Int.le_refl _,by show(0:Int)≤100;decide⟩,fun m _=>⟨rfl,by simp[Maps.has]⟩,fun kl h=>by simp[Maps.has]at h⟩
theorem Rd.apart {w:World} {a:Option Addr} {n cap:Nat} {f:Nat→T} (h:Rd w a n cap f) {b:Nat} (hb:w.heap.size≤b):n=0∨∀b' off,a=some ⟨b',off,none⟩→some b'≠some b:=by
 rcases h.2.2 with h0|⟨pb,off,rfl,hlt,_⟩
 ·exact .inl h0
 ·exact .inr (fun b' off' e e'=>by cases e;cases e';omega)
def FF (K:List T):List T×Bool:=if K.length≤400 then(K,true)else([],false)
theorem TD (w:World) (b n:Nat) (c:M→Int) (h:bZ w b n c) (hn:n≤1000000) {K:List T} (hK:aK K) (hKc:∀m,m.ok=true→aM K m=c m):Calls Tryz.prog 151 #[.map (some b)] w fun e w'=>∃v,e= .returned (.tuple #[v,.bool (FF K).2])∧Below w.heap.size w w'∧w'.ownsRow w.heap.size 42 5 v (FF K).1.length (aE (FF K).1):=by
 by_cases h400:K.length≤400
 ·have e:FF K=(K,true):=if_pos h400;rw[e];exact Kp Fz w b n c h hn hK hKc h400
 ·have e:FF K=([],false):=if_neg h400;rw[e];refine(Ko Fz w b n c h hn hK hKc h400).mono ?_;rintro r w5 ⟨rfl,hb5⟩;exact⟨_,rfl,hb5,mI w5 _⟩
end Go.Proofs.YtdidlcjhodejjaaGreat
namespace Go.Proofs.YtdidlcjhodejjaaGreat
open Go.RowKit
set_option linter.unusedVariables false
theorem xE {w:World} {a:Option Addr} {n cap:Nat} {f g:Nat→T} (h:Rd w a n cap f) (e:∀i,i<n→f i=g i):Rd w a n cap g:=
 ⟨h.1,h.2.1,h.2.2.imp id (fun⟨b,off,h1,h2,h3⟩=>⟨b,off,h1,h2,fun i hi=>by rw[←e i hi];exact h3 i hi⟩)⟩
theorem gR (w:World) (t:T):RL (w.alloc (.cells #[.int .i64 t.c,.int .i64 t.m.x,.int .i64 t.m.y,.int .i64 t.m.d,.int .i64 t.m.e] 42)) (some ⟨w.heap.size,0,none⟩) 1 [t]:=
 xE (n:=1) (g:=lf [t]) (Fa w t) (fun i hi=>by
  have h0:i=0:=by omega
  subst h0
  rfl)
variable {w:World} {a b:Option Addr} {ca cb:Nat} {L K:List T}
end Go.Proofs.YtdidlcjhodejjaaGreat
namespace Go.Proofs.YtdidlcjhodejjaaGreat
open Go.RowKit
set_option linter.unusedVariables false
attribute [local go_sem] Oper.semAt_some
def eK (W W':World):Prop:=W.heap.size≤W'.heap.size∧∀(k:Nat) (o:Obj),W.heap[k]? =some o→o.isCells=true→W'.heap[k]? =some o
theorem zG (W:World):eK W W:=⟨Nat.le_refl _,fun _ _ h _=>h⟩
theorem dT {A B C:World} (h:eK A B) (k:eK B C):eK A C:=⟨jZ h.1 k.1,fun i o hi ho=>k.2 i o (h.2 i o hi ho) ho⟩
theorem vS {w:World} (W:World) (l:Nat) (o o':Obj) (_:w.heap.size≤l) (h:W.heap[l]? =some o) (hc:o.isCells=false) (_:o.isWalk=false):eK W (W.putObj l o'):=
 ⟨by rw[World.putObj_size];exact Nat.le_refl _,fun k o2 hk hc2=>(World.putObj_heap_other (fun e=>by subst e;rw[h]at hk;cases hk;rw[hc]at hc2;cases hc2)).trans hk⟩
theorem dK (W:World) (o:Obj):eK W (W.alloc o):=⟨by simp,fun k o2 hk _=>(Below.heap_alloc W o k (Array.getElem?_eq_some_iff.1 hk).1).trans hk⟩
theorem zF (W:World):eK W W.drew:=⟨Nat.le_refl _,fun _ _ h _=>h⟩
theorem vT {W W':World} {row:Option Nat} (hg:W.grownBy W' row) (hr:∀k,row=some k→∀o,W.heap[k]? =some o→o.isCells=false):eK W W':=
 ⟨hg.size,fun k o hk hc=>(hg.block k (Array.getElem?_eq_some_iff.1 hk).1 (fun e=>by have:=hr k e.symm o hk;rw[this]at hc;cases hc)).trans hk⟩
theorem fO {W W':World} {B:Nat} {t:TypeId} {v:Value} (h:Boxed W B t v) (hk:eK W W'):Boxed W' B t v:=hk.2 B _ h rfl
theorem Lv (w:World):w.grownBy w.drew none:=⟨rfl,rfl,rfl,Nat.le_refl _,fun _ _ _=>rfl⟩
abbrev TK (lim:Nat):Type:={p:Int×Int // 0≤p.1∧p.1≤(lim:Int)∧0≤p.2∧p.2≤100}
def XI {lim:Nat} (x:TK lim):Array Value:=#[.int .i64 x.1.1,.int .i64 x.1.2]
def wy (s t k:Int):Int:=rQ (fQ s k) (lD t k)
theorem uP (a b:Int):0≤rQ a b∧rQ a b≤100:=by unfold rQ;split<;>omega
def xL (lim:Nat) (s t:Int) (k:Nat):TK lim:=⟨((if k≤lim then(k:Int)else 0),wy s t k),by
 have:=uP (fQ s k) (lD t k);refine⟨?_,?_,this.1,this.2⟩
 ·show 0≤(if k≤lim then(k:Int)else 0);split<;>omega
 ·show(if k≤lim then(k:Int)else 0)≤_
  split<;>omega⟩
def qK (lim:Nat) (s t:Int) (k:Nat):List (TK lim):=(List.range k).map (xL lim s t)
theorem EQ (lim:Nat) (s t:Int) (k:Nat):qK lim s t k++[xL lim s t k]=qK lim s t (k+1):=by simp[qK,List.range_succ]
theorem ZN (lim:Nat) (s t:Int) (k:Nat):(qK lim s t k).length=k:=by simp[qK]
theorem On {n:Nat} (hn:1≤n) (l B1 B2:Nat) (s t:Int) (lim:Nat) (s0:0≤s) (s1:s≤15) (t0:0≤t) (t1:t≤15) (hl:(lim:Int)=min s t) (J Jx:List (TK lim)→World→Prop) (hJd:∀pre W,J pre W→J pre W.drew) (hY:∀pre x W,J pre W→pre.length<lim+1→YieldAt Fence.wide (n-1) Tryz.prog l (XI x) W fun e W'=>(e= .returned (.bool true)∧J (pre++[x]) W'∧eK W W')∨(e= .returned (.bool false)∧Jx (pre++[x]) W')) (W:World) (hb1:Boxed W B1 3 (.int .i64 s)) (hb2:Boxed W B2 3 (.int .i64 t)) (h0:J [] W):CallsIn Fence.wide n Tryz.prog 192 #[.func (.yield l) #[] #[],.pointer (some ⟨B1,0,none⟩),.pointer (some ⟨B2,0,none⟩)] W fun e W'=>(∃v,e= .returned v)∧((∃xs,xs=qK lim s t (lim+1)∧J xs W')∨(∃pre,True∧Jx pre W')):=by
 refine callsIn_of_wp Tryz.func192 rfl trivial ?_ rfl;simp only[Tryz.ntmps192,List.size_toArray,List.length_cons,List.length_nil,Nat.reduceAdd,Nat.reduceSub,Array.replicate_succ,Array.replicate_zero,List.push_toArray,List.append_toArray,List.nil_append,List.cons_append];have c1:=hb1.cell
 have c2:=hb2.cell
 gi_wp2
 all_goals
  gi_loopw [10] (fun v wr=>∃k:Nat,k≤lim+1∧v= .int .i64 (k:Int)∧J (qK lim s t k) wr∧Boxed wr B1 3 (.int .i64 s)∧Boxed wr B2 3 (.int .i64 t)) (fun v _=>(lim+1)-(RowKit.intOf v).toNat)
  case atStart=>
   exact⟨0,Nat.zero_le _,rfl,h0,hb1,hb2⟩
  case round=>
   obtain⟨k,hk,rfl,hJ,b1,b2⟩:=hrel;have c1:=b1.cell
   have c2:=b2.cell;by_cases hlt:k≤lim
   ·have hk1:(k:Int)≤s:=by omega
    have hk2:(k:Int)≤t:=by omega
    have hYk:=hY (qK lim s t k) (xL lim s t k) _ (hJd _ _ hJ) (by rw[ZN];omega);rw[EQ]at hYk;have ek:XI (xL lim s t k)=#[.int .i64 (k:Int),.int .i64 (wy s t k)]:=by simp[XI,xL,hlt]
    rw[ek]at hYk;have hw:rQ (fQ s k) (lD t k)=wy s t k:=rfl
    obtain⟨fn,tmps,assign,body,hy,hRd⟩:=hYk
    gi_wp2_with fail
    refine(wpIn_wide (n:=n)).2 ?_
    go_region_with (first
     |(go_at_call 193;refine(Ho _ _ _).mono ?_;rintro e w' ⟨rfl,hw'⟩;obtain rfl:=hw'.symm;clear hw')
     |(go_at_call 194;refine(Qb _ _ _).mono ?_;rintro e w' ⟨rfl,hw'⟩;obtain rfl:=hw'.symm;clear hw')
     |(go_at_call 72;refine(Qp _ _ _).mono ?_;rw[hw];rintro e w' ⟨rfl,hw'⟩;obtain rfl:=hw'.symm;clear hw'))
    all_goals
     gi_wp2
     refine hRd.mono ?_;rintro e W3 (⟨rfl,hJ3,hk3⟩|⟨rfl,hJx3⟩)
     ·gi_wp2
      go_roundw;case rel=>exact⟨k+1,by omega,by go_num,hJ3,fO (W:=wr.drew) b1 hk3,fO (W:=wr.drew) b2 hk3⟩
      case measure=>simp[RowKit.intOf];omega
     ·gi_wp2
      refine bY (results_none rfl _ _ _) rfl ?_;exact⟨⟨_,rfl⟩,.inr ⟨_,trivial,hJx3⟩⟩
   ·have hk3:k=lim+1:=by omega
    subst hk3
    gi_wp2
    go_end0
    exact⟨⟨_,rfl⟩,.inl ⟨_,rfl,hJ⟩⟩
theorem EL {n:Nat} (hn:1≤n) (B1 B2:Nat) (s t:Int) (lim:Nat) (s0:0≤s) (s1:s≤15) (t0:0≤t) (t1:t≤15) (hl:(lim:Int)=min s t) (w:World) (hb1:Boxed w B1 3 (.int .i64 s)) (hb2:Boxed w B2 3 (.int .i64 t)):SeqStopsK Fence.wide n Tryz.prog 192 #[.pointer (some ⟨B1,0,none⟩),.pointer (some ⟨B2,0,none⟩)] XI eK (fun xs=>xs=qK lim s t (lim+1)) (fun _=>True) (lim+1) w:=fun l J Jx W hW hJ _ hY h0=>
 On hn l B1 B2 s t lim s0 s1 t0 t1 hl J Jx (fun pre W h=>hJ pre W W.drew none h (Lv W) (fun r e=>by cases e)) hY W ((hW.block B1 hb1.lt).trans hb1) ((hW.block B2 hb2.lt).trans hb2) h0
theorem Gj {F:Fence} {n:Nat} (h7:F.fn 188) (hro:F.round=none) (s t:Int) (w:World):CallsIn F n Tryz.prog 188 #[.int .i64 s,.int .i64 t] w fun e w'=>e= .returned (.func (.func 192) #[] #[.pointer (some ⟨w.heap.size,0,none⟩),.pointer (some ⟨w.heap.size+1,0,none⟩)])∧w'=(w.alloc (.cells #[.int .i64 s] 3)).alloc (.cells #[.int .i64 t] 3):=by
 refine callsIn_of_wp Tryz.func188 rfl h7 ?_ hro;simp only[Tryz.ntmps188,List.size_toArray,List.length_cons,List.length_nil,Nat.reduceAdd,Nat.reduceSub,Array.replicate_succ,Array.replicate_zero,List.push_toArray,List.append_toArray,List.nil_append,List.cons_append]
 gi_wp2
 go_ret;exact⟨rfl,rfl⟩
end Go.Proofs.YtdidlcjhodejjaaGreat
namespace Go.Proofs.YtdidlcjhodejjaaGreat
open Go.RowKit
set_option linter.unusedVariables false
theorem ZF {m m':Nat} {P:Program} {l:Nat} {f:FuncId} {tmps:Array Value} {assign body:Code} {w:World} {R:Ending→World→Prop} (h:RoundIn Fence.wide m P l f tmps assign body w R):RoundIn Fence.wide m' P l f tmps assign body w R:=⟨h.1,fun c cs _=>h.2 c cs (room_wide _)⟩
theorem rM {W W':World} {row:Option Nat} {B:Nat} (hg:W.grownBy W' row) (hr:∀r,row=some r→B≤r) {k:Nat} {o:Obj} (hk:W.heap[k]? =some o) (hkB:k<B):W'.heap[k]? =some o:=
 (hg.block k (Array.getElem?_eq_some_iff.1 hk).1 (fun e=>by have:=hr k e.symm;omega)).trans hk
theorem wL {B B':Nat} {W W':World} (h:KeepsFrom B W W') (hB:B≤B'):KeepsFrom B' W W':=⟨h.size,fun k o hk=>h.same k o (jZ hB hk)⟩
def Mi {α:Type} (P:Program) (g:Nat) (lb:Array Value) (encs:α→Array Value) (xs:List α) (w:World):Prop:=
 ∀(l:Nat) (J:List α→World→Prop) (W:World),Below w.heap.size w W→OwnFrom W.heap.size J→
  (∀pre x W1,J pre W1→YieldAt Fence.wide 0 P l (encs x) W1 fun e W'=>e= .returned (.bool true)∧J (pre++[x]) W'∧eK W1 W'∧KeepsFrom W.heap.size W1 W')→
  J [] W→Calls P g (#[.func (.yield l) #[] #[]]++lb) W fun e W'=>(∃v,e= .returned v)∧J xs W'
theorem Og {α:Type} {P:Program} {n:Nat} {g:Operand} {ps:Array Tmp} {assign body:Code} {Q:Exit→Act→World→Prop} {a:Act} {w:World} (h1:1≤n) {gf:Nat} {lb:Array Value} (hg:a.eval g= .func (.func gf) #[] lb) (eg:∀args w,(callFunc gf args).run P w= .ok (.enter gf args) w) {encs:α→Array Value} {xs:List α} {w0:World} (hseq:Mi P gf lb encs xs w0) (hb0:Below w0.heap.size w0 w) (hps:∀x,(encs x).size=ps.size) (I:List α→World→Prop) (hI:OwnFrom w.heap.size I) (h0:I [] w) (Ax:α→Act→World→Prop) (hAx:∀x a',OwnFrom w.heap.size (fun(_:Unit) W=>Ax x a' W)) (hassign:∀(l:Nat) (pre:List α) (x:α) (W:World) (K:Act→World→Prop),I pre W→(∀a' W',KeepsFrom w.heap.size W W'→eK W W'→I pre W'→Ax x a' W'→K a' W')→assign.wpIn (Fence.wide.inRound l) 0 P (Exit.then K (fun _ _ _=>False)) {tmps:=(ps.zip (encs x)).foldl (fun t (p,v)=>t.setIfInBounds p v) a.tmps,defers:=[]} W) (hbody:∀(l:Nat) (pre:List α) (x:α) (a':Act) (W:World),I pre W→Ax x a' W→body.wpIn (Fence.wide.inRound l) 0 P (fun e _ W'=>e= .normal∧KeepsFrom w.heap.size W W'∧eK W W'∧I (pre++[x]) W') a' W) (hdone:∀(D:Nat) (W:World),w.heap.size≤D→I xs W→W.heap[D]? =some (.deferred (some []))→Q .normal {a with defers:={target:=.collected D,args:=#[]}::a.defers} W):(Code.rangeFunc g ps assign body).wpIn Fence.wide n P Q a w:=by
 refine wpIn_rangeFunc ?_;intro fn hfn;obtain⟨rec,hrec⟩:∃rec:LoopState→Option Code→Loop,rec=fun st pe=>{state:=st,pending:=pe,fn,tmps:=a.tmps,params:=ps,assign,body,defers:=w.heap.size}:=⟨_,rfl⟩
 obtain⟨W1,hW1⟩:∃W1,(w.alloc (.deferred (some []))).alloc (.loop (rec .ready none))=W1:=⟨_,rfl⟩
 have hs1:W1.heap.size=w.heap.size+2:=by rw[←hW1];simp
 have hL1:W1.heap[w.heap.size+1]? =some (.loop (rec .ready none)):=by
  rw[←hW1];have:=World.alloc_heap_new (w.alloc (.deferred (some []))) (.loop (rec .ready none))
  rwa[World.size_alloc]at this
 have hK1:W1.heap[w.heap.size]? =some (.deferred (some [])):=by rw[←hW1];exact(Below.heap_alloc _ _ _ (by simp)).trans (World.alloc_heap_new w _)
 have hI1:I [] W1:=by rw[←hW1];exact hI.alloc _ (hI.alloc _ h0)
 have hb1:Below w0.heap.size w0 W1:=by rw[←hW1];exact hb0.trans ((((bL _ w).alloc (Nat.le_refl _) _).alloc (by simp) _).mono hb0.size)
 refine⟨w.heap.size+1,[{target:=.collected w.heap.size,args:=#[]}],W1,{target:=.fn (.func gf) lb,args:=#[.func (.yield (w.heap.size+1)) #[] #[]]},W1,gf,
  #[.func (.yield (w.heap.size+1)) #[] #[]]++lb,W1,?_,?_,?_,?_,fun _=>h1,?_⟩
 ·rw[←hW1,hrec];exact run_enterLoop_outer _ _ _ _ _
 ·simp only[resolve,hg];simp[go_sem]
 ·intro f' _;exact trivial
 ·simp[invoke,go_sem,eg]
 ·refine callsIn_wide.2 ((hseq (w.heap.size+1) (fun pre W=>I pre W∧W.heap[w.heap.size+1]? =some (.loop (rec .ready none))∧W.heap[w.heap.size]? =some (.deferred (some []))) W1 hb1
   (fun s A B row hs hg' hr=>⟨hI s A B row hs.1 hg' (fun r e=>⟨by have:=(hr r e).1;omega,(hr r e).2⟩),rM hg' (B:=W1.heap.size) (fun r e=>(hr r e).1) hs.2.1 (by omega),rM hg' (B:=W1.heap.size) (fun r e=>(hr r e).1) hs.2.2 (by omega)⟩)
   ?_ ⟨hI1,hL1,hK1⟩).mono ?_)
  ·rintro pre x W ⟨hi,hl,hk⟩;have hy:=run_yield (P:=P) (args:=encs x) hl (by rw[hrec];exact hps x)
   rw[hrec]at hy;refine⟨fn,_,assign,body,hy,roundIn_of_wpIn hfn (hassign _ pre x W _ hi ?_)⟩;clear hy;intro a' Wa hkfa hkpa hia hax;have hla:=hkfa.same _ _ (by omega) hl rfl
   have hka:=hkfa.same _ _ (Nat.le_refl _) hk rfl;have hlt:w.heap.size+1<Wa.heap.size:=(Array.getElem?_eq_some_iff.1 hla).1
   refine⟨_,run_beginRound hla (by rw[hrec]),?_⟩;have hl2:(Wa.putObj (w.heap.size+1) (.loop {rec .ready none with state:=.busy})).heap[w.heap.size+1]? =some (.loop {rec .ready none with state:=.busy}):=World.putObj_heap_same hlt
   have hk2:(Wa.putObj (w.heap.size+1) (.loop {rec .ready none with state:=.busy})).heap[w.heap.size]? =some (.deferred (some [])):=(World.putObj_heap_other (by omega)).trans hka
   have hw2:eK Wa (Wa.putObj (w.heap.size+1) (.loop {rec .ready none with state:=.busy})):=vS (w:=w) _ _ _ _ (by omega) hla rfl rfl;refine wpIn_mono (hbody _ pre x a' _ (hI.putObj _ hia (by omega) hla rfl) ((hAx x a').putObj (s:=()) _ hax (by omega) hla rfl)) ?_;rintro e a3 W3 ⟨rfl,hk3,hkp3,hi3⟩;have hl3:=hk3.same _ _ (by omega) hl2 rfl
   have hr:=run_endRound (P:=P) none hl3;refine⟨_,_,hr,rfl,⟨hI.putObj _ hi3 (by omega) hl3 rfl,?_,(World.putObj_heap_other (by omega)).trans (hk3.same _ _ (Nat.le_refl _) hk2 rfl)⟩,dT hkpa (dT (dT hw2 hkp3) (vS (w:=w) _ _ _ _ (by omega) hl3 rfl rfl)),(wL hkfa (by omega)).trans ((KeepsFrom.of_grownBy (grownBy_putObj' Wa (w.heap.size+1) (.loop {rec .ready none with state:=.busy})) (fun j e=>by cases e;omega)).trans ((wL hk3 (by omega)).trans (KeepsFrom.of_grownBy (grownBy_putObj' W3 (w.heap.size+1) _) (fun j e=>by cases e;omega))))⟩;rw[hrec];exact World.putObj_heap_same (Array.getElem?_eq_some_iff.1 hl3).1
  ·rintro e W2 ⟨⟨v,rfl⟩,hi,hl,hk⟩;refine⟨none,_,by have:=run_endLoop (P:=P) hl (by rw[hrec];simp);rw[hrec]at this;exact this,hdone _ _ (Nat.le_refl _) (hI.putObj _ hi (by omega) hl rfl) ((World.putObj_heap_other (by omega)).trans hk)⟩
open Go.RowKit Go.Maps
attribute [local go_sem] Oper.semAt_some
abbrev TO:Type:={t:T // t.m.ok=true∧0≤t.c∧t.c≤100}
def Mw (x:TO):Array Value:=#[.agg #[.int .i64 x.1.c,.int .i64 x.1.m.x,.int .i64 x.1.m.y,.int .i64 x.1.m.d,.int .i64 x.1.m.e]]
def pG (c:M→Int) (xs:List TO):M→Int:=xs.foldl (fun c t=>oJ c t.1.m t.1.c) c
theorem LY (c:M→Int) (xs:List TO) (x:TO):pG c (xs++[x])=oJ (pG c xs) x.1.m x.1.c:=by simp[pG]
theorem sF {α β:Type} (k:Nat) (f:α→List β) (h:∀x,(f x).length=k):∀l:List α,(l.flatMap f).length=l.length*k
 |[]=>by simp
 |x::r=>by rw[List.flatMap_cons,List.length_append,h,sF k f h r,List.length_cons,Nat.add_mul];omega
def dL (W:World) (Bx:Nat) (t:T):Prop:=W.heap[Bx]? =some (.cells #[.int .i64 t.c,.int .i64 t.m.x,.int .i64 t.m.y,.int .i64 t.m.d,.int .i64 t.m.e] 42 (0,0))
theorem dL.cells {W:World} {Bx:Nat} {t:T} (h:dL W Bx t):W.cell? ⟨Bx,0,none⟩=some (.int .i64 t.c)∧W.cell? ⟨Bx,1,none⟩=some (.int .i64 t.m.x)∧W.cell? ⟨Bx,2,none⟩=some (.int .i64 t.m.y)∧W.cell? ⟨Bx,3,none⟩=some (.int .i64 t.m.d)∧W.cell? ⟨Bx,4,none⟩=some (.int .i64 t.m.e):=by unfold dL at h;refine⟨?_,?_,?_,?_,?_⟩<;>(unfold World.cell?;simp only[h];rfl)
theorem yP {B Bx:Nat} {o:Obj} (ho:o.isCells=true) {X Y:World} {row:Option Nat} (h:X.heap[Bx]? =some o) (hg:X.grownBy Y row) (hr:∀r,row=some r→B≤r∧∃o:Obj,X.heap[r]? =some o∧o.isCells=false):Y.heap[Bx]? =some o:=
 (hg.block Bx (Array.getElem?_eq_some_iff.1 h).1 (fun e=>by obtain⟨_,o',ho',hc⟩:=hr Bx e.symm;rw[h]at ho';cases ho';rw[ho]at hc;cases hc)).trans h
def allM:List M:=(List.range 16).flatMap fun(x:Nat)=>(List.range 16).flatMap fun(y:Nat)=>(List.range 16).flatMap fun(d:Nat)=>(List.range 16).map fun(e:Nat)=>(⟨(x:Int),(y:Int),(d:Int),(e:Int)⟩:M)
theorem Am:allM.length=65536:=by unfold allM;rw[sF (16*(16*16)) _ (fun x=>by rw[sF (16*16) _ (fun y=>by rw[sF 16 _ (fun d=>by simp)];simp)];simp)];simp
theorem Ao {m:M} (h:m.ok=true):m∈allM:=by obtain⟨x1,x2,y1,y2,d1,d2,e1,e2⟩:=M.ok_iff.1 h;unfold allM;refine List.mem_flatMap.2 ⟨m.x.toNat,List.mem_range.2 (by omega),List.mem_flatMap.2 ⟨m.y.toNat,List.mem_range.2 (by omega),List.mem_flatMap.2 ⟨m.d.toNat,List.mem_range.2 (by omega),List.mem_map.2 ⟨m.e.toNat,List.mem_range.2 (by omega),?_⟩⟩⟩⟩;cases m;simp only at x1 y1 d1 e1⊢;rw[Int.toNat_of_nonneg x1,Int.toNat_of_nonneg y1,Int.toNat_of_nonneg d1,Int.toNat_of_nonneg e1]
theorem bZ.cap {w:World} {b n:Nat} {c:M→Int} (h:bZ w b n c):bZ w b 65536 c:=by
 obtain⟨D,hown,hc,hat,hks⟩:=h;have hs:Maps.size D≤65536:=by rw[←Am];exact KW hown allM (fun kl hkl=>by obtain⟨m,hm,rfl⟩:=hks kl hkl;exact⟨m,Ao hm,rfl⟩)
 refine⟨D,?_,hc,hat,hks⟩;obtain⟨es,clock,h1,h2,h3,h4⟩:=hown;subst h4;rw[size_eq,length_read]at hs;exact⟨es,clock,h1,h2,hs,rfl⟩
theorem bZ.lt {w:World} {b n:Nat} {c:M→Int} (h:bZ w b n c):b<w.heap.size:=by obtain⟨D,ho,_⟩:=h;exact ho.lt
theorem bZ.map {w:World} {b n:Nat} {c:M→Int} (h:bZ w b n c):∀o,w.heap[b]? =some o→o.isCells=false:=by obtain⟨D,⟨es,clock,h1,_⟩,_⟩:=h;intro o ho;rw[h1]at ho;cases ho;rfl
theorem GC {w W W':World} {b:Nat} {row:Option Nat} (h:w.grownBy W (some b)) (hg:W.grownBy W' row) (hr:∀r,row=some r→w.heap.size≤r):w.grownBy W' (some b):=
 ⟨hg.os.trans h.os,hg.tape.trans h.tape,hg.output.trans h.output,jZ h.size hg.size,fun k hk hne=>(hg.block k (jY hk h.size) (fun e=>by have:=hr k e.symm;omega)).trans (h.block k hk hne)⟩
theorem Id (w:World) (b:Nat) (c:M→Int) (h:bZ w b 65536 c) (g:Nat) (lb:Array Value) (eg:∀args w,(callFunc g args).run Tryz.prog w= .ok (.enter g args) w) (xs:List TO) (hseq:Mi Tryz.prog g lb Mw xs w):Calls Tryz.prog 182 #[.map (some b),.func (.func g) #[] lb] w fun e w'=>e= .returned (.tuple #[])∧bZ w' b 65536 (pG c xs)∧w.grownBy w' (some b):=by
 have hblt:=h.lt;have HS:=aA h
 have HQ:=aA hseq;clear h hseq;refine(callsIn_wide (n:=9)).1 ?_;refine callsIn_of_wp_marks Tryz.func182 rfl trivial ?_ rfl;simp only[Tryz.ntmps182,List.size_toArray,List.length_cons,List.length_nil,Nat.reduceAdd,Nat.reduceSub,Array.replicate_succ,Array.replicate_zero,List.push_toArray,List.append_toArray,List.nil_append,List.cons_append]
 gi_wp2
 have bs:=Boxed.new w 170 (.map (some b));have hg0:=World.grownBy_alloc w (.cells #[.map (some b)] 170) (some b)
 have hS0:=HS.out.grown (World.grownBy_alloc w (.cells #[.map (some b)] 170) none) (by simp);have hbw:Below w.heap.size w (w.alloc (.cells #[.map (some b)] 170)):=(bL _ w).alloc (Nat.le_refl _) _
 have hs0:(w.alloc (.cells #[.map (some b)] 170)).heap.size=w.heap.size+1:=by simp
 generalize w.alloc (.cells #[.map (some b)] 170)=W0 at *
 refine Og (by decide) (gf:=g) (lb:=lb) rfl eg HQ.out hbw (fun _=>rfl)
  (fun(pre:List TO) W=>bZ W b 65536 (pG c pre)∧(Boxed W w.heap.size 170 (.map (some b))∧w.grownBy W (some b)))
  (OwnFrom.and (fun s X Y row hs hg hr=>hs.grown hg (fun e=>by have:=(hr b e.symm).1;omega)) (OwnFrom.and (Own.from (boxed_own _ _ (fun _=>Value.map (some b))) _) (fun s X Y row hs hg hr=>GC hs hg (fun r e=>by have:=(hr r e).1;omega))))
  ⟨hS0,bs,hg0⟩
  (fun x a' W=>∃Bx,dL W Bx x.1∧a'=({tmps:=#[.map (some b),.func (.func g) #[] lb,.pointer (some ⟨w.heap.size,0,none⟩),undef,.pointer (some ⟨Bx,0,none⟩),.func (.func g) #[] lb,.agg #[.int .i64 x.1.c,.int .i64 x.1.m.x,.int .i64 x.1.m.y,.int .i64 x.1.m.d,.int .i64 x.1.m.e],undef,undef,undef,undef,undef,undef],defers:=[]}:Act))
  (fun x a' _ X Y row hs hg hr=>by obtain⟨Bx,h2,h3⟩:=hs;exact⟨Bx,yP rfl h2 hg hr,h3⟩)
  ?assign ?body ?done
 case assign=>
  rintro l pre x W K' ⟨hS,bS,hgW⟩ hK';obtain⟨t,ht⟩:=x;dsimp only[Mw]at hK'⊢
  gi_wp2
  exact hK' _ _ ((KeepsOthers.alloc _ _).from _) (dK _ _) ⟨hS.grown (World.grownBy_alloc W _ none) (by simp),bS.alloc _,hgW.trans (World.grownBy_alloc W _ (some b))⟩ ⟨W.heap.size,World.alloc_heap_new W _,rfl⟩
 case body=>
  rintro l pre x a' W ⟨hS,bS,hgW⟩ ⟨Bx,hX,rfl⟩;obtain⟨t,hto,htc,htc'⟩:=x;dsimp only at hX⊢;obtain⟨x0,x1,x2,x3,x4⟩:=hX.cells;have cS:=bS.cell
  have HSS:=aA hS;clear hS
  gi_wp2_with (first
   |(refine⟨trivial,rfl,?_⟩;gi_at_call 165;(refine(CallsIn.inRound l (callsIn_wide.2 (LF b 65536 _ t.c t.m W hto HSS.out (by unfold maxLen;omega) htc htc'))).mono ?_;rintro e w' ⟨rfl,hs',hg'⟩))
   |gi_in)
  have hk:eK W w':=vT hg' (fun k e o ho=>by cases e;exact HSS.out.map o ho);refine⟨KeepsFrom.of_grownBy hg' (fun j e=>by cases e;omega),hk,?_,fO bS hk,hgW.trans hg'⟩;rw[LY];exact hs'.cap
 case done=>
  rintro D W hD ⟨hS,bS,hgW⟩ hKd
  gi_wp2
  refine⟨by simp,.inl ⟨_,_,rfl,run_takeDeferred hKd,?_⟩⟩;exact⟨_,results_none rfl _ _ _,rfl,hS.grown (grownBy_putObj' W D (.deferred none)) (fun e=>by cases e;omega),GC hgW (grownBy_putObj' W D (.deferred none)) (fun r e=>by cases e;omega)⟩
end Go.Proofs.YtdidlcjhodejjaaGreat
namespace Go.Proofs.YtdidlcjhodejjaaGreat
open Go.RowKit
set_option linter.unusedVariables false
theorem FO {F:Fence} {n:Nat} {P:Program} {md:Region.Mode} {ops:Array Oper} {Q:Exit→Act→World→Prop} {I:Array Bool→Act→World→Prop} (hs:∀l a w,I l a w→∀i∈Region.ready md ops l,wpOpIn F n P ops Q i (I (l.setIfInBounds i true)) a w) (he:∀l a w,I l a w→Region.ready md ops l=[]→Q .normal a w):∀(fuel:Nat) (l:Array Bool) (a:Act) (w:World),iJ l≤fuel→I l a w→wpAnyIn F n P md ops Q fuel l a w
 |0,l,a,w,hf,hI=>by
  have hr:Region.ready md ops l=[]:=by
   rw[List.eq_nil_iff_forall_not_mem];intro i hi;have h0:=bR (mem_ready.1 hi).1
   exact lP l.toList (by unfold iJ at hf;omega) i (by simpa using h0)
  exact⟨hr,he l a w hI hr⟩
 |fuel+1,l,a,w,hf,hI=>by
  refine⟨fun hr=>he l a w hI hr,fun i hi=>?_⟩;have h0:=bR (mem_ready.1 hi).1
  have h1:=iK h0;exact wpOpIn_mono (fun a' w' h=>FO hs he fuel _ a' w' (by omega) h) (hs l a w hI i hi)
def RT (ops:Array Oper) (F:(Nat→Value)→Act) (P:Nat→Value→Prop) (n A:Nat) (w0:World) (Y Z:World→Value→Prop) (l:Array Bool) (a:Act) (u:World):Prop:=
 ∃vs:Nat→Value,a=F vs∧l.size=n∧fM ops l∧(l.getD A false=false→u=w0∧∀k,l.getD k false=true→P k (vs k))∧(l.getD A false=true→l.getD (A+1) false=false→Y u (vs A))∧(l.getD (A+1) false=true→Z u (vs (A+1)))
theorem RT.start {ops:Array Oper} {F:(Nat→Value)→Act} {P:Nat→Value→Prop} {n A:Nat} {w0:World} {Y Z:World→Value→Prop} {a:Act} (vs:Nat→Value) (ha:a=F vs):RT ops F P n A w0 Y Z (Array.replicate n false) a w0:=
 ⟨vs,ha,by simp,fM.start _ _,fun _=>⟨rfl,fun k h=>yR h⟩,fun h=>yR h,fun h=>yR h⟩
theorem RT.step {ops:Array Oper} {F:(Nat→Value)→Act} {P:Nat→Value→Prop} {n A:Nat} {w0:World} {Y Z:World→Value→Prop} {l:Array Bool} {vs:Nat→Value} (i:Nat) (v:Value) {a:Act} (hi:i∈Region.ready .any ops l) (hno:ops.size=n) (hA:l.getD A false=false) (hA1:l.getD (A+1) false=false) (hiA:i<A) (hl:l.size=n) (hcl:fM ops l) (hf:∀k,l.getD k false=true→P k (vs k)) (hv:P i v) (ha:a=F (fun k=>if k=i then v else vs k)):RT ops F P n A w0 Y Z (l.setIfInBounds i true) a w0:=by
 refine⟨fun k=>if k=i then v else vs k,ha,by simp[hl],hcl.step hi (by omega),fun _=>⟨rfl,fun k hk=>?_⟩,fun h=>?_,fun h=>?_⟩
 ·by_cases hki:k=i
  ·have hv2:P k v:=by rw[hki];exact hv
   exact Eq.mpr (congrArg (fun z=>P k z) (if_pos hki)) hv2
  ·rw[getD_set_ne false (fun e=>hki e.symm)]at hk;exact Eq.mpr (congrArg (fun z=>P k z) (if_neg hki)) (hf k hk)
 ·rw[getD_set_ne false (by omega),hA]at h;cases h
 ·rw[getD_set_ne false (by omega),hA1]at h;cases h
theorem RT.last {ops:Array Oper} {F:(Nat→Value)→Act} {P:Nat→Value→Prop} {n A:Nat} {w0 u':World} {Y Z:World→Value→Prop} {l:Array Bool} {vs:Nat→Value} (v:Value) {a:Act} (hi:A∈Region.ready .any ops l) (hno:ops.size=n) (hAn:A<n) (hA1:l.getD (A+1) false=false) (hl:l.size=n) (hcl:fM ops l) (hv:Y u' v) (ha:a=F (fun k=>if k=A then v else vs k)):RT ops F P n A w0 Y Z (l.setIfInBounds A true) a u':=by
 refine⟨fun k=>if k=A then v else vs k,ha,by simp[hl],hcl.step hi (by omega),fun h=>?_,fun _ _=>Eq.mpr (congrArg (fun z=>Y u' z) (if_pos rfl)) hv,fun h=>?_⟩
 ·rw[kT false (by omega)]at h;cases h
 ·rw[getD_set_ne false (by omega),hA1]at h;cases h
theorem RT.fin {ops:Array Oper} {F:(Nat→Value)→Act} {P:Nat→Value→Prop} {n A:Nat} {w0 u':World} {Y Z:World→Value→Prop} {l:Array Bool} {vs:Nat→Value} (v:Value) {a:Act} (hi:A+1∈Region.ready .any ops l) (hno:ops.size=n) (hA:l.getD A false=true) (hAn:A+1<n) (hl:l.size=n) (hcl:fM ops l) (hz:Z u' v) (ha:a=F (fun k=>if k=A+1 then v else vs k)):RT ops F P n A w0 Y Z (l.setIfInBounds (A+1) true) a u':=by
 refine⟨_,ha,by simp[hl],hcl.step hi (by omega),fun h=>?_,fun _ h=>?_,fun _=>Eq.mpr (congrArg (fun z=>Z u' z) (if_pos rfl)) hz⟩
 ·rw[getD_set_ne false (by omega),hA]at h;cases h
 ·rw[kT false (by omega)]at h;cases h
theorem ZE {nn l id:Nat} {P:Program} {ops:Array Oper} {Q:Exit→Act→World→Prop} (F:(Nat→Value)→Act) (K:Nat→Value→Prop) (n A:Nat) (w0:World) (Y Z:World→Value→Prop) {a:Act} (hm:P.follows .mixedOrders=true) (h0:RT ops F K n A w0.drew Y Z (Array.replicate ops.size false) a w0.drew) (hs:∀li a w,RT ops F K n A w0.drew Y Z li a w→∀i∈Region.ready .any ops li,wpOpIn (Fence.wide.inRound l) nn P ops Q i (RT ops F K n A w0.drew Y Z (li.setIfInBounds i true)) a w) (he:∀li a w,RT ops F K n A w0.drew Y Z li a w→Region.ready .any ops li=[]→Q .normal a w):(Code.region id ops true).wpIn (Fence.wide.inRound l) nn P Q a w0:=
 wpIn_region_any hm (FO hs he ops.size _ a _ (by rw[eZ];exact Nat.le_refl _) h0)
theorem TB {nn l2 l m i:Nat} {P:Program} {ops:Array Oper} {o:Oper} {Q:Exit→Act→World→Prop} {K:Act→World→Prop} {a:Act} {u:World} {R:Ending→World→Prop} (ho:ops[i]? =some o) (hgd:o.guard=none) (f x:Operand) (ty:Array TypeId) (hop:o.op= .call {callee:=.value f,args:=#[x],argTypes:=ty}) (hf:a.eval f= .func (.yield l) #[] #[]) (v:Value) (hx:a.eval x=v) (hY:YieldAt Fence.wide m P l #[v] u R) (h:∀e W',R e W'→∃bv,e= .returned bv∧K (a.put o.dst bv) W'):wpOpIn (Fence.wide.inRound l2) nn P ops Q i K a u:=by
 obtain⟨fn,tmps,assign,body,hy,hR⟩:=hY;have hw:Region.wanted o (yielded ops a.tmps)=true:=by simp[Region.wanted,hgd]
 unfold wpOpIn;rw[ho];simp only[hw,if_true];refine⟨fun _ _=>trivial,?_⟩;rw[show(Fence.wide.inRound l2).round=some l2 from rfl,Oper.semAt_some l2 _ _ (by rw[hop];intro c hc;cases hc)];have hrun:(execOp a.eval o).run P u= .ok (.round l fn tmps assign body) u:=by
  have e1:execOp a.eval o=(do let d ←resolve a.eval {callee:=.value f,args:=#[x],argTypes:=ty} o.type;invoke d.target d.args):=by unfold execOp;rw[hop]
  have e2:(resolve a.eval {callee:=.value f,args:=#[x],argTypes:=ty} o.type).run P u= .ok {target:=.fn (.yield l) #[],args:=#[v]} u:=by
   show(Deferred.ofValue (a.eval f) (#[x].map a.eval)).run P u=_;have e3:(#[x]:Array Operand).map a.eval=#[v]:=by rw[←hx];simp
   rw[hf,e3];simp[Deferred.ofValue,Sem.run_pure]
  rw[e1,Sem.run_bind,e2];exact hy
 rw[hrun];refine⟨fun e=>(by cases e),?_⟩;refine RoundIn.mono (ZF (m':=nn-1) hR) (fun e W' he=>?_);obtain⟨bv,rfl,hk⟩:=h e W' he;exact hk
def iO (a b:T):Nat:=(min a.m.d b.m.x).toNat
def jT (a b:T):Nat:=(min a.m.e b.m.y).toNat
structure uN (a b:T) (g:M):Prop where
 ok1:a.m.ok=true
 ok2:b.m.ok=true
 ok3:g.ok=true
 gx:g.x=a.m.x+b.m.x
 gy:g.y=a.m.y+b.m.y
 gd:g.d=a.m.d+b.m.d
 ge:g.e=a.m.e+b.m.e
 c1:0≤a.c∧a.c≤100
 c2:0≤b.c∧b.c≤100
theorem uN.lx {a b:T} {g:M} (h:uN a b g):(iO a b:Int)=min a.m.d b.m.x:=by
 have h1:=M.ok_iff.1 h.ok1;have h2:=M.ok_iff.1 h.ok2
 unfold iO;omega
theorem uN.ly {a b:T} {g:M} (h:uN a b g):(jT a b:Int)=min a.m.e b.m.y:=by
 have h1:=M.ok_iff.1 h.ok1;have h2:=M.ok_iff.1 h.ok2
 unfold jT;omega
def EM (a b:T) (g:M) (px:TK (iO a b)) (py:TK (jT a b)):T:=⟨a.c*b.c%101*px.1.2%101*py.1.2%101,⟨g.x-px.1.1,g.y-py.1.1,g.d-px.1.1,g.e-py.1.1⟩⟩
theorem Gk {a b:T} {g:M} (h:uN a b g) (px:TK (iO a b)) (py:TK (jT a b)):(EM a b g px py).m.ok=true∧0≤(EM a b g px py).c∧(EM a b g px py).c≤100:=by
 have h1:=M.ok_iff.1 h.ok1;have h2:=M.ok_iff.1 h.ok2
 have h3:=M.ok_iff.1 h.ok3;have hx:=px.2
 have hy:=py.2;have lx:=h.lx
 have ly:=h.ly;have gx:=h.gx
 have gy:=h.gy;have gd:=h.gd
 have ge:=h.ge;refine⟨M.ok_iff.2 ?_,?_,?_⟩
 ·simp only[EM];omega
 ·show 0≤a.c*b.c%101*px.1.2%101*py.1.2%101;omega
 ·show a.c*b.c%101*px.1.2%101*py.1.2%101≤100;omega
def rN {a b:T} {g:M} (h:uN a b g) (px:TK (iO a b)) (py:TK (jT a b)):TO:=⟨EM a b g px py,Gk h px py⟩
def Hh (a b:T):List (TK (jT a b)):=qK (jT a b) a.m.e b.m.y (jT a b+1)
def Aq (a b:T):List (TK (iO a b)):=qK (iO a b) a.m.d b.m.x (iO a b+1)
def pR {a b:T} {g:M} (h:uN a b g) (pre:List (TK (iO a b))):List TO:=pre.flatMap fun px=>(Hh a b).map (rN h px)
theorem FT {a b:T} {g:M} (h:uN a b g) (pre:List (TK (iO a b))) (x:TK (iO a b)):pR h (pre++[x])=pR h pre++(Hh a b).map (rN h x):=by simp[pR]
end Go.Proofs.YtdidlcjhodejjaaGreat
