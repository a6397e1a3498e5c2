/-
  Sums and differences of two operators.
-/
import Derived.Test.YtdidlcjhodejjaaGreatUao
import Derived.Test.YtdidlcjhodejjaaGreatUae
import Derived.Test.YtdidlcjhodejjaaGreatUak
import Derived.Test.YtdidlcjhodejjaaGreatUaa
import Derived.Test.YtdidlcjhodejjaaGreatUan
import Derived.RangeFuncNested
import Derived.RangeFuncLeaves
import Derived.Deep.RegionWith
import Derived.WalkKit
import Derived.OwnWalkIn
import Derived.TacticsInMore
import Derived.LoopNIn
import Derived.LoopIn
namespace Go.Proofs.YtdidlcjhodejjaaGreat
open Go.RowKit Go.Maps Go.Sort Go.Shelf
set_option linter.unusedVariables false
theorem SumR.range {w:World} {b n:Nat} {c:M→Int} (h:SumR w b n c):∀ m,0≤c m∧c m≤100:=by obtain ⟨D,_,hc,_⟩:=h;exact hc
theorem sumNew (w:World):SumR (w.alloc (.map #[] 0)) w.heap.size 0 (fun _=>0):=
 ⟨.map [],World.ownsMap_made w _ _ _,fun _=>⟨Int.le_refl _,by show (0:Int)≤100;decide⟩,fun m _=>⟨rfl,by simp [Maps.has]⟩,fun kl h=>by simp [Maps.has] at h⟩
theorem Rd.apart {w:World} {a:Option Addr} {n cap:Nat} {f:Nat→T} (h:Rd w a n cap f) {b:Nat} (hb:w.heap.size≤b):n=0∨∀ b' off,a=some ⟨b',off,none⟩→some b'≠some b:=by
 rcases h.2.2 with h0 | ⟨pb,off,rfl,hlt,_⟩
 ·exact .inl h0
 ·exact .inr (fun b' off' e e'=>by cases e;cases e';omega)
def sumL (K:List T):List T × Bool:=if K.length≤400 then (K,true) else ([],false)
theorem sumOpI (w:World) (b n:Nat) (c:M→Int) (h:SumR w b n c) (hn:n≤1000000) {K:List T} (hK:Falls K) (hKc:∀ m,m.ok=true→coef K m=c m) :
  Calls Tryz.prog 151 #[.map (some b)] w fun e w'=>∃ v,e=.returned (.tuple #[v,.bool (sumL K).2])∧Below w.heap.size w w'∧w'.ownsRow w.heap.size 42 5 v (sumL K).1.length (cellsL (sumL K).1):=by
 by_cases h400:K.length≤400
 ·have e:sumL K=(K,true):=if_pos h400
  rw [e]
  exact sumOpOk sortsM w b n c h hn hK hKc h400
 ·have e:sumL K=([],false):=if_neg h400
  rw [e]
  refine (sumOpNo sortsM w b n c h hn hK hKc h400).mono ?_
  rintro r w5 ⟨rfl,hb5⟩
  exact ⟨_,rfl,hb5,owns_nil w5 _⟩
theorem makeHint (n:Int) (w:World):(Instr.makeMap 170 (some (.int .i64 n))).run Tryz.prog w=.ok (.map (some w.heap.size)) (w.alloc (.map #[] 0)):=by
 have hu:=run_underlying (P:=Tryz.prog) Tryz.underlying170
 unfold Instr.makeMap
 simp [hu,asInt,go_sem,Sem.run_bind,Result.andThen]
def addK (k:Int) (f:Nat→T) (la:Nat) (g:Nat→T) (lb:Nat) (K:List T):List T × Bool:=if polOk la f=true∧polOk lb g=true∧K.length≤400 then (K,true) else ([],false)
set_option maxRecDepth 100000 in
set_option maxHeartbeats 4000000 in
theorem polAddTimesI (w:World) (a b:Option Addr) (la ca lb cb:Nat) (f g:Nat→T) (k:Int) (k0:0≤k) (k1:k≤100) (ha:Rd w a la ca f) (hb:Rd w b lb cb g) (K:List T) (hK:polOk la f=true→polOk lb g=true→Falls K∧∀ m,m.ok=true→coef K m=timesC k g (timesC 1 f (fun _=>0) la) lb m) :
  Calls Tryz.prog 171 #[.slice a la ca,.int .i64 k,.slice b lb cb] w fun r w'=>∃ v,r=.returned (.tuple #[v,.bool (addK k f la g lb K).2])∧Below w.heap.size w w'∧w'.ownsRow w.heap.size 42 5 v (addK k f la g lb K).1.length (cellsL (addK k f la g lb K).1):=by
 have HA:=Hid.mk' ha
 have HB:=Hid.mk' hb
 have hla:(la:Int)≤140737488351232:=by have:=ha.2.1;omega
 have hlb:(lb:Int)≤140737488351232:=by have:=hb.2.1;omega
 clear ha hb
 cases hpa:polOk la f
 ·have e1:addK k f la g lb K=([],false):=by simp [addK,hpa]
  rw [e1]
  go_enter Tryz.func171,Tryz.ntmps171
  go_wp2_with (go_at_call 63;refine (polOkI _ _ _ _ f HA.out).mono ?_;rw [hpa];rintro r w1 ⟨rfl,hb1⟩;have HB1:=Hid.mk' hb1;clear hb1)
  refine bodyPost_ret (results_tmp2 rfl _ _ _) rfl ?_
  exact ⟨_,rfl,HB1.out,owns_nil w1 _⟩
 ·cases hpb:polOk lb g
  ·have e1:addK k f la g lb K=([],false):=by simp [addK,hpb]
   rw [e1]
   go_enter Tryz.func171,Tryz.ntmps171
   go_wp2_with (first
    | (go_at_call_of 63 (Value.slice a la ca);refine (polOkI _ _ _ _ f HA.out).mono ?_;rw [hpa];rintro r w1 ⟨rfl,hb1⟩;have HB1:=Hid.mk' hb1;clear hb1)
    | (go_at_call_of 63 (Value.slice b lb cb);refine (polOkI _ _ _ _ g (HB.out.below HB1.out)).mono ?_;rw [hpb];rintro r w2 ⟨rfl,hb2⟩;have HB2:=Hid.mk' hb2;clear hb2))
   refine bodyPost_ret (results_tmp2 rfl _ _ _) rfl ?_
   exact ⟨_,rfl,bel_next HB1.out HB2.out,owns_nil w2 _⟩
  ·obtain ⟨hKf,hKc⟩:=hK hpa hpb
   have F:=fl_of_ok hpa
   have G:=fl_of_ok hpb
   have HF:=Hid.mk' F
   have HG:=Hid.mk' G
   have l1:la≤400:=by simp only [polOk,decide_eq_true_eq] at hpa;exact hpa.1
   have l2:lb≤400:=by simp only [polOk,decide_eq_true_eq] at hpb;exact hpb.1
   have hmk:=makeHint
   have e2:addK k f la g lb K=sumL K:=by simp [addK,sumL,hpa,hpb]
   rw [e2]
   clear F G e2 hK
   go_enter Tryz.func171,Tryz.ntmps171
   go_wp2_with (first
    | (go_at_call_of 63 (Value.slice a la ca);refine (polOkI _ _ _ _ f HA.out).mono ?_;rw [hpa];rintro r w1 ⟨rfl,hb1⟩;have HB1:=Hid.mk' hb1;clear hb1)
    | (go_at_call_of 63 (Value.slice b lb cb);refine (polOkI _ _ _ _ g (HB.out.below HB1.out)).mono ?_;rw [hpb];rintro r w2 ⟨rfl,hb2⟩;have HB2:=Hid.mk' (bel_next HB1.out hb2);clear hb2)
    | (go_at_call_of 147 (Value.slice a la ca);refine (sumTimes _ w2.heap.size 0 _ 1 a la ca f (sumNew w2) ((HA.out.below HB2.out).below (bel_one w2 _)) ((HA.out.below HB2.out).apart (Nat.le_refl _)) (fun i hi=>(HF.out.2 i hi).1) (fun i hi=>by have:=HF.out.2 i hi;omega) (by omega) (by omega) (by omega) (by simp)).mono ?_;rintro r w3 ⟨rfl,hs3,hg3⟩;have HS3:=Hid.mk' hs3;have HG3:=Hid.mk' ((World.grownBy_alloc w2 (.map #[] 0) (some w2.heap.size)).trans hg3);clear hs3 hg3)
    | (go_at_call_of 147 (Value.slice b lb cb);refine (sumTimes _ w2.heap.size (0+la) _ k b lb cb g HS3.out ((HB.out.below HB2.out).grown HG3.out ((HB.out.below HB2.out).apart (Nat.le_refl _))) ((HB.out.below HB2.out).apart (Nat.le_refl _)) (fun i hi=>(HG.out.2 i hi).1) (fun i hi=>by have:=HG.out.2 i hi;omega) k0 k1 (by omega) (by obtain ⟨D,ho,_⟩:=HS3.out;exact ho.lt)).mono ?_;rintro r w4 ⟨rfl,hs4,hg4⟩;have HS4:=Hid.mk' hs4;have HG4:=Hid.mk' (HG3.out.trans hg4);clear hs4 hg4))
   have hlo:w.heap.size≤w2.heap.size:=HB2.out.size
   have hB4:Below w.heap.size w w4:=HB2.out.grown HG4.out hlo (fun k' e=>by cases e;exact hlo)
   refine (sumOpI _ _ _ _ HS4.out (by omega) hKf hKc).mono ?_
   rintro r w5 ⟨v,rfl,hb5,ho5⟩
   go_wp2
   refine bodyPost_ret (results_tmp2 rfl _ _ _) rfl ?_
   exact ⟨_,rfl,hB4.trans (hb5.mono hB4.size),ownsRow_low ho5 hB4.size⟩
theorem fromC_congr {f g:Nat→T} (r:Int→Int) (hr:r 0=0) {m:M}:∀ (u i:Nat),(∀ j,i≤j→j<i+u→(g j).m=(f j).m∧(g j).c=r (f j).c)→fromC g u i m=r (fromC f u i m)
 | 0,_,_=>hr.symm
 | u+1,i,h=>by
  have h0:=h i (Nat.le_refl _) (by omega)
  rw [fromC,fromC,h0.1,h0.2,fromC_congr r hr u (i+1) (fun j h1 h2=>h j (by omega) (by omega))]
  split <;> rfl
theorem neg_fl {g:Nat→T} {lb:Nat} (G:Fl g lb):Fl (negT g lb) lb:=by
 refine ⟨fun j i hji hi=>?_,fun i hi=>?_⟩
 ·unfold negT
  rw [lf_scT _ _ _ _ hi,lf_scT _ _ _ _ (by omega)]
  exact G.1 j i hji hi
 ·have h:=G.2 i hi
  unfold negT
  rw [lf_scT _ _ _ _ hi]
  refine ⟨h.1,?_,?_⟩
  ·show 1≤100 * (g i).c % 101
   omega
  ·show 100 * (g i).c % 101≤100
   omega
theorem polSub_K {f g:Nat→T} {la lb:Nat} (hpa:polOk la f=true) (hpb:polOk lb g=true):Falls (addT f la (negT g lb) lb 0 0)∧∀ m,m.ok=true→coef (addT f la (negT g lb) lb 0 0) m=timesC 100 g (timesC 1 f (fun _=>0) la) lb m:=by
 obtain ⟨_,h2,h3⟩:=mrg_facts (fl_of_ok hpa) (neg_fl (fl_of_ok hpb)) (la - 0+(lb - 0)) 0 0 (Nat.le_refl _)
 refine ⟨h2,fun m _=>?_⟩
 rw [sum_two (fl_of_ok hpa) (fl_of_ok hpb)]
 have h4:=fromC_congr (f:=g) (g:=negT g lb) (fun c=>100 * c % 101) rfl (m:=m) lb 0 (fun j _ hj=>by
  unfold negT
  rw [lf_scT _ _ _ _ (by omega)]
  exact ⟨rfl,rfl⟩)
 refine (h3 m).trans ?_
 rw [Nat.sub_zero,Nat.sub_zero,h4]
 omega
set_option maxHeartbeats 1000000 in
theorem polSubI (w:World) (a b:Option Addr) (la ca lb cb:Nat) (f g:Nat→T) (ha:Rd w a la ca f) (hb:Rd w b lb cb g) :
  Calls Tryz.prog 155 #[.slice a la ca,.slice b lb cb] w fun r w'=>∃ a' cap',r=.returned (.tuple #[.slice a' (polSub f la g lb).1.length cap',.bool (polSub f la g lb).2])∧Below w.heap.size w w'∧Out w.heap.size w' a' cap' (polSub f la g lb).1:=by
 have hc:=polAddTimesI w a b la ca lb cb f g 100 (by omega) (by omega) ha hb (addT f la (negT g lb) lb 0 0) polSub_K
 have e:addK 100 f la g lb (addT f la (negT g lb) lb 0 0)=polSub f la g lb:=rfl
 rw [e] at hc
 have hlen:=polSub_len f la g lb
 generalize polSub f la g lb=r at *
 obtain ⟨L,ok⟩:=r
 go_enter Tryz.func155,Tryz.ntmps155
 go_wp2_with (go_at_call 171;refine hc.mono ?_;rintro r w1 ⟨v,rfl,hb1,ho1⟩)
 refine bodyPost_ret (results_tmp2 rfl _ _ _) rfl ?_
 obtain ⟨a',cap',rfl,hout⟩:=out_of_owns ho1 (by omega)
 exact ⟨a',cap',rfl,hb1,hout⟩
end Go.Proofs.YtdidlcjhodejjaaGreat
namespace Go.Proofs.YtdidlcjhodejjaaGreat
open Go.RowKit
set_option linter.unusedVariables false
end Go.Proofs.YtdidlcjhodejjaaGreat
namespace Go.Proofs.YtdidlcjhodejjaaGreat
open Go.RowKit
set_option linter.unusedVariables false
def Two2 (w:World) (X:List T × Bool) (e:Ending) (w':World):Prop:=∃ a' c',e=.returned (.tuple #[.slice a' X.1.length c',.bool X.2])∧Below w.heap.size w w'∧RL w' a' c' X.1
def One1 (w:World) (X:List T) (e:Ending) (w':World):Prop:=∃ a' c',e=.returned (.slice a' X.length c')∧Below w.heap.size w w'∧RL w' a' c' X
def Val (w:World) (v:Value) (e:Ending) (w':World):Prop:=e=.returned v∧Below w.heap.size w w'
theorem rd_congr {w:World} {a:Option Addr} {n cap:Nat} {f g:Nat→T} (h:Rd w a n cap f) (e:∀ i,i<n→f i=g i):Rd w a n cap g:=
 ⟨h.1,h.2.1,h.2.2.imp id (fun ⟨b,off,h1,h2,h3⟩=>⟨b,off,h1,h2,fun i hi=>by rw [← e i hi];exact h3 i hi⟩)⟩
theorem one_RL (w:World) (t:T):RL (w.alloc (.cells #[.int .i64 t.c,.int .i64 t.m.x,.int .i64 t.m.y,.int .i64 t.m.d,.int .i64 t.m.e] 42)) (some ⟨w.heap.size,0,none⟩) 1 [t]:=
 rd_congr (n:=1) (g:=lf [t]) (rd_one w t) (fun i hi=>by
  have h0:i=0:=by omega
  subst h0
  rfl)
theorem two_owns {w:World} {X:List T × Bool} {e:Ending} {w':World} (hl:X.1.length≤400) (h:∃ v,e=.returned (.tuple #[v,.bool X.2])∧Below w.heap.size w w'∧w'.ownsRow w.heap.size 42 5 v X.1.length (cellsL X.1)):Two2 w X e w':=by
 obtain ⟨v,h1,h2,h3⟩:=h
 obtain ⟨a',c',rfl,h4⟩:=out_of_owns h3 (by omega)
 exact ⟨a',c',h1,h2,h4.1⟩
theorem one_owns {w:World} {X:List T} {e:Ending} {w':World} (hl:X.length≤400) (h:∃ v,e=.returned v∧Below w.heap.size w w'∧w'.ownsRow w.heap.size 42 5 v X.length (cellsL X)):One1 w X e w':=by
 obtain ⟨v,h1,h2,h3⟩:=h
 obtain ⟨a',c',rfl,h4⟩:=out_of_owns h3 (by omega)
 exact ⟨a',c',h1,h2,h4.1⟩
variable {w:World} {a b:Option Addr} {ca cb:Nat} {L K:List T}
theorem sameI_L (ha:RL w a ca L) (hb:RL w b cb K):Calls Tryz.prog 58 #[.slice a L.length ca,.slice b K.length cb] w (Val w (.bool (sq L K))):=polSameI w a b L.length ca K.length cb (lf L) (lf K) ha hb
end Go.Proofs.YtdidlcjhodejjaaGreat
namespace Go.Proofs.YtdidlcjhodejjaaGreat
open Go.RowKit
set_option linter.unusedVariables false
attribute [local go_sem] Oper.semAt_some
def cellsK (W W':World):Prop:=W.heap.size≤W'.heap.size∧∀ (k:Nat) (o:Obj),W.heap[k]? = some o→o.isCells=true→W'.heap[k]? = some o
theorem cellsK_refl (W:World):cellsK W W:=⟨Nat.le_refl _,fun _ _ h _=>h⟩
theorem cellsK_t {A B C:World} (h:cellsK A B) (k:cellsK B C):cellsK A C:=⟨Nat.le_trans h.1 k.1,fun i o hi ho=>k.2 i o (h.2 i o hi ho) ho⟩
theorem cellsK_b {w:World} (W:World) (l:Nat) (o o':Obj) (_:w.heap.size≤l) (h:W.heap[l]? = some o) (hc:o.isCells=false) (_:o.isWalk=false):cellsK W (W.putObj l o'):=
 ⟨by rw [World.putObj_size];exact Nat.le_refl _,fun k o2 hk hc2=>(World.putObj_heap_other (fun e=>by subst e;rw [h] at hk;cases hk;rw [hc] at hc2;cases hc2)).trans hk⟩
theorem cellsK_alloc (W:World) (o:Obj):cellsK W (W.alloc o):=⟨by simp,fun k o2 hk _=>(Below.heap_alloc W o k (Array.getElem?_eq_some_iff.1 hk).1).trans hk⟩
theorem cellsK_drew (W:World):cellsK W W.drew:=⟨Nat.le_refl _,fun _ _ h _=>h⟩
theorem cellsK_grown {W W':World} {row:Option Nat} (hg:W.grownBy W' row) (hr:∀ k,row=some k→∀ o,W.heap[k]? = some o→o.isCells=false):cellsK W W':=
 ⟨hg.size,fun k o hk hc=>(hg.block k (Array.getElem?_eq_some_iff.1 hk).1 (fun e=>by have:=hr k e.symm o hk;rw [this] at hc;cases hc)).trans hk⟩
theorem boxed_cells {W W':World} {B:Nat} {t:TypeId} {v:Value} (h:Boxed W B t v) (hk:cellsK W W'):Boxed W' B t v:=hk.2 B _ h rfl
theorem drewG (w:World):w.grownBy w.drew none:=⟨rfl,rfl,rfl,Nat.le_refl _,fun _ _ _=>rfl⟩
abbrev TK (lim:Nat):Type:={ p:Int × Int // 0≤p.1∧p.1≤(lim:Int)∧0≤p.2∧p.2≤100 }
def encK {lim:Nat} (x:TK lim):Array Value:=#[.int .i64 x.1.1,.int .i64 x.1.2]
def wy (s t k:Int):Int:=fMul (fChoose s k) (fFall t k)
theorem fMul_range (a b:Int):0≤fMul a b∧fMul a b≤100:=by
 unfold fMul
 split <;> omega
def takeK (lim:Nat) (s t:Int) (k:Nat):TK lim:=⟨((if k≤lim then (k:Int) else 0),wy s t k),by
 have:=fMul_range (fChoose s k) (fFall t k)
 refine ⟨?_,?_,this.1,this.2⟩
 ·show 0≤(if k≤lim then (k:Int) else 0)
  split <;> omega
 ·show (if k≤lim then (k:Int) else 0)≤_
  split <;> omega⟩
def uptoK (lim:Nat) (s t:Int) (k:Nat):List (TK lim):=(List.range k).map (takeK lim s t)
theorem uptoK_succ (lim:Nat) (s t:Int) (k:Nat):uptoK lim s t k ++ [takeK lim s t k]=uptoK lim s t (k+1):=by simp [uptoK,List.range_succ]
theorem uptoK_len (lim:Nat) (s t:Int) (k:Nat):(uptoK lim s t k).length=k:=by simp [uptoK]
set_option maxRecDepth 100000 in
set_option maxHeartbeats 4000000 in
theorem taken1 {n:Nat} (hn:1≤n) (l B1 B2:Nat) (s t:Int) (lim:Nat) (s0:0≤s) (s1:s≤15) (t0:0≤t) (t1:t≤15) (hl:(lim:Int)=min s t) (J Jx:List (TK lim)→World→Prop) (hJd:∀ pre W,J pre W→J pre W.drew)
  (hY:∀ pre x W,J pre W→pre.length<lim+1→YieldAt Fence.wide (n - 1) Tryz.prog l (encK x) W fun e W'=>(e=.returned (.bool true)∧J (pre ++ [x]) W'∧cellsK W W')∨(e=.returned (.bool false)∧Jx (pre ++ [x]) W'))
  (W:World) (hb1:Boxed W B1 3 (.int .i64 s)) (hb2:Boxed W B2 3 (.int .i64 t)) (h0:J [] W) :
  CallsIn Fence.wide n Tryz.prog 192 #[.func (.yield l) #[] #[],.pointer (some ⟨B1,0,none⟩),.pointer (some ⟨B2,0,none⟩)] W fun e W'=>(∃ v,e=.returned v)∧((∃ xs,xs=uptoK lim s t (lim+1)∧J xs W')∨(∃ pre,True∧Jx pre W')):=by
 refine callsIn_of_wp Tryz.func192 rfl trivial ?_ rfl
 simp only [Tryz.ntmps192,List.size_toArray,List.length_cons,List.length_nil,Nat.reduceAdd,Nat.reduceSub,Array.replicate_succ,Array.replicate_zero,List.push_toArray,List.append_toArray,List.nil_append,List.cons_append]
 have c1:=hb1.cell
 have c2:=hb2.cell
 gi_wp2
 all_goals
  gi_loopw [10] (fun v wr=>∃ k:Nat,k≤lim+1∧v=.int .i64 (k:Int)∧J (uptoK lim s t k) wr∧Boxed wr B1 3 (.int .i64 s)∧Boxed wr B2 3 (.int .i64 t)) (fun v _=>(lim+1) - (RowKit.intOf v).toNat)
  case atStart=>
   exact ⟨0,Nat.zero_le _,rfl,h0,hb1,hb2⟩
  case round=>
   obtain ⟨k,hk,rfl,hJ,b1,b2⟩:=hrel
   have c1:=b1.cell
   have c2:=b2.cell
   by_cases hlt:k≤lim
   ·have hk1:(k:Int)≤s:=by omega
    have hk2:(k:Int)≤t:=by omega
    have hYk:=hY (uptoK lim s t k) (takeK lim s t k) _ (hJd _ _ hJ) (by rw [uptoK_len];omega)
    rw [uptoK_succ] at hYk
    have ek:encK (takeK lim s t k)=#[.int .i64 (k:Int),.int .i64 (wy s t k)]:=by simp [encK,takeK,hlt]
    rw [ek] at hYk
    have hw:fMul (fChoose s k) (fFall t k)=wy s t k:=rfl
    obtain ⟨fn,tmps,assign,body,hy,hRd⟩:=hYk
    gi_wp2_with fail
    refine (wpIn_wide (n:=n)).2 ?_
    go_region_with (first
     | (go_at_call 193;refine (chooseI _ _ _).mono ?_;rintro e w' ⟨rfl,hw'⟩;obtain rfl:=hw'.symm;clear hw')
     | (go_at_call 194;refine (fallI _ _ _).mono ?_;rintro e w' ⟨rfl,hw'⟩;obtain rfl:=hw'.symm;clear hw')
     | (go_at_call 72;refine (mulI _ _ _).mono ?_;rw [hw];rintro e w' ⟨rfl,hw'⟩;obtain rfl:=hw'.symm;clear hw'))
    all_goals
     gi_wp2
     refine hRd.mono ?_
     rintro e W3 (⟨rfl,hJ3,hk3⟩ | ⟨rfl,hJx3⟩)
     ·gi_wp2
      go_roundw
      case rel=>exact ⟨k+1,by omega,by go_num,hJ3,boxed_cells (W:=wr.drew) b1 hk3,boxed_cells (W:=wr.drew) b2 hk3⟩
      case measure=>simp [RowKit.intOf];omega
     ·gi_wp2
      refine bodyPost_ret (results_none rfl _ _ _) rfl ?_
      exact ⟨⟨_,rfl⟩,.inr ⟨_,trivial,hJx3⟩⟩
   ·have hk3:k=lim+1:=by omega
    subst hk3
    gi_wp2
    go_end0
    exact ⟨⟨_,rfl⟩,.inl ⟨_,rfl,hJ⟩⟩
theorem takenStops {n:Nat} (hn:1≤n) (B1 B2:Nat) (s t:Int) (lim:Nat) (s0:0≤s) (s1:s≤15) (t0:0≤t) (t1:t≤15) (hl:(lim:Int)=min s t) (w:World) (hb1:Boxed w B1 3 (.int .i64 s)) (hb2:Boxed w B2 3 (.int .i64 t)) :
  SeqStopsK Fence.wide n Tryz.prog 192 #[.pointer (some ⟨B1,0,none⟩),.pointer (some ⟨B2,0,none⟩)] encK cellsK (fun xs=>xs=uptoK lim s t (lim+1)) (fun _=>True) (lim+1) w:=fun l J Jx W hW hJ _ hY h0=>
 taken1 hn l B1 B2 s t lim s0 s1 t0 t1 hl J Jx (fun pre W h=>hJ pre W W.drew none h (drewG W) (fun r e=>by cases e)) hY W ((hW.block B1 hb1.lt).trans hb1) ((hW.block B2 hb2.lt).trans hb2) h0
set_option maxHeartbeats 1000000 in
theorem takenV {F:Fence} {n:Nat} (h7:F.fn 188) (hro:F.round=none) (s t:Int) (w:World) :
  CallsIn F n Tryz.prog 188 #[.int .i64 s,.int .i64 t] w fun e w'=>e=.returned (.func (.func 192) #[] #[.pointer (some ⟨w.heap.size,0,none⟩),.pointer (some ⟨w.heap.size+1,0,none⟩)])∧w'=(w.alloc (.cells #[.int .i64 s] 3)).alloc (.cells #[.int .i64 t] 3):=by
 refine callsIn_of_wp Tryz.func188 rfl h7 ?_ hro
 simp only [Tryz.ntmps188,List.size_toArray,List.length_cons,List.length_nil,Nat.reduceAdd,Nat.reduceSub,Array.replicate_succ,Array.replicate_zero,List.push_toArray,List.append_toArray,List.nil_append,List.cons_append]
 gi_wp2
 go_ret
 exact ⟨rfl,rfl⟩
end Go.Proofs.YtdidlcjhodejjaaGreat
