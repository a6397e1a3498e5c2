/-
  An operator is its numbers: two lists of terms that fall, with the same numbers, are one.
-/
import Derived.Test.YtkcmamepoplcdaaGreatDoorVal
import Derived.Test.YtkcmamepoplcdaaGreatDoorVaj
set_option maxHeartbeats 1000000
set_option maxRecDepth 100000
namespace Go.Proofs.YtkcmamepoplcdaaGreatDoor
open Go.RowKit
set_option linter.unusedVariables false
def nA (a b:M):Bool:=decide (a.x=b.x∧a.y=b.y∧a.d=b.d∧a.e=b.e)
theorem cH {a b:M}:nA a b=true↔a=b:=by cases a;cases b;simp[nA]
theorem QV {p q y z:Int} (hy:0≤y∧y≤15) (hz:0≤z∧z≤15) (h:p*16+y=q*16+z):p=q∧y=z:=by omega
theorem VK {p q y z:Int} (hy:0≤y∧y≤65535) (hz:0≤z∧z≤65535) (h:p*65536+y=q*65536+z):y=z:=by omega
theorem wZ {a b:M} (ha:a.ok=true) (hb:b.ok=true) (h:eR a=eR b):a=b:=by
 have ka:=M.ok_iff.1 ha;have kb:=M.ok_iff.1 hb
 have la:0≤lJ a∧lJ a≤65535:=by unfold lJ;omega
 have lb:0≤lJ b∧lJ b≤65535:=by unfold lJ;omega
 unfold eR at h;have h:=VK la lb h
 unfold lJ at h;obtain⟨h,h1⟩:=QV ⟨ka.2.2.1,ka.2.2.2.1⟩ ⟨kb.2.2.1,kb.2.2.2.1⟩ h;obtain⟨h,h2⟩:=QV ⟨ka.1,ka.2.1⟩ ⟨kb.1,kb.2.1⟩ h;obtain⟨h,h3⟩:=QV ⟨ka.2.2.2.2.2.2.1,ka.2.2.2.2.2.2.2⟩ ⟨kb.2.2.2.2.2.2.1,kb.2.2.2.2.2.2.2⟩ h;cases a;cases b;simp only at h h1 h2 h3;subst h h1 h2 h3;rfl
def bV:List T→M→Int
 |[],_=>0
 |t::r,m=>if nA t.m m=true then t.c else bV r m
def bC (L:List T):Prop:=L.Pairwise (fun a b=>eR b.m<eR a.m)∧∀t∈L,t.m.ok=true∧1≤t.c∧t.c≤100
theorem kE {m:M}:∀{L:List T},(∀t∈L,eR t.m<eR m)→bV L m=0
 |[],_=>rfl
 |t::r,h=>by have h1:=h t (List.mem_cons_self ..);rw[bV,if_neg (fun e=>by rw[cH.1 e]at h1;omega)];exact kE (fun s hs=>h s (List.mem_cons_of_mem _ hs))
theorem kT {t:T} {r:List T} {m:M} (h:t.m≠m):bV (t::r) m=bV r m:=by rw[bV,if_neg (fun e=>h (cH.1 e))]
theorem cD (t:T) (r:List T):bV (t::r) t.m=t.c:=by rw[bV,if_pos (cH.2 rfl)]
theorem bC.tail {t:T} {r:List T} (h:bC (t::r)):bC r:=⟨(List.pairwise_cons.1 h.1).2,fun s hs=>h.2 s (List.mem_cons_of_mem _ hs)⟩
theorem bC.head {t:T} {r:List T} (h:bC (t::r)):∀s∈r,eR s.m<eR t.m:=(List.pairwise_cons.1 h.1).1
theorem uL:∀{L K:List T},bC L→bC K→(∀m,m.ok=true→bV L m=bV K m)→L=K
 |[],[],_,_,_=>rfl
 |[],t::r,_,hK,h=>by
  have h1:=hK.2 t (List.mem_cons_self ..);have h2:=h t.m h1.1
  rw[cD,bV]at h2;omega
 |t::r,[],hL,_,h=>by
  have h1:=hL.2 t (List.mem_cons_self ..);have h2:=h t.m h1.1
  rw[cD,bV]at h2;omega
 |s::p,t::r,hL,hK,h=>by
  have hs:=hL.2 s (List.mem_cons_self ..);have ht:=hK.2 t (List.mem_cons_self ..)
  rcases Int.lt_trichotomy (eR s.m) (eR t.m)with hlt|heq|hgt
  ·have h2:=h t.m ht.1
   rw[cD,kE (fun u hu=>by
    rcases List.mem_cons.1 hu with rfl|hu
    ·exact hlt
    ·have:=hL.head u hu;omega)]at h2
   omega
  ·have hm:s.m=t.m:=wZ hs.1 ht.1 heq;have hc:s.c=t.c:=by have h2:=h s.m hs.1;rw[cD,hm,cD]at h2;exact h2
   have hst:s=t:=by cases s;cases t;simp only at hm hc;subst hm hc;rfl
   subst hst;have hrest:∀m,m.ok=true→bV p m=bV r m:=fun m hok=>by
    by_cases hm2:s.m=m
    ·subst hm2;rw[kE hL.head,kE hK.head]
    ·have h2:=h m hok;rw[kT hm2,kT hm2]at h2;exact h2
   rw[uL hL.tail hK.tail hrest]
  ·have h2:=h s.m hs.1
   rw[cD,kE (fun u hu=>by
    rcases List.mem_cons.1 hu with rfl|hu
    ·exact hgt
    ·have:=hK.head u hu;omega)]at h2
   omega
open Go.RowKit Go.Maps Go.Sort Go.Shelf
theorem kZ {α:Type} [DecidableEq α]:∀(l r:List α),l.Nodup→(∀x∈l,x∈r)→l.length≤r.length
 |[],_,_,_=>iK _
 |x::l,r,hn,hs=>by
  rw[List.nodup_cons]at hn;have hx:x∈r:=hs x (List.mem_cons_self ..)
  have:=kZ l (r.erase x) hn.2 (fun y hy=>(List.mem_erase_of_ne (fun e:y=x=>hn.1 (e▸hy))).2 (hs y (List.mem_cons_of_mem _ hy)));rw[List.length_erase_of_mem hx]at this;have:0<r.length:=List.length_pos_of_mem hx
  simp only[List.length_cons];omega
theorem LE {w:World} {b n:Nat} {D:DataW Unit} (h:w.ownsMap Tryz.prog 77 (plainElem Tryz.prog 118) b n D):Maps.size D≤n:=by obtain⟨es,clock,h1,F,h3,rfl⟩:=h;rw[size_eq,length_read];exact h3
theorem xC {w:World} {b n:Nat} {D:DataW Unit} (h:w.ownsMap Tryz.prog 77 (plainElem Tryz.prog 118) b n D) (ss:List M) (hk:∀kl,Maps.has D kl=true→∃m∈ss,kl=dC m):Maps.size D≤ss.length:=by
 have ht:=h.tidy oL;obtain⟨es,clock,h1,F,h3,hD⟩:=h;obtain⟨L,hL,hp⟩:=ht;have e:L=(es.toList.map (WideElems.rg Tryz.prog 77 (plainElem Tryz.prog 118))).foldr DataW.insert []:=by rw[hL]at hD;exact DataW.map.inj hD
 have hkeys:∀p∈L,∃m∈ss,p.1=dC m:=fun p hpL=>by
  refine hk p.1 ?_;rw[hL,has_eq,List.any_eq_true];refine⟨p,hpL,?_⟩;have hmem:p∈es.toList.map (WideElems.rg Tryz.prog 77 (plainElem Tryz.prog 118)):=by rw[e]at hpL;exact(WideShapes.sorted_perm _).mem_iff.1 hpL
  obtain⟨v,hv⟩:=fit_keys F p hmem;exact WideAt.sameKey_self (oL.key hv)
 rw[hL,size_eq]
 letI:DecidableEq Lit:=fun a b=>Classical.propDecidable (a=b)
 have:=kZ (L.map (·.1)) (ss.map dC) (by rw[List.Nodup,List.pairwise_map];exact hp) (fun x hx=>by
  obtain⟨p,hpL,rfl⟩:=List.mem_map.1 hx;obtain⟨m,hm,he⟩:=hkeys p hpL;rw[he]
  exact List.mem_map_of_mem hm)
 simpa using this
theorem FW {l:List OM} (h:l.Pairwise (fun a b=>eR a.1≤eR b.1)) (hn:(l.map (·.1)).Nodup):l.Pairwise (fun a b=>eR a.1<eR b.1):=by
 rw[List.Nodup,List.pairwise_map]at hn;refine(h.and hn).imp ?_;rintro a b ⟨h1,h2⟩;rcases Int.lt_or_eq_of_le h1 with h|h
 ·exact h
 ·exact absurd (wZ a.2 b.2 h) h2
theorem NZ (hsort:rO) (w:World) (b n:Nat) (D:DataW Unit) (hown:w.ownsMap Tryz.prog 77 (plainElem Tryz.prog 118) b n D) (hks:∀kl,Maps.has D kl=true→∃m:M,m.ok=true∧kl=dC m) (hn:n≤1000000):Calls Tryz.prog 147 #[.map (some b),.func (.func 88) #[] #[]] w fun e w'=>∃(p:Option Addr) (cap:Nat) (dO:List OM),e= .returned (.slice p dO.length cap)∧dO.Pairwise (fun a b=>eR a.1<eR b.1)∧(∀m:M,m.ok=true→(m∈dO.map (·.1)↔Maps.has D (dC m)=true))∧dO.length=Maps.size D∧tE w' p (dO.map (·.1))∧(∀k,p=some ⟨k,0,none⟩→w.heap.size≤k∧k<w'.heap.size)∧Below w.heap.size w w':=by
 have hN:Maps.size D≤1000000:=iS (LE hown) hn;obtain⟨W1,hW1⟩:∃W1,w.alloc (.cells #[.func (.func 88) #[] #[]] 103)=W1:=⟨_,rfl⟩
 obtain⟨W2,hW2⟩:∃W2,W1.alloc (.cells #[.map (some b)] 119)=W2:=⟨_,rfl⟩
 have hs1:W1.heap.size=w.heap.size+1:=by rw[←hW1];simp
 have hs2:W2.heap.size=w.heap.size+2:=by rw[←hW2];simp[hs1]
 have hb1:Below w.heap.size w W1:=by rw[←hW1];exact(aD _ w).alloc (Nat.le_refl _) _
 have hb2:Below w.heap.size w W2:=by rw[←hW2];exact hb1.alloc hb1.size _
 have hr1:W1.cell? ⟨w.heap.size,0,none⟩=some (.func (.func 88) #[] #[]):=by rw[←hW1];exact(Boxed.new w _ _).cell
 have hr2:W2.cell? ⟨w.heap.size,0,none⟩=some (.func (.func 88) #[] #[]):=by rw[←hW2];exact(lM (w:=W1) (a:=⟨w.heap.size,0,none⟩) (Below.heap_alloc W1 _ w.heap.size (by omega))).trans hr1
 have hm2:W2.cell? ⟨w.heap.size+1,0,none⟩=some (.map (some b)):=by rw[←hs1,←hW2];exact(Boxed.new W1 _ _).cell
 have hown2:W2.ownsMap Tryz.prog 77 (plainElem Tryz.prog 118) b n D:=by rw[←hW2,←hW1];exact(hown.alloc _).alloc _
 have hseq:SeqGives Fence.wide 5 Tryz.prog 193 #[.pointer (some ⟨w.heap.size+1,0,none⟩)] MD (AM D) (Maps.size D) W2:=EX trivial rfl (by omega) _ b n D W2 (by omega) hks hm2 hown2;have hS:=PB hsort 193 _ (enters_of Tryz.func193 (by kernel_rfl) rfl) (AM D) _ hN (fun ss h=>h.2.1) (fun ss h=>h.2.2.2) W2 hseq w.heap.size (by omega) hr2
 have hK:=(callsIn_wide (n:=5)).1 (TP (F:=Fence.wide) (n:=5) trivial rfl (some b) W1);rw[hs1]at hK;clear hseq hm2 hr2 hr1;go_enter Tryz.func147,Tryz.ntmps147
 go_wp2_with (first
  |(go_at_call 174;refine hK.mono ?_;rintro e W ⟨rfl,hw⟩;obtain rfl:=hw.trans hW2;clear hw)
  |(go_at_call 173;refine hS.mono ?_;rintro e W3 ⟨p,cap,dO,ss,rfl,hS3,hp3,hs3,hv3,hp4,hb3⟩))
 go_ret;have hnd:(dO.map (·.1)).Nodup:=hp3.symm.nodup hS3.1
 have hmem:∀m:M,m.ok=true→(m∈dO.map (·.1)↔Maps.has D (dC m)=true):=fun m hm=>by rw[hp3.mem_iff];exact hS3.2.2.1 m hm
 refine⟨p,cap,dO,rfl,FW hs3 hnd,hmem,?_,hv3,fun k e=>(by have:=hp4 k e;omega),hb2.trans (hb3.mono (by omega))⟩;have h1:dO.length=ss.length:=by have:=hp3.length_eq;simpa using this
 have h2:=xC hown ss (fun kl hkl=>by
  obtain⟨m,hm,rfl⟩:=hks kl hkl
  exact⟨m,(hS3.2.2.1 m hm).2 hkl,rfl⟩)
 have h3:=hS3.2.2.2;omega
attribute [local go_sem] Oper.semAt_some
abbrev BA:Type:=Nat×OM
def NI (x:BA):Array Value:=#[.int .i64 (x.1:Int),.agg #[.int .i64 x.2.1.x,.int .i64 x.2.1.y,.int .i64 x.2.1.d,.int .i64 x.2.1.e]]
def jJ (d:List OM) (i:Nat):BA:=(i,d.getD i default)
def gA (d:List OM) (k:Nat):List BA:=(List.range (d.length-k)).map fun j=>jJ d (d.length-1-j)
theorem yM (d:List OM):gA d d.length=[]:=by simp[gA]
theorem AX (d:List OM) (k:Nat) (h:k<d.length):gA d (k+1)++[jJ d k]=gA d k:=by unfold gA;rw[show d.length-k=(d.length-(k+1))+1 by omega,List.range_succ,List.map_append];simp only[List.map_cons,List.map_nil];rw[show d.length-1-(d.length-(k+1))=k by omega]
theorem oA (d:List OM) (k:Nat):(gA d k).length=d.length-k:=by simp[gA]
def sB (Bm:Nat) (p:Option Addr) (W W':World):Prop:=W.heap.size≤W'.heap.size∧∀k,(k=Bm∨p=some ⟨k,0,none⟩)→W'.heap[k]? =W.heap[k]?
theorem NY {Bm:Nat} {p:Option Addr} {A B C:World} (h:sB Bm p A B) (k:sB Bm p B C):sB Bm p A C:=⟨iS h.1 k.1,fun i hi=>(k.2 i hi).trans (h.2 i hi)⟩
theorem NX {Bm:Nat} {p:Option Addr} {w:World} (hB:Bm<w.heap.size) (hp:∀k,p=some ⟨k,0,none⟩→k<w.heap.size) (W:World) (l:Nat) (o o':Obj) (hl:w.heap.size≤l) (h:W.heap[l]? =some o) (_:o.isCells=false) (_:o.isWalk=false):sB Bm p W (W.putObj l o'):=
 ⟨by rw[World.putObj_size];exact Nat.le_refl _,fun k hk=>World.putObj_heap_other (by rcases hk with rfl|hk;omega;have:=hp k hk;omega)⟩
theorem SZ {F:Fence} {n:Nat} (h7:F.fn 146) (hro:F.round=none) (p:Option Addr) (k cap:Nat) (w:World):CallsIn F n Tryz.prog 146 #[.slice p k cap] w fun e w'=>e= .returned (.func (.func 172) #[] #[.pointer (some ⟨w.heap.size,0,none⟩)])∧w'=w.alloc (.cells #[.slice p k cap] 157):=by
 refine callsIn_of_wp Tryz.func146 rfl h7 ?_ hro;simp only[Tryz.ntmps146,List.size_toArray,List.length_cons,List.length_nil,Nat.reduceAdd,Nat.reduceSub,Array.replicate_succ,Array.replicate_zero,List.push_toArray,List.append_toArray,List.nil_append,List.cons_append]
 gi_wp2
 go_ret;exact⟨rfl,rfl⟩
theorem QN {F:Fence} {n:Nat} (h10:F.fn 172) (hro:F.round=none) (hn:1≤n) (l Bm cap:Nat) (p:Option Addr) (d:List OM) (hd:d.length≤1000000) (J Jx:List BA→World→Prop) (hY:∀pre x W,J pre W→pre.length<d.length→YieldAt F (n-1) Tryz.prog l (NI x) W fun e W'=>(e= .returned (.bool true)∧J (pre++[x]) W'∧sB Bm p W W')∨(e= .returned (.bool false)∧Jx (pre++[x]) W')) (W:World) (hbox:W.cell? ⟨Bm,0,none⟩=some (.slice p d.length cap)) (hrow:tE W p (d.map (·.1))) (h0:J [] W):CallsIn F n Tryz.prog 172 #[.func (.yield l) #[] #[],.pointer (some ⟨Bm,0,none⟩)] W fun e W'=>(∃v,e= .returned v)∧((∃xs,xs=gA d 0∧J xs W')∨(∃pre,True∧Jx pre W')):=by
 refine callsIn_of_wp Tryz.func172 rfl h10 ?_ hro;simp only[Tryz.ntmps172,List.size_toArray,List.length_cons,List.length_nil,Nat.reduceAdd,Nat.reduceSub,Array.replicate_succ,Array.replicate_zero,List.push_toArray,List.append_toArray,List.nil_append,List.cons_append]
 gi_wp2
 gi_loopw [3] (fun v wr=>∃k:Nat,k≤d.length∧v= .int .i64 ((k:Int)-1)∧J (gA d k) wr∧wr.cell? ⟨Bm,0,none⟩=some (.slice p d.length cap)∧tE wr p (d.map (·.1))) (fun v _=>(RowKit.intOf v+1).toNat)
 case atStart=>
  exact⟨d.length,Nat.le_refl _,rfl,by rw[yM];exact h0,hbox,hrow⟩
 case round=>
  obtain⟨k,hk,rfl,hJ,hb,hR⟩:=hrel;cases k with
  |zero=>
   gi_wp2
   go_end0
   exact⟨⟨_,rfl⟩,.inl ⟨_,rfl,hJ⟩⟩
  |succ k=>
   have e1:((k+1:Nat):Int)-1=(k:Int):=by omega
   rw[e1];have hi:k<d.length:=by omega
   obtain⟨g,rfl,hgl,c0,c1,c2,c3⟩:=hR.here k (by simpa using hi);have HR:=aA hR
   have hYk:=hY (gA d (k+1)) (jJ d k) _ hJ (by rw[oA];omega);rw[AX d k hi]at hYk;have eM:(d.map (·.1))[k]'(by simpa using hi)=(jJ d k).2.1:=by simp[jJ,hi]
   rw[eM]at c0 c1 c2 c3;have hk1:(jJ d k).1=k:=rfl
   clear hR eM hY;obtain⟨fn,tmps,assign,body,hy,hRd⟩:=hYk;dsimp only[NI]at hy;rw[hk1]at hy;clear hk1;generalize(jJ d k).2.1=m at c0 c1 c2 c3 hy
   gi_wp2
   refine hRd.mono ?_;rintro e W3 (⟨rfl,hJ3,hk3⟩|⟨rfl,hJx3⟩)
   ·have hb3:W3.cell? ⟨Bm,0,none⟩=some (.slice (some ⟨g,0,none⟩) d.length cap):=(lM (w:=wr) (a:=⟨Bm,0,none⟩) (hk3.2 Bm (.inl rfl))).trans hb
    gi_wp2
    go_roundw;case rel=>exact⟨k,by omega,rfl,hJ3,hb3,HR.out.keep hk3.1 (fun g' e=>hk3.2 g' (.inr e))⟩
    case measure=>simp only[RowKit.intOf];omega
   ·gi_wp2
    refine aY (results_none rfl _ _ _) rfl ?_;exact⟨⟨_,rfl⟩,.inr ⟨_,trivial,hJx3⟩⟩
theorem EI {n:Nat} (hn:1≤n) (Bm cap:Nat) (p:Option Addr) (d:List OM) (hd:d.length≤1000000) (w:World) (hBm:Bm<w.heap.size) (hbox:w.cell? ⟨Bm,0,none⟩=some (.slice p d.length cap)) (hrow:tE w p (d.map (·.1))) (hp:∀k,p=some ⟨k,0,none⟩→k<w.heap.size):SeqStopsK Fence.wide n Tryz.prog 172 #[.pointer (some ⟨Bm,0,none⟩)] NI (sB Bm p) (fun xs=>xs=gA d 0) (fun _=>True) d.length w:=fun l J Jx W hW _ _ hY h0=>
 QN (F:=Fence.wide) trivial rfl hn l Bm cap p d hd J Jx hY W ((hW.cell (p:=⟨Bm,0,none⟩) hBm).trans hbox) (hrow.keep hW.size (fun g e=>hW.block g (hp g e))) h0
end Go.Proofs.YtkcmamepoplcdaaGreatDoor
namespace Go.Proofs.YtkcmamepoplcdaaGreatDoor
open Go.RowKit
set_option linter.unusedVariables false
theorem bJ {ops:Array Oper} {l:Array Bool} {i:Nat} {o:Oper} (hi:i∈Region.ready .any ops l) (ho:ops[i]? =some o) (k:Nat) (hk:o.after.any (fun e=>Region.binds .any e&&e.on==k)=true):l.getD k false=true:=by obtain⟨_,o',ho',ha⟩:=mem_ready.1 hi;rw[ho]at ho';obtain rfl:=Option.some.inj ho';rw[Array.any_eq_true']at hk;obtain⟨e,he,hh⟩:=hk;simp only[Bool.and_eq_true,beq_iff_eq]at hh;rw[←hh.2];exact ha e he hh.1
theorem gK {l:Array Bool} {i:Nat} (d:Bool) (h:i<l.size):(l.setIfInBounds i true).getD i d=true:=by rw[Array.getD_eq_getD_getElem?,Array.getElem?_setIfInBounds_self_of_lt h];rfl
theorem uZ (n k:Nat):(Array.replicate n false).getD k false=false:=by rw[Array.getD_eq_getD_getElem?,Array.getElem?_replicate];split<;>rfl
def dM (ops:Array Oper) (l:Array Bool):Prop:=∀i o,ops[i]? =some o→l.getD i false=true→∀e∈o.after,Region.binds .any e=true→l.getD e.on false=true
theorem dM.start (ops:Array Oper) (n:Nat):dM ops (Array.replicate n false):=fun i o _ h=>by rw[uZ]at h;cases h
theorem dM.step {ops:Array Oper} {l:Array Bool} {i:Nat} (h:dM ops l) (hi:i∈Region.ready .any ops l) (hl:l.size=ops.size):dM ops (l.setIfInBounds i true):=by
 intro j o ho hj e he hb;obtain⟨_,o',ho',ha⟩:=mem_ready.1 hi;have hil:i<l.size:=by rw[hl];exact(Array.getElem?_eq_some_iff.1 ho').1
 have hd:l.getD e.on false=true:=by
  by_cases hji:j=i
  ·subst hji;rw[ho]at ho';obtain rfl:=Option.some.inj ho';exact ha e he hb
  ·rw[getD_set_ne false (fun e=>hji e.symm)]at hj;exact h j o ho hj e he hb
 by_cases hei:e.on=i
 ·rw[hei,gK false hil]
 ·rw[getD_set_ne false (fun e=>hei e.symm)];exact hd
theorem dM.dep {ops:Array Oper} {l:Array Bool} {i:Nat} {o:Oper} (h:dM ops l) (ho:ops[i]? =some o) (hd:l.getD i false=true) (k:Nat) (hk:o.after.any (fun e=>Region.binds .any e&&e.on==k)=true):l.getD k false=true:=by rw[Array.any_eq_true']at hk;obtain⟨e,he,hh⟩:=hk;simp only[Bool.and_eq_true,beq_iff_eq]at hh;rw[←hh.2];exact h i o ho hd e he hh.1
theorem cL {l:Array Bool} {i:Nat} (h:l.getD i true=false):l.getD i false=true→False:=fun k=>by
 rw[Array.getD_eq_getD_getElem?]at h k;cases hx:l[i]? with
 |none=>rw[hx]at h;simp at h
 |some b=>rw[hx]at h k;simp at h k;rw[h]at k;cases k
theorem tW {ops:Array Oper} {l:Array Bool} (h:(List.range ops.size).all (fun i=>match ops[i]? with|some o=>o.after.all (fun e=> !Region.binds .any e||decide (e.on<i))|none=>true)=true) (hr:Region.ready .any ops l=[]) (hl:l.size=ops.size):∀i,i<ops.size→l.getD i false=true:=by
 intro i;induction i using Nat.strongRecOn with
 |_ i ih=>
  intro hi;cases hx:l.getD i false
  ·exfalso;rw[List.eq_nil_iff_forall_not_mem]at hr;refine hr i (mem_ready.2 ⟨?_,ops[i],Array.getElem?_eq_getElem hi,fun e he hb=>?_⟩)
   ·rw[Array.getD_eq_getD_getElem?]at hx⊢;rw[Array.getElem?_eq_getElem (by omega)]at hx⊢;simpa using hx
   ·rw[List.all_eq_true]at h;have h1:=h i (List.mem_range.2 hi)
    rw[Array.getElem?_eq_getElem hi]at h1;simp only[Array.all_eq_true']at h1;have h2:=h1 e he
    rw[hb]at h2;simp at h2;exact ih e.on h2 (by omega)
  ·rfl
theorem pU {n k:Nat} {p:Prop} (h:(Array.replicate n false).getD k false=true):p:=by rw[uZ]at h;cases h
open Go.RowKit Go.Maps
def RS (ops:Array Oper) (F:(Nat→Value)→Act) (P:Nat→World→Value→Prop) (n A:Nat) (w0:World) (Y:World→Value→Prop) (Z:World→Prop) (l:Array Bool) (a:Act) (u:World):Prop:=
 ∃vs:Nat→Value,a=F vs∧l.size=n∧dM ops l∧(l.getD A false=false→Below w0.heap.size w0 u∧∀k,l.getD k false=true→P k u (vs k))∧(l.getD A false=true→l.getD (A+1) false=false→Y u (vs A))∧(l.getD (A+1) false=true→Z u)
theorem RS.start {ops:Array Oper} {F:(Nat→Value)→Act} {P:Nat→World→Value→Prop} {n A:Nat} {w0:World} {Y:World→Value→Prop} {Z:World→Prop} {a:Act} (vs:Nat→Value) (ha:a=F vs):RS ops F P n A w0 Y Z (Array.replicate n false) a w0.drew:=
 ⟨vs,ha,by simp,dM.start _ _,fun _=>⟨(aD _ _).drew,fun k h=>pU h⟩,fun h=>pU h,fun h=>pU h⟩
theorem RS.step {ops:Array Oper} {F:(Nat→Value)→Act} {P:Nat→World→Value→Prop} {n A:Nat} {w0 u u':World} {Y:World→Value→Prop} {Z:World→Prop} {l:Array Bool} {vs:Nat→Value} (i:Nat) (v:Value) {a:Act} (hP:∀k u u' v,P k u v→Below u.heap.size u u'→P k u' v) (hi:i∈Region.ready .any ops l) (hno:ops.size=n) (hA:l.getD A false=false) (hA1:l.getD (A+1) false=false) (hiA:i<A) (hl:l.size=n) (hcl:dM ops l) (hf:l.getD A false=false→Below w0.heap.size w0 u∧∀k,l.getD k false=true→P k u (vs k)) (hm:Below u.heap.size u u') (hv:P i u' v) (ha:a=F (fun k=>if k=i then v else vs k)):RS ops F P n A w0 Y Z (l.setIfInBounds i true) a u':=by
 refine⟨fun k=>if k=i then v else vs k,ha,by simp[hl],hcl.step hi (by omega),fun _=>⟨aC (hf hA).1 hm,fun k hk=>?_⟩,fun h=>?_,fun h=>?_⟩
 ·by_cases hki:k=i
  ·have hv2:P k u' v:=by rw[hki];exact hv
   exact Eq.mpr (congrArg (fun z=>P k u' z) (if_pos hki)) hv2
  ·rw[getD_set_ne false (fun e=>hki e.symm)]at hk;exact Eq.mpr (congrArg (fun z=>P k u' z) (if_neg hki)) (hP k u u' _ ((hf hA).2 k hk) hm)
 ·rw[getD_set_ne false (by omega),hA]at h;cases h
 ·rw[getD_set_ne false (by omega),hA1]at h;cases h
theorem RS.last {ops:Array Oper} {F:(Nat→Value)→Act} {P:Nat→World→Value→Prop} {n A:Nat} {w0 u':World} {Y:World→Value→Prop} {Z:World→Prop} {l:Array Bool} {vs:Nat→Value} (v:Value) {a:Act} (hi:A∈Region.ready .any ops l) (hno:ops.size=n) (hAn:A<n) (hA1:l.getD (A+1) false=false) (hl:l.size=n) (hcl:dM ops l) (hv:Y u' v) (ha:a=F (fun k=>if k=A then v else vs k)):RS ops F P n A w0 Y Z (l.setIfInBounds A true) a u':=by
 refine⟨fun k=>if k=A then v else vs k,ha,by simp[hl],hcl.step hi (by omega),fun h=>?_,fun _ _=>Eq.mpr (congrArg (fun z=>Y u' z) (if_pos rfl)) hv,fun h=>?_⟩
 ·rw[gK false (by omega)]at h;cases h
 ·rw[getD_set_ne false (by omega),hA1]at h;cases h
theorem RS.put {ops:Array Oper} {F:(Nat→Value)→Act} {P:Nat→World→Value→Prop} {n A:Nat} {w0 u':World} {Y:World→Value→Prop} {Z:World→Prop} {l:Array Bool} {vs:Nat→Value} {a:Act} (hi:A+1∈Region.ready .any ops l) (hno:ops.size=n) (hA:l.getD A false=true) (hAn:A+1<n) (hl:l.size=n) (hcl:dM ops l) (hz:Z u') (ha:a=F vs):RS ops F P n A w0 Y Z (l.setIfInBounds (A+1) true) a u':=by
 refine⟨vs,ha,by simp[hl],hcl.step hi (by omega),fun h=>?_,fun _ h=>?_,fun _=>hz⟩
 ·rw[getD_set_ne false (by omega),hA]at h;cases h
 ·rw[gK false (by omega)]at h;cases h
theorem FL {nn l id:Nat} {P:Program} {ops:Array Oper} {Q:Exit→Act→World→Prop} (F:(Nat→Value)→Act) (K:Nat→World→Value→Prop) (n A:Nat) (w0:World) (Y:World→Value→Prop) (Z:World→Prop) {a:Act} (hm:P.follows .mixedOrders=true) (hd:lB ops=true) (hL:¬LetsOut Q)
 (h0:RS ops F K n A w0 Y Z (Array.replicate ops.size false) a w0.drew)
 (hs:∀l a w,RS ops F K n A w0 Y Z l a w→∀i∈Region.ready .any ops l,wpOp P ops Q i (RS ops F K n A w0 Y Z (l.setIfInBounds i true)) a w)
 (he:∀l a w,RS ops F K n A w0 Y Z l a w→Region.ready .any ops l=[]→Q .normal a w):(Code.region id ops true).wpIn (Fence.wide.inRound l) nn P Q a w0:=pT (I:=RS ops F K n A w0 Y Z) hm hd hL h0 hs he
theorem AE {H:Type} {P:Program} {w:World} {ops:Array Oper} {o:Oper} {a:Act} {K:Act→World→Prop} {Q:Exit→Act→World→Prop} {E:Prop} (hgd:o.guard=none) (m x:Operand) (t:TypeId) (hop:o.op=Op.lookup t m x false) (k e:TypeId) (q:IntKind) (Ky:Keyed P k) (ht:P.underlying t=some (.map k e)) (he:P.underlying e=some (.int q)) (hz:(zeroValue e).run P w= .ok (.int q 0) w) (b n:Nat) (D:DataW H) (hm:a.eval m= .map (some b)) (hown:w.ownsMap P k (plainElem P e) b n D) (key:Value) (kl:Lit) (hx:a.eval x=key) (hkey:keyOf P k key=some kl) (h:∀c:Int,D.atKey kl (.lit (.int q 0))= .lit (.int q c)→K (a.put o.dst (.int q c)) w):if Region.wanted o (yielded ops a.tmps)=true then Oper.wp P o a w K Q else E:=by
 have hw:Region.wanted o (yielded ops a.tmps)=true:=by simp[Region.wanted,hgd]
 rw[if_pos hw];obtain⟨c,hrun,hat,hwc⟩:=hown.lookup_int Ky ht he hz hkey;unfold Oper.wp;simp[execOp,hop,hm,hx,hrun,Result.andThen];exact h c hat
end Go.Proofs.YtkcmamepoplcdaaGreatDoor
namespace Go.Proofs.YtkcmamepoplcdaaGreatDoor
open Go.RowKit
set_option linter.unusedVariables false
def cC (f:Nat→T):Nat→Nat→M→Int
 |0,_,_=>0
 |u+1,i,m=>if nA (f i).m m=true then(f i).c else cC f u (i+1) m
theorem nL {f:Nat→T} {m:M}:∀(u i:Nat),(∀j,i≤j→j<i+u→(f j).m≠m)→cC f u i m=0
 |0,_,_=>rfl
 |u+1,i,h=>by rw[cC,if_neg (fun e=>h i (Nat.le_refl _) (by omega) (cH.1 e))];exact nL u (i+1) (fun j h1 h2=>h j (by omega) (by omega))
def Fl (f:Nat→T) (n:Nat):Prop:=(∀j i,j<i→i<n→eR (f i).m<eR (f j).m)∧∀i,i<n→(f i).m.ok=true∧1≤(f i).c∧(f i).c≤100
theorem Fl.high {f:Nat→T} {n i:Nat} {m:M} (h:Fl f n) (hi:i<n→eR (f i).m<eR m):cC f (n-i) i m=0:=by
 refine nL _ _ (fun j h1 h2 e=>?_);have hin:i<n:=by omega
 have h3:=hi hin;by_cases hji:j=i
 ·rw[hji]at e;rw[e]at h3;omega
 ·have:=h.1 i j (by omega) (by omega);rw[e]at this;omega
theorem kX {f:Nat→T} {n i:Nat} (m:M) (hi:i<n):cC f (n-i) i m=if nA (f i).m m=true then(f i).c else cC f (n-(i+1)) (i+1) m:=by rw[show n-i=(n-(i+1))+1 by omega,cC]
theorem nK {t:T} {r:List T} (h:bC r) (h1:∀s∈r,eR s.m<eR t.m) (h2:t.m.ok=true∧1≤t.c∧t.c≤100):bC (t::r):=
 ⟨List.pairwise_cons.2 ⟨h1,h.1⟩,fun s hs=>by rcases List.mem_cons.1 hs with rfl|hs;exact h2;exact h.2 s hs⟩
theorem gU {f:Nat→T} {la:Nat} {g:Nat→T} {lb:Nat} (F:Fl f la) (G:Fl g lb):∀(u i k:Nat),la-i+(lb-k)≤u→(∀t∈eZ f la g lb u i k,(∃j,i≤j∧j<la∧t.m=(f j).m)∨(∃j,k≤j∧j<lb∧t.m=(g j).m))∧bC (eZ f la g lb u i k)∧∀m,bV (eZ f la g lb u i k) m=(cC f (la-i) i m+cC g (lb-k) k m)%101
 |0,i,k,hu=>by refine⟨fun t ht=>by simp[eZ]at ht,⟨List.Pairwise.nil,fun t ht=>by simp[eZ]at ht⟩,fun m=>?_⟩;rw[show la-i=0 by omega,show lb-k=0 by omega];rfl
 |u+1,i,k,hu=>by
  have up:∀(n i:Nat),n-i=0→∀m,cC f (n-i) i m=0:=fun n i h m=>by rw[h];rfl
  have low:∀{t:T} {i' k':Nat} {r:Int},((∃j,i'≤j∧j<la∧t.m=(f j).m)∨(∃j,k'≤j∧j<lb∧t.m=(g j).m))→(i'<la→eR (f i').m<r)→(k'<lb→eR (g k').m<r)→eR t.m<r:=by
   intro t i' k' r h h1 h2;rcases h with⟨j,a1,a2,a3⟩|⟨j,a1,a2,a3⟩
   ·rw[a3];by_cases hj:j=i'
    ·rw[hj];exact h1 (by omega)
    ·have:=F.1 i' j (by omega) a2;have:=h1 (by omega);omega
   ·rw[a3];by_cases hj:j=k'
    ·rw[hj];exact h2 (by omega)
    ·have:=G.1 k' j (by omega) a2;have:=h2 (by omega);omega
  have fi:i<la→(k<lb→eR (g k).m<eR (f i).m)→(∀t∈f i::eZ f la g lb u (i+1) k,(∃j,i≤j∧j<la∧t.m=(f j).m)∨(∃j,k≤j∧j<lb∧t.m=(g j).m))∧bC (f i::eZ f la g lb u (i+1) k)∧∀m,bV (f i::eZ f la g lb u (i+1) k) m=(cC f (la-i) i m+cC g (lb-k) k m)%101:=by
   intro hi hk;obtain⟨p1,p2,p3⟩:=gU F G u (i+1) k (by omega);refine⟨fun t ht=>?_,nK p2 (fun s hs=>low (p1 s hs) (fun h=>F.1 i (i+1) (by omega) h) hk) (F.2 i hi),fun m=>?_⟩
   ·rcases List.mem_cons.1 ht with rfl|ht
    ·exact .inl ⟨i,Nat.le_refl _,hi,rfl⟩
    ·exact(p1 t ht).imp (fun⟨j,a1,a2,a3⟩=>⟨j,by omega,a2,a3⟩) id
   ·rw[kX m hi];by_cases hm:nA (f i).m m=true
    ·have:=cH.1 hm;subst this;have h0:=F.2 i hi
     rw[cD,if_pos hm,G.high hk,Int.add_zero];omega
    ·rw[bV,if_neg hm,if_neg hm];exact p3 m
  have gk:k<lb→(i<la→eR (f i).m<eR (g k).m)→(∀t∈g k::eZ f la g lb u i (k+1),(∃j,i≤j∧j<la∧t.m=(f j).m)∨(∃j,k≤j∧j<lb∧t.m=(g j).m))∧bC (g k::eZ f la g lb u i (k+1))∧∀m,bV (g k::eZ f la g lb u i (k+1)) m=(cC f (la-i) i m+cC g (lb-k) k m)%101:=by
   intro hk hi;obtain⟨p1,p2,p3⟩:=gU F G u i (k+1) (by omega);refine⟨fun t ht=>?_,nK p2 (fun s hs=>low (p1 s hs) hi (fun h=>G.1 k (k+1) (by omega) h)) (G.2 k hk),fun m=>?_⟩
   ·rcases List.mem_cons.1 ht with rfl|ht
    ·exact .inr ⟨k,Nat.le_refl _,hk,rfl⟩
    ·exact(p1 t ht).imp id (fun⟨j,a1,a2,a3⟩=>⟨j,by omega,a2,a3⟩)
   ·rw[kX (f:=g) m hk];by_cases hm:nA (g k).m m=true
    ·have:=cH.1 hm;subst this;have h0:=G.2 k hk
     rw[cD,if_pos hm,F.high hi,Int.zero_add];omega
    ·rw[bV,if_neg hm,if_neg hm];exact p3 m
  simp only[eZ];by_cases hik:i<la∧k<lb
  ·rw[if_pos hik];have hrk:=KW (F.2 i hik.1).1 (G.2 k hik.2).1
   by_cases h1:0<M.ord 1 (f i).m (g k).m
   ·rw[if_pos h1];exact fi hik.1 (fun _=>(oR (F.2 i hik.1).1 (G.2 k hik.2).1).1 h1)
   ·rw[if_neg h1];by_cases h2:M.ord 1 (f i).m (g k).m<0
    ·rw[if_pos h2];refine gk hik.2 (fun _=>?_);rw[←hrk]at h2;unfold c3 at h2;split at h2
     ·assumption
     ·split at h2<;>omega
    ·rw[if_neg h2];have heq:eR (f i).m=eR (g k).m:=by
      have h3:M.ord 1 (f i).m (g k).m=0:=by omega
      rw[←hrk]at h3;unfold c3 at h3;split at h3
      ·omega
      ·split at h3<;>omega
     have hmm:=wZ (F.2 i hik.1).1 (G.2 k hik.2).1 heq;obtain⟨p1,p2,p3⟩:=gU F G u (i+1) (k+1) (by omega);have hsum:∀m,(cC f (la-i) i m+cC g (lb-k) k m)%101=if nA (f i).m m=true then((f i).c+(g k).c)%101 else(cC f (la-(i+1)) (i+1) m+cC g (lb-(k+1)) (k+1) m)%101:=fun m=>by rw[kX m hik.1,kX (f:=g) m hik.2,←hmm];split<;>rfl
     have hhi:bV (eZ f la g lb u (i+1) (k+1)) (f i).m=0:=by rw[p3,F.high (fun h=>F.1 i (i+1) (by omega) h),G.high (fun h=>by rw[hmm];exact G.1 k (k+1) (by omega) h)];rfl
     have q1:∀t∈eZ f la g lb u (i+1) (k+1),(∃j,i≤j∧j<la∧t.m=(f j).m)∨(∃j,k≤j∧j<lb∧t.m=(g j).m):=fun t ht=>(p1 t ht).imp (fun⟨j,a1,a2,a3⟩=>⟨j,by omega,a2,a3⟩) (fun⟨j,a1,a2,a3⟩=>⟨j,by omega,a2,a3⟩);by_cases hz:((f i).c+(g k).c)%101≠0
     ·rw[if_pos hz];refine⟨fun t ht=>?_,nK p2 (fun s hs=>low (p1 s hs) (fun h=>F.1 i (i+1) (by omega) h) (fun h=>by rw[hmm];exact G.1 k (k+1) (by omega) h)) ⟨(F.2 i hik.1).1,by dsimp only;omega,by dsimp only;omega⟩,fun m=>?_⟩
      ·rcases List.mem_cons.1 ht with rfl|ht
       ·exact .inl ⟨i,Nat.le_refl _,hik.1,rfl⟩
       ·exact q1 t ht
      ·rw[hsum m,bV];by_cases hm:nA (f i).m m=true
       ·rw[if_pos hm,if_pos hm]
       ·rw[if_neg hm,if_neg hm];exact p3 m
     ·rw[if_neg hz];refine⟨q1,p2,fun m=>?_⟩;rw[hsum m];by_cases hm:nA (f i).m m=true
      ·have:=cH.1 hm;subst this;rw[if_pos hm,hhi];omega
      ·rw[if_neg hm];exact p3 m
  ·rw[if_neg hik];by_cases hi:i<la
   ·rw[if_pos hi];exact fi hi (fun h=>absurd ⟨hi,h⟩ hik)
   ·rw[if_neg hi];by_cases hk:k<lb
    ·rw[if_pos hk];exact gk hk (fun h=>absurd h hi)
    ·rw[if_neg hk];refine⟨fun t ht=>(by cases ht),⟨List.Pairwise.nil,fun t ht=>(by cases ht)⟩,fun m=>?_⟩;rw[show la-i=0 by omega,show lb-k=0 by omega];rfl
end Go.Proofs.YtkcmamepoplcdaaGreatDoor
