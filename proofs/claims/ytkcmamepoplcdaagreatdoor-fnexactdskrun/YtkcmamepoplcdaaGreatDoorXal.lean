/-
  An operator is its numbers: two lists of terms that fall, with the same numbers, are one.
-/
import Derived.Test.YtkcmamepoplcdaaGreatDoorXak
set_option maxHeartbeats 1000000
set_option maxRecDepth 100000
namespace Go.Proofs.YtkcmamepoplcdaaGreatDoor
open Go.RowKit
set_option linter.unusedVariables false
def mF (a b:M):Bool:=decide (a.x=b.x∧a.y=b.y∧a.d=b.d∧a.e=b.e)
theorem cC {a b:M}:mF a b=true↔a=b:=by cases a;cases b;simp[mF]
theorem OV {p q y z:Int} (hy:0≤y∧y≤15) (hz:0≤z∧z≤15) (h:p*16+y=q*16+z):p=q∧y=z:=by omega
theorem TE {p q y z:Int} (hy:0≤y∧y≤65535) (hz:0≤z∧z≤65535) (h:p*65536+y=q*65536+z):y=z:=by omega
theorem wA {a b:M} (ha:a.ok=true) (hb:b.ok=true) (h:eF a=eF b):a=b:=by
 have ka:=M.ok_iff.1 ha;have kb:=M.ok_iff.1 hb
 have la:0≤kT a∧kT a≤65535:=by unfold kT;omega
 have lb:0≤kT b∧kT b≤65535:=by unfold kT;omega
 unfold eF at h;have h:=TE la lb h
 unfold kT at h;obtain⟨h,h1⟩:=OV ⟨ka.2.2.1,ka.2.2.2.1⟩ ⟨kb.2.2.1,kb.2.2.2.1⟩ h;obtain⟨h,h2⟩:=OV ⟨ka.1,ka.2.1⟩ ⟨kb.1,kb.2.1⟩ h;obtain⟨h,h3⟩:=OV ⟨ka.2.2.2.2.2.2.1,ka.2.2.2.2.2.2.2⟩ ⟨kb.2.2.2.2.2.2.1,kb.2.2.2.2.2.2.2⟩ h;cases a;cases b;simp only at h h1 h2 h3;subst h h1 h2 h3;rfl
def bN:List T→M→Int
 |[],_=>0
 |t::r,m=>if mF t.m m=true then t.c else bN r m
def aX (L:List T):Prop:=L.Pairwise (fun a b=>eF b.m<eF a.m)∧∀t∈L,t.m.ok=true∧1≤t.c∧t.c≤100
theorem jJ {m:M}:∀{L:List T},(∀t∈L,eF t.m<eF m)→bN L m=0
 |[],_=>rfl
 |t::r,h=>by have h1:=h t (List.mem_cons_self ..);rw[bN,if_neg (fun e=>by rw[cC.1 e]at h1;omega)];exact jJ (fun s hs=>h s (List.mem_cons_of_mem _ hs))
theorem kD {t:T} {r:List T} {m:M} (h:t.m≠m):bN (t::r) m=bN r m:=by rw[bN,if_neg (fun e=>h (cC.1 e))]
theorem bZ (t:T) (r:List T):bN (t::r) t.m=t.c:=by rw[bN,if_pos (cC.2 rfl)]
theorem aX.tail {t:T} {r:List T} (h:aX (t::r)):aX r:=⟨(List.pairwise_cons.1 h.1).2,fun s hs=>h.2 s (List.mem_cons_of_mem _ hs)⟩
theorem aX.head {t:T} {r:List T} (h:aX (t::r)):∀s∈r,eF s.m<eF t.m:=(List.pairwise_cons.1 h.1).1
theorem tS:∀{L K:List T},aX L→aX K→(∀m,m.ok=true→bN L m=bN K m)→L=K
 |[],[],_,_,_=>rfl
 |[],t::r,_,hK,h=>by
  have h1:=hK.2 t (List.mem_cons_self ..);have h2:=h t.m h1.1
  rw[bZ,bN]at h2;omega
 |t::r,[],hL,_,h=>by
  have h1:=hL.2 t (List.mem_cons_self ..);have h2:=h t.m h1.1
  rw[bZ,bN]at h2;omega
 |s::p,t::r,hL,hK,h=>by
  have hs:=hL.2 s (List.mem_cons_self ..);have ht:=hK.2 t (List.mem_cons_self ..)
  rcases Int.lt_trichotomy (eF s.m) (eF t.m)with hlt|heq|hgt
  ·have h2:=h t.m ht.1
   rw[bZ,jJ (fun u hu=>by
    rcases List.mem_cons.1 hu with rfl|hu
    ·exact hlt
    ·have:=hL.head u hu;omega)]at h2
   omega
  ·have hm:s.m=t.m:=wA hs.1 ht.1 heq;have hc:s.c=t.c:=by have h2:=h s.m hs.1;rw[bZ,hm,bZ]at h2;exact h2
   have hst:s=t:=by cases s;cases t;simp only at hm hc;subst hm hc;rfl
   subst hst;have hrest:∀m,m.ok=true→bN p m=bN r m:=fun m hok=>by
    by_cases hm2:s.m=m
    ·subst hm2;rw[jJ hL.head,jJ hK.head]
    ·have h2:=h m hok;rw[kD hm2,kD hm2]at h2;exact h2
   rw[tS hL.tail hK.tail hrest]
  ·have h2:=h s.m hs.1
   rw[bZ,jJ (fun u hu=>by
    rcases List.mem_cons.1 hu with rfl|hu
    ·exact hgt
    ·have:=hK.head u hu;omega)]at h2
   omega
open Go.RowKit Go.Maps Go.Sort Go.Shelf
theorem kJ {α:Type} [DecidableEq α]:∀(l r:List α),l.Nodup→(∀x∈l,x∈r)→l.length≤r.length
 |[],_,_,_=>gO _
 |x::l,r,hn,hs=>by
  rw[List.nodup_cons]at hn;have hx:x∈r:=hs x (List.mem_cons_self ..)
  have:=kJ l (r.erase x) hn.2 (fun y hy=>(List.mem_erase_of_ne (fun e:y=x=>hn.1 (e▸hy))).2 (hs y (List.mem_cons_of_mem _ hy)));rw[List.length_erase_of_mem hx]at this;have:0<r.length:=List.length_pos_of_mem hx
  simp only[List.length_cons];omega
theorem JI {w:World} {b n:Nat} {D:DataW Unit} (h:w.ownsMap Tryz.prog 77 (plainElem Tryz.prog 118) b n D):Maps.size D≤n:=by obtain⟨es,clock,h1,F,h3,rfl⟩:=h;rw[size_eq,length_read];exact h3
theorem wD {w:World} {b n:Nat} {D:DataW Unit} (h:w.ownsMap Tryz.prog 77 (plainElem Tryz.prog 118) b n D) (ss:List M) (hk:∀kl,Maps.has D kl=true→∃m∈ss,kl=cT m):Maps.size D≤ss.length:=by
 have ht:=h.tidy nQ;obtain⟨es,clock,h1,F,h3,hD⟩:=h;obtain⟨L,hL,hp⟩:=ht;have e:L=(es.toList.map (WideElems.rg Tryz.prog 77 (plainElem Tryz.prog 118))).foldr DataW.insert []:=by rw[hL]at hD;exact DataW.map.inj hD
 have hkeys:∀p∈L,∃m∈ss,p.1=cT m:=fun p hpL=>by
  refine hk p.1 ?_;rw[hL,has_eq,List.any_eq_true];refine⟨p,hpL,?_⟩;have hmem:p∈es.toList.map (WideElems.rg Tryz.prog 77 (plainElem Tryz.prog 118)):=by rw[e]at hpL;exact(WideShapes.sorted_perm _).mem_iff.1 hpL
  obtain⟨v,hv⟩:=fit_keys F p hmem;exact WideAt.sameKey_self (nQ.key hv)
 rw[hL,size_eq]
 letI:DecidableEq Lit:=fun a b=>Classical.propDecidable (a=b)
 have:=kJ (L.map (·.1)) (ss.map cT) (by rw[List.Nodup,List.pairwise_map];exact hp) (fun x hx=>by
  obtain⟨p,hpL,rfl⟩:=List.mem_map.1 hx;obtain⟨m,hm,he⟩:=hkeys p hpL;rw[he]
  exact List.mem_map_of_mem hm)
 simpa using this
theorem EG {l:List OM} (h:l.Pairwise (fun a b=>eF a.1≤eF b.1)) (hn:(l.map (·.1)).Nodup):l.Pairwise (fun a b=>eF a.1<eF b.1):=by
 rw[List.Nodup,List.pairwise_map]at hn;refine(h.and hn).imp ?_;rintro a b ⟨h1,h2⟩;rcases Int.lt_or_eq_of_le h1 with h|h
 ·exact h
 ·exact absurd (wA a.2 b.2 h) h2
theorem MA (hsort:qO) (w:World) (b n:Nat) (D:DataW Unit) (hown:w.ownsMap Tryz.prog 77 (plainElem Tryz.prog 118) b n D) (hks:∀kl,Maps.has D kl=true→∃m:M,m.ok=true∧kl=cT m) (hn:n≤1000000):Calls Tryz.prog 147 #[.map (some b),.func (.func 88) #[] #[]] w fun e w'=>∃(p:Option Addr) (cap:Nat) (dO:List OM),e= .returned (.slice p dO.length cap)∧dO.Pairwise (fun a b=>eF a.1<eF b.1)∧(∀m:M,m.ok=true→(m∈dO.map (·.1)↔Maps.has D (cT m)=true))∧dO.length=Maps.size D∧sI w' p (dO.map (·.1))∧(∀k,p=some ⟨k,0,none⟩→w.heap.size≤k∧k<w'.heap.size)∧Below w.heap.size w w':=by
 have hN:Maps.size D≤1000000:=jW (JI hown) hn;obtain⟨W1,hW1⟩:∃W1,w.alloc (.cells #[.func (.func 88) #[] #[]] 103)=W1:=⟨_,rfl⟩
 obtain⟨W2,hW2⟩:∃W2,W1.alloc (.cells #[.map (some b)] 119)=W2:=⟨_,rfl⟩
 have hs1:W1.heap.size=w.heap.size+1:=by rw[←hW1];simp
 have hs2:W2.heap.size=w.heap.size+2:=by rw[←hW2];simp[hs1]
 have hb1:Below w.heap.size w W1:=by rw[←hW1];exact(aD _ w).alloc (Nat.le_refl _) _
 have hb2:Below w.heap.size w W2:=by rw[←hW2];exact hb1.alloc hb1.size _
 have hr1:W1.cell? ⟨w.heap.size,0,none⟩=some (.func (.func 88) #[] #[]):=by rw[←hW1];exact(Boxed.new w _ _).cell
 have hr2:W2.cell? ⟨w.heap.size,0,none⟩=some (.func (.func 88) #[] #[]):=by rw[←hW2];exact(sP (w:=W1) (a:=⟨w.heap.size,0,none⟩) (Below.heap_alloc W1 _ w.heap.size (by omega))).trans hr1
 have hm2:W2.cell? ⟨w.heap.size+1,0,none⟩=some (.map (some b)):=by rw[←hs1,←hW2];exact(Boxed.new W1 _ _).cell
 have hown2:W2.ownsMap Tryz.prog 77 (plainElem Tryz.prog 118) b n D:=by rw[←hW2,←hW1];exact(hown.alloc _).alloc _
 have hseq:SeqGives Fence.wide 5 Tryz.prog 193 #[.pointer (some ⟨w.heap.size+1,0,none⟩)] KG (zH D) (Maps.size D) W2:=DI trivial rfl (by omega) _ b n D W2 (by omega) hks hm2 hown2;have hS:=ND hsort 193 _ (enters_of Tryz.func193 (by kernel_rfl) rfl) (zH D) _ hN (fun ss h=>h.2.1) (fun ss h=>h.2.2.2) W2 hseq w.heap.size (by omega) hr2
 have hK:=(callsIn_wide (n:=5)).1 (RI (F:=Fence.wide) (n:=5) trivial rfl (some b) W1);rw[hs1]at hK;clear hseq hm2 hr2 hr1;go_enter Tryz.func147,Tryz.ntmps147
 go_wp2_with (first
  |(go_at_call 174;refine hK.mono ?_;rintro e W ⟨rfl,hw⟩;obtain rfl:=hw.trans hW2;clear hw)
  |(go_at_call 173;refine hS.mono ?_;rintro e W3 ⟨p,cap,dO,ss,rfl,hS3,hp3,hs3,hv3,hp4,hb3⟩))
 go_ret;have hnd:(dO.map (·.1)).Nodup:=hp3.symm.nodup hS3.1
 have hmem:∀m:M,m.ok=true→(m∈dO.map (·.1)↔Maps.has D (cT m)=true):=fun m hm=>by rw[hp3.mem_iff];exact hS3.2.2.1 m hm
 refine⟨p,cap,dO,rfl,EG hs3 hnd,hmem,?_,hv3,fun k e=>(by have:=hp4 k e;omega),hb2.trans (hb3.mono (by omega))⟩;have h1:dO.length=ss.length:=by have:=hp3.length_eq;simpa using this
 have h2:=wD hown ss (fun kl hkl=>by
  obtain⟨m,hm,rfl⟩:=hks kl hkl
  exact⟨m,(hS3.2.2.1 m hm).2 hkl,rfl⟩)
 have h3:=hS3.2.2.2;omega
attribute [local go_sem] Oper.semAt_some
abbrev BA:Type:=Nat×OM
def LK (x:BA):Array Value:=#[.int .i64 (x.1:Int),.agg #[.int .i64 x.2.1.x,.int .i64 x.2.1.y,.int .i64 x.2.1.d,.int .i64 x.2.1.e]]
def iS (d:List OM) (i:Nat):BA:=(i,d.getD i default)
def fM (d:List OM) (k:Nat):List BA:=(List.range (d.length-k)).map fun j=>iS d (d.length-1-j)
theorem xL (d:List OM):fM d d.length=[]:=by simp[fM]
theorem zN (d:List OM) (k:Nat) (h:k<d.length):fM d (k+1)++[iS d k]=fM d k:=by unfold fM;rw[show d.length-k=(d.length-(k+1))+1 by omega,List.range_succ,List.map_append];simp only[List.map_cons,List.map_nil];rw[show d.length-1-(d.length-(k+1))=k by omega]
theorem nD (d:List OM) (k:Nat):(fM d k).length=d.length-k:=by simp[fM]
def rF (Bm:Nat) (p:Option Addr) (W W':World):Prop:=W.heap.size≤W'.heap.size∧∀k,(k=Bm∨p=some ⟨k,0,none⟩)→W'.heap[k]? =W.heap[k]?
theorem LZ {Bm:Nat} {p:Option Addr} {A B C:World} (h:rF Bm p A B) (k:rF Bm p B C):rF Bm p A C:=⟨jW h.1 k.1,fun i hi=>(k.2 i hi).trans (h.2 i hi)⟩
theorem LY {Bm:Nat} {p:Option Addr} {w:World} (hB:Bm<w.heap.size) (hp:∀k,p=some ⟨k,0,none⟩→k<w.heap.size) (W:World) (l:Nat) (o o':Obj) (hl:w.heap.size≤l) (h:W.heap[l]? =some o) (_:o.isCells=false) (_:o.isWalk=false):rF Bm p W (W.putObj l o'):=
 ⟨by rw[World.putObj_size];exact Nat.le_refl _,fun k hk=>World.putObj_heap_other (by rcases hk with rfl|hk;omega;have:=hp k hk;omega)⟩
theorem QX {F:Fence} {n:Nat} (h7:F.fn 146) (hro:F.round=none) (p:Option Addr) (k cap:Nat) (w:World):CallsIn F n Tryz.prog 146 #[.slice p k cap] w fun e w'=>e= .returned (.func (.func 172) #[] #[.pointer (some ⟨w.heap.size,0,none⟩)])∧w'=w.alloc (.cells #[.slice p k cap] 157):=by
 refine callsIn_of_wp Tryz.func146 rfl h7 ?_ hro;simp only[Tryz.ntmps146,List.size_toArray,List.length_cons,List.length_nil,Nat.reduceAdd,Nat.reduceSub,Array.replicate_succ,Array.replicate_zero,List.push_toArray,List.append_toArray,List.nil_append,List.cons_append]
 gi_wp2
 go_ret;exact⟨rfl,rfl⟩
theorem OO {F:Fence} {n:Nat} (h10:F.fn 172) (hro:F.round=none) (hn:1≤n) (l Bm cap:Nat) (p:Option Addr) (d:List OM) (hd:d.length≤1000000) (J Jx:List BA→World→Prop) (hY:∀pre x W,J pre W→pre.length<d.length→YieldAt F (n-1) Tryz.prog l (LK x) W fun e W'=>(e= .returned (.bool true)∧J (pre++[x]) W'∧rF Bm p W W')∨(e= .returned (.bool false)∧Jx (pre++[x]) W')) (W:World) (hbox:W.cell? ⟨Bm,0,none⟩=some (.slice p d.length cap)) (hrow:sI W p (d.map (·.1))) (h0:J [] W):CallsIn F n Tryz.prog 172 #[.func (.yield l) #[] #[],.pointer (some ⟨Bm,0,none⟩)] W fun e W'=>(∃v,e= .returned v)∧((∃xs,xs=fM d 0∧J xs W')∨(∃pre,True∧Jx pre W')):=by
 refine callsIn_of_wp Tryz.func172 rfl h10 ?_ hro;simp only[Tryz.ntmps172,List.size_toArray,List.length_cons,List.length_nil,Nat.reduceAdd,Nat.reduceSub,Array.replicate_succ,Array.replicate_zero,List.push_toArray,List.append_toArray,List.nil_append,List.cons_append]
 gi_wp2
 gi_loopw [3] (fun v wr=>∃k:Nat,k≤d.length∧v= .int .i64 ((k:Int)-1)∧J (fM d k) wr∧wr.cell? ⟨Bm,0,none⟩=some (.slice p d.length cap)∧sI wr p (d.map (·.1))) (fun v _=>(RowKit.intOf v+1).toNat)
 case atStart=>
  exact⟨d.length,Nat.le_refl _,rfl,by rw[xL];exact h0,hbox,hrow⟩
 case round=>
  obtain⟨k,hk,rfl,hJ,hb,hR⟩:=hrel;cases k with
  |zero=>
   gi_wp2
   go_end0
   exact⟨⟨_,rfl⟩,.inl ⟨_,rfl,hJ⟩⟩
  |succ k=>
   have e1:((k+1:Nat):Int)-1=(k:Int):=by omega
   rw[e1];have hi:k<d.length:=by omega
   obtain⟨g,rfl,hgl,c0,c1,c2,c3⟩:=hR.here k (by simpa using hi);have HR:=aA hR
   have hYk:=hY (fM d (k+1)) (iS d k) _ hJ (by rw[nD];omega);rw[zN d k hi]at hYk;have eM:(d.map (·.1))[k]'(by simpa using hi)=(iS d k).2.1:=by simp[iS,hi]
   rw[eM]at c0 c1 c2 c3;have hk1:(iS d k).1=k:=rfl
   clear hR eM hY;obtain⟨fn,tmps,assign,body,hy,hRd⟩:=hYk;dsimp only[LK]at hy;rw[hk1]at hy;clear hk1;generalize(iS d k).2.1=m at c0 c1 c2 c3 hy
   gi_wp2
   refine hRd.mono ?_;rintro e W3 (⟨rfl,hJ3,hk3⟩|⟨rfl,hJx3⟩)
   ·have hb3:W3.cell? ⟨Bm,0,none⟩=some (.slice (some ⟨g,0,none⟩) d.length cap):=(sP (w:=wr) (a:=⟨Bm,0,none⟩) (hk3.2 Bm (.inl rfl))).trans hb
    gi_wp2
    go_roundw;case rel=>exact⟨k,by omega,rfl,hJ3,hb3,HR.out.keep hk3.1 (fun g' e=>hk3.2 g' (.inr e))⟩
    case measure=>simp only[RowKit.intOf];omega
   ·gi_wp2
    refine bC (results_none rfl _ _ _) rfl ?_;exact⟨⟨_,rfl⟩,.inr ⟨_,trivial,hJx3⟩⟩
theorem CU {n:Nat} (hn:1≤n) (Bm cap:Nat) (p:Option Addr) (d:List OM) (hd:d.length≤1000000) (w:World) (hBm:Bm<w.heap.size) (hbox:w.cell? ⟨Bm,0,none⟩=some (.slice p d.length cap)) (hrow:sI w p (d.map (·.1))) (hp:∀k,p=some ⟨k,0,none⟩→k<w.heap.size):SeqStopsK Fence.wide n Tryz.prog 172 #[.pointer (some ⟨Bm,0,none⟩)] LK (rF Bm p) (fun xs=>xs=fM d 0) (fun _=>True) d.length w:=fun l J Jx W hW _ _ hY h0=>
 OO (F:=Fence.wide) trivial rfl hn l Bm cap p d hd J Jx hY W ((hW.cell (p:=⟨Bm,0,none⟩) hBm).trans hbox) (hrow.keep hW.size (fun g e=>hW.block g (hp g e))) h0
end Go.Proofs.YtkcmamepoplcdaaGreatDoor
namespace Go.Proofs.YtkcmamepoplcdaaGreatDoor
open Go.RowKit
set_option linter.unusedVariables false
theorem bB {ops:Array Oper} {l:Array Bool} {i:Nat} {o:Oper} (hi:i∈Region.ready .any ops l) (ho:ops[i]? =some o) (k:Nat) (hk:o.after.any (fun e=>Region.binds .any e&&e.on==k)=true):l.getD k false=true:=by obtain⟨_,o',ho',ha⟩:=mem_ready.1 hi;rw[ho]at ho';obtain rfl:=Option.some.inj ho';rw[Array.any_eq_true']at hk;obtain⟨e,he,hh⟩:=hk;simp only[Bool.and_eq_true,beq_iff_eq]at hh;rw[←hh.2];exact ha e he hh.1
theorem fW {l:Array Bool} {i:Nat} (d:Bool) (h:i<l.size):(l.setIfInBounds i true).getD i d=true:=by rw[Array.getD_eq_getD_getElem?,Array.getElem?_setIfInBounds_self_of_lt h];rfl
theorem uF (n k:Nat):(Array.replicate n false).getD k false=false:=by rw[Array.getD_eq_getD_getElem?,Array.getElem?_replicate];split<;>rfl
def dA (ops:Array Oper) (l:Array Bool):Prop:=∀i o,ops[i]? =some o→l.getD i false=true→∀e∈o.after,Region.binds .any e=true→l.getD e.on false=true
theorem dA.start (ops:Array Oper) (n:Nat):dA ops (Array.replicate n false):=fun i o _ h=>by rw[uF]at h;cases h
theorem dA.step {ops:Array Oper} {l:Array Bool} {i:Nat} (h:dA ops l) (hi:i∈Region.ready .any ops l) (hl:l.size=ops.size):dA ops (l.setIfInBounds i true):=by
 intro j o ho hj e he hb;obtain⟨_,o',ho',ha⟩:=mem_ready.1 hi;have hil:i<l.size:=by rw[hl];exact(Array.getElem?_eq_some_iff.1 ho').1
 have hd:l.getD e.on false=true:=by
  by_cases hji:j=i
  ·subst hji;rw[ho]at ho';obtain rfl:=Option.some.inj ho';exact ha e he hb
  ·rw[getD_set_ne false (fun e=>hji e.symm)]at hj;exact h j o ho hj e he hb
 by_cases hei:e.on=i
 ·rw[hei,fW false hil]
 ·rw[getD_set_ne false (fun e=>hei e.symm)];exact hd
theorem dA.dep {ops:Array Oper} {l:Array Bool} {i:Nat} {o:Oper} (h:dA ops l) (ho:ops[i]? =some o) (hd:l.getD i false=true) (k:Nat) (hk:o.after.any (fun e=>Region.binds .any e&&e.on==k)=true):l.getD k false=true:=by rw[Array.any_eq_true']at hk;obtain⟨e,he,hh⟩:=hk;simp only[Bool.and_eq_true,beq_iff_eq]at hh;rw[←hh.2];exact h i o ho hd e he hh.1
theorem cE {l:Array Bool} {i:Nat} (h:l.getD i true=false):l.getD i false=true→False:=fun k=>by
 rw[Array.getD_eq_getD_getElem?]at h k;cases hx:l[i]? with
 |none=>rw[hx]at h;simp at h
 |some b=>rw[hx]at h k;simp at h k;rw[h]at k;cases k
theorem sY {ops:Array Oper} {l:Array Bool} (h:(List.range ops.size).all (fun i=>match ops[i]? with|some o=>o.after.all (fun e=> !Region.binds .any e||decide (e.on<i))|none=>true)=true) (hr:Region.ready .any ops l=[]) (hl:l.size=ops.size):∀i,i<ops.size→l.getD i false=true:=by
 intro i;induction i using Nat.strongRecOn with
 |_ i ih=>
  intro hi;cases hx:l.getD i false
  ·exfalso;rw[List.eq_nil_iff_forall_not_mem]at hr;refine hr i (mem_ready.2 ⟨?_,ops[i],Array.getElem?_eq_getElem hi,fun e he hb=>?_⟩)
   ·rw[Array.getD_eq_getD_getElem?]at hx⊢;rw[Array.getElem?_eq_getElem (by omega)]at hx⊢;simpa using hx
   ·rw[List.all_eq_true]at h;have h1:=h i (List.mem_range.2 hi)
    rw[Array.getElem?_eq_getElem hi]at h1;simp only[Array.all_eq_true']at h1;have h2:=h1 e he
    rw[hb]at h2;simp at h2;exact ih e.on h2 (by omega)
  ·rfl
theorem oZ {n k:Nat} {p:Prop} (h:(Array.replicate n false).getD k false=true):p:=by rw[uF]at h;cases h
open Go.RowKit Go.Maps
def RS (ops:Array Oper) (F:(Nat→Value)→Act) (P:Nat→World→Value→Prop) (n A:Nat) (w0:World) (Y:World→Value→Prop) (Z:World→Prop) (l:Array Bool) (a:Act) (u:World):Prop:=
 ∃vs:Nat→Value,a=F vs∧l.size=n∧dA ops l∧(l.getD A false=false→Below w0.heap.size w0 u∧∀k,l.getD k false=true→P k u (vs k))∧(l.getD A false=true→l.getD (A+1) false=false→Y u (vs A))∧(l.getD (A+1) false=true→Z u)
theorem RS.start {ops:Array Oper} {F:(Nat→Value)→Act} {P:Nat→World→Value→Prop} {n A:Nat} {w0:World} {Y:World→Value→Prop} {Z:World→Prop} {a:Act} (vs:Nat→Value) (ha:a=F vs):RS ops F P n A w0 Y Z (Array.replicate n false) a w0.drew:=
 ⟨vs,ha,by simp,dA.start _ _,fun _=>⟨(aD _ _).drew,fun k h=>oZ h⟩,fun h=>oZ h,fun h=>oZ h⟩
theorem RS.step {ops:Array Oper} {F:(Nat→Value)→Act} {P:Nat→World→Value→Prop} {n A:Nat} {w0 u u':World} {Y:World→Value→Prop} {Z:World→Prop} {l:Array Bool} {vs:Nat→Value} (i:Nat) (v:Value) {a:Act} (hP:∀k u u' v,P k u v→Below u.heap.size u u'→P k u' v) (hi:i∈Region.ready .any ops l) (hno:ops.size=n) (hA:l.getD A false=false) (hA1:l.getD (A+1) false=false) (hiA:i<A) (hl:l.size=n) (hcl:dA ops l) (hf:l.getD A false=false→Below w0.heap.size w0 u∧∀k,l.getD k false=true→P k u (vs k)) (hm:Below u.heap.size u u') (hv:P i u' v) (ha:a=F (fun k=>if k=i then v else vs k)):RS ops F P n A w0 Y Z (l.setIfInBounds i true) a u':=by
 refine⟨fun k=>if k=i then v else vs k,ha,by simp[hl],hcl.step hi (by omega),fun _=>⟨aC (hf hA).1 hm,fun k hk=>?_⟩,fun h=>?_,fun h=>?_⟩
 ·by_cases hki:k=i
  ·have hv2:P k u' v:=by rw[hki];exact hv
   exact Eq.mpr (congrArg (fun z=>P k u' z) (if_pos hki)) hv2
  ·rw[getD_set_ne false (fun e=>hki e.symm)]at hk;exact Eq.mpr (congrArg (fun z=>P k u' z) (if_neg hki)) (hP k u u' _ ((hf hA).2 k hk) hm)
 ·rw[getD_set_ne false (by omega),hA]at h;cases h
 ·rw[getD_set_ne false (by omega),hA1]at h;cases h
theorem RS.last {ops:Array Oper} {F:(Nat→Value)→Act} {P:Nat→World→Value→Prop} {n A:Nat} {w0 u':World} {Y:World→Value→Prop} {Z:World→Prop} {l:Array Bool} {vs:Nat→Value} (v:Value) {a:Act} (hi:A∈Region.ready .any ops l) (hno:ops.size=n) (hAn:A<n) (hA1:l.getD (A+1) false=false) (hl:l.size=n) (hcl:dA ops l) (hv:Y u' v) (ha:a=F (fun k=>if k=A then v else vs k)):RS ops F P n A w0 Y Z (l.setIfInBounds A true) a u':=by
 refine⟨fun k=>if k=A then v else vs k,ha,by simp[hl],hcl.step hi (by omega),fun h=>?_,fun _ _=>Eq.mpr (congrArg (fun z=>Y u' z) (if_pos rfl)) hv,fun h=>?_⟩
 ·rw[fW false (by omega)]at h;cases h
 ·rw[getD_set_ne false (by omega),hA1]at h;cases h
theorem RS.put {ops:Array Oper} {F:(Nat→Value)→Act} {P:Nat→World→Value→Prop} {n A:Nat} {w0 u':World} {Y:World→Value→Prop} {Z:World→Prop} {l:Array Bool} {vs:Nat→Value} {a:Act} (hi:A+1∈Region.ready .any ops l) (hno:ops.size=n) (hA:l.getD A false=true) (hAn:A+1<n) (hl:l.size=n) (hcl:dA ops l) (hz:Z u') (ha:a=F vs):RS ops F P n A w0 Y Z (l.setIfInBounds (A+1) true) a u':=by
 refine⟨vs,ha,by simp[hl],hcl.step hi (by omega),fun h=>?_,fun _ h=>?_,fun _=>hz⟩
 ·rw[getD_set_ne false (by omega),hA]at h;cases h
 ·rw[fW false (by omega)]at h;cases h
theorem DU {nn l id:Nat} {P:Program} {ops:Array Oper} {Q:Exit→Act→World→Prop} (F:(Nat→Value)→Act) (K:Nat→World→Value→Prop) (n A:Nat) (w0:World) (Y:World→Value→Prop) (Z:World→Prop) {a:Act} (hm:P.follows .mixedOrders=true) (hd:kL ops=true) (hL:¬LetsOut Q)
 (h0:RS ops F K n A w0 Y Z (Array.replicate ops.size false) a w0.drew)
 (hs:∀l a w,RS ops F K n A w0 Y Z l a w→∀i∈Region.ready .any ops l,wpOp P ops Q i (RS ops F K n A w0 Y Z (l.setIfInBounds i true)) a w)
 (he:∀l a w,RS ops F K n A w0 Y Z l a w→Region.ready .any ops l=[]→Q .normal a w):(Code.region id ops true).wpIn (Fence.wide.inRound l) nn P Q a w0:=oY (I:=RS ops F K n A w0 Y Z) hm hd hL h0 hs he
theorem zB {H:Type} {P:Program} {w:World} {ops:Array Oper} {o:Oper} {a:Act} {K:Act→World→Prop} {Q:Exit→Act→World→Prop} {E:Prop} (hgd:o.guard=none) (m x:Operand) (t:TypeId) (hop:o.op=Op.lookup t m x false) (k e:TypeId) (q:IntKind) (Ky:Keyed P k) (ht:P.underlying t=some (.map k e)) (he:P.underlying e=some (.int q)) (hz:(zeroValue e).run P w= .ok (.int q 0) w) (b n:Nat) (D:DataW H) (hm:a.eval m= .map (some b)) (hown:w.ownsMap P k (plainElem P e) b n D) (key:Value) (kl:Lit) (hx:a.eval x=key) (hkey:keyOf P k key=some kl) (h:∀c:Int,D.atKey kl (.lit (.int q 0))= .lit (.int q c)→K (a.put o.dst (.int q c)) w):if Region.wanted o (yielded ops a.tmps)=true then Oper.wp P o a w K Q else E:=by
 have hw:Region.wanted o (yielded ops a.tmps)=true:=by simp[Region.wanted,hgd]
 rw[if_pos hw];obtain⟨c,hrun,hat,hwc⟩:=hown.lookup_int Ky ht he hz hkey;unfold Oper.wp;simp[execOp,hop,hm,hx,hrun,Result.andThen];exact h c hat
end Go.Proofs.YtkcmamepoplcdaaGreatDoor
namespace Go.Proofs.YtkcmamepoplcdaaGreatDoor
open Go.RowKit
set_option linter.unusedVariables false
def bX (f:Nat→T):Nat→Nat→M→Int
 |0,_,_=>0
 |u+1,i,m=>if mF (f i).m m=true then(f i).c else bX f u (i+1) m
theorem mN {f:Nat→T} {m:M}:∀(u i:Nat),(∀j,i≤j→j<i+u→(f j).m≠m)→bX f u i m=0
 |0,_,_=>rfl
 |u+1,i,h=>by rw[bX,if_neg (fun e=>h i (Nat.le_refl _) (by omega) (cC.1 e))];exact mN u (i+1) (fun j h1 h2=>h j (by omega) (by omega))
def Fl (f:Nat→T) (n:Nat):Prop:=(∀j i,j<i→i<n→eF (f i).m<eF (f j).m)∧∀i,i<n→(f i).m.ok=true∧1≤(f i).c∧(f i).c≤100
theorem Fl.high {f:Nat→T} {n i:Nat} {m:M} (h:Fl f n) (hi:i<n→eF (f i).m<eF m):bX f (n-i) i m=0:=by
 refine mN _ _ (fun j h1 h2 e=>?_);have hin:i<n:=by omega
 have h3:=hi hin;by_cases hji:j=i
 ·rw[hji]at e;rw[e]at h3;omega
 ·have:=h.1 i j (by omega) (by omega);rw[e]at this;omega
theorem kH {f:Nat→T} {n i:Nat} (m:M) (hi:i<n):bX f (n-i) i m=if mF (f i).m m=true then(f i).c else bX f (n-(i+1)) (i+1) m:=by rw[show n-i=(n-(i+1))+1 by omega,bX]
theorem mM {t:T} {r:List T} (h:aX r) (h1:∀s∈r,eF s.m<eF t.m) (h2:t.m.ok=true∧1≤t.c∧t.c≤100):aX (t::r):=
 ⟨List.pairwise_cons.2 ⟨h1,h.1⟩,fun s hs=>by rcases List.mem_cons.1 hs with rfl|hs;exact h2;exact h.2 s hs⟩
theorem gH {f:Nat→T} {la:Nat} {g:Nat→T} {lb:Nat} (F:Fl f la) (G:Fl g lb):∀(u i k:Nat),la-i+(lb-k)≤u→(∀t∈fB f la g lb u i k,(∃j,i≤j∧j<la∧t.m=(f j).m)∨(∃j,k≤j∧j<lb∧t.m=(g j).m))∧aX (fB f la g lb u i k)∧∀m,bN (fB f la g lb u i k) m=(bX f (la-i) i m+bX g (lb-k) k m)%101
 |0,i,k,hu=>by refine⟨fun t ht=>by simp[fB]at ht,⟨List.Pairwise.nil,fun t ht=>by simp[fB]at ht⟩,fun m=>?_⟩;rw[show la-i=0 by omega,show lb-k=0 by omega];rfl
 |u+1,i,k,hu=>by
  have up:∀(n i:Nat),n-i=0→∀m,bX f (n-i) i m=0:=fun n i h m=>by rw[h];rfl
  have low:∀{t:T} {i' k':Nat} {r:Int},((∃j,i'≤j∧j<la∧t.m=(f j).m)∨(∃j,k'≤j∧j<lb∧t.m=(g j).m))→(i'<la→eF (f i').m<r)→(k'<lb→eF (g k').m<r)→eF t.m<r:=by
   intro t i' k' r h h1 h2;rcases h with⟨j,a1,a2,a3⟩|⟨j,a1,a2,a3⟩
   ·rw[a3];by_cases hj:j=i'
    ·rw[hj];exact h1 (by omega)
    ·have:=F.1 i' j (by omega) a2;have:=h1 (by omega);omega
   ·rw[a3];by_cases hj:j=k'
    ·rw[hj];exact h2 (by omega)
    ·have:=G.1 k' j (by omega) a2;have:=h2 (by omega);omega
  have fi:i<la→(k<lb→eF (g k).m<eF (f i).m)→(∀t∈f i::fB f la g lb u (i+1) k,(∃j,i≤j∧j<la∧t.m=(f j).m)∨(∃j,k≤j∧j<lb∧t.m=(g j).m))∧aX (f i::fB f la g lb u (i+1) k)∧∀m,bN (f i::fB f la g lb u (i+1) k) m=(bX f (la-i) i m+bX g (lb-k) k m)%101:=by
   intro hi hk;obtain⟨p1,p2,p3⟩:=gH F G u (i+1) k (by omega);refine⟨fun t ht=>?_,mM p2 (fun s hs=>low (p1 s hs) (fun h=>F.1 i (i+1) (by omega) h) hk) (F.2 i hi),fun m=>?_⟩
   ·rcases List.mem_cons.1 ht with rfl|ht
    ·exact .inl ⟨i,Nat.le_refl _,hi,rfl⟩
    ·exact(p1 t ht).imp (fun⟨j,a1,a2,a3⟩=>⟨j,by omega,a2,a3⟩) id
   ·rw[kH m hi];by_cases hm:mF (f i).m m=true
    ·have:=cC.1 hm;subst this;have h0:=F.2 i hi
     rw[bZ,if_pos hm,G.high hk,Int.add_zero];omega
    ·rw[bN,if_neg hm,if_neg hm];exact p3 m
  have gk:k<lb→(i<la→eF (f i).m<eF (g k).m)→(∀t∈g k::fB f la g lb u i (k+1),(∃j,i≤j∧j<la∧t.m=(f j).m)∨(∃j,k≤j∧j<lb∧t.m=(g j).m))∧aX (g k::fB f la g lb u i (k+1))∧∀m,bN (g k::fB f la g lb u i (k+1)) m=(bX f (la-i) i m+bX g (lb-k) k m)%101:=by
   intro hk hi;obtain⟨p1,p2,p3⟩:=gH F G u i (k+1) (by omega);refine⟨fun t ht=>?_,mM p2 (fun s hs=>low (p1 s hs) hi (fun h=>G.1 k (k+1) (by omega) h)) (G.2 k hk),fun m=>?_⟩
   ·rcases List.mem_cons.1 ht with rfl|ht
    ·exact .inr ⟨k,Nat.le_refl _,hk,rfl⟩
    ·exact(p1 t ht).imp id (fun⟨j,a1,a2,a3⟩=>⟨j,by omega,a2,a3⟩)
   ·rw[kH (f:=g) m hk];by_cases hm:mF (g k).m m=true
    ·have:=cC.1 hm;subst this;have h0:=G.2 k hk
     rw[bZ,if_pos hm,F.high hi,Int.zero_add];omega
    ·rw[bN,if_neg hm,if_neg hm];exact p3 m
  simp only[fB];by_cases hik:i<la∧k<lb
  ·rw[if_pos hik];have hrk:=JC (F.2 i hik.1).1 (G.2 k hik.2).1
   by_cases h1:0<M.ord 1 (f i).m (g k).m
   ·rw[if_pos h1];exact fi hik.1 (fun _=>(nV (F.2 i hik.1).1 (G.2 k hik.2).1).1 h1)
   ·rw[if_neg h1];by_cases h2:M.ord 1 (f i).m (g k).m<0
    ·rw[if_pos h2];refine gk hik.2 (fun _=>?_);rw[←hrk]at h2;unfold c3 at h2;split at h2
     ·assumption
     ·split at h2<;>omega
    ·rw[if_neg h2];have heq:eF (f i).m=eF (g k).m:=by
      have h3:M.ord 1 (f i).m (g k).m=0:=by omega
      rw[←hrk]at h3;unfold c3 at h3;split at h3
      ·omega
      ·split at h3<;>omega
     have hmm:=wA (F.2 i hik.1).1 (G.2 k hik.2).1 heq;obtain⟨p1,p2,p3⟩:=gH F G u (i+1) (k+1) (by omega);have hsum:∀m,(bX f (la-i) i m+bX g (lb-k) k m)%101=if mF (f i).m m=true then((f i).c+(g k).c)%101 else(bX f (la-(i+1)) (i+1) m+bX g (lb-(k+1)) (k+1) m)%101:=fun m=>by rw[kH m hik.1,kH (f:=g) m hik.2,←hmm];split<;>rfl
     have hhi:bN (fB f la g lb u (i+1) (k+1)) (f i).m=0:=by rw[p3,F.high (fun h=>F.1 i (i+1) (by omega) h),G.high (fun h=>by rw[hmm];exact G.1 k (k+1) (by omega) h)];rfl
     have q1:∀t∈fB f la g lb u (i+1) (k+1),(∃j,i≤j∧j<la∧t.m=(f j).m)∨(∃j,k≤j∧j<lb∧t.m=(g j).m):=fun t ht=>(p1 t ht).imp (fun⟨j,a1,a2,a3⟩=>⟨j,by omega,a2,a3⟩) (fun⟨j,a1,a2,a3⟩=>⟨j,by omega,a2,a3⟩);by_cases hz:((f i).c+(g k).c)%101≠0
     ·rw[if_pos hz];refine⟨fun t ht=>?_,mM p2 (fun s hs=>low (p1 s hs) (fun h=>F.1 i (i+1) (by omega) h) (fun h=>by rw[hmm];exact G.1 k (k+1) (by omega) h)) ⟨(F.2 i hik.1).1,by dsimp only;omega,by dsimp only;omega⟩,fun m=>?_⟩
      ·rcases List.mem_cons.1 ht with rfl|ht
       ·exact .inl ⟨i,Nat.le_refl _,hik.1,rfl⟩
       ·exact q1 t ht
      ·rw[hsum m,bN];by_cases hm:mF (f i).m m=true
       ·rw[if_pos hm,if_pos hm]
       ·rw[if_neg hm,if_neg hm];exact p3 m
     ·rw[if_neg hz];refine⟨q1,p2,fun m=>?_⟩;rw[hsum m];by_cases hm:mF (f i).m m=true
      ·have:=cC.1 hm;subst this;rw[if_pos hm,hhi];omega
      ·rw[if_neg hm];exact p3 m
  ·rw[if_neg hik];by_cases hi:i<la
   ·rw[if_pos hi];exact fi hi (fun h=>absurd ⟨hi,h⟩ hik)
   ·rw[if_neg hi];by_cases hk:k<lb
    ·rw[if_pos hk];exact gk hk (fun h=>absurd h hi)
    ·rw[if_neg hk];refine⟨fun t ht=>(by cases ht),⟨List.Pairwise.nil,fun t ht=>(by cases ht)⟩,fun m=>?_⟩;rw[show la-i=0 by omega,show lb-k=0 by omega];rfl
end Go.Proofs.YtkcmamepoplcdaaGreatDoor
