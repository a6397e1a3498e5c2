/-
  What is owned while a reader goes on.
-/
import Derived.Test.YtkcmamepoplcdaaGreatDoorUal
import Derived.Test.YtkcmamepoplcdaaGreatDoorUbd
set_option maxHeartbeats 4000000
set_option maxRecDepth 100000
namespace Go.Proofs.YtkcmamepoplcdaaGreatDoor
open Go.RowKit
set_option linter.unusedVariables false
theorem lC {B:Nat} {w w':World} (h:aG B w w'):w.grownBy w' (some B):=⟨h.os,h.tape,h.output,h.size,fun k hk hn=>h.block k hk (fun e=>hn (by rw[e]))⟩
theorem iR {B:Nat} {w w':World} (h:Below w.heap.size w w'):aG B w w':=⟨h.os,h.tape,h.output,h.size,fun k hk _=>h.block k hk⟩
theorem iC.beside {w w':World} {B p:Nat} (h:iC w B p) (hb:aG w.heap.size w w'):iC w' B p:=by
 have hlt:=h.lt;obtain⟨hc1,hf,a,len,cap,hc0,hl,h0⟩:=h;have he:=hb.block B hlt (by omega)
 refine⟨(nG (w:=w) (a:=⟨B,1,none⟩) he).trans hc1,(World.frozen?_of_block (w:=w) (a:=⟨B,1,none⟩) he).trans hf,a,len,cap,(nG (w:=w) (a:=⟨B,0,none⟩) he).trans hc0,hl,?_⟩;rcases h0 with h0|⟨bb,off,z,rfl,hbb,hz,z0,z1⟩
 ·exact .inl h0
 ·exact .inr ⟨bb,off,z,rfl,hbb,fun i hi=>(nG (w:=w) (a:=⟨bb,off+i,none⟩) (hb.block bb (by omega) (by omega))).trans (hz i hi),z0,z1⟩
theorem cC {w w':World} {B base:Nat} {e:TypeId} {size:Nat} {v:Value} {n:Nat} {xs:List Value} (h:w.ownsRow base e size v n xs) (hb:aG B w w') (hB:B<base):w'.ownsRow base e size v n xs:=by
 refine h.kept (lC hb) ?_;cases hv:v.ownBlock with
 |none=>exact .inl rfl
 |some k=>
  refine .inr (fun he=>?_);have:=(h.lt k hv).1
  cases he;omega
theorem IX (w:World) (B p:Nat) (n:Int) (h:iC w B p) (hn0:0≤n) (hn:n≤50) (hp:p≤10000):Calls Tryz.prog 83 #[.pointer (some ⟨B,0,none⟩),.int .i64 n] w fun r w'=>∃(v:Value) (L:List T) (q:Nat),r= .returned v∧w'.ownsRow w.heap.size 79 5 v L.length (aI L)∧(L.length:Int)≤n∧FF L∧(q:Int)≤p+1+31*n∧iC w' B q∧aG B w w':=by
 have hB:=h.lt;have HO0:=aA (mL w w.heap.size (Nat.le_refl _))
 have HR0:=aA (h.alloc (.cells #[] 79));have HB0:=aA ((aG.refl B w).alloc (.cells #[] 79))
 clear h;go_enter Tryz.func83,Tryz.ntmps83;go_wp2_with fail;generalize(w.alloc (.cells #[] 79))=W at HO0 HR0 HB0⊢;refine(cM _ B p (n+1) HR0.out (by omega) (by omega) (by omega)).mono ?_;rintro e w1 ⟨k,rfl,k0,k1,hk⟩;have HR1:=aA (hk.rdr HR0.out)
 have HB1:=aA (HB0.out.trans hk.beside);have HO1:=aA (cC HO0.out hk.beside hB)
 clear hk HO0 HR0 HB0;go_wp2;go_loopw [5,6] (fun v i wr=>∃(j:Nat) (L:List T) (q:Nat),i= .int .i64 j∧wr.ownsRow w.heap.size 79 5 v L.length (aI L)∧(L.length:Int)+j≤n∧Hid (FF L)∧(q:Int)+31*j≤p+1+31*n∧iC wr B q∧aG B w wr) (fun _ i _=>(intOf i).toNat);case atStart=>exact⟨k.toNat,[],p+1,by rw[Int.toNat_of_nonneg k0],HO1.out,by simp;omega,xA,by omega,HR1.out,HB1.out⟩
 case round=>
  obtain⟨j,L,q,rfl,ho,hl,hc,hq,hR,hb⟩:=hrel;by_cases hj:0<j
  ·obtain⟨m,rfl⟩:∃m,j=m+1:=⟨j-1,by omega⟩
   have HO:=aA ho;have HR:=aA hR
   have HB:=aA hb;have hjb:(0:Int)<((m+1:Nat):Int):=by omega
   clear ho hR hb;go_wp2_with fail;refine(cM wr B q 100 HR.out (by omega) (by omega) (by omega)).mono ?_;rintro e w2 ⟨c,rfl,c0,c1,hk⟩;have HR2:=aA (hk.rdr HR.out)
   have HB2:=aA (HB.out.trans hk.beside);have HO2:=aA (cC HO.out hk.beside hB)
   clear hk HR HB HO;go_wp2_with fail;refine(nO w2 B _ 99999 HR2.out (by omega) (by omega) (by omega)).mono ?_;rintro e w3 ⟨x,y,d,z,q3,rfl,hq3,r3,s3⟩;have HR3:=aA r3
   have HB3:=aA (HB2.out.trans s3);have HO3:=aA (cC HO2.out s3 hB)
   clear r3 s3 HR2 HB2 HO2;go_wp2_with fail;refine(KV _ w.heap.size _ L (1+c) x y d z HO3.out HB3.out.size (by omega) hc.out (by omega) (by omega)).mono ?_;rintro e w4 ⟨v4,rfl,hb4,ho4⟩;have HR4:=aA (HR3.out.beside (iR hb4))
   have HB4:=aA (HB3.out.trans (iR hb4));have HO4:=aA ho4
   have HC4:=aA (LJ (c:=1+c) (m:=⟨x,y,d,z⟩) hc.out (by omega) (by omega));have hl4:=DO (1+c) ⟨x,y,d,z⟩ L
   clear hb4 ho4 HR3 HB3 HO3;go_wp2;go_roundw;case rel=>exact⟨m,jR (1+c) ⟨x,y,d,z⟩ L,q3,by first|go_num|(congr 1;omega),HO4.out,by omega,HC4.out,by omega,HR4.out,HB4.out⟩
   case measure=>simp[intOf]
  ·obtain rfl:j=0:=by omega
   have HR:=aA hR;obtain⟨hc1,hf,a,len,cap,hc0,hl0,h0⟩:=hR;clear hc1 hf h0;have hlen:(len:Int)≤2000:=by omega
   by_cases hz:len=0
   ·subst hz;have HO:=aA (mL wr w.heap.size hb.size)
    have HB:=aA (hb.alloc (.cells #[] 79));have HR2:=aA (HR.out.alloc (.cells #[] 79))
    clear ho hb;go_wp2;go_ret;exact⟨_,[],q,rfl,HO.out,by simpa using hn0,xA,by omega,HR2.out,HB.out⟩
   ·have hzb:((len:Int)==0)=false:=by simp;omega
    have HO:=aA ho;clear ho;go_wp2;go_ret;exact⟨_,L,q,rfl,HO.out,by omega,hc.out,by omega,HR.out,hb⟩
inductive jW where
 |old (k:SK)|is (v:Value)|a5|s1|own
def A5 (v:Value):Prop:=∃c x y d e,v= .agg #[.int .i64 c,.int .i64 x,.int .i64 y,.int .i64 d,.int .i64 e]
def S1 (w:World) (N:Nat) (v:Value):Prop:=∃b c x y d e,v= .slice (some ⟨b,0,none⟩) 1 1∧N≤b∧b<w.heap.size∧w.heap[b]? =some (.cells #[.int .i64 c,.int .i64 x,.int .i64 y,.int .i64 d,.int .i64 e] 79)
def yO (B N:Nat) (Y:World→Value→Prop) (w:World) (v:Value):jW→Prop
 | .old k=>KP B N w v k
 | .is u=>v=u
 | .a5=>A5 v
 | .s1=>S1 w N v
 | .own=>Y w v
theorem yO.move {B N:Nat} {Y:World→Value→Prop} {w w':World} {v:Value} {k:jW} (h:yO B N Y w v k) (hb:aG B w w') (hB:B<N) (hY:∀v,Y w v→Y w' v):yO B N Y w' v k:=by
 cases k with
 |old k=>exact KP.move h hb hB
 |s1=>
  obtain⟨b,c,x,y,d,e,hv,hN,hl,hc⟩:=h;exact⟨b,c,x,y,d,e,hv,hN,eH hl hb.size,(hb.block b hl (by omega)).trans hc⟩
 |own=>exact hY _ h
 |_=>exact h
theorem EB (u:World) (N:Nat) (c x y d e:Int) (hN:N≤u.heap.size):S1 (u.alloc (.cells #[.int .i64 c,.int .i64 x,.int .i64 y,.int .i64 d,.int .i64 e] 79)) N (.slice (some ⟨u.heap.size,0,none⟩) 1 1):=
 ⟨u.heap.size,c,x,y,d,e,rfl,hN,by simp,heap_alloc_new u _⟩
def iB (ops:Array Oper) (F:(Nat→Value)→Act) (T:Nat→jW) (n A B p N:Nat) (X:World→Prop) (Y:World→Value→Prop) (w0:World) (l:Array Bool) (a:Act) (u:World):Prop:=
 ∃(q:Nat) (vs:Nat→Value),a=F vs∧iC u B q∧q+30*dM l≤p+30*n∧aG B w0 u∧N≤u.heap.size∧(l.getD A false=false→X u)∧l.size=n∧fI ops l∧∀k,l.getD k false=true→(k<A→l.getD A false=false)→yO B N Y u (vs k) (T k)
theorem iB.start {ops:Array Oper} {F:(Nat→Value)→Act} {T:Nat→jW} {n A B p N:Nat} {X:World→Prop} {Y:World→Value→Prop} {w0 u:World} {a:Act} (vs:Nat→Value) (ha:a=F vs) (hR:iC u B p) (hb:aG B w0 u) (hN:N≤u.heap.size) (hX:X u.drew):iB ops F T n A B p N X Y w0 (Array.replicate n false) a u.drew:=
 ⟨p,vs,ha,hR,by rw[cW];exact Nat.le_refl _,hb.drew,hN,fun _=>hX,by simp,fI.start _ _,fun k h=>by rw[jS]at h;cases h⟩
theorem iB.step {ops:Array Oper} {F:(Nat→Value)→Act} {T:Nat→jW} {n A B p N:Nat} {X:World→Prop} {Y:World→Value→Prop} {w0 u u':World} {l:Array Bool} {q q':Nat} {vs:Nat→Value} (i:Nat) (v:Value) {a:Act} (hBN:B<N) (hi:i∈Region.ready .any ops l) (hno:ops.size=n) (hA:l.getD A false=false) (hiA:i<A) (hq:q+30*dM l≤p+30*n) (hR:iC u' B q') (hqq:q'≤q+30) (hb:aG B w0 u) (hN:N≤u.heap.size) (hX:l.getD A false=false→X u) (hXm:∀u u',X u→aG B u u'→X u') (hl:l.size=n) (hcl:fI ops l) (hf:∀k,l.getD k false=true→(k<A→l.getD A false=false)→yO B N Y u (vs k) (T k)) (hYm:∀u u' v,Y u v→aG B u u'→Y u' v) (hm:aG B u u') (hv:yO B N Y u' v (T i)) (ha:a=F (fun k=>if k=i then v else vs k)):iB ops F T n A B p N X Y w0 (l.setIfInBounds i true) a u':=by
 have hund:=dN (aU (mem_ready.1 hi).1);refine⟨q',fun k=>if k=i then v else vs k,ha,hR,by omega,hb.trans hm,iW hN hm.size,fun _=>hXm u u' (hX hA) hm,by simp[hl],hcl.step hi (by omega),fun k hk _=>?_⟩;by_cases hki:k=i
 ·have hv2:yO B N Y u' v (T k):=by rw[hki];exact hv
  exact Eq.mpr (congrArg (fun z=>yO B N Y u' z (T k)) (if_pos hki)) hv2
 ·rw[getD_set_ne false (fun e=>hki e.symm)]at hk;exact Eq.mpr (congrArg (fun z=>yO B N Y u' z (T k)) (if_neg hki)) ((hf k hk (fun _=>hA)).move hm hBN (fun v h=>hYm u u' v h hm))
theorem iB.last {ops:Array Oper} {F:(Nat→Value)→Act} {T:Nat→jW} {n A B p N:Nat} {X:World→Prop} {Y:World→Value→Prop} {w0 u':World} {l:Array Bool} {q:Nat} {vs:Nat→Value} (v:Value) {a:Act} (hi:A∈Region.ready .any ops l) (hno:ops.size=n) (hAn:A<n) (hgt:∀k,A<k→l.getD k false=false) (hq:q+30*dM l≤p+30*n) (hR:iC u' B q) (hb:aG B w0 u') (hN:N≤u'.heap.size) (hl:l.size=n) (hcl:fI ops l) (hT:T A= .own) (hv:Y u' v) (ha:a=F (fun k=>if k=A then v else vs k)):iB ops F T n A B p N X Y w0 (l.setIfInBounds A true) a u':=by
 have hund:=dN (aU (mem_ready.1 hi).1);refine⟨q,fun k=>if k=A then v else vs k,ha,hR,by omega,hb,hN,fun h=>?_,by simp[hl],hcl.step hi (by omega),fun k hk hkA=>?_⟩
 ·rw[gL false (by omega)]at h;cases h
 ·by_cases hki:k=A
  ·subst hki;refine Eq.mpr (congrArg (fun z=>yO B N Y u' z (T k)) (if_pos rfl)) ?_;rw[hT];exact hv
  ·rw[getD_set_ne false (fun e=>hki e.symm)]at hk;by_cases hlt:k<A
   ·have:=hkA hlt;rw[gL false (by omega)]at this;cases this
   ·rw[hgt k (by omega)]at hk;cases hk
theorem wV {ops:Array Oper} {F:(Nat→Value)→Act} {T:Nat→jW} {n A B p N:Nat} {X:World→Prop} {Y:World→Value→Prop} {w0 u:World} {l:Array Bool} {q:Nat} {vs:Nat→Value} (i:Nat) (v:Value) {a:Act} (hi:i∈Region.ready .any ops l) (hno:ops.size=n) (hA:l.getD A false=true) (hiA:A<i) (hq:q+30*dM l≤p+30*n) (hR:iC u B q) (hb:aG B w0 u) (hN:N≤u.heap.size) (hl:l.size=n) (hcl:fI ops l) (hf:∀k,l.getD k false=true→(k<A→l.getD A false=false)→yO B N Y u (vs k) (T k)) (hT:T i= .own) (hv:Y u v) (ha:a=F (fun k=>if k=i then v else vs k)):iB ops F T n A B p N X Y w0 (l.setIfInBounds i true) a u:=by
 have hund:=dN (aU (mem_ready.1 hi).1);refine⟨q,fun k=>if k=i then v else vs k,ha,hR,by omega,hb,hN,fun h=>?_,by simp[hl],hcl.step hi (by omega),fun k hk hkA=>?_⟩
 ·rw[getD_set_ne false (by omega),hA]at h;cases h
 ·by_cases hki:k=i
  ·subst hki;refine Eq.mpr (congrArg (fun z=>yO B N Y u z (T k)) (if_pos rfl)) ?_;rw[hT];exact hv
  ·rw[getD_set_ne false (fun e=>hki e.symm)]at hk;refine Eq.mpr (congrArg (fun z=>yO B N Y u z (T k)) (if_neg hki)) (hf k hk (fun h=>?_));have:=hkA h
   rw[getD_set_ne false (by omega),hA]at this;cases this
theorem iC.grown {w w':World} {B p:Nat} {row:Option Nat} (h:iC w B p) (hg:w.grownBy w' row) (hr:∀k,row=some k→B<k):iC w' B p:=by
 have hlt:=h.lt;obtain⟨hc1,hf,a,len,cap,hc0,hl,h0⟩:=h;have hb:∀k,k≤B→w'.heap[k]? =w.heap[k]? :=fun k hk=>hg.block k (by omega) (fun e=>by have:=hr k e.symm;omega)
 refine⟨(nG (w:=w) (a:=⟨B,1,none⟩) (hb B (Nat.le_refl _))).trans hc1,(World.frozen?_of_block (w:=w) (a:=⟨B,1,none⟩) (hb B (Nat.le_refl _))).trans hf,a,len,cap,(nG (w:=w) (a:=⟨B,0,none⟩) (hb B (Nat.le_refl _))).trans hc0,hl,?_⟩;rcases h0 with h0|⟨bb,off,z,rfl,hbb,hz,z0,z1⟩
 ·exact .inl h0
 ·exact .inr ⟨bb,off,z,rfl,hbb,fun i hi=>(nG (w:=w) (a:=⟨bb,off+i,none⟩) (hb bb (by omega))).trans (hz i hi),z0,z1⟩
theorem aG.grown {B:Nat} {a w w':World} {row:Option Nat} (h:aG B a w) (hg:w.grownBy w' row) (hr:∀k,row=some k→a.heap.size≤k):aG B a w':=
 ⟨hg.os.trans h.os,hg.tape.trans h.tape,hg.output.trans h.output,iW h.size hg.size,fun k hk hn=>(hg.block k (eH hk h.size) (fun e=>by have:=hr k e.symm;omega)).trans (h.block k hk hn)⟩
theorem kO {P:Program} {id:Nat} {ops:Array Oper} {Q:Exit→Act→World→Prop} (F:(Nat→Value)→Act) (T:Nat→jW) (n A B p N:Nat) (X:World→Prop) (Y:World→Value→Prop) (w0:World) {a:Act} {w:World} (hm:P.follows .mixedOrders=true)
 (h0:iB ops F T n A B p N X Y w0 (Array.replicate ops.size false) a w.drew)
 (hs:∀l a w,iB ops F T n A B p N X Y w0 l a w→∀i∈Region.ready .any ops l,wpOp P ops Q i (iB ops F T n A B p N X Y w0 (l.setIfInBounds i true)) a w)
 (he:∀l a w,iB ops F T n A B p N X Y w0 l a w→Region.ready .any ops l=[]→Q .normal a w):(Code.region id ops true).wp P Q a w:=kN (I:=iB ops F T n A B p N X Y w0) hm h0 hs he
end Go.Proofs.YtkcmamepoplcdaaGreatDoor
