/-
  What is owned while a reader goes on.
-/
import Derived.Test.YtkcmamepoplcdaaGreatDoorVan
import Derived.Test.YtkcmamepoplcdaaGreatDoorVbq
set_option maxHeartbeats 4000000
set_option maxRecDepth 100000
namespace Go.Proofs.YtkcmamepoplcdaaGreatDoor
open Go.RowKit
set_option linter.unusedVariables false
theorem nX {B:Nat} {w w':World} (h:aH B w w'):w.grownBy w' (some B):=⟨h.os,h.tape,h.output,h.size,fun k hk hn=>h.block k hk (fun e=>hn (by rw[e]))⟩
theorem lH {B:Nat} {w w':World} (h:Below w.heap.size w w'):aH B w w':=⟨h.os,h.tape,h.output,h.size,fun k hk _=>h.block k hk⟩
theorem iN.beside {w w':World} {B p:Nat} (h:iN w B p) (hb:aH w.heap.size w w'):iN w' B p:=by
 have hlt:=h.lt;obtain⟨hc1,hf,a,len,cap,hc0,hl,h0⟩:=h;have he:=hb.block B hlt (by omega)
 refine⟨(lM (w:=w) (a:=⟨B,1,none⟩) he).trans hc1,(World.frozen?_of_block (w:=w) (a:=⟨B,1,none⟩) he).trans hf,a,len,cap,(lM (w:=w) (a:=⟨B,0,none⟩) he).trans hc0,hl,?_⟩;rcases h0 with h0|⟨bb,off,z,rfl,hbb,hz,z0,z1⟩
 ·exact .inl h0
 ·exact .inr ⟨bb,off,z,rfl,hbb,fun i hi=>(lM (w:=w) (a:=⟨bb,off+i,none⟩) (hb.block bb (by omega) (by omega))).trans (hz i hi),z0,z1⟩
theorem cQ {w w':World} {B base:Nat} {e:TypeId} {size:Nat} {v:Value} {n:Nat} {xs:List Value} (h:w.ownsRow base e size v n xs) (hb:aH B w w') (hB:B<base):w'.ownsRow base e size v n xs:=by
 refine h.kept (nX hb) ?_;cases hv:v.ownBlock with
 |none=>exact .inl rfl
 |some k=>
  refine .inr (fun he=>?_);have:=(h.lt k hv).1
  cases he;omega
theorem oY (w:World) (B p:Nat) (n:Int) (h:iN w B p) (hn0:0≤n) (hn:n≤50) (hp:p≤60000):Calls Tryz.prog 83 #[.pointer (some ⟨B,0,none⟩),.int .i64 n] w fun r w'=>∃(v:Value) (L:List T) (q:Nat),r= .returned v∧w'.ownsRow w.heap.size 79 5 v L.length (aG L)∧(L.length:Int)≤n∧LZ L∧(q:Int)≤p+1+31*n∧iN w' B q∧aH B w w':=by
 have hB:=h.lt;have HO0:=aA (aS w w.heap.size (Nat.le_refl _))
 have HR0:=aA (h.alloc (.cells #[] 79));have HB0:=aA ((aH.refl B w).alloc (.cells #[] 79))
 clear h;go_enter Tryz.func83,Tryz.ntmps83;go_wp2_with fail;generalize(w.alloc (.cells #[] 79))=W at HO0 HR0 HB0⊢;refine(aI _ B p (n+1) HR0.out (by omega) (by omega) (by omega)).mono ?_;rintro e w1 ⟨k,rfl,k0,k1,hk⟩;have HR1:=aA (hk.rdr HR0.out)
 have HB1:=aA (HB0.out.trans hk.beside);have HO1:=aA (cQ HO0.out hk.beside hB)
 clear hk HO0 HR0 HB0;go_wp2;go_loopw [5,6] (fun v i wr=>∃(j:Nat) (L:List T) (q:Nat),i= .int .i64 j∧wr.ownsRow w.heap.size 79 5 v L.length (aG L)∧(L.length:Int)+j≤n∧Hid (LZ L)∧(q:Int)+31*j≤p+1+31*n∧iN wr B q∧aH B w wr) (fun _ i _=>(intOf i).toNat);case atStart=>exact⟨k.toNat,[],p+1,by rw[Int.toNat_of_nonneg k0],HO1.out,by simp;omega,CE,by omega,HR1.out,HB1.out⟩
 case round=>
  obtain⟨j,L,q,rfl,ho,hl,hc,hq,hR,hb⟩:=hrel;by_cases hj:0<j
  ·obtain⟨m,rfl⟩:∃m,j=m+1:=⟨j-1,by omega⟩
   have HO:=aA ho;have HR:=aA hR
   have HB:=aA hb;have hjb:(0:Int)<((m+1:Nat):Int):=by omega
   clear ho hR hb;go_wp2_with fail;refine(aI wr B q 100 HR.out (by omega) (by omega) (by omega)).mono ?_;rintro e w2 ⟨c,rfl,c0,c1,hk⟩;have HR2:=aA (hk.rdr HR.out)
   have HB2:=aA (HB.out.trans hk.beside);have HO2:=aA (cQ HO.out hk.beside hB)
   clear hk HR HB HO;go_wp2_with fail;refine(qY w2 B _ 99999 HR2.out (by omega) (by omega) (by omega)).mono ?_;rintro e w3 ⟨x,y,d,z,q3,rfl,hq3,r3,s3⟩;have HR3:=aA r3
   have HB3:=aA (HB2.out.trans s3);have HO3:=aA (cQ HO2.out s3 hB)
   clear r3 s3 HR2 HB2 HO2;go_wp2_with fail;refine(wH _ w.heap.size _ L (1+c) x y d z HO3.out HB3.out.size (by omega) hc.out (by omega) (by omega)).mono ?_;rintro e w4 ⟨v4,rfl,hb4,ho4⟩;have HR4:=aA (HR3.out.beside (lH hb4))
   have HB4:=aA (HB3.out.trans (lH hb4));have HO4:=aA ho4
   have HC4:=aA (RY (c:=1+c) (m:=⟨x,y,d,z⟩) hc.out (by omega) (by omega));have hl4:=zW (1+c) ⟨x,y,d,z⟩ L
   clear hb4 ho4 HR3 HB3 HO3;go_wp2;go_roundw;case rel=>exact⟨m,iH (1+c) ⟨x,y,d,z⟩ L,q3,by first|go_num|(congr 1;omega),HO4.out,by omega,HC4.out,by omega,HR4.out,HB4.out⟩
   case measure=>simp[intOf]
  ·obtain rfl:j=0:=by omega
   have HR:=aA hR;obtain⟨hc1,hf,a,len,cap,hc0,hl0,h0⟩:=hR;clear hc1 hf h0;have hlen:(len:Int)≤2000:=by omega
   by_cases hz:len=0
   ·subst hz;have HO:=aA (aS wr w.heap.size hb.size)
    have HB:=aA (hb.alloc (.cells #[] 79));have HR2:=aA (HR.out.alloc (.cells #[] 79))
    clear ho hb;go_wp2;go_ret;exact⟨_,[],q,rfl,HO.out,by simpa using hn0,CE,by omega,HR2.out,HB.out⟩
   ·have hzb:((len:Int)==0)=false:=by simp;omega
    have HO:=aA ho;clear ho;go_wp2;go_ret;exact⟨_,L,q,rfl,HO.out,by omega,hc.out,by omega,HR.out,hb⟩
inductive mK where
 |old (k:SK)|is (v:Value)|a5|s1|own
def A5 (v:Value):Prop:=∃c x y d e,v= .agg #[.int .i64 c,.int .i64 x,.int .i64 y,.int .i64 d,.int .i64 e]
def S1 (w:World) (N:Nat) (v:Value):Prop:=∃b c x y d e,v= .slice (some ⟨b,0,none⟩) 1 1∧N≤b∧b<w.heap.size∧w.heap[b]? =some (.cells #[.int .i64 c,.int .i64 x,.int .i64 y,.int .i64 d,.int .i64 e] 79)
def EB (B N:Nat) (Y:World→Value→Prop) (w:World) (v:Value):mK→Prop
 | .old k=>KP B N w v k
 | .is u=>v=u
 | .a5=>A5 v
 | .s1=>S1 w N v
 | .own=>Y w v
theorem EB.move {B N:Nat} {Y:World→Value→Prop} {w w':World} {v:Value} {k:mK} (h:EB B N Y w v k) (hb:aH B w w') (hB:B<N) (hY:∀v,Y w v→Y w' v):EB B N Y w' v k:=by
 cases k with
 |old k=>exact KP.move h hb hB
 |s1=>
  obtain⟨b,c,x,y,d,e,hv,hN,hl,hc⟩:=h;exact⟨b,c,x,y,d,e,hv,hN,eH hl hb.size,(hb.block b hl (by omega)).trans hc⟩
 |own=>exact hY _ h
 |_=>exact h
theorem LC (u:World) (N:Nat) (c x y d e:Int) (hN:N≤u.heap.size):S1 (u.alloc (.cells #[.int .i64 c,.int .i64 x,.int .i64 y,.int .i64 d,.int .i64 e] 79)) N (.slice (some ⟨u.heap.size,0,none⟩) 1 1):=
 ⟨u.heap.size,c,x,y,d,e,rfl,hN,by simp,heap_alloc_new u _⟩
def kP (ops:Array Oper) (F:(Nat→Value)→Act) (T:Nat→mK) (n A B p N:Nat) (X:World→Prop) (Y:World→Value→Prop) (w0:World) (l:Array Bool) (a:Act) (u:World):Prop:=
 ∃(q:Nat) (vs:Nat→Value),a=F vs∧iN u B q∧q+30*fB l≤p+30*n∧aH B w0 u∧N≤u.heap.size∧(l.getD A false=false→X u)∧l.size=n∧iL ops l∧∀k,l.getD k false=true→(k<A→l.getD A false=false)→EB B N Y u (vs k) (T k)
theorem kP.start {ops:Array Oper} {F:(Nat→Value)→Act} {T:Nat→mK} {n A B p N:Nat} {X:World→Prop} {Y:World→Value→Prop} {w0 u:World} {a:Act} (vs:Nat→Value) (ha:a=F vs) (hR:iN u B p) (hb:aH B w0 u) (hN:N≤u.heap.size) (hX:X u.drew):kP ops F T n A B p N X Y w0 (Array.replicate n false) a u.drew:=
 ⟨p,vs,ha,hR,by rw[eG];exact Nat.le_refl _,hb.drew,hN,fun _=>hX,by simp,iL.start _ _,fun k h=>by rw[mG]at h;cases h⟩
theorem kP.step {ops:Array Oper} {F:(Nat→Value)→Act} {T:Nat→mK} {n A B p N:Nat} {X:World→Prop} {Y:World→Value→Prop} {w0 u u':World} {l:Array Bool} {q q':Nat} {vs:Nat→Value} (i:Nat) (v:Value) {a:Act} (hBN:B<N) (hi:i∈Region.ready .any ops l) (hno:ops.size=n) (hA:l.getD A false=false) (hiA:i<A) (hq:q+30*fB l≤p+30*n) (hR:iN u' B q') (hqq:q'≤q+30) (hb:aH B w0 u) (hN:N≤u.heap.size) (hX:l.getD A false=false→X u) (hXm:∀u u',X u→aH B u u'→X u') (hl:l.size=n) (hcl:iL ops l) (hf:∀k,l.getD k false=true→(k<A→l.getD A false=false)→EB B N Y u (vs k) (T k)) (hYm:∀u u' v,Y u v→aH B u u'→Y u' v) (hm:aH B u u') (hv:EB B N Y u' v (T i)) (ha:a=F (fun k=>if k=i then v else vs k)):kP ops F T n A B p N X Y w0 (l.setIfInBounds i true) a u':=by
 have hund:=fC (bG (mem_ready.1 hi).1);refine⟨q',fun k=>if k=i then v else vs k,ha,hR,by omega,hb.trans hm,iS hN hm.size,fun _=>hXm u u' (hX hA) hm,by simp[hl],hcl.step hi (by omega),fun k hk _=>?_⟩;by_cases hki:k=i
 ·have hv2:EB B N Y u' v (T k):=by rw[hki];exact hv
  exact Eq.mpr (congrArg (fun z=>EB B N Y u' z (T k)) (if_pos hki)) hv2
 ·rw[getD_set_ne false (fun e=>hki e.symm)]at hk;exact Eq.mpr (congrArg (fun z=>EB B N Y u' z (T k)) (if_neg hki)) ((hf k hk (fun _=>hA)).move hm hBN (fun v h=>hYm u u' v h hm))
theorem kP.last {ops:Array Oper} {F:(Nat→Value)→Act} {T:Nat→mK} {n A B p N:Nat} {X:World→Prop} {Y:World→Value→Prop} {w0 u':World} {l:Array Bool} {q:Nat} {vs:Nat→Value} (v:Value) {a:Act} (hi:A∈Region.ready .any ops l) (hno:ops.size=n) (hAn:A<n) (hgt:∀k,A<k→l.getD k false=false) (hq:q+30*fB l≤p+30*n) (hR:iN u' B q) (hb:aH B w0 u') (hN:N≤u'.heap.size) (hl:l.size=n) (hcl:iL ops l) (hT:T A= .own) (hv:Y u' v) (ha:a=F (fun k=>if k=A then v else vs k)):kP ops F T n A B p N X Y w0 (l.setIfInBounds A true) a u':=by
 have hund:=fC (bG (mem_ready.1 hi).1);refine⟨q,fun k=>if k=A then v else vs k,ha,hR,by omega,hb,hN,fun h=>?_,by simp[hl],hcl.step hi (by omega),fun k hk hkA=>?_⟩
 ·rw[jT false (by omega)]at h;cases h
 ·by_cases hki:k=A
  ·subst hki;refine Eq.mpr (congrArg (fun z=>EB B N Y u' z (T k)) (if_pos rfl)) ?_;rw[hT];exact hv
  ·rw[getD_set_ne false (fun e=>hki e.symm)]at hk;by_cases hlt:k<A
   ·have:=hkA hlt;rw[jT false (by omega)]at this;cases this
   ·rw[hgt k (by omega)]at hk;cases hk
theorem BZ {ops:Array Oper} {F:(Nat→Value)→Act} {T:Nat→mK} {n A B p N:Nat} {X:World→Prop} {Y:World→Value→Prop} {w0 u:World} {l:Array Bool} {q:Nat} {vs:Nat→Value} (i:Nat) (v:Value) {a:Act} (hi:i∈Region.ready .any ops l) (hno:ops.size=n) (hA:l.getD A false=true) (hiA:A<i) (hq:q+30*fB l≤p+30*n) (hR:iN u B q) (hb:aH B w0 u) (hN:N≤u.heap.size) (hl:l.size=n) (hcl:iL ops l) (hf:∀k,l.getD k false=true→(k<A→l.getD A false=false)→EB B N Y u (vs k) (T k)) (hT:T i= .own) (hv:Y u v) (ha:a=F (fun k=>if k=i then v else vs k)):kP ops F T n A B p N X Y w0 (l.setIfInBounds i true) a u:=by
 have hund:=fC (bG (mem_ready.1 hi).1);refine⟨q,fun k=>if k=i then v else vs k,ha,hR,by omega,hb,hN,fun h=>?_,by simp[hl],hcl.step hi (by omega),fun k hk hkA=>?_⟩
 ·rw[getD_set_ne false (by omega),hA]at h;cases h
 ·by_cases hki:k=i
  ·subst hki;refine Eq.mpr (congrArg (fun z=>EB B N Y u z (T k)) (if_pos rfl)) ?_;rw[hT];exact hv
  ·rw[getD_set_ne false (fun e=>hki e.symm)]at hk;refine Eq.mpr (congrArg (fun z=>EB B N Y u z (T k)) (if_neg hki)) (hf k hk (fun h=>?_));have:=hkA h
   rw[getD_set_ne false (by omega),hA]at this;cases this
theorem iN.grown {w w':World} {B p:Nat} {row:Option Nat} (h:iN w B p) (hg:w.grownBy w' row) (hr:∀k,row=some k→B<k):iN w' B p:=by
 have hlt:=h.lt;obtain⟨hc1,hf,a,len,cap,hc0,hl,h0⟩:=h;have hb:∀k,k≤B→w'.heap[k]? =w.heap[k]? :=fun k hk=>hg.block k (by omega) (fun e=>by have:=hr k e.symm;omega)
 refine⟨(lM (w:=w) (a:=⟨B,1,none⟩) (hb B (Nat.le_refl _))).trans hc1,(World.frozen?_of_block (w:=w) (a:=⟨B,1,none⟩) (hb B (Nat.le_refl _))).trans hf,a,len,cap,(lM (w:=w) (a:=⟨B,0,none⟩) (hb B (Nat.le_refl _))).trans hc0,hl,?_⟩;rcases h0 with h0|⟨bb,off,z,rfl,hbb,hz,z0,z1⟩
 ·exact .inl h0
 ·exact .inr ⟨bb,off,z,rfl,hbb,fun i hi=>(lM (w:=w) (a:=⟨bb,off+i,none⟩) (hb bb (by omega))).trans (hz i hi),z0,z1⟩
theorem aH.grown {B:Nat} {a w w':World} {row:Option Nat} (h:aH B a w) (hg:w.grownBy w' row) (hr:∀k,row=some k→a.heap.size≤k):aH B a w':=
 ⟨hg.os.trans h.os,hg.tape.trans h.tape,hg.output.trans h.output,iS h.size hg.size,fun k hk hn=>(hg.block k (eH hk h.size) (fun e=>by have:=hr k e.symm;omega)).trans (h.block k hk hn)⟩
theorem nI {P:Program} {id:Nat} {ops:Array Oper} {Q:Exit→Act→World→Prop} (F:(Nat→Value)→Act) (T:Nat→mK) (n A B p N:Nat) (X:World→Prop) (Y:World→Value→Prop) (w0:World) {a:Act} {w:World} (hm:P.follows .mixedOrders=true)
 (h0:kP ops F T n A B p N X Y w0 (Array.replicate ops.size false) a w.drew)
 (hs:∀l a w,kP ops F T n A B p N X Y w0 l a w→∀i∈Region.ready .any ops l,wpOp P ops Q i (kP ops F T n A B p N X Y w0 (l.setIfInBounds i true)) a w)
 (he:∀l a w,kP ops F T n A B p N X Y w0 l a w→Region.ready .any ops l=[]→Q .normal a w):(Code.region id ops true).wp P Q a w:=nH (I:=kP ops F T n A B p N X Y w0) hm h0 hs he
end Go.Proofs.YtkcmamepoplcdaaGreatDoor
