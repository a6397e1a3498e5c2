/-
  Regions of draws that draw their order and end in an append, by one invariant.
-/
import Derived.Test.YtncffcaabnjioaaGreatMar
set_option maxHeartbeats 8000000
set_option maxRecDepth 100000
namespace Go.Proofs.YtncffcaabnjioaaGreat
open Go.RowKit
set_option linter.unusedVariables false
inductive pE where
 |old (k:SK)|is (v:Value)|a5|s1|own
def A5 (v:Value):Prop:=∃c x y d e,v= .agg #[.int .i64 c,.int .i64 x,.int .i64 y,.int .i64 d,.int .i64 e]
def S1 (w:World) (N:Nat) (v:Value):Prop:=∃b c x y d e,v= .slice (some ⟨b,0,none⟩) 1 1∧N≤b∧b<w.heap.size∧w.heap[b]? =some (.cells #[.int .i64 c,.int .i64 x,.int .i64 y,.int .i64 d,.int .i64 e] 47)
def JY (B N:Nat) (Y:World→Value→Prop) (w:World) (v:Value):pE→Prop
 | .old k=>KP B N w v k
 | .is u=>v=u
 | .a5=>A5 v
 | .s1=>S1 w N v
 | .own=>Y w v
theorem JY.move {B N:Nat} {Y:World→Value→Prop} {w w':World} {v:Value} {k:pE} (h:JY B N Y w v k) (hb:aD B w w') (hB:B<N) (hY:∀v,Y w v→Y w' v):JY B N Y w' v k:=by
 cases k with
 |old k=>exact KP.move h hb hB
 |s1=>
  obtain⟨b,c,x,y,d,e,hv,hN,hl,hc⟩:=h;exact⟨b,c,x,y,d,e,hv,hN,lG hl hb.size,(hb.block b hl (by omega)).trans hc⟩
 |own=>exact hY _ h
 |_=>exact h
theorem QZ (u:World) (N:Nat) (c x y d e:Int) (hN:N≤u.heap.size):S1 (u.alloc (.cells #[.int .i64 c,.int .i64 x,.int .i64 y,.int .i64 d,.int .i64 e] 47)) N (.slice (some ⟨u.heap.size,0,none⟩) 1 1):=
 ⟨u.heap.size,c,x,y,d,e,rfl,hN,by simp,heap_alloc_new u _⟩
def mQ (ops:Array Oper) (F:(Nat→Value)→Act) (T:Nat→pE) (n A B p N:Nat) (X:World→Prop) (Y:World→Value→Prop) (w0:World) (l:Array Bool) (a:Act) (u:World):Prop:=
 ∃(q:Nat) (vs:Nat→Value),a=F vs∧iU u B q∧q+30*fM l≤p+30*n∧aD B w0 u∧N≤u.heap.size∧(l.getD A false=false→X u)∧l.size=n∧jJ ops l∧∀k,l.getD k false=true→(k<A→l.getD A false=false)→JY B N Y u (vs k) (T k)
theorem mQ.start {ops:Array Oper} {F:(Nat→Value)→Act} {T:Nat→pE} {n A B p N:Nat} {X:World→Prop} {Y:World→Value→Prop} {w0 u:World} {a:Act} (vs:Nat→Value) (ha:a=F vs) (hR:iU u B p) (hb:aD B w0 u) (hN:N≤u.heap.size) (hX:X u.drew):mQ ops F T n A B p N X Y w0 (Array.replicate n false) a u.drew:=
 ⟨p,vs,ha,hR,by rw[dU];exact Nat.le_refl _,hb.drew,hN,fun _=>hX,by simp,jJ.start _ _,fun k h=>by rw[jH]at h;cases h⟩
theorem mQ.step {ops:Array Oper} {F:(Nat→Value)→Act} {T:Nat→pE} {n A B p N:Nat} {X:World→Prop} {Y:World→Value→Prop} {w0 u u':World} {l:Array Bool} {q q':Nat} {vs:Nat→Value} (i:Nat) (v:Value) {a:Act} (hBN:B<N) (hi:i∈Region.ready .any ops l) (hno:ops.size=n) (hA:l.getD A false=false) (hiA:i<A) (hq:q+30*fM l≤p+30*n) (hR:iU u' B q') (hqq:q'≤q+30) (hb:aD B w0 u) (hN:N≤u.heap.size) (hX:l.getD A false=false→X u) (hXm:∀u u',X u→aD B u u'→X u') (hl:l.size=n) (hcl:jJ ops l) (hf:∀k,l.getD k false=true→(k<A→l.getD A false=false)→JY B N Y u (vs k) (T k)) (hYm:∀u u' v,Y u v→aD B u u'→Y u' v) (hm:aD B u u') (hv:JY B N Y u' v (T i)) (ha:a=F (fun k=>if k=i then v else vs k)):mQ ops F T n A B p N X Y w0 (l.setIfInBounds i true) a u':=by
 have hund:=fO (bA (mem_ready.1 hi).1);refine⟨q',fun k=>if k=i then v else vs k,ha,hR,by omega,hb.trans hm,jW hN hm.size,fun _=>hXm u u' (hX hA) hm,by simp[hl],hcl.step hi (by omega),fun k hk _=>?_⟩;by_cases hki:k=i
 ·have hv2:JY B N Y u' v (T k):=by rw[hki];exact hv
  exact Eq.mpr (congrArg (fun z=>JY B N Y u' z (T k)) (if_pos hki)) hv2
 ·rw[getD_set_ne false (fun e=>hki e.symm)]at hk;exact Eq.mpr (congrArg (fun z=>JY B N Y u' z (T k)) (if_neg hki)) ((hf k hk (fun _=>hA)).move hm hBN (fun v h=>hYm u u' v h hm))
theorem mQ.last {ops:Array Oper} {F:(Nat→Value)→Act} {T:Nat→pE} {n A B p N:Nat} {X:World→Prop} {Y:World→Value→Prop} {w0 u':World} {l:Array Bool} {q:Nat} {vs:Nat→Value} (v:Value) {a:Act} (hi:A∈Region.ready .any ops l) (hno:ops.size=n) (hAn:A<n) (hgt:∀k,A<k→l.getD k false=false) (hq:q+30*fM l≤p+30*n) (hR:iU u' B q) (hb:aD B w0 u') (hN:N≤u'.heap.size) (hl:l.size=n) (hcl:jJ ops l) (hT:T A= .own) (hv:Y u' v) (ha:a=F (fun k=>if k=A then v else vs k)):mQ ops F T n A B p N X Y w0 (l.setIfInBounds A true) a u':=by
 have hund:=fO (bA (mem_ready.1 hi).1);refine⟨q,fun k=>if k=A then v else vs k,ha,hR,by omega,hb,hN,fun h=>?_,by simp[hl],hcl.step hi (by omega),fun k hk hkA=>?_⟩
 ·rw[jB false (by omega)]at h;cases h
 ·by_cases hki:k=A
  ·subst hki;refine Eq.mpr (congrArg (fun z=>JY B N Y u' z (T k)) (if_pos rfl)) ?_;rw[hT];exact hv
  ·rw[getD_set_ne false (fun e=>hki e.symm)]at hk;by_cases hlt:k<A
   ·have:=hkA hlt;rw[jB false (by omega)]at this;cases this
   ·rw[hgt k (by omega)]at hk;cases hk
theorem GU {ops:Array Oper} {F:(Nat→Value)→Act} {T:Nat→pE} {n A B p N:Nat} {X:World→Prop} {Y:World→Value→Prop} {w0 u:World} {l:Array Bool} {q:Nat} {vs:Nat→Value} (i:Nat) (v:Value) {a:Act} (hi:i∈Region.ready .any ops l) (hno:ops.size=n) (hA:l.getD A false=true) (hiA:A<i) (hq:q+30*fM l≤p+30*n) (hR:iU u B q) (hb:aD B w0 u) (hN:N≤u.heap.size) (hl:l.size=n) (hcl:jJ ops l) (hf:∀k,l.getD k false=true→(k<A→l.getD A false=false)→JY B N Y u (vs k) (T k)) (hT:T i= .own) (hv:Y u v) (ha:a=F (fun k=>if k=i then v else vs k)):mQ ops F T n A B p N X Y w0 (l.setIfInBounds i true) a u:=by
 have hund:=fO (bA (mem_ready.1 hi).1);refine⟨q,fun k=>if k=i then v else vs k,ha,hR,by omega,hb,hN,fun h=>?_,by simp[hl],hcl.step hi (by omega),fun k hk hkA=>?_⟩
 ·rw[getD_set_ne false (by omega),hA]at h;cases h
 ·by_cases hki:k=i
  ·subst hki;refine Eq.mpr (congrArg (fun z=>JY B N Y u z (T k)) (if_pos rfl)) ?_;rw[hT];exact hv
  ·rw[getD_set_ne false (fun e=>hki e.symm)]at hk;refine Eq.mpr (congrArg (fun z=>JY B N Y u z (T k)) (if_neg hki)) (hf k hk (fun h=>?_));have:=hkA h
   rw[getD_set_ne false (by omega),hA]at this;cases this
theorem iU.grown {w w':World} {B p:Nat} {row:Option Nat} (h:iU w B p) (hg:w.grownBy w' row) (hr:∀k,row=some k→B<k):iU w' B p:=by
 have hlt:=h.lt;obtain⟨hc1,hf,a,len,cap,hc0,hl,h0⟩:=h;have hb:∀k,k≤B→w'.heap[k]? =w.heap[k]? :=fun k hk=>hg.block k (by omega) (fun e=>by have:=hr k e.symm;omega)
 refine⟨(lH (w:=w) (a:=⟨B,1,none⟩) (hb B (Nat.le_refl _))).trans hc1,(World.frozen?_of_block (w:=w) (a:=⟨B,1,none⟩) (hb B (Nat.le_refl _))).trans hf,a,len,cap,(lH (w:=w) (a:=⟨B,0,none⟩) (hb B (Nat.le_refl _))).trans hc0,hl,?_⟩;rcases h0 with h0|⟨bb,off,z,rfl,hbb,hz,z0,z1⟩
 ·exact .inl h0
 ·exact .inr ⟨bb,off,z,rfl,hbb,fun i hi=>(lH (w:=w) (a:=⟨bb,off+i,none⟩) (hb bb (by omega))).trans (hz i hi),z0,z1⟩
theorem aD.grown {B:Nat} {a w w':World} {row:Option Nat} (h:aD B a w) (hg:w.grownBy w' row) (hr:∀k,row=some k→a.heap.size≤k):aD B a w':=
 ⟨hg.os.trans h.os,hg.tape.trans h.tape,hg.output.trans h.output,jW h.size hg.size,fun k hk hn=>(hg.block k (lG hk h.size) (fun e=>by have:=hr k e.symm;omega)).trans (h.block k hk hn)⟩
theorem qG {P:Program} {id:Nat} {ops:Array Oper} {Q:Exit→Act→World→Prop} (F:(Nat→Value)→Act) (T:Nat→pE) (n A B p N:Nat) (X:World→Prop) (Y:World→Value→Prop) (w0:World) {a:Act} {w:World} (hm:P.follows .mixedOrders=true)
 (h0:mQ ops F T n A B p N X Y w0 (Array.replicate ops.size false) a w.drew)
 (hs:∀l a w,mQ ops F T n A B p N X Y w0 l a w→∀i∈Region.ready .any ops l,wpOp P ops Q i (mQ ops F T n A B p N X Y w0 (l.setIfInBounds i true)) a w)
 (he:∀l a w,mQ ops F T n A B p N X Y w0 l a w→Region.ready .any ops l=[]→Q .normal a w):(Code.region id ops true).wp P Q a w:=mC (I:=mQ ops F T n A B p N X Y w0) hm h0 hs he
theorem NM (b o j:Nat):(⟨b,o,none⟩:Addr).add j=⟨b,o+j,none⟩:=by unfold Addr.add;split<;>simp_all
theorem KJ (L:List T):∀u∈aF L,u.oneCell'=true:=by
 induction L with
 |nil=>intro u hu;simp[aF]at hu
 |cons t L ih=>
  intro u hu;rw[show t::L=[t]++L from rfl,bF]at hu;rcases List.mem_append.1 hu with h|h
  ·exact dN t u h
  ·exact ih u h
theorem Rd.news {w:World} {b off cap:Nat} {L:List T} (h:Rd w (some ⟨b,off,none⟩) L.length cap (lf L)):∀j u,(aF L)[j]? =some u→w.cell? ((⟨b,off,none⟩:Addr).add j)=some u:=by
 intro j u hu;have hj:j<L.length*5:=by rw[←aU];exact(List.getElem?_eq_some_iff.1 hu).1
 rw[sZ L j hj]at hu;cases hu;rw[NM];rcases h.2.2 with h0|⟨b',off',he,_,hc⟩
 ·omega
 ·cases he;obtain⟨c0,c1,c2,c3,c4⟩:=hc (j / 5) (by omega);have h5:j%5=0∨j%5=1∨j%5=2∨j%5=3∨j%5=4:=by omega
  rcases h5 with h|h|h|h|h
  ·rw[show j=j / 5*5 by omega,cf0];exact c0
  ·rw[show j=j / 5*5+1 by omega,TD,←Nat.add_assoc];exact c1
  ·rw[show j=j / 5*5+2 by omega,TE,←Nat.add_assoc];exact c2
  ·rw[show j=j / 5*5+3 by omega,YN,←Nat.add_assoc];exact c3
  ·rw[show j=j / 5*5+4 by omega,YO,←Nat.add_assoc];exact c4
theorem MO {w:World} {g N n cap:Nat} {F:Nat→Value} {f:Nat→T} {x y d z:Int} (h:w.rowIs g 47 N F) (hn:0<n) (hN:n*5≤N) (hF:∀j,j<n*5→F j=cf f j) (hc:n≤cap) (hl:n*40≤140737488351232):Rd ((((w.setCell ⟨g,1,none⟩ (.int .i64 x)).setCell ⟨g,2,none⟩ (.int .i64 y)).setCell ⟨g,3,none⟩ (.int .i64 d)).setCell ⟨g,4,none⟩ (.int .i64 z)) (some ⟨g,0,none⟩) n cap (fun i=>if i=0 then⟨(f 0).c,⟨x,y,d,z⟩⟩else f i):=by
 have hr:=(((h.set 1 (.int .i64 x)).set 2 (.int .i64 y)).set 3 (.int .i64 d)).set 4 (.int .i64 z);refine⟨hc,hl,.inr ⟨g,0,rfl,hr.lt,fun i hi=>?_⟩⟩;have hcell:=fun j (hj:j<N)=>hr.cell hj
 by_cases h0:i=0
 ·subst h0;have c0:=hcell 0 (by omega)
  have c1:=hcell 1 (by omega);have c2:=hcell 2 (by omega)
  have c3:=hcell 3 (by omega);have c4:=hcell 4 (by omega)
  simp at c0 c1 c2 c3 c4;rw[hF 0 (by omega),show(0:Nat)=0*5 from rfl,cf0]at c0;exact⟨c0,c1,c2,c3,c4⟩
 ·have e:∀r,r<5→(((((w.setCell ⟨g,1,none⟩ (.int .i64 x)).setCell ⟨g,2,none⟩ (.int .i64 y)).setCell ⟨g,3,none⟩ (.int .i64 d)).setCell ⟨g,4,none⟩ (.int .i64 z))).cell? ⟨g,i*5+r,none⟩=some (cf f (i*5+r)):=by intro r hr5;rw[hcell (i*5+r) (by omega),if_neg (by omega),if_neg (by omega),if_neg (by omega),if_neg (by omega),hF _ (by omega)]
  show nU _ g (0+i*5) (if i=0 then _ else f i);rw[if_neg h0,Nat.zero_add];refine⟨?_,?_,?_,?_,?_⟩
  ·have:=e 0 (by omega);rw[Nat.add_zero,cf0]at this;exact this
  ·have:=e 1 (by omega);rw[TD]at this;exact this
  ·have:=e 2 (by omega);rw[TE]at this;exact this
  ·have:=e 3 (by omega);rw[YN]at this;exact this
  ·have:=e 4 (by omega);rw[YO]at this;exact this
theorem uZ (w:World) (B p:Nat) (n:Int) (h:iU w B p) (hn:1≤n) (hn':n≤1000) (hp:p≤5000):Calls Tryz.prog 36 #[.pointer (some ⟨B,0,none⟩),.int .i64 n] w fun r w'=>∃(a:Option Addr) (m cap:Nat) (f:Nat→T) (q:Nat),r= .returned (.slice a m cap)∧Rd w' a m cap f∧m≤5∧(m=0∨∃g off,a=some ⟨g,off,none⟩∧w.heap.size≤g)∧q≤p+700∧iU w' B q∧aD B w w':=by
 have hB:=h.lt;obtain⟨i0,hi0,hz0,hz1,hz2⟩:=info_parts yP;go_enter Tryz.func36,Tryz.ntmps36;go_wp2_with fail;refine(VC w B p 4 h (by omega) (by omega) (by omega)).mono ?_;rintro e w1 ⟨v,L,q1,rfl,ho1,hl1,hc1,hq1,hR1,hb1⟩;obtain⟨a,cap,rfl,hout1⟩:=aH ho1 (by omega);have HO1:=aA ho1
 have HR1:=aA hR1;have HB1:=aA hb1
 clear ho1 hR1 hb1 hout1 h hc1;go_wp2_with fail;refine(aY w1 B q1 n HR1.out (by omega) (by omega) (by omega)).mono ?_;rintro e w2 ⟨x,rfl,x0,x1,hk⟩;have HR2:=aA (hk.rdr HR1.out)
 have HB2:=aA (HB1.out.trans hk.beside);have HO2:=aA (bK HO1.out hk.beside hB)
 clear hk HR1 HB1 HO1;by_cases hx:0<x
 ·have hout:=aH HO2.out (by omega);go_wp2;go_ret;obtain⟨a',cap',he,ho⟩:=hout;cases he;exact⟨_,_,_,_,_,rfl,ho.1,by omega,ho.2.2,by omega,HR2.out,HB2.out⟩
 ·obtain rfl:x=0:=by omega
  clear hx;by_cases hz:L.length=0
  ·have hzb:((L.length:Int)==0)=true:=by simp[hz]
   clear hz;go_wp2_with fail;refine Code.wp_mono (Q:=fun e b u=>e=Exit.normal∧∃(q:Nat) (vs:Nat→Value) (L2:List T),b={tmps:=#[Value.pointer (some ⟨B,0,none⟩),Value.int IntKind.i64 n,undef,undef,vs 11,Value.slice a L.length cap,Value.pointer (some ⟨B,0,none⟩),Value.slice a L.length cap,Value.pointer (some ⟨B,0,none⟩),Value.int IntKind.i64 n,Value.int IntKind.i64 0,Value.bool false,undef,Value.bool true,Value.slice a L.length cap,Value.int IntKind.i64 (L.length:Int),Value.bool true,Value.bool true,undef,undef,undef,Value.bool true,vs 0,vs 1,vs 2,vs 3,vs 4,vs 5,vs 6,vs 7,vs 8,vs 9,vs 10,undef,undef,undef,undef,undef,undef,undef,undef,undef,undef,undef,undef,undef,undef,undef,undef,undef,undef,undef],defers:=[]}∧iU u B q∧q≤q1+1+360∧aD B w u∧u.ownsRow w.heap.size 47 5 (vs 11) L2.length (aF L2)∧L2.length≤5) ?_ ?_;rotate_left
   ·have hBN:B<w2.heap.size:=HR2.out.lt;refine qG (fun vs:Nat→Value=>({tmps:=#[Value.pointer (some ⟨B,0,none⟩),Value.int IntKind.i64 n,undef,undef,vs 11,Value.slice a L.length cap,Value.pointer (some ⟨B,0,none⟩),Value.slice a L.length cap,Value.pointer (some ⟨B,0,none⟩),Value.int IntKind.i64 n,Value.int IntKind.i64 0,Value.bool false,undef,Value.bool true,Value.slice a L.length cap,Value.int IntKind.i64 (L.length:Int),Value.bool true,Value.bool true,undef,undef,undef,Value.bool true,vs 0,vs 1,vs 2,vs 3,vs 4,vs 5,vs 6,vs 7,vs 8,vs 9,vs 10,undef,undef,undef,undef,undef,undef,undef,undef,undef,undef,undef,undef,undef,undef,undef,undef,undef,undef,undef],defers:=[]}:Act)) (fun k=>match k with|0=>pE.is (.slice a L.length cap)|1=>pE.old (SK.sl 4)|2=>pE.old SK.rd|3=>pE.old (SK.pk 4)|4=>pE.old SK.ix|5=>pE.old SK.ld|6=>pE.old SK.rd|7=>pE.old SK.ag|8=>pE.a5|9=>pE.s1|10=>pE.own|11=>pE.own|_=>pE.own) 12 10 B (q1+1) w2.heap.size (fun u=>u.ownsRow w.heap.size 47 5 (.slice a L.length cap) L.length (aF L)) (fun u v=>∃L2,u.ownsRow w.heap.size 47 5 v L2.length (aF L2)∧L2.length≤5) w (by kernel_rfl) ?_ ?_ ?_
    ·exact mQ.start (fun k=>if k=11 then .slice none 0 0 else undef) rfl HR2.out HB2.out (Nat.le_refl _) (dW HO2.out (cE _ _).drew)
    ·intro l b u hI i hi;obtain⟨q,vs,rfl,hR,hq,hbz,hN,hX,hsz,hcl,hf⟩:=hI;have hl0:=(mem_ready.1 hi).1
     have hund1:1≤fM l:=by have:=fO (bA hl0);omega
     have hXm:∀u u':World,u.ownsRow w.heap.size 47 5 (.slice a L.length cap) L.length (aF L)→aD B u u'→u'.ownsRow w.heap.size 47 5 (.slice a L.length cap) L.length (aF L):=fun u u' h hb=>bK h hb hB;have hYm:∀(u u':World) (v:Value),(∃L2,u.ownsRow w.heap.size 47 5 v L2.length (aF L2)∧L2.length≤5)→aD B u u'→(∃L2,u'.ownsRow w.heap.size 47 5 v L2.length (aF L2)∧L2.length≤5):=fun u u' v h hb=>by obtain⟨L2,h1,h2⟩:=h;exact⟨L2,bK h1 hb hB,h2⟩
     have hi12:i<12:=by obtain⟨_,o,ho,_⟩:=mem_ready.1 hi;exact(Array.getElem?_eq_some_iff.1 ho).1
     rcases(show i=0∨i=1∨i=2∨i=3∨i=4∨i=5∨i=6∨i=7∨i=8∨i=9∨i=10∨i=11 from by omega)with rfl|rfl|rfl|rfl|rfl|rfl|rfl|rfl|rfl|rfl|rfl|rfl
     ·have hA:l.getD 10 false=false:=by
       cases hx:l.getD 10 false
       ·rfl
       ·have hx0:=hcl.dep (i:=10) rfl hx 0 (by kernel_rfl);exact(bZ hl0 hx0).elim
      refine wpOp_step rfl (fun K hK=>?_);go_simp;refine hK _ _ ?_;exact mQ.step (q':=q) 0 (.slice a L.length cap) hBN hi rfl hA (by decide) hq hR (by omega) hbz hN hX hXm hsz hcl hf hYm (aD.refl _ u) rfl rfl
     ·have hA:l.getD 10 false=false:=by
       cases hx:l.getD 10 false
       ·rfl
       ·have hx0:=hcl.dep (i:=10) rfl hx 9 (by kernel_rfl);have hx1:=hcl.dep (i:=9) rfl hx0 8 (by kernel_rfl)
        have hx2:=hcl.dep (i:=8) rfl hx1 5 (by kernel_rfl);have hx3:=hcl.dep (i:=5) rfl hx2 4 (by kernel_rfl)
        have hx4:=hcl.dep (i:=4) rfl hx3 1 (by kernel_rfl);exact(bZ hl0 hx4).elim
      refine wpOp_step rfl (fun K hK=>?_);go_simp;refine hK _ _ ?_;exact mQ.step (q':=q) 1 (.slice (some ⟨u.heap.size,0,none⟩) 4 4) hBN hi rfl hA (by decide) hq (hR.alloc _) (by omega) hbz hN hX hXm hsz hcl hf hYm (cY _ u _) (BI u _ _ _ _ _ _ hN) rfl
     ·have hA:l.getD 10 false=false:=by
       cases hx:l.getD 10 false
       ·rfl
       ·have hx0:=hcl.dep (i:=10) rfl hx 9 (by kernel_rfl);have hx1:=hcl.dep (i:=9) rfl hx0 8 (by kernel_rfl)
        have hx2:=hcl.dep (i:=8) rfl hx1 5 (by kernel_rfl);have hx3:=hcl.dep (i:=5) rfl hx2 4 (by kernel_rfl)
        have hx4:=hcl.dep (i:=4) rfl hx3 3 (by kernel_rfl);have hx5:=hcl.dep (i:=3) rfl hx4 2 (by kernel_rfl)
        exact(bZ hl0 hx5).elim
      refine wpOp_step rfl (fun K hK=>?_);go_simp;refine hK _ _ ?_;exact mQ.step (q':=q) 2 (.pointer (some ⟨B,0,none⟩)) hBN hi rfl hA (by decide) hq hR (by omega) hbz hN hX hXm hsz hcl hf hYm (aD.refl _ u) rfl rfl
     ·have hA:l.getD 10 false=false:=by
       cases hx:l.getD 10 false
       ·rfl
       ·have hx0:=hcl.dep (i:=10) rfl hx 9 (by kernel_rfl);have hx1:=hcl.dep (i:=9) rfl hx0 8 (by kernel_rfl)
        have hx2:=hcl.dep (i:=8) rfl hx1 5 (by kernel_rfl);have hx3:=hcl.dep (i:=5) rfl hx2 4 (by kernel_rfl)
        have hx4:=hcl.dep (i:=4) rfl hx3 3 (by kernel_rfl);exact(bZ hl0 hx4).elim
      have e1:vs 2= .pointer (some ⟨B,0,none⟩):=hf 2 (aG hi rfl 2 (by kernel_rfl)) (fun _=>hA);refine wpOp_step rfl (fun K hK=>?_);go_simp;refine(aY u _ q 4 hR (by omega) (by omega) (by omega)).mono ?_;rintro e u' ⟨x,rfl,x0,x1,hk⟩;refine hK _ _ ?_;exact mQ.step (q':=q+1) 3 (.int .i64 x) hBN hi rfl hA (by decide) hq (hk.rdr hR) (by omega) hbz hN hX hXm hsz hcl hf hYm hk.beside ⟨x.toNat,by omega,by rw[Int.toNat_of_nonneg x0]⟩ (by first|(rw[←e1];done)|(rw[←e1];rfl))
     ·have hA:l.getD 10 false=false:=by
       cases hx:l.getD 10 false
       ·rfl
       ·have hx0:=hcl.dep (i:=10) rfl hx 9 (by kernel_rfl);have hx1:=hcl.dep (i:=9) rfl hx0 8 (by kernel_rfl)
        have hx2:=hcl.dep (i:=8) rfl hx1 5 (by kernel_rfl);have hx3:=hcl.dep (i:=5) rfl hx2 4 (by kernel_rfl)
        exact(bZ hl0 hx3).elim
      obtain⟨b,e1,hb,hcb⟩:Sl u w2.heap.size 4 (vs 1):=hf 1 (aG hi rfl 1 (by kernel_rfl)) (fun _=>hA);obtain⟨j,hj,e2⟩:Pk 4 (vs 3):=hf 3 (aG hi rfl 3 (by kernel_rfl)) (fun _=>hA);obtain⟨x,hx⟩:=hcb j hj;have hji:(j:Int)<4:=by omega
      clear hcb;refine wpOp_step rfl (fun K hK=>?_);go_simp;refine hK _ _ ?_;exact mQ.step (q':=q) 4 (.pointer (some ⟨b,j,none⟩)) hBN hi rfl hA (by decide) hq hR (by omega) hbz hN hX hXm hsz hcl hf hYm (aD.refl _ u) ⟨b,j,x,rfl,hb,hx⟩ (by first|(rw[←e1,←e2];done)|(rw[←e1,←e2];rfl))
     ·have hA:l.getD 10 false=false:=by
       cases hx:l.getD 10 false
       ·rfl
       ·have hx0:=hcl.dep (i:=10) rfl hx 9 (by kernel_rfl);have hx1:=hcl.dep (i:=9) rfl hx0 8 (by kernel_rfl)
        have hx2:=hcl.dep (i:=8) rfl hx1 5 (by kernel_rfl);exact(bZ hl0 hx2).elim
      obtain⟨b,j,x,e1,hb,hx⟩:Ix u w2.heap.size (vs 4):=hf 4 (aG hi rfl 4 (by kernel_rfl)) (fun _=>hA);refine wpOp_step rfl (fun K hK=>?_);go_simp;refine hK _ _ ?_;exact mQ.step (q':=q) 5 (.int .i64 x) hBN hi rfl hA (by decide) hq hR (by omega) hbz hN hX hXm hsz hcl hf hYm (aD.refl _ u) ⟨x,rfl⟩ (by first|(rw[←e1];done)|(rw[←e1];rfl))
     ·have hA:l.getD 10 false=false:=by
       cases hx:l.getD 10 false
       ·rfl
       ·have hx0:=hcl.dep (i:=10) rfl hx 9 (by kernel_rfl);have hx1:=hcl.dep (i:=9) rfl hx0 8 (by kernel_rfl)
        have hx2:=hcl.dep (i:=8) rfl hx1 7 (by kernel_rfl);have hx3:=hcl.dep (i:=7) rfl hx2 6 (by kernel_rfl)
        exact(bZ hl0 hx3).elim
      refine wpOp_step rfl (fun K hK=>?_);go_simp;refine hK _ _ ?_;exact mQ.step (q':=q) 6 (.pointer (some ⟨B,0,none⟩)) hBN hi rfl hA (by decide) hq hR (by omega) hbz hN hX hXm hsz hcl hf hYm (aD.refl _ u) rfl rfl
     ·have hA:l.getD 10 false=false:=by
       cases hx:l.getD 10 false
       ·rfl
       ·have hx0:=hcl.dep (i:=10) rfl hx 9 (by kernel_rfl);have hx1:=hcl.dep (i:=9) rfl hx0 8 (by kernel_rfl)
        have hx2:=hcl.dep (i:=8) rfl hx1 7 (by kernel_rfl);exact(bZ hl0 hx2).elim
      have e1:vs 6= .pointer (some ⟨B,0,none⟩):=hf 6 (aG hi rfl 6 (by kernel_rfl)) (fun _=>hA);refine wpOp_step rfl (fun K hK=>?_);go_simp;refine(vG u _ q 2 hR (by omega) (by omega) (by omega)).mono ?_;rintro e u' ⟨x0,x1,x2,x3,q',rfl,hq',hr',hk⟩;refine hK _ _ ?_;exact mQ.step (q':=q') 7 (.agg #[.int .i64 x0,.int .i64 x1,.int .i64 x2,.int .i64 x3]) hBN hi rfl hA (by decide) hq hr' (by omega) hbz hN hX hXm hsz hcl hf hYm hk ⟨x0,x1,x2,x3,rfl⟩ (by first|(rw[←e1];done)|(rw[←e1];rfl))
     ·have hA:l.getD 10 false=false:=by
       cases hx:l.getD 10 false
       ·rfl
       ·have hx0:=hcl.dep (i:=10) rfl hx 9 (by kernel_rfl);have hx1:=hcl.dep (i:=9) rfl hx0 8 (by kernel_rfl)
        exact(bZ hl0 hx1).elim
      obtain⟨c,e1⟩:Ld (vs 5):=hf 5 (aG hi rfl 5 (by kernel_rfl)) (fun _=>hA);obtain⟨x0,x1,x2,x3,e2⟩:Ag (vs 7):=hf 7 (aG hi rfl 7 (by kernel_rfl)) (fun _=>hA);refine wpOp_step rfl (fun K hK=>?_);go_simp;refine hK _ _ ?_;exact mQ.step (q':=q) 8 (.agg #[.int .i64 c,.int .i64 x0,.int .i64 x1,.int .i64 x2,.int .i64 x3]) hBN hi rfl hA (by decide) hq hR (by omega) hbz hN hX hXm hsz hcl hf hYm (aD.refl _ u) ⟨c,x0,x1,x2,x3,rfl⟩ (by first|(rw[←e1,←e2];done)|(rw[←e1,←e2];rfl))
     ·have hA:l.getD 10 false=false:=by
       cases hx:l.getD 10 false
       ·rfl
       ·have hx0:=hcl.dep (i:=10) rfl hx 9 (by kernel_rfl);exact(bZ hl0 hx0).elim
      obtain⟨c,x0,x1,x2,x3,e1⟩:A5 (vs 8):=hf 8 (aG hi rfl 8 (by kernel_rfl)) (fun _=>hA);refine wpOp_step rfl (fun K hK=>?_);go_simp;refine hK _ _ ?_;exact mQ.step (q':=q) 9 (.slice (some ⟨u.heap.size,0,none⟩) 1 1) hBN hi rfl hA (by decide) hq (hR.alloc _) (by omega) hbz hN hX hXm hsz hcl hf hYm (cY _ u _) (QZ u _ _ _ _ _ _ hN) (by first|(rw[←e1];done)|(rw[←e1];rfl))
     ·have hA:l.getD 10 false=false:=by rw[Array.getD_eq_getD_getElem?,bA hl0];rfl
      have e0:vs 0= .slice a L.length cap:=hf 0 (aG hi rfl 0 (by kernel_rfl)) (fun _=>hA);obtain⟨b,c,x0,x1,x2,x3,e1,hbN,hbl,hbc⟩:S1 u w2.heap.size (vs 9):=hf 9 (aG hi rfl 9 (by kernel_rfl)) (fun _=>hA);have hgt:∀k,10<k→l.getD k false=false:=fun k hk=>by
       by_cases hk1:k=11
       ·subst hk1;cases hx:l.getD 11 false
        ·rfl
        ·exact(bZ hl0 (hcl.dep (i:=11) rfl hx 10 (by kernel_rfl))).elim
       ·rw[Array.getD_eq_getD_getElem?,Array.getElem?_eq_none (by omega)];rfl
      refine wpOp_step rfl (fun K hK=>?_);refine step_append_lies _ rfl (.tmp 22) (.tmp 31) 24 rfl w.heap.size 47 i0 _ 5 40 Tryz.underlying24 hi0 hz0 hz1 hz2 rfl (by omega) _ L.length (aF L) e0 (hX hA) ⟨b,0,none⟩ 1 1 (aF [⟨c,⟨x0,x1,x2,x3⟩⟩]) e1 (by rw[aU];rfl) (by rw[dG];exact World.news_of_block hbc) (dN _) (by omega) (by unfold maxLen;omega) (by omega) (jW hbz.size (Nat.le_refl _)) _ rfl ?_;intro g0 cap0 w9 hown1 hgrow hat hlt1;refine hK _ _ ?_;have hrow:∀k,(Value.slice a L.length cap).ownBlock=some k→w.heap.size≤k:=fun k hk=>((hX hA).lt k hk).1
      exact mQ.last (.slice (some ⟨g0,0,none⟩) (L.length+1) cap0) hi rfl (by decide) hgt hq (hR.grown hgrow (fun k hk=>by have:=hrow k hk;omega)) (hbz.grown hgrow hrow) (jW hN hgrow.size) hsz hcl rfl ⟨L++[⟨c,⟨x0,x1,x2,x3⟩⟩],by rw[bF,List.length_append];exact hown1,by simp;omega⟩ rfl
     ·have hAt:l.getD 10 false=true:=aG hi rfl 10 (by kernel_rfl);have hy:=hf 10 hAt (fun h=>absurd h (by decide))
      refine wpOp_step rfl (fun K hK=>?_);go_simp;refine hK _ _ ?_;exact GU 11 (vs 10) hi rfl hAt (by decide) hq hR hbz hN hsz hcl hf rfl hy rfl
    ·intro l b u hI hr;obtain⟨q,vs,rfl,hR,hq,hbz,hN,hX,hsz,hcl,hf⟩:=hI;have hall:=CI (by kernel_rfl) hr hsz
     obtain⟨L2,h1,h2⟩:=hf 11 (hall 11 (by decide)) (fun h=>absurd h (by decide));exact⟨rfl,q,vs,L2,rfl,hR,by omega,hbz,h1,h2⟩
   ·rintro e b u ⟨rfl,q,vs,L2,rfl,hR,hq,hb,ho,hl⟩;obtain⟨a2,cap2,he,hout⟩:=aH ho (by omega);rw[he];have HO9:=aA hout
    have HR9:=aA hR;clear ho hout he hR HR2 HB2 HO2;go_wp2;go_ret;exact⟨_,_,_,_,_,rfl,HO9.out.1,hl,HO9.out.2.2,by omega,HR9.out,hb⟩
  ·have HZ:=aA hz;have hzb:((L.length:Int)==0)=false:=by simpa using hz
   clear hz;go_wp2_with fail;refine(aY w2 B _ 3 HR2.out (by omega) (by omega) (by omega)).mono ?_;rintro e w3 ⟨x,rfl,x0,x1,hk⟩;have HR3:=aA (hk.rdr HR2.out)
   have HB3:=aA (HB2.out.trans hk.beside);have HO3:=aA (bK HO2.out hk.beside hB)
   clear hk HR2 HB2 HO2;by_cases hx:x=0
   ·subst hx;go_wp2_with fail;refine Code.wp_mono (Q:=fun e b u=>e=Exit.normal∧∃(q:Nat) (vs:Nat→Value) (L2:List T),b={tmps:=#[Value.pointer (some ⟨B,0,none⟩),Value.int IntKind.i64 n,undef,undef,vs 11,Value.slice a L.length cap,Value.pointer (some ⟨B,0,none⟩),Value.slice a L.length cap,Value.pointer (some ⟨B,0,none⟩),Value.int IntKind.i64 n,Value.int IntKind.i64 0,Value.bool false,undef,Value.bool true,Value.slice a L.length cap,Value.int IntKind.i64 (L.length:Int),Value.bool false,Value.bool false,Value.pointer (some ⟨B,0,none⟩),Value.int IntKind.i64 0,Value.bool true,Value.bool true,vs 0,vs 1,vs 2,vs 3,vs 4,vs 5,vs 6,vs 7,vs 8,vs 9,vs 10,undef,undef,undef,undef,undef,undef,undef,undef,undef,undef,undef,undef,undef,undef,undef,undef,undef,undef,undef],defers:=[]}∧iU u B q∧q≤q1+1+1+360∧aD B w u∧u.ownsRow w.heap.size 47 5 (vs 11) L2.length (aF L2)∧L2.length≤5) ?_ ?_;rotate_left
    ·have hBN:B<w3.heap.size:=HR3.out.lt;refine qG (fun vs:Nat→Value=>({tmps:=#[Value.pointer (some ⟨B,0,none⟩),Value.int IntKind.i64 n,undef,undef,vs 11,Value.slice a L.length cap,Value.pointer (some ⟨B,0,none⟩),Value.slice a L.length cap,Value.pointer (some ⟨B,0,none⟩),Value.int IntKind.i64 n,Value.int IntKind.i64 0,Value.bool false,undef,Value.bool true,Value.slice a L.length cap,Value.int IntKind.i64 (L.length:Int),Value.bool false,Value.bool false,Value.pointer (some ⟨B,0,none⟩),Value.int IntKind.i64 0,Value.bool true,Value.bool true,vs 0,vs 1,vs 2,vs 3,vs 4,vs 5,vs 6,vs 7,vs 8,vs 9,vs 10,undef,undef,undef,undef,undef,undef,undef,undef,undef,undef,undef,undef,undef,undef,undef,undef,undef,undef,undef],defers:=[]}:Act)) (fun k=>match k with|0=>pE.is (.slice a L.length cap)|1=>pE.old (SK.sl 4)|2=>pE.old SK.rd|3=>pE.old (SK.pk 4)|4=>pE.old SK.ix|5=>pE.old SK.ld|6=>pE.old SK.rd|7=>pE.old SK.ag|8=>pE.a5|9=>pE.s1|10=>pE.own|11=>pE.own|_=>pE.own) 12 10 B (q1+1+1) w3.heap.size (fun u=>u.ownsRow w.heap.size 47 5 (.slice a L.length cap) L.length (aF L)) (fun u v=>∃L2,u.ownsRow w.heap.size 47 5 v L2.length (aF L2)∧L2.length≤5) w (by kernel_rfl) ?_ ?_ ?_
     ·exact mQ.start (fun k=>if k=11 then .slice none 0 0 else undef) rfl HR3.out HB3.out (Nat.le_refl _) (dW HO3.out (cE _ _).drew)
     ·intro l b u hI i hi;obtain⟨q,vs,rfl,hR,hq,hbz,hN,hX,hsz,hcl,hf⟩:=hI;have hl0:=(mem_ready.1 hi).1
      have hund1:1≤fM l:=by have:=fO (bA hl0);omega
      have hXm:∀u u':World,u.ownsRow w.heap.size 47 5 (.slice a L.length cap) L.length (aF L)→aD B u u'→u'.ownsRow w.heap.size 47 5 (.slice a L.length cap) L.length (aF L):=fun u u' h hb=>bK h hb hB;have hYm:∀(u u':World) (v:Value),(∃L2,u.ownsRow w.heap.size 47 5 v L2.length (aF L2)∧L2.length≤5)→aD B u u'→(∃L2,u'.ownsRow w.heap.size 47 5 v L2.length (aF L2)∧L2.length≤5):=fun u u' v h hb=>by obtain⟨L2,h1,h2⟩:=h;exact⟨L2,bK h1 hb hB,h2⟩
      have hi12:i<12:=by obtain⟨_,o,ho,_⟩:=mem_ready.1 hi;exact(Array.getElem?_eq_some_iff.1 ho).1
      rcases(show i=0∨i=1∨i=2∨i=3∨i=4∨i=5∨i=6∨i=7∨i=8∨i=9∨i=10∨i=11 from by omega)with rfl|rfl|rfl|rfl|rfl|rfl|rfl|rfl|rfl|rfl|rfl|rfl
      ·have hA:l.getD 10 false=false:=by
        cases hx:l.getD 10 false
        ·rfl
        ·have hx0:=hcl.dep (i:=10) rfl hx 0 (by kernel_rfl);exact(bZ hl0 hx0).elim
       refine wpOp_step rfl (fun K hK=>?_);go_simp;refine hK _ _ ?_;exact mQ.step (q':=q) 0 (.slice a L.length cap) hBN hi rfl hA (by decide) hq hR (by omega) hbz hN hX hXm hsz hcl hf hYm (aD.refl _ u) rfl rfl
      ·have hA:l.getD 10 false=false:=by
        cases hx:l.getD 10 false
        ·rfl
        ·have hx0:=hcl.dep (i:=10) rfl hx 9 (by kernel_rfl);have hx1:=hcl.dep (i:=9) rfl hx0 8 (by kernel_rfl)
         have hx2:=hcl.dep (i:=8) rfl hx1 5 (by kernel_rfl);have hx3:=hcl.dep (i:=5) rfl hx2 4 (by kernel_rfl)
         have hx4:=hcl.dep (i:=4) rfl hx3 1 (by kernel_rfl);exact(bZ hl0 hx4).elim
       refine wpOp_step rfl (fun K hK=>?_);go_simp;refine hK _ _ ?_;exact mQ.step (q':=q) 1 (.slice (some ⟨u.heap.size,0,none⟩) 4 4) hBN hi rfl hA (by decide) hq (hR.alloc _) (by omega) hbz hN hX hXm hsz hcl hf hYm (cY _ u _) (BI u _ _ _ _ _ _ hN) rfl
      ·have hA:l.getD 10 false=false:=by
        cases hx:l.getD 10 false
        ·rfl
        ·have hx0:=hcl.dep (i:=10) rfl hx 9 (by kernel_rfl);have hx1:=hcl.dep (i:=9) rfl hx0 8 (by kernel_rfl)
         have hx2:=hcl.dep (i:=8) rfl hx1 5 (by kernel_rfl);have hx3:=hcl.dep (i:=5) rfl hx2 4 (by kernel_rfl)
         have hx4:=hcl.dep (i:=4) rfl hx3 3 (by kernel_rfl);have hx5:=hcl.dep (i:=3) rfl hx4 2 (by kernel_rfl)
         exact(bZ hl0 hx5).elim
       refine wpOp_step rfl (fun K hK=>?_);go_simp;refine hK _ _ ?_;exact mQ.step (q':=q) 2 (.pointer (some ⟨B,0,none⟩)) hBN hi rfl hA (by decide) hq hR (by omega) hbz hN hX hXm hsz hcl hf hYm (aD.refl _ u) rfl rfl
      ·have hA:l.getD 10 false=false:=by
        cases hx:l.getD 10 false
        ·rfl
        ·have hx0:=hcl.dep (i:=10) rfl hx 9 (by kernel_rfl);have hx1:=hcl.dep (i:=9) rfl hx0 8 (by kernel_rfl)
         have hx2:=hcl.dep (i:=8) rfl hx1 5 (by kernel_rfl);have hx3:=hcl.dep (i:=5) rfl hx2 4 (by kernel_rfl)
         have hx4:=hcl.dep (i:=4) rfl hx3 3 (by kernel_rfl);exact(bZ hl0 hx4).elim
       have e1:vs 2= .pointer (some ⟨B,0,none⟩):=hf 2 (aG hi rfl 2 (by kernel_rfl)) (fun _=>hA);refine wpOp_step rfl (fun K hK=>?_);go_simp;refine(aY u _ q 4 hR (by omega) (by omega) (by omega)).mono ?_;rintro e u' ⟨x,rfl,x0,x1,hk⟩;refine hK _ _ ?_;exact mQ.step (q':=q+1) 3 (.int .i64 x) hBN hi rfl hA (by decide) hq (hk.rdr hR) (by omega) hbz hN hX hXm hsz hcl hf hYm hk.beside ⟨x.toNat,by omega,by rw[Int.toNat_of_nonneg x0]⟩ (by first|(rw[←e1];done)|(rw[←e1];rfl))
      ·have hA:l.getD 10 false=false:=by
        cases hx:l.getD 10 false
        ·rfl
        ·have hx0:=hcl.dep (i:=10) rfl hx 9 (by kernel_rfl);have hx1:=hcl.dep (i:=9) rfl hx0 8 (by kernel_rfl)
         have hx2:=hcl.dep (i:=8) rfl hx1 5 (by kernel_rfl);have hx3:=hcl.dep (i:=5) rfl hx2 4 (by kernel_rfl)
         exact(bZ hl0 hx3).elim
       obtain⟨b,e1,hb,hcb⟩:Sl u w3.heap.size 4 (vs 1):=hf 1 (aG hi rfl 1 (by kernel_rfl)) (fun _=>hA);obtain⟨j,hj,e2⟩:Pk 4 (vs 3):=hf 3 (aG hi rfl 3 (by kernel_rfl)) (fun _=>hA);obtain⟨x,hx⟩:=hcb j hj;have hji:(j:Int)<4:=by omega
       clear hcb;refine wpOp_step rfl (fun K hK=>?_);go_simp;refine hK _ _ ?_;exact mQ.step (q':=q) 4 (.pointer (some ⟨b,j,none⟩)) hBN hi rfl hA (by decide) hq hR (by omega) hbz hN hX hXm hsz hcl hf hYm (aD.refl _ u) ⟨b,j,x,rfl,hb,hx⟩ (by first|(rw[←e1,←e2];done)|(rw[←e1,←e2];rfl))
      ·have hA:l.getD 10 false=false:=by
        cases hx:l.getD 10 false
        ·rfl
        ·have hx0:=hcl.dep (i:=10) rfl hx 9 (by kernel_rfl);have hx1:=hcl.dep (i:=9) rfl hx0 8 (by kernel_rfl)
         have hx2:=hcl.dep (i:=8) rfl hx1 5 (by kernel_rfl);exact(bZ hl0 hx2).elim
       obtain⟨b,j,x,e1,hb,hx⟩:Ix u w3.heap.size (vs 4):=hf 4 (aG hi rfl 4 (by kernel_rfl)) (fun _=>hA);refine wpOp_step rfl (fun K hK=>?_);go_simp;refine hK _ _ ?_;exact mQ.step (q':=q) 5 (.int .i64 x) hBN hi rfl hA (by decide) hq hR (by omega) hbz hN hX hXm hsz hcl hf hYm (aD.refl _ u) ⟨x,rfl⟩ (by first|(rw[←e1];done)|(rw[←e1];rfl))
      ·have hA:l.getD 10 false=false:=by
        cases hx:l.getD 10 false
        ·rfl
        ·have hx0:=hcl.dep (i:=10) rfl hx 9 (by kernel_rfl);have hx1:=hcl.dep (i:=9) rfl hx0 8 (by kernel_rfl)
         have hx2:=hcl.dep (i:=8) rfl hx1 7 (by kernel_rfl);have hx3:=hcl.dep (i:=7) rfl hx2 6 (by kernel_rfl)
         exact(bZ hl0 hx3).elim
       refine wpOp_step rfl (fun K hK=>?_);go_simp;refine hK _ _ ?_;exact mQ.step (q':=q) 6 (.pointer (some ⟨B,0,none⟩)) hBN hi rfl hA (by decide) hq hR (by omega) hbz hN hX hXm hsz hcl hf hYm (aD.refl _ u) rfl rfl
      ·have hA:l.getD 10 false=false:=by
        cases hx:l.getD 10 false
        ·rfl
        ·have hx0:=hcl.dep (i:=10) rfl hx 9 (by kernel_rfl);have hx1:=hcl.dep (i:=9) rfl hx0 8 (by kernel_rfl)
         have hx2:=hcl.dep (i:=8) rfl hx1 7 (by kernel_rfl);exact(bZ hl0 hx2).elim
       have e1:vs 6= .pointer (some ⟨B,0,none⟩):=hf 6 (aG hi rfl 6 (by kernel_rfl)) (fun _=>hA);refine wpOp_step rfl (fun K hK=>?_);go_simp;refine(vG u _ q 2 hR (by omega) (by omega) (by omega)).mono ?_;rintro e u' ⟨x0,x1,x2,x3,q',rfl,hq',hr',hk⟩;refine hK _ _ ?_;exact mQ.step (q':=q') 7 (.agg #[.int .i64 x0,.int .i64 x1,.int .i64 x2,.int .i64 x3]) hBN hi rfl hA (by decide) hq hr' (by omega) hbz hN hX hXm hsz hcl hf hYm hk ⟨x0,x1,x2,x3,rfl⟩ (by first|(rw[←e1];done)|(rw[←e1];rfl))
      ·have hA:l.getD 10 false=false:=by
        cases hx:l.getD 10 false
        ·rfl
        ·have hx0:=hcl.dep (i:=10) rfl hx 9 (by kernel_rfl);have hx1:=hcl.dep (i:=9) rfl hx0 8 (by kernel_rfl)
         exact(bZ hl0 hx1).elim
       obtain⟨c,e1⟩:Ld (vs 5):=hf 5 (aG hi rfl 5 (by kernel_rfl)) (fun _=>hA);obtain⟨x0,x1,x2,x3,e2⟩:Ag (vs 7):=hf 7 (aG hi rfl 7 (by kernel_rfl)) (fun _=>hA);refine wpOp_step rfl (fun K hK=>?_);go_simp;refine hK _ _ ?_;exact mQ.step (q':=q) 8 (.agg #[.int .i64 c,.int .i64 x0,.int .i64 x1,.int .i64 x2,.int .i64 x3]) hBN hi rfl hA (by decide) hq hR (by omega) hbz hN hX hXm hsz hcl hf hYm (aD.refl _ u) ⟨c,x0,x1,x2,x3,rfl⟩ (by first|(rw[←e1,←e2];done)|(rw[←e1,←e2];rfl))
      ·have hA:l.getD 10 false=false:=by
        cases hx:l.getD 10 false
        ·rfl
        ·have hx0:=hcl.dep (i:=10) rfl hx 9 (by kernel_rfl);exact(bZ hl0 hx0).elim
       obtain⟨c,x0,x1,x2,x3,e1⟩:A5 (vs 8):=hf 8 (aG hi rfl 8 (by kernel_rfl)) (fun _=>hA);refine wpOp_step rfl (fun K hK=>?_);go_simp;refine hK _ _ ?_;exact mQ.step (q':=q) 9 (.slice (some ⟨u.heap.size,0,none⟩) 1 1) hBN hi rfl hA (by decide) hq (hR.alloc _) (by omega) hbz hN hX hXm hsz hcl hf hYm (cY _ u _) (QZ u _ _ _ _ _ _ hN) (by first|(rw[←e1];done)|(rw[←e1];rfl))
      ·have hA:l.getD 10 false=false:=by rw[Array.getD_eq_getD_getElem?,bA hl0];rfl
       have e0:vs 0= .slice a L.length cap:=hf 0 (aG hi rfl 0 (by kernel_rfl)) (fun _=>hA);obtain⟨b,c,x0,x1,x2,x3,e1,hbN,hbl,hbc⟩:S1 u w3.heap.size (vs 9):=hf 9 (aG hi rfl 9 (by kernel_rfl)) (fun _=>hA);have hgt:∀k,10<k→l.getD k false=false:=fun k hk=>by
        by_cases hk1:k=11
        ·subst hk1;cases hx:l.getD 11 false
         ·rfl
         ·exact(bZ hl0 (hcl.dep (i:=11) rfl hx 10 (by kernel_rfl))).elim
        ·rw[Array.getD_eq_getD_getElem?,Array.getElem?_eq_none (by omega)];rfl
       refine wpOp_step rfl (fun K hK=>?_);refine step_append_lies _ rfl (.tmp 22) (.tmp 31) 24 rfl w.heap.size 47 i0 _ 5 40 Tryz.underlying24 hi0 hz0 hz1 hz2 rfl (by omega) _ L.length (aF L) e0 (hX hA) ⟨b,0,none⟩ 1 1 (aF [⟨c,⟨x0,x1,x2,x3⟩⟩]) e1 (by rw[aU];rfl) (by rw[dG];exact World.news_of_block hbc) (dN _) (by omega) (by unfold maxLen;omega) (by omega) (jW hbz.size (Nat.le_refl _)) _ rfl ?_;intro g0 cap0 w9 hown1 hgrow hat hlt1;refine hK _ _ ?_;have hrow:∀k,(Value.slice a L.length cap).ownBlock=some k→w.heap.size≤k:=fun k hk=>((hX hA).lt k hk).1
       exact mQ.last (.slice (some ⟨g0,0,none⟩) (L.length+1) cap0) hi rfl (by decide) hgt hq (hR.grown hgrow (fun k hk=>by have:=hrow k hk;omega)) (hbz.grown hgrow hrow) (jW hN hgrow.size) hsz hcl rfl ⟨L++[⟨c,⟨x0,x1,x2,x3⟩⟩],by rw[bF,List.length_append];exact hown1,by simp;omega⟩ rfl
      ·have hAt:l.getD 10 false=true:=aG hi rfl 10 (by kernel_rfl);have hy:=hf 10 hAt (fun h=>absurd h (by decide))
       refine wpOp_step rfl (fun K hK=>?_);go_simp;refine hK _ _ ?_;exact GU 11 (vs 10) hi rfl hAt (by decide) hq hR hbz hN hsz hcl hf rfl hy rfl
     ·intro l b u hI hr;obtain⟨q,vs,rfl,hR,hq,hbz,hN,hX,hsz,hcl,hf⟩:=hI;have hall:=CI (by kernel_rfl) hr hsz
      obtain⟨L2,h1,h2⟩:=hf 11 (hall 11 (by decide)) (fun h=>absurd h (by decide));exact⟨rfl,q,vs,L2,rfl,hR,by omega,hbz,h1,h2⟩
    ·rintro e b u ⟨rfl,q,vs,L2,rfl,hR,hq,hb,ho,hl⟩;obtain⟨a2,cap2,he,hout⟩:=aH ho (by omega);rw[he];have HO9:=aA hout
     have HR9:=aA hR;clear ho hout he hR HR3 HB3 HO3;go_wp2;go_ret;exact⟨_,_,_,_,_,rfl,HO9.out.1,hl,HO9.out.2.2,by omega,HR9.out,hb⟩
   ·have hxb:(x==0)=false:=by simp[hx]
    go_wp2_with fail;refine(aY w3 B _ 2 HR3.out (by omega) (by omega) (by omega)).mono ?_;rintro e w4 ⟨y,rfl,y0,y1,hk⟩;have HR4:=aA (hk.rdr HR3.out)
    have HB4:=aA (HB3.out.trans hk.beside);have HO4:=aA (bK HO3.out hk.beside hB)
    clear hk HR3 HB3 HO3;obtain⟨a',cap',he,ho⟩:=aH HO4.out (by omega);cases he;have hL0:0<L.length:=by have:=HZ.out;omega
    have hcap:L.length≤cap:=ho.1.1;have hblk:∃b off,a=some ⟨b,off,none⟩:=by
     rcases ho.1.2.2 with h0|⟨b,off,he,_,_⟩
     ·omega
     ·exact⟨b,off,he⟩
    obtain⟨b,off,rfl⟩:=hblk;have HRD:=aA ho.1
    have HU:=aA (ho.2.2);clear ho;by_cases hy:y=0
    ·subst hy;have HO5:=aA (cD w4 w.heap.size HB4.out.size)
     have HN:=aA ((HRD.out.below (aC w4 (.cells #[] 47))).news);have HB5:=aA (HB4.out.alloc (.cells #[] 47))
     have HR5:=aA (HR4.out.alloc (.cells #[] 47));have hs5:w.heap.size≤(w4.alloc (.cells #[] 47)).heap.size:=HB5.out.size
     go_wp2_with (at_builtin;refine wpList_append_lies _ rfl (.tmp 37) (.tmp 38) 24 rfl w.heap.size 47 i0 _ 5 40 Tryz.underlying24 hi0 hz0 hz1 hz2 rfl (by omega) _ 0 (aF []) rfl (HO5.out) ⟨b,off,none⟩ L.length cap (aF L) rfl (by simp[aU]) (HN.out) (KJ L) (by omega) (by unfold maxLen;omega) (by omega) (hs5) _ rfl ?_;intro g0 cap0 w9 hown1 hgrow hat hlt1);have HR6:=aA (HR5.out.grown hgrow (fun k hk=>by cases hk;exact lG hB HB4.out.size))
     have HB6:=aA (HB5.out.grown hgrow (fun k hk=>by cases hk;exact HB4.out.size));obtain⟨a6,cap6,he,ho⟩:=aH (w:=w9) (lo:=w.heap.size) (v:=.slice (some ⟨g0,0,none⟩) L.length cap0) (L:=L) (by simpa[aF]using hown1) (by omega);simp only[Value.slice.injEq]at he;obtain⟨rfl,_,rfl⟩:=he;have hg0:w.heap.size≤g0:=by
      rcases ho.2.2 with h|⟨g,off2,he,hg⟩
      ·omega
      ·cases he;exact hg
     rcases ho.2.1 with h0|⟨g,off2,N,F,he,hrw,hN,hF⟩
     ·omega
     cases he;simp only[Nat.zero_add]at hN hF;have hcap6:L.length≤cap0:=ho.1.1
     have HRW:=aA hrw;have HF:=aA hF
     clear ho hrw hF hown1 hgrow hat hlt1 HO5 HN HB5 HR5;refine(vG w9 B _ 1 HR6.out (by omega) (by omega) (by omega)).mono ?_;rintro e w10 ⟨m1,m2,m3,m4,q6,rfl,hq6,r6,s6⟩;have HR7:=aA r6
     have HB7:=aA (HB6.out.trans s6);have hrw:=HRW.out.of_block (s6.block g0 HRW.out.lt (by omega))
     have HR8:=aA hrw;have k1:=hrw.cell (i:=1) (by omega)
     have k2:=hrw.cell (i:=2) (by omega);have k3:=hrw.cell (i:=3) (by omega)
     have k4:=hrw.cell (i:=4) (by omega);have f1:=hrw.frozen 1
     have f2:=hrw.frozen 2;have f3:=hrw.frozen 3
     have f4:=hrw.frozen 4;have hL0':(0:Int)<(L.length:Int):=by omega
     clear r6 s6 hrw HR6 HB6 HRW;go_wp2;go_ret;exact⟨_,_,_,_,q6,rfl,MO (f:=lf L) HR8.out hL0 hN HF.out hcap6 (by omega),by omega,.inr ⟨g0,0,rfl,hg0⟩,by omega,(((HR7.out.set (by omega)).set (by omega)).set (by omega)).set (by omega),(((HB7.out.set hg0).set hg0).set hg0).set hg0⟩
    ·have hyb:(y==0)=false:=by simp[hy]
     rcases HRD.out.2.2 with h0|⟨b',off',he,hblt,hcl⟩
     ·omega
     cases he;obtain⟨c0,c1,c2,c3,c4⟩:=hcl 0 (by omega);simp only[Nat.zero_mul,Nat.add_zero]at c0 c1 c2 c3 c4;have HB5:=aA (HB4.out.alloc (.cells #[.int .i64 (lf L 0).c,.int .i64 (lf L 0).m.x,.int .i64 (lf L 0).m.y,.int .i64 (lf L 0).m.d,.int .i64 (lf L 0).m.e] 47))
     have hs5:w.heap.size≤(w4.alloc (.cells #[.int .i64 (lf L 0).c,.int .i64 (lf L 0).m.x,.int .i64 (lf L 0).m.y,.int .i64 (lf L 0).m.d,.int .i64 (lf L 0).m.e] 47)).heap.size:=HB5.out.size;have HO5:=aA (HO4.out.alloc (.cells #[.int .i64 (lf L 0).c,.int .i64 (lf L 0).m.x,.int .i64 (lf L 0).m.y,.int .i64 (lf L 0).m.d,.int .i64 (lf L 0).m.e] 47))
     have HR5:=aA (HR4.out.alloc (.cells #[.int .i64 (lf L 0).c,.int .i64 (lf L 0).m.x,.int .i64 (lf L 0).m.y,.int .i64 (lf L 0).m.d,.int .i64 (lf L 0).m.e] 47));clear hcl;go_wp2_with (at_builtin;refine wpList_append_lies _ rfl (.tmp 46) (.tmp 50) 24 rfl w.heap.size 47 i0 _ 5 40 Tryz.underlying24 hi0 hz0 hz1 hz2 rfl (by omega) _ L.length (aF L) rfl (HO5.out) ⟨w4.heap.size,0,none⟩ 1 1 (aF [lf L 0]) rfl (by simp[aU]) (by rw[dG];exact World.news_of_block (heap_alloc_new w4 _)) (dN _) (by omega) (by unfold maxLen;omega) (by omega) (hs5) _ rfl ?_;intro g0 cap0 w9 hown1 hgrow hat hlt1);have hrow:∀k,(Value.slice (some ⟨b,off,none⟩) L.length cap).ownBlock=some k→w.heap.size≤k:=fun k hk=>(HO4.out.lt k hk).1
     have HR6:=aA (HR5.out.grown hgrow (fun k hk=>by have:=hrow k hk;omega));have HB6:=aA (HB5.out.grown hgrow hrow)
     have hout:=aH (L:=L++[lf L 0]) (by rw[bF,List.length_append];exact hown1) (by simp;omega);go_ret;obtain⟨a6,cap6,he,ho⟩:=hout;simp only[Value.slice.injEq]at he;obtain⟨rfl,_,rfl⟩:=he
     exact⟨_,_,_,lf (L++[lf L 0]),_,rfl,by have:=ho.1;simpa using this,by omega,by
      rcases ho.2.2 with h|h
      ·simp at h
      ·exact .inr h,by omega,HR6.out,HB6.out⟩
theorem Rd.beside {w w':World} {a:Option Addr} {n cap B:Nat} {f:Nat→T} (h:Rd w a n cap f) (hb:aD B w w') (hne:n=0∨∀b off,a=some ⟨b,off,none⟩→b≠B):Rd w' a n cap f:=
 h.grown (rG hb) (hne.imp id (fun k b off he hb=>k b off he (by cases hb;rfl)))
end Go.Proofs.YtncffcaabnjioaaGreat
