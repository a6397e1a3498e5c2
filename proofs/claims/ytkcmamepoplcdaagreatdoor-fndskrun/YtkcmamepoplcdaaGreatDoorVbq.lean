/-
  The draw of a monomial: some monomial, whatever the order in which its parts come up; the reader goes on by some places.
-/
import Derived.Test.YtkcmamepoplcdaaGreatDoorVax
import Derived.Test.YtkcmamepoplcdaaGreatDoorVaj
set_option maxHeartbeats 8000000
set_option maxRecDepth 100000
namespace Go.Proofs.YtkcmamepoplcdaaGreatDoor
open Go.RowKit
set_option linter.unusedVariables false
def Sl (w:World) (N m:Nat) (v:Value):Prop:=∃b,v= .slice (some ⟨b,0,none⟩) m m∧N≤b∧∀i,i<m→∃x,w.cell? ⟨b,i,none⟩=some (.int .i64 x)
def Pk (m:Nat) (v:Value):Prop:=∃q:Nat,q<m∧v= .int .i64 (q:Int)
def Ix (w:World) (N:Nat) (v:Value):Prop:=∃b i x,v= .pointer (some ⟨b,i,none⟩)∧N≤b∧w.cell? ⟨b,i,none⟩=some (.int .i64 x)
def Ld (v:Value):Prop:=∃x,v= .int .i64 x
def Ag (v:Value):Prop:=∃x y d e,v= .agg #[.int .i64 x,.int .i64 y,.int .i64 d,.int .i64 e]
def Al (w:World) (N:Nat) (v:Value):Prop:=∃g,v= .pointer (some ⟨g,0,none⟩)∧N≤g∧g<w.heap.size∧(∀i,i<4→∃x,w.cell? ⟨g,i,none⟩=some (.int .i64 x))∧∀i,w.frozen? ⟨g,i,none⟩=false
def FK (B N:Nat) (w:World) (v:Value):Nat→Prop
 |0=>Sl w N 5 v
 |5=>Sl w N 5 v
 |10=>Sl w N 5 v
 |15=>Sl w N 4 v
 |1=>v= .pointer (some ⟨B,0,none⟩)
 |6=>v= .pointer (some ⟨B,0,none⟩)
 |11=>v= .pointer (some ⟨B,0,none⟩)
 |16=>v= .pointer (some ⟨B,0,none⟩)
 |2=>Pk 5 v
 |7=>Pk 5 v
 |12=>Pk 5 v
 |17=>Pk 4 v
 |3=>Ix w N v
 |8=>Ix w N v
 |13=>Ix w N v
 |18=>Ix w N v
 |4=>Ld v
 |9=>Ld v
 |14=>Ld v
 |19=>Ld v
 |20=>Ag v
 |_=>True
theorem aH.cellN {B N b i:Nat} {w w':World} {x:Value} (h:aH B w w') (hB:B<N) (hb:N≤b) (hc:w.cell? ⟨b,i,none⟩=some x):w'.cell? ⟨b,i,none⟩=some x:=
 by
 have h1:b<w.heap.size:=BX w ⟨b,i,none⟩ hc;exact(h.cell h1 (by omega)).trans hc
theorem Sl.move {B N m:Nat} {w w':World} {v:Value} (h:Sl w N m v) (hb:aH B w w') (hB:B<N):Sl w' N m v:=by obtain⟨b,rfl,hN,hc⟩:=h;refine⟨b,rfl,hN,fun i hi=>?_⟩;obtain⟨x,hx⟩:=hc i hi;exact⟨x,hb.cellN hB hN hx⟩
theorem Ix.move {B N:Nat} {w w':World} {v:Value} (h:Ix w N v) (hb:aH B w w') (hB:B<N):Ix w' N v:=by obtain⟨b,i,x,rfl,hN,hc⟩:=h;exact⟨b,i,x,rfl,hN,hb.cellN hB hN hc⟩
theorem Al.move {B N:Nat} {w w':World} {v:Value} (h:Al w N v) (hb:aH B w w') (hB:B<N):Al w' N v:=by
 obtain⟨g,rfl,hN,hg,hc,hf⟩:=h;refine⟨g,rfl,hN,eH hg hb.size,fun i hi=>?_,fun i=>?_⟩
 ·obtain⟨x,hx⟩:=hc i hi;exact⟨x,hb.cellN hB hN hx⟩
 ·rw[←hf i];exact World.frozen?_of_block (hb.block g hg (by omega))
theorem FK.move {B N:Nat} {w w':World} {v:Value} {k:Nat} (h:FK B N w v k) (hb:aH B w w') (hB:B<N):FK B N w' v k:=by unfold FK at h⊢;split at h<;>first|exact h|exact Sl.move h hb hB|exact Ix.move h hb hB
theorem aO {ops:Array Oper} {l:Array Bool} {i:Nat} {o:Oper} (hi:i∈Region.ready .any ops l) (ho:ops[i]? =some o) (k:Nat) (hk:o.after.any (fun e=>Region.binds .any e&&e.on==k)=true):l.getD k false=true:=by obtain⟨_,o',ho',ha⟩:=mem_ready.1 hi;rw[ho]at ho';obtain rfl:=Option.some.inj ho';rw[Array.any_eq_true']at hk;obtain⟨e,he,hh⟩:=hk;simp only[Bool.and_eq_true,beq_iff_eq]at hh;rw[←hh.2];exact ha e he hh.1
def MI (B p:Nat) (n:Int) (w W:World) (N:Nat) (l:Array Bool) (a:Act) (u:World):Prop:=
 ∃(q:Nat) (vs:Nat→Value),a={tmps:=#[Value.pointer (some ⟨B,0,none⟩),Value.int IntKind.i64 n,undef,undef,Value.pointer (some ⟨w.heap.size,0,none⟩),vs 21,undef,vs 0,vs 1,vs 2,vs 3,vs 4,vs 5,vs 6,vs 7,vs 8,vs 9,vs 10,vs 11,vs 12,vs 13,vs 14,vs 15,vs 16,vs 17,vs 18,vs 19,vs 20,undef,undef,undef,undef,undef,undef,undef,undef,undef,undef,undef,undef,undef,undef,undef,undef,undef,undef,undef,undef,undef,undef,undef,undef,undef,undef],defers:=[]}∧iN u B q∧q+fB l≤p+23∧aH B W u∧N≤u.heap.size∧l.size=23∧
  (l.getD 22 false=true→∀k,k<22→l.getD k false=true)∧(∀k,l.getD k false=true→l.getD 22 false=false→FK B N u (vs k) k)∧(l.getD 21 false=true→Al u N (vs 21))
theorem MI.step {B p:Nat} {n:Int} {w W:World} {N:Nat} {l:Array Bool} {u u':World} {q':Nat} {vs:Nat→Value} {i:Nat} {v:Value} (hB:B<N) (hR:iN u' B q') (hq:q'+fB (l.setIfInBounds i true)≤p+23) (hW:aH B W u) (hN:N≤u.heap.size) (hl:l.size=23) (h22:l.getD 22 false=false) (hi:i≠22) (hf:∀k,l.getD k false=true→l.getD 22 false=false→FK B N u (vs k) k) (h21:l.getD 21 false=true→Al u N (vs 21)) (hm:aH B u u') (hv:FK B N u' v i) (hv':i=21→Al u' N v) (a:Act) (ha:a=(fun vs:Nat→Value=>({tmps:=#[Value.pointer (some ⟨B,0,none⟩),Value.int IntKind.i64 n,undef,undef,Value.pointer (some ⟨w.heap.size,0,none⟩),vs 21,undef,vs 0,vs 1,vs 2,vs 3,vs 4,vs 5,vs 6,vs 7,vs 8,vs 9,vs 10,vs 11,vs 12,vs 13,vs 14,vs 15,vs 16,vs 17,vs 18,vs 19,vs 20,undef,undef,undef,undef,undef,undef,undef,undef,undef,undef,undef,undef,undef,undef,undef,undef,undef,undef,undef,undef,undef,undef,undef,undef,undef,undef],defers:=[]}:Act)) (fun k=>if k=i then v else vs k)):MI B p n w W N (l.setIfInBounds i true) a u':=by
 refine⟨q',fun k=>if k=i then v else vs k,ha,hR,hq,hW.trans hm,iS hN hm.size,by simp[hl],?_,?_,?_⟩
 ·intro h;rw[getD_set_ne false hi,h22]at h;cases h
 ·intro k hk _;by_cases hki:k=i
  ·have hv2:FK B N u' v k:=by rw[hki];exact hv
   exact Eq.mpr (congrArg (fun z=>FK B N u' z k) (if_pos hki)) hv2
  ·rw[getD_set_ne false (fun e=>hki e.symm)]at hk;simp only[if_neg hki];exact(hf k hk h22).move hm hB
 ·intro hk;by_cases hki:21=i
  ·exact Eq.mpr (congrArg (fun z=>Al u' N z) (if_pos hki)) (hv' hki.symm)
  ·rw[getD_set_ne false (fun e=>hki e.symm)]at hk;simp only[if_neg hki];exact(h21 hk).move hm hB
theorem xE (u:World) (N:Nat) (t:TypeId) (x0 x1 x2 x3 x4:Int) (hN:N≤u.heap.size):Sl (u.alloc (.cells #[.int .i64 x0,.int .i64 x1,.int .i64 x2,.int .i64 x3,.int .i64 x4] t)) N 5 (.slice (some ⟨u.heap.size,0,none⟩) 5 5):=by
 refine⟨u.heap.size,rfl,hN,fun i hi=>?_⟩;rw[World.cell?_alloc_at _ _ _ _ rfl];have h5:i=0∨i=1∨i=2∨i=3∨i=4:=by omega
 rcases h5 with rfl|rfl|rfl|rfl|rfl<;>exact⟨_,rfl⟩
theorem xD (u:World) (N:Nat) (t:TypeId) (x0 x1 x2 x3:Int) (hN:N≤u.heap.size):Sl (u.alloc (.cells #[.int .i64 x0,.int .i64 x1,.int .i64 x2,.int .i64 x3] t)) N 4 (.slice (some ⟨u.heap.size,0,none⟩) 4 4):=by
 refine⟨u.heap.size,rfl,hN,fun i hi=>?_⟩;rw[World.cell?_alloc_at _ _ _ _ rfl];have h5:i=0∨i=1∨i=2∨i=3:=by omega
 rcases h5 with rfl|rfl|rfl|rfl<;>exact⟨_,rfl⟩
theorem QK (u:World) (N:Nat) (t:TypeId) (x0 x1 x2 x3:Int) (hN:N≤u.heap.size):Al (u.alloc (.cells #[.int .i64 x0,.int .i64 x1,.int .i64 x2,.int .i64 x3] t)) N (.pointer (some ⟨u.heap.size,0,none⟩)):=by
 refine⟨u.heap.size,rfl,hN,by simp,fun i hi=>?_,fun i=>by rw[World.frozen?_alloc_at _ _ _ _ rfl]⟩;rw[World.cell?_alloc_at _ _ _ _ rfl];have h5:i=0∨i=1∨i=2∨i=3:=by omega
 rcases h5 with rfl|rfl|rfl|rfl<;>exact⟨_,rfl⟩
theorem mG (n k:Nat):(Array.replicate n false).getD k false=false:=by rw[Array.getD_eq_getD_getElem?,Array.getElem?_replicate];split<;>rfl
theorem dL (B:Nat) (u:World) (o:Obj):aH B u (u.alloc o):=(aH.refl B u).alloc o
theorem aH.set {B b o:Nat} {a w:World} {v:Value} (h:aH B a w) (hb:a.heap.size≤b):aH B a (w.setCell ⟨b,o,none⟩ v):=
 ⟨h.os,h.tape,h.output,by simpa[World.setCell]using h.size,fun k hk hn=>(Below.heap_setCell _ _ _ _ (by show k≠b;omega)).trans (h.block k hk hn)⟩
theorem dA {w:World} {b o b' o':Nat} {v:Value} (h:b'≠b):(w.setCell ⟨b,o,none⟩ v).cell? ⟨b',o',none⟩=w.cell? ⟨b',o',none⟩:=
 lM (w:=w) (Below.heap_setCell _ _ _ _ h)
theorem eX {w:World} {b o b' o':Nat} {v:Value} (h:b'≠b):(w.setCell ⟨b,o,none⟩ v).frozen? ⟨b',o',none⟩=w.frozen? ⟨b',o',none⟩:=
 World.frozen?_of_block (w:=w) (Below.heap_setCell _ _ _ _ h)
theorem iN.set {w:World} {B p b o:Nat} {v:Value} (h:iN w B p) (hb:B<b):iN (w.setCell ⟨b,o,none⟩ v) B p:=by
 obtain⟨hc1,hf,a,len,cap,hc0,hl,h0⟩:=h;refine⟨by rw[dA (by omega)];exact hc1,by rw[eX (by omega)];exact hf,a,len,cap,by rw[dA (by omega)];exact hc0,hl,?_⟩;rcases h0 with h0|⟨bb,off,z,rfl,hbb,hz,z0,z1⟩
 ·exact .inl h0
 ·exact .inr ⟨bb,off,z,rfl,hbb,fun i hi=>by rw[dA (by omega)];exact hz i hi,z0,z1⟩
theorem jT {l:Array Bool} {i:Nat} (d:Bool) (h:i<l.size):(l.setIfInBounds i true).getD i d=true:=by rw[Array.getD_eq_getD_getElem?,Array.getElem?_setIfInBounds_self_of_lt h];rfl
theorem TV (a b c d u:Int) (u0:0≤u) (u1:u<4):∃x,#[Value.int .i64 a,.int .i64 b,.int .i64 c,.int .i64 d][u.toNat]? =some (.int .i64 x):=by
 have hu:u=0∨u=1∨u=2∨u=3:=by omega
 rcases hu with rfl|rfl|rfl|rfl<;>exact⟨_,rfl⟩
def xV (w:World) (g:Nat):Prop:=(∃x0 x1 x2 x3,w.cell? ⟨g,0,none⟩=some (.int .i64 x0)∧w.cell? ⟨g,1,none⟩=some (.int .i64 x1)∧w.cell? ⟨g,2,none⟩=some (.int .i64 x2)∧w.cell? ⟨g,3,none⟩=some (.int .i64 x3))∧w.frozen? ⟨g,0,none⟩=false∧w.frozen? ⟨g,1,none⟩=false∧w.frozen? ⟨g,2,none⟩=false∧w.frozen? ⟨g,3,none⟩=false
theorem xV.move {B g:Nat} {w w':World} (h:xV w g) (hb:aH B w w') (hn:g≠B):xV w' g:=by
 obtain⟨⟨x0,x1,x2,x3,c0,c1,c2,c3⟩,f0,f1,f2,f3⟩:=h;have hg:g<w.heap.size:=BX w ⟨g,0,none⟩ c0
 have he:=hb.block g hg hn;have fz:∀o,w'.frozen? ⟨g,o,none⟩=w.frozen? ⟨g,o,none⟩:=fun o=>World.frozen?_of_block he
 exact⟨⟨x0,x1,x2,x3,(hb.cell hg hn).trans c0,(hb.cell hg hn).trans c1,(hb.cell hg hn).trans c2,(hb.cell hg hn).trans c3⟩,(fz 0).trans f0,(fz 1).trans f1,(fz 2).trans f2,(fz 3).trans f3⟩
theorem ED {N:Nat} {w:World} {v:Value} (h:Al w N v):∃g,v= .pointer (some ⟨g,0,none⟩)∧N≤g∧xV w g:=by obtain⟨g,rfl,hN,hg,hc,hf⟩:=h;obtain⟨x0,c0⟩:=hc 0 (by omega);obtain⟨x1,c1⟩:=hc 1 (by omega);obtain⟨x2,c2⟩:=hc 2 (by omega);obtain⟨x3,c3⟩:=hc 3 (by omega);exact⟨g,rfl,hN,⟨x0,x1,x2,x3,c0,c1,c2,c3⟩,hf 0,hf 1,hf 2,hf 3⟩
theorem qY (w:World) (B p:Nat) (n:Int) (h:iN w B p) (hn:1≤n) (hn':n≤100000) (hp:p≤90000):Calls Tryz.prog 89 #[.pointer (some ⟨B,0,none⟩),.int .i64 n] w fun e w'=>∃x y d z q,e= .returned (.agg #[.int .i64 x,.int .i64 y,.int .i64 d,.int .i64 z])∧q≤p+30∧iN w' B q∧aH B w w':=by
 have hB0:=h.lt;go_enter Tryz.func89,Tryz.ntmps89;go_wp2_with fail;have hR0:=h.alloc (.cells #[.int .i64 0,.int .i64 0,.int .i64 0,.int .i64 0] 77)
 have hsz0:(w.alloc (.cells #[.int .i64 0,.int .i64 0,.int .i64 0,.int .i64 0] 77)).heap.size=w.heap.size+1:=by simp
 generalize hW:(w.alloc (.cells #[.int .i64 0,.int .i64 0,.int .i64 0,.int .i64 0] 77))=W at hR0 hsz0⊢;have hBN:B<w.heap.size+1:=by omega
 refine Code.wp_mono (Q:=fun e a u=>e=Exit.normal∧∃(q:Nat) (vs:Nat→Value),a={tmps:=#[Value.pointer (some ⟨B,0,none⟩),Value.int IntKind.i64 n,undef,undef,Value.pointer (some ⟨w.heap.size,0,none⟩),vs 21,undef,vs 0,vs 1,vs 2,vs 3,vs 4,vs 5,vs 6,vs 7,vs 8,vs 9,vs 10,vs 11,vs 12,vs 13,vs 14,vs 15,vs 16,vs 17,vs 18,vs 19,vs 20,undef,undef,undef,undef,undef,undef,undef,undef,undef,undef,undef,undef,undef,undef,undef,undef,undef,undef,undef,undef,undef,undef,undef,undef,undef,undef],defers:=[]}∧iN u B q∧q≤p+23∧aH B W u∧Al u (w.heap.size+1) (vs 21)) ?_ ?_;rotate_left
 ·refine nH (I:=MI B p n w W (w.heap.size+1)) (by kernel_rfl) ?_ ?_ ?_
  ·refine⟨p,fun _=>undef,rfl,hR0.drewN 1,?_,(aH.refl B W).drewN 1,by simp[hsz0],by simp,?_,?_,?_⟩
   ·rw[eG];exact Nat.le_refl _
   ·intro h;rw[mG]at h;cases h
   ·intro k h;rw[mG]at h;cases h
   ·intro h;rw[mG]at h;cases h
  ·intro l a u hI i hi;obtain⟨q,vs,rfl,hR,hq,hBs,hN,hsz,hc,hf,h21⟩:=hI;have hl0:=(mem_ready.1 hi).1
   have hund:=fC (bG hl0);have hi23:i<23:=by obtain⟨_,o,ho,_⟩:=mem_ready.1 hi;exact(Array.getElem?_eq_some_iff.1 ho).1
   have h22:i≠22→l.getD 22 false=false:=fun hne=>by
    cases hx:l.getD 22 false
    ·rfl
    ·have:=hc hx i (by omega);rw[Array.getD_eq_getD_getElem?,bG hl0]at this;simp at this
   rcases(show i=0∨i=1∨i=2∨i=3∨i=4∨i=5∨i=6∨i=7∨i=8∨i=9∨i=10∨i=11∨i=12∨i=13∨i=14∨i=15∨i=16∨i=17∨i=18∨i=19∨i=20∨i=21∨i=22 from by omega)with rfl|rfl|rfl|rfl|rfl|rfl|rfl|rfl|rfl|rfl|rfl|rfl|rfl|rfl|rfl|rfl|rfl|rfl|rfl|rfl|rfl|rfl|rfl
   ·have h22:=h22 (by decide);refine wpOp_step rfl (fun K hK=>?_);go_simp;refine hK _ _ ?_;exact MI.step (i:=0) (v:=.slice (some ⟨u.heap.size,0,none⟩) 5 5) hBN (hR.alloc _) (by omega) hBs hN hsz h22 (by decide) hf h21 (dL B u _) (xE u _ _ _ _ _ _ _ hN) (fun e=>by cases e) _ rfl
   ·have h22:=h22 (by decide);refine wpOp_step rfl (fun K hK=>?_);go_simp;refine hK _ _ ?_;exact MI.step (i:=1) (v:=.pointer (some ⟨B,0,none⟩)) hBN hR (by omega) hBs hN hsz h22 (by decide) hf h21 (aH.refl B u) rfl (fun e=>by cases e) _ rfl
   ·have h22:=h22 (by decide);have e1:vs 1= .pointer (some ⟨B,0,none⟩):=hf 1 (aO hi rfl 1 (by kernel_rfl)) h22
    refine wpOp_step rfl (fun K hK=>?_);go_simp;refine(aI u B q 5 hR (by omega) (by omega) (by omega)).mono ?_;rintro e u' ⟨x,rfl,x0,x1,hk⟩;refine hK _ _ ?_;exact MI.step (i:=2) (v:=.int .i64 x) hBN (hk.rdr hR) (by omega) hBs hN hsz h22 (by decide) hf h21 hk.beside ⟨x.toNat,by omega,by rw[Int.toNat_of_nonneg x0]⟩ (fun e=>by cases e) _ (by first|(rw[←e1];done)|(rw[←e1];rfl))
   ·have h22:=h22 (by decide);obtain⟨b,e1,hb,hcb⟩:Sl u (w.heap.size+1) 5 (vs 0):=hf 0 (aO hi rfl 0 (by kernel_rfl)) h22;obtain⟨j,hj,e2⟩:Pk 5 (vs 2):=hf 2 (aO hi rfl 2 (by kernel_rfl)) h22;obtain⟨x,hx⟩:=hcb j hj;have hji:(j:Int)<5:=by omega
    clear hcb;refine wpOp_step rfl (fun K hK=>?_);go_simp;refine hK _ _ ?_;exact MI.step (i:=3) (v:=.pointer (some ⟨b,j,none⟩)) hBN hR (by omega) hBs hN hsz h22 (by decide) hf h21 (aH.refl B u) ⟨b,j,x,rfl,hb,hx⟩ (fun e=>by cases e) _ (by first|(rw[←e1,←e2];done)|(rw[←e1,←e2];rfl))
   ·have h22:=h22 (by decide);obtain⟨b,j,x,e1,hb,hx⟩:Ix u (w.heap.size+1) (vs 3):=hf 3 (aO hi rfl 3 (by kernel_rfl)) h22;refine wpOp_step rfl (fun K hK=>?_);go_simp;refine hK _ _ ?_;exact MI.step (i:=4) (v:=.int .i64 x) hBN hR (by omega) hBs hN hsz h22 (by decide) hf h21 (aH.refl B u) ⟨x,rfl⟩ (fun e=>by cases e) _ (by first|(rw[←e1];done)|(rw[←e1];rfl))
   ·have h22:=h22 (by decide);refine wpOp_step rfl (fun K hK=>?_);go_simp;refine hK _ _ ?_;exact MI.step (i:=5) (v:=.slice (some ⟨u.heap.size,0,none⟩) 5 5) hBN (hR.alloc _) (by omega) hBs hN hsz h22 (by decide) hf h21 (dL B u _) (xE u _ _ _ _ _ _ _ hN) (fun e=>by cases e) _ rfl
   ·have h22:=h22 (by decide);refine wpOp_step rfl (fun K hK=>?_);go_simp;refine hK _ _ ?_;exact MI.step (i:=6) (v:=.pointer (some ⟨B,0,none⟩)) hBN hR (by omega) hBs hN hsz h22 (by decide) hf h21 (aH.refl B u) rfl (fun e=>by cases e) _ rfl
   ·have h22:=h22 (by decide);have e1:vs 6= .pointer (some ⟨B,0,none⟩):=hf 6 (aO hi rfl 6 (by kernel_rfl)) h22
    refine wpOp_step rfl (fun K hK=>?_);go_simp;refine(aI u B q 5 hR (by omega) (by omega) (by omega)).mono ?_;rintro e u' ⟨x,rfl,x0,x1,hk⟩;refine hK _ _ ?_;exact MI.step (i:=7) (v:=.int .i64 x) hBN (hk.rdr hR) (by omega) hBs hN hsz h22 (by decide) hf h21 hk.beside ⟨x.toNat,by omega,by rw[Int.toNat_of_nonneg x0]⟩ (fun e=>by cases e) _ (by first|(rw[←e1];done)|(rw[←e1];rfl))
   ·have h22:=h22 (by decide);obtain⟨b,e1,hb,hcb⟩:Sl u (w.heap.size+1) 5 (vs 5):=hf 5 (aO hi rfl 5 (by kernel_rfl)) h22;obtain⟨j,hj,e2⟩:Pk 5 (vs 7):=hf 7 (aO hi rfl 7 (by kernel_rfl)) h22;obtain⟨x,hx⟩:=hcb j hj;have hji:(j:Int)<5:=by omega
    clear hcb;refine wpOp_step rfl (fun K hK=>?_);go_simp;refine hK _ _ ?_;exact MI.step (i:=8) (v:=.pointer (some ⟨b,j,none⟩)) hBN hR (by omega) hBs hN hsz h22 (by decide) hf h21 (aH.refl B u) ⟨b,j,x,rfl,hb,hx⟩ (fun e=>by cases e) _ (by first|(rw[←e1,←e2];done)|(rw[←e1,←e2];rfl))
   ·have h22:=h22 (by decide);obtain⟨b,j,x,e1,hb,hx⟩:Ix u (w.heap.size+1) (vs 8):=hf 8 (aO hi rfl 8 (by kernel_rfl)) h22;refine wpOp_step rfl (fun K hK=>?_);go_simp;refine hK _ _ ?_;exact MI.step (i:=9) (v:=.int .i64 x) hBN hR (by omega) hBs hN hsz h22 (by decide) hf h21 (aH.refl B u) ⟨x,rfl⟩ (fun e=>by cases e) _ (by first|(rw[←e1];done)|(rw[←e1];rfl))
   ·have h22:=h22 (by decide);refine wpOp_step rfl (fun K hK=>?_);go_simp;refine hK _ _ ?_;exact MI.step (i:=10) (v:=.slice (some ⟨u.heap.size,0,none⟩) 5 5) hBN (hR.alloc _) (by omega) hBs hN hsz h22 (by decide) hf h21 (dL B u _) (xE u _ _ _ _ _ _ _ hN) (fun e=>by cases e) _ rfl
   ·have h22:=h22 (by decide);refine wpOp_step rfl (fun K hK=>?_);go_simp;refine hK _ _ ?_;exact MI.step (i:=11) (v:=.pointer (some ⟨B,0,none⟩)) hBN hR (by omega) hBs hN hsz h22 (by decide) hf h21 (aH.refl B u) rfl (fun e=>by cases e) _ rfl
   ·have h22:=h22 (by decide);have e1:vs 11= .pointer (some ⟨B,0,none⟩):=hf 11 (aO hi rfl 11 (by kernel_rfl)) h22
    refine wpOp_step rfl (fun K hK=>?_);go_simp;refine(aI u B q 5 hR (by omega) (by omega) (by omega)).mono ?_;rintro e u' ⟨x,rfl,x0,x1,hk⟩;refine hK _ _ ?_;exact MI.step (i:=12) (v:=.int .i64 x) hBN (hk.rdr hR) (by omega) hBs hN hsz h22 (by decide) hf h21 hk.beside ⟨x.toNat,by omega,by rw[Int.toNat_of_nonneg x0]⟩ (fun e=>by cases e) _ (by first|(rw[←e1];done)|(rw[←e1];rfl))
   ·have h22:=h22 (by decide);obtain⟨b,e1,hb,hcb⟩:Sl u (w.heap.size+1) 5 (vs 10):=hf 10 (aO hi rfl 10 (by kernel_rfl)) h22;obtain⟨j,hj,e2⟩:Pk 5 (vs 12):=hf 12 (aO hi rfl 12 (by kernel_rfl)) h22;obtain⟨x,hx⟩:=hcb j hj;have hji:(j:Int)<5:=by omega
    clear hcb;refine wpOp_step rfl (fun K hK=>?_);go_simp;refine hK _ _ ?_;exact MI.step (i:=13) (v:=.pointer (some ⟨b,j,none⟩)) hBN hR (by omega) hBs hN hsz h22 (by decide) hf h21 (aH.refl B u) ⟨b,j,x,rfl,hb,hx⟩ (fun e=>by cases e) _ (by first|(rw[←e1,←e2];done)|(rw[←e1,←e2];rfl))
   ·have h22:=h22 (by decide);obtain⟨b,j,x,e1,hb,hx⟩:Ix u (w.heap.size+1) (vs 13):=hf 13 (aO hi rfl 13 (by kernel_rfl)) h22;refine wpOp_step rfl (fun K hK=>?_);go_simp;refine hK _ _ ?_;exact MI.step (i:=14) (v:=.int .i64 x) hBN hR (by omega) hBs hN hsz h22 (by decide) hf h21 (aH.refl B u) ⟨x,rfl⟩ (fun e=>by cases e) _ (by first|(rw[←e1];done)|(rw[←e1];rfl))
   ·have h22:=h22 (by decide);refine wpOp_step rfl (fun K hK=>?_);go_simp;refine hK _ _ ?_;exact MI.step (i:=15) (v:=.slice (some ⟨u.heap.size,0,none⟩) 4 4) hBN (hR.alloc _) (by omega) hBs hN hsz h22 (by decide) hf h21 (dL B u _) (xD u _ _ _ _ _ _ hN) (fun e=>by cases e) _ rfl
   ·have h22:=h22 (by decide);refine wpOp_step rfl (fun K hK=>?_);go_simp;refine hK _ _ ?_;exact MI.step (i:=16) (v:=.pointer (some ⟨B,0,none⟩)) hBN hR (by omega) hBs hN hsz h22 (by decide) hf h21 (aH.refl B u) rfl (fun e=>by cases e) _ rfl
   ·have h22:=h22 (by decide);have e1:vs 16= .pointer (some ⟨B,0,none⟩):=hf 16 (aO hi rfl 16 (by kernel_rfl)) h22
    refine wpOp_step rfl (fun K hK=>?_);go_simp;refine(aI u B q 4 hR (by omega) (by omega) (by omega)).mono ?_;rintro e u' ⟨x,rfl,x0,x1,hk⟩;refine hK _ _ ?_;exact MI.step (i:=17) (v:=.int .i64 x) hBN (hk.rdr hR) (by omega) hBs hN hsz h22 (by decide) hf h21 hk.beside ⟨x.toNat,by omega,by rw[Int.toNat_of_nonneg x0]⟩ (fun e=>by cases e) _ (by first|(rw[←e1];done)|(rw[←e1];rfl))
   ·have h22:=h22 (by decide);obtain⟨b,e1,hb,hcb⟩:Sl u (w.heap.size+1) 4 (vs 15):=hf 15 (aO hi rfl 15 (by kernel_rfl)) h22;obtain⟨j,hj,e2⟩:Pk 4 (vs 17):=hf 17 (aO hi rfl 17 (by kernel_rfl)) h22;obtain⟨x,hx⟩:=hcb j hj;have hji:(j:Int)<4:=by omega
    clear hcb;refine wpOp_step rfl (fun K hK=>?_);go_simp;refine hK _ _ ?_;exact MI.step (i:=18) (v:=.pointer (some ⟨b,j,none⟩)) hBN hR (by omega) hBs hN hsz h22 (by decide) hf h21 (aH.refl B u) ⟨b,j,x,rfl,hb,hx⟩ (fun e=>by cases e) _ (by first|(rw[←e1,←e2];done)|(rw[←e1,←e2];rfl))
   ·have h22:=h22 (by decide);obtain⟨b,j,x,e1,hb,hx⟩:Ix u (w.heap.size+1) (vs 18):=hf 18 (aO hi rfl 18 (by kernel_rfl)) h22;refine wpOp_step rfl (fun K hK=>?_);go_simp;refine hK _ _ ?_;exact MI.step (i:=19) (v:=.int .i64 x) hBN hR (by omega) hBs hN hsz h22 (by decide) hf h21 (aH.refl B u) ⟨x,rfl⟩ (fun e=>by cases e) _ (by first|(rw[←e1];done)|(rw[←e1];rfl))
   ·have h22:=h22 (by decide);obtain⟨x0,e0⟩:Ld (vs 4):=hf 4 (aO hi rfl 4 (by kernel_rfl)) h22;obtain⟨x1,e1⟩:Ld (vs 9):=hf 9 (aO hi rfl 9 (by kernel_rfl)) h22;obtain⟨x2,e2⟩:Ld (vs 14):=hf 14 (aO hi rfl 14 (by kernel_rfl)) h22;obtain⟨x3,e3⟩:Ld (vs 19):=hf 19 (aO hi rfl 19 (by kernel_rfl)) h22;refine wpOp_step rfl (fun K hK=>?_);go_simp;refine hK _ _ ?_;exact MI.step (i:=20) (v:=.agg #[.int .i64 x0,.int .i64 x1,.int .i64 x2,.int .i64 x3]) hBN hR (by omega) hBs hN hsz h22 (by decide) hf h21 (aH.refl B u) ⟨x0,x1,x2,x3,rfl⟩ (fun e=>by cases e) _ (by first|(rw[←e0,←e1,←e2,←e3];done)|(rw[←e0,←e1,←e2,←e3];rfl))
   ·have h22:=h22 (by decide);refine wpOp_step rfl (fun K hK=>?_);go_simp;refine hK _ _ ?_;exact MI.step (i:=21) (v:=.pointer (some ⟨u.heap.size,0,none⟩)) hBN (hR.alloc _) (by omega) hBs hN hsz h22 (by decide) hf h21 (dL B u _) trivial (fun _=>QK u _ _ _ _ _ _ hN) _ rfl
   ·have h22f:l.getD 22 false=false:=by rw[Array.getD_eq_getD_getElem?,bG hl0];rfl
    have hall:∀k,k<22→l.getD k false=true:=fun k hk=>by
     have h5:k=0∨k=1∨k=2∨k=3∨k=4∨k=5∨k=6∨k=7∨k=8∨k=9∨k=10∨k=11∨k=12∨k=13∨k=14∨k=15∨k=16∨k=17∨k=18∨k=19∨k=20∨k=21:=by omega
     rcases h5 with rfl|rfl|rfl|rfl|rfl|rfl|rfl|rfl|rfl|rfl|rfl|rfl|rfl|rfl|rfl|rfl|rfl|rfl|rfl|rfl|rfl|rfl<;>exact aO hi rfl _ (by kernel_rfl)
    obtain⟨x0,x1,x2,x3,e20⟩:Ag (vs 20):=hf 20 (hall 20 (by omega)) h22f;obtain⟨g,e21,hgN,hgs,hgc,hgf⟩:Al u (w.heap.size+1) (vs 21):=h21 (hall 21 (by omega));obtain⟨y0,c0⟩:=hgc 0 (by omega);obtain⟨y1,c1⟩:=hgc 1 (by omega);obtain⟨y2,c2⟩:=hgc 2 (by omega);obtain⟨y3,c3⟩:=hgc 3 (by omega);have f0:=hgf 0
    have f1:=hgf 1;have f2:=hgf 2
    have f3:=hgf 3;refine wpOp_step rfl (fun K hK=>?_);have hAl:Al ((((u.setCell ⟨g,0,none⟩ (.int .i64 x0)).setCell ⟨g,1,none⟩ (.int .i64 x1)).setCell ⟨g,2,none⟩ (.int .i64 x2)).setCell ⟨g,3,none⟩ (.int .i64 x3)) (w.heap.size+1) (vs 21):=by
     refine⟨g,e21,hgN,by simpa[World.setCell]using hgs,fun i hi=>?_,fun i=>?_⟩
     ·have h5:i=0∨i=1∨i=2∨i=3:=by omega
      rcases h5 with rfl|rfl|rfl|rfl
      ·exact⟨x0,by go_simp⟩
      ·exact⟨x1,by go_simp⟩
      ·exact⟨x2,by go_simp⟩
      ·exact⟨x3,by go_simp⟩
     ·simp only[World.frozen?_setCell];exact hgf i
    have hRn:=(((hR.set (b:=g) (o:=0) (v:=.int .i64 x0) (by omega)).set (b:=g) (o:=1) (v:=.int .i64 x1) (by omega)).set (b:=g) (o:=2) (v:=.int .i64 x2) (by omega)).set (b:=g) (o:=3) (v:=.int .i64 x3) (by omega);have hBn:=(((hBs.set (b:=g) (o:=0) (v:=.int .i64 x0) (by omega)).set (b:=g) (o:=1) (v:=.int .i64 x1) (by omega)).set (b:=g) (o:=2) (v:=.int .i64 x2) (by omega)).set (b:=g) (o:=3) (v:=.int .i64 x3) (by omega)
    clear hgc hgf hf h21;go_simp;refine hK _ _ ?_;refine⟨q,vs,by rw[e20,e21],hRn,by omega,hBn,by simpa[World.setCell]using hN,by simp[hsz],fun _ k hk=>?_,fun k _ hk=>?_,fun _=>hAl⟩
    ·rw[getD_set_ne false (by omega)];exact hall k hk
    ·rw[jT false (by omega)]at hk;cases hk
  ·intro l a u hI hr;obtain⟨q,vs,rfl,hR,hq,hBs,hN,hsz,hc,hf,h21⟩:=hI;refine⟨rfl,q,vs,rfl,hR,by omega,hBs,h21 ?_⟩;cases hx:l.getD 21 false
   ·exfalso;rw[List.eq_nil_iff_forall_not_mem]at hr;refine hr 21 (mem_ready.2 ⟨?_,_,rfl,?_⟩)
    ·rw[Array.getD_eq_getD_getElem?]at hx⊢;rw[Array.getElem?_eq_getElem (by omega)]at hx⊢;simpa using hx
    ·intro e he;have he2:e∈([]:List _):=Array.mem_def.1 he
     cases he2
   ·rfl
 ·rintro e a u ⟨rfl,q,vs,rfl,hR,hq,hBs,hal⟩;obtain⟨g,e21,hgN,hg4⟩:=ED hal;rw[e21];have hw4:xV W w.heap.size:=by rw[←hW];exact⟨⟨0,0,0,0,by rw[World.cell?_alloc_at _ _ _ _ rfl];rfl,by rw[World.cell?_alloc_at _ _ _ _ rfl];rfl,by rw[World.cell?_alloc_at _ _ _ _ rfl];rfl,by rw[World.cell?_alloc_at _ _ _ _ rfl];rfl⟩,by rw[World.frozen?_alloc_at _ _ _ _ rfl],by rw[World.frozen?_alloc_at _ _ _ _ rfl],by rw[World.frozen?_alloc_at _ _ _ _ rfl],by rw[World.frozen?_alloc_at _ _ _ _ rfl]⟩
  have hbw:aH B w W:=by rw[←hW];exact dL B w _
  have hrb:xV u w.heap.size:=hw4.move hBs (by omega);have hbs:aH B w u:=hbw.trans hBs
  clear hW hR0 hsz0 hal hw4 hbw hBs e21 h;go_wp2_with fail;refine(aI u B q n hR hn hn' (by omega)).mono ?_;rintro e w2 ⟨x,rfl,x0,x1,hk⟩;have hR2:=hk.rdr hR
  have hbs2:=hbs.trans hk.beside;have hg42:=hg4.move hk.beside (by omega)
  have hrb2:=hrb.move hk.beside (by omega);clear hk hR hbs hg4 hrb;by_cases hx:x=0
  ·subst hx;go_wp2_with fail;refine(aI _ B _ 4 (hR2.alloc _) (by omega) (by omega) (by omega)).mono ?_;rintro e w3 ⟨j,rfl,j0,j1,hk⟩;have hR3:=hk.rdr (hR2.alloc _)
   have hbs3:=(hbs2.alloc _).trans hk.beside;have hg43:=(hg42.move (dL B w2 _) (by omega)).move hk.beside (by omega)
   have hrb3:=(hrb2.move (dL B w2 _) (by omega)).move hk.beside (by omega);obtain⟨y,hy⟩:=TV (-1) 16 15 9223372036854775807 j j0 j1;have hl2:=hR2.lt
   have hc3:w3.cell? ⟨w2.heap.size,j.toNat,none⟩=some (.int .i64 y):=by rw[hk.beside.cell (by simp) (by omega),World.cell?_alloc_at _ _ _ _ rfl];exact hy
   clear hk hR2 hbs2 hg42 hrb2 hy;go_wp2_with fail;refine(aI w3 B _ 4 hR3 (by omega) (by omega) (by omega)).mono ?_;rintro e w4 ⟨m,rfl,m0,m1,hk⟩;have hR4:=hk.rdr hR3
   have hbs4:=hbs3.trans hk.beside;obtain⟨⟨a0,a1,a2,a3,c0,c1,c2,c3⟩,f0,f1,f2,f3⟩:=hg43.move hk.beside (by omega);obtain⟨⟨b0,b1,b2,b3,d0,d1,d2,d3⟩,t0,t1,t2,t3⟩:=hrb3.move hk.beside (by omega);clear hk hR3 hbs3 hg43 hrb3 hc3;have hgw:¬g=w.heap.size:=by omega
   have hwg:¬w.heap.size=g:=by omega
   have hm:m=0∨m=1∨m=2∨m=3:=by omega
   rcases hm with rfl|rfl|rfl|rfl
   ·go_wp2;try simp only[Exit.inBlock,Exit.then]
    refine aY (v:=.agg #[.int .i64 y,.int .i64 a1,.int .i64 a2,.int .i64 a3]) (by simp[results,Tryz.results89,go_sem, *]) rfl ?_;exact⟨_,_,_,_,_,rfl,by omega,((((hR4.set (by omega)).set (by omega)).set (by omega)).set (by omega)).set (by omega),((((hbs4.set (by omega)).set (by omega)).set (by omega)).set (by omega)).set (by omega)⟩
   ·go_wp2;try simp only[Exit.inBlock,Exit.then]
    refine aY (v:=.agg #[.int .i64 a0,.int .i64 y,.int .i64 a2,.int .i64 a3]) (by simp[results,Tryz.results89,go_sem, *]) rfl ?_;exact⟨_,_,_,_,_,rfl,by omega,((((hR4.set (by omega)).set (by omega)).set (by omega)).set (by omega)).set (by omega),((((hbs4.set (by omega)).set (by omega)).set (by omega)).set (by omega)).set (by omega)⟩
   ·go_wp2;try simp only[Exit.inBlock,Exit.then]
    refine aY (v:=.agg #[.int .i64 a0,.int .i64 a1,.int .i64 y,.int .i64 a3]) (by simp[results,Tryz.results89,go_sem, *]) rfl ?_;exact⟨_,_,_,_,_,rfl,by omega,((((hR4.set (by omega)).set (by omega)).set (by omega)).set (by omega)).set (by omega),((((hbs4.set (by omega)).set (by omega)).set (by omega)).set (by omega)).set (by omega)⟩
   ·go_wp2;try simp only[Exit.inBlock,Exit.then]
    refine aY (v:=.agg #[.int .i64 a0,.int .i64 a1,.int .i64 a2,.int .i64 y]) (by simp[results,Tryz.results89,go_sem, *]) rfl ?_;exact⟨_,_,_,_,_,rfl,by omega,((((hR4.set (by omega)).set (by omega)).set (by omega)).set (by omega)).set (by omega),((((hbs4.set (by omega)).set (by omega)).set (by omega)).set (by omega)).set (by omega)⟩
  ·have hxb:(x==0)=false:=by simp[hx]
   obtain⟨⟨a0,a1,a2,a3,c0,c1,c2,c3⟩,f0,f1,f2,f3⟩:=hg42;obtain⟨⟨b0,b1,b2,b3,d0,d1,d2,d3⟩,t0,t1,t2,t3⟩:=hrb2;go_wp2;try simp only[Exit.inBlock,Exit.then]
   refine aY (v:=.agg #[.int .i64 a0,.int .i64 a1,.int .i64 a2,.int .i64 a3]) (by simp[results,Tryz.results89,go_sem, *]) rfl ?_;exact⟨_,_,_,_,_,rfl,by omega,(((hR2.set (by omega)).set (by omega)).set (by omega)).set (by omega),(((hbs2.set (by omega)).set (by omega)).set (by omega)).set (by omega)⟩
theorem xV.below {n g:Nat} {w w':World} (h:xV w g) (hb:Below n w w') (hg:g<n):xV w' g:=by
 obtain⟨⟨x0,x1,x2,x3,c0,c1,c2,c3⟩,f0,f1,f2,f3⟩:=h;have he:=hb.block g hg
 have fz:∀o,w'.frozen? ⟨g,o,none⟩=w.frozen? ⟨g,o,none⟩:=fun o=>World.frozen?_of_block he;have cz:∀o,w'.cell? ⟨g,o,none⟩=w.cell? ⟨g,o,none⟩:=fun o=>lM he
 exact⟨⟨x0,x1,x2,x3,(cz 0).trans c0,(cz 1).trans c1,(cz 2).trans c2,(cz 3).trans c3⟩,(fz 0).trans f0,(fz 1).trans f1,(fz 2).trans f2,(fz 3).trans f3⟩
theorem xV.far {g b o:Nat} {w:World} {v:Value} (h:xV w g) (hn:g≠b):xV (w.setCell ⟨b,o,none⟩ v) g:=by obtain⟨⟨x0,x1,x2,x3,c0,c1,c2,c3⟩,f0,f1,f2,f3⟩:=h;exact⟨⟨x0,x1,x2,x3,(dA hn).trans c0,(dA hn).trans c1,(dA hn).trans c2,(dA hn).trans c3⟩,(eX hn).trans f0,(eX hn).trans f1,(eX hn).trans f2,(eX hn).trans f3⟩
theorem aH.drew {B:Nat} {a w:World} (h:aH B a w):aH B a w.drew:=h.drewN 1
inductive SK where
 |sl (m:Nat)|rd|pk (m:Nat)|ix|ld|ag|no
def KP (B N:Nat) (w:World) (v:Value):SK→Prop
 | .sl m=>Sl w N m v
 | .rd=>v= .pointer (some ⟨B,0,none⟩)
 | .pk m=>Pk m v
 | .ix=>Ix w N v
 | .ld=>Ld v
 | .ag=>Ag v
 | .no=>True
theorem KP.move {B N:Nat} {w w':World} {v:Value} {k:SK} (h:KP B N w v k) (hb:aH B w w') (hB:B<N):KP B N w' v k:=by
 cases k with
 |sl m=>exact Sl.move h hb hB
 |ix=>exact Ix.move h hb hB
 |_=>exact h
theorem KP.set {B N g o:Nat} {w:World} {v x:Value} {k:SK} (h:KP B N w v k) (hg:g<N):KP B N (w.setCell ⟨g,o,none⟩ x) v k:=by
 cases k with
 |sl m=>
  obtain⟨b,rfl,hN,hc⟩:=h;exact⟨b,rfl,hN,fun i hi=>by obtain⟨y,hy⟩:=hc i hi;exact⟨y,(dA (by omega)).trans hy⟩⟩
 |ix=>
  obtain⟨b,i,y,rfl,hN,hc⟩:=h;exact⟨b,i,y,rfl,hN,(dA (by omega)).trans hc⟩
 |_=>exact h
theorem xV.set {w:World} {g o:Nat} {v:Int} (h:xV w g) (ho:o=0∨o=1∨o=2∨o=3):xV (w.setCell ⟨g,o,none⟩ (.int .i64 v)) g:=by
 obtain⟨⟨x0,x1,x2,x3,c0,c1,c2,c3⟩,f0,f1,f2,f3⟩:=h;refine⟨?_,by rw[World.frozen?_setCell];exact f0,by rw[World.frozen?_setCell];exact f1,by rw[World.frozen?_setCell];exact f2,by rw[World.frozen?_setCell];exact f3⟩;rcases ho with rfl|rfl|rfl|rfl
 ·exact⟨v,x1,x2,x3,by go_simp,by go_simp,by go_simp,by go_simp⟩
 ·exact⟨x0,v,x2,x3,by go_simp,by go_simp,by go_simp,by go_simp⟩
 ·exact⟨x0,x1,v,x3,by go_simp,by go_simp,by go_simp,by go_simp⟩
 ·exact⟨x0,x1,x2,v,by go_simp,by go_simp,by go_simp,by go_simp⟩
def iL (ops:Array Oper) (l:Array Bool):Prop:=∀i o,ops[i]? =some o→l.getD i false=true→∀e∈o.after,Region.binds .any e=true→l.getD e.on false=true
theorem iL.start (ops:Array Oper) (n:Nat):iL ops (Array.replicate n false):=fun i o _ h=>by rw[mG]at h;cases h
theorem iL.step {ops:Array Oper} {l:Array Bool} {i:Nat} (h:iL ops l) (hi:i∈Region.ready .any ops l) (hl:l.size=ops.size):iL ops (l.setIfInBounds i true):=by
 intro j o ho hj e he hb;obtain⟨_,o',ho',ha⟩:=mem_ready.1 hi;have hil:i<l.size:=by rw[hl];exact(Array.getElem?_eq_some_iff.1 ho').1
 have hd:l.getD e.on false=true:=by
  by_cases hji:j=i
  ·subst hji;rw[ho]at ho';obtain rfl:=Option.some.inj ho';exact ha e he hb
  ·rw[getD_set_ne false (fun e=>hji e.symm)]at hj;exact h j o ho hj e he hb
 by_cases hei:e.on=i
 ·rw[hei,jT false hil]
 ·rw[getD_set_ne false (fun e=>hei e.symm)];exact hd
theorem iL.dep {ops:Array Oper} {l:Array Bool} {i:Nat} {o:Oper} (h:iL ops l) (ho:ops[i]? =some o) (hd:l.getD i false=true) (k:Nat) (hk:o.after.any (fun e=>Region.binds .any e&&e.on==k)=true):l.getD k false=true:=by rw[Array.any_eq_true']at hk;obtain⟨e,he,hh⟩:=hk;simp only[Bool.and_eq_true,beq_iff_eq]at hh;rw[←hh.2];exact h i o ho hd e he hh.1
theorem bN {l:Array Bool} {i:Nat} (h:l.getD i true=false):l.getD i false=true→False:=fun k=>by
 rw[Array.getD_eq_getD_getElem?]at h k;cases hx:l[i]? with
 |none=>rw[hx]at h;simp at h
 |some b=>rw[hx]at h k;simp at h k;rw[h]at k;cases k
theorem xZ {ops:Array Oper} {l:Array Bool} (h:(List.range ops.size).all (fun i=>match ops[i]? with|some o=>o.after.all (fun e=> !Region.binds .any e||decide (e.on<i))|none=>true)=true) (hr:Region.ready .any ops l=[]) (hl:l.size=ops.size):∀i,i<ops.size→l.getD i false=true:=by
 intro i;induction i using Nat.strongRecOn with
 |_ i ih=>
  intro hi;cases hx:l.getD i false
  ·exfalso;rw[List.eq_nil_iff_forall_not_mem]at hr;refine hr i (mem_ready.2 ⟨?_,ops[i],Array.getElem?_eq_getElem hi,fun e he hb=>?_⟩)
   ·rw[Array.getD_eq_getD_getElem?]at hx⊢;rw[Array.getElem?_eq_getElem (by omega)]at hx⊢;simpa using hx
   ·rw[List.all_eq_true]at h;have h1:=h i (List.mem_range.2 hi)
    rw[Array.getElem?_eq_getElem hi]at h1;simp only[Array.all_eq_true']at h1;have h2:=h1 e he
    rw[hb]at h2;simp at h2;exact ih e.on h2 (by omega)
  ·rfl
end Go.Proofs.YtkcmamepoplcdaaGreatDoor
