/-
  Regions of draws that draw their order, by one invariant: which operation left what in its slot.
-/
import Derived.Test.YtncffcaabnjioaaGreatMaq
set_option maxHeartbeats 4000000
set_option maxRecDepth 100000
namespace Go.Proofs.YtncffcaabnjioaaGreat
open Go.RowKit
set_option linter.unusedVariables false
inductive SK where
 |sl (m:Nat)|rd|pk (m:Nat)|ix|ld|ag|no
def KP (B N:Nat) (w:World) (v:Value):SK→Prop
 | .sl m=>Sl w N m v
 | .rd=>v= .pointer (some ⟨B,0,none⟩)
 | .pk m=>Pk m v
 | .ix=>Ix w N v
 | .ld=>Ld v
 | .ag=>Ag v
 | .no=>True
theorem KP.move {B N:Nat} {w w':World} {v:Value} {k:SK} (h:KP B N w v k) (hb:aD B w w') (hB:B<N):KP B N w' v k:=by
 cases k with
 |sl m=>exact Sl.move h hb hB
 |ix=>exact Ix.move h hb hB
 |_=>exact h
theorem KP.set {B N g o:Nat} {w:World} {v x:Value} {k:SK} (h:KP B N w v k) (hg:g<N):KP B N (w.setCell ⟨g,o,none⟩ x) v k:=by
 cases k with
 |sl m=>
  obtain⟨b,rfl,hN,hc⟩:=h;exact⟨b,rfl,hN,fun i hi=>by obtain⟨y,hy⟩:=hc i hi;exact⟨y,(dP (by omega)).trans hy⟩⟩
 |ix=>
  obtain⟨b,i,y,rfl,hN,hc⟩:=h;exact⟨b,i,y,rfl,hN,(dP (by omega)).trans hc⟩
 |_=>exact h
theorem W4.set {w:World} {g o:Nat} {v:Int} (h:W4 w g) (ho:o=0∨o=1∨o=2∨o=3):W4 (w.setCell ⟨g,o,none⟩ (.int .i64 v)) g:=by
 obtain⟨⟨x0,x1,x2,x3,c0,c1,c2,c3⟩,f0,f1,f2,f3⟩:=h;refine⟨?_,by rw[World.frozen?_setCell];exact f0,by rw[World.frozen?_setCell];exact f1,by rw[World.frozen?_setCell];exact f2,by rw[World.frozen?_setCell];exact f3⟩;rcases ho with rfl|rfl|rfl|rfl
 ·exact⟨v,x1,x2,x3,by go_simp,by go_simp,by go_simp,by go_simp⟩
 ·exact⟨x0,v,x2,x3,by go_simp,by go_simp,by go_simp,by go_simp⟩
 ·exact⟨x0,x1,v,x3,by go_simp,by go_simp,by go_simp,by go_simp⟩
 ·exact⟨x0,x1,x2,v,by go_simp,by go_simp,by go_simp,by go_simp⟩
def jJ (ops:Array Oper) (l:Array Bool):Prop:=∀i o,ops[i]? =some o→l.getD i false=true→∀e∈o.after,Region.binds .any e=true→l.getD e.on false=true
theorem jJ.start (ops:Array Oper) (n:Nat):jJ ops (Array.replicate n false):=fun i o _ h=>by rw[jH]at h;cases h
theorem jJ.step {ops:Array Oper} {l:Array Bool} {i:Nat} (h:jJ ops l) (hi:i∈Region.ready .any ops l) (hl:l.size=ops.size):jJ ops (l.setIfInBounds i true):=by
 intro j o ho hj e he hb;obtain⟨_,o',ho',ha⟩:=mem_ready.1 hi;have hil:i<l.size:=by rw[hl];exact(Array.getElem?_eq_some_iff.1 ho').1
 have hd:l.getD e.on false=true:=by
  by_cases hji:j=i
  ·subst hji;rw[ho]at ho';obtain rfl:=Option.some.inj ho';exact ha e he hb
  ·rw[getD_set_ne false (fun e=>hji e.symm)]at hj;exact h j o ho hj e he hb
 by_cases hei:e.on=i
 ·rw[hei,jB false hil]
 ·rw[getD_set_ne false (fun e=>hei e.symm)];exact hd
theorem jJ.dep {ops:Array Oper} {l:Array Bool} {i:Nat} {o:Oper} (h:jJ ops l) (ho:ops[i]? =some o) (hd:l.getD i false=true) (k:Nat) (hk:o.after.any (fun e=>Region.binds .any e&&e.on==k)=true):l.getD k false=true:=by rw[Array.any_eq_true']at hk;obtain⟨e,he,hh⟩:=hk;simp only[Bool.and_eq_true,beq_iff_eq]at hh;rw[←hh.2];exact h i o ho hd e he hh.1
theorem bZ {l:Array Bool} {i:Nat} (h:l.getD i true=false):l.getD i false=true→False:=fun k=>by
 rw[Array.getD_eq_getD_getElem?]at h k;cases hx:l[i]? with
 |none=>rw[hx]at h;simp at h
 |some b=>rw[hx]at h k;simp at h k;rw[h]at k;cases k
theorem CI {ops:Array Oper} {l:Array Bool} (h:(List.range ops.size).all (fun i=>match ops[i]? with|some o=>o.after.all (fun e=> !Region.binds .any e||decide (e.on<i))|none=>true)=true) (hr:Region.ready .any ops l=[]) (hl:l.size=ops.size):∀i,i<ops.size→l.getD i false=true:=by
 intro i;induction i using Nat.strongRecOn with
 |_ i ih=>
  intro hi;cases hx:l.getD i false
  ·exfalso;rw[List.eq_nil_iff_forall_not_mem]at hr;refine hr i (mem_ready.2 ⟨?_,ops[i],Array.getElem?_eq_getElem hi,fun e he hb=>?_⟩)
   ·rw[Array.getD_eq_getD_getElem?]at hx⊢;rw[Array.getElem?_eq_getElem (by omega)]at hx⊢;simpa using hx
   ·rw[List.all_eq_true]at h;have h1:=h i (List.mem_range.2 hi)
    rw[Array.getElem?_eq_getElem hi]at h1;simp only[Array.all_eq_true']at h1;have h2:=h1 e he
    rw[hb]at h2;simp at h2;exact ih e.on h2 (by omega)
  ·rfl
theorem rG {B:Nat} {w w':World} (h:aD B w w'):w.grownBy w' (some B):=⟨h.os,h.tape,h.output,h.size,fun k hk hn=>h.block k hk (fun e=>hn (by rw[e]))⟩
theorem eE {B:Nat} {w w':World} (h:Below w.heap.size w w'):aD B w w':=⟨h.os,h.tape,h.output,h.size,fun k hk _=>h.block k hk⟩
theorem iU.beside {w w':World} {B p:Nat} (h:iU w B p) (hb:aD w.heap.size w w'):iU w' B p:=by
 have hlt:=h.lt;obtain⟨hc1,hf,a,len,cap,hc0,hl,h0⟩:=h;have he:=hb.block B hlt (by omega)
 refine⟨(lH (w:=w) (a:=⟨B,1,none⟩) he).trans hc1,(World.frozen?_of_block (w:=w) (a:=⟨B,1,none⟩) he).trans hf,a,len,cap,(lH (w:=w) (a:=⟨B,0,none⟩) he).trans hc0,hl,?_⟩;rcases h0 with h0|⟨bb,off,z,rfl,hbb,hz,z0,z1⟩
 ·exact .inl h0
 ·exact .inr ⟨bb,off,z,rfl,hbb,fun i hi=>(lH (w:=w) (a:=⟨bb,off+i,none⟩) (hb.block bb (by omega) (by omega))).trans (hz i hi),z0,z1⟩
theorem bK {w w':World} {B base:Nat} {e:TypeId} {size:Nat} {v:Value} {n:Nat} {xs:List Value} (h:w.ownsRow base e size v n xs) (hb:aD B w w') (hB:B<base):w'.ownsRow base e size v n xs:=by
 refine h.kept (rG hb) ?_;cases hv:v.ownBlock with
 |none=>exact .inl rfl
 |some k=>
  refine .inr (fun he=>?_);have:=(h.lt k hv).1
  cases he;omega
theorem VC (w:World) (B p:Nat) (n:Int) (h:iU w B p) (hn0:0≤n) (hn:n≤50) (hp:p≤10000):Calls Tryz.prog 81 #[.pointer (some ⟨B,0,none⟩),.int .i64 n] w fun r w'=>∃(v:Value) (L:List T) (q:Nat),r= .returned v∧w'.ownsRow w.heap.size 47 5 v L.length (aF L)∧(L.length:Int)≤n∧NC L∧(q:Int)≤p+1+31*n∧iU w' B q∧aD B w w':=by
 have hB:=h.lt;have HO0:=aA (cD w w.heap.size (Nat.le_refl _))
 have HR0:=aA (h.alloc (.cells #[] 47));have HB0:=aA ((aD.refl B w).alloc (.cells #[] 47))
 clear h;go_enter Tryz.func81,Tryz.ntmps81;go_wp2_with fail;generalize(w.alloc (.cells #[] 47))=W at HO0 HR0 HB0⊢;refine(aY _ B p (n+1) HR0.out (by omega) (by omega) (by omega)).mono ?_;rintro e w1 ⟨k,rfl,k0,k1,hk⟩;have HR1:=aA (hk.rdr HR0.out)
 have HB1:=aA (HB0.out.trans hk.beside);have HO1:=aA (bK HO0.out hk.beside hB)
 clear hk HO0 HR0 HB0;go_wp2;go_loopw [5,6] (fun v i wr=>∃(j:Nat) (L:List T) (q:Nat),i= .int .i64 j∧wr.ownsRow w.heap.size 47 5 v L.length (aF L)∧(L.length:Int)+j≤n∧Hid (NC L)∧(q:Int)+31*j≤p+1+31*n∧iU wr B q∧aD B w wr) (fun _ i _=>(intOf i).toNat);case atStart=>exact⟨k.toNat,[],p+1,by rw[Int.toNat_of_nonneg k0],HO1.out,by simp;omega,zW,by omega,HR1.out,HB1.out⟩
 case round=>
  obtain⟨j,L,q,rfl,ho,hl,hc,hq,hR,hb⟩:=hrel;by_cases hj:0<j
  ·obtain⟨m,rfl⟩:∃m,j=m+1:=⟨j-1,by omega⟩
   have HO:=aA ho;have HR:=aA hR
   have HB:=aA hb;have hjb:(0:Int)<((m+1:Nat):Int):=by omega
   clear ho hR hb;go_wp2_with fail;refine(aY wr B q 100 HR.out (by omega) (by omega) (by omega)).mono ?_;rintro e w2 ⟨c,rfl,c0,c1,hk⟩;have HR2:=aA (hk.rdr HR.out)
   have HB2:=aA (HB.out.trans hk.beside);have HO2:=aA (bK HO.out hk.beside hB)
   clear hk HR HB HO;go_wp2_with fail;refine(vG w2 B _ 99999 HR2.out (by omega) (by omega) (by omega)).mono ?_;rintro e w3 ⟨x,y,d,z,q3,rfl,hq3,r3,s3⟩;have HR3:=aA r3
   have HB3:=aA (HB2.out.trans s3);have HO3:=aA (bK HO2.out s3 hB)
   clear r3 s3 HR2 HB2 HO2;go_wp2_with fail;refine(AF _ w.heap.size _ L (1+c) x y d z HO3.out HB3.out.size (by omega) hc.out (by omega) (by omega)).mono ?_;rintro e w4 ⟨v4,rfl,hb4,ho4⟩;have HR4:=aA (HR3.out.beside (eE hb4))
   have HB4:=aA (HB3.out.trans (eE hb4));have HO4:=aA ho4
   have HC4:=aA (GA (c:=1+c) (m:=⟨x,y,d,z⟩) hc.out (by omega) (by omega));have hl4:=sK (1+c) ⟨x,y,d,z⟩ L
   clear hb4 ho4 HR3 HB3 HO3;go_wp2;go_roundw;case rel=>exact⟨m,jD (1+c) ⟨x,y,d,z⟩ L,q3,by first|go_num|(congr 1;omega),HO4.out,by omega,HC4.out,by omega,HR4.out,HB4.out⟩
   case measure=>simp[intOf]
  ·obtain rfl:j=0:=by omega
   have HR:=aA hR;obtain⟨hc1,hf,a,len,cap,hc0,hl0,h0⟩:=hR;clear hc1 hf h0;have hlen:(len:Int)≤2000:=by omega
   by_cases hz:len=0
   ·subst hz;have HO:=aA (cD wr w.heap.size hb.size)
    have HB:=aA (hb.alloc (.cells #[] 47));have HR2:=aA (HR.out.alloc (.cells #[] 47))
    clear ho hb;go_wp2;go_ret;exact⟨_,[],q,rfl,HO.out,by simpa using hn0,zW,by omega,HR2.out,HB.out⟩
   ·have hzb:((len:Int)==0)=false:=by simp;omega
    have HO:=aA ho;clear ho;go_wp2;go_ret;exact⟨_,L,q,rfl,HO.out,by omega,hc.out,by omega,HR.out,hb⟩
end Go.Proofs.YtncffcaabnjioaaGreat
