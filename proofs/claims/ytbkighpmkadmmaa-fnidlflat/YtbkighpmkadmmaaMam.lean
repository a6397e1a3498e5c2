/-
  How far two operators are from commuting: the program and the model.
-/
import Derived.Test.YtbkighpmkadmmaaMal
import Derived.Test.YtbkighpmkadmmaaMai
namespace Go.Proofs.Ytbkighpmkadmmaa
open Go.RowKit
set_option linter.unusedVariables false
inductive SK where
 |sl (m:Nat)|rd|pk (m:Nat)|ix|ld|ag|no
def KP (B N:Nat) (w:World) (v:Value):SK→Prop
 | .sl m=>Sl w N m v
 | .rd=>v= .pointer (some ⟨B,0,none⟩)
 | .pk m=>Pk m v
 | .ix=>Ix w N v
 | .ld=>Ld v
 | .ag=>Ag v
 | .no=>True
theorem KP.move {B N:Nat} {w w':World} {v:Value} {k:SK} (h:KP B N w v k) (hb:aE B w w') (hB:B<N):KP B N w' v k:=by
 cases k with
 |sl m=>exact Sl.move h hb hB
 |ix=>exact Ix.move h hb hB
 |_=>exact h
theorem KP.set {B N g o:Nat} {w:World} {v x:Value} {k:SK} (h:KP B N w v k) (hg:g<N):KP B N (w.setCell ⟨g,o,none⟩ x) v k:=by
 cases k with
 |sl m=>
  obtain⟨b,rfl,hN,hc⟩:=h;exact⟨b,rfl,hN,fun i hi=>by obtain⟨y,hy⟩:=hc i hi;exact⟨y,(bV (by omega)).trans hy⟩⟩
 |ix=>
  obtain⟨b,i,y,rfl,hN,hc⟩:=h;exact⟨b,i,y,rfl,hN,(bV (by omega)).trans hc⟩
 |_=>exact h
theorem uA.set {w:World} {g o:Nat} {v:Int} (h:uA w g) (ho:o=0∨o=1∨o=2∨o=3):uA (w.setCell ⟨g,o,none⟩ (.int .i64 v)) g:=by
 obtain⟨⟨x0,x1,x2,x3,c0,c1,c2,c3⟩,f0,f1,f2,f3⟩:=h;refine⟨?_,by rw[World.frozen?_setCell];exact f0,by rw[World.frozen?_setCell];exact f1,by rw[World.frozen?_setCell];exact f2,by rw[World.frozen?_setCell];exact f3⟩;rcases ho with rfl|rfl|rfl|rfl
 ·exact⟨v,x1,x2,x3,by go_simp,by go_simp,by go_simp,by go_simp⟩
 ·exact⟨x0,v,x2,x3,by go_simp,by go_simp,by go_simp,by go_simp⟩
 ·exact⟨x0,x1,v,x3,by go_simp,by go_simp,by go_simp,by go_simp⟩
 ·exact⟨x0,x1,x2,v,by go_simp,by go_simp,by go_simp,by go_simp⟩
def fZ (ops:Array Oper) (l:Array Bool):Prop:=∀i o,ops[i]? =some o→l.getD i false=true→∀e∈o.after,Region.binds .any e=true→l.getD e.on false=true
theorem fZ.start (ops:Array Oper) (n:Nat):fZ ops (Array.replicate n false):=fun i o _ h=>by rw[fT]at h;cases h
theorem fZ.step {ops:Array Oper} {l:Array Bool} {i:Nat} (h:fZ ops l) (hi:i∈Region.ready .any ops l) (hl:l.size=ops.size):fZ ops (l.setIfInBounds i true):=by
 intro j o ho hj e he hb;obtain⟨_,o',ho',ha⟩:=mem_ready.1 hi;have hil:i<l.size:=by rw[hl];exact(Array.getElem?_eq_some_iff.1 ho').1
 have hd:l.getD e.on false=true:=by
  by_cases hji:j=i
  ·subst hji;rw[ho]at ho';obtain rfl:=Option.some.inj ho';exact ha e he hb
  ·rw[getD_set_ne false (fun e=>hji e.symm)]at hj;exact h j o ho hj e he hb
 by_cases hei:e.on=i
 ·rw[hei,fJ false hil]
 ·rw[getD_set_ne false (fun e=>hei e.symm)];exact hd
theorem fZ.dep {ops:Array Oper} {l:Array Bool} {i:Nat} {o:Oper} (h:fZ ops l) (ho:ops[i]? =some o) (hd:l.getD i false=true) (k:Nat) (hk:o.after.any (fun e=>Region.binds .any e&&e.on==k)=true):l.getD k false=true:=by rw[Array.any_eq_true']at hk;obtain⟨e,he,hh⟩:=hk;simp only[Bool.and_eq_true,beq_iff_eq]at hh;rw[←hh.2];exact h i o ho hd e he hh.1
theorem bD {l:Array Bool} {i:Nat} (h:l.getD i true=false):l.getD i false=true→False:=fun k=>by
 rw[Array.getD_eq_getD_getElem?]at h k;cases hx:l[i]? with
 |none=>rw[hx]at h;simp at h
 |some b=>rw[hx]at h k;simp at h k;rw[h]at k;cases k
theorem uG {ops:Array Oper} {l:Array Bool} (h:(List.range ops.size).all (fun i=>match ops[i]? with|some o=>o.after.all (fun e=> !Region.binds .any e||decide (e.on<i))|none=>true)=true) (hr:Region.ready .any ops l=[]) (hl:l.size=ops.size):∀i,i<ops.size→l.getD i false=true:=by
 intro i;induction i using Nat.strongRecOn with
 |_ i ih=>
  intro hi;cases hx:l.getD i false
  ·exfalso;rw[List.eq_nil_iff_forall_not_mem]at hr;refine hr i (mem_ready.2 ⟨?_,ops[i],Array.getElem?_eq_getElem hi,fun e he hb=>?_⟩)
   ·rw[Array.getD_eq_getD_getElem?]at hx⊢;rw[Array.getElem?_eq_getElem (by omega)]at hx⊢;simpa using hx
   ·rw[List.all_eq_true]at h;have h1:=h i (List.mem_range.2 hi)
    rw[Array.getElem?_eq_getElem hi]at h1;simp only[Array.all_eq_true']at h1;have h2:=h1 e he
    rw[hb]at h2;simp at h2;exact ih e.on h2 (by omega)
  ·rfl
theorem mI {B:Nat} {w w':World} (h:aE B w w'):w.grownBy w' (some B):=⟨h.os,h.tape,h.output,h.size,fun k hk hn=>h.block k hk (fun e=>hn (by rw[e]))⟩
theorem cB {B:Nat} {w w':World} (h:Below w.heap.size w w'):aE B w w':=⟨h.os,h.tape,h.output,h.size,fun k hk _=>h.block k hk⟩
theorem fV.beside {w w':World} {B p:Nat} (h:fV w B p) (hb:aE w.heap.size w w'):fV w' B p:=by
 have hlt:=h.lt;obtain⟨hc1,hf,a,len,cap,hc0,hl,h0⟩:=h;have he:=hb.block B hlt (by omega)
 refine⟨(mC (w:=w) (a:=⟨B,1,none⟩) he).trans hc1,(World.frozen?_of_block (w:=w) (a:=⟨B,1,none⟩) he).trans hf,a,len,cap,(mC (w:=w) (a:=⟨B,0,none⟩) he).trans hc0,hl,?_⟩;rcases h0 with h0|⟨bb,off,z,rfl,hbb,hz,z0,z1⟩
 ·exact .inl h0
 ·exact .inr ⟨bb,off,z,rfl,hbb,fun i hi=>(mC (w:=w) (a:=⟨bb,off+i,none⟩) (hb.block bb (by omega) (by omega))).trans (hz i hi),z0,z1⟩
theorem aV {w w':World} {B base:Nat} {e:TypeId} {size:Nat} {v:Value} {n:Nat} {xs:List Value} (h:w.ownsRow base e size v n xs) (hb:aE B w w') (hB:B<base):w'.ownsRow base e size v n xs:=by
 refine h.kept (mI hb) ?_;cases hv:v.ownBlock with
 |none=>exact .inl rfl
 |some k=>
  refine .inr (fun he=>?_);have:=(h.lt k hv).1
  cases he;omega
end Go.Proofs.Ytbkighpmkadmmaa
