/-
  A run of lines, as lists; slots in the world.
-/
import Derived.Test.YtkcmamepoplcdaaGreatDoorVav
import Derived.OneCell
set_option maxHeartbeats 4000000
set_option maxRecDepth 100000
namespace Go.Proofs.YtkcmamepoplcdaaGreatDoor
open Go.RowKit Go.Deep
set_option linter.unusedVariables false
set_option linter.unusedSimpArgs false
def jL (n:Nat):List UInt8:=[108,105,110,101,32]++Lib.decDigits n
def jM (n:Nat):List UInt8:=[116,111,111,32,109,117,99,104,32]++Lib.decDigits n
abbrev PN:=(Nat→List T)×List (List UInt8)
def pK (l:lG) (F:Nat→List T):List T×Bool:=aN l.k l.to l.a l.b l.P 6 (fun i=>(F i).length) (fun i=>lf (F i))
def dT (i:Nat) (s:List UInt8) (st:PN):PN:=
 if(dP s).2=false then(st.1,st.2++[jL (i+1)])
 else if(pK (dP s).1 st.1).2=false then(st.1,st.2++[jM (i+1)])
 else if(dP s).1.k=8 then(st.1,st.2++[cY (pK (dP s).1 st.1).1.length (lf (pK (dP s).1 st.1).1)])
 else(fun j=>if j=(dP s).1.to.toNat then(pK (dP s).1 st.1).1 else st.1 j,st.2)
def fH (W:List (List UInt8)):Nat→PN
 |0=>(fun _=>[],[])
 |k+1=>dT k (W.getD k []) (fH W k)
def cN (W:List (List UInt8)):List (List UInt8):=if 60<W.length then[[108,111,110,103]]else(fH W W.length).2
theorem AD {i:Nat} {s:List UInt8} {st:PN} (h:(dP s).2=false):dT i s st=(st.1,st.2++[jL (i+1)]):=by unfold dT;rw[if_pos h]
theorem sU {i:Nat} {s:List UInt8} {st:PN} (h:(dP s).2=true) (q:(pK (dP s).1 st.1).2=false):dT i s st=(st.1,st.2++[jM (i+1)]):=by unfold dT;rw[if_neg (by rw[h];simp),if_pos q]
theorem sV {i:Nat} {s:List UInt8} {st:PN} (h:(dP s).2=true) (q:(pK (dP s).1 st.1).2=true) (k:(dP s).1.k=8):dT i s st=(st.1,st.2++[cY (pK (dP s).1 st.1).1.length (lf (pK (dP s).1 st.1).1)]):=by unfold dT;rw[if_neg (by rw[h];simp),if_neg (by rw[q];simp),if_pos k]
theorem vE {i:Nat} {s:List UInt8} {st:PN} (h:(dP s).2=true) (q:(pK (dP s).1 st.1).2=true) (k:(dP s).1.k≠8):dT i s st=(fun j=>if j=(dP s).1.to.toNat then(pK (dP s).1 st.1).1 else st.1 j,st.2):=by unfold dT;rw[if_neg (by rw[h];simp),if_neg (by rw[q];simp),if_neg k]
theorem pA (W:List (List UInt8)):∀k,(fH W k).2.length≤k
 |0=>Nat.le_refl _
 |k+1=>by
  have:=pA W k;unfold fH dT
  repeat' split
  all_goals simp only[List.length_append,List.length_cons,List.length_nil];omega
def tP (w:World) (b:Nat) (F:Nat→List T) (ad:Nat→Option Addr) (cp:Nat→Nat):Prop:=
 w.rowIs b 22 6 (fun i=>.slice (ad i) (F i).length (cp i))∧∀i,i<6→Rd w (ad i) (F i).length (cp i) (lf (F i))∧((F i).length=0∨∃g off c,ad i=some ⟨g,off,none⟩∧w.heap[g]? =some (.cells c 79 (0,0)))
theorem tP.lt {w:World} {b:Nat} {F:Nat→List T} {ad:Nat→Option Addr} {cp:Nat→Nat} (h:tP w b F ad cp):b<w.heap.size:=h.1.lt
theorem tP.rds {w:World} {b:Nat} {F:Nat→List T} {ad:Nat→Option Addr} {cp:Nat→Nat} (h:tP w b F ad cp):qR w (some ⟨b,0,none⟩) 6 6 ad (fun i=>(F i).length) cp (fun i=>lf (F i)):=
 ⟨Nat.le_refl _,by omega,.inr ⟨b,0,rfl,h.lt,fun i hi=>by rw[Nat.zero_add];exact h.1.cell hi⟩,fun i hi=>(h.2 i hi).1⟩
theorem IC {w:World} {g:Nat} {o:Obj} (h:w.heap[g]? =some o):g<w.heap.size:=(Array.getElem?_eq_some_iff.1 h).1
theorem tP.below {w w':World} {b:Nat} {F:Nat→List T} {ad:Nat→Option Addr} {cp:Nat→Nat} (h:tP w b F ad cp) (hb:Below w.heap.size w w'):tP w' b F ad cp:=
 ⟨h.1.of_block (hb.block b h.lt),fun i hi=>⟨(h.2 i hi).1.below hb,(h.2 i hi).2.imp id (fun⟨g,off,c,e,q⟩=>⟨g,off,c,e,(hb.block g (IC q)).trans q⟩)⟩⟩
theorem tP.grown {w w':World} {b:Nat} {F:Nat→List T} {ad:Nat→Option Addr} {cp:Nat→Nat} {row:Option Nat} (h:tP w b F ad cp) (hg:w.grownBy w' row) (hr:∀g,row=some g→∃c,w.heap[g]? =some (.cells c 9 (0,0))):tP w' b F ad cp:=by
 have hne:∀g c t,w.heap[g]? =some (.cells c t (0,0))→t≠9→some g≠row:=fun g c t q hn e=>by obtain⟨c',q'⟩:=hr g e.symm;rw[q]at q';injection q' with q';injection q' with _ q2;exact hn q2
 obtain⟨c0,hc0,hz⟩:=h.1;have hb:some b≠row:=hne b c0 _ hc0 (by decide)
 refine⟨h.1.of_block (hg.block b h.lt hb),fun i hi=>?_⟩;rcases(h.2 i hi).2 with h0|⟨g,off,c,e,q⟩
 ·exact⟨(h.2 i hi).1.grown hg (.inl h0),.inl h0⟩
 ·have hgn:some g≠row:=hne g c _ q (by decide);exact⟨(h.2 i hi).1.grown hg (.inr (fun b' off' e'=>by rw[e]at e';cases e';exact hgn)),.inr ⟨g,off,c,e,(hg.block g (IC q) hgn).trans q⟩⟩
theorem AL {w:World} {a:Option Addr} {n:Nat} {f:Nat→T} (h:Wr w a n f):n=0∨∃g off c,a=some ⟨g,off,none⟩∧w.heap[g]? =some (.cells c 79 (0,0)):=by
 rcases h with h0|⟨g,off,N,F,e,⟨c,hc,_⟩,_,_⟩
 ·exact .inl h0
 ·exact .inr ⟨g,off,c,e,hc⟩
theorem DM {w:World} {a:Option Addr} {n cap b k:Nat} {f:Nat→T} {v:Value} (h:Rd w a n cap f) (hn:n=0∨∀g off,a=some ⟨g,off,none⟩→g≠b):Rd (w.setCell ⟨b,k,none⟩ v) a n cap f:=by
 obtain⟨h1,h2,h3⟩:=h;refine⟨h1,h2,?_⟩;rcases h3 with h0|⟨g,off,e,hlt,hc⟩
 ·exact .inl h0
 ·rcases hn with h0|hn
  ·exact .inl h0
  ·have hg:=hn g off e;have ne:∀j,(⟨b,k,none⟩:Addr)≠⟨g,j,none⟩:=fun j q=>hg (by cases q;rfl)
   refine .inr ⟨g,off,e,by simpa using hlt,fun i hi=>?_⟩;obtain⟨c0,c1,c2,c3,c4⟩:=hc i hi;exact⟨by rw[World.cell?_setCell_other _ _ _ _ (ne _)];exact c0,by rw[World.cell?_setCell_other _ _ _ _ (ne _)];exact c1,by rw[World.cell?_setCell_other _ _ _ _ (ne _)];exact c2,by rw[World.cell?_setCell_other _ _ _ _ (ne _)];exact c3,by rw[World.cell?_setCell_other _ _ _ _ (ne _)];exact c4⟩
theorem tP.set {w:World} {b:Nat} {F:Nat→List T} {ad:Nat→Option Addr} {cp:Nat→Nat} (h:tP w b F ad cp) (k:Nat) {a:Option Addr} {cap:Nat} {L:List T} (hR:Rd w a L.length cap (lf L)) (hW:Wr w a L.length (lf L)):tP (w.setCell ⟨b,k,none⟩ (.slice a L.length cap)) b (fun j=>if j=k then L else F j) (fun j=>if j=k then a else ad j) (fun j=>if j=k then cap else cp j):=by
 obtain⟨c0,hc0,hz⟩:=h.1
 have hty:∀(a:Option Addr) (n:Nat),(n=0∨∃g off c,a=some ⟨g,off,none⟩∧w.heap[g]? =some (.cells c 79 (0,0)))→n=0∨∀g off,a=some ⟨g,off,none⟩→g≠b:=fun a n q=>q.imp id (fun⟨g,off,c,e,q⟩ g' off' e' e2=>by
  rw[e]at e';cases e';rw[e2,hc0]at q;injection q with q;injection q with _ q2
  exact absurd q2 (by decide))
 have htp:∀(a:Option Addr) (n:Nat) (v:Value),(n=0∨∃g off c,a=some ⟨g,off,none⟩∧w.heap[g]? =some (.cells c 79 (0,0)))→(n=0∨∃g off c,a=some ⟨g,off,none⟩∧(w.setCell ⟨b,k,none⟩ v).heap[g]? =some (.cells c 79 (0,0))):=fun a n v q=>by
  rcases hty a n q with h0|hn
  ·exact .inl h0
  ·exact q.imp id (fun⟨g,off,c,e,q⟩=>⟨g,off,c,e,(Below.heap_setCell _ _ _ _ (hn g off e)).trans q⟩)
 refine⟨(h.1.set k _).congr (fun j hj=>?_),fun i hi=>?_⟩
 ·by_cases e:j=k
  ·simp[e]
  ·simp[e]
 ·by_cases e:i=k
  ·simp only[if_pos e];exact⟨DM hR (hty _ _ (AL hW)),htp _ _ _ (AL hW)⟩
  ·simp only[if_neg e];exact⟨DM (h.2 i hi).1 (hty _ _ (h.2 i hi).2),htp _ _ _ (h.2 i hi).2⟩
theorem OP {lo:Nat} {v:Value} {xs:List (List UInt8)} {w:World} {b k:Nat} {u:Value} (h:qB lo v xs w) {n:Nat} {f:Nat→Value} (hb:w.rowIs b 22 n f):qB lo v xs (w.setCell ⟨b,k,none⟩ u):=by
 refine ownsRow_setCell_other h (a:=⟨b,k,none⟩) (fun e=>?_) u;obtain⟨c0,hc0,_⟩:=hb;rcases h.2 with⟨q,_⟩|⟨g,cap,cur,q,_,h3,_⟩
 ·rw[q]at e;cases e
 ·rw[q]at e;have e2:g=b:=by simpa[Value.ownBlock]using e
  rw[e2,hc0]at h3;injection h3 with h3;injection h3 with _ h4;exact absurd h4 (by decide)
theorem uX {lo:Nat} {v:Value} {xs:List (List UInt8)} {w:World} (h:qB lo v xs w):∀g,v.ownBlock=some g→lo≤g∧∃c,w.heap[g]? =some (.cells c 9 (0,0)):=fun g e=>by
 rcases h.2 with⟨q,_⟩|⟨g',cap,cur,q,hlo,h3,_⟩
 ·rw[q]at e;cases e
 ·rw[q]at e;have e2:g'=g:=by simpa[Value.ownBlock]using e
  subst e2;exact⟨hlo,cur,h3⟩
theorem ON (w:World) (lo:Nat):qB lo (.slice none 0 0) [] w:=⟨rfl,.inl ⟨rfl,rfl⟩⟩
def GL (w:World) (a:Option Addr) (cap:Nat) (W:List (List UInt8)):Prop:=W.length≤cap∧(W.length=0∨∃b off,a=some ⟨b,off,none⟩∧b<w.heap.size∧∀(i:Nat) (l:List UInt8),W[i]? =some l→w.cell? ⟨b,off+i,none⟩=some (.string ⟨l.toArray⟩))∧∀l∈W,l.length≤1048576
theorem GL.below {w w':World} {a:Option Addr} {cap:Nat} {W:List (List UInt8)} (h:GL w a cap W) (hb:Below w.heap.size w w'):GL w' a cap W:=
 ⟨h.1,h.2.1.imp id (fun⟨b,off,e,hlt,hc⟩=>⟨b,off,e,eH hlt hb.size,fun i l hl=>(hb.cell (p:=⟨b,off+i,none⟩) hlt).trans (hc i l hl)⟩),h.2.2⟩
theorem QA (w:World):(Instr.makeSlice 60 (.int .i64 6) (.int .i64 6)).run Tryz.prog w= .ok (.slice (some ⟨w.heap.size,0,none⟩) 6 6) (w.alloc (.cells #[.slice none 0 0,.slice none 0 0,.slice none 0 0,.slice none 0 0,.slice none 0 0,.slice none 0 0] 22)):=by kernel_rfl
def EC (w wr:World) (b:Nat) (F:Nat→List T) (out:List (List UInt8)) (ad:Nat→Option Addr) (cp:Nat→Nat) (tv:Value):Prop:=tP wr b F ad cp∧qB w.heap.size tv out wr∧Below w.heap.size w wr
theorem EC.below {w wr w':World} {b:Nat} {F:Nat→List T} {out:List (List UInt8)} {ad:Nat→Option Addr} {cp:Nat→Nat} {tv:Value} (h:EC w wr b F out ad cp tv) (hb:Below wr.heap.size wr w'):EC w w' b F out ad cp tv:=
 ⟨h.1.below hb,aR h.2.1 hb,aC h.2.2 hb⟩
theorem EC.app {w wr w7:World} {b:Nat} {F:Nat→List T} {out:List (List UInt8)} {ad:Nat→Option Addr} {cp:Nat→Nat} {tv:Value} (h:EC w wr b F out ad cp tv) {t:List UInt8} {g1 cap1:Nat} (hown:w7.ownsRow w.heap.size 9 1 (.slice (some ⟨g1,0,none⟩) (out.length+1) cap1) (out.length+1) (rM out++[.string ⟨t.toArray⟩])) (hg:wr.grownBy w7 tv.ownBlock):EC w w7 b F (out++[t]) ad cp (.slice (some ⟨g1,0,none⟩) (out.length+1) cap1):=by
 have ht:=uX h.2.1;refine⟨h.1.grown hg (fun g e=>(ht g e).2),?_,h.2.2.grown hg h.2.2.size (fun k e=>(ht k e).1)⟩;show World.ownsRow _ _ _ _ _ _ _
 rw[jV,List.length_append];exact hown
theorem EC.set {w wr:World} {b:Nat} {F:Nat→List T} {out:List (List UInt8)} {ad:Nat→Option Addr} {cp:Nat→Nat} {tv:Value} (h:EC w wr b F out ad cp tv) (hb:w.heap.size≤b) (k:Nat) {a:Option Addr} {cap:Nat} {L:List T} (hR:Rd wr a L.length cap (lf L)) (hW:Wr wr a L.length (lf L)):EC w (wr.setCell ⟨b,k,none⟩ (.slice a L.length cap)) b (fun j=>if j=k then L else F j) out (fun j=>if j=k then a else ad j) (fun j=>if j=k then cap else cp j) tv:=
 ⟨h.1.set k hR hW,OP h.2.1 h.1.1,h.2.2.setCell hb _⟩
theorem tP.new (w:World):tP (w.alloc (.cells #[.slice none 0 0,.slice none 0 0,.slice none 0 0,.slice none 0 0,.slice none 0 0,.slice none 0 0] 22)) w.heap.size (fun _=>[]) (fun _=>none) (fun _=>0):=
 ⟨⟨_,heap_alloc_new w _,rfl,fun j hj=>by rcases(show j=0∨j=1∨j=2∨j=3∨j=4∨j=5 by omega)with rfl|rfl|rfl|rfl|rfl|rfl<;>rfl⟩,fun i hi=>⟨⟨Nat.le_refl _,by simp,.inl rfl⟩,.inl rfl⟩⟩
theorem vD (i:Nat) (s:List UInt8) (st:PN):∃X,(dT i s st).2=st.2++X∧((dP s).2=false∨(dP s).1.k=8→1≤X.length):=by
 unfold dT;split
 ·exact⟨_,rfl,fun _=>Nat.le_refl 1⟩
 ·rename_i h1;split
  ·exact⟨_,rfl,fun _=>Nat.le_refl 1⟩
  ·split
   ·exact⟨_,rfl,fun _=>Nat.le_refl 1⟩
   ·rename_i h3;exact⟨[],(List.append_nil _).symm,fun q=>(q.elim (fun e=>absurd e h1) (fun e=>absurd e h3))⟩
theorem AC (W:List (List UInt8)) (k:Nat):∀d,∃X,(fH W (k+d)).2=(fH W k).2++X
 |0=>⟨[],(List.append_nil _).symm⟩
 |d+1=>by obtain⟨X,hX⟩:=AC W k d;obtain⟨Y,hY,_⟩:=vD (k+d) (W.getD (k+d) []) (fH W (k+d));exact⟨X++Y,hY.trans (by rw[hX,List.append_assoc])⟩
theorem vC (W:List (List UInt8)) (k:Nat):∀j,j≤k→fH (W.take k) j=fH W j
 |0,_=>rfl
 |j+1,h=>by show dT j ((W.take k).getD j []) (fH (W.take k) j)=dT j (W.getD j []) (fH W j);rw[vC W k j (by omega),List.getD_eq_getElem?_getD,List.getD_eq_getElem?_getD,List.getElem?_take_of_lt (by omega)]
theorem OZ {W:List (List UInt8)} (h:W.length≤60) {k:Nat} (hk:k≤W.length):∃X,cN W=cN (W.take k)++X:=by
 have hl:(W.take k).length=k:=by rw[List.length_take];omega
 unfold cN;rw[if_neg (by omega),if_neg (by rw[hl];omega),hl,vC W k k (Nat.le_refl _)];have:=AC W k (W.length-k)
 rw[show k+(W.length-k)=W.length by omega]at this;exact this
def iJ (W:List (List UInt8)):Nat→Nat
 |0=>0
 |k+1=>iJ W k+if(dP (W.getD k [])).2=false∨(dP (W.getD k [])).1.k=8 then 1 else 0
theorem AG (W:List (List UInt8)):∀k,iJ W k≤k
 |0=>Nat.le_refl _
 |k+1=>by have:=AG W k;unfold iJ;split<;>omega
theorem sT (W:List (List UInt8)):∀k,iJ W k≤(fH W k).2.length
 |0=>iK _
 |k+1=>by
  have:=sT W k;obtain⟨X,hX,hq⟩:=vD k (W.getD k []) (fH W k);show _≤(dT k (W.getD k []) (fH W k)).2.length
  rw[hX,List.length_append];unfold iJ;split
  ·rename_i h;have:=hq h;omega
  ·omega
theorem FR {W:List (List UInt8)} (h:W.length≤60):iJ W W.length≤(cN W).length:=by unfold cN;rw[if_neg (by omega)];exact sT W _
theorem LB {W:List (List UInt8)} (h:60<W.length):(cN W).length=1:=by unfold cN;rw[if_pos h];rfl
theorem vF (W:List (List UInt8)):(cN W).length≤60:=by
 unfold cN;split
 ·decide
 ·exact iS (pA W _) (by omega)
theorem zA (w:World) (a b:Option Addr) (ca cb:Nat) (W:List (List UInt8)) (hn:W.length≤1000) (h:GL w a ca W) (h':GL w b cb W):Calls Tryz.prog 26 #[.slice a W.length ca,.slice b W.length cb] w fun r w'=>r= .returned (.bool true)∧Below w.heap.size w w':=by
 obtain⟨n,hL⟩:∃n,W.length=n:=⟨_,rfl⟩
 obtain⟨-,h, -⟩:=h;obtain⟨-,h', -⟩:=h';rw[hL]at h h' hn⊢;go_enter Tryz.func26,Tryz.ntmps26;go_wp2;go_loopw [5] (fun i wr=>∃(k:Nat),k≤n∧i= .int .i64 k∧Below w.heap.size w wr) (fun i _=>n-(intOf i).toNat);case atStart=>exact⟨0,iK _,rfl,aD _ _⟩
 case round=>
  obtain⟨k,hk,rfl,hB⟩:=hrel;by_cases hlt:k<n
  ·obtain⟨b1,o1,rfl,l1,c1⟩:=h.resolve_left (by omega);obtain⟨b2,o2,rfl,l2,c2⟩:=h'.resolve_left (by omega);have hkn:(k:Int)<(n:Int):=by omega
   obtain⟨l,hl⟩:∃l,W[k]? =some l:=⟨_,List.getElem?_eq_getElem (by omega)⟩
   have g1:=(hB.cell (p:=⟨b1,o1+k,none⟩) l1).trans (c1 k l hl);have g2:=(hB.cell (p:=⟨b2,o2+k,none⟩) l2).trans (c2 k l hl)
   have hll:(l !=l)=false:=by simp
   clear c1 c2 hl;go_wp2_with fail
   go_quiet (fail)
   go_wp2;go_roundw;case rel=>exact⟨k+1,by omega,by go_num,below_drewN hB _⟩
   case measure=>simp[intOf];omega
  ·have hkn:¬(k:Int)<(n:Int):=by omega
   clear h h';go_wp2;go_ret;exact⟨rfl,hB⟩
end Go.Proofs.YtkcmamepoplcdaaGreatDoor
namespace Go.Proofs.YtkcmamepoplcdaaGreatDoor
open Go.RowKit
set_option linter.unusedVariables false
theorem UO {m m':Nat} {P:Program} {l:Nat} {f:FuncId} {tmps:Array Value} {assign body:Code} {w:World} {R:Ending→World→Prop} (h:RoundIn Fence.wide m P l f tmps assign body w R):RoundIn Fence.wide m' P l f tmps assign body w R:=⟨h.1,fun c cs _=>h.2 c cs (room_wide _)⟩
theorem WH {m:Nat} (m':Nat) {P:Program} {l:Nat} {args:Array Value} {W:World} {R:Ending→World→Prop} (h:YieldAt Fence.wide m P l args W R):YieldAt Fence.wide m' P l args W R:=by obtain⟨fn,tmps,assign,body,hy,hR⟩:=h;exact⟨fn,tmps,assign,body,hy,UO hR⟩
def nV (lo hi:Nat) (A B:World):Prop:=A.heap.size≤B.heap.size∧∀k,lo≤k→k<hi→B.heap[k]? =A.heap[k]?
theorem nV.trans {lo hi:Nat} {A B C:World} (h:nV lo hi A B) (g:nV lo hi B C):nV lo hi A C:=⟨iS h.1 g.1,fun k a b=>(g.2 k a b).trans (h.2 k a b)⟩
theorem nV.put {lo hi l:Nat} (hl:hi≤l) (W:World) (o:Obj):nV lo hi W (W.putObj l o):=⟨by simp,fun k _ h=>World.putObj_heap_other (by omega)⟩
theorem nV.below {lo hi n:Nat} {A B:World} (h:Below n A B) (hn:hi≤n):nV lo hi A B:=⟨h.size,fun k _ hk=>h.block k (by omega)⟩
theorem nV.refl (lo hi:Nat) (A:World):nV lo hi A A:=⟨Nat.le_refl _,fun _ _ _=>rfl⟩
theorem nV.grown {lo hi:Nat} {A B:World} {row:Option Nat} (hg:A.grownBy B row) (hh:hi≤A.heap.size) (hr:∀k,row=some k→k<lo∨hi≤k):nV lo hi A B:=
 ⟨hg.size,fun k a b=>hg.block k (by omega) (fun e=>by have:=hr k e.symm;omega)⟩
def QG {α:Type} (P:Program) (g:Nat) (lb:Array Value) (encs:α→Array Value) (lo hi:Nat) (xs:List α) (w:World):Prop:=
 ∀(l:Nat) (J Jx:List α→World→Prop) (W:World),Below w.heap.size w W→OwnFrom W.heap.size J→(∀pre A k v,lo≤k→k<hi→J pre A→J pre (A.setCell ⟨k,0,none⟩ v))→
  (∀pre x W1,J pre W1→pre++[x]<+:xs→YieldAt Fence.wide 0 P l (encs x) W1 fun e W'=>(e= .returned (.bool true)∧J (pre++[x]) W'∧nV lo hi W1 W')∨(e= .returned (.bool false)∧Jx (pre++[x]) W'))→
  J [] W→Calls P g (#[.func (.yield l) #[] #[]]++lb) W fun e W'=>(∃v,e= .returned v)∧(J xs W'∨∃pre,pre<+:xs∧Jx pre W')
def UE {α:Type} (B lo hi:Nat) (I:List α→World→Prop) (Ix:Code→List α→World→Prop) (xs:List α) (W:World):Exit→Act→World→Prop
 | .normal,_,W'=>KeepsFrom B W W'∧nV lo hi W W'∧I xs W'
 | .ret,_,W'=>KeepsFrom B W W'∧Ix .ret xs W'
 |_,_,_=>False
theorem UQ {B:Nat} {W W':World} (h:KeepsFrom B W W') {k:Nat} {o:Obj} (hk:B≤k) (h0:W.heap[k]? =some o) (ho:o.isCells=false):W'.heap[k]? =some o:=h.same k o hk h0 ho
theorem zL {W W':World} {row:Option Nat} {B:Nat} (hg:W.grownBy W' row) (hr:∀r,row=some r→B≤r) {k:Nat} {o:Obj} (hk:W.heap[k]? =some o) (hkB:k<B):W'.heap[k]? =some o:=
 (hg.block k (Array.getElem?_eq_some_iff.1 hk).1 (fun e=>by have:=hr k e.symm;omega)).trans hk
theorem RZ {α : Type} {P : Program} {n : Nat} {g : Operand} {ps : Array Tmp} {assign body : Code} {Q : Exit → Act → World → Prop} {a : Act} {w : World} (h1 : 1 ≤ n) {gf : Nat} {lb : Array Value} (hg : a.eval g = .func (.func gf) #[] lb) (eg : ∀ args w, (callFunc gf args).run P w = .ok (.enter gf args) w) {encs : α → Array Value} {lo hi : Nat} {xs : List α} {w0 : World} (hseq : QG P gf lb encs lo hi xs w0) (hb0 : Below w0.heap.size w0 w) (hhi : hi ≤ w.heap.size) (hps : ∀ x, (encs x).size = ps.size) (I : List α → World → Prop) (Ix : Code → List α → World → Prop) (hI : OwnFrom w.heap.size I) (hIb : ∀ pre A k v, lo ≤ k → k < hi → I pre A → I pre (A.setCell ⟨k, 0, none⟩ v)) (hIx : ∀ c, OwnFrom w.heap.size (Ix c)) (h0 : I [] w) (Ax : α → Act → World → Prop) (hAx : ∀ x a', OwnFrom w.heap.size (fun (_ : Unit) W => Ax x a' W)) (hassign : ∀ (l : Nat) (pre : List α) (x : α) (W : World) (K : Act → World → Prop), I pre W → (∀ a' W', KeepsFrom w.heap.size W W' → nV lo hi W W' → I pre W' → Ax x a' W' → K a' W') → assign.wpIn (Fence.wide.inRound l) 0 P (Exit.then K (fun _ _ _ => False)) { tmps := (ps.zip (encs x)).foldl (fun t (p, v) => t.setIfInBounds p v) a.tmps, defers := [] } W) (hbody : ∀ (l : Nat) (pre : List α) (x : α) (a' : Act) (W : World), I pre W → Ax x a' W → pre ++ [x] <+: xs → body.wpIn (Fence.wide.inRound l) 0 P (UE w.heap.size lo hi I Ix (pre ++ [x]) W) a' W) (hdone : ∀ (D : Nat) (W : World), w.heap.size ≤ D → I xs W → W.heap[D]? = some (.deferred (some [])) → Q .normal { a with defers := { target := .collected D, args := #[] } :: a.defers } W) (hstop : ∀ (D : Nat) (c : Code) (pre : List α) (W : World), w.heap.size ≤ D → pre <+: xs → Ix c pre W → W.heap[D]? = some (.deferred (some [])) → c.wpIn Fence.wide n P Q { a with defers := { target := .collected D, args := #[] } :: a.defers } W) : (Code.rangeFunc g ps assign body).wpIn Fence.wide n P Q a w := by
  refine wpIn_rangeFunc ?_
  intro fn hfn
  obtain⟨rec,hrec⟩:∃rec:LoopState→Option Code→Loop,rec=fun st pe=>{state:=st,pending:=pe,fn,tmps:=a.tmps,params:=ps,assign,body,defers:=w.heap.size}:=⟨_,rfl⟩
  obtain⟨W1,hW1⟩:∃W1,(w.alloc (.deferred (some []))).alloc (.loop (rec .ready none))=W1:=⟨_,rfl⟩
  have hs1:W1.heap.size=w.heap.size+2:=by rw[←hW1];simp
  have hL1:W1.heap[w.heap.size+1]? =some (.loop (rec .ready none)):=by
    rw[←hW1]
    have:=World.alloc_heap_new (w.alloc (.deferred (some []))) (.loop (rec .ready none))
    rwa[World.size_alloc]at this
  have hK1:W1.heap[w.heap.size]? =some (.deferred (some [])):=by
    rw[←hW1]
    exact(Below.heap_alloc _ _ _ (by simp)).trans (World.alloc_heap_new w _)
  have hI1:I [] W1:=by rw[←hW1];exact hI.alloc _ (hI.alloc _ h0)
  have hb1:Below w0.heap.size w0 W1:=by
    rw[←hW1]
    exact hb0.trans ((((aD _ w).alloc (Nat.le_refl _) _).alloc (by simp) _).mono hb0.size)
  refine⟨w.heap.size+1,[{target:=.collected w.heap.size,args:=#[]}],W1,{target:=.fn (.func gf) lb,args:=#[.func (.yield (w.heap.size+1)) #[] #[]]},W1,gf,
    #[.func (.yield (w.heap.size+1)) #[] #[]]++lb,W1,?_,?_,?_,?_,fun _=>h1,?_⟩
  · rw[←hW1,hrec];exact run_enterLoop_outer _ _ _ _ _
  · simp only[resolve,hg]
    simp[go_sem]
  · intro f' _;exact trivial
  · simp[invoke,go_sem,eg]
  · refine callsIn_wide.2 ((hseq (w.heap.size+1)
      (fun pre W=>I pre W∧W.heap[w.heap.size+1]? =some (.loop (rec .ready none))∧W.heap[w.heap.size]? =some (.deferred (some [])))
      (fun pre W=>∃c,Ix c pre W∧W.heap[w.heap.size+1]? =some (.loop (rec .done (some c)))∧W.heap[w.heap.size]? =some (.deferred (some []))) W1 hb1
      (fun s A B row hs hg' hr=>⟨hI s A B row hs.1 hg' (fun r e=>⟨by have:=(hr r e).1;omega,(hr r e).2⟩),zL hg' (B:=W1.heap.size) (fun r e=>(hr r e).1) hs.2.1 (by omega),zL hg' (B:=W1.heap.size) (fun r e=>(hr r e).1) hs.2.2 (by omega)⟩)
      (fun pre A k v a1 a2 hs=>⟨hIb pre A k v a1 a2 hs.1,(Below.heap_setCell _ _ _ _ (by simp;omega)).trans hs.2.1,(Below.heap_setCell _ _ _ _ (by simp;omega)).trans hs.2.2⟩)
      ?_ ⟨hI1,hL1,hK1⟩).mono ?_)
    · rintro pre x W ⟨hi',hl,hk⟩ hpre
      have hy:=run_yield (P:=P) (args:=encs x) hl (by rw[hrec];exact hps x)
      rw[hrec]at hy
      refine⟨fn,_,assign,body,hy,roundIn_of_wpIn hfn (hassign _ pre x W _ hi' ?_)⟩
      clear hy
      intro a' Wa hkfa hkpa hia hax
      have hla:=UQ hkfa (by omega) hl rfl
      have hka:=UQ hkfa (Nat.le_refl _) hk rfl
      have hlt:w.heap.size+1<Wa.heap.size:=(Array.getElem?_eq_some_iff.1 hla).1
      refine⟨_,run_beginRound hla (by rw[hrec]),?_⟩
      have hl2:(Wa.putObj (w.heap.size+1) (.loop {rec .ready none with state:=.busy})).heap[w.heap.size+1]? =some (.loop {rec .ready none with state:=.busy}):=World.putObj_heap_same hlt
      have hk2:(Wa.putObj (w.heap.size+1) (.loop {rec .ready none with state:=.busy})).heap[w.heap.size]? =some (.deferred (some [])):=(World.putObj_heap_other (by omega)).trans hka
      have hw2:nV lo hi Wa (Wa.putObj (w.heap.size+1) (.loop {rec .ready none with state:=.busy})):=nV.put (by omega) _ _
      refine wpIn_mono (hbody _ pre x a' _ (hI.putObj _ hia (by omega) hla rfl) ((hAx x a').putObj (s:=()) _ hax (by omega) hla rfl) hpre) ?_
      have fin:∀(jump:Option Code) (W3:World),KeepsFrom w.heap.size (Wa.putObj (w.heap.size+1) (.loop {rec .ready none with state:=.busy})) W3→
          (Instr.endRound (w.heap.size+1) jump).run P W3= .ok (.bool jump.isNone) (W3.putObj (w.heap.size+1) (.loop (rec (if jump.isNone then .ready else .done) jump)))∧
          W3.heap[w.heap.size+1]? =some (.loop {rec .ready none with state:=.busy})∧
          (W3.putObj (w.heap.size+1) (.loop (rec (if jump.isNone then .ready else .done) jump))).heap[w.heap.size+1]? =some (.loop (rec (if jump.isNone then .ready else .done) jump))∧
          (W3.putObj (w.heap.size+1) (.loop (rec (if jump.isNone then .ready else .done) jump))).heap[w.heap.size]? =some (.deferred (some [])):=fun jump W3 hk3=>by
        have hl3:=UQ hk3 (by omega) hl2 rfl
        have:=run_endRound (P:=P) jump hl3
        rw[hrec]at this⊢
        exact⟨this,by rw[hrec]at hl3;exact hl3,World.putObj_heap_same (Array.getElem?_eq_some_iff.1 hl3).1,(World.putObj_heap_other (by omega)).trans (UQ hk3 (Nat.le_refl _) hk2 rfl)⟩
      rintro e a3 W3 hp
      cases e with
      |normal=>
        obtain⟨hk3,hkp3,hi3⟩:=hp
        obtain⟨hr,hl3,hl4,hk4⟩:=fin none W3 hk3
        exact⟨_,_,hr,.inl ⟨rfl,⟨hI.putObj _ hi3 (by omega) hl3 rfl,hl4,hk4⟩,(hkpa.trans hw2).trans (hkp3.trans (nV.put (by omega) _ _))⟩⟩
      |ret=>
        obtain⟨hk3,hi3⟩:=hp
        obtain⟨hr,hl3,hl4,hk4⟩:=fin (some .ret) W3 hk3
        exact⟨_,_,hr,.inr ⟨rfl,.ret,(hIx _).putObj _ hi3 (by omega) hl3 rfl,hl4,hk4⟩⟩
      |exit id=>exact hp.elim
      |goto t=>exact hp.elim
      |panic ch=>exact hp.elim
      |outgrown=>exact hp.elim
    · rintro e W2 ⟨⟨v,rfl⟩,(⟨hi',hl,hk⟩|⟨pre,hSp,c,hi',hl,hk⟩)⟩
      · exact⟨none,_,by have:=run_endLoop (P:=P) hl (by rw[hrec];simp);rw[hrec]at this;exact this,hdone _ _ (Nat.le_refl _) (hI.putObj _ hi' (by omega) hl rfl) ((World.putObj_heap_other (by omega)).trans hk)⟩
      · exact⟨some c,_,by have:=run_endLoop (P:=P) hl (by rw[hrec];simp);rw[hrec]at this;exact this,hstop _ c pre _ (Nat.le_refl _) hSp ((hIx c).putObj _ hi' (by omega) hl rfl) ((World.putObj_heap_other (by omega)).trans hk)⟩
end Go.Proofs.YtkcmamepoplcdaaGreatDoor
