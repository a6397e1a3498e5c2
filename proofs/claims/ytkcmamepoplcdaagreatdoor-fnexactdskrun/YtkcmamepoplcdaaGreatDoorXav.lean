/-
  A run of lines, as lists; slots in the world.
-/
import Derived.Test.YtkcmamepoplcdaaGreatDoorXau
import Derived.OneCell
set_option maxHeartbeats 4000000
set_option maxRecDepth 100000
namespace Go.Proofs.YtkcmamepoplcdaaGreatDoor
open Go.RowKit Go.Deep
set_option linter.unusedVariables false
set_option linter.unusedSimpArgs false
def iU (n:Nat):List UInt8:=[108,105,110,101,32]++Lib.decDigits n
def iV (n:Nat):List UInt8:=[116,111,111,32,109,117,99,104,32]++Lib.decDigits n
abbrev OJ:=(Nat→List T)×List (List UInt8)
def oO (l:kR) (F:Nat→List T):List T×Bool:=aL l.k l.to l.a l.b l.P 6 (fun i=>(F i).length) (fun i=>lf (F i))
def eG (i:Nat) (s:List UInt8) (st:OJ):OJ:=
 if(eI s).2=false then(st.1,st.2++[iU (i+1)])
 else if(oO (eI s).1 st.1).2=false then(st.1,st.2++[iV (i+1)])
 else if(eI s).1.k=8 then(st.1,st.2++[cO (oO (eI s).1 st.1).1.length (lf (oO (eI s).1 st.1).1)])
 else(fun j=>if j=(eI s).1.to.toNat then(oO (eI s).1 st.1).1 else st.1 j,st.2)
def iI (W:List (List UInt8)):Nat→OJ
 |0=>(fun _=>[],[])
 |k+1=>eG k (W.getD k []) (iI W k)
def eJ (W:List (List UInt8)):List (List UInt8):=if 60<W.length then[[108,111,110,103]]else(iI W W.length).2
theorem zA {i:Nat} {s:List UInt8} {st:OJ} (h:(eI s).2=false):eG i s st=(st.1,st.2++[iU (i+1)]):=by unfold eG;rw[if_pos h]
theorem sA {i:Nat} {s:List UInt8} {st:OJ} (h:(eI s).2=true) (q:(oO (eI s).1 st.1).2=false):eG i s st=(st.1,st.2++[iV (i+1)]):=by unfold eG;rw[if_neg (by rw[h];simp),if_pos q]
theorem sB {i:Nat} {s:List UInt8} {st:OJ} (h:(eI s).2=true) (q:(oO (eI s).1 st.1).2=true) (k:(eI s).1.k=8):eG i s st=(st.1,st.2++[cO (oO (eI s).1 st.1).1.length (lf (oO (eI s).1 st.1).1)]):=by unfold eG;rw[if_neg (by rw[h];simp),if_neg (by rw[q];simp),if_pos k]
theorem uI {i:Nat} {s:List UInt8} {st:OJ} (h:(eI s).2=true) (q:(oO (eI s).1 st.1).2=true) (k:(eI s).1.k≠8):eG i s st=(fun j=>if j=(eI s).1.to.toNat then(oO (eI s).1 st.1).1 else st.1 j,st.2):=by unfold eG;rw[if_neg (by rw[h];simp),if_neg (by rw[q];simp),if_neg k]
theorem oC (W:List (List UInt8)):∀k,(iI W k).2.length≤k
 |0=>Nat.le_refl _
 |k+1=>by
  have:=oC W k;unfold iI eG
  repeat' split
  all_goals simp only[List.length_append,List.length_cons,List.length_nil];omega
def sS (w:World) (b:Nat) (F:Nat→List T) (ad:Nat→Option Addr) (cp:Nat→Nat):Prop:=
 w.rowIs b 22 6 (fun i=>.slice (ad i) (F i).length (cp i))∧∀i,i<6→Rd w (ad i) (F i).length (cp i) (lf (F i))∧((F i).length=0∨∃g off c,ad i=some ⟨g,off,none⟩∧w.heap[g]? =some (.cells c 79 (0,0)))
theorem sS.lt {w:World} {b:Nat} {F:Nat→List T} {ad:Nat→Option Addr} {cp:Nat→Nat} (h:sS w b F ad cp):b<w.heap.size:=h.1.lt
theorem sS.rds {w:World} {b:Nat} {F:Nat→List T} {ad:Nat→Option Addr} {cp:Nat→Nat} (h:sS w b F ad cp):pT w (some ⟨b,0,none⟩) 6 6 ad (fun i=>(F i).length) cp (fun i=>lf (F i)):=
 ⟨Nat.le_refl _,by omega,.inr ⟨b,0,rfl,h.lt,fun i hi=>by rw[Nat.zero_add];exact h.1.cell hi⟩,fun i hi=>(h.2 i hi).1⟩
theorem vA {w:World} {g:Nat} {o:Obj} (h:w.heap[g]? =some o):g<w.heap.size:=(Array.getElem?_eq_some_iff.1 h).1
theorem sS.below {w w':World} {b:Nat} {F:Nat→List T} {ad:Nat→Option Addr} {cp:Nat→Nat} (h:sS w b F ad cp) (hb:Below w.heap.size w w'):sS w' b F ad cp:=
 ⟨h.1.of_block (hb.block b h.lt),fun i hi=>⟨(h.2 i hi).1.below hb,(h.2 i hi).2.imp id (fun⟨g,off,c,e,q⟩=>⟨g,off,c,e,(hb.block g (vA q)).trans q⟩)⟩⟩
theorem sS.grown {w w':World} {b:Nat} {F:Nat→List T} {ad:Nat→Option Addr} {cp:Nat→Nat} {row:Option Nat} (h:sS w b F ad cp) (hg:w.grownBy w' row) (hr:∀g,row=some g→∃c,w.heap[g]? =some (.cells c 9 (0,0))):sS w' b F ad cp:=by
 have hne:∀g c t,w.heap[g]? =some (.cells c t (0,0))→t≠9→some g≠row:=fun g c t q hn e=>by obtain⟨c',q'⟩:=hr g e.symm;rw[q]at q';injection q' with q';injection q' with _ q2;exact hn q2
 obtain⟨c0,hc0,hz⟩:=h.1;have hb:some b≠row:=hne b c0 _ hc0 (by decide)
 refine⟨h.1.of_block (hg.block b h.lt hb),fun i hi=>?_⟩;rcases(h.2 i hi).2 with h0|⟨g,off,c,e,q⟩
 ·exact⟨(h.2 i hi).1.grown hg (.inl h0),.inl h0⟩
 ·have hgn:some g≠row:=hne g c _ q (by decide);exact⟨(h.2 i hi).1.grown hg (.inr (fun b' off' e'=>by rw[e]at e';cases e';exact hgn)),.inr ⟨g,off,c,e,(hg.block g (vA q) hgn).trans q⟩⟩
theorem zG {w:World} {a:Option Addr} {n:Nat} {f:Nat→T} (h:Wr w a n f):n=0∨∃g off c,a=some ⟨g,off,none⟩∧w.heap[g]? =some (.cells c 79 (0,0)):=by
 rcases h with h0|⟨g,off,N,F,e,⟨c,hc,_⟩,_,_⟩
 ·exact .inl h0
 ·exact .inr ⟨g,off,c,e,hc⟩
theorem CD {w:World} {a:Option Addr} {n cap b k:Nat} {f:Nat→T} {v:Value} (h:Rd w a n cap f) (hn:n=0∨∀g off,a=some ⟨g,off,none⟩→g≠b):Rd (w.setCell ⟨b,k,none⟩ v) a n cap f:=by
 obtain⟨h1,h2,h3⟩:=h;refine⟨h1,h2,?_⟩;rcases h3 with h0|⟨g,off,e,hlt,hc⟩
 ·exact .inl h0
 ·rcases hn with h0|hn
  ·exact .inl h0
  ·have hg:=hn g off e;have ne:∀j,(⟨b,k,none⟩:Addr)≠⟨g,j,none⟩:=fun j q=>hg (by cases q;rfl)
   refine .inr ⟨g,off,e,by simpa using hlt,fun i hi=>?_⟩;obtain⟨c0,c1,c2,c3,c4⟩:=hc i hi;exact⟨by rw[World.cell?_setCell_other _ _ _ _ (ne _)];exact c0,by rw[World.cell?_setCell_other _ _ _ _ (ne _)];exact c1,by rw[World.cell?_setCell_other _ _ _ _ (ne _)];exact c2,by rw[World.cell?_setCell_other _ _ _ _ (ne _)];exact c3,by rw[World.cell?_setCell_other _ _ _ _ (ne _)];exact c4⟩
theorem sS.set {w:World} {b:Nat} {F:Nat→List T} {ad:Nat→Option Addr} {cp:Nat→Nat} (h:sS w b F ad cp) (k:Nat) {a:Option Addr} {cap:Nat} {L:List T} (hR:Rd w a L.length cap (lf L)) (hW:Wr w a L.length (lf L)):sS (w.setCell ⟨b,k,none⟩ (.slice a L.length cap)) b (fun j=>if j=k then L else F j) (fun j=>if j=k then a else ad j) (fun j=>if j=k then cap else cp j):=by
 obtain⟨c0,hc0,hz⟩:=h.1
 have hty:∀(a:Option Addr) (n:Nat),(n=0∨∃g off c,a=some ⟨g,off,none⟩∧w.heap[g]? =some (.cells c 79 (0,0)))→n=0∨∀g off,a=some ⟨g,off,none⟩→g≠b:=fun a n q=>q.imp id (fun⟨g,off,c,e,q⟩ g' off' e' e2=>by
  rw[e]at e';cases e';rw[e2,hc0]at q;injection q with q;injection q with _ q2
  exact absurd q2 (by decide))
 have htp:∀(a:Option Addr) (n:Nat) (v:Value),(n=0∨∃g off c,a=some ⟨g,off,none⟩∧w.heap[g]? =some (.cells c 79 (0,0)))→(n=0∨∃g off c,a=some ⟨g,off,none⟩∧(w.setCell ⟨b,k,none⟩ v).heap[g]? =some (.cells c 79 (0,0))):=fun a n v q=>by
  rcases hty a n q with h0|hn
  ·exact .inl h0
  ·exact q.imp id (fun⟨g,off,c,e,q⟩=>⟨g,off,c,e,(Below.heap_setCell _ _ _ _ (hn g off e)).trans q⟩)
 refine⟨(h.1.set k _).congr (fun j hj=>?_),fun i hi=>?_⟩
 ·by_cases e:j=k
  ·simp[e]
  ·simp[e]
 ·by_cases e:i=k
  ·simp only[if_pos e];exact⟨CD hR (hty _ _ (zG hW)),htp _ _ _ (zG hW)⟩
  ·simp only[if_neg e];exact⟨CD (h.2 i hi).1 (hty _ _ (h.2 i hi).2),htp _ _ _ (h.2 i hi).2⟩
theorem MQ {lo:Nat} {v:Value} {xs:List (List UInt8)} {w:World} {b k:Nat} {u:Value} (h:oJ lo v xs w) {n:Nat} {f:Nat→Value} (hb:w.rowIs b 22 n f):oJ lo v xs (w.setCell ⟨b,k,none⟩ u):=by
 refine ownsRow_setCell_other h (a:=⟨b,k,none⟩) (fun e=>?_) u;obtain⟨c0,hc0,_⟩:=hb;rcases h.2 with⟨q,_⟩|⟨g,cap,cur,q,_,h3,_⟩
 ·rw[q]at e;cases e
 ·rw[q]at e;have e2:g=b:=by simpa[Value.ownBlock]using e
  rw[e2,hc0]at h3;injection h3 with h3;injection h3 with _ h4;exact absurd h4 (by decide)
theorem jR {lo:Nat} {v:Value} {xs:List (List UInt8)} {w:World} (h:oJ lo v xs w):∀g,v.ownBlock=some g→lo≤g∧∃c,w.heap[g]? =some (.cells c 9 (0,0)):=fun g e=>by
 rcases h.2 with⟨q,_⟩|⟨g',cap,cur,q,hlo,h3,_⟩
 ·rw[q]at e;cases e
 ·rw[q]at e;have e2:g'=g:=by simpa[Value.ownBlock]using e
  subst e2;exact⟨hlo,cur,h3⟩
theorem MO (w:World) (lo:Nat):oJ lo (.slice none 0 0) [] w:=⟨rfl,.inl ⟨rfl,rfl⟩⟩
def qN (w:World) (a:Option Addr) (cap:Nat) (W:List (List UInt8)):Prop:=W.length≤cap∧(W.length=0∨∃b off,a=some ⟨b,off,none⟩∧b<w.heap.size∧∀(i:Nat) (l:List UInt8),W[i]? =some l→w.cell? ⟨b,off+i,none⟩=some (.string ⟨l.toArray⟩))∧∀l∈W,l.length≤1048576
theorem qN.below {w w':World} {a:Option Addr} {cap:Nat} {W:List (List UInt8)} (h:qN w a cap W) (hb:Below w.heap.size w w'):qN w' a cap W:=
 ⟨h.1,h.2.1.imp id (fun⟨b,off,e,hlt,hc⟩=>⟨b,off,e,eB hlt hb.size,fun i l hl=>(hb.cell (p:=⟨b,off+i,none⟩) hlt).trans (hc i l hl)⟩),h.2.2⟩
theorem NY (w:World):(Instr.makeSlice 60 (.int .i64 6) (.int .i64 6)).run Tryz.prog w= .ok (.slice (some ⟨w.heap.size,0,none⟩) 6 6) (w.alloc (.cells #[.slice none 0 0,.slice none 0 0,.slice none 0 0,.slice none 0 0,.slice none 0 0,.slice none 0 0] 22)):=by kernel_rfl
def CO (w wr:World) (b:Nat) (F:Nat→List T) (out:List (List UInt8)) (ad:Nat→Option Addr) (cp:Nat→Nat) (tv:Value):Prop:=sS wr b F ad cp∧oJ w.heap.size tv out wr∧Below w.heap.size w wr
theorem CO.below {w wr w':World} {b:Nat} {F:Nat→List T} {out:List (List UInt8)} {ad:Nat→Option Addr} {cp:Nat→Nat} {tv:Value} (h:CO w wr b F out ad cp tv) (hb:Below wr.heap.size wr w'):CO w w' b F out ad cp tv:=
 ⟨h.1.below hb,aK h.2.1 hb,aC h.2.2 hb⟩
theorem CO.app {w wr w7:World} {b:Nat} {F:Nat→List T} {out:List (List UInt8)} {ad:Nat→Option Addr} {cp:Nat→Nat} {tv:Value} (h:CO w wr b F out ad cp tv) {t:List UInt8} {g1 cap1:Nat} (hown:w7.ownsRow w.heap.size 9 1 (.slice (some ⟨g1,0,none⟩) (out.length+1) cap1) (out.length+1) (uM out++[.string ⟨t.toArray⟩])) (hg:wr.grownBy w7 tv.ownBlock):CO w w7 b F (out++[t]) ad cp (.slice (some ⟨g1,0,none⟩) (out.length+1) cap1):=by
 have ht:=jR h.2.1;refine⟨h.1.grown hg (fun g e=>(ht g e).2),?_,h.2.2.grown hg h.2.2.size (fun k e=>(ht k e).1)⟩;show World.ownsRow _ _ _ _ _ _ _
 rw[kO,List.length_append];exact hown
theorem CO.set {w wr:World} {b:Nat} {F:Nat→List T} {out:List (List UInt8)} {ad:Nat→Option Addr} {cp:Nat→Nat} {tv:Value} (h:CO w wr b F out ad cp tv) (hb:w.heap.size≤b) (k:Nat) {a:Option Addr} {cap:Nat} {L:List T} (hR:Rd wr a L.length cap (lf L)) (hW:Wr wr a L.length (lf L)):CO w (wr.setCell ⟨b,k,none⟩ (.slice a L.length cap)) b (fun j=>if j=k then L else F j) out (fun j=>if j=k then a else ad j) (fun j=>if j=k then cap else cp j) tv:=
 ⟨h.1.set k hR hW,MQ h.2.1 h.1.1,h.2.2.setCell hb _⟩
theorem sS.new (w:World):sS (w.alloc (.cells #[.slice none 0 0,.slice none 0 0,.slice none 0 0,.slice none 0 0,.slice none 0 0,.slice none 0 0] 22)) w.heap.size (fun _=>[]) (fun _=>none) (fun _=>0):=
 ⟨⟨_,heap_alloc_new w _,rfl,fun j hj=>by rcases(show j=0∨j=1∨j=2∨j=3∨j=4∨j=5 by omega)with rfl|rfl|rfl|rfl|rfl|rfl<;>rfl⟩,fun i hi=>⟨⟨Nat.le_refl _,by simp,.inl rfl⟩,.inl rfl⟩⟩
def ES (k:Nat):List UInt8:=109::Lib.decDigits k
def MD (k n:Nat):List (List UInt8):=(List.range n).map fun i=>ES (k+i)
theorem qB (k n:Nat):(MD k n).length=n:=by simp[MD]
theorem GZ {k n i:Nat} (h:i<n):(MD k n)[i]? =some (ES (k+i)):=by simp[MD,List.getElem?_range h]
theorem MG {n:Nat} (h:n≤9000000):(ES n).length≤21:=by have:=oM (n:=n) (by omega);unfold ES;simp only[List.length_cons];omega
theorem tY (n:Nat) (hn:n≤9000000) (n1:1≤n) (w:World):Calls Tryz.prog 46 #[.int .i64 (n:Int)] w fun r w'=>r= .returned (.string ⟨(ES n).toArray⟩)∧Below w.heap.size w w':=by
 have h1:¬(n:Int)≤0:=by omega
 go_enter Tryz.func46,Tryz.ntmps46;go_wp2;go_loopw [0,3] (fun v0 v3 wr=>∃(k:Nat) (out:List UInt8),k≤n∧v0= .int .i64 (k:Int)∧v3= .string ⟨out.toArray⟩∧Hid (oL k out=Lib.decDigits n)∧Below w.heap.size w wr) (fun v0 _ _=>(intOf v0).toNat);case atStart=>exact⟨n,[],Nat.le_refl _,rfl,rfl,aA (qT (by omega)),aD _ _⟩
 case round=>
  obtain⟨k,out,hk,rfl,rfl,HD,hB⟩:=hrel;have hlen:out.length≤20:=by
   have h1:=xK k out;rw[HD.out]at h1;have:=oM (n:=n) (by omega)
   omega
  have HB:=aA hB;clear hB;by_cases hk0:k=0
  ·subst hk0;have he:out=Lib.decDigits n:=(tO out).symm.trans HD.out
   have HE:=aA he;clear he;have hszE:¬(9223372036854775807<1+out.length):=by omega
   have hcat:(⟨#[109]⟩:ByteArray)++⟨out.toArray⟩=⟨(ES n).toArray⟩:=by rw[HE.out];apply ByteArray.ext;simp[ES]
   go_wp2;go_ret;exact⟨by first|rfl|rw[←hcat],HB.out⟩
  ·have hkp:(0:Int)<(k:Int):=by omega
   have hr1:(k:Int).tmod 10=((k%10:Nat):Int):=by rw[Int.tmod_eq_emod_of_nonneg (by omega)];omega
   have hq1:(k:Int).tdiv 10=((k / 10:Nat):Int):=by rw[Int.tdiv_eq_ediv_of_nonneg (by omega)];omega
   obtain⟨r,hr⟩:∃r,k%10=r:=⟨_,rfl⟩
   obtain⟨q,hq⟩:∃q,k / 10=q:=⟨_,rfl⟩
   have hr10:r<10:=by omega
   have hqk:q<k:=by omega
   have hD2:oL q (UInt8.ofNat (48+r)::out)=Lib.decDigits n:=by rw[←hr,←hq,tN (by omega)];exact HD.out
   have HD2:=aA hD2;rw[hr]at hr1;rw[hq]at hq1;clear hD2 HD hr hq;have hr2:(k:Int)%10=(r:Int):=by rw[←hr1,Int.tmod_eq_emod_of_nonneg (by omega)]
   have hq2:(k:Int) / 10=(q:Int):=by rw[←hq1,Int.tdiv_eq_ediv_of_nonneg (by omega)]
   have hw1:IntKind.i64.wrap (48+(r:Int))=((48+r:Nat):Int):=by rw[IntKind.wrap_i64];omega
   have hw2:IntKind.u8.wrap ((48+r:Nat):Int)=((48+r:Nat):Int):=by rcases(show r=0∨r=1∨r=2∨r=3∨r=4∨r=5∨r=6∨r=7∨r=8∨r=9 by omega)with rfl|rfl|rfl|rfl|rfl|rfl|rfl|rfl|rfl|rfl<;>decide
   have hw3:IntKind.u8.wrap (48+(r:Int))=((48+r:Nat):Int):=by rw[show 48+(r:Int)=((48+r:Nat):Int) by omega];exact hw2
   have hcv:=xC wr (48+r) (by omega);obtain⟨x,hx⟩:∃x,48+r=x:=⟨_,rfl⟩
   rw[hx]at hw1 hw2 hw3 hcv HD2;have hx48:48+(r:Int)=(x:Int):=by omega
   clear hx;have hsz:¬(1+out.length>9223372036854775807):=by omega
   have hsz2:¬(9223372036854775807<1+out.length):=by omega
   go_wp2;go_roundw;case rel=>exact⟨q,UInt8.ofNat x::out,by omega,by first|rfl|(simp[hq2];done)|(simp[hq1];done),by first|rfl|(rw[ByteArray.ext_iff];simp[ByteArray.data_append];done),HD2,aC HB.out (aF _ _)⟩
   case measure=>simp[intOf];omega
theorem JP (W:List (List UInt8)) (a:Option Addr) (cap:Nat) (w:World) (hW:(W.length:Int)≤9223372036854775807) (h:W.length=0∨∃b off,a=some ⟨b,off,none⟩∧b<w.heap.size∧∀(i:Nat) (l:List UInt8),W[i]? =some l→w.cell? ⟨b,off+i,none⟩=some (.string ⟨l.toArray⟩)) (hl:∀l∈W,(l.length:Int)≤9223372036854775807):Calls Tryz.prog 13 #[.slice a W.length cap,.int .i64 1048576] w fun r w'=>Below w.heap.size w w'∧∃v:Int,r= .returned (.int .i64 v)∧(v<0∨(0≤v∧W.length≤1048576∧∀l∈W,l.length≤1048576)):=by
 obtain⟨n,hn⟩:∃n,W.length=n:=⟨_,rfl⟩
 have HN:=aA hn;have HL:=aA hl
 have HH:=aA h;rw[hn]at HH hW⊢;clear hn hl h;have hw0:IntKind.i64.wrap ((1048576:Int)-(n:Int))=(1048576:Int)-(n:Int):=by rw[IntKind.wrap_i64];omega
 by_cases h0:(1048576:Int)-(n:Int)<0
 ·go_enter Tryz.func13,Tryz.ntmps13;go_wp2;go_ret;exact⟨aD _ _,_,rfl,.inl (by decide)⟩
 ·go_enter Tryz.func13,Tryz.ntmps13;go_wp2;go_loopw [1,5] (fun vl vi wr=>∃(k:Nat) (v:Int),k≤n∧vi= .int .i64 (k:Int)∧vl= .int .i64 v∧0≤v∧v≤1048576∧Below w.heap.size w wr∧Hid (∀(i:Nat) (l:List UInt8),i<k→W[i]? =some l→l.length≤1048576)) (fun _ vi _=>n-(intOf vi).toNat);case atStart=>exact⟨0,_,gO _,rfl,rfl,by omega,by omega,aD _ _,aA (fun i l hi=>absurd hi (Nat.not_lt_zero _))⟩
  case round=>
   obtain⟨k,v,hk,rfl,rfl,v0,v1,hB,HA⟩:=hrel;have HB:=aA hB
   by_cases hkn:k<n
   ·have hknI:(k:Int)<(n:Int):=by omega
    obtain⟨b,off,rfl,hlt,hc⟩:=HH.out.resolve_left (by omega);obtain⟨l,hl⟩:∃l,W[k]? =some l:=⟨_,List.getElem?_eq_getElem (by rw[HN.out];exact hkn)⟩
    have hll:=HL.out l (List.mem_of_getElem? hl);have hcx:=(hB.cell (p:=⟨b,off+k,none⟩) hlt).trans (hc k l hl)
    have hw1:IntKind.i64.wrap (v-(l.length:Int))=v-(l.length:Int):=by rw[IntKind.wrap_i64];omega
    have HL1:=aA hl;clear hc hl hB;by_cases hv:v-(l.length:Int)<0
    ·go_wp2;go_ret;exact⟨HB.out,_,rfl,.inl (by decide)⟩
    ·have HA2:Hid (∀(i:Nat) (l:List UInt8),i<k+1→W[i]? =some l→l.length≤1048576):=aA (fun i l' hi e=>by
      by_cases hik:i=k
      ·subst hik;have e2:=Option.some.inj (HL1.out.symm.trans e)
       rw[←e2];omega
      ·exact HA.out i l' (by omega) e)
     clear HA HL1;go_wp2;go_roundw;case rel=>exact⟨k+1,v-(l.length:Int),by omega,by go_num,rfl,by omega,by omega,HB.out,HA2⟩
     case measure=>simp[intOf];omega
   ·have hknI:¬(k:Int)<(n:Int):=by omega
    clear hB;go_wp2;go_ret
    exact⟨HB.out,_,rfl,.inr ⟨v0,by omega,fun l hl=>by
     obtain⟨i,hi,e⟩:=List.getElem_of_mem hl
     exact HA.out i l (by have:=HN.out;omega) (by rw[List.getElem?_eq_getElem hi,e])⟩⟩
theorem xO (w:World) (a b:Option Addr) (ca cb:Nat) (W:List (List UInt8)) (hn:W.length≤9000000) (h:qN w a ca W) (h':qN w b cb W):Calls Tryz.prog 17 #[.slice a W.length ca,.slice b W.length cb] w fun r w'=>r= .returned (.bool true)∧Below w.heap.size w w':=by
 obtain⟨n,hL⟩:∃n,W.length=n:=⟨_,rfl⟩
 obtain⟨-,h, -⟩:=h;obtain⟨-,h', -⟩:=h';rw[hL]at h h' hn⊢;go_enter Tryz.func17,Tryz.ntmps17;go_wp2;go_loopw [5] (fun i wr=>∃(k:Nat),k≤n∧i= .int .i64 k∧Below w.heap.size w wr) (fun i _=>n-(intOf i).toNat);case atStart=>exact⟨0,gO _,rfl,aD _ _⟩
 case round=>
  obtain⟨k,hk,rfl,hB⟩:=hrel;by_cases hlt:k<n
  ·obtain⟨b1,o1,rfl,l1,c1⟩:=h.resolve_left (by omega);obtain⟨b2,o2,rfl,l2,c2⟩:=h'.resolve_left (by omega);have hkn:(k:Int)<(n:Int):=by omega
   obtain⟨l,hl⟩:∃l,W[k]? =some l:=⟨_,List.getElem?_eq_getElem (by omega)⟩
   have g1:=(hB.cell (p:=⟨b1,o1+k,none⟩) l1).trans (c1 k l hl);have g2:=(hB.cell (p:=⟨b2,o2+k,none⟩) l2).trans (c2 k l hl)
   have hll:(l !=l)=false:=by simp
   clear c1 c2 hl;go_wp2_with fail
   go_quiet (fail)
   go_wp2;go_roundw;case rel=>exact⟨k+1,by omega,by go_num,below_drewN hB _⟩
   case measure=>simp[intOf];omega
  ·have hkn:¬(k:Int)<(n:Int):=by omega
   clear h h';go_wp2;go_ret;exact⟨rfl,hB⟩
def tx (W:List (List UInt8)) (i:Nat):Value:=.string ⟨(W.getD i []).toArray⟩
theorem OE {W:List (List UInt8)} {i:Nat} {l:List UInt8} (h:W[i]? =some l):tx W i= .string ⟨l.toArray⟩:=by unfold tx;rw[List.getD_eq_getElem?_getD,h];rfl
theorem NB {w:World} {g N:Nat} {f:Nat→Value} {W:List (List UInt8)} (h:w.rowIs g 9 N f) (hn:W.length≤N) (hf:∀i,i<W.length→f i=tx W i) (cap:Nat) (hc:W.length≤cap) (hl:∀l∈W,l.length≤1048576):qN w (some ⟨g,0,none⟩) cap W:=
 ⟨hc,.inr ⟨g,0,rfl,h.lt,fun i l hi=>by
  have hlt:=(List.getElem?_eq_some_iff.1 hi).1
  rw[Nat.zero_add,h.cell (show i<N by omega),hf i hlt,OE hi]⟩,hl⟩
theorem zV {ops:Array Oper} {rest:List Oper} {o:Oper} {a:Act} {Q:Exit→Act→World→Prop} (w:World) (hg:o.guard=none) (l c:Operand) (hop:o.op=Op.makeSlice 30 l c) (n:Nat) (hl:a.eval l= .int .i64 (n:Int)) (hc:a.eval c= .int .i64 (n:Int)) (hbytes:n*40≤140737488351232) (hK:(w.alloc (.cells (madeCells #[.string ⟨#[]⟩] n) 9)).rowIs w.heap.size 9 n (fun _=>.string ⟨#[]⟩)→wpList Tryz.prog ops Q rest (a.put o.dst (.slice (some ⟨w.heap.size,0,none⟩) n n)) (w.alloc (.cells (madeCells #[.string ⟨#[]⟩] n) 9))):wpList Tryz.prog ops Q (o::rest) a w:=by
 obtain⟨i,hi,hz,hs,hb⟩:=info_parts oQ;refine wpList_plain hg fun K hK'=>?_;have hr:=run_make (P:=Tryz.prog) w 30 9 i _ Tryz.underlying30 hi hz .i64 .i64 (n:Int) (n:Int) (by omega) (Int.le_refl _) (by rw[hb];omega) (by omega)
 simp only[Int.toNat_natCast,hs,Value.cells,Nat.mul_one]at hr;unfold Oper.wp;simp[execOp,hop,hl,hc,hr,Result.andThen];refine hK' _ _ (hK ?_);refine⟨_,Go.Deep.blk_alloc_new _ _,size_madeCells _ _,fun j hj=>?_⟩;simp[madeCells,hj,Nat.mod_one]
def rS (W:List (List UInt8)) (k j:Nat):Value:=if j<k then tx W j else .string ⟨#[]⟩
theorem AA {w:World} {g n k:Nat} {W:List (List UInt8)} {l:List UInt8} (hl:W[k]? =some l) (h:w.rowIs g 9 n (rS W k)):(w.setCell ⟨g,k,none⟩ (.string ⟨l.toArray⟩)).rowIs g 9 n (rS W (k+1)):=by
 refine(h.set _ _).congr fun j hj=>?_;by_cases e:j=k
 ·subst e;simp[rS,OE hl]
 ·unfold rS;by_cases hl:j<k
  ·rw[if_pos (show j<k+1 by omega)];simp[e,hl]
  ·rw[if_neg (show ¬j<k+1 by omega)];simp[e,hl]
theorem JS (w:World) (a:Option Addr) (cap:Nat) (W:List (List UInt8)) (hn:W.length≤1048576) (h:qN w a cap W):Calls Tryz.prog 15 #[.slice a W.length cap] w fun r w'=>r= .returned (.slice (some ⟨w.heap.size,0,none⟩) W.length W.length)∧Below w.heap.size w w'∧w'.rowIs w.heap.size 9 W.length (tx W):=by
 obtain⟨n,hL⟩:∃n,W.length=n:=⟨_,rfl⟩
 have HH:=aA h.2.1;have HN:=aA hL
 clear h;rw[hL]at HH hn⊢;clear hL;go_enter Tryz.func15,Tryz.ntmps15;go_wp2_with (at_make;refine zV _ rfl _ _ rfl n rfl rfl (by omega) ?_;intro hrow);go_loopw [4] (fun i wr=>∃(k:Nat),k≤n∧i= .int .i64 k∧Below w.heap.size w wr∧wr.rowIs w.heap.size 9 n (rS W k)) (fun i _=>n-(intOf i).toNat);case atStart=>exact⟨0,gO _,rfl,(aD _ _).alloc (Nat.le_refl _) _,hrow.congr fun j _=>by simp[rS]⟩
 case round=>
  obtain⟨k,hk,rfl,hB,hR⟩:=hrel;by_cases hlt:k<n
  ·obtain⟨b,off,rfl,hblt,hcl⟩:=HH.out.resolve_left (by omega);have hkn:(k:Int)<(n:Int):=by omega
   obtain⟨l,hl⟩:∃l,W[k]? =some l:=⟨_,List.getElem?_eq_getElem (by rw[HN.out];exact hlt)⟩
   have g0:wr.cell? ⟨b,off+k,none⟩=some (.string ⟨l.toArray⟩):=(hB.cell (p:=⟨b,off+k,none⟩) hblt).trans (hcl k l hl);have q0:=hR.cell (i:=k) hlt
   have fz:=fun i=>hR.frozen i;have HX:=aA (AA hl hR)
   have HB:=aA hB;clear hR hcl hB hl;go_wp2;go_roundw;case rel=>exact⟨k+1,by omega,by go_num,HB.out.setCell (Nat.le_refl _) _,HX.out⟩
   case measure=>simp[intOf];omega
  ·have hkn:k=n:=by omega
   subst hkn;have HR:=aA hR
   clear hR;go_wp2;go_ret;exact⟨rfl,hB,HR.out.congr fun j hj=>by unfold rS;rw[if_pos hj]⟩
theorem zQ (w:World) (a:Option Addr) (cap k n:Nat) (hn:n≤1048576) (k1:1≤k) (k2:k≤2000000) (h:qN w a cap (MD k n)):Calls Tryz.prog 19 #[.slice a n cap,.int .i64 (k:Int)] w fun r w'=>r= .returned (.int .i64 ((k+n:Nat):Int))∧Below w.heap.size w w':=by
 have HH:=aA h.2.1;rw[qB]at HH;clear h;go_enter Tryz.func19,Tryz.ntmps19;go_wp2;go_loopw [1,5] (fun vk vi wr=>∃(j:Nat),j≤n∧vi= .int .i64 (j:Int)∧vk= .int .i64 ((k+j:Nat):Int)∧Hid (Below w.heap.size w wr)) (fun _ vi _=>n-(intOf vi).toNat);case atStart=>exact⟨0,gO _,rfl,rfl,aA (aD _ _)⟩
 case round=>
  obtain⟨j,hj,rfl,rfl,HB⟩:=hrel;by_cases hlt:j<n
  ·obtain⟨b,off,rfl,hblt,hcl⟩:=HH.out.resolve_left (by omega);have hjn:(j:Int)<(n:Int):=by omega
   have g0:wr.cell? ⟨b,off+j,none⟩=some (.string ⟨(ES (k+j)).toArray⟩):=(HB.out.cell (p:=⟨b,off+j,none⟩) hblt).trans (hcl j _ (GZ hlt));obtain⟨K,hK⟩:∃K,k+j=K:=⟨_,rfl⟩
   have hK1:1≤K:=by omega
   have hK2:K≤9000000:=by omega
   have hKj:k+(j+1)=K+1:=by omega
   obtain⟨M,hM⟩:∃M,ES K=M:=⟨_,rfl⟩
   have hw:IntKind.i64.wrap ((K:Int)+1)=(K:Int)+1:=by rw[IntKind.wrap_i64];omega
   have hMM:(M !=M)=false:=by simp
   have hlt2:b<wr.heap.size:=eB hblt HB.out.size;have g1:∀u:dQ wr,u.1.cell? ⟨b,off+j,none⟩=some (.string ⟨M.toArray⟩):=fun u=>(u.cell hlt2).trans (by rw[g0,hK,hM])
   have HMK:∀u:dQ wr,Hid (Calls Tryz.prog 46 #[.int .i64 (K:Int)] u.1 fun r w'=>r= .returned (.string ⟨M.toArray⟩)∧Below u.1.heap.size u.1 w'):=fun u=>aA (by have q:=tY K hK2 hK1 u.1;rw[hM]at q;exact q);have ne:=dQ.there wr
   rw[hK];clear hcl g0 hM hK;go_wp2_with fail;refine aR (by kernel_rfl) (by kernel_rfl) ?_;repeat(go_big_quiet_step (first|(go_at_call 46;refine bQ (HMK _).out)|fail))
   refine wpQuiet_nil ?_;rintro _ ⟨u,rfl⟩;have HU:=aA (aC HB.out u.2)
   clear g1 HMK ne;have hw2:(K:Int)+1=((K+1:Nat):Int):=by omega
   have HW2:=aA hw2;clear hw2;go_wp2;go_roundw;case rel=>exact⟨j+1,by omega,by go_num,by rw[HW2.out,hKj],HU⟩
   case measure=>simp[intOf];omega
  ·have hjn:j=n:=by omega
   subst hjn;go_wp2;go_ret;exact⟨rfl,HB.out⟩
def KI (F:Nat→Value) (k j i:Nat):Value:=if i<j then .string ⟨(ES (k+i)).toArray⟩else F i
theorem GY {w:World} {g N k j:Nat} {F:Nat→Value} (h:w.rowIs g 9 N (KI F k j)):(w.setCell ⟨g,j,none⟩ (.string ⟨(ES (k+j)).toArray⟩)).rowIs g 9 N (KI F k (j+1)):=by
 refine(h.set _ _).congr fun i hi=>?_;by_cases e:i=j
 ·subst e;simp[KI]
 ·unfold KI;by_cases hl:i<j
  ·rw[if_pos (show i<j+1 by omega)];simp[e,hl]
  ·rw[if_neg (show ¬i<j+1 by omega)];simp[e,hl]
theorem DG {w w1 w2:World} {row:Option Nat} (h:w.grownBy w1 row) (hb:Below w1.heap.size w1 w2):w.grownBy w2 row:=
 ⟨hb.os.trans h.os,hb.tape.trans h.tape,hb.output.trans h.output,jW h.size hb.size,fun b hlt hr=>(hb.block b (eB hlt h.size)).trans (h.block b hlt hr)⟩
theorem rO (w:World) (a:Option Addr) (cap k n:Nat) (hn:n≤1048576) (k1:1≤k) (k2:k≤2000000) (h:n=0∨∃g N F,a=some ⟨g,0,none⟩∧n≤N∧w.rowIs g 9 N F):Calls Tryz.prog 18 #[.slice a n cap,.int .i64 (k:Int)] w fun r w'=>r= .returned (.int .i64 ((k+n:Nat):Int))∧w.grownBy w' (a.map (·.block))∧(n=0∨∃g N F,a=some ⟨g,0,none⟩∧n≤N∧w'.rowIs g 9 N (KI F k n)):=by
 have HH:=aA h;clear h;go_enter Tryz.func18,Tryz.ntmps18;go_wp2;go_loopw [1,5] (fun vk vi wr=>∃(j:Nat),j≤n∧vi= .int .i64 (j:Int)∧vk= .int .i64 ((k+j:Nat):Int)∧Hid (w.grownBy wr (a.map (·.block))∧(n=0∨∃g N F,a=some ⟨g,0,none⟩∧n≤N∧wr.rowIs g 9 N (KI F k j)))) (fun _ vi _=>n-(intOf vi).toNat);case atStart=>exact⟨0,gO _,rfl,rfl,aA ⟨qZ _ _,HH.out.imp id (fun⟨g,N,F,e,q,r⟩=>⟨g,N,F,e,q,r.congr fun i _=>by simp[KI]⟩)⟩⟩
 case round=>
  obtain⟨j,hj,rfl,rfl,HB⟩:=hrel;by_cases hlt:j<n
  ·obtain⟨g,N,F,rfl,hnN,hR⟩:=HB.out.2.resolve_left (by omega);have HG:=aA HB.out.1
   have hjn:(j:Int)<(n:Int):=by omega
   obtain⟨K,hK⟩:∃K,k+j=K:=⟨_,rfl⟩
   have hK1:1≤K:=by omega
   have hK2:K≤9000000:=by omega
   have hKj:k+(j+1)=K+1:=by omega
   have HKe:=aA hK;have HR:=aA hR
   have hw:IntKind.i64.wrap ((K:Int)+1)=(K:Int)+1:=by rw[IntKind.wrap_i64];omega
   have HW2:Hid ((K:Int)+1=((K+1:Nat):Int)):=aA (by omega);rw[hK];clear hK hR HB;go_wp2_with fail;refine(tY K hK2 hK1 wr).mono ?_;rintro e w1 ⟨rfl,hb⟩;have HR1:=aA (HR.out.of_block (hb.block g HR.out.lt))
   have HG1:=aA (DG HG.out hb);have q0:=HR1.out.cell (i:=j) (by omega)
   have fz:=fun i=>HR1.out.frozen i;have HX:Hid ((w1.setCell ⟨g,j,none⟩ (.string ⟨(ES K).toArray⟩)).rowIs g 9 N (KI F k (j+1))):=aA (by have q:=GY HR1.out;rw[HKe.out]at q;exact q)
   clear hb HR HG HR1;go_wp2;go_roundw;case rel=>exact⟨j+1,by omega,by go_num,by rw[HW2.out,hKj],aA ⟨DH HG1.out _,.inr ⟨g,N,F,rfl,hnN,HX.out⟩⟩⟩
   case measure=>simp[intOf];omega
  ·have hjn:j=n:=by omega
   subst hjn;go_wp2;go_ret;exact⟨rfl,HB.out⟩
end Go.Proofs.YtkcmamepoplcdaaGreatDoor
