/-
  A run of lines, as lists; slots in the world.
-/
import Derived.Test.YtkcmamepoplcdaaGreatDoorUaq
import Derived.OneCell
set_option maxHeartbeats 1000000
namespace Go.Proofs.YtkcmamepoplcdaaGreatDoor
open Go.RowKit Go.Deep
set_option linter.unusedVariables false
set_option linter.unusedSimpArgs false
def nD (n:Nat):List UInt8:=[108,105,110,101,32]++Lib.decDigits n
def nE (n:Nat):List UInt8:=[116,111,111,32,109,117,99,104,32]++Lib.decDigits n
abbrev JX:=(Nat→List T)×List (List UInt8)
def nK (l:mF) (F:Nat→List T):List T×Bool:=aT l.k l.to l.a l.b l.P 6 (fun i=>(F i).length) (fun i=>lf (F i))
def eN (i:Nat) (s:List UInt8) (st:JX):JX:=
 if(dE s).2=false then(st.1,st.2++[nD (i+1)])
 else if(nK (dE s).1 st.1).2=false then(st.1,st.2++[nE (i+1)])
 else if(dE s).1.k=8 then(st.1,st.2++[bQ (nK (dE s).1 st.1).1.length (lf (nK (dE s).1 st.1).1)])
 else(fun j=>if j=(dE s).1.to.toNat then(nK (dE s).1 st.1).1 else st.1 j,st.2)
def gZ (W:List (List UInt8)):Nat→JX
 |0=>(fun _=>[],[])
 |k+1=>eN k (W.getD k []) (gZ W k)
def kP (W:List (List UInt8)):List (List UInt8):=if 60<W.length then[[108,111,110,103]]else(gZ W W.length).2
theorem EA {i:Nat} {s:List UInt8} {st:JX} (h:(dE s).2=false):eN i s st=(st.1,st.2++[nD (i+1)]):=by unfold eN;rw[if_pos h]
theorem wP {i:Nat} {s:List UInt8} {st:JX} (h:(dE s).2=true) (q:(nK (dE s).1 st.1).2=false):eN i s st=(st.1,st.2++[nE (i+1)]):=by unfold eN;rw[if_neg (by rw[h];simp),if_pos q]
theorem kT {i:Nat} {s:List UInt8} {st:JX} (h:(dE s).2=true) (q:(nK (dE s).1 st.1).2=true) (k:(dE s).1.k=8):eN i s st=(st.1,st.2++[bQ (nK (dE s).1 st.1).1.length (lf (nK (dE s).1 st.1).1)]):=by unfold eN;rw[if_neg (by rw[h];simp),if_neg (by rw[q];simp),if_pos k]
theorem mQ {i:Nat} {s:List UInt8} {st:JX} (h:(dE s).2=true) (q:(nK (dE s).1 st.1).2=true) (k:(dE s).1.k≠8):eN i s st=(fun j=>if j=(dE s).1.to.toNat then(nK (dE s).1 st.1).1 else st.1 j,st.2):=by unfold eN;rw[if_neg (by rw[h];simp),if_neg (by rw[q];simp),if_neg k]
theorem vA (W:List (List UInt8)):∀k,(gZ W k).2.length≤k
 |0=>Nat.le_refl _
 |k+1=>by
  have:=vA W k;unfold gZ eN
  repeat' split
  all_goals simp only[List.length_append,List.length_cons,List.length_nil];omega
def sX (w:World) (b:Nat) (F:Nat→List T) (ad:Nat→Option Addr) (cp:Nat→Nat):Prop:=
 w.rowIs b 22 6 (fun i=>.slice (ad i) (F i).length (cp i))∧∀i,i<6→Rd w (ad i) (F i).length (cp i) (lf (F i))∧((F i).length=0∨∃g off c,ad i=some ⟨g,off,none⟩∧w.heap[g]? =some (.cells c 79 (0,0)))
theorem sX.lt {w:World} {b:Nat} {F:Nat→List T} {ad:Nat→Option Addr} {cp:Nat→Nat} (h:sX w b F ad cp):b<w.heap.size:=h.1.lt
theorem sX.rds {w:World} {b:Nat} {F:Nat→List T} {ad:Nat→Option Addr} {cp:Nat→Nat} (h:sX w b F ad cp):wW w (some ⟨b,0,none⟩) 6 6 ad (fun i=>(F i).length) cp (fun i=>lf (F i)):=
 ⟨Nat.le_refl _,by omega,.inr ⟨b,0,rfl,h.lt,fun i hi=>by rw[Nat.zero_add];exact h.1.cell hi⟩,fun i hi=>(h.2 i hi).1⟩
theorem BS {w:World} {g:Nat} {o:Obj} (h:w.heap[g]? =some o):g<w.heap.size:=(Array.getElem?_eq_some_iff.1 h).1
theorem sX.below {w w':World} {b:Nat} {F:Nat→List T} {ad:Nat→Option Addr} {cp:Nat→Nat} (h:sX w b F ad cp) (hb:Below w.heap.size w w'):sX w' b F ad cp:=
 ⟨h.1.of_block (hb.block b h.lt),fun i hi=>⟨(h.2 i hi).1.below hb,(h.2 i hi).2.imp id (fun⟨g,off,c,e,q⟩=>⟨g,off,c,e,(hb.block g (BS q)).trans q⟩)⟩⟩
theorem sX.grown {w w':World} {b:Nat} {F:Nat→List T} {ad:Nat→Option Addr} {cp:Nat→Nat} {row:Option Nat} (h:sX w b F ad cp) (hg:w.grownBy w' row) (hr:∀g,row=some g→∃c,w.heap[g]? =some (.cells c 9 (0,0))):sX w' b F ad cp:=by
 have hne:∀g c t,w.heap[g]? =some (.cells c t (0,0))→t≠9→some g≠row:=fun g c t q hn e=>by obtain⟨c',q'⟩:=hr g e.symm;rw[q]at q';injection q' with q';injection q' with _ q2;exact hn q2
 obtain⟨c0,hc0,hz⟩:=h.1;have hb:some b≠row:=hne b c0 _ hc0 (by decide)
 refine⟨h.1.of_block (hg.block b h.lt hb),fun i hi=>?_⟩;rcases(h.2 i hi).2 with h0|⟨g,off,c,e,q⟩
 ·exact⟨(h.2 i hi).1.grown hg (.inl h0),.inl h0⟩
 ·have hgn:some g≠row:=hne g c _ q (by decide);exact⟨(h.2 i hi).1.grown hg (.inr (fun b' off' e'=>by rw[e]at e';cases e';exact hgn)),.inr ⟨g,off,c,e,(hg.block g (BS q) hgn).trans q⟩⟩
theorem vI {w:World} {a:Option Addr} {n:Nat} {f:Nat→T} (h:Wr w a n f):n=0∨∃g off c,a=some ⟨g,off,none⟩∧w.heap[g]? =some (.cells c 79 (0,0)):=by
 rcases h with h0|⟨g,off,N,F,e,⟨c,hc,_⟩,_,_⟩
 ·exact .inl h0
 ·exact .inr ⟨g,off,c,e,hc⟩
theorem yD {w:World} {a:Option Addr} {n cap b k:Nat} {f:Nat→T} {v:Value} (h:Rd w a n cap f) (hn:n=0∨∀g off,a=some ⟨g,off,none⟩→g≠b):Rd (w.setCell ⟨b,k,none⟩ v) a n cap f:=by
 obtain⟨h1,h2,h3⟩:=h;refine⟨h1,h2,?_⟩;rcases h3 with h0|⟨g,off,e,hlt,hc⟩
 ·exact .inl h0
 ·rcases hn with h0|hn
  ·exact .inl h0
  ·have hg:=hn g off e;have ne:∀j,(⟨b,k,none⟩:Addr)≠⟨g,j,none⟩:=fun j q=>hg (by cases q;rfl)
   refine .inr ⟨g,off,e,by simpa using hlt,fun i hi=>?_⟩;obtain⟨c0,c1,c2,c3,c4⟩:=hc i hi;exact⟨by rw[World.cell?_setCell_other _ _ _ _ (ne _)];exact c0,by rw[World.cell?_setCell_other _ _ _ _ (ne _)];exact c1,by rw[World.cell?_setCell_other _ _ _ _ (ne _)];exact c2,by rw[World.cell?_setCell_other _ _ _ _ (ne _)];exact c3,by rw[World.cell?_setCell_other _ _ _ _ (ne _)];exact c4⟩
theorem sX.set {w:World} {b:Nat} {F:Nat→List T} {ad:Nat→Option Addr} {cp:Nat→Nat} (h:sX w b F ad cp) (k:Nat) {a:Option Addr} {cap:Nat} {L:List T} (hR:Rd w a L.length cap (lf L)) (hW:Wr w a L.length (lf L)):sX (w.setCell ⟨b,k,none⟩ (.slice a L.length cap)) b (fun j=>if j=k then L else F j) (fun j=>if j=k then a else ad j) (fun j=>if j=k then cap else cp j):=by
 obtain⟨c0,hc0,hz⟩:=h.1
 have hty:∀(a:Option Addr) (n:Nat),(n=0∨∃g off c,a=some ⟨g,off,none⟩∧w.heap[g]? =some (.cells c 79 (0,0)))→n=0∨∀g off,a=some ⟨g,off,none⟩→g≠b:=fun a n q=>q.imp id (fun⟨g,off,c,e,q⟩ g' off' e' e2=>by
  rw[e]at e';cases e';rw[e2,hc0]at q;injection q with q;injection q with _ q2
  exact absurd q2 (by decide))
 have htp:∀(a:Option Addr) (n:Nat) (v:Value),(n=0∨∃g off c,a=some ⟨g,off,none⟩∧w.heap[g]? =some (.cells c 79 (0,0)))→(n=0∨∃g off c,a=some ⟨g,off,none⟩∧(w.setCell ⟨b,k,none⟩ v).heap[g]? =some (.cells c 79 (0,0))):=fun a n v q=>by
  rcases hty a n q with h0|hn
  ·exact .inl h0
  ·exact q.imp id (fun⟨g,off,c,e,q⟩=>⟨g,off,c,e,(Below.heap_setCell _ _ _ _ (hn g off e)).trans q⟩)
 refine⟨(h.1.set k _).congr (fun j hj=>?_),fun i hi=>?_⟩
 ·by_cases e:j=k
  ·simp[e]
  ·simp[e]
 ·by_cases e:i=k
  ·simp only[if_pos e];exact⟨yD hR (hty _ _ (vI hW)),htp _ _ _ (vI hW)⟩
  ·simp only[if_neg e];exact⟨yD (h.2 i hi).1 (hty _ _ (h.2 i hi).2),htp _ _ _ (h.2 i hi).2⟩
theorem IL {lo:Nat} {v:Value} {xs:List (List UInt8)} {w:World} {b k:Nat} {u:Value} (h:wU lo v xs w) {n:Nat} {f:Nat→Value} (hb:w.rowIs b 22 n f):wU lo v xs (w.setCell ⟨b,k,none⟩ u):=by
 refine ownsRow_setCell_other h (a:=⟨b,k,none⟩) (fun e=>?_) u;obtain⟨c0,hc0,_⟩:=hb;rcases h.2 with⟨q,_⟩|⟨g,cap,cur,q,_,h3,_⟩
 ·rw[q]at e;cases e
 ·rw[q]at e;have e2:g=b:=by simpa[Value.ownBlock]using e
  rw[e2,hc0]at h3;injection h3 with h3;injection h3 with _ h4;exact absurd h4 (by decide)
theorem zO {lo:Nat} {v:Value} {xs:List (List UInt8)} {w:World} (h:wU lo v xs w):∀g,v.ownBlock=some g→lo≤g∧∃c,w.heap[g]? =some (.cells c 9 (0,0)):=fun g e=>by
 rcases h.2 with⟨q,_⟩|⟨g',cap,cur,q,hlo,h3,_⟩
 ·rw[q]at e;cases e
 ·rw[q]at e;have e2:g'=g:=by simpa[Value.ownBlock]using e
  subst e2;exact⟨hlo,cur,h3⟩
theorem IJ (w:World) (lo:Nat):wU lo (.slice none 0 0) [] w:=⟨rfl,.inl ⟨rfl,rfl⟩⟩
def MG (w:World) (a:Option Addr) (cap:Nat) (W:List (List UInt8)):Prop:=W.length≤cap∧(W.length=0∨∃b off,a=some ⟨b,off,none⟩∧b<w.heap.size∧∀(i:Nat) (l:List UInt8),W[i]? =some l→w.cell? ⟨b,off+i,none⟩=some (.string ⟨l.toArray⟩))∧∀l∈W,l.length≤1048576
theorem MG.below {w w':World} {a:Option Addr} {cap:Nat} {W:List (List UInt8)} (h:MG w a cap W) (hb:Below w.heap.size w w'):MG w' a cap W:=
 ⟨h.1,h.2.1.imp id (fun⟨b,off,e,hlt,hc⟩=>⟨b,off,e,eH hlt hb.size,fun i l hl=>(hb.cell (p:=⟨b,off+i,none⟩) hlt).trans (hc i l hl)⟩),h.2.2⟩
theorem NC (w:World):(Instr.makeSlice 60 (.int .i64 6) (.int .i64 6)).run Tryz.prog w= .ok (.slice (some ⟨w.heap.size,0,none⟩) 6 6) (w.alloc (.cells #[.slice none 0 0,.slice none 0 0,.slice none 0 0,.slice none 0 0,.slice none 0 0,.slice none 0 0] 22)):=by kernel_rfl
def BD (w wr:World) (b:Nat) (F:Nat→List T) (out:List (List UInt8)) (ad:Nat→Option Addr) (cp:Nat→Nat) (tv:Value):Prop:=sX wr b F ad cp∧wU w.heap.size tv out wr∧Below w.heap.size w wr
theorem BD.below {w wr w':World} {b:Nat} {F:Nat→List T} {out:List (List UInt8)} {ad:Nat→Option Addr} {cp:Nat→Nat} {tv:Value} (h:BD w wr b F out ad cp tv) (hb:Below wr.heap.size wr w'):BD w w' b F out ad cp tv:=
 ⟨h.1.below hb,bO h.2.1 hb,aC h.2.2 hb⟩
theorem BD.app {w wr w7:World} {b:Nat} {F:Nat→List T} {out:List (List UInt8)} {ad:Nat→Option Addr} {cp:Nat→Nat} {tv:Value} (h:BD w wr b F out ad cp tv) {t:List UInt8} {g1 cap1:Nat} (hown:w7.ownsRow w.heap.size 9 1 (.slice (some ⟨g1,0,none⟩) (out.length+1) cap1) (out.length+1) (AE out++[.string ⟨t.toArray⟩])) (hg:wr.grownBy w7 tv.ownBlock):BD w w7 b F (out++[t]) ad cp (.slice (some ⟨g1,0,none⟩) (out.length+1) cap1):=by
 have ht:=zO h.2.1;refine⟨h.1.grown hg (fun g e=>(ht g e).2),?_,h.2.2.grown hg h.2.2.size (fun k e=>(ht k e).1)⟩;show World.ownsRow _ _ _ _ _ _ _
 rw[sP,List.length_append];exact hown
theorem BD.set {w wr:World} {b:Nat} {F:Nat→List T} {out:List (List UInt8)} {ad:Nat→Option Addr} {cp:Nat→Nat} {tv:Value} (h:BD w wr b F out ad cp tv) (hb:w.heap.size≤b) (k:Nat) {a:Option Addr} {cap:Nat} {L:List T} (hR:Rd wr a L.length cap (lf L)) (hW:Wr wr a L.length (lf L)):BD w (wr.setCell ⟨b,k,none⟩ (.slice a L.length cap)) b (fun j=>if j=k then L else F j) out (fun j=>if j=k then a else ad j) (fun j=>if j=k then cap else cp j) tv:=
 ⟨h.1.set k hR hW,IL h.2.1 h.1.1,h.2.2.setCell hb _⟩
theorem sX.new (w:World):sX (w.alloc (.cells #[.slice none 0 0,.slice none 0 0,.slice none 0 0,.slice none 0 0,.slice none 0 0,.slice none 0 0] 22)) w.heap.size (fun _=>[]) (fun _=>none) (fun _=>0):=
 ⟨⟨_,heap_alloc_new w _,rfl,fun j hj=>by rcases(show j=0∨j=1∨j=2∨j=3∨j=4∨j=5 by omega)with rfl|rfl|rfl|rfl|rfl|rfl<;>rfl⟩,fun i hi=>⟨⟨Nat.le_refl _,by simp,.inl rfl⟩,.inl rfl⟩⟩
end Go.Proofs.YtkcmamepoplcdaaGreatDoor
namespace Go.Proofs.YtkcmamepoplcdaaGreatDoor
open Go.RowKit
set_option linter.unusedVariables false
theorem JO {L:List T} {i:Nat} (h:i<L.length):lf L i=L[i]:=by unfold lf;rw[List.getD_eq_getElem?_getD,List.getElem?_eq_getElem h];rfl
def MD (L:List T):Bool:=aJ L.length (lf L)
theorem LH {L:List T} (hl:L.length≤400) (h:bE L):MD L=true:=by
 unfold MD aJ;rw[decide_eq_true_eq];refine⟨hl,fun i hi=>?_⟩;have h1:=h.2 (L[i]) (List.getElem_mem hi)
 simp only[eF,Bool.and_eq_true,Bool.or_eq_true,decide_eq_true_eq];rw[JO hi];refine⟨⟨h1.2,h1.1⟩,?_⟩;by_cases h0:i=0
 ·exact .inl h0
 ·refine .inr ?_;have hi1:i-1<L.length:=by omega
  rw[JO hi1];exact(lU (h.2 _ (List.getElem_mem hi1)).1 h1.1).2 ((List.pairwise_iff_getElem.1 h.1) (i-1) i hi1 hi (by omega))
def eZ (x:Int):List UInt8:=[115,104,111,119,32,cB x]
def kD (x:Int):List UInt8:=[97,100,100,32,70,32,cB x,32,69]
theorem oY {x:Int} (h0:0≤x) (h5:x≤5):dH 8 x 0 0 0 (lf [])=eZ x:=by rcases(show x=0∨x=1∨x=2∨x=3∨x=4∨x=5 by omega)with rfl|rfl|rfl|rfl|rfl|rfl<;>decide+kernel
theorem tK {x:Int} (h0:0≤x) (h5:x≤5):dH 2 5 x 4 0 (lf [])=kD x:=by rcases(show x=0∨x=1∨x=2∨x=3∨x=4∨x=5 by omega)with rfl|rfl|rfl|rfl|rfl|rfl<;>decide+kernel
theorem vC {x:Int} (h0:0≤x) (h5:x≤5):dE (eZ x)=(⟨8,x,0,0,[]⟩,true):=lG ⟨oY h0 h5,by unfold eZ;simp⟩
theorem BK {x:Int} (h0:0≤x) (h5:x≤5):dE (kD x)=(⟨2,5,x,4,[]⟩,true):=lG ⟨tK h0 h5,by unfold kD;simp⟩
theorem EC {x:Int} {p:List T} (h0:0≤x) (h5:x≤5) (h:dH 1 x 0 0 p.length (lf p)=[]):aJ p.length (lf p)=false∨390<(bQ p.length (lf p)).length:=by
 cases e:aJ p.length (lf p)
 ·exact .inl rfl
 ·refine .inr ?_;have hw:pL 1 x 0 0 p.length (lf p)=true:=decide_eq_true ⟨by omega,by omega,by omega,by omega,e,.inr rfl,.inr rfl,.inl rfl⟩
  by_cases hl:(eO 1 x 0 0 p.length (lf p)).length≤400
  ·rw[gB hw hl,DS]at h;simp at h
  ·rw[DS]at hl;simp only[List.length_append,List.length_cons,List.length_nil]at hl;omega
theorem ED {x:Int} {p:List T} (h:dH 1 x 0 0 p.length (lf p)≠[]):dH 1 x 0 0 p.length (lf p)=[115,101,116,32,cB x,32]++bQ p.length (lf p):=by
 unfold dH at h⊢;split at h
 ·rename_i q;rw[if_pos q,DS];simp
 ·exact absurd rfl h
theorem nZ {k to a b:Int} {p:List T} {m:Nat} {ln:Nat→Nat} {F:Nat→Nat→T} (q:m=6∧dH k to a b p.length (lf p)≠[]):aT k to a b p m ln F=
 if k=1 then(p,true)
 else if k=2 then cO (F a.toNat) (ln a.toNat) (F b.toNat) (ln b.toNat)
 else if k=3 then bV (F a.toNat) (ln a.toNat) (F b.toNat) (ln b.toNat)
 else if k=4 then gF (F a.toNat) (ln a.toNat) (F b.toNat) (ln b.toNat)
 else if k=5 then iV (F a.toNat) (ln a.toNat) (F b.toNat) (ln b.toNat)
 else if k=6 then dK (F a.toNat) (ln a.toNat)
 else if k=7 then eR (F a.toNat) (ln a.toNat)
 else cO (F to.toNat) (ln to.toNat) ND 0:=if_pos q
theorem GB {x:Int} {p:List T} {F:Nat→List T} (h:dH 1 x 0 0 p.length (lf p)≠[]):nK ⟨1,x,0,0,p⟩ F=(p,true):=by unfold nK;rw[nZ ⟨rfl,h⟩,if_pos rfl]
theorem xF {x:Int} {F:Nat→List T} (h0:0≤x) (h5:x≤5) (hk:MD (F x.toNat)=true):nK ⟨8,x,0,0,[]⟩ F=(F x.toNat,true):=by
 have h:dH 8 x 0 0 ([]:List T).length (lf [])≠[]:=by show dH 8 x 0 0 0 (lf [])≠[];rw[oY h0 h5];unfold eZ;simp
 unfold nK;rw[nZ ⟨rfl,h⟩];simp only[show ¬(8:Int)=1 by decide,show ¬(8:Int)=2 by decide,show ¬(8:Int)=3 by decide,show ¬(8:Int)=4 by decide,show ¬(8:Int)=5 by decide,show ¬(8:Int)=6 by decide,show ¬(8:Int)=7 by decide,if_false];exact jP hk
theorem GA {x:Int} {F:Nat→List T} (h0:0≤x) (h5:x≤5):nK ⟨2,5,x,4,[]⟩ F=cO (lf (F x.toNat)) (F x.toNat).length (lf (F 4)) (F 4).length:=by
 have h:dH 2 5 x 4 ([]:List T).length (lf [])≠[]:=by show dH 2 5 x 4 0 (lf [])≠[];rw[tK h0 h5];unfold kD;simp
 unfold nK;rw[nZ ⟨rfl,h⟩];simp only[show ¬(2:Int)=1 by decide,if_false,if_true];rfl
theorem FL {f g:Nat→T} {la lb:Nat} {X:List T} (h:cO f la g lb=(X,true)):MD X=true:=by
 have hl:=oU f la g lb;unfold cO at h hl;split at h
 ·rename_i hh;rw[if_pos hh]at hl;cases h;exact LH hl (uQ hh.1 hh.2.1).1
 ·cases h
theorem zH {x:Int} {p:List T} (h0:0≤x) (h5:x≤5) (hp:p.length≤5) (h:dH 1 x 0 0 p.length (lf p)≠[]):∃t,kP [dH 1 x 0 0 p.length (lf p),eZ x,kD x,eZ 5]=[bQ p.length (lf p),t]∧(x=4∨t=bQ p.length (lf p)):=by
 have hk:MD p=true:=(dD h).2.2.2.2;obtain⟨S,hS⟩:∃S,dH 1 x 0 0 p.length (lf p)=S:=⟨_,rfl⟩
 have hR:dE S=(⟨1,x,0,0,p⟩,true):=lG ⟨hS,by rw[←hS];exact h⟩;rw[hS];have e1:gZ [S,eZ x,kD x,eZ 5] 1=(fun j=>if j=x.toNat then p else[],[]):=by
  show eN 0 S (fun _=>[],[])=_;have q:=@mQ 0 S (fun _=>[],[])
  rw[hR]at q;simp only[GB h]at q;exact q trivial trivial (by decide)
 have e2:gZ [S,eZ x,kD x,eZ 5] 2=(fun j=>if j=x.toNat then p else[],[bQ p.length (lf p)]):=by
  show eN 1 (eZ x) (gZ [S,eZ x,kD x,eZ 5] 1)=_;rw[e1];have q:=@kT 1 (eZ x) (fun j=>if j=x.toNat then p else[],[])
  rw[vC h0 h5]at q;have d:=xF (F:=fun j=>if j=x.toNat then p else[]) h0 h5 (by simpa using hk)
  simp only[if_true]at d;simp only[d]at q;exact q trivial trivial trivial
 have key:∃Q,MD Q=true∧cO (lf p) p.length (lf (if(4:Nat)=x.toNat then p else[])) (if(4:Nat)=x.toNat then p else[]).length=(Q,true)∧(x=4∨Q=p):=by
  by_cases hx:(4:Nat)=x.toNat
  ·rw[if_pos hx];have hl:(cR (lf p) p.length (lf p) p.length 0 0).length≤400:=by have:=tJ (lf p) p.length (lf p) p.length 0 0;omega
   have e:cO (lf p) p.length (lf p) p.length=(cR (lf p) p.length (lf p) p.length 0 0,true):=by unfold cO;rw[if_pos ⟨hk,hk,hl⟩]
   exact⟨_,FL e,e,.inl (by omega)⟩
  ·rw[if_neg hx];exact⟨p,hk,jP hk,.inr rfl⟩
 obtain⟨Q,hQ,hA,hX⟩:=key;have e3:gZ [S,eZ x,kD x,eZ 5] 3=(fun j=>if j=5 then Q else if j=x.toNat then p else[],[bQ p.length (lf p)]):=by
  show eN 2 (kD x) (gZ [S,eZ x,kD x,eZ 5] 2)=_;rw[e2];have q:=@mQ 2 (kD x) (fun j=>if j=x.toNat then p else[],[bQ p.length (lf p)])
  rw[BK h0 h5]at q;have d:=GA (F:=fun j=>if j=x.toNat then p else[]) h0 h5
  simp only[if_true]at d;rw[hA]at d;simp only[d]at q;exact q trivial trivial (by decide)
 refine⟨bQ Q.length (lf Q),?_,hX.imp id (fun e=>by rw[e])⟩;show(if 60<4 then _ else(gZ [S,eZ x,kD x,eZ 5] 4).2)=_
 rw[if_neg (by decide)];show(eN 3 (eZ 5) (gZ [S,eZ x,kD x,eZ 5] 3)).2=_
 rw[e3];have q:=@kT 3 (eZ 5) (fun j=>if j=5 then Q else if j=x.toNat then p else[],[bQ p.length (lf p)])
 rw[vC (by decide) (by decide)]at q;have d:=xF (x:=5) (F:=fun j=>if j=5 then Q else if j=x.toNat then p else[]) (by decide) (by decide) (by simpa using hQ)
 simp only[show(5:Int).toNat=5 from rfl,if_true]at d;simp only[d]at q;rw[q trivial trivial trivial];rfl
theorem NQ {m m':Nat} {P:Program} {l:Nat} {f:FuncId} {tmps:Array Value} {assign body:Code} {w:World} {R:Ending→World→Prop} (h:RoundIn Fence.wide m P l f tmps assign body w R):RoundIn Fence.wide m' P l f tmps assign body w R:=⟨h.1,fun c cs _=>h.2 c cs (room_wide _)⟩
theorem PB {m:Nat} (m':Nat) {P:Program} {l:Nat} {args:Array Value} {W:World} {R:Ending→World→Prop} (h:YieldAt Fence.wide m P l args W R):YieldAt Fence.wide m' P l args W R:=by obtain⟨fn,tmps,assign,body,hy,hR⟩:=h;exact⟨fn,tmps,assign,body,hy,NQ hR⟩
def kY (lo hi:Nat) (A B:World):Prop:=A.heap.size≤B.heap.size∧∀k,lo≤k→k<hi→B.heap[k]? =A.heap[k]?
theorem kY.trans {lo hi:Nat} {A B C:World} (h:kY lo hi A B) (g:kY lo hi B C):kY lo hi A C:=⟨iW h.1 g.1,fun k a b=>(g.2 k a b).trans (h.2 k a b)⟩
theorem kY.put {lo hi l:Nat} (hl:hi≤l) (W:World) (o:Obj):kY lo hi W (W.putObj l o):=⟨by simp,fun k _ h=>World.putObj_heap_other (by omega)⟩
theorem kY.below {lo hi n:Nat} {A B:World} (h:Below n A B) (hn:hi≤n):kY lo hi A B:=⟨h.size,fun k _ hk=>h.block k (by omega)⟩
theorem kY.refl (lo hi:Nat) (A:World):kY lo hi A A:=⟨Nat.le_refl _,fun _ _ _=>rfl⟩
theorem kY.grown {lo hi:Nat} {A B:World} {row:Option Nat} (hg:A.grownBy B row) (hh:hi≤A.heap.size) (hr:∀k,row=some k→k<lo∨hi≤k):kY lo hi A B:=
 ⟨hg.size,fun k a b=>hg.block k (by omega) (fun e=>by have:=hr k e.symm;omega)⟩
def JT {α:Type} (P:Program) (g:Nat) (lb:Array Value) (encs:α→Array Value) (lo hi:Nat) (xs:List α) (w:World):Prop:=
 ∀(l:Nat) (J Jx:List α→World→Prop) (W:World),Below w.heap.size w W→OwnFrom W.heap.size J→(∀pre A k v,lo≤k→k<hi→J pre A→J pre (A.setCell ⟨k,0,none⟩ v))→
  (∀pre x W1,J pre W1→pre++[x]<+:xs→YieldAt Fence.wide 0 P l (encs x) W1 fun e W'=>(e= .returned (.bool true)∧J (pre++[x]) W'∧kY lo hi W1 W')∨(e= .returned (.bool false)∧Jx (pre++[x]) W'))→
  J [] W→Calls P g (#[.func (.yield l) #[] #[]]++lb) W fun e W'=>(∃v,e= .returned v)∧(J xs W'∨∃pre,pre<+:xs∧Jx pre W')
def NG {α:Type} (B lo hi:Nat) (I:List α→World→Prop) (Ix:Code→List α→World→Prop) (xs:List α) (W:World):Exit→Act→World→Prop
 | .normal,_,W'=>KeepsFrom B W W'∧kY lo hi W W'∧I xs W'
 | .ret,_,W'=>KeepsFrom B W W'∧Ix .ret xs W'
 |_,_,_=>False
theorem NV {B:Nat} {W W':World} (h:KeepsFrom B W W') {k:Nat} {o:Obj} (hk:B≤k) (h0:W.heap[k]? =some o) (ho:o.isCells=false):W'.heap[k]? =some o:=h.same k o hk h0 ho
theorem uN {W W':World} {row:Option Nat} {B:Nat} (hg:W.grownBy W' row) (hr:∀r,row=some r→B≤r) {k:Nat} {o:Obj} (hk:W.heap[k]? =some o) (hkB:k<B):W'.heap[k]? =some o:=
 (hg.block k (Array.getElem?_eq_some_iff.1 hk).1 (fun e=>by have:=hr k e.symm;omega)).trans hk
theorem LK {α : Type} {P : Program} {n : Nat} {g : Operand} {ps : Array Tmp} {assign body : Code} {Q : Exit → Act → World → Prop} {a : Act} {w : World} (h1 : 1 ≤ n) {gf : Nat} {lb : Array Value} (hg : a.eval g = .func (.func gf) #[] lb) (eg : ∀ args w, (callFunc gf args).run P w = .ok (.enter gf args) w) {encs : α → Array Value} {lo hi : Nat} {xs : List α} {w0 : World} (hseq : JT P gf lb encs lo hi xs w0) (hb0 : Below w0.heap.size w0 w) (hhi : hi ≤ w.heap.size) (hps : ∀ x, (encs x).size = ps.size) (I : List α → World → Prop) (Ix : Code → List α → World → Prop) (hI : OwnFrom w.heap.size I) (hIb : ∀ pre A k v, lo ≤ k → k < hi → I pre A → I pre (A.setCell ⟨k, 0, none⟩ v)) (hIx : ∀ c, OwnFrom w.heap.size (Ix c)) (h0 : I [] w) (Ax : α → Act → World → Prop) (hAx : ∀ x a', OwnFrom w.heap.size (fun (_ : Unit) W => Ax x a' W)) (hassign : ∀ (l : Nat) (pre : List α) (x : α) (W : World) (K : Act → World → Prop), I pre W → (∀ a' W', KeepsFrom w.heap.size W W' → kY lo hi W W' → I pre W' → Ax x a' W' → K a' W') → assign.wpIn (Fence.wide.inRound l) 0 P (Exit.then K (fun _ _ _ => False)) { tmps := (ps.zip (encs x)).foldl (fun t (p, v) => t.setIfInBounds p v) a.tmps, defers := [] } W) (hbody : ∀ (l : Nat) (pre : List α) (x : α) (a' : Act) (W : World), I pre W → Ax x a' W → pre ++ [x] <+: xs → body.wpIn (Fence.wide.inRound l) 0 P (NG w.heap.size lo hi I Ix (pre ++ [x]) W) a' W) (hdone : ∀ (D : Nat) (W : World), w.heap.size ≤ D → I xs W → W.heap[D]? = some (.deferred (some [])) → Q .normal { a with defers := { target := .collected D, args := #[] } :: a.defers } W) (hstop : ∀ (D : Nat) (c : Code) (pre : List α) (W : World), w.heap.size ≤ D → pre <+: xs → Ix c pre W → W.heap[D]? = some (.deferred (some [])) → c.wpIn Fence.wide n P Q { a with defers := { target := .collected D, args := #[] } :: a.defers } W) : (Code.rangeFunc g ps assign body).wpIn Fence.wide n P Q a w := by
  refine wpIn_rangeFunc ?_
  intro fn hfn
  obtain⟨rec,hrec⟩:∃rec:LoopState→Option Code→Loop,rec=fun st pe=>{state:=st,pending:=pe,fn,tmps:=a.tmps,params:=ps,assign,body,defers:=w.heap.size}:=⟨_,rfl⟩
  obtain⟨W1,hW1⟩:∃W1,(w.alloc (.deferred (some []))).alloc (.loop (rec .ready none))=W1:=⟨_,rfl⟩
  have hs1:W1.heap.size=w.heap.size+2:=by rw[←hW1];simp
  have hL1:W1.heap[w.heap.size+1]? =some (.loop (rec .ready none)):=by
    rw[←hW1]
    have:=World.alloc_heap_new (w.alloc (.deferred (some []))) (.loop (rec .ready none))
    rwa[World.size_alloc]at this
  have hK1:W1.heap[w.heap.size]? =some (.deferred (some [])):=by
    rw[←hW1]
    exact(Below.heap_alloc _ _ _ (by simp)).trans (World.alloc_heap_new w _)
  have hI1:I [] W1:=by rw[←hW1];exact hI.alloc _ (hI.alloc _ h0)
  have hb1:Below w0.heap.size w0 W1:=by
    rw[←hW1]
    exact hb0.trans ((((aD _ w).alloc (Nat.le_refl _) _).alloc (by simp) _).mono hb0.size)
  refine⟨w.heap.size+1,[{target:=.collected w.heap.size,args:=#[]}],W1,{target:=.fn (.func gf) lb,args:=#[.func (.yield (w.heap.size+1)) #[] #[]]},W1,gf,
    #[.func (.yield (w.heap.size+1)) #[] #[]]++lb,W1,?_,?_,?_,?_,fun _=>h1,?_⟩
  · rw[←hW1,hrec];exact run_enterLoop_outer _ _ _ _ _
  · simp only[resolve,hg]
    simp[go_sem]
  · intro f' _;exact trivial
  · simp[invoke,go_sem,eg]
  · refine callsIn_wide.2 ((hseq (w.heap.size+1)
      (fun pre W=>I pre W∧W.heap[w.heap.size+1]? =some (.loop (rec .ready none))∧W.heap[w.heap.size]? =some (.deferred (some [])))
      (fun pre W=>∃c,Ix c pre W∧W.heap[w.heap.size+1]? =some (.loop (rec .done (some c)))∧W.heap[w.heap.size]? =some (.deferred (some []))) W1 hb1
      (fun s A B row hs hg' hr=>⟨hI s A B row hs.1 hg' (fun r e=>⟨by have:=(hr r e).1;omega,(hr r e).2⟩),uN hg' (B:=W1.heap.size) (fun r e=>(hr r e).1) hs.2.1 (by omega),uN hg' (B:=W1.heap.size) (fun r e=>(hr r e).1) hs.2.2 (by omega)⟩)
      (fun pre A k v a1 a2 hs=>⟨hIb pre A k v a1 a2 hs.1,(Below.heap_setCell _ _ _ _ (by simp;omega)).trans hs.2.1,(Below.heap_setCell _ _ _ _ (by simp;omega)).trans hs.2.2⟩)
      ?_ ⟨hI1,hL1,hK1⟩).mono ?_)
    · rintro pre x W ⟨hi',hl,hk⟩ hpre
      have hy:=run_yield (P:=P) (args:=encs x) hl (by rw[hrec];exact hps x)
      rw[hrec]at hy
      refine⟨fn,_,assign,body,hy,roundIn_of_wpIn hfn (hassign _ pre x W _ hi' ?_)⟩
      clear hy
      intro a' Wa hkfa hkpa hia hax
      have hla:=NV hkfa (by omega) hl rfl
      have hka:=NV hkfa (Nat.le_refl _) hk rfl
      have hlt:w.heap.size+1<Wa.heap.size:=(Array.getElem?_eq_some_iff.1 hla).1
      refine⟨_,run_beginRound hla (by rw[hrec]),?_⟩
      have hl2:(Wa.putObj (w.heap.size+1) (.loop {rec .ready none with state:=.busy})).heap[w.heap.size+1]? =some (.loop {rec .ready none with state:=.busy}):=World.putObj_heap_same hlt
      have hk2:(Wa.putObj (w.heap.size+1) (.loop {rec .ready none with state:=.busy})).heap[w.heap.size]? =some (.deferred (some [])):=(World.putObj_heap_other (by omega)).trans hka
      have hw2:kY lo hi Wa (Wa.putObj (w.heap.size+1) (.loop {rec .ready none with state:=.busy})):=kY.put (by omega) _ _
      refine wpIn_mono (hbody _ pre x a' _ (hI.putObj _ hia (by omega) hla rfl) ((hAx x a').putObj (s:=()) _ hax (by omega) hla rfl) hpre) ?_
      have fin:∀(jump:Option Code) (W3:World),KeepsFrom w.heap.size (Wa.putObj (w.heap.size+1) (.loop {rec .ready none with state:=.busy})) W3→
          (Instr.endRound (w.heap.size+1) jump).run P W3= .ok (.bool jump.isNone) (W3.putObj (w.heap.size+1) (.loop (rec (if jump.isNone then .ready else .done) jump)))∧
          W3.heap[w.heap.size+1]? =some (.loop {rec .ready none with state:=.busy})∧
          (W3.putObj (w.heap.size+1) (.loop (rec (if jump.isNone then .ready else .done) jump))).heap[w.heap.size+1]? =some (.loop (rec (if jump.isNone then .ready else .done) jump))∧
          (W3.putObj (w.heap.size+1) (.loop (rec (if jump.isNone then .ready else .done) jump))).heap[w.heap.size]? =some (.deferred (some [])):=fun jump W3 hk3=>by
        have hl3:=NV hk3 (by omega) hl2 rfl
        have:=run_endRound (P:=P) jump hl3
        rw[hrec]at this⊢
        exact⟨this,by rw[hrec]at hl3;exact hl3,World.putObj_heap_same (Array.getElem?_eq_some_iff.1 hl3).1,(World.putObj_heap_other (by omega)).trans (NV hk3 (Nat.le_refl _) hk2 rfl)⟩
      rintro e a3 W3 hp
      cases e with
      |normal=>
        obtain⟨hk3,hkp3,hi3⟩:=hp
        obtain⟨hr,hl3,hl4,hk4⟩:=fin none W3 hk3
        exact⟨_,_,hr,.inl ⟨rfl,⟨hI.putObj _ hi3 (by omega) hl3 rfl,hl4,hk4⟩,(hkpa.trans hw2).trans (hkp3.trans (kY.put (by omega) _ _))⟩⟩
      |ret=>
        obtain⟨hk3,hi3⟩:=hp
        obtain⟨hr,hl3,hl4,hk4⟩:=fin (some .ret) W3 hk3
        exact⟨_,_,hr,.inr ⟨rfl,.ret,(hIx _).putObj _ hi3 (by omega) hl3 rfl,hl4,hk4⟩⟩
      |exit id=>exact hp.elim
      |goto t=>exact hp.elim
      |panic ch=>exact hp.elim
      |outgrown=>exact hp.elim
    · rintro e W2 ⟨⟨v,rfl⟩,(⟨hi',hl,hk⟩|⟨pre,hSp,c,hi',hl,hk⟩)⟩
      · exact⟨none,_,by have:=run_endLoop (P:=P) hl (by rw[hrec];simp);rw[hrec]at this;exact this,hdone _ _ (Nat.le_refl _) (hI.putObj _ hi' (by omega) hl rfl) ((World.putObj_heap_other (by omega)).trans hk)⟩
      · exact⟨some c,_,by have:=run_endLoop (P:=P) hl (by rw[hrec];simp);rw[hrec]at this;exact this,hstop _ c pre _ (Nat.le_refl _) hSp ((hIx c).putObj _ hi' (by omega) hl rfl) ((World.putObj_heap_other (by omega)).trans hk)⟩
end Go.Proofs.YtkcmamepoplcdaaGreatDoor
