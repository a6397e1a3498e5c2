/-
  The least basis, as lists: what is true of all that GrbLeast answers.
-/
import Derived.Test.YtdidlcjhodejjaaGreatMar
namespace Go.Proofs.YtdidlcjhodejjaaGreat
open Go.RowKit Go.Deep Go.Joins
set_option linter.unusedVariables false
abbrev oT (o:Int) (p:List T):M:=(aV o p).m
def Pc (o:Int) (l:List (List T)):Prop:=l.Pairwise (fun a b=>M.dvd (oT o a) (oT o b)=false∧M.dvd (oT o b) (oT o a)=false)
theorem ML {m:M} (h:m.ok=true):M.dvd m m=true:=by unfold M.dvd;simp[h]
theorem GU {k:Nat→M} {n i j:Nat} (hi:i<n) (hj:j<n) (hij:i≠j) (h1:jP k n i=true) (h2:jP k n j=true):M.dvd (k i) (k j)=false:=by
 cases hd:M.dvd (k i) (k j)
 ·rfl
 ·have q1:=of_decide_eq_true h1;have q2:=of_decide_eq_true h2
  by_cases e:eF (k i) (k j)=true
  ·have e':=dF.1 e;by_cases hl:i<j
   ·exact absurd ⟨hij,hd,.inr hl⟩ (q2 i hi)
   ·exact absurd ⟨fun q=>hij q.symm,by rw[e']at hd⊢;exact hd,.inr (by omega)⟩ (q1 j hj)
  ·exact absurd ⟨hij,hd,.inl (by cases h:eF (k i) (k j);rfl;exact absurd h e)⟩ (q2 i hi)
theorem DU {o:Int} {n:Nat} {L:Nat→List T}:∀j,j≤n→Pc o (fJ (jP (fun i=>(aV o (L i)).m) n) L j)
 |0,_=>List.Pairwise.nil
 |j+1,hj=>by
  unfold fJ;split
  ·rename_i hn;refine List.pairwise_append.2 ⟨DU j (by omega),List.pairwise_singleton _ _,fun a ha b hb=>?_⟩;obtain⟨i,hi,hni,rfl⟩:=sN ha;rw[List.mem_singleton.1 hb];exact⟨GU (k:=fun i=>(aV o (L i)).m) (by omega) (by omega) (by omega) hni hn,GU (k:=fun i=>(aV o (L i)).m) (by omega) (by omega) (by omega) hn hni⟩
  ·exact DU j (by omega)
theorem GE {α:Type} (lt:α→α→Bool) (x:α):∀l:List α,(eX lt x l).Perm (x::l)
 |[]=>List.Perm.refl _
 |y::r=>by
  show(if lt x y=true then x::y::r else y::eX lt x r).Perm _;split
  ·exact List.Perm.refl _
  ·exact((GE lt x r).cons y).trans (List.Perm.swap x y r)
theorem IJ {α:Type} (lt:α→α→Bool):∀l acc:List α,(iT lt acc l).Perm (acc++l)
 |[],acc=>by rw[List.append_nil];exact List.Perm.refl _
 |x::r,acc=>by refine(IJ lt r (eX lt x acc)).trans ?_;refine((GE lt x acc).append_right r).trans ?_;exact(List.perm_middle (a:=x) (l₁:=acc) (l₂:=r)).symm
theorem CN (o:Int) (n:Nat) (L:Nat→List T):Pc o (bU o n L):=by refine((IJ (UJ o) _ []).pairwise_iff (fun h=>⟨h.2,h.1⟩)).2 ?_;rw[List.nil_append];exact DU n (Nat.le_refl _)
def FI (o:Int) (l:List (List T)):Prop:=l.Pairwise (fun a b=>fH o (oT o a)≤fH o (oT o b))
theorem CK {o:Int} {x:List T}:∀{l:List (List T)},FI o l→FI o (eX (UJ o) x l)
 |[],_=>List.pairwise_singleton _ _
 |y::r,h=>by
  obtain⟨h1,h2⟩:=List.pairwise_cons.1 h;show FI o (if UJ o x y=true then x::y::r else y::eX (UJ o) x r)
  by_cases e:UJ o x y=true
  ·rw[if_pos e];have e':fH o (oT o x)<fH o (oT o y):=of_decide_eq_true e
   refine List.pairwise_cons.2 ⟨fun z hz=>?_,h⟩;rcases List.mem_cons.1 hz with rfl|hz
   ·omega
   ·have:=h1 z hz;omega
  ·rw[if_neg e];have e':fH o (oT o y)≤fH o (oT o x):=by
    rcases Int.lt_or_le (fH o (oT o x)) (fH o (oT o y))with q|q
    ·exact absurd (decide_eq_true q) e
    ·exact q
   refine List.pairwise_cons.2 ⟨fun z hz=>?_,CK h2⟩;rcases wI.1 hz with rfl|hz
   ·exact e'
   ·exact h1 z hz
theorem DY {o:Int}:∀{l acc:List (List T)},FI o acc→FI o (iT (UJ o) acc l)
 |[],acc,h=>h
 |x::r,acc,h=>DY (l:=r) (CK h)
theorem wR {l:List (List T)} {i:Nat} {Y:List T} (h:i<l.length) (j:Nat):bC (jH l i Y) j=if j=i then Y else bC l j:=by
 show(jH l i Y).getD j []=if j=i then Y else l.getD j [];rw[OO h,List.getD_eq_getElem?_getD,List.getD_eq_getElem?_getD,List.getElem?_set];by_cases e:i=j
 ·subst e;simp[h]
 ·rw[if_neg e,if_neg (fun q=>e q.symm)]
theorem Jc {l:List (List T)} {i j:Nat} (hj:j<l.length) (hij:j≠i):bC l j∈eN l i:=by
 show l.getD j []∈l.take i++l.drop (i+1);rw[List.getD_eq_getElem?_getD,List.getElem?_eq_getElem hj];show l[j]∈_
 rcases Nat.lt_or_ge j i with h|h
 ·exact List.mem_append_left _ (List.mem_iff_getElem.2 ⟨j,by rw[List.length_take];omega,by rw[List.getElem_take]⟩)
 ·refine List.mem_append_right _ (List.mem_iff_getElem.2 ⟨j-(i+1),by rw[List.length_drop];omega,?_⟩);rw[List.getElem_drop];congr 1;omega
theorem KD {l:List (List T)} {i:Nat} {q:List T} (h:q∈eN l i):∃j,j<l.length∧j≠i∧bC l j=q:=by
 rcases List.mem_append.1 h with h|h
 ·obtain⟨j,hj,rfl⟩:=List.mem_iff_getElem.1 h;rw[List.length_take]at hj;refine⟨j,by omega,by omega,?_⟩;show l.getD j []=_
  rw[List.getD_eq_getElem?_getD,List.getElem?_eq_getElem (by omega),List.getElem_take];rfl
 ·obtain⟨j,hj,rfl⟩:=List.mem_iff_getElem.1 h;rw[List.length_drop]at hj;refine⟨i+1+j,by omega,by omega,?_⟩;show l.getD (i+1+j) []=_
  rw[List.getD_eq_getElem?_getD,List.getElem?_eq_getElem (by omega),List.getElem_drop];rfl
structure Hb (o:Int) (N i:Nat) (l l0:List (List T)):Prop where
 len:l.length=N
 ok:UU l
 lead:∀j,j<N→oT o (bC l j)=oT o (bC l0 j)
 anti:∀j k,j<N→k<N→j≠k→M.dvd (oT o (bC l j)) (oT o (bC l k))=false
 done:∀k,k<i→(aV o (bC l k)).c=1∧∀t∈bC l k,∀j,j<N→j≠k→M.dvd (oT o (bC l j)) t.m=false
theorem Hb.step {o:Int} {N i:Nat} {l l0:List (List T)} (h:Hb o N i l l0) (hi:i<N) {Y:List T} (hY:mQ o (bC l i) (eN l i)=some Y):Hb o N (i+1) (jH l i Y) l0:=by
 have hil:i<l.length:=by rw[h.len];exact hi
 obtain⟨k1,k2,k3⟩:=YD hY (h.ok _ (eY hil)).2 (fun q hq=>by
  obtain⟨j,hj,hji,rfl⟩:=KD hq
  exact h.anti j i (by rw[←h.len];exact hj) hi hji)
 have hm:∀j,oT o (bC (jH l i Y) j)=oT o (bC l j):=fun j=>by
  rw[wR hil];by_cases e:j=i
  ·rw[if_pos e,e];exact k1
  ·rw[if_neg e]
 refine⟨by rw[qE hil];exact h.len,AS h.ok (wQ hY),fun j hj=>by rw[hm];exact h.lead j hj,fun j k hj hk hjk=>by rw[hm,hm];exact h.anti j k hj hk hjk,fun k hk=>?_⟩;have e2:∀j,oT o (bC (jH l i Y) j)=oT o (bC l j):=hm
 by_cases e:k=i
 ·subst e;have e3:bC (jH l k Y) k=Y:=by rw[wR hil,if_pos rfl]
  rw[e3];refine⟨k2,fun t ht j hj hjk=>?_⟩;rw[e2];exact k3 t ht _ (Jc (by rw[h.len];exact hj) hjk)
 ·have e3:bC (jH l i Y) k=bC l k:=by rw[wR hil,if_neg e]
  rw[e3];obtain⟨d1,d2⟩:=h.done k (by omega);exact⟨d1,fun t ht j hj hjk=>by rw[e2];exact d2 t ht j hj hjk⟩
theorem Hb.run {o:Int} {N:Nat} {l0:List (List T)}:∀{u i:Nat} {l l':List (List T)},i+u=N→Hb o N i l l0→gD o u i l=some l'→Hb o N N l' l0
 |0,i,l,l',hu,h,hr=>by
  have hr':some l=some l':=hr;cases hr';have:i=N:=by omega
  subst this;exact h
 |u+1,i,l,l',hu,h,hr=>by
  cases hY:mQ o (bC l i) (eN l i)with
  |none=>rw[lL hY]at hr;cases hr
  |some Y=>rw[kF hY]at hr;exact Hb.run (by omega) (h.step (by omega) hY) hr
theorem KI {R:List T→List T→Prop} {l:List (List T)} (h:l.Pairwise R) {i j:Nat} (hij:i<j) (hj:j<l.length):R (bC l i) (bC l j):=by
 have:=List.pairwise_iff_getElem.1 h i j (by omega) hj hij;show R (l.getD i []) (l.getD j [])
 rw[List.getD_eq_getElem?_getD,List.getD_eq_getElem?_getD,List.getElem?_eq_getElem hj,List.getElem?_eq_getElem (show i<l.length by omega)];exact this
structure FG (o:Int) (l:List (List T)):Prop where
 ho:1≤o∧o≤3
 le:l.length≤12
 ok:UU l
 anti:∀j k,j<l.length→k<l.length→j≠k→M.dvd (oT o (bC l j)) (oT o (bC l k))=false
 one:∀k,k<l.length→(aV o (bC l k)).c=1
 free:∀k,k<l.length→∀t∈bC l k,∀j,j<l.length→j≠k→M.dvd (oT o (bC l j)) t.m=false
 rise:∀j k,j<k→k<l.length→fH o (oT o (bC l j))<fH o (oT o (bC l k))
theorem gP {o:Int} {n:Nat} {L:Nat→List T} {l:List (List T)} (h:aU o n L=some l):(1≤o∧o≤3)∧aT n (lN L) (fN L)=true∧gD o (bU o n L).length 0 (bU o n L)=some l:=by
 unfold aU at h;split at h
 ·rename_i hh;exact⟨hh.1,hh.2,h⟩
 ·cases h
theorem mZ {o:Int} {n:Nat} {L:Nat→List T} {l:List (List T)} (h:aU o n L=some l):Hb o (bU o n L).length (bU o n L).length l (bU o n L):=by
 obtain⟨ho,hl,hr⟩:=gP h;obtain⟨k1,k2⟩:=tF (o:=o) hl;refine Hb.run (Nat.zero_add _) ⟨rfl,k1,fun _ _=>rfl,fun j k hj hk hjk=>?_,fun k hk=>absurd hk (rT _)⟩ hr;have ha:=CN o n L
 rcases Nat.lt_or_gt_of_ne hjk with q|q
 ·exact(KI ha q hk).1
 ·exact(KI ha q hj).2
theorem iZ {o:Int} {n:Nat} {L:Nat→List T} {l:List (List T)} (h:aU o n L=some l):FG o l:=by
 obtain⟨ho,hl,hr⟩:=gP h;obtain⟨k1,k2⟩:=tF (o:=o) hl;have hs:=mZ h
 have hle:=hs.len;refine⟨ho,by omega,hs.ok,fun j k hj hk=>hs.anti j k (by omega) (by omega),fun k hk=>(hs.done k (by omega)).1,fun k hk t ht j hj=>(hs.done k (by omega)).2 t ht j (by omega),fun j k hjk hk=>?_⟩;rw[hs.lead j (by omega),hs.lead k (by omega)];have hr:FI o (bU o n L):=DY List.Pairwise.nil
 have h1:=KI hr hjk (by omega);have h2:=(KI (CN o n L) hjk (by omega)).1
 have o1:=mP (o:=o) (k1 _ (eY (l:=bU o n L) (i:=j) (by omega)));have o2:=mP (o:=o) (k1 _ (eY (l:=bU o n L) (i:=k) (by omega)))
 rcases Int.lt_or_le (fH o (oT o (bC (bU o n L) j))) (fH o (oT o (bC (bU o n L) k)))with q|q
 ·exact q
 ·have e:=lW (o:=o) _ _ o1 o2 (show fH o (oT o (bC (bU o n L) j))=fH o (oT o (bC (bU o n L) k)) by omega);have e':oT o (bC (bU o n L) j)=oT o (bC (bU o n L) k):=e
  rw[e',ML o2]at h2;cases h2
abbrev vi (z:Int):Value:=.int .i64 z
structure Bs where
 m:Nat
 L:Nat→List T
 P:Nat→Nat→List T
theorem pD.congr {lo:Nat} {w:World} {q q':Nat→List T} {j:Nat} {tv:Value} {ad:Nat→Option Addr} {cp B:Nat→Nat} (h:pD lo w q j tv ad cp B) (he:∀i,i<j→q i=q' i):pD lo w q' j tv ad cp B where
 row:=by
  have e:FC ad (fun i=>(q i).length) cp j=FC ad (fun i=>(q' i).length) cp j:=by
   unfold FC;refine List.map_congr_left (fun i hi=>?_);show Value.slice (ad i) (q i).length (cp i)=Value.slice (ad i) (q' i).length (cp i)
   rw[he i (List.mem_range.1 hi)]
  rw[←e];exact h.row
 el:=fun i hi=>by rw[←he i hi];exact h.el i hi
 ap:=fun i k h1 h2=>by rw[←he i (by omega),←he k h2];exact h.ap i k h1 h2
 lo:=h.lo
theorem pD.more {lo:Nat} {w0 w1 w5:World} {q:Nat→List T} {j:Nat} {tv:Value} {ad:Nat→Option Addr} {cp B:Nat→Nat} (h0:pD lo w0 q j tv ad cp B) (h:pD lo w1 q j tv ad cp B) {a:Option Addr} {c:Nat} (ho:jN w0.heap.size w1 a c (q j)) {g0 cap0:Nat} (hgrow:(w1.alloc (.cells #[.slice a (q j).length c] 45)).grownBy w5 tv.ownBlock) (hown:w5.ownsRow lo 45 1 (.slice (some ⟨g0,0,none⟩) (j+1) cap0) (j+1) (FC ad (fun i=>(q i).length) cp j++[.slice a (q j).length c])) (hat:tv.ownBlock=some g0∨g0=(w1.alloc (.cells #[.slice a (q j).length c] 45)).heap.size) (hlt:g0<w5.heap.size):∃ad' cp' B',pD lo w5 q (j+1) (.slice (some ⟨g0,0,none⟩) (j+1) cap0) ad' cp' B':=
 ⟨_,_,_,h.round (m:=w0.heap.size) (fun i hi h1=>by
  rcases(h0.el i hi).2.2 with hz|⟨_,_,_,h3,_⟩
  ·exact absurd hz h1
  ·exact h3) (fun k hk=>(h0.row.lt k hk).2) h0.lo ho hgrow hown (hat.imp id (fun e=>e.trans (by simp))) hlt⟩
def Sa (w:World) (a:Option Addr) (n cap:Nat) (A:Nat→Option Addr) (C:Nat→Nat) (AD:Nat→Nat→Option Addr) (CP:Nat→Nat→Nat) (N:Nat→Nat) (L:Nat→Nat→Nat) (F:Nat→Nat→Nat→T):Prop:=
 n≤cap∧n*40≤140737488351232∧(n=0∨∃b off,a=some ⟨b,off,none⟩∧b<w.heap.size∧∀i,i<n→w.cell? ⟨b,off+i,none⟩=some (.slice (A i) (N i) (C i)))∧∀i,i<n→cZ w (A i) (N i) (C i) (AD i) (L i) (CP i) (F i)
theorem Sa.below {w w':World} {a:Option Addr} {n cap:Nat} {A:Nat→Option Addr} {C:Nat→Nat} {AD:Nat→Nat→Option Addr} {CP:Nat→Nat→Nat} {N:Nat→Nat} {L:Nat→Nat→Nat} {F:Nat→Nat→Nat→T} (h:Sa w a n cap A C AD CP N L F) (hb:Below w.heap.size w w'):Sa w' a n cap A C AD CP N L F:=by
 refine⟨h.1,h.2.1,?_,fun i hi=>(h.2.2.2 i hi).below hb⟩;rcases h.2.2.1 with h0|⟨b,off,he,hlt,hc⟩
 ·exact .inl h0
 ·exact .inr ⟨b,off,he,jY hlt hb.size,fun i hi=>(hb.cell (p:=⟨b,off+i,none⟩) hlt).trans (hc i hi)⟩
abbrev R3 (w:World) (pa:Option Addr) (m pc g:Nat) (A:Nat→Option Addr) (C:Nat→Nat) (AD:Nat→Nat→Option Addr) (CP:Nat→Nat→Nat) (P:Nat→Nat→List T):Prop:=Sa w pa m pc A C AD CP (fun _=>g) (fun i=>lN (P i)) (fun i=>fN (P i))
theorem Wr.set {w:World} {a:Option Addr} {n:Nat} {f:Nat→T} {lo B o:Nat} {v:Value} (h:Wr w a n f) (hf:n=0∨∃g off,a=some ⟨g,off,none⟩∧lo≤g) (hB:B<lo):Wr (w.setCell ⟨B,o,none⟩ v) a n f:=by
 rcases h with h0|⟨g,off,N,F,rfl,hR,hN,hF⟩
 ·exact .inl h0
 ·rcases hf with h0|⟨g',off',he,hlo⟩
  ·exact .inl h0
  ·cases he;have hne:g≠B:=by omega
   exact .inr ⟨g,off,N,F,rfl,hR.of_block (Below.heap_setCell _ _ _ _ hne),hN,hF⟩
theorem OS {w:World} {a:Option Addr} {n cap g o:Nat} {f:Nat→T} {v:Value} (h:Rd w a n cap f) (hne:n=0∨∀b off,a=some ⟨b,off,none⟩→b≠g):Rd (w.setCell ⟨g,o,none⟩ v) a n cap f:=
 h.grown (row:=some g) ⟨rfl,rfl,rfl,by simp[World.setCell],fun k _ hk=>Below.heap_setCell _ _ _ _ (fun e=>hk (by rw[e]))⟩ (hne.imp id (fun k b off he hb=>k b off he (by cases hb;rfl)))
theorem jN.set {lo:Nat} {w:World} {a:Option Addr} {cap:Nat} {L:List T} {B o:Nat} {v:Value} (h:jN lo w a cap L) (hB:B<lo):jN lo (w.setCell ⟨B,o,none⟩ v) a cap L:=
 ⟨OS h.1 (h.2.2.imp id (fun⟨g,off,he,hlo⟩ b off' hb=>by rw[he]at hb;cases hb;omega)),h.2.1.set h.2.2 hB,h.2.2⟩
theorem jN.nil (lo:Nat) (w:World):jN lo w none 0 []:=⟨⟨Nat.le_refl _,by simp,.inl rfl⟩,.inl rfl,.inl rfl⟩
theorem jN.low {lo lo':Nat} {w:World} {a:Option Addr} {cap:Nat} {L:List T} (h:jN lo w a cap L) (hl:lo'≤lo):jN lo' w a cap L:=⟨h.1,h.2.1,h.2.2.imp id (fun⟨g,off,he,hlo⟩=>⟨g,off,he,jZ hl hlo⟩)⟩
theorem C2.set {b1 o1 b2 o2:Nat} {v1 v2:Value} {u:World} {B:Nat} {v:Value} (h:C2 b1 o1 v1 b2 o2 v2 u) (h1:b1≠B) (h2:b2≠B):C2 b1 o1 v1 b2 o2 v2 (u.setCell ⟨B,0,none⟩ v):=
 ⟨(mB (w:=u) (a:=⟨b1,o1,none⟩) (Below.heap_setCell _ _ _ _ h1)).trans h.1,(mB (w:=u) (a:=⟨b2,o2,none⟩) (Below.heap_setCell _ _ _ _ h2)).trans h.2⟩
end Go.Proofs.YtdidlcjhodejjaaGreat
