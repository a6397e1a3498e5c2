/-
  The least basis, as lists: who is needed, in which order, and what is left of each by the others.
-/
import Derived.Test.YtelkehjdfcoeiaaGreatMba
set_option maxHeartbeats 4000000
set_option maxRecDepth 100000
namespace Go.Proofs.YtelkehjdfcoeiaaGreat
open Go.RowKit Go.Deep Go.Joins
set_option linter.unusedVariables false
abbrev bY (l:List (List T)):Nat→List T:=fun i=>l.getD i []
def gD {α:Type} (l:List α) (i:Nat):List α:=l.take i++l.drop (i+1)
def jD {α:Type} (l:List α) (i:Nat) (y:α):List α:=l.take i++y::l.drop (i+1)
def jR (k:Nat→M) (n i:Nat):Bool:=decide (∀j,j<n→¬(j≠i∧M.dvd (k j) (k i)=true∧(eF (k j) (k i)=false∨j<i)))
def gS {α:Type} (nd:Nat→Bool) (f:Nat→α):Nat→List α
 |0=>[]
 |j+1=>if nd j=true then gS nd f j++[f j]else gS nd f j
def fJ {α:Type} (lt:α→α→Bool) (x:α):List α→List α
 |[]=>[x]
 |y::r=>if lt x y=true then x::y::r else y::fJ lt x r
def jA {α:Type} (lt:α→α→Bool):List α→List α→List α
 |acc,[]=>acc
 |acc,x::r=>jA lt (fJ lt x acc) r
def RE (o:Int) (A B:List T):Bool:=decide (eO o (aU o A).m<eO o (aU o B).m)
theorem Ad {o:Int} {a b:M} (ho:1≤o∧o≤3) (ha:a.ok=true) (hb:b.ok=true):M.ord o a b<0↔eO o a<eO o b:=by
 rw[zP ho ha hb];unfold c3;split
 ·simp_all
 ·split<;>simp_all
theorem kS {o:Int} {A:List T} (h:cF A=true∧A.length≠0):(aU o A).m.ok=true:=(dJ (aD h.1).2 h.2).1
def qU (o:Int) (R:List T):List T:=Oq (kE (aU o R).c) R
def pI (o:Int) (p:List T) (oth:List (List T)):Option (List T):=
 match aY o p oth.length (lN (bY oth)) (fN (bY oth))with
 |some S=>if S.r.length=0 then none else some (qU o S.r)
 |none=>none
def iF (o:Int):Nat→Nat→List (List T)→Option (List (List T))
 |0,_,l=>some l
 |u+1,i,l=>match pI o (bY l i) (gD l i)with
  |none=>none
  |some Y=>iF o u (i+1) (jD l i Y)
def cH (o:Int) (n:Nat) (L:Nat→List T):List (List T):=jA (RE o) [] (gS (jR (fun i=>(aU o (L i)).m) n) L n)
def aT (o:Int) (n:Nat) (L:Nat→List T):Option (List (List T)):=
 if(1≤o∧o≤3)∧bB n (lN L) (fN L)=true then iF o (cH o n L).length 0 (cH o n L)else none
theorem mO {o:Int} {u i:Nat} {l:List (List T)} (h:pI o (bY l i) (gD l i)=none):iF o (u+1) i l=none:=by show(match pI o (bY l i) (gD l i)with|none=>none|some Y=>iF o u (i+1) (jD l i Y))=none;rw[h]
theorem nG {o:Int} {u i:Nat} {l:List (List T)} {Y:List T} (h:pI o (bY l i) (gD l i)=some Y):iF o (u+1) i l=iF o u (i+1) (jD l i Y):=by show(match pI o (bY l i) (gD l i)with|none=>none|some Y=>iF o u (i+1) (jD l i Y))=_;rw[h]
theorem wF {α β:Type} (g:α→β) (nd:Nat→Bool) (f:Nat→α):∀n,(gS nd f n).map g=gS nd (fun i=>g (f i)) n
 |0=>rfl
 |n+1=>by
  unfold gS;split
  ·rw[List.map_append,wF g nd f n];rfl
  ·exact wF g nd f n
theorem rT {α:Type} {nd:Nat→Bool} {f:Nat→α} {x:α}:∀{n},x∈gS nd f n→∃i,i<n∧nd i=true∧x=f i
 |0,h=>by cases h
 |n+1,h=>by
  unfold gS at h;split at h
  ·rename_i hn;rcases List.mem_append.1 h with h|h
   ·obtain⟨i,h1,h2,h3⟩:=rT h;exact⟨i,by omega,h2,h3⟩
   ·exact⟨n,by omega,hn,by simpa using h⟩
  ·obtain⟨i,h1,h2,h3⟩:=rT h;exact⟨i,by omega,h2,h3⟩
theorem pP {α:Type} (nd:Nat→Bool) (f:Nat→α):∀n,(gS nd f n).length≤n
 |0=>Nat.le_refl _
 |n+1=>by
  have:=pP nd f n;unfold gS;split
  ·simp;omega
  ·omega
theorem KS {α β:Type} (g:α→β) (lt:β→β→Bool) (x:α):∀l:List α,(fJ (fun a b=>lt (g a) (g b)) x l).map g=fJ lt (g x) (l.map g)
 |[]=>rfl
 |y::r=>by
  show(if lt (g x) (g y)=true then x::y::r else y::fJ (fun a b=>lt (g a) (g b)) x r).map g=if lt (g x) (g y)=true then g x::g y::r.map g else g y::fJ lt (g x) (r.map g);split
  ·rfl
  ·rw[List.map_cons,KS g lt x r]
theorem CL {α β:Type} (g:α→β) (lt:β→β→Bool):∀(l acc:List α),(jA (fun a b=>lt (g a) (g b)) acc l).map g=jA lt (acc.map g) (l.map g)
 |[],acc=>rfl
 |x::r,acc=>by show(jA (fun a b=>lt (g a) (g b)) (fJ (fun a b=>lt (g a) (g b)) x acc) r).map g=jA lt (fJ lt (g x) (acc.map g)) (r.map g);rw[CL g lt r,KS]
theorem vO {α:Type} {lt:α→α→Bool} {x z:α}:∀{l:List α},z∈fJ lt x l↔z=x∨z∈l
 |[]=>by simp[fJ]
 |y::r=>by
  unfold fJ;split
  ·simp
  ·simp only[List.mem_cons,vO (l:=r)];constructor
   ·rintro(h|h|h)
    ·exact .inr (.inl h)
    ·exact .inl h
    ·exact .inr (.inr h)
   ·rintro(h|h|h)
    ·exact .inr (.inl h)
    ·exact .inl h
    ·exact .inr (.inr h)
theorem KR {α:Type} (lt:α→α→Bool) (x:α):∀l:List α,(fJ lt x l).length=l.length+1
 |[]=>rfl
 |y::r=>by
  unfold fJ;split
  ·rfl
  ·show(fJ lt x r).length+1=_;rw[KR lt x r];rfl
theorem rV {α:Type} {lt:α→α→Bool} {z:α}:∀{l acc:List α},z∈jA lt acc l↔z∈acc∨z∈l
 |[],acc=>by simp[jA]
 |x::r,acc=>by
  show z∈jA lt (fJ lt x acc) r↔_;rw[rV (l:=r),vO];simp only[List.mem_cons];constructor
  ·rintro((h|h)|h)
   ·exact .inr (.inl h)
   ·exact .inl h
   ·exact .inr (.inr h)
  ·rintro(h|h|h)
   ·exact .inl (.inr h)
   ·exact .inl (.inl h)
   ·exact .inr h
theorem rU {α:Type} (lt:α→α→Bool):∀l acc:List α,(jA lt acc l).length=acc.length+l.length
 |[],acc=>rfl
 |x::r,acc=>by
  show(jA lt (fJ lt x acc) r).length=_;rw[rU lt r,KR];show acc.length+1+r.length=acc.length+(r.length+1)
  omega
theorem FG {α:Type} (lt:α→α→Bool) (x:α):∀l acc:List α,jA lt acc (l++[x])=fJ lt x (jA lt acc l)
 |[],acc=>rfl
 |y::r,acc=>FG lt x r (fJ lt y acc)
theorem CB {α:Type} {l:List α} {i:Nat} {y:α} (h:i<l.length):(jD l i y).length=l.length:=by unfold jD;rw[List.length_append,List.length_take,List.length_cons,List.length_drop];omega
theorem nJ {α:Type} {l:List α} {i:Nat} (h:i<l.length):(gD l i).length=l.length-1:=by unfold gD;rw[List.length_append,List.length_take,List.length_drop];omega
theorem CC {α β:Type} (g:α→β) (l:List α) (i:Nat) (y:α):(jD l i y).map g=jD (l.map g) i (g y):=by unfold jD;rw[List.map_append,List.map_cons,List.map_take,List.map_drop]
theorem LH {α β:Type} (g:α→β) (l:List α) (i:Nat):(gD l i).map g=gD (l.map g) i:=by unfold gD;rw[List.map_append,List.map_take,List.map_drop]
theorem LI {α:Type} {l:List α} {i:Nat} {x:α} (h:x∈gD l i):x∈l:=by
 rcases List.mem_append.1 h with h|h
 ·exact List.mem_of_mem_take h
 ·exact List.mem_of_mem_drop h
theorem LX {α:Type} {l:List α} {i:Nat} {x y:α} (h:x∈jD l i y):x=y∨x∈l:=by
 rcases List.mem_append.1 h with h|h
 ·exact .inr (List.mem_of_mem_take h)
 ·rcases List.mem_cons.1 h with h|h
  ·exact .inl h
  ·exact .inr (List.mem_of_mem_drop h)
theorem LY {α:Type} {l:List α} {i:Nat} {y:α} (h:i<l.length):jD l i y=l.set i y:=by unfold jD;rw[List.set_eq_take_append_cons_drop,if_pos h]
def RU (l:List (List T)):Prop:=∀p∈l,cF p=true∧p.length≠0
theorem eE {l:List (List T)} {i:Nat} (h:i<l.length):bY l i∈l:=by show l.getD i []∈l;rw[List.getD_eq_getElem?_getD,List.getElem?_eq_getElem h];exact List.getElem_mem h
theorem RV {l:List (List T)} (h:RU l) (h12:l.length≤12):bB l.length (lN (bY l)) (fN (bY l))=true:=
 decide_eq_true ⟨h12,fun i hi=>⟨(h _ (eE hi)).2,(h _ (eE hi)).1⟩⟩
theorem GP {n:Nat} {L:Nat→List T} (h:bB n (lN L) (fN L)=true) {nd:Nat→Bool}:RU (gS nd L n):=fun p hp=>by
 obtain⟨i,hi,_,rfl⟩:=rT hp;exact⟨((aQ h).2 i hi).2,((aQ h).2 i hi).1⟩
theorem sH {o:Int} {n:Nat} {L:Nat→List T} (h:bB n (lN L) (fN L)=true):RU (cH o n L)∧(cH o n L).length≤12:=by
 refine⟨fun p hp=>?_,?_⟩
 ·rcases rV.1 hp with h1|h1
  ·cases h1
  ·exact GP h p h1
 ·unfold cH;rw[rU];have h1:=pP (jR (fun i=>(aU o (L i)).m) n) L n
  have h2:=(aQ h).1;simp only[List.length_nil];omega
theorem zJ {o:Int} {R:List T} (h:cF R=true) (h0:R.length≠0):cF (qU o R)=true∧(qU o R).length=R.length∧qU o R=iS (kE (aU o R).c) R:=by
 obtain⟨_,c1,c2⟩:=dJ (o:=o) (aD h).2 h0;have p1:=vG c1 c2
 have p2:=(nZ (aU o R).c).2;have e:qU o R=iS (kE (aU o R).c) R:=Ck p1 p2 h
 refine⟨?_,?_,e⟩
 ·rw[e];exact gO (by rw[eG];exact(aD h).1) (gR p1 p2 (aD h).2)
 ·rw[e,eG]
theorem jX {o:Int} {p:List T} {n:Nat} {ln:Nat→Nat} {f:Nat→Nat→T} {S:Dv} (h:aY o p n ln f=some S):cF S.r=true∧S.r.length≤300:=by
 unfold aY at h;split at h
 ·rename_i hh;obtain⟨h1,_⟩:=vB hh.2.2 (kM.start hh.2.1) h;have:=h1.r.2
  exact⟨gO (by omega) h1.r.1,by omega⟩
 ·cases h
theorem vV {o:Int} {p:List T} {oth:List (List T)} {Y:List T} (h:pI o p oth=some Y):cF Y=true∧Y.length≠0:=by
 unfold pI at h;split at h
 ·rename_i S hS;split at h
  ·cases h
  ·rename_i h0;cases h;have h1:=jX hS
   have h2:=zJ (o:=o) h1.1 h0;exact⟨h2.1,by rw[h2.2.1];exact h0⟩
 ·cases h
theorem zN {l:List (List T)} {i:Nat} {Y:List T} (h:RU l) (hY:cF Y=true∧Y.length≠0):RU (jD l i Y):=fun p hp=>by
 rcases LX hp with rfl|h1
 ·exact hY
 ·exact h p h1
theorem Gk {l:List (List T)} {i:Nat} (h:RU l):RU (gD l i):=fun p hp=>h p (LI hp)
structure E where
 a:Option Addr
 c:Nat
 p:List T
def E.v (e:E):Value:=.slice e.a e.p.length e.c
def E0:E:=⟨none,0,[]⟩
theorem Ke (es:List E):∀u∈es.map E.v,u.oneCell'=true:=fun u hu=>by
 obtain⟨e,_,rfl⟩:=List.mem_map.1 hu;rfl
def lW (w:World) (g:Option Nat) (e:E):Prop:=RL w e.a e.c e.p∧(e.p.length=0∨∀b off,e.a=some ⟨b,off,none⟩→g≠some b)
theorem lW.below {w w':World} {g:Option Nat} {e:E} (h:lW w g e) (hb:Below w.heap.size w w'):lW w' g e:=⟨Rd.below h.1 hb,h.2⟩
theorem lW.grown {w w':World} {g:Option Nat} {e:E} (h:lW w g e) (hg:w.grownBy w' g):lW w' g e:=⟨Rd.grown h.1 hg (h.2.imp id (fun q b off e1 e2=>q b off e1 e2.symm)),h.2⟩
theorem lW.to {w:World} {g g':Option Nat} {e:E} (h:lW w g e) (hg:g'=g∨∃k,g'=some k∧w.heap.size≤k):lW w g' e:=by
 refine⟨h.1,?_⟩;rcases hg with rfl|⟨k,rfl,hk⟩
 ·exact h.2
 ·rcases h.1.2.2 with h0|⟨b,off,e1,hlt,_⟩
  ·exact .inl h0
  ·refine .inr fun b' off' e2 e3=>?_;rw[e1]at e2;cases e2;have:k=b:=by simpa using e3
   omega
theorem lW.any {w:World} {e:E} (h:RL w e.a e.c e.p) {k:Nat} (hk:w.heap.size≤k):lW w (some k) e:=(show lW w none e from⟨h,.inr fun _ _ _ q=>by cases q⟩).to (.inr ⟨k,rfl,hk⟩)
structure cT (lo:Nat) (w:World) (tv:Value) (es:List E):Prop where
 row:w.ownsRow lo 41 1 tv es.length (es.map E.v)
 el:∀e∈es,lW w tv.ownBlock e
theorem cT.nil (lo:Nat) (w:World):cT lo w (.slice none 0 0) []:=⟨⟨rfl,.inl ⟨rfl,rfl⟩⟩,fun e he=>by cases he⟩
theorem cT.start {lo:Nat} {w:World} (h:lo≤w.heap.size):cT lo (w.alloc (.cells #[] 41)) (.slice (some ⟨w.heap.size,0,none⟩) 0 0) []:=⟨⟨rfl,.inr ⟨w.heap.size,0,#[],rfl,h,heap_alloc_new w (.cells #[] 41),Nat.le_refl _,Nat.zero_le _,rfl,rfl⟩⟩,fun e he=>by cases he⟩
theorem cT.below {lo:Nat} {w w':World} {tv:Value} {es:List E} (h:cT lo w tv es) (hb:Below w.heap.size w w'):cT lo w' tv es where
 row:=h.row.kept (AF hb none) (by
  cases e:tv.ownBlock with
  |none=>exact .inl rfl
  |some k=>exact .inr (by simp))
 el:=fun e he=>(h.el e he).below hb
theorem cT.app {lo:Nat} {w w5:World} {tv:Value} {es es':List E} (h:cT lo w tv es) (h':∀e∈es',lW w tv.ownBlock e) {g0 cap0:Nat} (hgrow:w.grownBy w5 tv.ownBlock) (hown:w5.ownsRow lo 41 1 (.slice (some ⟨g0,0,none⟩) (es.length+es'.length) cap0) (es.length+es'.length) (es.map E.v++es'.map E.v)) (hat:tv.ownBlock=some g0∨g0=w.heap.size):cT lo w5 (.slice (some ⟨g0,0,none⟩) (es.length+es'.length) cap0) (es++es'):=by
 refine⟨by rw[List.length_append,List.map_append];exact hown,fun e he=>?_⟩;have h1:lW w tv.ownBlock e:=by
  rcases List.mem_append.1 he with q|q
  ·exact h.el e q
  ·exact h' e q
 show lW w5 (some g0) e;rcases hat with q|q
 ·rw[←q];exact h1.grown hgrow
 ·have h2:=h1.to (g':=some g0) (.inr ⟨g0,rfl,by omega⟩);exact⟨(h1.grown hgrow).1,h2.2⟩
def mA (w:World) (a:Option Addr) (c:Nat) (es:List E):Prop:=
 es.length≤c∧es.length≤100∧(es.length=0∨∃b off,a=some ⟨b,off,none⟩∧b<w.heap.size∧∀i e,es[i]? =some e→w.cell? ⟨b,off+i,none⟩=some e.v)∧∀e∈es,RL w e.a e.c e.p
theorem mA.below {w w':World} {a:Option Addr} {c:Nat} {es:List E} (h:mA w a c es) (hb:Below w.heap.size w w'):mA w' a c es:=
 ⟨h.1,h.2.1,h.2.2.1.imp id (fun⟨b,off,e1,hlt,hc⟩=>⟨b,off,e1,lB hlt hb.size,fun i e he=>(hb.cell (p:=⟨b,off+i,none⟩) hlt).trans (hc i e he)⟩),fun e he=>Rd.below (h.2.2.2 e he) hb⟩
theorem cT.rd {lo:Nat} {w:World} {tv:Value} {es:List E} (h:cT lo w tv es) (hn:es.length≤100):∃a c,tv= .slice a es.length c∧mA w a c es:=by
 rcases h.row.2 with⟨hv,h0⟩|⟨b,cap,cur,hv,hlo,hg,hnc,_⟩
 ·exact⟨none,0,by rw[hv,h0],by omega,hn,.inl h0,fun e he=>(h.el e he).1⟩
 ·have hr:=h.row;rw[hv]at hr;refine⟨some ⟨b,0,none⟩,cap,hv,hnc,hn,.inr ⟨b,0,rfl,(hr.lt b rfl).2,fun i e he=>?_⟩,fun e he=>(h.el e he).1⟩;have hi:i<es.length:=(List.getElem?_eq_some_iff.1 he).1
  rw[Nat.zero_add,hr.cellAt i (by omega),List.getElem?_map,he];rfl
theorem yV {es:List E} {i:Nat} (h:i<es.length):es[i]? =some (es.getD i E0)∧es.getD i E0∈es:=by rw[List.getD_eq_getElem?_getD,List.getElem?_eq_getElem h];exact⟨rfl,List.getElem_mem h⟩
theorem oE (es:List E) (i:Nat):bY (es.map E.p) i=(es.getD i E0).p:=by show(es.map E.p).getD i []=_;rw[List.getD_eq_getElem?_getD,List.getD_eq_getElem?_getD,List.getElem?_map];cases es[i]? <;>rfl
theorem mA.rds {w:World} {a:Option Addr} {c:Nat} {es:List E} (h:mA w a c es):eQ w a es.length c (fun i=>(es.getD i E0).a) (lN (bY (es.map E.p))) (fun i=>(es.getD i E0).c) (fN (bY (es.map E.p))):=by
 refine⟨h.1,by have:=h.2.1;omega,?_,fun i hi=>?_⟩
 ·rcases h.2.2.1 with h0|⟨b,off,e1,hlt,hc⟩
  ·exact .inl h0
  ·refine .inr ⟨b,off,e1,hlt,fun i hi=>?_⟩;rw[hc i _ (yV hi).1];show some (Value.slice (es.getD i E0).a (es.getD i E0).p.length (es.getD i E0).c)=some (.slice (es.getD i E0).a (bY (es.map E.p) i).length (es.getD i E0).c)
   rw[oE]
 ·have:=h.2.2.2 _ (yV hi).2;show Rd w (es.getD i E0).a (bY (es.map E.p) i).length (es.getD i E0).c (lf (bY (es.map E.p) i))
  rw[oE];exact this
def gK (ad:Nat→Option Addr) (cp:Nat→Nat) (L:Nat→List T) (i:Nat):E:=⟨ad i,cp i,L i⟩
theorem eQ.el {w:World} {a:Option Addr} {n c:Nat} {ad:Nat→Option Addr} {cp:Nat→Nat} {L:Nat→List T} (h:eQ w a n c ad (lN L) cp (fN L)) {i:Nat} (hi:i<n):RL w (gK ad cp L i).a (gK ad cp L i).c (gK ad cp L i).p:=h.2.2.2 i hi
theorem mA.newsTo {w:World} {b off c:Nat} {es:List E} (h:mA w (some ⟨b,off,none⟩) c es) (k:Nat):∀j u,((es.take k).map E.v)[j]? =some u→w.cell? ((⟨b,off,none⟩:Addr).add j)=some u:=by
 intro j u hu;rw[List.getElem?_map]at hu;cases he:(es.take k)[j]? with
 |none=>rw[he]at hu;cases hu
 |some e=>
  rw[he]at hu;cases hu;have hjk:=(List.getElem?_eq_some_iff.1 he).1
  rw[List.length_take]at hjk;have he':es[j]? =some e:=by rw[List.getElem?_take_of_lt (by omega)]at he;exact he
  rcases h.2.2.1 with h0|⟨b',off',e1,hlt,hc⟩
  ·omega
  ·cases e1;have e2:(⟨b,off,none⟩:Addr).add j=⟨b,off+j,none⟩:=by unfold Addr.add;split<;>simp_all
   rw[e2];exact hc j e he'
theorem Je:(Tryz.prog.info? 41).map (fun i=>(i.zero,i.size,i.bytes))=some (some (.slice none 0 0),1,24):=by kernel_rfl
def jS (k:Nat→M) (i j:Nat):Bool:=decide (∀t,t<j→¬(t≠i∧M.dvd (k t) (k i)=true∧(eF (k t) (k i)=false∨t<i)))
theorem VK {k:Nat→M} {n i j:Nat} (hj:j<n) (h:j≠i∧M.dvd (k j) (k i)=true∧(eF (k j) (k i)=false∨j<i)):jR k n i=false:=decide_eq_false (fun hh=>hh j hj h)
theorem OO (w:World) (a:Option Addr) (n cap:Nat) (f:Nat→T) (i:Nat) (h:Rd w a n cap f) (hi:i<n):Calls Tryz.prog 84 #[.slice a n cap,.int .i64 (i:Int)] w fun r w'=>r= .returned (.bool (jR (fun j=>(f j).m) n i))∧Below w.heap.size w w':=by
 obtain⟨h1,h2,h3⟩:=h;have hn:(n:Int)≤140737488351232:=by omega
 have hin:(i:Int)<(n:Int):=by omega
 rcases h3 with h0|⟨b,off,rfl,hblt,hcl⟩
 ·omega
 obtain⟨c0,c1,c2,c3,c4⟩:=hcl i hi;obtain⟨m,hm⟩:∃m,(f i).m=m:=⟨_,rfl⟩
 rw[hm]at c1 c2 c3 c4;have HM:=aA hm
 have HC:=aA hcl;obtain⟨R,hR⟩:∃R,jR (fun j=>(f j).m) n i=R:=⟨_,rfl⟩
 rw[hR];have HR:=aA hR
 clear hcl hm hR;go_enter Tryz.func84,Tryz.ntmps84;go_wp2;have HO:=aA (M4.box w 84 m.x m.y m.d m.e)
 have HB1:=aA (aC w (.cells #[.int .i64 m.x,.int .i64 m.y,.int .i64 m.d,.int .i64 m.e] 84));have hsz1:w.heap.size<(w.alloc (.cells #[.int .i64 m.x,.int .i64 m.y,.int .i64 m.d,.int .i64 m.e] 84)).heap.size:=by simp
 clear c0 c1 c2 c3 c4;generalize(w.alloc (.cells #[.int .i64 m.x,.int .i64 m.y,.int .i64 m.d,.int .i64 m.e] 84))=w1 at HO HB1 hsz1⊢;go_loopw [15] (fun v wr=>∃j:Nat,j≤n∧v= .int .i64 (j:Int)∧Below w1.heap.size w1 wr∧Hid (∀t,t<j→¬(t≠i∧M.dvd (f t).m m=true∧(eF (f t).m m=false∨t<i)))) (fun v _=>n-(intOf v).toNat);case atStart=>exact⟨0,Nat.zero_le _,rfl,bG _ _,fun t ht=>absurd ht (tD _)⟩
 case round=>
  obtain⟨j,hj,rfl,hB,HJ⟩:=hrel;by_cases hlt:j<n
  ·have hjn:(j:Int)<(n:Int):=by omega
   obtain⟨g0,g1,g2,g3,g4⟩:=(HC.out j hlt).below (aB HB1.out hB) hblt;obtain⟨t,ht⟩:∃t,f j=t:=⟨_,rfl⟩
   rw[ht]at g0 g1 g2 g3 g4;obtain⟨y0,y1,y2,y3,y4⟩:=C5.box wr 86 t;have HOr:=HO.out.below hB
   have HO2:=HOr.below (aC wr (.cells #[.int .i64 t.c,.int .i64 t.m.x,.int .i64 t.m.y,.int .i64 t.m.d,.int .i64 t.m.e] 86));obtain⟨x0,x1,x2,x3⟩:=HO2;have HBT:=aA (aB hB (aC wr (.cells #[.int .i64 t.c,.int .i64 t.m.x,.int .i64 t.m.y,.int .i64 t.m.d,.int .i64 t.m.e] 86)))
   have HBX:=aA (C5.box wr 86 t);have HOX:=aA (HOr.below (aC wr (.cells #[.int .i64 t.c,.int .i64 t.m.x,.int .i64 t.m.y,.int .i64 t.m.d,.int .i64 t.m.e] 86)))
   have HT:=aA ht;have hwr:w1.heap.size≤wr.heap.size:=hB.size
   have hbad:(j≠i∧M.dvd t.m m=true∧(eF t.m m=false∨j<i))→R=false:=fun hh=>by rw[←HR.out];exact VK (k:=fun j=>(f j).m) hlt (by show j≠i∧M.dvd (f j).m (f i).m=true∧(eF (f j).m (f i).m=false∨j<i);rw[HT.out,HM.out];exact hh)
   have hgood:¬(j≠i∧M.dvd t.m m=true∧(eF t.m m=false∨j<i))→∀t',t'<j+1→¬(t'≠i∧M.dvd (f t').m m=true∧(eF (f t').m m=false∨t'<i)):=fun hh t' ht'=>by
    by_cases e:t'=j
    ·rw[e,HT.out];exact hh
    ·exact HJ.out t' (by omega)
   have HBAD:=aA hbad;have HGOOD:=aA hgood
   have hdv:=kH (x:=t.m.x) (y:=t.m.y) (d:=t.m.d) (e:=t.m.e) (x':=m.x) (y':=m.y) (d':=m.d) (e':=m.e) rfl;obtain⟨dv,hdd⟩:∃dv,M.dvd t.m m=dv:=⟨_,rfl⟩
   rw[show M.dvd ⟨t.m.x,t.m.y,t.m.d,t.m.e⟩ ⟨m.x,m.y,m.d,m.e⟩=dv from hdd]at hdv;have HDV:=aA hdv
   have HDD:=aA hdd;clear hB ht hbad hgood hdv hdd HOr;cases dv
   ·have HG:=aA (HGOOD.out (fun hh=>by rw[HDD.out]at hh;exact absurd hh.2.1 (by simp)));go_wp2_with fail;refine(HDV.out _).mono ?_;rintro r w3 ⟨rfl,hb3⟩;have HB3:=aA (aB HBT.out hb3)
    clear hb3;go_wp2;go_roundw;case rel=>exact⟨j+1,by omega,by go_num,HB3.out,HG.out⟩
    case measure=>simp[intOf];omega
   ·by_cases hji:j<i
    ·have hR0:=HBAD.out ⟨by omega,HDD.out,.inr hji⟩;subst hR0;have hjiI:(j:Int)<(i:Int):=by omega
     go_wp2_with fail;refine(HDV.out _).mono ?_;rintro r w3 ⟨rfl,hb3⟩;have HB3:=aA (aB HBT.out hb3)
     clear hb3;go_wp2;go_ret;exact⟨rfl,aB HB1.out HB3.out⟩
    ·have hjiI:¬(j:Int)<(i:Int):=by omega
     go_wp2_with fail;refine(HDV.out _).mono ?_;rintro r w3 ⟨rfl,hb3⟩;have HB3:=aA (aB HBT.out hb3)
     obtain⟨z0,z1,z2,z3,z4⟩:=HBX.out.below hb3;obtain⟨v0,v1,v2,v3⟩:=HOX.out.below hb3;clear hb3 y0 y1 y2 y3 y4 x0 x1 x2 x3;by_cases hx:t.m.x=m.x
     ·by_cases hy:t.m.y=m.y
      ·by_cases hd:t.m.d=m.d
       ·by_cases he:t.m.e=m.e
        ·have HG:=aA (HGOOD.out (fun hh=>by
          rcases hh.2.2 with q|q
          ·have:eF t.m m=true:=decide_eq_true ⟨hx,hy,hd,he⟩;rw[this]at q;cases q
          ·omega))
         go_wp2;go_roundw;case rel=>exact⟨j+1,by omega,by go_num,HB3.out,HG.out⟩
         case measure=>simp[intOf];omega
        ·have hR0:=HBAD.out ⟨by intro e;rw[e]at HT;exact he (by rw[←HT.out,HM.out]),HDD.out,.inl (decide_eq_false (fun q=>he q.2.2.2))⟩;subst hR0;go_wp2;go_ret;exact⟨rfl,aB HB1.out HB3.out⟩
       ·have hR0:=HBAD.out ⟨by intro e;rw[e]at HT;exact hd (by rw[←HT.out,HM.out]),HDD.out,.inl (decide_eq_false (fun q=>hd q.2.2.1))⟩;subst hR0;go_wp2;go_ret;exact⟨rfl,aB HB1.out HB3.out⟩
      ·have hR0:=HBAD.out ⟨by intro e;rw[e]at HT;exact hy (by rw[←HT.out,HM.out]),HDD.out,.inl (decide_eq_false (fun q=>hy q.2.1))⟩;subst hR0;go_wp2;go_ret;exact⟨rfl,aB HB1.out HB3.out⟩
     ·have hR0:=HBAD.out ⟨by intro e;rw[e]at HT;exact hx (by rw[←HT.out,HM.out]),HDD.out,.inl (decide_eq_false (fun q=>hx q.1))⟩;subst hR0;go_wp2;go_ret;exact⟨rfl,aB HB1.out HB3.out⟩
  ·have hjn:¬(j:Int)<(n:Int):=by omega
   have hje:j=n:=by omega
   subst hje;have hR0:R=true:=by
    rw[←HR.out];refine decide_eq_true (fun t ht=>?_);show ¬(t≠i∧M.dvd (f t).m (f i).m=true∧(eF (f t).m (f i).m=false∨t<i))
    rw[HM.out];exact HJ.out t ht
   subst hR0;have HB2:=aA hB
   clear hB;go_wp2;go_ret;exact⟨rfl,aB HB1.out HB2.out⟩
theorem Fa (w:World) (o:Int) (a b:Option Addr) (ca cb:Nat) (A B:List T) (ha:RL w a ca A) (hb:RL w b cb B) (ho:1≤o∧o≤3) (oA:cF A=true∧A.length≠0) (oB:cF B=true∧B.length≠0):Calls Tryz.prog 86 #[.int .i64 o,.slice a A.length ca,.slice b B.length cb] w fun r w'=>r= .returned (.int .i64 (M.ord o (aU o A).m (aU o B).m))∧Below w.heap.size w w':=by
 have hl:=kJ;have e1:bF o A.length (lf A)=true:=iQ.2 ⟨ho,oA.1,fun e=>oA.2 (by rw[e];rfl)⟩
 have e2:bF o B.length (lf B)=true:=iQ.2 ⟨ho,oB.1,fun e=>oB.2 (by rw[e];rfl)⟩;have t1:bN o A.length (lf A)=aU o A:=eK e1
 have t2:bN o B.length (lf B)=aU o B:=eK e2;have k1:=(dJ (o:=o) (aD oA.1).2 oA.2).1
 have k2:=(dJ (o:=o) (aD oB.1).2 oB.2).1;have hc:M.cmp o (aU o A).m (aU o B).m=M.ord o (aU o A).m (aU o B).m:=if_pos ⟨ho,k1,k2⟩
 obtain⟨s,hs⟩:∃s,aU o A=s:=⟨_,rfl⟩
 obtain⟨t,ht⟩:∃t,aU o B=t:=⟨_,rfl⟩
 obtain⟨q,hq⟩:∃q,M.ord o (aU o A).m (aU o B).m=q:=⟨_,rfl⟩
 rw[hq]at hc⊢;rw[hs]at t1 hc;rw[ht]at t2 hc;have HA:=aA ha
 have HB:=aA hb;have HLA:Hid (∀W,RL W a ca A→Calls Tryz.prog 74 #[.int .i64 o,.slice a A.length ca] W fun r w'=>r= .returned (.tuple #[.agg #[.int .i64 s.c,.int .i64 s.m.x,.int .i64 s.m.y,.int .i64 s.m.d,.int .i64 s.m.e],.bool true])∧Below W.heap.size W w'):=fun W hW=>by have:=kJ W o a A.length ca (lf A) hW;rw[t1,e1]at this;exact this
 have HLB:Hid (∀W,RL W b cb B→Calls Tryz.prog 74 #[.int .i64 o,.slice b B.length cb] W fun r w'=>r= .returned (.tuple #[.agg #[.int .i64 t.c,.int .i64 t.m.x,.int .i64 t.m.y,.int .i64 t.m.d,.int .i64 t.m.e],.bool true])∧Below W.heap.size W w'):=fun W hW=>by have:=kJ W o b B.length cb (lf B) hW;rw[t2,e2]at this;exact this
 have HCM:Hid (∀W:World,Calls Tryz.prog 130 #[.int .i64 o,.agg #[.int .i64 s.m.x,.int .i64 s.m.y,.int .i64 s.m.d,.int .i64 s.m.e],.agg #[.int .i64 t.m.x,.int .i64 t.m.y,.int .i64 t.m.d,.int .i64 t.m.e]] W fun r w'=>r= .returned (.int .i64 q)∧Below W.heap.size W w'):=fun W=>by have:=Ge o s.m.x s.m.y s.m.d s.m.e t.m.x t.m.y t.m.d t.m.e W;rw[show M.cmp o ⟨s.m.x,s.m.y,s.m.d,s.m.e⟩ ⟨t.m.x,t.m.y,t.m.d,t.m.e⟩=q from hc]at this;exact this
 clear hl e1 e2 t1 t2 k1 k2 hc hs ht hq ha hb oA oB;go_enter Tryz.func86,Tryz.ntmps86;go_wp2_with fail;refine(HLA.out w HA.out).mono ?_;rintro r w1 ⟨rfl,hb1⟩;have HB1:=aA (aB hb1 (aC w1 (.cells #[.int .i64 s.c,.int .i64 s.m.x,.int .i64 s.m.y,.int .i64 s.m.d,.int .i64 s.m.e] 86)))
 have HX1:=aA (C5.box w1 86 s);have HS1:w1.heap.size<(w1.alloc (.cells #[.int .i64 s.c,.int .i64 s.m.x,.int .i64 s.m.y,.int .i64 s.m.d,.int .i64 s.m.e] 86)).heap.size:=by simp
 have HRB:=aA (Rd.below HB.out HB1.out);clear hb1;go_wp2_with fail;generalize(w1.alloc (.cells #[.int .i64 s.c,.int .i64 s.m.x,.int .i64 s.m.y,.int .i64 s.m.d,.int .i64 s.m.e] 86))=w2 at HB1 HX1 HS1 HRB⊢;refine(HLB.out w2 HRB.out).mono ?_;rintro r w3 ⟨rfl,hb3⟩;have bx:=aC w3 (.cells #[.int .i64 t.c,.int .i64 t.m.x,.int .i64 t.m.y,.int .i64 t.m.d,.int .i64 t.m.e] 86)
 have HB3:=aA (aB (aB HB1.out hb3) bx);obtain⟨y0,y1,y2,y3,y4⟩:=(HX1.out.below hb3).below bx;obtain⟨z0,z1,z2,z3,z4⟩:=C5.box w3 86 t;have hs3:w1.heap.size<w3.heap.size:=by have:=hb3.size;omega
 clear hb3 bx;go_wp2_with fail;refine(HCM.out _).mono ?_;rintro r w4 ⟨rfl,hb4⟩;have HB4:=aA (aB HB3.out hb4)
 clear hb4;go_wp2;go_ret;exact⟨rfl,HB4.out⟩
end Go.Proofs.YtelkehjdfcoeiaaGreat
