/-
  The pairs that are to be looked at: a queue of pointers; one is put behind all, one is taken away.
-/
import Derived.Test.YtdidlcjhodejjaaGreatUbg
import Derived.Test.YtdidlcjhodejjaaGreatUaw
import Derived.Deep.RegionHeld3
import Derived.Test.YtdidlcjhodejjaaGreatUbh
import Derived.Test.YtdidlcjhodejjaaGreatUba
import Derived.Test.YtdidlcjhodejjaaGreatUaf
namespace Go.Proofs.YtdidlcjhodejjaaGreat
open Go.RowKit Go.Deep Go.Joins
set_option linter.unusedVariables false
structure Fr (P:Nat→Prop) (w w':World):Prop where
 os:w'.os=w.os
 tape:w'.tape=w.tape
 output:w'.output=w.output
 size:w.heap.size≤w'.heap.size
 block:∀ k,k<w.heap.size→¬ P k→w'.heap[k]? = w.heap[k]?
theorem Fr.refl (P:Nat→Prop) (w:World):Fr P w w:=⟨rfl,rfl,rfl,Nat.le_refl _,fun _ _ _=>rfl⟩
theorem Fr.trans {P:Nat→Prop} {a b c:World} (h:Fr P a b) (k:Fr P b c):Fr P a c:=
 ⟨k.os.trans h.os,k.tape.trans h.tape,k.output.trans h.output,Nat.le_trans h.size k.size,fun i hi hn=>(k.block i (Nat.lt_of_lt_of_le hi h.size) hn).trans (h.block i hi hn)⟩
theorem Fr.mono {P P':Nat→Prop} {w w':World} (h:Fr P w w') (hp:∀ k,k<w.heap.size→P k→P' k):Fr P' w w':=⟨h.os,h.tape,h.output,h.size,fun k hk hn=>h.block k hk (fun e=>hn (hp k hk e))⟩
theorem Fr.of_below {P:Nat→Prop} {w w':World} (h:Below w.heap.size w w'):Fr P w w':=⟨h.os,h.tape,h.output,h.size,fun k hk _=>h.block k hk⟩
theorem Fr.next {P:Nat→Prop} {a b c:World} (h:Fr P a b) (k:Below b.heap.size b c):Fr P a c:=h.trans (Fr.of_below k)
theorem Fr.set {P:Nat→Prop} {w w':World} (h:Fr P w w') {b o:Nat} {v:Value} (hb:b<w.heap.size→P b):Fr P w (w'.setCell ⟨b,o,none⟩ v):=
 ⟨h.os,h.tape,h.output,by simpa [World.setCell] using h.size,fun k hk hn=>(Below.heap_setCell _ _ _ _ (by show k≠b;intro e;subst e;exact hn (hb hk))).trans (h.block k hk hn)⟩
theorem Fr.grown {P:Nat→Prop} {w w' w'':World} {row:Option Nat} (h:Fr P w w') (hg:w'.grownBy w'' row) (hr:∀ g,row=some g→g<w.heap.size→P g):Fr P w w'':=
 ⟨hg.os.trans h.os,hg.tape.trans h.tape,hg.output.trans h.output,Nat.le_trans h.size hg.size,fun k hk hn=>(hg.block k (Nat.lt_of_lt_of_le hk h.size) (fun e=>hn (hr k e.symm hk))).trans (h.block k hk hn)⟩
theorem Fr.cell {P:Nat→Prop} {w w':World} (h:Fr P w w') {b o:Nat} (hb:b<w.heap.size) (hp:¬ P b):w'.cell? ⟨b,o,none⟩=w.cell? ⟨b,o,none⟩:=
 World.cell?_of_block (w:=w) (a:=⟨b,o,none⟩) (h.block b hb hp)
theorem Fr.frozen {P:Nat→Prop} {w w':World} (h:Fr P w w') {b o:Nat} (hb:b<w.heap.size) (hp:¬ P b):w'.frozen? ⟨b,o,none⟩=w.frozen? ⟨b,o,none⟩:=
 World.frozen?_of_block (w:=w) (a:=⟨b,o,none⟩) (h.block b hb hp)
theorem Fr.rd {P:Nat→Prop} {w w':World} (h:Fr P w w') {a:Option Addr} {n cap:Nat} {f:Nat→T} (hr:Rd w a n cap f) (hp:n=0∨∀ b off,a=some ⟨b,off,none⟩→¬ P b):Rd w' a n cap f:=by
 obtain ⟨h1,h2,h3⟩:=hr
 refine ⟨h1,h2,?_⟩
 rcases h3 with h0 | ⟨b,off,he,hlt,hc⟩
 ·exact .inl h0
 ·rcases hp with h0 | hp
  ·exact .inl h0
  ·refine .inr ⟨b,off,he,Nat.lt_of_lt_of_le hlt h.size,fun i hi=>?_⟩
   have hn:=hp b off he
   obtain ⟨c0,c1,c2,c3,c4⟩:=hc i hi
   exact ⟨(h.cell hlt hn).trans c0,(h.cell hlt hn).trans c1,(h.cell hlt hn).trans c2,(h.cell hlt hn).trans c3,(h.cell hlt hn).trans c4⟩
theorem Fr.c5 {P:Nat→Prop} {w w':World} (h:Fr P w w') {b:Nat} {t:T} (hc:C5 w b t) (hp:¬ P b):C5 w' b t:=by
 have hlt:=hc.lt
 obtain ⟨c0,c1,c2,c3,c4⟩:=hc
 exact ⟨(h.cell hlt hp).trans c0,(h.cell hlt hp).trans c1,(h.cell hlt hp).trans c2,(h.cell hlt hp).trans c3,(h.cell hlt hp).trans c4⟩
theorem Fr.below {P:Nat→Prop} {lo:Nat} {u w w':World} (hb:Below lo u w) (h:Fr P w w') (hp:∀ k,P k→lo≤k) (hlo:lo≤u.heap.size):Below lo u w':=
 ⟨h.os.trans hb.os,h.tape.trans hb.tape,h.output.trans hb.output,Nat.le_trans hb.size h.size,fun k hk=>(h.block k (Nat.lt_of_lt_of_le hk (Nat.le_trans hlo hb.size)) (fun e=>by have:=hp k e;omega)).trans (hb.block k hk)⟩
theorem Fr.owns {P:Nat→Prop} {w w':World} (h:Fr P w w') {lo:Nat} {e:TypeId} {size:Nat} {v:Value} {n:Nat} {xs:List Value} (ho:w.ownsRow lo e size v n xs) (hp:∀ g,v.ownBlock=some g→¬ P g):w'.ownsRow lo e size v n xs:=by
 refine ⟨ho.1,ho.2.imp id ?_⟩
 rintro ⟨g,cap,cur,hv,hlo,hgg,hn,hm,hs,ht⟩
 refine ⟨g,cap,cur,hv,hlo,?_,hn,hm,hs,ht⟩
 have hlt:g<w.heap.size:=(Array.getElem?_eq_some_iff.1 hgg).1
 exact (h.block g hlt (hp g (by rw [hv];rfl))).trans hgg
theorem sc_same {w:World} {a:Addr} {v u:Value} (h:w.cell? a=some u):(w.setCell a v).cell? a=some v:=World.cell?_setCell_same (w:=w) (a:=a) (v:=v) h
theorem sc_other {w:World} {a b:Addr} {v:Value} (h:a≠b):(w.setCell a v).cell? b=w.cell? b:=World.cell?_setCell_other (w:=w) (a:=a) (b:=b) (v:=v) h
def nxP (q:Nat × Nat):Nat × Nat:=if q.1+1<q.2 then (q.1+1,q.2) else (0,q.2+1)
def pq:Nat→Nat × Nat
 | 0=>(0,1)
 | j+1=>nxP (pq j)
def tri:Nat→Nat
 | 0=>0
 | k+1=>tri k+k
theorem pq_tri:∀ k i,i<k→pq (tri k+i)=(i,k)
 | 0,i,h=>by omega
 | 1,i,h=>by
  obtain rfl:i=0:=by omega
  rfl
 | k+2,0,_=>by
  have:=pq_tri (k+1) k (by omega)
  show pq (tri (k+1)+(k+1))=(0,k+2)
  rw [show tri (k+1)+(k+1)=(tri (k+1)+k)+1 by omega]
  show nxP (pq (tri (k+1)+k))=_
  rw [this]
  unfold nxP
  rw [if_neg (by simp)]
 | k+2,i+1,h=>by
  have:=pq_tri (k+2) i (by omega)
  rw [show tri (k+2)+(i+1)=(tri (k+2)+i)+1 by omega]
  show nxP (pq (tri (k+2)+i))=_
  rw [this]
  unfold nxP
  rw [if_pos (by simpa using h)]
theorem tri_mono {a b : Nat} (h : a ≤ b) : tri a ≤ tri b := by
  induction b with
  | zero => obtain rfl : a = 0 := by omega
            exact Nat.le_refl _
  | succ b ih =>
    rcases Nat.lt_or_ge a (b + 1) with h' | h'
    · have := ih (by omega); show tri a ≤ tri b + b; omega
    · obtain rfl : a = b + 1 := by omega
      exact Nat.le_refl _
theorem tri_at:∀ (m j:Nat),j<tri m→∃ k i,k<m∧i<k∧j=tri k+i
 | 0,j,h=>absurd h (Nat.not_lt_zero _)
 | m+1,j,h=>by
  rcases Nat.lt_or_ge j (tri m) with h' | h'
  ·obtain ⟨k,i,h1,h2,h3⟩:=tri_at m j h'
   exact ⟨k,i,by omega,h2,h3⟩
  ·have h:j<tri m+m:=h
   exact ⟨m,j - tri m,by omega,by omega,by omega⟩
theorem pq_lt {m j:Nat} (h:j<tri m):(pq j).1<(pq j).2∧(pq j).2<m:=by
 obtain ⟨k,i,h1,h2,rfl⟩:=tri_at m j h
 rw [pq_tri k i h2]
 exact ⟨h2,h1⟩
structure Pr where
 t1:T
 t2:T
 i:Nat
 k:Nat
def prQ (kf:Nat→T) (j:Nat):Pr:=⟨sprT (kf (pq j).1) (M.both (kf (pq j).1).m (kf (pq j).2).m),sprT (kf (pq j).2) (M.both (kf (pq j).1).m (kf (pq j).2).m),(pq j).1,(pq j).2⟩
theorem prQ_congr {kf kf':Nat→T} {m j:Nat} (h:∀ i,i<m→kf i=kf' i) (hj:j<tri m):prQ kf j=prQ kf' j:=by
 obtain ⟨h1,h2⟩:=pq_lt hj
 unfold prQ
 rw [h _ (Nat.lt_trans h1 h2),h _ h2]
abbrev vi (z:Int):Value:=.int .i64 z
abbrev prCells (p:Pr) (nx:Option Addr):Array Value:=#[vi p.t1.c,vi p.t1.m.x,vi p.t1.m.y,vi p.t1.m.d,vi p.t1.m.e,vi p.t2.c,vi p.t2.m.x,vi p.t2.m.y,vi p.t2.m.d,vi p.t2.m.e,vi (p.i:Int),vi (p.k:Int),.pointer nx]
structure PrAt (w:World) (b:Nat) (p:Pr) (nx:Option Addr):Prop where
 a0:w.cell? ⟨b,0,none⟩=some (.int .i64 p.t1.c)
 a1:w.cell? ⟨b,1,none⟩=some (.int .i64 p.t1.m.x)
 a2:w.cell? ⟨b,2,none⟩=some (.int .i64 p.t1.m.y)
 a3:w.cell? ⟨b,3,none⟩=some (.int .i64 p.t1.m.d)
 a4:w.cell? ⟨b,4,none⟩=some (.int .i64 p.t1.m.e)
 b0:w.cell? ⟨b,5,none⟩=some (.int .i64 p.t2.c)
 b1:w.cell? ⟨b,6,none⟩=some (.int .i64 p.t2.m.x)
 b2:w.cell? ⟨b,7,none⟩=some (.int .i64 p.t2.m.y)
 b3:w.cell? ⟨b,8,none⟩=some (.int .i64 p.t2.m.d)
 b4:w.cell? ⟨b,9,none⟩=some (.int .i64 p.t2.m.e)
 ci:w.cell? ⟨b,10,none⟩=some (.int .i64 (p.i:Int))
 ck:w.cell? ⟨b,11,none⟩=some (.int .i64 (p.k:Int))
 nx:w.cell? ⟨b,12,none⟩=some (.pointer nx)
 fz:w.frozen? ⟨b,12,none⟩=false
theorem PrAt.lt {w:World} {b:Nat} {p:Pr} {nx:Option Addr} (h:PrAt w b p nx):b<w.heap.size:=World.block_lt_of_cell? w _ h.a0
theorem PrAt.fr {P:Nat→Prop} {w w':World} {b:Nat} {p:Pr} {nx:Option Addr} (h:PrAt w b p nx) (hf:Fr P w w') (hp:¬ P b):PrAt w' b p nx:=
 have hl:=h.lt
 ⟨(hf.cell hl hp).trans h.a0,(hf.cell hl hp).trans h.a1,(hf.cell hl hp).trans h.a2,(hf.cell hl hp).trans h.a3,(hf.cell hl hp).trans h.a4,(hf.cell hl hp).trans h.b0,(hf.cell hl hp).trans h.b1,(hf.cell hl hp).trans h.b2,(hf.cell hl hp).trans h.b3,(hf.cell hl hp).trans h.b4,(hf.cell hl hp).trans h.ci,(hf.cell hl hp).trans h.ck,(hf.cell hl hp).trans h.nx,(hf.frozen hl hp).trans h.fz⟩
theorem PrAt.below {w w':World} {b:Nat} {p:Pr} {nx:Option Addr} (h:PrAt w b p nx) (hb:Below w.heap.size w w'):PrAt w' b p nx:=h.fr (P:=fun _=>False) (Fr.of_below hb) id
theorem PrAt.box (w:World) (y:TypeId) (p:Pr) (nx:Option Addr):PrAt (w.alloc (.cells (prCells p nx) y)) w.heap.size p nx:=by
 constructor <;> first | (rw [World.cell?_alloc_at _ _ _ _ rfl];rfl) | (simp [go_sem])
theorem ne12 {b j:Nat} (h:j≠12):(⟨b,12,none⟩:Addr)≠⟨b,j,none⟩:=fun e=>h (by injection e with _ e2;exact e2.symm)
theorem PrAt.link {w:World} {b:Nat} {p:Pr} {nx:Option Addr} (h:PrAt w b p nx) (nx':Option Addr):PrAt (w.setCell ⟨b,12,none⟩ (.pointer nx')) b p nx' where
 a0:=(sc_other (ne12 (by omega))).trans h.a0
 a1:=(sc_other (ne12 (by omega))).trans h.a1
 a2:=(sc_other (ne12 (by omega))).trans h.a2
 a3:=(sc_other (ne12 (by omega))).trans h.a3
 a4:=(sc_other (ne12 (by omega))).trans h.a4
 b0:=(sc_other (ne12 (by omega))).trans h.b0
 b1:=(sc_other (ne12 (by omega))).trans h.b1
 b2:=(sc_other (ne12 (by omega))).trans h.b2
 b3:=(sc_other (ne12 (by omega))).trans h.b3
 b4:=(sc_other (ne12 (by omega))).trans h.b4
 ci:=(sc_other (ne12 (by omega))).trans h.ci
 ck:=(sc_other (ne12 (by omega))).trans h.ck
 nx:=sc_same h.nx
 fz:=by rw [World.frozen?_setCell];exact h.fz
def qF (B:Nat→Nat) (a e:Nat):Option Addr:=if a<e then some ⟨B a,0,none⟩ else none
structure Que (w:World) (lo Q z:Nat) (lv:Value) (m:Nat) (kf:Nat→T) (B:Nat→Nat) (a e:Nat):Prop where
 cl:w.cell? ⟨Q,z,none⟩=some lv
 cf:w.cell? ⟨Q,z+1,none⟩=some (.pointer (qF B a e))
 ct:∃ v,w.cell? ⟨Q,z+2,none⟩=some v∧(a<e→v=.pointer (some ⟨B (e - 1),0,none⟩))
 fz:w.frozen? ⟨Q,z,none⟩=false∧w.frozen? ⟨Q,z+1,none⟩=false∧w.frozen? ⟨Q,z+2,none⟩=false
 own:w.ownsRow lo 42 5 lv ((List.range m).map kf).length (cellsL ((List.range m).map kf))
 ap:∀ g,lv.ownBlock=some g→g≠Q
 pr:∀ j,a≤j→j<e→PrAt w (B j) (prQ kf j) (if j+1<e then some ⟨B (j+1),0,none⟩ else none)
 bk:∀ j,a≤j→j<e→lo≤B j∧B j≠Q∧lv.ownBlock≠some (B j)
 inj:∀ i j,a≤i→i<j→j<e→B i≠B j
 hQ:lo≤Q
def QS (Q:Nat) (lv:Value) (B:Nat→Nat) (a e k:Nat):Prop:=k=Q∨lv.ownBlock=some k∨(a<e∧k=B (e - 1))
theorem Que.lt {w:World} {lo Q z:Nat} {lv:Value} {m:Nat} {kf:Nat→T} {B:Nat→Nat} {a e:Nat} (h:Que w lo Q z lv m kf B a e):Q<w.heap.size:=World.block_lt_of_cell? w _ h.cl
theorem Que.fr {P:Nat→Prop} {w w':World} {lo Q z:Nat} {lv:Value} {m:Nat} {kf:Nat→T} {B:Nat→Nat} {a e:Nat} (h:Que w lo Q z lv m kf B a e) (hf:Fr P w w') (h1:¬ P Q) (h2:∀ g,lv.ownBlock=some g→¬ P g) (h3:∀ j,a≤j→j<e→¬ P (B j)):Que w' lo Q z lv m kf B a e where
 cl:=(hf.cell h.lt h1).trans h.cl
 cf:=(hf.cell h.lt h1).trans h.cf
 ct:=h.ct.imp fun v ⟨c1,c2⟩=>⟨(hf.cell h.lt h1).trans c1,c2⟩
 fz:=⟨(hf.frozen h.lt h1).trans h.fz.1,(hf.frozen h.lt h1).trans h.fz.2.1,(hf.frozen h.lt h1).trans h.fz.2.2⟩
 own:=hf.owns h.own h2
 ap:=h.ap
 pr:=fun j i1 i2=>(h.pr j i1 i2).fr hf (h3 j i1 i2)
 bk:=h.bk
 inj:=h.inj
 hQ:=h.hQ
theorem Que.below {w w':World} {lo Q z:Nat} {lv:Value} {m:Nat} {kf:Nat→T} {B:Nat→Nat} {a e:Nat} (h:Que w lo Q z lv m kf B a e) (hb:Below w.heap.size w w'):Que w' lo Q z lv m kf B a e:=h.fr (P:=fun _=>False) (Fr.of_below hb) id (fun _ _=>id) (fun _ _ _=>id)
theorem neQ {Q z z':Nat} (h:z≠z'):(⟨Q,z,none⟩:Addr)≠⟨Q,z',none⟩:=fun e=>h (by injection e)
def updB (B:Nat→Nat) (e b j:Nat):Nat:=if j=e then b else B j
theorem qF_same {B B':Nat→Nat} {a e e':Nat} (h:a<e) (h':a<e') (hB:B a=B' a):qF B a e=qF B' a e':=by unfold qF;rw [if_pos h,if_pos h',hB]
theorem Que.push {w:World} {lo Q z:Nat} {lv:Value} {m:Nat} {kf:Nat→T} {B:Nat→Nat} {a e:Nat} (h:Que w lo Q z lv m kf B a e) (hae:a≤e) {b:Nat} (hb:PrAt w b (prQ kf e) none) (hlo:lo≤b) (hbQ:b≠Q) (hbl:lv.ownBlock≠some b) (hbB:∀ j,a≤j→j<e→B j≠b) :
  Que (if a<e then (w.setCell ⟨B (e - 1),12,none⟩ (.pointer (some ⟨b,0,none⟩))).setCell ⟨Q,z+2,none⟩ (.pointer (some ⟨b,0,none⟩)) else (w.setCell ⟨Q,z+1,none⟩ (.pointer (some ⟨b,0,none⟩))).setCell ⟨Q,z+2,none⟩ (.pointer (some ⟨b,0,none⟩))) lo Q z lv m kf (updB B e b) a (e+1):=by
 have hub:∀ j,j<e→updB B e b j=B j:=fun j hj=>if_neg (by omega)
 have hue:updB B e b e=b:=if_pos rfl
 obtain ⟨tv,ht,_⟩:=h.ct
 by_cases hlt:a<e
 ·rw [if_pos hlt]
  have hl:=h.bk (e - 1) (by omega) (by omega)
  have f1:Fr (fun k=>k=B (e - 1)) w (w.setCell ⟨B (e - 1),12,none⟩ (.pointer (some ⟨b,0,none⟩))):=(Fr.refl _ w).set (fun _=>rfl)
  have c1:(w.setCell ⟨B (e - 1),12,none⟩ (.pointer (some ⟨b,0,none⟩))).cell? ⟨Q,z+2,none⟩=some tv:=(f1.cell h.lt (fun q=>hl.2.1 q.symm)).trans ht
  generalize hw1:w.setCell ⟨B (e - 1),12,none⟩ (.pointer (some ⟨b,0,none⟩))=w1 at f1 c1
  have hlnk:PrAt w1 (B (e - 1)) (prQ kf (e - 1)) (some ⟨b,0,none⟩):=by rw [← hw1];exact (h.pr (e - 1) (by omega) (by omega)).link _
  have f2:Fr (fun k=>k=Q) w1 (w1.setCell ⟨Q,z+2,none⟩ (.pointer (some ⟨b,0,none⟩))):=(Fr.refl _ w1).set (fun _=>rfl)
  have hlt1:Q<w1.heap.size:=Nat.lt_of_lt_of_le h.lt f1.size
  refine ⟨?_,?_,⟨_,sc_same c1,fun _=>by rw [show e+1 - 1=e by omega,hue]⟩,?_,?_,h.ap,?_,?_,?_,h.hQ⟩
  ·rw [sc_other (neQ (by omega))];exact (f1.cell h.lt (fun q=>hl.2.1 q.symm)).trans h.cl
  ·rw [sc_other (neQ (by omega)),(f1.cell h.lt (fun q=>hl.2.1 q.symm)).trans h.cf,qF_same (B':=updB B e b) (e':=e+1) hlt (by omega) (hub a hlt).symm]
  ·simp only [World.frozen?_setCell]
   exact ⟨(f1.frozen h.lt (fun q=>hl.2.1 q.symm)).trans h.fz.1,(f1.frozen h.lt (fun q=>hl.2.1 q.symm)).trans h.fz.2.1,(f1.frozen h.lt (fun q=>hl.2.1 q.symm)).trans h.fz.2.2⟩
  ·exact f2.owns (f1.owns h.own (fun g hg q=>hl.2.2 (by rw [hg,q]))) (fun g hg q=>h.ap g hg q)
  ·intro j j1 j2
   by_cases e1:j=e
   ·subst e1
    rw [hue,if_neg (by omega)]
    exact (hb.fr f1 (fun q=>hbB (j - 1) (by omega) (by omega) q.symm)).fr f2 hbQ
   ·rw [hub j (by omega),if_pos (by omega)]
    by_cases e2:j=e - 1
    ·have e3:j+1=e:=by omega
     rw [e3,hue,e2]
     exact hlnk.fr f2 hl.2.1
    ·rw [hub (j+1) (by omega)]
     have:=h.pr j j1 (by omega)
     rw [if_pos (by omega)] at this
     exact (this.fr f1 (h.inj j (e - 1) j1 (by omega) (by omega))).fr f2 (h.bk j j1 (by omega)).2.1
  ·intro j j1 j2
   by_cases e1:j=e
   ·subst e1;rw [hue];exact ⟨hlo,hbQ,hbl⟩
   ·rw [hub j (by omega)];exact h.bk j j1 (by omega)
  ·intro i j i1 i2 i3
   rw [hub i (by omega)]
   by_cases e1:j=e
   ·subst e1;rw [hue];exact hbB i i1 (by omega)
   ·rw [hub j (by omega)];exact h.inj i j i1 i2 (by omega)
 ·rw [if_neg hlt]
  have hea:a=e:=by omega
  subst hea
  have f1:Fr (fun k=>k=Q) w (w.setCell ⟨Q,z+1,none⟩ (.pointer (some ⟨b,0,none⟩))):=(Fr.refl _ w).set (fun _=>rfl)
  have f2:Fr (fun k=>k=Q) w ((w.setCell ⟨Q,z+1,none⟩ (.pointer (some ⟨b,0,none⟩))).setCell ⟨Q,z+2,none⟩ (.pointer (some ⟨b,0,none⟩))):=f1.set (fun _=>rfl)
  have c1:(w.setCell ⟨Q,z+1,none⟩ (.pointer (some ⟨b,0,none⟩))).cell? ⟨Q,z+2,none⟩=some tv:=(sc_other (neQ (by omega))).trans ht
  refine ⟨?_,?_,⟨_,sc_same c1,fun _=>by rw [show a+1 - 1=a by omega,hue]⟩,?_,?_,h.ap,?_,?_,?_,h.hQ⟩
  ·rw [sc_other (neQ (by omega)),sc_other (neQ (by omega))];exact h.cl
  ·rw [sc_other (neQ (by omega)),sc_same h.cf]
   unfold qF
   rw [if_pos (by omega),hue]
  ·simp only [World.frozen?_setCell];exact h.fz
  ·exact f2.owns h.own (fun g hg q=>h.ap g hg q)
  ·intro j j1 j2
   obtain rfl:j=a:=by omega
   rw [hue,if_neg (by omega)]
   exact hb.fr f2 hbQ
  ·intro j j1 j2
   obtain rfl:j=a:=by omega
   rw [hue];exact ⟨hlo,hbQ,hbl⟩
  ·intro i j i1 i2 i3;omega
theorem Que.pop {w:World} {lo Q z:Nat} {lv:Value} {m:Nat} {kf:Nat→T} {B:Nat→Nat} {a e:Nat} (h:Que w lo Q z lv m kf B a e) (hlt:a<e):Que (w.setCell ⟨Q,z+1,none⟩ (.pointer (qF B (a+1) e))) lo Q z lv m kf B (a+1) e∧PrAt (w.setCell ⟨Q,z+1,none⟩ (.pointer (qF B (a+1) e))) (B a) (prQ kf a) (qF B (a+1) e):=by
 have f1:Fr (fun k=>k=Q) w (w.setCell ⟨Q,z+1,none⟩ (.pointer (qF B (a+1) e))):=(Fr.refl _ w).set (fun _=>rfl)
 obtain ⟨tv,ht,ht2⟩:=h.ct
 refine ⟨⟨?_,sc_same h.cf,⟨tv,(sc_other (neQ (by omega))).trans ht,fun q=>ht2 hlt⟩,by simp only [World.frozen?_setCell];exact h.fz,f1.owns h.own (fun g hg q=>h.ap g hg q),h.ap,fun j j1 j2=>(h.pr j (by omega) j2).fr f1 (h.bk j (by omega) j2).2.1,fun j j1 j2=>h.bk j (by omega) j2,fun i j i1 i2 i3=>h.inj i j (by omega) i2 i3,h.hQ⟩,?_⟩
 ·rw [sc_other (neQ (by omega))];exact h.cl
 ·exact (h.pr a (Nat.le_refl _) hlt).fr f1 (h.bk a (Nat.le_refl _) hlt).2.1
set_option maxRecDepth 100000 in
set_option maxHeartbeats 4000000 in
theorem popI_none (w:World) (lo Q z:Nat) (lv:Value) (m:Nat) (kf:Nat→T) (B:Nat→Nat) (a e:Nat) (h:Que w lo Q z lv m kf B a e) (hlt:¬ a<e) :
  Calls Tryz.prog 80 #[.pointer (some ⟨Q,z,none⟩)] w fun r w'=>r=.returned (.pointer none)∧w'=w:=by
 have c0:=h.cf
 have e0:qF B a e=none:=if_neg hlt
 rw [e0] at c0
 clear h e0
 go_enter Tryz.func80,Tryz.ntmps80
 go_wp2
 go_ret
 exact ⟨rfl,rfl⟩
end Go.Proofs.YtdidlcjhodejjaaGreat
namespace Go.Proofs.YtdidlcjhodejjaaGreat
open Go.RowKit Go.Deep Go.Joins
set_option linter.unusedVariables false
def lessE (R q X:List T):Option (List T):=match mulM (lf q) (lf X) X.length q.length with
 | some P=>if (subL R P).length≤400 then some (subL R P) else none
 | none=>none
def updL (R:Nat→List T) (j:Nat) (Y:List T) (i:Nat):List T:=if i=j then Y else R i
def lessR (row:Nat→List T) (q:List T) (oth:Nat→List T):Nat→Option (Nat→List T)
 | 0=>some (fun _=>[])
 | j+1=>match lessR row q oth j with
  | none=>none
  | some R=>match lessE (row j) q (oth j) with
   | none=>none
   | some Y=>some (updL R j Y)
theorem lessR_none {row:Nat→List T} {q:List T} {oth:Nat→List T} {j:Nat} (h:lessR row q oth j=none):∀ d,lessR row q oth (j+d)=none
 | 0=>h
 | d+1=>by
  show (match lessR row q oth (j+d) with | none=>none | some R=>match lessE (row (j+d)) q (oth (j+d)) with | none=>none | some Y=>some (updL R (j+d) Y))=none
  rw [lessR_none h d]
theorem lessR_bad {row:Nat→List T} {q:List T} {oth:Nat→List T} {j g:Nat} {R:Nat→List T} (hj:j<g) (h:lessR row q oth j=some R) (he:lessE (row j) q (oth j)=none):lessR row q oth g=none:=by
 have h1:lessR row q oth (j+1)=none:=by
  show (match lessR row q oth j with | none=>none | some R=>match lessE (row j) q (oth j) with | none=>none | some Y=>some (updL R j Y))=none
  rw [h]
  show (match lessE (row j) q (oth j) with | none=>none | some Y=>some (updL R j Y))=none
  rw [he]
 have:=lessR_none h1 (g - (j+1))
 rwa [show j+1+(g - (j+1))=g by omega] at this
theorem lessR_step {row:Nat→List T} {q:List T} {oth:Nat→List T} {j:Nat} {R:Nat→List T} {Y:List T} (h:lessR row q oth j=some R) (he:lessE (row j) q (oth j)=some Y):lessR row q oth (j+1)=some (updL R j Y):=by
 show (match lessR row q oth j with | none=>none | some R=>match lessE (row j) q (oth j) with | none=>none | some Y=>some (updL R j Y))=_
 rw [h]
 show (match lessE (row j) q (oth j) with | none=>none | some Y=>some (updL R j Y))=_
 rw [he]
theorem lessE_ok {R q X Y:List T} (hR:okL R=true) (hq:okL q=true) (hX:okL X=true) (h:lessE R q X=some Y):okL Y=true:=by
 unfold lessE at h
 split at h
 ·rename_i P hP
  split at h
  ·rename_i hl
   cases h
   exact okL_of hl (subL_facts (okL_falls hR).2 (mulM_falls2 (good_ok hq).2 (good_ok hX).2 _ P (Nat.le_refl _) hP)).1
  ·cases h
 ·cases h
theorem lessR_ok {row:Nat→List T} {q:List T} {oth:Nat→List T} {g:Nat} (hrow:∀ i,i<g→okL (row i)=true) (hq:okL q=true) (ho:∀ i,i<g→okL (oth i)=true):∀ j R,j≤g→lessR row q oth j=some R→∀ i,i<j→okL (R i)=true
 | 0,R,_,_,i,hi=>by omega
 | j+1,R,hj,h,i,hi=>by
  cases hr:lessR row q oth j with
  | none=>have:=lessR_none hr 1;rw [this] at h;cases h
  | some R1=>
   cases he:lessE (row j) q (oth j) with
   | none=>have:=lessR_bad (g:=j+1) (by omega) hr he;rw [this] at h;cases h
   | some Y=>
    rw [lessR_step hr he] at h
    cases h
    unfold updL
    split
    ·exact lessE_ok (hrow j (by omega)) hq (ho j (by omega)) he
    ·exact lessR_ok hrow hq ho j R1 (by omega) hr i (by omega)
def madeN (g:Nat) (P:Nat→Nat→List T) (qs:Nat→List T) (row:Option (Nat→List T)):Nat→Option (Nat→List T)
 | 0=>row
 | t+1=>match madeN g P qs row t with
  | none=>none
  | some R=>lessR R (qs t) (P t) g
def negT1 (u:T):T:=⟨101 - u.c,u.m⟩
def made1 (g:Nat) (P:Nat→Nat→List T) (i k:Nat) (u v:T):Option (Nat→List T):=match lessR (fun _=>[]) [negT1 u] (P i) g with
 | none=>none
 | some R=>lessR R [v] (P k) g
def made (g:Nat) (P:Nat→Nat→List T) (i k:Nat) (u v:T) (nq:Nat) (qs:Nat→List T):Option (Nat→List T):=madeN g P qs (made1 g P i k u v) nq
theorem madeN_none {g:Nat} {P:Nat→Nat→List T} {qs:Nat→List T} {row:Option (Nat→List T)} {t:Nat} (h:madeN g P qs row t=none):∀ d,madeN g P qs row (t+d)=none
 | 0=>h
 | d+1=>by
  show (match madeN g P qs row (t+d) with | none=>none | some R=>lessR R (qs (t+d)) (P (t+d)) g)=none
  rw [madeN_none h d]
structure Bs where
 m:Nat
 L:Nat→List T
 P:Nat→Nat→List T
def updP (P:Nat→Nat→List T) (m:Nat) (R:Nat→List T) (i:Nat):Nat→List T:=if i=m then R else P i
def addB (B:Bs) (r:List T) (R:Nat→List T):Bs:=⟨B.m+1,updL B.L B.m r,updP B.P B.m R⟩
abbrev spU (o:Int) (A C:List T):T:=sprU o A.length (lf A) C.length (lf C)
abbrev spV (o:Int) (A C:List T):T:=sprV o A.length (lf A) C.length (lf C)
abbrev spP (o:Int) (A C:List T):List T × Bool:=sprPoly o (lf A) A.length (lf C) C.length
def stepB (o:Int) (g:Nat) (B:Bs) (i k:Nat):Option Bs:=
 match spP o (B.L i) (B.L k) with
 | (s,true)=>(match redAll o s B.m (lN B.L) (fN B.L) with
  | some S=>if S.r.length=0 then some B else if B.m=12 then none else (match made g B.P i k (spU o (B.L i) (B.L k)) (spV o (B.L i) (B.L k)) B.m S.q with
   | some R=>some (addB B S.r R)
   | none=>none)
  | none=>none)
 | (_,false)=>none
def grun (o:Int) (g:Nat):Nat→Bs→Nat→Bs × Bool
 | 0,B,j=>(B,decide (tri B.m≤j))
 | f+1,B,j=>if j<tri B.m then (match stepB o g B (pq j).1 (pq j).2 with
   | none=>(B,false)
   | some B'=>grun o g f B' (j+1)) else (B,true)
def oneP (k i:Nat):List T:=if i=k then [⟨1,⟨0,0,0,0⟩⟩] else []
def grb0 (n:Nat) (L:Nat→List T):Bs:=⟨n,L,fun k=>oneP k⟩
def grbMake (o:Int) (n:Nat) (L:Nat→List T) (fuel:Int):Bs × Bool:=
 if (1≤o∧o≤3)∧lstOk n (lN L) (fN L)=true∧(1≤n∧n≤3)∧(0≤fuel∧fuel≤60) then grun o n fuel.toNat (grb0 n L) 0 else (⟨0,fun _=>[],fun _ _=>[]⟩,false)
structure BsOk (o:Int) (g:Nat) (B:Bs):Prop where
 ho:1≤o∧o≤3
 l:lstOk B.m (lN B.L) (fN B.L)=true
 p:∀ i,i<B.m→∀ j,j<g→okL (B.P i j)=true
theorem one_okL:okL [(⟨1,⟨0,0,0,0⟩⟩:T)]=true:=by decide
theorem grb0_ok {o:Int} {n:Nat} {L:Nat→List T} (ho:1≤o∧o≤3) (hl:lstOk n (lN L) (fN L)=true):BsOk o n (grb0 n L):=⟨ho,hl,fun i _ j _=>by
 show okL (oneP i j)=true
 unfold oneP
 split
 ·exact one_okL
 ·exact okL_nil⟩
theorem mod101 {a:Int} (h1:1≤a) (h2:a≤100):1≤101 - a∧101 - a≤100:=by omega
theorem spUV_good {o:Int} {A C:List T} {s:List T} (h:spP o A C=(s,true)):(okL [spU o A C]=true∧okL [negT1 (spU o A C)]=true∧okL [spV o A C]=true)∧((spU o A C).m.ok=true∧1≤(spU o A C).c∧(spU o A C).c≤100)∧((spV o A C).m.ok=true∧1≤(spV o A C).c∧(spV o A C).c≤100):=by
 have hs:sprOk o A.length (lf A) C.length (lf C)=true:=by
  unfold spP sprPoly at h
  split at h
  ·assumption
  ·cases h
 obtain ⟨h1,h2⟩:=spr_good hs
 have g1:=mod101 h1.2.1 h1.2.2
 exact ⟨⟨one_ok h1,one_ok ⟨h1.1,g1.1,g1.2⟩,one_ok h2⟩,h1,h2⟩
theorem made_ok {g:Nat} {P:Nat→Nat→List T} {i k m:Nat} {u v:T} {qs:Nat→List T} (hi:i<m) (hk:k<m) (hP:∀ i,i<m→∀ j,j<g→okL (P i j)=true) (hu:okL [negT1 u]=true) (hv:okL [v]=true) (hq:∀ t,t<m→okL (qs t)=true):∀ t R,t≤m→madeN g P qs (made1 g P i k u v) t=some R→∀ j,j<g→okL (R j)=true
 | 0,R,_,h=>by
  change made1 g P i k u v=some R at h
  unfold made1 at h
  split at h
  ·cases h
  ·rename_i R1 h1
   exact lessR_ok (lessR_ok (fun _ _=>okL_nil) hu (hP i hi) g R1 (Nat.le_refl _) h1) hv (hP k hk) g R (Nat.le_refl _) h
 | t+1,R,ht,h=>by
  cases hr:madeN g P qs (made1 g P i k u v) t with
  | none=>have:=madeN_none hr 1;rw [this] at h;cases h
  | some R1=>
   have h':lessR R1 (qs t) (P t) g=some R:=by
    have:madeN g P qs (made1 g P i k u v) (t+1)=lessR R1 (qs t) (P t) g:=by
     show (match madeN g P qs (made1 g P i k u v) t with | none=>none | some R=>lessR R (qs t) (P t) g)=_
     rw [hr]
    rw [← this];exact h
   exact lessR_ok (made_ok hi hk hP hu hv hq t R1 (by omega) hr) (hq t (by omega)) (hP t (by omega)) g R (Nat.le_refl _) h'
theorem lstOk_add {m:Nat} {L:Nat→List T} (hl:lstOk m (lN L) (fN L)=true) (hm:m≠12) {r:List T} (hr:okL r=true) (h0:r.length≠0):lstOk (m+1) (lN (updL L m r)) (fN (updL L m r))=true:=by
 have h:=lstOk_all hl
 refine decide_eq_true ⟨by omega,fun i hi=>?_⟩
 show (updL L m r i).length≠0∧okL (updL L m r i)=true
 unfold updL
 split
 ·exact ⟨h0,hr⟩
 ·exact h.2 i (by omega)
theorem stepB_ok {o:Int} {g:Nat} {B B':Bs} {i k:Nat} (h:BsOk o g B) (hi:i<B.m) (hk:k<B.m) (hs:stepB o g B i k=some B'):BsOk o g B':=by
 unfold stepB at hs
 split at hs
 ·rename_i s hsp
  split at hs
  ·rename_i S hS
   split at hs
   ·cases hs;exact h
   ·rename_i h0
    split at hs
    ·cases hs
    ·rename_i h12
     split at hs
     ·rename_i R hR
      cases hs
      obtain ⟨d1,d2⟩:=redAll_ok hS
      obtain ⟨⟨_,g2,g3⟩,_⟩:=spUV_good hsp
      refine ⟨h.ho,lstOk_add h.l h12 (okL_of (by have:=d1.r.2;omega) d1.r.1) h0,fun a ha j hj=>?_⟩
      show okL (updP B.P B.m R a j)=true
      unfold updP
      split
      ·exact made_ok hi hk h.p g2 g3 (fun t _=>okL_of (by have:=(d1.q t).2;omega) (d1.q t).1) B.m R (Nat.le_refl _) hR j hj
      ·have ha':a<B.m+1:=ha
       exact h.p a (by omega) j hj
     ·cases hs
  ·cases hs
 ·cases hs
theorem stepB_m {o:Int} {g:Nat} {B B':Bs} {i k:Nat} (hs:stepB o g B i k=some B'):B.m≤B'.m:=by
 unfold stepB at hs
 split at hs
 ·split at hs
  ·split at hs
   ·cases hs;exact Nat.le_refl _
   ·split at hs
    ·cases hs
    ·split at hs
     ·cases hs;exact Nat.le_succ _
     ·cases hs
  ·cases hs
 ·cases hs
end Go.Proofs.YtdidlcjhodejjaaGreat
namespace Go.Proofs.YtdidlcjhodejjaaGreat
open Go.RowKit Go.Deep Go.Joins
set_option linter.unusedVariables false
theorem infoSL:(Tryz.prog.info? 45).map (fun i=>(i.zero,i.size,i.bytes))=some (some (.slice none 0 0),1,24):=by kernel_rfl
theorem one_sl (a:Option Addr) (n c:Nat):∀ u∈[Value.slice a n c],u.oneCell'=true:=fun u hu=>by
 have:u=.slice a n c:=by simpa using hu
 subst this;rfl
theorem AnW.congr {lo:Nat} {w:World} {q q':Nat→List T} {j:Nat} {tv:Value} {ad:Nat→Option Addr} {cp B:Nat→Nat} (h:AnW lo w q j tv ad cp B) (he:∀ i,i<j→q i=q' i):AnW lo w q' j tv ad cp B where
 row:=by
  have e:slL ad (fun i=>(q i).length) cp j=slL ad (fun i=>(q' i).length) cp j:=by
   unfold slL
   refine List.map_congr_left (fun i hi=>?_)
   show Value.slice (ad i) (q i).length (cp i)=Value.slice (ad i) (q' i).length (cp i)
   rw [he i (List.mem_range.1 hi)]
  rw [← e];exact h.row
 el:=fun i hi=>by rw [← he i hi];exact h.el i hi
 ap:=fun i k h1 h2=>by rw [← he i (by omega),← he k h2];exact h.ap i k h1 h2
 lo:=h.lo
theorem AnW.empty (w:World) (q:Nat→List T):AnW w.heap.size (w.alloc (.cells #[] 45)) q 0 (.slice (some ⟨w.heap.size,0,none⟩) 0 0) (fun _=>none) (fun _=>0) (fun _=>0):=
 ⟨⟨rfl,.inr ⟨w.heap.size,0,#[],rfl,Nat.le_refl _,heap_alloc_new w (.cells #[] 45),Nat.le_refl _,Nat.zero_le _,rfl,rfl⟩⟩,fun i hi=>by omega,fun i k _ hk=>by omega,by simp⟩
theorem AnW.more {lo:Nat} {w0 w1 w5:World} {q:Nat→List T} {j:Nat} {tv:Value} {ad:Nat→Option Addr} {cp B:Nat→Nat} (h0:AnW lo w0 q j tv ad cp B) (h:AnW lo w1 q j tv ad cp B)
  {a:Option Addr} {c:Nat} (ho:Out w0.heap.size w1 a c (q j)) {g0 cap0:Nat} (hgrow:(w1.alloc (.cells #[.slice a (q j).length c] 45)).grownBy w5 tv.ownBlock)
  (hown:w5.ownsRow lo 45 1 (.slice (some ⟨g0,0,none⟩) (j+1) cap0) (j+1) (slL ad (fun i=>(q i).length) cp j ++ [.slice a (q j).length c])) (hat:tv.ownBlock=some g0∨g0=(w1.alloc (.cells #[.slice a (q j).length c] 45)).heap.size) (hlt:g0<w5.heap.size) :
  ∃ ad' cp' B',AnW lo w5 q (j+1) (.slice (some ⟨g0,0,none⟩) (j+1) cap0) ad' cp' B':=
 ⟨_,_,_,h.round (m:=w0.heap.size) (fun i hi h1=>by
   rcases (h0.el i hi).2.2 with hz | ⟨_,_,_,h3,_⟩
   ·exact absurd hz h1
   ·exact h3) (fun k hk=>(h0.row.lt k hk).2) h0.lo ho hgrow hown (hat.imp id (fun e=>e.trans (by simp))) hlt⟩
def rowK (k:Int) (i:Nat):List T:=if (i:Int)=k then [⟨1,⟨0,0,0,0⟩⟩] else []
def RowP (w:World) (n:Nat) (q:Nat→List T) (r:Ending) (w':World):Prop:=∃ ra rc ad cp Rb B,r=.returned (.slice ra n rc)∧Below w.heap.size w w'∧OutS w.heap.size w' ra n rc ad (fun i=>(q i).length) cp (fun i=>lf (q i)) Rb B
set_option maxRecDepth 100000 in
set_option maxHeartbeats 8000000 in
theorem l9RowS (w:World) (n:Nat) (k:Int) (hn:n≤12):Calls Tryz.prog 96 #[.int .i64 (n:Int),.int .i64 k] w (RowP w n (rowK k)):=by
 obtain ⟨i0,hi0,hz0,hz1,hz2⟩:=info_parts infoSL
 have hnl:(n:Int)≤12:=by omega
 have HQ0:=Hid.mk' (AnW.empty w (rowK k))
 have HB0:=Hid.mk' (bel_one w (.cells #[] 45))
 go_enter Tryz.func96,Tryz.ntmps96
 go_wp2
 go_loopw [5,6] (fun tv ii wr=>∃ (j:Nat) (ad:Nat→Option Addr) (cp B:Nat→Nat),j≤n∧ii=.int .i64 (j:Int)∧Below w.heap.size w wr∧AnW w.heap.size wr (rowK k) j tv ad cp B) (fun _ ii _=>n - (intOf ii).toNat)
 case atStart=>exact ⟨0,_,_,_,Nat.zero_le _,rfl,HB0.out,HQ0.out⟩
 case round=>
  obtain ⟨j,ad,cp,B,hj,rfl,hB,hA⟩:=hrel
  have HB:=Hid.mk' hB
  have HA:=Hid.mk' hA
  by_cases hlt:j<n
  ·have hjl:(j:Int)<(n:Int):=by omega
   have hmax:j+1≤maxLen:=by unfold maxLen;omega
   by_cases hjk:(j:Int)=k
   ·have hjb:((j:Int) == k)=true:=by simpa using hjk
    have hq:rowK k j=[⟨1,⟨0,0,0,0⟩⟩]:=if_pos hjk
    have b1:=bel_one wr (.cells #[.int .i64 1,.int .i64 0,.int .i64 0,.int .i64 0,.int .i64 0] 42)
    have hA1:=hA.below b1
    have hO1:Out wr.heap.size (wr.alloc (.cells #[.int .i64 1,.int .i64 0,.int .i64 0,.int .i64 0,.int .i64 0] 42)) (some ⟨wr.heap.size,0,none⟩) 1 (rowK k j):=by
     rw [hq]
     have:=World.ownsRow_lit (base:=wr.heap.size) (e:=42) (size:=5) wr #[.int .i64 1,.int .i64 0,.int .i64 0,.int .i64 0,.int .i64 0] 1 (Nat.le_refl _) (by unfold maxLen;omega) rfl
     obtain ⟨a',c',e,ho⟩:=out_of_owns (L:=[⟨1,⟨0,0,0,0⟩⟩]) this (by simp)
     cases e
     exact ho
    have hB1:=bel_next hB b1
    have HRND:Hid (∀ (g0 cap0:Nat) (w5:World),w5.ownsRow w.heap.size 45 1 (.slice (some ⟨g0,0,none⟩) (j+1) cap0) (j+1) (slL ad (fun i=>(rowK k i).length) cp j ++ [.slice (some ⟨wr.heap.size,0,none⟩) 1 1])→((wr.alloc (.cells #[.int .i64 1,.int .i64 0,.int .i64 0,.int .i64 0,.int .i64 0] 42)).alloc (.cells #[.slice (some ⟨wr.heap.size,0,none⟩) 1 1] 45)).grownBy w5 u5.ownBlock→(u5.ownBlock=some g0∨g0=((wr.alloc (.cells #[.int .i64 1,.int .i64 0,.int .i64 0,.int .i64 0,.int .i64 0] 42)).alloc (.cells #[.slice (some ⟨wr.heap.size,0,none⟩) 1 1] 45)).heap.size)→g0<w5.heap.size→∃ ad' cp' B',AnW w.heap.size w5 (rowK k) (j+1) (.slice (some ⟨g0,0,none⟩) (j+1) cap0) ad' cp' B'):=fun g0 cap0 w5 h1 h2 h3 h4=>by
     refine AnW.more hA hA1 hO1 ?_ ?_ ?_ h4
     ·rw [hq];exact h2
     ·rw [hq];exact h1
     ·rw [hq];exact h3
    have HA1:=Hid.mk' hA1
    have HB1:=Hid.mk' hB1
    have HN:=Hid.mk' (heap_alloc_new (wr.alloc (.cells #[.int .i64 1,.int .i64 0,.int .i64 0,.int .i64 0,.int .i64 0] 42)) (.cells #[.slice (some ⟨wr.heap.size,0,none⟩) 1 1] 45))
    have hsw:w.heap.size≤wr.heap.size:=hB.size
    clear hq hjk b1 hA1 hO1 hB1 hA hB
    go_wp2_with (at_builtin;refine wpList_append_lies _ rfl (.tmp 16) (.tmp 19) 24 rfl w.heap.size 45 i0 _ 1 24 Tryz.underlying24 hi0 hz0 hz1 hz2 rfl (by omega) _ j (slL ad (fun i=>(rowK k i).length) cp j) rfl (HA1.out.row.alloc _) ⟨wr.heap.size+1,0,none⟩ 1 1 [.slice (some ⟨wr.heap.size,0,none⟩) 1 1] rfl rfl (by have:=HN.out;rw [World.size_alloc] at this;exact World.news_of_block this) (one_sl _ _ _) (by omega) hmax (by omega) (by simp;omega) _ rfl ?_;intro g1 cap1 w7 hown2 hgrow2 hat2 hlt2;have HR:=Hid.mk' (HRND.out g1 cap1 w7 hown2 hgrow2 hat2 hlt2);have HB7:=Hid.mk' ((HB1.out.alloc HB1.out.size _).grown hgrow2 (by simp;omega) (fun k e=>(HA1.out.row.lt k e).1));clear hown2 hgrow2 hat2 hlt2)
    obtain ⟨ad',cp',B',hA7⟩:=HR.out
    go_roundw
    case rel=>exact ⟨j+1,ad',cp',B',by omega,by go_num,HB7.out,hA7⟩
    case measure=>simp [intOf];omega
   ·have hjb:((j:Int) == k)=false:=by simpa using hjk
    have hq:rowK k j=[]:=if_neg hjk
    have b1:=bel_one wr (.cells #[] 42)
    have hA1:=hA.below b1
    have hO1:Out wr.heap.size (wr.alloc (.cells #[] 42)) (some ⟨wr.heap.size,0,none⟩) 0 (rowK k j):=by
     rw [hq]
     exact ⟨⟨Nat.le_refl _,by simp,.inl rfl⟩,.inl rfl,.inl rfl⟩
    have hB1:=bel_next hB b1
    have HRND:Hid (∀ (g0 cap0:Nat) (w5:World),w5.ownsRow w.heap.size 45 1 (.slice (some ⟨g0,0,none⟩) (j+1) cap0) (j+1) (slL ad (fun i=>(rowK k i).length) cp j ++ [.slice (some ⟨wr.heap.size,0,none⟩) 0 0])→((wr.alloc (.cells #[] 42)).alloc (.cells #[.slice (some ⟨wr.heap.size,0,none⟩) 0 0] 45)).grownBy w5 u5.ownBlock→(u5.ownBlock=some g0∨g0=((wr.alloc (.cells #[] 42)).alloc (.cells #[.slice (some ⟨wr.heap.size,0,none⟩) 0 0] 45)).heap.size)→g0<w5.heap.size→∃ ad' cp' B',AnW w.heap.size w5 (rowK k) (j+1) (.slice (some ⟨g0,0,none⟩) (j+1) cap0) ad' cp' B'):=fun g0 cap0 w5 h1 h2 h3 h4=>by
     refine AnW.more hA hA1 hO1 ?_ ?_ ?_ h4
     ·rw [hq];exact h2
     ·rw [hq];exact h1
     ·rw [hq];exact h3
    have HA1:=Hid.mk' hA1
    have HB1:=Hid.mk' hB1
    have HN:=Hid.mk' (heap_alloc_new (wr.alloc (.cells #[] 42)) (.cells #[.slice (some ⟨wr.heap.size,0,none⟩) 0 0] 45))
    have hsw:w.heap.size≤wr.heap.size:=hB.size
    clear hq hjk b1 hA1 hO1 hB1 hA hB
    go_wp2_with (at_builtin;refine wpList_append_lies _ rfl (.tmp 21) (.tmp 23) 24 rfl w.heap.size 45 i0 _ 1 24 Tryz.underlying24 hi0 hz0 hz1 hz2 rfl (by omega) _ j (slL ad (fun i=>(rowK k i).length) cp j) rfl (HA1.out.row.alloc _) ⟨wr.heap.size+1,0,none⟩ 1 1 [.slice (some ⟨wr.heap.size,0,none⟩) 0 0] rfl rfl (by have:=HN.out;rw [World.size_alloc] at this;exact World.news_of_block this) (one_sl _ _ _) (by omega) hmax (by omega) (by simp;omega) _ rfl ?_;intro g1 cap1 w7 hown2 hgrow2 hat2 hlt2;have HR:=Hid.mk' (HRND.out g1 cap1 w7 hown2 hgrow2 hat2 hlt2);have HB7:=Hid.mk' ((HB1.out.alloc HB1.out.size _).grown hgrow2 (by simp;omega) (fun k e=>(HA1.out.row.lt k e).1));clear hown2 hgrow2 hat2 hlt2)
    obtain ⟨ad',cp',B',hA7⟩:=HR.out
    go_roundw
    case rel=>exact ⟨j+1,ad',cp',B',by omega,by go_num,HB7.out,hA7⟩
    case measure=>simp [intOf];omega
  ·have hjn:¬ (j:Int)<(n:Int):=by omega
   have hje:j=n:=by omega
   subst hje
   obtain ⟨qa,qc,R,etv,hO⟩:=hA.out (by omega)
   subst etv
   have HO:=Hid.mk' hO
   clear hB hA hO
   go_wp2
   go_ret
   exact ⟨qa,qc,ad,cp,R,B,rfl,HB.out,HO.out⟩
set_option maxRecDepth 100000 in
set_option maxHeartbeats 4000000 in
theorem l9ZeroS (w:World) (n:Nat) (hn:n≤12):Calls Tryz.prog 161 #[.int .i64 (n:Int)] w (RowP w n (fun _=>[])):=by
 have hq:rowK (-1)=fun _=>[]:=funext fun i=>if_neg (by omega)
 have HC:=l9RowS w n (-1) hn
 rw [hq] at HC
 have HCC:=Hid.mk' HC
 clear HC hq
 go_enter Tryz.func161,Tryz.ntmps161
 go_wp2_with fail
 refine HCC.out.mono ?_
 rintro r w1 ⟨ra,rc,ad,cp,Rb,B,rfl,b1,ho⟩
 have HO:=Hid.mk' ho
 have HB:=Hid.mk' b1
 clear b1 ho
 go_wp2
 go_ret
 exact ⟨ra,rc,ad,cp,Rb,B,rfl,HB.out,HO.out⟩
def LessP (w:World) (n:Nat) (R:Option (Nat→List T)) (r:Ending) (w':World):Prop:=
 Below w.heap.size w w'∧((∃ q ra rc ad cp Rb B,R=some q∧r=.returned (.tuple #[.slice ra n rc,.bool true])∧OutS w.heap.size w' ra n rc ad (fun i=>(q i).length) cp (fun i=>lf (q i)) Rb B)∨(R=none∧∃ ra rc,r=.returned (.tuple #[.slice ra 0 rc,.bool false])))
theorem scL_100 {q:List T} (hq:okL q=true):okL (scL 100 q)=true:=okL_of (by rw [scL_len];exact (okL_falls hq).1) (scL_falls (by omega) (by omega) (okL_falls hq).2)
theorem l3Scale_L {w:World} {a:Option Addr} {c:Nat} {q:List T} (h:RL w a c q) (hq:okL q=true):Calls Tryz.prog 88 #[.int .i64 100,.slice a q.length c] w (One1 w (scL 100 q)):=by
 refine (l3ScaleS w 100 a q.length c (lf q) h (by omega) (by omega) (by have:=(okL_falls hq).1;omega) (fun i hi=>(good_ok (show polOk q.length (lf q)=true from hq)).2 i hi |>.2)).mono ?_
 rintro r w' ⟨v,rfl,hb,ho⟩
 rw [if_neg (by omega)] at ho
 have e:scT 100 (lf q) q.length=scL 100 q:=rfl
 rw [e] at ho
 exact one_owns (by rw [scL_len];exact (okL_falls hq).1) ⟨v,rfl,hb,by rw [scL_len];exact ho⟩
theorem l4Mul_L {w:World} {a b:Option Addr} {ca cb:Nat} {q X:List T} (ha:RL w a ca q) (hb:RL w b cb X) (hq:okL q=true) (hX:okL X=true):Calls Tryz.prog 68 #[.slice a q.length ca,.slice b X.length cb] w (Two2 w (mulO (mulM (lf q) (lf X) X.length q.length))):=by
 refine (mulS4 w a b q.length ca X.length cb (lf q) (lf X) ha hb (okL_falls hq).1 (okL_falls hX).1 (good_ok hq).2 (good_ok hX).2).mono fun _ _ h=>two_owns ?_ h
 cases hm:mulM (lf q) (lf X) X.length q.length with
 | none=>exact Nat.zero_le _
 | some K=>exact mulM_len _ K hm
set_option maxRecDepth 100000 in
set_option maxHeartbeats 8000000 in
theorem l9LessS (w:World) (g:Nat) (hg:g≤12) (ra:Option Addr) (rc:Nat) (adR:Nat→Option Addr) (cpR:Nat→Nat) (row:Nat→List T) (hr:RdS w ra g rc adR (lN row) cpR (fN row)) (hrok:∀ i,i<g→okL (row i)=true)
  (qa:Option Addr) (qc:Nat) (q:List T) (hq:RL w qa qc q) (hqok:okL q=true) (oa:Option Addr) (oc:Nat) (adO:Nat→Option Addr) (cpO:Nat→Nat) (oth:Nat→List T) (ho:RdS w oa g oc adO (lN oth) cpO (fN oth)) (hook:∀ i,i<g→okL (oth i)=true) :
  Calls Tryz.prog 160 #[.slice ra g rc,.slice qa q.length qc,.slice oa g oc] w (LessP w g (lessR row q oth g)):=by
 obtain ⟨i0,hi0,hz0,hz1,hz2⟩:=info_parts infoSL
 have hgl:(g:Int)≤12:=by omega
 obtain ⟨R,hR⟩:∃ R,lessR row q oth g=R:=⟨_,rfl⟩
 rw [hR]
 have HR:=Hid.mk' hR
 have HRO:=Hid.mk' hr
 have HQ:=Hid.mk' hq
 have HO:=Hid.mk' ho
 have HB0:=Hid.mk' (bel_one w (.cells #[] 45))
 have HA0:=Hid.mk' (AnW.empty w (fun _=>[]))
 have HQK:=Hid.mk' hqok
 have HOK:=Hid.mk' hook
 have HRK:=Hid.mk' hrok
 clear hr hq ho hR hqok hook hrok
 go_enter Tryz.func160,Tryz.ntmps160
 go_wp2
 go_loopw [8,9] (fun tv ii wr=>∃ (j:Nat) (X:Nat→List T) (ad:Nat→Option Addr) (cp B:Nat→Nat),j≤g∧ii=.int .i64 (j:Int)∧lessR row q oth j=some X∧Below w.heap.size w wr∧AnW w.heap.size wr X j tv ad cp B) (fun _ ii _=>g - (intOf ii).toNat)
 case atStart=>exact ⟨0,fun _=>[],_,_,_,Nat.zero_le _,rfl,rfl,HB0.out,HA0.out⟩
 case round=>
  obtain ⟨j,X,ad,cp,B,hj,rfl,hX,hB,hA⟩:=hrel
  have HX:=Hid.mk' hX
  have HB:=Hid.mk' hB
  have HA:=Hid.mk' hA
  clear hX
  by_cases hlt:j<g
  ·have hjl:(j:Int)<(g:Int):=by omega
   have hmax:j+1≤maxLen:=by unfold maxLen;omega
   rcases HO.out.2.2.1 with h0 | ⟨ob,off,rfl,hobl,hocl⟩
   ·omega
   rcases HRO.out.2.2.1 with h0 | ⟨rb,roff,rfl,hrbl,hrcl⟩
   ·omega
   obtain ⟨O1,hO1⟩:∃ O1,oth j=O1:=⟨_,rfl⟩
   obtain ⟨R1,hR1⟩:∃ R1,row j=R1:=⟨_,rfl⟩
   have dr:Below wr.heap.size wr wr.drew:=(Below.refl _ _).drew
   have hBd:=bel_next hB dr
   have hS:wr.drew.cell? ⟨ob,off+j,none⟩=some (.slice (adO j) O1.length (cpO j)):=(hBd.cell (p:=⟨ob,off+j,none⟩) hobl).trans (by rw [← hO1];exact hocl j hlt)
   have cR:wr.drew.cell? ⟨rb,roff+j,none⟩=some (.slice (adR j) R1.length (cpR j)):=(hBd.cell (p:=⟨rb,roff+j,none⟩) hrbl).trans (by rw [← hR1];exact hrcl j hlt)
   have RO1:Hid (RL wr.drew (adO j) (cpO j) O1):=by rw [← hO1];exact (HO.out.2.2.2 j hlt).below hBd
   have RR1:Hid (RL wr.drew (adR j) (cpR j) R1):=by rw [← hR1];exact (HRO.out.2.2.2 j hlt).below hBd
   have RQ1:=Hid.mk' (HQ.out.below hBd)
   have okO:okL O1=true:=by rw [← hO1];exact HOK.out j hlt
   have okR:okL R1=true:=by rw [← hR1];exact HRK.out j hlt
   have HS:=Hid.mk' hS
   have HCR:=Hid.mk' cR
   have HBd:=Hid.mk' hBd
   have HAd:=Hid.mk' (hA.below dr)
   have hm:=mulM_sc (f:=lf q) (f2:=lf (scL 100 q)) (la:=q.length) (c:=100) (by omega) (by omega) (good_ok (show polOk q.length (lf q)=true from HQK.out)).2 (good_ok (show polOk O1.length (lf O1)=true from okO)).2 (fun i hi=>lf_sc 100 q hi) q.length (Nat.le_refl _)
   obtain ⟨E,hE⟩:∃ E,lessE R1 q O1=E:=⟨_,rfl⟩
   have hE':lessE (row j) q (oth j)=E:=by rw [hO1,hR1];exact hE
   have hc1:=l3Scale_L RQ1.out HQK.out
   have HC1:=Hid.mk' hc1
   have hrbr:rb<wr.drew.heap.size:=World.block_lt_of_cell? _ _ cR
   clear hocl hrcl hS cR hO1 hR1 hB hA hBd dr hc1
   cases hP:mulM (lf q) (lf O1) O1.length q.length with
   | none=>
    rw [hP] at hm
    have hRn:R=none:=by
     rw [← HR.out]
     refine lessR_bad hlt HX.out (hE'.trans ?_)
     rw [← hE];unfold lessE;rw [hP]
    subst hRn
    have HC2:Hid (∀ (W:World) (a b:Option Addr) (ca cb:Nat),RL W a ca (scL 100 q)→RL W b cb O1→Calls Tryz.prog 68 #[.slice a (scL 100 q).length ca,.slice b O1.length cb] W (Two2 W ([],false))):=fun W a b ca cb k1 k2=>by
     have:=l4Mul_L k1 k2 (scL_100 HQK.out) okO
     rw [scL_len,hm] at this
     rw [scL_len]
     exact this
    clear hm hP hE hE'
    go_wp2_with fail
    have hS:=HS.out
    go_region_held3 (fun u=>u.cell? ⟨ob,off+j,none⟩=some (.slice (adO j) O1.length (cpO j))) (first | with_reducible exact hS | with_reducible exact ((b5.cell (p:=⟨ob,off+j,none⟩) (World.block_lt_of_cell? _ _ hS)).trans hS) | with_reducible exact h6) (first | (go_at_call 88;refine HC1.out.mono ?_;rintro e w5 ⟨za,zc,rfl,b5,hz⟩) | (go_at_call 68;refine (HC2.out _ _ _ _ _ hz (RO1.out.below b5)).mono ?_;rintro e w6 ⟨ya,yc,rfl,b6,hy⟩;have h6:=(b6.cell (p:=⟨ob,off+j,none⟩) (World.block_lt_of_cell? w5 _ ((b5.cell (p:=⟨ob,off+j,none⟩) (World.block_lt_of_cell? _ _ hS)).trans hS))).trans ((b5.cell (p:=⟨ob,off+j,none⟩) (World.block_lt_of_cell? _ _ hS)).trans hS)))
    have HB6:=Hid.mk' (bel_next (bel_next HBd.out b5) b6)
    clear hS b5 b6 hz hy h6
    go_wp2
    refine bodyPost_ret (results_tmp2 rfl _ _ _) rfl ?_
    exact ⟨HB6.out.alloc HB6.out.size _,.inr ⟨rfl,_,_,rfl⟩⟩
   | some P=>
    rw [hP] at hm
    have okP:okL (scL 100 P)=true:=scL_100 (okL_of (mulM_len _ P hP) (mulM_falls2 (good_ok (show polOk q.length (lf q)=true from HQK.out)).2 (good_ok (show polOk O1.length (lf O1)=true from okO)).2 _ P (Nat.le_refl _) hP))
    have HC2:Hid (∀ (W:World) (a b:Option Addr) (ca cb:Nat),RL W a ca (scL 100 q)→RL W b cb O1→Calls Tryz.prog 68 #[.slice a (scL 100 q).length ca,.slice b O1.length cb] W (Two2 W (scL 100 P,true))):=fun W a b ca cb k1 k2=>by
     have:=l4Mul_L k1 k2 (scL_100 HQK.out) okO
     rw [scL_len,hm] at this
     rw [scL_len]
     exact this
    have hE2:E=if (subL R1 P).length≤400 then some (subL R1 P) else none:=by rw [← hE];unfold lessE;rw [hP]
    have hsl:(subL R1 P).length≤800:=by
     have h1:=subL_len R1 P
     have h2:=(okL_falls okR).1
     have h3:=mulM_len _ P hP
     omega
    clear hm hP hE
    obtain ⟨Y,hY⟩:∃ Y,subL R1 P=Y:=⟨_,rfl⟩
    have HC3:Hid (∀ (W:World) (a:Option Addr) (ca:Nat),RL W (adR j) (cpR j) R1→RL W a ca (scL 100 P)→Calls Tryz.prog 85 #[.slice (adR j) R1.length (cpR j),.slice a (scL 100 P).length ca] W fun r w'=>∃ a' c',r=.returned (.slice a' Y.length c')∧Below W.heap.size W w'∧Out W.heap.size w' a' c' Y):=fun W a ca k1 k2=>by
     refine (l3AddS W (adR j) a R1.length (cpR j) (scL 100 P).length ca (lf R1) (lf (scL 100 P)) k1 k2 (by have h2:=(okL_falls okR).1;have h3:=(okL_falls okP).1;omega) (fun i hi=>((good_ok (show polOk R1.length (lf R1)=true from okR)).2 i hi).2) (fun i hi=>((good_ok (show polOk (scL 100 P).length (lf (scL 100 P))=true from okP)).2 i hi).2)).mono ?_
     rintro r w' ⟨v,rfl,hb,hown⟩
     have e:addT (lf R1) R1.length (lf (scL 100 P)) (scL 100 P).length 0 0=Y:=by rw [← hY];rfl
     rw [e] at hown
     obtain ⟨a',c',rfl,hout⟩:=out_of_owns hown (by rw [← hY];omega)
     exact ⟨a',c',rfl,hb,hout⟩
    rw [hY] at hE2 hsl
    have HYE:=Hid.mk' hE2
    have HE':=Hid.mk' hE'
    have hYl:(Y.length:Int)≤800:=by omega
    clear hY hE2 hE' hsl
    go_wp2_with fail
    have hS:=HS.out
    go_region_held3 (fun u=>u.cell? ⟨ob,off+j,none⟩=some (.slice (adO j) O1.length (cpO j))) (first | with_reducible exact hS | with_reducible exact ((b5.cell (p:=⟨ob,off+j,none⟩) (World.block_lt_of_cell? _ _ hS)).trans hS) | with_reducible exact h6) (first | (go_at_call 88;refine HC1.out.mono ?_;rintro e w5 ⟨za,zc,rfl,b5,hz⟩) | (go_at_call 68;refine (HC2.out _ _ _ _ _ hz (RO1.out.below b5)).mono ?_;rintro e w6 ⟨ya,yc,rfl,b6,hy⟩;have h6:=(b6.cell (p:=⟨ob,off+j,none⟩) (World.block_lt_of_cell? w5 _ ((b5.cell (p:=⟨ob,off+j,none⟩) (World.block_lt_of_cell? _ _ hS)).trans hS))).trans ((b5.cell (p:=⟨ob,off+j,none⟩) (World.block_lt_of_cell? _ _ hS)).trans hS)))
    have hB6:=bel_next (bel_next HBd.out b5) b6
    have HB6:=Hid.mk' hB6
    have b56:=bel_next b5 b6
    have c6:w6.cell? ⟨rb,roff+j,none⟩=some (.slice (adR j) R1.length (cpR j)):=(b56.cell (p:=⟨rb,roff+j,none⟩) hrbr).trans HCR.out
    have R6:=Hid.mk' (RR1.out.below b56)
    have Y6:=Hid.mk' hy
    have A6:=Hid.mk' (HAd.out.below b56)
    clear hS b5 b6 hz hy h6 hB6 b56 HC1 HC2
    go_wp2_with fail
    refine (HC3.out _ _ _ R6.out Y6.out).mono ?_
    rintro r w7 ⟨va,vc,rfl,b7,hO7⟩
    have HB7:=Hid.mk' (bel_next HB6.out b7)
    have HA7:=Hid.mk' (A6.out.below b7)
    have HO7:=Hid.mk' hO7
    clear b7 hO7 c6 R6 Y6 HC3
    by_cases hl4:Y.length≤400
    ·have hng:¬ (400:Int)<(Y.length:Int):=by omega
     have hEs:lessE (row j) q (oth j)=some Y:=by rw [HE'.out,HYE.out,if_pos hl4]
     have HXN:=Hid.mk' (lessR_step HX.out hEs)
     have hAX:AnW w.heap.size w7 (updL X j Y) j u8 ad cp B:=HA7.out.congr (fun i hi=>(if_neg (by omega)).symm)
     have hA6X:AnW w.heap.size w6 (updL X j Y) j u8 ad cp B:=A6.out.congr (fun i hi=>(if_neg (by omega)).symm)
     have hYj:updL X j Y j=Y:=if_pos rfl
     have HRND:Hid (∀ (g0 cap0:Nat) (w5:World),w5.ownsRow w.heap.size 45 1 (.slice (some ⟨g0,0,none⟩) (j+1) cap0) (j+1) (slL ad (fun i=>(updL X j Y i).length) cp j ++ [.slice va Y.length vc])→(w7.alloc (.cells #[.slice va Y.length vc] 45)).grownBy w5 u8.ownBlock→(u8.ownBlock=some g0∨g0=(w7.alloc (.cells #[.slice va Y.length vc] 45)).heap.size)→g0<w5.heap.size→∃ ad' cp' B',AnW w.heap.size w5 (updL X j Y) (j+1) (.slice (some ⟨g0,0,none⟩) (j+1) cap0) ad' cp' B'):=fun g0 cap0 w5 h1 h2 h3 h4=>by
      refine AnW.more hA6X hAX (a:=va) (c:=vc) (by rw [hYj];exact HO7.out) ?_ ?_ ?_ h4
      ·rw [hYj];exact h2
      ·rw [hYj];exact h1
      ·rw [hYj];exact h3
     have HAX:=Hid.mk' hAX
     have hsw:w.heap.size≤w7.heap.size:=HB7.out.size
     clear hEs hAX hA6X hYj hl4
     go_wp2_with (at_builtin;refine wpList_append_lies _ rfl (.tmp 43) (.tmp 45) 24 rfl w.heap.size 45 i0 _ 1 24 Tryz.underlying24 hi0 hz0 hz1 hz2 rfl (by omega) _ j (slL ad (fun i=>(updL X j Y i).length) cp j) rfl (HAX.out.row.alloc _) ⟨w7.heap.size,0,none⟩ 1 1 [.slice va Y.length vc] rfl rfl (World.news_of_block (heap_alloc_new w7 _)) (one_sl _ _ _) (by omega) hmax (by omega) (by simp;omega) _ rfl ?_;intro g1 cap1 w8 hown2 hgrow2 hat2 hlt2;have HRR:=Hid.mk' (HRND.out g1 cap1 w8 hown2 hgrow2 hat2 hlt2);have HB8:=Hid.mk' ((HB7.out.alloc HB7.out.size _).grown hgrow2 (by simp;omega) (fun k e=>(HAX.out.row.lt k e).1));clear hown2 hgrow2 hat2 hlt2)
     obtain ⟨ad',cp',B',hA8⟩:=HRR.out
     go_roundw
     case rel=>exact ⟨j+1,updL X j Y,ad',cp',B',by omega,by go_num,HXN.out,HB8.out,hA8⟩
     case measure=>simp [intOf];omega
    ·have hgt:(400:Int)<(Y.length:Int):=by omega
     have hRn:R=none:=by
      rw [← HR.out]
      refine lessR_bad hlt HX.out ?_
      rw [HE'.out,HYE.out,if_neg hl4]
     subst hRn
     go_wp2
     refine bodyPost_ret (results_tmp2 rfl _ _ _) rfl ?_
     exact ⟨HB7.out.alloc HB7.out.size _,.inr ⟨rfl,_,_,rfl⟩⟩
  ·have hjn:¬ (j:Int)<(g:Int):=by omega
   have hje:j=g:=by omega
   subst hje
   have hRs:R=some X:=by rw [← HR.out];exact HX.out
   subst hRs
   obtain ⟨qa',qc',Rb,etv,hO⟩:=hA.out (by omega)
   subst etv
   have HOO:=Hid.mk' hO
   clear hB hA hO
   go_wp2
   refine bodyPost_ret (results_tmp2 rfl _ _ _) rfl ?_
   exact ⟨HB.out,.inl ⟨X,qa',qc',ad,cp,Rb,B,rfl,rfl,HOO.out⟩⟩
end Go.Proofs.YtdidlcjhodejjaaGreat
namespace Go.Proofs.YtdidlcjhodejjaaGreat
open Go.RowKit Go.Deep Go.Joins
set_option linter.unusedVariables false
def Rd3 (w:World) (a:Option Addr) (n cap:Nat) (A:Nat→Option Addr) (C:Nat→Nat) (AD:Nat→Nat→Option Addr) (CP:Nat→Nat→Nat) (N:Nat→Nat) (L:Nat→Nat→Nat) (F:Nat→Nat→Nat→T):Prop:=
 n≤cap∧n * 40≤140737488351232∧(n=0∨∃ b off,a=some ⟨b,off,none⟩∧b<w.heap.size∧∀ i,i<n→w.cell? ⟨b,off+i,none⟩=some (.slice (A i) (N i) (C i)))∧∀ i,i<n→RdS w (A i) (N i) (C i) (AD i) (L i) (CP i) (F i)
theorem Rd3.below {w w':World} {a:Option Addr} {n cap:Nat} {A:Nat→Option Addr} {C:Nat→Nat} {AD:Nat→Nat→Option Addr} {CP:Nat→Nat→Nat} {N:Nat→Nat} {L:Nat→Nat→Nat} {F:Nat→Nat→Nat→T} (h:Rd3 w a n cap A C AD CP N L F) (hb:Below w.heap.size w w'):Rd3 w' a n cap A C AD CP N L F:=by
 refine ⟨h.1,h.2.1,?_,fun i hi=>(h.2.2.2 i hi).below hb⟩
 rcases h.2.2.1 with h0 | ⟨b,off,he,hlt,hc⟩
 ·exact .inl h0
 ·exact .inr ⟨b,off,he,Nat.lt_of_lt_of_le hlt hb.size,fun i hi=>(hb.cell (p:=⟨b,off+i,none⟩) hlt).trans (hc i hi)⟩
end Go.Proofs.YtdidlcjhodejjaaGreat
