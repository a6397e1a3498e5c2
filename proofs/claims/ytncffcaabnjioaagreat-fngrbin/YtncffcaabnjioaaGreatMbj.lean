/-
  What is left of a pair of operators: what is true of it.
-/
import Derived.Test.YtncffcaabnjioaaGreatMbi
set_option maxHeartbeats 4000000
set_option maxRecDepth 100000
namespace Go.Proofs.YtncffcaabnjioaaGreat
open Go.RowKit
set_option linter.unusedVariables false
theorem mR {m:M}:∀{L:List T},aL L m≠0→∃t∈L,t.m=m
 |[],h=>absurd rfl h
 |t::r,h=>by
  rw[aL]at h;split at h
  ·rename_i he;exact⟨t,List.mem_cons_self ..,bT.1 he⟩
  ·obtain⟨s,hs,e⟩:=mR h;exact⟨s,List.mem_cons_of_mem _ hs,e⟩
theorem yX {L:List T} (h:aK L) {t:T} (ht:t∈L):aL L t.m=t.c∧aL L t.m≠0:=by
 have h1:aL L t.m=t.c:=by
  induction L with
  |nil=>cases ht
  |cons s r ih=>
   rw[aL];rcases List.mem_cons.1 ht with rfl|ht'
   ·rw[if_pos (bT.2 rfl)]
   ·have h1:=h.head t ht';rw[if_neg (fun e=>by rw[bT.1 e]at h1;omega)];exact ih h.tail ht'
 have h2:=h.2 t ht;exact⟨h1,by omega⟩
theorem UU {a c b:M} (h:M.mul a c=(b,true)):b.ok=true:=by
 unfold M.mul at h;split at h
 ·rename_i q;cases h;exact q.2.2
 ·cases h
theorem mB {o:Int} {A B L:List T} (h:dC o (lf A) A.length (lf B) B.length=(L,true)):eZ o A.length (lf A) B.length (lf B)=true∧∃X Y,lF [fC o A.length (lf A) B.length (lf B)] A=(X,true)∧lF [fD o A.length (lf A) B.length (lf B)] B=(Y,true)∧cT X=true∧cT Y=true∧L=cQ X Y∧L.length≤400:=by
 unfold dC at h;by_cases hk:eZ o A.length (lf A) B.length (lf B)=true
 ·refine⟨hk,?_⟩;rw[if_pos hk]at h;unfold kQ at h;by_cases h2:(bJ (lf [fC o A.length (lf A) B.length (lf B)]) 1 (lf A) A.length).2=true∧(bJ (lf [fD o A.length (lf A) B.length (lf B)]) 1 (lf B) B.length).2=true
  ·rw[if_pos h2]at h;obtain⟨X,hX⟩:∃X,lF [fC o A.length (lf A) B.length (lf B)] A=(X,true):=by
    rcases SG [fC o A.length (lf A) B.length (lf B)] A with e|e
    ·exact absurd h2.1 (by rw[show bJ (lf [fC o A.length (lf A) B.length (lf B)]) 1 (lf A) A.length=([],false)from e];simp)
    ·exact e
   obtain⟨Y,hY⟩:∃Y,lF [fD o A.length (lf A) B.length (lf B)] B=(Y,true):=by
    rcases SG [fD o A.length (lf A) B.length (lf B)] B with e|e
    ·exact absurd h2.2 (by rw[show bJ (lf [fD o A.length (lf A) B.length (lf B)]) 1 (lf B) B.length=([],false)from e];simp)
    ·exact e
   rw[show bJ (lf [fC o A.length (lf A) B.length (lf B)]) 1 (lf A) A.length=(X,true)from hX,show bJ (lf [fD o A.length (lf A) B.length (lf B)]) 1 (lf B) B.length=(Y,true)from hY]at h;rcases tZ X Y with e|⟨_,_,hl,e⟩
   ·rw[show iS (lf X) X.length (lf Y) Y.length=([],false)from e]at h;cases h
   ·rw[show iS (lf X) X.length (lf Y) Y.length=(cQ X Y,true)from e]at h;have hL:cQ X Y=L:=by cases h;rfl
    exact⟨X,Y,hX,hY,xW hX,xW hY,hL.symm,by rw[←hL];exact hl⟩
  ·rw[if_neg h2]at h;cases h
 ·rw[if_neg hk]at h;cases h
theorem RR {o:Int} {A B L:List T} (h:dC o (lf A) A.length (lf B) B.length=(L,true)):cT L=true:=by obtain⟨hk,X,Y,hX,hY,oX,oY,rfl,hl⟩:=mB h;exact gJ hl (cJ (aE oX).2 (aE oY).2).1
theorem EN {o:Int} {u:T} {A X:List T} (gu:u.m.ok=true∧1≤u.c∧u.c≤100) (hA:AJ o A=true) (h:lF [u] A=(X,true)) {b:M} (hb:M.mul u.m (qN o A).m=(b,true)) (hc:oQ u.c (qN o A).c=1):aL X b=1∧∀t∈X,iX o t.m≤iX o b:=by
 obtain⟨ho,oA,_⟩:=iV.1 hA;have hu:AJ o [u]=true:=iV.2 ⟨ho,jR gu,by simp⟩
 obtain⟨e1,e2⟩:=UK ho h;rw[hu,hA]at e1;have hX:AJ o X=true:=e1
 obtain⟨e3,e4⟩:=e2 hu hA;have eu:qN o [u]=u:=by have:=(tJ hu).1;simpa using this
 rw[eu]at e3 e4;have eb:(qN o X).m=b:=by have:=e3.symm.trans (show M.mul ⟨u.m.x,u.m.y,u.m.d,u.m.e⟩ ⟨(qN o A).m.x,(qN o A).m.y,(qN o A).m.d,(qN o A).m.e⟩=(b,true)from hb);cases this;rfl
 obtain⟨t1,t2⟩:=tJ hX;have hm:=(yX (aE (xW h)).2 t1).1
 rw[eb]at t2 hm;refine⟨?_,t2⟩;rw[hm,←e4,hc]
theorem MP {o:Int} {A B L:List T} (h:dC o (lf A) A.length (lf B) B.length=(L,true)):∀t∈L,M.cmp o t.m (mA o A.length (lf A) B.length (lf B))<0:=by
 obtain⟨hk,X,Y,hX,hY,oX,oY,rfl,hl⟩:=mB h;obtain⟨gU,gV⟩:=sM hk;obtain⟨m1,m2,c1,c2,_⟩:=JJ hk;have hk':=hk
 unfold eZ at hk';rw[Bool.and_eq_true]at hk';obtain⟨x1,x2⟩:=EN gU (show AJ o A=true from hk'.1) hX m1 c1;obtain⟨y1,y2⟩:=EN gV (show AJ o B=true from hk'.2) hY m2 c2;have fX:=(aE oX).2
 have fY:=(aE oY).2;obtain⟨fL,cL⟩:=cJ fX fY;have ho:=(kD hk'.1).1
 have hbok:(mA o A.length (lf A) B.length (lf B)).ok=true:=UU m1;generalize mA o A.length (lf A) B.length (lf B)=b at *;intro t ht;have tok:=(fL.2 t ht).1
 obtain⟨q1,q2⟩:=yX fL ht;have hne:t.m≠b:=fun e=>by apply q2;rw[e,cL b,x1,y1];decide
 have hle:iX o t.m≤iX o b:=by
  by_cases hx:aL X t.m=0
  ·by_cases hy:aL Y t.m=0
   ·exact absurd (by rw[cL,hx,hy];decide) q2
   ·obtain⟨s,hs,e⟩:=mR hy;rw[←e];exact y2 s hs
  ·obtain⟨s,hs,e⟩:=mR hx;rw[←e];exact x2 s hs
 have hlt:iX o t.m≠iX o b:=fun e=>hne (pS _ _ tok hbok e);unfold M.cmp;rw[if_pos ⟨ho,tok,hbok⟩,AY ho tok hbok];unfold c3;split
 ·omega
 ·split<;>omega
open Go.RowKit Go.Deep Go.Joins
def XX (o:Int) (n:Nat) (L:Nat→List T) (i k:Nat):Nat:=
 match dC o (lf (L i)) (L i).length (lf (L k)) (L k).length with
 |(s,true)=>(match aP o s n (lN L) (fN L)with
  |some S=>if S.r.length=0 then 2 else 1
  |none=>0)
 |(_,false)=>0
def rU (o:Int) (n:Nat) (L:Nat→List T):Bool:=decide ((1≤o∧o≤3)∧aW n (lN L) (fN L)=true∧∀k,k<n→∀i,i<k→XX o n L i k=2)
theorem ME {o:Int} {p:List T} {n:Nat} {L:Nat→List T} (ho:1≤o∧o≤3) (hp:cT p=true) (hl:aW n (lN L) (fN L)=true):aP o p n (lN L) (fN L)=dV o n (lN L) (fN L) 300 (jO p):=if_pos ⟨ho,hp,hl⟩
theorem VM {w:World} (o:Int) {a b:Option Addr} {ca cb:Nat} {A B:List T} (ha:RL w a ca A) (hb:RL w b cb B):Calls Tryz.prog 154 #[.int .i64 o,.slice a A.length ca,.slice b B.length cb] w (zS w (dC o (lf A) A.length (lf B) B.length)):=
 (RO w o a b A.length ca B.length cb (lf A) (lf B) ha hb).mono fun _ _ h=>EO (EC _ _ _ _ _) h
structure Fr (P:Nat→Prop) (w w':World):Prop where
 os:w'.os=w.os
 tape:w'.tape=w.tape
 output:w'.output=w.output
 size:w.heap.size≤w'.heap.size
 block:∀k,k<w.heap.size→¬P k→w'.heap[k]? =w.heap[k]?
theorem Fr.refl (P:Nat→Prop) (w:World):Fr P w w:=⟨rfl,rfl,rfl,Nat.le_refl _,fun _ _ _=>rfl⟩
theorem Fr.trans {P:Nat→Prop} {a b c:World} (h:Fr P a b) (k:Fr P b c):Fr P a c:=
 ⟨k.os.trans h.os,k.tape.trans h.tape,k.output.trans h.output,jW h.size k.size,fun i hi hn=>(k.block i (lG hi h.size) hn).trans (h.block i hi hn)⟩
theorem Fr.mono {P P':Nat→Prop} {w w':World} (h:Fr P w w') (hp:∀k,k<w.heap.size→P k→P' k):Fr P' w w':=⟨h.os,h.tape,h.output,h.size,fun k hk hn=>h.block k hk (fun e=>hn (hp k hk e))⟩
theorem eH {P:Nat→Prop} {w w':World} (h:Below w.heap.size w w'):Fr P w w':=⟨h.os,h.tape,h.output,h.size,fun k hk _=>h.block k hk⟩
theorem Fr.next {P:Nat→Prop} {a b c:World} (h:Fr P a b) (k:Below b.heap.size b c):Fr P a c:=h.trans (eH k)
theorem Fr.set {P:Nat→Prop} {w w':World} (h:Fr P w w') {b o:Nat} {v:Value} (hb:b<w.heap.size→P b):Fr P w (w'.setCell ⟨b,o,none⟩ v):=
 ⟨h.os,h.tape,h.output,by simpa[World.setCell]using h.size,fun k hk hn=>(Below.heap_setCell _ _ _ _ (by show k≠b;intro e;subst e;exact hn (hb hk))).trans (h.block k hk hn)⟩
theorem Fr.grown {P:Nat→Prop} {w w' w'':World} {row:Option Nat} (h:Fr P w w') (hg:w'.grownBy w'' row) (hr:∀g,row=some g→g<w.heap.size→P g):Fr P w w'':=
 ⟨hg.os.trans h.os,hg.tape.trans h.tape,hg.output.trans h.output,jW h.size hg.size,fun k hk hn=>(hg.block k (lG hk h.size) (fun e=>hn (hr k e.symm hk))).trans (h.block k hk hn)⟩
theorem Fr.cell {P:Nat→Prop} {w w':World} (h:Fr P w w') {b o:Nat} (hb:b<w.heap.size) (hp:¬P b):w'.cell? ⟨b,o,none⟩=w.cell? ⟨b,o,none⟩:=
 lH (w:=w) (a:=⟨b,o,none⟩) (h.block b hb hp)
theorem Fr.frozen {P:Nat→Prop} {w w':World} (h:Fr P w w') {b o:Nat} (hb:b<w.heap.size) (hp:¬P b):w'.frozen? ⟨b,o,none⟩=w.frozen? ⟨b,o,none⟩:=
 World.frozen?_of_block (w:=w) (a:=⟨b,o,none⟩) (h.block b hb hp)
theorem Fr.rd {P:Nat→Prop} {w w':World} (h:Fr P w w') {a:Option Addr} {n cap:Nat} {f:Nat→T} (hr:Rd w a n cap f) (hp:n=0∨∀b off,a=some ⟨b,off,none⟩→¬P b):Rd w' a n cap f:=by
 obtain⟨h1,h2,h3⟩:=hr;refine⟨h1,h2,?_⟩;rcases h3 with h0|⟨b,off,he,hlt,hc⟩
 ·exact .inl h0
 ·rcases hp with h0|hp
  ·exact .inl h0
  ·refine .inr ⟨b,off,he,lG hlt h.size,fun i hi=>?_⟩;have hn:=hp b off he
   obtain⟨c0,c1,c2,c3,c4⟩:=hc i hi;exact⟨(h.cell hlt hn).trans c0,(h.cell hlt hn).trans c1,(h.cell hlt hn).trans c2,(h.cell hlt hn).trans c3,(h.cell hlt hn).trans c4⟩
theorem Fr.c5 {P:Nat→Prop} {w w':World} (h:Fr P w w') {b:Nat} {t:T} (hc:C5 w b t) (hp:¬P b):C5 w' b t:=by have hlt:=hc.lt;obtain⟨c0,c1,c2,c3,c4⟩:=hc;exact⟨(h.cell hlt hp).trans c0,(h.cell hlt hp).trans c1,(h.cell hlt hp).trans c2,(h.cell hlt hp).trans c3,(h.cell hlt hp).trans c4⟩
theorem Fr.below {P:Nat→Prop} {lo:Nat} {u w w':World} (hb:Below lo u w) (h:Fr P w w') (hp:∀k,P k→lo≤k) (hlo:lo≤u.heap.size):Below lo u w':=
 ⟨h.os.trans hb.os,h.tape.trans hb.tape,h.output.trans hb.output,jW hb.size h.size,fun k hk=>(h.block k (lG hk (jW hlo hb.size)) (fun e=>by have:=hp k e;omega)).trans (hb.block k hk)⟩
theorem Fr.owns {P:Nat→Prop} {w w':World} (h:Fr P w w') {lo:Nat} {e:TypeId} {size:Nat} {v:Value} {n:Nat} {xs:List Value} (ho:w.ownsRow lo e size v n xs) (hp:∀g,v.ownBlock=some g→¬P g):w'.ownsRow lo e size v n xs:=by
 refine⟨ho.1,ho.2.imp id ?_⟩;rintro⟨g,cap,cur,hv,hlo,hgg,hn,hm,hs,ht⟩;refine⟨g,cap,cur,hv,hlo,?_,hn,hm,hs,ht⟩;have hlt:g<w.heap.size:=(Array.getElem?_eq_some_iff.1 hgg).1
 exact(h.block g hlt (hp g (by rw[hv];rfl))).trans hgg
theorem iY {w:World} {a:Addr} {v u:Value} (h:w.cell? a=some u):(w.setCell a v).cell? a=some v:=World.cell?_setCell_same (w:=w) (a:=a) (v:=v) h
theorem aZ {w:World} {a b:Addr} {v:Value} (h:a≠b):(w.setCell a v).cell? b=w.cell? b:=World.cell?_setCell_other (w:=w) (a:=a) (b:=b) (v:=v) h
def ZO (q:Nat×Nat):Nat×Nat:=if q.1+1<q.2 then(q.1+1,q.2)else(0,q.2+1)
def pq:Nat→Nat×Nat
 |0=>(0,1)
 |j+1=>ZO (pq j)
def cZ:Nat→Nat
 |0=>0
 |k+1=>cZ k+k
theorem nK:∀k i,i<k→pq (cZ k+i)=(i,k)
 |0,i,h=>by omega
 |1,i,h=>by
  obtain rfl:i=0:=by omega
  rfl
 |k+2,0,_=>by
  have:=nK (k+1) k (by omega);show pq (cZ (k+1)+(k+1))=(0,k+2)
  rw[show cZ (k+1)+(k+1)=(cZ (k+1)+k)+1 by omega];show ZO (pq (cZ (k+1)+k))=_
  rw[this];unfold ZO;rw[if_neg (by simp)]
 |k+2,i+1,h=>by
  have:=nK (k+2) i (by omega);rw[show cZ (k+2)+(i+1)=(cZ (k+2)+i)+1 by omega];show ZO (pq (cZ (k+2)+i))=_
  rw[this];unfold ZO;rw[if_pos (by simpa using h)]
theorem xP       {a b : Nat} (h : a ≤ b) : cZ  a ≤ cZ  b := by
  induction b with
  | zero => obtain rfl : a = 0 := by omega
            exact Nat.le_refl _
  | succ b ih =>
    rcases Nat.lt_or_ge a (b + 1) with h' | h'
    · have := ih (by omega); show cZ  a ≤ cZ  b + b; omega
    · obtain rfl : a = b + 1 := by omega
      exact Nat.le_refl _
theorem GQ:∀(m j:Nat),j<cZ m→∃k i,k<m∧i<k∧j=cZ k+i
 |0,j,h=>absurd h (MY _)
 |m+1,j,h=>by
  rcases Nat.lt_or_ge j (cZ m)with h'|h'
  ·obtain⟨k,i,h1,h2,h3⟩:=GQ m j h';exact⟨k,i,by omega,h2,h3⟩
  ·have h:j<cZ m+m:=h;exact⟨m,j-cZ m,by omega,by omega,by omega⟩
theorem QJ {m j:Nat} (h:j<cZ m):(pq j).1<(pq j).2∧(pq j).2<m:=by obtain⟨k,i,h1,h2,rfl⟩:=GQ m j h;rw[nK k i h2];exact⟨h2,h1⟩
structure Pr where
 t1:T
 t2:T
 i:Nat
 k:Nat
def wV (kf:Nat→T) (j:Nat):Pr:=⟨gH (kf (pq j).1) (M.both (kf (pq j).1).m (kf (pq j).2).m),gH (kf (pq j).2) (M.both (kf (pq j).1).m (kf (pq j).2).m),(pq j).1,(pq j).2⟩
abbrev vi (z:Int):Value:=.int .i64 z
abbrev VD (p:Pr) (nx:Option Addr):Array Value:=#[vi p.t1.c,vi p.t1.m.x,vi p.t1.m.y,vi p.t1.m.d,vi p.t1.m.e,vi p.t2.c,vi p.t2.m.x,vi p.t2.m.y,vi p.t2.m.d,vi p.t2.m.e,vi (p.i:Int),vi (p.k:Int),.pointer nx]
structure jL (w:World) (b:Nat) (p:Pr) (nx:Option Addr):Prop where
 a0:w.cell? ⟨b,0,none⟩=some (.int .i64 p.t1.c)
 a1:w.cell? ⟨b,1,none⟩=some (.int .i64 p.t1.m.x)
 a2:w.cell? ⟨b,2,none⟩=some (.int .i64 p.t1.m.y)
 a3:w.cell? ⟨b,3,none⟩=some (.int .i64 p.t1.m.d)
 a4:w.cell? ⟨b,4,none⟩=some (.int .i64 p.t1.m.e)
 b0:w.cell? ⟨b,5,none⟩=some (.int .i64 p.t2.c)
 b1:w.cell? ⟨b,6,none⟩=some (.int .i64 p.t2.m.x)
 b2:w.cell? ⟨b,7,none⟩=some (.int .i64 p.t2.m.y)
 b3:w.cell? ⟨b,8,none⟩=some (.int .i64 p.t2.m.d)
 b4:w.cell? ⟨b,9,none⟩=some (.int .i64 p.t2.m.e)
 ci:w.cell? ⟨b,10,none⟩=some (.int .i64 (p.i:Int))
 ck:w.cell? ⟨b,11,none⟩=some (.int .i64 (p.k:Int))
 nx:w.cell? ⟨b,12,none⟩=some (.pointer nx)
 fz:w.frozen? ⟨b,12,none⟩=false
theorem jL.lt {w:World} {b:Nat} {p:Pr} {nx:Option Addr} (h:jL w b p nx):b<w.heap.size:=cU w _ h.a0
theorem jL.fr {P:Nat→Prop} {w w':World} {b:Nat} {p:Pr} {nx:Option Addr} (h:jL w b p nx) (hf:Fr P w w') (hp:¬P b):jL w' b p nx:=
 have hl:=h.lt
 ⟨(hf.cell hl hp).trans h.a0,(hf.cell hl hp).trans h.a1,(hf.cell hl hp).trans h.a2,(hf.cell hl hp).trans h.a3,(hf.cell hl hp).trans h.a4,(hf.cell hl hp).trans h.b0,(hf.cell hl hp).trans h.b1,(hf.cell hl hp).trans h.b2,(hf.cell hl hp).trans h.b3,(hf.cell hl hp).trans h.b4,(hf.cell hl hp).trans h.ci,(hf.cell hl hp).trans h.ck,(hf.cell hl hp).trans h.nx,(hf.frozen hl hp).trans h.fz⟩
theorem jL.below {w w':World} {b:Nat} {p:Pr} {nx:Option Addr} (h:jL w b p nx) (hb:Below w.heap.size w w'):jL w' b p nx:=h.fr (P:=fun _=>False) (eH hb) id
theorem jL.box (w:World) (y:TypeId) (p:Pr) (nx:Option Addr):jL (w.alloc (.cells (VD p nx) y)) w.heap.size p nx:=by constructor<;>first|(rw[World.cell?_alloc_at _ _ _ _ rfl];rfl)|(simp[go_sem])
theorem uS {b j:Nat} (h:j≠12):(⟨b,12,none⟩:Addr)≠⟨b,j,none⟩:=fun e=>h (by injection e with _ e2;exact e2.symm)
theorem jL.link {w:World} {b:Nat} {p:Pr} {nx:Option Addr} (h:jL w b p nx) (nx':Option Addr):jL (w.setCell ⟨b,12,none⟩ (.pointer nx')) b p nx' where
 a0:=(aZ (uS (by omega))).trans h.a0
 a1:=(aZ (uS (by omega))).trans h.a1
 a2:=(aZ (uS (by omega))).trans h.a2
 a3:=(aZ (uS (by omega))).trans h.a3
 a4:=(aZ (uS (by omega))).trans h.a4
 b0:=(aZ (uS (by omega))).trans h.b0
 b1:=(aZ (uS (by omega))).trans h.b1
 b2:=(aZ (uS (by omega))).trans h.b2
 b3:=(aZ (uS (by omega))).trans h.b3
 b4:=(aZ (uS (by omega))).trans h.b4
 ci:=(aZ (uS (by omega))).trans h.ci
 ck:=(aZ (uS (by omega))).trans h.ck
 nx:=iY h.nx
 fz:=by rw[World.frozen?_setCell];exact h.fz
def qF (B:Nat→Nat) (a e:Nat):Option Addr:=if a<e then some ⟨B a,0,none⟩else none
structure pD (w:World) (lo Q z:Nat) (lv:Value) (m:Nat) (kf:Nat→T) (B:Nat→Nat) (a e:Nat):Prop where
 cl:w.cell? ⟨Q,z,none⟩=some lv
 cf:w.cell? ⟨Q,z+1,none⟩=some (.pointer (qF B a e))
 ct:∃v,w.cell? ⟨Q,z+2,none⟩=some v∧(a<e→v= .pointer (some ⟨B (e-1),0,none⟩))
 fz:w.frozen? ⟨Q,z,none⟩=false∧w.frozen? ⟨Q,z+1,none⟩=false∧w.frozen? ⟨Q,z+2,none⟩=false
 own:w.ownsRow lo 47 5 lv ((List.range m).map kf).length (aF ((List.range m).map kf))
 ap:∀g,lv.ownBlock=some g→g≠Q
 pr:∀j,a≤j→j<e→jL w (B j) (wV kf j) (if j+1<e then some ⟨B (j+1),0,none⟩else none)
 bk:∀j,a≤j→j<e→lo≤B j∧B j≠Q∧lv.ownBlock≠some (B j)
 inj:∀i j,a≤i→i<j→j<e→B i≠B j
 hQ:lo≤Q
def QS (Q:Nat) (lv:Value) (B:Nat→Nat) (a e k:Nat):Prop:=k=Q∨lv.ownBlock=some k∨(a<e∧k=B (e-1))
theorem pD.lt {w:World} {lo Q z:Nat} {lv:Value} {m:Nat} {kf:Nat→T} {B:Nat→Nat} {a e:Nat} (h:pD w lo Q z lv m kf B a e):Q<w.heap.size:=cU w _ h.cl
theorem pD.fr {P:Nat→Prop} {w w':World} {lo Q z:Nat} {lv:Value} {m:Nat} {kf:Nat→T} {B:Nat→Nat} {a e:Nat} (h:pD w lo Q z lv m kf B a e) (hf:Fr P w w') (h1:¬P Q) (h2:∀g,lv.ownBlock=some g→¬P g) (h3:∀j,a≤j→j<e→¬P (B j)):pD w' lo Q z lv m kf B a e where
 cl:=(hf.cell h.lt h1).trans h.cl
 cf:=(hf.cell h.lt h1).trans h.cf
 ct:=h.ct.imp fun v ⟨c1,c2⟩=>⟨(hf.cell h.lt h1).trans c1,c2⟩
 fz:=⟨(hf.frozen h.lt h1).trans h.fz.1,(hf.frozen h.lt h1).trans h.fz.2.1,(hf.frozen h.lt h1).trans h.fz.2.2⟩
 own:=hf.owns h.own h2
 ap:=h.ap
 pr:=fun j i1 i2=>(h.pr j i1 i2).fr hf (h3 j i1 i2)
 bk:=h.bk
 inj:=h.inj
 hQ:=h.hQ
theorem pD.below {w w':World} {lo Q z:Nat} {lv:Value} {m:Nat} {kf:Nat→T} {B:Nat→Nat} {a e:Nat} (h:pD w lo Q z lv m kf B a e) (hb:Below w.heap.size w w'):pD w' lo Q z lv m kf B a e:=h.fr (P:=fun _=>False) (eH hb) id (fun _ _=>id) (fun _ _ _=>id)
theorem ES {Q z z':Nat} (h:z≠z'):(⟨Q,z,none⟩:Addr)≠⟨Q,z',none⟩:=fun e=>h (by injection e)
def EP (B:Nat→Nat) (e b j:Nat):Nat:=if j=e then b else B j
theorem VF {B B':Nat→Nat} {a e e':Nat} (h:a<e) (h':a<e') (hB:B a=B' a):qF B a e=qF B' a e':=by unfold qF;rw[if_pos h,if_pos h',hB]
theorem pD.push {w:World} {lo Q z:Nat} {lv:Value} {m:Nat} {kf:Nat→T} {B:Nat→Nat} {a e:Nat} (h:pD w lo Q z lv m kf B a e) (hae:a≤e) {b:Nat} (hb:jL w b (wV kf e) none) (hlo:lo≤b) (hbQ:b≠Q) (hbl:lv.ownBlock≠some b) (hbB:∀j,a≤j→j<e→B j≠b):pD (if a<e then(w.setCell ⟨B (e-1),12,none⟩ (.pointer (some ⟨b,0,none⟩))).setCell ⟨Q,z+2,none⟩ (.pointer (some ⟨b,0,none⟩))else(w.setCell ⟨Q,z+1,none⟩ (.pointer (some ⟨b,0,none⟩))).setCell ⟨Q,z+2,none⟩ (.pointer (some ⟨b,0,none⟩))) lo Q z lv m kf (EP B e b) a (e+1):=by
 have hub:∀j,j<e→EP B e b j=B j:=fun j hj=>if_neg (by omega);have hue:EP B e b e=b:=if_pos rfl
 obtain⟨tv,ht,_⟩:=h.ct;by_cases hlt:a<e
 ·rw[if_pos hlt];have hl:=h.bk (e-1) (by omega) (by omega)
  have f1:Fr (fun k=>k=B (e-1)) w (w.setCell ⟨B (e-1),12,none⟩ (.pointer (some ⟨b,0,none⟩))):=(Fr.refl _ w).set (fun _=>rfl);have c1:(w.setCell ⟨B (e-1),12,none⟩ (.pointer (some ⟨b,0,none⟩))).cell? ⟨Q,z+2,none⟩=some tv:=(f1.cell h.lt (fun q=>hl.2.1 q.symm)).trans ht
  generalize hw1:w.setCell ⟨B (e-1),12,none⟩ (.pointer (some ⟨b,0,none⟩))=w1 at f1 c1;have hlnk:jL w1 (B (e-1)) (wV kf (e-1)) (some ⟨b,0,none⟩):=by rw[←hw1];exact(h.pr (e-1) (by omega) (by omega)).link _
  have f2:Fr (fun k=>k=Q) w1 (w1.setCell ⟨Q,z+2,none⟩ (.pointer (some ⟨b,0,none⟩))):=(Fr.refl _ w1).set (fun _=>rfl);have hlt1:Q<w1.heap.size:=lG h.lt f1.size
  refine⟨?_,?_,⟨_,iY c1,fun _=>by rw[show e+1-1=e by omega,hue]⟩,?_,?_,h.ap,?_,?_,?_,h.hQ⟩
  ·rw[aZ (ES (by omega))];exact(f1.cell h.lt (fun q=>hl.2.1 q.symm)).trans h.cl
  ·rw[aZ (ES (by omega)),(f1.cell h.lt (fun q=>hl.2.1 q.symm)).trans h.cf,VF (B':=EP B e b) (e':=e+1) hlt (by omega) (hub a hlt).symm]
  ·simp only[World.frozen?_setCell];exact⟨(f1.frozen h.lt (fun q=>hl.2.1 q.symm)).trans h.fz.1,(f1.frozen h.lt (fun q=>hl.2.1 q.symm)).trans h.fz.2.1,(f1.frozen h.lt (fun q=>hl.2.1 q.symm)).trans h.fz.2.2⟩
  ·exact f2.owns (f1.owns h.own (fun g hg q=>hl.2.2 (by rw[hg,q]))) (fun g hg q=>h.ap g hg q)
  ·intro j j1 j2;by_cases e1:j=e
   ·subst e1;rw[hue,if_neg (by omega)];exact(hb.fr f1 (fun q=>hbB (j-1) (by omega) (by omega) q.symm)).fr f2 hbQ
   ·rw[hub j (by omega),if_pos (by omega)];by_cases e2:j=e-1
    ·have e3:j+1=e:=by omega
     rw[e3,hue,e2];exact hlnk.fr f2 hl.2.1
    ·rw[hub (j+1) (by omega)];have:=h.pr j j1 (by omega)
     rw[if_pos (by omega)]at this;exact(this.fr f1 (h.inj j (e-1) j1 (by omega) (by omega))).fr f2 (h.bk j j1 (by omega)).2.1
  ·intro j j1 j2;by_cases e1:j=e
   ·subst e1;rw[hue];exact⟨hlo,hbQ,hbl⟩
   ·rw[hub j (by omega)];exact h.bk j j1 (by omega)
  ·intro i j i1 i2 i3;rw[hub i (by omega)];by_cases e1:j=e
   ·subst e1;rw[hue];exact hbB i i1 (by omega)
   ·rw[hub j (by omega)];exact h.inj i j i1 i2 (by omega)
 ·rw[if_neg hlt];have hea:a=e:=by omega
  subst hea;have f1:Fr (fun k=>k=Q) w (w.setCell ⟨Q,z+1,none⟩ (.pointer (some ⟨b,0,none⟩))):=(Fr.refl _ w).set (fun _=>rfl)
  have f2:Fr (fun k=>k=Q) w ((w.setCell ⟨Q,z+1,none⟩ (.pointer (some ⟨b,0,none⟩))).setCell ⟨Q,z+2,none⟩ (.pointer (some ⟨b,0,none⟩))):=f1.set (fun _=>rfl);have c1:(w.setCell ⟨Q,z+1,none⟩ (.pointer (some ⟨b,0,none⟩))).cell? ⟨Q,z+2,none⟩=some tv:=(aZ (ES (by omega))).trans ht
  refine⟨?_,?_,⟨_,iY c1,fun _=>by rw[show a+1-1=a by omega,hue]⟩,?_,?_,h.ap,?_,?_,?_,h.hQ⟩
  ·rw[aZ (ES (by omega)),aZ (ES (by omega))];exact h.cl
  ·rw[aZ (ES (by omega)),iY h.cf];unfold qF;rw[if_pos (by omega),hue]
  ·simp only[World.frozen?_setCell];exact h.fz
  ·exact f2.owns h.own (fun g hg q=>h.ap g hg q)
  ·intro j j1 j2;obtain rfl:j=a:=by omega
   rw[hue,if_neg (by omega)];exact hb.fr f2 hbQ
  ·intro j j1 j2;obtain rfl:j=a:=by omega
   rw[hue];exact⟨hlo,hbQ,hbl⟩
  ·intro i j i1 i2 i3;omega
theorem pD.pop {w:World} {lo Q z:Nat} {lv:Value} {m:Nat} {kf:Nat→T} {B:Nat→Nat} {a e:Nat} (h:pD w lo Q z lv m kf B a e) (hlt:a<e):pD (w.setCell ⟨Q,z+1,none⟩ (.pointer (qF B (a+1) e))) lo Q z lv m kf B (a+1) e∧jL (w.setCell ⟨Q,z+1,none⟩ (.pointer (qF B (a+1) e))) (B a) (wV kf a) (qF B (a+1) e):=by
 have f1:Fr (fun k=>k=Q) w (w.setCell ⟨Q,z+1,none⟩ (.pointer (qF B (a+1) e))):=(Fr.refl _ w).set (fun _=>rfl);obtain⟨tv,ht,ht2⟩:=h.ct;refine⟨⟨?_,iY h.cf,⟨tv,(aZ (ES (by omega))).trans ht,fun q=>ht2 hlt⟩,by simp only[World.frozen?_setCell];exact h.fz,f1.owns h.own (fun g hg q=>h.ap g hg q),h.ap,fun j j1 j2=>(h.pr j (by omega) j2).fr f1 (h.bk j (by omega) j2).2.1,fun j j1 j2=>h.bk j (by omega) j2,fun i j i1 i2 i3=>h.inj i j (by omega) i2 i3,h.hQ⟩,?_⟩
 ·rw[aZ (ES (by omega))];exact h.cl
 ·exact(h.pr a (Nat.le_refl _) hlt).fr f1 (h.bk a (Nat.le_refl _) hlt).2.1
theorem ZZ (w:World) (lo Q z:Nat) (lv:Value) (m:Nat) (kf:Nat→T) (B:Nat→Nat) (a e:Nat) (h:pD w lo Q z lv m kf B a e) (hae:a≤e) (b:Nat) (hb:jL w b (wV kf e) none) (hlo:lo≤b) (hbQ:b≠Q) (hbl:lv.ownBlock≠some b) (hbB:∀j,a≤j→j<e→B j≠b):Calls Tryz.prog 93 #[.pointer (some ⟨Q,z,none⟩),.pointer (some ⟨b,0,none⟩)] w fun r w'=>r= .returned (.tuple #[])∧pD w' lo Q z lv m kf (EP B e b) a (e+1)∧Fr (fun k=>k=Q∨(a<e∧k=B (e-1))) w w':=by
 have HP:=aA (h.push hae hb hlo hbQ hbl hbB);obtain⟨tv,ht,ht2⟩:=h.ct;have c0:=h.cf
 have z1:=h.fz.2.1;have z2:=h.fz.2.2
 by_cases hlt:a<e
 ·obtain rfl:=ht2 hlt;have e0:qF B a e=some ⟨B a,0,none⟩:=if_pos hlt
  rw[e0]at c0;have hp:=h.pr (e-1) (by omega) (by omega)
  have k1:=hp.nx;have k2:=hp.fz
  have hne:B (e-1)≠Q:=(h.bk (e-1) (by omega) (by omega)).2.1;have HQ:=HP.out
  rw[if_pos hlt]at HQ;have HF:Hid (Fr (fun k=>k=Q∨(a<e∧k=B (e-1))) w ((w.setCell ⟨B (e-1),12,none⟩ (.pointer (some ⟨b,0,none⟩))).setCell ⟨Q,z+2,none⟩ (.pointer (some ⟨b,0,none⟩)))):=((Fr.refl _ w).set (fun _=>.inr ⟨hlt,rfl⟩)).set (fun _=>.inl rfl)
  have HQ2:=aA HQ;obtain⟨L,hL⟩:∃L,B (e-1)=L:=⟨_,rfl⟩
  rw[hL]at ht k1 k2 hne;have HL:=aA hL
  clear h hp HQ ht2 e0 HP hb hL hbB;go_enter Tryz.func93,Tryz.ntmps93;go_wp2
  go_end0
  refine⟨rfl,?_⟩;have h1:=HQ2.out
  have h2:=HF.out;rw[HL.out]at h1;rw[←HL.out]at h1⊢;exact⟨h1,h2⟩
 ·have e0:qF B a e=none:=if_neg hlt;rw[e0]at c0;have HQ:=HP.out
  rw[if_neg hlt]at HQ;have HF:Hid (Fr (fun k=>k=Q∨(a<e∧k=B (e-1))) w ((w.setCell ⟨Q,z+1,none⟩ (.pointer (some ⟨b,0,none⟩))).setCell ⟨Q,z+2,none⟩ (.pointer (some ⟨b,0,none⟩)))):=((Fr.refl _ w).set (fun _=>.inl rfl)).set (fun _=>.inl rfl)
  have HQ2:=aA HQ;clear h HQ ht2 e0 HP hb hbB;go_enter Tryz.func93,Tryz.ntmps93;go_wp2
  go_end0
  exact⟨rfl,HQ2.out,HF.out⟩
theorem Bj (w:World) (lo Q z:Nat) (lv:Value) (m:Nat) (kf:Nat→T) (B:Nat→Nat) (a e:Nat) (h:pD w lo Q z lv m kf B a e) (hlt:a<e):Calls Tryz.prog 50 #[.pointer (some ⟨Q,z,none⟩)] w fun r w'=>r= .returned (.pointer (some ⟨B a,0,none⟩))∧pD w' lo Q z lv m kf B (a+1) e∧jL w' (B a) (wV kf a) (qF B (a+1) e)∧Fr (fun k=>k=Q) w w':=by
 have HP:=aA (h.pop hlt);have c0:=h.cf
 have z1:=h.fz.2.1;have e0:qF B a e=some ⟨B a,0,none⟩:=if_pos hlt
 rw[e0]at c0;have hp:=h.pr a (Nat.le_refl _) hlt
 have k1:=hp.nx;have k2:(if a+1<e then some (⟨B (a+1),0,none⟩:Addr)else none)=qF B (a+1) e:=rfl
 rw[k2]at k1;have hne:B a≠Q:=(h.bk a (Nat.le_refl _) hlt).2.1
 have HF:Hid (Fr (fun k=>k=Q) w (w.setCell ⟨Q,z+1,none⟩ (.pointer (qF B (a+1) e)))):=(Fr.refl _ w).set (fun _=>rfl);clear h hp e0 k2;go_enter Tryz.func50,Tryz.ntmps50;go_wp2;go_ret;exact⟨rfl,HP.out.1,HP.out.2,HF.out⟩
theorem MA (w:World) (lo Q z:Nat) (lv:Value) (m:Nat) (kf:Nat→T) (B:Nat→Nat) (a e:Nat) (h:pD w lo Q z lv m kf B a e) (hlt:¬a<e):Calls Tryz.prog 50 #[.pointer (some ⟨Q,z,none⟩)] w fun r w'=>r= .returned (.pointer none)∧w'=w:=by
 have c0:=h.cf;have e0:qF B a e=none:=if_neg hlt
 rw[e0]at c0;clear h e0;go_enter Tryz.func50,Tryz.ntmps50;go_wp2;go_ret;exact⟨rfl,rfl⟩
end Go.Proofs.YtncffcaabnjioaaGreat
