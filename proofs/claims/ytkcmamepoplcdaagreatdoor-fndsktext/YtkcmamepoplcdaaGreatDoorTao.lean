/-
  A text cut at each '+': words that have none, and what they are joined to.
-/
import Derived.Test.YtkcmamepoplcdaaGreatDoorTac
namespace Go.Proofs.YtkcmamepoplcdaaGreatDoor
set_option linter.unusedVariables false
def eJ (c:UInt8):List (List UInt8)→List (List UInt8)
 |[]=>[[c]]
 |h::t=>(c::h)::t
def aU:List UInt8→List (List UInt8)
 |[]=>[[]]
 |c::r=>if c=43 then[]::aU r else eJ c (aU r)
theorem mN (c:UInt8) (r:List UInt8):aU (c::r)=if c=43 then[]::aU r else eJ c (aU r):=rfl
def rD:List (List UInt8)→List UInt8
 |[]=>[]
 |[w]=>w
 |w::v::r=>w++43::rD (v::r)
theorem gM {w:List UInt8} {r:List (List UInt8)} (h:r≠[]):rD (w::r)=w++43::rD r:=by
 cases r with
 |nil=>exact absurd rfl h
 |cons v r=>rfl
theorem eE:∀l,aU l≠[]
 |[]=>by simp[aU]
 |c::r=>by
  unfold aU;split
  ·simp
  ·cases e:aU r<;>simp[eJ]
theorem sB {c:UInt8} {ws:List (List UInt8)} (h:ws≠[]):rD (eJ c ws)=c::rD ws:=by
 cases ws with
 |nil=>exact absurd rfl h
 |cons v r=>
  cases r with
  |nil=>rfl
  |cons u r=>rfl
theorem oE:∀l,rD (aU l)=l
 |[]=>rfl
 |c::r=>by
  unfold aU;split
  ·rename_i e;rw[gM (eE r),oE r,e];rfl
  ·rw[sB (eE r),oE r]
theorem mT:∀{w:List UInt8} (h:∀c∈w,c≠43),aU w=[w]
 |[],_=>rfl
 |c::r,h=>by unfold aU;rw[if_neg (h c (by simp)),mT (w:=r) (fun x hx=>h x (by simp[hx]))];rfl
theorem oY:∀{w:List UInt8} (h:∀c∈w,c≠43) (r:List UInt8),aU (w++43::r)=w::aU r
 |[],_,r=>by show aU (43::r)=_;rw[mN,if_pos rfl]
 |c::w,h,r=>by show aU (c::(w++43::r))=_;rw[mN,if_neg (h c (by simp)),oY (w:=w) (fun x hx=>h x (by simp[hx])) r];rfl
theorem rR:∀{ws:List (List UInt8)} (h0:ws≠[]) (h:∀w∈ws,∀c∈w,c≠43),aU (rD ws)=ws
 |[],h0,_=>absurd rfl h0
 |[w],_,h=>mT (h w (by simp))
 |w::v::r,_,h=>by rw[gM (by simp),oY (h w (by simp)),rR (ws:=v::r) (by simp) (fun x hx=>h x (by simp[hx]))]
def hO (c:UInt8):List (List UInt8)→List (List UInt8)
 |[]=>[[c]]
 |[w]=>[w++[c]]
 |w::v::r=>w::hO c (v::r)
theorem gD {c:UInt8} {w:List UInt8} {r:List (List UInt8)} (h:r≠[]):hO c (w::r)=w::hO c r:=by
 cases r with
 |nil=>exact absurd rfl h
 |cons v r=>rfl
theorem iG (c:UInt8):∀(o:List (List UInt8)) (w:List UInt8),hO c (o++[w])=o++[w++[c]]
 |[],w=>rfl
 |v::o,w=>by show hO c (v::(o++[w]))=_;rw[gD (by simp),iG c o w];rfl
theorem kL {c:UInt8} {a b:List (List UInt8)} (h:a≠[]):eJ c (a++b)=eJ c a++b:=by
 cases a with
 |nil=>exact absurd rfl h
 |cons v r=>rfl
theorem iI {c k:UInt8} {a:List (List UInt8)} (h:a≠[]):eJ c (hO k a)=hO k (eJ c a):=by
 cases a with
 |nil=>exact absurd rfl h
 |cons v r=>
  cases r with
  |nil=>rfl
  |cons u r=>rfl
theorem mQ:∀l,aU (l++[43])=aU l++[[]]
 |[]=>by decide
 |c::r=>by
  show aU (c::(r++[43]))=_;unfold aU;rw[mQ r];split
  ·rfl
  ·exact kL (eE r)
theorem mO {k:UInt8} (hk:k≠43):∀l,aU (l++[k])=hO k (aU l)
 |[]=>by show aU [k]=_;unfold aU;rw[if_neg hk];rfl
 |c::r=>by
  show aU (c::(r++[k]))=_;unfold aU;rw[mO hk r];split
  ·rw[gD (eE r)]
  ·exact iI (eE r)
theorem rZ {c:UInt8} (h:eI c=true):c≠43:=by
 rintro rfl
 revert h
 decide
theorem lM {k:UInt8} {n:Int} (hk:k≠43) (hn:n≤100):∀c∈bL k n,c≠43:=by
 intro c hc;unfold bL at hc;split at hc
 ·cases hc
 ·split at hc
  ·simp at hc;rw[hc];exact hk
  ·rcases List.mem_cons.1 hc with h|h
   ·rw[h];exact hk
   ·exact rZ (dQ _ (by omega) c h)
theorem kT {m:M} (h:M.ok m=true):∀c∈cE m,c≠43:=by
 intro c hc;by_cases h0:bQ m=[]
 ·rw[eN h h0]at hc;simp at hc;rw[hc];decide
 ·rw[cO h h0,dR]at hc;obtain⟨x1,x2,y1,y2,d1,d2,e1,e2⟩:=M.ok_iff.1 h;simp only[List.mem_append]at hc;rcases hc with((hc|hc)|hc)|hc
  ·exact lM (by decide) (by omega) c hc
  ·exact lM (by decide) (by omega) c hc
  ·exact lM (by decide) (by omega) c hc
  ·exact lM (by decide) (by omega) c hc
theorem tP {t:T} (hc:t.c≤100) (h:M.ok t.m=true):∀c∈cL t,c≠43:=by
 intro c h1;have hd:∀c∈mU t.c,c≠43:=fun c h2=>rZ (dQ _ (by omega) c h2)
 unfold cL at h1;split at h1
 ·exact hd c h1
 ·split at h1
  ·exact kT h c h1
  ·rcases List.mem_append.1 h1 with q|q
   ·exact hd c q
   ·exact kT h c q
theorem nB:∀{ws:List (List UInt8)} (h:ws≠[]) (w:List UInt8),rD (ws++[w])=rD ws++43::w
 |[],h,_=>absurd rfl h
 |[v],_,w=>rfl
 |v::u::r,_,w=>by show rD (v::((u::r)++[w]))=_;rw[gM (by simp),nB (ws:=u::r) (by simp) w,gM (w:=v) (r:=u::r) (by simp),List.append_assoc];rfl
def fO (f:Nat→T):Nat→List (List UInt8)
 |0=>[]
 |k+1=>fO f k++[cL (f k)]
theorem cM (f:Nat→T):∀k,(fO f k).length=k
 |0=>rfl
 |k+1=>by unfold fO;simp[cM f k]
theorem gO (f:Nat→T):∀k,rD (fO f k)=iL f k
 |0=>rfl
 |k+1=>by
  by_cases h:k=0
  ·subst h;simp[fO,iL,rD]
  ·have hne:fO f k≠[]:=fun e=>h (by have:=cM f k;rw[e]at this;simpa using this.symm);unfold fO iL;rw[nB hne,gO f k,if_neg h];simp
theorem pV {f:Nat→T}:∀k,(∀i,i<k→(f i).c≤100∧M.ok (f i).m=true)→∀w∈fO f k,∀c∈w,c≠43
 |0,_=>fun w hw=>by cases hw
 |k+1,h=>fun w hw=>by
  unfold fO at hw;rcases List.mem_append.1 hw with q|q
  ·exact pV k (fun i hi=>h i (by omega)) w q
  ·simp at q;rw[q];exact tP (h k (by omega)).1 (h k (by omega)).2
theorem mR {n:Nat} {f:Nat→T} (h:aS n f=true) (h0:n≠0):aU (bV n f)=fO f n:=by have hk:=(bT h).2;rw[gX h h0,←gO,rR (fun e=>h0 (by have:=cM f n;rw[e]at this;simpa using this.symm)) (pV n (fun i hi=>⟨(hk i hi).1.2,(hk i hi).2⟩))]
open Go.RowKit
def gT (n:Int) (c:UInt8):Int:=if n<1000 then n*10+((c.toNat:Int)-48)else n
def nv (d:List UInt8):Int:=d.foldl gT 0
theorem lT (d:List UInt8) (c:UInt8):nv (d++[c])=gT (nv d) c:=by unfold nv;rw[List.foldl_append];rfl
theorem yK (d:List UInt8) (h:∀c∈d,eI c=true):0≤nv d∧nv d≤10000:=by
 have key:∀(d:List UInt8) (n:Int),(∀c∈d,eI c=true)→0≤n∧n≤10000→0≤d.foldl gT n∧d.foldl gT n≤10000:=fun d=>by
  induction d with
  |nil=>intro n _ h;exact h
  |cons c d ih=>
   intro n h hn;rw[List.foldl_cons];refine ih _ (fun x hx=>h x (by simp[hx])) ?_;have hc:=of_decide_eq_true (h c (by simp))
   unfold gT;split<;>omega
 exact key d 0 h ⟨by omega,by omega⟩
theorem sG (l:List UInt8):∀c∈bC l,eI c=true:=fun c hc=>by
 unfold bC at hc;induction l with
 |nil=>cases hc
 |cons x l ih=>
  rw[List.takeWhile_cons]at hc;split at hc
  ·rename_i hx;rcases List.mem_cons.1 hc with e|e
   ·rw[e];exact hx
   ·exact ih e
  ·cases hc
def iK (c:UInt8):Bool:=decide (c.toNat=120∨c.toNat=121∨c.toNat=100∨c.toNat=101)
def aY (c:UInt8) (n:Int) (t:T):T:=if c.toNat=120 then⟨t.c,⟨n,t.m.y,t.m.d,t.m.e⟩⟩else if c.toNat=121 then⟨t.c,⟨t.m.x,n,t.m.d,t.m.e⟩⟩else if c.toNat=100 then⟨t.c,⟨t.m.x,t.m.y,n,t.m.e⟩⟩else⟨t.c,⟨t.m.x,t.m.y,t.m.d,n⟩⟩
def vY (r:List UInt8):Int:=if(bC r).length=0 then 1 else nv (bC r)
def nG:Nat→T→List UInt8→T
 |0,t,_=>t
 |_+1,t,[]=>t
 |f+1,t,c::r=>if iK c=true then nG f (aY c (vY r) t) (r.drop (bC r).length)else⟨0,⟨0,0,0,0⟩⟩
theorem iS (f:Nat) (t:T):nG f t []=t:=by cases f<;>rfl
theorem iT {f:Nat} {t:T} {c:UInt8} {r:List UInt8} (h:iK c=true):nG (f+1) t (c::r)=nG f (aY c (vY r) t) (r.drop (bC r).length):=by show(if iK c=true then _ else _)=_;rw[if_pos h]
theorem sJ {f:Nat} {t:T} {c:UInt8} {r:List UInt8} (h:iK c=false):nG (f+1) t (c::r)=⟨0,⟨0,0,0,0⟩⟩:=by show(if iK c=true then _ else _)=_;rw[if_neg (by rw[h];simp)]
def vR (s:List UInt8):T:=⟨if 0<(bC s).length then nv (bC s)else 1,⟨0,0,0,0⟩⟩
def dC (s:List UInt8):T:=nG (s.drop (bC s).length).length (vR s) (s.drop (bC s).length)
theorem wY {n:Nat} (h2:2≤n) (hn:n≤15):nv (Lib.decDigits n)=(n:Int):=by
 rcases(show n=2∨n=3∨n=4∨n=5∨n=6∨n=7∨n=8∨n=9∨n=10∨n=11∨n=12∨n=13∨n=14∨n=15 by omega)with rfl|rfl|rfl|rfl|rfl|rfl|rfl|rfl|rfl|rfl|rfl|rfl|rfl|rfl
 all_goals first
  |(rw[bW (by omega)];rfl)
  |(rw[bY (by omega),bW (by omega)];rfl)
theorem oZ (n:Nat):(Lib.decDigits n).length≠0:=fun h=>oB n (List.length_eq_zero_iff.1 h)
theorem eC {c:UInt8} (hc:iK c=true) {n:Int} (h0:0≤n) (h1:n≤15) {t:List UInt8} (hD:mE t) (q:T):∀f,(bL c n++t).length≤f→∃f',t.length≤f'∧nG f q (bL c n++t)=nG f' (if n=0 then q else aY c n q) t:=fun f hf=>by
 by_cases hz:n=0
 ·subst hz;rw[nA,List.nil_append]at hf⊢;exact⟨f,hf,by rw[if_pos rfl]⟩
 ·rw[if_neg hz];by_cases ho:n=1
  ·subst ho;rw[pC,List.singleton_append]at hf⊢;obtain⟨f',rfl⟩:∃f',f=f'+1:=⟨f-1,by simp at hf;omega⟩
   have e:bC t=[]:=cK (d:=[]) (fun _ h=>by cases h) hD;refine⟨f',by simp at hf;omega,?_⟩;rw[iT hc];unfold vY;rw[e];rfl
  ·obtain⟨m,rfl⟩:∃m:Nat,n=(m:Int):=⟨n.toNat,by omega⟩
   rw[dW (by omega),List.cons_append]at hf⊢;obtain⟨f',rfl⟩:∃f',f=f'+1:=⟨f-1,by simp at hf;omega⟩
   have e:bC (Lib.decDigits m++t)=Lib.decDigits m:=cK (dQ m (by omega)) hD;refine⟨f',by simp at hf;omega,?_⟩;rw[iT hc];unfold vY;rw[e,if_neg (oZ m),wY (by omega) (by omega)];simp
theorem tN {m:M} (h:M.ok m=true) (hne:bQ m≠[]):(dC (bQ m)).m=m:=by
 obtain⟨x1,x2,y1,y2,d1,d2,e1,e2⟩:=M.ok_iff.1 h;have a4:mE []:=fun c r e=>by cases e
 have t3:mE (bL 101 m.e++[]):=bH (P:=fun c=>eI c=false) (by decide) a4;have t2:mE (bL 100 m.d++(bL 101 m.e++[])):=bH (P:=fun c=>eI c=false) (by decide) t3
 have t1:mE (bL 121 m.y++(bL 100 m.d++(bL 101 m.e++[]))):=bH (P:=fun c=>eI c=false) (by decide) t2;have t0:mE (bL 120 m.x++(bL 121 m.y++(bL 100 m.d++(bL 101 m.e++[])))):=bH (P:=fun c=>eI c=false) (by decide) t1
 have e:bQ m=bL 120 m.x++(bL 121 m.y++(bL 100 m.d++(bL 101 m.e++[]))):=by rw[dR];simp
 have l0:bC (bQ m)=[]:=by rw[e];exact cK (d:=[]) (fun _ h=>by cases h) t0
 unfold dC vR;rw[l0];show(nG (bQ m).length ⟨1,⟨0,0,0,0⟩⟩ (bQ m)).m=m
 rw[e];obtain⟨f1,k1,q1⟩:=eC (c:=120) (by decide) x1 x2 t1 ⟨1,⟨0,0,0,0⟩⟩ _ (aE _);rw[q1];obtain⟨f2,k2,q2⟩:=eC (c:=121) (by decide) y1 y2 t2 (if m.x=0 then⟨1,⟨0,0,0,0⟩⟩else aY 120 m.x ⟨1,⟨0,0,0,0⟩⟩) f1 k1;rw[q2];obtain⟨f3,k3,q3⟩:=eC (c:=100) (by decide) d1 d2 t3 (if m.y=0 then(if m.x=0 then⟨1,⟨0,0,0,0⟩⟩else aY 120 m.x ⟨1,⟨0,0,0,0⟩⟩)else aY 121 m.y (if m.x=0 then⟨1,⟨0,0,0,0⟩⟩else aY 120 m.x ⟨1,⟨0,0,0,0⟩⟩)) f2 k2;rw[q3];obtain⟨f4,k4,q4⟩:=eC (c:=101) (by decide) e1 e2 a4 (if m.d=0 then(if m.y=0 then(if m.x=0 then⟨1,⟨0,0,0,0⟩⟩else aY 120 m.x ⟨1,⟨0,0,0,0⟩⟩)else aY 121 m.y (if m.x=0 then⟨1,⟨0,0,0,0⟩⟩else aY 120 m.x ⟨1,⟨0,0,0,0⟩⟩))else aY 100 m.d (if m.y=0 then(if m.x=0 then⟨1,⟨0,0,0,0⟩⟩else aY 120 m.x ⟨1,⟨0,0,0,0⟩⟩)else aY 121 m.y (if m.x=0 then⟨1,⟨0,0,0,0⟩⟩else aY 120 m.x ⟨1,⟨0,0,0,0⟩⟩))) f3 k3;rw[q4,iS];rcases m with⟨x,y,d,z⟩
 simp only;have s120:∀n t,aY 120 n t=⟨t.c,⟨n,t.m.y,t.m.d,t.m.e⟩⟩:=fun n t=>rfl
 have s121:∀n t,aY 121 n t=⟨t.c,⟨t.m.x,n,t.m.d,t.m.e⟩⟩:=fun n t=>rfl;have s100:∀n t,aY 100 n t=⟨t.c,⟨t.m.x,t.m.y,n,t.m.e⟩⟩:=fun n t=>rfl
 have s101:∀n t,aY 101 n t=⟨t.c,⟨t.m.x,t.m.y,t.m.d,n⟩⟩:=fun n t=>rfl;simp only[s120,s121,s100,s101];by_cases hx:x=0<;>by_cases hy:y=0<;>by_cases hd:d=0<;>by_cases he:z=0<;>simp[hx,hy,hd,he]
theorem xL {m:M} (h:M.ok m=true) {s:List UInt8} (hs:cE m=s):(dC s).m=m:=by
 subst hs;by_cases h0:bQ m=[]
 ·rw[eN h h0];have e:m=⟨0,0,0,0⟩:=by
   by_cases hz:m.x=0∧m.y=0∧m.d=0∧m.e=0
   ·rcases m with⟨x,y,d,e⟩
    obtain⟨rfl,rfl,rfl,rfl⟩:=hz;rfl
   ·obtain⟨c,r,e,_⟩:=eM h hz;rw[e]at h0;cases h0
  rw[e];have e2:(dC [49]).m=⟨0,0,0,0⟩:=by kernel_rfl
  exact e2
 ·rw[cO h h0];exact tN h h0
theorem kS (s:List UInt8):fA s=if s.length≤40∧(M.ok (dC s).m=true∧cE (dC s).m=s)then((dC s).m,true)else(⟨0,0,0,0⟩,false):=
 uZ fun m hm hs=>xL hm hs
end Go.Proofs.YtkcmamepoplcdaaGreatDoor
namespace Go.Proofs.YtkcmamepoplcdaaGreatDoor
set_option linter.unusedVariables false
theorem yJ {m:M} (h:M.ok m=true) (k:Int) {f:Nat} (hf:(bQ m).length≤f):nG f ⟨k,⟨0,0,0,0⟩⟩ (bQ m)=⟨k,m⟩:=by
 obtain⟨x1,x2,y1,y2,d1,d2,e1,e2⟩:=M.ok_iff.1 h;have a4:mE []:=fun c r e=>by cases e
 have t3:mE (bL 101 m.e++[]):=bH (P:=fun c=>eI c=false) (by decide) a4;have t2:mE (bL 100 m.d++(bL 101 m.e++[])):=bH (P:=fun c=>eI c=false) (by decide) t3
 have t1:mE (bL 121 m.y++(bL 100 m.d++(bL 101 m.e++[]))):=bH (P:=fun c=>eI c=false) (by decide) t2;have e:bQ m=bL 120 m.x++(bL 121 m.y++(bL 100 m.d++(bL 101 m.e++[]))):=by rw[dR];simp
 rw[e]at hf⊢;obtain⟨f1,k1,q1⟩:=eC (c:=120) (by decide) x1 x2 t1 ⟨k,⟨0,0,0,0⟩⟩ _ hf;rw[q1];generalize hA:(if m.x=0 then(⟨k,⟨0,0,0,0⟩⟩:T)else aY 120 m.x ⟨k,⟨0,0,0,0⟩⟩)=A;obtain⟨f2,k2,q2⟩:=eC (c:=121) (by decide) y1 y2 t2 A f1 k1;rw[q2];generalize hB:(if m.y=0 then A else aY 121 m.y A)=B;obtain⟨f3,k3,q3⟩:=eC (c:=100) (by decide) d1 d2 t3 B f2 k2;rw[q3];generalize hC:(if m.d=0 then B else aY 100 m.d B)=C;obtain⟨f4,k4,q4⟩:=eC (c:=101) (by decide) e1 e2 a4 C f3 k3;rw[q4,iS];subst hC hB hA;rcases m with⟨x,y,d,z⟩
 simp only;have s120:∀n t,aY 120 n t=⟨t.c,⟨n,t.m.y,t.m.d,t.m.e⟩⟩:=fun n t=>rfl
 have s121:∀n t,aY 121 n t=⟨t.c,⟨t.m.x,n,t.m.d,t.m.e⟩⟩:=fun n t=>rfl;have s100:∀n t,aY 100 n t=⟨t.c,⟨t.m.x,t.m.y,n,t.m.e⟩⟩:=fun n t=>rfl
 have s101:∀n t,aY 101 n t=⟨t.c,⟨t.m.x,t.m.y,t.m.d,n⟩⟩:=fun n t=>rfl;simp only[s120,s121,s100,s101];by_cases hx:x=0<;>by_cases hy:y=0<;>by_cases hd:d=0<;>by_cases he:z=0<;>simp[hx,hy,hd,he]
theorem lS {n:Nat} (h:n<10):nv (Lib.decDigits n)=(n:Int):=by
 rw[bW h];show gT 0 _=_
 unfold gT;rw[if_pos (by omega),UInt8.toNat_ofNat'];omega
theorem vB {n:Nat} (h:n<100):nv (Lib.decDigits n)=(n:Int):=by
 by_cases h1:n<10
 ·exact lS h1
 ·rw[bY h1,lT,lS (n:=n / 10) (by omega)];unfold gT;rw[if_pos (by omega),UInt8.toNat_ofNat'];omega
theorem vC {n:Nat} (h:n<1000):nv (Lib.decDigits n)=(n:Int):=by
 by_cases h1:n<10
 ·exact lS h1
 ·rw[bY h1,lT,vB (n:=n / 10) (by omega)];unfold gT;rw[if_pos (by omega),UInt8.toNat_ofNat'];omega
theorem jQ {m:M} (h:M.ok m=true):mE (bQ m):=by
 have a4:mE []:=fun c r e=>by cases e
 have t3:mE (bL 101 m.e++[]):=bH (P:=fun c=>eI c=false) (by decide) a4;have t2:mE (bL 100 m.d++(bL 101 m.e++[])):=bH (P:=fun c=>eI c=false) (by decide) t3
 have t1:mE (bL 121 m.y++(bL 100 m.d++(bL 101 m.e++[]))):=bH (P:=fun c=>eI c=false) (by decide) t2;have t0:mE (bL 120 m.x++(bL 121 m.y++(bL 100 m.d++(bL 101 m.e++[])))):=bH (P:=fun c=>eI c=false) (by decide) t1
 have e:bQ m=bL 120 m.x++(bL 121 m.y++(bL 100 m.d++(bL 101 m.e++[]))):=by rw[dR];simp
 rw[e];exact t0
theorem jX {d:List UInt8} (hd:∀c∈d,eI c=true) {m:M} (h:M.ok m=true):dC (d++bQ m)=⟨if 0<d.length then nv d else 1,m⟩:=by have hl:bC (d++bQ m)=d:=cK hd (jQ h);unfold dC vR;rw[hl,List.drop_left];exact yJ h _ (aE _)
theorem nT {t:T} (h1:1≤t.c) (h2:t.c≤100) (h:M.ok t.m=true):dC (cL t)=t:=by
 have hd:∀c∈mU t.c,eI c=true:=fun c hc=>dQ _ (by omega) c hc;have hp:0<(mU t.c).length:=Nat.pos_of_ne_zero (oZ _)
 have hv:nv (mU t.c)=t.c:=by unfold mU;rw[vC (by omega)];omega
 unfold cL;by_cases h0:t.m.x=0∧t.m.y=0∧t.m.d=0∧t.m.e=0
 ·rw[if_pos h0];have e0:bQ t.m=[]:=by obtain⟨a,b,c,d⟩:=h0;rw[dR,a,b,c,d];rfl
  have:=jX hd h;rw[e0,List.append_nil,if_pos hp,hv]at this;exact this
 ·rw[if_neg h0];obtain⟨c,r,e,_⟩:=eM h h0;have hne:bQ t.m≠[]:=by rw[e];simp
  rw[cO h hne];by_cases hc:t.c=1
  ·rw[if_pos hc];have:=jX (d:=[]) (fun _ q=>by cases q) h
   rw[List.nil_append]at this;rw[this];rcases t with⟨tc,tm⟩
   simp at hc;simp[hc]
  ·rw[if_neg hc,jX hd h,if_pos hp,hv]
def wT (s:List UInt8):List T:=(aU s).map dC
def cB (s:List UInt8):List T×Bool:=if s=[48]then([],true)else if s.length≤400∧(aS (wT s).length (lf (wT s))=true∧bV (wT s).length (lf (wT s))=s)then(wT s,true)else([],false)
theorem iE:cB [48]=([],true):=by unfold cB;rw[if_pos rfl]
theorem jT {s:List UInt8} (h0:s≠[48]) (h1:s.length≤400) (h2:aS (wT s).length (lf (wT s))=true) (h3:bV (wT s).length (lf (wT s))=s):cB s=(wT s,true):=by unfold cB;rw[if_neg h0,if_pos ⟨h1,h2,h3⟩]
theorem gW {s:List UInt8} (h0:s≠[48]) (h:¬(s.length≤400∧(aS (wT s).length (lf (wT s))=true∧bV (wT s).length (lf (wT s))=s))):cB s=([],false):=by unfold cB;rw[if_neg h0,if_neg h]
theorem mC (s:List UInt8):(wT s).length=(aU s).length:=by unfold wT;simp
def yL (t:T):Prop:=(1≤t.c∧t.c≤100)∧M.ok t.m=true
def xU (w:List UInt8) (t:T) (b:Bool):Prop:=(b=true→yL t→cL t=w)∧∀t0,yL t0→cL t0=w→t=t0∧b=true
theorem nD {L:List T} {i:Nat} {t:T} (h:L[i]? =some t):lf L i=t:=by unfold lf;rw[List.getD_eq_getElem?_getD,h];rfl
theorem hZ (f:Nat→T):∀{k i:Nat},i<k→(fO f k)[i]? =some (cL (f i))
 |0,i,h=>by omega
 |k+1,i,h=>by
  unfold fO;by_cases e:i<k
  ·rw[List.getElem?_append_left (by rw[cM];exact e),hZ f e]
  ·have:i=k:=by omega
   subst this;rw[List.getElem?_append_right (by rw[cM];omega),cM];simp
theorem jS {s:List UInt8} (h0:s≠[48]) (h:(cB s).2=true):s.length≤400∧∃(n:Nat) (f:Nat→T),n≠0∧aS n f=true∧aU s=fO f n∧(∀i,i<n→yL (f i))∧(wT s).length=n∧(∀i,i<n→lf (wT s) i=f i):=by
 by_cases q:s.length≤400∧(aS (wT s).length (lf (wT s))=true∧bV (wT s).length (lf (wT s))=s)
 ·obtain⟨q1,q2,q3⟩:=q;have hne:(wT s).length≠0:=by rw[mC];intro e;exact eE s (List.length_eq_zero_iff.1 e)
  refine⟨q1,_,_,hne,q2,?_,fun i hi=>(bT q2).2 i hi,rfl,fun i _=>rfl⟩;have:=mR q2 hne
  rw[q3]at this;exact this
 ·rw[gW h0 q]at h;cases h
theorem sW {s:List UInt8} {ts:List T} (h0:s≠[48]) (hs:s.length≤400) (hl:ts.length=(aU s).length) (hr:∀(i:Nat) (w:List UInt8) (t:T),(aU s)[i]? =some w→ts[i]? =some t→xU w t true) (hok:aS ts.length (lf ts)=true):cB s=(ts,true):=by
 have hts:wT s=ts:=by
  apply List.ext_getElem?;intro i;unfold wT;rw[List.getElem?_map];by_cases hi:i<ts.length
  ·obtain⟨t,ht⟩:∃t,ts[i]? =some t:=⟨_,List.getElem?_eq_getElem hi⟩
   obtain⟨w,hw⟩:∃w,(aU s)[i]? =some w:=⟨_,List.getElem?_eq_getElem (by omega)⟩
   have hk:yL t:=by have:=(bT hok).2 i hi;rw[nD ht]at this;exact this
   have e:=(hr i w t hw ht).1 rfl hk;rw[hw,ht];show some (dC w)=some t
   rw[←e,nT hk.1.1 hk.1.2 hk.2]
  ·rw[List.getElem?_eq_none (by omega),List.getElem?_eq_none (by omega)];rfl
 have hn:ts.length≠0:=by rw[hl];intro e;exact eE s (List.length_eq_zero_iff.1 e)
 have hw:aU s=fO (lf ts) ts.length:=by
  apply List.ext_getElem?;intro i;by_cases hi:i<ts.length
  ·obtain⟨t,ht⟩:∃t,ts[i]? =some t:=⟨_,List.getElem?_eq_getElem hi⟩
   obtain⟨w,hw⟩:∃w,(aU s)[i]? =some w:=⟨_,List.getElem?_eq_getElem (by omega)⟩
   have hk:yL t:=by have:=(bT hok).2 i hi;rw[nD ht]at this;exact this
   have e:=(hr i w t hw ht).1 rfl hk;rw[hw,hZ _ hi,nD ht,e]
  ·rw[List.getElem?_eq_none (by omega),List.getElem?_eq_none (by rw[cM];omega)]
 have ht:bV ts.length (lf ts)=s:=by rw[gX hok hn,←gO,←hw,oE]
 have:=jT h0 hs (by rw[hts];exact hok) (by rw[hts];exact ht);rw[hts]at this;exact this
theorem sX {s:List UInt8} {i:Nat} {w:List UInt8} {t:T} (h0:s≠[48]) (hw:(aU s)[i]? =some w) (hr:xU w t false):cB s=([],false):=by
 cases h:(cB s).2
 ·unfold cB at h⊢;rw[if_neg h0]at h⊢;split at h
  ·cases h
  ·rename_i q;rw[if_neg q]
 ·obtain⟨_,n,f,hn,hok,hc,hk,_,_⟩:=jS h0 h;have hi:i<n:=by have:=(List.getElem?_eq_some_iff.1 hw).1;rw[hc,cM]at this;exact this
  rw[hc,hZ f hi]at hw;cases hw;exact absurd (hr.2 (f i) (hk i hi) rfl).2 (by simp)
theorem sY {s:List UInt8} {ts:List T} (h0:s≠[48]) (hl:ts.length=(aU s).length) (hr:∀(i:Nat) (w:List UInt8) (t:T),(aU s)[i]? =some w→ts[i]? =some t→xU w t true) (hok:aS ts.length (lf ts)=false):cB s=([],false):=by
 cases h:(cB s).2
 ·unfold cB at h⊢;rw[if_neg h0]at h⊢;split at h
  ·cases h
  ·rename_i q;rw[if_neg q]
 ·obtain⟨_,n,f,hn,hok',hc,hk,hl',hf⟩:=jS h0 h;have hts:wT s=ts:=by
   apply List.ext_getElem?;intro i;by_cases hi:i<ts.length
   ·obtain⟨t,ht⟩:∃t,ts[i]? =some t:=⟨_,List.getElem?_eq_getElem hi⟩
    obtain⟨w,hw⟩:∃w,(aU s)[i]? =some w:=⟨_,List.getElem?_eq_getElem (by omega)⟩
    have hin:i<n:=by have:=(List.getElem?_eq_some_iff.1 hw).1;rw[hc,cM]at this;exact this
    have hw':=hw;rw[hc,hZ f hin]at hw';have e:=(hr i w t hw ht).2 (f i) (hk i hin) (by cases hw';rfl)
    have hx:(wT s)[i]? =some (lf (wT s) i):=by unfold lf;rw[List.getD_eq_getElem?_getD,List.getElem?_eq_getElem (by omega)];rfl
    rw[hx,hf i hin,ht,e.1]
   ·rw[List.getElem?_eq_none (by rw[mC];omega),List.getElem?_eq_none (by omega)]
  have h2:aS (wT s).length (lf (wT s))=true:=by
   unfold cB at h;rw[if_neg h0]at h;split at h
   ·rename_i q;exact q.2.1
   ·cases h
  rw[hts,hok]at h2;cases h2
open Go.RowKit
theorem pL {f g:Nat→T} {n i:Nat} (h:∀i,i<n→f i=g i) (hi:i<n):dI f i=dI g i:=by
 unfold dI;rw[h i hi];by_cases e:i=0
 ·subst e;simp
 ·rw[h (i-1) (by omega)]
theorem nO {f g:Nat→T} {n:Nat} (h:∀i,i<n→f i=g i):aS n f=aS n g:=by unfold aS;congr 1;apply propext;exact⟨fun q=>⟨q.1,fun i hi=>by rw[←pL h hi];exact q.2 i hi⟩,fun q=>⟨q.1,fun i hi=>by rw[pL h hi];exact q.2 i hi⟩⟩
theorem pU {f g:Nat→T}:∀{n:Nat},(∀i,i<n→f i=g i)→fO f n=fO g n
 |0,_=>rfl
 |n+1,h=>by unfold fO;rw[pU (n:=n) (fun i hi=>h i (by omega)),h n (by omega)]
theorem vN {f g:Nat→T} {n:Nat} (h:∀i,i<n→f i=g i):bV n f=bV n g:=by unfold bV;rw[nO h,←gO,←gO,pU h]
theorem vL {n:Nat} {f:Nat→T} (h:aS n f=true) (hl:(bV n f).length≤400):∃L,cB (bV n f)=(L,true)∧L.length=n∧∀i,i<n→lf L i=f i:=by
 by_cases h0:n=0
 ·subst h0;rw[fV h rfl,iE];exact⟨[],rfl,rfl,fun i hi=>by omega⟩
 ·have hk:=(bT h).2;have hc:=mR h h0
  have hw:∀i,i<n→(wT (bV n f))[i]? =some (f i):=fun i hi=>by
   unfold wT;rw[hc,List.getElem?_map,hZ f hi];show some (dC (cL (f i)))=_
   rw[nT (hk i hi).1.1 (hk i hi).1.2 (hk i hi).2]
  have hwl:(wT (bV n f)).length=n:=by rw[mC,hc,cM]
  have hf:∀i,i<n→lf (wT (bV n f)) i=f i:=fun i hi=>nD (hw i hi);have hne:bV n f≠[48]:=fun e=>by
   have h2:=hw 0 (by omega);rw[e]at h2;have h3:(wT [48])[0]? =some ⟨0,⟨0,0,0,0⟩⟩:=by kernel_rfl
   rw[h3]at h2;have:=(hk 0 (by omega)).1.1
   rw[←Option.some.inj h2]at this;exact absurd this (by decide)
  refine⟨wT (bV n f),jT hne hl ?_ ?_,hwl,hf⟩
  ·rw[hwl,nO hf];exact h
  ·rw[hwl,vN hf]
end Go.Proofs.YtkcmamepoplcdaaGreatDoor
