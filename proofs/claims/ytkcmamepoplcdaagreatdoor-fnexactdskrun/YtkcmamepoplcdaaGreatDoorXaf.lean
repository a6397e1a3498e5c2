/-
  Lines, as lists of bytes.
-/
import Derived.Test.YtkcmamepoplcdaaGreatDoorXae
namespace Go.Proofs.YtkcmamepoplcdaaGreatDoor
open Go.RowKit
set_option linter.unusedVariables false
def dR (k:Int):Nat:=if k=2∨k=3∨k=4∨k=5 then 3 else if k=6∨k=7 then 2 else if k=1∨k=8 then 1 else 0
def fN (k:Int):List UInt8:=if k=1 then[115,101,116]else if k=2 then[97,100,100]else if k=3 then[109,117,108]else if k=4 then[97,112,97,114,116]else if k=5 then[100,111]else if k=6 then[114,111,117,110,100]else if k=7 then[98,97,99,107]else[115,104,111,119]
def cQ (x:Int):UInt8:=UInt8.ofNat (65+x).toNat
def uR (k to a b:Int) (n:Nat) (f:Nat→T):Bool:=
 decide ((1≤k∧k≤8)∧(0≤to∧to≤5)∧(0≤a∧a≤5)∧(0≤b∧b≤5)∧aH n f=true∧(2≤dR k∨a=0)∧(3≤dR k∨b=0)∧(k=1∨n=0))
def AJ (to a b:Int):List (List UInt8):=[[cQ to],[cQ a],[cQ b]]
def lN (k to a b:Int) (n:Nat) (f:Nat→T):List (List UInt8):=fN k::((AJ to a b).take (dR k)++if k=1 then[cO n f]else[])
def gC (k to a b:Int) (n:Nat) (f:Nat→T):List UInt8:=Lib.join (lN k to a b n f) [32]
def dW (k to a b:Int) (n:Nat) (f:Nat→T):List UInt8:=if uR k to a b n f=true∧(gC k to a b n f).length≤400 then gC k to a b n f else[]
theorem aS {k to a b:Int} {n:Nat} {f:Nat→T} (h:uR k to a b n f=false):dW k to a b n f=[]:=by unfold dW;rw[if_neg (fun q=>by rw[h]at q;cases q.1)]
theorem rL {k to a b:Int} {n:Nat} {f:Nat→T} (h:¬(gC k to a b n f).length≤400):dW k to a b n f=[]:=by unfold dW;rw[if_neg (fun q=>h q.2)]
theorem jG {k to a b:Int} {n:Nat} {f:Nat→T} (h:uR k to a b n f=true) (hl:(gC k to a b n f).length≤400):dW k to a b n f=gC k to a b n f:=by unfold dW;rw[if_pos ⟨h,hl⟩]
theorem aT {k to a b:Int} {n:Nat} {f:Nat→T} (h:¬((1≤k∧k≤8)∧(0≤to∧to≤5)∧(0≤a∧a≤5)∧(0≤b∧b≤5)∧aH n f=true∧(2≤dR k∨a=0)∧(3≤dR k∨b=0)∧(k=1∨n=0))):uR k to a b n f=false:=decide_eq_false h
theorem RW (to a b:Int) (n:Nat) (f:Nat→T):gC 1 to a b n f=[115,101,116]++[32]++[cQ to]++[32]++cO n f:=by show Lib.join [[115,101,116],[cQ to],cO n f] [32]=_;simp[Lib.join_cons,Lib.joinTail]
theorem SD (to a b:Int) (n:Nat) (f:Nat→T):gC 8 to a b n f=[115,104,111,119]++[32]++[cQ to]:=by show Lib.join [[115,104,111,119],[cQ to]] [32]=_;simp[Lib.join_cons,Lib.joinTail]
theorem SB (to a b:Int) (n:Nat) (f:Nat→T):gC 6 to a b n f=[114,111,117,110,100]++[32]++[cQ to]++[32]++[cQ a]:=by show Lib.join [[114,111,117,110,100],[cQ to],[cQ a]] [32]=_;simp[Lib.join_cons,Lib.joinTail]
theorem SC (to a b:Int) (n:Nat) (f:Nat→T):gC 7 to a b n f=[98,97,99,107]++[32]++[cQ to]++[32]++[cQ a]:=by show Lib.join [[98,97,99,107],[cQ to],[cQ a]] [32]=_;simp[Lib.join_cons,Lib.joinTail]
theorem RX (to a b:Int) (n:Nat) (f:Nat→T):gC 2 to a b n f=[97,100,100]++[32]++[cQ to]++[32]++[cQ a]++[32]++[cQ b]:=by show Lib.join [[97,100,100],[cQ to],[cQ a],[cQ b]] [32]=_;simp[Lib.join_cons,Lib.joinTail]
theorem RY (to a b:Int) (n:Nat) (f:Nat→T):gC 3 to a b n f=[109,117,108]++[32]++[cQ to]++[32]++[cQ a]++[32]++[cQ b]:=by show Lib.join [[109,117,108],[cQ to],[cQ a],[cQ b]] [32]=_;simp[Lib.join_cons,Lib.joinTail]
theorem RZ (to a b:Int) (n:Nat) (f:Nat→T):gC 4 to a b n f=[97,112,97,114,116]++[32]++[cQ to]++[32]++[cQ a]++[32]++[cQ b]:=by show Lib.join [[97,112,97,114,116],[cQ to],[cQ a],[cQ b]] [32]=_;simp[Lib.join_cons,Lib.joinTail]
theorem SA (to a b:Int) (n:Nat) (f:Nat→T):gC 5 to a b n f=[100,111]++[32]++[cQ to]++[32]++[cQ a]++[32]++[cQ b]:=by show Lib.join [[100,111],[cQ to],[cQ a],[cQ b]] [32]=_;simp[Lib.join_cons,Lib.joinTail]
end Go.Proofs.YtkcmamepoplcdaaGreatDoor
namespace Go.Proofs.YtkcmamepoplcdaaGreatDoor
set_option linter.unusedVariables false
def jK (c:UInt8):List (List UInt8)→List (List UInt8)
 |[]=>[[c]]
 |h::t=>(c::h)::t
def aV:List UInt8→List (List UInt8)
 |[]=>[[]]
 |c::r=>if c=43 then[]::aV r else jK c (aV r)
theorem xE (c:UInt8) (r:List UInt8):aV (c::r)=if c=43 then[]::aV r else jK c (aV r):=rfl
def ER:List (List UInt8)→List UInt8
 |[]=>[]
 |[w]=>w
 |w::v::r=>w++43::ER (v::r)
theorem nL {w:List UInt8} {r:List (List UInt8)} (h:r≠[]):ER (w::r)=w++43::ER r:=by
 cases r with
 |nil=>exact absurd rfl h
 |cons v r=>rfl
theorem jF:∀l,aV l≠[]
 |[]=>by simp[aV]
 |c::r=>by
  unfold aV;split
  ·simp
  ·cases e:aV r<;>simp[jK]
theorem GG {c:UInt8} {ws:List (List UInt8)} (h:ws≠[]):ER (jK c ws)=c::ER ws:=by
 cases ws with
 |nil=>exact absurd rfl h
 |cons v r=>
  cases r with
  |nil=>rfl
  |cons u r=>rfl
theorem zS:∀l,ER (aV l)=l
 |[]=>rfl
 |c::r=>by
  unfold aV;split
  ·rename_i e;rw[nL (jF r),zS r,e];rfl
  ·rw[GG (jF r),zS r]
theorem xI:∀{w:List UInt8} (h:∀c∈w,c≠43),aV w=[w]
 |[],_=>rfl
 |c::r,h=>by unfold aV;rw[if_neg (h c (by simp)),xI (w:=r) (fun x hx=>h x (by simp[hx]))];rfl
theorem AU:∀{w:List UInt8} (h:∀c∈w,c≠43) (r:List UInt8),aV (w++43::r)=w::aV r
 |[],_,r=>by show aV (43::r)=_;rw[xE,if_pos rfl]
 |c::w,h,r=>by show aV (c::(w++43::r))=_;rw[xE,if_neg (h c (by simp)),AU (w:=w) (fun x hx=>h x (by simp[hx])) r];rfl
theorem FP:∀{ws:List (List UInt8)} (h0:ws≠[]) (h:∀w∈ws,∀c∈w,c≠43),aV (ER ws)=ws
 |[],h0,_=>absurd rfl h0
 |[w],_,h=>xI (h w (by simp))
 |w::v::r,_,h=>by rw[nL (by simp),AU (h w (by simp)),FP (ws:=v::r) (by simp) (fun x hx=>h x (by simp[hx]))]
def oE (c:UInt8):List (List UInt8)→List (List UInt8)
 |[]=>[[c]]
 |[w]=>[w++[c]]
 |w::v::r=>w::oE c (v::r)
theorem mU {c:UInt8} {w:List UInt8} {r:List (List UInt8)} (h:r≠[]):oE c (w::r)=w::oE c r:=by
 cases r with
 |nil=>exact absurd rfl h
 |cons v r=>rfl
theorem pC (c:UInt8):∀(o:List (List UInt8)) (w:List UInt8),oE c (o++[w])=o++[w++[c]]
 |[],w=>rfl
 |v::o,w=>by show oE c (v::(o++[w]))=_;rw[mU (by simp),pC c o w];rfl
theorem tK {c:UInt8} {a b:List (List UInt8)} (h:a≠[]):jK c (a++b)=jK c a++b:=by
 cases a with
 |nil=>exact absurd rfl h
 |cons v r=>rfl
theorem pH {c k:UInt8} {a:List (List UInt8)} (h:a≠[]):jK c (oE k a)=oE k (jK c a):=by
 cases a with
 |nil=>exact absurd rfl h
 |cons v r=>
  cases r with
  |nil=>rfl
  |cons u r=>rfl
theorem xG:∀l,aV (l++[43])=aV l++[[]]
 |[]=>by decide
 |c::r=>by
  show aV (c::(r++[43]))=_;unfold aV;rw[xG r];split
  ·rfl
  ·exact tK (jF r)
theorem xF {k:UInt8} (hk:k≠43):∀l,aV (l++[k])=oE k (aV l)
 |[]=>by show aV [k]=_;unfold aV;rw[if_neg hk];rfl
 |c::r=>by
  show aV (c::(r++[k]))=_;unfold aV;rw[xF hk r];split
  ·rw[mU (jF r)]
  ·exact pH (jF r)
theorem GE {c:UInt8} (h:jH c=true):c≠43:=by
 rintro rfl
 revert h
 decide
theorem vG {k:UInt8} {n:Int} (hk:k≠43) (hn:n≤100):∀c∈cR k n,c≠43:=by
 intro c hc;unfold cR at hc;split at hc
 ·cases hc
 ·split at hc
  ·simp at hc;rw[hc];exact hk
  ·rcases List.mem_cons.1 hc with h|h
   ·rw[h];exact hk
   ·exact GE (iE _ (by omega) c h)
theorem uB {m:M} (h:M.ok m=true):∀c∈eN m,c≠43:=by
 intro c hc;by_cases h0:cX m=[]
 ·rw[jQ h h0]at hc;simp at hc;rw[hc];decide
 ·rw[fJ h h0,iH]at hc;obtain⟨x1,x2,y1,y2,d1,d2,e1,e2⟩:=M.ok_iff.1 h;simp only[List.mem_append]at hc;rcases hc with((hc|hc)|hc)|hc
  ·exact vG (by decide) (by omega) c hc
  ·exact vG (by decide) (by omega) c hc
  ·exact vG (by decide) (by omega) c hc
  ·exact vG (by decide) (by omega) c hc
theorem JX {t:T} (hc:t.c≤100) (h:M.ok t.m=true):∀c∈fE t,c≠43:=by
 intro c h1;have hd:∀c∈xJ t.c,c≠43:=fun c h2=>GE (iE _ (by omega) c h2)
 unfold fE at h1;split at h1
 ·exact hd c h1
 ·split at h1
  ·exact uB h c h1
  ·rcases List.mem_append.1 h1 with q|q
   ·exact hd c q
   ·exact uB h c q
theorem yA:∀{ws:List (List UInt8)} (h:ws≠[]) (w:List UInt8),ER (ws++[w])=ER ws++43::w
 |[],h,_=>absurd rfl h
 |[v],_,w=>rfl
 |v::u::r,_,w=>by show ER (v::((u::r)++[w]))=_;rw[nL (by simp),yA (ws:=u::r) (by simp) w,nL (w:=v) (r:=u::r) (by simp),List.append_assoc];rfl
def lP (f:Nat→T):Nat→List (List UInt8)
 |0=>[]
 |k+1=>lP f k++[fE (f k)]
theorem fF (f:Nat→T):∀k,(lP f k).length=k
 |0=>rfl
 |k+1=>by unfold lP;simp[fF f k]
theorem nN (f:Nat→T):∀k,ER (lP f k)=pQ f k
 |0=>rfl
 |k+1=>by
  by_cases h:k=0
  ·subst h;simp[lP,pQ,ER]
  ·have hne:lP f k≠[]:=fun e=>h (by have:=fF f k;rw[e]at this;simpa using this.symm);unfold lP pQ;rw[yA hne,nN f k,if_neg h];simp
theorem CM {f:Nat→T}:∀k,(∀i,i<k→(f i).c≤100∧M.ok (f i).m=true)→∀w∈lP f k,∀c∈w,c≠43
 |0,_=>fun w hw=>by cases hw
 |k+1,h=>fun w hw=>by
  unfold lP at hw;rcases List.mem_append.1 hw with q|q
  ·exact CM k (fun i hi=>h i (by omega)) w q
  ·simp at q;rw[q];exact JX (h k (by omega)).1 (h k (by omega)).2
theorem xH {n:Nat} {f:Nat→T} (h:aH n f=true) (h0:n≠0):aV (cO n f)=lP f n:=by have hk:=(cJ h).2;rw[oA h h0,←nN,FP (fun e=>h0 (by have:=fF f n;rw[e]at this;simpa using this.symm)) (CM n (fun i hi=>⟨(hk i hi).1.2,(hk i hi).2⟩))]
open Go.RowKit
def nU (n:Int) (c:UInt8):Int:=if n<1000 then n*10+((c.toNat:Int)-48)else n
def nv (d:List UInt8):Int:=d.foldl nU 0
theorem vN (d:List UInt8) (c:UInt8):nv (d++[c])=nU (nv d) c:=by unfold nv;rw[List.foldl_append];rfl
theorem RO (d:List UInt8) (h:∀c∈d,jH c=true):0≤nv d∧nv d≤10000:=by
 have key:∀(d:List UInt8) (n:Int),(∀c∈d,jH c=true)→0≤n∧n≤10000→0≤d.foldl nU n∧d.foldl nU n≤10000:=fun d=>by
  induction d with
  |nil=>intro n _ h;exact h
  |cons c d ih=>
   intro n h hn;rw[List.foldl_cons];refine ih _ (fun x hx=>h x (by simp[hx])) ?_;have hc:=of_decide_eq_true (h c (by simp))
   unfold nU;split<;>omega
 exact key d 0 h ⟨by omega,by omega⟩
theorem GO (l:List UInt8):∀c∈bV l,jH c=true:=fun c hc=>by
 unfold bV at hc;induction l with
 |nil=>cases hc
 |cons x l ih=>
  rw[List.takeWhile_cons]at hc;split at hc
  ·rename_i hx;rcases List.mem_cons.1 hc with e|e
   ·rw[e];exact hx
   ·exact ih e
  ·cases hc
def pP (c:UInt8):Bool:=decide (c.toNat=120∨c.toNat=121∨c.toNat=100∨c.toNat=101)
def bG (c:UInt8) (n:Int) (t:T):T:=if c.toNat=120 then⟨t.c,⟨n,t.m.y,t.m.d,t.m.e⟩⟩else if c.toNat=121 then⟨t.c,⟨t.m.x,n,t.m.d,t.m.e⟩⟩else if c.toNat=100 then⟨t.c,⟨t.m.x,t.m.y,n,t.m.e⟩⟩else⟨t.c,⟨t.m.x,t.m.y,t.m.d,n⟩⟩
def OA (r:List UInt8):Int:=if(bV r).length=0 then 1 else nv (bV r)
def yD:Nat→T→List UInt8→T
 |0,t,_=>t
 |_+1,t,[]=>t
 |f+1,t,c::r=>if pP c=true then yD f (bG c (OA r) t) (r.drop (bV r).length)else⟨0,⟨0,0,0,0⟩⟩
theorem pZ (f:Nat) (t:T):yD f t []=t:=by cases f<;>rfl
theorem qA {f:Nat} {t:T} {c:UInt8} {r:List UInt8} (h:pP c=true):yD (f+1) t (c::r)=yD f (bG c (OA r) t) (r.drop (bV r).length):=by show(if pP c=true then _ else _)=_;rw[if_pos h]
theorem GS {f:Nat} {t:T} {c:UInt8} {r:List UInt8} (h:pP c=false):yD (f+1) t (c::r)=⟨0,⟨0,0,0,0⟩⟩:=by show(if pP c=true then _ else _)=_;rw[if_neg (by rw[h];simp)]
def NH (s:List UInt8):T:=⟨if 0<(bV s).length then nv (bV s)else 1,⟨0,0,0,0⟩⟩
def gK (s:List UInt8):T:=yD (s.drop (bV s).length).length (NH s) (s.drop (bV s).length)
theorem PU {n:Nat} (h2:2≤n) (hn:n≤15):nv (Lib.decDigits n)=(n:Int):=by
 rcases(show n=2∨n=3∨n=4∨n=5∨n=6∨n=7∨n=8∨n=9∨n=10∨n=11∨n=12∨n=13∨n=14∨n=15 by omega)with rfl|rfl|rfl|rfl|rfl|rfl|rfl|rfl|rfl|rfl|rfl|rfl|rfl|rfl
 all_goals first
  |(rw[dH (by omega)];rfl)
  |(rw[dL (by omega),dH (by omega)];rfl)
theorem AV (n:Nat):(Lib.decDigits n).length≠0:=fun h=>zM n (List.length_eq_zero_iff.1 h)
theorem jC {c:UInt8} (hc:pP c=true) {n:Int} (h0:0≤n) (h1:n≤15) {t:List UInt8} (hD:wO t) (q:T):∀f,(cR c n++t).length≤f→∃f',t.length≤f'∧yD f q (cR c n++t)=yD f' (if n=0 then q else bG c n q) t:=fun f hf=>by
 by_cases hz:n=0
 ·subst hz;rw[xY,List.nil_append]at hf⊢;exact⟨f,hf,by rw[if_pos rfl]⟩
 ·rw[if_neg hz];by_cases ho:n=1
  ·subst ho;rw[BI,List.singleton_append]at hf⊢;obtain⟨f',rfl⟩:∃f',f=f'+1:=⟨f-1,by simp at hf;omega⟩
   have e:bV t=[]:=fA (d:=[]) (fun _ h=>by cases h) hD;refine⟨f',by simp at hf;omega,?_⟩;rw[qA hc];unfold OA;rw[e];rfl
  ·obtain⟨m,rfl⟩:∃m:Nat,n=(m:Int):=⟨n.toNat,by omega⟩
   rw[iR (by omega),List.cons_append]at hf⊢;obtain⟨f',rfl⟩:∃f',f=f'+1:=⟨f-1,by simp at hf;omega⟩
   have e:bV (Lib.decDigits m++t)=Lib.decDigits m:=fA (iE m (by omega)) hD;refine⟨f',by simp at hf;omega,?_⟩;rw[qA hc];unfold OA;rw[e,if_neg (AV m),PU (by omega) (by omega)];simp
theorem JV {m:M} (h:M.ok m=true) (hne:cX m≠[]):(gK (cX m)).m=m:=by
 obtain⟨x1,x2,y1,y2,d1,d2,e1,e2⟩:=M.ok_iff.1 h;have a4:wO []:=fun c r e=>by cases e
 have t3:wO (cR 101 m.e++[]):=cN (P:=fun c=>jH c=false) (by decide) a4;have t2:wO (cR 100 m.d++(cR 101 m.e++[])):=cN (P:=fun c=>jH c=false) (by decide) t3
 have t1:wO (cR 121 m.y++(cR 100 m.d++(cR 101 m.e++[]))):=cN (P:=fun c=>jH c=false) (by decide) t2;have t0:wO (cR 120 m.x++(cR 121 m.y++(cR 100 m.d++(cR 101 m.e++[])))):=cN (P:=fun c=>jH c=false) (by decide) t1
 have e:cX m=cR 120 m.x++(cR 121 m.y++(cR 100 m.d++(cR 101 m.e++[]))):=by rw[iH];simp
 have l0:bV (cX m)=[]:=by rw[e];exact fA (d:=[]) (fun _ h=>by cases h) t0
 unfold gK NH;rw[l0];show(yD (cX m).length ⟨1,⟨0,0,0,0⟩⟩ (cX m)).m=m
 rw[e];obtain⟨f1,k1,q1⟩:=jC (c:=120) (by decide) x1 x2 t1 ⟨1,⟨0,0,0,0⟩⟩ _ (Nat.le_refl _);rw[q1];obtain⟨f2,k2,q2⟩:=jC (c:=121) (by decide) y1 y2 t2 (if m.x=0 then⟨1,⟨0,0,0,0⟩⟩else bG 120 m.x ⟨1,⟨0,0,0,0⟩⟩) f1 k1;rw[q2];obtain⟨f3,k3,q3⟩:=jC (c:=100) (by decide) d1 d2 t3 (if m.y=0 then(if m.x=0 then⟨1,⟨0,0,0,0⟩⟩else bG 120 m.x ⟨1,⟨0,0,0,0⟩⟩)else bG 121 m.y (if m.x=0 then⟨1,⟨0,0,0,0⟩⟩else bG 120 m.x ⟨1,⟨0,0,0,0⟩⟩)) f2 k2;rw[q3];obtain⟨f4,k4,q4⟩:=jC (c:=101) (by decide) e1 e2 a4 (if m.d=0 then(if m.y=0 then(if m.x=0 then⟨1,⟨0,0,0,0⟩⟩else bG 120 m.x ⟨1,⟨0,0,0,0⟩⟩)else bG 121 m.y (if m.x=0 then⟨1,⟨0,0,0,0⟩⟩else bG 120 m.x ⟨1,⟨0,0,0,0⟩⟩))else bG 100 m.d (if m.y=0 then(if m.x=0 then⟨1,⟨0,0,0,0⟩⟩else bG 120 m.x ⟨1,⟨0,0,0,0⟩⟩)else bG 121 m.y (if m.x=0 then⟨1,⟨0,0,0,0⟩⟩else bG 120 m.x ⟨1,⟨0,0,0,0⟩⟩))) f3 k3;rw[q4,pZ];rcases m with⟨x,y,d,z⟩
 simp only;have s120:∀n t,bG 120 n t=⟨t.c,⟨n,t.m.y,t.m.d,t.m.e⟩⟩:=fun n t=>rfl
 have s121:∀n t,bG 121 n t=⟨t.c,⟨t.m.x,n,t.m.d,t.m.e⟩⟩:=fun n t=>rfl;have s100:∀n t,bG 100 n t=⟨t.c,⟨t.m.x,t.m.y,n,t.m.e⟩⟩:=fun n t=>rfl
 have s101:∀n t,bG 101 n t=⟨t.c,⟨t.m.x,t.m.y,t.m.d,n⟩⟩:=fun n t=>rfl;simp only[s120,s121,s100,s101];by_cases hx:x=0<;>by_cases hy:y=0<;>by_cases hd:d=0<;>by_cases he:z=0<;>simp[hx,hy,hd,he]
theorem QH {m:M} (h:M.ok m=true) {s:List UInt8} (hs:eN m=s):(gK s).m=m:=by
 subst hs;by_cases h0:cX m=[]
 ·rw[jQ h h0];have e:m=⟨0,0,0,0⟩:=by
   by_cases hz:m.x=0∧m.y=0∧m.d=0∧m.e=0
   ·rcases m with⟨x,y,d,e⟩
    obtain⟨rfl,rfl,rfl,rfl⟩:=hz;rfl
   ·obtain⟨c,r,e,_⟩:=jP h hz;rw[e]at h0;cases h0
  rw[e];have e2:(gK [49]).m=⟨0,0,0,0⟩:=by kernel_rfl
  exact e2
 ·rw[fJ h h0];exact JV h h0
theorem uA (s:List UInt8):kV s=if s.length≤40∧(M.ok (gK s).m=true∧eN (gK s).m=s)then((gK s).m,true)else(⟨0,0,0,0⟩,false):=
 ME fun m hm hs=>QH hm hs
end Go.Proofs.YtkcmamepoplcdaaGreatDoor
namespace Go.Proofs.YtkcmamepoplcdaaGreatDoor
set_option linter.unusedVariables false
theorem RN {m:M} (h:M.ok m=true) (k:Int) {f:Nat} (hf:(cX m).length≤f):yD f ⟨k,⟨0,0,0,0⟩⟩ (cX m)=⟨k,m⟩:=by
 obtain⟨x1,x2,y1,y2,d1,d2,e1,e2⟩:=M.ok_iff.1 h;have a4:wO []:=fun c r e=>by cases e
 have t3:wO (cR 101 m.e++[]):=cN (P:=fun c=>jH c=false) (by decide) a4;have t2:wO (cR 100 m.d++(cR 101 m.e++[])):=cN (P:=fun c=>jH c=false) (by decide) t3
 have t1:wO (cR 121 m.y++(cR 100 m.d++(cR 101 m.e++[]))):=cN (P:=fun c=>jH c=false) (by decide) t2;have e:cX m=cR 120 m.x++(cR 121 m.y++(cR 100 m.d++(cR 101 m.e++[]))):=by rw[iH];simp
 rw[e]at hf⊢;obtain⟨f1,k1,q1⟩:=jC (c:=120) (by decide) x1 x2 t1 ⟨k,⟨0,0,0,0⟩⟩ _ hf;rw[q1];generalize hA:(if m.x=0 then(⟨k,⟨0,0,0,0⟩⟩:T)else bG 120 m.x ⟨k,⟨0,0,0,0⟩⟩)=A;obtain⟨f2,k2,q2⟩:=jC (c:=121) (by decide) y1 y2 t2 A f1 k1;rw[q2];generalize hB:(if m.y=0 then A else bG 121 m.y A)=B;obtain⟨f3,k3,q3⟩:=jC (c:=100) (by decide) d1 d2 t3 B f2 k2;rw[q3];generalize hC:(if m.d=0 then B else bG 100 m.d B)=C;obtain⟨f4,k4,q4⟩:=jC (c:=101) (by decide) e1 e2 a4 C f3 k3;rw[q4,pZ];subst hC hB hA;rcases m with⟨x,y,d,z⟩
 simp only;have s120:∀n t,bG 120 n t=⟨t.c,⟨n,t.m.y,t.m.d,t.m.e⟩⟩:=fun n t=>rfl
 have s121:∀n t,bG 121 n t=⟨t.c,⟨t.m.x,n,t.m.d,t.m.e⟩⟩:=fun n t=>rfl;have s100:∀n t,bG 100 n t=⟨t.c,⟨t.m.x,t.m.y,n,t.m.e⟩⟩:=fun n t=>rfl
 have s101:∀n t,bG 101 n t=⟨t.c,⟨t.m.x,t.m.y,t.m.d,n⟩⟩:=fun n t=>rfl;simp only[s120,s121,s100,s101];by_cases hx:x=0<;>by_cases hy:y=0<;>by_cases hd:d=0<;>by_cases he:z=0<;>simp[hx,hy,hd,he]
theorem vM {n:Nat} (h:n<10):nv (Lib.decDigits n)=(n:Int):=by
 rw[dH h];show nU 0 _=_
 unfold nU;rw[if_pos (by omega),UInt8.toNat_ofNat'];omega
theorem MK {n:Nat} (h:n<100):nv (Lib.decDigits n)=(n:Int):=by
 by_cases h1:n<10
 ·exact vM h1
 ·rw[dL h1,vN,vM (n:=n / 10) (by omega)];unfold nU;rw[if_pos (by omega),UInt8.toNat_ofNat'];omega
theorem ML {n:Nat} (h:n<1000):nv (Lib.decDigits n)=(n:Int):=by
 by_cases h1:n<10
 ·exact vM h1
 ·rw[dL h1,vN,MK (n:=n / 10) (by omega)];unfold nU;rw[if_pos (by omega),UInt8.toNat_ofNat'];omega
theorem rP {m:M} (h:M.ok m=true):wO (cX m):=by
 have a4:wO []:=fun c r e=>by cases e
 have t3:wO (cR 101 m.e++[]):=cN (P:=fun c=>jH c=false) (by decide) a4;have t2:wO (cR 100 m.d++(cR 101 m.e++[])):=cN (P:=fun c=>jH c=false) (by decide) t3
 have t1:wO (cR 121 m.y++(cR 100 m.d++(cR 101 m.e++[]))):=cN (P:=fun c=>jH c=false) (by decide) t2;have t0:wO (cR 120 m.x++(cR 121 m.y++(cR 100 m.d++(cR 101 m.e++[])))):=cN (P:=fun c=>jH c=false) (by decide) t1
 have e:cX m=cR 120 m.x++(cR 121 m.y++(cR 100 m.d++(cR 101 m.e++[]))):=by rw[iH];simp
 rw[e];exact t0
theorem sE {d:List UInt8} (hd:∀c∈d,jH c=true) {m:M} (h:M.ok m=true):gK (d++cX m)=⟨if 0<d.length then nv d else 1,m⟩:=by have hl:bV (d++cX m)=d:=fA hd (rP h);unfold gK NH;rw[hl,List.drop_left];exact RN h _ (Nat.le_refl _)
theorem zD {t:T} (h1:1≤t.c) (h2:t.c≤100) (h:M.ok t.m=true):gK (fE t)=t:=by
 have hd:∀c∈xJ t.c,jH c=true:=fun c hc=>iE _ (by omega) c hc;have hp:0<(xJ t.c).length:=Nat.pos_of_ne_zero (AV _)
 have hv:nv (xJ t.c)=t.c:=by unfold xJ;rw[ML (by omega)];omega
 unfold fE;by_cases h0:t.m.x=0∧t.m.y=0∧t.m.d=0∧t.m.e=0
 ·rw[if_pos h0];have e0:cX t.m=[]:=by obtain⟨a,b,c,d⟩:=h0;rw[iH,a,b,c,d];rfl
  have:=sE hd h;rw[e0,List.append_nil,if_pos hp,hv]at this;exact this
 ·rw[if_neg h0];obtain⟨c,r,e,_⟩:=jP h h0;have hne:cX t.m≠[]:=by rw[e];simp
  rw[fJ h hne];by_cases hc:t.c=1
  ·rw[if_pos hc];have:=sE (d:=[]) (fun _ q=>by cases q) h
   rw[List.nil_append]at this;rw[this];rcases t with⟨tc,tm⟩
   simp at hc;simp[hc]
  ·rw[if_neg hc,sE hd h,if_pos hp,hv]
def wT (s:List UInt8):List T:=(aV s).map gK
def dV (s:List UInt8):List T×Bool:=if s=[48]then([],true)else if s.length≤400∧(aH (wT s).length (lf (wT s))=true∧cO (wT s).length (lf (wT s))=s)then(wT s,true)else([],false)
theorem oW:dV [48]=([],true):=by unfold dV;rw[if_pos rfl]
theorem rU {s:List UInt8} (h0:s≠[48]) (h1:s.length≤400) (h2:aH (wT s).length (lf (wT s))=true) (h3:cO (wT s).length (lf (wT s))=s):dV s=(wT s,true):=by unfold dV;rw[if_neg h0,if_pos ⟨h1,h2,h3⟩]
theorem nZ {s:List UInt8} (h0:s≠[48]) (h:¬(s.length≤400∧(aH (wT s).length (lf (wT s))=true∧cO (wT s).length (lf (wT s))=s))):dV s=([],false):=by unfold dV;rw[if_neg h0,if_neg h]
theorem wJ (s:List UInt8):(wT s).length=(aV s).length:=by unfold wT;simp
def RP (t:T):Prop:=(1≤t.c∧t.c≤100)∧M.ok t.m=true
def QV (w:List UInt8) (t:T) (b:Bool):Prop:=(b=true→RP t→fE t=w)∧∀t0,RP t0→fE t0=w→t=t0∧b=true
theorem BQ {L:List T} {i:Nat} {t:T} (h:L[i]? =some t):lf L i=t:=by unfold lf;rw[List.getD_eq_getElem?_getD,h];rfl
theorem oI (f:Nat→T):∀{k i:Nat},i<k→(lP f k)[i]? =some (fE (f i))
 |0,i,h=>by omega
 |k+1,i,h=>by
  unfold lP;by_cases e:i<k
  ·rw[List.getElem?_append_left (by rw[fF];exact e),oI f e]
  ·have:i=k:=by omega
   subst this;rw[List.getElem?_append_right (by rw[fF];omega),fF];simp
theorem rT {s:List UInt8} (h0:s≠[48]) (h:(dV s).2=true):s.length≤400∧∃(n:Nat) (f:Nat→T),n≠0∧aH n f=true∧aV s=lP f n∧(∀i,i<n→RP (f i))∧(wT s).length=n∧(∀i,i<n→lf (wT s) i=f i):=by
 by_cases q:s.length≤400∧(aH (wT s).length (lf (wT s))=true∧cO (wT s).length (lf (wT s))=s)
 ·obtain⟨q1,q2,q3⟩:=q;have hne:(wT s).length≠0:=by rw[wJ];intro e;exact jF s (List.length_eq_zero_iff.1 e)
  refine⟨q1,_,_,hne,q2,?_,fun i hi=>(cJ q2).2 i hi,rfl,fun i _=>rfl⟩;have:=xH q2 hne
  rw[q3]at this;exact this
 ·rw[nZ h0 q]at h;cases h
theorem IOz {s:List UInt8} {ts:List T} (h0:s≠[48]) (hs:s.length≤400) (hl:ts.length=(aV s).length) (hr:∀(i:Nat) (w:List UInt8) (t:T),(aV s)[i]? =some w→ts[i]? =some t→QV w t true) (hok:aH ts.length (lf ts)=true):dV s=(ts,true):=by
 have hts:wT s=ts:=by
  apply List.ext_getElem?;intro i;unfold wT;rw[List.getElem?_map];by_cases hi:i<ts.length
  ·obtain⟨t,ht⟩:∃t,ts[i]? =some t:=⟨_,List.getElem?_eq_getElem hi⟩
   obtain⟨w,hw⟩:∃w,(aV s)[i]? =some w:=⟨_,List.getElem?_eq_getElem (by omega)⟩
   have hk:RP t:=by have:=(cJ hok).2 i hi;rw[BQ ht]at this;exact this
   have e:=(hr i w t hw ht).1 rfl hk;rw[hw,ht];show some (gK w)=some t
   rw[←e,zD hk.1.1 hk.1.2 hk.2]
  ·rw[List.getElem?_eq_none (by omega),List.getElem?_eq_none (by omega)];rfl
 have hn:ts.length≠0:=by rw[hl];intro e;exact jF s (List.length_eq_zero_iff.1 e)
 have hw:aV s=lP (lf ts) ts.length:=by
  apply List.ext_getElem?;intro i;by_cases hi:i<ts.length
  ·obtain⟨t,ht⟩:∃t,ts[i]? =some t:=⟨_,List.getElem?_eq_getElem hi⟩
   obtain⟨w,hw⟩:∃w,(aV s)[i]? =some w:=⟨_,List.getElem?_eq_getElem (by omega)⟩
   have hk:RP t:=by have:=(cJ hok).2 i hi;rw[BQ ht]at this;exact this
   have e:=(hr i w t hw ht).1 rfl hk;rw[hw,oI _ hi,BQ ht,e]
  ·rw[List.getElem?_eq_none (by omega),List.getElem?_eq_none (by rw[fF];omega)]
 have ht:cO ts.length (lf ts)=s:=by rw[oA hok hn,←nN,←hw,zS]
 have:=rU h0 hs (by rw[hts];exact hok) (by rw[hts];exact ht);rw[hts]at this;exact this
theorem IP {s:List UInt8} {i:Nat} {w:List UInt8} {t:T} (h0:s≠[48]) (hw:(aV s)[i]? =some w) (hr:QV w t false):dV s=([],false):=by
 cases h:(dV s).2
 ·unfold dV at h⊢;rw[if_neg h0]at h⊢;split at h
  ·cases h
  ·rename_i q;rw[if_neg q]
 ·obtain⟨_,n,f,hn,hok,hc,hk,_,_⟩:=rT h0 h;have hi:i<n:=by have:=(List.getElem?_eq_some_iff.1 hw).1;rw[hc,fF]at this;exact this
  rw[hc,oI f hi]at hw;cases hw;exact absurd (hr.2 (f i) (hk i hi) rfl).2 (by simp)
theorem IQ {s:List UInt8} {ts:List T} (h0:s≠[48]) (hl:ts.length=(aV s).length) (hr:∀(i:Nat) (w:List UInt8) (t:T),(aV s)[i]? =some w→ts[i]? =some t→QV w t true) (hok:aH ts.length (lf ts)=false):dV s=([],false):=by
 cases h:(dV s).2
 ·unfold dV at h⊢;rw[if_neg h0]at h⊢;split at h
  ·cases h
  ·rename_i q;rw[if_neg q]
 ·obtain⟨_,n,f,hn,hok',hc,hk,hl',hf⟩:=rT h0 h;have hts:wT s=ts:=by
   apply List.ext_getElem?;intro i;by_cases hi:i<ts.length
   ·obtain⟨t,ht⟩:∃t,ts[i]? =some t:=⟨_,List.getElem?_eq_getElem hi⟩
    obtain⟨w,hw⟩:∃w,(aV s)[i]? =some w:=⟨_,List.getElem?_eq_getElem (by omega)⟩
    have hin:i<n:=by have:=(List.getElem?_eq_some_iff.1 hw).1;rw[hc,fF]at this;exact this
    have hw':=hw;rw[hc,oI f hin]at hw';have e:=(hr i w t hw ht).2 (f i) (hk i hin) (by cases hw';rfl)
    have hx:(wT s)[i]? =some (lf (wT s) i):=by unfold lf;rw[List.getD_eq_getElem?_getD,List.getElem?_eq_getElem (by omega)];rfl
    rw[hx,hf i hin,ht,e.1]
   ·rw[List.getElem?_eq_none (by rw[wJ];omega),List.getElem?_eq_none (by omega)]
  have h2:aH (wT s).length (lf (wT s))=true:=by
   unfold dV at h;rw[if_neg h0]at h;split at h
   ·rename_i q;exact q.2.1
   ·cases h
  rw[hts,hok]at h2;cases h2
open Go.RowKit
theorem BX {f g:Nat→T} {n i:Nat} (h:∀i,i<n→f i=g i) (hi:i<n):fC f i=fC g i:=by
 unfold fC;rw[h i hi];by_cases e:i=0
 ·subst e;simp
 ·rw[h (i-1) (by omega)]
theorem yR {f g:Nat→T} {n:Nat} (h:∀i,i<n→f i=g i):aH n f=aH n g:=by unfold aH;congr 1;apply propext;exact⟨fun q=>⟨q.1,fun i hi=>by rw[←BX h hi];exact q.2 i hi⟩,fun q=>⟨q.1,fun i hi=>by rw[BX h hi];exact q.2 i hi⟩⟩
theorem CL {f g:Nat→T}:∀{n:Nat},(∀i,i<n→f i=g i)→lP f n=lP g n
 |0,_=>rfl
 |n+1,h=>by unfold lP;rw[CL (n:=n) (fun i hi=>h i (by omega)),h n (by omega)]
theorem MX {f g:Nat→T} {n:Nat} (h:∀i,i<n→f i=g i):cO n f=cO n g:=by unfold cO;rw[yR h,←nN,←nN,CL h]
theorem MV {n:Nat} {f:Nat→T} (h:aH n f=true) (hl:(cO n f).length≤400):∃L,dV (cO n f)=(L,true)∧L.length=n∧∀i,i<n→lf L i=f i:=by
 by_cases h0:n=0
 ·subst h0;rw[mA h rfl,oW];exact⟨[],rfl,rfl,fun i hi=>by omega⟩
 ·have hk:=(cJ h).2;have hc:=xH h h0
  have hw:∀i,i<n→(wT (cO n f))[i]? =some (f i):=fun i hi=>by
   unfold wT;rw[hc,List.getElem?_map,oI f hi];show some (gK (fE (f i)))=_
   rw[zD (hk i hi).1.1 (hk i hi).1.2 (hk i hi).2]
  have hwl:(wT (cO n f)).length=n:=by rw[wJ,hc,fF]
  have hf:∀i,i<n→lf (wT (cO n f)) i=f i:=fun i hi=>BQ (hw i hi);have hne:cO n f≠[48]:=fun e=>by
   have h2:=hw 0 (by omega);rw[e]at h2;have h3:(wT [48])[0]? =some ⟨0,⟨0,0,0,0⟩⟩:=by kernel_rfl
   rw[h3]at h2;have:=(hk 0 (by omega)).1.1
   rw[←Option.some.inj h2]at this;exact absurd this (by decide)
  refine⟨wT (cO n f),rU hne hl ?_ ?_,hwl,hf⟩
  ·rw[hwl,yR hf];exact h
  ·rw[hwl,MX hf]
end Go.Proofs.YtkcmamepoplcdaaGreatDoor
