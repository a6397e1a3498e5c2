/-
  Lines, as lists of bytes.
-/
import Derived.Test.YtkcmamepoplcdaaGreatDoorVae
namespace Go.Proofs.YtkcmamepoplcdaaGreatDoor
open Go.RowKit
set_option linter.unusedVariables false
def eD (k:Int):Nat:=if k=2∨k=3∨k=4∨k=5 then 3 else if k=6∨k=7 then 2 else if k=1∨k=8 then 1 else 0
def gB (k:Int):List UInt8:=if k=1 then[115,101,116]else if k=2 then[97,100,100]else if k=3 then[109,117,108]else if k=4 then[97,112,97,114,116]else if k=5 then[100,111]else if k=6 then[114,111,117,110,100]else if k=7 then[98,97,99,107]else[115,104,111,119]
def cZ (x:Int):UInt8:=UInt8.ofNat (65+x).toNat
def vO (k to a b:Int) (n:Nat) (f:Nat→T):Bool:=
 decide ((1≤k∧k≤8)∧(0≤to∧to≤5)∧(0≤a∧a≤5)∧(0≤b∧b≤5)∧aK n f=true∧(2≤eD k∨a=0)∧(3≤eD k∨b=0)∧(k=1∨n=0))
def BU (to a b:Int):List (List UInt8):=[[cZ to],[cZ a],[cZ b]]
def mH (k to a b:Int) (n:Nat) (f:Nat→T):List (List UInt8):=gB k::((BU to a b).take (eD k)++if k=1 then[cY n f]else[])
def gO (k to a b:Int) (n:Nat) (f:Nat→T):List UInt8:=Lib.join (mH k to a b n f) [32]
def eI (k to a b:Int) (n:Nat) (f:Nat→T):List UInt8:=if vO k to a b n f=true∧(gO k to a b n f).length≤400 then gO k to a b n f else[]
theorem aV {k to a b:Int} {n:Nat} {f:Nat→T} (h:vO k to a b n f=false):eI k to a b n f=[]:=by unfold eI;rw[if_neg (fun q=>by rw[h]at q;cases q.1)]
theorem sH {k to a b:Int} {n:Nat} {f:Nat→T} (h:¬(gO k to a b n f).length≤400):eI k to a b n f=[]:=by unfold eI;rw[if_neg (fun q=>h q.2)]
theorem jZ {k to a b:Int} {n:Nat} {f:Nat→T} (h:vO k to a b n f=true) (hl:(gO k to a b n f).length≤400):eI k to a b n f=gO k to a b n f:=by unfold eI;rw[if_pos ⟨h,hl⟩]
theorem aW {k to a b:Int} {n:Nat} {f:Nat→T} (h:¬((1≤k∧k≤8)∧(0≤to∧to≤5)∧(0≤a∧a≤5)∧(0≤b∧b≤5)∧aK n f=true∧(2≤eD k∨a=0)∧(3≤eD k∨b=0)∧(k=1∨n=0))):vO k to a b n f=false:=decide_eq_false h
theorem UG (to a b:Int) (n:Nat) (f:Nat→T):gO 1 to a b n f=[115,101,116]++[32]++[cZ to]++[32]++cY n f:=by show Lib.join [[115,101,116],[cZ to],cY n f] [32]=_;simp[Lib.join_cons,Lib.joinTail]
theorem UN (to a b:Int) (n:Nat) (f:Nat→T):gO 8 to a b n f=[115,104,111,119]++[32]++[cZ to]:=by show Lib.join [[115,104,111,119],[cZ to]] [32]=_;simp[Lib.join_cons,Lib.joinTail]
theorem UL (to a b:Int) (n:Nat) (f:Nat→T):gO 6 to a b n f=[114,111,117,110,100]++[32]++[cZ to]++[32]++[cZ a]:=by show Lib.join [[114,111,117,110,100],[cZ to],[cZ a]] [32]=_;simp[Lib.join_cons,Lib.joinTail]
theorem UM (to a b:Int) (n:Nat) (f:Nat→T):gO 7 to a b n f=[98,97,99,107]++[32]++[cZ to]++[32]++[cZ a]:=by show Lib.join [[98,97,99,107],[cZ to],[cZ a]] [32]=_;simp[Lib.join_cons,Lib.joinTail]
theorem UH (to a b:Int) (n:Nat) (f:Nat→T):gO 2 to a b n f=[97,100,100]++[32]++[cZ to]++[32]++[cZ a]++[32]++[cZ b]:=by show Lib.join [[97,100,100],[cZ to],[cZ a],[cZ b]] [32]=_;simp[Lib.join_cons,Lib.joinTail]
theorem UI (to a b:Int) (n:Nat) (f:Nat→T):gO 3 to a b n f=[109,117,108]++[32]++[cZ to]++[32]++[cZ a]++[32]++[cZ b]:=by show Lib.join [[109,117,108],[cZ to],[cZ a],[cZ b]] [32]=_;simp[Lib.join_cons,Lib.joinTail]
theorem UJ (to a b:Int) (n:Nat) (f:Nat→T):gO 4 to a b n f=[97,112,97,114,116]++[32]++[cZ to]++[32]++[cZ a]++[32]++[cZ b]:=by show Lib.join [[97,112,97,114,116],[cZ to],[cZ a],[cZ b]] [32]=_;simp[Lib.join_cons,Lib.joinTail]
theorem UK (to a b:Int) (n:Nat) (f:Nat→T):gO 5 to a b n f=[100,111]++[32]++[cZ to]++[32]++[cZ a]++[32]++[cZ b]:=by show Lib.join [[100,111],[cZ to],[cZ a],[cZ b]] [32]=_;simp[Lib.join_cons,Lib.joinTail]
end Go.Proofs.YtkcmamepoplcdaaGreatDoor
namespace Go.Proofs.YtkcmamepoplcdaaGreatDoor
set_option linter.unusedVariables false
def kF (c:UInt8):List (List UInt8)→List (List UInt8)
 |[]=>[[c]]
 |h::t=>(c::h)::t
def bA:List UInt8→List (List UInt8)
 |[]=>[[]]
 |c::r=>if c=43 then[]::bA r else kF c (bA r)
theorem yG (c:UInt8) (r:List UInt8):bA (c::r)=if c=43 then[]::bA r else kF c (bA r):=rfl
def GH:List (List UInt8)→List UInt8
 |[]=>[]
 |[w]=>w
 |w::v::r=>w++43::GH (v::r)
theorem oG {w:List UInt8} {r:List (List UInt8)} (h:r≠[]):GH (w::r)=w++43::GH r:=by
 cases r with
 |nil=>exact absurd rfl h
 |cons v r=>rfl
theorem jY:∀l,bA l≠[]
 |[]=>by simp[bA]
 |c::r=>by
  unfold bA;split
  ·simp
  ·cases e:bA r<;>simp[kF]
theorem JD {c:UInt8} {ws:List (List UInt8)} (h:ws≠[]):GH (kF c ws)=c::GH ws:=by
 cases ws with
 |nil=>exact absurd rfl h
 |cons v r=>
  cases r with
  |nil=>rfl
  |cons u r=>rfl
theorem BF:∀l,GH (bA l)=l
 |[]=>rfl
 |c::r=>by
  unfold bA;split
  ·rename_i e;rw[oG (jY r),BF r,e];rfl
  ·rw[JD (jY r),BF r]
theorem yK:∀{w:List UInt8} (h:∀c∈w,c≠43),bA w=[w]
 |[],_=>rfl
 |c::r,h=>by unfold bA;rw[if_neg (h c (by simp)),yK (w:=r) (fun x hx=>h x (by simp[hx]))];rfl
theorem CH:∀{w:List UInt8} (h:∀c∈w,c≠43) (r:List UInt8),bA (w++43::r)=w::bA r
 |[],_,r=>by show bA (43::r)=_;rw[yG,if_pos rfl]
 |c::w,h,r=>by show bA (c::(w++43::r))=_;rw[yG,if_neg (h c (by simp)),CH (w:=w) (fun x hx=>h x (by simp[hx])) r];rfl
theorem IJ:∀{ws:List (List UInt8)} (h0:ws≠[]) (h:∀w∈ws,∀c∈w,c≠43),bA (GH ws)=ws
 |[],h0,_=>absurd rfl h0
 |[w],_,h=>yK (h w (by simp))
 |w::v::r,_,h=>by rw[oG (by simp),CH (h w (by simp)),IJ (ws:=v::r) (by simp) (fun x hx=>h x (by simp[hx]))]
def pC (c:UInt8):List (List UInt8)→List (List UInt8)
 |[]=>[[c]]
 |[w]=>[w++[c]]
 |w::v::r=>w::pC c (v::r)
theorem nR {c:UInt8} {w:List UInt8} {r:List (List UInt8)} (h:r≠[]):pC c (w::r)=w::pC c r:=by
 cases r with
 |nil=>exact absurd rfl h
 |cons v r=>rfl
theorem pY (c:UInt8):∀(o:List (List UInt8)) (w:List UInt8),pC c (o++[w])=o++[w++[c]]
 |[],w=>rfl
 |v::o,w=>by show pC c (v::(o++[w]))=_;rw[nR (by simp),pY c o w];rfl
theorem uF {c:UInt8} {a b:List (List UInt8)} (h:a≠[]):kF c (a++b)=kF c a++b:=by
 cases a with
 |nil=>exact absurd rfl h
 |cons v r=>rfl
theorem qF {c k:UInt8} {a:List (List UInt8)} (h:a≠[]):kF c (pC k a)=pC k (kF c a):=by
 cases a with
 |nil=>exact absurd rfl h
 |cons v r=>
  cases r with
  |nil=>rfl
  |cons u r=>rfl
theorem yI:∀l,bA (l++[43])=bA l++[[]]
 |[]=>by decide
 |c::r=>by
  show bA (c::(r++[43]))=_;unfold bA;rw[yI r];split
  ·rfl
  ·exact uF (jY r)
theorem yH {k:UInt8} (hk:k≠43):∀l,bA (l++[k])=pC k (bA l)
 |[]=>by show bA [k]=_;unfold bA;rw[if_neg hk];rfl
 |c::r=>by
  show bA (c::(r++[k]))=_;unfold bA;rw[yH hk r];split
  ·rw[nR (jY r)]
  ·exact qF (jY r)
theorem JB {c:UInt8} (h:kC c=true):c≠43:=by
 rintro rfl
 revert h
 decide
theorem wD {k:UInt8} {n:Int} (hk:k≠43) (hn:n≤100):∀c∈dB k n,c≠43:=by
 intro c hc;unfold dB at hc;split at hc
 ·cases hc
 ·split at hc
  ·simp at hc;rw[hc];exact hk
  ·rcases List.mem_cons.1 hc with h|h
   ·rw[h];exact hk
   ·exact JB (iW _ (by omega) c h)
theorem uU {m:M} (h:M.ok m=true):∀c∈eY m,c≠43:=by
 intro c hc;by_cases h0:dH m=[]
 ·rw[kL h h0]at hc;simp at hc;rw[hc];decide
 ·rw[fV h h0,iZ]at hc;obtain⟨x1,x2,y1,y2,d1,d2,e1,e2⟩:=M.ok_iff.1 h;simp only[List.mem_append]at hc;rcases hc with((hc|hc)|hc)|hc
  ·exact wD (by decide) (by omega) c hc
  ·exact wD (by decide) (by omega) c hc
  ·exact wD (by decide) (by omega) c hc
  ·exact wD (by decide) (by omega) c hc
theorem LT {t:T} (hc:t.c≤100) (h:M.ok t.m=true):∀c∈fQ t,c≠43:=by
 intro c h1;have hd:∀c∈yL t.c,c≠43:=fun c h2=>JB (iW _ (by omega) c h2)
 unfold fQ at h1;split at h1
 ·exact hd c h1
 ·split at h1
  ·exact uU h c h1
  ·rcases List.mem_append.1 h1 with q|q
   ·exact hd c q
   ·exact uU h c q
theorem zB:∀{ws:List (List UInt8)} (h:ws≠[]) (w:List UInt8),GH (ws++[w])=GH ws++43::w
 |[],h,_=>absurd rfl h
 |[v],_,w=>rfl
 |v::u::r,_,w=>by show GH (v::((u::r)++[w]))=_;rw[oG (by simp),zB (ws:=u::r) (by simp) w,oG (w:=v) (r:=u::r) (by simp),List.append_assoc];rfl
def mJ (f:Nat→T):Nat→List (List UInt8)
 |0=>[]
 |k+1=>mJ f k++[fQ (f k)]
theorem fR (f:Nat→T):∀k,(mJ f k).length=k
 |0=>rfl
 |k+1=>by unfold mJ;simp[fR f k]
theorem oI (f:Nat→T):∀k,GH (mJ f k)=qO f k
 |0=>rfl
 |k+1=>by
  by_cases h:k=0
  ·subst h;simp[mJ,qO,GH]
  ·have hne:mJ f k≠[]:=fun e=>h (by have:=fR f k;rw[e]at this;simpa using this.symm);unfold mJ qO;rw[zB hne,oI f k,if_neg h];simp
theorem DZ {f:Nat→T}:∀k,(∀i,i<k→(f i).c≤100∧M.ok (f i).m=true)→∀w∈mJ f k,∀c∈w,c≠43
 |0,_=>fun w hw=>by cases hw
 |k+1,h=>fun w hw=>by
  unfold mJ at hw;rcases List.mem_append.1 hw with q|q
  ·exact DZ k (fun i hi=>h i (by omega)) w q
  ·simp at q;rw[q];exact LT (h k (by omega)).1 (h k (by omega)).2
theorem yJ {n:Nat} {f:Nat→T} (h:aK n f=true) (h0:n≠0):bA (cY n f)=mJ f n:=by have hk:=(cT h).2;rw[oX h h0,←oI,IJ (fun e=>h0 (by have:=fR f n;rw[e]at this;simpa using this.symm)) (DZ n (fun i hi=>⟨(hk i hi).1.2,(hk i hi).2⟩))]
open Go.RowKit
def oQ (n:Int) (c:UInt8):Int:=if n<1000 then n*10+((c.toNat:Int)-48)else n
def nv (d:List UInt8):Int:=d.foldl oQ 0
theorem wL (d:List UInt8) (c:UInt8):nv (d++[c])=oQ (nv d) c:=by unfold nv;rw[List.foldl_append];rfl
theorem UA (d:List UInt8) (h:∀c∈d,kC c=true):0≤nv d∧nv d≤10000:=by
 have key:∀(d:List UInt8) (n:Int),(∀c∈d,kC c=true)→0≤n∧n≤10000→0≤d.foldl oQ n∧d.foldl oQ n≤10000:=fun d=>by
  induction d with
  |nil=>intro n _ h;exact h
  |cons c d ih=>
   intro n h hn;rw[List.foldl_cons];refine ih _ (fun x hx=>h x (by simp[hx])) ?_;have hc:=of_decide_eq_true (h c (by simp))
   unfold oQ;split<;>omega
 exact key d 0 h ⟨by omega,by omega⟩
theorem JL (l:List UInt8):∀c∈cB l,kC c=true:=fun c hc=>by
 unfold cB at hc;induction l with
 |nil=>cases hc
 |cons x l ih=>
  rw[List.takeWhile_cons]at hc;split at hc
  ·rename_i hx;rcases List.mem_cons.1 hc with e|e
   ·rw[e];exact hx
   ·exact ih e
  ·cases hc
def qN (c:UInt8):Bool:=decide (c.toNat=120∨c.toNat=121∨c.toNat=100∨c.toNat=101)
def bO (c:UInt8) (n:Int) (t:T):T:=if c.toNat=120 then⟨t.c,⟨n,t.m.y,t.m.d,t.m.e⟩⟩else if c.toNat=121 then⟨t.c,⟨t.m.x,n,t.m.d,t.m.e⟩⟩else if c.toNat=100 then⟨t.c,⟨t.m.x,t.m.y,n,t.m.e⟩⟩else⟨t.c,⟨t.m.x,t.m.y,t.m.d,n⟩⟩
def QC (r:List UInt8):Int:=if(cB r).length=0 then 1 else nv (cB r)
def zE:Nat→T→List UInt8→T
 |0,t,_=>t
 |_+1,t,[]=>t
 |f+1,t,c::r=>if qN c=true then zE f (bO c (QC r) t) (r.drop (cB r).length)else⟨0,⟨0,0,0,0⟩⟩
theorem qW (f:Nat) (t:T):zE f t []=t:=by cases f<;>rfl
theorem qX {f:Nat} {t:T} {c:UInt8} {r:List UInt8} (h:qN c=true):zE (f+1) t (c::r)=zE f (bO c (QC r) t) (r.drop (cB r).length):=by show(if qN c=true then _ else _)=_;rw[if_pos h]
theorem JP {f:Nat} {t:T} {c:UInt8} {r:List UInt8} (h:qN c=false):zE (f+1) t (c::r)=⟨0,⟨0,0,0,0⟩⟩:=by show(if qN c=true then _ else _)=_;rw[if_neg (by rw[h];simp)]
def PF (s:List UInt8):T:=⟨if 0<(cB s).length then nv (cB s)else 1,⟨0,0,0,0⟩⟩
def gX (s:List UInt8):T:=zE (s.drop (cB s).length).length (PF s) (s.drop (cB s).length)
theorem RW {n:Nat} (h2:2≤n) (hn:n≤15):nv (Lib.decDigits n)=(n:Int):=by
 rcases(show n=2∨n=3∨n=4∨n=5∨n=6∨n=7∨n=8∨n=9∨n=10∨n=11∨n=12∨n=13∨n=14∨n=15 by omega)with rfl|rfl|rfl|rfl|rfl|rfl|rfl|rfl|rfl|rfl|rfl|rfl|rfl|rfl
 all_goals first
  |(rw[dW (by omega)];rfl)
  |(rw[eB (by omega),dW (by omega)];rfl)
theorem CI (n:Nat):(Lib.decDigits n).length≠0:=fun h=>AW n (List.length_eq_zero_iff.1 h)
theorem jU {c:UInt8} (hc:qN c=true) {n:Int} (h0:0≤n) (h1:n≤15) {t:List UInt8} (hD:xQ t) (q:T):∀f,(dB c n++t).length≤f→∃f',t.length≤f'∧zE f q (dB c n++t)=zE f' (if n=0 then q else bO c n q) t:=fun f hf=>by
 by_cases hz:n=0
 ·subst hz;rw[yZ,List.nil_append]at hf⊢;exact⟨f,hf,by rw[if_pos rfl]⟩
 ·rw[if_neg hz];by_cases ho:n=1
  ·subst ho;rw[CS,List.singleton_append]at hf⊢;obtain⟨f',rfl⟩:∃f',f=f'+1:=⟨f-1,by simp at hf;omega⟩
   have e:cB t=[]:=fN (d:=[]) (fun _ h=>by cases h) hD;refine⟨f',by simp at hf;omega,?_⟩;rw[qX hc];unfold QC;rw[e];rfl
  ·obtain⟨m,rfl⟩:∃m:Nat,n=(m:Int):=⟨n.toNat,by omega⟩
   rw[jI (by omega),List.cons_append]at hf⊢;obtain⟨f',rfl⟩:∃f',f=f'+1:=⟨f-1,by simp at hf;omega⟩
   have e:cB (Lib.decDigits m++t)=Lib.decDigits m:=fN (iW m (by omega)) hD;refine⟨f',by simp at hf;omega,?_⟩;rw[qX hc];unfold QC;rw[e,if_neg (CI m),RW (by omega) (by omega)];simp
theorem LR {m:M} (h:M.ok m=true) (hne:dH m≠[]):(gX (dH m)).m=m:=by
 obtain⟨x1,x2,y1,y2,d1,d2,e1,e2⟩:=M.ok_iff.1 h;have a4:xQ []:=fun c r e=>by cases e
 have t3:xQ (dB 101 m.e++[]):=cX (P:=fun c=>kC c=false) (by decide) a4;have t2:xQ (dB 100 m.d++(dB 101 m.e++[])):=cX (P:=fun c=>kC c=false) (by decide) t3
 have t1:xQ (dB 121 m.y++(dB 100 m.d++(dB 101 m.e++[]))):=cX (P:=fun c=>kC c=false) (by decide) t2;have t0:xQ (dB 120 m.x++(dB 121 m.y++(dB 100 m.d++(dB 101 m.e++[])))):=cX (P:=fun c=>kC c=false) (by decide) t1
 have e:dH m=dB 120 m.x++(dB 121 m.y++(dB 100 m.d++(dB 101 m.e++[]))):=by rw[iZ];simp
 have l0:cB (dH m)=[]:=by rw[e];exact fN (d:=[]) (fun _ h=>by cases h) t0
 unfold gX PF;rw[l0];show(zE (dH m).length ⟨1,⟨0,0,0,0⟩⟩ (dH m)).m=m
 rw[e];obtain⟨f1,k1,q1⟩:=jU (c:=120) (by decide) x1 x2 t1 ⟨1,⟨0,0,0,0⟩⟩ _ (Nat.le_refl _);rw[q1];obtain⟨f2,k2,q2⟩:=jU (c:=121) (by decide) y1 y2 t2 (if m.x=0 then⟨1,⟨0,0,0,0⟩⟩else bO 120 m.x ⟨1,⟨0,0,0,0⟩⟩) f1 k1;rw[q2];obtain⟨f3,k3,q3⟩:=jU (c:=100) (by decide) d1 d2 t3 (if m.y=0 then(if m.x=0 then⟨1,⟨0,0,0,0⟩⟩else bO 120 m.x ⟨1,⟨0,0,0,0⟩⟩)else bO 121 m.y (if m.x=0 then⟨1,⟨0,0,0,0⟩⟩else bO 120 m.x ⟨1,⟨0,0,0,0⟩⟩)) f2 k2;rw[q3];obtain⟨f4,k4,q4⟩:=jU (c:=101) (by decide) e1 e2 a4 (if m.d=0 then(if m.y=0 then(if m.x=0 then⟨1,⟨0,0,0,0⟩⟩else bO 120 m.x ⟨1,⟨0,0,0,0⟩⟩)else bO 121 m.y (if m.x=0 then⟨1,⟨0,0,0,0⟩⟩else bO 120 m.x ⟨1,⟨0,0,0,0⟩⟩))else bO 100 m.d (if m.y=0 then(if m.x=0 then⟨1,⟨0,0,0,0⟩⟩else bO 120 m.x ⟨1,⟨0,0,0,0⟩⟩)else bO 121 m.y (if m.x=0 then⟨1,⟨0,0,0,0⟩⟩else bO 120 m.x ⟨1,⟨0,0,0,0⟩⟩))) f3 k3;rw[q4,qW];rcases m with⟨x,y,d,z⟩
 simp only;have s120:∀n t,bO 120 n t=⟨t.c,⟨n,t.m.y,t.m.d,t.m.e⟩⟩:=fun n t=>rfl
 have s121:∀n t,bO 121 n t=⟨t.c,⟨t.m.x,n,t.m.d,t.m.e⟩⟩:=fun n t=>rfl;have s100:∀n t,bO 100 n t=⟨t.c,⟨t.m.x,t.m.y,n,t.m.e⟩⟩:=fun n t=>rfl
 have s101:∀n t,bO 101 n t=⟨t.c,⟨t.m.x,t.m.y,t.m.d,n⟩⟩:=fun n t=>rfl;simp only[s120,s121,s100,s101];by_cases hx:x=0<;>by_cases hy:y=0<;>by_cases hd:d=0<;>by_cases he:z=0<;>simp[hx,hy,hd,he]
theorem SL {m:M} (h:M.ok m=true) {s:List UInt8} (hs:eY m=s):(gX s).m=m:=by
 subst hs;by_cases h0:dH m=[]
 ·rw[kL h h0];have e:m=⟨0,0,0,0⟩:=by
   by_cases hz:m.x=0∧m.y=0∧m.d=0∧m.e=0
   ·rcases m with⟨x,y,d,e⟩
    obtain⟨rfl,rfl,rfl,rfl⟩:=hz;rfl
   ·obtain⟨c,r,e,_⟩:=kK h hz;rw[e]at h0;cases h0
  rw[e];have e2:(gX [49]).m=⟨0,0,0,0⟩:=by kernel_rfl
  exact e2
 ·rw[fV h h0];exact LR h h0
theorem uT (s:List UInt8):lN s=if s.length≤40∧(M.ok (gX s).m=true∧eY (gX s).m=s)then((gX s).m,true)else(⟨0,0,0,0⟩,false):=
 OC fun m hm hs=>SL hm hs
end Go.Proofs.YtkcmamepoplcdaaGreatDoor
namespace Go.Proofs.YtkcmamepoplcdaaGreatDoor
set_option linter.unusedVariables false
theorem TZ {m:M} (h:M.ok m=true) (k:Int) {f:Nat} (hf:(dH m).length≤f):zE f ⟨k,⟨0,0,0,0⟩⟩ (dH m)=⟨k,m⟩:=by
 obtain⟨x1,x2,y1,y2,d1,d2,e1,e2⟩:=M.ok_iff.1 h;have a4:xQ []:=fun c r e=>by cases e
 have t3:xQ (dB 101 m.e++[]):=cX (P:=fun c=>kC c=false) (by decide) a4;have t2:xQ (dB 100 m.d++(dB 101 m.e++[])):=cX (P:=fun c=>kC c=false) (by decide) t3
 have t1:xQ (dB 121 m.y++(dB 100 m.d++(dB 101 m.e++[]))):=cX (P:=fun c=>kC c=false) (by decide) t2;have e:dH m=dB 120 m.x++(dB 121 m.y++(dB 100 m.d++(dB 101 m.e++[]))):=by rw[iZ];simp
 rw[e]at hf⊢;obtain⟨f1,k1,q1⟩:=jU (c:=120) (by decide) x1 x2 t1 ⟨k,⟨0,0,0,0⟩⟩ _ hf;rw[q1];generalize hA:(if m.x=0 then(⟨k,⟨0,0,0,0⟩⟩:T)else bO 120 m.x ⟨k,⟨0,0,0,0⟩⟩)=A;obtain⟨f2,k2,q2⟩:=jU (c:=121) (by decide) y1 y2 t2 A f1 k1;rw[q2];generalize hB:(if m.y=0 then A else bO 121 m.y A)=B;obtain⟨f3,k3,q3⟩:=jU (c:=100) (by decide) d1 d2 t3 B f2 k2;rw[q3];generalize hC:(if m.d=0 then B else bO 100 m.d B)=C;obtain⟨f4,k4,q4⟩:=jU (c:=101) (by decide) e1 e2 a4 C f3 k3;rw[q4,qW];subst hC hB hA;rcases m with⟨x,y,d,z⟩
 simp only;have s120:∀n t,bO 120 n t=⟨t.c,⟨n,t.m.y,t.m.d,t.m.e⟩⟩:=fun n t=>rfl
 have s121:∀n t,bO 121 n t=⟨t.c,⟨t.m.x,n,t.m.d,t.m.e⟩⟩:=fun n t=>rfl;have s100:∀n t,bO 100 n t=⟨t.c,⟨t.m.x,t.m.y,n,t.m.e⟩⟩:=fun n t=>rfl
 have s101:∀n t,bO 101 n t=⟨t.c,⟨t.m.x,t.m.y,t.m.d,n⟩⟩:=fun n t=>rfl;simp only[s120,s121,s100,s101];by_cases hx:x=0<;>by_cases hy:y=0<;>by_cases hd:d=0<;>by_cases he:z=0<;>simp[hx,hy,hd,he]
theorem wK {n:Nat} (h:n<10):nv (Lib.decDigits n)=(n:Int):=by
 rw[dW h];show oQ 0 _=_
 unfold oQ;rw[if_pos (by omega),UInt8.toNat_ofNat'];omega
theorem OI {n:Nat} (h:n<100):nv (Lib.decDigits n)=(n:Int):=by
 by_cases h1:n<10
 ·exact wK h1
 ·rw[eB h1,wL,wK (n:=n / 10) (by omega)];unfold oQ;rw[if_pos (by omega),UInt8.toNat_ofNat'];omega
theorem OJ {n:Nat} (h:n<1000):nv (Lib.decDigits n)=(n:Int):=by
 by_cases h1:n<10
 ·exact wK h1
 ·rw[eB h1,wL,OI (n:=n / 10) (by omega)];unfold oQ;rw[if_pos (by omega),UInt8.toNat_ofNat'];omega
theorem sK {m:M} (h:M.ok m=true):xQ (dH m):=by
 have a4:xQ []:=fun c r e=>by cases e
 have t3:xQ (dB 101 m.e++[]):=cX (P:=fun c=>kC c=false) (by decide) a4;have t2:xQ (dB 100 m.d++(dB 101 m.e++[])):=cX (P:=fun c=>kC c=false) (by decide) t3
 have t1:xQ (dB 121 m.y++(dB 100 m.d++(dB 101 m.e++[]))):=cX (P:=fun c=>kC c=false) (by decide) t2;have t0:xQ (dB 120 m.x++(dB 121 m.y++(dB 100 m.d++(dB 101 m.e++[])))):=cX (P:=fun c=>kC c=false) (by decide) t1
 have e:dH m=dB 120 m.x++(dB 121 m.y++(dB 100 m.d++(dB 101 m.e++[]))):=by rw[iZ];simp
 rw[e];exact t0
theorem sZ {d:List UInt8} (hd:∀c∈d,kC c=true) {m:M} (h:M.ok m=true):gX (d++dH m)=⟨if 0<d.length then nv d else 1,m⟩:=by have hl:cB (d++dH m)=d:=fN hd (sK h);unfold gX PF;rw[hl,List.drop_left];exact TZ h _ (Nat.le_refl _)
theorem AH {t:T} (h1:1≤t.c) (h2:t.c≤100) (h:M.ok t.m=true):gX (fQ t)=t:=by
 have hd:∀c∈yL t.c,kC c=true:=fun c hc=>iW _ (by omega) c hc;have hp:0<(yL t.c).length:=Nat.pos_of_ne_zero (CI _)
 have hv:nv (yL t.c)=t.c:=by unfold yL;rw[OJ (by omega)];omega
 unfold fQ;by_cases h0:t.m.x=0∧t.m.y=0∧t.m.d=0∧t.m.e=0
 ·rw[if_pos h0];have e0:dH t.m=[]:=by obtain⟨a,b,c,d⟩:=h0;rw[iZ,a,b,c,d];rfl
  have:=sZ hd h;rw[e0,List.append_nil,if_pos hp,hv]at this;exact this
 ·rw[if_neg h0];obtain⟨c,r,e,_⟩:=kK h h0;have hne:dH t.m≠[]:=by rw[e];simp
  rw[fV h hne];by_cases hc:t.c=1
  ·rw[if_pos hc];have:=sZ (d:=[]) (fun _ q=>by cases q) h
   rw[List.nil_append]at this;rw[this];rcases t with⟨tc,tm⟩
   simp at hc;simp[hc]
  ·rw[if_neg hc,sZ hd h,if_pos hp,hv]
def wT (s:List UInt8):List T:=(bA s).map gX
def eL (s:List UInt8):List T×Bool:=if s=[48]then([],true)else if s.length≤400∧(aK (wT s).length (lf (wT s))=true∧cY (wT s).length (lf (wT s))=s)then(wT s,true)else([],false)
theorem pR:eL [48]=([],true):=by unfold eL;rw[if_pos rfl]
theorem sN {s:List UInt8} (h0:s≠[48]) (h1:s.length≤400) (h2:aK (wT s).length (lf (wT s))=true) (h3:cY (wT s).length (lf (wT s))=s):eL s=(wT s,true):=by unfold eL;rw[if_neg h0,if_pos ⟨h1,h2,h3⟩]
theorem oW {s:List UInt8} (h0:s≠[48]) (h:¬(s.length≤400∧(aK (wT s).length (lf (wT s))=true∧cY (wT s).length (lf (wT s))=s))):eL s=([],false):=by unfold eL;rw[if_neg h0,if_neg h]
theorem xL (s:List UInt8):(wT s).length=(bA s).length:=by unfold wT;simp
def UB (t:T):Prop:=(1≤t.c∧t.c≤100)∧M.ok t.m=true
def SX (w:List UInt8) (t:T) (b:Bool):Prop:=(b=true→UB t→fQ t=w)∧∀t0,UB t0→fQ t0=w→t=t0∧b=true
theorem DA {L:List T} {i:Nat} {t:T} (h:L[i]? =some t):lf L i=t:=by unfold lf;rw[List.getD_eq_getElem?_getD,h];rfl
theorem pG (f:Nat→T):∀{k i:Nat},i<k→(mJ f k)[i]? =some (fQ (f i))
 |0,i,h=>by omega
 |k+1,i,h=>by
  unfold mJ;by_cases e:i<k
  ·rw[List.getElem?_append_left (by rw[fR];exact e),pG f e]
  ·have:i=k:=by omega
   subst this;rw[List.getElem?_append_right (by rw[fR];omega),fR];simp
theorem sM {s:List UInt8} (h0:s≠[48]) (h:(eL s).2=true):s.length≤400∧∃(n:Nat) (f:Nat→T),n≠0∧aK n f=true∧bA s=mJ f n∧(∀i,i<n→UB (f i))∧(wT s).length=n∧(∀i,i<n→lf (wT s) i=f i):=by
 by_cases q:s.length≤400∧(aK (wT s).length (lf (wT s))=true∧cY (wT s).length (lf (wT s))=s)
 ·obtain⟨q1,q2,q3⟩:=q;have hne:(wT s).length≠0:=by rw[xL];intro e;exact jY s (List.length_eq_zero_iff.1 e)
  refine⟨q1,_,_,hne,q2,?_,fun i hi=>(cT q2).2 i hi,rfl,fun i _=>rfl⟩;have:=yJ q2 hne
  rw[q3]at this;exact this
 ·rw[oW h0 q]at h;cases h
theorem KI {s:List UInt8} {ts:List T} (h0:s≠[48]) (hs:s.length≤400) (hl:ts.length=(bA s).length) (hr:∀(i:Nat) (w:List UInt8) (t:T),(bA s)[i]? =some w→ts[i]? =some t→SX w t true) (hok:aK ts.length (lf ts)=true):eL s=(ts,true):=by
 have hts:wT s=ts:=by
  apply List.ext_getElem?;intro i;unfold wT;rw[List.getElem?_map];by_cases hi:i<ts.length
  ·obtain⟨t,ht⟩:∃t,ts[i]? =some t:=⟨_,List.getElem?_eq_getElem hi⟩
   obtain⟨w,hw⟩:∃w,(bA s)[i]? =some w:=⟨_,List.getElem?_eq_getElem (by omega)⟩
   have hk:UB t:=by have:=(cT hok).2 i hi;rw[DA ht]at this;exact this
   have e:=(hr i w t hw ht).1 rfl hk;rw[hw,ht];show some (gX w)=some t
   rw[←e,AH hk.1.1 hk.1.2 hk.2]
  ·rw[List.getElem?_eq_none (by omega),List.getElem?_eq_none (by omega)];rfl
 have hn:ts.length≠0:=by rw[hl];intro e;exact jY s (List.length_eq_zero_iff.1 e)
 have hw:bA s=mJ (lf ts) ts.length:=by
  apply List.ext_getElem?;intro i;by_cases hi:i<ts.length
  ·obtain⟨t,ht⟩:∃t,ts[i]? =some t:=⟨_,List.getElem?_eq_getElem hi⟩
   obtain⟨w,hw⟩:∃w,(bA s)[i]? =some w:=⟨_,List.getElem?_eq_getElem (by omega)⟩
   have hk:UB t:=by have:=(cT hok).2 i hi;rw[DA ht]at this;exact this
   have e:=(hr i w t hw ht).1 rfl hk;rw[hw,pG _ hi,DA ht,e]
  ·rw[List.getElem?_eq_none (by omega),List.getElem?_eq_none (by rw[fR];omega)]
 have ht:cY ts.length (lf ts)=s:=by rw[oX hok hn,←oI,←hw,BF]
 have:=sN h0 hs (by rw[hts];exact hok) (by rw[hts];exact ht);rw[hts]at this;exact this
theorem KJ {s:List UInt8} {i:Nat} {w:List UInt8} {t:T} (h0:s≠[48]) (hw:(bA s)[i]? =some w) (hr:SX w t false):eL s=([],false):=by
 cases h:(eL s).2
 ·unfold eL at h⊢;rw[if_neg h0]at h⊢;split at h
  ·cases h
  ·rename_i q;rw[if_neg q]
 ·obtain⟨_,n,f,hn,hok,hc,hk,_,_⟩:=sM h0 h;have hi:i<n:=by have:=(List.getElem?_eq_some_iff.1 hw).1;rw[hc,fR]at this;exact this
  rw[hc,pG f hi]at hw;cases hw;exact absurd (hr.2 (f i) (hk i hi) rfl).2 (by simp)
theorem KL {s:List UInt8} {ts:List T} (h0:s≠[48]) (hl:ts.length=(bA s).length) (hr:∀(i:Nat) (w:List UInt8) (t:T),(bA s)[i]? =some w→ts[i]? =some t→SX w t true) (hok:aK ts.length (lf ts)=false):eL s=([],false):=by
 cases h:(eL s).2
 ·unfold eL at h⊢;rw[if_neg h0]at h⊢;split at h
  ·cases h
  ·rename_i q;rw[if_neg q]
 ·obtain⟨_,n,f,hn,hok',hc,hk,hl',hf⟩:=sM h0 h;have hts:wT s=ts:=by
   apply List.ext_getElem?;intro i;by_cases hi:i<ts.length
   ·obtain⟨t,ht⟩:∃t,ts[i]? =some t:=⟨_,List.getElem?_eq_getElem hi⟩
    obtain⟨w,hw⟩:∃w,(bA s)[i]? =some w:=⟨_,List.getElem?_eq_getElem (by omega)⟩
    have hin:i<n:=by have:=(List.getElem?_eq_some_iff.1 hw).1;rw[hc,fR]at this;exact this
    have hw':=hw;rw[hc,pG f hin]at hw';have e:=(hr i w t hw ht).2 (f i) (hk i hin) (by cases hw';rfl)
    have hx:(wT s)[i]? =some (lf (wT s) i):=by unfold lf;rw[List.getD_eq_getElem?_getD,List.getElem?_eq_getElem (by omega)];rfl
    rw[hx,hf i hin,ht,e.1]
   ·rw[List.getElem?_eq_none (by rw[xL];omega),List.getElem?_eq_none (by omega)]
  have h2:aK (wT s).length (lf (wT s))=true:=by
   unfold eL at h;rw[if_neg h0]at h;split at h
   ·rename_i q;exact q.2.1
   ·cases h
  rw[hts,hok]at h2;cases h2
open Go.RowKit
theorem DH {f g:Nat→T} {n i:Nat} (h:∀i,i<n→f i=g i) (hi:i<n):fO f i=fO g i:=by
 unfold fO;rw[h i hi];by_cases e:i=0
 ·subst e;simp
 ·rw[h (i-1) (by omega)]
theorem zS {f g:Nat→T} {n:Nat} (h:∀i,i<n→f i=g i):aK n f=aK n g:=by unfold aK;congr 1;apply propext;exact⟨fun q=>⟨q.1,fun i hi=>by rw[←DH h hi];exact q.2 i hi⟩,fun q=>⟨q.1,fun i hi=>by rw[DH h hi];exact q.2 i hi⟩⟩
theorem DY {f g:Nat→T}:∀{n:Nat},(∀i,i<n→f i=g i)→mJ f n=mJ g n
 |0,_=>rfl
 |n+1,h=>by unfold mJ;rw[DY (n:=n) (fun i hi=>h i (by omega)),h n (by omega)]
theorem OW {f g:Nat→T} {n:Nat} (h:∀i,i<n→f i=g i):cY n f=cY n g:=by unfold cY;rw[zS h,←oI,←oI,DY h]
theorem OU {n:Nat} {f:Nat→T} (h:aK n f=true) (hl:(cY n f).length≤400):∃L,eL (cY n f)=(L,true)∧L.length=n∧∀i,i<n→lf L i=f i:=by
 by_cases h0:n=0
 ·subst h0;rw[mV h rfl,pR];exact⟨[],rfl,rfl,fun i hi=>by omega⟩
 ·have hk:=(cT h).2;have hc:=yJ h h0
  have hw:∀i,i<n→(wT (cY n f))[i]? =some (f i):=fun i hi=>by
   unfold wT;rw[hc,List.getElem?_map,pG f hi];show some (gX (fQ (f i)))=_
   rw[AH (hk i hi).1.1 (hk i hi).1.2 (hk i hi).2]
  have hwl:(wT (cY n f)).length=n:=by rw[xL,hc,fR]
  have hf:∀i,i<n→lf (wT (cY n f)) i=f i:=fun i hi=>DA (hw i hi);have hne:cY n f≠[48]:=fun e=>by
   have h2:=hw 0 (by omega);rw[e]at h2;have h3:(wT [48])[0]? =some ⟨0,⟨0,0,0,0⟩⟩:=by kernel_rfl
   rw[h3]at h2;have:=(hk 0 (by omega)).1.1
   rw[←Option.some.inj h2]at this;exact absurd this (by decide)
  refine⟨wT (cY n f),sN hne hl ?_ ?_,hwl,hf⟩
  ·rw[hwl,zS hf];exact h
  ·rw[hwl,OW hf]
end Go.Proofs.YtkcmamepoplcdaaGreatDoor
