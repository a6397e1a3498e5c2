/-
  Lines, as lists of bytes.
-/
import Derived.Test.YtkcmamepoplcdaaGreatDoorUad
namespace Go.Proofs.YtkcmamepoplcdaaGreatDoor
open Go.RowKit
set_option linter.unusedVariables false
def dP (k:Int):Nat:=if k=2∨k=3∨k=4∨k=5 then 3 else if k=6∨k=7 then 2 else if k=1∨k=8 then 1 else 0
def eY (k:Int):List UInt8:=if k=1 then[115,101,116]else if k=2 then[97,100,100]else if k=3 then[109,117,108]else if k=4 then[97,112,97,114,116]else if k=5 then[100,111]else if k=6 then[114,111,117,110,100]else if k=7 then[98,97,99,107]else[115,104,111,119]
def cB (x:Int):UInt8:=UInt8.ofNat (65+x).toNat
def pL (k to a b:Int) (n:Nat) (f:Nat→T):Bool:=
 decide ((1≤k∧k≤8)∧(0≤to∧to≤5)∧(0≤a∧a≤5)∧(0≤b∧b≤5)∧aJ n f=true∧(2≤dP k∨a=0)∧(3≤dP k∨b=0)∧(k=1∨n=0))
def NR (to a b:Int):List (List UInt8):=[[cB to],[cB a],[cB b]]
def NS (k to a b:Int) (n:Nat) (f:Nat→T):List (List UInt8):=eY k::((NR to a b).take (dP k)++if k=1 then[bQ n f]else[])
def eO (k to a b:Int) (n:Nat) (f:Nat→T):List UInt8:=Lib.join (NS k to a b n f) [32]
def dH (k to a b:Int) (n:Nat) (f:Nat→T):List UInt8:=if pL k to a b n f=true∧(eO k to a b n f).length≤400 then eO k to a b n f else[]
theorem aP {k to a b:Int} {n:Nat} {f:Nat→T} (h:pL k to a b n f=false):dH k to a b n f=[]:=by unfold dH;rw[if_neg (fun q=>by rw[h]at q;cases q.1)]
theorem oL {k to a b:Int} {n:Nat} {f:Nat→T} (h:¬(eO k to a b n f).length≤400):dH k to a b n f=[]:=by unfold dH;rw[if_neg (fun q=>h q.2)]
theorem gB {k to a b:Int} {n:Nat} {f:Nat→T} (h:pL k to a b n f=true) (hl:(eO k to a b n f).length≤400):dH k to a b n f=eO k to a b n f:=by unfold dH;rw[if_pos ⟨h,hl⟩]
theorem aQ {k to a b:Int} {n:Nat} {f:Nat→T} (h:¬((1≤k∧k≤8)∧(0≤to∧to≤5)∧(0≤a∧a≤5)∧(0≤b∧b≤5)∧aJ n f=true∧(2≤dP k∨a=0)∧(3≤dP k∨b=0)∧(k=1∨n=0))):pL k to a b n f=false:=decide_eq_false h
theorem DS (to a b:Int) (n:Nat) (f:Nat→T):eO 1 to a b n f=[115,101,116]++[32]++[cB to]++[32]++bQ n f:=by show Lib.join [[115,101,116],[cB to],bQ n f] [32]=_;simp[Lib.join_cons,Lib.joinTail]
theorem NP (to a b:Int) (n:Nat) (f:Nat→T):eO 8 to a b n f=[115,104,111,119]++[32]++[cB to]:=by show Lib.join [[115,104,111,119],[cB to]] [32]=_;simp[Lib.join_cons,Lib.joinTail]
theorem NN (to a b:Int) (n:Nat) (f:Nat→T):eO 6 to a b n f=[114,111,117,110,100]++[32]++[cB to]++[32]++[cB a]:=by show Lib.join [[114,111,117,110,100],[cB to],[cB a]] [32]=_;simp[Lib.join_cons,Lib.joinTail]
theorem NO (to a b:Int) (n:Nat) (f:Nat→T):eO 7 to a b n f=[98,97,99,107]++[32]++[cB to]++[32]++[cB a]:=by show Lib.join [[98,97,99,107],[cB to],[cB a]] [32]=_;simp[Lib.join_cons,Lib.joinTail]
theorem NJ (to a b:Int) (n:Nat) (f:Nat→T):eO 2 to a b n f=[97,100,100]++[32]++[cB to]++[32]++[cB a]++[32]++[cB b]:=by show Lib.join [[97,100,100],[cB to],[cB a],[cB b]] [32]=_;simp[Lib.join_cons,Lib.joinTail]
theorem NK (to a b:Int) (n:Nat) (f:Nat→T):eO 3 to a b n f=[109,117,108]++[32]++[cB to]++[32]++[cB a]++[32]++[cB b]:=by show Lib.join [[109,117,108],[cB to],[cB a],[cB b]] [32]=_;simp[Lib.join_cons,Lib.joinTail]
theorem NL (to a b:Int) (n:Nat) (f:Nat→T):eO 4 to a b n f=[97,112,97,114,116]++[32]++[cB to]++[32]++[cB a]++[32]++[cB b]:=by show Lib.join [[97,112,97,114,116],[cB to],[cB a],[cB b]] [32]=_;simp[Lib.join_cons,Lib.joinTail]
theorem NM (to a b:Int) (n:Nat) (f:Nat→T):eO 5 to a b n f=[100,111]++[32]++[cB to]++[32]++[cB a]++[32]++[cB b]:=by show Lib.join [[100,111],[cB to],[cB a],[cB b]] [32]=_;simp[Lib.join_cons,Lib.joinTail]
end Go.Proofs.YtkcmamepoplcdaaGreatDoor
namespace Go.Proofs.YtkcmamepoplcdaaGreatDoor
set_option linter.unusedVariables false
def tR (c:UInt8):List (List UInt8)→List (List UInt8)
 |[]=>[[c]]
 |h::t=>(c::h)::t
def bC:List UInt8→List (List UInt8)
 |[]=>[[]]
 |c::r=>if c=43 then[]::bC r else tR c (bC r)
theorem tS (c:UInt8) (r:List UInt8):bC (c::r)=if c=43 then[]::bC r else tR c (bC r):=rfl
def AW:List (List UInt8)→List UInt8
 |[]=>[]
 |[w]=>w
 |w::v::r=>w++43::AW (v::r)
theorem lN {w:List UInt8} {r:List (List UInt8)} (h:r≠[]):AW (w::r)=w++43::AW r:=by
 cases r with
 |nil=>exact absurd rfl h
 |cons v r=>rfl
theorem mI:∀l,bC l≠[]
 |[]=>by simp[bC]
 |c::r=>by
  unfold bC;split
  ·simp
  ·cases e:bC r<;>simp[tR]
theorem CR {c:UInt8} {ws:List (List UInt8)} (h:ws≠[]):AW (tR c ws)=c::AW ws:=by
 cases ws with
 |nil=>exact absurd rfl h
 |cons v r=>
  cases r with
  |nil=>rfl
  |cons u r=>rfl
theorem wA:∀l,AW (bC l)=l
 |[]=>rfl
 |c::r=>by
  unfold bC;split
  ·rename_i e;rw[lN (mI r),wA r,e];rfl
  ·rw[CR (mI r),wA r]
theorem tU:∀{w:List UInt8} (h:∀c∈w,c≠43),bC w=[w]
 |[],_=>rfl
 |c::r,h=>by unfold bC;rw[if_neg (h c (by simp)),tU (w:=r) (fun x hx=>h x (by simp[hx]))];rfl
theorem xC:∀{w:List UInt8} (h:∀c∈w,c≠43) (r:List UInt8),bC (w++43::r)=w::bC r
 |[],_,r=>by show bC (43::r)=_;rw[tS,if_pos rfl]
 |c::w,h,r=>by show bC (c::(w++43::r))=_;rw[tS,if_neg (h c (by simp)),xC (w:=w) (fun x hx=>h x (by simp[hx])) r];rfl
theorem BZ:∀{ws:List (List UInt8)} (h0:ws≠[]) (h:∀w∈ws,∀c∈w,c≠43),bC (AW ws)=ws
 |[],h0,_=>absurd rfl h0
 |[w],_,h=>tU (h w (by simp))
 |w::v::r,_,h=>by rw[lN (by simp),xC (h w (by simp)),BZ (ws:=v::r) (by simp) (fun x hx=>h x (by simp[hx]))]
theorem CQ {c:UInt8} (h:jK c=true):c≠43:=by
 rintro rfl
 revert h
 decide
theorem rP {k:UInt8} {n:Int} (hk:k≠43) (hn:n≤100):∀c∈cD k n,c≠43:=by
 intro c hc;unfold cD at hc;split at hc
 ·cases hc
 ·split at hc
  ·simp at hc;rw[hc];exact hk
  ·rcases List.mem_cons.1 hc with h|h
   ·rw[h];exact hk
   ·exact CQ (iJ _ (by omega) c h)
theorem qO {m:M} (h:M.ok m=true):∀c∈dS m,c≠43:=by
 intro c hc;by_cases h0:cG m=[]
 ·rw[jN h h0]at hc;simp at hc;rw[hc];decide
 ·rw[eS h h0,gN]at hc;obtain⟨x1,x2,y1,y2,d1,d2,e1,e2⟩:=M.ok_iff.1 h;simp only[List.mem_append]at hc;rcases hc with((hc|hc)|hc)|hc
  ·exact rP (by decide) (by omega) c hc
  ·exact rP (by decide) (by omega) c hc
  ·exact rP (by decide) (by omega) c hc
  ·exact rP (by decide) (by omega) c hc
theorem EU {t:T} (hc:t.c≤100) (h:M.ok t.m=true):∀c∈eP t,c≠43:=by
 intro c h1;have hd:∀c∈vJ t.c,c≠43:=fun c h2=>CQ (iJ _ (by omega) c h2)
 unfold eP at h1;split at h1
 ·exact hd c h1
 ·split at h1
  ·exact qO h c h1
  ·rcases List.mem_append.1 h1 with q|q
   ·exact hd c q
   ·exact qO h c q
theorem uE:∀{ws:List (List UInt8)} (h:ws≠[]) (w:List UInt8),AW (ws++[w])=AW ws++43::w
 |[],h,_=>absurd rfl h
 |[v],_,w=>rfl
 |v::u::r,_,w=>by show AW (v::((u::r)++[w]))=_;rw[lN (by simp),uE (ws:=u::r) (by simp) w,lN (w:=v) (r:=u::r) (by simp),List.append_assoc];rfl
def jV (f:Nat→T):Nat→List (List UInt8)
 |0=>[]
 |k+1=>jV f k++[eP (f k)]
theorem eD (f:Nat→T):∀k,(jV f k).length=k
 |0=>rfl
 |k+1=>by unfold jV;simp[eD f k]
theorem lP (f:Nat→T):∀k,AW (jV f k)=oD f k
 |0=>rfl
 |k+1=>by
  by_cases h:k=0
  ·subst h;simp[jV,oD,AW]
  ·have hne:jV f k≠[]:=fun e=>h (by have:=eD f k;rw[e]at this;simpa using this.symm);unfold jV oD;rw[uE hne,lP f k,if_neg h];simp
theorem yN {f:Nat→T}:∀k,(∀i,i<k→(f i).c≤100∧M.ok (f i).m=true)→∀w∈jV f k,∀c∈w,c≠43
 |0,_=>fun w hw=>by cases hw
 |k+1,h=>fun w hw=>by
  unfold jV at hw;rcases List.mem_append.1 hw with q|q
  ·exact yN k (fun i hi=>h i (by omega)) w q
  ·simp at q;rw[q];exact EU (h k (by omega)).1 (h k (by omega)).2
theorem tT {n:Nat} {f:Nat→T} (h:aJ n f=true) (h0:n≠0):bC (bQ n f)=jV f n:=by have hk:=(cN h).2;rw[nR h h0,←lP,BZ (fun e=>h0 (by have:=eD f n;rw[e]at this;simpa using this.symm)) (yN n (fun i hi=>⟨(hk i hi).1.2,(hk i hi).2⟩))]
open Go.RowKit
def qQ (n:Int) (c:UInt8):Int:=if n<1000 then n*10+((c.toNat:Int)-48)else n
def nv (d:List UInt8):Int:=d.foldl qQ 0
theorem xV (d:List UInt8) (c:UInt8):nv (d++[c])=qQ (nv d) c:=by unfold nv;rw[List.foldl_append];rfl
theorem CW (l:List UInt8):∀c∈cA l,jK c=true:=fun c hc=>by
 unfold cA at hc;induction l with
 |nil=>cases hc
 |cons x l ih=>
  rw[List.takeWhile_cons]at hc;split at hc
  ·rename_i hx;rcases List.mem_cons.1 hc with e|e
   ·rw[e];exact hx
   ·exact ih e
  ·cases hc
def GU (c:UInt8):Bool:=decide (c.toNat=120∨c.toNat=121∨c.toNat=100∨c.toNat=101)
def fN (c:UInt8) (n:Int) (t:T):T:=if c.toNat=120 then⟨t.c,⟨n,t.m.y,t.m.d,t.m.e⟩⟩else if c.toNat=121 then⟨t.c,⟨t.m.x,n,t.m.d,t.m.e⟩⟩else if c.toNat=100 then⟨t.c,⟨t.m.x,t.m.y,n,t.m.e⟩⟩else⟨t.c,⟨t.m.x,t.m.y,t.m.d,n⟩⟩
def NX (r:List UInt8):Int:=if(cA r).length=0 then 1 else nv (cA r)
def IB:Nat→T→List UInt8→T
 |0,t,_=>t
 |_+1,t,[]=>t
 |f+1,t,c::r=>if GU c=true then IB f (fN c (NX r) t) (r.drop (cA r).length)else⟨0,⟨0,0,0,0⟩⟩
theorem xR (f:Nat) (t:T):IB f t []=t:=by cases f<;>rfl
theorem xS {f:Nat} {t:T} {c:UInt8} {r:List UInt8} (h:GU c=true):IB (f+1) t (c::r)=IB f (fN c (NX r) t) (r.drop (cA r).length):=by show(if GU c=true then _ else _)=_;rw[if_pos h]
def LV (s:List UInt8):T:=⟨if 0<(cA s).length then nv (cA s)else 1,⟨0,0,0,0⟩⟩
def mT (s:List UInt8):T:=IB (s.drop (cA s).length).length (LV s) (s.drop (cA s).length)
theorem LG {n:Nat} (h2:2≤n) (hn:n≤15):nv (Lib.decDigits n)=(n:Int):=by
 rcases(show n=2∨n=3∨n=4∨n=5∨n=6∨n=7∨n=8∨n=9∨n=10∨n=11∨n=12∨n=13∨n=14∨n=15 by omega)with rfl|rfl|rfl|rfl|rfl|rfl|rfl|rfl|rfl|rfl|rfl|rfl|rfl|rfl
 all_goals first
  |(rw[cQ (by omega)];rfl)
  |(rw[cT (by omega),cQ (by omega)];rfl)
theorem xE (n:Nat):(Lib.decDigits n).length≠0:=fun h=>vS n (List.length_eq_zero_iff.1 h)
theorem gM {c:UInt8} (hc:GU c=true) {n:Int} (h0:0≤n) (h1:n≤15) {t:List UInt8} (hD:sW t) (q:T):∀f,(cD c n++t).length≤f→∃f',t.length≤f'∧IB f q (cD c n++t)=IB f' (if n=0 then q else fN c n q) t:=fun f hf=>by
 by_cases hz:n=0
 ·subst hz;rw[uD,List.nil_append]at hf⊢;exact⟨f,hf,by rw[if_pos rfl]⟩
 ·rw[if_neg hz];by_cases ho:n=1
  ·subst ho;rw[xK,List.singleton_append]at hf⊢;obtain⟨f',rfl⟩:∃f',f=f'+1:=⟨f-1,by simp at hf;omega⟩
   have e:cA t=[]:=eA (d:=[]) (fun _ h=>by cases h) hD;refine⟨f',by simp at hf;omega,?_⟩;rw[xS hc];unfold NX;rw[e];rfl
  ·obtain⟨m,rfl⟩:∃m:Nat,n=(m:Int):=⟨n.toNat,by omega⟩
   rw[fZ (by omega),List.cons_append]at hf⊢;obtain⟨f',rfl⟩:∃f',f=f'+1:=⟨f-1,by simp at hf;omega⟩
   have e:cA (Lib.decDigits m++t)=Lib.decDigits m:=eA (iJ m (by omega)) hD;refine⟨f',by simp at hf;omega,?_⟩;rw[xS hc];unfold NX;rw[e,if_neg (xE m),LG (by omega) (by omega)];simp
theorem ES {m:M} (h:M.ok m=true) (hne:cG m≠[]):(mT (cG m)).m=m:=by
 obtain⟨x1,x2,y1,y2,d1,d2,e1,e2⟩:=M.ok_iff.1 h;have a4:sW []:=fun c r e=>by cases e
 have t3:sW (cD 101 m.e++[]):=bU (P:=fun c=>jK c=false) (by decide) a4;have t2:sW (cD 100 m.d++(cD 101 m.e++[])):=bU (P:=fun c=>jK c=false) (by decide) t3
 have t1:sW (cD 121 m.y++(cD 100 m.d++(cD 101 m.e++[]))):=bU (P:=fun c=>jK c=false) (by decide) t2;have t0:sW (cD 120 m.x++(cD 121 m.y++(cD 100 m.d++(cD 101 m.e++[])))):=bU (P:=fun c=>jK c=false) (by decide) t1
 have e:cG m=cD 120 m.x++(cD 121 m.y++(cD 100 m.d++(cD 101 m.e++[]))):=by rw[gN];simp
 have l0:cA (cG m)=[]:=by rw[e];exact eA (d:=[]) (fun _ h=>by cases h) t0
 unfold mT LV;rw[l0];show(IB (cG m).length ⟨1,⟨0,0,0,0⟩⟩ (cG m)).m=m
 rw[e];obtain⟨f1,k1,q1⟩:=gM (c:=120) (by decide) x1 x2 t1 ⟨1,⟨0,0,0,0⟩⟩ _ (Nat.le_refl _);rw[q1];obtain⟨f2,k2,q2⟩:=gM (c:=121) (by decide) y1 y2 t2 (if m.x=0 then⟨1,⟨0,0,0,0⟩⟩else fN 120 m.x ⟨1,⟨0,0,0,0⟩⟩) f1 k1;rw[q2];obtain⟨f3,k3,q3⟩:=gM (c:=100) (by decide) d1 d2 t3 (if m.y=0 then(if m.x=0 then⟨1,⟨0,0,0,0⟩⟩else fN 120 m.x ⟨1,⟨0,0,0,0⟩⟩)else fN 121 m.y (if m.x=0 then⟨1,⟨0,0,0,0⟩⟩else fN 120 m.x ⟨1,⟨0,0,0,0⟩⟩)) f2 k2;rw[q3];obtain⟨f4,k4,q4⟩:=gM (c:=101) (by decide) e1 e2 a4 (if m.d=0 then(if m.y=0 then(if m.x=0 then⟨1,⟨0,0,0,0⟩⟩else fN 120 m.x ⟨1,⟨0,0,0,0⟩⟩)else fN 121 m.y (if m.x=0 then⟨1,⟨0,0,0,0⟩⟩else fN 120 m.x ⟨1,⟨0,0,0,0⟩⟩))else fN 100 m.d (if m.y=0 then(if m.x=0 then⟨1,⟨0,0,0,0⟩⟩else fN 120 m.x ⟨1,⟨0,0,0,0⟩⟩)else fN 121 m.y (if m.x=0 then⟨1,⟨0,0,0,0⟩⟩else fN 120 m.x ⟨1,⟨0,0,0,0⟩⟩))) f3 k3;rw[q4,xR];rcases m with⟨x,y,d,z⟩
 simp only;have s120:∀n t,fN 120 n t=⟨t.c,⟨n,t.m.y,t.m.d,t.m.e⟩⟩:=fun n t=>rfl
 have s121:∀n t,fN 121 n t=⟨t.c,⟨t.m.x,n,t.m.d,t.m.e⟩⟩:=fun n t=>rfl;have s100:∀n t,fN 100 n t=⟨t.c,⟨t.m.x,t.m.y,n,t.m.e⟩⟩:=fun n t=>rfl
 have s101:∀n t,fN 101 n t=⟨t.c,⟨t.m.x,t.m.y,t.m.d,n⟩⟩:=fun n t=>rfl;simp only[s120,s121,s100,s101];by_cases hx:x=0<;>by_cases hy:y=0<;>by_cases hd:d=0<;>by_cases he:z=0<;>simp[hx,hy,hd,he]
theorem LW {m:M} (h:M.ok m=true) {s:List UInt8} (hs:dS m=s):(mT s).m=m:=by
 subst hs;by_cases h0:cG m=[]
 ·rw[jN h h0];have e:m=⟨0,0,0,0⟩:=by
   by_cases hz:m.x=0∧m.y=0∧m.d=0∧m.e=0
   ·rcases m with⟨x,y,d,e⟩
    obtain⟨rfl,rfl,rfl,rfl⟩:=hz;rfl
   ·obtain⟨c,r,e,_⟩:=gY h hz;rw[e]at h0;cases h0
  rw[e];have e2:(mT [49]).m=⟨0,0,0,0⟩:=by kernel_rfl
  exact e2
 ·rw[eS h h0];exact ES h h0
theorem qN (s:List UInt8):iX s=if s.length≤40∧(M.ok (mT s).m=true∧dS (mT s).m=s)then((mT s).m,true)else(⟨0,0,0,0⟩,false):=
 IC fun m hm hs=>LW hm hs
end Go.Proofs.YtkcmamepoplcdaaGreatDoor
namespace Go.Proofs.YtkcmamepoplcdaaGreatDoor
set_option linter.unusedVariables false
theorem NB {m:M} (h:M.ok m=true) (k:Int) {f:Nat} (hf:(cG m).length≤f):IB f ⟨k,⟨0,0,0,0⟩⟩ (cG m)=⟨k,m⟩:=by
 obtain⟨x1,x2,y1,y2,d1,d2,e1,e2⟩:=M.ok_iff.1 h;have a4:sW []:=fun c r e=>by cases e
 have t3:sW (cD 101 m.e++[]):=bU (P:=fun c=>jK c=false) (by decide) a4;have t2:sW (cD 100 m.d++(cD 101 m.e++[])):=bU (P:=fun c=>jK c=false) (by decide) t3
 have t1:sW (cD 121 m.y++(cD 100 m.d++(cD 101 m.e++[]))):=bU (P:=fun c=>jK c=false) (by decide) t2;have e:cG m=cD 120 m.x++(cD 121 m.y++(cD 100 m.d++(cD 101 m.e++[]))):=by rw[gN];simp
 rw[e]at hf⊢;obtain⟨f1,k1,q1⟩:=gM (c:=120) (by decide) x1 x2 t1 ⟨k,⟨0,0,0,0⟩⟩ _ hf;rw[q1];generalize hA:(if m.x=0 then(⟨k,⟨0,0,0,0⟩⟩:T)else fN 120 m.x ⟨k,⟨0,0,0,0⟩⟩)=A;obtain⟨f2,k2,q2⟩:=gM (c:=121) (by decide) y1 y2 t2 A f1 k1;rw[q2];generalize hB:(if m.y=0 then A else fN 121 m.y A)=B;obtain⟨f3,k3,q3⟩:=gM (c:=100) (by decide) d1 d2 t3 B f2 k2;rw[q3];generalize hC:(if m.d=0 then B else fN 100 m.d B)=C;obtain⟨f4,k4,q4⟩:=gM (c:=101) (by decide) e1 e2 a4 C f3 k3;rw[q4,xR];subst hC hB hA;rcases m with⟨x,y,d,z⟩
 simp only;have s120:∀n t,fN 120 n t=⟨t.c,⟨n,t.m.y,t.m.d,t.m.e⟩⟩:=fun n t=>rfl
 have s121:∀n t,fN 121 n t=⟨t.c,⟨t.m.x,n,t.m.d,t.m.e⟩⟩:=fun n t=>rfl;have s100:∀n t,fN 100 n t=⟨t.c,⟨t.m.x,t.m.y,n,t.m.e⟩⟩:=fun n t=>rfl
 have s101:∀n t,fN 101 n t=⟨t.c,⟨t.m.x,t.m.y,t.m.d,n⟩⟩:=fun n t=>rfl;simp only[s120,s121,s100,s101];by_cases hx:x=0<;>by_cases hy:y=0<;>by_cases hd:d=0<;>by_cases he:z=0<;>simp[hx,hy,hd,he]
theorem rY {n:Nat} (h:n<10):nv (Lib.decDigits n)=(n:Int):=by
 rw[cQ h];show qQ 0 _=_
 unfold qQ;rw[if_pos (by omega),UInt8.toNat_ofNat'];omega
theorem IF {n:Nat} (h:n<100):nv (Lib.decDigits n)=(n:Int):=by
 by_cases h1:n<10
 ·exact rY h1
 ·rw[cT h1,xV,rY (n:=n / 10) (by omega)];unfold qQ;rw[if_pos (by omega),UInt8.toNat_ofNat'];omega
theorem IG {n:Nat} (h:n<1000):nv (Lib.decDigits n)=(n:Int):=by
 by_cases h1:n<10
 ·exact rY h1
 ·rw[cT h1,xV,IF (n:=n / 10) (by omega)];unfold qQ;rw[if_pos (by omega),UInt8.toNat_ofNat'];omega
theorem oP {m:M} (h:M.ok m=true):sW (cG m):=by
 have a4:sW []:=fun c r e=>by cases e
 have t3:sW (cD 101 m.e++[]):=bU (P:=fun c=>jK c=false) (by decide) a4;have t2:sW (cD 100 m.d++(cD 101 m.e++[])):=bU (P:=fun c=>jK c=false) (by decide) t3
 have t1:sW (cD 121 m.y++(cD 100 m.d++(cD 101 m.e++[]))):=bU (P:=fun c=>jK c=false) (by decide) t2;have t0:sW (cD 120 m.x++(cD 121 m.y++(cD 100 m.d++(cD 101 m.e++[])))):=bU (P:=fun c=>jK c=false) (by decide) t1
 have e:cG m=cD 120 m.x++(cD 121 m.y++(cD 100 m.d++(cD 101 m.e++[]))):=by rw[gN];simp
 rw[e];exact t0
theorem pB {d:List UInt8} (hd:∀c∈d,jK c=true) {m:M} (h:M.ok m=true):mT (d++cG m)=⟨if 0<d.length then nv d else 1,m⟩:=by have hl:cA (d++cG m)=d:=eA hd (oP h);unfold mT LV;rw[hl,List.drop_left];exact NB h _ (Nat.le_refl _)
theorem vF {t:T} (h1:1≤t.c) (h2:t.c≤100) (h:M.ok t.m=true):mT (eP t)=t:=by
 have hd:∀c∈vJ t.c,jK c=true:=fun c hc=>iJ _ (by omega) c hc;have hp:0<(vJ t.c).length:=Nat.pos_of_ne_zero (xE _)
 have hv:nv (vJ t.c)=t.c:=by unfold vJ;rw[IG (by omega)];omega
 unfold eP;by_cases h0:t.m.x=0∧t.m.y=0∧t.m.d=0∧t.m.e=0
 ·rw[if_pos h0];have e0:cG t.m=[]:=by obtain⟨a,b,c,d⟩:=h0;rw[gN,a,b,c,d];rfl
  have:=pB hd h;rw[e0,List.append_nil,if_pos hp,hv]at this;exact this
 ·rw[if_neg h0];obtain⟨c,r,e,_⟩:=gY h h0;have hne:cG t.m≠[]:=by rw[e];simp
  rw[eS h hne];by_cases hc:t.c=1
  ·rw[if_pos hc];have:=pB (d:=[]) (fun _ q=>by cases q) h
   rw[List.nil_append]at this;rw[this];rcases t with⟨tc,tm⟩
   simp at hc;simp[hc]
  ·rw[if_neg hc,pB hd h,if_pos hp,hv]
def wT (s:List UInt8):List T:=(bC s).map mT
def eT (s:List UInt8):List T×Bool:=if s=[48]then([],true)else if s.length≤400∧(aJ (wT s).length (lf (wT s))=true∧bQ (wT s).length (lf (wT s))=s)then(wT s,true)else([],false)
theorem qS:eT [48]=([],true):=by unfold eT;rw[if_pos rfl]
theorem uU {s:List UInt8} (h0:s≠[48]) (h1:s.length≤400) (h2:aJ (wT s).length (lf (wT s))=true) (h3:bQ (wT s).length (lf (wT s))=s):eT s=(wT s,true):=by unfold eT;rw[if_neg h0,if_pos ⟨h1,h2,h3⟩]
theorem yA {s:List UInt8} (h0:s≠[48]) (h:¬(s.length≤400∧(aJ (wT s).length (lf (wT s))=true∧bQ (wT s).length (lf (wT s))=s))):eT s=([],false):=by unfold eT;rw[if_neg h0,if_neg h]
theorem wS (s:List UInt8):(wT s).length=(bC s).length:=by unfold wT;simp
def NE (t:T):Prop:=(1≤t.c∧t.c≤100)∧M.ok t.m=true
def MH (w:List UInt8) (t:T) (b:Bool):Prop:=(b=true→NE t→eP t=w)∧∀t0,NE t0→eP t0=w→t=t0∧b=true
theorem uG {L:List T} {i:Nat} {t:T} (h:L[i]? =some t):lf L i=t:=by unfold lf;rw[List.getD_eq_getElem?_getD,h];rfl
theorem mD (f:Nat→T):∀{k i:Nat},i<k→(jV f k)[i]? =some (eP (f i))
 |0,i,h=>by omega
 |k+1,i,h=>by
  unfold jV;by_cases e:i<k
  ·rw[List.getElem?_append_left (by rw[eD];exact e),mD f e]
  ·have:i=k:=by omega
   subst this;rw[List.getElem?_append_right (by rw[eD];omega),eD];simp
theorem oV {s:List UInt8} (h0:s≠[48]) (h:(eT s).2=true):s.length≤400∧∃(n:Nat) (f:Nat→T),n≠0∧aJ n f=true∧bC s=jV f n∧(∀i,i<n→NE (f i))∧(wT s).length=n∧(∀i,i<n→lf (wT s) i=f i):=by
 by_cases q:s.length≤400∧(aJ (wT s).length (lf (wT s))=true∧bQ (wT s).length (lf (wT s))=s)
 ·obtain⟨q1,q2,q3⟩:=q;have hne:(wT s).length≠0:=by rw[wS];intro e;exact mI s (List.length_eq_zero_iff.1 e)
  refine⟨q1,_,_,hne,q2,?_,fun i hi=>(cN q2).2 i hi,rfl,fun i _=>rfl⟩;have:=tT q2 hne
  rw[q3]at this;exact this
 ·rw[yA h0 q]at h;cases h
theorem DI {s:List UInt8} {ts:List T} (h0:s≠[48]) (hs:s.length≤400) (hl:ts.length=(bC s).length) (hr:∀(i:Nat) (w:List UInt8) (t:T),(bC s)[i]? =some w→ts[i]? =some t→MH w t true) (hok:aJ ts.length (lf ts)=true):eT s=(ts,true):=by
 have hts:wT s=ts:=by
  apply List.ext_getElem?;intro i;unfold wT;rw[List.getElem?_map];by_cases hi:i<ts.length
  ·obtain⟨t,ht⟩:∃t,ts[i]? =some t:=⟨_,List.getElem?_eq_getElem hi⟩
   obtain⟨w,hw⟩:∃w,(bC s)[i]? =some w:=⟨_,List.getElem?_eq_getElem (by omega)⟩
   have hk:NE t:=by have:=(cN hok).2 i hi;rw[uG ht]at this;exact this
   have e:=(hr i w t hw ht).1 rfl hk;rw[hw,ht];show some (mT w)=some t
   rw[←e,vF hk.1.1 hk.1.2 hk.2]
  ·rw[List.getElem?_eq_none (by omega),List.getElem?_eq_none (by omega)];rfl
 have hn:ts.length≠0:=by rw[hl];intro e;exact mI s (List.length_eq_zero_iff.1 e)
 have hw:bC s=jV (lf ts) ts.length:=by
  apply List.ext_getElem?;intro i;by_cases hi:i<ts.length
  ·obtain⟨t,ht⟩:∃t,ts[i]? =some t:=⟨_,List.getElem?_eq_getElem hi⟩
   obtain⟨w,hw⟩:∃w,(bC s)[i]? =some w:=⟨_,List.getElem?_eq_getElem (by omega)⟩
   have hk:NE t:=by have:=(cN hok).2 i hi;rw[uG ht]at this;exact this
   have e:=(hr i w t hw ht).1 rfl hk;rw[hw,mD _ hi,uG ht,e]
  ·rw[List.getElem?_eq_none (by omega),List.getElem?_eq_none (by rw[eD];omega)]
 have ht:bQ ts.length (lf ts)=s:=by rw[nR hok hn,←lP,←hw,wA]
 have:=uU h0 hs (by rw[hts];exact hok) (by rw[hts];exact ht);rw[hts]at this;exact this
theorem DJ {s:List UInt8} {i:Nat} {w:List UInt8} {t:T} (h0:s≠[48]) (hw:(bC s)[i]? =some w) (hr:MH w t false):eT s=([],false):=by
 cases h:(eT s).2
 ·unfold eT at h⊢;rw[if_neg h0]at h⊢;split at h
  ·cases h
  ·rename_i q;rw[if_neg q]
 ·obtain⟨_,n,f,hn,hok,hc,hk,_,_⟩:=oV h0 h;have hi:i<n:=by have:=(List.getElem?_eq_some_iff.1 hw).1;rw[hc,eD]at this;exact this
  rw[hc,mD f hi]at hw;cases hw;exact absurd (hr.2 (f i) (hk i hi) rfl).2 (by simp)
theorem DK {s:List UInt8} {ts:List T} (h0:s≠[48]) (hl:ts.length=(bC s).length) (hr:∀(i:Nat) (w:List UInt8) (t:T),(bC s)[i]? =some w→ts[i]? =some t→MH w t true) (hok:aJ ts.length (lf ts)=false):eT s=([],false):=by
 cases h:(eT s).2
 ·unfold eT at h⊢;rw[if_neg h0]at h⊢;split at h
  ·cases h
  ·rename_i q;rw[if_neg q]
 ·obtain⟨_,n,f,hn,hok',hc,hk,hl',hf⟩:=oV h0 h;have hts:wT s=ts:=by
   apply List.ext_getElem?;intro i;by_cases hi:i<ts.length
   ·obtain⟨t,ht⟩:∃t,ts[i]? =some t:=⟨_,List.getElem?_eq_getElem hi⟩
    obtain⟨w,hw⟩:∃w,(bC s)[i]? =some w:=⟨_,List.getElem?_eq_getElem (by omega)⟩
    have hin:i<n:=by have:=(List.getElem?_eq_some_iff.1 hw).1;rw[hc,eD]at this;exact this
    have hw':=hw;rw[hc,mD f hin]at hw';have e:=(hr i w t hw ht).2 (f i) (hk i hin) (by cases hw';rfl)
    have hx:(wT s)[i]? =some (lf (wT s) i):=by unfold lf;rw[List.getD_eq_getElem?_getD,List.getElem?_eq_getElem (by omega)];rfl
    rw[hx,hf i hin,ht,e.1]
   ·rw[List.getElem?_eq_none (by rw[wS];omega),List.getElem?_eq_none (by omega)]
  have h2:aJ (wT s).length (lf (wT s))=true:=by
   unfold eT at h;rw[if_neg h0]at h;split at h
   ·rename_i q;exact q.2.1
   ·cases h
  rw[hts,hok]at h2;cases h2
open Go.RowKit
theorem xX {f g:Nat→T} {n i:Nat} (h:∀i,i<n→f i=g i) (hi:i<n):eF f i=eF g i:=by
 unfold eF;rw[h i hi];by_cases e:i=0
 ·subst e;simp
 ·rw[h (i-1) (by omega)]
theorem uT {f g:Nat→T} {n:Nat} (h:∀i,i<n→f i=g i):aJ n f=aJ n g:=by unfold aJ;congr 1;apply propext;exact⟨fun q=>⟨q.1,fun i hi=>by rw[←xX h hi];exact q.2 i hi⟩,fun q=>⟨q.1,fun i hi=>by rw[xX h hi];exact q.2 i hi⟩⟩
theorem yM {f g:Nat→T}:∀{n:Nat},(∀i,i<n→f i=g i)→jV f n=jV g n
 |0,_=>rfl
 |n+1,h=>by unfold jV;rw[yM (n:=n) (fun i hi=>h i (by omega)),h n (by omega)]
theorem IW {f g:Nat→T} {n:Nat} (h:∀i,i<n→f i=g i):bQ n f=bQ n g:=by unfold bQ;rw[uT h,←lP,←lP,yM h]
theorem IR {n:Nat} {f:Nat→T} (h:aJ n f=true) (hl:(bQ n f).length≤400):∃L,eT (bQ n f)=(L,true)∧L.length=n∧∀i,i<n→lf L i=f i:=by
 by_cases h0:n=0
 ·subst h0;rw[mM h rfl,qS];exact⟨[],rfl,rfl,fun i hi=>by omega⟩
 ·have hk:=(cN h).2;have hc:=tT h h0
  have hw:∀i,i<n→(wT (bQ n f))[i]? =some (f i):=fun i hi=>by
   unfold wT;rw[hc,List.getElem?_map,mD f hi];show some (mT (eP (f i)))=_
   rw[vF (hk i hi).1.1 (hk i hi).1.2 (hk i hi).2]
  have hwl:(wT (bQ n f)).length=n:=by rw[wS,hc,eD]
  have hf:∀i,i<n→lf (wT (bQ n f)) i=f i:=fun i hi=>uG (hw i hi);have hne:bQ n f≠[48]:=fun e=>by
   have h2:=hw 0 (by omega);rw[e]at h2;have h3:(wT [48])[0]? =some ⟨0,⟨0,0,0,0⟩⟩:=by kernel_rfl
   rw[h3]at h2;have:=(hk 0 (by omega)).1.1
   rw[←Option.some.inj h2]at this;exact absurd this (by decide)
  refine⟨wT (bQ n f),uU hne hl ?_ ?_,hwl,hf⟩
  ·rw[hwl,uT hf];exact h
  ·rw[hwl,IW hf]
end Go.Proofs.YtkcmamepoplcdaaGreatDoor
