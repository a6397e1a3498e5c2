/-
  How many of some slopes may be taken of their times, and in how many ways: the iterator.
-/
import Derived.Test.YtbkighpmkadmmaaMak
set_option maxHeartbeats 8000000
set_option maxRecDepth 100000
namespace Go.Proofs.Ytbkighpmkadmmaa
open Go.RowKit
set_option linter.unusedVariables false
attribute [local go_sem] Oper.semAt_some
abbrev TK (lim:Nat):Type:={p:Int×Int // 0≤p.1∧p.1≤(lim:Int)∧0≤p.2∧p.2≤100}
def wy (s t k:Int):Int:=lO (dA s k) (gG t k)
theorem lP (a b:Int):0≤lO a b∧lO a b≤100:=by unfold lO;split<;>omega
def rS (lim:Nat) (s t:Int) (k:Nat):TK lim:=⟨((if k≤lim then(k:Int)else 0),wy s t k),by
 have:=lP (dA s k) (gG t k);refine⟨?_,?_,this.1,this.2⟩
 ·show 0≤(if k≤lim then(k:Int)else 0);split<;>omega
 ·show(if k≤lim then(k:Int)else 0)≤_
  split<;>omega⟩
def qL (lim:Nat) (s t:Int) (k:Nat):List (TK lim):=(List.range k).map (rS lim s t)
theorem yE (lim:Nat) (s t:Int) (k:Nat):qL lim s t k++[rS lim s t k]=qL lim s t (k+1):=by simp[qL,List.range_succ]
end Go.Proofs.Ytbkighpmkadmmaa
namespace Go.Proofs.Ytbkighpmkadmmaa
open Go.RowKit
set_option linter.unusedVariables false
open Go.RowKit Go.Maps
attribute [local go_sem] Oper.semAt_some
abbrev TO:Type:={t:T // t.m.ok=true∧0≤t.c∧t.c≤100}
theorem uV {α β:Type} (k:Nat) (f:α→List β) (h:∀x,(f x).length=k):∀l:List α,(l.flatMap f).length=l.length*k
 |[]=>by simp
 |x::r=>by rw[List.flatMap_cons,List.length_append,h,uV k f h r,List.length_cons,Nat.add_mul];omega
def fC (W:World) (Bx:Nat) (t:T):Prop:=W.heap[Bx]? =some (.cells #[.int .i64 t.c,.int .i64 t.m.x,.int .i64 t.m.y,.int .i64 t.m.d,.int .i64 t.m.e] 33 (0,0))
theorem fC.cells {W:World} {Bx:Nat} {t:T} (h:fC W Bx t):W.cell? ⟨Bx,0,none⟩=some (.int .i64 t.c)∧W.cell? ⟨Bx,1,none⟩=some (.int .i64 t.m.x)∧W.cell? ⟨Bx,2,none⟩=some (.int .i64 t.m.y)∧W.cell? ⟨Bx,3,none⟩=some (.int .i64 t.m.d)∧W.cell? ⟨Bx,4,none⟩=some (.int .i64 t.m.e):=by unfold fC at h;refine⟨?_,?_,?_,?_,?_⟩<;>(unfold World.cell?;simp only[h];rfl)
end Go.Proofs.Ytbkighpmkadmmaa
namespace Go.Proofs.Ytbkighpmkadmmaa
open Go.RowKit
set_option linter.unusedVariables false
def dJ (a b:T):Nat:=(min a.m.d b.m.x).toNat
def eR (a b:T):Nat:=(min a.m.e b.m.y).toNat
structure oV (a b:T) (g:M):Prop where
 ok1:a.m.ok=true
 ok2:b.m.ok=true
 ok3:g.ok=true
 gx:g.x=a.m.x+b.m.x
 gy:g.y=a.m.y+b.m.y
 gd:g.d=a.m.d+b.m.d
 ge:g.e=a.m.e+b.m.e
 c1:0≤a.c∧a.c≤100
 c2:0≤b.c∧b.c≤100
theorem oV.lx {a b:T} {g:M} (h:oV a b g):(dJ a b:Int)=min a.m.d b.m.x:=by
 have h1:=M.ok_iff.1 h.ok1;have h2:=M.ok_iff.1 h.ok2
 unfold dJ;omega
theorem oV.ly {a b:T} {g:M} (h:oV a b g):(eR a b:Int)=min a.m.e b.m.y:=by
 have h1:=M.ok_iff.1 h.ok1;have h2:=M.ok_iff.1 h.ok2
 unfold eR;omega
def qJ (a b:T) (g:M) (px:TK (dJ a b)) (py:TK (eR a b)):T:=⟨a.c*b.c%101*px.1.2%101*py.1.2%101,⟨g.x-px.1.1,g.y-py.1.1,g.d-px.1.1,g.e-py.1.1⟩⟩
theorem FN {a b:T} {g:M} (h:oV a b g) (px:TK (dJ a b)) (py:TK (eR a b)):(qJ a b g px py).m.ok=true∧0≤(qJ a b g px py).c∧(qJ a b g px py).c≤100:=by
 have h1:=M.ok_iff.1 h.ok1;have h2:=M.ok_iff.1 h.ok2
 have h3:=M.ok_iff.1 h.ok3;have hx:=px.2
 have hy:=py.2;have lx:=h.lx
 have ly:=h.ly;have gx:=h.gx
 have gy:=h.gy;have gd:=h.gd
 have ge:=h.ge;refine⟨M.ok_iff.2 ?_,?_,?_⟩
 ·simp only[qJ];omega
 ·show 0≤a.c*b.c%101*px.1.2%101*py.1.2%101;omega
 ·show a.c*b.c%101*px.1.2%101*py.1.2%101≤100;omega
def FM {a b:T} {g:M} (h:oV a b g) (px:TK (dJ a b)) (py:TK (eR a b)):TO:=⟨qJ a b g px py,FN h px py⟩
def GF (a b:T):List (TK (eR a b)):=qL (eR a b) a.m.e b.m.y (eR a b+1)
def MX (a b:T):List (TK (dJ a b)):=qL (dJ a b) a.m.d b.m.x (dJ a b+1)
def CL {a b:T} {g:M} (h:oV a b g) (pre:List (TK (dJ a b))):List TO:=pre.flatMap fun px=>(GF a b).map (FM h px)
theorem AN {a b:T} {g:M} (h:oV a b g) (pre:List (TK (dJ a b))) (x:TK (dJ a b)):CL h (pre++[x])=CL h pre++(GF a b).map (FM h x):=by simp[CL]
attribute [local go_sem] Oper.semAt_some
end Go.Proofs.Ytbkighpmkadmmaa
namespace Go.Proofs.Ytbkighpmkadmmaa
open Go.RowKit Go.Maps
set_option linter.unusedVariables false
theorem uH {w w':World} (h:Below w.heap.size w w') (row:Option Nat):w.grownBy w' row:=⟨h.os,h.tape,h.output,h.size,fun k hk _=>h.block k hk⟩
end Go.Proofs.Ytbkighpmkadmmaa
namespace Go.Proofs.Ytbkighpmkadmmaa
open Go.RowKit
set_option linter.unusedVariables false
def iI (a b:T) (i k:Nat):T:=⟨a.c*b.c%101*wy a.m.d b.m.x i%101*wy a.m.e b.m.y k%101,⟨a.m.x+b.m.x-i,a.m.y+b.m.y-k,a.m.d+b.m.d-i,a.m.e+b.m.e-k⟩⟩
def iM (a b:T) (i k:Nat):List T:=(List.range k).map (iI a b i)
def cK (a b:T) (i:Nat):List T:=(List.range i).flatMap fun i=>iM a b i (eR a b+1)
theorem pQ (a b:T) (i:Nat):cK a b (i+1)=cK a b i++iM a b i (eR a b+1):=by simp[cK,List.range_succ]
theorem BJ (a b:T) (i k:Nat):iM a b i (k+1)=iM a b i k++[iI a b i k]:=by simp[iM,List.range_succ]
theorem rT {lim:Nat} {s t:Int} {k:Nat} (h:k≤lim):(rS lim s t k).1.1=(k:Int):=if_pos h
theorem GK {a b:T} {g:M} (h:oV a b g):(CL h (MX a b)).map (·.1)=cK a b (dJ a b+1):=by
 have key:∀i,i≤dJ a b→((GF a b).map (FM h (rS (dJ a b) a.m.d b.m.x i))).map (·.1)=iM a b i (eR a b+1):=fun i hi=>by
  unfold GF qL iM;rw[List.map_map,List.map_map];refine List.map_congr_left (fun k hk=>?_);rw[List.mem_range]at hk;show qJ a b g (rS (dJ a b) a.m.d b.m.x i) (rS (eR a b) a.m.e b.m.y k)=iI a b i k
  unfold qJ iI;rw[rT hi,rT (show k≤eR a b by omega),h.gx,h.gy,h.gd,h.ge];rfl
 have:∀n,n≤dJ a b+1→(CL h (qL (dJ a b) a.m.d b.m.x n)).map (·.1)=cK a b n:=fun n=>by
  induction n with
  |zero=>intro _;rfl
  |succ n ih=>
   intro hn;rw[←yE,AN,List.map_append,ih (by omega),key n (by omega),pQ]
 exact this _ (Nat.le_refl _)
theorem mM {a b:T} {g:M} (h:oV a b g):MS (cK a b (dJ a b+1)):=by rw[←GK h];intro t ht;obtain⟨x,_,rfl⟩:=List.mem_map.1 ht;exact x.2
def bP (a b:T):List T:=cT (cK a b (dJ a b+1)) []
theorem dO {a b:T} {g:M} (h:oV a b g):aJ (bP a b)∧aQ (bP a b)=sD (fun _=>0) (cK a b (dJ a b+1)):=jP _ [] (mM h) dE
def eM (K:List T) (a b:T):Option (List T):=if(a.m.sum b.m).ok=true∧(bT K (bP a b)).length≤400 then some (bT K (bP a b))else none
def dU (K:List T) (a:T) (g:Nat→T):Nat→Option (List T)
 |0=>some K
 |k+1=>(dU K a g k).bind fun K'=>eM K' a (g k)
def bR (f:Nat→T) (g:Nat→T) (lb:Nat):Nat→Option (List T)
 |0=>some []
 |i+1=>(bR f g lb i).bind fun K=>dU K (f i) g lb
theorem rN {K:List T} {a:T} {g:Nat→T} {k:Nat} (h:dU K a g k=none):∀j,k≤j→dU K a g j=none:=fun j hj=>by
 induction j with
 |zero=>
  have e:k=0:=by omega
  rw[e]at h;exact h
 |succ j ih=>
  by_cases e:k=j+1
  ·rw[←e];exact h
  ·rw[dU,ih (by omega)];rfl
theorem rH {f g:Nat→T} {lb i:Nat} (h:bR f g lb i=none):∀j,i≤j→bR f g lb j=none:=fun j hj=>by
 induction j with
 |zero=>
  have e:i=0:=by omega
  rw[e]at h;exact h
 |succ j ih=>
  by_cases e:i=j+1
  ·rw[←e];exact h
  ·rw[bR,ih (by omega)];rfl
def cJ (f:Nat→T) (la:Nat) (g:Nat→T) (lb:Nat):List T×Bool:=if aL la f=true∧aL lb g=true then jM (bR f g lb la)else([],false)
theorem ES {K:List T} {a:T} {g:Nat→T} (hK:K.length≤400):∀k K',dU K a g k=some K'→K'.length≤400
 |0,K',h=>by cases h;exact hK
 |k+1,K',h=>by
  rw[dU]at h;cases hr:dU K a g k with
  |none=>rw[hr]at h;cases h
  |some K1=>
   rw[hr]at h;change eM K1 a (g k)=some K' at h;unfold eM at h;split at h
   ·rename_i hh;cases h;exact hh.2
   ·cases h
theorem eD {f g:Nat→T} {lb:Nat}:∀i K,bR f g lb i=some K→K.length≤400
 |0,K,h=>by cases h;exact gT _
 |i+1,K,h=>by
  rw[bR]at h;cases hr:bR f g lb i with
  |none=>rw[hr]at h;cases h
  |some K1=>
   rw[hr]at h;exact ES (eD i K1 hr) lb K h
open Go.RowKit Go.Maps
end Go.Proofs.Ytbkighpmkadmmaa
namespace Go.Proofs.Ytbkighpmkadmmaa
open Go.RowKit
set_option linter.unusedVariables false
theorem qP (n k:Int):0≤dA n k∧dA n k≤100:=by unfold dA;split<;>omega
theorem CS (n:Int):∀k:Nat,0≤fl n k∧fl n k≤100
 |0=>by unfold fl;omega
 |k+1=>by unfold fl;omega
theorem uQ (n k:Int):0≤gG n k∧gG n k≤100:=by
 unfold gG;split
 ·exact CS _ _
 ·omega
theorem MG (s t k:Int) (w:World):Calls Try.prog 111 #[.int .i64 s,.int .i64 t,.int .i64 k] w fun e w'=>e= .returned (.int .i64 (wy s t k))∧w'=w:=by
 have h1:=qP s k;have h2:=uQ t k
 have hm:wy s t k=dA s k*gG t k%101:=fF h1.1 h1.2 h2.1 h2.2
 have hb:0≤dA s k*gG t k∧dA s k*gG t k≤10000:=⟨Int.mul_nonneg h1.1 h2.1,by
  have:=Int.mul_le_mul h1.2 h2.2 h2.1 (by omega);omega⟩
 rw[hm];have hc:=GH s k
 have hf:=JU t k;generalize dA s k=p at *;generalize gG t k=q at *;generalize hpq:p*q=r at *;clear hm;go_enter Try.func111,Try.ntmps111
 go_wp2_with (first
  |(go_at_call 125;refine(hc _).mono ?_;rintro e w' ⟨rfl,hw'⟩;obtain rfl:=hw'.symm;clear hw')
  |(go_at_call 126;refine(hf _).mono ?_;rintro e w' ⟨rfl,hw'⟩;obtain rfl:=hw'.symm;clear hw'))
 go_ret;exact⟨rfl,rfl⟩
theorem tD (xs:List T) (t:T) (L:List T):cT (xs++[t]) L=fQ t.c t.m (cT xs L):=by simp[cT]
theorem lW:∀(xs L:List T),(cT xs L).length≤L.length+xs.length
 |[],L=>Nat.le_refl _
 |t::r,L=>by
  have h1:=lW r (fQ t.c t.m L);have h2:=mY t.c t.m L
  show(cT r (fQ t.c t.m L)).length≤_;rw[List.length_cons];omega
theorem qU (a b:T) (i:Nat):(cK a b i).length=i*(eR a b+1):=by unfold cK;rw[uV (eR a b+1) _ (fun i=>by simp[iM])];simp
def LF (W:World) (Bx:Nat) (m:M):Prop:=W.heap[Bx]? =some (.cells #[.int .i64 m.x,.int .i64 m.y,.int .i64 m.d,.int .i64 m.e] 31 (0,0))
theorem LF.cells {W:World} {Bx:Nat} {m:M} (h:LF W Bx m):W.cell? ⟨Bx,0,none⟩=some (.int .i64 m.x)∧W.cell? ⟨Bx,1,none⟩=some (.int .i64 m.y)∧W.cell? ⟨Bx,2,none⟩=some (.int .i64 m.d)∧W.cell? ⟨Bx,3,none⟩=some (.int .i64 m.e):=by unfold LF at h;refine⟨?_,?_,?_,?_⟩<;>(unfold World.cell?;simp only[h];rfl)
theorem KS (w:World) (a b:T) (h3:(a.m.sum b.m).ok=false):Calls Try.prog 94 #[.agg #[.int .i64 a.c,.int .i64 a.m.x,.int .i64 a.m.y,.int .i64 a.m.d,.int .i64 a.m.e],.agg #[.int .i64 b.c,.int .i64 b.m.x,.int .i64 b.m.y,.int .i64 b.m.d,.int .i64 b.m.e]] w fun e w'=>∃v,e= .returned (.tuple #[v,.bool false])∧Below w.heap.size w w'∧w'.ownsRow w.heap.size 33 5 v 0 (aG []):=by
 have hm:M.mul a.m b.m=(M.zero,false):=by simp[M.mul,h3]
 have hc:=zD a.m.x a.m.y a.m.d a.m.e b.m.x b.m.y b.m.d b.m.e;have ea:(⟨a.m.x,a.m.y,a.m.d,a.m.e⟩:M)=a.m:=rfl
 have eb:(⟨b.m.x,b.m.y,b.m.d,b.m.e⟩:M)=b.m:=rfl;rw[ea,eb,hm]at hc;have HO:=aA (bL ((w.alloc (.cells #[.int .i64 a.c,.int .i64 a.m.x,.int .i64 a.m.y,.int .i64 a.m.d,.int .i64 a.m.e] 33)).alloc (.cells #[.int .i64 b.c,.int .i64 b.m.x,.int .i64 b.m.y,.int .i64 b.m.d,.int .i64 b.m.e] 33)) w.heap.size (by simp;omega))
 have HW:=aA ((((cM w.heap.size w).alloc (Nat.le_refl _) (.cells #[.int .i64 a.c,.int .i64 a.m.x,.int .i64 a.m.y,.int .i64 a.m.d,.int .i64 a.m.e] 33)).alloc (by simp) (.cells #[.int .i64 b.c,.int .i64 b.m.x,.int .i64 b.m.y,.int .i64 b.m.d,.int .i64 b.m.e] 33)).alloc (by simp;omega) (.cells #[] 33));go_enter Try.func94,Try.ntmps94;go_wp2_with (go_at_call 110;refine(hc _).mono ?_;rintro e w1 ⟨rfl,hb1⟩);refine cN (results_tmp2 rfl _ _ _) rfl ?_;have hO:=HO.out
 simp only[World.size_alloc]at hO;have hb2:=(HW.out.trans (hb1.mono (by simp;omega)))
 exact⟨_,rfl,hb2.alloc hb2.size _,cI hO (hb1.alloc (kM (Nat.le_refl _) hb1.size) _)⟩
theorem IJ (w:World) (a b:T) (h:oV a b (a.m.sum b.m)):Calls Try.prog 94 #[.agg #[.int .i64 a.c,.int .i64 a.m.x,.int .i64 a.m.y,.int .i64 a.m.d,.int .i64 a.m.e],.agg #[.int .i64 b.c,.int .i64 b.m.x,.int .i64 b.m.y,.int .i64 b.m.d,.int .i64 b.m.e]] w fun e w'=>∃v,e= .returned (.tuple #[v,.bool true])∧Below w.heap.size w w'∧w'.ownsRow w.heap.size 33 5 v (bP a b).length (aG (bP a b)):=by
 have hm:M.mul a.m b.m=(a.m.sum b.m,true):=by simp[M.mul,h.ok1,h.ok2,h.ok3]
 have hc:=zD a.m.x a.m.y a.m.d a.m.e b.m.x b.m.y b.m.d b.m.e;have ea:(⟨a.m.x,a.m.y,a.m.d,a.m.e⟩:M)=a.m:=rfl
 have eb:(⟨b.m.x,b.m.y,b.m.d,b.m.e⟩:M)=b.m:=rfl;rw[ea,eb,hm]at hc;have m1:=M.ok_iff.1 h.ok1
 have m2:=M.ok_iff.1 h.ok2;have m3:=M.ok_iff.1 h.ok3
 have lx:=h.lx;have ly:=h.ly
 have k1:=h.c1;have k2:=h.c2
 have H:=aA h;have HO:=aA (bL ((w.alloc (.cells #[.int .i64 a.c,.int .i64 a.m.x,.int .i64 a.m.y,.int .i64 a.m.d,.int .i64 a.m.e] 33)).alloc (.cells #[.int .i64 b.c,.int .i64 b.m.x,.int .i64 b.m.y,.int .i64 b.m.d,.int .i64 b.m.e] 33)) w.heap.size (by simp;omega))
 have HW:=aA ((((cM w.heap.size w).alloc (Nat.le_refl _) (.cells #[.int .i64 a.c,.int .i64 a.m.x,.int .i64 a.m.y,.int .i64 a.m.d,.int .i64 a.m.e] 33)).alloc (by simp) (.cells #[.int .i64 b.c,.int .i64 b.m.x,.int .i64 b.m.y,.int .i64 b.m.d,.int .i64 b.m.e] 33)).alloc (by simp;omega) (.cells #[] 33));have HTA:Hid (fC (((w.alloc (.cells #[.int .i64 a.c,.int .i64 a.m.x,.int .i64 a.m.y,.int .i64 a.m.d,.int .i64 a.m.e] 33)).alloc (.cells #[.int .i64 b.c,.int .i64 b.m.x,.int .i64 b.m.y,.int .i64 b.m.d,.int .i64 b.m.e] 33)).alloc (.cells #[] 33)) w.heap.size a):=(Below.heap_alloc _ _ _ (by simp;omega)).trans ((Below.heap_alloc _ _ _ (by simp)).trans (World.alloc_heap_new w _))
 have HTB:Hid (fC (((w.alloc (.cells #[.int .i64 a.c,.int .i64 a.m.x,.int .i64 a.m.y,.int .i64 a.m.d,.int .i64 a.m.e] 33)).alloc (.cells #[.int .i64 b.c,.int .i64 b.m.x,.int .i64 b.m.y,.int .i64 b.m.d,.int .i64 b.m.e] 33)).alloc (.cells #[] 33)) (w.heap.size+1) b):=by have:=World.alloc_heap_new (w.alloc (.cells #[.int .i64 a.c,.int .i64 a.m.x,.int .i64 a.m.y,.int .i64 a.m.d,.int .i64 a.m.e] 33)) (.cells #[.int .i64 b.c,.int .i64 b.m.x,.int .i64 b.m.y,.int .i64 b.m.d,.int .i64 b.m.e] 33);rw[World.size_alloc]at this;exact(Below.heap_alloc _ _ _ (by simp)).trans this
 clear h;generalize a.m.sum b.m=g at *;go_enter Try.func94,Try.ntmps94;go_wp2_with (go_at_call 110;refine(hc _).mono ?_;rintro e w1 ⟨rfl,hb1⟩;have HB1:=aA hb1;clear hb1);have hb1:=HB1.out
 have hO:=HO.out;simp only[World.size_alloc]at hO;have hbw:Below w.heap.size w w1:=HW.out.trans (hb1.mono (by simp;omega))
 have hs1:=hb1.size;simp only[World.size_alloc]at hs1;have hT1:fC w1 w.heap.size a:=(hb1.block _ (by simp;omega)).trans HTA.out
 have hT2:fC w1 (w.heap.size+1) b:=(hb1.block _ (by simp)).trans HTB.out;have hO1:=cI hO hb1
 have hG:LF (w1.alloc (.cells #[.int .i64 g.x,.int .i64 g.y,.int .i64 g.d,.int .i64 g.e] 31)) w1.heap.size g:=World.alloc_heap_new w1 _;have hT1':fC (w1.alloc (.cells #[.int .i64 g.x,.int .i64 g.y,.int .i64 g.d,.int .i64 g.e] 31)) w.heap.size a:=(Below.heap_alloc _ _ _ (by omega)).trans hT1
 have hT2':fC (w1.alloc (.cells #[.int .i64 g.x,.int .i64 g.y,.int .i64 g.d,.int .i64 g.e] 31)) (w.heap.size+1) b:=(Below.heap_alloc _ _ _ (by omega)).trans hT2;have hO2:=hO1.alloc (.cells #[.int .i64 g.x,.int .i64 g.y,.int .i64 g.d,.int .i64 g.e] 31)
 have hB2:=hbw.alloc hbw.size (.cells #[.int .i64 g.x,.int .i64 g.y,.int .i64 g.d,.int .i64 g.e] 31);have hs2:(w1.alloc (.cells #[.int .i64 g.x,.int .i64 g.y,.int .i64 g.d,.int .i64 g.e] 31)).heap.size=w1.heap.size+1:=by simp
 generalize w1.alloc (.cells #[.int .i64 g.x,.int .i64 g.y,.int .i64 g.d,.int .i64 g.e] 31)=w3 at *;generalize w1.heap.size=Bg at *;clear hb1 hO hT1 hT2 hO1 hbw HB1 HO HW HTA HTB hc;have hq0:0≤a.c*b.c:=Int.mul_nonneg k1.1 k2.1
 have hq1:a.c*b.c≤10000:=by have:=Int.mul_le_mul k1.2 k2.2 k2.1 (by omega);omega
 go_loopw [6,9] (fun v ii wr=>∃i:Nat,i≤dJ a b+1∧ii= .int .i64 (i:Int)∧wr.ownsRow w.heap.size 33 5 v (cT (cK a b i) []).length (aG (cT (cK a b i) []))∧Below w.heap.size w wr∧fC wr w.heap.size a∧fC wr (w.heap.size+1) b∧LF wr Bg g) (fun _ ii _=>dJ a b+1-(intOf ii).toNat);case atStart=>exact⟨0,gT _,rfl,hO2,hB2,hT1',hT2',hG⟩
 case round=>
  obtain⟨i,hi,rfl,hown,hbl,hTa,hTb,hGg⟩:=hrel;obtain⟨a0,a1,a2,a3,a4⟩:=hTa.cells;obtain⟨b0,b1,b2,b3,b4⟩:=hTb.cells;obtain⟨g0,g1,g2,g3⟩:=hGg.cells;by_cases hlt:i≤dJ a b
  ·have i1:(i:Int)≤a.m.d:=by omega
   have i2:(i:Int)≤b.m.x:=by omega
   have HOWN:=aA hown;have HBL:=aA hbl
   have HTA2:=aA hTa;have HTB2:=aA hTb
   have HGG:=aA hGg;clear hown hbl hTa hTb hGg;go_wp2;clear a0 a1 a2 a3 a4 b0 b1 b2 b3 b4 g0 g1 g2 g3;go_loopw [6,10] (fun v kk wr=>∃k:Nat,k≤eR a b+1∧kk= .int .i64 (k:Int)∧wr.ownsRow w.heap.size 33 5 v (cT (cK a b i++iM a b i k) []).length (aG (cT (cK a b i++iM a b i k) []))∧Below w.heap.size w wr∧fC wr w.heap.size a∧fC wr (w.heap.size+1) b∧LF wr Bg g) (fun _ kk _=>eR a b+1-(intOf kk).toNat);case atStart=>exact⟨0,gT _,rfl,by have e0:cK a b i++iM a b i 0=cK a b i:=List.append_nil _;rw[e0];exact HOWN.out,HBL.out,HTA2.out,HTB2.out,HGG.out⟩
   case round=>
    obtain⟨k,hk,rfl,hown,hbl,hTa,hTb,hGg⟩:=hrel;obtain⟨a0,a1,a2,a3,a4⟩:=hTa.cells;obtain⟨b0,b1,b2,b3,b4⟩:=hTb.cells;obtain⟨g0,g1,g2,g3⟩:=hGg.cells;have HOK:=aA hown
    have HBK:=aA hbl;have HTAk:=aA hTa
    have HTBk:=aA hTb;have HGGk:=aA hGg
    clear hown hbl hTa hTb hGg;by_cases hlt2:k≤eR a b
    ·have j1:(k:Int)≤a.m.e:=by omega
     have j2:(k:Int)≤b.m.y:=by omega
     have p1:=lP (dA a.m.d i) (gG b.m.x i);have p2:=lP (dA a.m.e k) (gG b.m.y k)
     change 0≤wy a.m.d b.m.x i∧wy a.m.d b.m.x i≤100 at p1;change 0≤wy a.m.e b.m.y k∧wy a.m.e b.m.y k≤100 at p2;have q0:0≤a.c*b.c%101∧a.c*b.c%101≤100:=by omega
     have q1:0≤a.c*b.c%101*wy a.m.d b.m.x i:=Int.mul_nonneg q0.1 p1.1;have q2:a.c*b.c%101*wy a.m.d b.m.x i≤10000:=by have:=Int.mul_le_mul q0.2 p1.2 p1.1 (by omega);omega
     have q3:0≤a.c*b.c%101*wy a.m.d b.m.x i%101∧a.c*b.c%101*wy a.m.d b.m.x i%101≤100:=by omega
     have q4:0≤a.c*b.c%101*wy a.m.d b.m.x i%101*wy a.m.e b.m.y k:=Int.mul_nonneg q3.1 p2.1;have q5:a.c*b.c%101*wy a.m.d b.m.x i%101*wy a.m.e b.m.y k≤10000:=by have:=Int.mul_le_mul q3.2 p2.2 p2.1 (by omega);omega
     have hTN:iI a b i k=⟨a.c*b.c%101*wy a.m.d b.m.x i%101*wy a.m.e b.m.y k%101,⟨g.x-i,g.y-k,g.d-i,g.e-k⟩⟩:=by unfold iI;rw[H.out.gx,H.out.gy,H.out.gd,H.out.ge]
     have htok:MS (cK a b i++iM a b i k):=by
      have hall:=mM H.out;intro t ht;refine hall t ?_;unfold cK;rcases List.mem_append.1 ht with h1|h1
      ·unfold cK at h1;obtain⟨i',hi',h2⟩:=List.mem_flatMap.1 h1;exact List.mem_flatMap.2 ⟨i',List.mem_range.2 (by have:=List.mem_range.1 hi';omega),h2⟩
      ·refine List.mem_flatMap.2 ⟨i,List.mem_range.2 (by omega),?_⟩;unfold iM at h1⊢;obtain⟨k',hk',h2⟩:=List.mem_map.1 h1;exact List.mem_map.2 ⟨k',List.mem_range.2 (by have:=List.mem_range.1 hk';omega),h2⟩
     have hfl:=(jP _ [] htok dE).1;have hlen:(cT (cK a b i++iM a b i k) []).length≤1000:=by
      have h1:=lW (cK a b i++iM a b i k) [];have h2:(iM a b i k).length=k:=by simp[iM]
      rw[List.length_append,qU,h2]at h1;have h3:i*(eR a b+1)≤15*16:=Nat.mul_le_mul (by omega) (by omega)
      simp at h1;omega
     have hnx:cT (cK a b i++iM a b i (k+1)) []=fQ (a.c*b.c%101*wy a.m.d b.m.x i%101*wy a.m.e b.m.y k%101) ⟨g.x-i,g.y-k,g.d-i,g.e-k⟩ (cT (cK a b i++iM a b i k) []):=by rw[BJ,←List.append_assoc,tD,hTN]
     have HNX:=aA hnx;have HFL:=aA hfl
     have HLE:=aA hlen;clear hTN htok hfl hlen hnx
     go_wp2_with (first
      |(go_at_call 111;refine(MG _ _ _ _).mono ?_;rintro e w' ⟨rfl,hw'⟩;obtain rfl:=hw'.symm;clear hw')
      |(go_at_call 79;refine(sO _ w.heap.size _ _ _ _ _ _ _ HOK.out HBK.out.size HLE.out (nM HFL.out) (by omega) (by omega)).mono ?_;rintro e w5 ⟨v5,rfl,hb5,ho5⟩;have HB5:=aA hb5;have HO5:=aA ho5;clear hb5 ho5))
     go_roundw;case rel=>exact⟨k+1,by omega,by go_num,by rw[HNX.out];exact HO5.out,HBK.out.trans (HB5.out.mono HBK.out.size),(HB5.out.block _ (Array.getElem?_eq_some_iff.1 HTAk.out).1).trans HTAk.out,(HB5.out.block _ (Array.getElem?_eq_some_iff.1 HTBk.out).1).trans HTBk.out,(HB5.out.block _ (Array.getElem?_eq_some_iff.1 HGGk.out).1).trans HGGk.out⟩
     case measure=>simp[intOf];omega
    ·have hkl:k=eR a b+1:=by omega
     subst hkl;have hoe:=HOK.out
     rw[←pQ]at hoe;have HOE:=aA hoe
     clear hoe;by_cases hd:((eR a b+1:Nat):Int)≤a.m.e
     ·have hx:¬((eR a b+1:Nat):Int)≤b.m.y:=by omega
      go_wp2;go_roundw;case rel=>exact⟨i+1,by omega,by go_num,HOE.out,HBK.out,HTAk.out,HTBk.out,HGGk.out⟩
      case measure=>simp[intOf];omega
     ·go_wp2;go_roundw;case rel=>exact⟨i+1,by omega,by go_num,HOE.out,HBK.out,HTAk.out,HTBk.out,HGGk.out⟩
      case measure=>simp[intOf];omega
  ·have hil:i=dJ a b+1:=by omega
   subst hil;by_cases hd:((dJ a b+1:Nat):Int)≤a.m.d
   ·have hx:¬((dJ a b+1:Nat):Int)≤b.m.x:=by omega
    go_wp2;refine cN (results_tmp2 rfl _ _ _) rfl ?_;exact⟨_,rfl,hbl,hown⟩
   ·go_wp2;refine cN (results_tmp2 rfl _ _ _) rfl ?_;exact⟨_,rfl,hbl,hown⟩
def lI (a b:T):List T:=if(a.m.sum b.m).ok=true then bP a b else[]
theorem MA (w:World) (a b:T) (h1:a.m.ok=true∧0≤a.c∧a.c≤100) (h2:b.m.ok=true∧0≤b.c∧b.c≤100):Calls Try.prog 94 #[.agg #[.int .i64 a.c,.int .i64 a.m.x,.int .i64 a.m.y,.int .i64 a.m.d,.int .i64 a.m.e],.agg #[.int .i64 b.c,.int .i64 b.m.x,.int .i64 b.m.y,.int .i64 b.m.d,.int .i64 b.m.e]] w fun e w'=>∃v,e= .returned (.tuple #[v,.bool (a.m.sum b.m).ok])∧Below w.heap.size w w'∧w'.ownsRow w.heap.size 33 5 v (lI a b).length (aG (lI a b)):=by
 cases hok:(a.m.sum b.m).ok
 ·have e:lI a b=[]:=by simp[lI,hok]
  rw[e];exact KS w a b hok
 ·have e:lI a b=bP a b:=by simp[lI,hok]
  rw[e];exact IJ w a b ⟨h1.1,h2.1,hok,rfl,rfl,rfl,rfl,h1.2,h2.2⟩
theorem vQ {a b:T} (h:oV a b (a.m.sum b.m)):(bP a b).length≤1000:=by
 have h1:=lW (cK a b (dJ a b+1)) [];have m1:=M.ok_iff.1 h.ok1
 have lx:=h.lx;have ly:=h.ly
 rw[qU]at h1;have h3:(dJ a b+1)*(eR a b+1)≤16*16:=Nat.mul_le_mul (by omega) (by omega)
 unfold bP;simp at h1;omega
theorem vR {a b:T} (h1:a.m.ok=true∧0≤a.c∧a.c≤100) (h2:b.m.ok=true∧0≤b.c∧b.c≤100):(lI a b).length≤1000:=by
 unfold lI;split
 ·rename_i hok;exact vQ ⟨h1.1,h2.1,hok,rfl,rfl,rfl,rfl,h1.2,h2.2⟩
 ·simp
theorem DS (w:World) (a b:Option Addr) (la ca lb cb:Nat) (f g:Nat→T) (ha:Rd w a la ca f) (hb:Rd w b lb cb g) (l1:la≤400) (l2:lb≤400) (gf:jC f la) (gg:jC g lb):Calls Try.prog 65 #[.slice a la ca,.slice b lb cb] w fun r w'=>∃v,r= .returned (.tuple #[v,.bool (jM (bR f g lb la)).2])∧Below w.heap.size w w'∧w'.ownsRow w.heap.size 33 5 v (jM (bR f g lb la)).1.length (aG (jM (bR f g lb la)).1):=by
 have HA:=aA ha;have HB:=aA hb
 have HGF:=aA gf;have HGG:=aA gg
 have hO0:=bL w w.heap.size (Nat.le_refl _);have hB0:=aC w (.cells #[] 33)
 clear ha hb gf gg;go_enter Try.func65,Try.ntmps65;go_wp2;generalize w.alloc (.cells #[] 33)=w0 at *;go_loopw [6,7] (fun v ii wr=>∃(i:Nat) (K:List T),i≤la∧ii= .int .i64 (i:Int)∧bR f g lb i=some K∧aJ K∧K.length≤400∧wr.ownsRow w.heap.size 33 5 v K.length (aG K)∧Below w.heap.size w wr) (fun _ ii _=>la-(intOf ii).toNat);case atStart=>exact⟨0,[],gT _,rfl,rfl,dE,gT _,hO0,hB0⟩
 case round=>
  obtain⟨i,K,hi,rfl,hM,hKf,hKl,hown,hbl⟩:=hrel;by_cases hlt:i<la
  ·have hil:(i:Int)<(la:Int):=by omega
   have HM:=aA hM;have HKF:=aA hKf
   have HOWN:=aA hown;have HBL:=aA hbl
   clear hM hKf hown hbl;go_wp2;go_loopw [6,8] (fun v kk wr=>∃(k:Nat) (K':List T),k≤lb∧kk= .int .i64 (k:Int)∧dU K (f i) g k=some K'∧aJ K'∧K'.length≤400∧wr.ownsRow w.heap.size 33 5 v K'.length (aG K')∧Below w.heap.size w wr) (fun _ kk _=>lb-(intOf kk).toNat);case atStart=>exact⟨0,K,gT _,rfl,rfl,HKF.out,hKl,HOWN.out,HBL.out⟩
   case round=>
    obtain⟨k,K',hk,rfl,hM',hKf',hKl',hown',hbl'⟩:=hrel;by_cases hlt2:k<lb
    ·have hkl:(k:Int)<(lb:Int):=by omega
     have hri:=HA.out.below hbl';have hrk:=HB.out.below hbl'
     rcases hri.2.2 with h0|⟨pb,off,hpe,hblt,hcl⟩
     ·omega
     rcases hrk.2.2 with h0|⟨pb2,off2,hpe2,hblt2,hcl2⟩
     ·omega
     obtain⟨g0,g1,g2,g3,g4⟩:=hcl i hlt;obtain⟨j0,j1,j2,j3,j4⟩:=hcl2 k hlt2;have hfi:=HGF.out i hlt
     have hgk:=HGG.out k hlt2;obtain⟨av,cv,hv,hout⟩:=aI hown' (by omega);have HM':=aA hM'
     have HKF':=aA hKf';have HOUT:=aA hout
     have HBL':=aA hbl';clear hM' hKf' hown' hout hcl hcl2 hri hrk hbl';subst hpe hpe2 hv;go_wp2_with fail;have hps:=vR hfi hgk
     have hps2:(lI (f i) (g k)).length*40≤140737488351232:=by omega
     have hbr:=HBL'.out.size
     go_region_with (go_at_call 94;refine(MA _ (f i) (g k) hfi hgk).mono ?_;rintro r w5 ⟨v5,rfl,hb5,ho5⟩;obtain⟨a5,c5,rfl,hout5⟩:=aI ho5 hps2;have HB5:=aA ((cM wr.heap.size wr).drew.trans hb5);have HOUT5:=aA hout5;clear hb5 ho5 hout5)
     all_goals
      have hB5:Below w.heap.size w w5:=HBL'.out.trans (HB5.out.mono HBL'.out.size);by_cases hok:((f i).m.sum (g k).m).ok=true
      ·have hTwo:oV (f i) (g k) ((f i).m.sum (g k).m):=⟨hfi.1,hgk.1,hok,rfl,rfl,rfl,rfl,hfi.2,hgk.2⟩
       have epo:lI (f i) (g k)=bP (f i) (g k):=if_pos hok;have hfp:=(dO hTwo).1
       have hfa:=(cZ HKF'.out hfp).1;have hR5:Rd w5 av K'.length cv (lf K'):=HOUT.out.1.below (HB5.out)
       have hX5:=HOUT5.out.1;rw[epo]at hX5 hps;rw[epo,hok];have hadd:=kG w5 av a5 K'.length cv (bP (f i) (g k)).length c5 (lf K') (lf (bP (f i) (g k))) hR5 hX5 (by omega) ((nM HKF'.out).at) ((nM hfp).at)
       have eA:dS (lf K') K'.length (lf (bP (f i) (g k))) (bP (f i) (g k)).length 0 0=bT K' (bP (f i) (g k)):=rfl;rw[eA]at hadd;have hal:(bT K' (bP (f i) (g k))).length≤K'.length+(bP (f i) (g k)).length:=by have:=pL (lf K') K'.length (lf (bP (f i) (g k))) (bP (f i) (g k)).length 0 0;simp only[Nat.sub_zero]at this;exact this
       by_cases h4:(bT K' (bP (f i) (g k))).length≤400
       ·have hstep:dU K (f i) g (k+1)=some (bT K' (bP (f i) (g k))):=by rw[dU,HM'.out];show eM _ _ _=_;unfold eM;rw[if_pos ⟨hok,h4⟩]
        have HST:=aA hstep;have h4':((bT K' (bP (f i) (g k))).length:Int)≤400:=by omega
        clear hstep;generalize hL:bT K' (bP (f i) (g k))=L at *;go_wp2_with (go_at_call 66;refine hadd.mono ?_;rintro r w6 ⟨v6,rfl,hb6,ho6⟩;obtain⟨a6,c6,rfl,hout6⟩:=aI ho6 (by omega);have HB6:=aA hb6;have HO6:=aA ho6;clear hb6 ho6 hout6);go_roundw;case rel=>exact⟨k+1,L,by omega,by go_num,HST.out,hfa,h4,iG HO6.out hB5.size,hB5.trans (HB6.out.mono hB5.size)⟩
        case measure=>simp[intOf];omega
       ·have hstep:dU K (f i) g (k+1)=none:=by rw[dU,HM'.out];show eM _ _ _=_;unfold eM;rw[if_neg (fun h=>h4 h.2)]
        have hno:bR f g lb la=none:=rH (i:=i+1) (by rw[bR,HM.out];exact rN hstep lb (by omega)) la (by omega);have h4':(400:Int)<((bT K' (bP (f i) (g k))).length:Int):=by omega
        clear hstep;generalize hL:bT K' (bP (f i) (g k))=L at *;go_wp2_with (go_at_call 66;refine hadd.mono ?_;rintro r w6 ⟨v6,rfl,hb6,ho6⟩;obtain⟨a6,c6,rfl,hout6⟩:=aI ho6 (by omega);have HB6:=aA hb6;clear hb6 ho6 hout6);refine cN (results_tmp2 rfl _ _ _) rfl ?_;rw[hno];have hB6:Below w.heap.size w w6:=hB5.trans (HB6.out.mono hB5.size)
        exact⟨_,rfl,hB6.alloc hB6.size _,bL w6 w.heap.size hB6.size⟩
      ·have hstep:dU K (f i) g (k+1)=none:=by rw[dU,HM'.out];show eM _ _ _=_;unfold eM;rw[if_neg (fun h=>hok h.1)]
       have hno:bR f g lb la=none:=rH (i:=i+1) (by rw[bR,HM.out];exact rN hstep lb (by omega)) la (by omega);have hok':((f i).m.sum (g k).m).ok=false:=by simpa using hok
       rw[hok'];clear hstep;go_wp2;refine cN (results_tmp2 rfl _ _ _) rfl ?_;rw[hno];exact⟨_,rfl,hB5.alloc hB5.size _,bL w5 w.heap.size hB5.size⟩
    ·obtain rfl:k=lb:=by omega
     have HMk:Hid (bR f g k (i+1)=some K'):=by show _=_;rw[bR,HM.out];exact hM'
     go_wp2;go_roundw;case rel=>exact⟨i+1,K',by omega,by go_num,HMk.out,hKf',hKl',hown',hbl'⟩
     case measure=>simp[intOf];omega
  ·obtain rfl:i=la:=by omega
   go_wp2;refine cN (results_tmp2 rfl _ _ _) rfl ?_;rw[hM];exact⟨_,rfl,hbl,hown⟩
end Go.Proofs.Ytbkighpmkadmmaa
