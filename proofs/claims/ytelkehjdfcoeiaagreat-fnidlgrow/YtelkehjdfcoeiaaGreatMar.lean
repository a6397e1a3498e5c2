/-
  The product of two terms added to a sum.
-/
import Derived.Test.YtelkehjdfcoeiaaGreatMaq
set_option maxHeartbeats 8000000
set_option maxRecDepth 100000
namespace Go.Proofs.YtelkehjdfcoeiaaGreat
open Go.RowKit Go.Maps
set_option linter.unusedVariables false
theorem tM.of {a b:T} (h1:a.m.ok=true) (h2:b.m.ok=true) (h3:(a.m.sum b.m).ok=true) (c1:0≤a.c∧a.c≤100) (c2:0≤b.c∧b.c≤100):tM a b (a.m.sum b.m):=⟨h1,h2,h3,rfl,rfl,rfl,rfl,c1,c2⟩
theorem WS (a b : T) (g : M) (w : World) : Calls Tryz.prog 108 #[.agg #[.int .i64 a.c, .int .i64 a.m.x, .int .i64 a.m.y, .int .i64 a.m.d, .int .i64 a.m.e], .agg #[.int .i64 b.c, .int .i64 b.m.x, .int .i64 b.m.y, .int .i64 b.m.d, .int .i64 b.m.e], .agg #[.int .i64 g.x, .int .i64 g.y, .int .i64 g.d, .int .i64 g.e]] w fun e w' =>
      e= .returned (.func (.func 146) #[] #[.pointer (some ⟨w.heap.size,0,none⟩),.pointer (some ⟨w.heap.size+1,0,none⟩),.pointer (some ⟨w.heap.size+1+1,0,none⟩)])∧
      w'=((w.alloc (.cells #[.int .i64 a.c,.int .i64 a.m.x,.int .i64 a.m.y,.int .i64 a.m.d,.int .i64 a.m.e] 86)).alloc (.cells #[.int .i64 b.c,.int .i64 b.m.x,.int .i64 b.m.y,.int .i64 b.m.d,.int .i64 b.m.e] 86)).alloc (.cells #[.int .i64 g.x,.int .i64 g.y,.int .i64 g.d,.int .i64 g.e] 84):=by
  go_enter Tryz.func108,Tryz.ntmps108
  go_wp2
  go_ret
  exact⟨rfl,rfl⟩
theorem dH {w w':World} (h:Below w.heap.size w w') (row:Option Nat):w.grownBy w' row:=⟨h.os,h.tape,h.output,h.size,fun k hk _=>h.block k hk⟩
theorem TU (w:World) (bm:Nat) (a b:T) (h1:a.m.ok=true) (h2:b.m.ok=true) (h3:(a.m.sum b.m).ok=false):Calls Tryz.prog 65 #[.map (some bm),.agg #[.int .i64 a.c,.int .i64 a.m.x,.int .i64 a.m.y,.int .i64 a.m.d,.int .i64 a.m.e],.agg #[.int .i64 b.c,.int .i64 b.m.x,.int .i64 b.m.y,.int .i64 b.m.d,.int .i64 b.m.e]] w fun e w'=>e= .returned (.bool false)∧Below w.heap.size w w':=by
 have hm:M.mul a.m b.m=(M.zero,false):=by simp[M.mul,h3]
 have hc:=RH a.m.x a.m.y a.m.d a.m.e b.m.x b.m.y b.m.d b.m.e;have ea:(⟨a.m.x,a.m.y,a.m.d,a.m.e⟩:M)=a.m:=rfl
 have eb:(⟨b.m.x,b.m.y,b.m.d,b.m.e⟩:M)=b.m:=rfl;rw[ea,eb,hm]at hc;go_enter Tryz.func65,Tryz.ntmps65;go_wp2_with (go_at_call 106;refine(hc _).mono ?_;rintro e w1 ⟨rfl,hb1⟩);go_ret;exact⟨rfl,(aB ((aC w _).trans ((aC (w.alloc (.cells #[.int .i64 a.c,.int .i64 a.m.x,.int .i64 a.m.y,.int .i64 a.m.d,.int .i64 a.m.e] 86)) (.cells #[.int .i64 b.c,.int .i64 b.m.x,.int .i64 b.m.y,.int .i64 b.m.d,.int .i64 b.m.e] 86)).mono (by simp))) hb1).alloc (by have:=hb1.size;simp at this;omega) _⟩
theorem XI (w:World) (bm:Nat) (c:M→Int) (hS:bU w bm 65536 c) (a b:T) (h:tM a b (a.m.sum b.m)) {K:List T} (hK:aL K) (hKc:∀m,m.ok=true→aM K m=oN c (pB h (XO a b)) m):Calls Tryz.prog 65 #[.map (some bm),.agg #[.int .i64 a.c,.int .i64 a.m.x,.int .i64 a.m.y,.int .i64 a.m.d,.int .i64 a.m.e],.agg #[.int .i64 b.c,.int .i64 b.m.x,.int .i64 b.m.y,.int .i64 b.m.d,.int .i64 b.m.e]] w fun e w'=>e= .returned (.bool (decide (K.length≤400)))∧bU w' bm 65536 (oN c (pB h (XO a b)))∧w.grownBy w' (some bm):=by
 have hm:M.mul a.m b.m=(a.m.sum b.m,true):=by simp[M.mul,h.ok1,h.ok2,h.ok3]
 have hc:=RH a.m.x a.m.y a.m.d a.m.e b.m.x b.m.y b.m.d b.m.e;have ea:(⟨a.m.x,a.m.y,a.m.d,a.m.e⟩:M)=a.m:=rfl
 have eb:(⟨b.m.x,b.m.y,b.m.d,b.m.e⟩:M)=b.m:=rfl;rw[ea,eb,hm]at hc;have HS:=aA hS
 have H:=aA h;have hblt:=hS.lt
 clear hS;generalize a.m.sum b.m=g at *;have hTA:dF ((w.alloc (.cells #[.int .i64 a.c,.int .i64 a.m.x,.int .i64 a.m.y,.int .i64 a.m.d,.int .i64 a.m.e] 86)).alloc (.cells #[.int .i64 b.c,.int .i64 b.m.x,.int .i64 b.m.y,.int .i64 b.m.d,.int .i64 b.m.e] 86)) w.heap.size a:=(Below.heap_alloc _ _ _ (by simp)).trans (World.alloc_heap_new w _)
 have hTB:dF ((w.alloc (.cells #[.int .i64 a.c,.int .i64 a.m.x,.int .i64 a.m.y,.int .i64 a.m.d,.int .i64 a.m.e] 86)).alloc (.cells #[.int .i64 b.c,.int .i64 b.m.x,.int .i64 b.m.y,.int .i64 b.m.d,.int .i64 b.m.e] 86)) (w.heap.size+1) b:=by have:=World.alloc_heap_new (w.alloc (.cells #[.int .i64 a.c,.int .i64 a.m.x,.int .i64 a.m.y,.int .i64 a.m.d,.int .i64 a.m.e] 86)) (.cells #[.int .i64 b.c,.int .i64 b.m.x,.int .i64 b.m.y,.int .i64 b.m.d,.int .i64 b.m.e] 86);rwa[World.size_alloc]at this
 have HTA:=aA hTA;have HTB:=aA hTB
 have HBW:=aA (((bG w.heap.size w).alloc (Nat.le_refl _) (.cells #[.int .i64 a.c,.int .i64 a.m.x,.int .i64 a.m.y,.int .i64 a.m.d,.int .i64 a.m.e] 86)).alloc (by simp) (.cells #[.int .i64 b.c,.int .i64 b.m.x,.int .i64 b.m.y,.int .i64 b.m.d,.int .i64 b.m.e] 86));clear hTA hTB;go_enter Tryz.func65,Tryz.ntmps65
 go_wp2_with (first
  |(go_at_call 106;refine(hc _).mono ?_;rintro e w1 ⟨rfl,hb1⟩;have kA:dF w1 w.heap.size a:=(hb1.block _ (by simp;omega)).trans HTA.out;have kB:dF w1 (w.heap.size+1) b:=(hb1.block _ (by simp)).trans HTB.out;obtain⟨x0,x1,x2,x3,x4⟩:=kA.cells;obtain⟨y0,y1,y2,y3,y4⟩:=kB.cells;have hs1:=hb1.size;simp only[World.size_alloc]at hs1;have hx1:w.heap.size<w1.heap.size:=(by omega);have hx2:w.heap.size+1<w1.heap.size:=(by omega);have HB1:=aA (HBW.out.trans (hb1.mono (by simp;omega)));clear hb1 kA kB)
  |(go_at_call 108;refine(WS a b g _).mono ?_;rintro e w2 ⟨rfl,hw2⟩;obtain rfl:=hw2.symm;clear hw2))
 obtain⟨W3,hW3⟩:∃W3,w1.alloc (.cells #[.int .i64 g.x,.int .i64 g.y,.int .i64 g.d,.int .i64 g.e] 84)=W3:=⟨_,rfl⟩
 have hs3:W3.heap.size=w1.heap.size+1:=by rw[←hW3];simp
 have hb3:Below w.heap.size w W3:=by rw[←hW3];exact HB1.out.alloc HB1.out.size _
 rw[hW3];clear hW3 x0 x1 x2 x3 x4 y0 y1 y2 y3 y4;have tA:dF (((W3.alloc (.cells #[.int .i64 a.c,.int .i64 a.m.x,.int .i64 a.m.y,.int .i64 a.m.d,.int .i64 a.m.e] 86)).alloc (.cells #[.int .i64 b.c,.int .i64 b.m.x,.int .i64 b.m.y,.int .i64 b.m.d,.int .i64 b.m.e] 86)).alloc (.cells #[.int .i64 g.x,.int .i64 g.y,.int .i64 g.d,.int .i64 g.e] 84)) (w1.heap.size+1) a:=by have:=World.alloc_heap_new W3 (.cells #[.int .i64 a.c,.int .i64 a.m.x,.int .i64 a.m.y,.int .i64 a.m.d,.int .i64 a.m.e] 86);rw[hs3]at this;exact(Below.heap_alloc _ _ _ (by simp;omega)).trans ((Below.heap_alloc _ _ _ (by simp;omega)).trans this)
 have tB:dF (((W3.alloc (.cells #[.int .i64 a.c,.int .i64 a.m.x,.int .i64 a.m.y,.int .i64 a.m.d,.int .i64 a.m.e] 86)).alloc (.cells #[.int .i64 b.c,.int .i64 b.m.x,.int .i64 b.m.y,.int .i64 b.m.d,.int .i64 b.m.e] 86)).alloc (.cells #[.int .i64 g.x,.int .i64 g.y,.int .i64 g.d,.int .i64 g.e] 84)) (w1.heap.size+1+1) b:=by have:=World.alloc_heap_new (W3.alloc (.cells #[.int .i64 a.c,.int .i64 a.m.x,.int .i64 a.m.y,.int .i64 a.m.d,.int .i64 a.m.e] 86)) (.cells #[.int .i64 b.c,.int .i64 b.m.x,.int .i64 b.m.y,.int .i64 b.m.d,.int .i64 b.m.e] 86);rw[World.size_alloc,hs3]at this;exact(Below.heap_alloc _ _ _ (by simp;omega)).trans this
 have tG:Dt (((W3.alloc (.cells #[.int .i64 a.c,.int .i64 a.m.x,.int .i64 a.m.y,.int .i64 a.m.d,.int .i64 a.m.e] 86)).alloc (.cells #[.int .i64 b.c,.int .i64 b.m.x,.int .i64 b.m.y,.int .i64 b.m.d,.int .i64 b.m.e] 86)).alloc (.cells #[.int .i64 g.x,.int .i64 g.y,.int .i64 g.d,.int .i64 g.e] 84)) (w1.heap.size+1+1+1) g:=by have:=World.alloc_heap_new ((W3.alloc (.cells #[.int .i64 a.c,.int .i64 a.m.x,.int .i64 a.m.y,.int .i64 a.m.d,.int .i64 a.m.e] 86)).alloc (.cells #[.int .i64 b.c,.int .i64 b.m.x,.int .i64 b.m.y,.int .i64 b.m.d,.int .i64 b.m.e] 86)) (.cells #[.int .i64 g.x,.int .i64 g.y,.int .i64 g.d,.int .i64 g.e] 84);rw[World.size_alloc,World.size_alloc,hs3]at this;exact this
 have hb4:Below w.heap.size w (((W3.alloc (.cells #[.int .i64 a.c,.int .i64 a.m.x,.int .i64 a.m.y,.int .i64 a.m.d,.int .i64 a.m.e] 86)).alloc (.cells #[.int .i64 b.c,.int .i64 b.m.x,.int .i64 b.m.y,.int .i64 b.m.d,.int .i64 b.m.e] 86)).alloc (.cells #[.int .i64 g.x,.int .i64 g.y,.int .i64 g.d,.int .i64 g.e] 84)):=((hb3.alloc hb3.size _).alloc (by have:=hb3.size;simp;omega) _).alloc (by have:=hb3.size;simp;omega) _;generalize((W3.alloc (.cells #[.int .i64 a.c,.int .i64 a.m.x,.int .i64 a.m.y,.int .i64 a.m.d,.int .i64 a.m.e] 86)).alloc (.cells #[.int .i64 b.c,.int .i64 b.m.x,.int .i64 b.m.y,.int .i64 b.m.d,.int .i64 b.m.e] 86)).alloc (.cells #[.int .i64 g.x,.int .i64 g.y,.int .i64 g.d,.int .i64 g.e] 84)=W4 at *;have hS4:bU W4 bm 65536 c:=HS.out.grown (dH hb4 none) (by simp)
 refine(Ex W4 bm c hS4 146 _ (enters_of Tryz.func146 (by kernel_rfl) rfl) _ (Ko H.out (w1.heap.size+1) (w1.heap.size+1+1) (w1.heap.size+1+1+1) W4 tA tB tG)).mono ?_;rintro e w5 ⟨rfl,hs5,hg5⟩;have HS5:=aA hs5
 have HG5:=aA ((dH hb4 (some bm)).trans hg5);obtain⟨D,ho,hc5,hat5,hks5⟩:=hs5;have hszD:=IJ ho hat5 hks5 hK hKc
 have hlen:=ho.len Tryz.underlying95 3;rw[hszD]at hlen;have hd:decide ((K.length:Int)≤400)=decide (K.length≤400):=by by_cases hk4:K.length≤400<;>simp[hk4]<;>omega
 clear ho hat5 hks5 hc5 hg5 hS4 tA tB tG;go_wp2;go_ret;exact⟨by rw[←hd];rfl,HS5.out,HG5.out⟩
open Go.RowKit
def oI (a b:T) (i k:Nat):T:=⟨a.c*b.c%101*wy a.m.d b.m.x i%101*wy a.m.e b.m.y k%101,⟨a.m.x+b.m.x-i,a.m.y+b.m.y-k,a.m.d+b.m.d-i,a.m.e+b.m.e-k⟩⟩
def oT (a b:T) (i k:Nat):List T:=(List.range k).map (oI a b i)
def gG (a b:T) (i:Nat):List T:=(List.range i).flatMap fun i=>oT a b i (jK a b+1)
theorem AM (a b:T) (i:Nat):gG a b (i+1)=gG a b i++oT a b i (jK a b+1):=by simp[gG,List.range_succ]
theorem WJ (a b:T) (i k:Nat):oT a b i (k+1)=oT a b i k++[oI a b i k]:=by simp[oT,List.range_succ]
theorem FH {lim:Nat} {s t:Int} {k:Nat} (h:k≤lim):(wL lim s t k).1.1=(k:Int):=if_pos h
theorem QK {a b:T} {g:M} (h:tM a b g):(pB h (XO a b)).map (·.1)=gG a b (iK a b+1):=by
 have key:∀i,i≤iK a b→((Ea a b).map (qQ h (wL (iK a b) a.m.d b.m.x i))).map (·.1)=oT a b i (jK a b+1):=fun i hi=>by
  unfold Ea pQ oT;rw[List.map_map,List.map_map];refine List.map_congr_left (fun k hk=>?_);rw[List.mem_range]at hk;show DA a b g (wL (iK a b) a.m.d b.m.x i) (wL (jK a b) a.m.e b.m.y k)=oI a b i k
  unfold DA oI;rw[FH hi,FH (show k≤jK a b by omega),h.gx,h.gy,h.gd,h.ge];rfl
 have:∀n,n≤iK a b+1→(pB h (pQ (iK a b) a.m.d b.m.x n)).map (·.1)=gG a b n:=fun n=>by
  induction n with
  |zero=>intro _;rfl
  |succ n ih=>
   intro hn;rw[←DD,EB,List.map_append,ih (by omega),key n (by omega),AM]
 exact this _ (Nat.le_refl _)
theorem TR (c:M→Int) (xs:List TO):oN c xs=mB c (xs.map (·.1)):=by unfold oN mB;rw[List.foldl_map]
theorem rH {a b:T} {g:M} (h:tM a b g):Lk (gG a b (iK a b+1)):=by rw[←QK h];intro t ht;obtain⟨x,_,rfl⟩:=List.mem_map.1 ht;exact x.2
def dL (a b:T):List T:=gP (gG a b (iK a b+1)) []
theorem gY {a b:T} {g:M} (h:tM a b g):aL (dL a b)∧aM (dL a b)=mB (fun _=>0) (gG a b (iK a b+1)):=qH _ [] (rH h) eY
theorem TT {a b:T} {g:M} (h:tM a b g) {K:List T} (hK:aL K) {c:M→Int} (hc:∀m,0≤c m∧c m≤100) (hKc:∀m,m.ok=true→aM K m=c m):aL (dG K (dL a b))∧∀m,m.ok=true→aM (dG K (dL a b)) m=oN c (pB h (XO a b)) m:=by
 have h1:=gY h;have h2:=cW hK h1.1
 refine⟨h2.1,fun m hm=>?_⟩;rw[h2.2,h1.2,hKc m hm,TR,QK h,qZ _ c m (rH h) hc]
def iC (K:List T) (a b:T):Option (List T):=if(a.m.sum b.m).ok=true∧(dG K (dL a b)).length≤400 then some (dG K (dL a b))else none
def gQ (K:List T) (a:T) (g:Nat→T):Nat→Option (List T)
 |0=>some K
 |k+1=>(gQ K a g k).bind fun K'=>iC K' a (g k)
def cM (f:Nat→T) (g:Nat→T) (lb:Nat):Nat→Option (List T)
 |0=>some []
 |i+1=>(cM f g lb i).bind fun K=>gQ K (f i) g lb
theorem sQ {K:List T} {a:T} {g:Nat→T} {k:Nat} (h:gQ K a g k=none):∀j,k≤j→gQ K a g j=none:=fun j hj=>by
 induction j with
 |zero=>
  have e:k=0:=by omega
  rw[e]at h;exact h
 |succ j ih=>
  by_cases e:k=j+1
  ·rw[←e];exact h
  ·rw[gQ,ih (by omega)];rfl
theorem sL {f g:Nat→T} {lb i:Nat} (h:cM f g lb i=none):∀j,i≤j→cM f g lb j=none:=fun j hj=>by
 induction j with
 |zero=>
  have e:i=0:=by omega
  rw[e]at h;exact h
 |succ j ih=>
  by_cases e:i=j+1
  ·rw[←e];exact h
  ·rw[cM,ih (by omega)];rfl
def bT (f:Nat→T) (la:Nat) (g:Nat→T) (lb:Nat):List T×Bool:=if aO la f=true∧aO lb g=true then kW (cM f g lb la)else([],false)
theorem Ce {K:List T} {a:T} {g:Nat→T} (hK:K.length≤400):∀k K',gQ K a g k=some K'→K'.length≤400
 |0,K',h=>by cases h;exact hK
 |k+1,K',h=>by
  rw[gQ]at h;cases hr:gQ K a g k with
  |none=>rw[hr]at h;cases h
  |some K1=>
   rw[hr]at h;change iC K1 a (g k)=some K' at h;unfold iC at h;split at h
   ·rename_i hh;cases h;exact hh.2
   ·cases h
theorem gN {f g:Nat→T} {lb:Nat}:∀i K,cM f g lb i=some K→K.length≤400
 |0,K,h=>by cases h;exact Nat.zero_le _
 |i+1,K,h=>by
  rw[cM]at h;cases hr:cM f g lb i with
  |none=>rw[hr]at h;cases h
  |some K1=>
   rw[hr]at h;exact Ce (gN i K1 hr) lb K h
theorem uK (f:Nat→T) (la:Nat) (g:Nat→T) (lb:Nat):(bT f la g lb).1.length≤400:=by
 unfold bT;split
 ·cases h:cM f g lb la with
  |none=>simp[kW]
  |some K=>exact gN la K h
 ·simp
theorem Hr (w:World) (a b:Option Addr) (la ca lb cb:Nat) (f g:Nat→T) (ha:Rd w a la ca f) (hb:Rd w b lb cb g):Calls Tryz.prog 28 #[.slice a la ca,.slice b lb cb] w fun r w'=>∃v,r= .returned (.tuple #[v,.bool (bT f la g lb).2])∧Below w.heap.size w w'∧w'.ownsRow w.heap.size 86 5 v (bT f la g lb).1.length (aE (bT f la g lb).1):=by
 have HA:=aA ha;have HB:=aA hb
 have hla:(la:Int)≤140737488351232:=by have:=ha.2.1;omega
 have hlb:(lb:Int)≤140737488351232:=by have:=hb.2.1;omega
 clear ha hb;cases hpa:aO la f
 ·have e1:bT f la g lb=([],false):=by simp[bT,hpa]
  rw[e1];go_enter Tryz.func28,Tryz.ntmps28;go_wp2_with (go_at_call 52;refine(eW _ _ _ _ f HA.out).mono ?_;rw[hpa];rintro r w1 ⟨rfl,hb1⟩;have HB1:=aA hb1;clear hb1);refine cD (results_tmp2 rfl _ _ _) rfl ?_;exact⟨_,rfl,HB1.out,lI w1 _⟩
 ·cases hpb:aO lb g
  ·have e1:bT f la g lb=([],false):=by simp[bT,hpb]
   rw[e1];go_enter Tryz.func28,Tryz.ntmps28
   go_wp2_with (first
    |(go_at_call_of 52 (Value.slice a la ca);refine(eW _ _ _ _ f HA.out).mono ?_;rw[hpa];rintro r w1 ⟨rfl,hb1⟩;have HB1:=aA hb1;clear hb1)
    |(go_at_call_of 52 (Value.slice b lb cb);refine(eW _ _ _ _ g (HB.out.below HB1.out)).mono ?_;rw[hpb];rintro r w2 ⟨rfl,hb2⟩;have HB2:=aA hb2;clear hb2))
   refine cD (results_tmp2 rfl _ _ _) rfl ?_;exact⟨_,rfl,aB HB1.out HB2.out,lI w2 _⟩
  ·have e2:bT f la g lb=kW (cM f g lb la):=by simp[bT,hpa,hpb]
   rw[e2];clear e2;have l1:la≤400:=by have h:=hpa;simp only[aO,decide_eq_true_eq]at h;exact h.1
   have l2:lb≤400:=by have h:=hpb;simp only[aO,decide_eq_true_eq]at h;exact h.1
   have HPA:=aA hpa;have HPB:=aA hpb
   have hmm:=@run_makeMap Tryz.prog;go_enter Tryz.func28,Tryz.ntmps28
   go_wp2_with (first
    |(go_at_call_of 52 (Value.slice a la ca);refine(eW _ _ _ _ f HA.out).mono ?_;rw[hpa];rintro r w1 ⟨rfl,hb1⟩;have HB1:=aA hb1;clear hb1)
    |(go_at_call_of 52 (Value.slice b lb cb);refine(eW _ _ _ _ g (HB.out.below HB1.out)).mono ?_;rw[hpb];rintro r w2 ⟨rfl,hb2⟩;have HB2:=aA (aB HB1.out hb2);clear hb2))
   clear hpa hpb;have HRA:=aA (HA.out.below HB2.out)
   have HRB:=aA (HB.out.below HB2.out);have HNA:=aA (HRA.out.apart (Nat.le_refl _))
   have HNB:=aA (HRB.out.apart (Nat.le_refl _));have hlo:w.heap.size≤w2.heap.size:=HB2.out.size
   have HS0:=aA ((xZ w2).cap);have HG0:=aA (World.grownBy_alloc w2 (.map #[] 0) (some w2.heap.size))
   generalize hw3:w2.alloc (.map #[] 0)=w3 at *;clear hw3 hmm;go_loopw [22] (fun v wr=>∃(i:Nat) (K:List T) (c:M→Int),i≤la∧v= .int .i64 (i:Int)∧cM f g lb i=some K∧aL K∧(∀m,m.ok=true→aM K m=c m)∧bU wr w2.heap.size 65536 c∧w2.grownBy wr (some w2.heap.size)) (fun v _=>la-(intOf v).toNat);case atStart=>exact⟨0,[],fun _=>0,Nat.zero_le _,rfl,rfl,eY,fun _ _=>rfl,HS0.out,HG0.out⟩
   case round=>
    obtain⟨i,K,c,hi,rfl,hM,hKf,hKc,hS,hg⟩:=hrel;by_cases hlt:i<la
    ·have hil:(i:Int)<(la:Int):=by omega
     have hri:=HRA.out.grown hg HNA.out;rcases hri.2.2 with h0|⟨pb,off,hpe,hblt,hcl⟩
     ·omega
     obtain⟨g0,g1,g2,g3,g4⟩:=hcl i hlt;have hfi:=LT HPA.out hlt
     have HS:=aA hS;have HG:=aA hg
     have HM:=aA hM;clear hcl hri hS hg hM;subst hpe;go_wp2;have hT1:dF (wr.alloc (.cells #[.int .i64 (f i).c,.int .i64 (f i).m.x,.int .i64 (f i).m.y,.int .i64 (f i).m.d,.int .i64 (f i).m.e] 86)) wr.heap.size (f i):=World.alloc_heap_new wr _
     have HS1:=aA (HS.out.grown (World.grownBy_alloc wr (.cells #[.int .i64 (f i).c,.int .i64 (f i).m.x,.int .i64 (f i).m.y,.int .i64 (f i).m.d,.int .i64 (f i).m.e] 86) none) (by simp));have HG1:=aA (HG.out.trans (World.grownBy_alloc wr (.cells #[.int .i64 (f i).c,.int .i64 (f i).m.x,.int .i64 (f i).m.y,.int .i64 (f i).m.d,.int .i64 (f i).m.e] 86) (some w2.heap.size)))
     have hbl:w2.heap.size<wr.heap.size:=HS.out.lt;have hs1:(wr.alloc (.cells #[.int .i64 (f i).c,.int .i64 (f i).m.x,.int .i64 (f i).m.y,.int .i64 (f i).m.d,.int .i64 (f i).m.e] 86)).heap.size=wr.heap.size+1:=by simp
     clear g0 g1 g2 g3 g4;generalize wr.alloc (.cells #[.int .i64 (f i).c,.int .i64 (f i).m.x,.int .i64 (f i).m.y,.int .i64 (f i).m.d,.int .i64 (f i).m.e] 86)=wi at *;generalize wr.heap.size=Bf at *;go_loopw [28] (fun v wr'=>∃(k:Nat) (K':List T) (c':M→Int),k≤lb∧v= .int .i64 (k:Int)∧gQ K (f i) g k=some K'∧aL K'∧(∀m,m.ok=true→aM K' m=c' m)∧bU wr' w2.heap.size 65536 c'∧w2.grownBy wr' (some w2.heap.size)∧dF wr' Bf (f i)) (fun v _=>lb-(intOf v).toNat);case atStart=>exact⟨0,K,c,Nat.zero_le _,rfl,rfl,hKf,hKc,HS1.out,HG1.out,hT1⟩
     case round=>
      obtain⟨k,K',c',hk,rfl,hM',hKf',hKc',hS',hg',hT'⟩:=hrel;by_cases hlt2:k<lb
      ·have hkl:(k:Int)<(lb:Int):=by omega
       have hrk:=HRB.out.grown hg' HNB.out;rcases hrk.2.2 with h0|⟨pb2,off2,hpe2,hblt2,hcl2⟩
       ·omega
       obtain⟨g0,g1,g2,g3,g4⟩:=hcl2 k hlt2;obtain⟨t0,t1,t2,t3,t4⟩:=hT'.cells;have hgk:=LT HPB.out hlt2
       have htl:Bf<wr.heap.size:=(Array.getElem?_eq_some_iff.1 hT').1;have HSk:=aA (hS'.grown (World.grownBy_alloc wr (.cells #[.int .i64 (g k).c,.int .i64 (g k).m.x,.int .i64 (g k).m.y,.int .i64 (g k).m.d,.int .i64 (g k).m.e] 86) none) (by simp))
       have HGk:=aA (hg'.trans (World.grownBy_alloc wr (.cells #[.int .i64 (g k).c,.int .i64 (g k).m.x,.int .i64 (g k).m.y,.int .i64 (g k).m.d,.int .i64 (g k).m.e] 86) (some w2.heap.size)));have HTk:Hid (dF (wr.alloc (.cells #[.int .i64 (g k).c,.int .i64 (g k).m.x,.int .i64 (g k).m.y,.int .i64 (g k).m.d,.int .i64 (g k).m.e] 86)) Bf (f i)):=(Below.heap_alloc _ _ _ htl).trans hT'
       have HMk:=aA hM';have hcr:=hS'.range
       clear hcl2 hrk hS' hg' hM' hT';subst hpe2;by_cases hok:((f i).m.sum (g k).m).ok=true
       ·have hTwo:tM (f i) (g k) ((f i).m.sum (g k).m):=tM.of hfi.1 hgk.1 hok hfi.2 hgk.2;obtain⟨nf,nc⟩:=TT hTwo hKf' hcr hKc';have hcall:=XI _ w2.heap.size c' HSk.out (f i) (g k) hTwo nf nc
        by_cases h4:(dG K' (dL (f i) (g k))).length≤400
        ·have hstep:gQ K (f i) g (k+1)=some (dG K' (dL (f i) (g k))):=by rw[gQ,HMk.out];show iC _ _ _=_;unfold iC;rw[if_pos ⟨hok,h4⟩]
         have HST:=aA hstep;rw[decide_eq_true h4]at hcall;clear hstep;go_wp2_with (go_at_call 65;refine hcall.mono ?_;rintro r w6 ⟨rfl,hs6,hg6⟩;have HS6:=aA hs6;have HG6:=aA hg6;clear hs6 hg6);go_roundw;case rel=>exact⟨k+1,_,_,by omega,by go_num,HST.out,nf,nc,HS6.out,HGk.out.trans HG6.out,(HG6.out.block _ (by simp;omega) (fun e=>by cases e;omega)).trans HTk.out⟩
         case measure=>simp[intOf];omega
        ·have hstep:gQ K (f i) g (k+1)=none:=by rw[gQ,HMk.out];show iC _ _ _=_;unfold iC;rw[if_neg (fun h=>h4 h.2)]
         have hno:cM f g lb la=none:=sL (i:=i+1) (by rw[cM,HM.out];exact sQ hstep lb (by omega)) la (by omega);rw[decide_eq_false h4]at hcall;clear hstep;go_wp2_with (go_at_call 65;refine hcall.mono ?_;rintro r w6 ⟨rfl,hs6,hg6⟩;have HG6:=aA hg6;clear hs6 hg6);refine cD (results_tmp2 rfl _ _ _) rfl ?_;rw[hno];exact⟨_,rfl,HB2.out.grown (HGk.out.trans HG6.out) hlo (fun k' e=>by cases e;exact hlo),lI w6 _⟩
       ·have hstep:gQ K (f i) g (k+1)=none:=by rw[gQ,HMk.out];show iC _ _ _=_;unfold iC;rw[if_neg (fun h=>hok h.1)]
        have hno:cM f g lb la=none:=sL (i:=i+1) (by rw[cM,HM.out];exact sQ hstep lb (by omega)) la (by omega);have hcall:=TU (wr.alloc (.cells #[.int .i64 (g k).c,.int .i64 (g k).m.x,.int .i64 (g k).m.y,.int .i64 (g k).m.d,.int .i64 (g k).m.e] 86)) w2.heap.size (f i) (g k) hfi.1 hgk.1 (by simpa using hok)
        clear hstep;go_wp2_with (go_at_call 65;refine hcall.mono ?_;rintro r w6 ⟨rfl,hb6⟩;have HG6:=aA (dH hb6 (some w2.heap.size));clear hb6);refine cD (results_tmp2 rfl _ _ _) rfl ?_;rw[hno];exact⟨_,rfl,HB2.out.grown (HGk.out.trans HG6.out) hlo (fun k' e=>by cases e;exact hlo),lI w6 _⟩
      ·obtain rfl:k=lb:=by omega
       have HMk:Hid (cM f g k (i+1)=some K'):=by show _=_;rw[cM,HM.out];exact hM'
       have HSk:=aA hS';have HGk:=aA hg'
       clear hS' hg' hM' hT';go_wp2;go_roundw;case rel=>exact⟨i+1,K',c',by omega,by go_num,HMk.out,hKf',hKc',HSk.out,HGk.out⟩
       case measure=>simp[intOf];omega
    ·obtain rfl:i=la:=by omega
     have hKl:=gN _ _ hM;have e3:kW (cM f g lb i)=DO K:=by rw[hM];simp[kW,DO,hKl]
     go_wp2_with (go_at_call 66;refine(PW _ _ _ _ hS (by omega) hKf hKc).mono ?_;rintro r w5 ⟨v,rfl,hb5,ho5⟩);refine cD (results_tmp2 rfl _ _ _) rfl ?_;rw[e3];have hB4:Below w.heap.size w wr:=HB2.out.grown hg hlo (fun k' e=>by cases e;exact hlo)
     exact⟨_,rfl,hB4.trans (hb5.mono hB4.size),iY ho5 hB4.size⟩
theorem wQ (w:World) (a b:Option Addr) (la ca lb cb:Nat) (f g:Nat→T) (ha:Rd w a la ca f) (hb:Rd w b lb cb g):Calls Tryz.prog 28 #[.slice a la ca,.slice b lb cb] w fun r w'=>∃a' cap',r= .returned (.tuple #[.slice a' (bT f la g lb).1.length cap',.bool (bT f la g lb).2])∧Below w.heap.size w w'∧jG w.heap.size w' a' cap' (bT f la g lb).1:=by
 refine(Hr w a b la ca lb cb f g ha hb).mono ?_;rintro r w' ⟨v,rfl,hb1,ho1⟩;have hlen:=uK f la g lb
 obtain⟨a',cap',rfl,hout⟩:=aI ho1 (by omega);exact⟨a',cap',rfl,hb1,hout⟩
theorem DL (n k:Int):0≤fV n k∧fV n k≤100:=by unfold fV;split<;>omega
theorem YG (n:Int):∀k:Nat,0≤fl n k∧fl n k≤100
 |0=>by unfold fl;omega
 |k+1=>by unfold fl;omega
theorem JX (n k:Int):0≤kP n k∧kP n k≤100:=by
 unfold kP;split
 ·exact YG _ _
 ·omega
theorem Mn (s t k:Int) (w:World):Calls Tryz.prog 182 #[.int .i64 s,.int .i64 t,.int .i64 k] w fun e w'=>e= .returned (.int .i64 (wy s t k))∧w'=w:=by
 have h1:=DL s k;have h2:=JX t k
 have hm:wy s t k=fV s k*kP t k%101:=jO h1.1 h1.2 h2.1 h2.2
 have hb:0≤fV s k*kP t k∧fV s k*kP t k≤10000:=⟨Int.mul_nonneg h1.1 h2.1,by
  have:=Int.mul_le_mul h1.2 h2.2 h2.1 (by omega);omega⟩
 rw[hm];have hc:=Eh s k
 have hf:=Ii t k;generalize fV s k=p at *;generalize kP t k=q at *;generalize hpq:p*q=r at *;clear hm;go_enter Tryz.func182,Tryz.ntmps182
 go_wp2_with (first
  |(go_at_call 191;refine(hc _).mono ?_;rintro e w' ⟨rfl,hw'⟩;obtain rfl:=hw'.symm;clear hw')
  |(go_at_call 192;refine(hf _).mono ?_;rintro e w' ⟨rfl,hw'⟩;obtain rfl:=hw'.symm;clear hw'))
 go_ret;exact⟨rfl,rfl⟩
theorem GZ (xs:List T) (t:T) (L:List T):gP (xs++[t]) L=lJ t.c t.m (gP xs L):=by simp[gP]
theorem uE:∀(xs L:List T),(gP xs L).length≤L.length+xs.length
 |[],L=>Nat.le_refl _
 |t::r,L=>by
  have h1:=uE r (lJ t.c t.m L);have h2:=wC t.c t.m L
  show(gP r (lJ t.c t.m L)).length≤_;rw[List.length_cons];omega
theorem EA (a b:T) (i:Nat):(gG a b i).length=i*(jK a b+1):=by unfold gG;rw[rI (jK a b+1) _ (fun i=>by simp[oT])];simp
def Ks (W:World) (Bx:Nat) (m:M):Prop:=W.heap[Bx]? =some (.cells #[.int .i64 m.x,.int .i64 m.y,.int .i64 m.d,.int .i64 m.e] 84 (0,0))
theorem Ks.cells {W:World} {Bx:Nat} {m:M} (h:Ks W Bx m):W.cell? ⟨Bx,0,none⟩=some (.int .i64 m.x)∧W.cell? ⟨Bx,1,none⟩=some (.int .i64 m.y)∧W.cell? ⟨Bx,2,none⟩=some (.int .i64 m.d)∧W.cell? ⟨Bx,3,none⟩=some (.int .i64 m.e):=by unfold Ks at h;refine⟨?_,?_,?_,?_⟩<;>(unfold World.cell?;simp only[h];rfl)
theorem Jz (w:World) (a b:T) (h3:(a.m.sum b.m).ok=false):Calls Tryz.prog 158 #[.agg #[.int .i64 a.c,.int .i64 a.m.x,.int .i64 a.m.y,.int .i64 a.m.d,.int .i64 a.m.e],.agg #[.int .i64 b.c,.int .i64 b.m.x,.int .i64 b.m.y,.int .i64 b.m.d,.int .i64 b.m.e]] w fun e w'=>∃v,e= .returned (.tuple #[v,.bool false])∧Below w.heap.size w w'∧w'.ownsRow w.heap.size 86 5 v 0 (aE []):=by
 have hm:M.mul a.m b.m=(M.zero,false):=by simp[M.mul,h3]
 have hc:=RI a.m.x a.m.y a.m.d a.m.e b.m.x b.m.y b.m.d b.m.e;have ea:(⟨a.m.x,a.m.y,a.m.d,a.m.e⟩:M)=a.m:=rfl
 have eb:(⟨b.m.x,b.m.y,b.m.d,b.m.e⟩:M)=b.m:=rfl;rw[ea,eb,hm]at hc;have HO:=aA (dA ((w.alloc (.cells #[.int .i64 a.c,.int .i64 a.m.x,.int .i64 a.m.y,.int .i64 a.m.d,.int .i64 a.m.e] 86)).alloc (.cells #[.int .i64 b.c,.int .i64 b.m.x,.int .i64 b.m.y,.int .i64 b.m.d,.int .i64 b.m.e] 86)) w.heap.size (by simp;omega))
 have HW:=aA ((((bG w.heap.size w).alloc (Nat.le_refl _) (.cells #[.int .i64 a.c,.int .i64 a.m.x,.int .i64 a.m.y,.int .i64 a.m.d,.int .i64 a.m.e] 86)).alloc (by simp) (.cells #[.int .i64 b.c,.int .i64 b.m.x,.int .i64 b.m.y,.int .i64 b.m.d,.int .i64 b.m.e] 86)).alloc (by simp;omega) (.cells #[] 86));go_enter Tryz.func158,Tryz.ntmps158;go_wp2_with (go_at_call 181;refine(hc _).mono ?_;rintro e w1 ⟨rfl,hb1⟩);refine cD (results_tmp2 rfl _ _ _) rfl ?_;have hO:=HO.out
 simp only[World.size_alloc]at hO;have hb2:=(HW.out.trans (hb1.mono (by simp;omega)))
 exact⟨_,rfl,hb2.alloc hb2.size _,dZ hO (hb1.alloc (jQ (Nat.le_refl _) hb1.size) _)⟩
theorem Gf (w:World) (a b:T) (h:tM a b (a.m.sum b.m)):Calls Tryz.prog 158 #[.agg #[.int .i64 a.c,.int .i64 a.m.x,.int .i64 a.m.y,.int .i64 a.m.d,.int .i64 a.m.e],.agg #[.int .i64 b.c,.int .i64 b.m.x,.int .i64 b.m.y,.int .i64 b.m.d,.int .i64 b.m.e]] w fun e w'=>∃v,e= .returned (.tuple #[v,.bool true])∧Below w.heap.size w w'∧w'.ownsRow w.heap.size 86 5 v (dL a b).length (aE (dL a b)):=by
 have hm:M.mul a.m b.m=(a.m.sum b.m,true):=by simp[M.mul,h.ok1,h.ok2,h.ok3]
 have hc:=RI a.m.x a.m.y a.m.d a.m.e b.m.x b.m.y b.m.d b.m.e;have ea:(⟨a.m.x,a.m.y,a.m.d,a.m.e⟩:M)=a.m:=rfl
 have eb:(⟨b.m.x,b.m.y,b.m.d,b.m.e⟩:M)=b.m:=rfl;rw[ea,eb,hm]at hc;have m1:=M.ok_iff.1 h.ok1
 have m2:=M.ok_iff.1 h.ok2;have m3:=M.ok_iff.1 h.ok3
 have lx:=h.lx;have ly:=h.ly
 have k1:=h.c1;have k2:=h.c2
 have H:=aA h;have HO:=aA (dA ((w.alloc (.cells #[.int .i64 a.c,.int .i64 a.m.x,.int .i64 a.m.y,.int .i64 a.m.d,.int .i64 a.m.e] 86)).alloc (.cells #[.int .i64 b.c,.int .i64 b.m.x,.int .i64 b.m.y,.int .i64 b.m.d,.int .i64 b.m.e] 86)) w.heap.size (by simp;omega))
 have HW:=aA ((((bG w.heap.size w).alloc (Nat.le_refl _) (.cells #[.int .i64 a.c,.int .i64 a.m.x,.int .i64 a.m.y,.int .i64 a.m.d,.int .i64 a.m.e] 86)).alloc (by simp) (.cells #[.int .i64 b.c,.int .i64 b.m.x,.int .i64 b.m.y,.int .i64 b.m.d,.int .i64 b.m.e] 86)).alloc (by simp;omega) (.cells #[] 86));have HTA:Hid (dF (((w.alloc (.cells #[.int .i64 a.c,.int .i64 a.m.x,.int .i64 a.m.y,.int .i64 a.m.d,.int .i64 a.m.e] 86)).alloc (.cells #[.int .i64 b.c,.int .i64 b.m.x,.int .i64 b.m.y,.int .i64 b.m.d,.int .i64 b.m.e] 86)).alloc (.cells #[] 86)) w.heap.size a):=(Below.heap_alloc _ _ _ (by simp;omega)).trans ((Below.heap_alloc _ _ _ (by simp)).trans (World.alloc_heap_new w _))
 have HTB:Hid (dF (((w.alloc (.cells #[.int .i64 a.c,.int .i64 a.m.x,.int .i64 a.m.y,.int .i64 a.m.d,.int .i64 a.m.e] 86)).alloc (.cells #[.int .i64 b.c,.int .i64 b.m.x,.int .i64 b.m.y,.int .i64 b.m.d,.int .i64 b.m.e] 86)).alloc (.cells #[] 86)) (w.heap.size+1) b):=by have:=World.alloc_heap_new (w.alloc (.cells #[.int .i64 a.c,.int .i64 a.m.x,.int .i64 a.m.y,.int .i64 a.m.d,.int .i64 a.m.e] 86)) (.cells #[.int .i64 b.c,.int .i64 b.m.x,.int .i64 b.m.y,.int .i64 b.m.d,.int .i64 b.m.e] 86);rw[World.size_alloc]at this;exact(Below.heap_alloc _ _ _ (by simp)).trans this
 clear h;generalize a.m.sum b.m=g at *;go_enter Tryz.func158,Tryz.ntmps158;go_wp2_with (go_at_call 181;refine(hc _).mono ?_;rintro e w1 ⟨rfl,hb1⟩;have HB1:=aA hb1;clear hb1);have hb1:=HB1.out
 have hO:=HO.out;simp only[World.size_alloc]at hO;have hbw:Below w.heap.size w w1:=HW.out.trans (hb1.mono (by simp;omega))
 have hs1:=hb1.size;simp only[World.size_alloc]at hs1;have hT1:dF w1 w.heap.size a:=(hb1.block _ (by simp;omega)).trans HTA.out
 have hT2:dF w1 (w.heap.size+1) b:=(hb1.block _ (by simp)).trans HTB.out;have hO1:=dZ hO hb1
 have hG:Ks (w1.alloc (.cells #[.int .i64 g.x,.int .i64 g.y,.int .i64 g.d,.int .i64 g.e] 84)) w1.heap.size g:=World.alloc_heap_new w1 _;have hT1':dF (w1.alloc (.cells #[.int .i64 g.x,.int .i64 g.y,.int .i64 g.d,.int .i64 g.e] 84)) w.heap.size a:=(Below.heap_alloc _ _ _ (by omega)).trans hT1
 have hT2':dF (w1.alloc (.cells #[.int .i64 g.x,.int .i64 g.y,.int .i64 g.d,.int .i64 g.e] 84)) (w.heap.size+1) b:=(Below.heap_alloc _ _ _ (by omega)).trans hT2;have hO2:=hO1.alloc (.cells #[.int .i64 g.x,.int .i64 g.y,.int .i64 g.d,.int .i64 g.e] 84)
 have hB2:=hbw.alloc hbw.size (.cells #[.int .i64 g.x,.int .i64 g.y,.int .i64 g.d,.int .i64 g.e] 84);have hs2:(w1.alloc (.cells #[.int .i64 g.x,.int .i64 g.y,.int .i64 g.d,.int .i64 g.e] 84)).heap.size=w1.heap.size+1:=by simp
 generalize w1.alloc (.cells #[.int .i64 g.x,.int .i64 g.y,.int .i64 g.d,.int .i64 g.e] 84)=w3 at *;generalize w1.heap.size=Bg at *;clear hb1 hO hT1 hT2 hO1 hbw HB1 HO HW HTA HTB hc;have hq0:0≤a.c*b.c:=Int.mul_nonneg k1.1 k2.1
 have hq1:a.c*b.c≤10000:=by have:=Int.mul_le_mul k1.2 k2.2 k2.1 (by omega);omega
 go_loopw [6,9] (fun v ii wr=>∃i:Nat,i≤iK a b+1∧ii= .int .i64 (i:Int)∧wr.ownsRow w.heap.size 86 5 v (gP (gG a b i) []).length (aE (gP (gG a b i) []))∧Below w.heap.size w wr∧dF wr w.heap.size a∧dF wr (w.heap.size+1) b∧Ks wr Bg g) (fun _ ii _=>iK a b+1-(intOf ii).toNat);case atStart=>exact⟨0,Nat.zero_le _,rfl,hO2,hB2,hT1',hT2',hG⟩
 case round=>
  obtain⟨i,hi,rfl,hown,hbl,hTa,hTb,hGg⟩:=hrel;obtain⟨a0,a1,a2,a3,a4⟩:=hTa.cells;obtain⟨b0,b1,b2,b3,b4⟩:=hTb.cells;obtain⟨g0,g1,g2,g3⟩:=hGg.cells;by_cases hlt:i≤iK a b
  ·have i1:(i:Int)≤a.m.d:=by omega
   have i2:(i:Int)≤b.m.x:=by omega
   have HOWN:=aA hown;have HBL:=aA hbl
   have HTA2:=aA hTa;have HTB2:=aA hTb
   have HGG:=aA hGg;clear hown hbl hTa hTb hGg;go_wp2;clear a0 a1 a2 a3 a4 b0 b1 b2 b3 b4 g0 g1 g2 g3;go_loopw [6,10] (fun v kk wr=>∃k:Nat,k≤jK a b+1∧kk= .int .i64 (k:Int)∧wr.ownsRow w.heap.size 86 5 v (gP (gG a b i++oT a b i k) []).length (aE (gP (gG a b i++oT a b i k) []))∧Below w.heap.size w wr∧dF wr w.heap.size a∧dF wr (w.heap.size+1) b∧Ks wr Bg g) (fun _ kk _=>jK a b+1-(intOf kk).toNat);case atStart=>exact⟨0,Nat.zero_le _,rfl,by have e0:gG a b i++oT a b i 0=gG a b i:=List.append_nil _;rw[e0];exact HOWN.out,HBL.out,HTA2.out,HTB2.out,HGG.out⟩
   case round=>
    obtain⟨k,hk,rfl,hown,hbl,hTa,hTb,hGg⟩:=hrel;obtain⟨a0,a1,a2,a3,a4⟩:=hTa.cells;obtain⟨b0,b1,b2,b3,b4⟩:=hTb.cells;obtain⟨g0,g1,g2,g3⟩:=hGg.cells;have HOK:=aA hown
    have HBK:=aA hbl;have HTAk:=aA hTa
    have HTBk:=aA hTb;have HGGk:=aA hGg
    clear hown hbl hTa hTb hGg;by_cases hlt2:k≤jK a b
    ·have j1:(k:Int)≤a.m.e:=by omega
     have j2:(k:Int)≤b.m.y:=by omega
     have p1:=tN (fV a.m.d i) (kP b.m.x i);have p2:=tN (fV a.m.e k) (kP b.m.y k)
     change 0≤wy a.m.d b.m.x i∧wy a.m.d b.m.x i≤100 at p1;change 0≤wy a.m.e b.m.y k∧wy a.m.e b.m.y k≤100 at p2;have q0:0≤a.c*b.c%101∧a.c*b.c%101≤100:=by omega
     have q1:0≤a.c*b.c%101*wy a.m.d b.m.x i:=Int.mul_nonneg q0.1 p1.1;have q2:a.c*b.c%101*wy a.m.d b.m.x i≤10000:=by have:=Int.mul_le_mul q0.2 p1.2 p1.1 (by omega);omega
     have q3:0≤a.c*b.c%101*wy a.m.d b.m.x i%101∧a.c*b.c%101*wy a.m.d b.m.x i%101≤100:=by omega
     have q4:0≤a.c*b.c%101*wy a.m.d b.m.x i%101*wy a.m.e b.m.y k:=Int.mul_nonneg q3.1 p2.1;have q5:a.c*b.c%101*wy a.m.d b.m.x i%101*wy a.m.e b.m.y k≤10000:=by have:=Int.mul_le_mul q3.2 p2.2 p2.1 (by omega);omega
     have hTN:oI a b i k=⟨a.c*b.c%101*wy a.m.d b.m.x i%101*wy a.m.e b.m.y k%101,⟨g.x-i,g.y-k,g.d-i,g.e-k⟩⟩:=by unfold oI;rw[H.out.gx,H.out.gy,H.out.gd,H.out.ge]
     have htok:Lk (gG a b i++oT a b i k):=by
      have hall:=rH H.out;intro t ht;refine hall t ?_;unfold gG;rcases List.mem_append.1 ht with h1|h1
      ·unfold gG at h1;obtain⟨i',hi',h2⟩:=List.mem_flatMap.1 h1;exact List.mem_flatMap.2 ⟨i',List.mem_range.2 (by have:=List.mem_range.1 hi';omega),h2⟩
      ·refine List.mem_flatMap.2 ⟨i,List.mem_range.2 (by omega),?_⟩;unfold oT at h1⊢;obtain⟨k',hk',h2⟩:=List.mem_map.1 h1;exact List.mem_map.2 ⟨k',List.mem_range.2 (by have:=List.mem_range.1 hk';omega),h2⟩
     have hfl:=(qH _ [] htok eY).1;have hlen:(gP (gG a b i++oT a b i k) []).length≤1000:=by
      have h1:=uE (gG a b i++oT a b i k) [];have h2:(oT a b i k).length=k:=by simp[oT]
      rw[List.length_append,EA,h2]at h1;have h3:i*(jK a b+1)≤15*16:=Nat.mul_le_mul (by omega) (by omega)
      simp at h1;omega
     have hnx:gP (gG a b i++oT a b i (k+1)) []=lJ (a.c*b.c%101*wy a.m.d b.m.x i%101*wy a.m.e b.m.y k%101) ⟨g.x-i,g.y-k,g.d-i,g.e-k⟩ (gP (gG a b i++oT a b i k) []):=by rw[WJ,←List.append_assoc,GZ,hTN]
     have HNX:=aA hnx;have HFL:=aA hfl
     have HLE:=aA hlen;clear hTN htok hfl hlen hnx
     go_wp2_with (first
      |(go_at_call 182;refine(Mn _ _ _ _).mono ?_;rintro e w' ⟨rfl,hw'⟩;obtain rfl:=hw'.symm;clear hw')
      |(go_at_call 83;refine(GF _ w.heap.size _ _ _ _ _ _ _ HOK.out HBK.out.size HLE.out (xE HFL.out) (by omega) (by omega)).mono ?_;rintro e w5 ⟨v5,rfl,hb5,ho5⟩;have HB5:=aA hb5;have HO5:=aA ho5;clear hb5 ho5))
     go_roundw;case rel=>exact⟨k+1,by omega,by go_num,by rw[HNX.out];exact HO5.out,HBK.out.trans (HB5.out.mono HBK.out.size),(HB5.out.block _ (Array.getElem?_eq_some_iff.1 HTAk.out).1).trans HTAk.out,(HB5.out.block _ (Array.getElem?_eq_some_iff.1 HTBk.out).1).trans HTBk.out,(HB5.out.block _ (Array.getElem?_eq_some_iff.1 HGGk.out).1).trans HGGk.out⟩
     case measure=>simp[intOf];omega
    ·have hkl:k=jK a b+1:=by omega
     subst hkl;have hoe:=HOK.out
     rw[←AM]at hoe;have HOE:=aA hoe
     clear hoe;by_cases hd:((jK a b+1:Nat):Int)≤a.m.e
     ·have hx:¬((jK a b+1:Nat):Int)≤b.m.y:=by omega
      go_wp2;go_roundw;case rel=>exact⟨i+1,by omega,by go_num,HOE.out,HBK.out,HTAk.out,HTBk.out,HGGk.out⟩
      case measure=>simp[intOf];omega
     ·go_wp2;go_roundw;case rel=>exact⟨i+1,by omega,by go_num,HOE.out,HBK.out,HTAk.out,HTBk.out,HGGk.out⟩
      case measure=>simp[intOf];omega
  ·have hil:i=iK a b+1:=by omega
   subst hil;by_cases hd:((iK a b+1:Nat):Int)≤a.m.d
   ·have hx:¬((iK a b+1:Nat):Int)≤b.m.x:=by omega
    go_wp2;refine cD (results_tmp2 rfl _ _ _) rfl ?_;exact⟨_,rfl,hbl,hown⟩
   ·go_wp2;refine cD (results_tmp2 rfl _ _ _) rfl ?_;exact⟨_,rfl,hbl,hown⟩
def tJ (a b:T):List T:=if(a.m.sum b.m).ok=true then dL a b else[]
theorem Mf (w:World) (a b:T) (h1:a.m.ok=true∧0≤a.c∧a.c≤100) (h2:b.m.ok=true∧0≤b.c∧b.c≤100):Calls Tryz.prog 158 #[.agg #[.int .i64 a.c,.int .i64 a.m.x,.int .i64 a.m.y,.int .i64 a.m.d,.int .i64 a.m.e],.agg #[.int .i64 b.c,.int .i64 b.m.x,.int .i64 b.m.y,.int .i64 b.m.d,.int .i64 b.m.e]] w fun e w'=>∃v,e= .returned (.tuple #[v,.bool (a.m.sum b.m).ok])∧Below w.heap.size w w'∧w'.ownsRow w.heap.size 86 5 v (tJ a b).length (aE (tJ a b)):=by
 cases hok:(a.m.sum b.m).ok
 ·have e:tJ a b=[]:=by simp[tJ,hok]
  rw[e];exact Jz w a b hok
 ·have e:tJ a b=dL a b:=by simp[tJ,hok]
  rw[e];exact Gf w a b ⟨h1.1,h2.1,hok,rfl,rfl,rfl,rfl,h1.2,h2.2⟩
theorem LN {a b:T} (h:tM a b (a.m.sum b.m)):(dL a b).length≤1000:=by
 have h1:=uE (gG a b (iK a b+1)) [];have m1:=M.ok_iff.1 h.ok1
 have lx:=h.lx;have ly:=h.ly
 rw[EA]at h1;have h3:(iK a b+1)*(jK a b+1)≤16*16:=Nat.mul_le_mul (by omega) (by omega)
 unfold dL;simp at h1;omega
theorem LO {a b:T} (h1:a.m.ok=true∧0≤a.c∧a.c≤100) (h2:b.m.ok=true∧0≤b.c∧b.c≤100):(tJ a b).length≤1000:=by
 unfold tJ;split
 ·rename_i hok;exact LN ⟨h1.1,h2.1,hok,rfl,rfl,rfl,rfl,h1.2,h2.2⟩
 ·simp
end Go.Proofs.YtelkehjdfcoeiaaGreat
