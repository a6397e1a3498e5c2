/-
  The product of two terms added to a sum.
-/
import Derived.Test.YtelkehjdfcoeiaaGreatNan
set_option maxHeartbeats 8000000
set_option maxRecDepth 100000
namespace Go.Proofs.YtelkehjdfcoeiaaGreat
open Go.RowKit Go.Maps
set_option linter.unusedVariables false
theorem pL.of {a b:T} (h1:a.m.ok=true) (h2:b.m.ok=true) (h3:(a.m.sum b.m).ok=true) (c1:0≤a.c∧a.c≤100) (c2:0≤b.c∧b.c≤100):pL a b (a.m.sum b.m):=⟨h1,h2,h3,rfl,rfl,rfl,rfl,c1,c2⟩
theorem MV (a b : T) (g : M) (w : World) : Calls Tryz.prog 108 #[.agg #[.int .i64 a.c, .int .i64 a.m.x, .int .i64 a.m.y, .int .i64 a.m.d, .int .i64 a.m.e], .agg #[.int .i64 b.c, .int .i64 b.m.x, .int .i64 b.m.y, .int .i64 b.m.d, .int .i64 b.m.e], .agg #[.int .i64 g.x, .int .i64 g.y, .int .i64 g.d, .int .i64 g.e]] w fun e w' =>
      e= .returned (.func (.func 146) #[] #[.pointer (some ⟨w.heap.size,0,none⟩),.pointer (some ⟨w.heap.size+1,0,none⟩),.pointer (some ⟨w.heap.size+1+1,0,none⟩)])∧
      w'=((w.alloc (.cells #[.int .i64 a.c,.int .i64 a.m.x,.int .i64 a.m.y,.int .i64 a.m.d,.int .i64 a.m.e] 86)).alloc (.cells #[.int .i64 b.c,.int .i64 b.m.x,.int .i64 b.m.y,.int .i64 b.m.d,.int .i64 b.m.e] 86)).alloc (.cells #[.int .i64 g.x,.int .i64 g.y,.int .i64 g.d,.int .i64 g.e] 84):=by
  go_enter Tryz.func108,Tryz.ntmps108
  go_wp2
  go_ret
  exact⟨rfl,rfl⟩
theorem cC {w w':World} (h:Below w.heap.size w w') (row:Option Nat):w.grownBy w' row:=⟨h.os,h.tape,h.output,h.size,fun k hk _=>h.block k hk⟩
theorem KI (w:World) (bm:Nat) (a b:T) (h1:a.m.ok=true) (h2:b.m.ok=true) (h3:(a.m.sum b.m).ok=false):Calls Tryz.prog 65 #[.map (some bm),.agg #[.int .i64 a.c,.int .i64 a.m.x,.int .i64 a.m.y,.int .i64 a.m.d,.int .i64 a.m.e],.agg #[.int .i64 b.c,.int .i64 b.m.x,.int .i64 b.m.y,.int .i64 b.m.d,.int .i64 b.m.e]] w fun e w'=>e= .returned (.bool false)∧Below w.heap.size w w':=by
 have hm:M.mul a.m b.m=(M.zero,false):=by simp[M.mul,h3]
 have hc:=IQ a.m.x a.m.y a.m.d a.m.e b.m.x b.m.y b.m.d b.m.e;have ea:(⟨a.m.x,a.m.y,a.m.d,a.m.e⟩:M)=a.m:=rfl
 have eb:(⟨b.m.x,b.m.y,b.m.d,b.m.e⟩:M)=b.m:=rfl;rw[ea,eb,hm]at hc;go_enter Tryz.func65,Tryz.ntmps65;go_wp2_with (go_at_call 106;refine(hc _).mono ?_;rintro e w1 ⟨rfl,hb1⟩);go_ret;exact⟨rfl,(aB ((aC w _).trans ((aC (w.alloc (.cells #[.int .i64 a.c,.int .i64 a.m.x,.int .i64 a.m.y,.int .i64 a.m.d,.int .i64 a.m.e] 86)) (.cells #[.int .i64 b.c,.int .i64 b.m.x,.int .i64 b.m.y,.int .i64 b.m.d,.int .i64 b.m.e] 86)).mono (by simp))) hb1).alloc (by have:=hb1.size;simp at this;omega) _⟩
theorem NL (w:World) (bm:Nat) (c:M→Int) (hS:aV w bm 65536 c) (a b:T) (h:pL a b (a.m.sum b.m)) {K:List T} (hK:aH K) (hKc:∀m,m.ok=true→aI K m=lH c (lU h (NQ a b)) m):Calls Tryz.prog 65 #[.map (some bm),.agg #[.int .i64 a.c,.int .i64 a.m.x,.int .i64 a.m.y,.int .i64 a.m.d,.int .i64 a.m.e],.agg #[.int .i64 b.c,.int .i64 b.m.x,.int .i64 b.m.y,.int .i64 b.m.d,.int .i64 b.m.e]] w fun e w'=>e= .returned (.bool (decide (K.length≤400)))∧aV w' bm 65536 (lH c (lU h (NQ a b)))∧w.grownBy w' (some bm):=by
 have hm:M.mul a.m b.m=(a.m.sum b.m,true):=by simp[M.mul,h.ok1,h.ok2,h.ok3]
 have hc:=IQ a.m.x a.m.y a.m.d a.m.e b.m.x b.m.y b.m.d b.m.e;have ea:(⟨a.m.x,a.m.y,a.m.d,a.m.e⟩:M)=a.m:=rfl
 have eb:(⟨b.m.x,b.m.y,b.m.d,b.m.e⟩:M)=b.m:=rfl;rw[ea,eb,hm]at hc;have HS:=aA hS
 have H:=aA h;have hblt:=hS.lt
 clear hS;generalize a.m.sum b.m=g at *;have hTA:bZ ((w.alloc (.cells #[.int .i64 a.c,.int .i64 a.m.x,.int .i64 a.m.y,.int .i64 a.m.d,.int .i64 a.m.e] 86)).alloc (.cells #[.int .i64 b.c,.int .i64 b.m.x,.int .i64 b.m.y,.int .i64 b.m.d,.int .i64 b.m.e] 86)) w.heap.size a:=(Below.heap_alloc _ _ _ (by simp)).trans (World.alloc_heap_new w _)
 have hTB:bZ ((w.alloc (.cells #[.int .i64 a.c,.int .i64 a.m.x,.int .i64 a.m.y,.int .i64 a.m.d,.int .i64 a.m.e] 86)).alloc (.cells #[.int .i64 b.c,.int .i64 b.m.x,.int .i64 b.m.y,.int .i64 b.m.d,.int .i64 b.m.e] 86)) (w.heap.size+1) b:=by have:=World.alloc_heap_new (w.alloc (.cells #[.int .i64 a.c,.int .i64 a.m.x,.int .i64 a.m.y,.int .i64 a.m.d,.int .i64 a.m.e] 86)) (.cells #[.int .i64 b.c,.int .i64 b.m.x,.int .i64 b.m.y,.int .i64 b.m.d,.int .i64 b.m.e] 86);rwa[World.size_alloc]at this
 have HTA:=aA hTA;have HTB:=aA hTB
 have HBW:=aA (((bQ w.heap.size w).alloc (Nat.le_refl _) (.cells #[.int .i64 a.c,.int .i64 a.m.x,.int .i64 a.m.y,.int .i64 a.m.d,.int .i64 a.m.e] 86)).alloc (by simp) (.cells #[.int .i64 b.c,.int .i64 b.m.x,.int .i64 b.m.y,.int .i64 b.m.d,.int .i64 b.m.e] 86));clear hTA hTB;go_enter Tryz.func65,Tryz.ntmps65
 go_wp2_with (first
  |(go_at_call 106;refine(hc _).mono ?_;rintro e w1 ⟨rfl,hb1⟩;have kA:bZ w1 w.heap.size a:=(hb1.block _ (by simp;omega)).trans HTA.out;have kB:bZ w1 (w.heap.size+1) b:=(hb1.block _ (by simp)).trans HTB.out;obtain⟨x0,x1,x2,x3,x4⟩:=kA.cells;obtain⟨y0,y1,y2,y3,y4⟩:=kB.cells;have hs1:=hb1.size;simp only[World.size_alloc]at hs1;have hx1:w.heap.size<w1.heap.size:=(by omega);have hx2:w.heap.size+1<w1.heap.size:=(by omega);have HB1:=aA (HBW.out.trans (hb1.mono (by simp;omega)));clear hb1 kA kB)
  |(go_at_call 108;refine(MV a b g _).mono ?_;rintro e w2 ⟨rfl,hw2⟩;obtain rfl:=hw2.symm;clear hw2))
 obtain⟨W3,hW3⟩:∃W3,w1.alloc (.cells #[.int .i64 g.x,.int .i64 g.y,.int .i64 g.d,.int .i64 g.e] 84)=W3:=⟨_,rfl⟩
 have hs3:W3.heap.size=w1.heap.size+1:=by rw[←hW3];simp
 have hb3:Below w.heap.size w W3:=by rw[←hW3];exact HB1.out.alloc HB1.out.size _
 rw[hW3];clear hW3 x0 x1 x2 x3 x4 y0 y1 y2 y3 y4;have tA:bZ (((W3.alloc (.cells #[.int .i64 a.c,.int .i64 a.m.x,.int .i64 a.m.y,.int .i64 a.m.d,.int .i64 a.m.e] 86)).alloc (.cells #[.int .i64 b.c,.int .i64 b.m.x,.int .i64 b.m.y,.int .i64 b.m.d,.int .i64 b.m.e] 86)).alloc (.cells #[.int .i64 g.x,.int .i64 g.y,.int .i64 g.d,.int .i64 g.e] 84)) (w1.heap.size+1) a:=by have:=World.alloc_heap_new W3 (.cells #[.int .i64 a.c,.int .i64 a.m.x,.int .i64 a.m.y,.int .i64 a.m.d,.int .i64 a.m.e] 86);rw[hs3]at this;exact(Below.heap_alloc _ _ _ (by simp;omega)).trans ((Below.heap_alloc _ _ _ (by simp;omega)).trans this)
 have tB:bZ (((W3.alloc (.cells #[.int .i64 a.c,.int .i64 a.m.x,.int .i64 a.m.y,.int .i64 a.m.d,.int .i64 a.m.e] 86)).alloc (.cells #[.int .i64 b.c,.int .i64 b.m.x,.int .i64 b.m.y,.int .i64 b.m.d,.int .i64 b.m.e] 86)).alloc (.cells #[.int .i64 g.x,.int .i64 g.y,.int .i64 g.d,.int .i64 g.e] 84)) (w1.heap.size+1+1) b:=by have:=World.alloc_heap_new (W3.alloc (.cells #[.int .i64 a.c,.int .i64 a.m.x,.int .i64 a.m.y,.int .i64 a.m.d,.int .i64 a.m.e] 86)) (.cells #[.int .i64 b.c,.int .i64 b.m.x,.int .i64 b.m.y,.int .i64 b.m.d,.int .i64 b.m.e] 86);rw[World.size_alloc,hs3]at this;exact(Below.heap_alloc _ _ _ (by simp;omega)).trans this
 have tG:ST (((W3.alloc (.cells #[.int .i64 a.c,.int .i64 a.m.x,.int .i64 a.m.y,.int .i64 a.m.d,.int .i64 a.m.e] 86)).alloc (.cells #[.int .i64 b.c,.int .i64 b.m.x,.int .i64 b.m.y,.int .i64 b.m.d,.int .i64 b.m.e] 86)).alloc (.cells #[.int .i64 g.x,.int .i64 g.y,.int .i64 g.d,.int .i64 g.e] 84)) (w1.heap.size+1+1+1) g:=by have:=World.alloc_heap_new ((W3.alloc (.cells #[.int .i64 a.c,.int .i64 a.m.x,.int .i64 a.m.y,.int .i64 a.m.d,.int .i64 a.m.e] 86)).alloc (.cells #[.int .i64 b.c,.int .i64 b.m.x,.int .i64 b.m.y,.int .i64 b.m.d,.int .i64 b.m.e] 86)) (.cells #[.int .i64 g.x,.int .i64 g.y,.int .i64 g.d,.int .i64 g.e] 84);rw[World.size_alloc,World.size_alloc,hs3]at this;exact this
 have hb4:Below w.heap.size w (((W3.alloc (.cells #[.int .i64 a.c,.int .i64 a.m.x,.int .i64 a.m.y,.int .i64 a.m.d,.int .i64 a.m.e] 86)).alloc (.cells #[.int .i64 b.c,.int .i64 b.m.x,.int .i64 b.m.y,.int .i64 b.m.d,.int .i64 b.m.e] 86)).alloc (.cells #[.int .i64 g.x,.int .i64 g.y,.int .i64 g.d,.int .i64 g.e] 84)):=((hb3.alloc hb3.size _).alloc (by have:=hb3.size;simp;omega) _).alloc (by have:=hb3.size;simp;omega) _;generalize((W3.alloc (.cells #[.int .i64 a.c,.int .i64 a.m.x,.int .i64 a.m.y,.int .i64 a.m.d,.int .i64 a.m.e] 86)).alloc (.cells #[.int .i64 b.c,.int .i64 b.m.x,.int .i64 b.m.y,.int .i64 b.m.d,.int .i64 b.m.e] 86)).alloc (.cells #[.int .i64 g.x,.int .i64 g.y,.int .i64 g.d,.int .i64 g.e] 84)=W4 at *;have hS4:aV W4 bm 65536 c:=HS.out.grown (cC hb4 none) (by simp)
 refine(TU W4 bm c hS4 146 _ (enters_of Tryz.func146 (by kernel_rfl) rfl) _ (YV H.out (w1.heap.size+1) (w1.heap.size+1+1) (w1.heap.size+1+1+1) W4 tA tB tG)).mono ?_;rintro e w5 ⟨rfl,hs5,hg5⟩;have HS5:=aA hs5
 have HG5:=aA ((cC hb4 (some bm)).trans hg5);obtain⟨D,ho,hc5,hat5,hks5⟩:=hs5;have hszD:=AQ ho hat5 hks5 hK hKc
 have hlen:=ho.len Tryz.underlying95 3;rw[hszD]at hlen;have hd:decide ((K.length:Int)≤400)=decide (K.length≤400):=by by_cases hk4:K.length≤400<;>simp[hk4]<;>omega
 clear ho hat5 hks5 hc5 hg5 hS4 tA tB tG;go_wp2;go_ret;exact⟨by rw[←hd];rfl,HS5.out,HG5.out⟩
end Go.Proofs.YtelkehjdfcoeiaaGreat
namespace Go.Proofs.YtelkehjdfcoeiaaGreat
open Go.RowKit
set_option linter.unusedVariables false
def lD (a b:T) (i k:Nat):T:=⟨a.c*b.c%101*wy a.m.d b.m.x i%101*wy a.m.e b.m.y k%101,⟨a.m.x+b.m.x-i,a.m.y+b.m.y-k,a.m.d+b.m.d-i,a.m.e+b.m.e-k⟩⟩
def lP (a b:T) (i k:Nat):List T:=(List.range k).map (lD a b i)
def eF (a b:T) (i:Nat):List T:=(List.range i).flatMap fun i=>lP a b i (gK a b+1)
theorem vB (a b:T) (i:Nat):eF a b (i+1)=eF a b i++lP a b i (gK a b+1):=by simp[eF,List.range_succ]
theorem MN (a b:T) (i k:Nat):lP a b i (k+1)=lP a b i k++[lD a b i k]:=by simp[lP,List.range_succ]
theorem yS {lim:Nat} {s t:Int} {k:Nat} (h:k≤lim):(sD lim s t k).1.1=(k:Int):=if_pos h
theorem IA {a b:T} {g:M} (h:pL a b g):(lU h (NQ a b)).map (·.1)=eF a b (fI a b+1):=by
 have key:∀i,i≤fI a b→((SZ a b).map (nG h (sD (fI a b) a.m.d b.m.x i))).map (·.1)=lP a b i (gK a b+1):=fun i hi=>by
  unfold SZ mF lP;rw[List.map_map,List.map_map];refine List.map_congr_left (fun k hk=>?_);rw[List.mem_range]at hk;show wP a b g (sD (fI a b) a.m.d b.m.x i) (sD (gK a b) a.m.e b.m.y k)=lD a b i k
  unfold wP lD;rw[yS hi,yS (show k≤gK a b by omega),h.gx,h.gy,h.gd,h.ge];rfl
 have:∀n,n≤fI a b+1→(lU h (mF (fI a b) a.m.d b.m.x n)).map (·.1)=eF a b n:=fun n=>by
  induction n with
  |zero=>intro _;rfl
  |succ n ih=>
   intro hn;rw[←wV,xT,List.map_append,ih (by omega),key n (by omega),vB]
 exact this _ (Nat.le_refl _)
theorem KE (c:M→Int) (xs:List TO):lH c xs=jH c (xs.map (·.1)):=by unfold lH jH;rw[List.foldl_map]
theorem nR {a b:T} {g:M} (h:pL a b g):ZK (eF a b (fI a b+1)):=by rw[←IA h];intro t ht;obtain⟨x,_,rfl⟩:=List.mem_map.1 ht;exact x.2
def cF (a b:T):List T:=eN (eF a b (fI a b+1)) []
theorem eX {a b:T} {g:M} (h:pL a b g):aH (cF a b)∧aI (cF a b)=jH (fun _=>0) (eF a b (fI a b+1)):=mX _ [] (nR h) dL
theorem KH {a b:T} {g:M} (h:pL a b g) {K:List T} (hK:aH K) {c:M→Int} (hc:∀m,0≤c m∧c m≤100) (hKc:∀m,m.ok=true→aI K m=c m):aH (cG K (cF a b))∧∀m,m.ok=true→aI (cG K (cF a b)) m=lH c (lU h (NQ a b)) m:=by
 have h1:=eX h;have h2:=cM hK h1.1
 refine⟨h2.1,fun m hm=>?_⟩;rw[h2.2,h1.2,hKc m hm,KE,IA h,nM _ c m (nR h) hc]
def fC (K:List T) (a b:T):Option (List T):=if(a.m.sum b.m).ok=true∧(cG K (cF a b)).length≤400 then some (cG K (cF a b))else none
def eO (K:List T) (a:T) (g:Nat→T):Nat→Option (List T)
 |0=>some K
 |k+1=>(eO K a g k).bind fun K'=>fC K' a (g k)
def bN (f:Nat→T) (g:Nat→T) (lb:Nat):Nat→Option (List T)
 |0=>some []
 |i+1=>(bN f g lb i).bind fun K=>eO K (f i) g lb
theorem oW {K:List T} {a:T} {g:Nat→T} {k:Nat} (h:eO K a g k=none):∀j,k≤j→eO K a g j=none:=fun j hj=>by
 induction j with
 |zero=>
  have e:k=0:=by omega
  rw[e]at h;exact h
 |succ j ih=>
  by_cases e:k=j+1
  ·rw[←e];exact h
  ·rw[eO,ih (by omega)];rfl
theorem oP {f g:Nat→T} {lb i:Nat} (h:bN f g lb i=none):∀j,i≤j→bN f g lb j=none:=fun j hj=>by
 induction j with
 |zero=>
  have e:i=0:=by omega
  rw[e]at h;exact h
 |succ j ih=>
  by_cases e:i=j+1
  ·rw[←e];exact h
  ·rw[bN,ih (by omega)];rfl
def aZ (f:Nat→T) (la:Nat) (g:Nat→T) (lb:Nat):List T×Bool:=if aK la f=true∧aK lb g=true then iN (bN f g lb la)else([],false)
theorem QZ {K:List T} {a:T} {g:Nat→T} (hK:K.length≤400):∀k K',eO K a g k=some K'→K'.length≤400
 |0,K',h=>by cases h;exact hK
 |k+1,K',h=>by
  rw[eO]at h;cases hr:eO K a g k with
  |none=>rw[hr]at h;cases h
  |some K1=>
   rw[hr]at h;change fC K1 a (g k)=some K' at h;unfold fC at h;split at h
   ·rename_i hh;cases h;exact hh.2
   ·cases h
theorem eJ {f g:Nat→T} {lb:Nat}:∀i K,bN f g lb i=some K→K.length≤400
 |0,K,h=>by cases h;exact Nat.zero_le _
 |i+1,K,h=>by
  rw[bN]at h;cases hr:bN f g lb i with
  |none=>rw[hr]at h;cases h
  |some K1=>
   rw[hr]at h;exact QZ (eJ i K1 hr) lb K h
theorem qH (f:Nat→T) (la:Nat) (g:Nat→T) (lb:Nat):(aZ f la g lb).1.length≤400:=by
 unfold aZ;split
 ·cases h:bN f g lb la with
  |none=>simp[iN]
  |some K=>exact eJ la K h
 ·simp
open Go.RowKit Go.Maps
theorem VV (w:World) (a b:Option Addr) (la ca lb cb:Nat) (f g:Nat→T) (ha:Rd w a la ca f) (hb:Rd w b lb cb g):Calls Tryz.prog 28 #[.slice a la ca,.slice b lb cb] w fun r w'=>∃v,r= .returned (.tuple #[v,.bool (aZ f la g lb).2])∧Below w.heap.size w w'∧w'.ownsRow w.heap.size 86 5 v (aZ f la g lb).1.length (aE (aZ f la g lb).1):=by
 have HA:=aA ha;have HB:=aA hb
 have hla:(la:Int)≤140737488351232:=by have:=ha.2.1;omega
 have hlb:(lb:Int)≤140737488351232:=by have:=hb.2.1;omega
 clear ha hb;cases hpa:aK la f
 ·have e1:aZ f la g lb=([],false):=by simp[aZ,hpa]
  rw[e1];go_enter Tryz.func28,Tryz.ntmps28;go_wp2_with (go_at_call 52;refine(dZ _ _ _ _ f HA.out).mono ?_;rw[hpa];rintro r w1 ⟨rfl,hb1⟩;have HB1:=aA hb1;clear hb1);refine cV (results_tmp2 rfl _ _ _) rfl ?_;exact⟨_,rfl,HB1.out,iW w1 _⟩
 ·cases hpb:aK lb g
  ·have e1:aZ f la g lb=([],false):=by simp[aZ,hpb]
   rw[e1];go_enter Tryz.func28,Tryz.ntmps28
   go_wp2_with (first
    |(go_at_call_of 52 (Value.slice a la ca);refine(dZ _ _ _ _ f HA.out).mono ?_;rw[hpa];rintro r w1 ⟨rfl,hb1⟩;have HB1:=aA hb1;clear hb1)
    |(go_at_call_of 52 (Value.slice b lb cb);refine(dZ _ _ _ _ g (HB.out.below HB1.out)).mono ?_;rw[hpb];rintro r w2 ⟨rfl,hb2⟩;have HB2:=aA hb2;clear hb2))
   refine cV (results_tmp2 rfl _ _ _) rfl ?_;exact⟨_,rfl,aB HB1.out HB2.out,iW w2 _⟩
  ·have e2:aZ f la g lb=iN (bN f g lb la):=by simp[aZ,hpa,hpb]
   rw[e2];clear e2;have l1:la≤400:=by have h:=hpa;simp only[aK,decide_eq_true_eq]at h;exact h.1
   have l2:lb≤400:=by have h:=hpb;simp only[aK,decide_eq_true_eq]at h;exact h.1
   have HPA:=aA hpa;have HPB:=aA hpb
   have hmm:=@run_makeMap Tryz.prog;go_enter Tryz.func28,Tryz.ntmps28
   go_wp2_with (first
    |(go_at_call_of 52 (Value.slice a la ca);refine(dZ _ _ _ _ f HA.out).mono ?_;rw[hpa];rintro r w1 ⟨rfl,hb1⟩;have HB1:=aA hb1;clear hb1)
    |(go_at_call_of 52 (Value.slice b lb cb);refine(dZ _ _ _ _ g (HB.out.below HB1.out)).mono ?_;rw[hpb];rintro r w2 ⟨rfl,hb2⟩;have HB2:=aA (aB HB1.out hb2);clear hb2))
   clear hpa hpb;have HRA:=aA (HA.out.below HB2.out)
   have HRB:=aA (HB.out.below HB2.out);have HNA:=aA (HRA.out.apart (Nat.le_refl _))
   have HNB:=aA (HRB.out.apart (Nat.le_refl _));have hlo:w.heap.size≤w2.heap.size:=HB2.out.size
   have HS0:=aA ((tM w2).cap);have HG0:=aA (World.grownBy_alloc w2 (.map #[] 0) (some w2.heap.size))
   generalize hw3:w2.alloc (.map #[] 0)=w3 at *;clear hw3 hmm;go_loopw [22] (fun v wr=>∃(i:Nat) (K:List T) (c:M→Int),i≤la∧v= .int .i64 (i:Int)∧bN f g lb i=some K∧aH K∧(∀m,m.ok=true→aI K m=c m)∧aV wr w2.heap.size 65536 c∧w2.grownBy wr (some w2.heap.size)) (fun v _=>la-(intOf v).toNat);case atStart=>exact⟨0,[],fun _=>0,Nat.zero_le _,rfl,rfl,dL,fun _ _=>rfl,HS0.out,HG0.out⟩
   case round=>
    obtain⟨i,K,c,hi,rfl,hM,hKf,hKc,hS,hg⟩:=hrel;by_cases hlt:i<la
    ·have hil:(i:Int)<(la:Int):=by omega
     have hri:=HRA.out.grown hg HNA.out;rcases hri.2.2 with h0|⟨pb,off,hpe,hblt,hcl⟩
     ·omega
     obtain⟨g0,g1,g2,g3,g4⟩:=hcl i hlt;have hfi:=DS HPA.out hlt
     have HS:=aA hS;have HG:=aA hg
     have HM:=aA hM;clear hcl hri hS hg hM;subst hpe;go_wp2;have hT1:bZ (wr.alloc (.cells #[.int .i64 (f i).c,.int .i64 (f i).m.x,.int .i64 (f i).m.y,.int .i64 (f i).m.d,.int .i64 (f i).m.e] 86)) wr.heap.size (f i):=World.alloc_heap_new wr _
     have HS1:=aA (HS.out.grown (World.grownBy_alloc wr (.cells #[.int .i64 (f i).c,.int .i64 (f i).m.x,.int .i64 (f i).m.y,.int .i64 (f i).m.d,.int .i64 (f i).m.e] 86) none) (by simp));have HG1:=aA (HG.out.trans (World.grownBy_alloc wr (.cells #[.int .i64 (f i).c,.int .i64 (f i).m.x,.int .i64 (f i).m.y,.int .i64 (f i).m.d,.int .i64 (f i).m.e] 86) (some w2.heap.size)))
     have hbl:w2.heap.size<wr.heap.size:=HS.out.lt;have hs1:(wr.alloc (.cells #[.int .i64 (f i).c,.int .i64 (f i).m.x,.int .i64 (f i).m.y,.int .i64 (f i).m.d,.int .i64 (f i).m.e] 86)).heap.size=wr.heap.size+1:=by simp
     clear g0 g1 g2 g3 g4;generalize wr.alloc (.cells #[.int .i64 (f i).c,.int .i64 (f i).m.x,.int .i64 (f i).m.y,.int .i64 (f i).m.d,.int .i64 (f i).m.e] 86)=wi at *;generalize wr.heap.size=Bf at *;go_loopw [28] (fun v wr'=>∃(k:Nat) (K':List T) (c':M→Int),k≤lb∧v= .int .i64 (k:Int)∧eO K (f i) g k=some K'∧aH K'∧(∀m,m.ok=true→aI K' m=c' m)∧aV wr' w2.heap.size 65536 c'∧w2.grownBy wr' (some w2.heap.size)∧bZ wr' Bf (f i)) (fun v _=>lb-(intOf v).toNat);case atStart=>exact⟨0,K,c,Nat.zero_le _,rfl,rfl,hKf,hKc,HS1.out,HG1.out,hT1⟩
     case round=>
      obtain⟨k,K',c',hk,rfl,hM',hKf',hKc',hS',hg',hT'⟩:=hrel;by_cases hlt2:k<lb
      ·have hkl:(k:Int)<(lb:Int):=by omega
       have hrk:=HRB.out.grown hg' HNB.out;rcases hrk.2.2 with h0|⟨pb2,off2,hpe2,hblt2,hcl2⟩
       ·omega
       obtain⟨g0,g1,g2,g3,g4⟩:=hcl2 k hlt2;obtain⟨t0,t1,t2,t3,t4⟩:=hT'.cells;have hgk:=DS HPB.out hlt2
       have htl:Bf<wr.heap.size:=(Array.getElem?_eq_some_iff.1 hT').1;have HSk:=aA (hS'.grown (World.grownBy_alloc wr (.cells #[.int .i64 (g k).c,.int .i64 (g k).m.x,.int .i64 (g k).m.y,.int .i64 (g k).m.d,.int .i64 (g k).m.e] 86) none) (by simp))
       have HGk:=aA (hg'.trans (World.grownBy_alloc wr (.cells #[.int .i64 (g k).c,.int .i64 (g k).m.x,.int .i64 (g k).m.y,.int .i64 (g k).m.d,.int .i64 (g k).m.e] 86) (some w2.heap.size)));have HTk:Hid (bZ (wr.alloc (.cells #[.int .i64 (g k).c,.int .i64 (g k).m.x,.int .i64 (g k).m.y,.int .i64 (g k).m.d,.int .i64 (g k).m.e] 86)) Bf (f i)):=(Below.heap_alloc _ _ _ htl).trans hT'
       have HMk:=aA hM';have hcr:=hS'.range
       clear hcl2 hrk hS' hg' hM' hT';subst hpe2;by_cases hok:((f i).m.sum (g k).m).ok=true
       ·have hTwo:pL (f i) (g k) ((f i).m.sum (g k).m):=pL.of hfi.1 hgk.1 hok hfi.2 hgk.2;obtain⟨nf,nc⟩:=KH hTwo hKf' hcr hKc';have hcall:=NL _ w2.heap.size c' HSk.out (f i) (g k) hTwo nf nc
        by_cases h4:(cG K' (cF (f i) (g k))).length≤400
        ·have hstep:eO K (f i) g (k+1)=some (cG K' (cF (f i) (g k))):=by rw[eO,HMk.out];show fC _ _ _=_;unfold fC;rw[if_pos ⟨hok,h4⟩]
         have HST:=aA hstep;rw[decide_eq_true h4]at hcall;clear hstep;go_wp2_with (go_at_call 65;refine hcall.mono ?_;rintro r w6 ⟨rfl,hs6,hg6⟩;have HS6:=aA hs6;have HG6:=aA hg6;clear hs6 hg6);go_roundw;case rel=>exact⟨k+1,_,_,by omega,by go_num,HST.out,nf,nc,HS6.out,HGk.out.trans HG6.out,(HG6.out.block _ (by simp;omega) (fun e=>by cases e;omega)).trans HTk.out⟩
         case measure=>simp[intOf];omega
        ·have hstep:eO K (f i) g (k+1)=none:=by rw[eO,HMk.out];show fC _ _ _=_;unfold fC;rw[if_neg (fun h=>h4 h.2)]
         have hno:bN f g lb la=none:=oP (i:=i+1) (by rw[bN,HM.out];exact oW hstep lb (by omega)) la (by omega);rw[decide_eq_false h4]at hcall;clear hstep;go_wp2_with (go_at_call 65;refine hcall.mono ?_;rintro r w6 ⟨rfl,hs6,hg6⟩;have HG6:=aA hg6;clear hs6 hg6);refine cV (results_tmp2 rfl _ _ _) rfl ?_;rw[hno];exact⟨_,rfl,HB2.out.grown (HGk.out.trans HG6.out) hlo (fun k' e=>by cases e;exact hlo),iW w6 _⟩
       ·have hstep:eO K (f i) g (k+1)=none:=by rw[eO,HMk.out];show fC _ _ _=_;unfold fC;rw[if_neg (fun h=>hok h.1)]
        have hno:bN f g lb la=none:=oP (i:=i+1) (by rw[bN,HM.out];exact oW hstep lb (by omega)) la (by omega);have hcall:=KI (wr.alloc (.cells #[.int .i64 (g k).c,.int .i64 (g k).m.x,.int .i64 (g k).m.y,.int .i64 (g k).m.d,.int .i64 (g k).m.e] 86)) w2.heap.size (f i) (g k) hfi.1 hgk.1 (by simpa using hok)
        clear hstep;go_wp2_with (go_at_call 65;refine hcall.mono ?_;rintro r w6 ⟨rfl,hb6⟩;have HG6:=aA (cC hb6 (some w2.heap.size));clear hb6);refine cV (results_tmp2 rfl _ _ _) rfl ?_;rw[hno];exact⟨_,rfl,HB2.out.grown (HGk.out.trans HG6.out) hlo (fun k' e=>by cases e;exact hlo),iW w6 _⟩
      ·obtain rfl:k=lb:=by omega
       have HMk:Hid (bN f g k (i+1)=some K'):=by show _=_;rw[bN,HM.out];exact hM'
       have HSk:=aA hS';have HGk:=aA hg'
       clear hS' hg' hM' hT';go_wp2;go_roundw;case rel=>exact⟨i+1,K',c',by omega,by go_num,HMk.out,hKf',hKc',HSk.out,HGk.out⟩
       case measure=>simp[intOf];omega
    ·obtain rfl:i=la:=by omega
     have hKl:=eJ _ _ hM;have e3:iN (bN f g lb i)=xJ K:=by rw[hM];simp[iN,xJ,hKl]
     go_wp2_with (go_at_call 66;refine(GR _ _ _ _ hS (by omega) hKf hKc).mono ?_;rintro r w5 ⟨v,rfl,hb5,ho5⟩);refine cV (results_tmp2 rfl _ _ _) rfl ?_;rw[e3];have hB4:Below w.heap.size w wr:=HB2.out.grown hg hlo (fun k' e=>by cases e;exact hlo)
     exact⟨_,rfl,hB4.trans (hb5.mono hB4.size),gD ho5 hB4.size⟩
theorem uO (w:World) (a b:Option Addr) (la ca lb cb:Nat) (f g:Nat→T) (ha:Rd w a la ca f) (hb:Rd w b lb cb g):Calls Tryz.prog 28 #[.slice a la ca,.slice b lb cb] w fun r w'=>∃a' cap',r= .returned (.tuple #[.slice a' (aZ f la g lb).1.length cap',.bool (aZ f la g lb).2])∧Below w.heap.size w w'∧gX w.heap.size w' a' cap' (aZ f la g lb).1:=by
 refine(VV w a b la ca lb cb f g ha hb).mono ?_;rintro r w' ⟨v,rfl,hb1,ho1⟩;have hlen:=qH f la g lb
 obtain⟨a',cap',rfl,hout⟩:=aM ho1 (by omega);exact⟨a',cap',rfl,hb1,hout⟩
end Go.Proofs.YtelkehjdfcoeiaaGreat
