/-
  The product of two terms added to a sum.
-/
import Derived.Test.YtkcmamepoplcdaaGreatDoorXao
import Derived.Shelf.SlSortCmp.WholeK
import Derived.Shelf.SlSortCmp.NoneTotal
set_option maxHeartbeats 8000000
set_option maxRecDepth 100000
namespace Go.Proofs.YtkcmamepoplcdaaGreatDoor
open Go.RowKit Go.Maps
set_option linter.unusedVariables false
theorem kZ.of {a b:T} (h1:a.m.ok=true) (h2:b.m.ok=true) (h3:(a.m.sum b.m).ok=true) (c1:0≤a.c∧a.c≤100) (c2:0≤b.c∧b.c≤100):kZ a b (a.m.sum b.m):=⟨h1,h2,h3,rfl,rfl,rfl,rfl,c1,c2⟩
theorem EN (a b : T) (g : M) (w : World) : Calls Tryz.prog 145 #[.agg #[.int .i64 a.c, .int .i64 a.m.x, .int .i64 a.m.y, .int .i64 a.m.d, .int .i64 a.m.e], .agg #[.int .i64 b.c, .int .i64 b.m.x, .int .i64 b.m.y, .int .i64 b.m.d, .int .i64 b.m.e], .agg #[.int .i64 g.x, .int .i64 g.y, .int .i64 g.d, .int .i64 g.e]] w fun e w' =>
      e= .returned (.func (.func 170) #[] #[.pointer (some ⟨w.heap.size,0,none⟩),.pointer (some ⟨w.heap.size+1,0,none⟩),.pointer (some ⟨w.heap.size+1+1,0,none⟩)])∧
      w'=((w.alloc (.cells #[.int .i64 a.c,.int .i64 a.m.x,.int .i64 a.m.y,.int .i64 a.m.d,.int .i64 a.m.e] 79)).alloc (.cells #[.int .i64 b.c,.int .i64 b.m.x,.int .i64 b.m.y,.int .i64 b.m.d,.int .i64 b.m.e] 79)).alloc (.cells #[.int .i64 g.x,.int .i64 g.y,.int .i64 g.d,.int .i64 g.e] 77):=by
  go_enter Tryz.func145,Tryz.ntmps145
  go_wp2
  go_ret
  exact⟨rfl,rfl⟩
theorem eH {w w':World} (h:Below w.heap.size w w') (row:Option Nat):w.grownBy w' row:=⟨h.os,h.tape,h.output,h.size,fun k hk _=>h.block k hk⟩
theorem CR (w:World) (bm:Nat) (a b:T) (h1:a.m.ok=true) (h2:b.m.ok=true) (h3:(a.m.sum b.m).ok=false):Calls Tryz.prog 111 #[.map (some bm),.agg #[.int .i64 a.c,.int .i64 a.m.x,.int .i64 a.m.y,.int .i64 a.m.d,.int .i64 a.m.e],.agg #[.int .i64 b.c,.int .i64 b.m.x,.int .i64 b.m.y,.int .i64 b.m.d,.int .i64 b.m.e]] w fun e w'=>e= .returned (.bool false)∧Below w.heap.size w w':=by
 have hm:M.mul a.m b.m=(M.zero,false):=by simp[M.mul,h3]
 have hc:=BT a.m.x a.m.y a.m.d a.m.e b.m.x b.m.y b.m.d b.m.e;have ea:(⟨a.m.x,a.m.y,a.m.d,a.m.e⟩:M)=a.m:=rfl
 have eb:(⟨b.m.x,b.m.y,b.m.d,b.m.e⟩:M)=b.m:=rfl;rw[ea,eb,hm]at hc;go_enter Tryz.func111,Tryz.ntmps111;go_wp2_with (go_at_call 143;refine(hc _).mono ?_;rintro e w1 ⟨rfl,hb1⟩);go_ret;exact⟨rfl,(aC ((aF w _).trans ((aF (w.alloc (.cells #[.int .i64 a.c,.int .i64 a.m.x,.int .i64 a.m.y,.int .i64 a.m.d,.int .i64 a.m.e] 79)) (.cells #[.int .i64 b.c,.int .i64 b.m.x,.int .i64 b.m.y,.int .i64 b.m.d,.int .i64 b.m.e] 79)).mono (by simp))) hb1).alloc (by have:=hb1.size;simp at this;omega) _⟩
theorem lB (w:World) (bm:Nat) (c:M→Int) (hS:eP w bm 65536 c) (a b:T) (h:kZ a b (a.m.sum b.m)) {K:List T} (hK:aX K) (hKc:∀m,m.ok=true→bN K m=jE c (jM h (FG a b)) m):Calls Tryz.prog 111 #[.map (some bm),.agg #[.int .i64 a.c,.int .i64 a.m.x,.int .i64 a.m.y,.int .i64 a.m.d,.int .i64 a.m.e],.agg #[.int .i64 b.c,.int .i64 b.m.x,.int .i64 b.m.y,.int .i64 b.m.d,.int .i64 b.m.e]] w fun e w'=>e= .returned (.bool (decide (K.length≤400)))∧eP w' bm 65536 (jE c (jM h (FG a b)))∧w.grownBy w' (some bm):=by
 have hm:M.mul a.m b.m=(a.m.sum b.m,true):=by simp[M.mul,h.ok1,h.ok2,h.ok3]
 have hc:=BT a.m.x a.m.y a.m.d a.m.e b.m.x b.m.y b.m.d b.m.e;have ea:(⟨a.m.x,a.m.y,a.m.d,a.m.e⟩:M)=a.m:=rfl
 have eb:(⟨b.m.x,b.m.y,b.m.d,b.m.e⟩:M)=b.m:=rfl;rw[ea,eb,hm]at hc;have HS:=aA hS
 have H:=aA h;have hblt:=hS.lt
 clear hS;generalize a.m.sum b.m=g at *;have hTA:aZ ((w.alloc (.cells #[.int .i64 a.c,.int .i64 a.m.x,.int .i64 a.m.y,.int .i64 a.m.d,.int .i64 a.m.e] 79)).alloc (.cells #[.int .i64 b.c,.int .i64 b.m.x,.int .i64 b.m.y,.int .i64 b.m.d,.int .i64 b.m.e] 79)) w.heap.size a:=(Below.heap_alloc _ _ _ (by simp)).trans (World.alloc_heap_new w _)
 have hTB:aZ ((w.alloc (.cells #[.int .i64 a.c,.int .i64 a.m.x,.int .i64 a.m.y,.int .i64 a.m.d,.int .i64 a.m.e] 79)).alloc (.cells #[.int .i64 b.c,.int .i64 b.m.x,.int .i64 b.m.y,.int .i64 b.m.d,.int .i64 b.m.e] 79)) (w.heap.size+1) b:=by have:=World.alloc_heap_new (w.alloc (.cells #[.int .i64 a.c,.int .i64 a.m.x,.int .i64 a.m.y,.int .i64 a.m.d,.int .i64 a.m.e] 79)) (.cells #[.int .i64 b.c,.int .i64 b.m.x,.int .i64 b.m.y,.int .i64 b.m.d,.int .i64 b.m.e] 79);rwa[World.size_alloc]at this
 have HTA:=aA hTA;have HTB:=aA hTB
 have HBW:=aA (((aD w.heap.size w).alloc (Nat.le_refl _) (.cells #[.int .i64 a.c,.int .i64 a.m.x,.int .i64 a.m.y,.int .i64 a.m.d,.int .i64 a.m.e] 79)).alloc (by simp) (.cells #[.int .i64 b.c,.int .i64 b.m.x,.int .i64 b.m.y,.int .i64 b.m.d,.int .i64 b.m.e] 79));clear hTA hTB;go_enter Tryz.func111,Tryz.ntmps111
 go_wp2_with (first
  |(go_at_call 143;refine(hc _).mono ?_;rintro e w1 ⟨rfl,hb1⟩;have kA:aZ w1 w.heap.size a:=(hb1.block _ (by simp;omega)).trans HTA.out;have kB:aZ w1 (w.heap.size+1) b:=(hb1.block _ (by simp)).trans HTB.out;obtain⟨x0,x1,x2,x3,x4⟩:=kA.cells;obtain⟨y0,y1,y2,y3,y4⟩:=kB.cells;have hs1:=hb1.size;simp only[World.size_alloc]at hs1;have hx1:w.heap.size<w1.heap.size:=(by omega);have hx2:w.heap.size+1<w1.heap.size:=(by omega);have HB1:=aA (HBW.out.trans (hb1.mono (by simp;omega)));clear hb1 kA kB)
  |(go_at_call 145;refine(EN a b g _).mono ?_;rintro e w2 ⟨rfl,hw2⟩;obtain rfl:=hw2.symm;clear hw2))
 obtain⟨W3,hW3⟩:∃W3,w1.alloc (.cells #[.int .i64 g.x,.int .i64 g.y,.int .i64 g.d,.int .i64 g.e] 77)=W3:=⟨_,rfl⟩
 have hs3:W3.heap.size=w1.heap.size+1:=by rw[←hW3];simp
 have hb3:Below w.heap.size w W3:=by rw[←hW3];exact HB1.out.alloc HB1.out.size _
 rw[hW3];clear hW3 x0 x1 x2 x3 x4 y0 y1 y2 y3 y4;have tA:aZ (((W3.alloc (.cells #[.int .i64 a.c,.int .i64 a.m.x,.int .i64 a.m.y,.int .i64 a.m.d,.int .i64 a.m.e] 79)).alloc (.cells #[.int .i64 b.c,.int .i64 b.m.x,.int .i64 b.m.y,.int .i64 b.m.d,.int .i64 b.m.e] 79)).alloc (.cells #[.int .i64 g.x,.int .i64 g.y,.int .i64 g.d,.int .i64 g.e] 77)) (w1.heap.size+1) a:=by have:=World.alloc_heap_new W3 (.cells #[.int .i64 a.c,.int .i64 a.m.x,.int .i64 a.m.y,.int .i64 a.m.d,.int .i64 a.m.e] 79);rw[hs3]at this;exact(Below.heap_alloc _ _ _ (by simp;omega)).trans ((Below.heap_alloc _ _ _ (by simp;omega)).trans this)
 have tB:aZ (((W3.alloc (.cells #[.int .i64 a.c,.int .i64 a.m.x,.int .i64 a.m.y,.int .i64 a.m.d,.int .i64 a.m.e] 79)).alloc (.cells #[.int .i64 b.c,.int .i64 b.m.x,.int .i64 b.m.y,.int .i64 b.m.d,.int .i64 b.m.e] 79)).alloc (.cells #[.int .i64 g.x,.int .i64 g.y,.int .i64 g.d,.int .i64 g.e] 77)) (w1.heap.size+1+1) b:=by have:=World.alloc_heap_new (W3.alloc (.cells #[.int .i64 a.c,.int .i64 a.m.x,.int .i64 a.m.y,.int .i64 a.m.d,.int .i64 a.m.e] 79)) (.cells #[.int .i64 b.c,.int .i64 b.m.x,.int .i64 b.m.y,.int .i64 b.m.d,.int .i64 b.m.e] 79);rw[World.size_alloc,hs3]at this;exact(Below.heap_alloc _ _ _ (by simp;omega)).trans this
 have tG:KM (((W3.alloc (.cells #[.int .i64 a.c,.int .i64 a.m.x,.int .i64 a.m.y,.int .i64 a.m.d,.int .i64 a.m.e] 79)).alloc (.cells #[.int .i64 b.c,.int .i64 b.m.x,.int .i64 b.m.y,.int .i64 b.m.d,.int .i64 b.m.e] 79)).alloc (.cells #[.int .i64 g.x,.int .i64 g.y,.int .i64 g.d,.int .i64 g.e] 77)) (w1.heap.size+1+1+1) g:=by have:=World.alloc_heap_new ((W3.alloc (.cells #[.int .i64 a.c,.int .i64 a.m.x,.int .i64 a.m.y,.int .i64 a.m.d,.int .i64 a.m.e] 79)).alloc (.cells #[.int .i64 b.c,.int .i64 b.m.x,.int .i64 b.m.y,.int .i64 b.m.d,.int .i64 b.m.e] 79)) (.cells #[.int .i64 g.x,.int .i64 g.y,.int .i64 g.d,.int .i64 g.e] 77);rw[World.size_alloc,World.size_alloc,hs3]at this;exact this
 have hb4:Below w.heap.size w (((W3.alloc (.cells #[.int .i64 a.c,.int .i64 a.m.x,.int .i64 a.m.y,.int .i64 a.m.d,.int .i64 a.m.e] 79)).alloc (.cells #[.int .i64 b.c,.int .i64 b.m.x,.int .i64 b.m.y,.int .i64 b.m.d,.int .i64 b.m.e] 79)).alloc (.cells #[.int .i64 g.x,.int .i64 g.y,.int .i64 g.d,.int .i64 g.e] 77)):=((hb3.alloc hb3.size _).alloc (by have:=hb3.size;simp;omega) _).alloc (by have:=hb3.size;simp;omega) _;generalize((W3.alloc (.cells #[.int .i64 a.c,.int .i64 a.m.x,.int .i64 a.m.y,.int .i64 a.m.d,.int .i64 a.m.e] 79)).alloc (.cells #[.int .i64 b.c,.int .i64 b.m.x,.int .i64 b.m.y,.int .i64 b.m.d,.int .i64 b.m.e] 79)).alloc (.cells #[.int .i64 g.x,.int .i64 g.y,.int .i64 g.d,.int .i64 g.e] 77)=W4 at *;have hS4:eP W4 bm 65536 c:=HS.out.grown (eH hb4 none) (by simp)
 refine(LR W4 bm c hS4 170 _ (enters_of Tryz.func170 (by kernel_rfl) rfl) _ (QG H.out (w1.heap.size+1) (w1.heap.size+1+1) (w1.heap.size+1+1+1) W4 tA tB tG)).mono ?_;rintro e w5 ⟨rfl,hs5,hg5⟩;have HS5:=aA hs5
 have HG5:=aA ((eH hb4 (some bm)).trans hg5);obtain⟨D,ho,hc5,hat5,hks5⟩:=hs5;have hszD:=wC ho hat5 hks5 hK hKc
 have hlen:=ho.len Tryz.underlying120 3;rw[hszD]at hlen;have hd:decide ((K.length:Int)≤400)=decide (K.length≤400):=by by_cases hk4:K.length≤400<;>simp[hk4]<;>omega
 clear ho hat5 hks5 hc5 hg5 hS4 tA tB tG;go_wp2;go_ret;exact⟨by rw[←hd];rfl,HS5.out,HG5.out⟩
open Go.RowKit Go.Maps Go.Sort Go.Shelf
attribute [local go_sem] Oper.semAt_some
theorem dS {W:World} {base base':Nat} {e:TypeId} {size:Nat} {v:Value} {n:Nat} {xs:List Value} (h:W.ownsRow base e size v n xs) (hb:base'≤base):W.ownsRow base' e size v n xs:=
 ⟨h.1,h.2.imp id (fun⟨g,cap,cur,a,b,r⟩=>⟨g,cap,cur,a,jW hb b,r⟩)⟩
theorem NF (hsort:qO) (w:World) (b n:Nat) (c:M→Int) (h:eP w b n c) (hn:n≤1000000) {K:List T} (hK:aX K) (hKc:∀m,m.ok=true→bN K m=c m) (h400:¬K.length≤400):Calls Tryz.prog 112 #[.map (some b)] w fun e w'=>e= .returned (.tuple #[.slice none 0 0,.bool false])∧Below w.heap.size w w':=by
 obtain⟨D,hown,hc,hat,hks⟩:=h;have hsz:=wC hown hat hks hK hKc
 have hblt:=hown.lt;refine(callsIn_wide (n:=9)).1 ?_;refine callsIn_of_wp_marks Tryz.func112 rfl trivial ?_ rfl;simp only[Tryz.ntmps112,List.size_toArray,List.length_cons,List.length_nil,Nat.reduceAdd,Nat.reduceSub,Array.replicate_succ,Array.replicate_zero,List.push_toArray,List.append_toArray,List.nil_append,List.cons_append];have hlen:=(hown.alloc (.cells #[.map (some b)] 120)).len Tryz.underlying120 3
 have HO2:=aA ((hown.alloc (.cells #[.map (some b)] 120)).alloc (.cells #[.slice none 0 0] 22));have HKS:=aA hks
 have HAT:=aA hat;have HOW:=aA hown
 clear hks hat hown;have h4:(400:Int)<(Maps.size D:Int):=by omega
 gi_wp2_with gi_in
 exact⟨_,results_tmp2 rfl _ _ _,rfl,(aD _ w).alloc (Nat.le_refl _) _⟩
def sQ (W:World) (Bx:Nat) (m:M):Prop:=W.heap[Bx]? =some (.cells #[.int .i64 m.x,.int .i64 m.y,.int .i64 m.d,.int .i64 m.e] 77 (0,0))
theorem sQ.cells {W:World} {Bx:Nat} {m:M} (h:sQ W Bx m):W.cell? ⟨Bx,0,none⟩=some (.int .i64 m.x)∧W.cell? ⟨Bx,1,none⟩=some (.int .i64 m.y)∧W.cell? ⟨Bx,2,none⟩=some (.int .i64 m.d)∧W.cell? ⟨Bx,3,none⟩=some (.int .i64 m.e):=by unfold sQ at h;refine⟨?_,?_,?_,?_⟩<;>(unfold World.cell?;simp only[h];rfl)
theorem wY (c:M→Int) (pre:List BA) (x:BA):aG ((pre++[x]).map (KJ c))=aG (pre.map (KJ c))++aG [KJ c x]:=by rw[List.map_append,bY];rfl
theorem NG      (hsort:qO    ) (w:World) (b n:Nat) (c:M→Int) (h:eP   w b n c) (hn:n≤1000000) {K:List T} (hK:aX    K) (hKc:∀m,m.ok=true→bN   K m=c m) (h400:K.length≤400):Calls Tryz.prog 112 #[.map (some b)] w fun e w'=>∃v,e= .returned (.tuple #[v,.bool true])∧Below w.heap.size w w'∧w'.ownsRow w.heap.size 79 5 v K.length (aG     K):=by
 obtain⟨D,hown,hc,hat,hks⟩:=h;have hsz:=wC     hown hat hks hK hKc
 have hblt:=hown.lt;refine(callsIn_wide (n:=9)).1 ?_;refine callsIn_of_wp_marks Tryz.func112 rfl trivial ?_ rfl;simp only[Tryz.ntmps112,List.size_toArray,List.length_cons,List.length_nil,Nat.reduceAdd,Nat.reduceSub,Array.replicate_succ,Array.replicate_zero,List.push_toArray,List.append_toArray,List.nil_append,List.cons_append];have hlen:=(hown.alloc (.cells #[.map (some b)] 120)).len Tryz.underlying120 3
 have HO2:=aA      ((hown.alloc (.cells #[.map (some b)] 120)).alloc (.cells #[.slice none 0 0] 22));have HKS:=aA      hks
 have HAT:=aA      hat;have HOW:=aA      hown
 clear hks hat hown;have h4:(Maps.size D:Int)≤400:=by omega
 gi_wp2_with (first
  |(refine⟨trivial,?_⟩;gi_at_call 147;refine(callsIn_wide.2 (MA      hsort _ b n D HO2.out HKS.out hn)).mono ?_;rintro e W3 ⟨p,cap,dO,rfl,hs3,hm3,hl3,hv3,hp3,hb3⟩)
  |(refine⟨trivial,?_⟩;gi_at_call 146;refine(QX    (F:=Fence.wide) trivial rfl _ _ _ _).mono ?_;rintro e w' ⟨rfl,rfl⟩)
  |gi_in)
 have hd:dO.length=K.length:=by omega
 obtain⟨Wb,hWb⟩:∃Wb,(w.alloc (.cells #[.map (some b)] 120)).alloc (.cells #[.slice none 0 0] 22)=Wb:=⟨_,rfl⟩
 rw[hWb]at hb3 hp3;have hsb:Wb.heap.size=w.heap.size+2:=by rw[←hWb];simp
 have hBb:Below w.heap.size w Wb:=by rw[←hWb];exact((aD         _ w).alloc (Nat.le_refl _) _).alloc (by simp) _
 have bs0:Boxed Wb w.heap.size 120 (.map (some b)):=by rw[←hWb];exact(Boxed.new w _ _).alloc _
 have bp0:Boxed Wb (w.heap.size+1) 22 (.slice none 0 0):=by rw[←hWb];have:=Boxed.new (w.alloc (.cells #[.map (some b)] 120)) 22 (.slice none 0 0);rwa[World.size_alloc]at this
 have hs3':=hb3.size;obtain⟨W0,hW0⟩:∃W0,W3.alloc (.cells #[.slice p K.length cap] 157)=W0:=⟨_,rfl⟩
 rw[hW0];have hsz0:W0.heap.size=W3.heap.size+1:=by rw[←hW0];simp
 have hold:∀k,k<W3.heap.size→W0.heap[k]? =W3.heap[k]? :=fun k hk=>by rw[←hW0];exact Below.heap_alloc _ _ k hk
 have hB0:Below w.heap.size w W0:=by rw[←hW0];exact(hBb.trans (hb3.mono (by omega))).alloc (by omega) _
 have bs:Boxed W0 w.heap.size 120 (.map (some b)):=(hold _ (by omega)).trans ((hb3.block _ (by omega)).trans bs0);have bp:Boxed W0 (w.heap.size+1) 22 (.slice none 0 0):=(hold _ (by omega)).trans ((hb3.block _ (by omega)).trans bp0)
 have bm:Boxed W0 W3.heap.size 157 (.slice p dO.length cap):=by rw[←hW0,hd];exact Boxed.new W3 _ _
 have hrow0:sI   W0 p (dO.map (·.1)):=hv3.keep (by omega) (fun g e=>hold g (hp3 g e).2);have hpl:∀k,p=some ⟨k,0,none⟩→k<W0.heap.size:=fun k e=>by have:=(hp3 k e).2;omega
 have HL:=aA      (PN     hc hs3 (fun m hm=>(hm3 m hm).trans (HAT.out m hm).2) hK hKc);have HP3:=aA      hp3
 have HSEQ:=aA      (CU        (n:=8) (by omega) W3.heap.size cap p dO (by omega) W0 (by omega) bm.cell hrow0 hpl);clear hW0 hWb hb3 hs3 hm3 hv3 hrow0 hl3 hsz h4 hlen HO2 HKS hold bs0 bp0 hp3
 refine wpIn_rangeFunc_ownH (w0:=W0) rfl (by decide) (gf:=172) (lb:=#[.pointer (some ⟨W3.heap.size,0,none⟩)]) rfl trivial (enters_of Tryz.func172 (by kernel_rfl) rfl) HSEQ.out LZ      (LY      (by omega) hpl) (aD         _ _) (fun _=>rfl)
  (fun(pre:List BA) W=>(Boxed W w.heap.size 120 (.map (some b))∧∃v,Boxed W (w.heap.size+1) 22 v∧W.ownsRow W0.heap.size 79 5 v pre.length (aG     (pre.map (KJ  c)))∧True)∧(Below w.heap.size w W∧W0.heap.size≤W.heap.size))
  (fun _ _ _=>False)
  (OwnFrom.and (OwnFrom.and (Own.from (boxed_own _ _ (fun _=>Value.map (some b))) _) (Own.from (holdsRow_own W0.heap.size (w.heap.size+1) 22 79 5 (fun(pre:List BA)=>pre.length) (fun pre=>aG     (pre.map (KJ  c))) (fun _ _=>True)) _)) (OwnFrom.and (ownFrom_below (Nat.le_refl _) (by omega)) (fun _ _ _ _ hs hg _=>jW           hs hg.size)))
  (fun _ _ _ _ _ hs _ _=>hs)
  ⟨⟨bs,_,bp,⟨rfl,.inl ⟨rfl,rfl⟩⟩,trivial⟩,hB0,Nat.le_refl _⟩
  (fun x a' W=>∃Bx,W0.heap.size≤Bx∧sQ    W Bx x.2.1∧a'=({tmps:=#[Value.map (some b),Value.pointer (some ⟨w.heap.size,0,none⟩),Value.slice none 0 0,Value.bool false,Value.pointer (some ⟨w.heap.size+1,0,none⟩),undef,Value.pointer (some ⟨Bx,0,none⟩),Value.map (some b),Value.int IntKind.i64 (K.length:Int),Value.bool (decide (400<(K.length:Int))),Value.map (some b),Value.slice p K.length cap,Value.func (Fn.func 172) #[] #[Value.pointer (some ⟨W3.heap.size,0,none⟩)],Value.int IntKind.i64 (x.1:Int),Value.agg #[Value.int IntKind.i64 x.2.1.x,Value.int IntKind.i64 x.2.1.y,Value.int IntKind.i64 x.2.1.d,Value.int IntKind.i64 x.2.1.e],undef,undef,undef,undef,undef,undef,undef,undef,undef],defers:=[]}:Act))
  (fun x a' _ X Y row hs hg hr=>by
   obtain⟨Bx,h1,h2,h3⟩:=hs;refine⟨Bx,h1,(hg.block Bx (Array.getElem?_eq_some_iff.1 h2).1 (fun e=>?_)).trans h2,h3⟩;obtain⟨_,o,ho,hoc⟩:=hr Bx e.symm
   rw[h2]at ho;cases ho;cases hoc)
  ?assign ?body ?done ?stop
 case assign=>
  rintro l pre x W K' ⟨⟨bS,v,bP,hrow,_⟩,hB,hWs⟩ hK';obtain⟨i,m,hm⟩:=x;dsimp only[LK  ]at hK'⊢;have hsB:=hB.size
  gi_wp2
  refine hK' _ _ ((KeepsOthers.alloc _ _).from _) ⟨by simp,fun k hk=>Below.heap_alloc _ _ k ?_⟩ ⟨⟨bS.alloc _,v,bP.alloc _,hrow.alloc _,trivial⟩,hB.alloc hB.size _,by simp;omega⟩ ⟨W.heap.size,?_,World.alloc_heap_new W _,rfl⟩
  ·rcases hk with rfl|hk
   ·omega
   ·have:=hpl k hk;omega
  ·exact hWs
 case body=>
  rintro l pre x a' W hl ⟨r,hr⟩ ⟨⟨bS,v,bP,hrow,_⟩,hB,hWs⟩ ⟨Bx,hBx,hX,rfl⟩ hlt;obtain⟨i,m,hm⟩:=x;dsimp only at hX⊢;obtain⟨i0,hi0,hz0,hz1,hz2⟩:=info_parts RG   ;have hBxl:Bx<W.heap.size:=(Array.getElem?_eq_some_iff.1 hX).1
  have HROW:=aA      hrow;have HOWN:=aA      (mJ            HOW.out (hB.block b hblt))
  have hlt':pre.length<400:=by omega
  have hsB:=hB.size;clear hr hrow
  gi_wp2_with fail
  refine DU        (fun vs:Nat→Value=>({tmps:=#[Value.map (some b),Value.pointer (some ⟨w.heap.size,0,none⟩),Value.slice none 0 0,Value.bool false,Value.pointer (some ⟨w.heap.size+1,0,none⟩),undef,Value.pointer (some ⟨Bx,0,none⟩),Value.map (some b),Value.int IntKind.i64 (K.length:Int),Value.bool (decide (400<(K.length:Int))),Value.map (some b),Value.slice p K.length cap,Value.func (Fn.func 172) #[] #[Value.pointer (some ⟨W3.heap.size,0,none⟩)],Value.int IntKind.i64 (i:Int),Value.agg #[Value.int IntKind.i64 m.x,Value.int IntKind.i64 m.y,Value.int IntKind.i64 m.d,Value.int IntKind.i64 m.e],vs 0,vs 1,vs 2,vs 3,vs 4,vs 5,vs 6,vs 7,undef],defers:=[]}:Act))
   (fun k u z=>match k with
    |0=>z=v
    |1=>z=Value.map (some b)
    |2=>z=Value.agg #[Value.int IntKind.i64 m.x,Value.int IntKind.i64 m.y,Value.int IntKind.i64 m.d,Value.int IntKind.i64 m.e]
    |3=>z=Value.int IntKind.i64 (c m)
    |4=>z=Value.agg #[Value.int IntKind.i64 m.x,Value.int IntKind.i64 m.y,Value.int IntKind.i64 m.d,Value.int IntKind.i64 m.e]
    |5=>z=Value.agg #[Value.int IntKind.i64 (c m),Value.int IntKind.i64 m.x,Value.int IntKind.i64 m.y,Value.int IntKind.i64 m.d,Value.int IntKind.i64 m.e]
    |6=>∃bb,z=Value.slice (some ⟨bb,0,none⟩) 1 1∧bb<u.heap.size∧u.heap[bb]? =some (.cells #[Value.int IntKind.i64 (c m),Value.int IntKind.i64 m.x,Value.int IntKind.i64 m.y,Value.int IntKind.i64 m.d,Value.int IntKind.i64 m.e] 79 (0,0))
    |_=>True) 9 7 W
   (fun u z=>∃g0 cap0,z=Value.slice (some ⟨g0,0,none⟩) (pre.length+1) cap0∧u.ownsRow W0.heap.size 79 5 z (pre.length+1) (aG     (pre.map (KJ  c))++aG     [(⟨c m,m⟩:T)])∧Below W0.heap.size W u∧KeepsOthers W u)
   (fun u=>KeepsFrom W0.heap.size W u∧rF    W3.heap.size p W u∧(Boxed u w.heap.size 120 (.map (some b))∧∃v,Boxed u (w.heap.size+1) 22 v∧u.ownsRow W0.heap.size 79 5 v (pre.length+1) (aG     (pre.map (KJ  c))++aG     [(⟨c m,m⟩:T)])∧True)∧(Below w.heap.size w u∧W0.heap.size≤u.heap.size))
   (by kernel_rfl) (by kernel_rfl) (fun⟨_,_,hq⟩=>hq) ?_ ?_ ?_
  ·exact RS.start (fun _=>undef) rfl
  ·intro l' b0 u hI i' hi;obtain⟨vs,rfl,hsz',hcl,hf,hy,hz⟩:=hI
   have hPm:∀k u u' z,(fun(k:Nat) (u:World) (z:Value)=>match k with
    |0=>z=v
    |1=>z=Value.map (some b)
    |2=>z=Value.agg #[Value.int IntKind.i64 m.x,Value.int IntKind.i64 m.y,Value.int IntKind.i64 m.d,Value.int IntKind.i64 m.e]
    |3=>z=Value.int IntKind.i64 (c m)
    |4=>z=Value.agg #[Value.int IntKind.i64 m.x,Value.int IntKind.i64 m.y,Value.int IntKind.i64 m.d,Value.int IntKind.i64 m.e]
    |5=>z=Value.agg #[Value.int IntKind.i64 (c m),Value.int IntKind.i64 m.x,Value.int IntKind.i64 m.y,Value.int IntKind.i64 m.d,Value.int IntKind.i64 m.e]
    |6=>∃bb,z=Value.slice (some ⟨bb,0,none⟩) 1 1∧bb<u.heap.size∧u.heap[bb]? =some (.cells #[Value.int IntKind.i64 (c m),Value.int IntKind.i64 m.x,Value.int IntKind.i64 m.y,Value.int IntKind.i64 m.d,Value.int IntKind.i64 m.e] 79 (0,0))
    |_=>True) k u z→Below u.heap.size u u'→(fun(k:Nat) (u:World) (z:Value)=>match k with
    |0=>z=v
    |1=>z=Value.map (some b)
    |2=>z=Value.agg #[Value.int IntKind.i64 m.x,Value.int IntKind.i64 m.y,Value.int IntKind.i64 m.d,Value.int IntKind.i64 m.e]
    |3=>z=Value.int IntKind.i64 (c m)
    |4=>z=Value.agg #[Value.int IntKind.i64 m.x,Value.int IntKind.i64 m.y,Value.int IntKind.i64 m.d,Value.int IntKind.i64 m.e]
    |5=>z=Value.agg #[Value.int IntKind.i64 (c m),Value.int IntKind.i64 m.x,Value.int IntKind.i64 m.y,Value.int IntKind.i64 m.d,Value.int IntKind.i64 m.e]
    |6=>∃bb,z=Value.slice (some ⟨bb,0,none⟩) 1 1∧bb<u.heap.size∧u.heap[bb]? =some (.cells #[Value.int IntKind.i64 (c m),Value.int IntKind.i64 m.x,Value.int IntKind.i64 m.y,Value.int IntKind.i64 m.d,Value.int IntKind.i64 m.e] 79 (0,0))
    |_=>True) k u' z:=by
    intro k u u' z hp hbl;match k with
    |0|1|2|3|4|5=>exact hp
    |6=>obtain⟨bb,h1,h2,h3⟩:=hp;exact⟨bb,h1,eB                 h2 hbl.size,(hbl.block bb h2).trans h3⟩
    |_+7=>trivial
   have hl0:=(mem_ready.1 hi).1;have hi9:i'<9:=by obtain⟨_,o,ho,_⟩:=mem_ready.1 hi;exact(Array.getElem?_eq_some_iff.1 ho).1
   rcases(show i'=0∨i'=1∨i'=2∨i'=3∨i'=4∨i'=5∨i'=6∨i'=7∨i'=8 from by omega)with rfl|rfl|rfl|rfl|rfl|rfl|rfl|rfl|rfl
   ·have hA:l'.getD 7 false=false:=by
     cases hx:l'.getD 7 false
     ·rfl
     ·have hx0:=hcl.dep (i:=7) rfl hx 0 (by kernel_rfl);exact(cE        hl0 hx0).elim
    have hA1:l'.getD (7+1) false=false:=by
     cases hx:l'.getD (7+1) false
     ·rfl
     ·have hx0:=hcl.dep (i:=8) rfl hx 7 (by kernel_rfl);rw[hA]at hx0;cases hx0
    have hbu:=(hf hA).1;have p0:u.cell? ⟨w.heap.size+1,0,none⟩=some v:=(sP                   (w:=W) (a:=⟨w.heap.size+1,0,none⟩) (hbu.block (w.heap.size+1) (by omega))).trans bP.cell
    refine wpOp_step rfl (fun K' hK'=>?_);go_simp;refine hK' _ _ ?_;exact RS.step 0 (v) hPm hi rfl hA hA1 (by decide) hsz' hcl hf (aD         _ u) rfl rfl
   ·have hA:l'.getD 7 false=false:=by
     cases hx:l'.getD 7 false
     ·rfl
     ·have hx6:=hcl.dep (i:=7) rfl hx 6 (by kernel_rfl);have hx5:=hcl.dep (i:=6) rfl hx6 5 (by kernel_rfl)
      have hx3:=hcl.dep (i:=5) rfl hx5 3 (by kernel_rfl);have hx1:=hcl.dep (i:=3) rfl hx3 1 (by kernel_rfl)
      exact(cE        hl0 hx1).elim
    have hA1:l'.getD (7+1) false=false:=by
     cases hx:l'.getD (7+1) false
     ·rfl
     ·have hx0:=hcl.dep (i:=8) rfl hx 7 (by kernel_rfl);rw[hA]at hx0;cases hx0
    have hbu:=(hf hA).1;have p1:u.cell? ⟨w.heap.size,0,none⟩=some (.map (some b)):=(sP                   (w:=W) (a:=⟨w.heap.size,0,none⟩) (hbu.block w.heap.size (by omega))).trans bS.cell
    refine wpOp_step rfl (fun K' hK'=>?_);go_simp;refine hK' _ _ ?_;exact RS.step 1 (Value.map (some b)) hPm hi rfl hA hA1 (by decide) hsz' hcl hf (aD         _ u) rfl rfl
   ·have hA:l'.getD 7 false=false:=by
     cases hx:l'.getD 7 false
     ·rfl
     ·have hx6:=hcl.dep (i:=7) rfl hx 6 (by kernel_rfl);have hx5:=hcl.dep (i:=6) rfl hx6 5 (by kernel_rfl)
      have hx3:=hcl.dep (i:=5) rfl hx5 3 (by kernel_rfl);have hx2:=hcl.dep (i:=3) rfl hx3 2 (by kernel_rfl)
      exact(cE        hl0 hx2).elim
    have hA1:l'.getD (7+1) false=false:=by
     cases hx:l'.getD (7+1) false
     ·rfl
     ·have hx0:=hcl.dep (i:=8) rfl hx 7 (by kernel_rfl);rw[hA]at hx0;cases hx0
    have hbu:=(hf hA).1;have hXu:sQ    u Bx m:=(hbu.block Bx hBxl).trans hX
    obtain⟨x0,x1,x2,x3⟩:=hXu.cells;refine wpOp_step rfl (fun K' hK'=>?_);go_simp;refine hK' _ _ ?_;exact RS.step 2 (Value.agg #[Value.int IntKind.i64 m.x,Value.int IntKind.i64 m.y,Value.int IntKind.i64 m.d,Value.int IntKind.i64 m.e]) hPm hi rfl hA hA1 (by decide) hsz' hcl hf (aD         _ u) rfl rfl
   ·have hA:l'.getD 7 false=false:=by
     cases hx:l'.getD 7 false
     ·rfl
     ·have hx6:=hcl.dep (i:=7) rfl hx 6 (by kernel_rfl);have hx5:=hcl.dep (i:=6) rfl hx6 5 (by kernel_rfl)
      have hx3:=hcl.dep (i:=5) rfl hx5 3 (by kernel_rfl);exact(cE        hl0 hx3).elim
    have hA1:l'.getD (7+1) false=false:=by
     cases hx:l'.getD (7+1) false
     ·rfl
     ·have hx0:=hcl.dep (i:=8) rfl hx 7 (by kernel_rfl);rw[hA]at hx0;cases hx0
    have hbu:=(hf hA).1;have e1:vs 1=Value.map (some b):=(hf hA).2 1 (bB         hi rfl 1 (by kernel_rfl))
    have e2:vs 2=Value.agg #[Value.int IntKind.i64 m.x,Value.int IntKind.i64 m.y,Value.int IntKind.i64 m.d,Value.int IntKind.i64 m.e]:=(hf hA).2 2 (bB         hi rfl 2 (by kernel_rfl));have hownu:u.ownsMap Tryz.prog 77 (plainElem Tryz.prog 118) b n D:=mJ            HOWN.out (hbu.block b (by omega))
    refine wpOp_step rfl (fun K' hK'=>?_);refine zB          rfl (.tmp 16) (.tmp 17) 120 rfl 77 118 .i64 nQ   Tryz.underlying120 Tryz.underlying118 (KB    _) b n D e1 hownu _ _ e2 (oR     hm) ?_;intro c1 hat1;obtain rfl:c1=c m:=by rw[(HAT.out m hm).1]at hat1;simpa using hat1.symm
    refine hK' _ _ ?_;exact RS.step 3 (Value.int IntKind.i64 (c m)) hPm hi rfl hA hA1 (by decide) hsz' hcl hf (aD         _ u) rfl rfl
   ·have hA:l'.getD 7 false=false:=by
     cases hx:l'.getD 7 false
     ·rfl
     ·have hx6:=hcl.dep (i:=7) rfl hx 6 (by kernel_rfl);have hx5:=hcl.dep (i:=6) rfl hx6 5 (by kernel_rfl)
      have hx4:=hcl.dep (i:=5) rfl hx5 4 (by kernel_rfl);exact(cE        hl0 hx4).elim
    have hA1:l'.getD (7+1) false=false:=by
     cases hx:l'.getD (7+1) false
     ·rfl
     ·have hx0:=hcl.dep (i:=8) rfl hx 7 (by kernel_rfl);rw[hA]at hx0;cases hx0
    have hbu:=(hf hA).1;have hXu:sQ    u Bx m:=(hbu.block Bx hBxl).trans hX
    obtain⟨x0,x1,x2,x3⟩:=hXu.cells;refine wpOp_step rfl (fun K' hK'=>?_);go_simp;refine hK' _ _ ?_;exact RS.step 4 (Value.agg #[Value.int IntKind.i64 m.x,Value.int IntKind.i64 m.y,Value.int IntKind.i64 m.d,Value.int IntKind.i64 m.e]) hPm hi rfl hA hA1 (by decide) hsz' hcl hf (aD         _ u) rfl rfl
   ·have hA:l'.getD 7 false=false:=by
     cases hx:l'.getD 7 false
     ·rfl
     ·have hx6:=hcl.dep (i:=7) rfl hx 6 (by kernel_rfl);have hx5:=hcl.dep (i:=6) rfl hx6 5 (by kernel_rfl)
      exact(cE        hl0 hx5).elim
    have hA1:l'.getD (7+1) false=false:=by
     cases hx:l'.getD (7+1) false
     ·rfl
     ·have hx0:=hcl.dep (i:=8) rfl hx 7 (by kernel_rfl);rw[hA]at hx0;cases hx0
    have hbu:=(hf hA).1;have e3:vs 3=Value.int IntKind.i64 (c m):=(hf hA).2 3 (bB         hi rfl 3 (by kernel_rfl))
    have e4:vs 4=Value.agg #[Value.int IntKind.i64 m.x,Value.int IntKind.i64 m.y,Value.int IntKind.i64 m.d,Value.int IntKind.i64 m.e]:=(hf hA).2 4 (bB         hi rfl 4 (by kernel_rfl));refine wpOp_step rfl (fun K' hK'=>?_);go_simp;refine hK' _ _ ?_;exact RS.step 5 (Value.agg #[Value.int IntKind.i64 (c m),Value.int IntKind.i64 m.x,Value.int IntKind.i64 m.y,Value.int IntKind.i64 m.d,Value.int IntKind.i64 m.e]) hPm hi rfl hA hA1 (by decide) hsz' hcl hf (aD         _ u) rfl (by first|(rw[←e3,←e4];done)|(rw[←e3,←e4];rfl))
   ·have hA:l'.getD 7 false=false:=by
     cases hx:l'.getD 7 false
     ·rfl
     ·have hx6:=hcl.dep (i:=7) rfl hx 6 (by kernel_rfl);exact(cE        hl0 hx6).elim
    have hA1:l'.getD (7+1) false=false:=by
     cases hx:l'.getD (7+1) false
     ·rfl
     ·have hx0:=hcl.dep (i:=8) rfl hx 7 (by kernel_rfl);rw[hA]at hx0;cases hx0
    have hbu:=(hf hA).1;have e5:vs 5=Value.agg #[Value.int IntKind.i64 (c m),Value.int IntKind.i64 m.x,Value.int IntKind.i64 m.y,Value.int IntKind.i64 m.d,Value.int IntKind.i64 m.e]:=(hf hA).2 5 (bB         hi rfl 5 (by kernel_rfl))
    refine wpOp_step rfl (fun K' hK'=>?_);go_simp;refine hK' _ _ ?_;exact RS.step 6 (Value.slice (some ⟨u.heap.size,0,none⟩) 1 1) hPm hi rfl hA hA1 (by decide) hsz' hcl hf (aF      u _) ⟨u.heap.size,rfl,by simp,heap_alloc_new u _⟩ (by first|(rw[←e5];done)|(rw[←e5];rfl))
   ·have hA:l'.getD 7 false=false:=by rw[Array.getD_eq_getD_getElem?,eL         hl0];rfl
    have hA1:l'.getD (7+1) false=false:=by
     cases hx:l'.getD (7+1) false
     ·rfl
     ·have hx0:=hcl.dep (i:=8) rfl hx 7 (by kernel_rfl);rw[hA]at hx0;cases hx0
    have hbu:=(hf hA).1;have e0:vs 0=v:=(hf hA).2 0 (bB         hi rfl 0 (by kernel_rfl))
    obtain⟨bb,e1,hbl,hbc⟩:=(hf hA).2 6 (bB         hi rfl 6 (by kernel_rfl));have hsu:=hbu.size
    have HOX:=aK         HROW.out hbu;refine wpOp_step rfl (fun K' hK'=>?_);refine step_append_lies _ rfl (.tmp 15) (.tmp 21) 22 rfl W0.heap.size 79 i0 _ 5 40 Tryz.underlying22 hi0 hz0 hz1 hz2 rfl (by omega) _ pre.length (aG     (pre.map (KJ  c))) e0 HOX ⟨bb,0,none⟩ 1 1 (aG     [(⟨c m,m⟩:T)]) e1 (by rw[bL           ];rfl) (by rw[dE        ];exact World.news_of_block hbc) (eC        _) (by omega) (by unfold maxLen;omega) (by omega) (by omega) _ rfl ?_;intro g0 cap0 w9 hown1 hgrow hat1 hlt1;refine hK' _ _ ?_;have hrw:∀k,v.ownBlock=some k→W0.heap.size≤k:=fun k hk=>(HOX.lt k hk).1
    refine RS.last (.slice (some ⟨g0,0,none⟩) (pre.length+1) cap0) hi rfl (by decide) hA1 hsz' hcl ⟨g0,cap0,rfl,hown1,?_,?_⟩ rfl
    ·exact(hbu.mono hWs).grown hgrow (by omega) (fun k hk=>hrw k hk)
    ·refine(KeepsOthers.mk hbu.size (fun k o hk ho=>(hbu.block k (Array.getElem?_eq_some_iff.1 hk).1).trans hk)).trans (KeepsOthers.of_grownBy hgrow fun j o ej hj=>?_);rcases HOX.2 with⟨rfl,_⟩|⟨g,cap1,cur,rfl,_,hgb,_⟩
     ·simp[Value.ownBlock]at ej
     ·obtain rfl:g=j:=by simpa[Value.ownBlock]using ej
      rw[hgb]at hj;cases hj;rfl
   ·have hAt:l'.getD 7 false=true:=bB         hi rfl 7 (by kernel_rfl);have hA1:l'.getD (7+1) false=false:=by rw[Array.getD_eq_getD_getElem?,eL         hl0];rfl
    obtain⟨g0,cap0,e7,hown1,hbW,hkW⟩:=hy hAt hA1;have bPu:Boxed u (w.heap.size+1) 22 v:=(hbW.block _ (by omega)).trans bP
    have bSu:Boxed u w.heap.size 120 (.map (some b)):=(hbW.block _ (by omega)).trans bS;have p0:=bPu.cell
    have q0:=bPu.frozen;have hsu:=hbW.size
    rw[e7]at hown1;refine wpOp_step rfl (fun K' hK'=>?_);go_simp;refine hK' _ _ ?_;refine RS.put hi rfl hAt (by decide) hsz' hcl ⟨(hkW.trans (KeepsOthers.setCell _ _ _)).from _,⟨?_,fun k hk=>?_⟩,⟨bSu.other (by omega) _,_,bPu.set _,hown1.kept (grownBy_setCell' u _ _) (.inr (bPu.not_row (by decide) hown1).symm),trivial⟩,((hB.trans (hbW.mono (by omega))).setCell (p:=⟨w.heap.size+1,0,none⟩) (by simp) _),?_⟩ (by first|(rw[←e7];done)|(rw[←e7];rfl)|rfl)
    ·exact jW           hsu (grownBy_setCell' u _ _).size
    ·have hkl:k<W0.heap.size∧k≠w.heap.size+1:=by
      rcases hk with rfl|hk
      ·omega
      ·have h1:=hpl k hk;have h2:=(HP3.out k hk).1
       omega
     rw[Below.heap_setCell _ _ _ k hkl.2];exact hbW.block k hkl.1
    ·exact jW           (jW           hWs hsu) (grownBy_setCell' u _ _).size
  ·intro l' b0 u hI hr;obtain⟨vs,rfl,hsz',hcl,hf,hy,hz⟩:=hI;have hall:=sY        (by kernel_rfl) hr hsz'
   obtain⟨z1,z2,⟨z3,v',z4,z5,_⟩,z6,z7⟩:=hz (hall 8 (by decide));exact⟨z1,z2,⟨z3,v',z4,by rw[wY         ,List.length_append];exact z5,trivial⟩,z6,z7⟩
 case done=>
  rintro D' xs W hD rfl ⟨⟨bS,v,bP,hrow,_⟩,hB,hWs⟩ hKd;have cP:=bP.cell
  gi_wp2
  refine⟨by simp,.inl ⟨_,_,rfl,run_takeDeferred hKd,?_⟩⟩;refine⟨_,results_tmp2 rfl _ _ _,v,rfl,hB.trans (belowK_b (w:=w) (Nat.le_refl _) W D' _ _ (by omega) hKd rfl rfl),?_⟩;have:=ownsRow_putObj hrow (.deferred none) hKd rfl
  rw[HL.out,nD          ,Nat.sub_zero,hd]at this;exact dS          this (by omega)
 case stop=>
  rintro D' c' pre W _ _ h _;exact h.elim
end Go.Proofs.YtkcmamepoplcdaaGreatDoor
namespace Go.Proofs.YtkcmamepoplcdaaGreatDoor
open Go.RowKit Go.Maps Go.Sort Go.Shelf Go.Lib
set_option linter.unusedVariables false
theorem JL:qO:=by
 have eg:∀args w,(callFunc 175 args).run Tryz.prog w= .ok (.enter 175 args) w:=enters_of Tryz.func175 (by kernel_rfl) rfl;refine⟨fun Br W gb cap d hB hne hr hH hgb hsz=>?_,fun p cap fv W=>?_⟩
 ·have hcon:=AnyQ.slices_SortFunc sortM 4 (fun w=>Tryz.isAgg77 w) (fun w=>Tryz.sizeOf77 w) cZ (fun _=>rfl) (fun x v hv=>by simp[cZ]at hv;rcases hv with rfl|rfl|rfl|rfl<;>rfl) (fun x y=>c3 (eF x.1) (eF y.1)) UE 175 #[.pointer (some ⟨Br,0,none⟩)] gb 0 cap d W eg (FL Br gb 0 d.size W hB hne hr) hH hgb hsz;exact hcon
 ·exact AnyF.slices_SortFunc_none {sortM with} p cap fv W
end Go.Proofs.YtkcmamepoplcdaaGreatDoor
