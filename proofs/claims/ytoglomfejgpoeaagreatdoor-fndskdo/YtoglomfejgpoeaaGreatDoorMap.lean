/-
  The product of two operators: the model.
  The product of two operators: the model's loops.
  Powers of an operator, and how far two are apart: the program and the model.
-/
import Derived.Test.YtoglomfejgpoeaaGreatDoorMao
set_option maxHeartbeats 8000000
set_option maxRecDepth 100000
namespace Go.Proofs.YtoglomfejgpoeaaGreatDoor
open Go.RowKit
set_option linter.unusedVariables false
theorem pC (n k:Int):0≤dA n k∧dA n k≤100:=by unfold dA;split<;>omega
theorem AC (n:Int):∀k:Nat,0≤fl n k∧fl n k≤100
 |0=>by unfold fl;omega
 |k+1=>by unfold fl;omega
theorem sZ (n k:Int):0≤cR n k∧cR n k≤100:=by
 unfold cR;split
 ·exact AC _ _
 ·omega
theorem IX (s t k:Int) (w:World):Calls Tryz.prog 165 #[.int .i64 s,.int .i64 t,.int .i64 k] w fun e w'=>e= .returned (.int .i64 (wy s t k))∧w'=w:=by
 have h1:=pC s k;have h2:=sZ t k
 have hm:wy s t k=dA s k*cR t k%101:=eO h1.1 h1.2 h2.1 h2.2
 have hb:0≤dA s k*cR t k∧dA s k*cR t k≤10000:=⟨Int.mul_nonneg h1.1 h2.1,by
  have:=Int.mul_le_mul h1.2 h2.2 h2.1 (by omega);omega⟩
 rw[hm];have hc:=CY s k
 have hf:=vU t k;generalize dA s k=p at *;generalize cR t k=q at *;generalize hpq:p*q=r at *;clear hm;go_enter Tryz.func165,Tryz.ntmps165
 go_wp2_with (first
  |(go_at_call 190;refine(hc _).mono ?_;rintro e w' ⟨rfl,hw'⟩;obtain rfl:=hw'.symm;clear hw')
  |(go_at_call 101;refine(hf _).mono ?_;rintro e w' ⟨rfl,hw'⟩;obtain rfl:=hw'.symm;clear hw'))
 go_ret;exact⟨rfl,rfl⟩
theorem rP (xs:List T) (t:T) (L:List T):cE (xs++[t]) L=fU t.c t.m (cE xs L):=by simp[cE]
theorem kS:∀(xs L:List T),(cE xs L).length≤L.length+xs.length
 |[],L=>Nat.le_refl _
 |t::r,L=>by
  have h1:=kS r (fU t.c t.m L);have h2:=uB t.c t.m L
  show(cE r (fU t.c t.m L)).length≤_;rw[List.length_cons];omega
theorem pW (a b:T) (i:Nat):(dU a b i).length=i*(fS a b+1):=by unfold dU;rw[iD (fS a b+1) _ (fun i=>by simp[iX])];simp
def IE (W:World) (Bx:Nat) (m:M):Prop:=W.heap[Bx]? =some (.cells #[.int .i64 m.x,.int .i64 m.y,.int .i64 m.d,.int .i64 m.e] 78 (0,0))
theorem IE.cells {W:World} {Bx:Nat} {m:M} (h:IE W Bx m):W.cell? ⟨Bx,0,none⟩=some (.int .i64 m.x)∧W.cell? ⟨Bx,1,none⟩=some (.int .i64 m.y)∧W.cell? ⟨Bx,2,none⟩=some (.int .i64 m.d)∧W.cell? ⟨Bx,3,none⟩=some (.int .i64 m.e):=by unfold IE at h;refine⟨?_,?_,?_,?_⟩<;>(unfold World.cell?;simp only[h];rfl)
theorem GM (w:World) (a b:T) (h3:(a.m.sum b.m).ok=false):Calls Tryz.prog 138 #[.agg #[.int .i64 a.c,.int .i64 a.m.x,.int .i64 a.m.y,.int .i64 a.m.d,.int .i64 a.m.e],.agg #[.int .i64 b.c,.int .i64 b.m.x,.int .i64 b.m.y,.int .i64 b.m.d,.int .i64 b.m.e]] w fun e w'=>∃v,e= .returned (.tuple #[v,.bool false])∧Below w.heap.size w w'∧w'.ownsRow w.heap.size 80 5 v 0 (aF []):=by
 have hm:M.mul a.m b.m=(M.zero,false):=by simp[M.mul,h3]
 have hc:=wF a.m.x a.m.y a.m.d a.m.e b.m.x b.m.y b.m.d b.m.e;have ea:(⟨a.m.x,a.m.y,a.m.d,a.m.e⟩:M)=a.m:=rfl
 have eb:(⟨b.m.x,b.m.y,b.m.d,b.m.e⟩:M)=b.m:=rfl;rw[ea,eb,hm]at hc;have HO:=aA (aQ ((w.alloc (.cells #[.int .i64 a.c,.int .i64 a.m.x,.int .i64 a.m.y,.int .i64 a.m.d,.int .i64 a.m.e] 80)).alloc (.cells #[.int .i64 b.c,.int .i64 b.m.x,.int .i64 b.m.y,.int .i64 b.m.d,.int .i64 b.m.e] 80)) w.heap.size (by simp;omega))
 have HW:=aA ((((aD w.heap.size w).alloc (Nat.le_refl _) (.cells #[.int .i64 a.c,.int .i64 a.m.x,.int .i64 a.m.y,.int .i64 a.m.d,.int .i64 a.m.e] 80)).alloc (by simp) (.cells #[.int .i64 b.c,.int .i64 b.m.x,.int .i64 b.m.y,.int .i64 b.m.d,.int .i64 b.m.e] 80)).alloc (by simp;omega) (.cells #[] 80));go_enter Tryz.func138,Tryz.ntmps138;go_wp2_with (go_at_call 164;refine(hc _).mono ?_;rintro e w1 ⟨rfl,hb1⟩);refine bT (results_tmp2 rfl _ _ _) rfl ?_;have hO:=HO.out
 simp only[World.size_alloc]at hO;have hb2:=(HW.out.trans (hb1.mono (by simp;omega)))
 exact⟨_,rfl,hb2.alloc hb2.size _,aT hO (hb1.alloc (gU (Nat.le_refl _) hb1.size) _)⟩
theorem DW (w:World) (a b:T) (h:jH a b (a.m.sum b.m)):Calls Tryz.prog 138 #[.agg #[.int .i64 a.c,.int .i64 a.m.x,.int .i64 a.m.y,.int .i64 a.m.d,.int .i64 a.m.e],.agg #[.int .i64 b.c,.int .i64 b.m.x,.int .i64 b.m.y,.int .i64 b.m.d,.int .i64 b.m.e]] w fun e w'=>∃v,e= .returned (.tuple #[v,.bool true])∧Below w.heap.size w w'∧w'.ownsRow w.heap.size 80 5 v (aY a b).length (aF (aY a b)):=by
 have hm:M.mul a.m b.m=(a.m.sum b.m,true):=by simp[M.mul,h.ok1,h.ok2,h.ok3]
 have hc:=wF a.m.x a.m.y a.m.d a.m.e b.m.x b.m.y b.m.d b.m.e;have ea:(⟨a.m.x,a.m.y,a.m.d,a.m.e⟩:M)=a.m:=rfl
 have eb:(⟨b.m.x,b.m.y,b.m.d,b.m.e⟩:M)=b.m:=rfl;rw[ea,eb,hm]at hc;have m1:=M.ok_iff.1 h.ok1
 have m2:=M.ok_iff.1 h.ok2;have m3:=M.ok_iff.1 h.ok3
 have lx:=h.lx;have ly:=h.ly
 have k1:=h.c1;have k2:=h.c2
 have H:=aA h;have HO:=aA (aQ ((w.alloc (.cells #[.int .i64 a.c,.int .i64 a.m.x,.int .i64 a.m.y,.int .i64 a.m.d,.int .i64 a.m.e] 80)).alloc (.cells #[.int .i64 b.c,.int .i64 b.m.x,.int .i64 b.m.y,.int .i64 b.m.d,.int .i64 b.m.e] 80)) w.heap.size (by simp;omega))
 have HW:=aA ((((aD w.heap.size w).alloc (Nat.le_refl _) (.cells #[.int .i64 a.c,.int .i64 a.m.x,.int .i64 a.m.y,.int .i64 a.m.d,.int .i64 a.m.e] 80)).alloc (by simp) (.cells #[.int .i64 b.c,.int .i64 b.m.x,.int .i64 b.m.y,.int .i64 b.m.d,.int .i64 b.m.e] 80)).alloc (by simp;omega) (.cells #[] 80));have HTA:Hid (bB (((w.alloc (.cells #[.int .i64 a.c,.int .i64 a.m.x,.int .i64 a.m.y,.int .i64 a.m.d,.int .i64 a.m.e] 80)).alloc (.cells #[.int .i64 b.c,.int .i64 b.m.x,.int .i64 b.m.y,.int .i64 b.m.d,.int .i64 b.m.e] 80)).alloc (.cells #[] 80)) w.heap.size a):=(Below.heap_alloc _ _ _ (by simp;omega)).trans ((Below.heap_alloc _ _ _ (by simp)).trans (World.alloc_heap_new w _))
 have HTB:Hid (bB (((w.alloc (.cells #[.int .i64 a.c,.int .i64 a.m.x,.int .i64 a.m.y,.int .i64 a.m.d,.int .i64 a.m.e] 80)).alloc (.cells #[.int .i64 b.c,.int .i64 b.m.x,.int .i64 b.m.y,.int .i64 b.m.d,.int .i64 b.m.e] 80)).alloc (.cells #[] 80)) (w.heap.size+1) b):=by have:=World.alloc_heap_new (w.alloc (.cells #[.int .i64 a.c,.int .i64 a.m.x,.int .i64 a.m.y,.int .i64 a.m.d,.int .i64 a.m.e] 80)) (.cells #[.int .i64 b.c,.int .i64 b.m.x,.int .i64 b.m.y,.int .i64 b.m.d,.int .i64 b.m.e] 80);rw[World.size_alloc]at this;exact(Below.heap_alloc _ _ _ (by simp)).trans this
 clear h;generalize a.m.sum b.m=g at *;go_enter Tryz.func138,Tryz.ntmps138;go_wp2_with (go_at_call 164;refine(hc _).mono ?_;rintro e w1 ⟨rfl,hb1⟩;have HB1:=aA hb1;clear hb1);have hb1:=HB1.out
 have hO:=HO.out;simp only[World.size_alloc]at hO;have hbw:Below w.heap.size w w1:=HW.out.trans (hb1.mono (by simp;omega))
 have hs1:=hb1.size;simp only[World.size_alloc]at hs1;have hT1:bB w1 w.heap.size a:=(hb1.block _ (by simp;omega)).trans HTA.out
 have hT2:bB w1 (w.heap.size+1) b:=(hb1.block _ (by simp)).trans HTB.out;have hO1:=aT hO hb1
 have hG:IE (w1.alloc (.cells #[.int .i64 g.x,.int .i64 g.y,.int .i64 g.d,.int .i64 g.e] 78)) w1.heap.size g:=World.alloc_heap_new w1 _;have hT1':bB (w1.alloc (.cells #[.int .i64 g.x,.int .i64 g.y,.int .i64 g.d,.int .i64 g.e] 78)) w.heap.size a:=(Below.heap_alloc _ _ _ (by omega)).trans hT1
 have hT2':bB (w1.alloc (.cells #[.int .i64 g.x,.int .i64 g.y,.int .i64 g.d,.int .i64 g.e] 78)) (w.heap.size+1) b:=(Below.heap_alloc _ _ _ (by omega)).trans hT2;have hO2:=hO1.alloc (.cells #[.int .i64 g.x,.int .i64 g.y,.int .i64 g.d,.int .i64 g.e] 78)
 have hB2:=hbw.alloc hbw.size (.cells #[.int .i64 g.x,.int .i64 g.y,.int .i64 g.d,.int .i64 g.e] 78);have hs2:(w1.alloc (.cells #[.int .i64 g.x,.int .i64 g.y,.int .i64 g.d,.int .i64 g.e] 78)).heap.size=w1.heap.size+1:=by simp
 generalize w1.alloc (.cells #[.int .i64 g.x,.int .i64 g.y,.int .i64 g.d,.int .i64 g.e] 78)=w3 at *;generalize w1.heap.size=Bg at *;clear hb1 hO hT1 hT2 hO1 hbw HB1 HO HW HTA HTB hc;have hq0:0≤a.c*b.c:=Int.mul_nonneg k1.1 k2.1
 have hq1:a.c*b.c≤10000:=by have:=Int.mul_le_mul k1.2 k2.2 k2.1 (by omega);omega
 go_loopw [6,9] (fun v ii wr=>∃i:Nat,i≤eU a b+1∧ii= .int .i64 (i:Int)∧wr.ownsRow w.heap.size 80 5 v (cE (dU a b i) []).length (aF (cE (dU a b i) []))∧Below w.heap.size w wr∧bB wr w.heap.size a∧bB wr (w.heap.size+1) b∧IE wr Bg g) (fun _ ii _=>eU a b+1-(intOf ii).toNat);case atStart=>exact⟨0,gC _,rfl,hO2,hB2,hT1',hT2',hG⟩
 case round=>
  obtain⟨i,hi,rfl,hown,hbl,hTa,hTb,hGg⟩:=hrel;obtain⟨a0,a1,a2,a3,a4⟩:=hTa.cells;obtain⟨b0,b1,b2,b3,b4⟩:=hTb.cells;obtain⟨g0,g1,g2,g3⟩:=hGg.cells;by_cases hlt:i≤eU a b
  ·have i1:(i:Int)≤a.m.d:=by omega
   have i2:(i:Int)≤b.m.x:=by omega
   have HOWN:=aA hown;have HBL:=aA hbl
   have HTA2:=aA hTa;have HTB2:=aA hTb
   have HGG:=aA hGg;clear hown hbl hTa hTb hGg;go_wp2;clear a0 a1 a2 a3 a4 b0 b1 b2 b3 b4 g0 g1 g2 g3;go_loopw [6,10] (fun v kk wr=>∃k:Nat,k≤fS a b+1∧kk= .int .i64 (k:Int)∧wr.ownsRow w.heap.size 80 5 v (cE (dU a b i++iX a b i k) []).length (aF (cE (dU a b i++iX a b i k) []))∧Below w.heap.size w wr∧bB wr w.heap.size a∧bB wr (w.heap.size+1) b∧IE wr Bg g) (fun _ kk _=>fS a b+1-(intOf kk).toNat);case atStart=>exact⟨0,gC _,rfl,by have e0:dU a b i++iX a b i 0=dU a b i:=List.append_nil _;rw[e0];exact HOWN.out,HBL.out,HTA2.out,HTB2.out,HGG.out⟩
   case round=>
    obtain⟨k,hk,rfl,hown,hbl,hTa,hTb,hGg⟩:=hrel;obtain⟨a0,a1,a2,a3,a4⟩:=hTa.cells;obtain⟨b0,b1,b2,b3,b4⟩:=hTb.cells;obtain⟨g0,g1,g2,g3⟩:=hGg.cells;have HOK:=aA hown
    have HBK:=aA hbl;have HTAk:=aA hTa
    have HTBk:=aA hTb;have HGGk:=aA hGg
    clear hown hbl hTa hTb hGg;by_cases hlt2:k≤fS a b
    ·have j1:(k:Int)≤a.m.e:=by omega
     have j2:(k:Int)≤b.m.y:=by omega
     have p1:=kN (dA a.m.d i) (cR b.m.x i);have p2:=kN (dA a.m.e k) (cR b.m.y k)
     change 0≤wy a.m.d b.m.x i∧wy a.m.d b.m.x i≤100 at p1;change 0≤wy a.m.e b.m.y k∧wy a.m.e b.m.y k≤100 at p2;have q0:0≤a.c*b.c%101∧a.c*b.c%101≤100:=by omega
     have q1:0≤a.c*b.c%101*wy a.m.d b.m.x i:=Int.mul_nonneg q0.1 p1.1;have q2:a.c*b.c%101*wy a.m.d b.m.x i≤10000:=by have:=Int.mul_le_mul q0.2 p1.2 p1.1 (by omega);omega
     have q3:0≤a.c*b.c%101*wy a.m.d b.m.x i%101∧a.c*b.c%101*wy a.m.d b.m.x i%101≤100:=by omega
     have q4:0≤a.c*b.c%101*wy a.m.d b.m.x i%101*wy a.m.e b.m.y k:=Int.mul_nonneg q3.1 p2.1;have q5:a.c*b.c%101*wy a.m.d b.m.x i%101*wy a.m.e b.m.y k≤10000:=by have:=Int.mul_le_mul q3.2 p2.2 p2.1 (by omega);omega
     have hTN:qQ a b i k=⟨a.c*b.c%101*wy a.m.d b.m.x i%101*wy a.m.e b.m.y k%101,⟨g.x-i,g.y-k,g.d-i,g.e-k⟩⟩:=by unfold qQ;rw[H.out.gx,H.out.gy,H.out.gd,H.out.ge]
     have htok:IG (dU a b i++iX a b i k):=by
      have hall:=oA H.out;intro t ht;refine hall t ?_;unfold dU;rcases List.mem_append.1 ht with h1|h1
      ·unfold dU at h1;obtain⟨i',hi',h2⟩:=List.mem_flatMap.1 h1;exact List.mem_flatMap.2 ⟨i',List.mem_range.2 (by have:=List.mem_range.1 hi';omega),h2⟩
      ·refine List.mem_flatMap.2 ⟨i,List.mem_range.2 (by omega),?_⟩;unfold iX at h1⊢;obtain⟨k',hk',h2⟩:=List.mem_map.1 h1;exact List.mem_map.2 ⟨k',List.mem_range.2 (by have:=List.mem_range.1 hk';omega),h2⟩
     have hfl:=(dN _ [] htok cL).1;have hlen:(cE (dU a b i++iX a b i k) []).length≤1000:=by
      have h1:=kS (dU a b i++iX a b i k) [];have h2:(iX a b i k).length=k:=by simp[iX]
      rw[List.length_append,pW,h2]at h1;have h3:i*(fS a b+1)≤15*16:=Nat.mul_le_mul (by omega) (by omega)
      simp at h1;omega
     have hnx:cE (dU a b i++iX a b i (k+1)) []=fU (a.c*b.c%101*wy a.m.d b.m.x i%101*wy a.m.e b.m.y k%101) ⟨g.x-i,g.y-k,g.d-i,g.e-k⟩ (cE (dU a b i++iX a b i k) []):=by rw[yH,←List.append_assoc,rP,hTN]
     have HNX:=aA hnx;have HFL:=aA hfl
     have HLE:=aA hlen;clear hTN htok hfl hlen hnx
     go_wp2_with (first
      |(go_at_call 165;refine(IX _ _ _ _).mono ?_;rintro e w' ⟨rfl,hw'⟩;obtain rfl:=hw'.symm;clear hw')
      |(go_at_call 103;refine(rG _ w.heap.size _ _ _ _ _ _ _ HOK.out HBK.out.size HLE.out (dE HFL.out) (by omega) (by omega)).mono ?_;rintro e w5 ⟨v5,rfl,hb5,ho5⟩;have HB5:=aA hb5;have HO5:=aA ho5;clear hb5 ho5))
     go_roundw;case rel=>exact⟨k+1,by omega,by go_num,by rw[HNX.out];exact HO5.out,HBK.out.trans (HB5.out.mono HBK.out.size),(HB5.out.block _ (Array.getElem?_eq_some_iff.1 HTAk.out).1).trans HTAk.out,(HB5.out.block _ (Array.getElem?_eq_some_iff.1 HTBk.out).1).trans HTBk.out,(HB5.out.block _ (Array.getElem?_eq_some_iff.1 HGGk.out).1).trans HGGk.out⟩
     case measure=>simp[intOf];omega
    ·have hkl:k=fS a b+1:=by omega
     subst hkl;have hoe:=HOK.out
     rw[←nZ]at hoe;have HOE:=aA hoe
     clear hoe;by_cases hd:((fS a b+1:Nat):Int)≤a.m.e
     ·have hx:¬((fS a b+1:Nat):Int)≤b.m.y:=by omega
      go_wp2;go_roundw;case rel=>exact⟨i+1,by omega,by go_num,HOE.out,HBK.out,HTAk.out,HTBk.out,HGGk.out⟩
      case measure=>simp[intOf];omega
     ·go_wp2;go_roundw;case rel=>exact⟨i+1,by omega,by go_num,HOE.out,HBK.out,HTAk.out,HTBk.out,HGGk.out⟩
      case measure=>simp[intOf];omega
  ·have hil:i=eU a b+1:=by omega
   subst hil;by_cases hd:((eU a b+1:Nat):Int)≤a.m.d
   ·have hx:¬((eU a b+1:Nat):Int)≤b.m.x:=by omega
    go_wp2;refine bT (results_tmp2 rfl _ _ _) rfl ?_;exact⟨_,rfl,hbl,hown⟩
   ·go_wp2;refine bT (results_tmp2 rfl _ _ _) rfl ?_;exact⟨_,rfl,hbl,hown⟩
def iF (a b:T):List T:=if(a.m.sum b.m).ok=true then aY a b else[]
theorem FB (w:World) (a b:T) (h1:a.m.ok=true∧0≤a.c∧a.c≤100) (h2:b.m.ok=true∧0≤b.c∧b.c≤100):Calls Tryz.prog 138 #[.agg #[.int .i64 a.c,.int .i64 a.m.x,.int .i64 a.m.y,.int .i64 a.m.d,.int .i64 a.m.e],.agg #[.int .i64 b.c,.int .i64 b.m.x,.int .i64 b.m.y,.int .i64 b.m.d,.int .i64 b.m.e]] w fun e w'=>∃v,e= .returned (.tuple #[v,.bool (a.m.sum b.m).ok])∧Below w.heap.size w w'∧w'.ownsRow w.heap.size 80 5 v (iF a b).length (aF (iF a b)):=by
 cases hok:(a.m.sum b.m).ok
 ·have e:iF a b=[]:=by simp[iF,hok]
  rw[e];exact GM w a b hok
 ·have e:iF a b=aY a b:=by simp[iF,hok]
  rw[e];exact DW w a b ⟨h1.1,h2.1,hok,rfl,rfl,rfl,rfl,h1.2,h2.2⟩
theorem tT {a b:T} (h:jH a b (a.m.sum b.m)):(aY a b).length≤1000:=by
 have h1:=kS (dU a b (eU a b+1)) [];have m1:=M.ok_iff.1 h.ok1
 have lx:=h.lx;have ly:=h.ly
 rw[pW]at h1;have h3:(eU a b+1)*(fS a b+1)≤16*16:=Nat.mul_le_mul (by omega) (by omega)
 unfold aY;simp at h1;omega
theorem nC {a b:T} (h1:a.m.ok=true∧0≤a.c∧a.c≤100) (h2:b.m.ok=true∧0≤b.c∧b.c≤100):(iF a b).length≤1000:=by
 unfold iF;split
 ·rename_i hok;exact tT ⟨h1.1,h2.1,hok,rfl,rfl,rfl,rfl,h1.2,h2.2⟩
 ·simp
theorem AR (w:World) (a b:Option Addr) (la ca lb cb:Nat) (f g:Nat→T) (ha:Rd w a la ca f) (hb:Rd w b lb cb g) (l1:la≤400) (l2:lb≤400) (gf:pA f la) (gg:pA g lb):Calls Tryz.prog 98 #[.slice a la ca,.slice b lb cb] w fun r w'=>∃v,r= .returned (.tuple #[v,.bool (eH (dD f g lb la)).2])∧Below w.heap.size w w'∧w'.ownsRow w.heap.size 80 5 v (eH (dD f g lb la)).1.length (aF (eH (dD f g lb la)).1):=by
 have HA:=aA ha;have HB:=aA hb
 have HGF:=aA gf;have HGG:=aA gg
 have hO0:=aQ w w.heap.size (Nat.le_refl _);have hB0:=aG w (.cells #[] 80)
 clear ha hb gf gg;go_enter Tryz.func98,Tryz.ntmps98;go_wp2;generalize w.alloc (.cells #[] 80)=w0 at *;go_loopw [6,7] (fun v ii wr=>∃(i:Nat) (K:List T),i≤la∧ii= .int .i64 (i:Int)∧dD f g lb i=some K∧aV K∧K.length≤400∧wr.ownsRow w.heap.size 80 5 v K.length (aF K)∧Below w.heap.size w wr) (fun _ ii _=>la-(intOf ii).toNat);case atStart=>exact⟨0,[],gC _,rfl,rfl,cL,gC _,hO0,hB0⟩
 case round=>
  obtain⟨i,K,hi,rfl,hM,hKf,hKl,hown,hbl⟩:=hrel;by_cases hlt:i<la
  ·have hil:(i:Int)<(la:Int):=by omega
   have HM:=aA hM;have HKF:=aA hKf
   have HOWN:=aA hown;have HBL:=aA hbl
   clear hM hKf hown hbl;go_wp2;go_loopw [6,8] (fun v kk wr=>∃(k:Nat) (K':List T),k≤lb∧kk= .int .i64 (k:Int)∧fJ K (f i) g k=some K'∧aV K'∧K'.length≤400∧wr.ownsRow w.heap.size 80 5 v K'.length (aF K')∧Below w.heap.size w wr) (fun _ kk _=>lb-(intOf kk).toNat);case atStart=>exact⟨0,K,gC _,rfl,rfl,HKF.out,hKl,HOWN.out,HBL.out⟩
   case round=>
    obtain⟨k,K',hk,rfl,hM',hKf',hKl',hown',hbl'⟩:=hrel;by_cases hlt2:k<lb
    ·have hkl:(k:Int)<(lb:Int):=by omega
     have hri:=HA.out.below hbl';have hrk:=HB.out.below hbl'
     rcases hri.2.2 with h0|⟨pb,off,hpe,hblt,hcl⟩
     ·omega
     rcases hrk.2.2 with h0|⟨pb2,off2,hpe2,hblt2,hcl2⟩
     ·omega
     obtain⟨g0,g1,g2,g3,g4⟩:=hcl i hlt;obtain⟨j0,j1,j2,j3,j4⟩:=hcl2 k hlt2;have hfi:=HGF.out i hlt
     have hgk:=HGG.out k hlt2;obtain⟨av,cv,hv,hout⟩:=aM hown' (by omega);have HM':=aA hM'
     have HKF':=aA hKf';have HOUT:=aA hout
     have HBL':=aA hbl';clear hM' hKf' hown' hout hcl hcl2 hri hrk hbl';subst hpe hpe2 hv;go_wp2_with fail;have hps:=nC hfi hgk
     have hps2:(iF (f i) (g k)).length*40≤140737488351232:=by omega
     have hbr:=HBL'.out.size
     go_region_with (go_at_call 138;refine(FB _ (f i) (g k) hfi hgk).mono ?_;rintro r w5 ⟨v5,rfl,hb5,ho5⟩;obtain⟨a5,c5,rfl,hout5⟩:=aM ho5 hps2;have HB5:=aA ((aD wr.heap.size wr).drew.trans hb5);have HOUT5:=aA hout5;clear hb5 ho5 hout5)
     all_goals
      have hB5:Below w.heap.size w w5:=HBL'.out.trans (HB5.out.mono HBL'.out.size);by_cases hok:((f i).m.sum (g k).m).ok=true
      ·have hTwo:jH (f i) (g k) ((f i).m.sum (g k).m):=⟨hfi.1,hgk.1,hok,rfl,rfl,rfl,rfl,hfi.2,hgk.2⟩
       have epo:iF (f i) (g k)=aY (f i) (g k):=if_pos hok;have hfp:=(dK hTwo).1
       have hfa:=(eP HKF'.out hfp).1;have hR5:Rd w5 av K'.length cv (lf K'):=HOUT.out.1.below (HB5.out)
       have hX5:=HOUT5.out.1;rw[epo]at hX5 hps;rw[epo,hok];have hadd:=mH w5 av a5 K'.length cv (aY (f i) (g k)).length c5 (lf K') (lf (aY (f i) (g k))) hR5 hX5 (by omega) ((dE HKF'.out).at) ((dE hfp).at)
       have eA:cT (lf K') K'.length (lf (aY (f i) (g k))) (aY (f i) (g k)).length 0 0=dC K' (aY (f i) (g k)):=rfl;rw[eA]at hadd;have hal:(dC K' (aY (f i) (g k))).length≤K'.length+(aY (f i) (g k)).length:=by have:=jK (lf K') K'.length (lf (aY (f i) (g k))) (aY (f i) (g k)).length 0 0;simp only[Nat.sub_zero]at this;exact this
       by_cases h4:(dC K' (aY (f i) (g k))).length≤400
       ·have hstep:fJ K (f i) g (k+1)=some (dC K' (aY (f i) (g k))):=by rw[fJ,HM'.out];show bO _ _ _=_;unfold bO;rw[if_pos ⟨hok,h4⟩]
        have HST:=aA hstep;have h4':((dC K' (aY (f i) (g k))).length:Int)≤400:=by omega
        clear hstep;generalize hL:dC K' (aY (f i) (g k))=L at *;go_wp2_with (go_at_call 97;refine hadd.mono ?_;rintro r w6 ⟨v6,rfl,hb6,ho6⟩;obtain⟨a6,c6,rfl,hout6⟩:=aM ho6 (by omega);have HB6:=aA hb6;have HO6:=aA ho6;clear hb6 ho6 hout6);go_roundw;case rel=>exact⟨k+1,L,by omega,by go_num,HST.out,hfa,h4,dJ HO6.out hB5.size,hB5.trans (HB6.out.mono hB5.size)⟩
        case measure=>simp[intOf];omega
       ·have hstep:fJ K (f i) g (k+1)=none:=by rw[fJ,HM'.out];show bO _ _ _=_;unfold bO;rw[if_neg (fun h=>h4 h.2)]
        have hno:dD f g lb la=none:=jZ (i:=i+1) (by rw[dD,HM.out];exact kD hstep lb (by omega)) la (by omega);have h4':(400:Int)<((dC K' (aY (f i) (g k))).length:Int):=by omega
        clear hstep;generalize hL:dC K' (aY (f i) (g k))=L at *;go_wp2_with (go_at_call 97;refine hadd.mono ?_;rintro r w6 ⟨v6,rfl,hb6,ho6⟩;obtain⟨a6,c6,rfl,hout6⟩:=aM ho6 (by omega);have HB6:=aA hb6;clear hb6 ho6 hout6);refine bT (results_tmp2 rfl _ _ _) rfl ?_;rw[hno];have hB6:Below w.heap.size w w6:=hB5.trans (HB6.out.mono hB5.size)
        exact⟨_,rfl,hB6.alloc hB6.size _,aQ w6 w.heap.size hB6.size⟩
      ·have hstep:fJ K (f i) g (k+1)=none:=by rw[fJ,HM'.out];show bO _ _ _=_;unfold bO;rw[if_neg (fun h=>hok h.1)]
       have hno:dD f g lb la=none:=jZ (i:=i+1) (by rw[dD,HM.out];exact kD hstep lb (by omega)) la (by omega);have hok':((f i).m.sum (g k).m).ok=false:=by simpa using hok
       rw[hok'];clear hstep;go_wp2;refine bT (results_tmp2 rfl _ _ _) rfl ?_;rw[hno];exact⟨_,rfl,hB5.alloc hB5.size _,aQ w5 w.heap.size hB5.size⟩
    ·obtain rfl:k=lb:=by omega
     have HMk:Hid (dD f g k (i+1)=some K'):=by show _=_;rw[dD,HM.out];exact hM'
     go_wp2;go_roundw;case rel=>exact⟨i+1,K',by omega,by go_num,HMk.out,hKf',hKl',hown',hbl'⟩
     case measure=>simp[intOf];omega
  ·obtain rfl:i=la:=by omega
   go_wp2;refine bT (results_tmp2 rfl _ _ _) rfl ?_;rw[hM];exact⟨_,rfl,hbl,hown⟩
theorem ES (w:World) (a b:Option Addr) (la ca lb cb:Nat) (f g:Nat→T) (ha:Rd w a la ca f) (hb:Rd w b lb cb g):Calls Tryz.prog 54 #[.slice a la ca,.slice b lb cb] w fun r w'=>∃v,r= .returned (.tuple #[v,.bool (aX f la g lb).2])∧Below w.heap.size w w'∧w'.ownsRow w.heap.size 80 5 v (aX f la g lb).1.length (aF (aX f la g lb).1):=by
 have HA:=aA ha;have HB:=aA hb
 clear ha hb;cases hpa:aN la f
 ·have e1:aX f la g lb=([],false):=by simp[aX,hpa]
  rw[e1];go_enter Tryz.func54,Tryz.ntmps54;go_wp2_with (go_at_call 74;refine(bD _ _ _ _ f HA.out).mono ?_;rw[hpa];rintro r w1 ⟨rfl,hb1⟩;have HB1:=aA hb1;clear hb1);refine bT (results_tmp2 rfl _ _ _) rfl ?_;exact⟨_,rfl,HB1.out.alloc HB1.out.size _,aQ w1 w.heap.size HB1.out.size⟩
 ·cases hpb:aN lb g
  ·have e1:aX f la g lb=([],false):=by simp[aX,hpb]
   rw[e1];go_enter Tryz.func54,Tryz.ntmps54
   go_wp2_with (first
    |(go_at_call_of 74 (Value.slice a la ca);refine(bD _ _ _ _ f HA.out).mono ?_;rw[hpa];rintro r w1 ⟨rfl,hb1⟩;have HB1:=aA hb1;clear hb1)
    |(go_at_call_of 74 (Value.slice b lb cb);refine(bD _ _ _ _ g (HB.out.below HB1.out)).mono ?_;rw[hpb];rintro r w2 ⟨rfl,hb2⟩;have HB2:=aA (aC HB1.out hb2);clear hb2))
   refine bT (results_tmp2 rfl _ _ _) rfl ?_;exact⟨_,rfl,HB2.out.alloc HB2.out.size _,aQ w2 w.heap.size HB2.out.size⟩
  ·have e2:aX f la g lb=eH (dD f g lb la):=by simp[aX,hpa,hpb]
   rw[e2];obtain⟨l1,g1⟩:=fN hpa;obtain⟨l2,g2⟩:=fN hpb;go_enter Tryz.func54,Tryz.ntmps54
   go_wp2_with (first
    |(go_at_call_of 74 (Value.slice a la ca);refine(bD _ _ _ _ f HA.out).mono ?_;rw[hpa];rintro r w1 ⟨rfl,hb1⟩;have HB1:=aA hb1;clear hb1)
    |(go_at_call_of 74 (Value.slice b lb cb);refine(bD _ _ _ _ g (HB.out.below HB1.out)).mono ?_;rw[hpb];rintro r w2 ⟨rfl,hb2⟩;have HB2:=aA (aC HB1.out hb2);clear hb2)
    |(go_at_call 98;refine(AR _ _ _ _ _ _ _ f g (HA.out.below HB2.out) (HB.out.below HB2.out) l1 l2 g1 g2).mono ?_;rintro r w3 ⟨v,rfl,hb3,ho3⟩))
   refine bT (results_tmp2 rfl _ _ _) rfl ?_;exact⟨v,rfl,aC HB2.out hb3,dJ ho3 HB2.out.size⟩
theorem CD {a b:T} (h1:a.m.ok=true∧0≤a.c∧a.c≤100) (h2:b.m.ok=true∧0≤b.c∧b.c≤100) (hok:(a.m.sum b.m).ok=true):jH a b (a.m.sum b.m):=⟨h1.1,h2.1,hok,rfl,rfl,rfl,rfl,h1.2,h2.2⟩
theorem oU {K:List T} {a:T} {g:Nat→T} {lb:Nat} (hK:aV K) (ha:a.m.ok=true∧0≤a.c∧a.c≤100) (hg:pA g lb):∀k K',k≤lb→fJ K a g k=some K'→aV K'
 |0,K',_,h=>by cases h;exact hK
 |k+1,K',hk,h=>by
  rw[fJ]at h;cases hr:fJ K a g k with
  |none=>rw[hr]at h;cases h
  |some K1=>
   rw[hr]at h;change bO K1 a (g k)=some K' at h;unfold bO at h;split at h
   ·rename_i hh;cases h;exact(eP (oU hK ha hg k K1 (by omega) hr) (dK (CD ha (hg k (by omega)) hh.1)).1).1
   ·cases h
theorem gT {f g:Nat→T} {la lb:Nat} (hf:pA f la) (hg:pA g lb):∀i K,i≤la→dD f g lb i=some K→aV K
 |0,K,_,h=>by cases h;exact cL
 |i+1,K,hi,h=>by
  rw[dD]at h;cases hr:dD f g lb i with
  |none=>rw[hr]at h;cases h
  |some K1=>
   rw[hr]at h;exact oU (gT hf hg i K1 (by omega) hr) (hf i (by omega)) hg lb K (Nat.le_refl _) h
theorem tQ {L:List T} (h:aV L) (hl:L.length≤400):aN L.length (lf L)=true:=by
 have F:=tE h;simp only[aN,decide_eq_true_eq];refine⟨hl,fun i hi=>?_⟩;have h1:=F.2 i hi
 simp only[eW,Bool.and_eq_true,Bool.or_eq_true,decide_eq_true_eq];refine⟨⟨h1.2,h1.1⟩,?_⟩;by_cases h0:i=0
 ·exact .inl h0
 ·refine .inr ((kC (F.2 (i-1) (by omega)).1 h1.1).2 (F.1 (i-1) i (by omega) hi))
end Go.Proofs.YtoglomfejgpoeaaGreatDoor
