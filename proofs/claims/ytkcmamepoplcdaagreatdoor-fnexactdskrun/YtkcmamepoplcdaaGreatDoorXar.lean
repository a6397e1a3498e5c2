/-
  The product of two operators: the model.
-/
import Derived.Test.YtkcmamepoplcdaaGreatDoorXaq
set_option maxHeartbeats 8000000
set_option maxRecDepth 100000
namespace Go.Proofs.YtkcmamepoplcdaaGreatDoor
open Go.RowKit
set_option linter.unusedVariables false
theorem sJ (n k:Int):0≤dC n k∧dC n k≤100:=by unfold dC;split<;>omega
theorem GB (n:Int):∀k:Nat,0≤fl n k∧fl n k≤100
 |0=>by unfold fl;omega
 |k+1=>by unfold fl;omega
theorem xT (n k:Int):0≤cU n k∧cU n k≤100:=by
 unfold cU;split
 ·exact GB _ _
 ·omega
theorem RQ (s t k:Int) (w:World):Calls Tryz.prog 164 #[.int .i64 s,.int .i64 t,.int .i64 k] w fun e w'=>e= .returned (.int .i64 (wy s t k))∧w'=w:=by
 have h1:=sJ s k;have h2:=xT t k
 have hm:wy s t k=dC s k*cU t k%101:=fI h1.1 h1.2 h2.1 h2.2
 have hb:0≤dC s k*cU t k∧dC s k*cU t k≤10000:=⟨Int.mul_nonneg h1.1 h2.1,by
  have:=Int.mul_le_mul h1.2 h2.2 h2.1 (by omega);omega⟩
 rw[hm];have hc:=KX s k
 have hf:=BD t k;generalize dC s k=p at *;generalize cU t k=q at *;generalize hpq:p*q=r at *;clear hm;go_enter Tryz.func164,Tryz.ntmps164
 go_wp2_with (first
  |(go_at_call 186;refine(hc _).mono ?_;rintro e w' ⟨rfl,hw'⟩;obtain rfl:=hw'.symm;clear hw')
  |(go_at_call 104;refine(hf _).mono ?_;rintro e w' ⟨rfl,hw'⟩;obtain rfl:=hw'.symm;clear hw'))
 go_ret;exact⟨rfl,rfl⟩
theorem vY (xs:List T) (t:T) (L:List T):cA (xs++[t]) L=iY t.c t.m (cA xs L):=by simp[cA]
theorem mR:∀(xs L:List T),(cA xs L).length≤L.length+xs.length
 |[],L=>Nat.le_refl _
 |t::r,L=>by
  have h1:=mR r (iY t.c t.m L);have h2:=IV t.c t.m L
  show(cA r (iY t.c t.m L)).length≤_;rw[List.length_cons];omega
theorem tQ (a b:T) (i:Nat):(eE a b i).length=i*(gW a b+1):=by unfold eE;rw[jO (gW a b+1) _ (fun i=>by simp[kN])];simp
def QN (W:World) (Bx:Nat) (m:M):Prop:=W.heap[Bx]? =some (.cells #[.int .i64 m.x,.int .i64 m.y,.int .i64 m.d,.int .i64 m.e] 77 (0,0))
theorem QN.cells {W:World} {Bx:Nat} {m:M} (h:QN W Bx m):W.cell? ⟨Bx,0,none⟩=some (.int .i64 m.x)∧W.cell? ⟨Bx,1,none⟩=some (.int .i64 m.y)∧W.cell? ⟨Bx,2,none⟩=some (.int .i64 m.d)∧W.cell? ⟨Bx,3,none⟩=some (.int .i64 m.e):=by unfold QN at h;refine⟨?_,?_,?_,?_⟩<;>(unfold World.cell?;simp only[h];rfl)
theorem PP (w:World) (a b:T) (h3:(a.m.sum b.m).ok=false):Calls Tryz.prog 137 #[.agg #[.int .i64 a.c,.int .i64 a.m.x,.int .i64 a.m.y,.int .i64 a.m.d,.int .i64 a.m.e],.agg #[.int .i64 b.c,.int .i64 b.m.x,.int .i64 b.m.y,.int .i64 b.m.d,.int .i64 b.m.e]] w fun e w'=>∃v,e= .returned (.tuple #[v,.bool false])∧Below w.heap.size w w'∧w'.ownsRow w.heap.size 79 5 v 0 (aG []):=by
 have hm:M.mul a.m b.m=(M.zero,false):=by simp[M.mul,h3]
 have hc:=BU a.m.x a.m.y a.m.d a.m.e b.m.x b.m.y b.m.d b.m.e;have ea:(⟨a.m.x,a.m.y,a.m.d,a.m.e⟩:M)=a.m:=rfl
 have eb:(⟨b.m.x,b.m.y,b.m.d,b.m.e⟩:M)=b.m:=rfl;rw[ea,eb,hm]at hc;have HO:=aA (aQ ((w.alloc (.cells #[.int .i64 a.c,.int .i64 a.m.x,.int .i64 a.m.y,.int .i64 a.m.d,.int .i64 a.m.e] 79)).alloc (.cells #[.int .i64 b.c,.int .i64 b.m.x,.int .i64 b.m.y,.int .i64 b.m.d,.int .i64 b.m.e] 79)) w.heap.size (by simp;omega))
 have HW:=aA ((((aD w.heap.size w).alloc (Nat.le_refl _) (.cells #[.int .i64 a.c,.int .i64 a.m.x,.int .i64 a.m.y,.int .i64 a.m.d,.int .i64 a.m.e] 79)).alloc (by simp) (.cells #[.int .i64 b.c,.int .i64 b.m.x,.int .i64 b.m.y,.int .i64 b.m.d,.int .i64 b.m.e] 79)).alloc (by simp;omega) (.cells #[] 79));go_enter Tryz.func137,Tryz.ntmps137;go_wp2_with (go_at_call 163;refine(hc _).mono ?_;rintro e w1 ⟨rfl,hb1⟩);refine bC (results_tmp2 rfl _ _ _) rfl ?_;have hO:=HO.out
 simp only[World.size_alloc]at hO;have hb2:=(HW.out.trans (hb1.mono (by simp;omega)))
 exact⟨_,rfl,hb2.alloc hb2.size _,aK hO (hb1.alloc (jW (Nat.le_refl _) hb1.size) _)⟩
theorem MF (w:World) (a b:T) (h:kZ a b (a.m.sum b.m)):Calls Tryz.prog 137 #[.agg #[.int .i64 a.c,.int .i64 a.m.x,.int .i64 a.m.y,.int .i64 a.m.d,.int .i64 a.m.e],.agg #[.int .i64 b.c,.int .i64 b.m.x,.int .i64 b.m.y,.int .i64 b.m.d,.int .i64 b.m.e]] w fun e w'=>∃v,e= .returned (.tuple #[v,.bool true])∧Below w.heap.size w w'∧w'.ownsRow w.heap.size 79 5 v (aU a b).length (aG (aU a b)):=by
 have hm:M.mul a.m b.m=(a.m.sum b.m,true):=by simp[M.mul,h.ok1,h.ok2,h.ok3]
 have hc:=BU a.m.x a.m.y a.m.d a.m.e b.m.x b.m.y b.m.d b.m.e;have ea:(⟨a.m.x,a.m.y,a.m.d,a.m.e⟩:M)=a.m:=rfl
 have eb:(⟨b.m.x,b.m.y,b.m.d,b.m.e⟩:M)=b.m:=rfl;rw[ea,eb,hm]at hc;have m1:=M.ok_iff.1 h.ok1
 have m2:=M.ok_iff.1 h.ok2;have m3:=M.ok_iff.1 h.ok3
 have lx:=h.lx;have ly:=h.ly
 have k1:=h.c1;have k2:=h.c2
 have H:=aA h;have HO:=aA (aQ ((w.alloc (.cells #[.int .i64 a.c,.int .i64 a.m.x,.int .i64 a.m.y,.int .i64 a.m.d,.int .i64 a.m.e] 79)).alloc (.cells #[.int .i64 b.c,.int .i64 b.m.x,.int .i64 b.m.y,.int .i64 b.m.d,.int .i64 b.m.e] 79)) w.heap.size (by simp;omega))
 have HW:=aA ((((aD w.heap.size w).alloc (Nat.le_refl _) (.cells #[.int .i64 a.c,.int .i64 a.m.x,.int .i64 a.m.y,.int .i64 a.m.d,.int .i64 a.m.e] 79)).alloc (by simp) (.cells #[.int .i64 b.c,.int .i64 b.m.x,.int .i64 b.m.y,.int .i64 b.m.d,.int .i64 b.m.e] 79)).alloc (by simp;omega) (.cells #[] 79));have HTA:Hid (aZ (((w.alloc (.cells #[.int .i64 a.c,.int .i64 a.m.x,.int .i64 a.m.y,.int .i64 a.m.d,.int .i64 a.m.e] 79)).alloc (.cells #[.int .i64 b.c,.int .i64 b.m.x,.int .i64 b.m.y,.int .i64 b.m.d,.int .i64 b.m.e] 79)).alloc (.cells #[] 79)) w.heap.size a):=(Below.heap_alloc _ _ _ (by simp;omega)).trans ((Below.heap_alloc _ _ _ (by simp)).trans (World.alloc_heap_new w _))
 have HTB:Hid (aZ (((w.alloc (.cells #[.int .i64 a.c,.int .i64 a.m.x,.int .i64 a.m.y,.int .i64 a.m.d,.int .i64 a.m.e] 79)).alloc (.cells #[.int .i64 b.c,.int .i64 b.m.x,.int .i64 b.m.y,.int .i64 b.m.d,.int .i64 b.m.e] 79)).alloc (.cells #[] 79)) (w.heap.size+1) b):=by have:=World.alloc_heap_new (w.alloc (.cells #[.int .i64 a.c,.int .i64 a.m.x,.int .i64 a.m.y,.int .i64 a.m.d,.int .i64 a.m.e] 79)) (.cells #[.int .i64 b.c,.int .i64 b.m.x,.int .i64 b.m.y,.int .i64 b.m.d,.int .i64 b.m.e] 79);rw[World.size_alloc]at this;exact(Below.heap_alloc _ _ _ (by simp)).trans this
 clear h;generalize a.m.sum b.m=g at *;go_enter Tryz.func137,Tryz.ntmps137;go_wp2_with (go_at_call 163;refine(hc _).mono ?_;rintro e w1 ⟨rfl,hb1⟩;have HB1:=aA hb1;clear hb1);have hb1:=HB1.out
 have hO:=HO.out;simp only[World.size_alloc]at hO;have hbw:Below w.heap.size w w1:=HW.out.trans (hb1.mono (by simp;omega))
 have hs1:=hb1.size;simp only[World.size_alloc]at hs1;have hT1:aZ w1 w.heap.size a:=(hb1.block _ (by simp;omega)).trans HTA.out
 have hT2:aZ w1 (w.heap.size+1) b:=(hb1.block _ (by simp)).trans HTB.out;have hO1:=aK hO hb1
 have hG:QN (w1.alloc (.cells #[.int .i64 g.x,.int .i64 g.y,.int .i64 g.d,.int .i64 g.e] 77)) w1.heap.size g:=World.alloc_heap_new w1 _;have hT1':aZ (w1.alloc (.cells #[.int .i64 g.x,.int .i64 g.y,.int .i64 g.d,.int .i64 g.e] 77)) w.heap.size a:=(Below.heap_alloc _ _ _ (by omega)).trans hT1
 have hT2':aZ (w1.alloc (.cells #[.int .i64 g.x,.int .i64 g.y,.int .i64 g.d,.int .i64 g.e] 77)) (w.heap.size+1) b:=(Below.heap_alloc _ _ _ (by omega)).trans hT2;have hO2:=hO1.alloc (.cells #[.int .i64 g.x,.int .i64 g.y,.int .i64 g.d,.int .i64 g.e] 77)
 have hB2:=hbw.alloc hbw.size (.cells #[.int .i64 g.x,.int .i64 g.y,.int .i64 g.d,.int .i64 g.e] 77);have hs2:(w1.alloc (.cells #[.int .i64 g.x,.int .i64 g.y,.int .i64 g.d,.int .i64 g.e] 77)).heap.size=w1.heap.size+1:=by simp
 generalize w1.alloc (.cells #[.int .i64 g.x,.int .i64 g.y,.int .i64 g.d,.int .i64 g.e] 77)=w3 at *;generalize w1.heap.size=Bg at *;clear hb1 hO hT1 hT2 hO1 hbw HB1 HO HW HTA HTB hc;have hq0:0≤a.c*b.c:=Int.mul_nonneg k1.1 k2.1
 have hq1:a.c*b.c≤10000:=by have:=Int.mul_le_mul k1.2 k2.2 k2.1 (by omega);omega
 go_loopw [6,9] (fun v ii wr=>∃i:Nat,i≤fR a b+1∧ii= .int .i64 (i:Int)∧wr.ownsRow w.heap.size 79 5 v (cA (eE a b i) []).length (aG (cA (eE a b i) []))∧Below w.heap.size w wr∧aZ wr w.heap.size a∧aZ wr (w.heap.size+1) b∧QN wr Bg g) (fun _ ii _=>fR a b+1-(intOf ii).toNat);case atStart=>exact⟨0,gO _,rfl,hO2,hB2,hT1',hT2',hG⟩
 case round=>
  obtain⟨i,hi,rfl,hown,hbl,hTa,hTb,hGg⟩:=hrel;obtain⟨a0,a1,a2,a3,a4⟩:=hTa.cells;obtain⟨b0,b1,b2,b3,b4⟩:=hTb.cells;obtain⟨g0,g1,g2,g3⟩:=hGg.cells;by_cases hlt:i≤fR a b
  ·have i1:(i:Int)≤a.m.d:=by omega
   have i2:(i:Int)≤b.m.x:=by omega
   have HOWN:=aA hown;have HBL:=aA hbl
   have HTA2:=aA hTa;have HTB2:=aA hTb
   have HGG:=aA hGg;clear hown hbl hTa hTb hGg;go_wp2;clear a0 a1 a2 a3 a4 b0 b1 b2 b3 b4 g0 g1 g2 g3;go_loopw [6,10] (fun v kk wr=>∃k:Nat,k≤gW a b+1∧kk= .int .i64 (k:Int)∧wr.ownsRow w.heap.size 79 5 v (cA (eE a b i++kN a b i k) []).length (aG (cA (eE a b i++kN a b i k) []))∧Below w.heap.size w wr∧aZ wr w.heap.size a∧aZ wr (w.heap.size+1) b∧QN wr Bg g) (fun _ kk _=>gW a b+1-(intOf kk).toNat);case atStart=>exact⟨0,gO _,rfl,by have e0:eE a b i++kN a b i 0=eE a b i:=List.append_nil _;rw[e0];exact HOWN.out,HBL.out,HTA2.out,HTB2.out,HGG.out⟩
   case round=>
    obtain⟨k,hk,rfl,hown,hbl,hTa,hTb,hGg⟩:=hrel;obtain⟨a0,a1,a2,a3,a4⟩:=hTa.cells;obtain⟨b0,b1,b2,b3,b4⟩:=hTb.cells;obtain⟨g0,g1,g2,g3⟩:=hGg.cells;have HOK:=aA hown
    have HBK:=aA hbl;have HTAk:=aA hTa
    have HTBk:=aA hTb;have HGGk:=aA hGg
    clear hown hbl hTa hTb hGg;by_cases hlt2:k≤gW a b
    ·have j1:(k:Int)≤a.m.e:=by omega
     have j2:(k:Int)≤b.m.y:=by omega
     have p1:=mL (dC a.m.d i) (cU b.m.x i);have p2:=mL (dC a.m.e k) (cU b.m.y k)
     change 0≤wy a.m.d b.m.x i∧wy a.m.d b.m.x i≤100 at p1;change 0≤wy a.m.e b.m.y k∧wy a.m.e b.m.y k≤100 at p2;have q0:0≤a.c*b.c%101∧a.c*b.c%101≤100:=by omega
     have q1:0≤a.c*b.c%101*wy a.m.d b.m.x i:=Int.mul_nonneg q0.1 p1.1;have q2:a.c*b.c%101*wy a.m.d b.m.x i≤10000:=by have:=Int.mul_le_mul q0.2 p1.2 p1.1 (by omega);omega
     have q3:0≤a.c*b.c%101*wy a.m.d b.m.x i%101∧a.c*b.c%101*wy a.m.d b.m.x i%101≤100:=by omega
     have q4:0≤a.c*b.c%101*wy a.m.d b.m.x i%101*wy a.m.e b.m.y k:=Int.mul_nonneg q3.1 p2.1;have q5:a.c*b.c%101*wy a.m.d b.m.x i%101*wy a.m.e b.m.y k≤10000:=by have:=Int.mul_le_mul q3.2 p2.2 p2.1 (by omega);omega
     have hTN:uO a b i k=⟨a.c*b.c%101*wy a.m.d b.m.x i%101*wy a.m.e b.m.y k%101,⟨g.x-i,g.y-k,g.d-i,g.e-k⟩⟩:=by unfold uO;rw[H.out.gx,H.out.gy,H.out.gd,H.out.ge]
     have htok:QU (eE a b i++kN a b i k):=by
      have hall:=qV H.out;intro t ht;refine hall t ?_;unfold eE;rcases List.mem_append.1 ht with h1|h1
      ·unfold eE at h1;obtain⟨i',hi',h2⟩:=List.mem_flatMap.1 h1;exact List.mem_flatMap.2 ⟨i',List.mem_range.2 (by have:=List.mem_range.1 hi';omega),h2⟩
      ·refine List.mem_flatMap.2 ⟨i,List.mem_range.2 (by omega),?_⟩;unfold kN at h1⊢;obtain⟨k',hk',h2⟩:=List.mem_map.1 h1;exact List.mem_map.2 ⟨k',List.mem_range.2 (by have:=List.mem_range.1 hk';omega),h2⟩
     have hfl:=(eR _ [] htok dN).1;have hlen:(cA (eE a b i++kN a b i k) []).length≤1000:=by
      have h1:=mR (eE a b i++kN a b i k) [];have h2:(kN a b i k).length=k:=by simp[kN]
      rw[List.length_append,tQ,h2]at h1;have h3:i*(gW a b+1)≤15*16:=Nat.mul_le_mul (by omega) (by omega)
      simp at h1;omega
     have hnx:cA (eE a b i++kN a b i (k+1)) []=iY (a.c*b.c%101*wy a.m.d b.m.x i%101*wy a.m.e b.m.y k%101) ⟨g.x-i,g.y-k,g.d-i,g.e-k⟩ (cA (eE a b i++kN a b i k) []):=by rw[DY,←List.append_assoc,vY,hTN]
     have HNX:=aA hnx;have HFL:=aA hfl
     have HLE:=aA hlen;clear hTN htok hfl hlen hnx
     go_wp2_with (first
      |(go_at_call 164;refine(RQ _ _ _ _).mono ?_;rintro e w' ⟨rfl,hw'⟩;obtain rfl:=hw'.symm;clear hw')
      |(go_at_call 105;refine(zU _ w.heap.size _ _ _ _ _ _ _ HOK.out HBK.out.size HLE.out (dJ HFL.out) (by omega) (by omega)).mono ?_;rintro e w5 ⟨v5,rfl,hb5,ho5⟩;have HB5:=aA hb5;have HO5:=aA ho5;clear hb5 ho5))
     go_roundw;case rel=>exact⟨k+1,by omega,by go_num,by rw[HNX.out];exact HO5.out,HBK.out.trans (HB5.out.mono HBK.out.size),(HB5.out.block _ (Array.getElem?_eq_some_iff.1 HTAk.out).1).trans HTAk.out,(HB5.out.block _ (Array.getElem?_eq_some_iff.1 HTBk.out).1).trans HTBk.out,(HB5.out.block _ (Array.getElem?_eq_some_iff.1 HGGk.out).1).trans HGGk.out⟩
     case measure=>simp[intOf];omega
    ·have hkl:k=gW a b+1:=by omega
     subst hkl;have hoe:=HOK.out
     rw[←qU]at hoe;have HOE:=aA hoe
     clear hoe;by_cases hd:((gW a b+1:Nat):Int)≤a.m.e
     ·have hx:¬((gW a b+1:Nat):Int)≤b.m.y:=by omega
      go_wp2;go_roundw;case rel=>exact⟨i+1,by omega,by go_num,HOE.out,HBK.out,HTAk.out,HTBk.out,HGGk.out⟩
      case measure=>simp[intOf];omega
     ·go_wp2;go_roundw;case rel=>exact⟨i+1,by omega,by go_num,HOE.out,HBK.out,HTAk.out,HTBk.out,HGGk.out⟩
      case measure=>simp[intOf];omega
  ·have hil:i=fR a b+1:=by omega
   subst hil;by_cases hd:((fR a b+1:Nat):Int)≤a.m.d
   ·have hx:¬((fR a b+1:Nat):Int)≤b.m.x:=by omega
    go_wp2;refine bC (results_tmp2 rfl _ _ _) rfl ?_;exact⟨_,rfl,hbl,hown⟩
   ·go_wp2;refine bC (results_tmp2 rfl _ _ _) rfl ?_;exact⟨_,rfl,hbl,hown⟩
def jS (a b:T):List T:=if(a.m.sum b.m).ok=true then aU a b else[]
theorem NZ (w:World) (a b:T) (h1:a.m.ok=true∧0≤a.c∧a.c≤100) (h2:b.m.ok=true∧0≤b.c∧b.c≤100):Calls Tryz.prog 137 #[.agg #[.int .i64 a.c,.int .i64 a.m.x,.int .i64 a.m.y,.int .i64 a.m.d,.int .i64 a.m.e],.agg #[.int .i64 b.c,.int .i64 b.m.x,.int .i64 b.m.y,.int .i64 b.m.d,.int .i64 b.m.e]] w fun e w'=>∃v,e= .returned (.tuple #[v,.bool (a.m.sum b.m).ok])∧Below w.heap.size w w'∧w'.ownsRow w.heap.size 79 5 v (jS a b).length (aG (jS a b)):=by
 cases hok:(a.m.sum b.m).ok
 ·have e:jS a b=[]:=by simp[jS,hok]
  rw[e];exact PP w a b hok
 ·have e:jS a b=aU a b:=by simp[jS,hok]
  rw[e];exact MF w a b ⟨h1.1,h2.1,hok,rfl,rfl,rfl,rfl,h1.2,h2.2⟩
theorem yM {a b:T} (h:kZ a b (a.m.sum b.m)):(aU a b).length≤1000:=by
 have h1:=mR (eE a b (fR a b+1)) [];have m1:=M.ok_iff.1 h.ok1
 have lx:=h.lx;have ly:=h.ly
 rw[tQ]at h1;have h3:(fR a b+1)*(gW a b+1)≤16*16:=Nat.mul_le_mul (by omega) (by omega)
 unfold aU;simp at h1;omega
theorem pN {a b:T} (h1:a.m.ok=true∧0≤a.c∧a.c≤100) (h2:b.m.ok=true∧0≤b.c∧b.c≤100):(jS a b).length≤1000:=by
 unfold jS;split
 ·rename_i hok;exact yM ⟨h1.1,h2.1,hok,rfl,rfl,rfl,rfl,h1.2,h2.2⟩
 ·simp
theorem IC (w:World) (a b:Option Addr) (la ca lb cb:Nat) (f g:Nat→T) (ha:Rd w a la ca f) (hb:Rd w b lb cb g) (l1:la≤400) (l2:lb≤400) (gf:CN f la) (gg:CN g lb):Calls Tryz.prog 101 #[.slice a la ca,.slice b lb cb] w fun r w'=>∃v,r= .returned (.tuple #[v,.bool (fZ (dY f g lb la)).2])∧Below w.heap.size w w'∧w'.ownsRow w.heap.size 79 5 v (fZ (dY f g lb la)).1.length (aG (fZ (dY f g lb la)).1):=by
 have HA:=aA ha;have HB:=aA hb
 have HGF:=aA gf;have HGG:=aA gg
 have hO0:=aQ w w.heap.size (Nat.le_refl _);have hB0:=aF w (.cells #[] 79)
 clear ha hb gf gg;go_enter Tryz.func101,Tryz.ntmps101;go_wp2;generalize w.alloc (.cells #[] 79)=w0 at *;go_loopw [6,7] (fun v ii wr=>∃(i:Nat) (K:List T),i≤la∧ii= .int .i64 (i:Int)∧dY f g lb i=some K∧aX K∧K.length≤400∧wr.ownsRow w.heap.size 79 5 v K.length (aG K)∧Below w.heap.size w wr) (fun _ ii _=>la-(intOf ii).toNat);case atStart=>exact⟨0,[],gO _,rfl,rfl,dN,gO _,hO0,hB0⟩
 case round=>
  obtain⟨i,K,hi,rfl,hM,hKf,hKl,hown,hbl⟩:=hrel;by_cases hlt:i<la
  ·have hil:(i:Int)<(la:Int):=by omega
   have HM:=aA hM;have HKF:=aA hKf
   have HOWN:=aA hown;have HBL:=aA hbl
   clear hM hKf hown hbl;go_wp2;go_loopw [6,8] (fun v kk wr=>∃(k:Nat) (K':List T),k≤lb∧kk= .int .i64 (k:Int)∧hZ K (f i) g k=some K'∧aX K'∧K'.length≤400∧wr.ownsRow w.heap.size 79 5 v K'.length (aG K')∧Below w.heap.size w wr) (fun _ kk _=>lb-(intOf kk).toNat);case atStart=>exact⟨0,K,gO _,rfl,rfl,HKF.out,hKl,HOWN.out,HBL.out⟩
   case round=>
    obtain⟨k,K',hk,rfl,hM',hKf',hKl',hown',hbl'⟩:=hrel;by_cases hlt2:k<lb
    ·have hkl:(k:Int)<(lb:Int):=by omega
     have hri:=HA.out.below hbl';have hrk:=HB.out.below hbl'
     rcases hri.2.2 with h0|⟨pb,off,hpe,hblt,hcl⟩
     ·omega
     rcases hrk.2.2 with h0|⟨pb2,off2,hpe2,hblt2,hcl2⟩
     ·omega
     obtain⟨g0,g1,g2,g3,g4⟩:=hcl i hlt;obtain⟨j0,j1,j2,j3,j4⟩:=hcl2 k hlt2;have hfi:=HGF.out i hlt
     have hgk:=HGG.out k hlt2;obtain⟨av,cv,hv,hout⟩:=aO hown' (by omega);have HM':=aA hM'
     have HKF':=aA hKf';have HOUT:=aA hout
     have HBL':=aA hbl';clear hM' hKf' hown' hout hcl hcl2 hri hrk hbl';subst hpe hpe2 hv;go_wp2_with fail;have hps:=pN hfi hgk
     have hps2:(jS (f i) (g k)).length*40≤140737488351232:=by omega
     have hbr:=HBL'.out.size
     go_region_with (go_at_call 137;refine(NZ _ (f i) (g k) hfi hgk).mono ?_;rintro r w5 ⟨v5,rfl,hb5,ho5⟩;obtain⟨a5,c5,rfl,hout5⟩:=aO ho5 hps2;have HB5:=aA ((aD wr.heap.size wr).drew.trans hb5);have HOUT5:=aA hout5;clear hb5 ho5 hout5)
     all_goals
      have hB5:Below w.heap.size w w5:=HBL'.out.trans (HB5.out.mono HBL'.out.size);by_cases hok:((f i).m.sum (g k).m).ok=true
      ·have hTwo:kZ (f i) (g k) ((f i).m.sum (g k).m):=⟨hfi.1,hgk.1,hok,rfl,rfl,rfl,rfl,hfi.2,hgk.2⟩
       have epo:jS (f i) (g k)=aU (f i) (g k):=if_pos hok;have hfp:=(fP hTwo).1
       have hfa:=(iN HKF'.out hfp).1;have hR5:Rd w5 av K'.length cv (lf K'):=HOUT.out.1.below (HB5.out)
       have hX5:=HOUT5.out.1;rw[epo]at hX5 hps;rw[epo,hok];have hadd:=oS w5 av a5 K'.length cv (aU (f i) (g k)).length c5 (lf K') (lf (aU (f i) (g k))) hR5 hX5 (by omega) ((dJ HKF'.out).at) ((dJ hfp).at)
       have eA:cV (lf K') K'.length (lf (aU (f i) (g k))) (aU (f i) (g k)).length 0 0=dG K' (aU (f i) (g k)):=rfl;rw[eA]at hadd;have hal:(dG K' (aU (f i) (g k))).length≤K'.length+(aU (f i) (g k)).length:=by have:=lC (lf K') K'.length (lf (aU (f i) (g k))) (aU (f i) (g k)).length 0 0;simp only[Nat.sub_zero]at this;exact this
       by_cases h4:(dG K' (aU (f i) (g k))).length≤400
       ·have hstep:hZ K (f i) g (k+1)=some (dG K' (aU (f i) (g k))):=by rw[hZ,HM'.out];show bR _ _ _=_;unfold bR;rw[if_pos ⟨hok,h4⟩]
        have HST:=aA hstep;have h4':((dG K' (aU (f i) (g k))).length:Int)≤400:=by omega
        clear hstep;generalize hL:dG K' (aU (f i) (g k))=L at *;go_wp2_with (go_at_call 100;refine hadd.mono ?_;rintro r w6 ⟨v6,rfl,hb6,ho6⟩;obtain⟨a6,c6,rfl,hout6⟩:=aO ho6 (by omega);have HB6:=aA hb6;have HO6:=aA ho6;clear hb6 ho6 hout6);go_roundw;case rel=>exact⟨k+1,L,by omega,by go_num,HST.out,hfa,h4,dS HO6.out hB5.size,hB5.trans (HB6.out.mono hB5.size)⟩
        case measure=>simp[intOf];omega
       ·have hstep:hZ K (f i) g (k+1)=none:=by rw[hZ,HM'.out];show bR _ _ _=_;unfold bR;rw[if_neg (fun h=>h4 h.2)]
        have hno:dY f g lb la=none:=lV (i:=i+1) (by rw[dY,HM.out];exact mC hstep lb (by omega)) la (by omega);have h4':(400:Int)<((dG K' (aU (f i) (g k))).length:Int):=by omega
        clear hstep;generalize hL:dG K' (aU (f i) (g k))=L at *;go_wp2_with (go_at_call 100;refine hadd.mono ?_;rintro r w6 ⟨v6,rfl,hb6,ho6⟩;obtain⟨a6,c6,rfl,hout6⟩:=aO ho6 (by omega);have HB6:=aA hb6;clear hb6 ho6 hout6);refine bC (results_tmp2 rfl _ _ _) rfl ?_;rw[hno];have hB6:Below w.heap.size w w6:=hB5.trans (HB6.out.mono hB5.size)
        exact⟨_,rfl,hB6.alloc hB6.size _,aQ w6 w.heap.size hB6.size⟩
      ·have hstep:hZ K (f i) g (k+1)=none:=by rw[hZ,HM'.out];show bR _ _ _=_;unfold bR;rw[if_neg (fun h=>hok h.1)]
       have hno:dY f g lb la=none:=lV (i:=i+1) (by rw[dY,HM.out];exact mC hstep lb (by omega)) la (by omega);have hok':((f i).m.sum (g k).m).ok=false:=by simpa using hok
       rw[hok'];clear hstep;go_wp2;refine bC (results_tmp2 rfl _ _ _) rfl ?_;rw[hno];exact⟨_,rfl,hB5.alloc hB5.size _,aQ w5 w.heap.size hB5.size⟩
    ·obtain rfl:k=lb:=by omega
     have HMk:Hid (dY f g k (i+1)=some K'):=by show _=_;rw[dY,HM.out];exact hM'
     go_wp2;go_roundw;case rel=>exact⟨i+1,K',by omega,by go_num,HMk.out,hKf',hKl',hown',hbl'⟩
     case measure=>simp[intOf];omega
  ·obtain rfl:i=la:=by omega
   go_wp2;refine bC (results_tmp2 rfl _ _ _) rfl ?_;rw[hM];exact⟨_,rfl,hbl,hown⟩
theorem NO (w:World) (a b:Option Addr) (la ca lb cb:Nat) (f g:Nat→T) (ha:Rd w a la ca f) (hb:Rd w b lb cb g):Calls Tryz.prog 70 #[.slice a la ca,.slice b lb cb] w fun r w'=>∃v,r= .returned (.tuple #[v,.bool (aW f la g lb).2])∧Below w.heap.size w w'∧w'.ownsRow w.heap.size 79 5 v (aW f la g lb).1.length (aG (aW f la g lb).1):=by
 have HA:=aA ha;have HB:=aA hb
 clear ha hb;cases hpa:aH la f
 ·have e1:aW f la g lb=([],false):=by simp[aW,hpa]
  rw[e1];go_enter Tryz.func70,Tryz.ntmps70;go_wp2_with (go_at_call 29;refine(aY _ _ _ _ f HA.out).mono ?_;rw[hpa];rintro r w1 ⟨rfl,hb1⟩;have HB1:=aA hb1;clear hb1);refine bC (results_tmp2 rfl _ _ _) rfl ?_;exact⟨_,rfl,HB1.out.alloc HB1.out.size _,aQ w1 w.heap.size HB1.out.size⟩
 ·cases hpb:aH lb g
  ·have e1:aW f la g lb=([],false):=by simp[aW,hpb]
   rw[e1];go_enter Tryz.func70,Tryz.ntmps70
   go_wp2_with (first
    |(go_at_call_of 29 (Value.slice a la ca);refine(aY _ _ _ _ f HA.out).mono ?_;rw[hpa];rintro r w1 ⟨rfl,hb1⟩;have HB1:=aA hb1;clear hb1)
    |(go_at_call_of 29 (Value.slice b lb cb);refine(aY _ _ _ _ g (HB.out.below HB1.out)).mono ?_;rw[hpb];rintro r w2 ⟨rfl,hb2⟩;have HB2:=aA (aC HB1.out hb2);clear hb2))
   refine bC (results_tmp2 rfl _ _ _) rfl ?_;exact⟨_,rfl,HB2.out.alloc HB2.out.size _,aQ w2 w.heap.size HB2.out.size⟩
  ·have e2:aW f la g lb=fZ (dY f g lb la):=by simp[aW,hpa,hpb]
   rw[e2];obtain⟨l1,g1⟩:=gM hpa;obtain⟨l2,g2⟩:=gM hpb;go_enter Tryz.func70,Tryz.ntmps70
   go_wp2_with (first
    |(go_at_call_of 29 (Value.slice a la ca);refine(aY _ _ _ _ f HA.out).mono ?_;rw[hpa];rintro r w1 ⟨rfl,hb1⟩;have HB1:=aA hb1;clear hb1)
    |(go_at_call_of 29 (Value.slice b lb cb);refine(aY _ _ _ _ g (HB.out.below HB1.out)).mono ?_;rw[hpb];rintro r w2 ⟨rfl,hb2⟩;have HB2:=aA (aC HB1.out hb2);clear hb2)
    |(go_at_call 101;refine(IC _ _ _ _ _ _ _ f g (HA.out.below HB2.out) (HB.out.below HB2.out) l1 l2 g1 g2).mono ?_;rintro r w3 ⟨v,rfl,hb3,ho3⟩))
   refine bC (results_tmp2 rfl _ _ _) rfl ?_;exact⟨v,rfl,aC HB2.out hb3,dS ho3 HB2.out.size⟩
theorem JY {a b:T} (h1:a.m.ok=true∧0≤a.c∧a.c≤100) (h2:b.m.ok=true∧0≤b.c∧b.c≤100) (hok:(a.m.sum b.m).ok=true):kZ a b (a.m.sum b.m):=⟨h1.1,h2.1,hok,rfl,rfl,rfl,rfl,h1.2,h2.2⟩
theorem rY {K:List T} {a:T} {g:Nat→T} {lb:Nat} (hK:aX K) (ha:a.m.ok=true∧0≤a.c∧a.c≤100) (hg:CN g lb):∀k K',k≤lb→hZ K a g k=some K'→aX K'
 |0,K',_,h=>by cases h;exact hK
 |k+1,K',hk,h=>by
  rw[hZ]at h;cases hr:hZ K a g k with
  |none=>rw[hr]at h;cases h
  |some K1=>
   rw[hr]at h;change bR K1 a (g k)=some K' at h;unfold bR at h;split at h
   ·rename_i hh;cases h;exact(iN (rY hK ha hg k K1 (by omega) hr) (fP (JY ha (hg k (by omega)) hh.1)).1).1
   ·cases h
theorem iW {f g:Nat→T} {la lb:Nat} (hf:CN f la) (hg:CN g lb):∀i K,i≤la→dY f g lb i=some K→aX K
 |0,K,_,h=>by cases h;exact dN
 |i+1,K,hi,h=>by
  rw[dY]at h;cases hr:dY f g lb i with
  |none=>rw[hr]at h;cases h
  |some K1=>
   rw[hr]at h;exact rY (iW hf hg i K1 (by omega) hr) (hf i (by omega)) hg lb K (Nat.le_refl _) h
theorem yI {L:List T} (h:aX L) (hl:L.length≤400):aH L.length (lf L)=true:=by
 have F:=xW h;simp only[aH,decide_eq_true_eq];refine⟨hl,fun i hi=>?_⟩;have h1:=F.2 i hi
 simp only[fC,Bool.and_eq_true,Bool.or_eq_true,decide_eq_true_eq];refine⟨⟨h1.2,h1.1⟩,?_⟩;by_cases h0:i=0
 ·exact .inl h0
 ·refine .inr ((nV (F.2 (i-1) (by omega)).1 h1.1).2 (F.1 (i-1) i (by omega) hi))
end Go.Proofs.YtkcmamepoplcdaaGreatDoor
