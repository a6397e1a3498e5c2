/-
  The product of two operators: the model.
-/
import Derived.Test.YtelkehjdfcoeiaaGreatNao
import Derived.Shelf.Abstract
import Derived.Defers
import Derived.Recover
set_option maxHeartbeats 8000000
set_option maxRecDepth 100000
namespace Go.Proofs.YtelkehjdfcoeiaaGreat
open Go.RowKit
set_option linter.unusedVariables false
theorem xF (n k:Int):0≤dQ n k∧dQ n k≤100:=by unfold dQ;split<;>omega
theorem OL (n:Int):∀k:Nat,0≤fl n k∧fl n k≤100
 |0=>by unfold fl;omega
 |k+1=>by unfold fl;omega
theorem CH (n k:Int):0≤iG n k∧iG n k≤100:=by
 unfold iG;split
 ·exact OL _ _
 ·omega
theorem Aj (s t k:Int) (w:World):Calls Tryz.prog 182 #[.int .i64 s,.int .i64 t,.int .i64 k] w fun e w'=>e= .returned (.int .i64 (wy s t k))∧w'=w:=by
 have h1:=xF s k;have h2:=CH t k
 have hm:wy s t k=dQ s k*iG t k%101:=gY h1.1 h1.2 h2.1 h2.2
 have hb:0≤dQ s k*iG t k∧dQ s k*iG t k≤10000:=⟨Int.mul_nonneg h1.1 h2.1,by
  have:=Int.mul_le_mul h1.2 h2.2 h2.1 (by omega);omega⟩
 rw[hm];have hc:=TG s k
 have hf:=WN t k;generalize dQ s k=p at *;generalize iG t k=q at *;generalize hpq:p*q=r at *;clear hm;go_enter Tryz.func182,Tryz.ntmps182
 go_wp2_with (first
  |(go_at_call 191;refine(hc _).mono ?_;rintro e w' ⟨rfl,hw'⟩;obtain rfl:=hw'.symm;clear hw')
  |(go_at_call 192;refine(hf _).mono ?_;rintro e w' ⟨rfl,hw'⟩;obtain rfl:=hw'.symm;clear hw'))
 go_ret;exact⟨rfl,rfl⟩
theorem AH (xs:List T) (t:T) (L:List T):eN (xs++[t]) L=lO t.c t.m (eN xs L):=by simp[eN]
theorem qB:∀(xs L:List T),(eN xs L).length≤L.length+xs.length
 |[],L=>Nat.le_refl _
 |t::r,L=>by
  have h1:=qB r (lO t.c t.m L);have h2:=QN t.c t.m L
  show(eN r (lO t.c t.m L)).length≤_;rw[List.length_cons];omega
theorem xS (a b:T) (i:Nat):(eF a b i).length=i*(gK a b+1):=by unfold eF;rw[nU (gK a b+1) _ (fun i=>by simp[lP])];simp
def ZA (W:World) (Bx:Nat) (m:M):Prop:=W.heap[Bx]? =some (.cells #[.int .i64 m.x,.int .i64 m.y,.int .i64 m.d,.int .i64 m.e] 84 (0,0))
theorem ZA.cells {W:World} {Bx:Nat} {m:M} (h:ZA W Bx m):W.cell? ⟨Bx,0,none⟩=some (.int .i64 m.x)∧W.cell? ⟨Bx,1,none⟩=some (.int .i64 m.y)∧W.cell? ⟨Bx,2,none⟩=some (.int .i64 m.d)∧W.cell? ⟨Bx,3,none⟩=some (.int .i64 m.e):=by unfold ZA at h;refine⟨?_,?_,?_,?_⟩<;>(unfold World.cell?;simp only[h];rfl)
theorem YD (w:World) (a b:T) (h3:(a.m.sum b.m).ok=false):Calls Tryz.prog 158 #[.agg #[.int .i64 a.c,.int .i64 a.m.x,.int .i64 a.m.y,.int .i64 a.m.d,.int .i64 a.m.e],.agg #[.int .i64 b.c,.int .i64 b.m.x,.int .i64 b.m.y,.int .i64 b.m.d,.int .i64 b.m.e]] w fun e w'=>∃v,e= .returned (.tuple #[v,.bool false])∧Below w.heap.size w w'∧w'.ownsRow w.heap.size 86 5 v 0 (aE []):=by
 have hm:M.mul a.m b.m=(M.zero,false):=by simp[M.mul,h3]
 have hc:=IR a.m.x a.m.y a.m.d a.m.e b.m.x b.m.y b.m.d b.m.e;have ea:(⟨a.m.x,a.m.y,a.m.d,a.m.e⟩:M)=a.m:=rfl
 have eb:(⟨b.m.x,b.m.y,b.m.d,b.m.e⟩:M)=b.m:=rfl;rw[ea,eb,hm]at hc;have HO:=aA (dM ((w.alloc (.cells #[.int .i64 a.c,.int .i64 a.m.x,.int .i64 a.m.y,.int .i64 a.m.d,.int .i64 a.m.e] 86)).alloc (.cells #[.int .i64 b.c,.int .i64 b.m.x,.int .i64 b.m.y,.int .i64 b.m.d,.int .i64 b.m.e] 86)) w.heap.size (by simp;omega))
 have HW:=aA ((((bQ w.heap.size w).alloc (Nat.le_refl _) (.cells #[.int .i64 a.c,.int .i64 a.m.x,.int .i64 a.m.y,.int .i64 a.m.d,.int .i64 a.m.e] 86)).alloc (by simp) (.cells #[.int .i64 b.c,.int .i64 b.m.x,.int .i64 b.m.y,.int .i64 b.m.d,.int .i64 b.m.e] 86)).alloc (by simp;omega) (.cells #[] 86));go_enter Tryz.func158,Tryz.ntmps158;go_wp2_with (go_at_call 181;refine(hc _).mono ?_;rintro e w1 ⟨rfl,hb1⟩);refine cV (results_tmp2 rfl _ _ _) rfl ?_;have hO:=HO.out
 simp only[World.size_alloc]at hO;have hb2:=(HW.out.trans (hb1.mono (by simp;omega)))
 exact⟨_,rfl,hb2.alloc hb2.size _,dY hO (hb1.alloc (gW (Nat.le_refl _) hb1.size) _)⟩
theorem UT (w:World) (a b:T) (h:pL a b (a.m.sum b.m)):Calls Tryz.prog 158 #[.agg #[.int .i64 a.c,.int .i64 a.m.x,.int .i64 a.m.y,.int .i64 a.m.d,.int .i64 a.m.e],.agg #[.int .i64 b.c,.int .i64 b.m.x,.int .i64 b.m.y,.int .i64 b.m.d,.int .i64 b.m.e]] w fun e w'=>∃v,e= .returned (.tuple #[v,.bool true])∧Below w.heap.size w w'∧w'.ownsRow w.heap.size 86 5 v (cF a b).length (aE (cF a b)):=by
 have hm:M.mul a.m b.m=(a.m.sum b.m,true):=by simp[M.mul,h.ok1,h.ok2,h.ok3]
 have hc:=IR a.m.x a.m.y a.m.d a.m.e b.m.x b.m.y b.m.d b.m.e;have ea:(⟨a.m.x,a.m.y,a.m.d,a.m.e⟩:M)=a.m:=rfl
 have eb:(⟨b.m.x,b.m.y,b.m.d,b.m.e⟩:M)=b.m:=rfl;rw[ea,eb,hm]at hc;have m1:=M.ok_iff.1 h.ok1
 have m2:=M.ok_iff.1 h.ok2;have m3:=M.ok_iff.1 h.ok3
 have lx:=h.lx;have ly:=h.ly
 have k1:=h.c1;have k2:=h.c2
 have H:=aA h;have HO:=aA (dM ((w.alloc (.cells #[.int .i64 a.c,.int .i64 a.m.x,.int .i64 a.m.y,.int .i64 a.m.d,.int .i64 a.m.e] 86)).alloc (.cells #[.int .i64 b.c,.int .i64 b.m.x,.int .i64 b.m.y,.int .i64 b.m.d,.int .i64 b.m.e] 86)) w.heap.size (by simp;omega))
 have HW:=aA ((((bQ w.heap.size w).alloc (Nat.le_refl _) (.cells #[.int .i64 a.c,.int .i64 a.m.x,.int .i64 a.m.y,.int .i64 a.m.d,.int .i64 a.m.e] 86)).alloc (by simp) (.cells #[.int .i64 b.c,.int .i64 b.m.x,.int .i64 b.m.y,.int .i64 b.m.d,.int .i64 b.m.e] 86)).alloc (by simp;omega) (.cells #[] 86));have HTA:Hid (bZ (((w.alloc (.cells #[.int .i64 a.c,.int .i64 a.m.x,.int .i64 a.m.y,.int .i64 a.m.d,.int .i64 a.m.e] 86)).alloc (.cells #[.int .i64 b.c,.int .i64 b.m.x,.int .i64 b.m.y,.int .i64 b.m.d,.int .i64 b.m.e] 86)).alloc (.cells #[] 86)) w.heap.size a):=(Below.heap_alloc _ _ _ (by simp;omega)).trans ((Below.heap_alloc _ _ _ (by simp)).trans (World.alloc_heap_new w _))
 have HTB:Hid (bZ (((w.alloc (.cells #[.int .i64 a.c,.int .i64 a.m.x,.int .i64 a.m.y,.int .i64 a.m.d,.int .i64 a.m.e] 86)).alloc (.cells #[.int .i64 b.c,.int .i64 b.m.x,.int .i64 b.m.y,.int .i64 b.m.d,.int .i64 b.m.e] 86)).alloc (.cells #[] 86)) (w.heap.size+1) b):=by have:=World.alloc_heap_new (w.alloc (.cells #[.int .i64 a.c,.int .i64 a.m.x,.int .i64 a.m.y,.int .i64 a.m.d,.int .i64 a.m.e] 86)) (.cells #[.int .i64 b.c,.int .i64 b.m.x,.int .i64 b.m.y,.int .i64 b.m.d,.int .i64 b.m.e] 86);rw[World.size_alloc]at this;exact(Below.heap_alloc _ _ _ (by simp)).trans this
 clear h;generalize a.m.sum b.m=g at *;go_enter Tryz.func158,Tryz.ntmps158;go_wp2_with (go_at_call 181;refine(hc _).mono ?_;rintro e w1 ⟨rfl,hb1⟩;have HB1:=aA hb1;clear hb1);have hb1:=HB1.out
 have hO:=HO.out;simp only[World.size_alloc]at hO;have hbw:Below w.heap.size w w1:=HW.out.trans (hb1.mono (by simp;omega))
 have hs1:=hb1.size;simp only[World.size_alloc]at hs1;have hT1:bZ w1 w.heap.size a:=(hb1.block _ (by simp;omega)).trans HTA.out
 have hT2:bZ w1 (w.heap.size+1) b:=(hb1.block _ (by simp)).trans HTB.out;have hO1:=dY hO hb1
 have hG:ZA (w1.alloc (.cells #[.int .i64 g.x,.int .i64 g.y,.int .i64 g.d,.int .i64 g.e] 84)) w1.heap.size g:=World.alloc_heap_new w1 _;have hT1':bZ (w1.alloc (.cells #[.int .i64 g.x,.int .i64 g.y,.int .i64 g.d,.int .i64 g.e] 84)) w.heap.size a:=(Below.heap_alloc _ _ _ (by omega)).trans hT1
 have hT2':bZ (w1.alloc (.cells #[.int .i64 g.x,.int .i64 g.y,.int .i64 g.d,.int .i64 g.e] 84)) (w.heap.size+1) b:=(Below.heap_alloc _ _ _ (by omega)).trans hT2;have hO2:=hO1.alloc (.cells #[.int .i64 g.x,.int .i64 g.y,.int .i64 g.d,.int .i64 g.e] 84)
 have hB2:=hbw.alloc hbw.size (.cells #[.int .i64 g.x,.int .i64 g.y,.int .i64 g.d,.int .i64 g.e] 84);have hs2:(w1.alloc (.cells #[.int .i64 g.x,.int .i64 g.y,.int .i64 g.d,.int .i64 g.e] 84)).heap.size=w1.heap.size+1:=by simp
 generalize w1.alloc (.cells #[.int .i64 g.x,.int .i64 g.y,.int .i64 g.d,.int .i64 g.e] 84)=w3 at *;generalize w1.heap.size=Bg at *;clear hb1 hO hT1 hT2 hO1 hbw HB1 HO HW HTA HTB hc;have hq0:0≤a.c*b.c:=Int.mul_nonneg k1.1 k2.1
 have hq1:a.c*b.c≤10000:=by have:=Int.mul_le_mul k1.2 k2.2 k2.1 (by omega);omega
 go_loopw [6,9] (fun v ii wr=>∃i:Nat,i≤fI a b+1∧ii= .int .i64 (i:Int)∧wr.ownsRow w.heap.size 86 5 v (eN (eF a b i) []).length (aE (eN (eF a b i) []))∧Below w.heap.size w wr∧bZ wr w.heap.size a∧bZ wr (w.heap.size+1) b∧ZA wr Bg g) (fun _ ii _=>fI a b+1-(intOf ii).toNat);case atStart=>exact⟨0,Nat.zero_le _,rfl,hO2,hB2,hT1',hT2',hG⟩
 case round=>
  obtain⟨i,hi,rfl,hown,hbl,hTa,hTb,hGg⟩:=hrel;obtain⟨a0,a1,a2,a3,a4⟩:=hTa.cells;obtain⟨b0,b1,b2,b3,b4⟩:=hTb.cells;obtain⟨g0,g1,g2,g3⟩:=hGg.cells;by_cases hlt:i≤fI a b
  ·have i1:(i:Int)≤a.m.d:=by omega
   have i2:(i:Int)≤b.m.x:=by omega
   have HOWN:=aA hown;have HBL:=aA hbl
   have HTA2:=aA hTa;have HTB2:=aA hTb
   have HGG:=aA hGg;clear hown hbl hTa hTb hGg;go_wp2;clear a0 a1 a2 a3 a4 b0 b1 b2 b3 b4 g0 g1 g2 g3;go_loopw [6,10] (fun v kk wr=>∃k:Nat,k≤gK a b+1∧kk= .int .i64 (k:Int)∧wr.ownsRow w.heap.size 86 5 v (eN (eF a b i++lP a b i k) []).length (aE (eN (eF a b i++lP a b i k) []))∧Below w.heap.size w wr∧bZ wr w.heap.size a∧bZ wr (w.heap.size+1) b∧ZA wr Bg g) (fun _ kk _=>gK a b+1-(intOf kk).toNat);case atStart=>exact⟨0,Nat.zero_le _,rfl,by have e0:eF a b i++lP a b i 0=eF a b i:=List.append_nil _;rw[e0];exact HOWN.out,HBL.out,HTA2.out,HTB2.out,HGG.out⟩
   case round=>
    obtain⟨k,hk,rfl,hown,hbl,hTa,hTb,hGg⟩:=hrel;obtain⟨a0,a1,a2,a3,a4⟩:=hTa.cells;obtain⟨b0,b1,b2,b3,b4⟩:=hTb.cells;obtain⟨g0,g1,g2,g3⟩:=hGg.cells;have HOK:=aA hown
    have HBK:=aA hbl;have HTAk:=aA hTa
    have HTBk:=aA hTb;have HGGk:=aA hGg
    clear hown hbl hTa hTb hGg;by_cases hlt2:k≤gK a b
    ·have j1:(k:Int)≤a.m.e:=by omega
     have j2:(k:Int)≤b.m.y:=by omega
     have p1:=pM (dQ a.m.d i) (iG b.m.x i);have p2:=pM (dQ a.m.e k) (iG b.m.y k)
     change 0≤wy a.m.d b.m.x i∧wy a.m.d b.m.x i≤100 at p1;change 0≤wy a.m.e b.m.y k∧wy a.m.e b.m.y k≤100 at p2;have q0:0≤a.c*b.c%101∧a.c*b.c%101≤100:=by omega
     have q1:0≤a.c*b.c%101*wy a.m.d b.m.x i:=Int.mul_nonneg q0.1 p1.1;have q2:a.c*b.c%101*wy a.m.d b.m.x i≤10000:=by have:=Int.mul_le_mul q0.2 p1.2 p1.1 (by omega);omega
     have q3:0≤a.c*b.c%101*wy a.m.d b.m.x i%101∧a.c*b.c%101*wy a.m.d b.m.x i%101≤100:=by omega
     have q4:0≤a.c*b.c%101*wy a.m.d b.m.x i%101*wy a.m.e b.m.y k:=Int.mul_nonneg q3.1 p2.1;have q5:a.c*b.c%101*wy a.m.d b.m.x i%101*wy a.m.e b.m.y k≤10000:=by have:=Int.mul_le_mul q3.2 p2.2 p2.1 (by omega);omega
     have hTN:lD a b i k=⟨a.c*b.c%101*wy a.m.d b.m.x i%101*wy a.m.e b.m.y k%101,⟨g.x-i,g.y-k,g.d-i,g.e-k⟩⟩:=by unfold lD;rw[H.out.gx,H.out.gy,H.out.gd,H.out.ge]
     have htok:ZK (eF a b i++lP a b i k):=by
      have hall:=nR H.out;intro t ht;refine hall t ?_;unfold eF;rcases List.mem_append.1 ht with h1|h1
      ·unfold eF at h1;obtain⟨i',hi',h2⟩:=List.mem_flatMap.1 h1;exact List.mem_flatMap.2 ⟨i',List.mem_range.2 (by have:=List.mem_range.1 hi';omega),h2⟩
      ·refine List.mem_flatMap.2 ⟨i,List.mem_range.2 (by omega),?_⟩;unfold lP at h1⊢;obtain⟨k',hk',h2⟩:=List.mem_map.1 h1;exact List.mem_map.2 ⟨k',List.mem_range.2 (by have:=List.mem_range.1 hk';omega),h2⟩
     have hfl:=(mX _ [] htok dL).1;have hlen:(eN (eF a b i++lP a b i k) []).length≤1000:=by
      have h1:=qB (eF a b i++lP a b i k) [];have h2:(lP a b i k).length=k:=by simp[lP]
      rw[List.length_append,xS,h2]at h1;have h3:i*(gK a b+1)≤15*16:=Nat.mul_le_mul (by omega) (by omega)
      simp at h1;omega
     have hnx:eN (eF a b i++lP a b i (k+1)) []=lO (a.c*b.c%101*wy a.m.d b.m.x i%101*wy a.m.e b.m.y k%101) ⟨g.x-i,g.y-k,g.d-i,g.e-k⟩ (eN (eF a b i++lP a b i k) []):=by rw[MN,←List.append_assoc,AH,hTN]
     have HNX:=aA hnx;have HFL:=aA hfl
     have HLE:=aA hlen;clear hTN htok hfl hlen hnx
     go_wp2_with (first
      |(go_at_call 182;refine(Aj _ _ _ _).mono ?_;rintro e w' ⟨rfl,hw'⟩;obtain rfl:=hw'.symm;clear hw')
      |(go_at_call 83;refine(XS _ w.heap.size _ _ _ _ _ _ _ HOK.out HBK.out.size HLE.out (sN HFL.out) (by omega) (by omega)).mono ?_;rintro e w5 ⟨v5,rfl,hb5,ho5⟩;have HB5:=aA hb5;have HO5:=aA ho5;clear hb5 ho5))
     go_roundw;case rel=>exact⟨k+1,by omega,by go_num,by rw[HNX.out];exact HO5.out,HBK.out.trans (HB5.out.mono HBK.out.size),(HB5.out.block _ (Array.getElem?_eq_some_iff.1 HTAk.out).1).trans HTAk.out,(HB5.out.block _ (Array.getElem?_eq_some_iff.1 HTBk.out).1).trans HTBk.out,(HB5.out.block _ (Array.getElem?_eq_some_iff.1 HGGk.out).1).trans HGGk.out⟩
     case measure=>simp[intOf];omega
    ·have hkl:k=gK a b+1:=by omega
     subst hkl;have hoe:=HOK.out
     rw[←vB]at hoe;have HOE:=aA hoe
     clear hoe;by_cases hd:((gK a b+1:Nat):Int)≤a.m.e
     ·have hx:¬((gK a b+1:Nat):Int)≤b.m.y:=by omega
      go_wp2;go_roundw;case rel=>exact⟨i+1,by omega,by go_num,HOE.out,HBK.out,HTAk.out,HTBk.out,HGGk.out⟩
      case measure=>simp[intOf];omega
     ·go_wp2;go_roundw;case rel=>exact⟨i+1,by omega,by go_num,HOE.out,HBK.out,HTAk.out,HTBk.out,HGGk.out⟩
      case measure=>simp[intOf];omega
  ·have hil:i=fI a b+1:=by omega
   subst hil;by_cases hd:((fI a b+1:Nat):Int)≤a.m.d
   ·have hx:¬((fI a b+1:Nat):Int)≤b.m.x:=by omega
    go_wp2;refine cV (results_tmp2 rfl _ _ _) rfl ?_;exact⟨_,rfl,hbl,hown⟩
   ·go_wp2;refine cV (results_tmp2 rfl _ _ _) rfl ?_;exact⟨_,rfl,hbl,hown⟩
def pJ (a b:T):List T:=if(a.m.sum b.m).ok=true then cF a b else[]
theorem Ac (w:World) (a b:T) (h1:a.m.ok=true∧0≤a.c∧a.c≤100) (h2:b.m.ok=true∧0≤b.c∧b.c≤100):Calls Tryz.prog 158 #[.agg #[.int .i64 a.c,.int .i64 a.m.x,.int .i64 a.m.y,.int .i64 a.m.d,.int .i64 a.m.e],.agg #[.int .i64 b.c,.int .i64 b.m.x,.int .i64 b.m.y,.int .i64 b.m.d,.int .i64 b.m.e]] w fun e w'=>∃v,e= .returned (.tuple #[v,.bool (a.m.sum b.m).ok])∧Below w.heap.size w w'∧w'.ownsRow w.heap.size 86 5 v (pJ a b).length (aE (pJ a b)):=by
 cases hok:(a.m.sum b.m).ok
 ·have e:pJ a b=[]:=by simp[pJ,hok]
  rw[e];exact YD w a b hok
 ·have e:pJ a b=cF a b:=by simp[pJ,hok]
  rw[e];exact UT w a b ⟨h1.1,h2.1,hok,rfl,rfl,rfl,rfl,h1.2,h2.2⟩
theorem DM {a b:T} (h:pL a b (a.m.sum b.m)):(cF a b).length≤1000:=by
 have h1:=qB (eF a b (fI a b+1)) [];have m1:=M.ok_iff.1 h.ok1
 have lx:=h.lx;have ly:=h.ly
 rw[xS]at h1;have h3:(fI a b+1)*(gK a b+1)≤16*16:=Nat.mul_le_mul (by omega) (by omega)
 unfold cF;simp at h1;omega
theorem DN {a b:T} (h1:a.m.ok=true∧0≤a.c∧a.c≤100) (h2:b.m.ok=true∧0≤b.c∧b.c≤100):(pJ a b).length≤1000:=by
 unfold pJ;split
 ·rename_i hok;exact DM ⟨h1.1,h2.1,hok,rfl,rfl,rfl,rfl,h1.2,h2.2⟩
 ·simp
theorem PM (w:World) (a b:Option Addr) (la ca lb cb:Nat) (f g:Nat→T) (ha:Rd w a la ca f) (hb:Rd w b lb cb g) (l1:la≤400) (l2:lb≤400) (gf:mH f la) (gg:mH g lb):Calls Tryz.prog 115 #[.slice a la ca,.slice b lb cb] w fun r w'=>∃v,r= .returned (.tuple #[v,.bool (iN (bN f g lb la)).2])∧Below w.heap.size w w'∧w'.ownsRow w.heap.size 86 5 v (iN (bN f g lb la)).1.length (aE (iN (bN f g lb la)).1):=by
 have HA:=aA ha;have HB:=aA hb
 have HGF:=aA gf;have HGG:=aA gg
 have hO0:=dM w w.heap.size (Nat.le_refl _);have hB0:=aC w (.cells #[] 86)
 clear ha hb gf gg;go_enter Tryz.func115,Tryz.ntmps115;go_wp2;generalize w.alloc (.cells #[] 86)=w0 at *;go_loopw [6,7] (fun v ii wr=>∃(i:Nat) (K:List T),i≤la∧ii= .int .i64 (i:Int)∧bN f g lb i=some K∧aH K∧K.length≤400∧wr.ownsRow w.heap.size 86 5 v K.length (aE K)∧Below w.heap.size w wr) (fun _ ii _=>la-(intOf ii).toNat);case atStart=>exact⟨0,[],Nat.zero_le _,rfl,rfl,dL,Nat.zero_le _,hO0,hB0⟩
 case round=>
  obtain⟨i,K,hi,rfl,hM,hKf,hKl,hown,hbl⟩:=hrel;by_cases hlt:i<la
  ·have hil:(i:Int)<(la:Int):=by omega
   have HM:=aA hM;have HKF:=aA hKf
   have HOWN:=aA hown;have HBL:=aA hbl
   clear hM hKf hown hbl;go_wp2;go_loopw [6,8] (fun v kk wr=>∃(k:Nat) (K':List T),k≤lb∧kk= .int .i64 (k:Int)∧eO K (f i) g k=some K'∧aH K'∧K'.length≤400∧wr.ownsRow w.heap.size 86 5 v K'.length (aE K')∧Below w.heap.size w wr) (fun _ kk _=>lb-(intOf kk).toNat);case atStart=>exact⟨0,K,Nat.zero_le _,rfl,rfl,HKF.out,hKl,HOWN.out,HBL.out⟩
   case round=>
    obtain⟨k,K',hk,rfl,hM',hKf',hKl',hown',hbl'⟩:=hrel;by_cases hlt2:k<lb
    ·have hkl:(k:Int)<(lb:Int):=by omega
     have hri:=HA.out.below hbl';have hrk:=HB.out.below hbl'
     rcases hri.2.2 with h0|⟨pb,off,hpe,hblt,hcl⟩
     ·omega
     rcases hrk.2.2 with h0|⟨pb2,off2,hpe2,hblt2,hcl2⟩
     ·omega
     obtain⟨g0,g1,g2,g3,g4⟩:=hcl i hlt;obtain⟨j0,j1,j2,j3,j4⟩:=hcl2 k hlt2;have hfi:=HGF.out i hlt
     have hgk:=HGG.out k hlt2;obtain⟨av,cv,hv,hout⟩:=aM hown' (by omega);have HM':=aA hM'
     have HKF':=aA hKf';have HOUT:=aA hout
     have HBL':=aA hbl';clear hM' hKf' hown' hout hcl hcl2 hri hrk hbl';subst hpe hpe2 hv;go_wp2_with fail;have hps:=DN hfi hgk
     have hps2:(pJ (f i) (g k)).length*40≤140737488351232:=by omega
     have hbr:=HBL'.out.size
     go_region_with (go_at_call 158;refine(Ac _ (f i) (g k) hfi hgk).mono ?_;rintro r w5 ⟨v5,rfl,hb5,ho5⟩;obtain⟨a5,c5,rfl,hout5⟩:=aM ho5 hps2;have HB5:=aA ((bQ wr.heap.size wr).drew.trans hb5);have HOUT5:=aA hout5;clear hb5 ho5 hout5)
     all_goals
      have hB5:Below w.heap.size w w5:=HBL'.out.trans (HB5.out.mono HBL'.out.size);by_cases hok:((f i).m.sum (g k).m).ok=true
      ·have hTwo:pL (f i) (g k) ((f i).m.sum (g k).m):=⟨hfi.1,hgk.1,hok,rfl,rfl,rfl,rfl,hfi.2,hgk.2⟩
       have epo:pJ (f i) (g k)=cF (f i) (g k):=if_pos hok;have hfp:=(eX hTwo).1
       have hfa:=(cM HKF'.out hfp).1;have hR5:Rd w5 av K'.length cv (lf K'):=HOUT.out.1.below (HB5.out)
       have hX5:=HOUT5.out.1;rw[epo]at hX5 hps;rw[epo,hok];have hadd:=nV w5 av a5 K'.length cv (cF (f i) (g k)).length c5 (lf K') (lf (cF (f i) (g k))) hR5 hX5 (by omega) ((sN HKF'.out).at) ((sN hfp).at)
       have eA:fG (lf K') K'.length (lf (cF (f i) (g k))) (cF (f i) (g k)).length 0 0=cG K' (cF (f i) (g k)):=rfl;rw[eA]at hadd;have hal:(cG K' (cF (f i) (g k))).length≤K'.length+(cF (f i) (g k)).length:=by have:=uV (lf K') K'.length (lf (cF (f i) (g k))) (cF (f i) (g k)).length 0 0;simp only[Nat.sub_zero]at this;exact this
       by_cases h4:(cG K' (cF (f i) (g k))).length≤400
       ·have hstep:eO K (f i) g (k+1)=some (cG K' (cF (f i) (g k))):=by rw[eO,HM'.out];show fC _ _ _=_;unfold fC;rw[if_pos ⟨hok,h4⟩]
        have HST:=aA hstep;have h4':((cG K' (cF (f i) (g k))).length:Int)≤400:=by omega
        clear hstep;generalize hL:cG K' (cF (f i) (g k))=L at *;go_wp2_with (go_at_call 118;refine hadd.mono ?_;rintro r w6 ⟨v6,rfl,hb6,ho6⟩;obtain⟨a6,c6,rfl,hout6⟩:=aM ho6 (by omega);have HB6:=aA hb6;have HO6:=aA ho6;clear hb6 ho6 hout6);go_roundw;case rel=>exact⟨k+1,L,by omega,by go_num,HST.out,hfa,h4,gD HO6.out hB5.size,hB5.trans (HB6.out.mono hB5.size)⟩
        case measure=>simp[intOf];omega
       ·have hstep:eO K (f i) g (k+1)=none:=by rw[eO,HM'.out];show fC _ _ _=_;unfold fC;rw[if_neg (fun h=>h4 h.2)]
        have hno:bN f g lb la=none:=oP (i:=i+1) (by rw[bN,HM.out];exact oW hstep lb (by omega)) la (by omega);have h4':(400:Int)<((cG K' (cF (f i) (g k))).length:Int):=by omega
        clear hstep;generalize hL:cG K' (cF (f i) (g k))=L at *;go_wp2_with (go_at_call 118;refine hadd.mono ?_;rintro r w6 ⟨v6,rfl,hb6,ho6⟩;obtain⟨a6,c6,rfl,hout6⟩:=aM ho6 (by omega);have HB6:=aA hb6;clear hb6 ho6 hout6);refine cV (results_tmp2 rfl _ _ _) rfl ?_;rw[hno];have hB6:Below w.heap.size w w6:=hB5.trans (HB6.out.mono hB5.size)
        exact⟨_,rfl,hB6.alloc hB6.size _,dM w6 w.heap.size hB6.size⟩
      ·have hstep:eO K (f i) g (k+1)=none:=by rw[eO,HM'.out];show fC _ _ _=_;unfold fC;rw[if_neg (fun h=>hok h.1)]
       have hno:bN f g lb la=none:=oP (i:=i+1) (by rw[bN,HM.out];exact oW hstep lb (by omega)) la (by omega);have hok':((f i).m.sum (g k).m).ok=false:=by simpa using hok
       rw[hok'];clear hstep;go_wp2;refine cV (results_tmp2 rfl _ _ _) rfl ?_;rw[hno];exact⟨_,rfl,hB5.alloc hB5.size _,dM w5 w.heap.size hB5.size⟩
    ·obtain rfl:k=lb:=by omega
     have HMk:Hid (bN f g k (i+1)=some K'):=by show _=_;rw[bN,HM.out];exact hM'
     go_wp2;go_roundw;case rel=>exact⟨i+1,K',by omega,by go_num,HMk.out,hKf',hKl',hown',hbl'⟩
     case measure=>simp[intOf];omega
  ·obtain rfl:i=la:=by omega
   go_wp2;refine cV (results_tmp2 rfl _ _ _) rfl ?_;rw[hM];exact⟨_,rfl,hbl,hown⟩
def Sl (w:World) (N m:Nat) (v:Value):Prop:=∃b,v= .slice (some ⟨b,0,none⟩) m m∧N≤b∧∀i,i<m→∃x,w.cell? ⟨b,i,none⟩=some (.int .i64 x)
def Pk (m:Nat) (v:Value):Prop:=∃q:Nat,q<m∧v= .int .i64 (q:Int)
def Ix (w:World) (N:Nat) (v:Value):Prop:=∃b i x,v= .pointer (some ⟨b,i,none⟩)∧N≤b∧w.cell? ⟨b,i,none⟩=some (.int .i64 x)
def Ld (v:Value):Prop:=∃x,v= .int .i64 x
def Ag (v:Value):Prop:=∃x y d e,v= .agg #[.int .i64 x,.int .i64 y,.int .i64 d,.int .i64 e]
def Al (w:World) (N:Nat) (v:Value):Prop:=∃g,v= .pointer (some ⟨g,0,none⟩)∧N≤g∧g<w.heap.size∧(∀i,i<4→∃x,w.cell? ⟨g,i,none⟩=some (.int .i64 x))∧∀i,w.frozen? ⟨g,i,none⟩=false
theorem qM {w:World} {b o b' o':Nat} {v:Value} (h:b'≠b):(w.setCell ⟨b,o,none⟩ v).cell? ⟨b',o',none⟩=w.cell? ⟨b',o',none⟩:=
 nC (w:=w) (Below.heap_setCell _ _ _ _ h)
inductive SK where
 |sl (m:Nat)|rd|pk (m:Nat)|ix|ld|ag|no
def KP (B N:Nat) (w:World) (v:Value):SK→Prop
 | .sl m=>Sl w N m v
 | .rd=>v= .pointer (some ⟨B,0,none⟩)
 | .pk m=>Pk m v
 | .ix=>Ix w N v
 | .ld=>Ld v
 | .ag=>Ag v
 | .no=>True
theorem KP.set {B N g o:Nat} {w:World} {v x:Value} {k:SK} (h:KP B N w v k) (hg:g<N):KP B N (w.setCell ⟨g,o,none⟩ x) v k:=by
 cases k with
 |sl m=>
  obtain⟨b,rfl,hN,hc⟩:=h;exact⟨b,rfl,hN,fun i hi=>by obtain⟨y,hy⟩:=hc i hi;exact⟨y,(qM (by omega)).trans hy⟩⟩
 |ix=>
  obtain⟨b,i,y,rfl,hN,hc⟩:=h;exact⟨b,i,y,rfl,hN,(qM (by omega)).trans hc⟩
 |_=>exact h
def S1 (w:World) (N:Nat) (v:Value):Prop:=∃b c x y d e,v= .slice (some ⟨b,0,none⟩) 1 1∧N≤b∧b<w.heap.size∧w.heap[b]? =some (.cells #[.int .i64 c,.int .i64 x,.int .i64 y,.int .i64 d,.int .i64 e] 86)
theorem NN (b o j:Nat):(⟨b,o,none⟩:Addr).add j=⟨b,o+j,none⟩:=by unfold Addr.add;split<;>simp_all
theorem Rd.news {w:World} {b off cap:Nat} {L:List T} (h:Rd w (some ⟨b,off,none⟩) L.length cap (lf L)):∀j u,(aE L)[j]? =some u→w.cell? ((⟨b,off,none⟩:Addr).add j)=some u:=by
 intro j u hu;have hj:j<L.length*5:=by rw[←bJ];exact(List.getElem?_eq_some_iff.1 hu).1
 rw[sM L j hj]at hu;cases hu;rw[NN];rcases h.2.2 with h0|⟨b',off',he,_,hc⟩
 ·omega
 ·cases he;obtain⟨c0,c1,c2,c3,c4⟩:=hc (j / 5) (by omega);have h5:j%5=0∨j%5=1∨j%5=2∨j%5=3∨j%5=4:=by omega
  rcases h5 with h|h|h|h|h
  ·rw[show j=j / 5*5 by omega,cf0];exact c0
  ·rw[show j=j / 5*5+1 by omega,SO,←Nat.add_assoc];exact c1
  ·rw[show j=j / 5*5+2 by omega,SP,←Nat.add_assoc];exact c2
  ·rw[show j=j / 5*5+3 by omega,XD,←Nat.add_assoc];exact c3
  ·rw[show j=j / 5*5+4 by omega,XE,←Nat.add_assoc];exact c4
def kO (L K:List T):List T×Bool:=aZ (lf L) L.length (lf K) K.length
theorem iY {K:List T} {a:T} {g:Nat→T} {lb:Nat} (hK:aH K) (ha:a.m.ok=true∧0≤a.c∧a.c≤100) (hg:mH g lb):∀k K',k≤lb→eO K a g k=some K'→aH K'
 |0,K',_,h=>by cases h;exact hK
 |k+1,K',hk,h=>by
  rw[eO]at h;cases hr:eO K a g k with
  |none=>rw[hr]at h;cases h
  |some K1=>
   rw[hr]at h;change fC K1 a (g k)=some K' at h;have h1:=iY hK ha hg k K1 (by omega) hr
   unfold fC at h;split at h
   ·rename_i hok;cases h;have h2:=hg k (by omega)
    exact(cM h1 (eX ⟨ha.1,h2.1,hok.1,rfl,rfl,rfl,rfl,ha.2,h2.2⟩).1).1
   ·cases h
theorem cE {f g:Nat→T} {la lb:Nat} (hf:mH f la) (hg:mH g lb):∀i K,i≤la→bN f g lb i=some K→aH K
 |0,K,_,h=>by cases h;exact dL
 |i+1,K,hi,h=>by
  rw[bN]at h;cases hr:bN f g lb i with
  |none=>rw[hr]at h;cases h
  |some K1=>
   rw[hr]at h;exact iY (cE hf hg i K1 (by omega) hr) (hf i (by omega)) hg lb K (Nat.le_refl _) h
theorem EY (L K:List T):kO L K=([],false)∨∃P,kO L K=(P,true)∧cJ P=true:=by
 unfold kO aZ;split
 ·rename_i h;obtain⟨l1,g1⟩:=bL h.1;obtain⟨l2,g2⟩:=bL h.2;cases hm:bN (lf L) (lf K) K.length L.length with
  |none=>exact .inl rfl
  |some P=>exact .inr ⟨P,rfl,fO (eJ _ P hm) (cE g1 g2 _ P (Nat.le_refl _) hm)⟩
 ·exact .inl rfl
variable {w:World} {a b:Option Addr} {ca cb:Nat} {L K:List T}
end Go.Proofs.YtelkehjdfcoeiaaGreat
namespace Go.Proofs.YtelkehjdfcoeiaaGreat
open Go.RowKit Go.Deep Go.Joins
set_option linter.unusedVariables false
abbrev dU:Value:=.iface 114 (.agg #[])
theorem eZ (v:Value) (w:World):Calls Tryz.prog 142 #[v,.bool true] w fun r w'=>r= .returned v∧w'=w:=by go_enter Tryz.func142,Tryz.ntmps142;go_wp2;go_ret;exact⟨rfl,rfl⟩
theorem eC (v:Value) (w:World):Calls Tryz.prog 142 #[v,.bool false] w fun r w'=>r= .panicked [{v:=dU,recovered:=false}]∧w'=w:=by go_enter Tryz.func142,Tryz.ntmps142;go_wp2;exact⟨rfl,rfl,rfl⟩
theorem SC (t:TypeId) (w:World):(Instr.typeAssert Value.nilIface t 114 true).run Tryz.prog w= .ok (.tuple #[.agg #[],.bool false]) w:=by kernel_rfl
theorem JT (t:TypeId) (w:World):(Instr.typeAssert dU t 114 true).run Tryz.prog w= .ok (.tuple #[.agg #[],.bool true]) w:=by kernel_rfl
theorem PN (w:World):(binOp BinOp.neq 20 Value.nilIface Value.nilIface).run Tryz.prog w= .ok (.bool false) w:=by kernel_rfl
theorem IX (w:World):(binOp BinOp.neq 20 dU Value.nilIface).run Tryz.prog w= .ok (.bool true) w:=by kernel_rfl
theorem vC (w:World):CallsD Tryz.prog 78 #[] .returning w fun e u' w'=>e= .returned (.tuple #[])∧u'= .returning∧w'=w.alloc (.cells #[] 114):=by
 refine callsD_of_wpS Tryz.func78 rfl fun c₀ cs hu=>?_;apply wpS_seq;apply wpS_region;simp[wpOpsS,go_sem,recoverD,hu,Tryz.ntmps78,Exit.thenS];simp only[Array.replicate];refine wpS_of_wp ?_;have h1:=SC
 have h2:=JT;have h3:=PN
 have h4:=IX;go_wp2;cases c₀
 simp_all [bodyPostS,results,Tryz.results78]
theorem qU (w:World):CallsD Tryz.prog 78 #[] (.panicking [{v:=dU,recovered:=false}]) w fun e u' w'=>e= .returned (.tuple #[])∧u'= .panicking [{v:=dU,recovered:=true}]∧w'=w.alloc (.cells #[] 114):=by
 refine callsD_of_wpS Tryz.func78 rfl fun c₀ cs hu=>?_;apply wpS_seq;apply wpS_region;simp[wpOpsS,go_sem,recoverD,hu,Tryz.ntmps78,Exit.thenS];simp only[Array.replicate];refine wpS_of_wp ?_;have h1:=SC
 have h2:=JT;have h3:=PN
 have h4:=IX;go_wp2;cases c₀
 simp_all [bodyPostS,results,Tryz.results78]
theorem DZ (g:Nat) (lb:Array Value) (w:World) (Q:World→Prop) (eg:∀args w,(callFunc g args).run Tryz.prog w= .ok (.enter g args) w) (h:Calls Tryz.prog g lb w fun r w'=>r= .returned (.tuple #[])∧Q w'):Calls Tryz.prog 37 #[.func (.func g) #[] lb] w fun r w'=>r= .returned (.bool true)∧∃w1,Q w1∧w'=w1.alloc (.cells #[] 114):=by
 have HC:=aA h;clear h
 go_enter_defers Tryz.func37,Tryz.ntmps37
 go_wp2_with fail;refine HC.out.mono ?_;rintro r w1 ⟨rfl,hq⟩;have HQ:=aA hq
 clear hq HC;go_wp2;refine leaves_cons (f:=78) (args:=#[]) (by simp) (by simp[go_sem]) ?_;refine(vC _).mono ?_;rintro e u' w'' ⟨rfl,rfl,rfl⟩;simp[Leaves,settle,results,Tryz.results37,go_sem];exact⟨w1,HQ.out,rfl⟩
theorem GI (g:Nat) (lb:Array Value) (w:World) (Q:World→Prop) (eg:∀args w,(callFunc g args).run Tryz.prog w= .ok (.enter g args) w) (h:Calls Tryz.prog g lb w fun r w'=>r= .panicked [{v:=dU,recovered:=false}]∧Q w'):Calls Tryz.prog 37 #[.func (.func g) #[] lb] w fun r w'=>r= .returned (.bool false)∧∃w1,Q w1∧w'=w1.alloc (.cells #[] 114):=by
 have HC:=aA h;clear h
 go_enter_defers Tryz.func37,Tryz.ntmps37
 go_wp2_with fail;refine HC.out.mono ?_;rintro r w1 ⟨rfl,hq⟩;have HQ:=aA hq
 clear hq HC;go_wp2;refine leaves_cons (f:=78) (args:=#[]) (by simp) (by simp[go_sem]) ?_;refine(qU _).mono ?_;rintro e u' w'' ⟨rfl,rfl,rfl⟩;simp[Leaves,settle,results,Tryz.results37,go_sem];exact⟨w1,HQ.out,rfl⟩
theorem Wr.set {w:World} {a:Option Addr} {n:Nat} {f:Nat→T} {lo B o:Nat} {v:Value} (h:Wr w a n f) (hf:n=0∨∃g off,a=some ⟨g,off,none⟩∧lo≤g) (hB:B<lo):Wr (w.setCell ⟨B,o,none⟩ v) a n f:=by
 rcases h with h0|⟨g,off,N,F,rfl,hR,hN,hF⟩
 ·exact .inl h0
 ·rcases hf with h0|⟨g',off',he,hlo⟩
  ·exact .inl h0
  ·cases he;have hne:g≠B:=by omega
   exact .inr ⟨g,off,N,F,rfl,hR.of_block (Below.heap_setCell _ _ _ _ hne),hN,hF⟩
theorem DX {w:World} {a:Option Addr} {n cap g o:Nat} {f:Nat→T} {v:Value} (h:Rd w a n cap f) (hne:n=0∨∀b off,a=some ⟨b,off,none⟩→b≠g):Rd (w.setCell ⟨g,o,none⟩ v) a n cap f:=
 h.grown (row:=some g) ⟨rfl,rfl,rfl,by simp[World.setCell],fun k _ hk=>Below.heap_setCell _ _ _ _ (fun e=>hk (by rw[e]))⟩ (hne.imp id (fun k b off he hb=>k b off he (by cases hb;rfl)))
theorem gX.set {lo:Nat} {w:World} {a:Option Addr} {cap:Nat} {L:List T} {B o:Nat} {v:Value} (h:gX lo w a cap L) (hB:B<lo):gX lo (w.setCell ⟨B,o,none⟩ v) a cap L:=
 ⟨DX h.1 (h.2.2.imp id (fun⟨g,off,he,hlo⟩ b off' hb=>by rw[he]at hb;cases hb;omega)),h.2.1.set h.2.2 hB,h.2.2⟩
theorem gX.nil (lo:Nat) (w:World):gX lo w none 0 []:=⟨⟨Nat.le_refl _,by simp,.inl rfl⟩,.inl rfl,.inl rfl⟩
theorem gX.low {lo lo':Nat} {w:World} {a:Option Addr} {cap:Nat} {L:List T} (h:gX lo w a cap L) (hl:lo'≤lo):gX lo' w a cap L:=⟨h.1,h.2.1,h.2.2.imp id (fun⟨g,off,he,hlo⟩=>⟨g,off,he,gW hl hlo⟩)⟩
end Go.Proofs.YtelkehjdfcoeiaaGreat
namespace Go.Proofs.YtelkehjdfcoeiaaGreat
open Go.RowKit
set_option linter.unusedVariables false
def aY (o:Int) (n:Nat) (f:Nat→T):Bool:=decide (1≤o∧o≤3)&&aK n f&&decide (0<n)
def bF (o:Int) (n:Nat) (f:Nat→T):T:=if aY o n f=true then f (aT o f n)else⟨0,⟨0,0,0,0⟩⟩
theorem vM {o:Int} {n:Nat} {f:Nat→T} (h:aY o n f=false):bF o n f=⟨0,⟨0,0,0,0⟩⟩:=by rw[bF,if_neg (by rw[h];decide)]
theorem eI {o:Int} {n:Nat} {f:Nat→T} (h:aY o n f=true):bF o n f=f (aT o f n):=by rw[bF,if_pos h]
end Go.Proofs.YtelkehjdfcoeiaaGreat
