/-
  Counting within a side: the model's IdlFlat, all of it.
  The monomials within a side, one behind the other: the program's iterator.
  The program counts within a side (IdlFlat).
-/
import Derived.Test.YtbkighpmkadmmaaMay
import Derived.BigRegionIn
set_option maxHeartbeats 8000000
set_option maxRecDepth 100000
namespace Go.Proofs.Ytbkighpmkadmmaa
open Go.RowKit Go.Deep Go.Joins
set_option linter.unusedVariables false
theorem xC (w:World) (o:Int) (a:Option Addr) (n cap:Nat) (side:Int) (ho:o<1∨(1≤o∧3<o)):Calls Try.prog 18 #[.int .i64 o,.slice a n cap,.int .i64 side] w fun r w'=>r= .returned (.tuple #[.int .i64 0,.bool false])∧Below w.heap.size w w':=by go_enter Try.func18,Try.ntmps18;go_wp2_with (go_at_call 51;refine(bS _ _ _ _ ho).mono ?_;rintro r w' ⟨rfl,hw'⟩;obtain rfl:=hw'.symm;clear hw');refine cN (results_tmp2 rfl _ _ _) rfl ⟨rfl,cM _ _⟩
theorem xA (w:World) (o:Int) (a:Option Addr) (n cap:Nat) (ad:Nat→Option Addr) (ln cp:Nat→Nat) (f:Nat→Nat→T) (side:Int) (h:gO w a n cap ad ln cp f) (o1:1≤o) (o2:o≤3) (hl:aY n ln f=false):Calls Try.prog 18 #[.int .i64 o,.slice a n cap,.int .i64 side] w fun r w'=>r= .returned (.tuple #[.int .i64 0,.bool false])∧Below w.heap.size w w':=by go_enter Try.func18,Try.ntmps18;go_wp2_with (go_at_call 51;refine(bF _ _ _ _ (by omega) (by omega)).mono ?_;rintro r w' ⟨rfl,hw'⟩;obtain rfl:=hw'.symm;clear hw');refine(iK _ _ _ _ _ _ _ _ h).mono ?_;rw[hl];rintro r w1 ⟨rfl,hb1⟩;go_wp2;refine cN (results_tmp2 rfl _ _ _) rfl ⟨rfl,hb1⟩
theorem xD (w:World) (o:Int) (a:Option Addr) (n cap:Nat) (ad:Nat→Option Addr) (ln cp:Nat→Nat) (f:Nat→Nat→T) (side:Int) (h:gO w a n cap ad ln cp f) (o1:1≤o) (o2:o≤3) (hl:aY n ln f=true) (hs:side<0∨(0≤side∧6<side)):Calls Try.prog 18 #[.int .i64 o,.slice a n cap,.int .i64 side] w fun r w'=>r= .returned (.tuple #[.int .i64 0,.bool false])∧Below w.heap.size w w':=by go_enter Try.func18,Try.ntmps18;go_wp2_with (go_at_call 51;refine(bF _ _ _ _ (by omega) (by omega)).mono ?_;rintro r w' ⟨rfl,hw'⟩;obtain rfl:=hw'.symm;clear hw');refine(iK _ _ _ _ _ _ _ _ h).mono ?_;rw[hl];rintro r w1 ⟨rfl,hb1⟩;go_wp2_with (go_at_call 51;refine(bS _ _ _ _ hs).mono ?_;rintro r w' ⟨rfl,hw'⟩;obtain rfl:=hw'.symm;clear hw');refine cN (results_tmp2 rfl _ _ _) rfl ⟨rfl,hb1⟩
theorem CZ (w:World) (o:Int) (a:Option Addr) (n cap:Nat) (ad:Nat→Option Addr) (ln cp:Nat→Nat) (f:Nat→Nat→T) (side:Int) (h:gO w a n cap ad ln cp f):Calls Try.prog 18 #[.int .i64 o,.slice a n cap,.int .i64 side] w fun r w'=>r= .returned (.tuple #[.int .i64 (cD o n ln f side).1,.bool (cD o n ln f side).2])∧Below w.heap.size w w':=by
 by_cases ho:1≤o∧o≤3
 ·by_cases hl:aY n ln f=true
  ·by_cases hs:0≤side∧side≤6
   ·obtain⟨s,rfl⟩:∃s:Nat,side=(s:Int):=⟨side.toNat,by omega⟩
    have e:cD o n ln f (s:Int)=((eX o n ln f s:Int),decide (gX o n ln f s=0)):=by unfold cD;rw[if_pos ⟨ho,hl,hs⟩];rfl
    rw[e];exact vA w o a n cap ad ln cp f s h ho.1 ho.2 hl (by omega)
   ·have e:cD o n ln f side=(0,false):=if_neg (fun c=>hs c.2.2);rw[e];exact xD w o a n cap ad ln cp f side h ho.1 ho.2 hl (by omega)
  ·have e:cD o n ln f side=(0,false):=if_neg (fun c=>hl c.2.1);rw[e];exact xA w o a n cap ad ln cp f side h ho.1 ho.2 (by simpa using hl)
 ·have e:cD o n ln f side=(0,false):=if_neg (fun c=>ho c.1);rw[e];exact xC w o a n cap side (by omega)
end Go.Proofs.Ytbkighpmkadmmaa
namespace Go.Proofs.Ytbkighpmkadmmaa
open Go.RowKit
set_option linter.unusedVariables false
set_option linter.unusedSimpArgs false
def oZ (s n:Nat):M:=fm (n%(s+1)) (n / (s+1)%(s+1)) (n / (s+1) / (s+1)%(s+1)) (n / (s+1) / (s+1) / (s+1))
def fO (s:Nat):Nat→List M
 |0=>[]
 |n+1=>fO s n++[oZ s n]
theorem vM       (s : Nat) {n : Nat} : ∀ {m : Nat}, n ≤ m → fO   s n <+: fO   s m
  | 0, h => by have : n = 0 := by omega
               subst this; exact List.prefix_rfl
  | m + 1, h => by
    rcases Nat.lt_or_ge m n with h1 | h1
    · have : n = m + 1 := by omega
      subst this; exact List.prefix_rfl
    · exact (vM       s h1).trans ⟨_, rfl⟩
def LR (m:M):Array Value:=#[.agg #[.int .i64 m.x,.int .i64 m.y,.int .i64 m.d,.int .i64 m.e]]
theorem JE (s:Nat) (hs:s≤6) (P4:Nat) (hP4:P4=(s+1)*(s+1)*(s+1)*(s+1)) (lo:Nat) (w:World) (hb:Boxed w lo 3 (.int .i64 (s:Int))):LL Try.prog 83 #[.pointer (some ⟨lo,0,none⟩)] LR lo (lo+1) (fO s P4) w:=by
 intro l J Jx W hW hJ hJb hY h0;have hlt:lo<w.heap.size:=hb.lt
 have hB0:Boxed W lo 3 (.int .i64 (s:Int)):=(hW.block _ hlt).trans hb;have HJ:=aA hJ
 have HY:Hid (∀pre x W1,J pre W1→pre++[x]<+:fO s P4→YieldAt Fence.wide 8 Try.prog l (#[.agg #[.int .i64 x.x,.int .i64 x.y,.int .i64 x.d,.int .i64 x.e]]) W1 fun e W'=>(e= .returned (.bool true)∧J (pre++[x]) W'∧oR lo (lo+1) W1 W')∨(e= .returned (.bool false)∧Jx (pre++[x]) W')):=aA (fun pre x W1 a b=>NH 8 (hY pre x W1 a b));clear hJ hJb hY hW hb;refine(callsIn_wide (n:=9)).1 ?_;refine callsIn_of_wp Try.func83 rfl trivial ?_ rfl;simp only[Try.ntmps83,List.size_toArray,List.length_cons,List.length_nil,Nat.reduceAdd,Nat.reduceSub,Array.replicate_succ,Array.replicate_zero,List.push_toArray,List.append_toArray,List.nil_append,List.cons_append];have c1:=hB0.cell
 obtain⟨P2,hP2⟩:∃P2,P2=(s+1)*(s+1):=⟨_,rfl⟩
 obtain⟨P3,hP3⟩:∃P3,P3=P2*(s+1):=⟨_,rfl⟩
 have hP4':P4=P3*(s+1):=by rw[hP4,hP3,hP2]
 have b2:P2≤49:=by rw[hP2];exact kM (Nat.mul_le_mul (by omega:s+1≤7) (by omega:s+1≤7)) (by decide)
 have b3:P3≤343:=by rw[hP3];exact kM (Nat.mul_le_mul b2 (by omega:s+1≤7)) (by decide)
 have b4:P4≤2401:=by rw[hP4'];exact kM (Nat.mul_le_mul b3 (by omega:s+1≤7)) (by decide)
 have i2:((s:Int)+1)*((s:Int)+1)=(P2:Int):=by rw[hP2];simp
 have i3:(P2:Int)*((s:Int)+1)=(P3:Int):=by rw[hP3];simp
 have i4:(P3:Int)*((s:Int)+1)=(P4:Int):=by rw[hP4'];simp
 have s0:(0:Int)≤(s:Int):=by omega
 have s6:(s:Int)≤6:=by omega
 clear hP2 hP3 hP4 hP4'
 gi_wp2
 clear c1 i2 i3 i4
 gi_loopw [15] (fun v wr=>∃n:Nat,n≤P4∧v= .int .i64 (n:Int)∧Hid (J (fO s n) wr)) (fun v _=>P4-(intOf v).toNat)
 case atStart=>exact⟨0,gT _,rfl,aA h0⟩
 case round=>
  obtain⟨n,hn,rfl,HJP⟩:=hrel;have n0:(0:Int)≤(n:Int):=by omega
  by_cases hlt:n<P4
  ·have cn:(n:Int)<(P4:Int):=by omega
   obtain⟨n1,h1⟩:∃n1,n / (s+1)=n1:=⟨_,rfl⟩
   obtain⟨n2,h2⟩:∃n2,n1 / (s+1)=n2:=⟨_,rfl⟩
   obtain⟨n3,h3⟩:∃n3,n2 / (s+1)=n3:=⟨_,rfl⟩
   obtain⟨r0,g0⟩:∃r0,n%(s+1)=r0:=⟨_,rfl⟩
   obtain⟨r1,g1⟩:∃r1,n1%(s+1)=r1:=⟨_,rfl⟩
   obtain⟨r2,g2⟩:∃r2,n2%(s+1)=r2:=⟨_,rfl⟩
   have HX:Hid (oZ s n=fm r0 r1 r2 n3):=by show oZ s n=_;unfold oZ;rw[h1,h2,h3,g0,g1,g2]
   have d1:(n:Int).tdiv ((s:Int)+1)=(n1:Int):=by rw[←h1];exact(Int.ofNat_tdiv n (s+1)).symm
   have d2:(n1:Int).tdiv ((s:Int)+1)=(n2:Int):=by rw[←h2];exact(Int.ofNat_tdiv n1 (s+1)).symm
   have d3:(n2:Int).tdiv ((s:Int)+1)=(n3:Int):=by rw[←h3];exact(Int.ofNat_tdiv n2 (s+1)).symm
   have e0:(n:Int).tmod ((s:Int)+1)=(r0:Int):=by rw[←g0];exact(Int.ofNat_tmod n (s+1)).symm
   have e1:(n1:Int).tmod ((s:Int)+1)=(r1:Int):=by rw[←g1];exact(Int.ofNat_tmod n1 (s+1)).symm
   have e2:(n2:Int).tmod ((s:Int)+1)=(r2:Int):=by rw[←g2];exact(Int.ofNat_tmod n2 (s+1)).symm
   have l1:n1≤n:=by rw[←h1];exact Nat.div_le_self _ _
   have l2:n2≤n1:=by rw[←h2];exact Nat.div_le_self _ _
   have l3:n3≤n2:=by rw[←h3];exact Nat.div_le_self _ _
   have l4:r0≤n:=by rw[←g0];exact Nat.mod_le _ _
   have l5:r1≤n1:=by rw[←g1];exact Nat.mod_le _ _
   have l6:r2≤n2:=by rw[←g2];exact Nat.mod_le _ _
   have hne:¬((s:Int)+1=0):=by omega
   have m0:(n:Int)≤2401:=by omega
   have m1:(n1:Int)≤2401:=by omega
   have m2:(n2:Int)≤2401:=by omega
   have m3:(n3:Int)≤2401:=by omega
   have k1:(0:Int)≤(n1:Int):=by omega
   have k2:(0:Int)≤(n2:Int):=by omega
   have k3:(0:Int)≤(n3:Int):=by omega
   clear h1 h2 h3 g0 g1 g2
   gi_wp2
   gi_region
   obtain⟨q0,q1,q2,q3⟩:=M4.box wr 31 (r0:Int) (r1:Int) (r2:Int) (n3:Int);have hJ5:J (fO s n) (wr.alloc (.cells #[.int .i64 (r0:Int),.int .i64 (r1:Int),.int .i64 (r2:Int),.int .i64 (n3:Int)] 31)).drew:=HJ.out _ _ _ none HJP.out ((World.grownBy_alloc wr _ none).trans ⟨rfl,rfl,rfl,Nat.le_refl _,fun _ _ _=>rfl⟩) (fun r e=>by cases e)
   obtain⟨W5,hW5⟩:∃W5,(wr.alloc (.cells #[.int .i64 (r0:Int),.int .i64 (r1:Int),.int .i64 (r2:Int),.int .i64 (n3:Int)] 31)).drew=W5:=⟨_,rfl⟩
   have y0:W5.cell? ⟨wr.heap.size,0,none⟩=some (.int .i64 (r0:Int)):=by rw[←hW5];exact q0
   have y1:W5.cell? ⟨wr.heap.size,1,none⟩=some (.int .i64 (r1:Int)):=by rw[←hW5];exact q1
   have y2:W5.cell? ⟨wr.heap.size,2,none⟩=some (.int .i64 (r2:Int)):=by rw[←hW5];exact q2
   have y3:W5.cell? ⟨wr.heap.size,3,none⟩=some (.int .i64 (n3:Int)):=by rw[←hW5];exact q3
   rw[hW5]at hJ5;rw[hW5];have HPR:Hid (fO s n++[fm r0 r1 r2 n3]=fO s (n+1)):=by show _=_;rw[←HX.out];rfl
   have hpre:fO s n++[fm r0 r1 r2 n3]<+:fO s P4:=by rw[HPR.out];exact vM s (by omega)
   have HPRE:=aA hpre;obtain⟨R,hR⟩:∃R:Ending→World→Prop,R=fun e W'=>(e= .returned (.bool true)∧J (fO s n++[fm r0 r1 r2 n3]) W'∧oR lo (lo+1) W5 W')∨(e= .returned (.bool false)∧Jx (fO s n++[fm r0 r1 r2 n3]) W'):=⟨_,rfl⟩
   have HR:=aA hR;have hy:YieldAt Fence.wide 8 Try.prog l (#[.agg #[.int .i64 (r0:Int),.int .i64 (r1:Int),.int .i64 (r2:Int),.int .i64 (n3:Int)]]) W5 R:=by rw[hR];exact HY.out (fO s n) (fm r0 r1 r2 n3) W5 hJ5 hpre
   obtain⟨fn,tmps,assign,body,hyl,hRd⟩:=hy;clear hR hpre hW5 q0 q1 q2 q3 hJ5 d1 d2 d3 e0 e1 e2
   gi_wp2_with gi_in
   refine hRd.mono ?_;rw[HR.out];rintro e W3 (⟨rfl,hJ3,hk3⟩|⟨rfl,hJx3⟩)
   ·rw[HPR.out]at hJ3;have HJ3:=aA hJ3
    clear hJ3 hk3 y0 y1 y2 y3
    gi_wp2
    go_roundw;case rel=>exact⟨n+1,by omega,by go_num,HJ3⟩
    case measure=>simp[intOf];omega
   ·clear y0 y1 y2 y3
    gi_wp2
    refine cN (results_none rfl _ _ _) rfl ?_;exact⟨⟨_,rfl⟩,.inr ⟨_,HPRE.out,hJx3⟩⟩
  ·have cn:¬(n:Int)<(P4:Int):=by omega
   have zn:n=P4:=by omega
   have HJE:Hid (J (fO s P4) wr):=by rw[←zn];exact HJP
   clear zn
   gi_wp2
   go_end0
   exact⟨⟨_,rfl⟩,.inl HJE.out⟩
open Go.RowKit Go.Deep Go.Joins
attribute [local go_sem] Oper.semAt_some
theorem xE (s:Nat) (w:World):Calls Try.prog 49 #[.int .i64 (s:Int)] w fun r w'=>r= .returned (.func (.func 83) #[] #[.pointer (some ⟨w.heap.size,0,none⟩)])∧w'=w.alloc (.cells #[.int .i64 (s:Int)] 3):=by go_enter Try.func49,Try.ntmps49;go_wp2;go_ret;exact⟨rfl,rfl⟩
def pN (G:M→Bool) (pre:List M):Nat:=(pre.filter G).length
def pP (G:M→Bool) (s:Nat) (pre:List M):Nat:=(pre.filter fun m=>G m&&decide (m.x=s∨m.y=s∨m.d=s∨m.e=s)).length
theorem kP (G:M→Bool) (pre:List M) (x:M):pN G (pre++[x])=pN G pre+(if G x=true then 1 else 0):=by unfold pN;rw[List.filter_append,List.length_append];by_cases h:G x=true<;>simp[h,List.filter]
theorem kR (G:M→Bool) (s:Nat) (pre:List M) (x:M):pP G s (pre++[x])=pP G s pre+(if G x=true∧(x.x=s∨x.y=s∨x.d=s∨x.e=s)then 1 else 0):=by unfold pP;rw[List.filter_append,List.length_append];by_cases h:G x=true<;>by_cases h2:(x.x=s∨x.y=s∨x.d=s∨x.e=s)<;>simp[h,h2,List.filter]
theorem GI (G:M→Bool) (pre:List M):pN G pre≤pre.length:=List.length_filter_le _ _
theorem vK (s:Nat):∀n,(fO s n).length=n
 |0=>rfl
 |n+1=>by show(fO s n++[_]).length=n+1;rw[List.length_append,vK s n];rfl
theorem yK (G:M→Bool) (s:Nat):∀n,pN G (fO s n)=aD (fun k=>if G (oZ s k)=true then 1 else 0) n
 |0=>rfl
 |n+1=>by show pN G (fO s n++[oZ s n])=_;rw[kP,yK G s n];rfl
theorem yM (G:M→Bool) (s:Nat):∀n,pP G s (fO s n)=aD (fun k=>if G (oZ s k)=true∧((oZ s k).x=s∨(oZ s k).y=s∨(oZ s k).d=s∨(oZ s k).e=s)then 1 else 0) n
 |0=>rfl
 |n+1=>by show pP G s (fO s n++[oZ s n])=_;rw[kR,yM G s n];rfl
theorem sJ (b:Nat):b*b*b*b=b*(b*(b*b)):=by rw[Nat.mul_assoc,Nat.mul_assoc]
theorem CI (o:Int) (n:Nat) (ln:Nat→Nat) (f:Nat→Nat→T) (s:Nat):pN (cQ o n ln f) (fO s ((s+1)*(s+1)*(s+1)*(s+1)))=eX o n ln f s:=by rw[yK,sJ];exact wK (fun x y d e=>if cQ o n ln f (fm x y d e)=true then 1 else 0) (Nat.succ_pos s)
theorem CK (o:Int) (n:Nat) (ln:Nat→Nat) (f:Nat→Nat→T) (s:Nat):pP (cQ o n ln f) s (fO s ((s+1)*(s+1)*(s+1)*(s+1)))=gX o n ln f s:=by
 rw[yM,sJ,←show _=gX o n ln f s from wK (fun x y d e=>if cQ o n ln f (fm x y d e)=true∧oI s x y d e=true then 1 else 0) (Nat.succ_pos s)];refine bA fun k _=>?_;have e:oI s (k%(s+1)) (k / (s+1)%(s+1)) (k / (s+1) / (s+1)%(s+1)) (k / (s+1) / (s+1) / (s+1))=true↔((oZ s k).x=s∨(oZ s k).y=s∨(oZ s k).d=s∨(oZ s k).e=s):=by unfold oI oZ fm;rw[decide_eq_true_iff];simp only[Int.ofNat_inj]
 by_cases hh:(oZ s k).x=s∨(oZ s k).y=s∨(oZ s k).d=s∨(oZ s k).e=s
 ·have h2:=e.2 hh;by_cases hg:cQ o n ln f (oZ s k)=true
  ·exact(if_pos ⟨hg,hh⟩).trans (if_pos ⟨hg,h2⟩).symm
  ·exact(if_neg (fun c=>hg c.1)).trans (if_neg (fun c=>hg c.1)).symm
 ·exact(if_neg (fun c=>hh c.2)).trans (if_neg (fun c=>hh (e.1 c.2))).symm
theorem oO {p:T→Bool} {f g:Nat→T}:∀{n:Nat},(∀i,i<n→f i=g i)→eO p f n=eO p g n
 |0,_=>rfl
 |n+1,h=>by unfold eO;rw[oO (p:=p) (f:=f) (g:=g) (n:=n) (fun i hi=>h i (by omega)),h n (by omega)]
theorem pB {B:Nat} {W W':World} (h:Below W.heap.size W W'):KeepsFrom B W W':=⟨h.size,fun k o _ hk _=>(h.block k (Array.getElem?_eq_some_iff.1 hk).1).trans hk⟩
theorem pD {lo hi k:Nat} (hk:k<lo) (A:World) (v:Value):oR lo hi A (A.setCell ⟨k,0,none⟩ v):=⟨by simp[World.setCell],fun j h1 h2=>Below.heap_setCell _ _ _ _ (by simp;omega)⟩
theorem DY {X Y:World} {row:Option Nat} {B k:Nat} {o:Obj} (h:X.heap[k]? =some o) (ho:o.isCells=true) (hg:X.grownBy Y row) (hr:∀r,row=some r→B≤r∧∃o:Obj,X.heap[r]? =some o∧o.isCells=false):Y.heap[k]? =some o:=
 (hg.block k (Array.getElem?_eq_some_iff.1 h).1 (fun e=>by obtain⟨_,o',h1,h2⟩:=hr k e.symm;rw[h]at h1;cases h1;rw[ho]at h2;cases h2)).trans h
def FI (w1:World) (v:Value) (G:M→Bool) (s:Nat) (pre:List M) (W:World):Prop:=
 Below w1.heap.size w1 W∧(Boxed W w1.heap.size 29 v∧(Boxed W (w1.heap.size+1) 3 (.int .i64 (pN G pre:Int))∧(Boxed W (w1.heap.size+2) 4 (.bool (decide (pP G s pre=0)))∧w1.heap.size+4≤W.heap.size)))
theorem CQ (w1:World) (v:Value) (G:M→Bool) (s B:Nat) (hB:w1.heap.size+4≤B):OwnFrom B (FI w1 v G s):=fun pre A C row hs hg hr=>
 ⟨ownFrom_below (β:=Unit) (Nat.le_refl _) (by omega:w1.heap.size≤B) () A C row hs.1 hg hr,kK hg (fun r e=>(hr r e).1) hs.2.1 (by omega),kK hg (fun r e=>(hr r e).1) hs.2.2.1 (by omega),kK hg (fun r e=>(hr r e).1) hs.2.2.2.1 (by omega),kM hs.2.2.2.2 hg.size⟩
theorem KF {w1 A:World} {v:Value} {G:M→Bool} {s:Nat} {pre:List M} (h:FI w1 v G s pre A) {k:Nat} (h1:w1.heap.size+3≤k) (u:Value):FI w1 v G s pre (A.setCell ⟨k,0,none⟩ u):=
 ⟨h.1.setCell (by simp;omega) _,h.2.1.other (by omega) _,h.2.2.1.other (by omega) _,h.2.2.2.1.other (by omega) _,by simp[World.setCell];exact h.2.2.2.2⟩
theorem DK {P:Program} (w:World) (ts:Array TypeId) (t:TypeId) (x y z u:Int):(Builtin.max_ ts t #[.int .i64 x,.int .i64 y,.int .i64 z,.int .i64 u]).run P w= .ok (.int .i64 (max (max (max x y) z) u)) w:=by
 have e:∀a b:Int,(if a<b then b else a)=max a b:=fun a b=>by rw[Int.max_def];split<;>split<;>omega
 simp[Builtin.max_,Builtin.max2,e]
theorem CO {w1 W:World} {v:Value} {G:M→Bool} {s:Nat} {pre:List M} {C:Nat} {fl:Bool} (hc:pN G pre=C) (hf:decide (pP G s pre=0)=fl) (hB:Below w1.heap.size w1 W) (b1:Boxed W w1.heap.size 29 v) (b2:Boxed W (w1.heap.size+1) 3 (.int .i64 (C:Int))) (b3:Boxed W (w1.heap.size+2) 4 (.bool fl)) (hz:w1.heap.size+4≤W.heap.size):FI w1 v G s pre W:=by subst hc hf;exact⟨hB,b1,b2,b3,hz⟩
theorem vF {s:Nat} {x:M}:∀{m:Nat},x∈fO s m→∃k,k<m∧x=oZ s k
 |0,h=>by cases h
 |m+1,h=>by
  have h':x∈fO s m++[oZ s m]:=h;rw[List.mem_append,List.mem_singleton]at h';rcases h' with h1|rfl
  ·obtain⟨k,hk,e⟩:=vF h1;exact⟨k,by omega,e⟩
  ·exact⟨m,by omega,rfl⟩
theorem IK {s P4:Nat} (hP:P4=(s+1)*(s+1)*(s+1)*(s+1)) {x:M} (h:x∈fO s P4):(0≤x.x∧x.x≤s)∧(0≤x.y∧x.y≤s)∧(0≤x.d∧x.d≤s)∧(0≤x.e∧x.e≤s):=by
 obtain⟨k,hk,rfl⟩:=vF h;rw[hP,sJ]at hk;have h1:=Nat.div_lt_of_lt_mul (Nat.div_lt_of_lt_mul (Nat.div_lt_of_lt_mul hk))
 have m1:=Nat.mod_lt k (Nat.succ_pos s);have m2:=Nat.mod_lt (k / (s+1)) (Nat.succ_pos s)
 have m3:=Nat.mod_lt (k / (s+1) / (s+1)) (Nat.succ_pos s);exact⟨⟨Int.natCast_nonneg _,Int.ofNat_le.2 (Nat.le_of_lt_succ m1)⟩,⟨Int.natCast_nonneg _,Int.ofNat_le.2 (Nat.le_of_lt_succ m2)⟩,⟨Int.natCast_nonneg _,Int.ofNat_le.2 (Nat.le_of_lt_succ m3)⟩,⟨Int.natCast_nonneg _,Int.ofNat_le.2 (Nat.le_of_lt_succ h1)⟩⟩
theorem uZ (w:World) (o:Int) (a:Option Addr) (n cap:Nat) (ad:Nat→Option Addr) (ln cp:Nat→Nat) (f:Nat→Nat→T) (s:Nat) (h:gO w a n cap ad ln cp f) (o1:1≤o) (o2:o≤3) (hl:aY n ln f=true) (hs:s≤6):Calls Try.prog 17 #[.int .i64 o,.slice a n cap,.int .i64 (s:Int)] w fun r w'=>r= .returned (.tuple #[.int .i64 (eX o n ln f s:Int),.bool (decide (gX o n ln f s=0))])∧Below w.heap.size w w':=by
 have HL:=aA (rK (w.alloc (.cells #[.int .i64 (s:Int)] 3)) o a n cap ad ln cp f (h.below (aC w _)) o1 o2 hl);have hn:=(aZ hl).1
 have e1:decide ((s:Int)<0)=false:=decide_eq_false (by omega);have e2:decide ((6:Int)<(s:Int))=false:=decide_eq_false (by omega)
 have s0:¬(s:Int)<0:=by omega
 have s6:¬(6:Int)<(s:Int):=by omega
 have hb0:=Boxed.new w 3 (.int .i64 (s:Int));have HB0:=aA hb0
 obtain⟨w0,hw0⟩:∃w0,w.alloc (.cells #[.int .i64 (s:Int)] 3)=w0:=⟨_,rfl⟩
 have HW0:Hid (Below w.heap.size w w0):=by rw[←hw0];exact aA (aC w _)
 have hz0:w0.heap.size=w.heap.size+1:=by rw[←hw0];simp
 rw[hw0]at HL HB0;clear hb0;obtain⟨G,hG⟩:∃G:M→Bool,G=cQ o n ln f:=⟨_,rfl⟩
 have HG:=aA hG;clear hG h;refine(callsIn_wide (n:=9)).1 ?_;refine callsIn_of_wp_marks Try.func17 rfl trivial ?_ rfl;simp only[Try.ntmps17,List.size_toArray,List.length_cons,List.length_nil,Nat.reduceAdd,Nat.reduceSub,Array.replicate_succ,Array.replicate_zero,List.push_toArray,List.append_toArray,List.nil_append,List.cons_append]
 gi_wp2_with (first
  |(refine⟨trivial,?_⟩;gi_at_call 44;refine(callsIn_wide.2 HL.out).mono ?_;rintro e w1 ⟨v,rfl,hb1,hown1⟩;obtain⟨a5,c5,hv5,hout⟩:=aI hown1 (by rw[fK];omega);rw[fK]at hv5;subst hv5;have HB1:=aA hb1;have HRD1:=aA hout.1;have hbx:Boxed w1 w.heap.size 3 (.int .i64 (s:Int)):=(hb1.block _ (by omega)).trans HB0.out;have hlx:=hbx.lt;have hbx2:=hbx.alloc (.cells #[.slice a5 n c5] 29);have c1:=hbx2.cell;have hbx3:=(hbx2.alloc (.cells #[.int .i64 0] 3)).alloc (.cells #[.bool true] 4);have c2:=hbx3.cell;have HBX:=aA hbx;clear hb1 hown1 hout hbx hbx2 hbx3)
  |(refine⟨trivial,?_⟩;gi_at_call 49;refine(callsIn_wide.2 (xE s _)).mono ?_;rintro e w4 ⟨rfl,hw4⟩)
  |gi_in)
 obtain⟨P4,hP4⟩:∃P4,P4=(s+1)*(s+1)*(s+1)*(s+1):=⟨_,rfl⟩
 have HP4:=aA hP4;have hbB:Boxed w4 (w1.heap.size+1+1+1) 3 (.int .i64 (s:Int)):=by
  rw[hw4];have:=Boxed.new (((w1.alloc (.cells #[.slice a5 n c5] 29)).alloc (.cells #[.int .i64 0] 3)).alloc (.cells #[.bool true] 4)) 3 (.int .i64 (s:Int))
  rwa[World.size_alloc,World.size_alloc,World.size_alloc]at this
 have HSQ:=aA (JE s hs P4 hP4 (w1.heap.size+1+1+1) w4 hbB);have hz4:w4.heap.size=w1.heap.size+1+1+1+1:=by rw[hw4];simp
 have HST:Hid (FI w1 (.slice a5 n c5) G s [] w4):=by
  show FI w1 (.slice a5 n c5) G s [] w4;have g1:=Boxed.new w1 29 (.slice a5 n c5)
  have g2:=Boxed.new (w1.alloc (.cells #[.slice a5 n c5] 29)) 3 (.int .i64 0);have g3:=Boxed.new ((w1.alloc (.cells #[.slice a5 n c5] 29)).alloc (.cells #[.int .i64 0] 3)) 4 (.bool true)
  rw[World.size_alloc]at g2;rw[World.size_alloc,World.size_alloc]at g3;rw[hw4];exact⟨aB (aB (aS w1 _ _) (aC _ _)) (aC _ _),((g1.alloc _).alloc _).alloc _,(g2.alloc _).alloc _,g3.alloc _,by simp⟩
 rw[←hw4];clear hw4 hbB hP4 hw0 HL HB0
 refine KW (w0:=w4) (by decide) (gf:=83) (lb:=#[.pointer (some ⟨w1.heap.size+1+1+1,0,none⟩)]) rfl (enters_of Try.func83 (by kernel_rfl) rfl) HSQ.out (cM _ _) (by omega) (fun _=>rfl)
  (FI w1 (.slice a5 n c5) G s) (fun _ _ _=>False) (CQ _ _ _ _ _ (by omega)) (fun pre A k v a b h=>KF h (by omega) v) (fun c _ _ _ _ hs _ _=>hs) HST.out
  (fun x a' W=>∃b,w1.heap.size+4≤b∧W.heap[b]? =some (.cells #[.int .i64 x.x,.int .i64 x.y,.int .i64 x.d,.int .i64 x.e] 31)∧a'=({tmps:=#[.int .i64 o,.slice a n cap,.int .i64 (s:Int),undef,undef,.pointer (some ⟨w.heap.size,0,none⟩),.int .i64 0,.bool false,.pointer (some ⟨w1.heap.size,0,none⟩),.bool true,.pointer (some ⟨w1.heap.size+1,0,none⟩),.pointer (some ⟨w1.heap.size+1+1,0,none⟩),.pointer (some ⟨b,0,none⟩),.tuple #[.slice a5 n c5,.bool true],.int .i64 o,.slice a n cap,.tuple #[.slice a5 n c5,.bool true],.slice a5 n c5,.bool true,.bool true,.bool false,.bool false,.int .i64 (s:Int),.bool false,.bool false,.bool false,.int .i64 (s:Int),.bool false,.bool false,.int .i64 (s:Int),.func (.func 83) #[] #[.pointer (some ⟨w1.heap.size+1+1+1,0,none⟩)],.agg #[.int .i64 x.x,.int .i64 x.y,.int .i64 x.d,.int .i64 x.e],undef,undef,undef,undef,undef,undef,undef,undef,undef,undef,undef,undef,undef,undef,undef,undef,undef,undef,undef,undef,undef,undef],defers:=[]}:Act))
  (fun x a' _ X Y row hs hg hr=>by obtain⟨b,h1,h2,h3⟩:=hs;exact⟨b,h1,DY h2 rfl hg hr,h3⟩) ?assign ?body ?done ?stop
 case assign=>
  rintro l pre x W K' hI hK';dsimp only[LR]at hK'⊢
  gi_wp2
  exact hK' _ _ (pB (aC W _)) (oR.below (aC W _) (by have:=hI.2.2.2.2;omega)) ((CQ _ _ _ _ (w1.heap.size+4) (Nat.le_refl _)).alloc _ hI) ⟨W.heap.size,hI.2.2.2.2,World.alloc_heap_new W _,rfl⟩
 case body=>
  rintro l pre x a' W hI ⟨b,hb4,hblk,rfl⟩ hpre;obtain⟨hB,g1,g2,g3,hz⟩:=hI;have hP:P4≤2401:=by rw[HP4.out];exact kM (Nat.mul_le_mul (Nat.mul_le_mul (Nat.mul_le_mul (by omega:s+1≤7) (by omega:s+1≤7)) (by omega:s+1≤7)) (by omega:s+1≤7)) (by decide)
  have hcl:pN G pre≤2401:=by
   have h1:=GI G pre;have h2:=hpre.length_le
   rw[vK,List.length_append]at h2;omega
  have hbd:=IK HP4.out (hpre.subset (by simp:x∈pre++[x]));obtain⟨mxv,hmx⟩:∃m,max (max (max x.x x.y) x.d) x.e=m:=⟨_,rfl⟩
  have HMX:Hid ((x.x=s∨x.y=s∨x.d=s∨x.e=s)↔¬mxv<(s:Int)):=by show(x.x=s∨x.y=s∨x.d=s∨x.e=s)↔¬mxv<(s:Int);rw[←hmx];omega
  have hmr:∀(W:World) (ts:Array TypeId) (t:TypeId),(Builtin.max_ ts t #[.int .i64 x.x,.int .i64 x.y,.int .i64 x.d,.int .i64 x.e]).run Try.prog W= .ok (.int .i64 mxv) W:=fun W ts t=>by rw[DK,hmx]
  clear hmx hbd;have hrd:=HRD1.out.below hB
  rw[fK]at hrd;have hRF:=BI W a5 n c5 _ x hrd
  obtain⟨ix,hix⟩:∃ix,eO (fun t=>M.dvd t.m x) (lf (mS o ln f n)) n=ix:=⟨_,rfl⟩
  rw[hix]at hRF;have HRF:=aA hRF
  have HGX:Hid (G x=decide (ix<0)):=by show G x=decide (ix<0);rw[HG.out,←hix,oO (fun i hi=>yY o ln f n i hi)];rfl
  have HBW:=aA hB;have HG1:=aA g1
  have HG2:=aA g2;have HG3:=aA g3
  have HSD:Hid (Boxed W w.heap.size 3 (.int .i64 (s:Int))):=aA ((hB.block _ hlx).trans HBX.out);have HBK:=aA hblk
  have hbW:b<W.heap.size:=(Array.getElem?_eq_some_iff.1 hblk).1;obtain⟨C,hC⟩:∃C,pN G pre=C:=⟨_,rfl⟩
  obtain⟨fl,hfl⟩:∃fl,decide (pP G s pre=0)=fl:=⟨_,rfl⟩
  rw[hC]at HG2 hcl;rw[hfl]at HG3;have HC:=aA hC
  have HFL:=aA hfl;have c0:=g1.cell
  have m0:W.cell? ⟨b,0,none⟩=some (.int .i64 x.x):=World.news_of_block hblk 0 _ rfl;have m1:W.cell? ⟨b,1,none⟩=some (.int .i64 x.y):=World.news_of_block hblk 1 _ rfl
  have m2:W.cell? ⟨b,2,none⟩=some (.int .i64 x.d):=World.news_of_block hblk 2 _ rfl;have m3:W.cell? ⟨b,3,none⟩=some (.int .i64 x.e):=World.news_of_block hblk 3 _ rfl
  clear hrd hRF hix hB g1 g2 g3 hC hfl hblk c1 c2;by_cases hx:ix<0
  ·have hcI:(C:Int)≤2401:=by omega
   cases fl
   ·gi_wp2_with (first
     |(refine⟨trivial,rfl,?_⟩;gi_at_call 50;refine(CallsIn.inRound l (callsIn_wide.2 HRF.out)).mono ?_;rintro e w5 ⟨rfl,hb5⟩;have h2:Boxed w5 (w1.heap.size+1) 3 (.int .i64 (C:Int)):=(hb5.block _ (by omega)).trans HG2.out;have h3:Boxed w5 (w1.heap.size+1+1) 4 (.bool false):=(hb5.block _ (by omega)).trans HG3.out;have d1:=h2.cell;have d2:=h2.frozen;have h4:Boxed (w5.setCell ⟨w1.heap.size+1,0,none⟩ (.int .i64 ((C:Int)+1))) (w1.heap.size+1+1) 4 (.bool false):=h3.other (by omega) _;have d3:=h4.cell;have d4:=h4.frozen;have HB5:=aA hb5;have H2:=aA h2;have H3:=aA h3;clear m0 m1 m2 m3 c0 hb5 h2 h3 h4)
     |gi_in)
    have hgx:G x=true:=by rw[HGX.out];exact decide_eq_true hx
    have b2':Boxed ((w5.setCell ⟨w1.heap.size+1,0,none⟩ (.int .i64 ((C:Int)+1))).setCell ⟨w1.heap.size+1+1,0,none⟩ (.bool false)) (w1.heap.size+1) 3 (.int .i64 ((C+1:Nat):Int)):=(H2.out.set _).other (by omega) _;have b3':Boxed ((w5.setCell ⟨w1.heap.size+1,0,none⟩ (.int .i64 ((C:Int)+1))).setCell ⟨w1.heap.size+1+1,0,none⟩ (.bool false)) (w1.heap.size+1+1) 4 (.bool false):=(H3.out.other (by omega) _).set _
    have b1':Boxed ((w5.setCell ⟨w1.heap.size+1,0,none⟩ (.int .i64 ((C:Int)+1))).setCell ⟨w1.heap.size+1+1,0,none⟩ (.bool false)) w1.heap.size 29 (.slice a5 n c5):=(Boxed.other (Boxed.other ((HB5.out.block _ (by omega)).trans HG1.out) (by omega) _) (by omega) _)
    have hBf:Below w1.heap.size w1 ((w5.setCell ⟨w1.heap.size+1,0,none⟩ (.int .i64 ((C:Int)+1))).setCell ⟨w1.heap.size+1+1,0,none⟩ (.bool false)):=((aB HBW.out HB5.out).setCell (p:=⟨w1.heap.size+1,0,none⟩) (by simp) _).setCell (p:=⟨w1.heap.size+1+1,0,none⟩) (by simp;omega) _;refine⟨(pB HB5.out).trans (((KeepsOthers.setCell _ _ _).trans (KeepsOthers.setCell _ _ _)).from _),(oR.below HB5.out (by omega)).trans ((pD (by omega) _ _).trans (pD (by omega) _ _)),CO (C:=C+1) (fl:=false) ?_ ?_ hBf b1' b2' b3' (by have:=HB5.out.size;simp[World.setCell];omega)⟩
    ·rw[kP,if_pos hgx,HC.out]
    ·have h1:=HFL.out;have h2:pP G s pre≠0:=of_decide_eq_false h1
     exact decide_eq_false (by rw[kR];omega)
   ·gi_wp2_with (first
     |(refine⟨trivial,rfl,?_⟩;gi_at_call 50;refine(CallsIn.inRound l (callsIn_wide.2 HRF.out)).mono ?_;rintro e w5 ⟨rfl,hb5⟩;have h2:Boxed w5 (w1.heap.size+1) 3 (.int .i64 (C:Int)):=(hb5.block _ (by omega)).trans HG2.out;have h3:Boxed w5 (w1.heap.size+1+1) 4 (.bool true):=(hb5.block _ (by omega)).trans HG3.out;have h5:Boxed w5 w.heap.size 3 (.int .i64 (s:Int)):=(hb5.block _ (by omega)).trans HSD.out;have h6:=(hb5.block b hbW).trans HBK.out;have d1:=h2.cell;have d2:=h2.frozen;have h4:Boxed (w5.setCell ⟨w1.heap.size+1,0,none⟩ (.int .i64 ((C:Int)+1))) (w1.heap.size+1+1) 4 (.bool true):=h3.other (by omega) _;have d3:=h4.cell;have d4:=h4.frozen;have h8:Boxed (w5.setCell ⟨w1.heap.size+1,0,none⟩ (.int .i64 ((C:Int)+1))) w.heap.size 3 (.int .i64 (s:Int)):=h5.other (by omega) _;have d5:=h8.cell;have h7:(w5.setCell ⟨w1.heap.size+1,0,none⟩ (.int .i64 ((C:Int)+1))).heap[b]? =some (.cells #[.int .i64 x.x,.int .i64 x.y,.int .i64 x.d,.int .i64 x.e] 31):=(Below.heap_setCell _ _ _ _ (by first|omega|(simp;omega))).trans h6;clear m0 m1 m2 m3 c0;have m0:(w5.setCell ⟨w1.heap.size+1,0,none⟩ (.int .i64 ((C:Int)+1))).cell? ⟨b,0,none⟩=some (.int .i64 x.x):=World.news_of_block h7 0 _ rfl;have m1:(w5.setCell ⟨w1.heap.size+1,0,none⟩ (.int .i64 ((C:Int)+1))).cell? ⟨b,1,none⟩=some (.int .i64 x.y):=World.news_of_block h7 1 _ rfl;have m2:(w5.setCell ⟨w1.heap.size+1,0,none⟩ (.int .i64 ((C:Int)+1))).cell? ⟨b,2,none⟩=some (.int .i64 x.d):=World.news_of_block h7 2 _ rfl;have m3:(w5.setCell ⟨w1.heap.size+1,0,none⟩ (.int .i64 ((C:Int)+1))).cell? ⟨b,3,none⟩=some (.int .i64 x.e):=World.news_of_block h7 3 _ rfl;have HB5:=aA hb5;have H2:=aA h2;have H3:=aA h3;clear hb5 h2 h3 h4 h5 h6 h7 h8)
     |gi_in)
    have hgx:G x=true:=by rw[HGX.out];exact decide_eq_true hx
    have b2':Boxed ((w5.setCell ⟨w1.heap.size+1,0,none⟩ (.int .i64 ((C:Int)+1))).setCell ⟨w1.heap.size+1+1,0,none⟩ (.bool (decide (mxv<(s:Int))))) (w1.heap.size+1) 3 (.int .i64 ((C+1:Nat):Int)):=(H2.out.set _).other (by omega) _;have b3':Boxed ((w5.setCell ⟨w1.heap.size+1,0,none⟩ (.int .i64 ((C:Int)+1))).setCell ⟨w1.heap.size+1+1,0,none⟩ (.bool (decide (mxv<(s:Int))))) (w1.heap.size+1+1) 4 (.bool (decide (mxv<(s:Int)))):=(H3.out.other (by omega) _).set _
    have b1':Boxed ((w5.setCell ⟨w1.heap.size+1,0,none⟩ (.int .i64 ((C:Int)+1))).setCell ⟨w1.heap.size+1+1,0,none⟩ (.bool (decide (mxv<(s:Int))))) w1.heap.size 29 (.slice a5 n c5):=(Boxed.other (Boxed.other ((HB5.out.block _ (by omega)).trans HG1.out) (by omega) _) (by omega) _)
    have hBf:Below w1.heap.size w1 ((w5.setCell ⟨w1.heap.size+1,0,none⟩ (.int .i64 ((C:Int)+1))).setCell ⟨w1.heap.size+1+1,0,none⟩ (.bool (decide (mxv<(s:Int))))):=((aB HBW.out HB5.out).setCell (p:=⟨w1.heap.size+1,0,none⟩) (by simp) _).setCell (p:=⟨w1.heap.size+1+1,0,none⟩) (by simp;omega) _;refine⟨(pB HB5.out).trans (((KeepsOthers.setCell _ _ _).trans (KeepsOthers.setCell _ _ _)).from _),(oR.below HB5.out (by omega)).trans ((pD (by omega) _ _).trans (pD (by omega) _ _)),CO (C:=C+1) (fl:=(decide (mxv<(s:Int)))) ?_ ?_ hBf b1' b2' b3' (by have:=HB5.out.size;simp[World.setCell];omega)⟩
    ·rw[kP,if_pos hgx,HC.out]
    ·have h2:pP G s pre=0:=of_decide_eq_true HFL.out;have h3:=HMX.out
     rw[kR,h2];by_cases hh:x.x=s∨x.y=s∨x.d=s∨x.e=s
     ·rw[if_pos ⟨hgx,hh⟩,decide_eq_false (by omega),decide_eq_false (by omega)]
     ·rw[if_neg (fun c=>hh c.2),decide_eq_true (by omega),decide_eq_true (by omega)]
  ·gi_wp2_with (first
    |(refine⟨trivial,rfl,?_⟩;gi_at_call 50;refine(CallsIn.inRound l (callsIn_wide.2 HRF.out)).mono ?_;rintro e w5 ⟨rfl,hb5⟩;have HB5:=aA hb5;clear m0 m1 m2 m3 c0 hb5)
    |gi_in)
   have hgx:¬G x=true:=by rw[HGX.out];simpa using hx
   refine⟨pB HB5.out,oR.below HB5.out (by omega),CO (C:=C) (fl:=fl) ?_ ?_ (aB HBW.out HB5.out) ((HB5.out.block _ (by omega)).trans HG1.out) ((HB5.out.block _ (by omega)).trans HG2.out) ((HB5.out.block _ (by omega)).trans HG3.out) (by have:=HB5.out.size;omega)⟩
   ·rw[kP,if_neg hgx];exact HC.out
   ·rw[kR,if_neg (fun c=>hgx c.1)];exact HFL.out
 case done=>
  rintro D W hD ⟨hB,b1,b2,b3,hz⟩ hKd;have k1:=b2.cell
  have k2:=b3.cell;rw[show w1.heap.size+2=w1.heap.size+1+1 from rfl]at k2
  gi_wp2
  gi_region
  gi_wp2
  have hK5:W.drew.heap[D]? =some (.deferred (some [])):=hKd
  refine⟨by simp,.inl ⟨_,_,rfl,run_takeDeferred hK5,?_⟩⟩;refine⟨_,results_tmp2 rfl _ _ _,?_⟩;refine⟨?_,?_⟩
  ·rw[HG.out,HP4.out,CI,CK];rfl
  ·have hb:=aB (aB HW0.out HB1.out) hB;exact hb.drew.grown (grownBy_putObj' W.drew D _) hb.size (fun k e=>by cases e;have:=HW0.out.size;have:=HB1.out.size;omega)
 case stop=>
  rintro D c pre W hD hpre hf hKd;exact hf.elim
end Go.Proofs.Ytbkighpmkadmmaa
