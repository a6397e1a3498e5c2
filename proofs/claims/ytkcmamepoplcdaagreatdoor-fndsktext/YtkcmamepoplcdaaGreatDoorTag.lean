/-
  More of the program's chapter 2: how two monomials stand in an order, their product, what divides, what is left.
-/
import Derived.Deep.Slices
import Derived.Test.YtkcmamepoplcdaaGreatDoorTad
set_option maxHeartbeats 8000000
set_option maxRecDepth 100000
namespace Go.Proofs.YtkcmamepoplcdaaGreatDoor
open Go.RowKit
set_option linter.unusedVariables false
theorem kJ {a b a' b':Int} (h1:a<b↔a'<b') (h2:b<a↔b'<a'):c3 a b=c3 a' b':=by unfold c3;simp only[h1,h2]
theorem xH {a b:M} (ha:a.ok=true) (hb:b.ok=true):c3 (iY a) (iY b)=M.lex a b:=by
 obtain⟨x1,x2,y1,y2,d1,d2,e1,e2⟩:=M.ok_iff.1 ha;obtain⟨x3,x4,y3,y4,d3,d4,e3,e4⟩:=M.ok_iff.1 hb;by_cases hd:a.d=b.d
 ·by_cases he:a.e=b.e
  ·by_cases hx:a.x=b.x
   ·have h:M.lex a b=c3 a.y b.y:=by simp[M.lex,hd,he,hx]
    rw[h];exact kJ (by unfold iY;omega) (by unfold iY;omega)
   ·have h:M.lex a b=c3 a.x b.x:=by simp[M.lex,hd,he,hx]
    rw[h];exact kJ (by unfold iY;omega) (by unfold iY;omega)
  ·have h:M.lex a b=c3 a.e b.e:=by simp[M.lex,hd,he]
   rw[h];exact kJ (by unfold iY;omega) (by unfold iY;omega)
 ·have h:M.lex a b=c3 a.d b.d:=by simp[M.lex,hd]
  rw[h];exact kJ (by unfold iY;omega) (by unfold iY;omega)
theorem xG {a b:M} (ha:a.ok=true) (hb:b.ok=true):c3 (nX a) (nX b)=M.ord 1 a b:=by
 obtain⟨x1,x2,y1,y2,d1,d2,e1,e2⟩:=M.ok_iff.1 ha;obtain⟨x3,x4,y3,y4,d3,d4,e3,e4⟩:=M.ok_iff.1 hb;have da:a.deg=a.x+a.y+a.d+a.e:=by simp[M.deg,ha]
 have db:b.deg=b.x+b.y+b.d+b.e:=by simp[M.deg,hb]
 have la:0≤iY a∧iY a≤65535:=by simp only[iY];omega
 have lb:0≤iY b∧iY b≤65535:=by simp only[iY];omega
 by_cases h:a.deg=b.deg
 ·have e1:M.ord 1 a b=M.lex a b:=by simp[M.ord,h]
  rw[e1,←xH ha hb];rw[da,db]at h;exact kJ (by unfold nX;omega) (by unfold nX;omega)
 ·have e1:M.ord 1 a b=c3 a.deg b.deg:=by simp[M.ord,h]
  rw[e1,da,db];rw[da,db]at h;exact kJ (by unfold nX;omega) (by unfold nX;omega)
theorem pM {a b:M} (ha:a.ok=true) (hb:b.ok=true):0<M.ord 1 a b↔nX b<nX a:=by
 rw[←xG ha hb];unfold c3;constructor
 ·intro h;split at h
  ·omega
  ·split at h<;>omega
 ·intro h;rw[if_neg (by omega),if_pos h];decide
def cP (c:Int) (m:M):Bool:=decide (1≤c∧c≤100)&&m.ok
theorem oK (c x y d e:Int) (w:World):Calls Tryz.prog 87 #[.int .i64 c,.agg #[.int .i64 x,.int .i64 y,.int .i64 d,.int .i64 e]] w fun r w'=>r= .returned (.bool (cP c ⟨x,y,d,e⟩))∧Below w.heap.size w w':=by
 by_cases h0:c=0
 ·subst h0;have e1:cP 0 ⟨x,y,d,e⟩=false:=by simp[cP]
  rw[e1];go_enter Tryz.func87,Tryz.ntmps87;go_wp2;go_ret;exact⟨rfl,aG w _⟩
 ·have hz:(c !=0)=true:=by simp[h0]
  by_cases hc:0≤c∧c≤100
  ·obtain⟨c1,c2⟩:=hc;have e1:cP c ⟨x,y,d,e⟩=M.ok ⟨x,y,d,e⟩:=by
    have:1≤c∧c≤100:=by omega
    simp[cP,this]
   rw[e1];clear h0 e1;go_enter Tryz.func87,Tryz.ntmps87;go_wp2_with (go_at_call 124;refine(wZ _ _ c1 c2).mono ?_;rintro r w' ⟨rfl,rfl⟩);refine(sM _ _ _ _ _).mono ?_;rintro r w1 ⟨rfl,hb⟩;go_wp2;go_ret;exact⟨rfl,aD (aG w _) hb⟩
  ·have hc':c<0∨100<c:=by omega
   have e1:cP c ⟨x,y,d,e⟩=false:=by
    have:¬(1≤c∧c≤100):=by omega
    simp[cP,this]
   rw[e1];clear hc e1 h0;go_enter Tryz.func87,Tryz.ntmps87;go_wp2_with (go_at_call 124;refine(vE _ _ hc').mono ?_;rintro r w' ⟨rfl,rfl⟩);go_ret;exact⟨rfl,aG w _⟩
theorem fZ {c x y d e:Int} {b:Bool} (h:cP c ⟨x,y,d,e⟩=b) (w:World):Calls Tryz.prog 87 #[.int .i64 c,.agg #[.int .i64 x,.int .i64 y,.int .i64 d,.int .i64 e]] w fun r w'=>r= .returned (.bool b)∧Below w.heap.size w w':=by rw[←h];exact oK c x y d e w
theorem kU {f:Nat→T} {k:Nat} (h:dI f k=true):cP (f k).c (f k).m=true:=by simp only[dI,Bool.and_eq_true]at h;simp only[cP,Bool.and_eq_true];exact h.1
theorem oJ (w:World) (a:Option Addr) (n cap:Nat) (f:Nat→T) (h:Rd w a n cap f):Calls Tryz.prog 57 #[.slice a n cap] w fun r w'=>r= .returned (.bool (aS n f))∧Below w.heap.size w w':=by
 obtain⟨h1,h2,h3⟩:=h;have hn:(n:Int)≤140737488351232:=by omega
 by_cases hl:n≤400
 ·have hl':(n:Int)≤400:=by omega
  go_enter Tryz.func57,Tryz.ntmps57;go_wp2;go_loopw [10] (fun i wr=>∃k:Nat,k≤n∧i= .int .i64 k∧Below w.heap.size w wr∧∀j,j<k→dI f j=true) (fun i _=>n-(intOf i).toNat);case atStart=>exact⟨0,kG _,rfl,aC _ _,fun j hj=>absurd hj (Nat.not_lt_zero _)⟩
  case round=>
   obtain⟨k,hk,rfl,hB,hok⟩:=hrel;by_cases hlt:k<n
   ·rcases h3 with h0|⟨b,off,rfl,hblt,hcl⟩
    ·omega
    have hkn:(k:Int)<(n:Int):=by omega
    have hbr:b<wr.heap.size:=dM hblt hB.size;obtain⟨g0,g1,g2,g3,g4⟩:=(hcl k hlt).below hB hblt;have hno:dI f k=false→aS n f=false:=fun hf=>by
     simp only[aS,decide_eq_false_iff_not];intro hh;have:=hh.2 k hlt
     rw[hf]at this;cases this
    cases ht:cP (f k).c (f k).m
    ·have HF:Hid (aS n f=false):=hno (by
      cases h:dI f k
      ·rfl
      ·rw[kU h]at ht;cases ht)
     clear hno hcl hok;go_wp2_with fail;refine(fZ ht _).mono ?_;rintro r w1 ⟨rfl,hb⟩;have HB:=aA (aD (hB.alloc hB.size _) hb)
     clear hb;go_wp2;go_ret;exact⟨by rw[HF.out];rfl,HB.out⟩
    ·have hm:(f k).m.ok=true:=by simp only[cP,Bool.and_eq_true]at ht;exact ht.2
     have HM:=aA hm;have HCL:=aA hcl
     have HOK:=aA hok;have HNO:=aA hno
     clear hcl hok hno hm;go_wp2_with fail;refine(fZ ht _).mono ?_;rintro r w1 ⟨rfl,hb⟩;have HB:=aA (aD (hB.alloc hB.size _) hb)
     have hb1:b<w1.heap.size:=by have:=hb.size;simp at this;omega
     have hb2:wr.heap.size<w1.heap.size:=by have:=hb.size;simp at this;omega
     have hq:∀i v,#[Value.int .i64 (f k).c,.int .i64 (f k).m.x,.int .i64 (f k).m.y,.int .i64 (f k).m.d,.int .i64 (f k).m.e][i]? =some v→w1.cell? ⟨wr.heap.size,i,none⟩=some v:=fun i v hv=>by rw[hb.cell (p:=⟨wr.heap.size,i,none⟩) (by simp),World.cell?_alloc_at _ _ _ _ rfl];exact hv
     have ne:=cX.there w1;have s1:∀u:cX w1,u.1.cell? ⟨wr.heap.size,1,none⟩=some (.int .i64 (f k).m.x):=fun u=>(u.cell hb2).trans (hq 1 _ rfl)
     have s2:∀u:cX w1,u.1.cell? ⟨wr.heap.size,2,none⟩=some (.int .i64 (f k).m.y):=fun u=>(u.cell hb2).trans (hq 2 _ rfl);have s3:∀u:cX w1,u.1.cell? ⟨wr.heap.size,3,none⟩=some (.int .i64 (f k).m.d):=fun u=>(u.cell hb2).trans (hq 3 _ rfl)
     have s4:∀u:cX w1,u.1.cell? ⟨wr.heap.size,4,none⟩=some (.int .i64 (f k).m.e):=fun u=>(u.cell hb2).trans (hq 4 _ rfl);have HBK:=aA hB
     clear hq hb g0 g1 g2 g3 g4 hB;by_cases hk0:k=0
     ·have ht':dI f k=true:=by simp only[dI,cP,Bool.and_eq_true]at ht⊢;exact⟨ht,by simp[hk0]⟩
      have hok':Hid (∀j,j<k+1→dI f j=true):=fun j hj=>by
       by_cases hjk:j=k
       ·rw[hjk];exact ht'
       ·exact HOK.out j (by omega)
      have dk:decide (0<k)=false:=decide_eq_false (by omega);clear ht' hk0 ht;go_wp2_with fail;refine aV (by kernel_rfl) (by kernel_rfl) ?_;repeat(go_big_quiet_step (fail))
      refine wpQuiet_nil ?_;rintro _ ⟨u,rfl⟩;go_wp2;go_roundw;case rel=>exact⟨k+1,by omega,by go_num,HB.out.trans (u.2.mono HB.out.size),hok'.out⟩
      case measure=>simp[intOf];omega
     ·have hj:k-1<n:=by omega
      have hcj:=((HCL.out (k-1) hj).below HBK.out hblt)
      have hcj1:cJ w1 b (off+(k-1)*5) (f (k-1)):=(HCL.out (k-1) hj).below HB.out hblt;have p1:∀u:cX w1,u.1.cell? ⟨b,off+(k-1)*5+1,none⟩=some (.int .i64 (f (k-1)).m.x):=fun u=>(u.cell hb1).trans hcj1.2.1
      have p2:∀u:cX w1,u.1.cell? ⟨b,off+(k-1)*5+2,none⟩=some (.int .i64 (f (k-1)).m.y):=fun u=>(u.cell hb1).trans hcj1.2.2.1;have p3:∀u:cX w1,u.1.cell? ⟨b,off+(k-1)*5+3,none⟩=some (.int .i64 (f (k-1)).m.d):=fun u=>(u.cell hb1).trans hcj1.2.2.2.1
      have p4:∀u:cX w1,u.1.cell? ⟨b,off+(k-1)*5+4,none⟩=some (.int .i64 (f (k-1)).m.e):=fun u=>(u.cell hb1).trans hcj1.2.2.2.2;have hmp:(f (k-1)).m.ok=true:=by have:=kU (HOK.out (k-1) (by omega));simp only[cP,Bool.and_eq_true]at this;exact this.2
      have HMP:=aA hmp;clear hcj hcj1;have dk:decide (0<k)=true:=decide_eq_true (by omega)
      have hk1:(0:Int)<(k:Int):=by omega
      have hk2:(k:Int)-1<(n:Int):=by omega
      have hk3:(0:Int)≤(k:Int)-1:=by omega
      by_cases hq:nX (f k).m<nX (f (k-1)).m
      ·have ht':dI f k=true:=by simp only[dI,cP,Bool.and_eq_true]at ht⊢;exact⟨ht,by rw[decide_eq_true ((pM hmp HM.out).2 hq)];simp⟩
       have hok':Hid (∀j,j<k+1→dI f j=true):=fun j hj=>by
        by_cases hjk:j=k
        ·rw[hjk];exact ht'
        ·exact HOK.out j (by omega)
       have dq:decide (nX ⟨(f (k-1)).m.x,(f (k-1)).m.y,(f (k-1)).m.d,(f (k-1)).m.e⟩≤nX ⟨(f k).m.x,(f k).m.y,(f k).m.d,(f k).m.e⟩)=false:=decide_eq_false (Int.not_le.2 hq);clear ht' hk0 ht hq hmp;go_wp2_with fail;refine aV (by kernel_rfl) (by kernel_rfl) ?_;repeat(go_big_quiet_step (first|(go_at_call 88;exact bE (gZ _ _ _ _ _ HMP.out))|(go_at_call 88;exact bE (gZ _ _ _ _ _ HM.out))))
       refine wpQuiet_nil ?_;rintro _ ⟨u,rfl⟩;go_wp2;go_roundw;case rel=>exact⟨k+1,by omega,by go_num,HB.out.trans (u.2.mono HB.out.size),hok'.out⟩
       case measure=>simp[intOf];omega
      ·have HF:Hid (aS n f=false):=HNO.out (by
        cases hx:dI f k
        ·rfl
        ·exfalso;simp only[dI,Bool.and_eq_true,Bool.or_eq_true,decide_eq_true_eq]at hx;rcases hx.2 with h0|h0
         ·exact hk0 h0
         ·exact hq ((pM hmp HM.out).1 h0))
       have dq:decide (nX ⟨(f (k-1)).m.x,(f (k-1)).m.y,(f (k-1)).m.d,(f (k-1)).m.e⟩≤nX ⟨(f k).m.x,(f k).m.y,(f k).m.d,(f k).m.e⟩)=true:=decide_eq_true (Int.not_lt.1 hq);clear hk0 ht hq hmp;go_wp2_with fail;refine aV (by kernel_rfl) (by kernel_rfl) ?_;repeat(go_big_quiet_step (first|(go_at_call 88;exact bE (gZ _ _ _ _ _ HMP.out))|(go_at_call 88;exact bE (gZ _ _ _ _ _ HM.out))))
       refine wpQuiet_nil ?_;rintro _ ⟨u,rfl⟩;go_wp2;go_ret;exact⟨by rw[HF.out];rfl,HB.out.trans (u.2.mono HB.out.size)⟩
   ·go_wp2;go_ret;have hp:aS n f=true:=by simp only[aS,decide_eq_true_eq];exact⟨hl,fun i hi=>hok i (by omega)⟩
    exact⟨by rw[hp];rfl,hB⟩
 ·have hl':(400:Int)<(n:Int):=by omega
  have hp:aS n f=false:=by simp only[aS,decide_eq_false_iff_not];exact fun h=>hl h.1
  rw[hp];go_enter Tryz.func57,Tryz.ntmps57;go_wp2;go_ret;exact⟨rfl,aC _ _⟩
theorem eX (n:Nat) (f:Nat→T):bU n f n f=true:=by simp only[bU,decide_eq_true_eq];exact⟨trivial,fun i _=>T.eqB_iff.2 rfl⟩
theorem Wr.grown {w w':World} {a:Option Addr} {n:Nat} {f:Nat→T} {row:Option Nat} (h:Wr w a n f) (hg:w.grownBy w' row) (hne:n=0∨∀b off,a=some ⟨b,off,none⟩→some b≠row):Wr w' a n f:=by
 rcases h with h0|⟨g,off,N,F,rfl,hR,hN,hF⟩
 ·exact .inl h0
 ·rcases hne with h0|hne
  ·exact .inl h0
  ·exact .inr ⟨g,off,N,F,rfl,hR.of_block (hg.block g hR.lt (hne g off rfl)),hN,hF⟩
theorem Own.wr {w:World} {g n:Nat} {f:Nat→T} (h:Own w g n f):Wr w (some ⟨g,0,none⟩) n f:=
 .inr ⟨g,0,n*5,cf f,rfl,h,by omega,fun j hj=>by rw[Nat.zero_add]⟩
theorem Wr.rd {w:World} {a:Option Addr} {n cap:Nat} {f:Nat→T} (h:Wr w a n f) (hc:n≤cap) (hn:n*40≤140737488351232):Rd w a n cap f:=by
 refine⟨hc,hn,?_⟩;rcases h with h0|⟨g,off,N,F,rfl,hR,hN,hF⟩
 ·exact .inl h0
 ·have hcell:∀j,j<n*5→w.cell? ⟨g,off+j,none⟩=some (cf f j):=fun j hj=>by rw[hR.cell (by omega),hF j hj]
  refine .inr ⟨g,off,rfl,hR.lt,fun i hi=>?_⟩;have e1:off+i*5+1=off+(i*5+1):=by omega
  have e2:off+i*5+2=off+(i*5+2):=by omega
  have e3:off+i*5+3=off+(i*5+3):=by omega
  have e4:off+i*5+4=off+(i*5+4):=by omega
  exact⟨by rw[hcell _ (by omega),xP],by rw[e1,hcell _ (by omega),xQ],by rw[e2,hcell _ (by omega),xR],by rw[e3,hcell _ (by omega),xW],by rw[e4,hcell _ (by omega),xX]⟩
def wA (a:Option Addr) (n B:Nat):Prop:=n=0∨∀b off,a=some ⟨b,off,none⟩→B≤b
theorem iH.from {lo:Nat} {w:World} {a:Option Addr} {cap:Nat} {L:List T} (h:iH lo w a cap L):wA a L.length lo:=by
 rcases h.2.2 with h0|⟨g,off,rfl,hlo⟩
 ·exact .inl h0
 ·exact .inr fun b' off' e=>by cases e;exact hlo
theorem wA.off {a:Option Addr} {n B X:Nat} (h:wA a n B) (hX:X<B):n=0∨∀b off,a=some ⟨b,off,none⟩→some b≠some X:=by
 rcases h with h0|h
 ·exact .inl h0
 ·exact .inr fun b off e=>by have:=h b off e;simp;omega
theorem nM (w:World) (lo:Nat):w.ownsRow lo 79 5 (.slice none 0 0) 0 (aN []):=⟨rfl,.inl ⟨rfl,rfl⟩⟩
set_option linter.unusedSimpArgs false
theorem sO {x y d e:Int} {p:List UInt8} (h:cE ⟨x,y,d,e⟩=p) (w:World):Calls Tryz.prog 93 #[.agg #[.int .i64 x,.int .i64 y,.int .i64 d,.int .i64 e]] w fun r w'=>r= .returned (.string ⟨p.toArray⟩)∧Below w.heap.size w w':=by rw[←h];exact nI x y d e w
theorem pG {n:Nat} {p:List UInt8} (h:Lib.decDigits n=p) (hn:n≤9223372036854775807) (w:World) (hT:Tb w):Calls Tryz.prog 44 #[.int .i64 (n:Int)] w fun r w'=>r= .returned (.string ⟨p.toArray⟩)∧Below w.heap.size w w':=by rw[←h];exact uW n hn w hT
theorem cV (C:Nat) (hC:C≤9223372036854775807) (x y d e:Int) (hm:M.ok ⟨x,y,d,e⟩=true) (w:World) (hT:Tb w):Calls Tryz.prog 62 #[.agg #[.int .i64 (C:Int),.int .i64 x,.int .i64 y,.int .i64 d,.int .i64 e]] w fun r w'=>r= .returned (.string ⟨(cL ⟨(C:Int),⟨x,y,d,e⟩⟩).toArray⟩)∧Below w.heap.size w w':=by
 obtain⟨MT,hMT⟩:∃MT,cE ⟨x,y,d,e⟩=MT:=⟨_,rfl⟩
 have hml:MT.length≤12:=by rw[←hMT];exact gS hm
 obtain⟨DT,hDT⟩:∃DT,Lib.decDigits C=DT:=⟨_,rfl⟩
 have hdl:DT.length≤20:=by rw[←hDT];exact qF hC
 have htrm:cL ⟨(C:Int),⟨x,y,d,e⟩⟩=if x=0∧y=0∧d=0∧e=0 then DT else if(C:Int)=1 then MT else DT++MT:=by show(if x=0∧y=0∧d=0∧e=0 then Lib.decDigits C else if(C:Int)=1 then cE ⟨x,y,d,e⟩else Lib.decDigits C++cE ⟨x,y,d,e⟩)=_;rw[hMT,hDT]
 rw[htrm];have b0:=aG w (.cells #[.int .i64 (C:Int),.int .i64 x,.int .i64 y,.int .i64 d,.int .i64 e] 79)
 have HT0:=aA (hT.below b0);have HB0:=aA b0
 clear htrm hT b0;by_cases hz:x=0∧y=0∧d=0∧e=0
 ·rw[if_pos hz];obtain⟨rfl,rfl,rfl,rfl⟩:=hz;have HC:=aA (pG hDT hC _ HT0.out)
  clear hMT hDT;go_enter Tryz.func62,Tryz.ntmps62;go_wp2_with fail;refine HC.out.mono ?_;rintro r w1 ⟨rfl,hb⟩;have HB1:=aA (aD HB0.out hb)
  clear hb;go_wp2;go_ret;exact⟨rfl,HB1.out⟩
 ·rw[if_neg hz];have key:¬x=0∨(x=0∧¬y=0)∨(x=0∧y=0∧¬d=0)∨(x=0∧y=0∧d=0∧¬e=0):=by omega
  clear hz;by_cases h1:(C:Int)=1
  ·rw[if_pos h1];have HC:=aA (sO hMT (w.alloc (.cells #[.int .i64 1,.int .i64 x,.int .i64 y,.int .i64 d,.int .i64 e] 79)))
   rw[h1]at HB0⊢;clear hMT hDT h1 HT0;rcases key with k1|⟨rfl,k1⟩|⟨rfl,rfl,k1⟩|⟨rfl,rfl,rfl,k1⟩
   all_goals(
    go_enter Tryz.func62,Tryz.ntmps62;go_wp2_with fail;refine HC.out.mono ?_;rintro r w1 ⟨rfl,hb⟩;have HB1:=aA (aD HB0.out hb)
    clear hb;go_wp2;go_ret
    exact⟨rfl,HB1.out⟩)
  ·rw[if_neg h1];have h1b:((C:Int)==1)=false:=beq_eq_false_iff_ne.2 h1
   have hsz:¬(DT.length+MT.length>9223372036854775807):=by omega
   have hsz2:¬(9223372036854775807<DT.length+MT.length):=by omega
   obtain⟨W,hW⟩:∃W,w.alloc (.cells #[.int .i64 (C:Int),.int .i64 x,.int .i64 y,.int .i64 d,.int .i64 e] 79)=W:=⟨_,rfl⟩
   have q0:w.heap.size<W.heap.size:=by rw[←hW];simp
   have ne:=cX.there W;have gg:∀j:Nat,W.cell? ⟨w.heap.size,j,none⟩=#[Value.int .i64 (C:Int),.int .i64 x,.int .i64 y,.int .i64 d,.int .i64 e][j]? :=fun j=>by rw[←hW,World.cell?_alloc_at _ _ _ _ rfl]
   have s0:∀u:cX W,u.1.cell? ⟨w.heap.size,0,none⟩=some (.int .i64 (C:Int)):=fun u=>(u.cell q0).trans (gg 0);have s1:∀u:cX W,u.1.cell? ⟨w.heap.size,1,none⟩=some (.int .i64 x):=fun u=>(u.cell q0).trans (gg 1)
   have s2:∀u:cX W,u.1.cell? ⟨w.heap.size,2,none⟩=some (.int .i64 y):=fun u=>(u.cell q0).trans (gg 2);have s3:∀u:cX W,u.1.cell? ⟨w.heap.size,3,none⟩=some (.int .i64 d):=fun u=>(u.cell q0).trans (gg 3)
   have s4:∀u:cX W,u.1.cell? ⟨w.heap.size,4,none⟩=some (.int .i64 e):=fun u=>(u.cell q0).trans (gg 4);rw[hW]at HT0 HB0;have HT:∀u:cX W,Tb u.1:=fun u=>HT0.out.below u.2
   have HTT:=aA HT;have HWW:=aA hW
   clear HT gg hW;rcases key with k1|⟨rfl,k1⟩|⟨rfl,rfl,k1⟩|⟨rfl,rfl,rfl,k1⟩
   all_goals(
    go_enter Tryz.func62,Tryz.ntmps62;go_wp2_with fail;simp only[HWW.out];clear HWW;refine aV (by kernel_rfl) (by kernel_rfl) ?_;repeat(go_big_quiet_step (first|(go_at_call 44;exact bE (pG (by with_reducible assumption) hC _ (HTT.out _)))|(go_at_call 93;exact bE (sO (by with_reducible assumption) _))|fail))
    refine wpQuiet_nil ?_;rintro _ ⟨v,rfl⟩;have HV:=aA (aD HB0.out v.2)
    clear s0 s1 s2 s3 s4 ne hMT hDT;go_wp2;go_ret
    exact⟨by first|rfl|(congr 2;apply ByteArray.ext;simp[ByteArray.data_append];done),HV.out⟩)
theorem jP (xs:List (List UInt8)):(xs.map fun l=>(⟨l.toArray⟩:ByteArray)).map (fun s=>s.data.toList)=xs:=by rw[List.map_map];exact(List.map_congr_left (fun l _=>rfl)).trans (List.map_id xs)
theorem uV:(Tryz.prog.info? 9).map (fun i=>(i.zero,i.size,i.bytes))=some (some (.string ⟨#[]⟩),1,16):=by kernel_rfl
def tJ (xs:List (List UInt8)):List Value:=xs.map fun l=>Value.string ⟨l.toArray⟩
theorem vF (s:ByteArray):∀u∈[Value.string s],u.oneCell'=true:=fun u hu=>by
 rw[List.mem_singleton]at hu;subst hu;rfl
def zS (w:World) (f:Nat→T) (k:Nat) (v:Value) (wr:World):Prop:=wr.ownsRow w.heap.size 9 1 v k (tJ (mB f k))∧Below w.heap.size w wr
theorem tA (w:World) (a:Option Addr) (n cap:Nat) (f:Nat→T) (h:Rd w a n cap f) (hT:Tb w):Calls Tryz.prog 30 #[.slice a n cap] w fun r w'=>r= .returned (.string ⟨(bV n f).toArray⟩)∧Below w.heap.size w w':=by
 have HH:=aA h;have HTB:=aA hT
 have hnI:(n:Int)≤9223372036854775807:=by have:=h.2.1;omega
 obtain⟨ok,hok⟩:∃b,aS n f=b:=⟨_,rfl⟩
 have hc:=oJ w a n cap f h;rw[hok]at hc;have HC:=aA hc
 have HOK:=aA hok;clear hc hok h hT;obtain⟨R,hR⟩:∃R,bV n f=R:=⟨_,rfl⟩
 rw[hR];cases ok
 ·have HR:=aA (hR.symm.trans (pO HOK.out));clear hR;go_enter Tryz.func30,Tryz.ntmps30;go_wp2_with fail;refine HC.out.mono ?_;rintro r w1 ⟨rfl,hb⟩;go_wp2;go_ret;exact⟨by rw[HR.out];rfl,hb⟩
 ·by_cases h0:n=0
  ·have HR:=aA (hR.symm.trans (fV HOK.out h0));have hn0:((n:Int)==0)=true:=by rw[h0];rfl
   clear hR h0;go_enter Tryz.func30,Tryz.ntmps30;go_wp2_with fail;refine HC.out.mono ?_;rintro r w1 ⟨rfl,hb⟩;go_wp2;go_ret;exact⟨by rw[HR.out];rfl,hb⟩
  ·have HR:=aA (hR.symm.trans ((gX HOK.out h0).trans (jJ f n).symm));have hn0:((n:Int)==0)=false:=beq_eq_false_iff_ne.2 (by omega)
   have HALL:=aA (bT HOK.out);have n400:=(bT HOK.out).1
   have n400I:(n:Int)≤400:=by omega
   clear hR;obtain⟨b,off,rfl,hblt,hcl⟩:=HH.out.2.2.resolve_left h0;have HCL:=aA hcl
   clear hcl;obtain⟨i0,hi0,hz0,hz1,hz2⟩:=info_parts uV;go_enter Tryz.func30,Tryz.ntmps30;go_wp2_with fail;refine HC.out.mono ?_;rintro r w1 ⟨rfl,hb⟩;have HB1:=aA hb
   have hs1:=hb.size;clear hb HC;obtain⟨w2,hrun,hown2,hgr2⟩:=run_make_own (P:=Tryz.prog) w1 w.heap.size 30 9 i0 _ 1 Tryz.underlying30 hi0 hz0 hz1 .i64 .i64 n (by rw[hz2];omega) (by unfold maxLen;omega) hs1;have b2:Below w.heap.size w w2:=HB1.out.trans ⟨hgr2.os,hgr2.tape,hgr2.output,hgr2.size,fun k hk=>hgr2.block k (by omega) (by simp)⟩
   have HI0:Hid (zS w f 0 (.slice (some ⟨w1.heap.size,0,none⟩) 0 n) w2):=⟨hown2,b2⟩
   clear hown2 hgr2 b2;go_wp2;clear hrun;go_loopw [17,3] (fun v17 v3 wr=>∃(k g cp:Nat),k≤n∧v17= .int .i64 (k:Int)∧v3= .slice (some ⟨g,0,none⟩) k cp∧Hid (zS w f k (.slice (some ⟨g,0,none⟩) k cp) wr)) (fun v17 _ _=>n-(intOf v17).toNat);case atStart=>exact⟨0,_,_,kG _,rfl,rfl,HI0⟩
   case round=>
    obtain⟨k,g,cp,hk,rfl,rfl,HI⟩:=hrel;by_cases hkn:k<n
    ·have hklI:(k:Int)<(n:Int):=by omega
     obtain⟨⟨tc1,tc2⟩,tmo⟩:=HALL.out.2 k hkn;obtain⟨t,ht⟩:∃t,f k=t:=⟨_,rfl⟩
     have HJ:=aA (show mB f (k+1)=mB f k++[cL t] by rw[←ht];exact nU f k);obtain⟨g0,g1,g2,g3,g4⟩:=(HCL.out k hkn).below HI.out.2 hblt;rw[ht]at tc1 tc2 tmo g0 g1 g2 g3 g4;clear ht;obtain⟨c,⟨x,y,d,e⟩⟩:=t;simp only at tc1 tc2 tmo g0 g1 g2 g3 g4;obtain⟨C,rfl⟩:∃C:Nat,c=(C:Int):=⟨c.toNat,by omega⟩
     have hC100:C≤100:=by omega
     have bt:=aG wr (.cells #[.int .i64 (C:Int),.int .i64 x,.int .i64 y,.int .i64 d,.int .i64 e] 79);have hsw:w.heap.size≤wr.heap.size:=HI.out.2.size
     have HBT:=aA (HI.out.2.alloc hsw (.cells #[.int .i64 (C:Int),.int .i64 x,.int .i64 y,.int .i64 d,.int .i64 e] 79));have HTt:=aA ((HTB.out.below HI.out.2).below bt)
     have HO:=aA (HI.out.1.alloc (.cells #[.int .i64 (C:Int),.int .i64 x,.int .i64 y,.int .i64 d,.int .i64 e] 79));have HCT:=aA (cV C (by omega) x y d e tmo _ HTt.out)
     obtain⟨TT,hTT⟩:∃TT,cL ⟨(C:Int),⟨x,y,d,e⟩⟩=TT:=⟨_,rfl⟩
     rw[hTT]at HCT HJ;clear hTT HTt bt tmo HI;go_wp2_with fail;refine HCT.out.mono ?_;rintro r w3 ⟨rfl,hb3⟩;have hO3:w3.ownsRow w.heap.size 9 1 (.slice (some ⟨g,0,none⟩) k cp) k (tJ (mB f k)):=bD HO.out hb3
     have hB3:=HBT.out.trans (hb3.mono (by simp;omega));have hs3:w.heap.size≤w3.heap.size:=hB3.size
     have HO4:=aA (hO3.alloc (.cells #[.string ⟨TT.toArray⟩] 9));have HB4:=aA (hB3.alloc hs3 (.cells #[.string ⟨TT.toArray⟩] 9))
     have HN:=aA (heap_alloc_new w3 (.cells #[.string ⟨TT.toArray⟩] 9));clear hb3 hO3 hB3 HO HBT HCT g0 g1 g2 g3 g4;have hmax:k+1≤maxLen:=by unfold maxLen;omega
     go_wp2_with (at_builtin;refine wpList_append_lies _ rfl (.tmp 21) (.tmp 24) 30 rfl w.heap.size 9 i0 _ 1 16 Tryz.underlying30 hi0 hz0 hz1 hz2 rfl (by omega) _ k (tJ (mB f k)) rfl HO4.out ⟨w3.heap.size,0,none⟩ 1 1 [.string ⟨TT.toArray⟩] rfl rfl (World.news_of_block HN.out) (vF _) (by omega) hmax (by omega) (by simp;omega) _ rfl ?_;intro g1 cap1 w7 hown2 hgrow2 hat2 hlt2;have HO7:=aA hown2;have HB7:=aA (HB4.out.grown hgrow2 (by simp;omega) (fun k' e'=>(HO4.out.lt k' e').1));clear hown2 hgrow2 hat2 hlt2);go_roundw;case rel=>exact⟨k+1,g1,cap1,by omega,by go_num,rfl,⟨by rw[HJ.out];unfold tJ;rw[List.map_append];exact HO7.out,HB7.out⟩⟩
     case measure=>simp[intOf];omega
    ·have hke:k=n:=by omega
     subst hke;have hnl:¬(k:Int)<(k:Int):=by omega
     have hlen:(Lib.join (mB f k) [43]).length≤140737488355328:=by
      rw[jJ];have:=gN k (fun i hi=>HALL.out.2 i hi)
      omega
     have hj:=yD g cp ((mB f k).map fun l=>⟨l.toArray⟩) wr (fun j s hs=>by
      rw[Nat.zero_add,HI.out.1.cellAt j (by
       have:=(List.getElem?_eq_some_iff.1 hs).1;rw[List.length_map,hQ]at this
       omega)]
      rw[List.getElem?_map]at hs;unfold tJ;rw[List.getElem?_map];cases hq:(mB f k)[j]? with
      |none=>rw[hq]at hs;cases hs
      |some l=>rw[hq]at hs;cases hs;rfl) (HI.out.1.lt g rfl).2 (by rw[List.length_map,hQ];omega) (by
       rw[List.length_map,hQ];rcases HI.out.1.2 with⟨e,_⟩|⟨g',cap',cur,e,_,_,hnc,_⟩
       ·cases e
       ·cases e;exact hnc) (by
       have e:((mB f k).map fun l=>(⟨l.toArray⟩:ByteArray)).map (fun s=>s.data.toList)=mB f k:=jP _
       rw[e];exact hlen)
     have e:((mB f k).map fun l=>(⟨l.toArray⟩:ByteArray)).map (fun s=>s.data.toList)=mB f k:=jP _;rw[e,List.length_map,hQ,←HR.out]at hj;have HJ:=aA hj
     clear hj hlen e;go_wp2_with fail;refine HJ.out.mono ?_;rintro r w9 ⟨rfl,hb9⟩;have HB9:=aA (aD HI.out.2 hb9)
     clear hb9;go_wp2;go_ret;exact⟨rfl,HB9.out⟩
end Go.Proofs.YtkcmamepoplcdaaGreatDoor
