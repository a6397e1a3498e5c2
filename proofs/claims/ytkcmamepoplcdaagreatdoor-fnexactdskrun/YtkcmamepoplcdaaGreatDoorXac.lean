/-
  The model's texts of monomials (l2Digits, l2Power, MonText).
-/
import Derived.Test.YtkcmamepoplcdaaGreatDoorXab
import Derived.Laws.IdiomStrings
import Derived.WalkSmall
import Derived.Lib.Join
import Derived.Lib.LaidTab
import Derived.Lib.AppendIntMem
import Derived.Shelf.Lay
import Derived.Shelf.Strconv.Itoa3
import Derived.Shelf.Strings.OnBuilder
import Derived.Ground.NamesProg
import Derived.ProofKit
import Derived.Deep.OwnRows
import Derived.Lib.SmallJoins
set_option maxHeartbeats 4000000
set_option maxRecDepth 100000
namespace Go.Proofs.YtkcmamepoplcdaaGreatDoor
open Go.RowKit
set_option linter.unusedVariables false
set_option linter.unusedSimpArgs false
theorem xC (w:World) (x:Nat) (hx:x<256):(convert 35 9 (.slice (some ⟨w.heap.size,0,none⟩) 1 1)).run Tryz.prog (w.alloc (.cells #[.int .u8 (x:Int)] 5))= .ok (.string ⟨#[UInt8.ofNat x]⟩) (w.alloc (.cells #[.int .u8 (x:Int)] 5)):=
 run_convert_bytes_back _ _ _ 5 ⟨w.heap.size,0,none⟩ 1 [UInt8.ofNat x] (by kernel_rfl) (by kernel_rfl) (by kernel_rfl) (fun j hj=>by
  have:j=0:=by simpa using hj
  subst this;have e:((⟨w.heap.size,0,none⟩:Addr).add 0)=⟨w.heap.size,0,none⟩:=rfl
  rw[e,World.cell?_alloc_at _ _ _ _ rfl];simp
  omega)
theorem lR (n:Nat) (hn:n<10000) (w:World):Calls Tryz.prog 41 #[.int .i64 (n:Int)] w fun r w'=>r= .returned (.string ⟨(Lib.decDigits n).toArray⟩)∧Below w.heap.size w w':=by
 by_cases h0:n=0
 ·subst h0;go_enter Tryz.func41,Tryz.ntmps41;go_wp2;go_ret;exact⟨by rw[dH (by omega)];rfl,aD _ _⟩
 ·have h1:¬(n:Int)<1:=by omega
  go_enter Tryz.func41,Tryz.ntmps41;go_wp2;go_loopw [0,3] (fun v0 v3 wr=>∃(k:Nat) (out:List UInt8),k≤n∧v0= .int .i64 (k:Int)∧v3= .string ⟨out.toArray⟩∧Hid (oL k out=Lib.decDigits n)∧Below w.heap.size w wr) (fun v0 _ _=>(intOf v0).toNat);case atStart=>exact⟨n,[],Nat.le_refl _,rfl,rfl,aA (qT (by omega)),aD _ _⟩
  case round=>
   obtain⟨k,out,hk,rfl,rfl,HD,hB⟩:=hrel;have hlen:out.length≤4:=by
    have h1:=xK k out;rw[HD.out]at h1;have:=gU hn
    omega
   have HB:=aA hB;clear hB;by_cases hk0:k=0
   ·subst hk0;have he:out=Lib.decDigits n:=(tO out).symm.trans HD.out
    have HE:=aA he;clear he;go_wp2;go_ret;exact⟨by rw[HE.out];rfl,HB.out⟩
   ·have hkp:(0:Int)<(k:Int):=by omega
    have hr1:(k:Int).tmod 10=((k%10:Nat):Int):=by rw[Int.tmod_eq_emod_of_nonneg (by omega)];omega
    have hq1:(k:Int).tdiv 10=((k / 10:Nat):Int):=by rw[Int.tdiv_eq_ediv_of_nonneg (by omega)];omega
    obtain⟨r,hr⟩:∃r,k%10=r:=⟨_,rfl⟩
    obtain⟨q,hq⟩:∃q,k / 10=q:=⟨_,rfl⟩
    have hr10:r<10:=by omega
    have hqk:q<k:=by omega
    have hD2:oL q (UInt8.ofNat (48+r)::out)=Lib.decDigits n:=by rw[←hr,←hq,tN (by omega)];exact HD.out
    have HD2:=aA hD2;rw[hr]at hr1;rw[hq]at hq1;clear hD2 HD hr hq;have hr2:(k:Int)%10=(r:Int):=by rw[←hr1,Int.tmod_eq_emod_of_nonneg (by omega)]
    have hq2:(k:Int) / 10=(q:Int):=by rw[←hq1,Int.tdiv_eq_ediv_of_nonneg (by omega)]
    have hw1:IntKind.i64.wrap (48+(r:Int))=((48+r:Nat):Int):=by rw[IntKind.wrap_i64];omega
    have hw2:IntKind.u8.wrap ((48+r:Nat):Int)=((48+r:Nat):Int):=by rcases(show r=0∨r=1∨r=2∨r=3∨r=4∨r=5∨r=6∨r=7∨r=8∨r=9 by omega)with rfl|rfl|rfl|rfl|rfl|rfl|rfl|rfl|rfl|rfl<;>decide
    have hw3:IntKind.u8.wrap (48+(r:Int))=((48+r:Nat):Int):=by rw[show 48+(r:Int)=((48+r:Nat):Int) by omega];exact hw2
    have hcv:=xC wr (48+r) (by omega);obtain⟨x,hx⟩:∃x,48+r=x:=⟨_,rfl⟩
    rw[hx]at hw1 hw2 hw3 hcv HD2;have hx48:48+(r:Int)=(x:Int):=by omega
    clear hx;have hsz:¬(1+out.length>9223372036854775807):=by omega
    have hsz2:¬(9223372036854775807<1+out.length):=by omega
    go_wp2;go_roundw;case rel=>exact⟨q,UInt8.ofNat x::out,by omega,by first|rfl|(simp[hq2];done)|(simp[hq1];done),by first|rfl|(rw[ByteArray.ext_iff];simp[ByteArray.data_append];done),HD2,aC HB.out (aF _ _)⟩
    case measure=>simp[intOf];omega
theorem GJ (c:UInt8) (n:Nat) (hn:n≤15) (w:World):Calls Tryz.prog 108 #[.string ⟨#[c]⟩,.int .i64 (n:Int)] w fun r w'=>r= .returned (.string ⟨(cR c (n:Int)).toArray⟩)∧Below w.heap.size w w':=by
 by_cases h0:n=0
 ·subst h0;go_enter Tryz.func108,Tryz.ntmps108;go_wp2;go_ret;exact⟨by rfl,aD _ _⟩
 ·by_cases h1:n=1
  ·subst h1;go_enter Tryz.func108,Tryz.ntmps108;go_wp2;go_ret;exact⟨by rfl,aD _ _⟩
  ·have hn0:((n:Int)==0)=false:=beq_eq_false_iff_ne.2 (by omega);have hn1:((n:Int)==1)=false:=beq_eq_false_iff_ne.2 (by omega)
   obtain⟨D,hD⟩:∃D,Lib.decDigits n=D:=⟨_,rfl⟩
   have hl:D.length≤2:=by rw[←hD];exact iO (by omega)
   have hc:=lR n (by omega) w;rw[hD]at hc;have HC:=aA hc
   have hp:cR c (n:Int)=c::D:=by rw[iR (by omega),hD]
   have HP:=aA hp;clear hc hp hD;have hsz:¬(1+D.length>9223372036854775807):=by omega
   have hsz2:¬(9223372036854775807<1+D.length):=by omega
   go_enter Tryz.func108,Tryz.ntmps108;go_wp2_with fail;refine HC.out.mono ?_;rintro r w1 ⟨rfl,hb⟩;have HB:=aA hb
   clear hb;go_wp2;go_ret;exact⟨by rw[HP.out];first|rfl|(congr 2;apply ByteArray.ext;simp[ByteArray.data_append];done),HB.out⟩
theorem zT {c:UInt8} {n:Nat} {p:List UInt8} (h:cR c (n:Int)=p) (hn:n≤15) (w:World):Calls Tryz.prog 108 #[.string ⟨#[c]⟩,.int .i64 (n:Int)] w fun r w'=>r= .returned (.string ⟨p.toArray⟩)∧Below w.heap.size w w':=by rw[←h];exact GJ c n hn w
theorem IA (x y d e:Int) (w:World):Calls Tryz.prog 75 #[.agg #[.int .i64 x,.int .i64 y,.int .i64 d,.int .i64 e]] w fun r w'=>r= .returned (.string ⟨(eN ⟨x,y,d,e⟩).toArray⟩)∧Below w.heap.size w w':=by
 obtain⟨ok,hok⟩:∃b,M.ok ⟨x,y,d,e⟩=b:=⟨_,rfl⟩
 have HOK:=aA hok;clear hok;cases ok
 ·have he:=vL HOK.out;have HE:=aA he
  clear he;go_enter Tryz.func75,Tryz.ntmps75;go_wp2_with fail;refine(iL HOK.out _).mono ?_;rintro r w1 ⟨rfl,hb⟩;go_wp2;go_ret;exact⟨by rw[HE.out];rfl,aC (aF w _) hb⟩
 ·obtain⟨x1,x2,y1,y2,d1,d2,e1,e2⟩:=M.ok_iff.1 HOK.out;simp only at x1 x2 y1 y2 d1 d2 e1 e2;obtain⟨X,rfl⟩:∃X:Nat,x=(X:Int):=⟨x.toNat,by omega⟩
  obtain⟨Y,rfl⟩:∃X:Nat,y=(X:Int):=⟨y.toNat,by omega⟩
  obtain⟨D,rfl⟩:∃X:Nat,d=(X:Int):=⟨d.toNat,by omega⟩
  obtain⟨E,rfl⟩:∃X:Nat,e=(X:Int):=⟨e.toNat,by omega⟩
  have hmS:=iH ⟨(X:Int),(Y:Int),(D:Int),(E:Int)⟩;simp only at hmS;obtain⟨p1,hp1⟩:∃p,cR 120 (X:Int)=p:=⟨_,rfl⟩
  obtain⟨p2,hp2⟩:∃p,cR 121 (Y:Int)=p:=⟨_,rfl⟩
  obtain⟨p3,hp3⟩:∃p,cR 100 (D:Int)=p:=⟨_,rfl⟩
  obtain⟨p4,hp4⟩:∃p,cR 101 (E:Int)=p:=⟨_,rfl⟩
  have k1:p1.length≤3:=by rw[←hp1];exact nJ (by omega)
  have k2:p2.length≤3:=by rw[←hp2];exact nJ (by omega)
  have k3:p3.length≤3:=by rw[←hp3];exact nJ (by omega)
  have k4:p4.length≤3:=by rw[←hp4];exact nJ (by omega)
  rw[hp1,hp2,hp3,hp4]at hmS;have HM:=aA hmS
  have X15:X≤15:=by omega
  have Y15:Y≤15:=by omega
  have D15:D≤15:=by omega
  have E15:E≤15:=by omega
  clear hmS x1 x2 y1 y2 d1 d2 e1 e2;obtain⟨sR,hRes⟩:∃R,eN ⟨(X:Int),(Y:Int),(D:Int),(E:Int)⟩=R:=⟨_,rfl⟩
  rw[hRes];have HR:=aA hRes
  clear hRes;go_enter Tryz.func75,Tryz.ntmps75;go_wp2_with fail;refine(iL HOK.out _).mono ?_;rintro r w1 ⟨rfl,hb⟩;have hb1:=aC (aF w (.cells #[.int .i64 (X:Int),.int .i64 (Y:Int),.int .i64 (D:Int),.int .i64 (E:Int)] 77)) hb
  have HB1:=aA hb1;have q0:w.heap.size<w1.heap.size:=eB (by simp) hb.size
  have ne:=dQ.there w1;have g:∀j:Nat,w1.cell? ⟨w.heap.size,j,none⟩=(w.alloc (.cells #[.int .i64 (X:Int),.int .i64 (Y:Int),.int .i64 (D:Int),.int .i64 (E:Int)] 77)).cell? ⟨w.heap.size,j,none⟩:=fun j=>hb.cell (p:=⟨w.heap.size,j,none⟩) (by simp)
  have s0:∀u:dQ w1,u.1.cell? ⟨w.heap.size,0,none⟩=some (.int .i64 (X:Int)):=fun u=>(u.cell q0).trans ((g 0).trans (by rw[World.cell?_alloc_at _ _ _ _ rfl];rfl));have s1:∀u:dQ w1,u.1.cell? ⟨w.heap.size,1,none⟩=some (.int .i64 (Y:Int)):=fun u=>(u.cell q0).trans ((g 1).trans (by rw[World.cell?_alloc_at _ _ _ _ rfl];rfl))
  have s2:∀u:dQ w1,u.1.cell? ⟨w.heap.size,2,none⟩=some (.int .i64 (D:Int)):=fun u=>(u.cell q0).trans ((g 2).trans (by rw[World.cell?_alloc_at _ _ _ _ rfl];rfl));have s3:∀u:dQ w1,u.1.cell? ⟨w.heap.size,3,none⟩=some (.int .i64 (E:Int)):=fun u=>(u.cell q0).trans ((g 3).trans (by rw[World.cell?_alloc_at _ _ _ _ rfl];rfl))
  clear hb hb1 g;have z1:¬(p1.length+p2.length>9223372036854775807):=by omega
  have z2:¬(p1.length+p2.length+p3.length>9223372036854775807):=by omega
  have z3:¬(p1.length+p2.length+p3.length+p4.length>9223372036854775807):=by omega
  have y1:¬(9223372036854775807<p1.length+p2.length):=by omega
  have y2:¬(9223372036854775807<p1.length+p2.length+p3.length):=by omega
  have y3:¬(9223372036854775807<p1.length+p2.length+p3.length+p4.length):=by omega
  go_wp2_with fail;refine aR (by kernel_rfl) (by kernel_rfl) ?_;repeat(go_big_quiet_step (first|(go_at_call 108;exact bQ (zT (by with_reducible assumption) (by omega) _))|fail))
  refine wpQuiet_nil ?_;rintro _ ⟨v,rfl⟩;have HV:=aA (aC HB1.out v.2)
  clear s0 s1 s2 s3 ne hp1 hp2 hp3 hp4;have hcat:(ByteArray.mk p1.toArray++ByteArray.mk p2.toArray++ByteArray.mk p3.toArray++ByteArray.mk p4.toArray)=ByteArray.mk (p1++p2++p3++p4).toArray:=by rw[ByteArray.mk_append_mk,ByteArray.mk_append_mk,ByteArray.mk_append_mk]
  simp only[hcat];obtain⟨S,hS⟩:∃S,p1++p2++p3++p4=S:=⟨_,rfl⟩
  rw[hS]at HM⊢;clear hcat hS;by_cases h0:S=[]
  ·subst h0;have hR:sR=[49]:=HR.out.symm.trans (jQ HOK.out HM.out)
   have HRR:=aA hR;clear hR;go_wp2;go_ret;exact⟨by rw[HRR.out];rfl,HV.out⟩
  ·have hR:sR=S:=HR.out.symm.trans ((fJ HOK.out (by rw[HM.out];exact h0)).trans HM.out);have HRR:=aA hR
   clear hR;have hie:S.isEmpty=false:=by cases S<;>simp at h0⊢
   clear h0;go_wp2;go_ret;exact⟨by rw[HRR.out];rfl,HV.out⟩
structure T where
 c:Int
 m:M
def fC (f:Nat→T) (i:Nat):Bool:=decide (1≤(f i).c∧(f i).c≤100)&&(f i).m.ok&&(decide (i=0)||decide (0<M.ord 1 (f (i-1)).m (f i).m))
def aH (n:Nat) (f:Nat→T):Bool:=decide (n≤400∧∀i,i<n→fC f i=true)
def fL (w:World) (b o:Nat) (t:T):Prop:=
 w.cell? ⟨b,o,none⟩=some (.int .i64 t.c)∧w.cell? ⟨b,o+1,none⟩=some (.int .i64 t.m.x)∧w.cell? ⟨b,o+2,none⟩=some (.int .i64 t.m.y)∧w.cell? ⟨b,o+3,none⟩=some (.int .i64 t.m.d)∧w.cell? ⟨b,o+4,none⟩=some (.int .i64 t.m.e)
def Rd (w:World) (a:Option Addr) (n cap:Nat) (f:Nat→T):Prop:=
 n≤cap∧n*40≤140737488351232∧(n=0∨∃b off,a=some ⟨b,off,none⟩∧b<w.heap.size∧∀i,i<n→fL w b (off+i*5) (f i))
theorem fL.below {w w':World} {b o:Nat} {t:T} {B:Nat} (h:fL w b o t) (hb:Below B w w') (hB:b<B):fL w' b o t:=by obtain⟨h0,h1,h2,h3,h4⟩:=h;exact⟨(hb.cell (p:=⟨b,o,none⟩) hB).trans h0,(hb.cell (p:=⟨b,o+1,none⟩) hB).trans h1,(hb.cell (p:=⟨b,o+2,none⟩) hB).trans h2,(hb.cell (p:=⟨b,o+3,none⟩) hB).trans h3,(hb.cell (p:=⟨b,o+4,none⟩) hB).trans h4⟩
theorem Rd.below {w w':World} {a:Option Addr} {n cap:Nat} {f:Nat→T} (h:Rd w a n cap f) (hb:Below w.heap.size w w'):Rd w' a n cap f:=by
 obtain⟨h1,h2,h3⟩:=h;refine⟨h1,h2,?_⟩;rcases h3 with h0|⟨b,off,rfl,hlt,hc⟩
 ·exact .inl h0
 ·exact .inr ⟨b,off,rfl,eB hlt hb.size,fun i hi=>(hc i hi).below hb hlt⟩
theorem aY (w:World) (a:Option Addr) (n cap:Nat) (f:Nat→T) (h:Rd w a n cap f):Calls Tryz.prog 29 #[.slice a n cap] w fun r w'=>r= .returned (.bool (aH n f))∧Below w.heap.size w w':=by
 obtain⟨h1,h2,h3⟩:=h;have hn:(n:Int)≤140737488351232:=by omega
 by_cases hl:n≤400
 ·have hl':(n:Int)≤400:=by omega
  go_enter Tryz.func29,Tryz.ntmps29;go_wp2;go_loopw [3] (fun i wr=>∃k:Nat,k≤n∧i= .int .i64 k∧Below w.heap.size w wr∧∀j,j<k→fC f j=true) (fun i _=>n-(intOf i).toNat);case atStart=>exact⟨0,gO _,rfl,aD _ _,fun j hj=>absurd hj (Nat.not_lt_zero _)⟩
  case round=>
   obtain⟨k,hk,rfl,hB,hok⟩:=hrel;by_cases hlt:k<n
   ·rcases h3 with h0|⟨b,off,rfl,hblt,hcl⟩
    ·omega
    have hkn:(k:Int)<(n:Int):=by omega
    have hbr:b<wr.heap.size:=eB hblt hB.size;have ne:=dQ.there wr
    have hck:=(hcl k hlt).below hB hblt;have s0:∀u:dQ wr,u.1.cell? ⟨b,off+k*5,none⟩=some (.int .i64 (f k).c):=fun u=>(u.cell hbr).trans hck.1
    have s1:∀u:dQ wr,u.1.cell? ⟨b,off+k*5+1,none⟩=some (.int .i64 (f k).m.x):=fun u=>(u.cell hbr).trans hck.2.1;have s2:∀u:dQ wr,u.1.cell? ⟨b,off+k*5+2,none⟩=some (.int .i64 (f k).m.y):=fun u=>(u.cell hbr).trans hck.2.2.1
    have s3:∀u:dQ wr,u.1.cell? ⟨b,off+k*5+3,none⟩=some (.int .i64 (f k).m.d):=fun u=>(u.cell hbr).trans hck.2.2.2.1;have s4:∀u:dQ wr,u.1.cell? ⟨b,off+k*5+4,none⟩=some (.int .i64 (f k).m.e):=fun u=>(u.cell hbr).trans hck.2.2.2.2
    clear hck;have ho:fC f k=(decide (1≤(f k).c∧(f k).c≤100)&&(f k).m.ok&&(decide (k=0)||decide (0<M.ord 1 (f (k-1)).m (f k).m))):=rfl
    have hno:fC f k=false→aH n f=false:=fun hf=>by
     simp only[aH,decide_eq_false_iff_not];intro hh;have:=hh.2 k hlt
     rw[hf]at this;cases this
    by_cases hc:1≤(f k).c∧(f k).c≤100
    ·obtain⟨c1,c2⟩:=hc;cases hm:(f k).m.ok
     ·have HF:Hid (aH n f=false):=hno (by rw[ho,hm];simp);clear hno ho hcl hok;go_wp2_with fail;refine aR (by kernel_rfl) (by kernel_rfl) ?_;repeat(go_big_quiet_step (first|(go_at_call 54;exact fU (aM _ _ _ _ c1 c2))|(go_at_call 60;exact bQ (iL hm _))))
      refine wpQuiet_nil ?_;rintro _ ⟨u,rfl⟩;go_wp2;go_ret;exact⟨by rw[HF.out];rfl,hB.trans (u.2.mono hB.size)⟩
     ·by_cases hk0:k=0
      ·have ht:fC f k=true:=by rw[ho,hm,decide_eq_true (p:=1≤(f k).c∧(f k).c≤100) ⟨c1,c2⟩,decide_eq_true hk0];rfl
       have hok':Hid (∀j,j<k+1→fC f j=true):=fun j hj=>by
        by_cases hjk:j=k
        ·rw[hjk];exact ht
        ·exact hok j (by omega)
       have dk:decide (0<k)=false:=decide_eq_false (by omega);clear hno ho hcl hok ht hk0;go_wp2_with fail;refine aR (by kernel_rfl) (by kernel_rfl) ?_;repeat(go_big_quiet_step (first|(go_at_call 54;exact fU (aM _ _ _ _ c1 c2))|(go_at_call 60;exact bQ (iL hm _))))
       refine wpQuiet_nil ?_;rintro _ ⟨u,rfl⟩;go_wp2;go_roundw;case rel=>exact⟨k+1,by omega,by go_num,hB.trans (u.2.mono hB.size),hok'.out⟩
       case measure=>simp[intOf];omega
      ·have hj:k-1<n:=by omega
       have hcj:=(hcl (k-1) hj).below hB hblt;have p1:∀u:dQ wr,u.1.cell? ⟨b,off+(k-1)*5+1,none⟩=some (.int .i64 (f (k-1)).m.x):=fun u=>(u.cell hbr).trans hcj.2.1
       have p2:∀u:dQ wr,u.1.cell? ⟨b,off+(k-1)*5+2,none⟩=some (.int .i64 (f (k-1)).m.y):=fun u=>(u.cell hbr).trans hcj.2.2.1;have p3:∀u:dQ wr,u.1.cell? ⟨b,off+(k-1)*5+3,none⟩=some (.int .i64 (f (k-1)).m.d):=fun u=>(u.cell hbr).trans hcj.2.2.2.1
       have p4:∀u:dQ wr,u.1.cell? ⟨b,off+(k-1)*5+4,none⟩=some (.int .i64 (f (k-1)).m.e):=fun u=>(u.cell hbr).trans hcj.2.2.2.2;clear hcj;have dk:decide (0<k)=true:=decide_eq_true (by omega)
       have hk1:(0:Int)<(k:Int):=by omega
       have hk2:(k:Int)-1<(n:Int):=by omega
       have hk3:(0:Int)≤(k:Int)-1:=by omega
       by_cases hq:0<M.ord 1 (f (k-1)).m (f k).m
       ·have ht:fC f k=true:=by rw[ho,hm,decide_eq_true (p:=1≤(f k).c∧(f k).c≤100) ⟨c1,c2⟩,decide_eq_true hq];simp
        have hok':Hid (∀j,j<k+1→fC f j=true):=fun j hj=>by
         by_cases hjk:j=k
         ·rw[hjk];exact ht
         ·exact hok j (by omega)
        have dq:decide (M.ord 1 ⟨(f (k-1)).m.x,(f (k-1)).m.y,(f (k-1)).m.d,(f (k-1)).m.e⟩ ⟨(f k).m.x,(f k).m.y,(f k).m.d,(f k).m.e⟩≤0)=false:=decide_eq_false (Int.not_le.2 hq);clear hno ho hcl hok ht hk0 hq;go_wp2_with fail;refine aR (by kernel_rfl) (by kernel_rfl) ?_;repeat(go_big_quiet_step (first|(go_at_call 54;exact fU (aM _ _ _ _ c1 c2))|(go_at_call 60;exact bQ (iL hm _))|(go_at_call 61;exact bQ (II _ _ _ _ _ _ _ _ _))))
        refine wpQuiet_nil ?_;rintro _ ⟨u,rfl⟩;go_wp2;go_roundw;case rel=>exact⟨k+1,by omega,by go_num,hB.trans (u.2.mono hB.size),hok'.out⟩
        case measure=>simp[intOf];omega
       ·have HF:Hid (aH n f=false):=hno (by rw[ho,hm];simp[hk0,hq]);have dq:decide (M.ord 1 ⟨(f (k-1)).m.x,(f (k-1)).m.y,(f (k-1)).m.d,(f (k-1)).m.e⟩ ⟨(f k).m.x,(f k).m.y,(f k).m.d,(f k).m.e⟩≤0)=true:=decide_eq_true (Int.not_lt.1 hq)
        clear hno ho hcl hok hk0 hq;go_wp2_with fail;refine aR (by kernel_rfl) (by kernel_rfl) ?_;repeat(go_big_quiet_step (first|(go_at_call 54;exact fU (aM _ _ _ _ c1 c2))|(go_at_call 60;exact bQ (iL hm _))|(go_at_call 61;exact bQ (II _ _ _ _ _ _ _ _ _))))
        refine wpQuiet_nil ?_;rintro _ ⟨u,rfl⟩;go_wp2;go_ret;exact⟨by rw[HF.out];rfl,hB.trans (u.2.mono hB.size)⟩
    ·have HF:Hid (aH n f=false):=hno (by rw[ho];simp[hc]);have hc':(f k).c<1∨(1≤(f k).c∧100<(f k).c):=by omega
     clear hc hno ho hcl hok;go_wp2_with fail;refine aR (by kernel_rfl) (by kernel_rfl) ?_;repeat(go_big_quiet_step ((go_at_call 54;exact fU (aJ _ _ _ _ hc'))))
     refine wpQuiet_nil ?_;rintro _ ⟨u,rfl⟩;go_wp2;go_ret;exact⟨by rw[HF.out];rfl,hB.trans (u.2.mono hB.size)⟩
   ·go_wp2;go_ret;have hp:aH n f=true:=by simp only[aH,decide_eq_true_eq];exact⟨hl,fun i hi=>hok i (by omega)⟩
    exact⟨by rw[hp];rfl,hB⟩
 ·have hl':(400:Int)<(n:Int):=by omega
  have hp:aH n f=false:=by simp only[aH,decide_eq_false_iff_not];exact fun h=>hl h.1
  rw[hp];go_enter Tryz.func29,Tryz.ntmps29;go_wp2;go_ret;exact⟨rfl,aD _ _⟩
open Go.Shelf Go.RowKit
theorem LA {n k:Nat} (h:n<10 ^ (k+1)):(Lib.decDigits n).length≤k+1:=by
 rw[Lib.decDigits_length];induction k generalizing n with
 |zero=>rw[Lib.nDigits_small (by simpa using h)];omega
 |succ k ih=>
  by_cases q:n<10
  ·rw[Lib.nDigits_small q];omega
  ·rw[Lib.nDigits_big q];have:=ih (n:=n / 10) (by rw[Nat.pow_succ]at h;omega)
   omega
theorem oM {n:Nat} (h:n≤9223372036854775807):(Lib.decDigits n).length≤20:=LA (k:=19) (by omega)
def xJ (c:Int):List UInt8:=Lib.decDigits c.toNat
def fE (t:T):List UInt8:=if t.m.x=0∧t.m.y=0∧t.m.d=0∧t.m.e=0 then xJ t.c else if t.c=1 then eN t.m else xJ t.c++eN t.m
def pQ (f:Nat→T):Nat→List UInt8
 |0=>[]
 |k+1=>(if k=0 then[]else pQ f k++[43])++fE (f k)
def cO (n:Nat) (f:Nat→T):List UInt8:=if aH n f=true then(if n=0 then[48]else pQ f n)else[]
theorem vU {n:Nat} {f:Nat→T} (h:aH n f=false):cO n f=[]:=by unfold cO;rw[if_neg (by rw[h];simp)]
theorem mA {n:Nat} {f:Nat→T} (h:aH n f=true) (h0:n=0):cO n f=[48]:=by unfold cO;rw[if_pos h,if_pos h0]
theorem oA {n:Nat} {f:Nat→T} (h:aH n f=true) (h0:n≠0):cO n f=pQ f n:=by unfold cO;rw[if_pos h,if_neg h0]
theorem MM {f:Nat→T} {i:Nat} (h:fC f i=true):(1≤(f i).c∧(f i).c≤100)∧(f i).m.ok=true:=by unfold fC at h;simp only[Bool.and_eq_true,decide_eq_true_eq]at h;exact h.1
theorem cJ {n:Nat} {f:Nat→T} (h:aH n f=true):n≤400∧∀i,i<n→(1≤(f i).c∧(f i).c≤100)∧(f i).m.ok=true:=by have h':=of_decide_eq_true h;exact⟨h'.1,fun i hi=>MM (h'.2 i hi)⟩
theorem KZ {c:Int} (h:c≤100):(xJ c).length≤4:=gU (by omega)
theorem nS {m:M} (h:M.ok m=true):(eN m).length≤12:=by
 unfold eN;rw[if_pos h];split
 ·simp
 ·have:=sF h 4;unfold cX;omega
theorem JW {t:T} (hc:t.c≤100) (h:M.ok t.m=true):(fE t).length≤16:=by
 have h1:=KZ hc;have h2:=nS h
 unfold fE;split
 ·omega
 ·split
  ·omega
  ·rw[List.length_append];omega
theorem nM {f:Nat→T}:∀k,(∀i,i<k→(1≤(f i).c∧(f i).c≤100)∧(f i).m.ok=true)→(pQ f k).length≤17*k
 |0,_=>by simp[pQ]
 |k+1,h=>by
  have h1:=nM k (fun i hi=>h i (by omega));have h2:=JW (h k (by omega)).1.2 (h k (by omega)).2
  unfold pQ;rw[List.length_append];split
  ·simp;omega
  ·rw[List.length_append];simp;omega
theorem lI {c:UInt8} {n:Int} (h:1≤n):∃r,cR c n=c::r:=by
 unfold cR;rw[if_neg (by omega)];split
 ·exact⟨[],rfl⟩
 ·exact⟨_,rfl⟩
theorem pW {c:UInt8} {n:Int} (h:n≤0):cR c n=[]:=by unfold cR;rw[if_pos h]
theorem jP {m:M} (h:M.ok m=true) (h0:¬(m.x=0∧m.y=0∧m.d=0∧m.e=0)):∃c r,cX m=c::r∧(c=120∨c=121∨c=100∨c=101):=by
 obtain⟨x1,x2,y1,y2,d1,d2,e1,e2⟩:=M.ok_iff.1 h;rw[iH];by_cases hx:1≤m.x
 ·obtain⟨r,hr⟩:=lI (c:=120) hx;exact⟨120,_,by rw[hr];rfl,.inl rfl⟩
 rw[pW (c:=120) (by omega),List.nil_append];by_cases hy:1≤m.y
 ·obtain⟨r,hr⟩:=lI (c:=121) hy;exact⟨121,_,by rw[hr];rfl,.inr (.inl rfl)⟩
 rw[pW (c:=121) (by omega),List.nil_append];by_cases hd:1≤m.d
 ·obtain⟨r,hr⟩:=lI (c:=100) hd;exact⟨100,_,by rw[hr];rfl,.inr (.inr (.inl rfl))⟩
 rw[pW (c:=100) (by omega),List.nil_append];by_cases he:1≤m.e
 ·obtain⟨r,hr⟩:=lI (c:=101) he;exact⟨101,_,hr,.inr (.inr (.inr rfl))⟩
 ·exact absurd ⟨by omega,by omega,by omega,by omega⟩ h0
theorem DM {m:M} (h:M.ok m=true) (h0:¬(m.x=0∧m.y=0∧m.d=0∧m.e=0)):eN m≠[49]∧eN m≠[]:=by obtain⟨c,r,e,hc⟩:=jP h h0;rw[fJ h (by rw[e];simp),e];refine⟨fun q=>?_,by simp⟩;rw[List.cons.injEq]at q;rcases hc with rfl|rfl|rfl|rfl<;>exact absurd q.1 (by decide)
theorem PO:eN ⟨0,0,0,0⟩=[49]:=by decide+kernel
theorem sL (sep:List UInt8) (r:List (List UInt8)) (y:List UInt8):Lib.joinTail sep (r++[y])=Lib.joinTail sep r++sep++y:=by unfold Lib.joinTail;simp
theorem tW (sep:List UInt8) (l:List (List UInt8)) (y:List UInt8):Lib.join (l++[y]) sep=(if l.length=0 then[]else Lib.join l sep++sep)++y:=by
 cases l with
 |nil=>simp[Lib.join_one]
 |cons x r=>rw[List.cons_append,Lib.join_cons,Lib.join_cons,sL,if_neg (by simp)];simp
def wI (f:Nat→T) (k:Nat):List (List UInt8):=(List.range k).map fun i=>fE (f i)
theorem oG (f:Nat→T) (k:Nat):(wI f k).length=k:=by simp[wI]
theorem zE (f:Nat→T) (k:Nat):wI f (k+1)=wI f k++[fE (f k)]:=by simp[wI,List.range_succ]
theorem rE (f:Nat→T):∀k,Lib.join (wI f k) [43]=pQ f k
 |0=>by simp[wI,pQ,Lib.join_nil]
 |k+1=>by rw[zE,tW,oG,rE f k];rfl
abbrev Tb (w : World) : Prop := Lib.TabIs Tryz.prog w "internal/strconv.uint64pow10" .u64 Lib.pow10Tab
theorem Tb.below {w w':World} (h:Tb w) (hb:Below w.heap.size w w'):Tb w':=Lib.tabBelow_of_tabIs h w' hb
shelf_lay LaysM.n171 Nm 171 at Tryz as layM171
theorem BL (n:Nat) (hn:n≤9223372036854775807) (w:World) (h:Tb w):Calls Tryz.prog 44 #[.int .i64 (n:Int)] w fun e w'=>e= .returned (.string ⟨(Lib.decDigits n).toArray⟩)∧Below w.heap.size w w':=by
 refine(Any.strconv_Itoa layM171 (n:Int) (by omega) (by omega) w h).mono ?_;rintro e w' ⟨rfl,k,os,rfl⟩;refine⟨?_,?_⟩
 ·unfold Lib.itoa;rw[if_neg (by omega),Int.toNat_natCast]
 ·exact Lib.below_grow _ _ (Nat.le_refl _) _ _
def rI:Go.Shelf.Ren:=⟨fun|0=>0|1=>1|2=>2|103=>203|122=>176|125=>210|128=>225|129=>166|138=>162|143=>97|145=>36|147=>98|156=>52|165=>84|166=>85|167=>128|169=>86|170=>129|171=>44|172=>159|195=>184|197=>180|205=>213|206=>228|210=>214|215=>194|217=>130|218=>185|219=>95|220=>65|221=>136|224=>132|225=>131|240=>122|241=>123|243=>76|244=>181|245=>182|246=>109|247=>198|260=>197|266=>155|267=>133|268=>161|276=>153|277=>154|279=>199|280=>200|281=>201|282=>202|283=>138|284=>139|285=>140|286=>141|287=>211|314=>156|316=>212|317=>165|318=>167|319=>168|320=>169|321=>226|322=>227|329=>230|330=>231|337=>187|338=>188|347=>235|348=>236|349=>237|350=>238|351=>239|352=>240|353=>241|354=>242|355=>243|356=>244|357=>245|358=>246|359=>247|360=>248|361=>249|362=>250|363=>253|364=>251|365=>252|366=>254|367=>265|n=>n,fun|0=>0|1=>1|2=>2|3=>3|4=>4|5=>5|6=>6|7=>7|8=>8|9=>9|10=>10|11=>11|12=>12|13=>13|14=>14|15=>15|16=>16|17=>17|18=>18|19=>19|20=>20|21=>21|22=>228|24=>199|25=>200|26=>115|27=>108|28=>70|31=>30|37=>35|38=>40|43=>104|46=>135|47=>177|51=>166|52=>189|53=>144|54=>145|55=>134|59=>53|60=>54|62=>109|67=>73|68=>47|69=>170|70=>92|71=>93|72=>94|73=>95|74=>96|75=>97|76=>98|77=>99|78=>133|80=>100|81=>72|83=>61|84=>116|85=>194|86=>195|101=>33|102=>32|103=>50|104=>29|105=>185|106=>186|108=>215|111=>130|113=>141|114=>49|119=>207|127=>129|128=>187|131=>222|137=>208|138=>209|139=>210|143=>225|144=>226|145=>227|146=>167|150=>172|151=>168|164=>163|165=>164|166=>165|167=>193|168=>196|169=>197|170=>198|171=>143|172=>146|173=>147|174=>148|175=>211|176=>212|182=>217|183=>218|209=>213|210=>214|211=>174|212=>175|213=>176|214=>224|218=>229|219=>230|220=>231|222=>233|228=>235|229=>106|232=>202|233=>203|238=>237|239=>238|240=>239|241=>240|242=>241|243=>242|244=>243|245=>244|246=>245|247=>246|248=>247|249=>248|n=>n,fun n=>n⟩
theorem GN:Lays.n156 Tryz.prog rI where
 mixed:=by kernel_rfl
 f156:=Tryz.func52.trans (congrArg some (by kernel_rfl))
 f165:=Tryz.func84.trans (congrArg some (by kernel_rfl))
 f166:=Tryz.func85.trans (congrArg some (by kernel_rfl))
 f169:=Tryz.func86.trans (congrArg some (by kernel_rfl))
 f240:=Tryz.func122.trans (congrArg some (by kernel_rfl))
 f241:=Tryz.func123.trans (congrArg some (by kernel_rfl))
 f276:=Tryz.func153.trans (congrArg some (by kernel_rfl))
 f277:=Tryz.func154.trans (congrArg some (by kernel_rfl))
 t0:=Tryz.underlying0
 a0:=Tryz.isAgg0
 z0:=Tryz.sizeOf0
 v0:=Tryz.zeroValue0
 t3:=Tryz.underlying3
 a3:=Tryz.isAgg3
 z3:=Tryz.sizeOf3
 v3:=Tryz.zeroValue3
 t4:=Tryz.underlying4
 a4:=Tryz.isAgg4
 z4:=Tryz.sizeOf4
 v4:=Tryz.zeroValue4
 t9:=Tryz.underlying9
 a9:=Tryz.isAgg9
 z9:=Tryz.sizeOf9
 v9:=Tryz.zeroValue9
 t20:=Tryz.underlying20
 a20:=Tryz.isAgg20
 z20:=Tryz.sizeOf20
 v20:=Tryz.zeroValue20
 t31:=Tryz.underlying30
 a31:=Tryz.isAgg30
 z31:=Tryz.sizeOf30
 v31:=Tryz.zeroValue30
 t37:=Tryz.underlying35
 a37:=Tryz.isAgg35
 z37:=Tryz.sizeOf35
 v37:=Tryz.zeroValue35
 t70:=Tryz.underlying92
 a70:=Tryz.isAgg92
 z70:=Tryz.sizeOf92
 v70:=Tryz.zeroValue92
 t72:=Tryz.underlying94
 a72:=Tryz.isAgg94
 z72:=Tryz.sizeOf94
 v72:=Tryz.zeroValue94
 t75:=Tryz.underlying97
 a75:=Tryz.isAgg97
 z75:=Tryz.sizeOf97
 v75:=Tryz.zeroValue97
 t76:=Tryz.underlying98
 a76:=Tryz.isAgg98
 z76:=Tryz.sizeOf98
 v76:=Tryz.zeroValue98
 t127:=Tryz.underlying129
 a127:=Tryz.isAgg129
 z127:=Tryz.sizeOf129
 v127:=Tryz.zeroValue129
 t164:=Tryz.underlying163
 a164:=Tryz.isAgg163
 z164:=Tryz.sizeOf163
 v164:=Tryz.zeroValue163
theorem xP:Builder.Extra Tryz.prog rI where
 sizeBuilder:=by kernel_rfl
 liesBuilder:=by kernel_rfl
 t5:=Tryz.underlying5
 a5:=Tryz.isAgg5
 z5:=Tryz.sizeOf5
 v5:=Tryz.zeroValue5
 infoByte:=by kernel_rfl
 cellsByte:=by kernel_rfl
 sizeByte:=by kernel_rfl
 neB5:=by decide
theorem RH (bk c:Nat) (xs:List ByteArray) (w:World) (hcells:∀(j:Nat) x,xs[j]? =some x→w.cell? ⟨bk,0+j,none⟩=some (.string x)) (hbk:bk<w.heap.size) (hN:xs.length≤140737488355328) (hcap:xs.length≤c) (hlen:(Lib.join (xs.map (·.data.toList)) [43]).length≤140737488355328):Calls Tryz.prog 52 #[.slice (some ⟨bk,0,none⟩) xs.length c,.string ⟨#[43]⟩] w fun e w'=>e= .returned (.string ⟨(Lib.join (xs.map (·.data.toList)) [43]).toArray⟩)∧Below w.heap.size w w':=
 Any.strings_Join GN xP bk 0 c xs ⟨#[43]⟩ w hcells hbk hN hcap hlen
end Go.Proofs.YtkcmamepoplcdaaGreatDoor
namespace Go.Proofs.YtkcmamepoplcdaaGreatDoor
open Go.RowKit
def M4 (w:World) (b:Nat) (x y d e:Int):Prop:=
 w.cell? ⟨b,0,none⟩=some (.int .i64 x)∧w.cell? ⟨b,1,none⟩=some (.int .i64 y)∧w.cell? ⟨b,2,none⟩=some (.int .i64 d)∧w.cell? ⟨b,3,none⟩=some (.int .i64 e)
theorem M4.lt {w:World} {b:Nat} {x y d e:Int} (h:M4 w b x y d e):b<w.heap.size:=EU w _ h.1
theorem M4.below {w w':World} {b:Nat} {x y d e:Int} (h:M4 w b x y d e) (hb:Below w.heap.size w w'):M4 w' b x y d e:=
 ⟨(hb.cell (p:=⟨b,0,none⟩) h.lt).trans h.1,(hb.cell (p:=⟨b,1,none⟩) h.lt).trans h.2.1,(hb.cell (p:=⟨b,2,none⟩) h.lt).trans h.2.2.1,(hb.cell (p:=⟨b,3,none⟩) h.lt).trans h.2.2.2⟩
theorem M4.box (w:World) (t:TypeId) (x y d e:Int):M4 (w.alloc (.cells #[.int .i64 x,.int .i64 y,.int .i64 d,.int .i64 e] t)) w.heap.size x y d e:=
 ⟨by rw[World.cell?_alloc_at _ _ _ _ rfl];rfl,by rw[World.cell?_alloc_at _ _ _ _ rfl];rfl,by rw[World.cell?_alloc_at _ _ _ _ rfl];rfl,by rw[World.cell?_alloc_at _ _ _ _ rfl];rfl⟩
theorem M4.grown {w w':World} {b:Nat} {x y d e:Int} {row:Option Nat} (h:M4 w b x y d e) (hg:w.grownBy w' row) (hne:some b≠row):M4 w' b x y d e:=by have he:=hg.block b h.lt hne;exact⟨(sP (w:=w) (a:=⟨b,0,none⟩) he).trans h.1,(sP (w:=w) (a:=⟨b,1,none⟩) he).trans h.2.1,(sP (w:=w) (a:=⟨b,2,none⟩) he).trans h.2.2.1,(sP (w:=w) (a:=⟨b,3,none⟩) he).trans h.2.2.2⟩
theorem M4.alloc {w:World} {b:Nat} {x y d e:Int} (h:M4 w b x y d e) (o:Obj):M4 (w.alloc o) b x y d e:=h.below ((aD _ _).alloc (Nat.le_refl _) _)
set_option linter.unusedVariables false
theorem cF {n B o0 o1 o2 o3 o4:Nat} {a w:World} (h:Below n a w) (hB:n≤B) (u0 u1 u2 u3 u4:Value):Below n a (((((w.setCell ⟨B,o0,none⟩ u0).setCell ⟨B,o1,none⟩ u1).setCell ⟨B,o2,none⟩ u2).setCell ⟨B,o3,none⟩ u3).setCell ⟨B,o4,none⟩ u4):=
 ((((h.setCell hB u0).setCell hB u1).setCell hB u2).setCell hB u3).setCell hB u4
def cf (f:Nat→T) (j:Nat):Value:=if j%5=0 then .int .i64 (f (j / 5)).c else if j%5=1 then .int .i64 (f (j / 5)).m.x else if j%5=2 then .int .i64 (f (j / 5)).m.y else if j%5=3 then .int .i64 (f (j / 5)).m.d else .int .i64 (f (j / 5)).m.e
theorem SL (f:Nat→T) (i:Nat):cf f (i*5)= .int .i64 (f i).c:=by unfold cf;rw[if_pos (by omega),show i*5 / 5=i by omega]
theorem QO (f:Nat→T) (i:Nat):cf f (i*5+1)= .int .i64 (f i).m.x:=by unfold cf;rw[if_neg (by omega),if_pos (by omega),show(i*5+1) / 5=i by omega]
theorem QQ (f:Nat→T) (i:Nat):cf f (i*5+2)= .int .i64 (f i).m.y:=by unfold cf;rw[if_neg (by omega),if_neg (by omega),if_pos (by omega),show(i*5+2) / 5=i by omega]
theorem SM (f:Nat→T) (i:Nat):cf f (i*5+3)= .int .i64 (f i).m.d:=by unfold cf;rw[if_neg (by omega),if_neg (by omega),if_neg (by omega),if_pos (by omega),show(i*5+3) / 5=i by omega]
theorem SN (f:Nat→T) (i:Nat):cf f (i*5+4)= .int .i64 (f i).m.e:=by unfold cf;rw[if_neg (by omega),if_neg (by omega),if_neg (by omega),if_neg (by omega),show(i*5+4) / 5=i by omega]
def Own (w:World) (g n:Nat) (f:Nat→T):Prop:=w.rowIs g 79 (n*5) (cf f)
theorem Own.cells {w:World} {g n:Nat} {f:Nat→T} (h:Own w g n f) {i:Nat} (hi:i<n):fL w g (0+i*5) (f i):=by rw[Nat.zero_add];exact⟨by rw[h.cell (by omega),SL],by rw[h.cell (by omega),QO],by rw[h.cell (by omega),QQ],by rw[h.cell (by omega),SM],by rw[h.cell (by omega),SN]⟩
theorem Own.below {w w':World} {g n B:Nat} {f:Nat→T} (h:Own w g n f) (hb:Below B w w') (hg:g<B):Own w' g n f:=h.of_block (hb.block g hg)
theorem xZ:(Tryz.prog.info? 79).map (fun i=>(i.zero,i.size,i.bytes))=some (some (.agg #[.int .i64 0,.int .i64 0,.int .i64 0,.int .i64 0,.int .i64 0]),5,40):=by kernel_rfl
def Wr (w:World) (a:Option Addr) (n:Nat) (f:Nat→T):Prop:=
 n=0∨∃g off N F,a=some ⟨g,off,none⟩∧w.rowIs g 79 N F∧off+n*5≤N∧∀j,j<n*5→F (off+j)=cf f j
def mk (k:Int) (i:Nat):T:=⟨k+5*i,⟨k+5*i+1,k+5*i+2,k+5*i+3,k+5*i+4⟩⟩
theorem DH {w0 w:World} {g o:Nat} (h:w0.grownBy w (some g)) (u:Value):w0.grownBy (w.setCell ⟨g,o,none⟩ u) (some g):=
 ⟨h.os,h.tape,h.output,jW h.size (by simp[World.setCell]),fun k hk hn=>(Below.heap_setCell _ _ _ _ (by intro e;exact hn (by rw[e]))).trans (h.block k hk hn)⟩
theorem qZ (w:World) (r:Option Nat):w.grownBy w r:=⟨rfl,rfl,rfl,Nat.le_refl _,fun _ _ _=>rfl⟩
end Go.Proofs.YtkcmamepoplcdaaGreatDoor
