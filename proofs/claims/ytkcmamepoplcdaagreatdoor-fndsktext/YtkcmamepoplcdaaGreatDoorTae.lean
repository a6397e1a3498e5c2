/-
  Lines, as lists of bytes.
-/
import Derived.Test.YtkcmamepoplcdaaGreatDoorTad
import Derived.Laws.IdiomStrings
set_option maxHeartbeats 8000000
set_option maxRecDepth 100000
namespace Go.Proofs.YtkcmamepoplcdaaGreatDoor
open Go.RowKit
set_option linter.unusedVariables false
def bZ (k:Int):Nat:=if k=2∨k=3∨k=4∨k=5 then 3 else if k=6∨k=7 then 2 else if k=1∨k=8 then 1 else 0
def cS (k:Int):List UInt8:=if k=1 then[115,101,116]else if k=2 then[97,100,100]else if k=3 then[109,117,108]else if k=4 then[97,112,97,114,116]else if k=5 then[100,111]else if k=6 then[114,111,117,110,100]else if k=7 then[98,97,99,107]else[115,104,111,119]
def bK (x:Int):UInt8:=UInt8.ofNat (65+x).toNat
def mI (k to a b:Int) (n:Nat) (f:Nat→T):Bool:=
 decide ((1≤k∧k≤8)∧(0≤to∧to≤5)∧(0≤a∧a≤5)∧(0≤b∧b≤5)∧aS n f=true∧(2≤bZ k∨a=0)∧(3≤bZ k∨b=0)∧(k=1∨n=0))
def oN (to a b:Int):List (List UInt8):=[[bK to],[bK a],[bK b]]
def fN (k to a b:Int) (n:Nat) (f:Nat→T):List (List UInt8):=cS k::((oN to a b).take (bZ k)++if k=1 then[bV n f]else[])
def cW (k to a b:Int) (n:Nat) (f:Nat→T):List UInt8:=Lib.join (fN k to a b n f) [32]
def eL (k to a b:Int) (n:Nat) (f:Nat→T):List UInt8:=if mI k to a b n f=true∧(cW k to a b n f).length≤400 then cW k to a b n f else[]
theorem aQ {k to a b:Int} {n:Nat} {f:Nat→T} (h:mI k to a b n f=false):eL k to a b n f=[]:=by unfold eL;rw[if_neg (fun q=>by rw[h]at q;cases q.1)]
theorem jO {k to a b:Int} {n:Nat} {f:Nat→T} (h:¬(cW k to a b n f).length≤400):eL k to a b n f=[]:=by unfold eL;rw[if_neg (fun q=>h q.2)]
theorem eF {k to a b:Int} {n:Nat} {f:Nat→T} (h:mI k to a b n f=true) (hl:(cW k to a b n f).length≤400):eL k to a b n f=cW k to a b n f:=by unfold eL;rw[if_pos ⟨h,hl⟩]
theorem aR {k to a b:Int} {n:Nat} {f:Nat→T} (h:¬((1≤k∧k≤8)∧(0≤to∧to≤5)∧(0≤a∧a≤5)∧(0≤b∧b≤5)∧aS n f=true∧(2≤bZ k∨a=0)∧(3≤bZ k∨b=0)∧(k=1∨n=0))):mI k to a b n f=false:=decide_eq_false h
theorem yN (to a b:Int) (n:Nat) (f:Nat→T):cW 1 to a b n f=[115,101,116]++[32]++[bK to]++[32]++bV n f:=by show Lib.join [[115,101,116],[bK to],bV n f] [32]=_;simp[Lib.join_cons,Lib.joinTail]
theorem yU (to a b:Int) (n:Nat) (f:Nat→T):cW 8 to a b n f=[115,104,111,119]++[32]++[bK to]:=by show Lib.join [[115,104,111,119],[bK to]] [32]=_;simp[Lib.join_cons,Lib.joinTail]
theorem yS (to a b:Int) (n:Nat) (f:Nat→T):cW 6 to a b n f=[114,111,117,110,100]++[32]++[bK to]++[32]++[bK a]:=by show Lib.join [[114,111,117,110,100],[bK to],[bK a]] [32]=_;simp[Lib.join_cons,Lib.joinTail]
theorem yT (to a b:Int) (n:Nat) (f:Nat→T):cW 7 to a b n f=[98,97,99,107]++[32]++[bK to]++[32]++[bK a]:=by show Lib.join [[98,97,99,107],[bK to],[bK a]] [32]=_;simp[Lib.join_cons,Lib.joinTail]
theorem yO (to a b:Int) (n:Nat) (f:Nat→T):cW 2 to a b n f=[97,100,100]++[32]++[bK to]++[32]++[bK a]++[32]++[bK b]:=by show Lib.join [[97,100,100],[bK to],[bK a],[bK b]] [32]=_;simp[Lib.join_cons,Lib.joinTail]
theorem yP (to a b:Int) (n:Nat) (f:Nat→T):cW 3 to a b n f=[109,117,108]++[32]++[bK to]++[32]++[bK a]++[32]++[bK b]:=by show Lib.join [[109,117,108],[bK to],[bK a],[bK b]] [32]=_;simp[Lib.join_cons,Lib.joinTail]
theorem yQ (to a b:Int) (n:Nat) (f:Nat→T):cW 4 to a b n f=[97,112,97,114,116]++[32]++[bK to]++[32]++[bK a]++[32]++[bK b]:=by show Lib.join [[97,112,97,114,116],[bK to],[bK a],[bK b]] [32]=_;simp[Lib.join_cons,Lib.joinTail]
theorem yR (to a b:Int) (n:Nat) (f:Nat→T):cW 5 to a b n f=[100,111]++[32]++[bK to]++[32]++[bK a]++[32]++[bK b]:=by show Lib.join [[100,111],[bK to],[bK a],[bK b]] [32]=_;simp[Lib.join_cons,Lib.joinTail]
set_option linter.unusedSimpArgs false
theorem rQ (w:World) (x:Nat) (hx:x<256):(convert 35 9 (.slice (some ⟨w.heap.size,0,none⟩) 1 1)).run Tryz.prog (w.alloc (.cells #[.int .u8 (x:Int)] 5))= .ok (.string ⟨#[UInt8.ofNat x]⟩) (w.alloc (.cells #[.int .u8 (x:Int)] 5)):=
 run_convert_bytes_back _ _ _ 5 ⟨w.heap.size,0,none⟩ 1 [UInt8.ofNat x] (by kernel_rfl) (by kernel_rfl) (by kernel_rfl) (fun j hj=>by
  have:j=0:=by simpa using hj
  subst this;have e:((⟨w.heap.size,0,none⟩:Addr).add 0)=⟨w.heap.size,0,none⟩:=rfl
  rw[e,World.cell?_alloc_at _ _ _ _ rfl];simp
  omega)
theorem kQ (n:Nat) (hn:n<10000) (w:World):Calls Tryz.prog 41 #[.int .i64 (n:Int)] w fun r w'=>r= .returned (.string ⟨(Lib.decDigits n).toArray⟩)∧Below w.heap.size w w':=by
 by_cases h0:n=0
 ·subst h0;go_enter Tryz.func41,Tryz.ntmps41;go_wp2;go_ret;exact⟨by rw[bW (by omega)];rfl,aC _ _⟩
 ·have h1:¬(n:Int)<1:=by omega
  go_enter Tryz.func41,Tryz.ntmps41;go_wp2;go_loopw [0,3] (fun v0 v3 wr=>∃(k:Nat) (out:List UInt8),k≤n∧v0= .int .i64 (k:Int)∧v3= .string ⟨out.toArray⟩∧Hid (jE k out=Lib.decDigits n)∧Below w.heap.size w wr) (fun v0 _ _=>(intOf v0).toNat);case atStart=>exact⟨n,[],aE _,rfl,rfl,aA (oA (by omega)),aC _ _⟩
  case round=>
   obtain⟨k,out,hk,rfl,rfl,HD,hB⟩:=hrel;have hlen:out.length≤4:=by
    have h1:=rS k out;rw[HD.out]at h1;have:=jF hn
    omega
   have HB:=aA hB;clear hB;by_cases hk0:k=0
   ·subst hk0;have he:out=Lib.decDigits n:=(qE out).symm.trans HD.out
    have HE:=aA he;clear he;go_wp2;go_ret;exact⟨by rw[HE.out];rfl,HB.out⟩
   ·have hkp:(0:Int)<(k:Int):=by omega
    have hr1:(k:Int).tmod 10=((k%10:Nat):Int):=by rw[Int.tmod_eq_emod_of_nonneg (by omega)];omega
    have hq1:(k:Int).tdiv 10=((k / 10:Nat):Int):=by rw[Int.tdiv_eq_ediv_of_nonneg (by omega)];omega
    obtain⟨r,hr⟩:∃r,k%10=r:=⟨_,rfl⟩
    obtain⟨q,hq⟩:∃q,k / 10=q:=⟨_,rfl⟩
    have hr10:r<10:=by omega
    have hqk:q<k:=by omega
    have hD2:jE q (UInt8.ofNat (48+r)::out)=Lib.decDigits n:=by rw[←hr,←hq,qD (by omega)];exact HD.out
    have HD2:=aA hD2;rw[hr]at hr1;rw[hq]at hq1;clear hD2 HD hr hq;have hr2:(k:Int)%10=(r:Int):=by rw[←hr1,Int.tmod_eq_emod_of_nonneg (by omega)]
    have hq2:(k:Int) / 10=(q:Int):=by rw[←hq1,Int.tdiv_eq_ediv_of_nonneg (by omega)]
    have hw1:IntKind.i64.wrap (48+(r:Int))=((48+r:Nat):Int):=by rw[IntKind.wrap_i64];omega
    have hw2:IntKind.u8.wrap ((48+r:Nat):Int)=((48+r:Nat):Int):=by rcases(show r=0∨r=1∨r=2∨r=3∨r=4∨r=5∨r=6∨r=7∨r=8∨r=9 by omega)with rfl|rfl|rfl|rfl|rfl|rfl|rfl|rfl|rfl|rfl<;>decide
    have hw3:IntKind.u8.wrap (48+(r:Int))=((48+r:Nat):Int):=by rw[show 48+(r:Int)=((48+r:Nat):Int) by omega];exact hw2
    have hcv:=rQ wr (48+r) (by omega);obtain⟨x,hx⟩:∃x,48+r=x:=⟨_,rfl⟩
    rw[hx]at hw1 hw2 hw3 hcv HD2;have hx48:48+(r:Int)=(x:Int):=by omega
    clear hx;have hsz:¬(1+out.length>9223372036854775807):=by omega
    have hsz2:¬(9223372036854775807<1+out.length):=by omega
    go_wp2;go_roundw;case rel=>exact⟨q,UInt8.ofNat x::out,by omega,by first|rfl|(simp[hq2];done)|(simp[hq1];done),by first|rfl|(rw[ByteArray.ext_iff];simp[ByteArray.data_append];done),HD2,aD HB.out (aG _ _)⟩
    case measure=>simp[intOf];omega
theorem sE (c:UInt8) (n:Nat) (hn:n≤15) (w:World):Calls Tryz.prog 108 #[.string ⟨#[c]⟩,.int .i64 (n:Int)] w fun r w'=>r= .returned (.string ⟨(bL c (n:Int)).toArray⟩)∧Below w.heap.size w w':=by
 by_cases h0:n=0
 ·subst h0;go_enter Tryz.func108,Tryz.ntmps108;go_wp2;go_ret;exact⟨by rfl,aC _ _⟩
 ·by_cases h1:n=1
  ·subst h1;go_enter Tryz.func108,Tryz.ntmps108;go_wp2;go_ret;exact⟨by rfl,aC _ _⟩
  ·have hn0:((n:Int)==0)=false:=beq_eq_false_iff_ne.2 (by omega);have hn1:((n:Int)==1)=false:=beq_eq_false_iff_ne.2 (by omega)
   obtain⟨D,hD⟩:∃D,Lib.decDigits n=D:=⟨_,rfl⟩
   have hl:D.length≤2:=by rw[←hD];exact dV (by omega)
   have hc:=kQ n (by omega) w;rw[hD]at hc;have HC:=aA hc
   have hp:bL c (n:Int)=c::D:=by rw[dW (by omega),hD]
   have HP:=aA hp;clear hc hp hD;have hsz:¬(1+D.length>9223372036854775807):=by omega
   have hsz2:¬(9223372036854775807<1+D.length):=by omega
   go_enter Tryz.func108,Tryz.ntmps108;go_wp2_with fail;refine HC.out.mono ?_;rintro r w1 ⟨rfl,hb⟩;have HB:=aA hb
   clear hb;go_wp2;go_ret;exact⟨by rw[HP.out];first|rfl|(congr 2;apply ByteArray.ext;simp[ByteArray.data_append];done),HB.out⟩
theorem oF {c:UInt8} {n:Nat} {p:List UInt8} (h:bL c (n:Int)=p) (hn:n≤15) (w:World):Calls Tryz.prog 108 #[.string ⟨#[c]⟩,.int .i64 (n:Int)] w fun r w'=>r= .returned (.string ⟨p.toArray⟩)∧Below w.heap.size w w':=by rw[←h];exact sE c n hn w
theorem sN (x y d e:Int) (w:World):Calls Tryz.prog 75 #[.agg #[.int .i64 x,.int .i64 y,.int .i64 d,.int .i64 e]] w fun r w'=>r= .returned (.string ⟨(cE ⟨x,y,d,e⟩).toArray⟩)∧Below w.heap.size w w':=by
 obtain⟨ok,hok⟩:∃b,M.ok ⟨x,y,d,e⟩=b:=⟨_,rfl⟩
 have HOK:=aA hok;clear hok;cases ok
 ·have he:=lR HOK.out;have HE:=aA he
  clear he;go_enter Tryz.func75,Tryz.ntmps75;go_wp2_with fail;refine(dT HOK.out _).mono ?_;rintro r w1 ⟨rfl,hb⟩;go_wp2;go_ret;exact⟨by rw[HE.out];rfl,aD (aG w _) hb⟩
 ·obtain⟨x1,x2,y1,y2,d1,d2,e1,e2⟩:=M.ok_iff.1 HOK.out;simp only at x1 x2 y1 y2 d1 d2 e1 e2;obtain⟨X,rfl⟩:∃X:Nat,x=(X:Int):=⟨x.toNat,by omega⟩
  obtain⟨Y,rfl⟩:∃X:Nat,y=(X:Int):=⟨y.toNat,by omega⟩
  obtain⟨D,rfl⟩:∃X:Nat,d=(X:Int):=⟨d.toNat,by omega⟩
  obtain⟨E,rfl⟩:∃X:Nat,e=(X:Int):=⟨e.toNat,by omega⟩
  have hmS:=dR ⟨(X:Int),(Y:Int),(D:Int),(E:Int)⟩;simp only at hmS;obtain⟨p1,hp1⟩:∃p,bL 120 (X:Int)=p:=⟨_,rfl⟩
  obtain⟨p2,hp2⟩:∃p,bL 121 (Y:Int)=p:=⟨_,rfl⟩
  obtain⟨p3,hp3⟩:∃p,bL 100 (D:Int)=p:=⟨_,rfl⟩
  obtain⟨p4,hp4⟩:∃p,bL 101 (E:Int)=p:=⟨_,rfl⟩
  have k1:p1.length≤3:=by rw[←hp1];exact gL (by omega)
  have k2:p2.length≤3:=by rw[←hp2];exact gL (by omega)
  have k3:p3.length≤3:=by rw[←hp3];exact gL (by omega)
  have k4:p4.length≤3:=by rw[←hp4];exact gL (by omega)
  rw[hp1,hp2,hp3,hp4]at hmS;have HM:=aA hmS
  have X15:X≤15:=by omega
  have Y15:Y≤15:=by omega
  have D15:D≤15:=by omega
  have E15:E≤15:=by omega
  clear hmS x1 x2 y1 y2 d1 d2 e1 e2;obtain⟨Res,hRes⟩:∃R,cE ⟨(X:Int),(Y:Int),(D:Int),(E:Int)⟩=R:=⟨_,rfl⟩
  rw[hRes];have HR:=aA hRes
  clear hRes;go_enter Tryz.func75,Tryz.ntmps75;go_wp2_with fail;refine(dT HOK.out _).mono ?_;rintro r w1 ⟨rfl,hb⟩;have hb1:=aD (aG w (.cells #[.int .i64 (X:Int),.int .i64 (Y:Int),.int .i64 (D:Int),.int .i64 (E:Int)] 77)) hb
  have HB1:=aA hb1;have q0:w.heap.size<w1.heap.size:=dM (by simp) hb.size
  have ne:=cX.there w1;have g:∀j:Nat,w1.cell? ⟨w.heap.size,j,none⟩=(w.alloc (.cells #[.int .i64 (X:Int),.int .i64 (Y:Int),.int .i64 (D:Int),.int .i64 (E:Int)] 77)).cell? ⟨w.heap.size,j,none⟩:=fun j=>hb.cell (p:=⟨w.heap.size,j,none⟩) (by simp)
  have s0:∀u:cX w1,u.1.cell? ⟨w.heap.size,0,none⟩=some (.int .i64 (X:Int)):=fun u=>(u.cell q0).trans ((g 0).trans (by rw[World.cell?_alloc_at _ _ _ _ rfl];rfl));have s1:∀u:cX w1,u.1.cell? ⟨w.heap.size,1,none⟩=some (.int .i64 (Y:Int)):=fun u=>(u.cell q0).trans ((g 1).trans (by rw[World.cell?_alloc_at _ _ _ _ rfl];rfl))
  have s2:∀u:cX w1,u.1.cell? ⟨w.heap.size,2,none⟩=some (.int .i64 (D:Int)):=fun u=>(u.cell q0).trans ((g 2).trans (by rw[World.cell?_alloc_at _ _ _ _ rfl];rfl));have s3:∀u:cX w1,u.1.cell? ⟨w.heap.size,3,none⟩=some (.int .i64 (E:Int)):=fun u=>(u.cell q0).trans ((g 3).trans (by rw[World.cell?_alloc_at _ _ _ _ rfl];rfl))
  clear hb hb1 g;have z1:¬(p1.length+p2.length>9223372036854775807):=by omega
  have z2:¬(p1.length+p2.length+p3.length>9223372036854775807):=by omega
  have z3:¬(p1.length+p2.length+p3.length+p4.length>9223372036854775807):=by omega
  have y1:¬(9223372036854775807<p1.length+p2.length):=by omega
  have y2:¬(9223372036854775807<p1.length+p2.length+p3.length):=by omega
  have y3:¬(9223372036854775807<p1.length+p2.length+p3.length+p4.length):=by omega
  go_wp2_with fail;refine aV (by kernel_rfl) (by kernel_rfl) ?_;repeat(go_big_quiet_step (first|(go_at_call 108;exact bE (oF (by with_reducible assumption) (by omega) _))|fail))
  refine wpQuiet_nil ?_;rintro _ ⟨v,rfl⟩;have HV:=aA (aD HB1.out v.2)
  clear s0 s1 s2 s3 ne hp1 hp2 hp3 hp4;have hcat:(ByteArray.mk p1.toArray++ByteArray.mk p2.toArray++ByteArray.mk p3.toArray++ByteArray.mk p4.toArray)=ByteArray.mk (p1++p2++p3++p4).toArray:=by rw[ByteArray.mk_append_mk,ByteArray.mk_append_mk,ByteArray.mk_append_mk]
  simp only[hcat];obtain⟨S,hS⟩:∃S,p1++p2++p3++p4=S:=⟨_,rfl⟩
  rw[hS]at HM⊢;clear hcat hS;by_cases h0:S=[]
  ·subst h0;have hR:Res=[49]:=HR.out.symm.trans (eN HOK.out HM.out)
   have HRR:=aA hR;clear hR;go_wp2;go_ret;exact⟨by rw[HRR.out];rfl,HV.out⟩
  ·have hR:Res=S:=HR.out.symm.trans ((cO HOK.out (by rw[HM.out];exact h0)).trans HM.out);have HRR:=aA hR
   clear hR;have hie:S.isEmpty=false:=by cases S<;>simp at h0⊢
   clear h0;go_wp2;go_ret;exact⟨by rw[HRR.out];rfl,HV.out⟩
theorem kH {a b:List UInt8} (h:a=b):(Value.string ⟨a.toArray⟩)= .string ⟨b.toArray⟩:=by rw[h]
theorem nQ (w:World) (a:Option Addr) (n cap:Nat) (f:Nat→T) (h:Rd w a n cap f):Calls Tryz.prog 43 #[.slice a n cap] w fun r w'=>r= .returned (.string ⟨(bV n f).toArray⟩)∧Below w.heap.size w w':=by
 have HH:=aA h;have hnI:(n:Int)≤9223372036854775807:=by have:=h.2.1;omega
 obtain⟨ok,hok⟩:∃b,aS n f=b:=⟨_,rfl⟩
 have hc:=eH w a n cap f h;rw[hok]at hc;have HC:=aA hc
 have HOK:=aA hok;clear hc hok h;obtain⟨R,hR⟩:∃R,bV n f=R:=⟨_,rfl⟩
 rw[hR];cases ok
 ·have HR:=aA (hR.symm.trans (pO HOK.out));clear hR;go_enter Tryz.func43,Tryz.ntmps43;go_wp2_with fail;refine HC.out.mono ?_;rintro r w1 ⟨rfl,hb⟩;go_wp2;go_ret;exact⟨by rw[HR.out];rfl,hb⟩
 ·by_cases h0:n=0
  ·have HR:=aA (hR.symm.trans (fV HOK.out h0));have hn0:((n:Int)==0)=true:=by rw[h0];rfl
   clear hR h0;go_enter Tryz.func43,Tryz.ntmps43;go_wp2_with fail;refine HC.out.mono ?_;rintro r w1 ⟨rfl,hb⟩;go_wp2;go_ret;exact⟨by rw[HR.out];rfl,hb⟩
  ·have HR:=aA (hR.symm.trans (gX HOK.out h0));have hn0:((n:Int)==0)=false:=beq_eq_false_iff_ne.2 (by omega)
   have HALL:=aA (bT HOK.out);have n400:=(bT HOK.out).1
   have n400I:(n:Int)≤400:=by omega
   clear hR;obtain⟨b,off,rfl,hblt,hcl⟩:=HH.out.2.2.resolve_left h0;have HCL:=aA hcl
   clear hcl;go_enter Tryz.func43,Tryz.ntmps43;go_wp2_with fail;refine HC.out.mono ?_;rintro r w1 ⟨rfl,hb⟩;have HB1:=aA hb
   have hs1:=hb.size;clear hb HC;go_wp2;go_loopw [4,3] (fun v4 v3 wr=>∃(k:Nat) (S:List UInt8),k≤n∧v4= .int .i64 (k:Int)∧v3= .string ⟨S.toArray⟩∧Hid (S=iL f k)∧Hid (Below w.heap.size w wr)) (fun v4 _ _=>n-(intOf v4).toNat);case atStart=>exact⟨0,[],kG _,rfl,rfl,aA rfl,HB1⟩
   case round=>
    obtain⟨k,S,hk,rfl,rfl,HS,HB⟩:=hrel;by_cases hkn:k<n
    ·have hklI:(k:Int)<(n:Int):=by omega
     have hSl:S.length≤6800:=by
      rw[HS.out];have:=gN k (fun i hi=>HALL.out.2 i (by omega))
      omega
     obtain⟨⟨tc1,tc2⟩,tmo⟩:=HALL.out.2 k hkn;obtain⟨t,ht⟩:∃t,f k=t:=⟨_,rfl⟩
     have HJ:=aA (show iL f (k+1)=(if k=0 then[]else iL f k++[43])++cL t by rw[←ht];rfl);rw[←HS.out]at HJ;have HS00:Hid (S=iL f k):=HS
     obtain⟨g0,g1,g2,g3,g4⟩:=(HCL.out k hkn).below HB.out hblt;rw[ht]at tc1 tc2 tmo g0 g1 g2 g3 g4;clear ht;obtain⟨c,⟨x,y,d,e⟩⟩:=t;simp only at tc1 tc2 tmo g0 g1 g2 g3 g4;obtain⟨C,rfl⟩:∃C:Nat,c=(C:Int):=⟨c.toNat,by omega⟩
     have hC100:C≤100:=by omega
     obtain⟨MT,hMT⟩:∃MT,cE ⟨x,y,d,e⟩=MT:=⟨_,rfl⟩
     have hml:MT.length≤12:=by rw[←hMT];exact gS tmo
     have hcm:∀u:World,Calls Tryz.prog 75 #[.agg #[.int .i64 x,.int .i64 y,.int .i64 d,.int .i64 e]] u fun r w'=>r= .returned (.string ⟨MT.toArray⟩)∧Below u.heap.size u w':=fun u=>by rw[←hMT];exact sN x y d e u
     obtain⟨DT,hDT⟩:∃DT,Lib.decDigits C=DT:=⟨_,rfl⟩
     have hdl:DT.length≤4:=by rw[←hDT];exact jF (by omega)
     have hcd:∀u:World,Calls Tryz.prog 41 #[.int .i64 (C:Int)] u fun r w'=>r= .returned (.string ⟨DT.toArray⟩)∧Below u.heap.size u w':=fun u=>by rw[←hDT];exact kQ C (by omega) u
     have htrm:cL ⟨(C:Int),⟨x,y,d,e⟩⟩=if MT=[49]then DT else if C=1 then MT else DT++MT:=by
      show(if x=0∧y=0∧d=0∧e=0 then Lib.decDigits C else if(C:Int)=1 then cE ⟨x,y,d,e⟩else Lib.decDigits C++cE ⟨x,y,d,e⟩)=_;rw[hMT,hDT];by_cases hz:x=0∧y=0∧d=0∧e=0
      ·have hm:MT=[49]:=by obtain⟨rfl,rfl,rfl,rfl⟩:=hz;rw[←hMT];exact wX
       rw[if_pos hz,if_pos hm]
      ·have hm:MT≠[49]:=by rw[←hMT];exact(qL tmo hz).1
       rw[if_neg hz,if_neg hm];by_cases h1:C=1
       ·rw[if_pos h1,if_pos (by omega)]
       ·rw[if_neg h1,if_neg (by omega)]
     rw[htrm]at HJ;have HCM:=aA hcm
     have HCD:=aA hcd;clear hcm hcd hMT hDT htrm tmo HS;by_cases hk0:k=0
     ·subst hk0;have HJ0:Hid (iL f 1=if MT=[49]then DT else if C=1 then MT else DT++MT):=HJ.out
      have hS0:S=[]:=HS00.out;subst hS0;clear HS00;simp only[Nat.zero_mul,Nat.add_zero]at g0 g1 g2 g3 g4;clear HJ;by_cases hm1:MT=[49]
      ·subst hm1;have HQ:Hid (DT=iL f 1):=by rw[HJ0.out,if_pos rfl];exact aA rfl
       go_wp2_with fail;refine(HCM.out _).mono ?_;rintro r wx0 ⟨rfl,hbx0⟩;have HBx0:=aA (aD HB.out hbx0)
       obtain⟨g0,g1,g2,g3,g4⟩:=cJ.below (t:=⟨_,⟨x,y,d,e⟩⟩) ⟨g0,g1,g2,g3,g4⟩ hbx0 (by have:=HB.out.size;omega);simp only at g0 g1 g2 g3 g4;clear hbx0;go_wp2_with fail;refine(HCD.out _).mono ?_;rintro r wx1 ⟨rfl,hbx1⟩;have HBx1:=aA (aD HBx0.out hbx1)
       obtain⟨g0,g1,g2,g3,g4⟩:=cJ.below (t:=⟨_,⟨x,y,d,e⟩⟩) ⟨g0,g1,g2,g3,g4⟩ hbx1 (by have:=HBx0.out.size;omega);simp only at g0 g1 g2 g3 g4;clear hbx1;go_wp2;go_roundw;case rel=>exact⟨1,_,by omega,by go_num,by first|rfl|(refine kH ?_;simp;done)|(congr 1;apply ByteArray.ext;simp[ByteArray.data_append];done),HQ,HBx1⟩
       case measure=>simp[intOf];omega
      ·have hmb1:(MT==[49])=false:=beq_eq_false_iff_ne.2 hm1;by_cases hc1:C=1
       ·subst hc1;have HQ:Hid (MT=iL f 1):=by rw[HJ0.out,if_neg hm1,if_pos rfl];exact aA rfl
        go_wp2_with fail;refine(HCM.out _).mono ?_;rintro r wx0 ⟨rfl,hbx0⟩;have HBx0:=aA (aD HB.out hbx0)
        obtain⟨g0,g1,g2,g3,g4⟩:=cJ.below (t:=⟨_,⟨x,y,d,e⟩⟩) ⟨g0,g1,g2,g3,g4⟩ hbx0 (by have:=HB.out.size;omega);simp only at g0 g1 g2 g3 g4;clear hbx0;go_wp2;go_roundw;case rel=>exact⟨1,_,by omega,by go_num,by first|rfl|(refine kH ?_;simp;done)|(congr 1;apply ByteArray.ext;simp[ByteArray.data_append];done),HQ,HBx0⟩
        case measure=>simp[intOf];omega
       ·have hc1I:((C:Int)==1)=false:=beq_eq_false_iff_ne.2 (by omega);have HQ:Hid (DT++MT=iL f 1):=by rw[HJ0.out,if_neg hm1,if_neg hc1];exact aA rfl
        go_wp2_with fail;refine(HCM.out _).mono ?_;rintro r wx0 ⟨rfl,hbx0⟩;have HBx0:=aA (aD HB.out hbx0)
        obtain⟨g0,g1,g2,g3,g4⟩:=cJ.below (t:=⟨_,⟨x,y,d,e⟩⟩) ⟨g0,g1,g2,g3,g4⟩ hbx0 (by have:=HB.out.size;omega);simp only at g0 g1 g2 g3 g4;clear hbx0;go_wp2_with fail;refine(HCD.out _).mono ?_;rintro r wx1 ⟨rfl,hbx1⟩;have HBx1:=aA (aD HBx0.out hbx1)
        obtain⟨g0,g1,g2,g3,g4⟩:=cJ.below (t:=⟨_,⟨x,y,d,e⟩⟩) ⟨g0,g1,g2,g3,g4⟩ hbx1 (by have:=HBx0.out.size;omega);simp only at g0 g1 g2 g3 g4;clear hbx1;go_wp2;go_roundw;case rel=>exact⟨1,_,by omega,by go_num,by first|rfl|(refine kH ?_;simp;done)|(congr 1;apply ByteArray.ext;simp[ByteArray.data_append];done),HQ,HBx1⟩
        case measure=>simp[intOf];omega
     ·have hkp:(0:Int)<(k:Int):=by omega
      have HJ1:Hid (iL f (k+1)=S++[43]++if MT=[49]then DT else if C=1 then MT else DT++MT):=by have:=HJ.out;rw[if_neg hk0]at this;exact this
      clear HJ;by_cases hm1:MT=[49]
      ·subst hm1;have HQ:Hid (S++[43]++DT=iL f (k+1)):=by rw[HJ1.out,if_pos rfl];exact aA rfl
       go_wp2_with fail;refine(HCM.out _).mono ?_;rintro r wx0 ⟨rfl,hbx0⟩;have HBx0:=aA (aD HB.out hbx0)
       obtain⟨g0,g1,g2,g3,g4⟩:=cJ.below (t:=⟨_,⟨x,y,d,e⟩⟩) ⟨g0,g1,g2,g3,g4⟩ hbx0 (by have:=HB.out.size;omega);simp only at g0 g1 g2 g3 g4;clear hbx0;go_wp2_with fail;refine(HCD.out _).mono ?_;rintro r wx1 ⟨rfl,hbx1⟩;have HBx1:=aA (aD HBx0.out hbx1)
       obtain⟨g0,g1,g2,g3,g4⟩:=cJ.below (t:=⟨_,⟨x,y,d,e⟩⟩) ⟨g0,g1,g2,g3,g4⟩ hbx1 (by have:=HBx0.out.size;omega);simp only at g0 g1 g2 g3 g4;clear hbx1;go_wp2;go_roundw;case rel=>exact⟨k+1,_,by omega,by go_num,by first|rfl|(refine kH ?_;simp;done)|(congr 1;apply ByteArray.ext;simp[ByteArray.data_append];done),HQ,HBx1⟩
       case measure=>simp[intOf];omega
      ·have hmb1:(MT==[49])=false:=beq_eq_false_iff_ne.2 hm1;by_cases hc1:C=1
       ·subst hc1;have HQ:Hid (S++[43]++MT=iL f (k+1)):=by rw[HJ1.out,if_neg hm1,if_pos rfl];exact aA rfl
        go_wp2_with fail;refine(HCM.out _).mono ?_;rintro r wx0 ⟨rfl,hbx0⟩;have HBx0:=aA (aD HB.out hbx0)
        obtain⟨g0,g1,g2,g3,g4⟩:=cJ.below (t:=⟨_,⟨x,y,d,e⟩⟩) ⟨g0,g1,g2,g3,g4⟩ hbx0 (by have:=HB.out.size;omega);simp only at g0 g1 g2 g3 g4;clear hbx0;go_wp2;go_roundw;case rel=>exact⟨k+1,_,by omega,by go_num,by first|rfl|(refine kH ?_;simp;done)|(congr 1;apply ByteArray.ext;simp[ByteArray.data_append];done),HQ,HBx0⟩
        case measure=>simp[intOf];omega
       ·have hc1I:((C:Int)==1)=false:=beq_eq_false_iff_ne.2 (by omega);have HQ:Hid (S++[43]++(DT++MT)=iL f (k+1)):=by rw[HJ1.out,if_neg hm1,if_neg hc1];exact aA rfl
        go_wp2_with fail;refine(HCM.out _).mono ?_;rintro r wx0 ⟨rfl,hbx0⟩;have HBx0:=aA (aD HB.out hbx0)
        obtain⟨g0,g1,g2,g3,g4⟩:=cJ.below (t:=⟨_,⟨x,y,d,e⟩⟩) ⟨g0,g1,g2,g3,g4⟩ hbx0 (by have:=HB.out.size;omega);simp only at g0 g1 g2 g3 g4;clear hbx0;go_wp2_with fail;refine(HCD.out _).mono ?_;rintro r wx1 ⟨rfl,hbx1⟩;have HBx1:=aA (aD HBx0.out hbx1)
        obtain⟨g0,g1,g2,g3,g4⟩:=cJ.below (t:=⟨_,⟨x,y,d,e⟩⟩) ⟨g0,g1,g2,g3,g4⟩ hbx1 (by have:=HBx0.out.size;omega);simp only at g0 g1 g2 g3 g4;clear hbx1;go_wp2;go_roundw;case rel=>exact⟨k+1,_,by omega,by go_num,by first|rfl|(refine kH ?_;simp;done)|(congr 1;apply ByteArray.ext;simp[ByteArray.data_append];done),HQ,HBx1⟩
        case measure=>simp[intOf];omega
    ·have hke:k=n:=by omega
     subst hke;have hnl:¬(k:Int)<(k:Int):=by omega
     have HRS:=aA (HR.out.trans HS.out.symm);go_wp2;go_ret;exact⟨by rw[HRS.out];rfl,HB.out⟩
end Go.Proofs.YtkcmamepoplcdaaGreatDoor
