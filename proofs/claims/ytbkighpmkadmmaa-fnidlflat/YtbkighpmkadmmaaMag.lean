/-
  The least monomial that two divide: the model's and the program's function.
-/
import Derived.Test.YtbkighpmkadmmaaMae
set_option maxHeartbeats 4000000
namespace Go.Proofs.Ytbkighpmkadmmaa
open Go.RowKit
set_option linter.unusedVariables false
def S8 (u:World) (n:Nat) (x0 y0 z0 u0 x1 y1 z1 u1:Int):Prop:=u.cell? ⟨n,0,none⟩=some (.int .i64 x0)∧u.cell? ⟨n,1,none⟩=some (.int .i64 y0)∧u.cell? ⟨n,2,none⟩=some (.int .i64 z0)∧u.cell? ⟨n,3,none⟩=some (.int .i64 u0)∧u.cell? ⟨n+1,0,none⟩=some (.int .i64 x1)∧u.cell? ⟨n+1,1,none⟩=some (.int .i64 y1)∧u.cell? ⟨n+1,2,none⟩=some (.int .i64 z1)∧u.cell? ⟨n+1,3,none⟩=some (.int .i64 u1)
theorem S8.mk {u:World} {n:Nat} {x0 y0 z0 u0 x1 y1 z1 u1:Int} (ha:M4 u n x0 y0 z0 u0) (hb:M4 u (n+1) x1 y1 z1 u1):S8 u n x0 y0 z0 u0 x1 y1 z1 u1:=
 ⟨ha.1,ha.2.1,ha.2.2.1,ha.2.2.2,hb.1,hb.2.1,hb.2.2.1,hb.2.2.2⟩
theorem S8.a {u:World} {n:Nat} {x0 y0 z0 u0 x1 y1 z1 u1:Int} (h:S8 u n x0 y0 z0 u0 x1 y1 z1 u1):M4 u n x0 y0 z0 u0:=⟨h.1,h.2.1,h.2.2.1,h.2.2.2.1⟩
theorem S8.b {u:World} {n:Nat} {x0 y0 z0 u0 x1 y1 z1 u1:Int} (h:S8 u n x0 y0 z0 u0 x1 y1 z1 u1):M4 u (n+1) x1 y1 z1 u1:=⟨h.2.2.2.2.1,h.2.2.2.2.2.1,h.2.2.2.2.2.2.1,h.2.2.2.2.2.2.2⟩
theorem IX {u:World} {n:Nat} {x0 y0 z0 u0 x1 y1 z1 u1:Int} (h:S8 u n x0 y0 z0 u0 x1 y1 z1 u1):S8 u.drew n x0 y0 z0 u0 x1 y1 z1 u1:=.mk h.a.drew' h.b.drew'
theorem DJ {u:World} {B b:Nat} {v0 v1 v2 v3:Value} {x y d e:Int} (m:M4 u b x y d e) (h:b≠B):M4 ((((u.setCell ⟨B,0,none⟩ v0).setCell ⟨B,1,none⟩ v1).setCell ⟨B,2,none⟩ v2).setCell ⟨B,3,none⟩ v3) b x y d e:=
 ⟨(GN h).trans m.1,(GN h).trans m.2.1,(GN h).trans m.2.2.1,(GN h).trans m.2.2.2⟩
theorem KX {u:World} {n B:Nat} {v0 v1 v2 v3:Value} {x0 y0 z0 u0 x1 y1 z1 u1:Int} (h:S8 u n x0 y0 z0 u0 x1 y1 z1 u1) (hB:n+1<B):S8 ((((u.setCell ⟨B,0,none⟩ v0).setCell ⟨B,1,none⟩ v1).setCell ⟨B,2,none⟩ v2).setCell ⟨B,3,none⟩ v3) n x0 y0 z0 u0 x1 y1 z1 u1:=
 .mk (DJ h.a (by omega)) (DJ h.b (by omega))
theorem DM (x y d e x' y' d' e':Int) (w:World):Calls Try.prog 71 #[.agg #[.int .i64 x,.int .i64 y,.int .i64 d,.int .i64 e],.agg #[.int .i64 x',.int .i64 y',.int .i64 d',.int .i64 e']] w fun r w'=>r= .returned (.agg #[.int .i64 (M.both ⟨x,y,d,e⟩ ⟨x',y',d',e'⟩).x,.int .i64 (M.both ⟨x,y,d,e⟩ ⟨x',y',d',e'⟩).y,.int .i64 (M.both ⟨x,y,d,e⟩ ⟨x',y',d',e'⟩).d,.int .i64 (M.both ⟨x,y,d,e⟩ ⟨x',y',d',e'⟩).e])∧Below w.heap.size w w':=by
 cases ha:M.ok ⟨x,y,d,e⟩
 ·have r1:M.both ⟨x,y,d,e⟩ ⟨x',y',d',e'⟩=M.zero:=by simp[M.both,ha]
  rw[r1];simp only[M.zero];clear r1;go_enter Try.func71,Try.ntmps71;go_wp2_with fail;refine(aW ha _).mono ?_;rintro r w1 ⟨rfl,hb1⟩;obtain⟨hc1,hf1⟩:=aO hb1;have hz1:w.heap.size+1+1<w1.heap.size:=by have:=hb1.size;simp at this;omega
  go_wp2;refine cN (v:=.agg #[.int .i64 0,.int .i64 0,.int .i64 0,.int .i64 0]) (by simp[results,Try.results71,go_sem, *]) rfl ⟨rfl,?_⟩;exact eN (aB (cO w _ _ _) hb1) (by omega) _ _ _ _
 ·cases hb:M.ok ⟨x',y',d',e'⟩
  ·have r1:M.both ⟨x,y,d,e⟩ ⟨x',y',d',e'⟩=M.zero:=by simp[M.both,hb]
   rw[r1];simp only[M.zero];clear r1;go_enter Try.func71,Try.ntmps71;go_wp2_with fail;refine(aW ha _).mono ?_;rintro r w1 ⟨rfl,hb1⟩;obtain⟨hc1,hf1⟩:=aO hb1;have hz1:w.heap.size+1+1<w1.heap.size:=by have:=hb1.size;simp at this;omega
   go_wp2_with fail;refine(aW hb _).mono ?_;rintro r w2 ⟨rfl,hb2⟩;obtain⟨hc2,hf2⟩:=aO hb2;have hz2:w.heap.size+1+1<w2.heap.size:=by have:=hb2.size;omega
   go_wp2;refine cN (v:=.agg #[.int .i64 0,.int .i64 0,.int .i64 0,.int .i64 0]) (by simp[results,Try.results71,go_sem, *]) rfl ⟨rfl,?_⟩;exact eN (aB (aB (cO w _ _ _) hb1) hb2) (by omega) _ _ _ _
  ·have r1:M.both ⟨x,y,d,e⟩ ⟨x',y',d',e'⟩=⟨mx x x',mx y y',mx d d',mx e e'⟩:=by simp[M.both,ha,hb]
   rw[r1];clear r1;go_enter Try.func71,Try.ntmps71;go_wp2_with fail;refine(aW ha _).mono ?_;rintro r w1 ⟨rfl,hb1⟩;obtain⟨hc1,hf1⟩:=aO hb1;have hz1:w.heap.size+1+1<w1.heap.size:=by have:=hb1.size;simp at this;omega
   have hz0:w.heap.size+1<w1.heap.size:=by omega
   have hzz:w.heap.size<w1.heap.size:=by omega
   go_wp2_with fail;refine(aW hb _).mono ?_;rintro r w2 ⟨rfl,hb2⟩;obtain⟨hc2,hf2⟩:=aO hb2;have hz2:w.heap.size+1+1<w2.heap.size:=by have:=hb2.size;omega
   have q0:w2.cell? ⟨w.heap.size,0,none⟩=some (.int .i64 x):=by go_simp
   have q1:w2.cell? ⟨w.heap.size,1,none⟩=some (.int .i64 y):=by go_simp
   have q2:w2.cell? ⟨w.heap.size,2,none⟩=some (.int .i64 d):=by go_simp
   have q3:w2.cell? ⟨w.heap.size,3,none⟩=some (.int .i64 e):=by go_simp
   have p0:w2.cell? ⟨w.heap.size+1,0,none⟩=some (.int .i64 x'):=by go_simp
   have p1:w2.cell? ⟨w.heap.size+1,1,none⟩=some (.int .i64 y'):=by go_simp
   have p2:w2.cell? ⟨w.heap.size+1,2,none⟩=some (.int .i64 d'):=by go_simp
   have p3:w2.cell? ⟨w.heap.size+1,3,none⟩=some (.int .i64 e'):=by go_simp
   have t0:w2.cell? ⟨w.heap.size+1+1,0,none⟩=some (.int .i64 0):=by go_simp
   have t1:w2.cell? ⟨w.heap.size+1+1,1,none⟩=some (.int .i64 0):=by go_simp
   have t2:w2.cell? ⟨w.heap.size+1+1,2,none⟩=some (.int .i64 0):=by go_simp
   have t3:w2.cell? ⟨w.heap.size+1+1,3,none⟩=some (.int .i64 0):=by go_simp
   have z0:∀i,w2.frozen? ⟨w.heap.size+1+1,i,none⟩=false:=fun i=>by go_simp
   have HB:=aA (aB (aB (cO w _ _ _) hb1) hb2);clear hc1 hf1 hc2 hf2 hb1 hb2;go_wp2_with fail;have hS0:S8 w2 w.heap.size x y d e x' y' d' e':=⟨q0,q1,q2,q3,p0,p1,p2,p3⟩
   go_region_held3 (fun u=>u.cell? ⟨w.heap.size,0,none⟩=some (.int .i64 x)∧u.cell? ⟨w.heap.size,1,none⟩=some (.int .i64 y)∧u.cell? ⟨w.heap.size,2,none⟩=some (.int .i64 d)∧u.cell? ⟨w.heap.size,3,none⟩=some (.int .i64 e)∧u.cell? ⟨w.heap.size+1,0,none⟩=some (.int .i64 x')∧u.cell? ⟨w.heap.size+1,1,none⟩=some (.int .i64 y')∧u.cell? ⟨w.heap.size+1,2,none⟩=some (.int .i64 d')∧u.cell? ⟨w.heap.size+1,3,none⟩=some (.int .i64 e')) (first|exact IX hS0|exact KX (by assumption) (by omega)) (first|(go_at_call 101;refine(NA _ _ _).mono ?_;rintro r w7 ⟨rfl,hw7⟩;obtain rfl:=hw7.symm;clear hw7))
   go_wp2;refine cN (v:=.agg #[.int .i64 (mx x x'),.int .i64 (mx y y'),.int .i64 (mx d d'),.int .i64 (mx e e')]) (by simp[results,Try.results71,go_sem, *]) rfl ⟨rfl,?_⟩;exact eN HB.out.drew (by omega) _ _ _ _
open Go.RowKit Go.Deep Go.Joins
def gO (w:World) (a:Option Addr) (n cap:Nat) (ad:Nat→Option Addr) (ln cp:Nat→Nat) (f:Nat→Nat→T):Prop:=
 n≤cap∧n*40≤140737488351232∧(n=0∨∃b off,a=some ⟨b,off,none⟩∧b<w.heap.size∧∀i,i<n→w.cell? ⟨b,off+i,none⟩=some (.slice (ad i) (ln i) (cp i)))∧∀i,i<n→Rd w (ad i) (ln i) (cp i) (f i)
theorem gO.below {w w':World} {a:Option Addr} {n cap:Nat} {ad:Nat→Option Addr} {ln cp:Nat→Nat} {f:Nat→Nat→T} (h:gO w a n cap ad ln cp f) (hb:Below w.heap.size w w'):gO w' a n cap ad ln cp f:=by
 refine⟨h.1,h.2.1,?_,fun i hi=>(h.2.2.2 i hi).below hb⟩;rcases h.2.2.1 with h0|⟨b,off,he,hlt,hc⟩
 ·exact .inl h0
 ·exact .inr ⟨b,off,he,lD hlt hb.size,fun i hi=>(hb.cell (p:=⟨b,off+i,none⟩) hlt).trans (hc i hi)⟩
def aY (n:Nat) (ln:Nat→Nat) (f:Nat→Nat→T):Bool:=decide (n≤12∧∀i,i<n→ln i≠0∧aL (ln i) (f i)=true)
theorem DI (w:World) (a:Option Addr) (n cap:Nat) (ad:Nat→Option Addr) (ln cp:Nat→Nat) (f:Nat→Nat→T) (h:gO w a n cap ad ln cp f):Calls Try.prog 82 #[.slice a n cap] w fun r w'=>r= .returned (.bool (aY n ln f))∧Below w.heap.size w w':=by
 have hn:(n:Int)≤140737488351232:=by have:=h.2.1;omega
 have HH:=aA h;clear h;by_cases hbig:12<n
 ·have e:aY n ln f=false:=decide_eq_false (fun hh=>by omega);have hb:(12:Int)<(n:Int):=by omega
  rw[e];go_enter Try.func82,Try.ntmps82;go_wp2;go_ret;exact⟨rfl,cM _ _⟩
 ·have hnb:¬(12:Int)<(n:Int):=by omega
  go_enter Try.func82,Try.ntmps82;go_wp2;go_loopw [10] (fun v wr=>∃i:Nat,i≤n∧v= .int .i64 (i:Int)∧Below w.heap.size w wr∧∀j,j<i→ln j≠0∧aL (ln j) (f j)=true) (fun v _=>n-(intOf v).toNat);case atStart=>exact⟨0,gT _,rfl,cM _ _,fun j hj=>by omega⟩
  case round=>
   obtain⟨i,hi,rfl,hB,hJ⟩:=hrel;by_cases hlt:i<n
   ·rcases HH.out.2.2.1 with h0|⟨b,off,rfl,hblt,hcl⟩
    ·omega
    have hil:(i:Int)<(n:Int):=by omega
    have g0:wr.cell? ⟨b,off+i,none⟩=some (.slice (ad i) (ln i) (cp i)):=(hB.cell (p:=⟨b,off+i,none⟩) hblt).trans (hcl i hlt);have HK:=aA ((HH.out.2.2.2 i hlt).below hB)
    have HB:=aA hB;have HJ:=aA hJ
    clear hcl hB hJ;by_cases h0:ln i=0
    ·have HE:Hid (aY n ln f=false):=decide_eq_false (fun hh=>(hh.2 i hlt).1 h0);have hz:((ln i:Int)==0)=true:=by rw[h0];rfl
     clear h0;go_wp2;go_ret;exact⟨congrArg (fun z=>Ending.returned (Value.bool z)) HE.out.symm,HB.out⟩
    ·have hz:((ln i:Int)==0)=false:=by rw[beq_eq_false_iff_ne];omega
     have HZ:=aA h0;clear h0;cases hp:aL (ln i) (f i)
     ·have HE:Hid (aY n ln f=false):=decide_eq_false (fun hh=>by have:=(hh.2 i hlt).2;rw[hp]at this;cases this);go_wp2_with fail;refine(iL _ _ _ _ (f i) HK.out).mono ?_;rw[hp];rintro r w1 ⟨rfl,hb⟩;have HB1:=aA (aB HB.out hb)
      clear hb;go_wp2;go_ret;exact⟨congrArg (fun z=>Ending.returned (Value.bool z)) HE.out.symm,HB1.out⟩
     ·go_wp2_with fail;refine(iL _ _ _ _ (f i) HK.out).mono ?_;rw[hp];rintro r w1 ⟨rfl,hb⟩;have HB1:=aA (aB HB.out hb)
      clear hb;go_wp2;go_roundw
      case rel=>exact⟨i+1,by omega,by go_num,HB1.out,fun j hj=>by
       by_cases e:j=i
       ·rw[e];exact⟨HZ.out,hp⟩
       ·exact HJ.out j (by omega)⟩
      case measure=>simp[intOf];omega
   ·have hnl:¬(i:Int)<(n:Int):=by omega
    have hie:i=n:=by omega
    subst hie;have HE:Hid (aY i ln f=true):=decide_eq_true ⟨by omega,hJ⟩
    have HB:=aA hB;clear hB hJ;go_wp2;go_ret;exact⟨congrArg (fun z=>Ending.returned (Value.bool z)) HE.out.symm,HB.out⟩
theorem iK (w:World) (a:Option Addr) (n cap:Nat) (ad:Nat→Option Addr) (ln cp:Nat→Nat) (f:Nat→Nat→T) (h:gO w a n cap ad ln cp f):Calls Try.prog 13 #[.slice a n cap] w fun r w'=>r= .returned (.bool (aY n ln f))∧Below w.heap.size w w':=by
 have hn:(n:Int)≤140737488351232:=by have:=h.2.1;omega
 have HH:=aA h;clear h;by_cases hbig:12<n
 ·have e:aY n ln f=false:=decide_eq_false (fun hh=>by omega);have hb:(12:Int)<(n:Int):=by omega
  rw[e];go_enter Try.func13,Try.ntmps13;go_wp2;go_ret;exact⟨rfl,cM _ _⟩
 ·have hnb:¬(12:Int)<(n:Int):=by omega
  go_enter Try.func13,Try.ntmps13;go_wp2;go_loopw [3] (fun v wr=>∃i:Nat,i≤n∧v= .int .i64 (i:Int)∧Below w.heap.size w wr∧∀j,j<i→ln j≠0∧aL (ln j) (f j)=true) (fun v _=>n-(intOf v).toNat);case atStart=>exact⟨0,gT _,rfl,cM _ _,fun j hj=>by omega⟩
  case round=>
   obtain⟨i,hi,rfl,hB,hJ⟩:=hrel;by_cases hlt:i<n
   ·rcases HH.out.2.2.1 with h0|⟨b,off,rfl,hblt,hcl⟩
    ·omega
    have hil:(i:Int)<(n:Int):=by omega
    have g0:wr.cell? ⟨b,off+i,none⟩=some (.slice (ad i) (ln i) (cp i)):=(hB.cell (p:=⟨b,off+i,none⟩) hblt).trans (hcl i hlt);have HG:Hid (∀w',Below wr.heap.size wr w'→w'.cell? ⟨b,off+i,none⟩=some (.slice (ad i) (ln i) (cp i))):=fun w' hb=>(hb.cell (p:=⟨b,off+i,none⟩) (lD hblt hB.size)).trans g0
    have HK:=aA ((HH.out.2.2.2 i hlt).below hB);have HB:=aA hB
    have HJ:=aA hJ;clear hcl hB hJ;cases hp:aL (ln i) (f i)
    ·have HE:Hid (aY n ln f=false):=decide_eq_false (fun hh=>by have:=(hh.2 i hlt).2;rw[hp]at this;cases this);go_wp2_with fail;refine(iA _ _ _ _ (f i) HK.out).mono ?_;rw[hp];rintro r w1 ⟨rfl,hb⟩;have HB1:=aA (aB HB.out hb)
     clear hb;go_wp2;go_ret;exact⟨congrArg (fun z=>Ending.returned (Value.bool z)) HE.out.symm,HB1.out⟩
    ·go_wp2_with fail;refine(iA _ _ _ _ (f i) HK.out).mono ?_;rw[hp];rintro r w1 ⟨rfl,hb⟩;have HB1:=aA (aB HB.out hb)
     have g1:=HG.out w1 hb;clear hb g0;by_cases h0:ln i=0
     ·have HE:Hid (aY n ln f=false):=decide_eq_false (fun hh=>(hh.2 i hlt).1 h0);have hz:((ln i:Int)==0)=true:=by rw[h0];rfl
      clear h0;go_wp2;go_ret;exact⟨congrArg (fun z=>Ending.returned (Value.bool z)) HE.out.symm,HB1.out⟩
     ·have hz:((ln i:Int)==0)=false:=by rw[beq_eq_false_iff_ne];omega
      have HZ:=aA h0;clear h0;go_wp2;go_roundw
      case rel=>exact⟨i+1,by omega,by go_num,HB1.out,fun j hj=>by
       by_cases e:j=i
       ·rw[e];exact⟨HZ.out,hp⟩
       ·exact HJ.out j (by omega)⟩
      case measure=>simp[intOf];omega
   ·have hnl:¬(i:Int)<(n:Int):=by omega
    have hie:i=n:=by omega
    subst hie;have HE:Hid (aY i ln f=true):=decide_eq_true ⟨by omega,hJ⟩
    have HB:=aA hB;clear hB hJ;go_wp2;go_ret;exact⟨congrArg (fun z=>Ending.returned (Value.bool z)) HE.out.symm,HB.out⟩
end Go.Proofs.Ytbkighpmkadmmaa
namespace Go.Proofs.Ytbkighpmkadmmaa
open Go.RowKit
set_option linter.unusedVariables false
def eH (a b:M):Bool:=decide (a.x=b.x∧a.y=b.y∧a.d=b.d∧a.e=b.e)
theorem bO {a b:M}:eH a b=true↔a=b:=by cases a;cases b;simp[eH]
theorem IH {a b:M}:eH a b=false↔a≠b:=by rw[←Bool.not_eq_true,bO]
theorem KE {p q y z:Int} (hy:0≤y∧y≤15) (hz:0≤z∧z≤15) (h:p*16+y=q*16+z):p=q∧y=z:=by omega
theorem MY {p q y z:Int} (hy:0≤y∧y≤65535) (hz:0≤z∧z≤65535) (h:p*65536+y=q*65536+z):y=z:=by omega
theorem zM {a b:M} (ha:a.ok=true) (hb:b.ok=true) (h:fW a=fW b):a=b:=by
 have ka:=M.ok_iff.1 ha;have kb:=M.ok_iff.1 hb
 have la:0≤eI a∧eI a≤65535:=by unfold eI;omega
 have lb:0≤eI b∧eI b≤65535:=by unfold eI;omega
 unfold fW at h;have h:=MY la lb h
 unfold eI at h;obtain⟨h,h1⟩:=KE ⟨ka.2.2.1,ka.2.2.2.1⟩ ⟨kb.2.2.1,kb.2.2.2.1⟩ h;obtain⟨h,h2⟩:=KE ⟨ka.1,ka.2.1⟩ ⟨kb.1,kb.2.1⟩ h;obtain⟨h,h3⟩:=KE ⟨ka.2.2.2.2.2.2.1,ka.2.2.2.2.2.2.2⟩ ⟨kb.2.2.2.2.2.2.1,kb.2.2.2.2.2.2.2⟩ h;cases a;cases b;simp only at h h1 h2 h3;subst h h1 h2 h3;rfl
def aQ:List T→M→Int
 |[],_=>0
 |t::r,m=>if eH t.m m=true then t.c else aQ r m
def aJ (L:List T):Prop:=L.Pairwise (fun a b=>fW b.m<fW a.m)∧∀t∈L,t.m.ok=true∧1≤t.c∧t.c≤100
theorem gQ {m:M}:∀{L:List T},(∀t∈L,fW t.m<fW m)→aQ L m=0
 |[],_=>rfl
 |t::r,h=>by have h1:=h t (List.mem_cons_self ..);rw[aQ,if_neg (fun e=>by rw[bO.1 e]at h1;omega)];exact gQ (fun s hs=>h s (List.mem_cons_of_mem _ hs))
theorem jE {t:T} {r:List T} {m:M} (h:t.m≠m):aQ (t::r) m=aQ r m:=by rw[aQ,if_neg (fun e=>h (bO.1 e))]
theorem bJ (t:T) (r:List T):aQ (t::r) t.m=t.c:=by rw[aQ,if_pos (bO.2 rfl)]
theorem aJ.tail {t:T} {r:List T} (h:aJ (t::r)):aJ r:=⟨(List.pairwise_cons.1 h.1).2,fun s hs=>h.2 s (List.mem_cons_of_mem _ hs)⟩
theorem aJ.head {t:T} {r:List T} (h:aJ (t::r)):∀s∈r,fW s.m<fW t.m:=(List.pairwise_cons.1 h.1).1
theorem kS:∀{L K:List T},aJ L→aJ K→(∀m,m.ok=true→aQ L m=aQ K m)→L=K
 |[],[],_,_,_=>rfl
 |[],t::r,_,hK,h=>by
  have h1:=hK.2 t (List.mem_cons_self ..);have h2:=h t.m h1.1
  rw[bJ,aQ]at h2;omega
 |t::r,[],hL,_,h=>by
  have h1:=hL.2 t (List.mem_cons_self ..);have h2:=h t.m h1.1
  rw[bJ,aQ]at h2;omega
 |s::p,t::r,hL,hK,h=>by
  have hs:=hL.2 s (List.mem_cons_self ..);have ht:=hK.2 t (List.mem_cons_self ..)
  rcases Int.lt_trichotomy (fW s.m) (fW t.m)with hlt|heq|hgt
  ·have h2:=h t.m ht.1
   rw[bJ,gQ (fun u hu=>by
    rcases List.mem_cons.1 hu with rfl|hu
    ·exact hlt
    ·have:=hL.head u hu;omega)]at h2
   omega
  ·have hm:s.m=t.m:=zM hs.1 ht.1 heq;have hc:s.c=t.c:=by have h2:=h s.m hs.1;rw[bJ,hm,bJ]at h2;exact h2
   have hst:s=t:=by cases s;cases t;simp only at hm hc;subst hm hc;rfl
   subst hst;have hrest:∀m,m.ok=true→aQ p m=aQ r m:=fun m hok=>by
    by_cases hm2:s.m=m
    ·subst hm2;rw[gQ hL.head,gQ hK.head]
    ·have h2:=h m hok;rw[jE hm2,jE hm2]at h2;exact h2
   rw[kS hL.tail hK.tail hrest]
  ·have h2:=h s.m hs.1
   rw[bJ,gQ (fun u hu=>by
    rcases List.mem_cons.1 hu with rfl|hu
    ·exact hgt
    ·have:=hK.head u hu;omega)]at h2
   omega
def dG (f:Nat→T):Nat→Nat→M→Int
 |0,_,_=>0
 |u+1,i,m=>if eH (f i).m m=true then(f i).c else dG f u (i+1) m
theorem pU {f:Nat→T} {m:M}:∀(u i:Nat),(∀j,i≤j→j<i+u→(f j).m≠m)→dG f u i m=0
 |0,_,_=>rfl
 |u+1,i,h=>by rw[dG,if_neg (fun e=>h i (Nat.le_refl _) (by omega) (bO.1 e))];exact pU u (i+1) (fun j h1 h2=>h j (by omega) (by omega))
def Fl (f:Nat→T) (n:Nat):Prop:=(∀j i,j<i→i<n→fW (f i).m<fW (f j).m)∧∀i,i<n→(f i).m.ok=true∧1≤(f i).c∧(f i).c≤100
theorem Fl.high {f:Nat→T} {n i:Nat} {m:M} (h:Fl f n) (hi:i<n→fW (f i).m<fW m):dG f (n-i) i m=0:=by
 refine pU _ _ (fun j h1 h2 e=>?_);have hin:i<n:=by omega
 have h3:=hi hin;by_cases hji:j=i
 ·rw[hji]at e;rw[e]at h3;omega
 ·have:=h.1 i j (by omega) (by omega);rw[e]at this;omega
theorem jI {f:Nat→T} {n i:Nat} (m:M) (hi:i<n):dG f (n-i) i m=if eH (f i).m m=true then(f i).c else dG f (n-(i+1)) (i+1) m:=by rw[show n-i=(n-(i+1))+1 by omega,dG]
theorem lQ {t:T} {r:List T} (h:aJ r) (h1:∀s∈r,fW s.m<fW t.m) (h2:t.m.ok=true∧1≤t.c∧t.c≤100):aJ (t::r):=
 ⟨List.pairwise_cons.2 ⟨h1,h.1⟩,fun s hs=>by rcases List.mem_cons.1 hs with rfl|hs;exact h2;exact h.2 s hs⟩
theorem iX {f:Nat→T} {la:Nat} {g:Nat→T} {lb:Nat} (F:Fl f la) (G:Fl g lb):∀(u i k:Nat),la-i+(lb-k)≤u→(∀t∈dN f la g lb u i k,(∃j,i≤j∧j<la∧t.m=(f j).m)∨(∃j,k≤j∧j<lb∧t.m=(g j).m))∧aJ (dN f la g lb u i k)∧∀m,aQ (dN f la g lb u i k) m=(dG f (la-i) i m+dG g (lb-k) k m)%101
 |0,i,k,hu=>by refine⟨fun t ht=>by simp[dN]at ht,⟨List.Pairwise.nil,fun t ht=>by simp[dN]at ht⟩,fun m=>?_⟩;rw[show la-i=0 by omega,show lb-k=0 by omega];rfl
 |u+1,i,k,hu=>by
  have up:∀(n i:Nat),n-i=0→∀m,dG f (n-i) i m=0:=fun n i h m=>by rw[h];rfl
  have low:∀{t:T} {i' k':Nat} {r:Int},((∃j,i'≤j∧j<la∧t.m=(f j).m)∨(∃j,k'≤j∧j<lb∧t.m=(g j).m))→(i'<la→fW (f i').m<r)→(k'<lb→fW (g k').m<r)→fW t.m<r:=by
   intro t i' k' r h h1 h2;rcases h with⟨j,a1,a2,a3⟩|⟨j,a1,a2,a3⟩
   ·rw[a3];by_cases hj:j=i'
    ·rw[hj];exact h1 (by omega)
    ·have:=F.1 i' j (by omega) a2;have:=h1 (by omega);omega
   ·rw[a3];by_cases hj:j=k'
    ·rw[hj];exact h2 (by omega)
    ·have:=G.1 k' j (by omega) a2;have:=h2 (by omega);omega
  have fi:i<la→(k<lb→fW (g k).m<fW (f i).m)→(∀t∈f i::dN f la g lb u (i+1) k,(∃j,i≤j∧j<la∧t.m=(f j).m)∨(∃j,k≤j∧j<lb∧t.m=(g j).m))∧aJ (f i::dN f la g lb u (i+1) k)∧∀m,aQ (f i::dN f la g lb u (i+1) k) m=(dG f (la-i) i m+dG g (lb-k) k m)%101:=by
   intro hi hk;obtain⟨p1,p2,p3⟩:=iX F G u (i+1) k (by omega);refine⟨fun t ht=>?_,lQ p2 (fun s hs=>low (p1 s hs) (fun h=>F.1 i (i+1) (by omega) h) hk) (F.2 i hi),fun m=>?_⟩
   ·rcases List.mem_cons.1 ht with rfl|ht
    ·exact .inl ⟨i,Nat.le_refl _,hi,rfl⟩
    ·exact(p1 t ht).imp (fun⟨j,a1,a2,a3⟩=>⟨j,by omega,a2,a3⟩) id
   ·rw[jI m hi];by_cases hm:eH (f i).m m=true
    ·have:=bO.1 hm;subst this;have h0:=F.2 i hi
     rw[bJ,if_pos hm,G.high hk,Int.add_zero];omega
    ·rw[aQ,if_neg hm,if_neg hm];exact p3 m
  have gk:k<lb→(i<la→fW (f i).m<fW (g k).m)→(∀t∈g k::dN f la g lb u i (k+1),(∃j,i≤j∧j<la∧t.m=(f j).m)∨(∃j,k≤j∧j<lb∧t.m=(g j).m))∧aJ (g k::dN f la g lb u i (k+1))∧∀m,aQ (g k::dN f la g lb u i (k+1)) m=(dG f (la-i) i m+dG g (lb-k) k m)%101:=by
   intro hk hi;obtain⟨p1,p2,p3⟩:=iX F G u i (k+1) (by omega);refine⟨fun t ht=>?_,lQ p2 (fun s hs=>low (p1 s hs) hi (fun h=>G.1 k (k+1) (by omega) h)) (G.2 k hk),fun m=>?_⟩
   ·rcases List.mem_cons.1 ht with rfl|ht
    ·exact .inr ⟨k,Nat.le_refl _,hk,rfl⟩
    ·exact(p1 t ht).imp id (fun⟨j,a1,a2,a3⟩=>⟨j,by omega,a2,a3⟩)
   ·rw[jI (f:=g) m hk];by_cases hm:eH (g k).m m=true
    ·have:=bO.1 hm;subst this;have h0:=G.2 k hk
     rw[bJ,if_pos hm,F.high hi,Int.zero_add];omega
    ·rw[aQ,if_neg hm,if_neg hm];exact p3 m
  simp only[dN];by_cases hik:i<la∧k<lb
  ·rw[if_pos hik];have hrk:=qC (F.2 i hik.1).1 (G.2 k hik.2).1
   by_cases h1:0<M.ord 1 (f i).m (g k).m
   ·rw[if_pos h1];exact fi hik.1 (fun _=>(mV (F.2 i hik.1).1 (G.2 k hik.2).1).1 h1)
   ·rw[if_neg h1];by_cases h2:M.ord 1 (f i).m (g k).m<0
    ·rw[if_pos h2];refine gk hik.2 (fun _=>?_);rw[←hrk]at h2;unfold c3 at h2;split at h2
     ·assumption
     ·split at h2<;>omega
    ·rw[if_neg h2];have heq:fW (f i).m=fW (g k).m:=by
      have h3:M.ord 1 (f i).m (g k).m=0:=by omega
      rw[←hrk]at h3;unfold c3 at h3;split at h3
      ·omega
      ·split at h3<;>omega
     have hmm:=zM (F.2 i hik.1).1 (G.2 k hik.2).1 heq;obtain⟨p1,p2,p3⟩:=iX F G u (i+1) (k+1) (by omega);have hsum:∀m,(dG f (la-i) i m+dG g (lb-k) k m)%101=if eH (f i).m m=true then((f i).c+(g k).c)%101 else(dG f (la-(i+1)) (i+1) m+dG g (lb-(k+1)) (k+1) m)%101:=fun m=>by rw[jI m hik.1,jI (f:=g) m hik.2,←hmm];split<;>rfl
     have hhi:aQ (dN f la g lb u (i+1) (k+1)) (f i).m=0:=by rw[p3,F.high (fun h=>F.1 i (i+1) (by omega) h),G.high (fun h=>by rw[hmm];exact G.1 k (k+1) (by omega) h)];rfl
     have q1:∀t∈dN f la g lb u (i+1) (k+1),(∃j,i≤j∧j<la∧t.m=(f j).m)∨(∃j,k≤j∧j<lb∧t.m=(g j).m):=fun t ht=>(p1 t ht).imp (fun⟨j,a1,a2,a3⟩=>⟨j,by omega,a2,a3⟩) (fun⟨j,a1,a2,a3⟩=>⟨j,by omega,a2,a3⟩);by_cases hz:((f i).c+(g k).c)%101≠0
     ·rw[if_pos hz];refine⟨fun t ht=>?_,lQ p2 (fun s hs=>low (p1 s hs) (fun h=>F.1 i (i+1) (by omega) h) (fun h=>by rw[hmm];exact G.1 k (k+1) (by omega) h)) ⟨(F.2 i hik.1).1,by dsimp only;omega,by dsimp only;omega⟩,fun m=>?_⟩
      ·rcases List.mem_cons.1 ht with rfl|ht
       ·exact .inl ⟨i,Nat.le_refl _,hik.1,rfl⟩
       ·exact q1 t ht
      ·rw[hsum m,aQ];by_cases hm:eH (f i).m m=true
       ·rw[if_pos hm,if_pos hm]
       ·rw[if_neg hm,if_neg hm];exact p3 m
     ·rw[if_neg hz];refine⟨q1,p2,fun m=>?_⟩;rw[hsum m];by_cases hm:eH (f i).m m=true
      ·have:=bO.1 hm;subst this;rw[if_pos hm,hhi];omega
      ·rw[if_neg hm];exact p3 m
  ·rw[if_neg hik];by_cases hi:i<la
   ·rw[if_pos hi];exact fi hi (fun h=>absurd ⟨hi,h⟩ hik)
   ·rw[if_neg hi];by_cases hk:k<lb
    ·rw[if_pos hk];exact gk hk (fun h=>absurd h hi)
    ·rw[if_neg hk];refine⟨fun t ht=>(by cases ht),⟨List.Pairwise.nil,fun t ht=>(by cases ht)⟩,fun m=>?_⟩;rw[show la-i=0 by omega,show lb-k=0 by omega];rfl
theorem fI {n:Nat} {f:Nat→T} (h:aL n f=true):Fl f n:=by
 have hp:=h;simp only[aL,decide_eq_true_eq]at hp;have h1:∀i,i<n→(f i).m.ok=true∧1≤(f i).c∧(f i).c≤100:=fun i hi=>by have:=hp.2 i hi;simp only[gC,Bool.and_eq_true,decide_eq_true_eq]at this;exact⟨this.1.2,this.1.1⟩
 refine⟨fun j i hji hi=>?_,h1⟩;induction i with
 |zero=>omega
 |succ i ih=>
  have h2:=hp.2 (i+1) hi;simp only[gC,Bool.and_eq_true,Bool.or_eq_true,decide_eq_true_eq]at h2;have h3:=h2.2.resolve_left (by omega)
  rw[show i+1-1=i by omega]at h3;have h4:=(mV (h1 i (by omega)).1 (h1 (i+1) hi).1).1 h3
  by_cases hji2:j=i
  ·rw[hji2];exact h4
  ·have:=ih (by omega) (by omega);omega
end Go.Proofs.Ytbkighpmkadmmaa
