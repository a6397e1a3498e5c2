/-
  A text that is bent (l20Bent, l20Maybe): some text, at most one byte longer.
  The program reads monomials (monGuess, MonRead).
  The model's texts of monomials (l2Digits, l2Power, MonText).
-/
import Derived.Test.YtoglomfejgpoeaaGreatDoorMad
import Derived.Laws.IdiomStrings
set_option maxHeartbeats 8000000
set_option maxRecDepth 100000
namespace Go.Proofs.YtoglomfejgpoeaaGreatDoor
open Go.Shelf Go.RowKit
set_option linter.unusedVariables false
set_option linter.unusedSimpArgs false
shelf_lay Lays.n103 Nm 103 at Tryz as lay103
shelf_lay LaysC.n172 Nm 172 at Tryz as layC172
def W4 (w:World) (b:Nat) (x0 x1 x2 x3:Int):Prop:=(w.cell? ⟨b,0,none⟩=some (.int .i64 x0)∧w.cell? ⟨b,1,none⟩=some (.int .i64 x1)∧w.cell? ⟨b,2,none⟩=some (.int .i64 x2)∧w.cell? ⟨b,3,none⟩=some (.int .i64 x3))∧∀j,w.frozen? ⟨b,j,none⟩=false
theorem W4.lt {w:World} {b:Nat} {x0 x1 x2 x3:Int} (h:W4 w b x0 x1 x2 x3):b<w.heap.size:=uK w _ h.1.1
theorem W4.below {w w':World} {b:Nat} {x0 x1 x2 x3:Int} (h:W4 w b x0 x1 x2 x3) (hb:Below w.heap.size w w'):W4 w' b x0 x1 x2 x3:=
 ⟨⟨(hb.cell (p:=⟨b,0,none⟩) h.lt).trans h.1.1,(hb.cell (p:=⟨b,1,none⟩) h.lt).trans h.1.2.1,(hb.cell (p:=⟨b,2,none⟩) h.lt).trans h.1.2.2.1,(hb.cell (p:=⟨b,3,none⟩) h.lt).trans h.1.2.2.2⟩,fun j=>(hb.frozen (p:=⟨b,j,none⟩) h.lt).trans (h.2 j)⟩
theorem W4.box (w:World) (y:TypeId) (x0 x1 x2 x3:Int):W4 (w.alloc (.cells #[.int .i64 x0,.int .i64 x1,.int .i64 x2,.int .i64 x3] y)) w.heap.size x0 x1 x2 x3:=
 ⟨⟨by rw[World.cell?_alloc_at _ _ _ _ rfl];rfl,by rw[World.cell?_alloc_at _ _ _ _ rfl];rfl,by rw[World.cell?_alloc_at _ _ _ _ rfl];rfl,by rw[World.cell?_alloc_at _ _ _ _ rfl];rfl⟩,fun j=>by rw[World.frozen?_alloc_at _ _ _ _ rfl]⟩
theorem W4.other {w:World} {b:Nat} {x0 x1 x2 x3:Int} (h:W4 w b x0 x1 x2 x3) {b' k:Nat} (hne:b'≠b) (v:Value):W4 (w.setCell ⟨b',k,none⟩ v) b x0 x1 x2 x3:=by have ne:∀j,(⟨b',k,none⟩:Addr)≠⟨b,j,none⟩:=fun j e=>hne (by cases e;rfl);exact⟨⟨by rw[World.cell?_setCell_other _ _ _ _ (ne 0)];exact h.1.1,by rw[World.cell?_setCell_other _ _ _ _ (ne 1)];exact h.1.2.1,by rw[World.cell?_setCell_other _ _ _ _ (ne 2)];exact h.1.2.2.1,by rw[World.cell?_setCell_other _ _ _ _ (ne 3)];exact h.1.2.2.2⟩,fun j=>by rw[World.frozen?_setCell];exact h.2 j⟩
end Go.Proofs.YtoglomfejgpoeaaGreatDoor
namespace Go.Proofs.YtoglomfejgpoeaaGreatDoor
open Go.RowKit
set_option linter.unusedVariables false
set_option linter.unusedSimpArgs false
theorem zL (w:World) (x:Nat) (hx:x<256):(convert 51 9 (.slice (some ⟨w.heap.size,0,none⟩) 1 1)).run Tryz.prog (w.alloc (.cells #[.int .u8 (x:Int)] 5))= .ok (.string ⟨#[UInt8.ofNat x]⟩) (w.alloc (.cells #[.int .u8 (x:Int)] 5)):=
 run_convert_bytes_back _ _ _ 5 ⟨w.heap.size,0,none⟩ 1 [UInt8.ofNat x] (by kernel_rfl) (by kernel_rfl) (by kernel_rfl) (fun j hj=>by
  have:j=0:=by simpa using hj
  subst this;have e:((⟨w.heap.size,0,none⟩:Addr).add 0)=⟨w.heap.size,0,none⟩:=rfl
  rw[e,World.cell?_alloc_at _ _ _ _ rfl];simp
  omega)
theorem qG (n:Nat) (hn:n<10000) (w:World):Calls Tryz.prog 61 #[.int .i64 (n:Int)] w fun r w'=>r= .returned (.string ⟨(Lib.decDigits n).toArray⟩)∧Below w.heap.size w w':=by
 by_cases h0:n=0
 ·subst h0;go_enter Tryz.func61,Tryz.ntmps61;go_wp2;go_ret;exact⟨by rw[jX (by omega)];rfl,aD _ _⟩
 ·have h1:¬(n:Int)<1:=by omega
  go_enter Tryz.func61,Tryz.ntmps61;go_wp2;go_loopw [0,3] (fun v0 v3 wr=>∃(k:Nat) (out:List UInt8),k≤n∧v0= .int .i64 (k:Int)∧v3= .string ⟨out.toArray⟩∧Hid (nW k out=Lib.decDigits n)∧Below w.heap.size w wr) (fun v0 _ _=>(intOf v0).toNat);case atStart=>exact⟨n,[],Nat.le_refl _,rfl,rfl,aA (uR (by omega)),aD _ _⟩
  case round=>
   obtain⟨k,out,hk,rfl,rfl,HD,hB⟩:=hrel;have hlen:out.length≤4:=by
    have h1:=zN k out;rw[HD.out]at h1;have:=nX hn
    omega
   have HB:=aA hB;clear hB;by_cases hk0:k=0
   ·subst hk0;have he:out=Lib.decDigits n:=(xI out).symm.trans HD.out
    have HE:=aA he;clear he;go_wp2;go_ret;exact⟨by rw[HE.out];rfl,HB.out⟩
   ·have hkp:(0:Int)<(k:Int):=by omega
    have hr1:(k:Int).tmod 10=((k%10:Nat):Int):=by rw[Int.tmod_eq_emod_of_nonneg (by omega)];omega
    have hq1:(k:Int).tdiv 10=((k / 10:Nat):Int):=by rw[Int.tdiv_eq_ediv_of_nonneg (by omega)];omega
    obtain⟨r,hr⟩:∃r,k%10=r:=⟨_,rfl⟩
    obtain⟨q,hq⟩:∃q,k / 10=q:=⟨_,rfl⟩
    have hr10:r<10:=by omega
    have hqk:q<k:=by omega
    have hD2:nW q (UInt8.ofNat (48+r)::out)=Lib.decDigits n:=by rw[←hr,←hq,xH (by omega)];exact HD.out
    have HD2:=aA hD2;rw[hr]at hr1;rw[hq]at hq1;clear hD2 HD hr hq;have hr2:(k:Int)%10=(r:Int):=by rw[←hr1,Int.tmod_eq_emod_of_nonneg (by omega)]
    have hq2:(k:Int) / 10=(q:Int):=by rw[←hq1,Int.tdiv_eq_ediv_of_nonneg (by omega)]
    have hw1:IntKind.i64.wrap (48+(r:Int))=((48+r:Nat):Int):=by rw[IntKind.wrap_i64];omega
    have hw2:IntKind.u8.wrap ((48+r:Nat):Int)=((48+r:Nat):Int):=by rcases(show r=0∨r=1∨r=2∨r=3∨r=4∨r=5∨r=6∨r=7∨r=8∨r=9 by omega)with rfl|rfl|rfl|rfl|rfl|rfl|rfl|rfl|rfl|rfl<;>decide
    have hw3:IntKind.u8.wrap (48+(r:Int))=((48+r:Nat):Int):=by rw[show 48+(r:Int)=((48+r:Nat):Int) by omega];exact hw2
    have hcv:=zL wr (48+r) (by omega);obtain⟨x,hx⟩:∃x,48+r=x:=⟨_,rfl⟩
    rw[hx]at hw1 hw2 hw3 hcv HD2;have hx48:48+(r:Int)=(x:Int):=by omega
    clear hx;have hsz:¬(1+out.length>9223372036854775807):=by omega
    have hsz2:¬(9223372036854775807<1+out.length):=by omega
    go_wp2;go_roundw;case rel=>exact⟨q,UInt8.ofNat x::out,by omega,by first|rfl|(simp[hq2];done)|(simp[hq1];done),by first|rfl|(rw[ByteArray.ext_iff];simp[ByteArray.data_append];done),HD2,aC HB.out (aG _ _)⟩
    case measure=>simp[intOf];omega
theorem AE (c:UInt8) (n:Nat) (hn:n≤15) (w:World):Calls Tryz.prog 140 #[.string ⟨#[c]⟩,.int .i64 (n:Int)] w fun r w'=>r= .returned (.string ⟨(oC c (n:Int)).toArray⟩)∧Below w.heap.size w w':=by
 by_cases h0:n=0
 ·subst h0;go_enter Tryz.func140,Tryz.ntmps140;go_wp2;go_ret;exact⟨by rfl,aD _ _⟩
 ·by_cases h1:n=1
  ·subst h1;go_enter Tryz.func140,Tryz.ntmps140;go_wp2;go_ret;exact⟨by rfl,aD _ _⟩
  ·have hn0:((n:Int)==0)=false:=beq_eq_false_iff_ne.2 (by omega);have hn1:((n:Int)==1)=false:=beq_eq_false_iff_ne.2 (by omega)
   obtain⟨D,hD⟩:∃D,Lib.decDigits n=D:=⟨_,rfl⟩
   have hl:D.length≤2:=by rw[←hD];exact gP (by omega)
   have hc:=qG n (by omega) w;rw[hD]at hc;have HC:=aA hc
   have hp:oC c (n:Int)=c::D:=by rw[jO (by omega),hD]
   have HP:=aA hp;clear hc hp hD;have hsz:¬(1+D.length>9223372036854775807):=by omega
   have hsz2:¬(9223372036854775807<1+D.length):=by omega
   go_enter Tryz.func140,Tryz.ntmps140;go_wp2_with fail;refine HC.out.mono ?_;rintro r w1 ⟨rfl,hb⟩;have HB:=aA hb
   clear hb;go_wp2;go_ret;exact⟨by rw[HP.out];first|rfl|(congr 2;apply ByteArray.ext;simp[ByteArray.data_append];done),HB.out⟩
theorem uW {c:UInt8} {n:Nat} {p:List UInt8} (h:oC c (n:Int)=p) (hn:n≤15) (w:World):Calls Tryz.prog 140 #[.string ⟨#[c]⟩,.int .i64 (n:Int)] w fun r w'=>r= .returned (.string ⟨p.toArray⟩)∧Below w.heap.size w w':=by rw[←h];exact AE c n hn w
theorem AP (x y d e:Int) (w:World):Calls Tryz.prog 108 #[.agg #[.int .i64 x,.int .i64 y,.int .i64 d,.int .i64 e]] w fun r w'=>r= .returned (.string ⟨(gG ⟨x,y,d,e⟩).toArray⟩)∧Below w.heap.size w w':=by
 obtain⟨ok,hok⟩:∃b,M.ok ⟨x,y,d,e⟩=b:=⟨_,rfl⟩
 have HOK:=aA hok;clear hok;cases ok
 ·have he:=wH HOK.out;have HE:=aA he
  clear he;go_enter Tryz.func108,Tryz.ntmps108;go_wp2_with fail;refine(gL HOK.out _).mono ?_;rintro r w1 ⟨rfl,hb⟩;go_wp2;go_ret;exact⟨by rw[HE.out];rfl,aC (aG w _) hb⟩
 ·obtain⟨x1,x2,y1,y2,d1,d2,e1,e2⟩:=M.ok_iff.1 HOK.out;simp only at x1 x2 y1 y2 d1 d2 e1 e2;obtain⟨X,rfl⟩:∃X:Nat,x=(X:Int):=⟨x.toNat,by omega⟩
  obtain⟨Y,rfl⟩:∃X:Nat,y=(X:Int):=⟨y.toNat,by omega⟩
  obtain⟨D,rfl⟩:∃X:Nat,d=(X:Int):=⟨d.toNat,by omega⟩
  obtain⟨E,rfl⟩:∃X:Nat,e=(X:Int):=⟨e.toNat,by omega⟩
  have hmS:=wG ⟨(X:Int),(Y:Int),(D:Int),(E:Int)⟩;simp only at hmS;obtain⟨p1,hp1⟩:∃p,oC 120 (X:Int)=p:=⟨_,rfl⟩
  obtain⟨p2,hp2⟩:∃p,oC 121 (Y:Int)=p:=⟨_,rfl⟩
  obtain⟨p3,hp3⟩:∃p,oC 100 (D:Int)=p:=⟨_,rfl⟩
  obtain⟨p4,hp4⟩:∃p,oC 101 (E:Int)=p:=⟨_,rfl⟩
  have k1:p1.length≤3:=by rw[←hp1];exact lJ (by omega)
  have k2:p2.length≤3:=by rw[←hp2];exact lJ (by omega)
  have k3:p3.length≤3:=by rw[←hp3];exact lJ (by omega)
  have k4:p4.length≤3:=by rw[←hp4];exact lJ (by omega)
  rw[hp1,hp2,hp3,hp4]at hmS;have HM:=aA hmS
  have X15:X≤15:=by omega
  have Y15:Y≤15:=by omega
  have D15:D≤15:=by omega
  have E15:E≤15:=by omega
  clear hmS x1 x2 y1 y2 d1 d2 e1 e2;obtain⟨pI,hRes⟩:∃R,gG ⟨(X:Int),(Y:Int),(D:Int),(E:Int)⟩=R:=⟨_,rfl⟩
  rw[hRes];have HR:=aA hRes
  clear hRes;go_enter Tryz.func108,Tryz.ntmps108;go_wp2_with fail;refine(gL HOK.out _).mono ?_;rintro r w1 ⟨rfl,hb⟩;have hb1:=aC (aG w (.cells #[.int .i64 (X:Int),.int .i64 (Y:Int),.int .i64 (D:Int),.int .i64 (E:Int)] 78)) hb
  have HB1:=aA hb1;have q0:w.heap.size<w1.heap.size:=dR (by simp) hb.size
  have ne:=cO.there w1;have g:∀j:Nat,w1.cell? ⟨w.heap.size,j,none⟩=(w.alloc (.cells #[.int .i64 (X:Int),.int .i64 (Y:Int),.int .i64 (D:Int),.int .i64 (E:Int)] 78)).cell? ⟨w.heap.size,j,none⟩:=fun j=>hb.cell (p:=⟨w.heap.size,j,none⟩) (by simp)
  have s0:∀u:cO w1,u.1.cell? ⟨w.heap.size,0,none⟩=some (.int .i64 (X:Int)):=fun u=>(u.cell q0).trans ((g 0).trans (by rw[World.cell?_alloc_at _ _ _ _ rfl];rfl));have s1:∀u:cO w1,u.1.cell? ⟨w.heap.size,1,none⟩=some (.int .i64 (Y:Int)):=fun u=>(u.cell q0).trans ((g 1).trans (by rw[World.cell?_alloc_at _ _ _ _ rfl];rfl))
  have s2:∀u:cO w1,u.1.cell? ⟨w.heap.size,2,none⟩=some (.int .i64 (D:Int)):=fun u=>(u.cell q0).trans ((g 2).trans (by rw[World.cell?_alloc_at _ _ _ _ rfl];rfl));have s3:∀u:cO w1,u.1.cell? ⟨w.heap.size,3,none⟩=some (.int .i64 (E:Int)):=fun u=>(u.cell q0).trans ((g 3).trans (by rw[World.cell?_alloc_at _ _ _ _ rfl];rfl))
  clear hb hb1 g;have z1:¬(p1.length+p2.length>9223372036854775807):=by omega
  have z2:¬(p1.length+p2.length+p3.length>9223372036854775807):=by omega
  have z3:¬(p1.length+p2.length+p3.length+p4.length>9223372036854775807):=by omega
  have y1:¬(9223372036854775807<p1.length+p2.length):=by omega
  have y2:¬(9223372036854775807<p1.length+p2.length+p3.length):=by omega
  have y3:¬(9223372036854775807<p1.length+p2.length+p3.length+p4.length):=by omega
  go_wp2_with fail;refine aS (by kernel_rfl) (by kernel_rfl) ?_;repeat(go_big_quiet_step (first|(go_at_call 140;exact bK (uW (by with_reducible assumption) (by omega) _))|fail))
  refine wpQuiet_nil ?_;rintro _ ⟨v,rfl⟩;have HV:=aA (aC HB1.out v.2)
  clear s0 s1 s2 s3 ne hp1 hp2 hp3 hp4;have hcat:(ByteArray.mk p1.toArray++ByteArray.mk p2.toArray++ByteArray.mk p3.toArray++ByteArray.mk p4.toArray)=ByteArray.mk (p1++p2++p3++p4).toArray:=by rw[ByteArray.mk_append_mk,ByteArray.mk_append_mk,ByteArray.mk_append_mk]
  simp only[hcat];obtain⟨S,hS⟩:∃S,p1++p2++p3++p4=S:=⟨_,rfl⟩
  rw[hS]at HM⊢;clear hcat hS;by_cases h0:S=[]
  ·subst h0;have hR:pI=[49]:=HR.out.symm.trans (tP HOK.out HM.out)
   have HRR:=aA hR;clear hR;go_wp2;go_ret;exact⟨by rw[HRR.out];rfl,HV.out⟩
  ·have hR:pI=S:=HR.out.symm.trans ((rJ HOK.out (by rw[HM.out];exact h0)).trans HM.out);have HRR:=aA hR
   clear hR;have hie:S.isEmpty=false:=by cases S<;>simp at h0⊢
   clear h0;go_wp2;go_ret;exact⟨by rw[HRR.out];rfl,HV.out⟩
theorem pR {a b:List UInt8} (h:a=b):(Value.string ⟨a.toArray⟩)= .string ⟨b.toArray⟩:=by rw[h]
theorem BE (w:World) (a:Option Addr) (n cap:Nat) (f:Nat→T) (h:Rd w a n cap f):Calls Tryz.prog 62 #[.slice a n cap] w fun r w'=>r= .returned (.string ⟨(iW n f).toArray⟩)∧Below w.heap.size w w':=by
 have HH:=aA h;have hnI:(n:Int)≤9223372036854775807:=by have:=h.2.1;omega
 obtain⟨ok,hok⟩:∃b,aN n f=b:=⟨_,rfl⟩
 have hc:=bD w a n cap f h;rw[hok]at hc;have HC:=aA hc
 have HOK:=aA hok;clear hc hok h;obtain⟨R,hR⟩:∃R,iW n f=R:=⟨_,rfl⟩
 rw[hR];cases ok
 ·have HR:=aA (hR.symm.trans (wN HOK.out));clear hR;go_enter Tryz.func62,Tryz.ntmps62;go_wp2_with fail;refine HC.out.mono ?_;rintro r w1 ⟨rfl,hb⟩;go_wp2;go_ret;exact⟨by rw[HR.out];rfl,hb⟩
 ·by_cases h0:n=0
  ·have HR:=aA (hR.symm.trans (qK HOK.out h0));have hn0:((n:Int)==0)=true:=by rw[h0];rfl
   clear hR h0;go_enter Tryz.func62,Tryz.ntmps62;go_wp2_with fail;refine HC.out.mono ?_;rintro r w1 ⟨rfl,hb⟩;go_wp2;go_ret;exact⟨by rw[HR.out];rfl,hb⟩
  ·have HR:=aA (hR.symm.trans (wM HOK.out h0));have hn0:((n:Int)==0)=false:=beq_eq_false_iff_ne.2 (by omega)
   have HALL:=aA (eB HOK.out);have n400:=(eB HOK.out).1
   have n400I:(n:Int)≤400:=by omega
   clear hR;obtain⟨b,off,rfl,hblt,hcl⟩:=HH.out.2.2.resolve_left h0;have HCL:=aA hcl
   clear hcl;go_enter Tryz.func62,Tryz.ntmps62;go_wp2_with fail;refine HC.out.mono ?_;rintro r w1 ⟨rfl,hb⟩;have HB1:=aA hb
   have hs1:=hb.size;clear hb HC;go_wp2;go_loopw [4,3] (fun v4 v3 wr=>∃(k:Nat) (S:List UInt8),k≤n∧v4= .int .i64 (k:Int)∧v3= .string ⟨S.toArray⟩∧Hid (S=qD f k)∧Hid (Below w.heap.size w wr)) (fun v4 _ _=>n-(intOf v4).toNat);case atStart=>exact⟨0,[],gC _,rfl,rfl,aA rfl,HB1⟩
   case round=>
    obtain⟨k,S,hk,rfl,rfl,HS,HB⟩:=hrel;by_cases hkn:k<n
    ·have hklI:(k:Int)<(n:Int):=by omega
     have hSl:S.length≤6800:=by
      rw[HS.out];have:=lL k (fun i hi=>HALL.out.2 i (by omega))
      omega
     obtain⟨⟨tc1,tc2⟩,tmo⟩:=HALL.out.2 k hkn;obtain⟨t,ht⟩:∃t,f k=t:=⟨_,rfl⟩
     have HJ:=aA (show qD f (k+1)=(if k=0 then[]else qD f k++[43])++oX t by rw[←ht];rfl);rw[←HS.out]at HJ;have HS00:Hid (S=qD f k):=HS
     obtain⟨g0,g1,g2,g3,g4⟩:=(HCL.out k hkn).below HB.out hblt;rw[ht]at tc1 tc2 tmo g0 g1 g2 g3 g4;clear ht;obtain⟨c,⟨x,y,d,e⟩⟩:=t;simp only at tc1 tc2 tmo g0 g1 g2 g3 g4;obtain⟨C,rfl⟩:∃C:Nat,c=(C:Int):=⟨c.toNat,by omega⟩
     have hC100:C≤100:=by omega
     obtain⟨MT,hMT⟩:∃MT,gG ⟨x,y,d,e⟩=MT:=⟨_,rfl⟩
     have hml:MT.length≤12:=by rw[←hMT];exact oR tmo
     have hcm:∀u:World,Calls Tryz.prog 108 #[.agg #[.int .i64 x,.int .i64 y,.int .i64 d,.int .i64 e]] u fun r w'=>r= .returned (.string ⟨MT.toArray⟩)∧Below u.heap.size u w':=fun u=>by rw[←hMT];exact AP x y d e u
     obtain⟨DT,hDT⟩:∃DT,Lib.decDigits C=DT:=⟨_,rfl⟩
     have hdl:DT.length≤4:=by rw[←hDT];exact nX (by omega)
     have hcd:∀u:World,Calls Tryz.prog 61 #[.int .i64 (C:Int)] u fun r w'=>r= .returned (.string ⟨DT.toArray⟩)∧Below u.heap.size u w':=fun u=>by rw[←hDT];exact qG C (by omega) u
     have htrm:oX ⟨(C:Int),⟨x,y,d,e⟩⟩=if MT=[49]then DT else if C=1 then MT else DT++MT:=by
      show(if x=0∧y=0∧d=0∧e=0 then Lib.decDigits C else if(C:Int)=1 then gG ⟨x,y,d,e⟩else Lib.decDigits C++gG ⟨x,y,d,e⟩)=_;rw[hMT,hDT];by_cases hz:x=0∧y=0∧d=0∧e=0
      ·have hm:MT=[49]:=by obtain⟨rfl,rfl,rfl,rfl⟩:=hz;rw[←hMT];exact GL
       rw[if_pos hz,if_pos hm]
      ·have hm:MT≠[49]:=by rw[←hMT];exact(xW tmo hz).1
       rw[if_neg hz,if_neg hm];by_cases h1:C=1
       ·rw[if_pos h1,if_pos (by omega)]
       ·rw[if_neg h1,if_neg (by omega)]
     rw[htrm]at HJ;have HCM:=aA hcm
     have HCD:=aA hcd;clear hcm hcd hMT hDT htrm tmo HS;by_cases hk0:k=0
     ·subst hk0;have HJ0:Hid (qD f 1=if MT=[49]then DT else if C=1 then MT else DT++MT):=HJ.out
      have hS0:S=[]:=HS00.out;subst hS0;clear HS00;simp only[Nat.zero_mul,Nat.add_zero]at g0 g1 g2 g3 g4;clear HJ;by_cases hm1:MT=[49]
      ·subst hm1;have HQ:Hid (DT=qD f 1):=by rw[HJ0.out,if_pos rfl];exact aA rfl
       go_wp2_with fail;refine(HCM.out _).mono ?_;rintro r wx0 ⟨rfl,hbx0⟩;have HBx0:=aA (aC HB.out hbx0)
       obtain⟨g0,g1,g2,g3,g4⟩:=eK.below (t:=⟨_,⟨x,y,d,e⟩⟩) ⟨g0,g1,g2,g3,g4⟩ hbx0 (by have:=HB.out.size;omega);simp only at g0 g1 g2 g3 g4;clear hbx0;go_wp2_with fail;refine(HCD.out _).mono ?_;rintro r wx1 ⟨rfl,hbx1⟩;have HBx1:=aA (aC HBx0.out hbx1)
       obtain⟨g0,g1,g2,g3,g4⟩:=eK.below (t:=⟨_,⟨x,y,d,e⟩⟩) ⟨g0,g1,g2,g3,g4⟩ hbx1 (by have:=HBx0.out.size;omega);simp only at g0 g1 g2 g3 g4;clear hbx1;go_wp2;go_roundw;case rel=>exact⟨1,_,by omega,by go_num,by first|rfl|(refine pR ?_;simp;done)|(congr 1;apply ByteArray.ext;simp[ByteArray.data_append];done),HQ,HBx1⟩
       case measure=>simp[intOf];omega
      ·have hmb1:(MT==[49])=false:=beq_eq_false_iff_ne.2 hm1;by_cases hc1:C=1
       ·subst hc1;have HQ:Hid (MT=qD f 1):=by rw[HJ0.out,if_neg hm1,if_pos rfl];exact aA rfl
        go_wp2_with fail;refine(HCM.out _).mono ?_;rintro r wx0 ⟨rfl,hbx0⟩;have HBx0:=aA (aC HB.out hbx0)
        obtain⟨g0,g1,g2,g3,g4⟩:=eK.below (t:=⟨_,⟨x,y,d,e⟩⟩) ⟨g0,g1,g2,g3,g4⟩ hbx0 (by have:=HB.out.size;omega);simp only at g0 g1 g2 g3 g4;clear hbx0;go_wp2;go_roundw;case rel=>exact⟨1,_,by omega,by go_num,by first|rfl|(refine pR ?_;simp;done)|(congr 1;apply ByteArray.ext;simp[ByteArray.data_append];done),HQ,HBx0⟩
        case measure=>simp[intOf];omega
       ·have hc1I:((C:Int)==1)=false:=beq_eq_false_iff_ne.2 (by omega);have HQ:Hid (DT++MT=qD f 1):=by rw[HJ0.out,if_neg hm1,if_neg hc1];exact aA rfl
        go_wp2_with fail;refine(HCM.out _).mono ?_;rintro r wx0 ⟨rfl,hbx0⟩;have HBx0:=aA (aC HB.out hbx0)
        obtain⟨g0,g1,g2,g3,g4⟩:=eK.below (t:=⟨_,⟨x,y,d,e⟩⟩) ⟨g0,g1,g2,g3,g4⟩ hbx0 (by have:=HB.out.size;omega);simp only at g0 g1 g2 g3 g4;clear hbx0;go_wp2_with fail;refine(HCD.out _).mono ?_;rintro r wx1 ⟨rfl,hbx1⟩;have HBx1:=aA (aC HBx0.out hbx1)
        obtain⟨g0,g1,g2,g3,g4⟩:=eK.below (t:=⟨_,⟨x,y,d,e⟩⟩) ⟨g0,g1,g2,g3,g4⟩ hbx1 (by have:=HBx0.out.size;omega);simp only at g0 g1 g2 g3 g4;clear hbx1;go_wp2;go_roundw;case rel=>exact⟨1,_,by omega,by go_num,by first|rfl|(refine pR ?_;simp;done)|(congr 1;apply ByteArray.ext;simp[ByteArray.data_append];done),HQ,HBx1⟩
        case measure=>simp[intOf];omega
     ·have hkp:(0:Int)<(k:Int):=by omega
      have HJ1:Hid (qD f (k+1)=S++[43]++if MT=[49]then DT else if C=1 then MT else DT++MT):=by have:=HJ.out;rw[if_neg hk0]at this;exact this
      clear HJ;by_cases hm1:MT=[49]
      ·subst hm1;have HQ:Hid (S++[43]++DT=qD f (k+1)):=by rw[HJ1.out,if_pos rfl];exact aA rfl
       go_wp2_with fail;refine(HCM.out _).mono ?_;rintro r wx0 ⟨rfl,hbx0⟩;have HBx0:=aA (aC HB.out hbx0)
       obtain⟨g0,g1,g2,g3,g4⟩:=eK.below (t:=⟨_,⟨x,y,d,e⟩⟩) ⟨g0,g1,g2,g3,g4⟩ hbx0 (by have:=HB.out.size;omega);simp only at g0 g1 g2 g3 g4;clear hbx0;go_wp2_with fail;refine(HCD.out _).mono ?_;rintro r wx1 ⟨rfl,hbx1⟩;have HBx1:=aA (aC HBx0.out hbx1)
       obtain⟨g0,g1,g2,g3,g4⟩:=eK.below (t:=⟨_,⟨x,y,d,e⟩⟩) ⟨g0,g1,g2,g3,g4⟩ hbx1 (by have:=HBx0.out.size;omega);simp only at g0 g1 g2 g3 g4;clear hbx1;go_wp2;go_roundw;case rel=>exact⟨k+1,_,by omega,by go_num,by first|rfl|(refine pR ?_;simp;done)|(congr 1;apply ByteArray.ext;simp[ByteArray.data_append];done),HQ,HBx1⟩
       case measure=>simp[intOf];omega
      ·have hmb1:(MT==[49])=false:=beq_eq_false_iff_ne.2 hm1;by_cases hc1:C=1
       ·subst hc1;have HQ:Hid (S++[43]++MT=qD f (k+1)):=by rw[HJ1.out,if_neg hm1,if_pos rfl];exact aA rfl
        go_wp2_with fail;refine(HCM.out _).mono ?_;rintro r wx0 ⟨rfl,hbx0⟩;have HBx0:=aA (aC HB.out hbx0)
        obtain⟨g0,g1,g2,g3,g4⟩:=eK.below (t:=⟨_,⟨x,y,d,e⟩⟩) ⟨g0,g1,g2,g3,g4⟩ hbx0 (by have:=HB.out.size;omega);simp only at g0 g1 g2 g3 g4;clear hbx0;go_wp2;go_roundw;case rel=>exact⟨k+1,_,by omega,by go_num,by first|rfl|(refine pR ?_;simp;done)|(congr 1;apply ByteArray.ext;simp[ByteArray.data_append];done),HQ,HBx0⟩
        case measure=>simp[intOf];omega
       ·have hc1I:((C:Int)==1)=false:=beq_eq_false_iff_ne.2 (by omega);have HQ:Hid (S++[43]++(DT++MT)=qD f (k+1)):=by rw[HJ1.out,if_neg hm1,if_neg hc1];exact aA rfl
        go_wp2_with fail;refine(HCM.out _).mono ?_;rintro r wx0 ⟨rfl,hbx0⟩;have HBx0:=aA (aC HB.out hbx0)
        obtain⟨g0,g1,g2,g3,g4⟩:=eK.below (t:=⟨_,⟨x,y,d,e⟩⟩) ⟨g0,g1,g2,g3,g4⟩ hbx0 (by have:=HB.out.size;omega);simp only at g0 g1 g2 g3 g4;clear hbx0;go_wp2_with fail;refine(HCD.out _).mono ?_;rintro r wx1 ⟨rfl,hbx1⟩;have HBx1:=aA (aC HBx0.out hbx1)
        obtain⟨g0,g1,g2,g3,g4⟩:=eK.below (t:=⟨_,⟨x,y,d,e⟩⟩) ⟨g0,g1,g2,g3,g4⟩ hbx1 (by have:=HBx0.out.size;omega);simp only at g0 g1 g2 g3 g4;clear hbx1;go_wp2;go_roundw;case rel=>exact⟨k+1,_,by omega,by go_num,by first|rfl|(refine pR ?_;simp;done)|(congr 1;apply ByteArray.ext;simp[ByteArray.data_append];done),HQ,HBx1⟩
        case measure=>simp[intOf];omega
    ·have hke:k=n:=by omega
     subst hke;have hnl:¬(k:Int)<(k:Int):=by omega
     have HRS:=aA (HR.out.trans HS.out.symm);go_wp2;go_ret;exact⟨by rw[HRS.out];rfl,HB.out⟩
end Go.Proofs.YtoglomfejgpoeaaGreatDoor
