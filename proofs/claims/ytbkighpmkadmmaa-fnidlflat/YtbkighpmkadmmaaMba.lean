/-
  The program counts within a side (IdlFlat), all of it.
  Counting within a side: fewer operators leave more; none leaves all; 1 leaves nothing.
-/
import Derived.Test.YtbkighpmkadmmaaMaz
import Derived.Test.YtbkighpmkadmmaaMax
set_option maxHeartbeats 8000000
set_option maxRecDepth 100000
namespace Go.Proofs.Ytbkighpmkadmmaa
open Go.RowKit Go.Deep Go.Joins
set_option linter.unusedVariables false
set_option linter.unusedSimpArgs false
theorem oN (w:World) (o:Int) (a:Option Addr) (n cap:Nat) (side:Int) (HL:Hid (Calls Try.prog 44 #[.int .i64 o,.slice a n cap] (w.alloc (.cells #[.int .i64 side] 3)) fun r w'=>r= .returned (.tuple #[.slice none 0 0,.bool false])∧Below (w.alloc (.cells #[.int .i64 side] 3)).heap.size (w.alloc (.cells #[.int .i64 side] 3)) w')):Calls Try.prog 17 #[.int .i64 o,.slice a n cap,.int .i64 side] w fun r w'=>r= .returned (.tuple #[.int .i64 0,.bool false])∧Below w.heap.size w w':=by
 have HB0:=aA (aC w (.cells #[.int .i64 side] 3));obtain⟨w0,hw0⟩:∃w0,w.alloc (.cells #[.int .i64 side] 3)=w0:=⟨_,rfl⟩
 rw[hw0]at HL HB0;refine(callsIn_wide (n:=9)).1 ?_;refine callsIn_of_wp Try.func17 rfl trivial ?_ rfl;simp only[Try.ntmps17,List.size_toArray,List.length_cons,List.length_nil,Nat.reduceAdd,Nat.reduceSub,Array.replicate_succ,Array.replicate_zero,List.push_toArray,List.append_toArray,List.nil_append,List.cons_append]
 gi_wp2_with (first
  |(refine⟨trivial,?_⟩;gi_at_call 44;refine(callsIn_wide.2 HL.out).mono ?_;rintro e w1 ⟨rfl,hb1⟩;have HB1:=aA hb1;clear hb1)
  |gi_in)
 exact cN (results_tmp2 rfl _ _ _) rfl ⟨rfl,aB (aB HB0.out HB1.out) (aC _ _)⟩
theorem wZ (w:World) (o:Int) (a:Option Addr) (n cap:Nat) (ad:Nat→Option Addr) (ln cp:Nat→Nat) (f:Nat→Nat→T) (side:Int) (h:gO w a n cap ad ln cp f) (o1:1≤o) (o2:o≤3) (hl:aY n ln f=true) (hs:side<0∨(0≤side∧6<side)):Calls Try.prog 17 #[.int .i64 o,.slice a n cap,.int .i64 side] w fun r w'=>r= .returned (.tuple #[.int .i64 0,.bool false])∧Below w.heap.size w w':=by
 have HL:=aA (rK (w.alloc (.cells #[.int .i64 side] 3)) o a n cap ad ln cp f (h.below (aC w _)) o1 o2 hl);have hn:=(aZ hl).1
 have hb0:=Boxed.new w 3 (.int .i64 side);have HB0:=aA hb0
 obtain⟨w0,hw0⟩:∃w0,w.alloc (.cells #[.int .i64 side] 3)=w0:=⟨_,rfl⟩
 have HW0:Hid (Below w.heap.size w w0):=by rw[←hw0];exact aA (aC w _)
 have hz0:w0.heap.size=w.heap.size+1:=by rw[←hw0];simp
 rw[hw0]at HL HB0;clear hb0 h;refine(callsIn_wide (n:=9)).1 ?_;refine callsIn_of_wp Try.func17 rfl trivial ?_ rfl;simp only[Try.ntmps17,List.size_toArray,List.length_cons,List.length_nil,Nat.reduceAdd,Nat.reduceSub,Array.replicate_succ,Array.replicate_zero,List.push_toArray,List.append_toArray,List.nil_append,List.cons_append];rcases hs with hs|⟨hs1,hs2⟩
 all_goals
  gi_wp2_with (first
   |(refine⟨trivial,?_⟩;gi_at_call 44;refine(callsIn_wide.2 HL.out).mono ?_;rintro e w1 ⟨v,rfl,hb1,hown1⟩;obtain⟨a5,c5,hv5,hout⟩:=aI hown1 (by rw[fK];omega);rw[fK]at hv5;subst hv5;have HB1:=aA hb1;have hbx:Boxed w1 w.heap.size 3 (.int .i64 side):=(hb1.block _ (by omega)).trans HB0.out;have hlx:=hbx.lt;have hbx2:=hbx.alloc (.cells #[.slice a5 n c5] 29);have c1:=hbx2.cell;clear hb1 hown1 hout hbx hbx2)
   |gi_in)
 ·exact cN (results_tmp2 rfl _ _ _) rfl ⟨rfl,aB (aB HW0.out HB1.out) (aC _ _)⟩
 ·exact cN (results_tmp2 rfl _ _ _) rfl ⟨rfl,aB (aB HW0.out HB1.out) (aC _ _)⟩
theorem mQ (w:World) (o:Int) (a:Option Addr) (n cap:Nat) (ad:Nat→Option Addr) (ln cp:Nat→Nat) (f:Nat→Nat→T) (side:Int) (h:gO w a n cap ad ln cp f):Calls Try.prog 17 #[.int .i64 o,.slice a n cap,.int .i64 side] w fun r w'=>r= .returned (.tuple #[.int .i64 (cD o n ln f side).1,.bool (cD o n ln f side).2])∧Below w.heap.size w w':=by
 by_cases ho:1≤o∧o≤3
 ·by_cases hl:aY n ln f=true
  ·by_cases hs:0≤side∧side≤6
   ·obtain⟨s,rfl⟩:∃s:Nat,side=(s:Int):=⟨side.toNat,by omega⟩
    have e:cD o n ln f (s:Int)=((eX o n ln f s:Int),decide (gX o n ln f s=0)):=by unfold cD;rw[if_pos ⟨ho,hl,hs⟩];rfl
    rw[e];exact uZ w o a n cap ad ln cp f s h ho.1 ho.2 hl (by omega)
   ·have e:cD o n ln f side=(0,false):=if_neg (fun c=>hs c.2.2);rw[e];exact wZ w o a n cap ad ln cp f side h ho.1 ho.2 hl (by omega)
  ·have e:cD o n ln f side=(0,false):=if_neg (fun c=>hl c.2.1);rw[e];exact oN w o a n cap side (aA (tE _ o a n cap ad ln cp f (h.below (aC w _)) ho.1 ho.2 (by simpa using hl)))
 ·have e:cD o n ln f side=(0,false):=if_neg (fun c=>ho c.1);rw[e];exact oN w o a n cap side (aA (qQ _ o a n cap (by omega)))
end Go.Proofs.Ytbkighpmkadmmaa
namespace Go.Proofs.Ytbkighpmkadmmaa
open Go.RowKit
set_option linter.unusedVariables false
theorem gY {φ ψ:Nat→Nat}:∀{n:Nat},(∀i,i<n→φ i≤ψ i)→aD φ n≤aD ψ n
 |0,_=>Nat.le_refl _
 |n+1,h=>Nat.add_le_add (gY (fun i hi=>h i (by omega))) (h n (by omega))
theorem oK (c:Nat):∀n,aD (fun _=>c) n=n*c
 |0=>by rw[Nat.zero_mul];rfl
 |n+1=>by show aD (fun _=>c) n+c=(n+1)*c;rw[oK c n,Nat.succ_mul]
theorem kD {p:T→Bool} {f:Nat→T}:∀{n:Nat},eO p f n<0↔∀i,i<n→p (f i)=false
 |0=>⟨fun _ i h=>by omega,fun _=>by show(-1:Int)<0;omega⟩
 |n+1=>by
  have ih:=kD (p:=p) (f:=f) (n:=n);unfold eO;split
  ·rename_i h0;constructor
   ·intro h;omega
   ·intro h;have:=ih.2 (fun i hi=>h i (by omega))
    omega
  ·rename_i h0;split
   ·rename_i h1;constructor
    ·intro h;omega
    ·intro h;have:=h n (by omega)
     rw[h1]at this;cases this
   ·rename_i h1;constructor
    ·intro _ i hi;by_cases e:i=n
     ·subst e;simpa using h1
     ·exact ih.1 (by omega) i (by omega)
    ·intro _;omega
theorem wV {o:Int} {n k:Nat} {ln:Nat→Nat} {f:Nat→Nat→T} {m:M} (hk:k≤n) (h:cQ o n ln f m=true):cQ o k ln f m=true:=
 decide_eq_true (kD.2 (fun i hi=>kD.1 (of_decide_eq_true h) i (by omega)))
theorem pT (o:Int) {n k:Nat} (ln:Nat→Nat) (f:Nat→Nat→T) (s:Nat) (hk:k≤n):eX o n ln f s≤eX o k ln f s:=
 gY fun x _=>gY fun y _=>gY fun d _=>gY fun e _=>by
  show(if cQ o n ln f (fm x y d e)=true then 1 else 0)≤(if cQ o k ln f (fm x y d e)=true then 1 else 0);by_cases h:cQ o n ln f (fm x y d e)=true
  ·rw[if_pos h,if_pos (wV hk h)];exact Nat.le_refl _
  ·rw[if_neg h];exact gT _
theorem wW (o:Int) (ln:Nat→Nat) (f:Nat→Nat→T) (s:Nat):eX o 0 ln f s=(s+1)*((s+1)*((s+1)*(s+1))):=by
 unfold eX;have h:∀m,(if cQ o 0 ln f m=true then 1 else 0)=(1:Nat):=fun m=>if_pos (decide_eq_true (kD.2 (fun i hi=>by omega)))
 simp only[h,oK,Nat.mul_one]
theorem CT {o:Int} {n:Nat} {ln:Nat→Nat} {f:Nat→Nat→T} {s:Nat} (h:∀x y d e,x≤s→y≤s→d≤s→e≤s→cQ o n ln f (fm x y d e)=false):eX o n ln f s=0∧gX o n ln f s=0:=by
 constructor
 ·refine Eq.trans (bA fun x hx=>Eq.trans (bA fun y hy=>Eq.trans (bA fun d hd=>Eq.trans (bA fun e he=>?_) (cH _)) (cH _)) (cH _)) (cH _);exact if_neg (by rw[h x y d e (by omega) (by omega) (by omega) (by omega)];simp)
 ·refine Eq.trans (bA fun x hx=>Eq.trans (bA fun y hy=>Eq.trans (bA fun d hd=>Eq.trans (bA fun e he=>?_) (cH _)) (cH _)) (cH _)) (cH _);exact if_neg (by rw[h x y d e (by omega) (by omega) (by omega) (by omega)];simp)
theorem CU {o:Int} {ln:Nat→Nat} {f:Nat→Nat→T} {s:Nat} (h1:ln 0=1) (hf:(f 0 0).m=M.zero) (hs:s≤6):eX o 1 ln f s=0∧gX o 1 ln f s=0:=
 CT fun x y d e hx hy hd he=>by
  have hl:(dM o ln f 0).m=M.zero:=by unfold dM aP;rw[h1];exact hf
  have hok:M.ok (fm x y d e)=true:=M.ok_iff.2 ⟨Int.natCast_nonneg _,show(x:Int)≤15 by omega,Int.natCast_nonneg _,show(y:Int)≤15 by omega,Int.natCast_nonneg _,show(d:Int)≤15 by omega,Int.natCast_nonneg _,show(e:Int)≤15 by omega⟩;have hd:M.dvd (dM o ln f 0).m (fm x y d e)=true:=by rw[hl];unfold M.dvd;rw[hok,show M.zero.ok=true from rfl,decide_eq_true (show M.zero.x≤(fm x y d e).x∧M.zero.y≤(fm x y d e).y∧M.zero.d≤(fm x y d e).d∧M.zero.e≤(fm x y d e).e from⟨Int.natCast_nonneg _,Int.natCast_nonneg _,Int.natCast_nonneg _,Int.natCast_nonneg _⟩)];rfl
  refine decide_eq_false fun h=>?_;have:=kD.1 h 0 (by omega)
  rw[hd]at this;cases this
open Go.RowKit Go.Deep Go.Joins
def NK (w:World) (e:Ending) (w':World):Prop:=∃(o:Int) (a:Option Addr) (n c:Nat) (ad:Nat→Option Addr) (cp:Nat→Nat) (L:Nat→List T) (s:Int),e= .returned (.tuple #[.int .i64 o,.slice a n c,.int .i64 s])∧gO w' a n c ad (lN L) cp (fN L)∧n≤12∧(-1≤s∧s≤7)∧Below w.heap.size w w'
theorem LZ (u:Int) (u0:0≤u) (u1:u<6):∃x:Int,#[Value.int .i64 2,.int .i64 3,.int .i64 4,.int .i64 0,.int .i64 7,.int .i64 (-1)][u.toNat]? =some (.int .i64 x)∧ -1≤x∧x≤7:=by
 have hu:u=0∨u=1∨u=2∨u=3∨u=4∨u=5:=by omega
 rcases hu with rfl|rfl|rfl|rfl|rfl|rfl<;>exact⟨_,rfl,by omega,by omega⟩
theorem uK (w:World) (a:Option Addr) (len cap:Nat) (h:JZ w a len cap):Calls Try.prog 16 #[.slice a len cap] w (NK w):=by
 go_enter Try.func16,Try.ntmps16;go_wp2_with fail;refine(DW _ _ _ _ h).mono ?_;rintro e w1 ⟨rfl,hR1,b1⟩;have hl1:=hR1.lt
 clear h;go_wp2_with fail;refine(CF w1 _ _ hR1 (by omega)).mono ?_;rintro e w2 ⟨o,la,n,lc,lad,lcp,L,q2,rfl,hr2,hn12,hq2,hR2,s2⟩;have b2:=s2.below b1 (Nat.le_refl _) (by omega)
 have hs2:=s2.size;have HL2:=aA hr2
 have HR2:=aA hR2;have HB2:=aA b2
 clear hR1 s2 b1 hr2 hR2 b2;go_wp2_with fail
 go_region_with (first
  |(go_at_call 48;refine(aT _ _ _ _ (HR2.out.drewN 1) (by omega) (by omega) (by omega)).mono ?_;rintro e w3 ⟨u,rfl,u0,u1,k3⟩;have HL3:=aA ((HL2.out.below (cM _ _).drew).beside k3.beside);have HB3:=aA (k3.beside.below HB2.out.drew (Nat.le_refl _) (show w.heap.size≤w2.heap.size by omega));obtain⟨x,hx,x1,x2⟩:=LZ u u0 u1;have hw3:w3.heap.size=w3.heap.size:=rfl;have hcx:(w3.alloc (.cells #[.int .i64 2,.int .i64 3,.int .i64 4,.int .i64 0,.int .i64 7,.int .i64 (-1)] 3)).cell? ⟨w3.heap.size,u.toNat,none⟩=some (.int .i64 x):=(by rw[World.cell?_alloc_at _ _ _ _ rfl];exact hx);clear k3 hx hw3)
  |(go_at_call 48;refine(aT _ _ _ _ ((HR2.out.alloc _).drewN 1) (by omega) (by omega) (by omega)).mono ?_;rintro e w3 ⟨u,rfl,u0,u1,k3⟩;have HL3:=aA (((HL2.out.below (aC _ _)).below (cM _ _).drew).beside k3.beside);have HB3:=aA (k3.beside.below (HB2.out.alloc HB2.out.size _).drew (Nat.le_refl _) (HB2.out.alloc HB2.out.size _).size);obtain⟨x,hx,x1,x2⟩:=LZ u u0 u1;have hcx:w3.cell? ⟨w2.heap.size,u.toNat,none⟩=some (.int .i64 x):=(by rw[k3.beside.cell (by simp[World.drewN]) (by omega)];show(w2.alloc _).cell? _=_;rw[World.cell?_alloc_at _ _ _ _ rfl];exact hx);clear k3 hx))
 all_goals
  go_wp2;refine cN (v:=.tuple #[.int .i64 o,.slice la n lc,.int .i64 x]) (by simp[results,Try.results16,go_sem, *]) rfl ?_
  first
   |exact⟨o,la,n,lc,lad,lcp,L,x,rfl,HL3.out.1,hn12,⟨x1,x2⟩,HB3.out⟩
   |exact⟨o,la,n,lc,lad,lcp,L,x,rfl,(HL3.out.below (aC _ _)).1,hn12,⟨x1,x2⟩,HB3.out.alloc HB3.out.size _⟩
theorem GO (u:World):Calls Try.prog 19 #[] u fun e w'=>e= .returned (.slice (some ⟨u.heap.size,0,none⟩) 1 1)∧Below u.heap.size u w'∧RL w' (some ⟨u.heap.size,0,none⟩) 1 [⟨1,⟨0,0,0,0⟩⟩]:=by go_enter Try.func19,Try.ntmps19;go_wp2;go_ret;exact⟨rfl,aC u _,eT u ⟨1,⟨0,0,0,0⟩⟩⟩
theorem EP {w:World} {a:Option Addr} {n cap k:Nat} {ad:Nat→Option Addr} {ln cp:Nat→Nat} {f:Nat→Nat→T} (h:gO w a n cap ad ln cp f) (hk:k≤n):gO w a k cap ad ln cp f:=
 ⟨by have:=h.1;omega,by have:=h.2.1;omega,h.2.2.1.elim (fun h0=>.inl (by omega)) (fun⟨b,off,e,hlt,hc⟩=>.inr ⟨b,off,e,hlt,fun i hi=>hc i (by omega)⟩),fun i hi=>h.2.2.2 i (by omega)⟩
theorem EO {w:World} {a:Option Addr} {cap:Nat} {ad:Nat→Option Addr} {ln cp:Nat→Nat} {f:Nat→Nat→T}:gO w a 0 cap ad ln cp f:=
 ⟨gT _,gT _,.inl rfl,fun i hi=>absurd hi (Nat.not_lt_zero _)⟩
theorem IV {w:World} {a:Option Addr} {c:Nat} {p:List T} (h:RL w a c p):gO (w.alloc (.cells #[.slice a p.length c] 29)) (some ⟨w.heap.size,0,none⟩) 1 1 (fun _=>a) (lN (fun _=>p)) (fun _=>c) (fN (fun _=>p)):=
 ⟨Nat.le_refl _,by omega,.inr ⟨w.heap.size,0,rfl,by simp,fun i hi=>by
  obtain rfl:i=0:=by omega
  rw[World.cell?_alloc_at _ _ _ _ rfl];rfl⟩,fun i hi=>Rd.below h (aC _ _)⟩
theorem uU {o:Int} {n:Nat} {ln:Nat→Nat} {f:Nat→Nat→T} {s:Int} (h:¬((1≤o∧o≤3)∧aY n ln f=true∧0≤s∧s≤6)):cD o n ln f s=(0,false):=if_neg h
theorem oW {o:Int} {n:Nat} {ln:Nat→Nat} {f:Nat→Nat→T} {s:Int} (h:(1≤o∧o≤3)∧aY n ln f=true∧0≤s∧s≤6):cD o n ln f s=((eX o n ln f s.toNat:Int),decide (gX o n ln f s.toNat=0)):=if_pos h
theorem rA {n k:Nat} {ln:Nat→Nat} {f:Nat→Nat→T} (h:aY n ln f=true) (hk:k≤n):aY k ln f=true:=by obtain⟨h1,h2⟩:=aZ h;exact decide_eq_true ⟨by omega,fun i hi=>h2 i (by omega)⟩
theorem qM (w:World) (a0:Option Addr) (len0 cap0:Nat) (s0:JZ w a0 len0 cap0):Calls Try.prog 4 #[.slice a0 len0 cap0] w fun e w'=>e= .returned (.bool true)∧Below w.heap.size w w':=by
 by_cases c0:(1048576:Int)<(len0:Int)
 ·go_enter Try.func4,Try.ntmps4;go_wp2;go_ret;exact⟨rfl,cM _ _⟩
 go_enter Try.func4,Try.ntmps4;go_wp2_with fail;refine(uK _ _ _ _ s0).mono ?_;rintro e w1 ⟨o,a,n,c,ad,cp,L,s,rfl,hr,hn,⟨hs1,hs2⟩,b1⟩;have HR:=aA hr
 have HB:=aA b1;have hnI:(n:Int)≤12:=by omega
 have hnc:n≤c:=hr.1;clear s0 hr b1;obtain⟨z,y,hzy⟩:∃z y,cD o n (lN L) (fN L) s=(z,y):=⟨_,_,rfl⟩
 have HZ:=aA hzy;go_wp2_with fail;refine(mQ w1 o a n c ad (lN L) cp (fN L) s HR.out).mono ?_;rw[hzy];rintro e w2 ⟨rfl,hb2⟩;have HB2:=aA (aB HB.out hb2)
 have HR2:=aA (HR.out.below hb2);clear hb2 HR HB;go_wp2_with fail;refine(CZ w2 o a n c ad (lN L) cp (fN L) s HR2.out).mono ?_;rw[hzy];rintro e w3 ⟨rfl,hb3⟩;have HB3:=aA (aB HB2.out hb3)
 have HR3:=aA (HR2.out.below hb3);clear hb3 HR2 HB2 hzy;have hzz:(z !=z)=false:=by simp
 have hyy:(y !=y)=false:=by simp
 cases hl:aY n (lN L) (fN L)
 ·have e1:(0,false)=(z,y):=by rw[←HZ.out];exact(uU (fun h=>by rw[hl]at h;exact absurd h.2.1 (by simp))).symm
  obtain⟨rfl,rfl⟩:0=z∧false=y:=by simpa using e1
  clear e1;go_wp2_with fail;refine(iK w3 a n c ad (lN L) cp (fN L) HR3.out).mono ?_;rw[hl];rintro e w5 ⟨rfl,hb5⟩;have HB5:=aA (aB HB3.out hb5)
  clear hb5;go_wp2_with fail;refine(CY w5).mono ?_;rintro e w6 ⟨rfl,hb6⟩;have HB6:=aA (aB HB5.out hb6)
  clear hb6;go_wp2;go_ret;exact⟨rfl,HB6.out⟩
 by_cases hg:(1≤o∧o≤3)∧0≤s∧s≤6;rotate_left
 ·have e1:(0,false)=(z,y):=by rw[←HZ.out];exact(uU (fun h=>hg ⟨h.1,h.2.2⟩)).symm
  obtain⟨rfl,rfl⟩:0=z∧false=y:=by simpa using e1
  have hc:o<1∨(1≤o∧3<o)∨(1≤o∧o≤3∧s<0)∨(1≤o∧o≤3∧0≤s∧6<s):=by omega
  clear e1 hg;go_wp2_with fail;refine(iK w3 a n c ad (lN L) cp (fN L) HR3.out).mono ?_;rw[hl];rintro e w5 ⟨rfl,hb5⟩;have HB5:=aA (aB HB3.out hb5)
  clear hb5;rcases hc with q|⟨q1,q2⟩|⟨q1,q2,q3⟩|⟨q1,q2,q3,q4⟩
  all_goals
   go_wp2_with fail;refine(CY w5).mono ?_;rintro e w6 ⟨rfl,hb6⟩;have HB6:=aA (aB HB5.out hb6)
   clear hb6;go_wp2;go_ret;exact⟨rfl,HB6.out⟩
 obtain⟨⟨o1,o2⟩,t1,t2⟩:=hg;have e1:=HZ.out
 rw[oW ⟨⟨o1,o2⟩,hl,t1,t2⟩]at e1;obtain⟨rfl,rfl⟩:(eX o n (lN L) (fN L) s.toNat:Int)=z∧decide (gX o n (lN L) (fN L) s.toNat=0)=y:=by simpa using e1
 have hk:n / 2≤n:=Nat.div_le_self _ _;have f2:=oW (o:=o) (n:=n / 2) (ln:=lN L) (f:=fN L) (s:=s) ⟨⟨o1,o2⟩,rA hl hk,t1,t2⟩
 have f3:=oW (o:=o) (n:=0) (ln:=lN L) (f:=fN L) (s:=s) ⟨⟨o1,o2⟩,rA hl (gT _),t1,t2⟩;have f4:=oW (o:=o) (n:=1) (ln:=lN (fun _=>[(⟨1,⟨0,0,0,0⟩⟩:T)])) (f:=fN (fun _=>[(⟨1,⟨0,0,0,0⟩⟩:T)])) (s:=s) ⟨⟨o1,o2⟩,decide_eq_true ⟨by omega,fun i _=>⟨by simp,by show bZ [(⟨1,⟨0,0,0,0⟩⟩:T)]=true;decide⟩⟩,t1,t2⟩
 obtain⟨g1,g2⟩:=CU (o:=o) (ln:=lN (fun _=>[(⟨1,⟨0,0,0,0⟩⟩:T)])) (f:=fN (fun _=>[(⟨1,⟨0,0,0,0⟩⟩:T)])) (s:=s.toNat) rfl rfl (by omega);rw[g1,g2]at f4;have m1:=pT o (lN L) (fN L) s.toNat hk
 have m2:=pT o (lN L) (fN L) s.toNat (gT (n / 2));have m3:=wW o (lN L) (fN L) s.toNat
 generalize eX o n (lN L) (fN L) s.toNat=z1 at *;generalize eX o (n / 2) (lN L) (fN L) s.toNat=z2 at *;generalize eX o 0 (lN L) (fN L) s.toNat=z3 at *;generalize decide (gX o n (lN L) (fN L) s.toNat=0)=y1 at *;generalize decide (gX o (n / 2) (lN L) (fN L) s.toNat=0)=y2 at *;generalize decide (gX o 0 (lN L) (fN L) s.toNat=0)=y3 at *;have HF2:=aA f2
 have HF3:=aA f3;have HF4:=aA f4
 have HM3:=aA m3;have hq:((n:Int)).tdiv 2=((n / 2:Nat):Int):=(Int.ofNat_tdiv n 2).symm
 have hk2:n / 2≤6:=by omega
 obtain⟨k,hkk⟩:∃k,n / 2=k:=⟨_,rfl⟩
 rw[hkk]at hq hk hk2 HF2;have hkI:(k:Int)≤6:=by omega
 have hkc:(k:Int)≤(c:Int):=by omega
 have hk0:¬(k:Int)<0:=by omega
 have HR6:=aA (EP HR3.out hk);clear e1 f2 f3 f4 g1 g2 m3 hkk HZ;go_wp2_with fail;refine(iK w3 a n c ad (lN L) cp (fN L) HR3.out).mono ?_;rw[hl];rintro e w5 ⟨rfl,hb5⟩;have HB5:=aA (aB HB3.out hb5)
 have HR7:=aA (HR6.out.below hb5);clear hb5;have hfin:∀W:World,gO W a k c ad (lN L) cp (fN L)→Calls Try.prog 17 #[.int .i64 o,.slice a k c,.int .i64 s] W fun r w'=>r= .returned (.tuple #[.int .i64 (z2:Int),.bool y2])∧Below W.heap.size W w':=fun W hW=>by have:=mQ W o a k c ad (lN L) cp (fN L) s hW;rw[HF2.out]at this;exact this
 have HFI:=aA hfin;clear hfin;go_wp2_with fail;refine(HFI.out w5 HR7.out).mono ?_;rintro e w6 ⟨rfl,hb6⟩;have HB6:=aA (aB HB5.out hb6)
 clear hb6;go_wp2_with fail;refine(mQ _ o _ 0 _ ad (lN L) cp (fN L) s EO).mono ?_;rw[HF3.out];rintro e w7 ⟨rfl,hb7⟩;have HB7:=aA (aB (aB HB6.out (aC _ _)) hb7)
 clear hb7;go_wp2_with fail;refine(GO w7).mono ?_;rintro e w8 ⟨rfl,hb8,hr8⟩;have HB8:=aA (aB HB7.out hb8)
 have HR8:=aA (IV hr8);clear hb8 hr8;go_wp2_with fail;refine(mQ _ o _ 1 1 _ _ _ _ s HR8.out).mono ?_;rw[HF4.out];rintro e w9 ⟨rfl,hb9⟩;have HB9:=aA (aB (aB HB8.out (aC _ _)) hb9)
 clear hb9;have l1:(z1:Int)≤(z2:Int):=by omega
 have l2:(z2:Int)≤(z3:Int):=by omega
 have l3:(0:Int)≤(z1:Int):=by omega
 have hs7:s=0∨s=1∨s=2∨s=3∨s=4∨s=5∨s=6:=by omega
 clear hs1 hs2 t1 t2 m1 m2;rcases hs7 with rfl|rfl|rfl|rfl|rfl|rfl|rfl
 all_goals
  have h3:=HM3.out;simp only[Int.reduceToNat,Nat.reduceAdd,Nat.reduceMul]at h3;subst h3;clear HM3 HF2 HF3 HF4;go_wp2;go_ret;exact⟨rfl,HB9.out⟩
end Go.Proofs.Ytbkighpmkadmmaa
