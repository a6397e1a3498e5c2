/-
  What a line does (DskDo): the program.
-/
import Derived.Test.YtkcmamepoplcdaaGreatDoorVbi
set_option maxHeartbeats 4000000
set_option maxRecDepth 100000
namespace Go.Proofs.YtkcmamepoplcdaaGreatDoor
open Go.RowKit Go.Deep Go.Joins
set_option linter.unusedVariables false
set_option linter.unusedSimpArgs false
theorem iT.lower {lo lo2:Nat} {w:World} {a:Option Addr} {cap:Nat} {L:List T} (h:iT lo w a cap L) (hl:lo2≤lo):iT lo2 w a cap L:=⟨h.1,h.2.1,h.2.2.imp id (fun⟨g,off,e,q⟩=>⟨g,off,e,iS hl q⟩)⟩
theorem QT (k to a b:Int) (sa:Option Addr) (m sc:Nat) (ad:Nat→Option Addr) (ln cp:Nat→Nat) (F:Nat→Nat→T) (pa:Option Addr) (cap:Nat) (p:List T) (w:World) (hS:qR w sa m sc ad ln cp F) (h:Rd w pa p.length cap (lf p)) (hT:Tb w) (hD:Dw w) (hn:¬(m=6∧eI k to a b p.length (lf p)≠[])):Calls Tryz.prog 45 #[.slice sa m sc,.agg #[.int .i64 k,.int .i64 to,.int .i64 a,.int .i64 b,.slice pa p.length cap]] w fun r w'=>∃a' cap',r= .returned (.tuple #[.slice a' (aN k to a b p m ln F).1.length cap',.bool (aN k to a b p m ln F).2])∧Below w.heap.size w w'∧iT w.heap.size w' a' cap' (aN k to a b p m ln F).1:=by
 have hB0:=aF w (.cells #[.int .i64 k,.int .i64 to,.int .i64 a,.int .i64 b,.slice pa p.length cap] 24);have HTX:=aA (eU k to a b pa p.length cap (lf p) _ (h.below hB0) (hT.below hB0) (hD.below hB0))
 have hmI:(m:Int)≤140737488351232:=by have:=hS.2.1;omega
 rw[yN hn];have HB0:=aA hB0
 clear hB0 h hS hT hD;by_cases h6:m=6
 ·subst h6;have hz:eI k to a b p.length (lf p)=[]:=Classical.byContradiction (fun q=>hn ⟨rfl,q⟩)
  rw[hz]at HTX;clear hz hn;go_enter Tryz.func45,Tryz.ntmps45;go_wp2_with fail;refine HTX.out.mono ?_;rintro e w1 ⟨rfl,hb1⟩;have HB1:=aA (aC HB0.out hb1)
  clear hb1;go_wp2;refine aY (results_tmp2 rfl _ _ _) rfl ?_;exact⟨none,0,rfl,HB1.out,rG _ _,.inl rfl,.inl rfl⟩
 ·have h6I:¬((m:Int)=6):=by omega
  have h6b:decide ((m:Int)=6)=false:=decide_eq_false h6I;clear hn;go_enter Tryz.func45,Tryz.ntmps45;go_wp2;refine aY (results_tmp2 rfl _ _ _) rfl ?_;exact⟨none,0,rfl,HB0.out,rG _ _,.inl rfl,.inl rfl⟩
theorem UU (to a b:Int) (sa:Option Addr) (sc:Nat) (ad:Nat→Option Addr) (ln cp:Nat→Nat) (F:Nat→Nat→T) (pa:Option Addr) (cap:Nat) (p:List T) (w:World) (hS:qR w sa 6 sc ad ln cp F) (h:Rd w pa p.length cap (lf p)) (hT:Tb w) (hD:Dw w) (hl:eI 1 to a b p.length (lf p)≠[]):Calls Tryz.prog 45 #[.slice sa 6 sc,.agg #[.int .i64 1,.int .i64 to,.int .i64 a,.int .i64 b,.slice pa p.length cap]] w fun r w'=>∃a' cap',r= .returned (.tuple #[.slice a' (aN 1 to a b p 6 ln F).1.length cap',.bool (aN 1 to a b p 6 ln F).2])∧Below w.heap.size w w'∧iT w.heap.size w' a' cap' (aN 1 to a b p 6 ln F).1:=by
 have hB0:=aF w (.cells #[.int .i64 1,.int .i64 to,.int .i64 a,.int .i64 b,.slice pa p.length cap] 24);obtain⟨_,⟨t0,t5⟩,⟨a0,a5⟩,⟨b0,b5⟩,hok⟩:=bL hl;have HTX:=aA (eU 1 to a b pa p.length cap (lf p) _ (h.below hB0) (hT.below hB0) (hD.below hB0))
 have HR:Hid (aN 1 to a b p 6 ln F=(p,true)):=aA (by unfold aN;rw[if_pos ⟨rfl,hl⟩];rfl);obtain⟨R,hRR⟩:∃R,aN 1 to a b p 6 ln F=R:=⟨_,rfl⟩
 rw[hRR]at HR⊢;clear hRR;obtain⟨S,hSS⟩:∃S,eI 1 to a b p.length (lf p)=S:=⟨_,rfl⟩
 rw[hSS]at HTX hl;have hse:S.isEmpty=false:=by cases S<;>simp at hl⊢
 have HOK:=aA hok;clear hSS hl hok;obtain⟨A,rfl⟩:∃A:Nat,a=(A:Int):=⟨a.toNat,by omega⟩
 obtain⟨C,rfl⟩:∃C:Nat,b=(C:Int):=⟨b.toNat,by omega⟩
 obtain⟨D,rfl⟩:∃D:Nat,to=(D:Int):=⟨to.toNat,by omega⟩
 have hA6:A<6:=by omega
 have hC6:C<6:=by omega
 have hD6:D<6:=by omega
 have hAI:(A:Int)<6:=by omega
 have hCI:(C:Int)<6:=by omega
 have hDI:(D:Int)<6:=by omega
 (try simp only[Int.toNat_natCast]at HR)
 clear t0 t5 a0 a5 b0 b5;obtain⟨sb,off,rfl,hlt,hc⟩:=hS.2.2.1.resolve_left (by omega);have HC:=aA hc
 have HS:=aA hS;have HP:=aA h
 have HB0:=aA hB0;have hx:∀j:Nat,(w.alloc (.cells #[.int .i64 1,.int .i64 D,.int .i64 A,.int .i64 C,.slice pa p.length cap] 24)).cell? ⟨w.heap.size,j,none⟩=#[Value.int .i64 1,.int .i64 D,.int .i64 A,.int .i64 C,.slice pa p.length cap][j]? :=fun j=>World.cell?_alloc_at _ _ _ _ rfl
 have HX:=aA hx;clear hS h hc hB0 hx hT hD;go_enter Tryz.func45,Tryz.ntmps45;go_wp2_with fail;refine HTX.out.mono ?_;rintro e w1 ⟨rfl,hb1⟩;have HB1:=aA (aC HB0.out hb1)
 have hlt1:w.heap.size<w1.heap.size:=eH (by simp) hb1.size;have hcc:∀j:Nat,w1.cell? ⟨w.heap.size,j,none⟩=#[Value.int .i64 1,.int .i64 D,.int .i64 A,.int .i64 C,.slice pa p.length cap][j]? :=fun j=>(hb1.cell (p:=⟨w.heap.size,j,none⟩) (by simp)).trans (HX.out j)
 have l0:=hcc 0;have l1:=hcc 1
 have l2:=hcc 2;have l3:=hcc 3
 have l4:=hcc 4;simp at l0 l1 l2 l3 l4;have r0:∀j,j<6→w1.cell? ⟨sb,off+j,none⟩=some (.slice (ad j) (ln j) (cp j)):=fun j hj=>(HB1.out.cell (p:=⟨sb,off+j,none⟩) hlt).trans (HC.out j hj)
 have rA:=r0 A hA6;have rC:=r0 C hC6
 have rD:=r0 D hD6;have HS1:=aA (HS.out.below HB1.out)
 have HP1:=aA (HP.out.below HB1.out);clear hb1 hcc r0 HX HTX HB0 HC;have hF:mY w.heap.size sb (A:Int) (C:Int) off A C (.slice (ad A) (ln A) (cp A)) (.slice (ad C) (ln C) (cp C)) w1.drew:=⟨l2,l3,rA,rC⟩
 have HF:=aA hF;clear hF;go_wp2_with fail
 go_region_held3 (fun u=>u.cell? ⟨w.heap.size,2,none⟩=some (.int .i64 (A:Int))∧u.cell? ⟨w.heap.size,3,none⟩=some (.int .i64 (C:Int))∧u.cell? ⟨sb,off+A,none⟩=some (.slice (ad A) (ln A) (cp A))∧u.cell? ⟨sb,off+C,none⟩=some (.slice (ad C) (ln C) (cp C))) (with_reducible exact HF.out) (fail)
 clear HF;have l0:w1.drew.cell? ⟨w.heap.size,0,none⟩=some (.int .i64 1):=l0
 have l1:w1.drew.cell? ⟨w.heap.size,1,none⟩=some (.int .i64 (D:Int)):=l1;have l4:w1.drew.cell? ⟨w.heap.size,4,none⟩=some (.slice pa p.length cap):=l4
 have rD:w1.drew.cell? ⟨sb,off+D,none⟩=some (.slice (ad D) (ln D) (cp D)):=rD;have HB2:=aA HB1.out.drew
 have HS2:=aA (HS1.out.below (aD _ _).drew);have HP2:=aA (HP1.out.below (aD _ _).drew)
 clear HB1 HS1 HP1 l2 l3 rA rC;generalize w1.drew=w2 at *;have HCA:=aA (wQ _ _ _ _ _ _ _ _ ST HP2.out (rG _ _))
 rw[zO HOK.out]at HCA;rw[←HR.out]at HCA;go_wp2_with fail;refine HCA.out.mono ?_;rintro e w3 ⟨a',cap',rfl,hb3,ho3⟩;have HB3:=aA (aC HB2.out hb3)
 have HO3:=aA ho3;have hsz3:w.heap.size≤w2.heap.size:=HB2.out.size
 clear hb3 ho3;go_wp2;refine aY (results_tmp2 rfl _ _ _) rfl ?_;exact⟨a',cap',rfl,HB3.out,HO3.out.lower hsz3⟩
theorem UV (to a b:Int) (sa:Option Addr) (sc:Nat) (ad:Nat→Option Addr) (ln cp:Nat→Nat) (F:Nat→Nat→T) (pa:Option Addr) (cap:Nat) (p:List T) (w:World) (hS:qR w sa 6 sc ad ln cp F) (h:Rd w pa p.length cap (lf p)) (hT:Tb w) (hD:Dw w) (hl:eI 2 to a b p.length (lf p)≠[]):Calls Tryz.prog 45 #[.slice sa 6 sc,.agg #[.int .i64 2,.int .i64 to,.int .i64 a,.int .i64 b,.slice pa p.length cap]] w fun r w'=>∃a' cap',r= .returned (.tuple #[.slice a' (aN 2 to a b p 6 ln F).1.length cap',.bool (aN 2 to a b p 6 ln F).2])∧Below w.heap.size w w'∧iT w.heap.size w' a' cap' (aN 2 to a b p 6 ln F).1:=by
 have hB0:=aF w (.cells #[.int .i64 2,.int .i64 to,.int .i64 a,.int .i64 b,.slice pa p.length cap] 24);obtain⟨_,⟨t0,t5⟩,⟨a0,a5⟩,⟨b0,b5⟩,hok⟩:=bL hl;have HTX:=aA (eU 2 to a b pa p.length cap (lf p) _ (h.below hB0) (hT.below hB0) (hD.below hB0))
 have HR:Hid (aN 2 to a b p 6 ln F=cR (F a.toNat) (ln a.toNat) (F b.toNat) (ln b.toNat)):=aA (by unfold aN;rw[if_pos ⟨rfl,hl⟩];rfl);obtain⟨R,hRR⟩:∃R,aN 2 to a b p 6 ln F=R:=⟨_,rfl⟩
 rw[hRR]at HR⊢;clear hRR;obtain⟨S,hSS⟩:∃S,eI 2 to a b p.length (lf p)=S:=⟨_,rfl⟩
 rw[hSS]at HTX hl;have hse:S.isEmpty=false:=by cases S<;>simp at hl⊢
 have HOK:=aA hok;clear hSS hl hok;obtain⟨A,rfl⟩:∃A:Nat,a=(A:Int):=⟨a.toNat,by omega⟩
 obtain⟨C,rfl⟩:∃C:Nat,b=(C:Int):=⟨b.toNat,by omega⟩
 obtain⟨D,rfl⟩:∃D:Nat,to=(D:Int):=⟨to.toNat,by omega⟩
 have hA6:A<6:=by omega
 have hC6:C<6:=by omega
 have hD6:D<6:=by omega
 have hAI:(A:Int)<6:=by omega
 have hCI:(C:Int)<6:=by omega
 have hDI:(D:Int)<6:=by omega
 (try simp only[Int.toNat_natCast]at HR)
 clear t0 t5 a0 a5 b0 b5;obtain⟨sb,off,rfl,hlt,hc⟩:=hS.2.2.1.resolve_left (by omega);have HC:=aA hc
 have HS:=aA hS;have HP:=aA h
 have HB0:=aA hB0;have hx:∀j:Nat,(w.alloc (.cells #[.int .i64 2,.int .i64 D,.int .i64 A,.int .i64 C,.slice pa p.length cap] 24)).cell? ⟨w.heap.size,j,none⟩=#[Value.int .i64 2,.int .i64 D,.int .i64 A,.int .i64 C,.slice pa p.length cap][j]? :=fun j=>World.cell?_alloc_at _ _ _ _ rfl
 have HX:=aA hx;clear hS h hc hB0 hx hT hD;go_enter Tryz.func45,Tryz.ntmps45;go_wp2_with fail;refine HTX.out.mono ?_;rintro e w1 ⟨rfl,hb1⟩;have HB1:=aA (aC HB0.out hb1)
 have hlt1:w.heap.size<w1.heap.size:=eH (by simp) hb1.size;have hcc:∀j:Nat,w1.cell? ⟨w.heap.size,j,none⟩=#[Value.int .i64 2,.int .i64 D,.int .i64 A,.int .i64 C,.slice pa p.length cap][j]? :=fun j=>(hb1.cell (p:=⟨w.heap.size,j,none⟩) (by simp)).trans (HX.out j)
 have l0:=hcc 0;have l1:=hcc 1
 have l2:=hcc 2;have l3:=hcc 3
 have l4:=hcc 4;simp at l0 l1 l2 l3 l4;have r0:∀j,j<6→w1.cell? ⟨sb,off+j,none⟩=some (.slice (ad j) (ln j) (cp j)):=fun j hj=>(HB1.out.cell (p:=⟨sb,off+j,none⟩) hlt).trans (HC.out j hj)
 have rA:=r0 A hA6;have rC:=r0 C hC6
 have rD:=r0 D hD6;have HS1:=aA (HS.out.below HB1.out)
 have HP1:=aA (HP.out.below HB1.out);clear hb1 hcc r0 HX HTX HB0 HC;have hF:mY w.heap.size sb (A:Int) (C:Int) off A C (.slice (ad A) (ln A) (cp A)) (.slice (ad C) (ln C) (cp C)) w1.drew:=⟨l2,l3,rA,rC⟩
 have HF:=aA hF;clear hF;go_wp2_with fail
 go_region_held3 (fun u=>u.cell? ⟨w.heap.size,2,none⟩=some (.int .i64 (A:Int))∧u.cell? ⟨w.heap.size,3,none⟩=some (.int .i64 (C:Int))∧u.cell? ⟨sb,off+A,none⟩=some (.slice (ad A) (ln A) (cp A))∧u.cell? ⟨sb,off+C,none⟩=some (.slice (ad C) (ln C) (cp C))) (with_reducible exact HF.out) (fail)
 clear HF;have l0:w1.drew.cell? ⟨w.heap.size,0,none⟩=some (.int .i64 2):=l0
 have l1:w1.drew.cell? ⟨w.heap.size,1,none⟩=some (.int .i64 (D:Int)):=l1;have l4:w1.drew.cell? ⟨w.heap.size,4,none⟩=some (.slice pa p.length cap):=l4
 have rD:w1.drew.cell? ⟨sb,off+D,none⟩=some (.slice (ad D) (ln D) (cp D)):=rD;have HB2:=aA HB1.out.drew
 have HS2:=aA (HS1.out.below (aD _ _).drew);have HP2:=aA (HP1.out.below (aD _ _).drew)
 clear HB1 HS1 HP1 l2 l3 rA rC;generalize w1.drew=w2 at *;have HCA:=aA (wQ _ _ _ _ _ _ _ _ _ (HS2.out.2.2.2 A hA6) (HS2.out.2.2.2 C hC6))
 rw[←HR.out]at HCA;go_wp2_with fail;refine HCA.out.mono ?_;rintro e w3 ⟨a',cap',rfl,hb3,ho3⟩;have HB3:=aA (aC HB2.out hb3)
 have HO3:=aA ho3;have hsz3:w.heap.size≤w2.heap.size:=HB2.out.size
 clear hb3 ho3;go_wp2;refine aY (results_tmp2 rfl _ _ _) rfl ?_;exact⟨a',cap',rfl,HB3.out,HO3.out.lower hsz3⟩
theorem UW (to a b:Int) (sa:Option Addr) (sc:Nat) (ad:Nat→Option Addr) (ln cp:Nat→Nat) (F:Nat→Nat→T) (pa:Option Addr) (cap:Nat) (p:List T) (w:World) (hS:qR w sa 6 sc ad ln cp F) (h:Rd w pa p.length cap (lf p)) (hT:Tb w) (hD:Dw w) (hl:eI 3 to a b p.length (lf p)≠[]):Calls Tryz.prog 45 #[.slice sa 6 sc,.agg #[.int .i64 3,.int .i64 to,.int .i64 a,.int .i64 b,.slice pa p.length cap]] w fun r w'=>∃a' cap',r= .returned (.tuple #[.slice a' (aN 3 to a b p 6 ln F).1.length cap',.bool (aN 3 to a b p 6 ln F).2])∧Below w.heap.size w w'∧iT w.heap.size w' a' cap' (aN 3 to a b p 6 ln F).1:=by
 have hB0:=aF w (.cells #[.int .i64 3,.int .i64 to,.int .i64 a,.int .i64 b,.slice pa p.length cap] 24);obtain⟨_,⟨t0,t5⟩,⟨a0,a5⟩,⟨b0,b5⟩,hok⟩:=bL hl;have HTX:=aA (eU 3 to a b pa p.length cap (lf p) _ (h.below hB0) (hT.below hB0) (hD.below hB0))
 have HR:Hid (aN 3 to a b p 6 ln F=bB (F a.toNat) (ln a.toNat) (F b.toNat) (ln b.toNat)):=aA (by unfold aN;rw[if_pos ⟨rfl,hl⟩];rfl);obtain⟨R,hRR⟩:∃R,aN 3 to a b p 6 ln F=R:=⟨_,rfl⟩
 rw[hRR]at HR⊢;clear hRR;obtain⟨S,hSS⟩:∃S,eI 3 to a b p.length (lf p)=S:=⟨_,rfl⟩
 rw[hSS]at HTX hl;have hse:S.isEmpty=false:=by cases S<;>simp at hl⊢
 have HOK:=aA hok;clear hSS hl hok;obtain⟨A,rfl⟩:∃A:Nat,a=(A:Int):=⟨a.toNat,by omega⟩
 obtain⟨C,rfl⟩:∃C:Nat,b=(C:Int):=⟨b.toNat,by omega⟩
 obtain⟨D,rfl⟩:∃D:Nat,to=(D:Int):=⟨to.toNat,by omega⟩
 have hA6:A<6:=by omega
 have hC6:C<6:=by omega
 have hD6:D<6:=by omega
 have hAI:(A:Int)<6:=by omega
 have hCI:(C:Int)<6:=by omega
 have hDI:(D:Int)<6:=by omega
 (try simp only[Int.toNat_natCast]at HR)
 clear t0 t5 a0 a5 b0 b5;obtain⟨sb,off,rfl,hlt,hc⟩:=hS.2.2.1.resolve_left (by omega);have HC:=aA hc
 have HS:=aA hS;have HP:=aA h
 have HB0:=aA hB0;have hx:∀j:Nat,(w.alloc (.cells #[.int .i64 3,.int .i64 D,.int .i64 A,.int .i64 C,.slice pa p.length cap] 24)).cell? ⟨w.heap.size,j,none⟩=#[Value.int .i64 3,.int .i64 D,.int .i64 A,.int .i64 C,.slice pa p.length cap][j]? :=fun j=>World.cell?_alloc_at _ _ _ _ rfl
 have HX:=aA hx;clear hS h hc hB0 hx hT hD;go_enter Tryz.func45,Tryz.ntmps45;go_wp2_with fail;refine HTX.out.mono ?_;rintro e w1 ⟨rfl,hb1⟩;have HB1:=aA (aC HB0.out hb1)
 have hlt1:w.heap.size<w1.heap.size:=eH (by simp) hb1.size;have hcc:∀j:Nat,w1.cell? ⟨w.heap.size,j,none⟩=#[Value.int .i64 3,.int .i64 D,.int .i64 A,.int .i64 C,.slice pa p.length cap][j]? :=fun j=>(hb1.cell (p:=⟨w.heap.size,j,none⟩) (by simp)).trans (HX.out j)
 have l0:=hcc 0;have l1:=hcc 1
 have l2:=hcc 2;have l3:=hcc 3
 have l4:=hcc 4;simp at l0 l1 l2 l3 l4;have r0:∀j,j<6→w1.cell? ⟨sb,off+j,none⟩=some (.slice (ad j) (ln j) (cp j)):=fun j hj=>(HB1.out.cell (p:=⟨sb,off+j,none⟩) hlt).trans (HC.out j hj)
 have rA:=r0 A hA6;have rC:=r0 C hC6
 have rD:=r0 D hD6;have HS1:=aA (HS.out.below HB1.out)
 have HP1:=aA (HP.out.below HB1.out);clear hb1 hcc r0 HX HTX HB0 HC;have hF:mY w.heap.size sb (A:Int) (C:Int) off A C (.slice (ad A) (ln A) (cp A)) (.slice (ad C) (ln C) (cp C)) w1.drew:=⟨l2,l3,rA,rC⟩
 have HF:=aA hF;clear hF;go_wp2_with fail
 go_region_held3 (fun u=>u.cell? ⟨w.heap.size,2,none⟩=some (.int .i64 (A:Int))∧u.cell? ⟨w.heap.size,3,none⟩=some (.int .i64 (C:Int))∧u.cell? ⟨sb,off+A,none⟩=some (.slice (ad A) (ln A) (cp A))∧u.cell? ⟨sb,off+C,none⟩=some (.slice (ad C) (ln C) (cp C))) (with_reducible exact HF.out) (fail)
 clear HF;have l0:w1.drew.cell? ⟨w.heap.size,0,none⟩=some (.int .i64 3):=l0
 have l1:w1.drew.cell? ⟨w.heap.size,1,none⟩=some (.int .i64 (D:Int)):=l1;have l4:w1.drew.cell? ⟨w.heap.size,4,none⟩=some (.slice pa p.length cap):=l4
 have rD:w1.drew.cell? ⟨sb,off+D,none⟩=some (.slice (ad D) (ln D) (cp D)):=rD;have HB2:=aA HB1.out.drew
 have HS2:=aA (HS1.out.below (aD _ _).drew);have HP2:=aA (HP1.out.below (aD _ _).drew)
 clear HB1 HS1 HP1 l2 l3 rA rC;generalize w1.drew=w2 at *;have HCA:=aA (xP _ _ _ _ _ _ _ _ _ (HS2.out.2.2.2 A hA6) (HS2.out.2.2.2 C hC6))
 rw[←HR.out]at HCA;go_wp2_with fail;refine HCA.out.mono ?_;rintro e w3 ⟨a',cap',rfl,hb3,ho3⟩;have HB3:=aA (aC HB2.out hb3)
 have HO3:=aA ho3;have hsz3:w.heap.size≤w2.heap.size:=HB2.out.size
 clear hb3 ho3;go_wp2;refine aY (results_tmp2 rfl _ _ _) rfl ?_;exact⟨a',cap',rfl,HB3.out,HO3.out.lower hsz3⟩
theorem UX (to a b:Int) (sa:Option Addr) (sc:Nat) (ad:Nat→Option Addr) (ln cp:Nat→Nat) (F:Nat→Nat→T) (pa:Option Addr) (cap:Nat) (p:List T) (w:World) (hS:qR w sa 6 sc ad ln cp F) (h:Rd w pa p.length cap (lf p)) (hT:Tb w) (hD:Dw w) (hl:eI 4 to a b p.length (lf p)≠[]):Calls Tryz.prog 45 #[.slice sa 6 sc,.agg #[.int .i64 4,.int .i64 to,.int .i64 a,.int .i64 b,.slice pa p.length cap]] w fun r w'=>∃a' cap',r= .returned (.tuple #[.slice a' (aN 4 to a b p 6 ln F).1.length cap',.bool (aN 4 to a b p 6 ln F).2])∧Below w.heap.size w w'∧iT w.heap.size w' a' cap' (aN 4 to a b p 6 ln F).1:=by
 have hB0:=aF w (.cells #[.int .i64 4,.int .i64 to,.int .i64 a,.int .i64 b,.slice pa p.length cap] 24);obtain⟨_,⟨t0,t5⟩,⟨a0,a5⟩,⟨b0,b5⟩,hok⟩:=bL hl;have HTX:=aA (eU 4 to a b pa p.length cap (lf p) _ (h.below hB0) (hT.below hB0) (hD.below hB0))
 have HR:Hid (aN 4 to a b p 6 ln F=cU (F a.toNat) (ln a.toNat) (F b.toNat) (ln b.toNat)):=aA (by unfold aN;rw[if_pos ⟨rfl,hl⟩];rfl);obtain⟨R,hRR⟩:∃R,aN 4 to a b p 6 ln F=R:=⟨_,rfl⟩
 rw[hRR]at HR⊢;clear hRR;obtain⟨S,hSS⟩:∃S,eI 4 to a b p.length (lf p)=S:=⟨_,rfl⟩
 rw[hSS]at HTX hl;have hse:S.isEmpty=false:=by cases S<;>simp at hl⊢
 have HOK:=aA hok;clear hSS hl hok;obtain⟨A,rfl⟩:∃A:Nat,a=(A:Int):=⟨a.toNat,by omega⟩
 obtain⟨C,rfl⟩:∃C:Nat,b=(C:Int):=⟨b.toNat,by omega⟩
 obtain⟨D,rfl⟩:∃D:Nat,to=(D:Int):=⟨to.toNat,by omega⟩
 have hA6:A<6:=by omega
 have hC6:C<6:=by omega
 have hD6:D<6:=by omega
 have hAI:(A:Int)<6:=by omega
 have hCI:(C:Int)<6:=by omega
 have hDI:(D:Int)<6:=by omega
 (try simp only[Int.toNat_natCast]at HR)
 clear t0 t5 a0 a5 b0 b5;obtain⟨sb,off,rfl,hlt,hc⟩:=hS.2.2.1.resolve_left (by omega);have HC:=aA hc
 have HS:=aA hS;have HP:=aA h
 have HB0:=aA hB0;have hx:∀j:Nat,(w.alloc (.cells #[.int .i64 4,.int .i64 D,.int .i64 A,.int .i64 C,.slice pa p.length cap] 24)).cell? ⟨w.heap.size,j,none⟩=#[Value.int .i64 4,.int .i64 D,.int .i64 A,.int .i64 C,.slice pa p.length cap][j]? :=fun j=>World.cell?_alloc_at _ _ _ _ rfl
 have HX:=aA hx;clear hS h hc hB0 hx hT hD;go_enter Tryz.func45,Tryz.ntmps45;go_wp2_with fail;refine HTX.out.mono ?_;rintro e w1 ⟨rfl,hb1⟩;have HB1:=aA (aC HB0.out hb1)
 have hlt1:w.heap.size<w1.heap.size:=eH (by simp) hb1.size;have hcc:∀j:Nat,w1.cell? ⟨w.heap.size,j,none⟩=#[Value.int .i64 4,.int .i64 D,.int .i64 A,.int .i64 C,.slice pa p.length cap][j]? :=fun j=>(hb1.cell (p:=⟨w.heap.size,j,none⟩) (by simp)).trans (HX.out j)
 have l0:=hcc 0;have l1:=hcc 1
 have l2:=hcc 2;have l3:=hcc 3
 have l4:=hcc 4;simp at l0 l1 l2 l3 l4;have r0:∀j,j<6→w1.cell? ⟨sb,off+j,none⟩=some (.slice (ad j) (ln j) (cp j)):=fun j hj=>(HB1.out.cell (p:=⟨sb,off+j,none⟩) hlt).trans (HC.out j hj)
 have rA:=r0 A hA6;have rC:=r0 C hC6
 have rD:=r0 D hD6;have HS1:=aA (HS.out.below HB1.out)
 have HP1:=aA (HP.out.below HB1.out);clear hb1 hcc r0 HX HTX HB0 HC;have hF:mY w.heap.size sb (A:Int) (C:Int) off A C (.slice (ad A) (ln A) (cp A)) (.slice (ad C) (ln C) (cp C)) w1.drew:=⟨l2,l3,rA,rC⟩
 have HF:=aA hF;clear hF;go_wp2_with fail
 go_region_held3 (fun u=>u.cell? ⟨w.heap.size,2,none⟩=some (.int .i64 (A:Int))∧u.cell? ⟨w.heap.size,3,none⟩=some (.int .i64 (C:Int))∧u.cell? ⟨sb,off+A,none⟩=some (.slice (ad A) (ln A) (cp A))∧u.cell? ⟨sb,off+C,none⟩=some (.slice (ad C) (ln C) (cp C))) (with_reducible exact HF.out) (fail)
 clear HF;have l0:w1.drew.cell? ⟨w.heap.size,0,none⟩=some (.int .i64 4):=l0
 have l1:w1.drew.cell? ⟨w.heap.size,1,none⟩=some (.int .i64 (D:Int)):=l1;have l4:w1.drew.cell? ⟨w.heap.size,4,none⟩=some (.slice pa p.length cap):=l4
 have rD:w1.drew.cell? ⟨sb,off+D,none⟩=some (.slice (ad D) (ln D) (cp D)):=rD;have HB2:=aA HB1.out.drew
 have HS2:=aA (HS1.out.below (aD _ _).drew);have HP2:=aA (HP1.out.below (aD _ _).drew)
 clear HB1 HS1 HP1 l2 l3 rA rC;generalize w1.drew=w2 at *;have HCA:=aA (GB _ _ _ _ _ _ _ _ _ (HS2.out.2.2.2 A hA6) (HS2.out.2.2.2 C hC6))
 rw[←HR.out]at HCA;go_wp2_with fail;refine HCA.out.mono ?_;rintro e w3 ⟨a',cap',rfl,hb3,ho3⟩;have HB3:=aA (aC HB2.out hb3)
 have HO3:=aA ho3;have hsz3:w.heap.size≤w2.heap.size:=HB2.out.size
 clear hb3 ho3;go_wp2;refine aY (results_tmp2 rfl _ _ _) rfl ?_;exact⟨a',cap',rfl,HB3.out,HO3.out.lower hsz3⟩
theorem UY (to a b:Int) (sa:Option Addr) (sc:Nat) (ad:Nat→Option Addr) (ln cp:Nat→Nat) (F:Nat→Nat→T) (pa:Option Addr) (cap:Nat) (p:List T) (w:World) (hS:qR w sa 6 sc ad ln cp F) (h:Rd w pa p.length cap (lf p)) (hT:Tb w) (hD:Dw w) (hl:eI 5 to a b p.length (lf p)≠[]):Calls Tryz.prog 45 #[.slice sa 6 sc,.agg #[.int .i64 5,.int .i64 to,.int .i64 a,.int .i64 b,.slice pa p.length cap]] w fun r w'=>∃a' cap',r= .returned (.tuple #[.slice a' (aN 5 to a b p 6 ln F).1.length cap',.bool (aN 5 to a b p 6 ln F).2])∧Below w.heap.size w w'∧iT w.heap.size w' a' cap' (aN 5 to a b p 6 ln F).1:=by
 have hB0:=aF w (.cells #[.int .i64 5,.int .i64 to,.int .i64 a,.int .i64 b,.slice pa p.length cap] 24);obtain⟨_,⟨t0,t5⟩,⟨a0,a5⟩,⟨b0,b5⟩,hok⟩:=bL hl;have HTX:=aA (eU 5 to a b pa p.length cap (lf p) _ (h.below hB0) (hT.below hB0) (hD.below hB0))
 have HR:Hid (aN 5 to a b p 6 ln F=fS (F a.toNat) (ln a.toNat) (F b.toNat) (ln b.toNat)):=aA (by unfold aN;rw[if_pos ⟨rfl,hl⟩];rfl);obtain⟨R,hRR⟩:∃R,aN 5 to a b p 6 ln F=R:=⟨_,rfl⟩
 rw[hRR]at HR⊢;clear hRR;obtain⟨S,hSS⟩:∃S,eI 5 to a b p.length (lf p)=S:=⟨_,rfl⟩
 rw[hSS]at HTX hl;have hse:S.isEmpty=false:=by cases S<;>simp at hl⊢
 have HOK:=aA hok;clear hSS hl hok;obtain⟨A,rfl⟩:∃A:Nat,a=(A:Int):=⟨a.toNat,by omega⟩
 obtain⟨C,rfl⟩:∃C:Nat,b=(C:Int):=⟨b.toNat,by omega⟩
 obtain⟨D,rfl⟩:∃D:Nat,to=(D:Int):=⟨to.toNat,by omega⟩
 have hA6:A<6:=by omega
 have hC6:C<6:=by omega
 have hD6:D<6:=by omega
 have hAI:(A:Int)<6:=by omega
 have hCI:(C:Int)<6:=by omega
 have hDI:(D:Int)<6:=by omega
 (try simp only[Int.toNat_natCast]at HR)
 clear t0 t5 a0 a5 b0 b5;obtain⟨sb,off,rfl,hlt,hc⟩:=hS.2.2.1.resolve_left (by omega);have HC:=aA hc
 have HS:=aA hS;have HP:=aA h
 have HB0:=aA hB0;have hx:∀j:Nat,(w.alloc (.cells #[.int .i64 5,.int .i64 D,.int .i64 A,.int .i64 C,.slice pa p.length cap] 24)).cell? ⟨w.heap.size,j,none⟩=#[Value.int .i64 5,.int .i64 D,.int .i64 A,.int .i64 C,.slice pa p.length cap][j]? :=fun j=>World.cell?_alloc_at _ _ _ _ rfl
 have HX:=aA hx;clear hS h hc hB0 hx hT hD;go_enter Tryz.func45,Tryz.ntmps45;go_wp2_with fail;refine HTX.out.mono ?_;rintro e w1 ⟨rfl,hb1⟩;have HB1:=aA (aC HB0.out hb1)
 have hlt1:w.heap.size<w1.heap.size:=eH (by simp) hb1.size;have hcc:∀j:Nat,w1.cell? ⟨w.heap.size,j,none⟩=#[Value.int .i64 5,.int .i64 D,.int .i64 A,.int .i64 C,.slice pa p.length cap][j]? :=fun j=>(hb1.cell (p:=⟨w.heap.size,j,none⟩) (by simp)).trans (HX.out j)
 have l0:=hcc 0;have l1:=hcc 1
 have l2:=hcc 2;have l3:=hcc 3
 have l4:=hcc 4;simp at l0 l1 l2 l3 l4;have r0:∀j,j<6→w1.cell? ⟨sb,off+j,none⟩=some (.slice (ad j) (ln j) (cp j)):=fun j hj=>(HB1.out.cell (p:=⟨sb,off+j,none⟩) hlt).trans (HC.out j hj)
 have rA:=r0 A hA6;have rC:=r0 C hC6
 have rD:=r0 D hD6;have HS1:=aA (HS.out.below HB1.out)
 have HP1:=aA (HP.out.below HB1.out);clear hb1 hcc r0 HX HTX HB0 HC;have hF:mY w.heap.size sb (A:Int) (C:Int) off A C (.slice (ad A) (ln A) (cp A)) (.slice (ad C) (ln C) (cp C)) w1.drew:=⟨l2,l3,rA,rC⟩
 have HF:=aA hF;clear hF;go_wp2_with fail
 go_region_held3 (fun u=>u.cell? ⟨w.heap.size,2,none⟩=some (.int .i64 (A:Int))∧u.cell? ⟨w.heap.size,3,none⟩=some (.int .i64 (C:Int))∧u.cell? ⟨sb,off+A,none⟩=some (.slice (ad A) (ln A) (cp A))∧u.cell? ⟨sb,off+C,none⟩=some (.slice (ad C) (ln C) (cp C))) (with_reducible exact HF.out) (fail)
 clear HF;have l0:w1.drew.cell? ⟨w.heap.size,0,none⟩=some (.int .i64 5):=l0
 have l1:w1.drew.cell? ⟨w.heap.size,1,none⟩=some (.int .i64 (D:Int)):=l1;have l4:w1.drew.cell? ⟨w.heap.size,4,none⟩=some (.slice pa p.length cap):=l4
 have rD:w1.drew.cell? ⟨sb,off+D,none⟩=some (.slice (ad D) (ln D) (cp D)):=rD;have HB2:=aA HB1.out.drew
 have HS2:=aA (HS1.out.below (aD _ _).drew);have HP2:=aA (HP1.out.below (aD _ _).drew)
 clear HB1 HS1 HP1 l2 l3 rA rC;generalize w1.drew=w2 at *;have HCA:=aA (SP _ _ _ _ _ _ _ _ _ (HS2.out.2.2.2 A hA6) (HS2.out.2.2.2 C hC6))
 rw[←HR.out]at HCA;go_wp2_with fail;refine HCA.out.mono ?_;rintro e w3 ⟨a',cap',rfl,hb3,ho3⟩;have HB3:=aA (aC HB2.out hb3)
 have HO3:=aA ho3;have hsz3:w.heap.size≤w2.heap.size:=HB2.out.size
 clear hb3 ho3;go_wp2;refine aY (results_tmp2 rfl _ _ _) rfl ?_;exact⟨a',cap',rfl,HB3.out,HO3.out.lower hsz3⟩
theorem UZ (to a b:Int) (sa:Option Addr) (sc:Nat) (ad:Nat→Option Addr) (ln cp:Nat→Nat) (F:Nat→Nat→T) (pa:Option Addr) (cap:Nat) (p:List T) (w:World) (hS:qR w sa 6 sc ad ln cp F) (h:Rd w pa p.length cap (lf p)) (hT:Tb w) (hD:Dw w) (hl:eI 6 to a b p.length (lf p)≠[]):Calls Tryz.prog 45 #[.slice sa 6 sc,.agg #[.int .i64 6,.int .i64 to,.int .i64 a,.int .i64 b,.slice pa p.length cap]] w fun r w'=>∃a' cap',r= .returned (.tuple #[.slice a' (aN 6 to a b p 6 ln F).1.length cap',.bool (aN 6 to a b p 6 ln F).2])∧Below w.heap.size w w'∧iT w.heap.size w' a' cap' (aN 6 to a b p 6 ln F).1:=by
 have hB0:=aF w (.cells #[.int .i64 6,.int .i64 to,.int .i64 a,.int .i64 b,.slice pa p.length cap] 24);obtain⟨_,⟨t0,t5⟩,⟨a0,a5⟩,⟨b0,b5⟩,hok⟩:=bL hl;have HTX:=aA (eU 6 to a b pa p.length cap (lf p) _ (h.below hB0) (hT.below hB0) (hD.below hB0))
 have HR:Hid (aN 6 to a b p 6 ln F=cG (F a.toNat) (ln a.toNat)):=aA (by unfold aN;rw[if_pos ⟨rfl,hl⟩];rfl);obtain⟨R,hRR⟩:∃R,aN 6 to a b p 6 ln F=R:=⟨_,rfl⟩
 rw[hRR]at HR⊢;clear hRR;obtain⟨S,hSS⟩:∃S,eI 6 to a b p.length (lf p)=S:=⟨_,rfl⟩
 rw[hSS]at HTX hl;have hse:S.isEmpty=false:=by cases S<;>simp at hl⊢
 have HOK:=aA hok;clear hSS hl hok;obtain⟨A,rfl⟩:∃A:Nat,a=(A:Int):=⟨a.toNat,by omega⟩
 obtain⟨C,rfl⟩:∃C:Nat,b=(C:Int):=⟨b.toNat,by omega⟩
 obtain⟨D,rfl⟩:∃D:Nat,to=(D:Int):=⟨to.toNat,by omega⟩
 have hA6:A<6:=by omega
 have hC6:C<6:=by omega
 have hD6:D<6:=by omega
 have hAI:(A:Int)<6:=by omega
 have hCI:(C:Int)<6:=by omega
 have hDI:(D:Int)<6:=by omega
 (try simp only[Int.toNat_natCast]at HR)
 clear t0 t5 a0 a5 b0 b5;obtain⟨sb,off,rfl,hlt,hc⟩:=hS.2.2.1.resolve_left (by omega);have HC:=aA hc
 have HS:=aA hS;have HP:=aA h
 have HB0:=aA hB0;have hx:∀j:Nat,(w.alloc (.cells #[.int .i64 6,.int .i64 D,.int .i64 A,.int .i64 C,.slice pa p.length cap] 24)).cell? ⟨w.heap.size,j,none⟩=#[Value.int .i64 6,.int .i64 D,.int .i64 A,.int .i64 C,.slice pa p.length cap][j]? :=fun j=>World.cell?_alloc_at _ _ _ _ rfl
 have HX:=aA hx;clear hS h hc hB0 hx hT hD;go_enter Tryz.func45,Tryz.ntmps45;go_wp2_with fail;refine HTX.out.mono ?_;rintro e w1 ⟨rfl,hb1⟩;have HB1:=aA (aC HB0.out hb1)
 have hlt1:w.heap.size<w1.heap.size:=eH (by simp) hb1.size;have hcc:∀j:Nat,w1.cell? ⟨w.heap.size,j,none⟩=#[Value.int .i64 6,.int .i64 D,.int .i64 A,.int .i64 C,.slice pa p.length cap][j]? :=fun j=>(hb1.cell (p:=⟨w.heap.size,j,none⟩) (by simp)).trans (HX.out j)
 have l0:=hcc 0;have l1:=hcc 1
 have l2:=hcc 2;have l3:=hcc 3
 have l4:=hcc 4;simp at l0 l1 l2 l3 l4;have r0:∀j,j<6→w1.cell? ⟨sb,off+j,none⟩=some (.slice (ad j) (ln j) (cp j)):=fun j hj=>(HB1.out.cell (p:=⟨sb,off+j,none⟩) hlt).trans (HC.out j hj)
 have rA:=r0 A hA6;have rC:=r0 C hC6
 have rD:=r0 D hD6;have HS1:=aA (HS.out.below HB1.out)
 have HP1:=aA (HP.out.below HB1.out);clear hb1 hcc r0 HX HTX HB0 HC;have hF:mY w.heap.size sb (A:Int) (C:Int) off A C (.slice (ad A) (ln A) (cp A)) (.slice (ad C) (ln C) (cp C)) w1.drew:=⟨l2,l3,rA,rC⟩
 have HF:=aA hF;clear hF;go_wp2_with fail
 go_region_held3 (fun u=>u.cell? ⟨w.heap.size,2,none⟩=some (.int .i64 (A:Int))∧u.cell? ⟨w.heap.size,3,none⟩=some (.int .i64 (C:Int))∧u.cell? ⟨sb,off+A,none⟩=some (.slice (ad A) (ln A) (cp A))∧u.cell? ⟨sb,off+C,none⟩=some (.slice (ad C) (ln C) (cp C))) (with_reducible exact HF.out) (fail)
 clear HF;have l0:w1.drew.cell? ⟨w.heap.size,0,none⟩=some (.int .i64 6):=l0
 have l1:w1.drew.cell? ⟨w.heap.size,1,none⟩=some (.int .i64 (D:Int)):=l1;have l4:w1.drew.cell? ⟨w.heap.size,4,none⟩=some (.slice pa p.length cap):=l4
 have rD:w1.drew.cell? ⟨sb,off+D,none⟩=some (.slice (ad D) (ln D) (cp D)):=rD;have HB2:=aA HB1.out.drew
 have HS2:=aA (HS1.out.below (aD _ _).drew);have HP2:=aA (HP1.out.below (aD _ _).drew)
 clear HB1 HS1 HP1 l2 l3 rA rC;generalize w1.drew=w2 at *;have HCA:=aA (EZ _ _ _ _ _ (HS2.out.2.2.2 A hA6))
 rw[←HR.out]at HCA;go_wp2_with fail;refine HCA.out.mono ?_;rintro e w3 ⟨a',cap',rfl,hb3,ho3⟩;have HB3:=aA (aC HB2.out hb3)
 have HO3:=aA ho3;have hsz3:w.heap.size≤w2.heap.size:=HB2.out.size
 clear hb3 ho3;go_wp2;refine aY (results_tmp2 rfl _ _ _) rfl ?_;exact⟨a',cap',rfl,HB3.out,HO3.out.lower hsz3⟩
theorem VA (to a b:Int) (sa:Option Addr) (sc:Nat) (ad:Nat→Option Addr) (ln cp:Nat→Nat) (F:Nat→Nat→T) (pa:Option Addr) (cap:Nat) (p:List T) (w:World) (hS:qR w sa 6 sc ad ln cp F) (h:Rd w pa p.length cap (lf p)) (hT:Tb w) (hD:Dw w) (hl:eI 7 to a b p.length (lf p)≠[]):Calls Tryz.prog 45 #[.slice sa 6 sc,.agg #[.int .i64 7,.int .i64 to,.int .i64 a,.int .i64 b,.slice pa p.length cap]] w fun r w'=>∃a' cap',r= .returned (.tuple #[.slice a' (aN 7 to a b p 6 ln F).1.length cap',.bool (aN 7 to a b p 6 ln F).2])∧Below w.heap.size w w'∧iT w.heap.size w' a' cap' (aN 7 to a b p 6 ln F).1:=by
 have hB0:=aF w (.cells #[.int .i64 7,.int .i64 to,.int .i64 a,.int .i64 b,.slice pa p.length cap] 24);obtain⟨_,⟨t0,t5⟩,⟨a0,a5⟩,⟨b0,b5⟩,hok⟩:=bL hl;have HTX:=aA (eU 7 to a b pa p.length cap (lf p) _ (h.below hB0) (hT.below hB0) (hD.below hB0))
 have HR:Hid (aN 7 to a b p 6 ln F=dI (F a.toNat) (ln a.toNat)):=aA (by unfold aN;rw[if_pos ⟨rfl,hl⟩];rfl);obtain⟨R,hRR⟩:∃R,aN 7 to a b p 6 ln F=R:=⟨_,rfl⟩
 rw[hRR]at HR⊢;clear hRR;obtain⟨S,hSS⟩:∃S,eI 7 to a b p.length (lf p)=S:=⟨_,rfl⟩
 rw[hSS]at HTX hl;have hse:S.isEmpty=false:=by cases S<;>simp at hl⊢
 have HOK:=aA hok;clear hSS hl hok;obtain⟨A,rfl⟩:∃A:Nat,a=(A:Int):=⟨a.toNat,by omega⟩
 obtain⟨C,rfl⟩:∃C:Nat,b=(C:Int):=⟨b.toNat,by omega⟩
 obtain⟨D,rfl⟩:∃D:Nat,to=(D:Int):=⟨to.toNat,by omega⟩
 have hA6:A<6:=by omega
 have hC6:C<6:=by omega
 have hD6:D<6:=by omega
 have hAI:(A:Int)<6:=by omega
 have hCI:(C:Int)<6:=by omega
 have hDI:(D:Int)<6:=by omega
 (try simp only[Int.toNat_natCast]at HR)
 clear t0 t5 a0 a5 b0 b5;obtain⟨sb,off,rfl,hlt,hc⟩:=hS.2.2.1.resolve_left (by omega);have HC:=aA hc
 have HS:=aA hS;have HP:=aA h
 have HB0:=aA hB0;have hx:∀j:Nat,(w.alloc (.cells #[.int .i64 7,.int .i64 D,.int .i64 A,.int .i64 C,.slice pa p.length cap] 24)).cell? ⟨w.heap.size,j,none⟩=#[Value.int .i64 7,.int .i64 D,.int .i64 A,.int .i64 C,.slice pa p.length cap][j]? :=fun j=>World.cell?_alloc_at _ _ _ _ rfl
 have HX:=aA hx;clear hS h hc hB0 hx hT hD;go_enter Tryz.func45,Tryz.ntmps45;go_wp2_with fail;refine HTX.out.mono ?_;rintro e w1 ⟨rfl,hb1⟩;have HB1:=aA (aC HB0.out hb1)
 have hlt1:w.heap.size<w1.heap.size:=eH (by simp) hb1.size;have hcc:∀j:Nat,w1.cell? ⟨w.heap.size,j,none⟩=#[Value.int .i64 7,.int .i64 D,.int .i64 A,.int .i64 C,.slice pa p.length cap][j]? :=fun j=>(hb1.cell (p:=⟨w.heap.size,j,none⟩) (by simp)).trans (HX.out j)
 have l0:=hcc 0;have l1:=hcc 1
 have l2:=hcc 2;have l3:=hcc 3
 have l4:=hcc 4;simp at l0 l1 l2 l3 l4;have r0:∀j,j<6→w1.cell? ⟨sb,off+j,none⟩=some (.slice (ad j) (ln j) (cp j)):=fun j hj=>(HB1.out.cell (p:=⟨sb,off+j,none⟩) hlt).trans (HC.out j hj)
 have rA:=r0 A hA6;have rC:=r0 C hC6
 have rD:=r0 D hD6;have HS1:=aA (HS.out.below HB1.out)
 have HP1:=aA (HP.out.below HB1.out);clear hb1 hcc r0 HX HTX HB0 HC;have hF:mY w.heap.size sb (A:Int) (C:Int) off A C (.slice (ad A) (ln A) (cp A)) (.slice (ad C) (ln C) (cp C)) w1.drew:=⟨l2,l3,rA,rC⟩
 have HF:=aA hF;clear hF;go_wp2_with fail
 go_region_held3 (fun u=>u.cell? ⟨w.heap.size,2,none⟩=some (.int .i64 (A:Int))∧u.cell? ⟨w.heap.size,3,none⟩=some (.int .i64 (C:Int))∧u.cell? ⟨sb,off+A,none⟩=some (.slice (ad A) (ln A) (cp A))∧u.cell? ⟨sb,off+C,none⟩=some (.slice (ad C) (ln C) (cp C))) (with_reducible exact HF.out) (fail)
 clear HF;have l0:w1.drew.cell? ⟨w.heap.size,0,none⟩=some (.int .i64 7):=l0
 have l1:w1.drew.cell? ⟨w.heap.size,1,none⟩=some (.int .i64 (D:Int)):=l1;have l4:w1.drew.cell? ⟨w.heap.size,4,none⟩=some (.slice pa p.length cap):=l4
 have rD:w1.drew.cell? ⟨sb,off+D,none⟩=some (.slice (ad D) (ln D) (cp D)):=rD;have HB2:=aA HB1.out.drew
 have HS2:=aA (HS1.out.below (aD _ _).drew);have HP2:=aA (HP1.out.below (aD _ _).drew)
 clear HB1 HS1 HP1 l2 l3 rA rC;generalize w1.drew=w2 at *;have HCA:=aA (JT _ _ _ _ _ (HS2.out.2.2.2 A hA6))
 rw[←HR.out]at HCA;go_wp2_with fail;refine HCA.out.mono ?_;rintro e w3 ⟨a',cap',rfl,hb3,ho3⟩;have HB3:=aA (aC HB2.out hb3)
 have HO3:=aA ho3;have hsz3:w.heap.size≤w2.heap.size:=HB2.out.size
 clear hb3 ho3;go_wp2;refine aY (results_tmp2 rfl _ _ _) rfl ?_;exact⟨a',cap',rfl,HB3.out,HO3.out.lower hsz3⟩
theorem VB (to a b:Int) (sa:Option Addr) (sc:Nat) (ad:Nat→Option Addr) (ln cp:Nat→Nat) (F:Nat→Nat→T) (pa:Option Addr) (cap:Nat) (p:List T) (w:World) (hS:qR w sa 6 sc ad ln cp F) (h:Rd w pa p.length cap (lf p)) (hT:Tb w) (hD:Dw w) (hl:eI 8 to a b p.length (lf p)≠[]):Calls Tryz.prog 45 #[.slice sa 6 sc,.agg #[.int .i64 8,.int .i64 to,.int .i64 a,.int .i64 b,.slice pa p.length cap]] w fun r w'=>∃a' cap',r= .returned (.tuple #[.slice a' (aN 8 to a b p 6 ln F).1.length cap',.bool (aN 8 to a b p 6 ln F).2])∧Below w.heap.size w w'∧iT w.heap.size w' a' cap' (aN 8 to a b p 6 ln F).1:=by
 have hB0:=aF w (.cells #[.int .i64 8,.int .i64 to,.int .i64 a,.int .i64 b,.slice pa p.length cap] 24);obtain⟨_,⟨t0,t5⟩,⟨a0,a5⟩,⟨b0,b5⟩,hok⟩:=bL hl;have HTX:=aA (eU 8 to a b pa p.length cap (lf p) _ (h.below hB0) (hT.below hB0) (hD.below hB0))
 have HR:Hid (aN 8 to a b p 6 ln F=cR (F to.toNat) (ln to.toNat) ST 0):=aA (by unfold aN;rw[if_pos ⟨rfl,hl⟩];rfl);obtain⟨R,hRR⟩:∃R,aN 8 to a b p 6 ln F=R:=⟨_,rfl⟩
 rw[hRR]at HR⊢;clear hRR;obtain⟨S,hSS⟩:∃S,eI 8 to a b p.length (lf p)=S:=⟨_,rfl⟩
 rw[hSS]at HTX hl;have hse:S.isEmpty=false:=by cases S<;>simp at hl⊢
 have HOK:=aA hok;clear hSS hl hok;obtain⟨A,rfl⟩:∃A:Nat,a=(A:Int):=⟨a.toNat,by omega⟩
 obtain⟨C,rfl⟩:∃C:Nat,b=(C:Int):=⟨b.toNat,by omega⟩
 obtain⟨D,rfl⟩:∃D:Nat,to=(D:Int):=⟨to.toNat,by omega⟩
 have hA6:A<6:=by omega
 have hC6:C<6:=by omega
 have hD6:D<6:=by omega
 have hAI:(A:Int)<6:=by omega
 have hCI:(C:Int)<6:=by omega
 have hDI:(D:Int)<6:=by omega
 (try simp only[Int.toNat_natCast]at HR)
 clear t0 t5 a0 a5 b0 b5;obtain⟨sb,off,rfl,hlt,hc⟩:=hS.2.2.1.resolve_left (by omega);have HC:=aA hc
 have HS:=aA hS;have HP:=aA h
 have HB0:=aA hB0;have hx:∀j:Nat,(w.alloc (.cells #[.int .i64 8,.int .i64 D,.int .i64 A,.int .i64 C,.slice pa p.length cap] 24)).cell? ⟨w.heap.size,j,none⟩=#[Value.int .i64 8,.int .i64 D,.int .i64 A,.int .i64 C,.slice pa p.length cap][j]? :=fun j=>World.cell?_alloc_at _ _ _ _ rfl
 have HX:=aA hx;clear hS h hc hB0 hx hT hD;go_enter Tryz.func45,Tryz.ntmps45;go_wp2_with fail;refine HTX.out.mono ?_;rintro e w1 ⟨rfl,hb1⟩;have HB1:=aA (aC HB0.out hb1)
 have hlt1:w.heap.size<w1.heap.size:=eH (by simp) hb1.size;have hcc:∀j:Nat,w1.cell? ⟨w.heap.size,j,none⟩=#[Value.int .i64 8,.int .i64 D,.int .i64 A,.int .i64 C,.slice pa p.length cap][j]? :=fun j=>(hb1.cell (p:=⟨w.heap.size,j,none⟩) (by simp)).trans (HX.out j)
 have l0:=hcc 0;have l1:=hcc 1
 have l2:=hcc 2;have l3:=hcc 3
 have l4:=hcc 4;simp at l0 l1 l2 l3 l4;have r0:∀j,j<6→w1.cell? ⟨sb,off+j,none⟩=some (.slice (ad j) (ln j) (cp j)):=fun j hj=>(HB1.out.cell (p:=⟨sb,off+j,none⟩) hlt).trans (HC.out j hj)
 have rA:=r0 A hA6;have rC:=r0 C hC6
 have rD:=r0 D hD6;have HS1:=aA (HS.out.below HB1.out)
 have HP1:=aA (HP.out.below HB1.out);clear hb1 hcc r0 HX HTX HB0 HC;have hF:mY w.heap.size sb (A:Int) (C:Int) off A C (.slice (ad A) (ln A) (cp A)) (.slice (ad C) (ln C) (cp C)) w1.drew:=⟨l2,l3,rA,rC⟩
 have HF:=aA hF;clear hF;go_wp2_with fail
 go_region_held3 (fun u=>u.cell? ⟨w.heap.size,2,none⟩=some (.int .i64 (A:Int))∧u.cell? ⟨w.heap.size,3,none⟩=some (.int .i64 (C:Int))∧u.cell? ⟨sb,off+A,none⟩=some (.slice (ad A) (ln A) (cp A))∧u.cell? ⟨sb,off+C,none⟩=some (.slice (ad C) (ln C) (cp C))) (with_reducible exact HF.out) (fail)
 clear HF;have l0:w1.drew.cell? ⟨w.heap.size,0,none⟩=some (.int .i64 8):=l0
 have l1:w1.drew.cell? ⟨w.heap.size,1,none⟩=some (.int .i64 (D:Int)):=l1;have l4:w1.drew.cell? ⟨w.heap.size,4,none⟩=some (.slice pa p.length cap):=l4
 have rD:w1.drew.cell? ⟨sb,off+D,none⟩=some (.slice (ad D) (ln D) (cp D)):=rD;have HB2:=aA HB1.out.drew
 have HS2:=aA (HS1.out.below (aD _ _).drew);have HP2:=aA (HP1.out.below (aD _ _).drew)
 clear HB1 HS1 HP1 l2 l3 rA rC;generalize w1.drew=w2 at *;have HCA:=aA (wQ _ _ _ _ _ _ _ _ ST (HS2.out.2.2.2 D hD6) (rG _ _))
 rw[←HR.out]at HCA;go_wp2_with fail;refine HCA.out.mono ?_;rintro e w3 ⟨a',cap',rfl,hb3,ho3⟩;have HB3:=aA (aC HB2.out hb3)
 have HO3:=aA ho3;have hsz3:w.heap.size≤w2.heap.size:=HB2.out.size
 clear hb3 ho3;go_wp2;refine aY (results_tmp2 rfl _ _ _) rfl ?_;exact⟨a',cap',rfl,HB3.out,HO3.out.lower hsz3⟩
theorem QX (k to a b:Int) (sa:Option Addr) (m sc:Nat) (ad:Nat→Option Addr) (ln cp:Nat→Nat) (F:Nat→Nat→T) (pa:Option Addr) (cap:Nat) (p:List T) (w:World) (hS:qR w sa m sc ad ln cp F) (h:Rd w pa p.length cap (lf p)) (hT:Tb w) (hD:Dw w):Calls Tryz.prog 45 #[.slice sa m sc,.agg #[.int .i64 k,.int .i64 to,.int .i64 a,.int .i64 b,.slice pa p.length cap]] w fun r w'=>∃a' cap',r= .returned (.tuple #[.slice a' (aN k to a b p m ln F).1.length cap',.bool (aN k to a b p m ln F).2])∧Below w.heap.size w w'∧iT w.heap.size w' a' cap' (aN k to a b p m ln F).1:=by
 by_cases hn:m=6∧eI k to a b p.length (lf p)≠[]
 ·obtain⟨rfl,hl⟩:=hn;obtain⟨⟨k1,k8⟩,_⟩:=bL hl;rcases(show k=1∨k=2∨k=3∨k=4∨k=5∨k=6∨k=7∨k=8 by omega)with rfl|rfl|rfl|rfl|rfl|rfl|rfl|rfl
  ·exact UU to a b sa sc ad ln cp F pa cap p w hS h hT hD hl
  ·exact UV to a b sa sc ad ln cp F pa cap p w hS h hT hD hl
  ·exact UW to a b sa sc ad ln cp F pa cap p w hS h hT hD hl
  ·exact UX to a b sa sc ad ln cp F pa cap p w hS h hT hD hl
  ·exact UY to a b sa sc ad ln cp F pa cap p w hS h hT hD hl
  ·exact UZ to a b sa sc ad ln cp F pa cap p w hS h hT hD hl
  ·exact VA to a b sa sc ad ln cp F pa cap p w hS h hT hD hl
  ·exact VB to a b sa sc ad ln cp F pa cap p w hS h hT hD hl
 ·exact QT k to a b sa m sc ad ln cp F pa cap p w hS h hT hD hn
end Go.Proofs.YtkcmamepoplcdaaGreatDoor
