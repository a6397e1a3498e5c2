/-
  What a line does (DskDo): the program.
-/
import Derived.Test.YtkcmamepoplcdaaGreatDoorXau
import Derived.Test.YtkcmamepoplcdaaGreatDoorXbh
set_option maxHeartbeats 4000000
set_option maxRecDepth 100000
namespace Go.Proofs.YtkcmamepoplcdaaGreatDoor
open Go.RowKit Go.Deep Go.Joins
set_option linter.unusedVariables false
set_option linter.unusedSimpArgs false
theorem iJ.lower {lo lo2:Nat} {w:World} {a:Option Addr} {cap:Nat} {L:List T} (h:iJ lo w a cap L) (hl:lo2≤lo):iJ lo2 w a cap L:=⟨h.1,h.2.1,h.2.2.imp id (fun⟨g,off,e,q⟩=>⟨g,off,e,jW hl q⟩)⟩
theorem OT (k to a b:Int) (sa:Option Addr) (m sc:Nat) (ad:Nat→Option Addr) (ln cp:Nat→Nat) (F:Nat→Nat→T) (pa:Option Addr) (cap:Nat) (p:List T) (w:World) (hS:pT w sa m sc ad ln cp F) (h:Rd w pa p.length cap (lf p)) (hT:Tb w) (hD:Dw w) (hn:¬(m=6∧dW k to a b p.length (lf p)≠[])):Calls Tryz.prog 45 #[.slice sa m sc,.agg #[.int .i64 k,.int .i64 to,.int .i64 a,.int .i64 b,.slice pa p.length cap]] w fun r w'=>∃a' cap',r= .returned (.tuple #[.slice a' (aL k to a b p m ln F).1.length cap',.bool (aL k to a b p m ln F).2])∧Below w.heap.size w w'∧iJ w.heap.size w' a' cap' (aL k to a b p m ln F).1:=by
 have hB0:=aF w (.cells #[.int .i64 k,.int .i64 to,.int .i64 a,.int .i64 b,.slice pa p.length cap] 24);have HTX:=aA (eK k to a b pa p.length cap (lf p) _ (h.below hB0) (hT.below hB0) (hD.below hB0))
 have hmI:(m:Int)≤140737488351232:=by have:=hS.2.1;omega
 rw[xM hn];have HB0:=aA hB0
 clear hB0 h hS hT hD;by_cases h6:m=6
 ·subst h6;have hz:dW k to a b p.length (lf p)=[]:=Classical.byContradiction (fun q=>hn ⟨rfl,q⟩)
  rw[hz]at HTX;clear hz hn;go_enter Tryz.func45,Tryz.ntmps45;go_wp2_with fail;refine HTX.out.mono ?_;rintro e w1 ⟨rfl,hb1⟩;have HB1:=aA (aC HB0.out hb1)
  clear hb1;go_wp2;refine bC (results_tmp2 rfl _ _ _) rfl ?_;exact⟨none,0,rfl,HB1.out,qG _ _,.inl rfl,.inl rfl⟩
 ·have h6I:¬((m:Int)=6):=by omega
  have h6b:decide ((m:Int)=6)=false:=decide_eq_false h6I;clear hn;go_enter Tryz.func45,Tryz.ntmps45;go_wp2;refine bC (results_tmp2 rfl _ _ _) rfl ?_;exact⟨none,0,rfl,HB0.out,qG _ _,.inl rfl,.inl rfl⟩
theorem SO (to a b:Int) (sa:Option Addr) (sc:Nat) (ad:Nat→Option Addr) (ln cp:Nat→Nat) (F:Nat→Nat→T) (pa:Option Addr) (cap:Nat) (p:List T) (w:World) (hS:pT w sa 6 sc ad ln cp F) (h:Rd w pa p.length cap (lf p)) (hT:Tb w) (hD:Dw w) (hl:dW 1 to a b p.length (lf p)≠[]):Calls Tryz.prog 45 #[.slice sa 6 sc,.agg #[.int .i64 1,.int .i64 to,.int .i64 a,.int .i64 b,.slice pa p.length cap]] w fun r w'=>∃a' cap',r= .returned (.tuple #[.slice a' (aL 1 to a b p 6 ln F).1.length cap',.bool (aL 1 to a b p 6 ln F).2])∧Below w.heap.size w w'∧iJ w.heap.size w' a' cap' (aL 1 to a b p 6 ln F).1:=by
 have hB0:=aF w (.cells #[.int .i64 1,.int .i64 to,.int .i64 a,.int .i64 b,.slice pa p.length cap] 24);obtain⟨_,⟨t0,t5⟩,⟨a0,a5⟩,⟨b0,b5⟩,hok⟩:=bE hl;have HTX:=aA (eK 1 to a b pa p.length cap (lf p) _ (h.below hB0) (hT.below hB0) (hD.below hB0))
 have HR:Hid (aL 1 to a b p 6 ln F=(p,true)):=aA (by unfold aL;rw[if_pos ⟨rfl,hl⟩];rfl);obtain⟨R,hRR⟩:∃R,aL 1 to a b p 6 ln F=R:=⟨_,rfl⟩
 rw[hRR]at HR⊢;clear hRR;obtain⟨S,hSS⟩:∃S,dW 1 to a b p.length (lf p)=S:=⟨_,rfl⟩
 rw[hSS]at HTX hl;have hse:S.isEmpty=false:=by cases S<;>simp at hl⊢
 have HOK:=aA hok;clear hSS hl hok;obtain⟨A,rfl⟩:∃A:Nat,a=(A:Int):=⟨a.toNat,by omega⟩
 obtain⟨C,rfl⟩:∃C:Nat,b=(C:Int):=⟨b.toNat,by omega⟩
 obtain⟨D,rfl⟩:∃D:Nat,to=(D:Int):=⟨to.toNat,by omega⟩
 have hA6:A<6:=by omega
 have hC6:C<6:=by omega
 have hD6:D<6:=by omega
 have hAI:(A:Int)<6:=by omega
 have hCI:(C:Int)<6:=by omega
 have hDI:(D:Int)<6:=by omega
 (try simp only[Int.toNat_natCast]at HR)
 clear t0 t5 a0 a5 b0 b5;obtain⟨sb,off,rfl,hlt,hc⟩:=hS.2.2.1.resolve_left (by omega);have HC:=aA hc
 have HS:=aA hS;have HP:=aA h
 have HB0:=aA hB0;have hx:∀j:Nat,(w.alloc (.cells #[.int .i64 1,.int .i64 D,.int .i64 A,.int .i64 C,.slice pa p.length cap] 24)).cell? ⟨w.heap.size,j,none⟩=#[Value.int .i64 1,.int .i64 D,.int .i64 A,.int .i64 C,.slice pa p.length cap][j]? :=fun j=>World.cell?_alloc_at _ _ _ _ rfl
 have HX:=aA hx;clear hS h hc hB0 hx hT hD;go_enter Tryz.func45,Tryz.ntmps45;go_wp2_with fail;refine HTX.out.mono ?_;rintro e w1 ⟨rfl,hb1⟩;have HB1:=aA (aC HB0.out hb1)
 have hlt1:w.heap.size<w1.heap.size:=eB (by simp) hb1.size;have hcc:∀j:Nat,w1.cell? ⟨w.heap.size,j,none⟩=#[Value.int .i64 1,.int .i64 D,.int .i64 A,.int .i64 C,.slice pa p.length cap][j]? :=fun j=>(hb1.cell (p:=⟨w.heap.size,j,none⟩) (by simp)).trans (HX.out j)
 have l0:=hcc 0;have l1:=hcc 1
 have l2:=hcc 2;have l3:=hcc 3
 have l4:=hcc 4;simp at l0 l1 l2 l3 l4;have r0:∀j,j<6→w1.cell? ⟨sb,off+j,none⟩=some (.slice (ad j) (ln j) (cp j)):=fun j hj=>(HB1.out.cell (p:=⟨sb,off+j,none⟩) hlt).trans (HC.out j hj)
 have rA:=r0 A hA6;have rC:=r0 C hC6
 have rD:=r0 D hD6;have HS1:=aA (HS.out.below HB1.out)
 have HP1:=aA (HP.out.below HB1.out);clear hb1 hcc r0 HX HTX HB0 HC;have hF:mD w.heap.size sb (A:Int) (C:Int) off A C (.slice (ad A) (ln A) (cp A)) (.slice (ad C) (ln C) (cp C)) w1.drew:=⟨l2,l3,rA,rC⟩
 have HF:=aA hF;clear hF;go_wp2_with fail
 go_region_held3 (fun u=>u.cell? ⟨w.heap.size,2,none⟩=some (.int .i64 (A:Int))∧u.cell? ⟨w.heap.size,3,none⟩=some (.int .i64 (C:Int))∧u.cell? ⟨sb,off+A,none⟩=some (.slice (ad A) (ln A) (cp A))∧u.cell? ⟨sb,off+C,none⟩=some (.slice (ad C) (ln C) (cp C))) (with_reducible exact HF.out) (fail)
 clear HF;have l0:w1.drew.cell? ⟨w.heap.size,0,none⟩=some (.int .i64 1):=l0
 have l1:w1.drew.cell? ⟨w.heap.size,1,none⟩=some (.int .i64 (D:Int)):=l1;have l4:w1.drew.cell? ⟨w.heap.size,4,none⟩=some (.slice pa p.length cap):=l4
 have rD:w1.drew.cell? ⟨sb,off+D,none⟩=some (.slice (ad D) (ln D) (cp D)):=rD;have HB2:=aA HB1.out.drew
 have HS2:=aA (HS1.out.below (aD _ _).drew);have HP2:=aA (HP1.out.below (aD _ _).drew)
 clear HB1 HS1 HP1 l2 l3 rA rC;generalize w1.drew=w2 at *;have HCA:=aA (vS _ _ _ _ _ _ _ _ QR HP2.out (qG _ _))
 rw[yN HOK.out]at HCA;rw[←HR.out]at HCA;go_wp2_with fail;refine HCA.out.mono ?_;rintro e w3 ⟨a',cap',rfl,hb3,ho3⟩;have HB3:=aA (aC HB2.out hb3)
 have HO3:=aA ho3;have hsz3:w.heap.size≤w2.heap.size:=HB2.out.size
 clear hb3 ho3;go_wp2;refine bC (results_tmp2 rfl _ _ _) rfl ?_;exact⟨a',cap',rfl,HB3.out,HO3.out.lower hsz3⟩
theorem SP (to a b:Int) (sa:Option Addr) (sc:Nat) (ad:Nat→Option Addr) (ln cp:Nat→Nat) (F:Nat→Nat→T) (pa:Option Addr) (cap:Nat) (p:List T) (w:World) (hS:pT w sa 6 sc ad ln cp F) (h:Rd w pa p.length cap (lf p)) (hT:Tb w) (hD:Dw w) (hl:dW 2 to a b p.length (lf p)≠[]):Calls Tryz.prog 45 #[.slice sa 6 sc,.agg #[.int .i64 2,.int .i64 to,.int .i64 a,.int .i64 b,.slice pa p.length cap]] w fun r w'=>∃a' cap',r= .returned (.tuple #[.slice a' (aL 2 to a b p 6 ln F).1.length cap',.bool (aL 2 to a b p 6 ln F).2])∧Below w.heap.size w w'∧iJ w.heap.size w' a' cap' (aL 2 to a b p 6 ln F).1:=by
 have hB0:=aF w (.cells #[.int .i64 2,.int .i64 to,.int .i64 a,.int .i64 b,.slice pa p.length cap] 24);obtain⟨_,⟨t0,t5⟩,⟨a0,a5⟩,⟨b0,b5⟩,hok⟩:=bE hl;have HTX:=aA (eK 2 to a b pa p.length cap (lf p) _ (h.below hB0) (hT.below hB0) (hD.below hB0))
 have HR:Hid (aL 2 to a b p 6 ln F=cH (F a.toNat) (ln a.toNat) (F b.toNat) (ln b.toNat)):=aA (by unfold aL;rw[if_pos ⟨rfl,hl⟩];rfl);obtain⟨R,hRR⟩:∃R,aL 2 to a b p 6 ln F=R:=⟨_,rfl⟩
 rw[hRR]at HR⊢;clear hRR;obtain⟨S,hSS⟩:∃S,dW 2 to a b p.length (lf p)=S:=⟨_,rfl⟩
 rw[hSS]at HTX hl;have hse:S.isEmpty=false:=by cases S<;>simp at hl⊢
 have HOK:=aA hok;clear hSS hl hok;obtain⟨A,rfl⟩:∃A:Nat,a=(A:Int):=⟨a.toNat,by omega⟩
 obtain⟨C,rfl⟩:∃C:Nat,b=(C:Int):=⟨b.toNat,by omega⟩
 obtain⟨D,rfl⟩:∃D:Nat,to=(D:Int):=⟨to.toNat,by omega⟩
 have hA6:A<6:=by omega
 have hC6:C<6:=by omega
 have hD6:D<6:=by omega
 have hAI:(A:Int)<6:=by omega
 have hCI:(C:Int)<6:=by omega
 have hDI:(D:Int)<6:=by omega
 (try simp only[Int.toNat_natCast]at HR)
 clear t0 t5 a0 a5 b0 b5;obtain⟨sb,off,rfl,hlt,hc⟩:=hS.2.2.1.resolve_left (by omega);have HC:=aA hc
 have HS:=aA hS;have HP:=aA h
 have HB0:=aA hB0;have hx:∀j:Nat,(w.alloc (.cells #[.int .i64 2,.int .i64 D,.int .i64 A,.int .i64 C,.slice pa p.length cap] 24)).cell? ⟨w.heap.size,j,none⟩=#[Value.int .i64 2,.int .i64 D,.int .i64 A,.int .i64 C,.slice pa p.length cap][j]? :=fun j=>World.cell?_alloc_at _ _ _ _ rfl
 have HX:=aA hx;clear hS h hc hB0 hx hT hD;go_enter Tryz.func45,Tryz.ntmps45;go_wp2_with fail;refine HTX.out.mono ?_;rintro e w1 ⟨rfl,hb1⟩;have HB1:=aA (aC HB0.out hb1)
 have hlt1:w.heap.size<w1.heap.size:=eB (by simp) hb1.size;have hcc:∀j:Nat,w1.cell? ⟨w.heap.size,j,none⟩=#[Value.int .i64 2,.int .i64 D,.int .i64 A,.int .i64 C,.slice pa p.length cap][j]? :=fun j=>(hb1.cell (p:=⟨w.heap.size,j,none⟩) (by simp)).trans (HX.out j)
 have l0:=hcc 0;have l1:=hcc 1
 have l2:=hcc 2;have l3:=hcc 3
 have l4:=hcc 4;simp at l0 l1 l2 l3 l4;have r0:∀j,j<6→w1.cell? ⟨sb,off+j,none⟩=some (.slice (ad j) (ln j) (cp j)):=fun j hj=>(HB1.out.cell (p:=⟨sb,off+j,none⟩) hlt).trans (HC.out j hj)
 have rA:=r0 A hA6;have rC:=r0 C hC6
 have rD:=r0 D hD6;have HS1:=aA (HS.out.below HB1.out)
 have HP1:=aA (HP.out.below HB1.out);clear hb1 hcc r0 HX HTX HB0 HC;have hF:mD w.heap.size sb (A:Int) (C:Int) off A C (.slice (ad A) (ln A) (cp A)) (.slice (ad C) (ln C) (cp C)) w1.drew:=⟨l2,l3,rA,rC⟩
 have HF:=aA hF;clear hF;go_wp2_with fail
 go_region_held3 (fun u=>u.cell? ⟨w.heap.size,2,none⟩=some (.int .i64 (A:Int))∧u.cell? ⟨w.heap.size,3,none⟩=some (.int .i64 (C:Int))∧u.cell? ⟨sb,off+A,none⟩=some (.slice (ad A) (ln A) (cp A))∧u.cell? ⟨sb,off+C,none⟩=some (.slice (ad C) (ln C) (cp C))) (with_reducible exact HF.out) (fail)
 clear HF;have l0:w1.drew.cell? ⟨w.heap.size,0,none⟩=some (.int .i64 2):=l0
 have l1:w1.drew.cell? ⟨w.heap.size,1,none⟩=some (.int .i64 (D:Int)):=l1;have l4:w1.drew.cell? ⟨w.heap.size,4,none⟩=some (.slice pa p.length cap):=l4
 have rD:w1.drew.cell? ⟨sb,off+D,none⟩=some (.slice (ad D) (ln D) (cp D)):=rD;have HB2:=aA HB1.out.drew
 have HS2:=aA (HS1.out.below (aD _ _).drew);have HP2:=aA (HP1.out.below (aD _ _).drew)
 clear HB1 HS1 HP1 l2 l3 rA rC;generalize w1.drew=w2 at *;have HCA:=aA (vS _ _ _ _ _ _ _ _ _ (HS2.out.2.2.2 A hA6) (HS2.out.2.2.2 C hC6))
 rw[←HR.out]at HCA;go_wp2_with fail;refine HCA.out.mono ?_;rintro e w3 ⟨a',cap',rfl,hb3,ho3⟩;have HB3:=aA (aC HB2.out hb3)
 have HO3:=aA ho3;have hsz3:w.heap.size≤w2.heap.size:=HB2.out.size
 clear hb3 ho3;go_wp2;refine bC (results_tmp2 rfl _ _ _) rfl ?_;exact⟨a',cap',rfl,HB3.out,HO3.out.lower hsz3⟩
theorem SQ (to a b:Int) (sa:Option Addr) (sc:Nat) (ad:Nat→Option Addr) (ln cp:Nat→Nat) (F:Nat→Nat→T) (pa:Option Addr) (cap:Nat) (p:List T) (w:World) (hS:pT w sa 6 sc ad ln cp F) (h:Rd w pa p.length cap (lf p)) (hT:Tb w) (hD:Dw w) (hl:dW 3 to a b p.length (lf p)≠[]):Calls Tryz.prog 45 #[.slice sa 6 sc,.agg #[.int .i64 3,.int .i64 to,.int .i64 a,.int .i64 b,.slice pa p.length cap]] w fun r w'=>∃a' cap',r= .returned (.tuple #[.slice a' (aL 3 to a b p 6 ln F).1.length cap',.bool (aL 3 to a b p 6 ln F).2])∧Below w.heap.size w w'∧iJ w.heap.size w' a' cap' (aL 3 to a b p 6 ln F).1:=by
 have hB0:=aF w (.cells #[.int .i64 3,.int .i64 to,.int .i64 a,.int .i64 b,.slice pa p.length cap] 24);obtain⟨_,⟨t0,t5⟩,⟨a0,a5⟩,⟨b0,b5⟩,hok⟩:=bE hl;have HTX:=aA (eK 3 to a b pa p.length cap (lf p) _ (h.below hB0) (hT.below hB0) (hD.below hB0))
 have HR:Hid (aL 3 to a b p 6 ln F=aW (F a.toNat) (ln a.toNat) (F b.toNat) (ln b.toNat)):=aA (by unfold aL;rw[if_pos ⟨rfl,hl⟩];rfl);obtain⟨R,hRR⟩:∃R,aL 3 to a b p 6 ln F=R:=⟨_,rfl⟩
 rw[hRR]at HR⊢;clear hRR;obtain⟨S,hSS⟩:∃S,dW 3 to a b p.length (lf p)=S:=⟨_,rfl⟩
 rw[hSS]at HTX hl;have hse:S.isEmpty=false:=by cases S<;>simp at hl⊢
 have HOK:=aA hok;clear hSS hl hok;obtain⟨A,rfl⟩:∃A:Nat,a=(A:Int):=⟨a.toNat,by omega⟩
 obtain⟨C,rfl⟩:∃C:Nat,b=(C:Int):=⟨b.toNat,by omega⟩
 obtain⟨D,rfl⟩:∃D:Nat,to=(D:Int):=⟨to.toNat,by omega⟩
 have hA6:A<6:=by omega
 have hC6:C<6:=by omega
 have hD6:D<6:=by omega
 have hAI:(A:Int)<6:=by omega
 have hCI:(C:Int)<6:=by omega
 have hDI:(D:Int)<6:=by omega
 (try simp only[Int.toNat_natCast]at HR)
 clear t0 t5 a0 a5 b0 b5;obtain⟨sb,off,rfl,hlt,hc⟩:=hS.2.2.1.resolve_left (by omega);have HC:=aA hc
 have HS:=aA hS;have HP:=aA h
 have HB0:=aA hB0;have hx:∀j:Nat,(w.alloc (.cells #[.int .i64 3,.int .i64 D,.int .i64 A,.int .i64 C,.slice pa p.length cap] 24)).cell? ⟨w.heap.size,j,none⟩=#[Value.int .i64 3,.int .i64 D,.int .i64 A,.int .i64 C,.slice pa p.length cap][j]? :=fun j=>World.cell?_alloc_at _ _ _ _ rfl
 have HX:=aA hx;clear hS h hc hB0 hx hT hD;go_enter Tryz.func45,Tryz.ntmps45;go_wp2_with fail;refine HTX.out.mono ?_;rintro e w1 ⟨rfl,hb1⟩;have HB1:=aA (aC HB0.out hb1)
 have hlt1:w.heap.size<w1.heap.size:=eB (by simp) hb1.size;have hcc:∀j:Nat,w1.cell? ⟨w.heap.size,j,none⟩=#[Value.int .i64 3,.int .i64 D,.int .i64 A,.int .i64 C,.slice pa p.length cap][j]? :=fun j=>(hb1.cell (p:=⟨w.heap.size,j,none⟩) (by simp)).trans (HX.out j)
 have l0:=hcc 0;have l1:=hcc 1
 have l2:=hcc 2;have l3:=hcc 3
 have l4:=hcc 4;simp at l0 l1 l2 l3 l4;have r0:∀j,j<6→w1.cell? ⟨sb,off+j,none⟩=some (.slice (ad j) (ln j) (cp j)):=fun j hj=>(HB1.out.cell (p:=⟨sb,off+j,none⟩) hlt).trans (HC.out j hj)
 have rA:=r0 A hA6;have rC:=r0 C hC6
 have rD:=r0 D hD6;have HS1:=aA (HS.out.below HB1.out)
 have HP1:=aA (HP.out.below HB1.out);clear hb1 hcc r0 HX HTX HB0 HC;have hF:mD w.heap.size sb (A:Int) (C:Int) off A C (.slice (ad A) (ln A) (cp A)) (.slice (ad C) (ln C) (cp C)) w1.drew:=⟨l2,l3,rA,rC⟩
 have HF:=aA hF;clear hF;go_wp2_with fail
 go_region_held3 (fun u=>u.cell? ⟨w.heap.size,2,none⟩=some (.int .i64 (A:Int))∧u.cell? ⟨w.heap.size,3,none⟩=some (.int .i64 (C:Int))∧u.cell? ⟨sb,off+A,none⟩=some (.slice (ad A) (ln A) (cp A))∧u.cell? ⟨sb,off+C,none⟩=some (.slice (ad C) (ln C) (cp C))) (with_reducible exact HF.out) (fail)
 clear HF;have l0:w1.drew.cell? ⟨w.heap.size,0,none⟩=some (.int .i64 3):=l0
 have l1:w1.drew.cell? ⟨w.heap.size,1,none⟩=some (.int .i64 (D:Int)):=l1;have l4:w1.drew.cell? ⟨w.heap.size,4,none⟩=some (.slice pa p.length cap):=l4
 have rD:w1.drew.cell? ⟨sb,off+D,none⟩=some (.slice (ad D) (ln D) (cp D)):=rD;have HB2:=aA HB1.out.drew
 have HS2:=aA (HS1.out.below (aD _ _).drew);have HP2:=aA (HP1.out.below (aD _ _).drew)
 clear HB1 HS1 HP1 l2 l3 rA rC;generalize w1.drew=w2 at *;have HCA:=aA (wN _ _ _ _ _ _ _ _ _ (HS2.out.2.2.2 A hA6) (HS2.out.2.2.2 C hC6))
 rw[←HR.out]at HCA;go_wp2_with fail;refine HCA.out.mono ?_;rintro e w3 ⟨a',cap',rfl,hb3,ho3⟩;have HB3:=aA (aC HB2.out hb3)
 have HO3:=aA ho3;have hsz3:w.heap.size≤w2.heap.size:=HB2.out.size
 clear hb3 ho3;go_wp2;refine bC (results_tmp2 rfl _ _ _) rfl ?_;exact⟨a',cap',rfl,HB3.out,HO3.out.lower hsz3⟩
theorem SR (to a b:Int) (sa:Option Addr) (sc:Nat) (ad:Nat→Option Addr) (ln cp:Nat→Nat) (F:Nat→Nat→T) (pa:Option Addr) (cap:Nat) (p:List T) (w:World) (hS:pT w sa 6 sc ad ln cp F) (h:Rd w pa p.length cap (lf p)) (hT:Tb w) (hD:Dw w) (hl:dW 4 to a b p.length (lf p)≠[]):Calls Tryz.prog 45 #[.slice sa 6 sc,.agg #[.int .i64 4,.int .i64 to,.int .i64 a,.int .i64 b,.slice pa p.length cap]] w fun r w'=>∃a' cap',r= .returned (.tuple #[.slice a' (aL 4 to a b p 6 ln F).1.length cap',.bool (aL 4 to a b p 6 ln F).2])∧Below w.heap.size w w'∧iJ w.heap.size w' a' cap' (aL 4 to a b p 6 ln F).1:=by
 have hB0:=aF w (.cells #[.int .i64 4,.int .i64 to,.int .i64 a,.int .i64 b,.slice pa p.length cap] 24);obtain⟨_,⟨t0,t5⟩,⟨a0,a5⟩,⟨b0,b5⟩,hok⟩:=bE hl;have HTX:=aA (eK 4 to a b pa p.length cap (lf p) _ (h.below hB0) (hT.below hB0) (hD.below hB0))
 have HR:Hid (aL 4 to a b p 6 ln F=cK (F a.toNat) (ln a.toNat) (F b.toNat) (ln b.toNat)):=aA (by unfold aL;rw[if_pos ⟨rfl,hl⟩];rfl);obtain⟨R,hRR⟩:∃R,aL 4 to a b p 6 ln F=R:=⟨_,rfl⟩
 rw[hRR]at HR⊢;clear hRR;obtain⟨S,hSS⟩:∃S,dW 4 to a b p.length (lf p)=S:=⟨_,rfl⟩
 rw[hSS]at HTX hl;have hse:S.isEmpty=false:=by cases S<;>simp at hl⊢
 have HOK:=aA hok;clear hSS hl hok;obtain⟨A,rfl⟩:∃A:Nat,a=(A:Int):=⟨a.toNat,by omega⟩
 obtain⟨C,rfl⟩:∃C:Nat,b=(C:Int):=⟨b.toNat,by omega⟩
 obtain⟨D,rfl⟩:∃D:Nat,to=(D:Int):=⟨to.toNat,by omega⟩
 have hA6:A<6:=by omega
 have hC6:C<6:=by omega
 have hD6:D<6:=by omega
 have hAI:(A:Int)<6:=by omega
 have hCI:(C:Int)<6:=by omega
 have hDI:(D:Int)<6:=by omega
 (try simp only[Int.toNat_natCast]at HR)
 clear t0 t5 a0 a5 b0 b5;obtain⟨sb,off,rfl,hlt,hc⟩:=hS.2.2.1.resolve_left (by omega);have HC:=aA hc
 have HS:=aA hS;have HP:=aA h
 have HB0:=aA hB0;have hx:∀j:Nat,(w.alloc (.cells #[.int .i64 4,.int .i64 D,.int .i64 A,.int .i64 C,.slice pa p.length cap] 24)).cell? ⟨w.heap.size,j,none⟩=#[Value.int .i64 4,.int .i64 D,.int .i64 A,.int .i64 C,.slice pa p.length cap][j]? :=fun j=>World.cell?_alloc_at _ _ _ _ rfl
 have HX:=aA hx;clear hS h hc hB0 hx hT hD;go_enter Tryz.func45,Tryz.ntmps45;go_wp2_with fail;refine HTX.out.mono ?_;rintro e w1 ⟨rfl,hb1⟩;have HB1:=aA (aC HB0.out hb1)
 have hlt1:w.heap.size<w1.heap.size:=eB (by simp) hb1.size;have hcc:∀j:Nat,w1.cell? ⟨w.heap.size,j,none⟩=#[Value.int .i64 4,.int .i64 D,.int .i64 A,.int .i64 C,.slice pa p.length cap][j]? :=fun j=>(hb1.cell (p:=⟨w.heap.size,j,none⟩) (by simp)).trans (HX.out j)
 have l0:=hcc 0;have l1:=hcc 1
 have l2:=hcc 2;have l3:=hcc 3
 have l4:=hcc 4;simp at l0 l1 l2 l3 l4;have r0:∀j,j<6→w1.cell? ⟨sb,off+j,none⟩=some (.slice (ad j) (ln j) (cp j)):=fun j hj=>(HB1.out.cell (p:=⟨sb,off+j,none⟩) hlt).trans (HC.out j hj)
 have rA:=r0 A hA6;have rC:=r0 C hC6
 have rD:=r0 D hD6;have HS1:=aA (HS.out.below HB1.out)
 have HP1:=aA (HP.out.below HB1.out);clear hb1 hcc r0 HX HTX HB0 HC;have hF:mD w.heap.size sb (A:Int) (C:Int) off A C (.slice (ad A) (ln A) (cp A)) (.slice (ad C) (ln C) (cp C)) w1.drew:=⟨l2,l3,rA,rC⟩
 have HF:=aA hF;clear hF;go_wp2_with fail
 go_region_held3 (fun u=>u.cell? ⟨w.heap.size,2,none⟩=some (.int .i64 (A:Int))∧u.cell? ⟨w.heap.size,3,none⟩=some (.int .i64 (C:Int))∧u.cell? ⟨sb,off+A,none⟩=some (.slice (ad A) (ln A) (cp A))∧u.cell? ⟨sb,off+C,none⟩=some (.slice (ad C) (ln C) (cp C))) (with_reducible exact HF.out) (fail)
 clear HF;have l0:w1.drew.cell? ⟨w.heap.size,0,none⟩=some (.int .i64 4):=l0
 have l1:w1.drew.cell? ⟨w.heap.size,1,none⟩=some (.int .i64 (D:Int)):=l1;have l4:w1.drew.cell? ⟨w.heap.size,4,none⟩=some (.slice pa p.length cap):=l4
 have rD:w1.drew.cell? ⟨sb,off+D,none⟩=some (.slice (ad D) (ln D) (cp D)):=rD;have HB2:=aA HB1.out.drew
 have HS2:=aA (HS1.out.below (aD _ _).drew);have HP2:=aA (HP1.out.below (aD _ _).drew)
 clear HB1 HS1 HP1 l2 l3 rA rC;generalize w1.drew=w2 at *;have HCA:=aA (EL _ _ _ _ _ _ _ _ _ (HS2.out.2.2.2 A hA6) (HS2.out.2.2.2 C hC6))
 rw[←HR.out]at HCA;go_wp2_with fail;refine HCA.out.mono ?_;rintro e w3 ⟨a',cap',rfl,hb3,ho3⟩;have HB3:=aA (aC HB2.out hb3)
 have HO3:=aA ho3;have hsz3:w.heap.size≤w2.heap.size:=HB2.out.size
 clear hb3 ho3;go_wp2;refine bC (results_tmp2 rfl _ _ _) rfl ?_;exact⟨a',cap',rfl,HB3.out,HO3.out.lower hsz3⟩
theorem SS (to a b:Int) (sa:Option Addr) (sc:Nat) (ad:Nat→Option Addr) (ln cp:Nat→Nat) (F:Nat→Nat→T) (pa:Option Addr) (cap:Nat) (p:List T) (w:World) (hS:pT w sa 6 sc ad ln cp F) (h:Rd w pa p.length cap (lf p)) (hT:Tb w) (hD:Dw w) (hl:dW 5 to a b p.length (lf p)≠[]):Calls Tryz.prog 45 #[.slice sa 6 sc,.agg #[.int .i64 5,.int .i64 to,.int .i64 a,.int .i64 b,.slice pa p.length cap]] w fun r w'=>∃a' cap',r= .returned (.tuple #[.slice a' (aL 5 to a b p 6 ln F).1.length cap',.bool (aL 5 to a b p 6 ln F).2])∧Below w.heap.size w w'∧iJ w.heap.size w' a' cap' (aL 5 to a b p 6 ln F).1:=by
 have hB0:=aF w (.cells #[.int .i64 5,.int .i64 to,.int .i64 a,.int .i64 b,.slice pa p.length cap] 24);obtain⟨_,⟨t0,t5⟩,⟨a0,a5⟩,⟨b0,b5⟩,hok⟩:=bE hl;have HTX:=aA (eK 5 to a b pa p.length cap (lf p) _ (h.below hB0) (hT.below hB0) (hD.below hB0))
 have HR:Hid (aL 5 to a b p 6 ln F=fG (F a.toNat) (ln a.toNat) (F b.toNat) (ln b.toNat)):=aA (by unfold aL;rw[if_pos ⟨rfl,hl⟩];rfl);obtain⟨R,hRR⟩:∃R,aL 5 to a b p 6 ln F=R:=⟨_,rfl⟩
 rw[hRR]at HR⊢;clear hRR;obtain⟨S,hSS⟩:∃S,dW 5 to a b p.length (lf p)=S:=⟨_,rfl⟩
 rw[hSS]at HTX hl;have hse:S.isEmpty=false:=by cases S<;>simp at hl⊢
 have HOK:=aA hok;clear hSS hl hok;obtain⟨A,rfl⟩:∃A:Nat,a=(A:Int):=⟨a.toNat,by omega⟩
 obtain⟨C,rfl⟩:∃C:Nat,b=(C:Int):=⟨b.toNat,by omega⟩
 obtain⟨D,rfl⟩:∃D:Nat,to=(D:Int):=⟨to.toNat,by omega⟩
 have hA6:A<6:=by omega
 have hC6:C<6:=by omega
 have hD6:D<6:=by omega
 have hAI:(A:Int)<6:=by omega
 have hCI:(C:Int)<6:=by omega
 have hDI:(D:Int)<6:=by omega
 (try simp only[Int.toNat_natCast]at HR)
 clear t0 t5 a0 a5 b0 b5;obtain⟨sb,off,rfl,hlt,hc⟩:=hS.2.2.1.resolve_left (by omega);have HC:=aA hc
 have HS:=aA hS;have HP:=aA h
 have HB0:=aA hB0;have hx:∀j:Nat,(w.alloc (.cells #[.int .i64 5,.int .i64 D,.int .i64 A,.int .i64 C,.slice pa p.length cap] 24)).cell? ⟨w.heap.size,j,none⟩=#[Value.int .i64 5,.int .i64 D,.int .i64 A,.int .i64 C,.slice pa p.length cap][j]? :=fun j=>World.cell?_alloc_at _ _ _ _ rfl
 have HX:=aA hx;clear hS h hc hB0 hx hT hD;go_enter Tryz.func45,Tryz.ntmps45;go_wp2_with fail;refine HTX.out.mono ?_;rintro e w1 ⟨rfl,hb1⟩;have HB1:=aA (aC HB0.out hb1)
 have hlt1:w.heap.size<w1.heap.size:=eB (by simp) hb1.size;have hcc:∀j:Nat,w1.cell? ⟨w.heap.size,j,none⟩=#[Value.int .i64 5,.int .i64 D,.int .i64 A,.int .i64 C,.slice pa p.length cap][j]? :=fun j=>(hb1.cell (p:=⟨w.heap.size,j,none⟩) (by simp)).trans (HX.out j)
 have l0:=hcc 0;have l1:=hcc 1
 have l2:=hcc 2;have l3:=hcc 3
 have l4:=hcc 4;simp at l0 l1 l2 l3 l4;have r0:∀j,j<6→w1.cell? ⟨sb,off+j,none⟩=some (.slice (ad j) (ln j) (cp j)):=fun j hj=>(HB1.out.cell (p:=⟨sb,off+j,none⟩) hlt).trans (HC.out j hj)
 have rA:=r0 A hA6;have rC:=r0 C hC6
 have rD:=r0 D hD6;have HS1:=aA (HS.out.below HB1.out)
 have HP1:=aA (HP.out.below HB1.out);clear hb1 hcc r0 HX HTX HB0 HC;have hF:mD w.heap.size sb (A:Int) (C:Int) off A C (.slice (ad A) (ln A) (cp A)) (.slice (ad C) (ln C) (cp C)) w1.drew:=⟨l2,l3,rA,rC⟩
 have HF:=aA hF;clear hF;go_wp2_with fail
 go_region_held3 (fun u=>u.cell? ⟨w.heap.size,2,none⟩=some (.int .i64 (A:Int))∧u.cell? ⟨w.heap.size,3,none⟩=some (.int .i64 (C:Int))∧u.cell? ⟨sb,off+A,none⟩=some (.slice (ad A) (ln A) (cp A))∧u.cell? ⟨sb,off+C,none⟩=some (.slice (ad C) (ln C) (cp C))) (with_reducible exact HF.out) (fail)
 clear HF;have l0:w1.drew.cell? ⟨w.heap.size,0,none⟩=some (.int .i64 5):=l0
 have l1:w1.drew.cell? ⟨w.heap.size,1,none⟩=some (.int .i64 (D:Int)):=l1;have l4:w1.drew.cell? ⟨w.heap.size,4,none⟩=some (.slice pa p.length cap):=l4
 have rD:w1.drew.cell? ⟨sb,off+D,none⟩=some (.slice (ad D) (ln D) (cp D)):=rD;have HB2:=aA HB1.out.drew
 have HS2:=aA (HS1.out.below (aD _ _).drew);have HP2:=aA (HP1.out.below (aD _ _).drew)
 clear HB1 HS1 HP1 l2 l3 rA rC;generalize w1.drew=w2 at *;have HCA:=aA (QL _ _ _ _ _ _ _ _ _ (HS2.out.2.2.2 A hA6) (HS2.out.2.2.2 C hC6))
 rw[←HR.out]at HCA;go_wp2_with fail;refine HCA.out.mono ?_;rintro e w3 ⟨a',cap',rfl,hb3,ho3⟩;have HB3:=aA (aC HB2.out hb3)
 have HO3:=aA ho3;have hsz3:w.heap.size≤w2.heap.size:=HB2.out.size
 clear hb3 ho3;go_wp2;refine bC (results_tmp2 rfl _ _ _) rfl ?_;exact⟨a',cap',rfl,HB3.out,HO3.out.lower hsz3⟩
theorem ST (to a b:Int) (sa:Option Addr) (sc:Nat) (ad:Nat→Option Addr) (ln cp:Nat→Nat) (F:Nat→Nat→T) (pa:Option Addr) (cap:Nat) (p:List T) (w:World) (hS:pT w sa 6 sc ad ln cp F) (h:Rd w pa p.length cap (lf p)) (hT:Tb w) (hD:Dw w) (hl:dW 6 to a b p.length (lf p)≠[]):Calls Tryz.prog 45 #[.slice sa 6 sc,.agg #[.int .i64 6,.int .i64 to,.int .i64 a,.int .i64 b,.slice pa p.length cap]] w fun r w'=>∃a' cap',r= .returned (.tuple #[.slice a' (aL 6 to a b p 6 ln F).1.length cap',.bool (aL 6 to a b p 6 ln F).2])∧Below w.heap.size w w'∧iJ w.heap.size w' a' cap' (aL 6 to a b p 6 ln F).1:=by
 have hB0:=aF w (.cells #[.int .i64 6,.int .i64 to,.int .i64 a,.int .i64 b,.slice pa p.length cap] 24);obtain⟨_,⟨t0,t5⟩,⟨a0,a5⟩,⟨b0,b5⟩,hok⟩:=bE hl;have HTX:=aA (eK 6 to a b pa p.length cap (lf p) _ (h.below hB0) (hT.below hB0) (hD.below hB0))
 have HR:Hid (aL 6 to a b p 6 ln F=cB (F a.toNat) (ln a.toNat)):=aA (by unfold aL;rw[if_pos ⟨rfl,hl⟩];rfl);obtain⟨R,hRR⟩:∃R,aL 6 to a b p 6 ln F=R:=⟨_,rfl⟩
 rw[hRR]at HR⊢;clear hRR;obtain⟨S,hSS⟩:∃S,dW 6 to a b p.length (lf p)=S:=⟨_,rfl⟩
 rw[hSS]at HTX hl;have hse:S.isEmpty=false:=by cases S<;>simp at hl⊢
 have HOK:=aA hok;clear hSS hl hok;obtain⟨A,rfl⟩:∃A:Nat,a=(A:Int):=⟨a.toNat,by omega⟩
 obtain⟨C,rfl⟩:∃C:Nat,b=(C:Int):=⟨b.toNat,by omega⟩
 obtain⟨D,rfl⟩:∃D:Nat,to=(D:Int):=⟨to.toNat,by omega⟩
 have hA6:A<6:=by omega
 have hC6:C<6:=by omega
 have hD6:D<6:=by omega
 have hAI:(A:Int)<6:=by omega
 have hCI:(C:Int)<6:=by omega
 have hDI:(D:Int)<6:=by omega
 (try simp only[Int.toNat_natCast]at HR)
 clear t0 t5 a0 a5 b0 b5;obtain⟨sb,off,rfl,hlt,hc⟩:=hS.2.2.1.resolve_left (by omega);have HC:=aA hc
 have HS:=aA hS;have HP:=aA h
 have HB0:=aA hB0;have hx:∀j:Nat,(w.alloc (.cells #[.int .i64 6,.int .i64 D,.int .i64 A,.int .i64 C,.slice pa p.length cap] 24)).cell? ⟨w.heap.size,j,none⟩=#[Value.int .i64 6,.int .i64 D,.int .i64 A,.int .i64 C,.slice pa p.length cap][j]? :=fun j=>World.cell?_alloc_at _ _ _ _ rfl
 have HX:=aA hx;clear hS h hc hB0 hx hT hD;go_enter Tryz.func45,Tryz.ntmps45;go_wp2_with fail;refine HTX.out.mono ?_;rintro e w1 ⟨rfl,hb1⟩;have HB1:=aA (aC HB0.out hb1)
 have hlt1:w.heap.size<w1.heap.size:=eB (by simp) hb1.size;have hcc:∀j:Nat,w1.cell? ⟨w.heap.size,j,none⟩=#[Value.int .i64 6,.int .i64 D,.int .i64 A,.int .i64 C,.slice pa p.length cap][j]? :=fun j=>(hb1.cell (p:=⟨w.heap.size,j,none⟩) (by simp)).trans (HX.out j)
 have l0:=hcc 0;have l1:=hcc 1
 have l2:=hcc 2;have l3:=hcc 3
 have l4:=hcc 4;simp at l0 l1 l2 l3 l4;have r0:∀j,j<6→w1.cell? ⟨sb,off+j,none⟩=some (.slice (ad j) (ln j) (cp j)):=fun j hj=>(HB1.out.cell (p:=⟨sb,off+j,none⟩) hlt).trans (HC.out j hj)
 have rA:=r0 A hA6;have rC:=r0 C hC6
 have rD:=r0 D hD6;have HS1:=aA (HS.out.below HB1.out)
 have HP1:=aA (HP.out.below HB1.out);clear hb1 hcc r0 HX HTX HB0 HC;have hF:mD w.heap.size sb (A:Int) (C:Int) off A C (.slice (ad A) (ln A) (cp A)) (.slice (ad C) (ln C) (cp C)) w1.drew:=⟨l2,l3,rA,rC⟩
 have HF:=aA hF;clear hF;go_wp2_with fail
 go_region_held3 (fun u=>u.cell? ⟨w.heap.size,2,none⟩=some (.int .i64 (A:Int))∧u.cell? ⟨w.heap.size,3,none⟩=some (.int .i64 (C:Int))∧u.cell? ⟨sb,off+A,none⟩=some (.slice (ad A) (ln A) (cp A))∧u.cell? ⟨sb,off+C,none⟩=some (.slice (ad C) (ln C) (cp C))) (with_reducible exact HF.out) (fail)
 clear HF;have l0:w1.drew.cell? ⟨w.heap.size,0,none⟩=some (.int .i64 6):=l0
 have l1:w1.drew.cell? ⟨w.heap.size,1,none⟩=some (.int .i64 (D:Int)):=l1;have l4:w1.drew.cell? ⟨w.heap.size,4,none⟩=some (.slice pa p.length cap):=l4
 have rD:w1.drew.cell? ⟨sb,off+D,none⟩=some (.slice (ad D) (ln D) (cp D)):=rD;have HB2:=aA HB1.out.drew
 have HS2:=aA (HS1.out.below (aD _ _).drew);have HP2:=aA (HP1.out.below (aD _ _).drew)
 clear HB1 HS1 HP1 l2 l3 rA rC;generalize w1.drew=w2 at *;have HCA:=aA (DK _ _ _ _ _ (HS2.out.2.2.2 A hA6))
 rw[←HR.out]at HCA;go_wp2_with fail;refine HCA.out.mono ?_;rintro e w3 ⟨a',cap',rfl,hb3,ho3⟩;have HB3:=aA (aC HB2.out hb3)
 have HO3:=aA ho3;have hsz3:w.heap.size≤w2.heap.size:=HB2.out.size
 clear hb3 ho3;go_wp2;refine bC (results_tmp2 rfl _ _ _) rfl ?_;exact⟨a',cap',rfl,HB3.out,HO3.out.lower hsz3⟩
theorem SU (to a b:Int) (sa:Option Addr) (sc:Nat) (ad:Nat→Option Addr) (ln cp:Nat→Nat) (F:Nat→Nat→T) (pa:Option Addr) (cap:Nat) (p:List T) (w:World) (hS:pT w sa 6 sc ad ln cp F) (h:Rd w pa p.length cap (lf p)) (hT:Tb w) (hD:Dw w) (hl:dW 7 to a b p.length (lf p)≠[]):Calls Tryz.prog 45 #[.slice sa 6 sc,.agg #[.int .i64 7,.int .i64 to,.int .i64 a,.int .i64 b,.slice pa p.length cap]] w fun r w'=>∃a' cap',r= .returned (.tuple #[.slice a' (aL 7 to a b p 6 ln F).1.length cap',.bool (aL 7 to a b p 6 ln F).2])∧Below w.heap.size w w'∧iJ w.heap.size w' a' cap' (aL 7 to a b p 6 ln F).1:=by
 have hB0:=aF w (.cells #[.int .i64 7,.int .i64 to,.int .i64 a,.int .i64 b,.slice pa p.length cap] 24);obtain⟨_,⟨t0,t5⟩,⟨a0,a5⟩,⟨b0,b5⟩,hok⟩:=bE hl;have HTX:=aA (eK 7 to a b pa p.length cap (lf p) _ (h.below hB0) (hT.below hB0) (hD.below hB0))
 have HR:Hid (aL 7 to a b p 6 ln F=cY (F a.toNat) (ln a.toNat)):=aA (by unfold aL;rw[if_pos ⟨rfl,hl⟩];rfl);obtain⟨R,hRR⟩:∃R,aL 7 to a b p 6 ln F=R:=⟨_,rfl⟩
 rw[hRR]at HR⊢;clear hRR;obtain⟨S,hSS⟩:∃S,dW 7 to a b p.length (lf p)=S:=⟨_,rfl⟩
 rw[hSS]at HTX hl;have hse:S.isEmpty=false:=by cases S<;>simp at hl⊢
 have HOK:=aA hok;clear hSS hl hok;obtain⟨A,rfl⟩:∃A:Nat,a=(A:Int):=⟨a.toNat,by omega⟩
 obtain⟨C,rfl⟩:∃C:Nat,b=(C:Int):=⟨b.toNat,by omega⟩
 obtain⟨D,rfl⟩:∃D:Nat,to=(D:Int):=⟨to.toNat,by omega⟩
 have hA6:A<6:=by omega
 have hC6:C<6:=by omega
 have hD6:D<6:=by omega
 have hAI:(A:Int)<6:=by omega
 have hCI:(C:Int)<6:=by omega
 have hDI:(D:Int)<6:=by omega
 (try simp only[Int.toNat_natCast]at HR)
 clear t0 t5 a0 a5 b0 b5;obtain⟨sb,off,rfl,hlt,hc⟩:=hS.2.2.1.resolve_left (by omega);have HC:=aA hc
 have HS:=aA hS;have HP:=aA h
 have HB0:=aA hB0;have hx:∀j:Nat,(w.alloc (.cells #[.int .i64 7,.int .i64 D,.int .i64 A,.int .i64 C,.slice pa p.length cap] 24)).cell? ⟨w.heap.size,j,none⟩=#[Value.int .i64 7,.int .i64 D,.int .i64 A,.int .i64 C,.slice pa p.length cap][j]? :=fun j=>World.cell?_alloc_at _ _ _ _ rfl
 have HX:=aA hx;clear hS h hc hB0 hx hT hD;go_enter Tryz.func45,Tryz.ntmps45;go_wp2_with fail;refine HTX.out.mono ?_;rintro e w1 ⟨rfl,hb1⟩;have HB1:=aA (aC HB0.out hb1)
 have hlt1:w.heap.size<w1.heap.size:=eB (by simp) hb1.size;have hcc:∀j:Nat,w1.cell? ⟨w.heap.size,j,none⟩=#[Value.int .i64 7,.int .i64 D,.int .i64 A,.int .i64 C,.slice pa p.length cap][j]? :=fun j=>(hb1.cell (p:=⟨w.heap.size,j,none⟩) (by simp)).trans (HX.out j)
 have l0:=hcc 0;have l1:=hcc 1
 have l2:=hcc 2;have l3:=hcc 3
 have l4:=hcc 4;simp at l0 l1 l2 l3 l4;have r0:∀j,j<6→w1.cell? ⟨sb,off+j,none⟩=some (.slice (ad j) (ln j) (cp j)):=fun j hj=>(HB1.out.cell (p:=⟨sb,off+j,none⟩) hlt).trans (HC.out j hj)
 have rA:=r0 A hA6;have rC:=r0 C hC6
 have rD:=r0 D hD6;have HS1:=aA (HS.out.below HB1.out)
 have HP1:=aA (HP.out.below HB1.out);clear hb1 hcc r0 HX HTX HB0 HC;have hF:mD w.heap.size sb (A:Int) (C:Int) off A C (.slice (ad A) (ln A) (cp A)) (.slice (ad C) (ln C) (cp C)) w1.drew:=⟨l2,l3,rA,rC⟩
 have HF:=aA hF;clear hF;go_wp2_with fail
 go_region_held3 (fun u=>u.cell? ⟨w.heap.size,2,none⟩=some (.int .i64 (A:Int))∧u.cell? ⟨w.heap.size,3,none⟩=some (.int .i64 (C:Int))∧u.cell? ⟨sb,off+A,none⟩=some (.slice (ad A) (ln A) (cp A))∧u.cell? ⟨sb,off+C,none⟩=some (.slice (ad C) (ln C) (cp C))) (with_reducible exact HF.out) (fail)
 clear HF;have l0:w1.drew.cell? ⟨w.heap.size,0,none⟩=some (.int .i64 7):=l0
 have l1:w1.drew.cell? ⟨w.heap.size,1,none⟩=some (.int .i64 (D:Int)):=l1;have l4:w1.drew.cell? ⟨w.heap.size,4,none⟩=some (.slice pa p.length cap):=l4
 have rD:w1.drew.cell? ⟨sb,off+D,none⟩=some (.slice (ad D) (ln D) (cp D)):=rD;have HB2:=aA HB1.out.drew
 have HS2:=aA (HS1.out.below (aD _ _).drew);have HP2:=aA (HP1.out.below (aD _ _).drew)
 clear HB1 HS1 HP1 l2 l3 rA rC;generalize w1.drew=w2 at *;have HCA:=aA (GW _ _ _ _ _ (HS2.out.2.2.2 A hA6))
 rw[←HR.out]at HCA;go_wp2_with fail;refine HCA.out.mono ?_;rintro e w3 ⟨a',cap',rfl,hb3,ho3⟩;have HB3:=aA (aC HB2.out hb3)
 have HO3:=aA ho3;have hsz3:w.heap.size≤w2.heap.size:=HB2.out.size
 clear hb3 ho3;go_wp2;refine bC (results_tmp2 rfl _ _ _) rfl ?_;exact⟨a',cap',rfl,HB3.out,HO3.out.lower hsz3⟩
theorem SV (to a b:Int) (sa:Option Addr) (sc:Nat) (ad:Nat→Option Addr) (ln cp:Nat→Nat) (F:Nat→Nat→T) (pa:Option Addr) (cap:Nat) (p:List T) (w:World) (hS:pT w sa 6 sc ad ln cp F) (h:Rd w pa p.length cap (lf p)) (hT:Tb w) (hD:Dw w) (hl:dW 8 to a b p.length (lf p)≠[]):Calls Tryz.prog 45 #[.slice sa 6 sc,.agg #[.int .i64 8,.int .i64 to,.int .i64 a,.int .i64 b,.slice pa p.length cap]] w fun r w'=>∃a' cap',r= .returned (.tuple #[.slice a' (aL 8 to a b p 6 ln F).1.length cap',.bool (aL 8 to a b p 6 ln F).2])∧Below w.heap.size w w'∧iJ w.heap.size w' a' cap' (aL 8 to a b p 6 ln F).1:=by
 have hB0:=aF w (.cells #[.int .i64 8,.int .i64 to,.int .i64 a,.int .i64 b,.slice pa p.length cap] 24);obtain⟨_,⟨t0,t5⟩,⟨a0,a5⟩,⟨b0,b5⟩,hok⟩:=bE hl;have HTX:=aA (eK 8 to a b pa p.length cap (lf p) _ (h.below hB0) (hT.below hB0) (hD.below hB0))
 have HR:Hid (aL 8 to a b p 6 ln F=cH (F to.toNat) (ln to.toNat) QR 0):=aA (by unfold aL;rw[if_pos ⟨rfl,hl⟩];rfl);obtain⟨R,hRR⟩:∃R,aL 8 to a b p 6 ln F=R:=⟨_,rfl⟩
 rw[hRR]at HR⊢;clear hRR;obtain⟨S,hSS⟩:∃S,dW 8 to a b p.length (lf p)=S:=⟨_,rfl⟩
 rw[hSS]at HTX hl;have hse:S.isEmpty=false:=by cases S<;>simp at hl⊢
 have HOK:=aA hok;clear hSS hl hok;obtain⟨A,rfl⟩:∃A:Nat,a=(A:Int):=⟨a.toNat,by omega⟩
 obtain⟨C,rfl⟩:∃C:Nat,b=(C:Int):=⟨b.toNat,by omega⟩
 obtain⟨D,rfl⟩:∃D:Nat,to=(D:Int):=⟨to.toNat,by omega⟩
 have hA6:A<6:=by omega
 have hC6:C<6:=by omega
 have hD6:D<6:=by omega
 have hAI:(A:Int)<6:=by omega
 have hCI:(C:Int)<6:=by omega
 have hDI:(D:Int)<6:=by omega
 (try simp only[Int.toNat_natCast]at HR)
 clear t0 t5 a0 a5 b0 b5;obtain⟨sb,off,rfl,hlt,hc⟩:=hS.2.2.1.resolve_left (by omega);have HC:=aA hc
 have HS:=aA hS;have HP:=aA h
 have HB0:=aA hB0;have hx:∀j:Nat,(w.alloc (.cells #[.int .i64 8,.int .i64 D,.int .i64 A,.int .i64 C,.slice pa p.length cap] 24)).cell? ⟨w.heap.size,j,none⟩=#[Value.int .i64 8,.int .i64 D,.int .i64 A,.int .i64 C,.slice pa p.length cap][j]? :=fun j=>World.cell?_alloc_at _ _ _ _ rfl
 have HX:=aA hx;clear hS h hc hB0 hx hT hD;go_enter Tryz.func45,Tryz.ntmps45;go_wp2_with fail;refine HTX.out.mono ?_;rintro e w1 ⟨rfl,hb1⟩;have HB1:=aA (aC HB0.out hb1)
 have hlt1:w.heap.size<w1.heap.size:=eB (by simp) hb1.size;have hcc:∀j:Nat,w1.cell? ⟨w.heap.size,j,none⟩=#[Value.int .i64 8,.int .i64 D,.int .i64 A,.int .i64 C,.slice pa p.length cap][j]? :=fun j=>(hb1.cell (p:=⟨w.heap.size,j,none⟩) (by simp)).trans (HX.out j)
 have l0:=hcc 0;have l1:=hcc 1
 have l2:=hcc 2;have l3:=hcc 3
 have l4:=hcc 4;simp at l0 l1 l2 l3 l4;have r0:∀j,j<6→w1.cell? ⟨sb,off+j,none⟩=some (.slice (ad j) (ln j) (cp j)):=fun j hj=>(HB1.out.cell (p:=⟨sb,off+j,none⟩) hlt).trans (HC.out j hj)
 have rA:=r0 A hA6;have rC:=r0 C hC6
 have rD:=r0 D hD6;have HS1:=aA (HS.out.below HB1.out)
 have HP1:=aA (HP.out.below HB1.out);clear hb1 hcc r0 HX HTX HB0 HC;have hF:mD w.heap.size sb (A:Int) (C:Int) off A C (.slice (ad A) (ln A) (cp A)) (.slice (ad C) (ln C) (cp C)) w1.drew:=⟨l2,l3,rA,rC⟩
 have HF:=aA hF;clear hF;go_wp2_with fail
 go_region_held3 (fun u=>u.cell? ⟨w.heap.size,2,none⟩=some (.int .i64 (A:Int))∧u.cell? ⟨w.heap.size,3,none⟩=some (.int .i64 (C:Int))∧u.cell? ⟨sb,off+A,none⟩=some (.slice (ad A) (ln A) (cp A))∧u.cell? ⟨sb,off+C,none⟩=some (.slice (ad C) (ln C) (cp C))) (with_reducible exact HF.out) (fail)
 clear HF;have l0:w1.drew.cell? ⟨w.heap.size,0,none⟩=some (.int .i64 8):=l0
 have l1:w1.drew.cell? ⟨w.heap.size,1,none⟩=some (.int .i64 (D:Int)):=l1;have l4:w1.drew.cell? ⟨w.heap.size,4,none⟩=some (.slice pa p.length cap):=l4
 have rD:w1.drew.cell? ⟨sb,off+D,none⟩=some (.slice (ad D) (ln D) (cp D)):=rD;have HB2:=aA HB1.out.drew
 have HS2:=aA (HS1.out.below (aD _ _).drew);have HP2:=aA (HP1.out.below (aD _ _).drew)
 clear HB1 HS1 HP1 l2 l3 rA rC;generalize w1.drew=w2 at *;have HCA:=aA (vS _ _ _ _ _ _ _ _ QR (HS2.out.2.2.2 D hD6) (qG _ _))
 rw[←HR.out]at HCA;go_wp2_with fail;refine HCA.out.mono ?_;rintro e w3 ⟨a',cap',rfl,hb3,ho3⟩;have HB3:=aA (aC HB2.out hb3)
 have HO3:=aA ho3;have hsz3:w.heap.size≤w2.heap.size:=HB2.out.size
 clear hb3 ho3;go_wp2;refine bC (results_tmp2 rfl _ _ _) rfl ?_;exact⟨a',cap',rfl,HB3.out,HO3.out.lower hsz3⟩
theorem OX (k to a b:Int) (sa:Option Addr) (m sc:Nat) (ad:Nat→Option Addr) (ln cp:Nat→Nat) (F:Nat→Nat→T) (pa:Option Addr) (cap:Nat) (p:List T) (w:World) (hS:pT w sa m sc ad ln cp F) (h:Rd w pa p.length cap (lf p)) (hT:Tb w) (hD:Dw w):Calls Tryz.prog 45 #[.slice sa m sc,.agg #[.int .i64 k,.int .i64 to,.int .i64 a,.int .i64 b,.slice pa p.length cap]] w fun r w'=>∃a' cap',r= .returned (.tuple #[.slice a' (aL k to a b p m ln F).1.length cap',.bool (aL k to a b p m ln F).2])∧Below w.heap.size w w'∧iJ w.heap.size w' a' cap' (aL k to a b p m ln F).1:=by
 by_cases hn:m=6∧dW k to a b p.length (lf p)≠[]
 ·obtain⟨rfl,hl⟩:=hn;obtain⟨⟨k1,k8⟩,_⟩:=bE hl;rcases(show k=1∨k=2∨k=3∨k=4∨k=5∨k=6∨k=7∨k=8 by omega)with rfl|rfl|rfl|rfl|rfl|rfl|rfl|rfl
  ·exact SO to a b sa sc ad ln cp F pa cap p w hS h hT hD hl
  ·exact SP to a b sa sc ad ln cp F pa cap p w hS h hT hD hl
  ·exact SQ to a b sa sc ad ln cp F pa cap p w hS h hT hD hl
  ·exact SR to a b sa sc ad ln cp F pa cap p w hS h hT hD hl
  ·exact SS to a b sa sc ad ln cp F pa cap p w hS h hT hD hl
  ·exact ST to a b sa sc ad ln cp F pa cap p w hS h hT hD hl
  ·exact SU to a b sa sc ad ln cp F pa cap p w hS h hT hD hl
  ·exact SV to a b sa sc ad ln cp F pa cap p w hS h hT hD hl
 ·exact OT k to a b sa m sc ad ln cp F pa cap p w hS h hT hD hn
end Go.Proofs.YtkcmamepoplcdaaGreatDoor
