/-
  What a line does (DskDo): the model.
-/
import Derived.Test.YtkcmamepoplcdaaGreatDoorXau
import Derived.Test.YtkcmamepoplcdaaGreatDoorXbn
import Derived.Test.YtkcmamepoplcdaaGreatDoorXbp
set_option maxHeartbeats 4000000
set_option maxRecDepth 100000
namespace Go.Proofs.YtkcmamepoplcdaaGreatDoor
open Go.RowKit Go.Deep Go.Joins
set_option linter.unusedVariables false
set_option linter.unusedSimpArgs false
theorem DZ {P:Program} {w:World} (base:Nat) (t ty e:TypeId) (i:TypeInfo) (size:Nat) (ht:P.underlying t=some (.slice e)) (hi:P.info? e=some i) (v:Value) (n:Nat) (xs:List Value) (hown:w.ownsRow base e size v n xs) (pa:Option Addr) (pc:Nat):(Builtin.append_ #[t,t] ty #[v,.slice pa 0 pc]).run P w= .ok v w:=by
 rcases hown.2 with⟨rfl,rfl⟩|⟨g,cap,cur,rfl,_,_,hnc,_⟩
 ·cases pa<;>simp[Builtin.append_,run_underlying ht,sizeOf,typeInfo,hi,Builtin.lenOf,Builtin.firstCells,loadCells,loadCellsFrom]
 ·cases pa<;>simp[Builtin.append_,run_underlying ht,sizeOf,typeInfo,hi,Builtin.lenOf,Builtin.firstCells,hnc,storeCells,loadCells,loadCellsFrom]
theorem wL {P:Program} {w:World} {ops:Array Oper} {rest:List Oper} {o:Oper} {a:Act} {Q:Exit→Act→World→Prop} (hgd:o.guard=none) (s x:Operand) (t:TypeId) (ho:o.op= .call {callee:=.builtin .append,args:=#[s,x],argTypes:=#[t,t]}) (base:Nat) (e:TypeId) (i:TypeInfo) (size:Nat) (ht:P.underlying t=some (.slice e)) (hi:P.info? e=some i) (v:Value) (n:Nat) (xs:List Value) (hs:a.eval s=v) (hown:w.ownsRow base e size v n xs) (pa:Option Addr) (pc:Nat) (hx:a.eval x= .slice pa 0 pc) (h:wpList P ops Q rest (a.put o.dst v) w):wpList P ops Q (o::rest) a w:=by
 refine wpList_plain hgd fun K hK=>?_;have hrun:=DZ (P:=P) (w:=w) base t o.type e i size ht hi v n xs hown pa pc
 unfold Oper.wp;simp[execOp,ho,resolve,invoke,builtin,hs,hx,hrun,Result.andThen];exact hK _ _ h
theorem OU (k to a b:Int) (sa:Option Addr) (m sc:Nat) (ad:Nat→Option Addr) (ln cp:Nat→Nat) (F:Nat→Nat→T) (pa:Option Addr) (cap:Nat) (p:List T) (w:World) (hS:pT w sa m sc ad ln cp F) (h:Rd w pa p.length cap (lf p)) (hn:¬(m=6∧dW k to a b p.length (lf p)≠[])):Calls Tryz.prog 42 #[.slice sa m sc,.agg #[.int .i64 k,.int .i64 to,.int .i64 a,.int .i64 b,.slice pa p.length cap]] w fun r w'=>∃v,r= .returned (.tuple #[v,.bool (aL k to a b p m ln F).2])∧Below w.heap.size w w'∧w'.ownsRow w.heap.size 79 5 v (aL k to a b p m ln F).1.length (aG (aL k to a b p m ln F).1):=by
 have hB0:=aF w (.cells #[.int .i64 k,.int .i64 to,.int .i64 a,.int .i64 b,.slice pa p.length cap] 24);have HTX:=aA (dM k to a b pa p.length cap (lf p) _ (h.below hB0))
 have hmI:(m:Int)≤140737488351232:=by have:=hS.2.1;omega
 rw[xM hn];have HB0:=aA hB0
 clear hB0 h hS;by_cases h6:m=6
 ·subst h6;have hz:dW k to a b p.length (lf p)=[]:=Classical.byContradiction (fun q=>hn ⟨rfl,q⟩)
  rw[hz]at HTX;clear hz hn;go_enter Tryz.func42,Tryz.ntmps42;go_wp2_with fail;refine HTX.out.mono ?_;rintro e w1 ⟨rfl,hb1⟩;have HB1:=aA (aC HB0.out hb1)
  clear hb1;go_wp2;refine bC (results_tmp2 rfl _ _ _) rfl ?_;exact⟨_,rfl,aC HB1.out (aF _ _),by first|exact aQ _ _ HB1.out.size|(have q:=aQ (w.alloc (.cells #[.int .i64 k,.int .i64 to,.int .i64 a,.int .i64 b,.slice pa p.length cap] 24)) w.heap.size HB1.out.size;rw[World.size_alloc]at q;exact q)⟩
 ·have h6I:¬((m:Int)=6):=by omega
  have h6b:decide ((m:Int)=6)=false:=decide_eq_false h6I;clear hn;go_enter Tryz.func42,Tryz.ntmps42;go_wp2;refine bC (results_tmp2 rfl _ _ _) rfl ?_;exact⟨_,rfl,aC HB0.out (aF _ _),by first|exact aQ _ _ HB0.out.size|(have q:=aQ (w.alloc (.cells #[.int .i64 k,.int .i64 to,.int .i64 a,.int .i64 b,.slice pa p.length cap] 24)) w.heap.size HB0.out.size;rw[World.size_alloc]at q;exact q)⟩
theorem SW (to a b:Int) (sa:Option Addr) (sc:Nat) (ad:Nat→Option Addr) (ln cp:Nat→Nat) (F:Nat→Nat→T) (pa:Option Addr) (cap:Nat) (p:List T) (w:World) (hS:pT w sa 6 sc ad ln cp F) (h:Rd w pa p.length cap (lf p)) (hl:dW 1 to a b p.length (lf p)≠[]):Calls Tryz.prog 42 #[.slice sa 6 sc,.agg #[.int .i64 1,.int .i64 to,.int .i64 a,.int .i64 b,.slice pa p.length cap]] w fun r w'=>∃v,r= .returned (.tuple #[v,.bool (aL 1 to a b p 6 ln F).2])∧Below w.heap.size w w'∧w'.ownsRow w.heap.size 79 5 v (aL 1 to a b p 6 ln F).1.length (aG (aL 1 to a b p 6 ln F).1):=by
 have hB0:=aF w (.cells #[.int .i64 1,.int .i64 to,.int .i64 a,.int .i64 b,.slice pa p.length cap] 24);obtain⟨_,⟨t0,t5⟩,⟨a0,a5⟩,⟨b0,b5⟩,hok⟩:=bE hl;have HTX:=aA (dM 1 to a b pa p.length cap (lf p) _ (h.below hB0))
 have HR:Hid (aL 1 to a b p 6 ln F=(p,true)):=aA (by unfold aL;rw[if_pos ⟨rfl,hl⟩];rfl);obtain⟨R,hRR⟩:∃R,aL 1 to a b p 6 ln F=R:=⟨_,rfl⟩
 rw[hRR]at HR⊢;clear hRR;obtain⟨S,hSS⟩:∃S,dW 1 to a b p.length (lf p)=S:=⟨_,rfl⟩
 rw[hSS]at HTX hl;have hse:S.isEmpty=false:=by cases S<;>simp at hl⊢
 have HOK:=aA hok;clear hSS hl hok;obtain⟨A,rfl⟩:∃A:Nat,a=(A:Int):=⟨a.toNat,by omega⟩
 obtain⟨C,rfl⟩:∃C:Nat,b=(C:Int):=⟨b.toNat,by omega⟩
 obtain⟨D,rfl⟩:∃D:Nat,to=(D:Int):=⟨to.toNat,by omega⟩
 have hA6:A<6:=by omega
 have hC6:C<6:=by omega
 have hD6:D<6:=by omega
 have hAI:(A:Int)<6:=by omega
 have hCI:(C:Int)<6:=by omega
 have hDI:(D:Int)<6:=by omega
 (try simp only[Int.toNat_natCast]at HR)
 clear t0 t5 a0 a5 b0 b5;obtain⟨sb,off,rfl,hlt,hc⟩:=hS.2.2.1.resolve_left (by omega);have HC:=aA hc
 have HS:=aA hS;have HP:=aA h
 have HB0:=aA hB0;have hx:∀j:Nat,(w.alloc (.cells #[.int .i64 1,.int .i64 D,.int .i64 A,.int .i64 C,.slice pa p.length cap] 24)).cell? ⟨w.heap.size,j,none⟩=#[Value.int .i64 1,.int .i64 D,.int .i64 A,.int .i64 C,.slice pa p.length cap][j]? :=fun j=>World.cell?_alloc_at _ _ _ _ rfl
 have HX:=aA hx;clear hS h hc hB0 hx;go_enter Tryz.func42,Tryz.ntmps42;go_wp2_with fail;refine HTX.out.mono ?_;rintro e w1 ⟨rfl,hb1⟩;have HB1:=aA (aC HB0.out hb1)
 have hlt1:w.heap.size<w1.heap.size:=eB (by simp) hb1.size;have hcc:∀j:Nat,w1.cell? ⟨w.heap.size,j,none⟩=#[Value.int .i64 1,.int .i64 D,.int .i64 A,.int .i64 C,.slice pa p.length cap][j]? :=fun j=>(hb1.cell (p:=⟨w.heap.size,j,none⟩) (by simp)).trans (HX.out j)
 have l0:=hcc 0;have l1:=hcc 1
 have l2:=hcc 2;have l3:=hcc 3
 have l4:=hcc 4;simp at l0 l1 l2 l3 l4;have r0:∀j,j<6→w1.cell? ⟨sb,off+j,none⟩=some (.slice (ad j) (ln j) (cp j)):=fun j hj=>(HB1.out.cell (p:=⟨sb,off+j,none⟩) hlt).trans (HC.out j hj)
 have rA:=r0 A hA6;have rC:=r0 C hC6
 have rD:=r0 D hD6;have HS1:=aA (HS.out.below HB1.out)
 have HP1:=aA (HP.out.below HB1.out);clear hb1 hcc r0 HX HTX HB0 HC;have hF:mD w.heap.size sb (A:Int) (C:Int) off A C (.slice (ad A) (ln A) (cp A)) (.slice (ad C) (ln C) (cp C)) w1.drew:=⟨l2,l3,rA,rC⟩
 have HF:=aA hF;clear hF;go_wp2_with fail
 go_region_held3 (fun u=>u.cell? ⟨w.heap.size,2,none⟩=some (.int .i64 (A:Int))∧u.cell? ⟨w.heap.size,3,none⟩=some (.int .i64 (C:Int))∧u.cell? ⟨sb,off+A,none⟩=some (.slice (ad A) (ln A) (cp A))∧u.cell? ⟨sb,off+C,none⟩=some (.slice (ad C) (ln C) (cp C))) (with_reducible exact HF.out) (fail)
 clear HF;have l0:w1.drew.cell? ⟨w.heap.size,0,none⟩=some (.int .i64 1):=l0
 have l1:w1.drew.cell? ⟨w.heap.size,1,none⟩=some (.int .i64 (D:Int)):=l1;have l4:w1.drew.cell? ⟨w.heap.size,4,none⟩=some (.slice pa p.length cap):=l4
 have rD:w1.drew.cell? ⟨sb,off+D,none⟩=some (.slice (ad D) (ln D) (cp D)):=rD;have HB2:=aA HB1.out.drew
 have HS2:=aA (HS1.out.below (aD _ _).drew);have HP2:=aA (HP1.out.below (aD _ _).drew)
 clear HB1 HS1 HP1 l2 l3 rA rC;generalize w1.drew=w2 at *;obtain⟨i0,hi0,hz0,hz1,hz2⟩:=info_parts xZ;have hm:p.length≤400:=(cJ HOK.out).1
 have hO0:(w2.alloc (.cells #[] 79)).ownsRow w.heap.size 79 5 (.slice (some ⟨w2.heap.size,0,none⟩) 0 0) 0 (aG []):=aQ w2 w.heap.size HB2.out.size;have hP3:=HP2.out.below (aF w2 (.cells #[] 79))
 have hB3:Below w.heap.size w (w2.alloc (.cells #[] 79)):=aC HB2.out (aF w2 _);have HB3:=aA hB3
 have l5:(w2.alloc (.cells #[] 79)).cell? ⟨w.heap.size,4,none⟩=some (.slice pa p.length cap):=((aF w2 (.cells #[] 79)).cell (p:=⟨w.heap.size,4,none⟩) (EU _ _ l4)).trans l4;by_cases h0:p=[]
 ·subst h0;have HO3:=aA hO0
  clear hO0 hP3 hB3;go_wp2_with (at_builtin;refine wL rfl (.tmp 31) (.tmp 33) 22 rfl w.heap.size 79 i0 5 Tryz.underlying22 hi0 _ 0 (aG []) rfl HO3.out pa cap rfl ?_);refine bC (results_tmp2 rfl _ _ _) rfl ?_;rw[HR.out];exact⟨_,rfl,HB3.out,HO3.out⟩
 ·have hlen:0<p.length:=List.length_pos_iff.2 h0;obtain⟨b,of2,hpe,hblt,hcl⟩:=hP3.2.2.resolve_left (by omega);subst hpe;have HN:=aA (KN hP3)
  have hsz:w.heap.size≤(w2.alloc (.cells #[] 79)).heap.size:=hB3.size;have hPI:(p.length:Int)≤400:=by omega
  clear hcl hP3 hB3;go_wp2_with (at_builtin;refine wpList_append_lies _ rfl (.tmp 31) (.tmp 33) 22 rfl w.heap.size 79 i0 _ 5 40 Tryz.underlying22 hi0 hz0 hz1 hz2 rfl (by omega) _ 0 (aG []) rfl hO0 ⟨b,of2,none⟩ p.length cap (aG p) rfl (by simp[bL]) HN.out (CT p) (by omega) (by unfold maxLen;omega) (by omega) hsz _ rfl ?_;intro g0 cap0 w9 hown1 hgrow hat hlt9);have HB9:=aA (HB3.out.grown hgrow HB3.out.size (fun k hk=>(hO0.lt k hk).1))
  have HO9:=aA hown1;clear hown1 hgrow hat hlt9 hO0;refine bC (results_tmp2 rfl _ _ _) rfl ?_;have h5:=HO9.out
  rw[show aG []++aG p=aG p from rfl,Nat.zero_add]at h5;rw[HR.out];exact⟨_,by simp,HB9.out,h5⟩
theorem SX (to a b:Int) (sa:Option Addr) (sc:Nat) (ad:Nat→Option Addr) (ln cp:Nat→Nat) (F:Nat→Nat→T) (pa:Option Addr) (cap:Nat) (p:List T) (w:World) (hS:pT w sa 6 sc ad ln cp F) (h:Rd w pa p.length cap (lf p)) (hl:dW 2 to a b p.length (lf p)≠[]):Calls Tryz.prog 42 #[.slice sa 6 sc,.agg #[.int .i64 2,.int .i64 to,.int .i64 a,.int .i64 b,.slice pa p.length cap]] w fun r w'=>∃v,r= .returned (.tuple #[v,.bool (aL 2 to a b p 6 ln F).2])∧Below w.heap.size w w'∧w'.ownsRow w.heap.size 79 5 v (aL 2 to a b p 6 ln F).1.length (aG (aL 2 to a b p 6 ln F).1):=by
 have hB0:=aF w (.cells #[.int .i64 2,.int .i64 to,.int .i64 a,.int .i64 b,.slice pa p.length cap] 24);obtain⟨_,⟨t0,t5⟩,⟨a0,a5⟩,⟨b0,b5⟩,hok⟩:=bE hl;have HTX:=aA (dM 2 to a b pa p.length cap (lf p) _ (h.below hB0))
 have HR:Hid (aL 2 to a b p 6 ln F=cH (F a.toNat) (ln a.toNat) (F b.toNat) (ln b.toNat)):=aA (by unfold aL;rw[if_pos ⟨rfl,hl⟩];rfl);obtain⟨R,hRR⟩:∃R,aL 2 to a b p 6 ln F=R:=⟨_,rfl⟩
 rw[hRR]at HR⊢;clear hRR;obtain⟨S,hSS⟩:∃S,dW 2 to a b p.length (lf p)=S:=⟨_,rfl⟩
 rw[hSS]at HTX hl;have hse:S.isEmpty=false:=by cases S<;>simp at hl⊢
 have HOK:=aA hok;clear hSS hl hok;obtain⟨A,rfl⟩:∃A:Nat,a=(A:Int):=⟨a.toNat,by omega⟩
 obtain⟨C,rfl⟩:∃C:Nat,b=(C:Int):=⟨b.toNat,by omega⟩
 obtain⟨D,rfl⟩:∃D:Nat,to=(D:Int):=⟨to.toNat,by omega⟩
 have hA6:A<6:=by omega
 have hC6:C<6:=by omega
 have hD6:D<6:=by omega
 have hAI:(A:Int)<6:=by omega
 have hCI:(C:Int)<6:=by omega
 have hDI:(D:Int)<6:=by omega
 (try simp only[Int.toNat_natCast]at HR)
 clear t0 t5 a0 a5 b0 b5;obtain⟨sb,off,rfl,hlt,hc⟩:=hS.2.2.1.resolve_left (by omega);have HC:=aA hc
 have HS:=aA hS;have HP:=aA h
 have HB0:=aA hB0;have hx:∀j:Nat,(w.alloc (.cells #[.int .i64 2,.int .i64 D,.int .i64 A,.int .i64 C,.slice pa p.length cap] 24)).cell? ⟨w.heap.size,j,none⟩=#[Value.int .i64 2,.int .i64 D,.int .i64 A,.int .i64 C,.slice pa p.length cap][j]? :=fun j=>World.cell?_alloc_at _ _ _ _ rfl
 have HX:=aA hx;clear hS h hc hB0 hx;go_enter Tryz.func42,Tryz.ntmps42;go_wp2_with fail;refine HTX.out.mono ?_;rintro e w1 ⟨rfl,hb1⟩;have HB1:=aA (aC HB0.out hb1)
 have hlt1:w.heap.size<w1.heap.size:=eB (by simp) hb1.size;have hcc:∀j:Nat,w1.cell? ⟨w.heap.size,j,none⟩=#[Value.int .i64 2,.int .i64 D,.int .i64 A,.int .i64 C,.slice pa p.length cap][j]? :=fun j=>(hb1.cell (p:=⟨w.heap.size,j,none⟩) (by simp)).trans (HX.out j)
 have l0:=hcc 0;have l1:=hcc 1
 have l2:=hcc 2;have l3:=hcc 3
 have l4:=hcc 4;simp at l0 l1 l2 l3 l4;have r0:∀j,j<6→w1.cell? ⟨sb,off+j,none⟩=some (.slice (ad j) (ln j) (cp j)):=fun j hj=>(HB1.out.cell (p:=⟨sb,off+j,none⟩) hlt).trans (HC.out j hj)
 have rA:=r0 A hA6;have rC:=r0 C hC6
 have rD:=r0 D hD6;have HS1:=aA (HS.out.below HB1.out)
 have HP1:=aA (HP.out.below HB1.out);clear hb1 hcc r0 HX HTX HB0 HC;have hF:mD w.heap.size sb (A:Int) (C:Int) off A C (.slice (ad A) (ln A) (cp A)) (.slice (ad C) (ln C) (cp C)) w1.drew:=⟨l2,l3,rA,rC⟩
 have HF:=aA hF;clear hF;go_wp2_with fail
 go_region_held3 (fun u=>u.cell? ⟨w.heap.size,2,none⟩=some (.int .i64 (A:Int))∧u.cell? ⟨w.heap.size,3,none⟩=some (.int .i64 (C:Int))∧u.cell? ⟨sb,off+A,none⟩=some (.slice (ad A) (ln A) (cp A))∧u.cell? ⟨sb,off+C,none⟩=some (.slice (ad C) (ln C) (cp C))) (with_reducible exact HF.out) (fail)
 clear HF;have l0:w1.drew.cell? ⟨w.heap.size,0,none⟩=some (.int .i64 2):=l0
 have l1:w1.drew.cell? ⟨w.heap.size,1,none⟩=some (.int .i64 (D:Int)):=l1;have l4:w1.drew.cell? ⟨w.heap.size,4,none⟩=some (.slice pa p.length cap):=l4
 have rD:w1.drew.cell? ⟨sb,off+D,none⟩=some (.slice (ad D) (ln D) (cp D)):=rD;have HB2:=aA HB1.out.drew
 have HS2:=aA (HS1.out.below (aD _ _).drew);have HP2:=aA (HP1.out.below (aD _ _).drew)
 clear HB1 HS1 HP1 l2 l3 rA rC;generalize w1.drew=w2 at *;have HCA:=aA (BZ _ _ _ _ _ _ _ _ _ (HS2.out.2.2.2 A hA6) (HS2.out.2.2.2 C hC6))
 rw[←HR.out]at HCA;go_wp2_with fail;refine HCA.out.mono ?_;rintro e w3 ⟨v,rfl,hb3,ho3⟩;have HB3:=aA (aC HB2.out hb3)
 have HO3:=aA ho3;have hsz3:w.heap.size≤w2.heap.size:=HB2.out.size
 clear hb3 ho3;go_wp2;refine bC (results_tmp2 rfl _ _ _) rfl ?_;exact⟨v,rfl,HB3.out,bO HO3.out hsz3⟩
theorem SY (to a b:Int) (sa:Option Addr) (sc:Nat) (ad:Nat→Option Addr) (ln cp:Nat→Nat) (F:Nat→Nat→T) (pa:Option Addr) (cap:Nat) (p:List T) (w:World) (hS:pT w sa 6 sc ad ln cp F) (h:Rd w pa p.length cap (lf p)) (hl:dW 3 to a b p.length (lf p)≠[]):Calls Tryz.prog 42 #[.slice sa 6 sc,.agg #[.int .i64 3,.int .i64 to,.int .i64 a,.int .i64 b,.slice pa p.length cap]] w fun r w'=>∃v,r= .returned (.tuple #[v,.bool (aL 3 to a b p 6 ln F).2])∧Below w.heap.size w w'∧w'.ownsRow w.heap.size 79 5 v (aL 3 to a b p 6 ln F).1.length (aG (aL 3 to a b p 6 ln F).1):=by
 have hB0:=aF w (.cells #[.int .i64 3,.int .i64 to,.int .i64 a,.int .i64 b,.slice pa p.length cap] 24);obtain⟨_,⟨t0,t5⟩,⟨a0,a5⟩,⟨b0,b5⟩,hok⟩:=bE hl;have HTX:=aA (dM 3 to a b pa p.length cap (lf p) _ (h.below hB0))
 have HR:Hid (aL 3 to a b p 6 ln F=aW (F a.toNat) (ln a.toNat) (F b.toNat) (ln b.toNat)):=aA (by unfold aL;rw[if_pos ⟨rfl,hl⟩];rfl);obtain⟨R,hRR⟩:∃R,aL 3 to a b p 6 ln F=R:=⟨_,rfl⟩
 rw[hRR]at HR⊢;clear hRR;obtain⟨S,hSS⟩:∃S,dW 3 to a b p.length (lf p)=S:=⟨_,rfl⟩
 rw[hSS]at HTX hl;have hse:S.isEmpty=false:=by cases S<;>simp at hl⊢
 have HOK:=aA hok;clear hSS hl hok;obtain⟨A,rfl⟩:∃A:Nat,a=(A:Int):=⟨a.toNat,by omega⟩
 obtain⟨C,rfl⟩:∃C:Nat,b=(C:Int):=⟨b.toNat,by omega⟩
 obtain⟨D,rfl⟩:∃D:Nat,to=(D:Int):=⟨to.toNat,by omega⟩
 have hA6:A<6:=by omega
 have hC6:C<6:=by omega
 have hD6:D<6:=by omega
 have hAI:(A:Int)<6:=by omega
 have hCI:(C:Int)<6:=by omega
 have hDI:(D:Int)<6:=by omega
 (try simp only[Int.toNat_natCast]at HR)
 clear t0 t5 a0 a5 b0 b5;obtain⟨sb,off,rfl,hlt,hc⟩:=hS.2.2.1.resolve_left (by omega);have HC:=aA hc
 have HS:=aA hS;have HP:=aA h
 have HB0:=aA hB0;have hx:∀j:Nat,(w.alloc (.cells #[.int .i64 3,.int .i64 D,.int .i64 A,.int .i64 C,.slice pa p.length cap] 24)).cell? ⟨w.heap.size,j,none⟩=#[Value.int .i64 3,.int .i64 D,.int .i64 A,.int .i64 C,.slice pa p.length cap][j]? :=fun j=>World.cell?_alloc_at _ _ _ _ rfl
 have HX:=aA hx;clear hS h hc hB0 hx;go_enter Tryz.func42,Tryz.ntmps42;go_wp2_with fail;refine HTX.out.mono ?_;rintro e w1 ⟨rfl,hb1⟩;have HB1:=aA (aC HB0.out hb1)
 have hlt1:w.heap.size<w1.heap.size:=eB (by simp) hb1.size;have hcc:∀j:Nat,w1.cell? ⟨w.heap.size,j,none⟩=#[Value.int .i64 3,.int .i64 D,.int .i64 A,.int .i64 C,.slice pa p.length cap][j]? :=fun j=>(hb1.cell (p:=⟨w.heap.size,j,none⟩) (by simp)).trans (HX.out j)
 have l0:=hcc 0;have l1:=hcc 1
 have l2:=hcc 2;have l3:=hcc 3
 have l4:=hcc 4;simp at l0 l1 l2 l3 l4;have r0:∀j,j<6→w1.cell? ⟨sb,off+j,none⟩=some (.slice (ad j) (ln j) (cp j)):=fun j hj=>(HB1.out.cell (p:=⟨sb,off+j,none⟩) hlt).trans (HC.out j hj)
 have rA:=r0 A hA6;have rC:=r0 C hC6
 have rD:=r0 D hD6;have HS1:=aA (HS.out.below HB1.out)
 have HP1:=aA (HP.out.below HB1.out);clear hb1 hcc r0 HX HTX HB0 HC;have hF:mD w.heap.size sb (A:Int) (C:Int) off A C (.slice (ad A) (ln A) (cp A)) (.slice (ad C) (ln C) (cp C)) w1.drew:=⟨l2,l3,rA,rC⟩
 have HF:=aA hF;clear hF;go_wp2_with fail
 go_region_held3 (fun u=>u.cell? ⟨w.heap.size,2,none⟩=some (.int .i64 (A:Int))∧u.cell? ⟨w.heap.size,3,none⟩=some (.int .i64 (C:Int))∧u.cell? ⟨sb,off+A,none⟩=some (.slice (ad A) (ln A) (cp A))∧u.cell? ⟨sb,off+C,none⟩=some (.slice (ad C) (ln C) (cp C))) (with_reducible exact HF.out) (fail)
 clear HF;have l0:w1.drew.cell? ⟨w.heap.size,0,none⟩=some (.int .i64 3):=l0
 have l1:w1.drew.cell? ⟨w.heap.size,1,none⟩=some (.int .i64 (D:Int)):=l1;have l4:w1.drew.cell? ⟨w.heap.size,4,none⟩=some (.slice pa p.length cap):=l4
 have rD:w1.drew.cell? ⟨sb,off+D,none⟩=some (.slice (ad D) (ln D) (cp D)):=rD;have HB2:=aA HB1.out.drew
 have HS2:=aA (HS1.out.below (aD _ _).drew);have HP2:=aA (HP1.out.below (aD _ _).drew)
 clear HB1 HS1 HP1 l2 l3 rA rC;generalize w1.drew=w2 at *;have HCA:=aA (NO _ _ _ _ _ _ _ _ _ (HS2.out.2.2.2 A hA6) (HS2.out.2.2.2 C hC6))
 rw[←HR.out]at HCA;go_wp2_with fail;refine HCA.out.mono ?_;rintro e w3 ⟨v,rfl,hb3,ho3⟩;have HB3:=aA (aC HB2.out hb3)
 have HO3:=aA ho3;have hsz3:w.heap.size≤w2.heap.size:=HB2.out.size
 clear hb3 ho3;go_wp2;refine bC (results_tmp2 rfl _ _ _) rfl ?_;exact⟨v,rfl,HB3.out,bO HO3.out hsz3⟩
theorem SZ (to a b:Int) (sa:Option Addr) (sc:Nat) (ad:Nat→Option Addr) (ln cp:Nat→Nat) (F:Nat→Nat→T) (pa:Option Addr) (cap:Nat) (p:List T) (w:World) (hS:pT w sa 6 sc ad ln cp F) (h:Rd w pa p.length cap (lf p)) (hl:dW 4 to a b p.length (lf p)≠[]):Calls Tryz.prog 42 #[.slice sa 6 sc,.agg #[.int .i64 4,.int .i64 to,.int .i64 a,.int .i64 b,.slice pa p.length cap]] w fun r w'=>∃v,r= .returned (.tuple #[v,.bool (aL 4 to a b p 6 ln F).2])∧Below w.heap.size w w'∧w'.ownsRow w.heap.size 79 5 v (aL 4 to a b p 6 ln F).1.length (aG (aL 4 to a b p 6 ln F).1):=by
 have hB0:=aF w (.cells #[.int .i64 4,.int .i64 to,.int .i64 a,.int .i64 b,.slice pa p.length cap] 24);obtain⟨_,⟨t0,t5⟩,⟨a0,a5⟩,⟨b0,b5⟩,hok⟩:=bE hl;have HTX:=aA (dM 4 to a b pa p.length cap (lf p) _ (h.below hB0))
 have HR:Hid (aL 4 to a b p 6 ln F=cK (F a.toNat) (ln a.toNat) (F b.toNat) (ln b.toNat)):=aA (by unfold aL;rw[if_pos ⟨rfl,hl⟩];rfl);obtain⟨R,hRR⟩:∃R,aL 4 to a b p 6 ln F=R:=⟨_,rfl⟩
 rw[hRR]at HR⊢;clear hRR;obtain⟨S,hSS⟩:∃S,dW 4 to a b p.length (lf p)=S:=⟨_,rfl⟩
 rw[hSS]at HTX hl;have hse:S.isEmpty=false:=by cases S<;>simp at hl⊢
 have HOK:=aA hok;clear hSS hl hok;obtain⟨A,rfl⟩:∃A:Nat,a=(A:Int):=⟨a.toNat,by omega⟩
 obtain⟨C,rfl⟩:∃C:Nat,b=(C:Int):=⟨b.toNat,by omega⟩
 obtain⟨D,rfl⟩:∃D:Nat,to=(D:Int):=⟨to.toNat,by omega⟩
 have hA6:A<6:=by omega
 have hC6:C<6:=by omega
 have hD6:D<6:=by omega
 have hAI:(A:Int)<6:=by omega
 have hCI:(C:Int)<6:=by omega
 have hDI:(D:Int)<6:=by omega
 (try simp only[Int.toNat_natCast]at HR)
 clear t0 t5 a0 a5 b0 b5;obtain⟨sb,off,rfl,hlt,hc⟩:=hS.2.2.1.resolve_left (by omega);have HC:=aA hc
 have HS:=aA hS;have HP:=aA h
 have HB0:=aA hB0;have hx:∀j:Nat,(w.alloc (.cells #[.int .i64 4,.int .i64 D,.int .i64 A,.int .i64 C,.slice pa p.length cap] 24)).cell? ⟨w.heap.size,j,none⟩=#[Value.int .i64 4,.int .i64 D,.int .i64 A,.int .i64 C,.slice pa p.length cap][j]? :=fun j=>World.cell?_alloc_at _ _ _ _ rfl
 have HX:=aA hx;clear hS h hc hB0 hx;go_enter Tryz.func42,Tryz.ntmps42;go_wp2_with fail;refine HTX.out.mono ?_;rintro e w1 ⟨rfl,hb1⟩;have HB1:=aA (aC HB0.out hb1)
 have hlt1:w.heap.size<w1.heap.size:=eB (by simp) hb1.size;have hcc:∀j:Nat,w1.cell? ⟨w.heap.size,j,none⟩=#[Value.int .i64 4,.int .i64 D,.int .i64 A,.int .i64 C,.slice pa p.length cap][j]? :=fun j=>(hb1.cell (p:=⟨w.heap.size,j,none⟩) (by simp)).trans (HX.out j)
 have l0:=hcc 0;have l1:=hcc 1
 have l2:=hcc 2;have l3:=hcc 3
 have l4:=hcc 4;simp at l0 l1 l2 l3 l4;have r0:∀j,j<6→w1.cell? ⟨sb,off+j,none⟩=some (.slice (ad j) (ln j) (cp j)):=fun j hj=>(HB1.out.cell (p:=⟨sb,off+j,none⟩) hlt).trans (HC.out j hj)
 have rA:=r0 A hA6;have rC:=r0 C hC6
 have rD:=r0 D hD6;have HS1:=aA (HS.out.below HB1.out)
 have HP1:=aA (HP.out.below HB1.out);clear hb1 hcc r0 HX HTX HB0 HC;have hF:mD w.heap.size sb (A:Int) (C:Int) off A C (.slice (ad A) (ln A) (cp A)) (.slice (ad C) (ln C) (cp C)) w1.drew:=⟨l2,l3,rA,rC⟩
 have HF:=aA hF;clear hF;go_wp2_with fail
 go_region_held3 (fun u=>u.cell? ⟨w.heap.size,2,none⟩=some (.int .i64 (A:Int))∧u.cell? ⟨w.heap.size,3,none⟩=some (.int .i64 (C:Int))∧u.cell? ⟨sb,off+A,none⟩=some (.slice (ad A) (ln A) (cp A))∧u.cell? ⟨sb,off+C,none⟩=some (.slice (ad C) (ln C) (cp C))) (with_reducible exact HF.out) (fail)
 clear HF;have l0:w1.drew.cell? ⟨w.heap.size,0,none⟩=some (.int .i64 4):=l0
 have l1:w1.drew.cell? ⟨w.heap.size,1,none⟩=some (.int .i64 (D:Int)):=l1;have l4:w1.drew.cell? ⟨w.heap.size,4,none⟩=some (.slice pa p.length cap):=l4
 have rD:w1.drew.cell? ⟨sb,off+D,none⟩=some (.slice (ad D) (ln D) (cp D)):=rD;have HB2:=aA HB1.out.drew
 have HS2:=aA (HS1.out.below (aD _ _).drew);have HP2:=aA (HP1.out.below (aD _ _).drew)
 clear HB1 HS1 HP1 l2 l3 rA rC;generalize w1.drew=w2 at *;have HCA:=aA (EM _ _ _ _ _ _ _ _ _ (HS2.out.2.2.2 A hA6) (HS2.out.2.2.2 C hC6))
 rw[←HR.out]at HCA;go_wp2_with fail;refine HCA.out.mono ?_;rintro e w3 ⟨v,rfl,hb3,ho3⟩;have HB3:=aA (aC HB2.out hb3)
 have HO3:=aA ho3;have hsz3:w.heap.size≤w2.heap.size:=HB2.out.size
 clear hb3 ho3;go_wp2;refine bC (results_tmp2 rfl _ _ _) rfl ?_;exact⟨v,rfl,HB3.out,bO HO3.out hsz3⟩
theorem TA (to a b:Int) (sa:Option Addr) (sc:Nat) (ad:Nat→Option Addr) (ln cp:Nat→Nat) (F:Nat→Nat→T) (pa:Option Addr) (cap:Nat) (p:List T) (w:World) (hS:pT w sa 6 sc ad ln cp F) (h:Rd w pa p.length cap (lf p)) (hl:dW 5 to a b p.length (lf p)≠[]):Calls Tryz.prog 42 #[.slice sa 6 sc,.agg #[.int .i64 5,.int .i64 to,.int .i64 a,.int .i64 b,.slice pa p.length cap]] w fun r w'=>∃v,r= .returned (.tuple #[v,.bool (aL 5 to a b p 6 ln F).2])∧Below w.heap.size w w'∧w'.ownsRow w.heap.size 79 5 v (aL 5 to a b p 6 ln F).1.length (aG (aL 5 to a b p 6 ln F).1):=by
 have hB0:=aF w (.cells #[.int .i64 5,.int .i64 to,.int .i64 a,.int .i64 b,.slice pa p.length cap] 24);obtain⟨_,⟨t0,t5⟩,⟨a0,a5⟩,⟨b0,b5⟩,hok⟩:=bE hl;have HTX:=aA (dM 5 to a b pa p.length cap (lf p) _ (h.below hB0))
 have HR:Hid (aL 5 to a b p 6 ln F=fG (F a.toNat) (ln a.toNat) (F b.toNat) (ln b.toNat)):=aA (by unfold aL;rw[if_pos ⟨rfl,hl⟩];rfl);obtain⟨R,hRR⟩:∃R,aL 5 to a b p 6 ln F=R:=⟨_,rfl⟩
 rw[hRR]at HR⊢;clear hRR;obtain⟨S,hSS⟩:∃S,dW 5 to a b p.length (lf p)=S:=⟨_,rfl⟩
 rw[hSS]at HTX hl;have hse:S.isEmpty=false:=by cases S<;>simp at hl⊢
 have HOK:=aA hok;clear hSS hl hok;obtain⟨A,rfl⟩:∃A:Nat,a=(A:Int):=⟨a.toNat,by omega⟩
 obtain⟨C,rfl⟩:∃C:Nat,b=(C:Int):=⟨b.toNat,by omega⟩
 obtain⟨D,rfl⟩:∃D:Nat,to=(D:Int):=⟨to.toNat,by omega⟩
 have hA6:A<6:=by omega
 have hC6:C<6:=by omega
 have hD6:D<6:=by omega
 have hAI:(A:Int)<6:=by omega
 have hCI:(C:Int)<6:=by omega
 have hDI:(D:Int)<6:=by omega
 (try simp only[Int.toNat_natCast]at HR)
 clear t0 t5 a0 a5 b0 b5;obtain⟨sb,off,rfl,hlt,hc⟩:=hS.2.2.1.resolve_left (by omega);have HC:=aA hc
 have HS:=aA hS;have HP:=aA h
 have HB0:=aA hB0;have hx:∀j:Nat,(w.alloc (.cells #[.int .i64 5,.int .i64 D,.int .i64 A,.int .i64 C,.slice pa p.length cap] 24)).cell? ⟨w.heap.size,j,none⟩=#[Value.int .i64 5,.int .i64 D,.int .i64 A,.int .i64 C,.slice pa p.length cap][j]? :=fun j=>World.cell?_alloc_at _ _ _ _ rfl
 have HX:=aA hx;clear hS h hc hB0 hx;go_enter Tryz.func42,Tryz.ntmps42;go_wp2_with fail;refine HTX.out.mono ?_;rintro e w1 ⟨rfl,hb1⟩;have HB1:=aA (aC HB0.out hb1)
 have hlt1:w.heap.size<w1.heap.size:=eB (by simp) hb1.size;have hcc:∀j:Nat,w1.cell? ⟨w.heap.size,j,none⟩=#[Value.int .i64 5,.int .i64 D,.int .i64 A,.int .i64 C,.slice pa p.length cap][j]? :=fun j=>(hb1.cell (p:=⟨w.heap.size,j,none⟩) (by simp)).trans (HX.out j)
 have l0:=hcc 0;have l1:=hcc 1
 have l2:=hcc 2;have l3:=hcc 3
 have l4:=hcc 4;simp at l0 l1 l2 l3 l4;have r0:∀j,j<6→w1.cell? ⟨sb,off+j,none⟩=some (.slice (ad j) (ln j) (cp j)):=fun j hj=>(HB1.out.cell (p:=⟨sb,off+j,none⟩) hlt).trans (HC.out j hj)
 have rA:=r0 A hA6;have rC:=r0 C hC6
 have rD:=r0 D hD6;have HS1:=aA (HS.out.below HB1.out)
 have HP1:=aA (HP.out.below HB1.out);clear hb1 hcc r0 HX HTX HB0 HC;have hF:mD w.heap.size sb (A:Int) (C:Int) off A C (.slice (ad A) (ln A) (cp A)) (.slice (ad C) (ln C) (cp C)) w1.drew:=⟨l2,l3,rA,rC⟩
 have HF:=aA hF;clear hF;go_wp2_with fail
 go_region_held3 (fun u=>u.cell? ⟨w.heap.size,2,none⟩=some (.int .i64 (A:Int))∧u.cell? ⟨w.heap.size,3,none⟩=some (.int .i64 (C:Int))∧u.cell? ⟨sb,off+A,none⟩=some (.slice (ad A) (ln A) (cp A))∧u.cell? ⟨sb,off+C,none⟩=some (.slice (ad C) (ln C) (cp C))) (with_reducible exact HF.out) (fail)
 clear HF;have l0:w1.drew.cell? ⟨w.heap.size,0,none⟩=some (.int .i64 5):=l0
 have l1:w1.drew.cell? ⟨w.heap.size,1,none⟩=some (.int .i64 (D:Int)):=l1;have l4:w1.drew.cell? ⟨w.heap.size,4,none⟩=some (.slice pa p.length cap):=l4
 have rD:w1.drew.cell? ⟨sb,off+D,none⟩=some (.slice (ad D) (ln D) (cp D)):=rD;have HB2:=aA HB1.out.drew
 have HS2:=aA (HS1.out.below (aD _ _).drew);have HP2:=aA (HP1.out.below (aD _ _).drew)
 clear HB1 HS1 HP1 l2 l3 rA rC;generalize w1.drew=w2 at *;have HCA:=aA (QM _ _ _ _ _ _ _ _ _ (HS2.out.2.2.2 A hA6) (HS2.out.2.2.2 C hC6))
 rw[←HR.out]at HCA;go_wp2_with fail;refine HCA.out.mono ?_;rintro e w3 ⟨v,rfl,hb3,ho3⟩;have HB3:=aA (aC HB2.out hb3)
 have HO3:=aA ho3;have hsz3:w.heap.size≤w2.heap.size:=HB2.out.size
 clear hb3 ho3;go_wp2;refine bC (results_tmp2 rfl _ _ _) rfl ?_;exact⟨v,rfl,HB3.out,bO HO3.out hsz3⟩
theorem TB (to a b:Int) (sa:Option Addr) (sc:Nat) (ad:Nat→Option Addr) (ln cp:Nat→Nat) (F:Nat→Nat→T) (pa:Option Addr) (cap:Nat) (p:List T) (w:World) (hS:pT w sa 6 sc ad ln cp F) (h:Rd w pa p.length cap (lf p)) (hl:dW 6 to a b p.length (lf p)≠[]):Calls Tryz.prog 42 #[.slice sa 6 sc,.agg #[.int .i64 6,.int .i64 to,.int .i64 a,.int .i64 b,.slice pa p.length cap]] w fun r w'=>∃v,r= .returned (.tuple #[v,.bool (aL 6 to a b p 6 ln F).2])∧Below w.heap.size w w'∧w'.ownsRow w.heap.size 79 5 v (aL 6 to a b p 6 ln F).1.length (aG (aL 6 to a b p 6 ln F).1):=by
 have hB0:=aF w (.cells #[.int .i64 6,.int .i64 to,.int .i64 a,.int .i64 b,.slice pa p.length cap] 24);obtain⟨_,⟨t0,t5⟩,⟨a0,a5⟩,⟨b0,b5⟩,hok⟩:=bE hl;have HTX:=aA (dM 6 to a b pa p.length cap (lf p) _ (h.below hB0))
 have HR:Hid (aL 6 to a b p 6 ln F=cB (F a.toNat) (ln a.toNat)):=aA (by unfold aL;rw[if_pos ⟨rfl,hl⟩];rfl);obtain⟨R,hRR⟩:∃R,aL 6 to a b p 6 ln F=R:=⟨_,rfl⟩
 rw[hRR]at HR⊢;clear hRR;obtain⟨S,hSS⟩:∃S,dW 6 to a b p.length (lf p)=S:=⟨_,rfl⟩
 rw[hSS]at HTX hl;have hse:S.isEmpty=false:=by cases S<;>simp at hl⊢
 have HOK:=aA hok;clear hSS hl hok;obtain⟨A,rfl⟩:∃A:Nat,a=(A:Int):=⟨a.toNat,by omega⟩
 obtain⟨C,rfl⟩:∃C:Nat,b=(C:Int):=⟨b.toNat,by omega⟩
 obtain⟨D,rfl⟩:∃D:Nat,to=(D:Int):=⟨to.toNat,by omega⟩
 have hA6:A<6:=by omega
 have hC6:C<6:=by omega
 have hD6:D<6:=by omega
 have hAI:(A:Int)<6:=by omega
 have hCI:(C:Int)<6:=by omega
 have hDI:(D:Int)<6:=by omega
 (try simp only[Int.toNat_natCast]at HR)
 clear t0 t5 a0 a5 b0 b5;obtain⟨sb,off,rfl,hlt,hc⟩:=hS.2.2.1.resolve_left (by omega);have HC:=aA hc
 have HS:=aA hS;have HP:=aA h
 have HB0:=aA hB0;have hx:∀j:Nat,(w.alloc (.cells #[.int .i64 6,.int .i64 D,.int .i64 A,.int .i64 C,.slice pa p.length cap] 24)).cell? ⟨w.heap.size,j,none⟩=#[Value.int .i64 6,.int .i64 D,.int .i64 A,.int .i64 C,.slice pa p.length cap][j]? :=fun j=>World.cell?_alloc_at _ _ _ _ rfl
 have HX:=aA hx;clear hS h hc hB0 hx;go_enter Tryz.func42,Tryz.ntmps42;go_wp2_with fail;refine HTX.out.mono ?_;rintro e w1 ⟨rfl,hb1⟩;have HB1:=aA (aC HB0.out hb1)
 have hlt1:w.heap.size<w1.heap.size:=eB (by simp) hb1.size;have hcc:∀j:Nat,w1.cell? ⟨w.heap.size,j,none⟩=#[Value.int .i64 6,.int .i64 D,.int .i64 A,.int .i64 C,.slice pa p.length cap][j]? :=fun j=>(hb1.cell (p:=⟨w.heap.size,j,none⟩) (by simp)).trans (HX.out j)
 have l0:=hcc 0;have l1:=hcc 1
 have l2:=hcc 2;have l3:=hcc 3
 have l4:=hcc 4;simp at l0 l1 l2 l3 l4;have r0:∀j,j<6→w1.cell? ⟨sb,off+j,none⟩=some (.slice (ad j) (ln j) (cp j)):=fun j hj=>(HB1.out.cell (p:=⟨sb,off+j,none⟩) hlt).trans (HC.out j hj)
 have rA:=r0 A hA6;have rC:=r0 C hC6
 have rD:=r0 D hD6;have HS1:=aA (HS.out.below HB1.out)
 have HP1:=aA (HP.out.below HB1.out);clear hb1 hcc r0 HX HTX HB0 HC;have hF:mD w.heap.size sb (A:Int) (C:Int) off A C (.slice (ad A) (ln A) (cp A)) (.slice (ad C) (ln C) (cp C)) w1.drew:=⟨l2,l3,rA,rC⟩
 have HF:=aA hF;clear hF;go_wp2_with fail
 go_region_held3 (fun u=>u.cell? ⟨w.heap.size,2,none⟩=some (.int .i64 (A:Int))∧u.cell? ⟨w.heap.size,3,none⟩=some (.int .i64 (C:Int))∧u.cell? ⟨sb,off+A,none⟩=some (.slice (ad A) (ln A) (cp A))∧u.cell? ⟨sb,off+C,none⟩=some (.slice (ad C) (ln C) (cp C))) (with_reducible exact HF.out) (fail)
 clear HF;have l0:w1.drew.cell? ⟨w.heap.size,0,none⟩=some (.int .i64 6):=l0
 have l1:w1.drew.cell? ⟨w.heap.size,1,none⟩=some (.int .i64 (D:Int)):=l1;have l4:w1.drew.cell? ⟨w.heap.size,4,none⟩=some (.slice pa p.length cap):=l4
 have rD:w1.drew.cell? ⟨sb,off+D,none⟩=some (.slice (ad D) (ln D) (cp D)):=rD;have HB2:=aA HB1.out.drew
 have HS2:=aA (HS1.out.below (aD _ _).drew);have HP2:=aA (HP1.out.below (aD _ _).drew)
 clear HB1 HS1 HP1 l2 l3 rA rC;generalize w1.drew=w2 at *;have HCA:=aA (DL _ _ _ _ _ (HS2.out.2.2.2 A hA6))
 rw[←HR.out]at HCA;go_wp2_with fail;refine HCA.out.mono ?_;rintro e w3 ⟨v,rfl,hb3,ho3⟩;have HB3:=aA (aC HB2.out hb3)
 have HO3:=aA ho3;have hsz3:w.heap.size≤w2.heap.size:=HB2.out.size
 clear hb3 ho3;go_wp2;refine bC (results_tmp2 rfl _ _ _) rfl ?_;exact⟨v,rfl,HB3.out,bO HO3.out hsz3⟩
theorem TC (to a b:Int) (sa:Option Addr) (sc:Nat) (ad:Nat→Option Addr) (ln cp:Nat→Nat) (F:Nat→Nat→T) (pa:Option Addr) (cap:Nat) (p:List T) (w:World) (hS:pT w sa 6 sc ad ln cp F) (h:Rd w pa p.length cap (lf p)) (hl:dW 7 to a b p.length (lf p)≠[]):Calls Tryz.prog 42 #[.slice sa 6 sc,.agg #[.int .i64 7,.int .i64 to,.int .i64 a,.int .i64 b,.slice pa p.length cap]] w fun r w'=>∃v,r= .returned (.tuple #[v,.bool (aL 7 to a b p 6 ln F).2])∧Below w.heap.size w w'∧w'.ownsRow w.heap.size 79 5 v (aL 7 to a b p 6 ln F).1.length (aG (aL 7 to a b p 6 ln F).1):=by
 have hB0:=aF w (.cells #[.int .i64 7,.int .i64 to,.int .i64 a,.int .i64 b,.slice pa p.length cap] 24);obtain⟨_,⟨t0,t5⟩,⟨a0,a5⟩,⟨b0,b5⟩,hok⟩:=bE hl;have HTX:=aA (dM 7 to a b pa p.length cap (lf p) _ (h.below hB0))
 have HR:Hid (aL 7 to a b p 6 ln F=cY (F a.toNat) (ln a.toNat)):=aA (by unfold aL;rw[if_pos ⟨rfl,hl⟩];rfl);obtain⟨R,hRR⟩:∃R,aL 7 to a b p 6 ln F=R:=⟨_,rfl⟩
 rw[hRR]at HR⊢;clear hRR;obtain⟨S,hSS⟩:∃S,dW 7 to a b p.length (lf p)=S:=⟨_,rfl⟩
 rw[hSS]at HTX hl;have hse:S.isEmpty=false:=by cases S<;>simp at hl⊢
 have HOK:=aA hok;clear hSS hl hok;obtain⟨A,rfl⟩:∃A:Nat,a=(A:Int):=⟨a.toNat,by omega⟩
 obtain⟨C,rfl⟩:∃C:Nat,b=(C:Int):=⟨b.toNat,by omega⟩
 obtain⟨D,rfl⟩:∃D:Nat,to=(D:Int):=⟨to.toNat,by omega⟩
 have hA6:A<6:=by omega
 have hC6:C<6:=by omega
 have hD6:D<6:=by omega
 have hAI:(A:Int)<6:=by omega
 have hCI:(C:Int)<6:=by omega
 have hDI:(D:Int)<6:=by omega
 (try simp only[Int.toNat_natCast]at HR)
 clear t0 t5 a0 a5 b0 b5;obtain⟨sb,off,rfl,hlt,hc⟩:=hS.2.2.1.resolve_left (by omega);have HC:=aA hc
 have HS:=aA hS;have HP:=aA h
 have HB0:=aA hB0;have hx:∀j:Nat,(w.alloc (.cells #[.int .i64 7,.int .i64 D,.int .i64 A,.int .i64 C,.slice pa p.length cap] 24)).cell? ⟨w.heap.size,j,none⟩=#[Value.int .i64 7,.int .i64 D,.int .i64 A,.int .i64 C,.slice pa p.length cap][j]? :=fun j=>World.cell?_alloc_at _ _ _ _ rfl
 have HX:=aA hx;clear hS h hc hB0 hx;go_enter Tryz.func42,Tryz.ntmps42;go_wp2_with fail;refine HTX.out.mono ?_;rintro e w1 ⟨rfl,hb1⟩;have HB1:=aA (aC HB0.out hb1)
 have hlt1:w.heap.size<w1.heap.size:=eB (by simp) hb1.size;have hcc:∀j:Nat,w1.cell? ⟨w.heap.size,j,none⟩=#[Value.int .i64 7,.int .i64 D,.int .i64 A,.int .i64 C,.slice pa p.length cap][j]? :=fun j=>(hb1.cell (p:=⟨w.heap.size,j,none⟩) (by simp)).trans (HX.out j)
 have l0:=hcc 0;have l1:=hcc 1
 have l2:=hcc 2;have l3:=hcc 3
 have l4:=hcc 4;simp at l0 l1 l2 l3 l4;have r0:∀j,j<6→w1.cell? ⟨sb,off+j,none⟩=some (.slice (ad j) (ln j) (cp j)):=fun j hj=>(HB1.out.cell (p:=⟨sb,off+j,none⟩) hlt).trans (HC.out j hj)
 have rA:=r0 A hA6;have rC:=r0 C hC6
 have rD:=r0 D hD6;have HS1:=aA (HS.out.below HB1.out)
 have HP1:=aA (HP.out.below HB1.out);clear hb1 hcc r0 HX HTX HB0 HC;have hF:mD w.heap.size sb (A:Int) (C:Int) off A C (.slice (ad A) (ln A) (cp A)) (.slice (ad C) (ln C) (cp C)) w1.drew:=⟨l2,l3,rA,rC⟩
 have HF:=aA hF;clear hF;go_wp2_with fail
 go_region_held3 (fun u=>u.cell? ⟨w.heap.size,2,none⟩=some (.int .i64 (A:Int))∧u.cell? ⟨w.heap.size,3,none⟩=some (.int .i64 (C:Int))∧u.cell? ⟨sb,off+A,none⟩=some (.slice (ad A) (ln A) (cp A))∧u.cell? ⟨sb,off+C,none⟩=some (.slice (ad C) (ln C) (cp C))) (with_reducible exact HF.out) (fail)
 clear HF;have l0:w1.drew.cell? ⟨w.heap.size,0,none⟩=some (.int .i64 7):=l0
 have l1:w1.drew.cell? ⟨w.heap.size,1,none⟩=some (.int .i64 (D:Int)):=l1;have l4:w1.drew.cell? ⟨w.heap.size,4,none⟩=some (.slice pa p.length cap):=l4
 have rD:w1.drew.cell? ⟨sb,off+D,none⟩=some (.slice (ad D) (ln D) (cp D)):=rD;have HB2:=aA HB1.out.drew
 have HS2:=aA (HS1.out.below (aD _ _).drew);have HP2:=aA (HP1.out.below (aD _ _).drew)
 clear HB1 HS1 HP1 l2 l3 rA rC;generalize w1.drew=w2 at *;have HCA:=aA (GX _ _ _ _ _ (HS2.out.2.2.2 A hA6))
 rw[←HR.out]at HCA;go_wp2_with fail;refine HCA.out.mono ?_;rintro e w3 ⟨v,rfl,hb3,ho3⟩;have HB3:=aA (aC HB2.out hb3)
 have HO3:=aA ho3;have hsz3:w.heap.size≤w2.heap.size:=HB2.out.size
 clear hb3 ho3;go_wp2;refine bC (results_tmp2 rfl _ _ _) rfl ?_;exact⟨v,rfl,HB3.out,bO HO3.out hsz3⟩
theorem TD (to a b:Int) (sa:Option Addr) (sc:Nat) (ad:Nat→Option Addr) (ln cp:Nat→Nat) (F:Nat→Nat→T) (pa:Option Addr) (cap:Nat) (p:List T) (w:World) (hS:pT w sa 6 sc ad ln cp F) (h:Rd w pa p.length cap (lf p)) (hl:dW 8 to a b p.length (lf p)≠[]):Calls Tryz.prog 42 #[.slice sa 6 sc,.agg #[.int .i64 8,.int .i64 to,.int .i64 a,.int .i64 b,.slice pa p.length cap]] w fun r w'=>∃v,r= .returned (.tuple #[v,.bool (aL 8 to a b p 6 ln F).2])∧Below w.heap.size w w'∧w'.ownsRow w.heap.size 79 5 v (aL 8 to a b p 6 ln F).1.length (aG (aL 8 to a b p 6 ln F).1):=by
 have hB0:=aF w (.cells #[.int .i64 8,.int .i64 to,.int .i64 a,.int .i64 b,.slice pa p.length cap] 24);obtain⟨_,⟨t0,t5⟩,⟨a0,a5⟩,⟨b0,b5⟩,hok⟩:=bE hl;have HTX:=aA (dM 8 to a b pa p.length cap (lf p) _ (h.below hB0))
 have HR:Hid (aL 8 to a b p 6 ln F=cH (F to.toNat) (ln to.toNat) QR 0):=aA (by unfold aL;rw[if_pos ⟨rfl,hl⟩];rfl);obtain⟨R,hRR⟩:∃R,aL 8 to a b p 6 ln F=R:=⟨_,rfl⟩
 rw[hRR]at HR⊢;clear hRR;obtain⟨S,hSS⟩:∃S,dW 8 to a b p.length (lf p)=S:=⟨_,rfl⟩
 rw[hSS]at HTX hl;have hse:S.isEmpty=false:=by cases S<;>simp at hl⊢
 have HOK:=aA hok;clear hSS hl hok;obtain⟨A,rfl⟩:∃A:Nat,a=(A:Int):=⟨a.toNat,by omega⟩
 obtain⟨C,rfl⟩:∃C:Nat,b=(C:Int):=⟨b.toNat,by omega⟩
 obtain⟨D,rfl⟩:∃D:Nat,to=(D:Int):=⟨to.toNat,by omega⟩
 have hA6:A<6:=by omega
 have hC6:C<6:=by omega
 have hD6:D<6:=by omega
 have hAI:(A:Int)<6:=by omega
 have hCI:(C:Int)<6:=by omega
 have hDI:(D:Int)<6:=by omega
 (try simp only[Int.toNat_natCast]at HR)
 clear t0 t5 a0 a5 b0 b5;obtain⟨sb,off,rfl,hlt,hc⟩:=hS.2.2.1.resolve_left (by omega);have HC:=aA hc
 have HS:=aA hS;have HP:=aA h
 have HB0:=aA hB0;have hx:∀j:Nat,(w.alloc (.cells #[.int .i64 8,.int .i64 D,.int .i64 A,.int .i64 C,.slice pa p.length cap] 24)).cell? ⟨w.heap.size,j,none⟩=#[Value.int .i64 8,.int .i64 D,.int .i64 A,.int .i64 C,.slice pa p.length cap][j]? :=fun j=>World.cell?_alloc_at _ _ _ _ rfl
 have HX:=aA hx;clear hS h hc hB0 hx;go_enter Tryz.func42,Tryz.ntmps42;go_wp2_with fail;refine HTX.out.mono ?_;rintro e w1 ⟨rfl,hb1⟩;have HB1:=aA (aC HB0.out hb1)
 have hlt1:w.heap.size<w1.heap.size:=eB (by simp) hb1.size;have hcc:∀j:Nat,w1.cell? ⟨w.heap.size,j,none⟩=#[Value.int .i64 8,.int .i64 D,.int .i64 A,.int .i64 C,.slice pa p.length cap][j]? :=fun j=>(hb1.cell (p:=⟨w.heap.size,j,none⟩) (by simp)).trans (HX.out j)
 have l0:=hcc 0;have l1:=hcc 1
 have l2:=hcc 2;have l3:=hcc 3
 have l4:=hcc 4;simp at l0 l1 l2 l3 l4;have r0:∀j,j<6→w1.cell? ⟨sb,off+j,none⟩=some (.slice (ad j) (ln j) (cp j)):=fun j hj=>(HB1.out.cell (p:=⟨sb,off+j,none⟩) hlt).trans (HC.out j hj)
 have rA:=r0 A hA6;have rC:=r0 C hC6
 have rD:=r0 D hD6;have HS1:=aA (HS.out.below HB1.out)
 have HP1:=aA (HP.out.below HB1.out);clear hb1 hcc r0 HX HTX HB0 HC;have hF:mD w.heap.size sb (A:Int) (C:Int) off A C (.slice (ad A) (ln A) (cp A)) (.slice (ad C) (ln C) (cp C)) w1.drew:=⟨l2,l3,rA,rC⟩
 have HF:=aA hF;clear hF;go_wp2_with fail
 go_region_held3 (fun u=>u.cell? ⟨w.heap.size,2,none⟩=some (.int .i64 (A:Int))∧u.cell? ⟨w.heap.size,3,none⟩=some (.int .i64 (C:Int))∧u.cell? ⟨sb,off+A,none⟩=some (.slice (ad A) (ln A) (cp A))∧u.cell? ⟨sb,off+C,none⟩=some (.slice (ad C) (ln C) (cp C))) (with_reducible exact HF.out) (fail)
 clear HF;have l0:w1.drew.cell? ⟨w.heap.size,0,none⟩=some (.int .i64 8):=l0
 have l1:w1.drew.cell? ⟨w.heap.size,1,none⟩=some (.int .i64 (D:Int)):=l1;have l4:w1.drew.cell? ⟨w.heap.size,4,none⟩=some (.slice pa p.length cap):=l4
 have rD:w1.drew.cell? ⟨sb,off+D,none⟩=some (.slice (ad D) (ln D) (cp D)):=rD;have HB2:=aA HB1.out.drew
 have HS2:=aA (HS1.out.below (aD _ _).drew);have HP2:=aA (HP1.out.below (aD _ _).drew)
 clear HB1 HS1 HP1 l2 l3 rA rC;generalize w1.drew=w2 at *;have HBn:=aA (aC HB2.out (aF w2 (.cells #[] 79)))
 have HCA:=aA (BZ (w2.alloc (.cells #[] 79)) (ad D) (some ⟨w2.heap.size,0,none⟩) (ln D) (cp D) 0 0 (F D) QR ((HS2.out.below (aF w2 (.cells #[] 79))).2.2.2 D hD6) (JA _ _ _));rw[←HR.out]at HCA;go_wp2_with fail;refine HCA.out.mono ?_;rintro e w3 ⟨v,rfl,hb3,ho3⟩;have HB3:=aA (aC HBn.out hb3)
 have HO3:=aA ho3;have hsz3:w.heap.size≤(w2.alloc (.cells #[] 79)).heap.size:=HBn.out.size
 clear hb3 ho3;go_wp2;refine bC (results_tmp2 rfl _ _ _) rfl ?_;exact⟨v,rfl,HB3.out,bO HO3.out hsz3⟩
theorem OY (k to a b:Int) (sa:Option Addr) (m sc:Nat) (ad:Nat→Option Addr) (ln cp:Nat→Nat) (F:Nat→Nat→T) (pa:Option Addr) (cap:Nat) (p:List T) (w:World) (hS:pT w sa m sc ad ln cp F) (h:Rd w pa p.length cap (lf p)):Calls Tryz.prog 42 #[.slice sa m sc,.agg #[.int .i64 k,.int .i64 to,.int .i64 a,.int .i64 b,.slice pa p.length cap]] w fun r w'=>∃v,r= .returned (.tuple #[v,.bool (aL k to a b p m ln F).2])∧Below w.heap.size w w'∧w'.ownsRow w.heap.size 79 5 v (aL k to a b p m ln F).1.length (aG (aL k to a b p m ln F).1):=by
 by_cases hn:m=6∧dW k to a b p.length (lf p)≠[]
 ·obtain⟨rfl,hl⟩:=hn;obtain⟨⟨k1,k8⟩,_⟩:=bE hl;rcases(show k=1∨k=2∨k=3∨k=4∨k=5∨k=6∨k=7∨k=8 by omega)with rfl|rfl|rfl|rfl|rfl|rfl|rfl|rfl
  ·exact SW to a b sa sc ad ln cp F pa cap p w hS h hl
  ·exact SX to a b sa sc ad ln cp F pa cap p w hS h hl
  ·exact SY to a b sa sc ad ln cp F pa cap p w hS h hl
  ·exact SZ to a b sa sc ad ln cp F pa cap p w hS h hl
  ·exact TA to a b sa sc ad ln cp F pa cap p w hS h hl
  ·exact TB to a b sa sc ad ln cp F pa cap p w hS h hl
  ·exact TC to a b sa sc ad ln cp F pa cap p w hS h hl
  ·exact TD to a b sa sc ad ln cp F pa cap p w hS h hl
 ·exact OU k to a b sa m sc ad ln cp F pa cap p w hS h hn
end Go.Proofs.YtkcmamepoplcdaaGreatDoor
