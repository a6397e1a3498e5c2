/-
  Bases that are read are held against each other; what GrbMake hands back on both sides, laid open.
-/
import Derived.Test.YtelkehjdfcoeiaaGreatNbr
import Derived.Test.YtelkehjdfcoeiaaGreatNbs
set_option maxHeartbeats 4000000
set_option maxRecDepth 100000
namespace Go.Proofs.YtelkehjdfcoeiaaGreat
open Go.RowKit Go.Deep Go.Joins
set_option linter.unusedVariables false
theorem zJ (w:World) (la la':Option Addr) (nb lc lc':Nat) (ad ad':Nat→Option Addr) (ln cp cp':Nat→Nat) (f:Nat→Nat→T) (pa pa':Option Addr) (np pc pc':Nat) (A A':Nat→Option Addr) (C C':Nat→Nat) (AD AD':Nat→Nat→Option Addr) (CP CP':Nat→Nat→Nat) (N:Nat→Nat) (L:Nat→Nat→Nat) (F:Nat→Nat→Nat→T) (d:Bool) (r1:eH w la nb lc ad ln cp f) (r2:NH w pa np pc A C AD CP N L F) (r3:eH w la' nb lc' ad' ln cp' f) (r4:NH w pa' np pc' A' C' AD' CP' N L F):Calls Tryz.prog 11 #[.agg #[.slice la nb lc,.slice pa np pc,.bool d],.agg #[.slice la' nb lc',.slice pa' np pc',.bool d]] w fun r w'=>r= .returned (.bool true)∧Below w.heap.size w w':=by
 have R1:=aA r1;have R2:=aA r2
 have R3:=aA r3;have R4:=aA r4
 have HB0:=aA (aN w (.cells #[.slice la nb lc,.slice pa np pc,.bool d] 27) (.cells #[.slice la' nb lc',.slice pa' np pc',.bool d] 27));clear r1 r2 r3 r4;have hdd:(d !=d)=false:=by simp
 go_enter Tryz.func11,Tryz.ntmps11;go_wp2_with fail;refine(zK _ _ _ _ _ _ _ _ _ _ _ _ (R1.out.below HB0.out) (R3.out.below HB0.out)).mono ?_;rintro e w1 ⟨rfl,hb⟩;have HB1:=aA (aB HB0.out hb)
 obtain⟨hc1,hf1⟩:=aL hb;have hz1:w.heap.size+1<w1.heap.size:=by have:=hb.size;simp at this;omega
 have hz2:w.heap.size<w1.heap.size:=by omega
 have a1:w1.cell? ⟨w.heap.size,1,none⟩=some (.slice pa np pc):=by go_simp
 have a2:w1.cell? ⟨w.heap.size,2,none⟩=some (.bool d):=by go_simp
 have b1:w1.cell? ⟨w.heap.size+1,1,none⟩=some (.slice pa' np pc'):=by go_simp
 have b2:w1.cell? ⟨w.heap.size+1,2,none⟩=some (.bool d):=by go_simp
 clear hc1 hf1 hb R1 R3 HB0;go_wp2_with fail;refine(OI _ _ _ _ _ _ _ _ _ _ _ _ _ _ _ _ _ (R2.out.below HB1.out) (R4.out.below HB1.out)).mono ?_;rintro e w2 ⟨rfl,hb⟩;have HB2:=aA (aB HB1.out hb)
 have c2:w2.cell? ⟨w.heap.size,2,none⟩=some (.bool d):=(hb.cell (p:=⟨w.heap.size,2,none⟩) hz2).trans a2;have d2:w2.cell? ⟨w.heap.size+1,2,none⟩=some (.bool d):=(hb.cell (p:=⟨w.heap.size+1,2,none⟩) hz1).trans b2
 clear hb R2 R4 HB1 a1 a2 b1 b2;go_wp2;go_ret;exact⟨rfl,HB2.out⟩
def IF (m n:Nat):Nat:=if m=0 then 0 else n
theorem YI {w:World} {pa:Option Addr} {m pc n:Nat} {A:Nat→Option Addr} {C:Nat→Nat} {AD:Nat→Nat→Option Addr} {CP:Nat→Nat→Nat} {P:Nat→Nat→List T} (h:R3 w pa m pc n A C AD CP P):R3 w pa m pc (IF m n) A C AD CP P:=by
 unfold IF;by_cases e:m=0
 ·exact⟨h.1,h.2.1,.inl e,fun i hi=>by omega⟩
 ·rw[if_neg e];exact h
theorem TE {Y:Nat→Prop} {w:World} {lo:Nat} {tvL tvP:Value} {n m:Nat} {L:Nat→List T} {P:Nat→Nat→List T} {LS PS:List Value} (h:jG Y w lo tvL tvP n m L m P LS PS):jG Y w lo tvL tvP (IF m n) m L m P LS PS:=by
 unfold IF;by_cases e:m=0
 ·exact⟨h.rL,h.rP,h.eL,fun i hi=>by omega,h.nL,h.nP⟩
 ·rw[if_neg e];exact h
theorem VA {N:Nat→Prop} {w:World} {lo m n:Nat} {L:Nat→List T} {P:Nat→Nat→List T} {LS PS:List Value} (h:wX N w lo m n L P LS PS):wX N w lo m (IF m n) L P LS PS:=by
 unfold IF;by_cases e:m=0
 ·obtain⟨hi,H,k⟩:=h;exact⟨hi,H,k.h0,k.hm,k.sz,k.up,fun i hi=>by omega⟩
 ·rw[if_neg e];exact h
theorem zX {o:Int} {n:Nat} {L:Nat→List T} {fuel:Int} {m:Nat} {BL:Nat→List T} {BP:Nat→Nat→List T} {d:Bool} (h:iA o n L fuel=(⟨m,BL,BP⟩,d)):m≤12∧IF m n≤3∧(∀i,i<m→lN BL i≤1048576)∧∀i,i<m→∀j,j<IF m n→lN (BP i) j≤1048576:=by
 rcases FN h with⟨h0,_⟩|⟨⟨_,_,h3,_⟩,j,hm,_⟩
 ·have h0:m=0:=h0;subst h0;exact⟨by omega,by unfold IF;rw[if_pos rfl];omega,fun i hi=>by omega,fun i hi=>by omega⟩
 ·have hl:=aU hm.ok.l;have l1:m≤12:=hl.1
  have l0:n≤m:=hm.le;have eg:IF m n=n:=by unfold IF;rw[if_neg (by omega)]
  refine⟨l1,by rw[eg];exact h3.2,fun i hi=>?_,fun i hi j hj=>?_⟩
  ·have:=(aD (show cJ (BL i)=true from(hl.2 i hi).2)).1;show(BL i).length≤_;omega
  ·rw[eg]at hj;have:=(aD (show cJ (BP i j)=true from hm.ok.p i hi j hj)).1
   show(BP i j).length≤_;omega
theorem XY     {w:World} {o:Int} {a:Option Addr} {n cap:Nat} {ad:Nat→Option Addr} {cp:Nat→Nat} {L:Nat→List T} (h:eH  w a n cap ad (lN L) cp (fN L)) {fuel:Int} {m:Nat} {BL:Nat→List T} {BP:Nat→Nat→List T} {d:Bool} (hX:iA      o n L fuel=(⟨m,BL,BP⟩,d)):Calls Tryz.prog 10 #[.int .i64 o,.slice a n cap,.int .i64 fuel] w fun e w'=>∃la lc pa pc A C RA RC,e= .returned (.agg #[.slice la m lc,.slice pa m pc,.bool d])∧Below w.heap.size w w'∧lF   w.heap.size w' m (IF  m n) la lc pa pc A C RA RC BL BP:=
 (ON       w o a n cap ad cp L h fuel).mono fun e w' k=>by
  rw[hX]at k;obtain⟨tvL,tvP,LS,PS,he,hb,hk,ho⟩:=k;obtain⟨b1,b2,_⟩:=zX      hX;have hk':jG  (fun b=>b<w.heap.size) w' w.heap.size tvL tvP n m BL m BP LS PS:=hk
  have ho':wX  (NB (fun b=>b<w.heap.size) tvL tvP) w' w.heap.size m n BL BP LS PS:=ho;obtain⟨la,lc,pa,pc,A,C,RA,RC,rfl,rfl,q⟩:=UY      (by omega) (by omega) (TE      hk') (VA      ho');exact⟨la,lc,pa,pc,A,C,RA,RC,he,hb,q⟩
theorem XZ     {w:World} {o:Int} {a:Option Addr} {n cap:Nat} {ad:Nat→Option Addr} {cp:Nat→Nat} {L:Nat→List T} (h:eH  w a n cap ad (lN L) cp (fN L)) {fuel:Int} {m:Nat} {BL:Nat→List T} {BP:Nat→Nat→List T} {d:Bool} (hX:iA      o n L fuel=(⟨m,BL,BP⟩,d)):Calls Tryz.prog 8 #[.int .i64 o,.slice a n cap,.int .i64 fuel] w fun e w'=>∃la lc ad' cp' pa pc A C AD CP,e= .returned (.agg #[.slice la m lc,.slice pa m pc,.bool d])∧Below w.heap.size w w'∧eH  w' la m lc ad' (lN BL) cp' (fN BL)∧R3 w' pa m pc (IF  m n) A C AD CP BP:=
 (OO       w o a n cap ad cp L h fuel).mono fun e w' k=>by
  rw[hX]at k;obtain⟨tvL,tvP,LS,PS,he,hb,hk⟩:=k;obtain⟨b1,b2,_⟩:=zX      hX;have hk':jG  (fun b=>b<w.heap.size) w' w.heap.size tvL tvP n m BL m BP LS PS:=hk
  obtain⟨la,lc,ad',cp',rfl,hr⟩:=hk'.readL (by omega);obtain⟨pa,pc,A,C,AD,CP,rfl,hp⟩:=hk'.readP (by omega);exact⟨la,lc,ad',cp',pa,pc,A,C,AD,CP,he,hb,hr,YI     hp⟩
end Go.Proofs.YtelkehjdfcoeiaaGreat
