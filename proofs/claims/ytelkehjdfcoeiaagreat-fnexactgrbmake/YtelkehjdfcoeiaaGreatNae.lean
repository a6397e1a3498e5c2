/-
  More of the program's chapter 2: how two monomials stand in an order, their product, what divides, what is left.
-/
import Derived.Test.YtelkehjdfcoeiaaGreatNad
set_option maxHeartbeats 4000000
set_option maxRecDepth 100000
namespace Go.Proofs.YtelkehjdfcoeiaaGreat
open Go.RowKit
set_option linter.unusedVariables false
theorem tN {a b a' b':Int} (h1:a<b↔a'<b') (h2:b<a↔b'<a'):c3 a b=c3 a' b':=by unfold c3;simp only[h1,h2]
theorem GJ {a b:M} (ha:a.ok=true) (hb:b.ok=true):c3 (fF a) (fF b)=M.lex a b:=by
 obtain⟨x1,x2,y1,y2,d1,d2,e1,e2⟩:=M.ok_iff.1 ha;obtain⟨x3,x4,y3,y4,d3,d4,e3,e4⟩:=M.ok_iff.1 hb;by_cases hd:a.d=b.d
 ·by_cases he:a.e=b.e
  ·by_cases hx:a.x=b.x
   ·have h:M.lex a b=c3 a.y b.y:=by simp[M.lex,hd,he,hx]
    rw[h];exact tN (by unfold fF;omega) (by unfold fF;omega)
   ·have h:M.lex a b=c3 a.x b.x:=by simp[M.lex,hd,he,hx]
    rw[h];exact tN (by unfold fF;omega) (by unfold fF;omega)
  ·have h:M.lex a b=c3 a.e b.e:=by simp[M.lex,hd,he]
   rw[h];exact tN (by unfold fF;omega) (by unfold fF;omega)
 ·have h:M.lex a b=c3 a.d b.d:=by simp[M.lex,hd]
  rw[h];exact tN (by unfold fF;omega) (by unfold fF;omega)
theorem vZ {a b:M} (ha:a.ok=true) (hb:b.ok=true):c3 (dI a) (dI b)=M.ord 1 a b:=by
 obtain⟨x1,x2,y1,y2,d1,d2,e1,e2⟩:=M.ok_iff.1 ha;obtain⟨x3,x4,y3,y4,d3,d4,e3,e4⟩:=M.ok_iff.1 hb;have da:a.deg=a.x+a.y+a.d+a.e:=by simp[M.deg,ha]
 have db:b.deg=b.x+b.y+b.d+b.e:=by simp[M.deg,hb]
 have la:0≤fF a∧fF a≤65535:=by simp only[fF];omega
 have lb:0≤fF b∧fF b≤65535:=by simp only[fF];omega
 by_cases h:a.deg=b.deg
 ·have e1:M.ord 1 a b=M.lex a b:=by simp[M.ord,h]
  rw[e1,←GJ ha hb];rw[da,db]at h;exact tN (by unfold dI;omega) (by unfold dI;omega)
 ·have e1:M.ord 1 a b=c3 a.deg b.deg:=by simp[M.ord,h]
  rw[e1,da,db];rw[da,db]at h;exact tN (by unfold dI;omega) (by unfold dI;omega)
theorem GK {a b:M} (ha:a.ok=true) (hb:b.ok=true):c3 (tE a) (tE b)=M.ord 3 a b:=by
 obtain⟨x1,x2,y1,y2,d1,d2,e1,e2⟩:=M.ok_iff.1 ha;obtain⟨x3,x4,y3,y4,d3,d4,e3,e4⟩:=M.ok_iff.1 hb;have la:0≤fF a∧fF a≤65535:=by simp only[fF];omega
 have lb:0≤fF b∧fF b≤65535:=by simp only[fF];omega
 by_cases h:a.d+a.x=b.d+b.x
 ·have e1:M.ord 3 a b=M.lex a b:=by simp[M.ord,h]
  rw[e1,←GJ ha hb];exact tN (by unfold tE;omega) (by unfold tE;omega)
 ·have e1:M.ord 3 a b=c3 (a.d+a.x) (b.d+b.x):=by simp[M.ord,h]
  rw[e1];exact tN (by unfold tE;omega) (by unfold tE;omega)
theorem GL {a b:M} (ha:a.ok=true) (hb:b.ok=true):c3 (fF a) (fF b)=M.ord 2 a b:=by rw[GJ ha hb];simp[M.ord]
theorem YG (a:Int) (w:World):Calls Tryz.prog 180 #[.int .i64 a] w fun r w'=>r= .returned (.bool false)∧w'=w:=by go_enter Tryz.func180,Tryz.ntmps180;go_wp2;go_ret;exact⟨by simp,rfl⟩
theorem OD (a b:Int) (w:World):Calls Tryz.prog 152 #[.int .i64 a,.int .i64 b] w fun r w'=>r= .returned (.int .i64 (c3 a b))∧w'=w:=by
 by_cases h1:a<b
 ·have e1:c3 a b= -1:=by simp[c3,h1]
  rw[e1];go_enter Tryz.func152,Tryz.ntmps152;go_wp2_with (first|(go_at_call 180;refine(YG _ _).mono ?_;rintro r w' ⟨rfl,rfl⟩));go_ret;exact⟨rfl,rfl⟩
 ·by_cases h2:b<a
  ·have e1:c3 a b=1:=by simp[c3,h1,h2]
   rw[e1];go_enter Tryz.func152,Tryz.ntmps152;go_wp2_with (first|(go_at_call 180;refine(YG _ _).mono ?_;rintro r w' ⟨rfl,rfl⟩));go_ret;exact⟨rfl,rfl⟩
  ·have e1:c3 a b=0:=by simp[c3,h1,h2]
   rw[e1];go_enter Tryz.func152,Tryz.ntmps152;go_wp2_with (first|(go_at_call 180;refine(YG _ _).mono ?_;rintro r w' ⟨rfl,rfl⟩));go_ret;exact⟨rfl,rfl⟩
theorem mW (o:Int) (w:World) (h:o<1∨3<o):Calls Tryz.prog 73 #[.int .i64 o] w fun r w'=>r= .returned (.tuple #[.nilFunc,.bool false])∧Below w.heap.size w w':=by
 rcases h with h|h
 all_goals
  go_enter Tryz.func73,Tryz.ntmps73;go_wp2
  go_ret2
  exact⟨rfl,aC w _⟩
theorem oQ (w:World):Calls Tryz.prog 73 #[.int .i64 1] w fun r w'=>r= .returned (.tuple #[.func (.func 93) #[] #[],.bool true])∧Below w.heap.size w w':=by
 go_enter Tryz.func73,Tryz.ntmps73;go_wp2
 go_ret2
 exact⟨rfl,aC w _⟩
theorem oR (w:World):Calls Tryz.prog 73 #[.int .i64 2] w fun r w'=>r= .returned (.tuple #[.func (.func 122) #[] #[],.bool true])∧Below w.heap.size w w':=by
 go_enter Tryz.func73,Tryz.ntmps73;go_wp2
 go_ret2
 exact⟨rfl,aC w _⟩
theorem oS (w:World):Calls Tryz.prog 73 #[.int .i64 3] w fun r w'=>r= .returned (.tuple #[.func (.func 123) #[] #[],.bool true])∧Below w.heap.size w w':=by
 go_enter Tryz.func73,Tryz.ntmps73;go_wp2
 go_ret2
 exact⟨rfl,aC w _⟩
theorem gT (o:Int) (w:World) (h1:1≤o) (h2:o≤3):Calls Tryz.prog 73 #[.int .i64 o] w fun r w'=>∃fv,r= .returned (.tuple #[fv,.bool true])∧Below w.heap.size w w':=by
 have ho3:o=1∨o=2∨o=3:=by omega
 rcases ho3 with rfl|rfl|rfl
 ·exact(oQ w).mono fun _ _ h=>⟨_,h⟩
 ·exact(oR w).mono fun _ _ h=>⟨_,h⟩
 ·exact(oS w).mono fun _ _ h=>⟨_,h⟩
theorem IQ (x y d e x' y' d' e':Int) (w:World):Calls Tryz.prog 106 #[.agg #[.int .i64 x,.int .i64 y,.int .i64 d,.int .i64 e],.agg #[.int .i64 x',.int .i64 y',.int .i64 d',.int .i64 e']] w fun r w'=>r= .returned (.tuple #[.agg #[.int .i64 (M.mul ⟨x,y,d,e⟩ ⟨x',y',d',e'⟩).1.x,.int .i64 (M.mul ⟨x,y,d,e⟩ ⟨x',y',d',e'⟩).1.y,.int .i64 (M.mul ⟨x,y,d,e⟩ ⟨x',y',d',e'⟩).1.d,.int .i64 (M.mul ⟨x,y,d,e⟩ ⟨x',y',d',e'⟩).1.e],.bool (M.mul ⟨x,y,d,e⟩ ⟨x',y',d',e'⟩).2])∧Below w.heap.size w w':=by
 cases ha:M.ok ⟨x,y,d,e⟩
 ·have r1:M.mul ⟨x,y,d,e⟩ ⟨x',y',d',e'⟩=(M.zero,false):=by simp[M.mul,ha]
  rw[r1];simp only[M.zero];go_enter Tryz.func106,Tryz.ntmps106;go_wp2_with fail;refine(kK _ _ _ _ _).mono ?_;rw[ha];rintro r w1 ⟨rfl,hb1⟩;obtain⟨hc1,hf1⟩:=aL hb1;have hz1:w.heap.size+1+1<w1.heap.size:=by have:=hb1.size;simp at this;omega
  go_wp2;refine cV (v:=.tuple #[.agg #[.int .i64 0,.int .i64 0,.int .i64 0,.int .i64 0],.bool false]) (by simp[results,Tryz.results106,go_sem, *]) rfl ⟨rfl,?_⟩;exact cW (aB (aP w _ _ _) hb1) (by omega) _ _ _ _
 ·cases hb:M.ok ⟨x',y',d',e'⟩
  ·have r1:M.mul ⟨x,y,d,e⟩ ⟨x',y',d',e'⟩=(M.zero,false):=by simp[M.mul,hb]
   rw[r1];simp only[M.zero];clear r1;go_enter Tryz.func106,Tryz.ntmps106;go_wp2_with fail;refine(kK _ _ _ _ _).mono ?_;rw[ha];rintro r w1 ⟨rfl,hb1⟩;obtain⟨hc1,hf1⟩:=aL hb1;have hz1:w.heap.size+1+1<w1.heap.size:=by have:=hb1.size;simp at this;omega
   go_wp2_with fail;refine(kK _ _ _ _ _).mono ?_;rw[hb];rintro r w2 ⟨rfl,hb2⟩;obtain⟨hc2,hf2⟩:=aL hb2;have hz2:w.heap.size+1+1<w2.heap.size:=by have:=hb2.size;omega
   go_wp2;refine cV (v:=.tuple #[.agg #[.int .i64 0,.int .i64 0,.int .i64 0,.int .i64 0],.bool false]) (by simp[results,Tryz.results106,go_sem, *]) rfl ⟨rfl,?_⟩;exact cW (aB (aB (aP w _ _ _) hb1) hb2) (by omega) _ _ _ _
  ·obtain⟨x1,x2,y1,y2,d1,d2,e1,e2⟩:=M.ok_iff.1 ha;obtain⟨x3,x4,y3,y4,d3,d4,e3,e4⟩:=M.ok_iff.1 hb;simp only at x1 x2 y1 y2 d1 d2 e1 e2 x3 x4 y3 y4 d3 d4 e3 e4;cases hs:M.ok ⟨x+x',y+y',d+d',e+e'⟩
   ·have r1:M.mul ⟨x,y,d,e⟩ ⟨x',y',d',e'⟩=(M.zero,false):=by simp[M.mul,M.sum,hs]
    rw[r1];simp only[M.zero];clear r1;go_enter Tryz.func106,Tryz.ntmps106;go_wp2_with fail;refine(kK _ _ _ _ _).mono ?_;rw[ha];rintro r w1 ⟨rfl,hb1⟩;obtain⟨hc1,hf1⟩:=aL hb1;have hz1:w.heap.size+1+1<w1.heap.size:=by have:=hb1.size;simp at this;omega
    have hz0:w.heap.size+1<w1.heap.size:=by omega
    have hzz:w.heap.size<w1.heap.size:=by omega
    go_wp2_with fail;refine(kK _ _ _ _ _).mono ?_;rw[hb];rintro r w2 ⟨rfl,hb2⟩;obtain⟨hc2,hf2⟩:=aL hb2;have hz2:w.heap.size+1+1<w2.heap.size:=by have:=hb2.size;omega
    go_wp2_with fail;refine(kK _ _ _ _ _).mono ?_;rw[hs];rintro r w3 ⟨rfl,hb3⟩;obtain⟨hc3,hf3⟩:=aL (aB ((bQ w2.heap.size w2).alloc (Nat.le_refl _) _) hb3);have ht:∀i,w3.cell? ⟨w2.heap.size,i,none⟩=#[Value.int .i64 (x+x'),.int .i64 (y+y'),.int .i64 (d+d'),.int .i64 (e+e')][i]? :=fun i=>by rw[hb3.cell (p:=⟨w2.heap.size,i,none⟩) (by simp),World.cell?_alloc_at _ _ _ _ rfl]
    have hB:=aB ((aB (aB (aP w _ _ _) hb1) hb2).alloc (aB (aB (aP w _ _ _) hb1) hb2).size _) hb3;go_wp2;refine cV (v:=.tuple #[.agg #[.int .i64 0,.int .i64 0,.int .i64 0,.int .i64 0],.bool false]) (by simp[results,Tryz.results106,go_sem, *]) rfl ⟨rfl,?_⟩;exact cW hB (by omega) _ _ _ _
   ·have r1:M.mul ⟨x,y,d,e⟩ ⟨x',y',d',e'⟩=(⟨x+x',y+y',d+d',e+e'⟩,true):=by simp[M.mul,M.sum,hs,ha,hb]
    rw[r1];clear r1;go_enter Tryz.func106,Tryz.ntmps106;go_wp2_with fail;refine(kK _ _ _ _ _).mono ?_;rw[ha];rintro r w1 ⟨rfl,hb1⟩;obtain⟨hc1,hf1⟩:=aL hb1;have hz1:w.heap.size+1+1<w1.heap.size:=by have:=hb1.size;simp at this;omega
    have hz0:w.heap.size+1<w1.heap.size:=by omega
    have hzz:w.heap.size<w1.heap.size:=by omega
    go_wp2_with fail;refine(kK _ _ _ _ _).mono ?_;rw[hb];rintro r w2 ⟨rfl,hb2⟩;obtain⟨hc2,hf2⟩:=aL hb2;have hz2:w.heap.size+1+1<w2.heap.size:=by have:=hb2.size;omega
    go_wp2_with fail;refine(kK _ _ _ _ _).mono ?_;rw[hs];rintro r w3 ⟨rfl,hb3⟩;obtain⟨hc3,hf3⟩:=aL (aB ((bQ w2.heap.size w2).alloc (Nat.le_refl _) _) hb3);have ht:∀i,w3.cell? ⟨w2.heap.size,i,none⟩=#[Value.int .i64 (x+x'),.int .i64 (y+y'),.int .i64 (d+d'),.int .i64 (e+e')][i]? :=fun i=>by rw[hb3.cell (p:=⟨w2.heap.size,i,none⟩) (by simp),World.cell?_alloc_at _ _ _ _ rfl]
    have hB:=aB ((aB (aB (aP w _ _ _) hb1) hb2).alloc (aB (aB (aP w _ _ _) hb1) hb2).size _) hb3;go_wp2;refine cV (v:=.tuple #[.agg #[.int .i64 (x+x'),.int .i64 (y+y'),.int .i64 (d+d'),.int .i64 (e+e')],.bool true]) (by simp[results,Tryz.results106,go_sem, *]) rfl ⟨rfl,?_⟩;exact cW hB (by omega) _ _ _ _
theorem DD (x y d e x' y' d' e':Int) (w:World):Calls Tryz.prog 128 #[.agg #[.int .i64 x,.int .i64 y,.int .i64 d,.int .i64 e],.agg #[.int .i64 x',.int .i64 y',.int .i64 d',.int .i64 e']] w fun r w'=>r= .returned (.bool (M.dvd ⟨x,y,d,e⟩ ⟨x',y',d',e'⟩))∧Below w.heap.size w w':=by
 cases ha:M.ok ⟨x,y,d,e⟩
 ·have r1:M.dvd ⟨x,y,d,e⟩ ⟨x',y',d',e'⟩=false:=by simp[M.dvd,ha]
  rw[r1];clear r1;go_enter Tryz.func128,Tryz.ntmps128;go_wp2_with fail;refine(bT ha _).mono ?_;rintro r w1 ⟨rfl,hb1⟩;go_wp2;go_ret;exact⟨rfl,aB (aN w _ _) hb1⟩
 ·cases hb:M.ok ⟨x',y',d',e'⟩
  ·have r1:M.dvd ⟨x,y,d,e⟩ ⟨x',y',d',e'⟩=false:=by simp[M.dvd,hb]
   rw[r1];clear r1;go_enter Tryz.func128,Tryz.ntmps128;go_wp2_with fail;refine(bT ha _).mono ?_;rintro r w1 ⟨rfl,hb1⟩;obtain⟨hc1,hf1⟩:=aL hb1;have hz1:w.heap.size+1<w1.heap.size:=by have:=hb1.size;simp at this;omega
   have hy1:w.heap.size<w1.heap.size:=by omega
   go_wp2_with fail;refine(bT hb _).mono ?_;rintro r w2 ⟨rfl,hb2⟩;obtain⟨hc2,hf2⟩:=aL hb2;go_wp2;go_ret;exact⟨rfl,aB (aB (aN w _ _) hb1) hb2⟩
  ·skip
   by_cases h0:x≤x'
   ·have t0:decide (x≤x')=true:=decide_eq_true h0;by_cases h1:y≤y'
    ·have t1:decide (y≤y')=true:=decide_eq_true h1;by_cases h2:d≤d'
     ·have t2:decide (d≤d')=true:=decide_eq_true h2;by_cases h3:e≤e'
      ·have t3:decide (e≤e')=true:=decide_eq_true h3;have r1:M.dvd ⟨x,y,d,e⟩ ⟨x',y',d',e'⟩=true:=by simp[M.dvd,ha,hb,h0,h1,h2,h3]
       rw[r1];clear r1;go_enter Tryz.func128,Tryz.ntmps128;go_wp2_with fail;refine(bT ha _).mono ?_;rintro r w1 ⟨rfl,hb1⟩;obtain⟨hc1,hf1⟩:=aL hb1;have hz1:w.heap.size+1<w1.heap.size:=by have:=hb1.size;simp at this;omega
       have hy1:w.heap.size<w1.heap.size:=by omega
       go_wp2_with fail;refine(bT hb _).mono ?_;rintro r w2 ⟨rfl,hb2⟩;obtain⟨hc2,hf2⟩:=aL hb2;go_wp2;go_ret;exact⟨rfl,aB (aB (aN w _ _) hb1) hb2⟩
      ·have t3:decide (e≤e')=false:=decide_eq_false h3;have r1:M.dvd ⟨x,y,d,e⟩ ⟨x',y',d',e'⟩=false:=by simp[M.dvd,h3]
       rw[r1];clear r1;go_enter Tryz.func128,Tryz.ntmps128;go_wp2_with fail;refine(bT ha _).mono ?_;rintro r w1 ⟨rfl,hb1⟩;obtain⟨hc1,hf1⟩:=aL hb1;have hz1:w.heap.size+1<w1.heap.size:=by have:=hb1.size;simp at this;omega
       have hy1:w.heap.size<w1.heap.size:=by omega
       go_wp2_with fail;refine(bT hb _).mono ?_;rintro r w2 ⟨rfl,hb2⟩;obtain⟨hc2,hf2⟩:=aL hb2;go_wp2;go_ret;exact⟨rfl,aB (aB (aN w _ _) hb1) hb2⟩
     ·have t2:decide (d≤d')=false:=decide_eq_false h2;have r1:M.dvd ⟨x,y,d,e⟩ ⟨x',y',d',e'⟩=false:=by simp[M.dvd,h2]
      rw[r1];clear r1;go_enter Tryz.func128,Tryz.ntmps128;go_wp2_with fail;refine(bT ha _).mono ?_;rintro r w1 ⟨rfl,hb1⟩;obtain⟨hc1,hf1⟩:=aL hb1;have hz1:w.heap.size+1<w1.heap.size:=by have:=hb1.size;simp at this;omega
      have hy1:w.heap.size<w1.heap.size:=by omega
      go_wp2_with fail;refine(bT hb _).mono ?_;rintro r w2 ⟨rfl,hb2⟩;obtain⟨hc2,hf2⟩:=aL hb2;go_wp2;go_ret;exact⟨rfl,aB (aB (aN w _ _) hb1) hb2⟩
    ·have t1:decide (y≤y')=false:=decide_eq_false h1;have r1:M.dvd ⟨x,y,d,e⟩ ⟨x',y',d',e'⟩=false:=by simp[M.dvd,h1]
     rw[r1];clear r1;go_enter Tryz.func128,Tryz.ntmps128;go_wp2_with fail;refine(bT ha _).mono ?_;rintro r w1 ⟨rfl,hb1⟩;obtain⟨hc1,hf1⟩:=aL hb1;have hz1:w.heap.size+1<w1.heap.size:=by have:=hb1.size;simp at this;omega
     have hy1:w.heap.size<w1.heap.size:=by omega
     go_wp2_with fail;refine(bT hb _).mono ?_;rintro r w2 ⟨rfl,hb2⟩;obtain⟨hc2,hf2⟩:=aL hb2;go_wp2;go_ret;exact⟨rfl,aB (aB (aN w _ _) hb1) hb2⟩
   ·have t0:decide (x≤x')=false:=decide_eq_false h0;have r1:M.dvd ⟨x,y,d,e⟩ ⟨x',y',d',e'⟩=false:=by simp[M.dvd,h0]
    rw[r1];clear r1;go_enter Tryz.func128,Tryz.ntmps128;go_wp2_with fail;refine(bT ha _).mono ?_;rintro r w1 ⟨rfl,hb1⟩;obtain⟨hc1,hf1⟩:=aL hb1;have hz1:w.heap.size+1<w1.heap.size:=by have:=hb1.size;simp at this;omega
    have hy1:w.heap.size<w1.heap.size:=by omega
    go_wp2_with fail;refine(bT hb _).mono ?_;rintro r w2 ⟨rfl,hb2⟩;obtain⟨hc2,hf2⟩:=aL hb2;go_wp2;go_ret;exact⟨rfl,aB (aB (aN w _ _) hb1) hb2⟩
theorem kI {x y d e x' y' d' e':Int} {b:Bool} (h:M.dvd ⟨x,y,d,e⟩ ⟨x',y',d',e'⟩=b) (w:World):Calls Tryz.prog 128 #[.agg #[.int .i64 x,.int .i64 y,.int .i64 d,.int .i64 e],.agg #[.int .i64 x',.int .i64 y',.int .i64 d',.int .i64 e']] w fun r w'=>r= .returned (.bool b)∧Below w.heap.size w w':=by rw[←h];exact DD _ _ _ _ _ _ _ _ w
theorem PH (x y d e x' y' d' e':Int) (w:World):Calls Tryz.prog 168 #[.agg #[.int .i64 x,.int .i64 y,.int .i64 d,.int .i64 e],.agg #[.int .i64 x',.int .i64 y',.int .i64 d',.int .i64 e']] w fun r w'=>r= .returned (.tuple #[.agg #[.int .i64 (M.over ⟨x,y,d,e⟩ ⟨x',y',d',e'⟩).1.x,.int .i64 (M.over ⟨x,y,d,e⟩ ⟨x',y',d',e'⟩).1.y,.int .i64 (M.over ⟨x,y,d,e⟩ ⟨x',y',d',e'⟩).1.d,.int .i64 (M.over ⟨x,y,d,e⟩ ⟨x',y',d',e'⟩).1.e],.bool (M.over ⟨x,y,d,e⟩ ⟨x',y',d',e'⟩).2])∧Below w.heap.size w w':=by
 cases hd:M.dvd ⟨x',y',d',e'⟩ ⟨x,y,d,e⟩
 ·have r1:M.over ⟨x,y,d,e⟩ ⟨x',y',d',e'⟩=(M.zero,false):=by simp[M.over,hd]
  rw[r1];simp only[M.zero];clear r1;go_enter Tryz.func168,Tryz.ntmps168;go_wp2_with fail;refine(kI hd _).mono ?_;rintro r w1 ⟨rfl,hb1⟩;obtain⟨hc1,hf1⟩:=aL hb1;have hz1:w.heap.size+1+1<w1.heap.size:=by have:=hb1.size;simp at this;omega
  go_wp2;refine cV (v:=.tuple #[.agg #[.int .i64 0,.int .i64 0,.int .i64 0,.int .i64 0],.bool false]) (by simp[results,Tryz.results168,go_sem, *]) rfl ⟨rfl,?_⟩;exact cW (aB (aP w _ _ _) hb1) (by omega) _ _ _ _
 ·obtain⟨o1,o2,l1,l2,l3,l4⟩:=jP hd;obtain⟨x1,x2,y1,y2,d1,d2,e1,e2⟩:=M.ok_iff.1 o1;obtain⟨x3,x4,y3,y4,d3,d4,e3,e4⟩:=M.ok_iff.1 o2;simp only at x1 x2 y1 y2 d1 d2 e1 e2 x3 x4 y3 y4 d3 d4 e3 e4 l1 l2 l3 l4;have r1:M.over ⟨x,y,d,e⟩ ⟨x',y',d',e'⟩=(⟨x-x',y-y',d-d',e-e'⟩,true):=by simp[M.over,hd,M.diff]
  rw[r1];clear r1 o1 o2;go_enter Tryz.func168,Tryz.ntmps168;go_wp2_with fail;refine(kI hd _).mono ?_;rintro r w1 ⟨rfl,hb1⟩;obtain⟨hc1,hf1⟩:=aL hb1;have hz1:w.heap.size+1+1<w1.heap.size:=by have:=hb1.size;simp at this;omega
  go_wp2;refine cV (v:=.tuple #[.agg #[.int .i64 (x-x'),.int .i64 (y-y'),.int .i64 (d-d'),.int .i64 (e-e')],.bool true]) (by simp[results,Tryz.results168,go_sem, *]) rfl ⟨rfl,?_⟩;exact cW (aB (aP w _ _ _) hb1) (by omega) _ _ _ _
theorem rJ {a b:M} (ha:a.ok=true) (hb:b.ok=true):0<M.ord 1 a b↔dI b<dI a:=by
 rw[←vZ ha hb];unfold c3;constructor
 ·intro h;split at h
  ·omega
  ·split at h<;>omega
 ·intro h;rw[if_neg (by omega),if_pos h];decide
def fR (c:Int) (m:M):Bool:=decide (1≤c∧c≤100)&&m.ok
theorem GF (c x y d e:Int) (w:World):Calls Tryz.prog 92 #[.int .i64 c,.agg #[.int .i64 x,.int .i64 y,.int .i64 d,.int .i64 e]] w fun r w'=>r= .returned (.bool (fR c ⟨x,y,d,e⟩))∧Below w.heap.size w w':=by
 by_cases h0:c=0
 ·subst h0;have e1:fR 0 ⟨x,y,d,e⟩=false:=by simp[fR]
  rw[e1];go_enter Tryz.func92,Tryz.ntmps92;go_wp2;go_ret;exact⟨rfl,aC w _⟩
 ·have hz:(c !=0)=true:=by simp[h0]
  by_cases hc:0≤c∧c≤100
  ·obtain⟨c1,c2⟩:=hc;have e1:fR c ⟨x,y,d,e⟩=M.ok ⟨x,y,d,e⟩:=by
    have:1≤c∧c≤100:=by omega
    simp[fR,this]
   rw[e1];clear h0 e1;go_enter Tryz.func92,Tryz.ntmps92;go_wp2_with (go_at_call 54;refine(pX _ _ c1 c2).mono ?_;rintro r w' ⟨rfl,rfl⟩);refine(kK _ _ _ _ _).mono ?_;rintro r w1 ⟨rfl,hb⟩;go_wp2;go_ret;exact⟨rfl,aB (aC w _) hb⟩
  ·have hc':c<0∨100<c:=by omega
   have e1:fR c ⟨x,y,d,e⟩=false:=by
    have:¬(1≤c∧c≤100):=by omega
    simp[fR,this]
   rw[e1];clear hc e1 h0;go_enter Tryz.func92,Tryz.ntmps92;go_wp2_with (go_at_call 54;refine(mV _ _ hc').mono ?_;rintro r w' ⟨rfl,rfl⟩);go_ret;exact⟨rfl,aC w _⟩
theorem iQ {c x y d e:Int} {b:Bool} (h:fR c ⟨x,y,d,e⟩=b) (w:World):Calls Tryz.prog 92 #[.int .i64 c,.agg #[.int .i64 x,.int .i64 y,.int .i64 d,.int .i64 e]] w fun r w'=>r= .returned (.bool b)∧Below w.heap.size w w':=by rw[←h];exact GF c x y d e w
theorem yM {f:Nat→T} {k:Nat} (h:jD f k=true):fR (f k).c (f k).m=true:=by simp only[jD,Bool.and_eq_true]at h;simp only[fR,Bool.and_eq_true];exact h.1
theorem dZ (w:World) (a:Option Addr) (n cap:Nat) (f:Nat→T) (h:Rd w a n cap f):Calls Tryz.prog 52 #[.slice a n cap] w fun r w'=>r= .returned (.bool (aK n f))∧Below w.heap.size w w':=by
 obtain⟨h1,h2,h3⟩:=h;have hn:(n:Int)≤140737488351232:=by omega
 by_cases hl:n≤400
 ·have hl':(n:Int)≤400:=by omega
  go_enter Tryz.func52,Tryz.ntmps52;go_wp2;go_loopw [10] (fun i wr=>∃k:Nat,k≤n∧i= .int .i64 k∧Below w.heap.size w wr∧∀j,j<k→jD f j=true) (fun i _=>n-(intOf i).toNat);case atStart=>exact⟨0,Nat.zero_le _,rfl,bQ _ _,fun j hj=>absurd hj (EZ _)⟩
  case round=>
   obtain⟨k,hk,rfl,hB,hok⟩:=hrel;by_cases hlt:k<n
   ·rcases h3 with h0|⟨b,off,rfl,hblt,hcl⟩
    ·omega
    have hkn:(k:Int)<(n:Int):=by omega
    have hbr:b<wr.heap.size:=iZ hblt hB.size;obtain⟨g0,g1,g2,g3,g4⟩:=(hcl k hlt).below hB hblt;have hno:jD f k=false→aK n f=false:=fun hf=>by
     simp only[aK,decide_eq_false_iff_not];intro hh;have:=hh.2 k hlt
     rw[hf]at this;cases this
    cases ht:fR (f k).c (f k).m
    ·have HF:Hid (aK n f=false):=hno (by
      cases h:jD f k
      ·rfl
      ·rw[yM h]at ht;cases ht)
     clear hno hcl hok;go_wp2_with fail;refine(iQ ht _).mono ?_;rintro r w1 ⟨rfl,hb⟩;have HB:=aA (aB (hB.alloc hB.size _) hb)
     clear hb;go_wp2;go_ret;exact⟨by rw[HF.out];rfl,HB.out⟩
    ·have hm:(f k).m.ok=true:=by simp only[fR,Bool.and_eq_true]at ht;exact ht.2
     have HM:=aA hm;have HCL:=aA hcl
     have HOK:=aA hok;have HNO:=aA hno
     clear hcl hok hno hm;go_wp2_with fail;refine(iQ ht _).mono ?_;rintro r w1 ⟨rfl,hb⟩;have HB:=aA (aB (hB.alloc hB.size _) hb)
     have hb1:b<w1.heap.size:=by have:=hb.size;simp at this;omega
     have hb2:wr.heap.size<w1.heap.size:=by have:=hb.size;simp at this;omega
     have hq:∀i v,#[Value.int .i64 (f k).c,.int .i64 (f k).m.x,.int .i64 (f k).m.y,.int .i64 (f k).m.d,.int .i64 (f k).m.e][i]? =some v→w1.cell? ⟨wr.heap.size,i,none⟩=some v:=fun i v hv=>by rw[hb.cell (p:=⟨wr.heap.size,i,none⟩) (by simp),World.cell?_alloc_at _ _ _ _ rfl];exact hv
     have ne:=bR.there w1;have s1:∀u:bR w1,u.1.cell? ⟨wr.heap.size,1,none⟩=some (.int .i64 (f k).m.x):=fun u=>(u.cell hb2).trans (hq 1 _ rfl)
     have s2:∀u:bR w1,u.1.cell? ⟨wr.heap.size,2,none⟩=some (.int .i64 (f k).m.y):=fun u=>(u.cell hb2).trans (hq 2 _ rfl);have s3:∀u:bR w1,u.1.cell? ⟨wr.heap.size,3,none⟩=some (.int .i64 (f k).m.d):=fun u=>(u.cell hb2).trans (hq 3 _ rfl)
     have s4:∀u:bR w1,u.1.cell? ⟨wr.heap.size,4,none⟩=some (.int .i64 (f k).m.e):=fun u=>(u.cell hb2).trans (hq 4 _ rfl);have HBK:=aA hB
     clear hq hb g0 g1 g2 g3 g4 hB;by_cases hk0:k=0
     ·have ht':jD f k=true:=by simp only[jD,fR,Bool.and_eq_true]at ht⊢;exact⟨ht,by simp[hk0]⟩
      have hok':Hid (∀j,j<k+1→jD f j=true):=fun j hj=>by
       by_cases hjk:j=k
       ·rw[hjk];exact ht'
       ·exact HOK.out j (by omega)
      have dk:decide (0<k)=false:=decide_eq_false (by omega);clear ht' hk0 ht;go_wp2_with fail;refine aF (by kernel_rfl) (by kernel_rfl) ?_;repeat(go_big_quiet_step (fail))
      refine wpQuiet_nil ?_;rintro _ ⟨u,rfl⟩;go_wp2;go_roundw;case rel=>exact⟨k+1,by omega,by go_num,HB.out.trans (u.2.mono HB.out.size),hok'.out⟩
      case measure=>simp[intOf];omega
     ·have hj:k-1<n:=by omega
      have hcj:=((HCL.out (k-1) hj).below HBK.out hblt)
      have hcj1:nD w1 b (off+(k-1)*5) (f (k-1)):=(HCL.out (k-1) hj).below HB.out hblt;have p1:∀u:bR w1,u.1.cell? ⟨b,off+(k-1)*5+1,none⟩=some (.int .i64 (f (k-1)).m.x):=fun u=>(u.cell hb1).trans hcj1.2.1
      have p2:∀u:bR w1,u.1.cell? ⟨b,off+(k-1)*5+2,none⟩=some (.int .i64 (f (k-1)).m.y):=fun u=>(u.cell hb1).trans hcj1.2.2.1;have p3:∀u:bR w1,u.1.cell? ⟨b,off+(k-1)*5+3,none⟩=some (.int .i64 (f (k-1)).m.d):=fun u=>(u.cell hb1).trans hcj1.2.2.2.1
      have p4:∀u:bR w1,u.1.cell? ⟨b,off+(k-1)*5+4,none⟩=some (.int .i64 (f (k-1)).m.e):=fun u=>(u.cell hb1).trans hcj1.2.2.2.2;have hmp:(f (k-1)).m.ok=true:=by have:=yM (HOK.out (k-1) (by omega));simp only[fR,Bool.and_eq_true]at this;exact this.2
      have HMP:=aA hmp;clear hcj hcj1;have dk:decide (0<k)=true:=decide_eq_true (by omega)
      have hk1:(0:Int)<(k:Int):=by omega
      have hk2:(k:Int)-1<(n:Int):=by omega
      have hk3:(0:Int)≤(k:Int)-1:=by omega
      by_cases hq:dI (f k).m<dI (f (k-1)).m
      ·have ht':jD f k=true:=by simp only[jD,fR,Bool.and_eq_true]at ht⊢;exact⟨ht,by rw[decide_eq_true ((rJ hmp HM.out).2 hq)];simp⟩
       have hok':Hid (∀j,j<k+1→jD f j=true):=fun j hj=>by
        by_cases hjk:j=k
        ·rw[hjk];exact ht'
        ·exact HOK.out j (by omega)
       have dq:decide (dI ⟨(f (k-1)).m.x,(f (k-1)).m.y,(f (k-1)).m.d,(f (k-1)).m.e⟩≤dI ⟨(f k).m.x,(f k).m.y,(f k).m.d,(f k).m.e⟩)=false:=decide_eq_false (Int.not_le.2 hq);clear ht' hk0 ht hq hmp;go_wp2_with fail;refine aF (by kernel_rfl) (by kernel_rfl) ?_;repeat(go_big_quiet_step (first|(go_at_call 93;exact aG (fJ _ _ _ _ _ HMP.out))|(go_at_call 93;exact aG (fJ _ _ _ _ _ HM.out))))
       refine wpQuiet_nil ?_;rintro _ ⟨u,rfl⟩;go_wp2;go_roundw;case rel=>exact⟨k+1,by omega,by go_num,HB.out.trans (u.2.mono HB.out.size),hok'.out⟩
       case measure=>simp[intOf];omega
      ·have HF:Hid (aK n f=false):=HNO.out (by
        cases hx:jD f k
        ·rfl
        ·exfalso;simp only[jD,Bool.and_eq_true,Bool.or_eq_true,decide_eq_true_eq]at hx;rcases hx.2 with h0|h0
         ·exact hk0 h0
         ·exact hq ((rJ hmp HM.out).1 h0))
       have dq:decide (dI ⟨(f (k-1)).m.x,(f (k-1)).m.y,(f (k-1)).m.d,(f (k-1)).m.e⟩≤dI ⟨(f k).m.x,(f k).m.y,(f k).m.d,(f k).m.e⟩)=true:=decide_eq_true (Int.not_lt.1 hq);clear hk0 ht hq hmp;go_wp2_with fail;refine aF (by kernel_rfl) (by kernel_rfl) ?_;repeat(go_big_quiet_step (first|(go_at_call 93;exact aG (fJ _ _ _ _ _ HMP.out))|(go_at_call 93;exact aG (fJ _ _ _ _ _ HM.out))))
       refine wpQuiet_nil ?_;rintro _ ⟨u,rfl⟩;go_wp2;go_ret;exact⟨by rw[HF.out];rfl,HB.out.trans (u.2.mono HB.out.size)⟩
   ·go_wp2;go_ret;have hp:aK n f=true:=by simp only[aK,decide_eq_true_eq];exact⟨hl,fun i hi=>hok i (by omega)⟩
    exact⟨by rw[hp];rfl,hB⟩
 ·have hl':(400:Int)<(n:Int):=by omega
  have hp:aK n f=false:=by simp only[aK,decide_eq_false_iff_not];exact fun h=>hl h.1
  rw[hp];go_enter Tryz.func52,Tryz.ntmps52;go_wp2;go_ret;exact⟨rfl,bQ _ _⟩
end Go.Proofs.YtelkehjdfcoeiaaGreat
