/-
  More of the program's chapter 3: whether an operator has no slopes, so many times an operator.
-/
import Derived.Test.YtelkehjdfcoeiaaGreatMae
set_option maxHeartbeats 8000000
set_option maxRecDepth 100000
namespace Go.Proofs.YtelkehjdfcoeiaaGreat
open Go.RowKit
set_option linter.unusedVariables false
theorem pM (w:World) (lo:Nat):w.ownsRow lo 86 5 (.slice none 0 0) 0 (aE []):=⟨rfl,.inl ⟨rfl,rfl⟩⟩
theorem CH {w w':World} {b:Nat} {v0 v1 v2 v3 v4:Value} (hb:Below w.heap.size w w') (h:w.cell? ⟨b,0,none⟩=some v0∧w.cell? ⟨b,1,none⟩=some v1∧w.cell? ⟨b,2,none⟩=some v2∧w.cell? ⟨b,3,none⟩=some v3∧w.cell? ⟨b,4,none⟩=some v4):w'.cell? ⟨b,0,none⟩=some v0∧w'.cell? ⟨b,1,none⟩=some v1∧w'.cell? ⟨b,2,none⟩=some v2∧w'.cell? ⟨b,3,none⟩=some v3∧w'.cell? ⟨b,4,none⟩=some v4:=by have hl:b<w.heap.size:=dD w _ h.1;exact⟨(hb.cell (p:=⟨b,0,none⟩) hl).trans h.1,(hb.cell (p:=⟨b,1,none⟩) hl).trans h.2.1,(hb.cell (p:=⟨b,2,none⟩) hl).trans h.2.2.1,(hb.cell (p:=⟨b,3,none⟩) hl).trans h.2.2.2.1,(hb.cell (p:=⟨b,4,none⟩) hl).trans h.2.2.2.2⟩
theorem Cg {w:World} {o:Obj} {b:Nat} {v0 v1 v2 v3 v4:Value} (h:w.cell? ⟨b,0,none⟩=some v0∧w.cell? ⟨b,1,none⟩=some v1∧w.cell? ⟨b,2,none⟩=some v2∧w.cell? ⟨b,3,none⟩=some v3∧w.cell? ⟨b,4,none⟩=some v4):(w.alloc o).cell? ⟨b,0,none⟩=some v0∧(w.alloc o).cell? ⟨b,1,none⟩=some v1∧(w.alloc o).cell? ⟨b,2,none⟩=some v2∧(w.alloc o).cell? ⟨b,3,none⟩=some v3∧(w.alloc o).cell? ⟨b,4,none⟩=some v4:=CH ((bG _ _).alloc (Nat.le_refl _) o) h
theorem Gz {w:World} {b:Nat} {v0 v1 v2 v3 v4:Value} (h:w.cell? ⟨b,0,none⟩=some v0∧w.cell? ⟨b,1,none⟩=some v1∧w.cell? ⟨b,2,none⟩=some v2∧w.cell? ⟨b,3,none⟩=some v3∧w.cell? ⟨b,4,none⟩=some v4):w.drew.cell? ⟨b,0,none⟩=some v0∧w.drew.cell? ⟨b,1,none⟩=some v1∧w.drew.cell? ⟨b,2,none⟩=some v2∧w.drew.cell? ⟨b,3,none⟩=some v3∧w.drew.cell? ⟨b,4,none⟩=some v4:=CH (bG _ _).drew h
theorem Ch {w w':World} {row:Option Nat} {b:Nat} {v0 v1 v2 v3 v4:Value} (hg:w.grownBy w' row) (hne:some b≠row) (h:w.cell? ⟨b,0,none⟩=some v0∧w.cell? ⟨b,1,none⟩=some v1∧w.cell? ⟨b,2,none⟩=some v2∧w.cell? ⟨b,3,none⟩=some v3∧w.cell? ⟨b,4,none⟩=some v4):w'.cell? ⟨b,0,none⟩=some v0∧w'.cell? ⟨b,1,none⟩=some v1∧w'.cell? ⟨b,2,none⟩=some v2∧w'.cell? ⟨b,3,none⟩=some v3∧w'.cell? ⟨b,4,none⟩=some v4:=by have he:=hg.block b (dD w _ h.1) hne;exact⟨(lM (w:=w) (a:=⟨b,0,none⟩) he).trans h.1,(lM (w:=w) (a:=⟨b,1,none⟩) he).trans h.2.1,(lM (w:=w) (a:=⟨b,2,none⟩) he).trans h.2.2.1,(lM (w:=w) (a:=⟨b,3,none⟩) he).trans h.2.2.2.1,(lM (w:=w) (a:=⟨b,4,none⟩) he).trans h.2.2.2.2⟩
theorem EY (w:World) (c:Int) (a:Option Addr) (n cap:Nat) (f:Nat→T) (h:Rd w a n cap f):Calls Tryz.prog 21 #[.int .i64 c,.slice a n cap] w fun r w'=>∃v,r= .returned v∧Below w.heap.size w w'∧w'.ownsRow w.heap.size 86 5 v (fG c f n).length (aE (fG c f n)):=by
 obtain⟨i0,hi0,hz0,hz1,hz2⟩:=info_parts yN;have HR:=aA h
 by_cases hz:c=0
 ·have e1:fG c f n=[]:=by simp[fG,hz]
  rw[e1];subst hz;clear h e1;go_enter Tryz.func21,Tryz.ntmps21;go_wp2;go_ret;exact⟨_,rfl,bG _ _,pM w _⟩
 ·have hcb:(c==0)=false:=by simp[hz]
  by_cases hc:0≤c∧c≤100
  ·obtain⟨c0,c1⟩:=hc;cases hp:aO n f
   ·have e1:fG c f n=[]:=by simp[fG,hp]
    rw[e1];clear h e1 hz;go_enter Tryz.func21,Tryz.ntmps21;go_wp2_with (go_at_call 54;refine(qG _ _ c0 c1).mono ?_;rintro r w' ⟨rfl,hw'⟩;obtain rfl:=hw'.symm;clear hw');refine(eW _ _ _ _ f HR.out).mono ?_;rw[hp];rintro r w1 ⟨rfl,hb⟩;go_wp2;go_ret;exact⟨_,rfl,hb,pM w1 _⟩
   ·obtain⟨l1,c2⟩:=SH hp;have HC:=aA c2
    have e1:fG c f n=IH c f n:=by simp[fG,hp,c0,c1,hz]
    rw[e1,II];obtain⟨h1,h2,h3⟩:=h;have hn:(n:Int)≤400:=by omega
    clear e1 hz c2;go_enter Tryz.func21,Tryz.ntmps21;go_wp2_with (go_at_call 54;refine(qG _ _ c0 c1).mono ?_;rintro r w' ⟨rfl,hw'⟩;obtain rfl:=hw'.symm;clear hw');refine(eW _ _ _ _ f HR.out).mono ?_;rw[hp];rintro r w1 ⟨rfl,hb1⟩;have HB1:=aA hb1
    clear hb1;go_wp2;go_loopw [5,22] (fun v i wr=>∃k:Nat,k≤n∧i= .int .i64 k∧Below w.heap.size w wr∧wr.ownsRow w.heap.size 86 5 v k (aE (IH c f k))) (fun _ i _=>n-(intOf i).toNat);case atStart=>exact⟨0,Nat.zero_le _,rfl,HB1.out,pM w1 _⟩
    case round=>
     obtain⟨k,hk,rfl,hB,hown⟩:=hrel;by_cases hlt:k<n
     ·rcases h3 with h0|⟨b,off,rfl,hblt,hcl⟩
      ·omega
      have hkn:(k:Int)<(n:Int):=by omega
      obtain⟨g0,g1,g2,g3,g4⟩:=(hcl k hlt).below hB hblt;obtain⟨WU,WV⟩:=HC.out k hlt;obtain⟨mb1,mb2⟩:=oR c0 c1 WU WV;have HO:=aA hown
      clear hcl hown;go_wp2_with fail;have HOQ:=aA (HO.out.alloc (.cells #[.int .i64 (f k).c,.int .i64 (f k).m.x,.int .i64 (f k).m.y,.int .i64 (f k).m.d,.int .i64 (f k).m.e] 86))
      have HBQ:=aA (hB.alloc hB.size (.cells #[.int .i64 (f k).c,.int .i64 (f k).m.x,.int .i64 (f k).m.y,.int .i64 (f k).m.d,.int .i64 (f k).m.e] 86));have q:∀i v,#[Value.int .i64 (f k).c,.int .i64 (f k).m.x,.int .i64 (f k).m.y,.int .i64 (f k).m.d,.int .i64 (f k).m.e][i]? =some v→(wr.alloc (.cells #[.int .i64 (f k).c,.int .i64 (f k).m.x,.int .i64 (f k).m.y,.int .i64 (f k).m.d,.int .i64 (f k).m.e] 86)).cell? ⟨wr.heap.size,i,none⟩=some v:=fun i v hv=>by rw[World.cell?_alloc_at _ _ _ _ rfl];exact hv
      have hsz:(wr.alloc (.cells #[.int .i64 (f k).c,.int .i64 (f k).m.x,.int .i64 (f k).m.y,.int .i64 (f k).m.d,.int .i64 (f k).m.e] 86)).heap.size=wr.heap.size+1:=by simp
      generalize(wr.alloc (.cells #[.int .i64 (f k).c,.int .i64 (f k).m.x,.int .i64 (f k).m.y,.int .i64 (f k).m.d,.int .i64 (f k).m.e] 86))=wq at HOQ HBQ q hsz⊢;have q0:=q 0 _ rfl
      have q1:=q 1 _ rfl;have q2:=q 2 _ rfl
      have q3:=q 3 _ rfl;have q4:=q 4 _ rfl
      have hws:w.heap.size≤wr.heap.size:=hB.size;have HSZ:=aA hsz
      clear g0 g1 g2 g3 g4 q hsz
      go_region_held3 (fun u=>u.cell? ⟨wr.heap.size,0,none⟩=some (.int .i64 (f k).c)∧u.cell? ⟨wr.heap.size,1,none⟩=some (.int .i64 (f k).m.x)∧u.cell? ⟨wr.heap.size,2,none⟩=some (.int .i64 (f k).m.y)∧u.cell? ⟨wr.heap.size,3,none⟩=some (.int .i64 (f k).m.d)∧u.cell? ⟨wr.heap.size,4,none⟩=some (.int .i64 (f k).m.e)) (first|exact Ch hgrow (fun hh=>absurd (HO.out.lt _ hh.symm).2 (Nat.lt_irrefl _)) (by assumption)|exact Cg (by assumption)|exact Gz (by assumption)|exact⟨q0,q1,q2,q3,q4⟩) (first|(refine step_append_lies _ (by rfl) (.tmp 26) (.tmp 34) 41 (by rfl) w.heap.size 86 i0 _ 5 40 Tryz.underlying41 hi0 hz0 hz1 hz2 rfl (by omega) _ k (aE (IH c f k)) (by rfl) (by first|exact HOQ.out.alloc _|exact(dZ HOQ.out (bG _ _).drew).alloc _) ⟨wq.heap.size,0,none⟩ 1 1 (aE [⟨c*(f k).c%101,(f k).m⟩]) (by rfl) (by rw[aV];rfl) (by rw[dN];exact World.news_of_block (heap_alloc_new wq _)) (dY _) (by omega) (by unfold maxLen;omega) (by omega) (by have:=HBQ.out.size;simp;omega) _ (by rfl) ?_;intro g0 cap0 w1 hown1 hgrow hat hlt1)|(go_at_call 55;refine(Mg _ _ _).mono ?_;rw[jO c0 c1 WU WV];rintro r w2 ⟨rfl,hw2⟩;obtain rfl:=hw2.symm;clear hw2))
      have HB:=aA (((HBQ.out.alloc HBQ.out.size _).drew).grown hgrow (jQ HBQ.out.size (by simp)) (fun j hj=>(HOQ.out.lt j hj).1));have HP:=aA hown1
      clear hown1 hgrow hat hlt1 HOQ HO;go_wp2;go_roundw;case rel=>exact⟨k+1,by omega,by go_num,HB.out,by rw[MU,bK];exact HP.out⟩
      case measure=>simp[intOf];omega
     ·have hkn:k=n:=by omega
      subst hkn;have HO:=aA hown
      clear hown;go_wp2;go_ret;exact⟨_,rfl,hB,HO.out⟩
  ·have e1:fG c f n=[]:=by simp[fG,hc]
   rw[e1];have hc':c<0∨100<c:=by omega
   clear hc e1 hz h;go_enter Tryz.func21,Tryz.ntmps21;go_wp2_with (go_at_call 54;refine(oG _ _ hc').mono ?_;rintro r w' ⟨rfl,rfl⟩);go_ret;exact⟨_,rfl,bG _ _,pM _ _⟩
def bF (o:Int) (n:Nat) (f:Nat→T):Bool:=decide (1≤o∧o≤3)&&aO n f&&decide (0<n)
def bN (o:Int) (n:Nat) (f:Nat→T):T:=if bF o n f=true then f (bC o f n)else⟨0,⟨0,0,0,0⟩⟩
theorem vU {o:Int} {n:Nat} {f:Nat→T} (h:bF o n f=false):bN o n f=⟨0,⟨0,0,0,0⟩⟩:=by rw[bN,if_neg (by rw[h];decide)]
theorem eK {o:Int} {n:Nat} {f:Nat→T} (h:bF o n f=true):bN o n f=f (bC o f n):=by rw[bN,if_pos h]
end Go.Proofs.YtelkehjdfcoeiaaGreat
