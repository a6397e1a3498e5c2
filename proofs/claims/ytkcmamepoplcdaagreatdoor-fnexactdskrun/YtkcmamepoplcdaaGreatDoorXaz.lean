/-
  The model reads terms and monomials (l3Term, MonRead).
-/
import Derived.Test.YtkcmamepoplcdaaGreatDoorXay
set_option maxHeartbeats 8000000
set_option maxRecDepth 100000
namespace Go.Proofs.YtkcmamepoplcdaaGreatDoor
open Go.RowKit
set_option linter.unusedVariables false
set_option linter.unusedSimpArgs false
def W5 (w:World) (b:Nat) (x0 x1 x2 x3 x4:Int):Prop:=(w.cell? ⟨b,0,none⟩=some (.int .i64 x0)∧w.cell? ⟨b,1,none⟩=some (.int .i64 x1)∧w.cell? ⟨b,2,none⟩=some (.int .i64 x2)∧w.cell? ⟨b,3,none⟩=some (.int .i64 x3)∧w.cell? ⟨b,4,none⟩=some (.int .i64 x4))∧∀j,w.frozen? ⟨b,j,none⟩=false
theorem W5.lt {w:World} {b:Nat} {x0 x1 x2 x3 x4:Int} (h:W5 w b x0 x1 x2 x3 x4):b<w.heap.size:=EU w _ h.1.1
theorem W5.below {w w':World} {b:Nat} {x0 x1 x2 x3 x4:Int} (h:W5 w b x0 x1 x2 x3 x4) (hb:Below w.heap.size w w'):W5 w' b x0 x1 x2 x3 x4:=
 ⟨⟨(hb.cell (p:=⟨b,0,none⟩) h.lt).trans h.1.1,(hb.cell (p:=⟨b,1,none⟩) h.lt).trans h.1.2.1,(hb.cell (p:=⟨b,2,none⟩) h.lt).trans h.1.2.2.1,(hb.cell (p:=⟨b,3,none⟩) h.lt).trans h.1.2.2.2.1,(hb.cell (p:=⟨b,4,none⟩) h.lt).trans h.1.2.2.2.2⟩,fun j=>(hb.frozen (p:=⟨b,j,none⟩) h.lt).trans (h.2 j)⟩
theorem W5.box (w:World) (y:TypeId) (x0 x1 x2 x3 x4:Int):W5 (w.alloc (.cells #[.int .i64 x0,.int .i64 x1,.int .i64 x2,.int .i64 x3,.int .i64 x4] y)) w.heap.size x0 x1 x2 x3 x4:=
 ⟨⟨by rw[World.cell?_alloc_at _ _ _ _ rfl];rfl,by rw[World.cell?_alloc_at _ _ _ _ rfl];rfl,by rw[World.cell?_alloc_at _ _ _ _ rfl];rfl,by rw[World.cell?_alloc_at _ _ _ _ rfl];rfl,by rw[World.cell?_alloc_at _ _ _ _ rfl];rfl⟩,fun j=>by rw[World.frozen?_alloc_at _ _ _ _ rfl]⟩
theorem W5.other {w:World} {b:Nat} {x0 x1 x2 x3 x4:Int} (h:W5 w b x0 x1 x2 x3 x4) {b' k:Nat} (hne:b'≠b) (v:Value):W5 (w.setCell ⟨b',k,none⟩ v) b x0 x1 x2 x3 x4:=by have ne:∀j,(⟨b',k,none⟩:Addr)≠⟨b,j,none⟩:=fun j e=>hne (by cases e;rfl);exact⟨⟨by rw[World.cell?_setCell_other _ _ _ _ (ne 0)];exact h.1.1,by rw[World.cell?_setCell_other _ _ _ _ (ne 1)];exact h.1.2.1,by rw[World.cell?_setCell_other _ _ _ _ (ne 2)];exact h.1.2.2.1,by rw[World.cell?_setCell_other _ _ _ _ (ne 3)];exact h.1.2.2.2.1,by rw[World.cell?_setCell_other _ _ _ _ (ne 4)];exact h.1.2.2.2.2⟩,fun j=>by rw[World.frozen?_setCell];exact h.2 j⟩
theorem W5.set0 {w:World} {b:Nat} {x0 x1 x2 x3 x4:Int} (h:W5 w b x0 x1 x2 x3 x4) (v:Int):W5 (w.setCell ⟨b,0,none⟩ (.int .i64 v)) b v x1 x2 x3 x4:=
 ⟨⟨World.cell?_setCell_same _ _ _ h.1.1,by rw[World.cell?_setCell_other _ _ _ _ (by simp)];exact h.1.2.1,by rw[World.cell?_setCell_other _ _ _ _ (by simp)];exact h.1.2.2.1,by rw[World.cell?_setCell_other _ _ _ _ (by simp)];exact h.1.2.2.2.1,by rw[World.cell?_setCell_other _ _ _ _ (by simp)];exact h.1.2.2.2.2⟩,fun j=>by rw[World.frozen?_setCell];exact h.2 j⟩
theorem W5.set1 {w:World} {b:Nat} {x0 x1 x2 x3 x4:Int} (h:W5 w b x0 x1 x2 x3 x4) (v:Int):W5 (w.setCell ⟨b,1,none⟩ (.int .i64 v)) b x0 v x2 x3 x4:=
 ⟨⟨by rw[World.cell?_setCell_other _ _ _ _ (by simp)];exact h.1.1,World.cell?_setCell_same _ _ _ h.1.2.1,by rw[World.cell?_setCell_other _ _ _ _ (by simp)];exact h.1.2.2.1,by rw[World.cell?_setCell_other _ _ _ _ (by simp)];exact h.1.2.2.2.1,by rw[World.cell?_setCell_other _ _ _ _ (by simp)];exact h.1.2.2.2.2⟩,fun j=>by rw[World.frozen?_setCell];exact h.2 j⟩
theorem W5.set2 {w:World} {b:Nat} {x0 x1 x2 x3 x4:Int} (h:W5 w b x0 x1 x2 x3 x4) (v:Int):W5 (w.setCell ⟨b,2,none⟩ (.int .i64 v)) b x0 x1 v x3 x4:=
 ⟨⟨by rw[World.cell?_setCell_other _ _ _ _ (by simp)];exact h.1.1,by rw[World.cell?_setCell_other _ _ _ _ (by simp)];exact h.1.2.1,World.cell?_setCell_same _ _ _ h.1.2.2.1,by rw[World.cell?_setCell_other _ _ _ _ (by simp)];exact h.1.2.2.2.1,by rw[World.cell?_setCell_other _ _ _ _ (by simp)];exact h.1.2.2.2.2⟩,fun j=>by rw[World.frozen?_setCell];exact h.2 j⟩
theorem W5.set3 {w:World} {b:Nat} {x0 x1 x2 x3 x4:Int} (h:W5 w b x0 x1 x2 x3 x4) (v:Int):W5 (w.setCell ⟨b,3,none⟩ (.int .i64 v)) b x0 x1 x2 v x4:=
 ⟨⟨by rw[World.cell?_setCell_other _ _ _ _ (by simp)];exact h.1.1,by rw[World.cell?_setCell_other _ _ _ _ (by simp)];exact h.1.2.1,by rw[World.cell?_setCell_other _ _ _ _ (by simp)];exact h.1.2.2.1,World.cell?_setCell_same _ _ _ h.1.2.2.2.1,by rw[World.cell?_setCell_other _ _ _ _ (by simp)];exact h.1.2.2.2.2⟩,fun j=>by rw[World.frozen?_setCell];exact h.2 j⟩
theorem W5.set4 {w:World} {b:Nat} {x0 x1 x2 x3 x4:Int} (h:W5 w b x0 x1 x2 x3 x4) (v:Int):W5 (w.setCell ⟨b,4,none⟩ (.int .i64 v)) b x0 x1 x2 x3 v:=
 ⟨⟨by rw[World.cell?_setCell_other _ _ _ _ (by simp)];exact h.1.1,by rw[World.cell?_setCell_other _ _ _ _ (by simp)];exact h.1.2.1,by rw[World.cell?_setCell_other _ _ _ _ (by simp)];exact h.1.2.2.1,by rw[World.cell?_setCell_other _ _ _ _ (by simp)];exact h.1.2.2.2.1,World.cell?_setCell_same _ _ _ h.1.2.2.2.2⟩,fun j=>by rw[World.frozen?_setCell];exact h.2 j⟩
def TQ (w:World) (wr:World) (t:T):Prop:=Below w.heap.size w wr∧W5 wr w.heap.size 0 0 0 0 0∧W5 wr (w.heap.size+1) t.c t.m.x t.m.y t.m.d t.m.e
theorem qK {c:UInt8} {z:Nat} (h:c.toNat=z) (hz:z=120) (n:Int) (t:T):bG c n t=⟨t.c,⟨n,t.m.y,t.m.d,t.m.e⟩⟩:=by unfold bG;rw[h,if_pos hz]
theorem qL {c:UInt8} {z:Nat} (h:c.toNat=z) (hz:z=121) (n:Int) (t:T):bG c n t=⟨t.c,⟨t.m.x,n,t.m.d,t.m.e⟩⟩:=by unfold bG;rw[h,if_neg (by omega),if_pos hz]
theorem qI {c:UInt8} {z:Nat} (h:c.toNat=z) (hz:z=100) (n:Int) (t:T):bG c n t=⟨t.c,⟨t.m.x,t.m.y,n,t.m.e⟩⟩:=by unfold bG;rw[h,if_neg (by omega),if_neg (by omega),if_pos hz]
theorem qJ {c:UInt8} {z:Nat} (h:c.toNat=z) (hz:z=101) (n:Int) (t:T):bG c n t=⟨t.c,⟨t.m.x,t.m.y,t.m.d,n⟩⟩:=by unfold bG;rw[h,if_neg (by omega),if_neg (by omega),if_neg (by omega)]
theorem GF {c:UInt8} {z:Nat} (h:c.toNat=z):pP c=decide (z=120∨z=121∨z=100∨z=101):=by unfold pP;rw[h]
theorem MB (s:List UInt8) (hs:s.length≤1048576) (w:World):Calls Tryz.prog 64 #[.string ⟨s.toArray⟩] w fun r w'=>r= .returned (.agg #[.int .i64 (gK s).c,.int .i64 (gK s).m.x,.int .i64 (gK s).m.y,.int .i64 (gK s).m.d,.int .i64 (gK s).m.e])∧Below w.heap.size w w':=by
 have hsI:(s.length:Int)≤1048576:=by omega
 obtain⟨R,hR⟩:∃R,gK s=R:=⟨_,rfl⟩
 rw[hR];have HR:=aA hR
 clear hR;have b1:=aF w (.cells #[.int .i64 0,.int .i64 0,.int .i64 0,.int .i64 0,.int .i64 0] 79)
 have b2:=aC b1 (aF (w.alloc (.cells #[.int .i64 0,.int .i64 0,.int .i64 0,.int .i64 0,.int .i64 0] 79)) (.cells #[.int .i64 1,.int .i64 0,.int .i64 0,.int .i64 0,.int .i64 0] 79))
 have HQ0:Hid (TQ w ((w.alloc (.cells #[.int .i64 0,.int .i64 0,.int .i64 0,.int .i64 0,.int .i64 0] 79)).alloc (.cells #[.int .i64 1,.int .i64 0,.int .i64 0,.int .i64 0,.int .i64 0] 79)) ⟨1,⟨0,0,0,0⟩⟩):=
  ⟨b2,(W5.box w 79 0 0 0 0 0).below (aF _ _),by
   have:=W5.box (w.alloc (.cells #[.int .i64 0,.int .i64 0,.int .i64 0,.int .i64 0,.int .i64 0] 79)) 79 1 0 0 0 0;rw[World.size_alloc]at this
   exact this⟩
 clear b1 b2;have hneB:w.heap.size+1≠w.heap.size:=by omega
 have hneB2:w.heap.size≠w.heap.size+1:=by omega
 have HN0:=aA (oT s hs 0 (gO _));rw[List.drop_zero,Nat.zero_add]at HN0;obtain⟨d0,hd0⟩:∃d,(bV s).length=d:=⟨_,rfl⟩
 obtain⟨n0,hn0⟩:∃n,nv (bV s)=n:=⟨_,rfl⟩
 have hd0l:d0≤s.length:=by rw[←hd0];exact gV s
 have HRR:Hid (∃f,(s.drop d0).length≤f∧yD f ⟨if 0<d0 then n0 else 1,⟨0,0,0,0⟩⟩ (s.drop d0)=R):=by
  refine⟨_,Nat.le_refl _,?_⟩;have:=HR.out
  unfold gK NH at this;rw[hd0,hn0]at this;exact this
 rw[hd0,hn0]at HN0;clear hd0 hn0 HR;have hd0I:(d0:Int)≤1048576:=by omega
 go_enter Tryz.func64,Tryz.ntmps64;go_wp2_with fail;refine(HN0.out _).mono ?_;rintro r w1 ⟨rfl,hw1⟩;obtain rfl:=hw1.symm;clear hw1;by_cases hd00:0<d0
 ·have HRS:Hid (∃f,(s.drop d0).length≤f∧yD f ⟨n0,⟨0,0,0,0⟩⟩ (s.drop d0)=R):=by have:=HRR.out;rw[if_pos hd00]at this;exact this
  have hd01:(0:Int)<(d0:Int):=by omega
  have hd02:decide (0<d0)=true:=decide_eq_true hd00
  have HQS:Hid (TQ w ((w.alloc (.cells #[.int .i64 0,.int .i64 0,.int .i64 0,.int .i64 0,.int .i64 0] 79)).alloc (.cells #[.int .i64 n0,.int .i64 0,.int .i64 0,.int .i64 0,.int .i64 0] 79)) ⟨n0,⟨0,0,0,0⟩⟩):=⟨aC (aF w _) (aF _ _),(W5.box w 79 0 0 0 0 0).below (aF _ _),by
   have:=W5.box (w.alloc (.cells #[.int .i64 0,.int .i64 0,.int .i64 0,.int .i64 0,.int .i64 0] 79)) 79 n0 0 0 0 0;rw[World.size_alloc]at this
   exact this⟩
  clear HRR hd00 HQ0;go_wp2
  (try simp only[hd02])
  go_loopw [5] (fun v5 wr=>∃(q:Nat) (t:T),q≤s.length∧v5= .int .i64 (q:Int)∧Hid (TQ w wr t)∧Hid (∃f,(s.drop q).length≤f∧yD f t (s.drop q)=R)) (fun v5 _=>s.length-(intOf v5).toNat);case atStart=>exact⟨d0,⟨n0,⟨0,0,0,0⟩⟩,hd0l,by first|rfl|go_num,HQS,HRS⟩
  case round=>
   obtain⟨q,t,hql,rfl,HTQ,HF⟩:=hrel;by_cases hq:q<s.length
   ·have hqI:(q:Int)<(s.length:Int):=by omega
    obtain⟨c,hc⟩:∃c,s[q]? =some c:=⟨_,List.getElem?_eq_getElem hq⟩
    have hix:=gJ hc;have HDR:Hid (s.drop q=c::s.drop (q+1)):=by rw[List.drop_eq_getElem_cons hq];have:=(List.getElem?_eq_some_iff.1 hc).2;rw[this];exact aA rfl
    obtain⟨z,hz⟩:∃z:Nat,c.toNat=z:=⟨_,rfl⟩
    have HZ:=aA hz;rw[hz]at hix;clear hc hz;have HN:=aA (oT s hs (q+1) hq)
    obtain⟨L,hL⟩:∃L,(bV (s.drop (q+1))).length=L:=⟨_,rfl⟩
    obtain⟨V,hV⟩:∃V,nv (bV (s.drop (q+1)))=V:=⟨_,rfl⟩
    obtain⟨nn,hnn⟩:∃n,OA (s.drop (q+1))=n:=⟨_,rfl⟩
    have hnn2:nn=if L=0 then 1 else V:=by rw[←hnn];unfold OA;rw[hL,hV]
    obtain⟨k,hk⟩:∃k,q+1+L=k:=⟨_,rfl⟩
    have hks:k≤s.length:=by have:=gV (s.drop (q+1));rw[hL,List.length_drop]at this;omega
    have hqk:q<k:=by omega
    have HYES:Hid (pP c=true→∃f',(s.drop k).length≤f'∧yD f' (bG c nn t) (s.drop k)=R):=fun hl=>by
     obtain⟨f,hf,he⟩:=HF.out;rw[HDR.out]at hf he;obtain⟨f',rfl⟩:∃f',f=f'+1:=⟨f-1,by simp at hf;omega⟩
     rw[qA hl,hnn,hL,List.drop_drop,hk]at he;refine⟨f',?_,he⟩;rw[List.length_cons,List.length_drop]at hf;rw[List.length_drop];omega
    have HNO:Hid (pP c=false→R=⟨0,⟨0,0,0,0⟩⟩):=fun hl=>by
     obtain⟨f,hf,he⟩:=HF.out;rw[HDR.out]at hf he;obtain⟨f',rfl⟩:∃f',f=f'+1:=⟨f-1,by simp at hf;omega⟩
     rw[GS hl]at he;exact he.symm
    rw[hL,hV,hk]at HN;have HIL:=aA (GF HZ.out)
    have HKQ:Hid (k=q+1+L):=hk.symm;have HNN:=aA hnn2
    clear hL hV hnn hnn2 hk HF HDR;have hkI:(k:Int)≤1048576:=by omega
    have hqw:IntKind.i64.wrap ((q:Int)+1)=(q:Int)+1:=by rw[IntKind.wrap_i64];omega
    have HN2:Hid (∀u:World,Calls Tryz.prog 94 #[.string ⟨s.toArray⟩,.int .i64 ((q:Int)+1)] u fun r w'=>r= .returned (.tuple #[.int .i64 V,.int .i64 (k:Int)])∧w'=u):=fun u=>by have:=HN.out u;rw[Int.natCast_add]at this;exact this
    obtain⟨⟨c0,c1,c2,c3,c4⟩,cz⟩:=HTQ.out.2.2;obtain⟨⟨r0,r1,r2,r3,r4⟩,rz⟩:=HTQ.out.2.1;by_cases hL0:L=0
    ·have hke:((k:Int)==(q:Int)+1)=true:=by have:=HKQ.out;simp;omega
     have hne1:nn=1:=by rw[HNN.out,if_pos hL0]
     subst hne1;clear HNN hL0;by_cases hz120:z=120
     ·skip
      have HSE:=aA (qK HZ.out hz120 1 t);have HY:=aA (HYES.out (by rw[HIL.out];exact decide_eq_true (by omega)))
      have HT2:Hid (TQ w (wr.setCell ⟨w.heap.size+1,1,none⟩ (.int .i64 1)) (bG c 1 t)):=by rw[HSE.out];exact⟨HTQ.out.1.setCell (by simp) _,HTQ.out.2.1.other hneB _,HTQ.out.2.2.set1 _⟩
      have hb120:((z:Int)==120)=true:=by simp;omega
      have hb121:((z:Int)==121)=false:=by simp;omega
      have hb100:((z:Int)==100)=false:=by simp;omega
      have hb101:((z:Int)==101)=false:=by simp;omega
      clear HYES HNO HIL HSE hz120 HZ;go_wp2_with fail;refine(HN2.out _).mono ?_;rintro r w2 ⟨rfl,hw2⟩;obtain rfl:=hw2.symm;clear hw2;go_wp2;go_roundw;case rel=>exact⟨k,bG c 1 t,hks,rfl,HT2,HY⟩
      case measure=>simp[intOf];omega
     by_cases hz121:z=121
     ·skip
      have HSE:=aA (qL HZ.out hz121 1 t);have HY:=aA (HYES.out (by rw[HIL.out];exact decide_eq_true (by omega)))
      have HT2:Hid (TQ w (wr.setCell ⟨w.heap.size+1,2,none⟩ (.int .i64 1)) (bG c 1 t)):=by rw[HSE.out];exact⟨HTQ.out.1.setCell (by simp) _,HTQ.out.2.1.other hneB _,HTQ.out.2.2.set2 _⟩
      have hb120:((z:Int)==120)=false:=by simp;omega
      have hb121:((z:Int)==121)=true:=by simp;omega
      have hb100:((z:Int)==100)=false:=by simp;omega
      have hb101:((z:Int)==101)=false:=by simp;omega
      clear HYES HNO HIL HSE hz121 HZ;go_wp2_with fail;refine(HN2.out _).mono ?_;rintro r w2 ⟨rfl,hw2⟩;obtain rfl:=hw2.symm;clear hw2;go_wp2;go_roundw;case rel=>exact⟨k,bG c 1 t,hks,rfl,HT2,HY⟩
      case measure=>simp[intOf];omega
     by_cases hz100:z=100
     ·skip
      have HSE:=aA (qI HZ.out hz100 1 t);have HY:=aA (HYES.out (by rw[HIL.out];exact decide_eq_true (by omega)))
      have HT2:Hid (TQ w (wr.setCell ⟨w.heap.size+1,3,none⟩ (.int .i64 1)) (bG c 1 t)):=by rw[HSE.out];exact⟨HTQ.out.1.setCell (by simp) _,HTQ.out.2.1.other hneB _,HTQ.out.2.2.set3 _⟩
      have hb120:((z:Int)==120)=false:=by simp;omega
      have hb121:((z:Int)==121)=false:=by simp;omega
      have hb100:((z:Int)==100)=true:=by simp;omega
      have hb101:((z:Int)==101)=false:=by simp;omega
      clear HYES HNO HIL HSE hz100 HZ;go_wp2_with fail;refine(HN2.out _).mono ?_;rintro r w2 ⟨rfl,hw2⟩;obtain rfl:=hw2.symm;clear hw2;go_wp2;go_roundw;case rel=>exact⟨k,bG c 1 t,hks,rfl,HT2,HY⟩
      case measure=>simp[intOf];omega
     by_cases hz101:z=101
     ·skip
      have HSE:=aA (qJ HZ.out hz101 1 t);have HY:=aA (HYES.out (by rw[HIL.out];exact decide_eq_true (by omega)))
      have HT2:Hid (TQ w (wr.setCell ⟨w.heap.size+1,4,none⟩ (.int .i64 1)) (bG c 1 t)):=by rw[HSE.out];exact⟨HTQ.out.1.setCell (by simp) _,HTQ.out.2.1.other hneB _,HTQ.out.2.2.set4 _⟩
      have hb120:((z:Int)==120)=false:=by simp;omega
      have hb121:((z:Int)==121)=false:=by simp;omega
      have hb100:((z:Int)==100)=false:=by simp;omega
      have hb101:((z:Int)==101)=true:=by simp;omega
      clear HYES HNO HIL HSE hz101 HZ;go_wp2_with fail;refine(HN2.out _).mono ?_;rintro r w2 ⟨rfl,hw2⟩;obtain rfl:=hw2.symm;clear hw2;go_wp2;go_roundw;case rel=>exact⟨k,bG c 1 t,hks,rfl,HT2,HY⟩
      case measure=>simp[intOf];omega
     have HRZ:=aA (HNO.out (by rw[HIL.out];exact decide_eq_false (by omega)));have hb120:((z:Int)==120)=false:=by simp;omega
     have hb121:((z:Int)==121)=false:=by simp;omega
     have hb100:((z:Int)==100)=false:=by simp;omega
     have hb101:((z:Int)==101)=false:=by simp;omega
     clear HYES HNO HIL HZ hz120 hz121 hz100 hz101;go_wp2_with fail;refine(HN2.out _).mono ?_;rintro r w2 ⟨rfl,hw2⟩;obtain rfl:=hw2.symm;clear hw2;go_wp2;refine bC (v:=.agg #[.int .i64 0,.int .i64 0,.int .i64 0,.int .i64 0,.int .i64 0]) (by simp[results,Tryz.results64,go_sem, *]) rfl ⟨by rw[HRZ.out],?_⟩;exact((((HTQ.out.1.setCell (Nat.le_refl _) _).setCell (Nat.le_refl _) _).setCell (Nat.le_refl _) _).setCell (Nat.le_refl _) _).setCell (Nat.le_refl _) _
    ·have hke:((k:Int)==(q:Int)+1)=false:=by have:=HKQ.out;simp;omega
     have hne1:nn=V:=by rw[HNN.out,if_neg hL0]
     subst hne1;clear HNN hL0;by_cases hz120:z=120
     ·skip
      have HSE:=aA (qK HZ.out hz120 nn t);have HY:=aA (HYES.out (by rw[HIL.out];exact decide_eq_true (by omega)))
      have HT2:Hid (TQ w (wr.setCell ⟨w.heap.size+1,1,none⟩ (.int .i64 nn)) (bG c nn t)):=by rw[HSE.out];exact⟨HTQ.out.1.setCell (by simp) _,HTQ.out.2.1.other hneB _,HTQ.out.2.2.set1 _⟩
      have hb120:((z:Int)==120)=true:=by simp;omega
      have hb121:((z:Int)==121)=false:=by simp;omega
      have hb100:((z:Int)==100)=false:=by simp;omega
      have hb101:((z:Int)==101)=false:=by simp;omega
      clear HYES HNO HIL HSE hz120 HZ;go_wp2_with fail;refine(HN2.out _).mono ?_;rintro r w2 ⟨rfl,hw2⟩;obtain rfl:=hw2.symm;clear hw2;go_wp2;go_roundw;case rel=>exact⟨k,bG c nn t,hks,rfl,HT2,HY⟩
      case measure=>simp[intOf];omega
     by_cases hz121:z=121
     ·skip
      have HSE:=aA (qL HZ.out hz121 nn t);have HY:=aA (HYES.out (by rw[HIL.out];exact decide_eq_true (by omega)))
      have HT2:Hid (TQ w (wr.setCell ⟨w.heap.size+1,2,none⟩ (.int .i64 nn)) (bG c nn t)):=by rw[HSE.out];exact⟨HTQ.out.1.setCell (by simp) _,HTQ.out.2.1.other hneB _,HTQ.out.2.2.set2 _⟩
      have hb120:((z:Int)==120)=false:=by simp;omega
      have hb121:((z:Int)==121)=true:=by simp;omega
      have hb100:((z:Int)==100)=false:=by simp;omega
      have hb101:((z:Int)==101)=false:=by simp;omega
      clear HYES HNO HIL HSE hz121 HZ;go_wp2_with fail;refine(HN2.out _).mono ?_;rintro r w2 ⟨rfl,hw2⟩;obtain rfl:=hw2.symm;clear hw2;go_wp2;go_roundw;case rel=>exact⟨k,bG c nn t,hks,rfl,HT2,HY⟩
      case measure=>simp[intOf];omega
     by_cases hz100:z=100
     ·skip
      have HSE:=aA (qI HZ.out hz100 nn t);have HY:=aA (HYES.out (by rw[HIL.out];exact decide_eq_true (by omega)))
      have HT2:Hid (TQ w (wr.setCell ⟨w.heap.size+1,3,none⟩ (.int .i64 nn)) (bG c nn t)):=by rw[HSE.out];exact⟨HTQ.out.1.setCell (by simp) _,HTQ.out.2.1.other hneB _,HTQ.out.2.2.set3 _⟩
      have hb120:((z:Int)==120)=false:=by simp;omega
      have hb121:((z:Int)==121)=false:=by simp;omega
      have hb100:((z:Int)==100)=true:=by simp;omega
      have hb101:((z:Int)==101)=false:=by simp;omega
      clear HYES HNO HIL HSE hz100 HZ;go_wp2_with fail;refine(HN2.out _).mono ?_;rintro r w2 ⟨rfl,hw2⟩;obtain rfl:=hw2.symm;clear hw2;go_wp2;go_roundw;case rel=>exact⟨k,bG c nn t,hks,rfl,HT2,HY⟩
      case measure=>simp[intOf];omega
     by_cases hz101:z=101
     ·skip
      have HSE:=aA (qJ HZ.out hz101 nn t);have HY:=aA (HYES.out (by rw[HIL.out];exact decide_eq_true (by omega)))
      have HT2:Hid (TQ w (wr.setCell ⟨w.heap.size+1,4,none⟩ (.int .i64 nn)) (bG c nn t)):=by rw[HSE.out];exact⟨HTQ.out.1.setCell (by simp) _,HTQ.out.2.1.other hneB _,HTQ.out.2.2.set4 _⟩
      have hb120:((z:Int)==120)=false:=by simp;omega
      have hb121:((z:Int)==121)=false:=by simp;omega
      have hb100:((z:Int)==100)=false:=by simp;omega
      have hb101:((z:Int)==101)=true:=by simp;omega
      clear HYES HNO HIL HSE hz101 HZ;go_wp2_with fail;refine(HN2.out _).mono ?_;rintro r w2 ⟨rfl,hw2⟩;obtain rfl:=hw2.symm;clear hw2;go_wp2;go_roundw;case rel=>exact⟨k,bG c nn t,hks,rfl,HT2,HY⟩
      case measure=>simp[intOf];omega
     have HRZ:=aA (HNO.out (by rw[HIL.out];exact decide_eq_false (by omega)));have hb120:((z:Int)==120)=false:=by simp;omega
     have hb121:((z:Int)==121)=false:=by simp;omega
     have hb100:((z:Int)==100)=false:=by simp;omega
     have hb101:((z:Int)==101)=false:=by simp;omega
     clear HYES HNO HIL HZ hz120 hz121 hz100 hz101;go_wp2_with fail;refine(HN2.out _).mono ?_;rintro r w2 ⟨rfl,hw2⟩;obtain rfl:=hw2.symm;clear hw2;go_wp2;refine bC (v:=.agg #[.int .i64 0,.int .i64 0,.int .i64 0,.int .i64 0,.int .i64 0]) (by simp[results,Tryz.results64,go_sem, *]) rfl ⟨by rw[HRZ.out],?_⟩;exact((((HTQ.out.1.setCell (Nat.le_refl _) _).setCell (Nat.le_refl _) _).setCell (Nat.le_refl _) _).setCell (Nat.le_refl _) _).setCell (Nat.le_refl _) _
   ·have hqe:¬(q:Int)<(s.length:Int):=by omega
    have HRT:Hid (R=t):=by obtain⟨f,hf,he⟩:=HF.out;rw[List.drop_eq_nil_of_le (by omega),pZ]at he;exact aA he.symm
    obtain⟨⟨c0,c1,c2,c3,c4⟩,cz⟩:=HTQ.out.2.2;obtain⟨⟨r0,r1,r2,r3,r4⟩,rz⟩:=HTQ.out.2.1;go_wp2;refine bC (v:=.agg #[.int .i64 t.c,.int .i64 t.m.x,.int .i64 t.m.y,.int .i64 t.m.d,.int .i64 t.m.e]) (by simp[results,Tryz.results64,go_sem, *]) rfl ⟨by rw[HRT.out],?_⟩;exact((((HTQ.out.1.setCell (Nat.le_refl _) _).setCell (Nat.le_refl _) _).setCell (Nat.le_refl _) _).setCell (Nat.le_refl _) _).setCell (Nat.le_refl _) _
 ·have HRS:Hid (∃f,(s.drop d0).length≤f∧yD f ⟨1,⟨0,0,0,0⟩⟩ (s.drop d0)=R):=by have:=HRR.out;rw[if_neg hd00]at this;exact this
  have hd01:¬(0:Int)<(d0:Int):=by omega
  have hd02:decide (0<d0)=false:=decide_eq_false hd00;have HQS:=HQ0
  clear HRR hd00 HQ0;go_wp2
  (try simp only[hd02])
  go_loopw [5] (fun v5 wr=>∃(q:Nat) (t:T),q≤s.length∧v5= .int .i64 (q:Int)∧Hid (TQ w wr t)∧Hid (∃f,(s.drop q).length≤f∧yD f t (s.drop q)=R)) (fun v5 _=>s.length-(intOf v5).toNat);case atStart=>exact⟨d0,⟨1,⟨0,0,0,0⟩⟩,hd0l,by first|rfl|go_num,HQS,HRS⟩
  case round=>
   obtain⟨q,t,hql,rfl,HTQ,HF⟩:=hrel;by_cases hq:q<s.length
   ·have hqI:(q:Int)<(s.length:Int):=by omega
    obtain⟨c,hc⟩:∃c,s[q]? =some c:=⟨_,List.getElem?_eq_getElem hq⟩
    have hix:=gJ hc;have HDR:Hid (s.drop q=c::s.drop (q+1)):=by rw[List.drop_eq_getElem_cons hq];have:=(List.getElem?_eq_some_iff.1 hc).2;rw[this];exact aA rfl
    obtain⟨z,hz⟩:∃z:Nat,c.toNat=z:=⟨_,rfl⟩
    have HZ:=aA hz;rw[hz]at hix;clear hc hz;have HN:=aA (oT s hs (q+1) hq)
    obtain⟨L,hL⟩:∃L,(bV (s.drop (q+1))).length=L:=⟨_,rfl⟩
    obtain⟨V,hV⟩:∃V,nv (bV (s.drop (q+1)))=V:=⟨_,rfl⟩
    obtain⟨nn,hnn⟩:∃n,OA (s.drop (q+1))=n:=⟨_,rfl⟩
    have hnn2:nn=if L=0 then 1 else V:=by rw[←hnn];unfold OA;rw[hL,hV]
    obtain⟨k,hk⟩:∃k,q+1+L=k:=⟨_,rfl⟩
    have hks:k≤s.length:=by have:=gV (s.drop (q+1));rw[hL,List.length_drop]at this;omega
    have hqk:q<k:=by omega
    have HYES:Hid (pP c=true→∃f',(s.drop k).length≤f'∧yD f' (bG c nn t) (s.drop k)=R):=fun hl=>by
     obtain⟨f,hf,he⟩:=HF.out;rw[HDR.out]at hf he;obtain⟨f',rfl⟩:∃f',f=f'+1:=⟨f-1,by simp at hf;omega⟩
     rw[qA hl,hnn,hL,List.drop_drop,hk]at he;refine⟨f',?_,he⟩;rw[List.length_cons,List.length_drop]at hf;rw[List.length_drop];omega
    have HNO:Hid (pP c=false→R=⟨0,⟨0,0,0,0⟩⟩):=fun hl=>by
     obtain⟨f,hf,he⟩:=HF.out;rw[HDR.out]at hf he;obtain⟨f',rfl⟩:∃f',f=f'+1:=⟨f-1,by simp at hf;omega⟩
     rw[GS hl]at he;exact he.symm
    rw[hL,hV,hk]at HN;have HIL:=aA (GF HZ.out)
    have HKQ:Hid (k=q+1+L):=hk.symm;have HNN:=aA hnn2
    clear hL hV hnn hnn2 hk HF HDR;have hkI:(k:Int)≤1048576:=by omega
    have hqw:IntKind.i64.wrap ((q:Int)+1)=(q:Int)+1:=by rw[IntKind.wrap_i64];omega
    have HN2:Hid (∀u:World,Calls Tryz.prog 94 #[.string ⟨s.toArray⟩,.int .i64 ((q:Int)+1)] u fun r w'=>r= .returned (.tuple #[.int .i64 V,.int .i64 (k:Int)])∧w'=u):=fun u=>by have:=HN.out u;rw[Int.natCast_add]at this;exact this
    obtain⟨⟨c0,c1,c2,c3,c4⟩,cz⟩:=HTQ.out.2.2;obtain⟨⟨r0,r1,r2,r3,r4⟩,rz⟩:=HTQ.out.2.1;by_cases hL0:L=0
    ·have hke:((k:Int)==(q:Int)+1)=true:=by have:=HKQ.out;simp;omega
     have hne1:nn=1:=by rw[HNN.out,if_pos hL0]
     subst hne1;clear HNN hL0;by_cases hz120:z=120
     ·skip
      have HSE:=aA (qK HZ.out hz120 1 t);have HY:=aA (HYES.out (by rw[HIL.out];exact decide_eq_true (by omega)))
      have HT2:Hid (TQ w (wr.setCell ⟨w.heap.size+1,1,none⟩ (.int .i64 1)) (bG c 1 t)):=by rw[HSE.out];exact⟨HTQ.out.1.setCell (by simp) _,HTQ.out.2.1.other hneB _,HTQ.out.2.2.set1 _⟩
      have hb120:((z:Int)==120)=true:=by simp;omega
      have hb121:((z:Int)==121)=false:=by simp;omega
      have hb100:((z:Int)==100)=false:=by simp;omega
      have hb101:((z:Int)==101)=false:=by simp;omega
      clear HYES HNO HIL HSE hz120 HZ;go_wp2_with fail;refine(HN2.out _).mono ?_;rintro r w2 ⟨rfl,hw2⟩;obtain rfl:=hw2.symm;clear hw2;go_wp2;go_roundw;case rel=>exact⟨k,bG c 1 t,hks,rfl,HT2,HY⟩
      case measure=>simp[intOf];omega
     by_cases hz121:z=121
     ·skip
      have HSE:=aA (qL HZ.out hz121 1 t);have HY:=aA (HYES.out (by rw[HIL.out];exact decide_eq_true (by omega)))
      have HT2:Hid (TQ w (wr.setCell ⟨w.heap.size+1,2,none⟩ (.int .i64 1)) (bG c 1 t)):=by rw[HSE.out];exact⟨HTQ.out.1.setCell (by simp) _,HTQ.out.2.1.other hneB _,HTQ.out.2.2.set2 _⟩
      have hb120:((z:Int)==120)=false:=by simp;omega
      have hb121:((z:Int)==121)=true:=by simp;omega
      have hb100:((z:Int)==100)=false:=by simp;omega
      have hb101:((z:Int)==101)=false:=by simp;omega
      clear HYES HNO HIL HSE hz121 HZ;go_wp2_with fail;refine(HN2.out _).mono ?_;rintro r w2 ⟨rfl,hw2⟩;obtain rfl:=hw2.symm;clear hw2;go_wp2;go_roundw;case rel=>exact⟨k,bG c 1 t,hks,rfl,HT2,HY⟩
      case measure=>simp[intOf];omega
     by_cases hz100:z=100
     ·skip
      have HSE:=aA (qI HZ.out hz100 1 t);have HY:=aA (HYES.out (by rw[HIL.out];exact decide_eq_true (by omega)))
      have HT2:Hid (TQ w (wr.setCell ⟨w.heap.size+1,3,none⟩ (.int .i64 1)) (bG c 1 t)):=by rw[HSE.out];exact⟨HTQ.out.1.setCell (by simp) _,HTQ.out.2.1.other hneB _,HTQ.out.2.2.set3 _⟩
      have hb120:((z:Int)==120)=false:=by simp;omega
      have hb121:((z:Int)==121)=false:=by simp;omega
      have hb100:((z:Int)==100)=true:=by simp;omega
      have hb101:((z:Int)==101)=false:=by simp;omega
      clear HYES HNO HIL HSE hz100 HZ;go_wp2_with fail;refine(HN2.out _).mono ?_;rintro r w2 ⟨rfl,hw2⟩;obtain rfl:=hw2.symm;clear hw2;go_wp2;go_roundw;case rel=>exact⟨k,bG c 1 t,hks,rfl,HT2,HY⟩
      case measure=>simp[intOf];omega
     by_cases hz101:z=101
     ·skip
      have HSE:=aA (qJ HZ.out hz101 1 t);have HY:=aA (HYES.out (by rw[HIL.out];exact decide_eq_true (by omega)))
      have HT2:Hid (TQ w (wr.setCell ⟨w.heap.size+1,4,none⟩ (.int .i64 1)) (bG c 1 t)):=by rw[HSE.out];exact⟨HTQ.out.1.setCell (by simp) _,HTQ.out.2.1.other hneB _,HTQ.out.2.2.set4 _⟩
      have hb120:((z:Int)==120)=false:=by simp;omega
      have hb121:((z:Int)==121)=false:=by simp;omega
      have hb100:((z:Int)==100)=false:=by simp;omega
      have hb101:((z:Int)==101)=true:=by simp;omega
      clear HYES HNO HIL HSE hz101 HZ;go_wp2_with fail;refine(HN2.out _).mono ?_;rintro r w2 ⟨rfl,hw2⟩;obtain rfl:=hw2.symm;clear hw2;go_wp2;go_roundw;case rel=>exact⟨k,bG c 1 t,hks,rfl,HT2,HY⟩
      case measure=>simp[intOf];omega
     have HRZ:=aA (HNO.out (by rw[HIL.out];exact decide_eq_false (by omega)));have hb120:((z:Int)==120)=false:=by simp;omega
     have hb121:((z:Int)==121)=false:=by simp;omega
     have hb100:((z:Int)==100)=false:=by simp;omega
     have hb101:((z:Int)==101)=false:=by simp;omega
     clear HYES HNO HIL HZ hz120 hz121 hz100 hz101;go_wp2_with fail;refine(HN2.out _).mono ?_;rintro r w2 ⟨rfl,hw2⟩;obtain rfl:=hw2.symm;clear hw2;go_wp2;refine bC (v:=.agg #[.int .i64 0,.int .i64 0,.int .i64 0,.int .i64 0,.int .i64 0]) (by simp[results,Tryz.results64,go_sem, *]) rfl ⟨by rw[HRZ.out],?_⟩;exact((((HTQ.out.1.setCell (Nat.le_refl _) _).setCell (Nat.le_refl _) _).setCell (Nat.le_refl _) _).setCell (Nat.le_refl _) _).setCell (Nat.le_refl _) _
    ·have hke:((k:Int)==(q:Int)+1)=false:=by have:=HKQ.out;simp;omega
     have hne1:nn=V:=by rw[HNN.out,if_neg hL0]
     subst hne1;clear HNN hL0;by_cases hz120:z=120
     ·skip
      have HSE:=aA (qK HZ.out hz120 nn t);have HY:=aA (HYES.out (by rw[HIL.out];exact decide_eq_true (by omega)))
      have HT2:Hid (TQ w (wr.setCell ⟨w.heap.size+1,1,none⟩ (.int .i64 nn)) (bG c nn t)):=by rw[HSE.out];exact⟨HTQ.out.1.setCell (by simp) _,HTQ.out.2.1.other hneB _,HTQ.out.2.2.set1 _⟩
      have hb120:((z:Int)==120)=true:=by simp;omega
      have hb121:((z:Int)==121)=false:=by simp;omega
      have hb100:((z:Int)==100)=false:=by simp;omega
      have hb101:((z:Int)==101)=false:=by simp;omega
      clear HYES HNO HIL HSE hz120 HZ;go_wp2_with fail;refine(HN2.out _).mono ?_;rintro r w2 ⟨rfl,hw2⟩;obtain rfl:=hw2.symm;clear hw2;go_wp2;go_roundw;case rel=>exact⟨k,bG c nn t,hks,rfl,HT2,HY⟩
      case measure=>simp[intOf];omega
     by_cases hz121:z=121
     ·skip
      have HSE:=aA (qL HZ.out hz121 nn t);have HY:=aA (HYES.out (by rw[HIL.out];exact decide_eq_true (by omega)))
      have HT2:Hid (TQ w (wr.setCell ⟨w.heap.size+1,2,none⟩ (.int .i64 nn)) (bG c nn t)):=by rw[HSE.out];exact⟨HTQ.out.1.setCell (by simp) _,HTQ.out.2.1.other hneB _,HTQ.out.2.2.set2 _⟩
      have hb120:((z:Int)==120)=false:=by simp;omega
      have hb121:((z:Int)==121)=true:=by simp;omega
      have hb100:((z:Int)==100)=false:=by simp;omega
      have hb101:((z:Int)==101)=false:=by simp;omega
      clear HYES HNO HIL HSE hz121 HZ;go_wp2_with fail;refine(HN2.out _).mono ?_;rintro r w2 ⟨rfl,hw2⟩;obtain rfl:=hw2.symm;clear hw2;go_wp2;go_roundw;case rel=>exact⟨k,bG c nn t,hks,rfl,HT2,HY⟩
      case measure=>simp[intOf];omega
     by_cases hz100:z=100
     ·skip
      have HSE:=aA (qI HZ.out hz100 nn t);have HY:=aA (HYES.out (by rw[HIL.out];exact decide_eq_true (by omega)))
      have HT2:Hid (TQ w (wr.setCell ⟨w.heap.size+1,3,none⟩ (.int .i64 nn)) (bG c nn t)):=by rw[HSE.out];exact⟨HTQ.out.1.setCell (by simp) _,HTQ.out.2.1.other hneB _,HTQ.out.2.2.set3 _⟩
      have hb120:((z:Int)==120)=false:=by simp;omega
      have hb121:((z:Int)==121)=false:=by simp;omega
      have hb100:((z:Int)==100)=true:=by simp;omega
      have hb101:((z:Int)==101)=false:=by simp;omega
      clear HYES HNO HIL HSE hz100 HZ;go_wp2_with fail;refine(HN2.out _).mono ?_;rintro r w2 ⟨rfl,hw2⟩;obtain rfl:=hw2.symm;clear hw2;go_wp2;go_roundw;case rel=>exact⟨k,bG c nn t,hks,rfl,HT2,HY⟩
      case measure=>simp[intOf];omega
     by_cases hz101:z=101
     ·skip
      have HSE:=aA (qJ HZ.out hz101 nn t);have HY:=aA (HYES.out (by rw[HIL.out];exact decide_eq_true (by omega)))
      have HT2:Hid (TQ w (wr.setCell ⟨w.heap.size+1,4,none⟩ (.int .i64 nn)) (bG c nn t)):=by rw[HSE.out];exact⟨HTQ.out.1.setCell (by simp) _,HTQ.out.2.1.other hneB _,HTQ.out.2.2.set4 _⟩
      have hb120:((z:Int)==120)=false:=by simp;omega
      have hb121:((z:Int)==121)=false:=by simp;omega
      have hb100:((z:Int)==100)=false:=by simp;omega
      have hb101:((z:Int)==101)=true:=by simp;omega
      clear HYES HNO HIL HSE hz101 HZ;go_wp2_with fail;refine(HN2.out _).mono ?_;rintro r w2 ⟨rfl,hw2⟩;obtain rfl:=hw2.symm;clear hw2;go_wp2;go_roundw;case rel=>exact⟨k,bG c nn t,hks,rfl,HT2,HY⟩
      case measure=>simp[intOf];omega
     have HRZ:=aA (HNO.out (by rw[HIL.out];exact decide_eq_false (by omega)));have hb120:((z:Int)==120)=false:=by simp;omega
     have hb121:((z:Int)==121)=false:=by simp;omega
     have hb100:((z:Int)==100)=false:=by simp;omega
     have hb101:((z:Int)==101)=false:=by simp;omega
     clear HYES HNO HIL HZ hz120 hz121 hz100 hz101;go_wp2_with fail;refine(HN2.out _).mono ?_;rintro r w2 ⟨rfl,hw2⟩;obtain rfl:=hw2.symm;clear hw2;go_wp2;refine bC (v:=.agg #[.int .i64 0,.int .i64 0,.int .i64 0,.int .i64 0,.int .i64 0]) (by simp[results,Tryz.results64,go_sem, *]) rfl ⟨by rw[HRZ.out],?_⟩;exact((((HTQ.out.1.setCell (Nat.le_refl _) _).setCell (Nat.le_refl _) _).setCell (Nat.le_refl _) _).setCell (Nat.le_refl _) _).setCell (Nat.le_refl _) _
   ·have hqe:¬(q:Int)<(s.length:Int):=by omega
    have HRT:Hid (R=t):=by obtain⟨f,hf,he⟩:=HF.out;rw[List.drop_eq_nil_of_le (by omega),pZ]at he;exact aA he.symm
    obtain⟨⟨c0,c1,c2,c3,c4⟩,cz⟩:=HTQ.out.2.2;obtain⟨⟨r0,r1,r2,r3,r4⟩,rz⟩:=HTQ.out.2.1;go_wp2;refine bC (v:=.agg #[.int .i64 t.c,.int .i64 t.m.x,.int .i64 t.m.y,.int .i64 t.m.d,.int .i64 t.m.e]) (by simp[results,Tryz.results64,go_sem, *]) rfl ⟨by rw[HRT.out],?_⟩;exact((((HTQ.out.1.setCell (Nat.le_refl _) _).setCell (Nat.le_refl _) _).setCell (Nat.le_refl _) _).setCell (Nat.le_refl _) _).setCell (Nat.le_refl _) _
end Go.Proofs.YtkcmamepoplcdaaGreatDoor
