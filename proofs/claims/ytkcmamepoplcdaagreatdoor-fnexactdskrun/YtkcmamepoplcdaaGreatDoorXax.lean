/-
  The program reads monomials (monGuess, MonRead).
-/
import Derived.Test.YtkcmamepoplcdaaGreatDoorXae
set_option maxHeartbeats 8000000
set_option maxRecDepth 100000
namespace Go.Proofs.YtkcmamepoplcdaaGreatDoor
open Go.Shelf Go.RowKit
set_option linter.unusedVariables false
set_option linter.unusedSimpArgs false
def Er (w : World) : Prop := (∃ t p, w.var? Tryz.prog "strconv.ErrSyntax" = some #[.iface t p]) ∧ ∃ t p, w.var? Tryz.prog "strconv.ErrRange" = some #[.iface t p]
theorem uQ {w w':World} {n:String} {cs:Array Value} (h:w.var? Tryz.prog n=some cs) (hb:Below w.heap.size w w'):w'.var? Tryz.prog n=some cs:=by
 unfold World.var? at *;cases hg:Tryz.prog.globalNamed n with
 |none=>simp[hg]at h
 |some g=>
  simp only[hg,Option.bind_some]at h⊢;have hlt:g<w.heap.size:=by
   cases hx:w.heap[g]? with
   |none=>rw[hx]at h;simp at h
   |some o=>exact(Array.getElem?_eq_some_iff.1 hx).1
  rw[hb.block g hlt];exact h
theorem Er.below {w w':World} (h:Er w) (hb:Below w.heap.size w w'):Er w':=⟨h.1.imp fun t ⟨p,e⟩=>⟨p,uQ e hb⟩,h.2.imp fun t ⟨p,e⟩=>⟨p,uQ e hb⟩⟩
shelf_lay Lays.n103 Nm 103 at Tryz as lay103
shelf_lay LaysC.n172 Nm 172 at Tryz as layC172
theorem pV {l:List UInt8} {c:UInt8} (h:Lib.hasPrefix l [c]=true) (w:World):Calls Tryz.prog 203 #[.string ⟨l.toArray⟩,.string ⟨#[c]⟩] w fun e w'=>e= .returned (.tuple #[.string ⟨(l.drop 1).toArray⟩,.bool true])∧w'=w:=by
 refine(Any.strings_CutPrefix lay103 ⟨l.toArray⟩ ⟨#[c]⟩ w).mono ?_;rintro e w' ⟨rfl,hw⟩;refine⟨?_,hw⟩;have h':Lib.hasPrefix (ByteArray.mk l.toArray).data.toList (ByteArray.mk #[c]).data.toList=true:=h
 unfold Lib.trimPrefix;rw[if_pos h',h'];rfl
theorem vC {l:List UInt8} {c:UInt8} (h:Lib.hasPrefix l [c]=false) (w:World):Calls Tryz.prog 203 #[.string ⟨l.toArray⟩,.string ⟨#[c]⟩] w fun e w'=>e= .returned (.tuple #[.string ⟨l.toArray⟩,.bool false])∧w'=w:=by
 refine(Any.strings_CutPrefix lay103 ⟨l.toArray⟩ ⟨#[c]⟩ w).mono ?_;rintro e w' ⟨rfl,hw⟩;refine⟨?_,hw⟩;have h':Lib.hasPrefix (ByteArray.mk l.toArray).data.toList (ByteArray.mk #[c]).data.toList=false:=h
 unfold Lib.trimPrefix;rw[if_neg (by rw[h'];simp),h']
theorem tF (w:World) (e:TypeId) (t:ByteArray):Below w.heap.size w (Lib.bytesWorld w e t):=Lib.bytesWorld_below _ _ _
theorem AP (l:List UInt8) (hl:l.length≤1000) (w:World) (h:Er w):Calls Tryz.prog 159 #[.string ⟨l.toArray⟩] w fun e w'=>Below w.heap.size w w'∧((e= .returned (.tuple #[.int .i64 (oH l),.nilIface]))∨(oH l=1∧∃v t N,e= .returned (.tuple #[.int .i64 v,.iface t (.pointer (some ⟨N,0,none⟩))]))):=by
 have hs:(⟨l.toArray⟩:ByteArray).size=l.length:=jY l;cases hv:Lib.atoiAll l with
 |ok v=>
  refine(Any.strconv_Atoi_ok layC172 ⟨l.toArray⟩ (by rw[hs];omega) v hv w).mono ?_;rintro e w' ⟨rfl,hw⟩;refine⟨?_,.inl ?_⟩
  ·rcases hw with rfl|⟨t,rfl⟩
   ·exact aD _ _
   ·exact tF w _ t
  ·unfold oH;rw[hv]
 |«syntax»=>
  obtain⟨t,p,ht⟩:=h.1;refine(Any.strconv_Atoi_syntax_var layC172 ⟨l.toArray⟩ (by rw[hs];omega) hv t p w ht).mono ?_;rintro e w' ⟨N,rfl,_,_,hb⟩;exact⟨hb,.inr ⟨by unfold oH;rw[hv],_,_,_,rfl⟩⟩
 |range=>
  obtain⟨t,p,ht⟩:=h.2;refine(Any.strconv_Atoi_range_var layC172 ⟨l.toArray⟩ (by rw[hs];omega) hv t p w ht).mono ?_;rintro e w' ⟨N,rfl,_,_,hb⟩;exact⟨hb,.inr ⟨by unfold oH;rw[hv],_,_,_,rfl⟩⟩
def W4 (w:World) (b:Nat) (x0 x1 x2 x3:Int):Prop:=(w.cell? ⟨b,0,none⟩=some (.int .i64 x0)∧w.cell? ⟨b,1,none⟩=some (.int .i64 x1)∧w.cell? ⟨b,2,none⟩=some (.int .i64 x2)∧w.cell? ⟨b,3,none⟩=some (.int .i64 x3))∧∀j,w.frozen? ⟨b,j,none⟩=false
theorem W4.lt {w:World} {b:Nat} {x0 x1 x2 x3:Int} (h:W4 w b x0 x1 x2 x3):b<w.heap.size:=EU w _ h.1.1
theorem W4.below {w w':World} {b:Nat} {x0 x1 x2 x3:Int} (h:W4 w b x0 x1 x2 x3) (hb:Below w.heap.size w w'):W4 w' b x0 x1 x2 x3:=
 ⟨⟨(hb.cell (p:=⟨b,0,none⟩) h.lt).trans h.1.1,(hb.cell (p:=⟨b,1,none⟩) h.lt).trans h.1.2.1,(hb.cell (p:=⟨b,2,none⟩) h.lt).trans h.1.2.2.1,(hb.cell (p:=⟨b,3,none⟩) h.lt).trans h.1.2.2.2⟩,fun j=>(hb.frozen (p:=⟨b,j,none⟩) h.lt).trans (h.2 j)⟩
theorem W4.box (w:World) (y:TypeId) (x0 x1 x2 x3:Int):W4 (w.alloc (.cells #[.int .i64 x0,.int .i64 x1,.int .i64 x2,.int .i64 x3] y)) w.heap.size x0 x1 x2 x3:=
 ⟨⟨by rw[World.cell?_alloc_at _ _ _ _ rfl];rfl,by rw[World.cell?_alloc_at _ _ _ _ rfl];rfl,by rw[World.cell?_alloc_at _ _ _ _ rfl];rfl,by rw[World.cell?_alloc_at _ _ _ _ rfl];rfl⟩,fun j=>by rw[World.frozen?_alloc_at _ _ _ _ rfl]⟩
theorem W4.other {w:World} {b:Nat} {x0 x1 x2 x3:Int} (h:W4 w b x0 x1 x2 x3) {b' k:Nat} (hne:b'≠b) (v:Value):W4 (w.setCell ⟨b',k,none⟩ v) b x0 x1 x2 x3:=by have ne:∀j,(⟨b',k,none⟩:Addr)≠⟨b,j,none⟩:=fun j e=>hne (by cases e;rfl);exact⟨⟨by rw[World.cell?_setCell_other _ _ _ _ (ne 0)];exact h.1.1,by rw[World.cell?_setCell_other _ _ _ _ (ne 1)];exact h.1.2.1,by rw[World.cell?_setCell_other _ _ _ _ (ne 2)];exact h.1.2.2.1,by rw[World.cell?_setCell_other _ _ _ _ (ne 3)];exact h.1.2.2.2⟩,fun j=>by rw[World.frozen?_setCell];exact h.2 j⟩
theorem W4.set0 {w:World} {b:Nat} {x0 x1 x2 x3:Int} (h:W4 w b x0 x1 x2 x3) (v:Int):W4 (w.setCell ⟨b,0,none⟩ (.int .i64 v)) b v x1 x2 x3:=
 ⟨⟨World.cell?_setCell_same _ _ _ h.1.1,by rw[World.cell?_setCell_other _ _ _ _ (by simp)];exact h.1.2.1,by rw[World.cell?_setCell_other _ _ _ _ (by simp)];exact h.1.2.2.1,by rw[World.cell?_setCell_other _ _ _ _ (by simp)];exact h.1.2.2.2⟩,fun j=>by rw[World.frozen?_setCell];exact h.2 j⟩
theorem W4.set1 {w:World} {b:Nat} {x0 x1 x2 x3:Int} (h:W4 w b x0 x1 x2 x3) (v:Int):W4 (w.setCell ⟨b,1,none⟩ (.int .i64 v)) b x0 v x2 x3:=
 ⟨⟨by rw[World.cell?_setCell_other _ _ _ _ (by simp)];exact h.1.1,World.cell?_setCell_same _ _ _ h.1.2.1,by rw[World.cell?_setCell_other _ _ _ _ (by simp)];exact h.1.2.2.1,by rw[World.cell?_setCell_other _ _ _ _ (by simp)];exact h.1.2.2.2⟩,fun j=>by rw[World.frozen?_setCell];exact h.2 j⟩
theorem W4.set2 {w:World} {b:Nat} {x0 x1 x2 x3:Int} (h:W4 w b x0 x1 x2 x3) (v:Int):W4 (w.setCell ⟨b,2,none⟩ (.int .i64 v)) b x0 x1 v x3:=
 ⟨⟨by rw[World.cell?_setCell_other _ _ _ _ (by simp)];exact h.1.1,by rw[World.cell?_setCell_other _ _ _ _ (by simp)];exact h.1.2.1,World.cell?_setCell_same _ _ _ h.1.2.2.1,by rw[World.cell?_setCell_other _ _ _ _ (by simp)];exact h.1.2.2.2⟩,fun j=>by rw[World.frozen?_setCell];exact h.2 j⟩
theorem W4.set3 {w:World} {b:Nat} {x0 x1 x2 x3:Int} (h:W4 w b x0 x1 x2 x3) (v:Int):W4 (w.setCell ⟨b,3,none⟩ (.int .i64 v)) b x0 x1 x2 v:=
 ⟨⟨by rw[World.cell?_setCell_other _ _ _ _ (by simp)];exact h.1.1,by rw[World.cell?_setCell_other _ _ _ _ (by simp)];exact h.1.2.1,by rw[World.cell?_setCell_other _ _ _ _ (by simp)];exact h.1.2.2.1,World.cell?_setCell_same _ _ _ h.1.2.2.2⟩,fun j=>by rw[World.frozen?_setCell];exact h.2 j⟩
def fH (s:List UInt8) (k j:Nat):Int:=if j<k then wR s j else 0
def GQ (w:World) (B1 B2:Nat) (s:List UInt8) (k:Nat) (wr:World):Prop:=Below w.heap.size w wr∧W4 wr B1 0 0 0 0∧W4 wr B2 (fH s k 0) (fH s k 1) (fH s k 2) (fH s k 3)
theorem vH {k:Nat} {l:List UInt8} (h:Lib.hasPrefix l [GT k]=false):kX k l=(l,0):=by unfold kX;rw[if_neg (by rw[h];simp)]
theorem pY {k:Nat} {l:List UInt8} (h:Lib.hasPrefix l [GT k]=true):kX k l=((l.drop 1).drop (bV (l.drop 1)).length,oH (bV (l.drop 1))):=by unfold kX;rw[if_pos h]
theorem DN (x y d e:Int) (w:World):Calls Tryz.prog 204 #[.agg #[.int .i64 x,.int .i64 y,.int .i64 d,.int .i64 e]] w fun r w'=>r= .returned (.agg #[.int .i64 x,.int .i64 y,.int .i64 d,.int .i64 e])∧Below w.heap.size w w':=by
 have i0:∀w:World,(Instr.index 131 (.agg #[.int .i64 x,.int .i64 y,.int .i64 d,.int .i64 e]) (.int .i64 0)).run Tryz.prog w= .ok (.int .i64 x) w:=fun _=>by kernel_rfl
 have i1:∀w:World,(Instr.index 131 (.agg #[.int .i64 x,.int .i64 y,.int .i64 d,.int .i64 e]) (.int .i64 1)).run Tryz.prog w= .ok (.int .i64 y) w:=fun _=>by kernel_rfl
 have i2:∀w:World,(Instr.index 131 (.agg #[.int .i64 x,.int .i64 y,.int .i64 d,.int .i64 e]) (.int .i64 2)).run Tryz.prog w= .ok (.int .i64 d) w:=fun _=>by kernel_rfl
 have i3:∀w:World,(Instr.index 131 (.agg #[.int .i64 x,.int .i64 y,.int .i64 d,.int .i64 e]) (.int .i64 3)).run Tryz.prog w= .ok (.int .i64 e) w:=fun _=>by kernel_rfl
 go_enter Tryz.func204,Tryz.ntmps204;go_wp2;refine bC (v:=.agg #[.int .i64 x,.int .i64 y,.int .i64 d,.int .i64 e]) (by simp[results,Tryz.results204,go_sem]) rfl ⟨rfl,?_⟩;first|exact dB w _ _|exact aF w _|exact cL w _ _ _
theorem PE (s:List UInt8) (hs:s.length≤40) (w:World) (hE:Er w):Calls Tryz.prog 183 #[.string ⟨s.toArray⟩] w fun r w'=>r= .returned (.agg #[.int .i64 (gE s).x,.int .i64 (gE s).y,.int .i64 (gE s).d,.int .i64 (gE s).e])∧Below w.heap.size w w':=by
 have sl0:∀u:World,(Instr.slice 9 (.string ⟨#[120,121,100,101]⟩) (some (.int .i64 0)) (some (.int .i64 1)) none).run Tryz.prog u= .ok (.string ⟨#[120]⟩) u:=fun _=>by kernel_rfl
 have sl1:∀u:World,(Instr.slice 9 (.string ⟨#[120,121,100,101]⟩) (some (.int .i64 1)) (some (.int .i64 2)) none).run Tryz.prog u= .ok (.string ⟨#[121]⟩) u:=fun _=>by kernel_rfl
 have sl2:∀u:World,(Instr.slice 9 (.string ⟨#[120,121,100,101]⟩) (some (.int .i64 2)) (some (.int .i64 3)) none).run Tryz.prog u= .ok (.string ⟨#[100]⟩) u:=fun _=>by kernel_rfl
 have sl3:∀u:World,(Instr.slice 9 (.string ⟨#[120,121,100,101]⟩) (some (.int .i64 3)) (some (.int .i64 4)) none).run Tryz.prog u= .ok (.string ⟨#[101]⟩) u:=fun _=>by kernel_rfl
 have HE:=aA hE;clear hE;have HGX:=aA (show gE s=⟨wR s 0,wR s 1,wR s 2,wR s 3⟩from rfl)
 obtain⟨G,hG⟩:∃G,gE s=G:=⟨_,rfl⟩
 rw[hG]at HGX⊢;clear hG;have b1:=aF w (.cells #[.int .i64 0,.int .i64 0,.int .i64 0,.int .i64 0] 77)
 have b2:=aC b1 (aF (w.alloc (.cells #[.int .i64 0,.int .i64 0,.int .i64 0,.int .i64 0] 77)) (.cells #[.int .i64 0,.int .i64 0,.int .i64 0,.int .i64 0] 131))
 have HQ0:Hid (GQ w w.heap.size (w.heap.size+1) s 0 ((w.alloc (.cells #[.int .i64 0,.int .i64 0,.int .i64 0,.int .i64 0] 77)).alloc (.cells #[.int .i64 0,.int .i64 0,.int .i64 0,.int .i64 0] 131))):=
  ⟨b2,(W4.box w 77 0 0 0 0).below (aF _ _),by
   have:=W4.box (w.alloc (.cells #[.int .i64 0,.int .i64 0,.int .i64 0,.int .i64 0] 77)) 131 0 0 0 0;rw[World.size_alloc]at this
   exact this⟩
 clear b1 b2;go_enter Tryz.func183,Tryz.ntmps183;go_wp2;go_loopw [10,0] (fun v10 v0 wr=>∃(k:Nat) (l:List UInt8),k≤4∧v10= .int .i64 (k:Int)∧v0= .string ⟨l.toArray⟩∧Hid (l=BJ s k)∧Hid (GQ w w.heap.size (w.heap.size+1) s k wr)) (fun v10 _ _=>4-(intOf v10).toNat);case atStart=>exact⟨0,s,by omega,rfl,rfl,aA rfl,HQ0⟩
 case round=>
  obtain⟨k,l,hk,rfl,rfl,HL,HQ⟩:=hrel;have hll:l.length≤40:=by rw[HL.out];exact jW (BK s k) hs
  have hneB:w.heap.size+1≠w.heap.size:=by omega
  have hneB2:w.heap.size≠w.heap.size+1:=by omega
  rcases(show k=4∨k=0∨k=1∨k=2∨k=3 by omega)with rfl|rfl|rfl|rfl|rfl
  ·obtain⟨⟨c0,c1,c2,c3⟩,cz⟩:=HQ.out.2.2;obtain⟨⟨r0,r1,r2,r3⟩,rz⟩:=HQ.out.2.1;have e0:fH s 4 0=G.x:=by rw[HGX.out];rfl
   have e1:fH s 4 1=G.y:=by rw[HGX.out];rfl
   have e2:fH s 4 2=G.d:=by rw[HGX.out];rfl
   have e3:fH s 4 3=G.e:=by rw[HGX.out];rfl
   rw[e0]at c0;rw[e1]at c1;rw[e2]at c2;rw[e3]at c3;clear e0 e1 e2 e3;go_wp2_with fail;refine(DN _ _ _ _ _).mono ?_;rintro r w9 ⟨rfl,hb9⟩;clear c0 c1 c2 c3 cz r0 r1 r2 r3 rz;obtain⟨⟨r0,r1,r2,r3⟩,rz⟩:=HQ.out.2.1.below hb9;have HB9:=aA (aC HQ.out.1 hb9)
   clear hb9;go_wp2;refine bC (v:=.agg #[.int .i64 G.x,.int .i64 G.y,.int .i64 G.d,.int .i64 G.e]) (by simp[results,Tryz.results183,go_sem, *]) rfl ⟨rfl,?_⟩;exact(((HB9.out.setCell (Nat.le_refl _) _).setCell (Nat.le_refl _) _).setCell (Nat.le_refl _) _).setCell (Nat.le_refl _) _
  ·have HLN:Hid (BJ s 1=(kX 0 l).1):=by rw[HL.out];exact aA rfl
   have HGC:Hid (wR s 0=(kX 0 l).2):=by rw[HL.out];exact aA rfl
   have HCV:Hid (fH s 1 0=wR s 0∧fH s 1 1=fH s 0 1∧fH s 1 2=fH s 0 2∧fH s 1 3=fH s 0 3):=⟨rfl,rfl,rfl,rfl⟩
   have HZK:Hid (fH s 0 0=0):=aA rfl;cases hp:Lib.hasPrefix l [120]
   ·have HS:Hid (kX 0 l=(l,0)):=aA (vH (k:=0) hp);have HC:=aA (vC hp wr)
    clear hp;have HQ1:Hid (GQ w w.heap.size (w.heap.size+1) s 1 wr):=by
     refine⟨HQ.out.1,HQ.out.2.1,?_⟩;have:=HQ.out.2.2
     rw[HCV.out.1,HCV.out.2.1,HCV.out.2.2.1,HCV.out.2.2.2,HGC.out,HS.out];rw[HZK.out]at this;exact this
    go_wp2_with fail;refine HC.out.mono ?_;rintro r w2 ⟨rfl,hw2⟩;obtain rfl:=hw2.symm;clear hw2;go_wp2;go_roundw;case rel=>exact⟨1,l,by omega,by go_num,rfl,by rw[HLN.out,HS.out];exact aA rfl,HQ1⟩
    case measure=>simp[intOf]
   ·obtain⟨rs,hrs⟩:∃r,l.drop 1=r:=⟨_,rfl⟩
    obtain⟨dg,hdg⟩:∃d,bV rs=d:=⟨_,rfl⟩
    obtain⟨vl,hvl⟩:∃v,oH dg=v:=⟨_,rfl⟩
    have hrl:rs.length≤40:=by rw[←hrs];simp;omega
    have hdl:dg.length≤rs.length:=by rw[←hdg];exact gV rs
    have hdI:(dg.length:Int)≤40:=by omega
    have HS:Hid (kX 0 l=(rs.drop dg.length,vl)):=by have:=pY (k:=0) hp;rw[hrs,hdg,hvl]at this;exact aA this
    have hcc:=pV hp wr;rw[hrs]at hcc;have HC:=aA hcc
    have hll2:=yB rs (by omega) wr;rw[hdg]at hll2;have HLD:=aA hll2
    have HV:=aA hvl;clear hp hrs hdg hcc hll2 hvl;obtain⟨⟨c0,c1,c2,c3⟩,cz⟩:=HQ.out.2.2;go_wp2_with fail;refine HC.out.mono ?_;rintro r w2 ⟨rfl,hw2⟩;obtain rfl:=hw2.symm;clear hw2;go_wp2_with fail;refine HLD.out.mono ?_;rintro r w2 ⟨rfl,hw2⟩;obtain rfl:=hw2.symm;clear hw2;have HW1:Hid (Below w.heap.size w (wr.setCell ⟨w.heap.size+1,0,none⟩ (.int .i64 1))∧W4 (wr.setCell ⟨w.heap.size+1,0,none⟩ (.int .i64 1)) w.heap.size 0 0 0 0∧W4 (wr.setCell ⟨w.heap.size+1,0,none⟩ (.int .i64 1)) (w.heap.size+1) 1 (fH s 0 1) (fH s 0 2) (fH s 0 3)):=⟨HQ.out.1.setCell (by simp) _,HQ.out.2.1.other hneB _,HQ.out.2.2.set0 1⟩
    have HA:=aA (AP dg (by omega) _ (HE.out.below HW1.out.1));rw[HV.out]at HA;go_wp2_with fail;refine HA.out.mono ?_;rintro r w3 ⟨hb3,hr3⟩;clear c0 c1 c2 c3 cz;have HQ3:Hid (Below w.heap.size w w3∧W4 w3 w.heap.size 0 0 0 0∧W4 w3 (w.heap.size+1) 1 (fH s 0 1) (fH s 0 2) (fH s 0 3)):=⟨aC HW1.out.1 hb3,HW1.out.2.1.below hb3,HW1.out.2.2.below hb3⟩
    have hfr:=fun u=>jT (l:=rs) (k:=dg.length) hdl u;obtain⟨⟨c0,c1,c2,c3⟩,cz⟩:=HQ3.out.2.2;clear hb3 HW1;rcases hr3 with rfl|⟨hv1,v9,t9,N9,rfl⟩
    ·have HQ4:Hid (GQ w w.heap.size (w.heap.size+1) s 1 (w3.setCell ⟨w.heap.size+1,0,none⟩ (.int .i64 vl))):=by refine⟨HQ3.out.1.setCell (by simp) _,HQ3.out.2.1.other hneB _,?_⟩;rw[HCV.out.1,HCV.out.2.1,HCV.out.2.2.1,HCV.out.2.2.2,HGC.out,HS.out];exact HQ3.out.2.2.set0 vl
     go_wp2;go_roundw;case rel=>exact⟨1,rs.drop dg.length,by omega,by go_num,rfl,by rw[HLN.out,HS.out];exact aA rfl,HQ4⟩
     case measure=>simp[intOf]
    ·have HQ4:Hid (GQ w w.heap.size (w.heap.size+1) s 1 w3):=by refine⟨HQ3.out.1,HQ3.out.2.1,?_⟩;rw[HCV.out.1,HCV.out.2.1,HCV.out.2.2.1,HCV.out.2.2.2,HGC.out,HS.out,hv1];exact HQ3.out.2.2
     clear hv1;go_wp2;go_roundw;case rel=>exact⟨1,rs.drop dg.length,by omega,by go_num,rfl,by rw[HLN.out,HS.out];exact aA rfl,HQ4⟩
     case measure=>simp[intOf]
  ·have HLN:Hid (BJ s 2=(kX 1 l).1):=by rw[HL.out];exact aA rfl
   have HGC:Hid (wR s 1=(kX 1 l).2):=by rw[HL.out];exact aA rfl
   have HCV:Hid (fH s 2 0=fH s 1 0∧fH s 2 1=wR s 1∧fH s 2 2=fH s 1 2∧fH s 2 3=fH s 1 3):=⟨rfl,rfl,rfl,rfl⟩
   have HZK:Hid (fH s 1 1=0):=aA rfl;cases hp:Lib.hasPrefix l [121]
   ·have HS:Hid (kX 1 l=(l,0)):=aA (vH (k:=1) hp);have HC:=aA (vC hp wr)
    clear hp;have HQ1:Hid (GQ w w.heap.size (w.heap.size+1) s 2 wr):=by
     refine⟨HQ.out.1,HQ.out.2.1,?_⟩;have:=HQ.out.2.2
     rw[HCV.out.1,HCV.out.2.1,HCV.out.2.2.1,HCV.out.2.2.2,HGC.out,HS.out];rw[HZK.out]at this;exact this
    go_wp2_with fail;refine HC.out.mono ?_;rintro r w2 ⟨rfl,hw2⟩;obtain rfl:=hw2.symm;clear hw2;go_wp2;go_roundw;case rel=>exact⟨2,l,by omega,by go_num,rfl,by rw[HLN.out,HS.out];exact aA rfl,HQ1⟩
    case measure=>simp[intOf]
   ·obtain⟨rs,hrs⟩:∃r,l.drop 1=r:=⟨_,rfl⟩
    obtain⟨dg,hdg⟩:∃d,bV rs=d:=⟨_,rfl⟩
    obtain⟨vl,hvl⟩:∃v,oH dg=v:=⟨_,rfl⟩
    have hrl:rs.length≤40:=by rw[←hrs];simp;omega
    have hdl:dg.length≤rs.length:=by rw[←hdg];exact gV rs
    have hdI:(dg.length:Int)≤40:=by omega
    have HS:Hid (kX 1 l=(rs.drop dg.length,vl)):=by have:=pY (k:=1) hp;rw[hrs,hdg,hvl]at this;exact aA this
    have hcc:=pV hp wr;rw[hrs]at hcc;have HC:=aA hcc
    have hll2:=yB rs (by omega) wr;rw[hdg]at hll2;have HLD:=aA hll2
    have HV:=aA hvl;clear hp hrs hdg hcc hll2 hvl;obtain⟨⟨c0,c1,c2,c3⟩,cz⟩:=HQ.out.2.2;go_wp2_with fail;refine HC.out.mono ?_;rintro r w2 ⟨rfl,hw2⟩;obtain rfl:=hw2.symm;clear hw2;go_wp2_with fail;refine HLD.out.mono ?_;rintro r w2 ⟨rfl,hw2⟩;obtain rfl:=hw2.symm;clear hw2;have HW1:Hid (Below w.heap.size w (wr.setCell ⟨w.heap.size+1,1,none⟩ (.int .i64 1))∧W4 (wr.setCell ⟨w.heap.size+1,1,none⟩ (.int .i64 1)) w.heap.size 0 0 0 0∧W4 (wr.setCell ⟨w.heap.size+1,1,none⟩ (.int .i64 1)) (w.heap.size+1) (fH s 1 0) 1 (fH s 1 2) (fH s 1 3)):=⟨HQ.out.1.setCell (by simp) _,HQ.out.2.1.other hneB _,HQ.out.2.2.set1 1⟩
    have HA:=aA (AP dg (by omega) _ (HE.out.below HW1.out.1));rw[HV.out]at HA;go_wp2_with fail;refine HA.out.mono ?_;rintro r w3 ⟨hb3,hr3⟩;clear c0 c1 c2 c3 cz;have HQ3:Hid (Below w.heap.size w w3∧W4 w3 w.heap.size 0 0 0 0∧W4 w3 (w.heap.size+1) (fH s 1 0) 1 (fH s 1 2) (fH s 1 3)):=⟨aC HW1.out.1 hb3,HW1.out.2.1.below hb3,HW1.out.2.2.below hb3⟩
    have hfr:=fun u=>jT (l:=rs) (k:=dg.length) hdl u;obtain⟨⟨c0,c1,c2,c3⟩,cz⟩:=HQ3.out.2.2;clear hb3 HW1;rcases hr3 with rfl|⟨hv1,v9,t9,N9,rfl⟩
    ·have HQ4:Hid (GQ w w.heap.size (w.heap.size+1) s 2 (w3.setCell ⟨w.heap.size+1,1,none⟩ (.int .i64 vl))):=by refine⟨HQ3.out.1.setCell (by simp) _,HQ3.out.2.1.other hneB _,?_⟩;rw[HCV.out.1,HCV.out.2.1,HCV.out.2.2.1,HCV.out.2.2.2,HGC.out,HS.out];exact HQ3.out.2.2.set1 vl
     go_wp2;go_roundw;case rel=>exact⟨2,rs.drop dg.length,by omega,by go_num,rfl,by rw[HLN.out,HS.out];exact aA rfl,HQ4⟩
     case measure=>simp[intOf]
    ·have HQ4:Hid (GQ w w.heap.size (w.heap.size+1) s 2 w3):=by refine⟨HQ3.out.1,HQ3.out.2.1,?_⟩;rw[HCV.out.1,HCV.out.2.1,HCV.out.2.2.1,HCV.out.2.2.2,HGC.out,HS.out,hv1];exact HQ3.out.2.2
     clear hv1;go_wp2;go_roundw;case rel=>exact⟨2,rs.drop dg.length,by omega,by go_num,rfl,by rw[HLN.out,HS.out];exact aA rfl,HQ4⟩
     case measure=>simp[intOf]
  ·have HLN:Hid (BJ s 3=(kX 2 l).1):=by rw[HL.out];exact aA rfl
   have HGC:Hid (wR s 2=(kX 2 l).2):=by rw[HL.out];exact aA rfl
   have HCV:Hid (fH s 3 0=fH s 2 0∧fH s 3 1=fH s 2 1∧fH s 3 2=wR s 2∧fH s 3 3=fH s 2 3):=⟨rfl,rfl,rfl,rfl⟩
   have HZK:Hid (fH s 2 2=0):=aA rfl;cases hp:Lib.hasPrefix l [100]
   ·have HS:Hid (kX 2 l=(l,0)):=aA (vH (k:=2) hp);have HC:=aA (vC hp wr)
    clear hp;have HQ1:Hid (GQ w w.heap.size (w.heap.size+1) s 3 wr):=by
     refine⟨HQ.out.1,HQ.out.2.1,?_⟩;have:=HQ.out.2.2
     rw[HCV.out.1,HCV.out.2.1,HCV.out.2.2.1,HCV.out.2.2.2,HGC.out,HS.out];rw[HZK.out]at this;exact this
    go_wp2_with fail;refine HC.out.mono ?_;rintro r w2 ⟨rfl,hw2⟩;obtain rfl:=hw2.symm;clear hw2;go_wp2;go_roundw;case rel=>exact⟨3,l,by omega,by go_num,rfl,by rw[HLN.out,HS.out];exact aA rfl,HQ1⟩
    case measure=>simp[intOf]
   ·obtain⟨rs,hrs⟩:∃r,l.drop 1=r:=⟨_,rfl⟩
    obtain⟨dg,hdg⟩:∃d,bV rs=d:=⟨_,rfl⟩
    obtain⟨vl,hvl⟩:∃v,oH dg=v:=⟨_,rfl⟩
    have hrl:rs.length≤40:=by rw[←hrs];simp;omega
    have hdl:dg.length≤rs.length:=by rw[←hdg];exact gV rs
    have hdI:(dg.length:Int)≤40:=by omega
    have HS:Hid (kX 2 l=(rs.drop dg.length,vl)):=by have:=pY (k:=2) hp;rw[hrs,hdg,hvl]at this;exact aA this
    have hcc:=pV hp wr;rw[hrs]at hcc;have HC:=aA hcc
    have hll2:=yB rs (by omega) wr;rw[hdg]at hll2;have HLD:=aA hll2
    have HV:=aA hvl;clear hp hrs hdg hcc hll2 hvl;obtain⟨⟨c0,c1,c2,c3⟩,cz⟩:=HQ.out.2.2;go_wp2_with fail;refine HC.out.mono ?_;rintro r w2 ⟨rfl,hw2⟩;obtain rfl:=hw2.symm;clear hw2;go_wp2_with fail;refine HLD.out.mono ?_;rintro r w2 ⟨rfl,hw2⟩;obtain rfl:=hw2.symm;clear hw2;have HW1:Hid (Below w.heap.size w (wr.setCell ⟨w.heap.size+1,2,none⟩ (.int .i64 1))∧W4 (wr.setCell ⟨w.heap.size+1,2,none⟩ (.int .i64 1)) w.heap.size 0 0 0 0∧W4 (wr.setCell ⟨w.heap.size+1,2,none⟩ (.int .i64 1)) (w.heap.size+1) (fH s 2 0) (fH s 2 1) 1 (fH s 2 3)):=⟨HQ.out.1.setCell (by simp) _,HQ.out.2.1.other hneB _,HQ.out.2.2.set2 1⟩
    have HA:=aA (AP dg (by omega) _ (HE.out.below HW1.out.1));rw[HV.out]at HA;go_wp2_with fail;refine HA.out.mono ?_;rintro r w3 ⟨hb3,hr3⟩;clear c0 c1 c2 c3 cz;have HQ3:Hid (Below w.heap.size w w3∧W4 w3 w.heap.size 0 0 0 0∧W4 w3 (w.heap.size+1) (fH s 2 0) (fH s 2 1) 1 (fH s 2 3)):=⟨aC HW1.out.1 hb3,HW1.out.2.1.below hb3,HW1.out.2.2.below hb3⟩
    have hfr:=fun u=>jT (l:=rs) (k:=dg.length) hdl u;obtain⟨⟨c0,c1,c2,c3⟩,cz⟩:=HQ3.out.2.2;clear hb3 HW1;rcases hr3 with rfl|⟨hv1,v9,t9,N9,rfl⟩
    ·have HQ4:Hid (GQ w w.heap.size (w.heap.size+1) s 3 (w3.setCell ⟨w.heap.size+1,2,none⟩ (.int .i64 vl))):=by refine⟨HQ3.out.1.setCell (by simp) _,HQ3.out.2.1.other hneB _,?_⟩;rw[HCV.out.1,HCV.out.2.1,HCV.out.2.2.1,HCV.out.2.2.2,HGC.out,HS.out];exact HQ3.out.2.2.set2 vl
     go_wp2;go_roundw;case rel=>exact⟨3,rs.drop dg.length,by omega,by go_num,rfl,by rw[HLN.out,HS.out];exact aA rfl,HQ4⟩
     case measure=>simp[intOf]
    ·have HQ4:Hid (GQ w w.heap.size (w.heap.size+1) s 3 w3):=by refine⟨HQ3.out.1,HQ3.out.2.1,?_⟩;rw[HCV.out.1,HCV.out.2.1,HCV.out.2.2.1,HCV.out.2.2.2,HGC.out,HS.out,hv1];exact HQ3.out.2.2
     clear hv1;go_wp2;go_roundw;case rel=>exact⟨3,rs.drop dg.length,by omega,by go_num,rfl,by rw[HLN.out,HS.out];exact aA rfl,HQ4⟩
     case measure=>simp[intOf]
  ·have HLN:Hid (BJ s 4=(kX 3 l).1):=by rw[HL.out];exact aA rfl
   have HGC:Hid (wR s 3=(kX 3 l).2):=by rw[HL.out];exact aA rfl
   have HCV:Hid (fH s 4 0=fH s 3 0∧fH s 4 1=fH s 3 1∧fH s 4 2=fH s 3 2∧fH s 4 3=wR s 3):=⟨rfl,rfl,rfl,rfl⟩
   have HZK:Hid (fH s 3 3=0):=aA rfl;cases hp:Lib.hasPrefix l [101]
   ·have HS:Hid (kX 3 l=(l,0)):=aA (vH (k:=3) hp);have HC:=aA (vC hp wr)
    clear hp;have HQ1:Hid (GQ w w.heap.size (w.heap.size+1) s 4 wr):=by
     refine⟨HQ.out.1,HQ.out.2.1,?_⟩;have:=HQ.out.2.2
     rw[HCV.out.1,HCV.out.2.1,HCV.out.2.2.1,HCV.out.2.2.2,HGC.out,HS.out];rw[HZK.out]at this;exact this
    go_wp2_with fail;refine HC.out.mono ?_;rintro r w2 ⟨rfl,hw2⟩;obtain rfl:=hw2.symm;clear hw2;go_wp2;go_roundw;case rel=>exact⟨4,l,by omega,by go_num,rfl,by rw[HLN.out,HS.out];exact aA rfl,HQ1⟩
    case measure=>simp[intOf]
   ·obtain⟨rs,hrs⟩:∃r,l.drop 1=r:=⟨_,rfl⟩
    obtain⟨dg,hdg⟩:∃d,bV rs=d:=⟨_,rfl⟩
    obtain⟨vl,hvl⟩:∃v,oH dg=v:=⟨_,rfl⟩
    have hrl:rs.length≤40:=by rw[←hrs];simp;omega
    have hdl:dg.length≤rs.length:=by rw[←hdg];exact gV rs
    have hdI:(dg.length:Int)≤40:=by omega
    have HS:Hid (kX 3 l=(rs.drop dg.length,vl)):=by have:=pY (k:=3) hp;rw[hrs,hdg,hvl]at this;exact aA this
    have hcc:=pV hp wr;rw[hrs]at hcc;have HC:=aA hcc
    have hll2:=yB rs (by omega) wr;rw[hdg]at hll2;have HLD:=aA hll2
    have HV:=aA hvl;clear hp hrs hdg hcc hll2 hvl;obtain⟨⟨c0,c1,c2,c3⟩,cz⟩:=HQ.out.2.2;go_wp2_with fail;refine HC.out.mono ?_;rintro r w2 ⟨rfl,hw2⟩;obtain rfl:=hw2.symm;clear hw2;go_wp2_with fail;refine HLD.out.mono ?_;rintro r w2 ⟨rfl,hw2⟩;obtain rfl:=hw2.symm;clear hw2;have HW1:Hid (Below w.heap.size w (wr.setCell ⟨w.heap.size+1,3,none⟩ (.int .i64 1))∧W4 (wr.setCell ⟨w.heap.size+1,3,none⟩ (.int .i64 1)) w.heap.size 0 0 0 0∧W4 (wr.setCell ⟨w.heap.size+1,3,none⟩ (.int .i64 1)) (w.heap.size+1) (fH s 3 0) (fH s 3 1) (fH s 3 2) 1):=⟨HQ.out.1.setCell (by simp) _,HQ.out.2.1.other hneB _,HQ.out.2.2.set3 1⟩
    have HA:=aA (AP dg (by omega) _ (HE.out.below HW1.out.1));rw[HV.out]at HA;go_wp2_with fail;refine HA.out.mono ?_;rintro r w3 ⟨hb3,hr3⟩;clear c0 c1 c2 c3 cz;have HQ3:Hid (Below w.heap.size w w3∧W4 w3 w.heap.size 0 0 0 0∧W4 w3 (w.heap.size+1) (fH s 3 0) (fH s 3 1) (fH s 3 2) 1):=⟨aC HW1.out.1 hb3,HW1.out.2.1.below hb3,HW1.out.2.2.below hb3⟩
    have hfr:=fun u=>jT (l:=rs) (k:=dg.length) hdl u;obtain⟨⟨c0,c1,c2,c3⟩,cz⟩:=HQ3.out.2.2;clear hb3 HW1;rcases hr3 with rfl|⟨hv1,v9,t9,N9,rfl⟩
    ·have HQ4:Hid (GQ w w.heap.size (w.heap.size+1) s 4 (w3.setCell ⟨w.heap.size+1,3,none⟩ (.int .i64 vl))):=by refine⟨HQ3.out.1.setCell (by simp) _,HQ3.out.2.1.other hneB _,?_⟩;rw[HCV.out.1,HCV.out.2.1,HCV.out.2.2.1,HCV.out.2.2.2,HGC.out,HS.out];exact HQ3.out.2.2.set3 vl
     go_wp2;go_roundw;case rel=>exact⟨4,rs.drop dg.length,by omega,by go_num,rfl,by rw[HLN.out,HS.out];exact aA rfl,HQ4⟩
     case measure=>simp[intOf]
    ·have HQ4:Hid (GQ w w.heap.size (w.heap.size+1) s 4 w3):=by refine⟨HQ3.out.1,HQ3.out.2.1,?_⟩;rw[HCV.out.1,HCV.out.2.1,HCV.out.2.2.1,HCV.out.2.2.2,HGC.out,HS.out,hv1];exact HQ3.out.2.2
     clear hv1;go_wp2;go_roundw;case rel=>exact⟨4,rs.drop dg.length,by omega,by go_num,rfl,by rw[HLN.out,HS.out];exact aA rfl,HQ4⟩
     case measure=>simp[intOf]
theorem yG (s:List UInt8) (w:World) (hs:s.length≤1048576) (hE:Er w):Calls Tryz.prog 160 #[.string ⟨s.toArray⟩] w fun r w'=>r= .returned (.tuple #[.agg #[.int .i64 (kV s).1.x,.int .i64 (kV s).1.y,.int .i64 (kV s).1.d,.int .i64 (kV s).1.e],.bool (kV s).2])∧Below w.heap.size w w':=by
 have hsI:(s.length:Int)≤1048576:=by omega
 by_cases hl:s.length≤40
 ·obtain⟨g,hg⟩:∃g,gE s=g:=⟨_,rfl⟩
  obtain⟨S,hS⟩:∃S,eN g=S:=⟨_,rfl⟩
  have b1:=aF w (.cells #[.int .i64 0,.int .i64 0,.int .i64 0,.int .i64 0] 77);have HC:=aA (PE s hl _ (hE.below b1))
  have HR:=aA (W4.box w 77 0 0 0 0);have HB0:=aA b1
  have hlI:¬(40:Int)<(s.length:Int):=by omega
  rw[hg]at HC;clear b1 hE;rcases g with⟨x,y,d,e⟩
  have HM:Hid (kV s=if S=s then(⟨x,y,d,e⟩,true)else(⟨0,0,0,0⟩,false)):=by
   unfold kV;rw[hg,hS];by_cases q:S=s
   ·rw[if_pos ⟨hl,q⟩,if_pos q];exact aA rfl
   ·rw[if_neg (fun z=>q z.2),if_neg q];exact aA rfl
  have HSS:=aA hS;clear hg hS;obtain⟨Rr,hRr⟩:∃R,kV s=R:=⟨_,rfl⟩
  rw[hRr]at HM⊢;clear hRr;go_enter Tryz.func160,Tryz.ntmps160;go_wp2_with fail;refine HC.out.mono ?_;rintro r w1 ⟨rfl,hb1⟩;have hlt1:w.heap.size<w1.heap.size:=eB (by simp) hb1.size
  have HR1:=aA ((HR.out.below hb1).below (aF w1 (.cells #[.int .i64 x,.int .i64 y,.int .i64 d,.int .i64 e] 77)));have HX1:=aA (W4.box w1 77 x y d e)
  have HB1:=aA (aC (aC HB0.out hb1) (aF w1 (.cells #[.int .i64 x,.int .i64 y,.int .i64 d,.int .i64 e] 77)));clear hb1 HR HB0 HC;go_wp2_with fail;refine(yH x y d e _).mono ?_;rw[HSS.out];rintro r w2 ⟨rfl,hb2⟩;obtain⟨⟨r0,r1,r2,r3⟩,rz⟩:=HR1.out.below hb2;obtain⟨⟨x0,x1,x2,x3⟩,xz⟩:=HX1.out.below hb2;have HB2:=aA (aC HB1.out hb2)
  have hne1:w.heap.size≠w1.heap.size:=by omega
  have hne2:w1.heap.size≠w.heap.size:=by omega
  clear hb2;by_cases q:S=s
  ·have HM2:Hid (Rr=(⟨x,y,d,e⟩,true)):=by rw[HM.out,if_pos q];exact aA rfl
   clear HM HSS;subst q;go_wp2;refine bC (v:=.tuple #[.agg #[.int .i64 x,.int .i64 y,.int .i64 d,.int .i64 e],.bool true]) (by simp[results,Tryz.results160,go_sem, *]) rfl ⟨by rw[HM2.out],?_⟩;exact(((HB2.out.setCell (Nat.le_refl _) _).setCell (Nat.le_refl _) _).setCell (Nat.le_refl _) _).setCell (Nat.le_refl _) _
  ·have HM2:Hid (Rr=(⟨0,0,0,0⟩,false)):=by rw[HM.out,if_neg q];exact aA rfl
   clear HM HSS;have q1:(S==s)=false:=beq_eq_false_iff_ne.2 q
   go_wp2;refine bC (v:=.tuple #[.agg #[.int .i64 0,.int .i64 0,.int .i64 0,.int .i64 0],.bool false]) (by simp[results,Tryz.results160,go_sem, *]) rfl ⟨by rw[HM2.out],?_⟩;exact(((HB2.out.setCell (Nat.le_refl _) _).setCell (Nat.le_refl _) _).setCell (Nat.le_refl _) _).setCell (Nat.le_refl _) _
 ·have hlI:(40:Int)<(s.length:Int):=by omega
  have hM:kV s=(⟨0,0,0,0⟩,false):=by unfold kV;rw[if_neg (fun z=>hl z.1)]
  rw[hM];clear hM;go_enter Tryz.func160,Tryz.ntmps160;go_wp2;refine bC (v:=.tuple #[.agg #[.int .i64 0,.int .i64 0,.int .i64 0,.int .i64 0],.bool false]) (by simp[results,Tryz.results160,go_sem]) rfl ⟨rfl,?_⟩;first|exact aF w _|exact((((aF w _).setCell (Nat.le_refl _) _).setCell (Nat.le_refl _) _).setCell (Nat.le_refl _) _).setCell (Nat.le_refl _) _
end Go.Proofs.YtkcmamepoplcdaaGreatDoor
