/-
  What the functions of the program's chapter 3 return: whether terms are an operator, an operator of one term, the number
-/
import Derived.Test.YtoglomfejgpoeaaGreatDoorMaf
import Derived.RangeFuncBox
import Derived.Stop.LaidErr
import Derived.LaidMore
import Derived.Sort.Row
import Derived.Shelf.SlSortCmp.QuietGrown
import Derived.Shelf.SlSortCmp.InsertionK
import Derived.Ground.SlsfProg
import Derived.Maps.OwnSet
import Derived.Maps.OwnOps
import Derived.Maps.Views
import Derived.Maps.AppendAt
set_option maxHeartbeats 8000000
set_option maxRecDepth 100000
namespace Go.Proofs.YtoglomfejgpoeaaGreatDoor
open Go.RowKit
set_option linter.unusedVariables false
theorem dQ (w:World) (lo:Nat):w.ownsRow lo 80 5 (.slice none 0 0) 0 (aF []):=⟨rfl,.inl ⟨rfl,rfl⟩⟩
set_option linter.unusedSimpArgs false
theorem AQ {x y d e:Int} {p:List UInt8} (h:gG ⟨x,y,d,e⟩=p) (w:World):Calls Tryz.prog 142 #[.agg #[.int .i64 x,.int .i64 y,.int .i64 d,.int .i64 e]] w fun r w'=>r= .returned (.string ⟨p.toArray⟩)∧Below w.heap.size w w':=by rw[←h];exact AO x y d e w
theorem vX {n:Nat} {p:List UInt8} (h:Lib.decDigits n=p) (hn:n≤9223372036854775807) (w:World) (hT:Tb w):Calls Tryz.prog 63 #[.int .i64 (n:Int)] w fun r w'=>r= .returned (.string ⟨p.toArray⟩)∧Below w.heap.size w w':=by rw[←h];exact DP n hn w hT
theorem rO (C:Nat) (hC:C≤9223372036854775807) (x y d e:Int) (hm:M.ok ⟨x,y,d,e⟩=true) (w:World) (hT:Tb w):Calls Tryz.prog 110 #[.agg #[.int .i64 (C:Int),.int .i64 x,.int .i64 y,.int .i64 d,.int .i64 e]] w fun r w'=>r= .returned (.string ⟨(oX ⟨(C:Int),⟨x,y,d,e⟩⟩).toArray⟩)∧Below w.heap.size w w':=by
 obtain⟨MT,hMT⟩:∃MT,gG ⟨x,y,d,e⟩=MT:=⟨_,rfl⟩
 have hml:MT.length≤12:=by rw[←hMT];exact oR hm
 obtain⟨DT,hDT⟩:∃DT,Lib.decDigits C=DT:=⟨_,rfl⟩
 have hdl:DT.length≤20:=by rw[←hDT];exact xJ hC
 have htrm:oX ⟨(C:Int),⟨x,y,d,e⟩⟩=if x=0∧y=0∧d=0∧e=0 then DT else if(C:Int)=1 then MT else DT++MT:=by show(if x=0∧y=0∧d=0∧e=0 then Lib.decDigits C else if(C:Int)=1 then gG ⟨x,y,d,e⟩else Lib.decDigits C++gG ⟨x,y,d,e⟩)=_;rw[hMT,hDT]
 rw[htrm];have b0:=aG w (.cells #[.int .i64 (C:Int),.int .i64 x,.int .i64 y,.int .i64 d,.int .i64 e] 80)
 have HT0:=aA (hT.below b0);have HB0:=aA b0
 clear htrm hT b0;by_cases hz:x=0∧y=0∧d=0∧e=0
 ·rw[if_pos hz];obtain⟨rfl,rfl,rfl,rfl⟩:=hz;have HC:=aA (vX hDT hC _ HT0.out)
  clear hMT hDT;go_enter Tryz.func110,Tryz.ntmps110;go_wp2_with fail;refine HC.out.mono ?_;rintro r w1 ⟨rfl,hb⟩;have HB1:=aA (aC HB0.out hb)
  clear hb;go_wp2;go_ret;exact⟨rfl,HB1.out⟩
 ·rw[if_neg hz];have key:¬x=0∨(x=0∧¬y=0)∨(x=0∧y=0∧¬d=0)∨(x=0∧y=0∧d=0∧¬e=0):=by omega
  clear hz;by_cases h1:(C:Int)=1
  ·rw[if_pos h1];have HC:=aA (AQ hMT (w.alloc (.cells #[.int .i64 1,.int .i64 x,.int .i64 y,.int .i64 d,.int .i64 e] 80)))
   rw[h1]at HB0⊢;clear hMT hDT h1 HT0;rcases key with k1|⟨rfl,k1⟩|⟨rfl,rfl,k1⟩|⟨rfl,rfl,rfl,k1⟩
   all_goals(
    go_enter Tryz.func110,Tryz.ntmps110;go_wp2_with fail;refine HC.out.mono ?_;rintro r w1 ⟨rfl,hb⟩;have HB1:=aA (aC HB0.out hb)
    clear hb;go_wp2;go_ret
    exact⟨rfl,HB1.out⟩)
  ·rw[if_neg h1];have h1b:((C:Int)==1)=false:=beq_eq_false_iff_ne.2 h1
   have hsz:¬(DT.length+MT.length>9223372036854775807):=by omega
   have hsz2:¬(9223372036854775807<DT.length+MT.length):=by omega
   obtain⟨W,hW⟩:∃W,w.alloc (.cells #[.int .i64 (C:Int),.int .i64 x,.int .i64 y,.int .i64 d,.int .i64 e] 80)=W:=⟨_,rfl⟩
   have q0:w.heap.size<W.heap.size:=by rw[←hW];simp
   have ne:=cO.there W;have gg:∀j:Nat,W.cell? ⟨w.heap.size,j,none⟩=#[Value.int .i64 (C:Int),.int .i64 x,.int .i64 y,.int .i64 d,.int .i64 e][j]? :=fun j=>by rw[←hW,World.cell?_alloc_at _ _ _ _ rfl]
   have s0:∀u:cO W,u.1.cell? ⟨w.heap.size,0,none⟩=some (.int .i64 (C:Int)):=fun u=>(u.cell q0).trans (gg 0);have s1:∀u:cO W,u.1.cell? ⟨w.heap.size,1,none⟩=some (.int .i64 x):=fun u=>(u.cell q0).trans (gg 1)
   have s2:∀u:cO W,u.1.cell? ⟨w.heap.size,2,none⟩=some (.int .i64 y):=fun u=>(u.cell q0).trans (gg 2);have s3:∀u:cO W,u.1.cell? ⟨w.heap.size,3,none⟩=some (.int .i64 d):=fun u=>(u.cell q0).trans (gg 3)
   have s4:∀u:cO W,u.1.cell? ⟨w.heap.size,4,none⟩=some (.int .i64 e):=fun u=>(u.cell q0).trans (gg 4);rw[hW]at HT0 HB0;have HT:∀u:cO W,Tb u.1:=fun u=>HT0.out.below u.2
   have HTT:=aA HT;have HWW:=aA hW
   clear HT gg hW;rcases key with k1|⟨rfl,k1⟩|⟨rfl,rfl,k1⟩|⟨rfl,rfl,rfl,k1⟩
   all_goals(
    go_enter Tryz.func110,Tryz.ntmps110;go_wp2_with fail;simp only[HWW.out];clear HWW;refine aS (by kernel_rfl) (by kernel_rfl) ?_;repeat(go_big_quiet_step (first|(go_at_call 63;exact bK (vX (by with_reducible assumption) hC _ (HTT.out _)))|(go_at_call 142;exact bK (AQ (by with_reducible assumption) _))|fail))
    refine wpQuiet_nil ?_;rintro _ ⟨v,rfl⟩;have HV:=aA (aC HB0.out v.2)
    clear s0 s1 s2 s3 s4 ne hMT hDT;go_wp2;go_ret
    exact⟨by first|rfl|(congr 2;apply ByteArray.ext;simp[ByteArray.data_append];done),HV.out⟩)
open Go.Shelf Go.RowKit
attribute [local go_sem] Oper.semAt_some
end Go.Proofs.YtoglomfejgpoeaaGreatDoor
namespace Go.Proofs.YtoglomfejgpoeaaGreatDoor
open Go.RowKit
set_option linter.unusedVariables false
theorem qO {W : World} {rest : List (String × DataW Unit)} {n0 n1 : String} {d0 d1 : DataW Unit}
    (h : laidMet Tryz.prog ((n0, d0) :: (n1, d1) :: ("internal/strconv.uint64pow10", Rows.laid_internal_strconv_uint64pow10) :: rest) W) : Tb W := by
  have e:(Rows.laid_internal_strconv_uint64pow10:DataW Unit)=Lib.tabData .u64 Lib.pow10Tab:=by kernel_rfl
  rw[e]at h
  obtain⟨ps,⟨_,_,_,_,_,_,_,_,_,_,⟨_,_,_,_,_,_,_,_,_,_,⟨g',t',cs,fuel,p,q,hg',ht',hvar,hd,_,_⟩,_⟩,_⟩,_⟩:=h
  obtain rfl := Option.some.inj ((show Tryz.prog.globalNamed "internal/strconv.uint64pow10" = some 2 by kernel_rfl).symm.trans hg')
  obtain rfl:=Option.some.inj ((show(Tryz.prog.globals[2]?).map (·.type)=some 203 by kernel_rfl).symm.trans ht')
  show Lib.TabIs _ _ _ _ _
  unfold Lib.TabIs
  rw[hvar,←Lib.cells_of_tab Tryz.underlying203 Tryz.underlying183 (by kernel_rfl) (by kernel_rfl) hd]
set_option linter.unusedSimpArgs false
theorem oP (xs:List (List UInt8)):(xs.map fun l=>(⟨l.toArray⟩:ByteArray)).map (fun s=>s.data.toList)=xs:=by rw[List.map_map];exact(List.map_congr_left (fun l _=>rfl)).trans (List.map_id xs)
theorem DN:(Tryz.prog.info? 9).map (fun i=>(i.zero,i.size,i.bytes))=some (some (.string ⟨#[]⟩),1,16):=by kernel_rfl
def BW (xs:List (List UInt8)):List Value:=xs.map fun l=>Value.string ⟨l.toArray⟩
theorem EB (s:ByteArray):∀u∈[Value.string s],u.oneCell'=true:=fun u hu=>by
 rw[List.mem_singleton]at hu;subst hu;rfl
def LE (w:World) (f:Nat→T) (k:Nat) (v:Value) (wr:World):Prop:=wr.ownsRow w.heap.size 9 1 v k (BW (sD f k))∧Below w.heap.size w wr
theorem BD (w:World) (a:Option Addr) (n cap:Nat) (f:Nat→T) (h:Rd w a n cap f) (hT:Tb w):Calls Tryz.prog 64 #[.slice a n cap] w fun r w'=>r= .returned (.string ⟨(iW n f).toArray⟩)∧Below w.heap.size w w':=by
 have HH:=aA h;have HTB:=aA hT
 have hnI:(n:Int)≤9223372036854775807:=by have:=h.2.1;omega
 obtain⟨ok,hok⟩:∃b,aN n f=b:=⟨_,rfl⟩
 have hc:=dM w a n cap f h;rw[hok]at hc;have HC:=aA hc
 have HOK:=aA hok;clear hc hok h hT;obtain⟨R,hR⟩:∃R,iW n f=R:=⟨_,rfl⟩
 rw[hR];cases ok
 ·have HR:=aA (hR.symm.trans (wN HOK.out));clear hR;go_enter Tryz.func64,Tryz.ntmps64;go_wp2_with fail;refine HC.out.mono ?_;rintro r w1 ⟨rfl,hb⟩;go_wp2;go_ret;exact⟨by rw[HR.out];rfl,hb⟩
 ·by_cases h0:n=0
  ·have HR:=aA (hR.symm.trans (qK HOK.out h0));have hn0:((n:Int)==0)=true:=by rw[h0];rfl
   clear hR h0;go_enter Tryz.func64,Tryz.ntmps64;go_wp2_with fail;refine HC.out.mono ?_;rintro r w1 ⟨rfl,hb⟩;go_wp2;go_ret;exact⟨by rw[HR.out];rfl,hb⟩
  ·have HR:=aA (hR.symm.trans ((wM HOK.out h0).trans (oG f n).symm));have hn0:((n:Int)==0)=false:=beq_eq_false_iff_ne.2 (by omega)
   have HALL:=aA (eB HOK.out);have n400:=(eB HOK.out).1
   have n400I:(n:Int)≤400:=by omega
   clear hR;obtain⟨b,off,rfl,hblt,hcl⟩:=HH.out.2.2.resolve_left h0;have HCL:=aA hcl
   clear hcl;obtain⟨i0,hi0,hz0,hz1,hz2⟩:=info_parts DN;go_enter Tryz.func64,Tryz.ntmps64;go_wp2_with fail;refine HC.out.mono ?_;rintro r w1 ⟨rfl,hb⟩;have HB1:=aA hb
   have hs1:=hb.size;clear hb HC;obtain⟨w2,hrun,hown2,hgr2⟩:=run_make_own (P:=Tryz.prog) w1 w.heap.size 46 9 i0 _ 1 Tryz.underlying46 hi0 hz0 hz1 .i64 .i64 n (by rw[hz2];omega) (by unfold maxLen;omega) hs1;have b2:Below w.heap.size w w2:=HB1.out.trans ⟨hgr2.os,hgr2.tape,hgr2.output,hgr2.size,fun k hk=>hgr2.block k (by omega) (by simp)⟩
   have HI0:Hid (LE w f 0 (.slice (some ⟨w1.heap.size,0,none⟩) 0 n) w2):=⟨hown2,b2⟩
   clear hown2 hgr2 b2;go_wp2;clear hrun;go_loopw [17,3] (fun v17 v3 wr=>∃(k g cp:Nat),k≤n∧v17= .int .i64 (k:Int)∧v3= .slice (some ⟨g,0,none⟩) k cp∧Hid (LE w f k (.slice (some ⟨g,0,none⟩) k cp) wr)) (fun v17 _ _=>n-(intOf v17).toNat);case atStart=>exact⟨0,_,_,gC _,rfl,rfl,HI0⟩
   case round=>
    obtain⟨k,g,cp,hk,rfl,rfl,HI⟩:=hrel;by_cases hkn:k<n
    ·have hklI:(k:Int)<(n:Int):=by omega
     obtain⟨⟨tc1,tc2⟩,tmo⟩:=HALL.out.2 k hkn;obtain⟨t,ht⟩:∃t,f k=t:=⟨_,rfl⟩
     have HJ:=aA (show sD f (k+1)=sD f k++[oX t] by rw[←ht];exact uI f k);obtain⟨g0,g1,g2,g3,g4⟩:=(HCL.out k hkn).below HI.out.2 hblt;rw[ht]at tc1 tc2 tmo g0 g1 g2 g3 g4;clear ht;obtain⟨c,⟨x,y,d,e⟩⟩:=t;simp only at tc1 tc2 tmo g0 g1 g2 g3 g4;obtain⟨C,rfl⟩:∃C:Nat,c=(C:Int):=⟨c.toNat,by omega⟩
     have hC100:C≤100:=by omega
     have bt:=aG wr (.cells #[.int .i64 (C:Int),.int .i64 x,.int .i64 y,.int .i64 d,.int .i64 e] 80);have hsw:w.heap.size≤wr.heap.size:=HI.out.2.size
     have HBT:=aA (HI.out.2.alloc hsw (.cells #[.int .i64 (C:Int),.int .i64 x,.int .i64 y,.int .i64 d,.int .i64 e] 80));have HTt:=aA ((HTB.out.below HI.out.2).below bt)
     have HO:=aA (HI.out.1.alloc (.cells #[.int .i64 (C:Int),.int .i64 x,.int .i64 y,.int .i64 d,.int .i64 e] 80));have HCT:=aA (rO C (by omega) x y d e tmo _ HTt.out)
     obtain⟨TT,hTT⟩:∃TT,oX ⟨(C:Int),⟨x,y,d,e⟩⟩=TT:=⟨_,rfl⟩
     rw[hTT]at HCT HJ;clear hTT HTt bt tmo HI;go_wp2_with fail;refine HCT.out.mono ?_;rintro r w3 ⟨rfl,hb3⟩;have hO3:w3.ownsRow w.heap.size 9 1 (.slice (some ⟨g,0,none⟩) k cp) k (BW (sD f k)):=aT HO.out hb3
     have hB3:=HBT.out.trans (hb3.mono (by simp;omega));have hs3:w.heap.size≤w3.heap.size:=hB3.size
     have HO4:=aA (hO3.alloc (.cells #[.string ⟨TT.toArray⟩] 9));have HB4:=aA (hB3.alloc hs3 (.cells #[.string ⟨TT.toArray⟩] 9))
     have HN:=aA (heap_alloc_new w3 (.cells #[.string ⟨TT.toArray⟩] 9));clear hb3 hO3 hB3 HO HBT HCT g0 g1 g2 g3 g4;have hmax:k+1≤maxLen:=by unfold maxLen;omega
     go_wp2_with (at_builtin;refine wpList_append_lies _ rfl (.tmp 21) (.tmp 24) 46 rfl w.heap.size 9 i0 _ 1 16 Tryz.underlying46 hi0 hz0 hz1 hz2 rfl (by omega) _ k (BW (sD f k)) rfl HO4.out ⟨w3.heap.size,0,none⟩ 1 1 [.string ⟨TT.toArray⟩] rfl rfl (World.news_of_block HN.out) (EB _) (by omega) hmax (by omega) (by simp;omega) _ rfl ?_;intro g1 cap1 w7 hown2 hgrow2 hat2 hlt2;have HO7:=aA hown2;have HB7:=aA (HB4.out.grown hgrow2 (by simp;omega) (fun k' e'=>(HO4.out.lt k' e').1));clear hown2 hgrow2 hat2 hlt2);go_roundw;case rel=>exact⟨k+1,g1,cap1,by omega,by go_num,rfl,⟨by rw[HJ.out];unfold BW;rw[List.map_append];exact HO7.out,HB7.out⟩⟩
     case measure=>simp[intOf];omega
    ·have hke:k=n:=by omega
     subst hke;have hnl:¬(k:Int)<(k:Int):=by omega
     have hlen:(Lib.join (sD f k) [43]).length≤140737488355328:=by
      rw[oG];have:=lL k (fun i hi=>HALL.out.2 i hi)
      omega
     have hj:=IR g cp ((sD f k).map fun l=>⟨l.toArray⟩) wr (fun j s hs=>by
      rw[Nat.zero_add,HI.out.1.cellAt j (by
       have:=(List.getElem?_eq_some_iff.1 hs).1;rw[List.length_map,mA]at this
       omega)]
      rw[List.getElem?_map]at hs;unfold BW;rw[List.getElem?_map];cases hq:(sD f k)[j]? with
      |none=>rw[hq]at hs;cases hs
      |some l=>rw[hq]at hs;cases hs;rfl) (HI.out.1.lt g rfl).2 (by rw[List.length_map,mA];omega) (by
       rw[List.length_map,mA];rcases HI.out.1.2 with⟨e,_⟩|⟨g',cap',cur,e,_,_,hnc,_⟩
       ·cases e
       ·cases e;exact hnc) (by
       have e:((sD f k).map fun l=>(⟨l.toArray⟩:ByteArray)).map (fun s=>s.data.toList)=sD f k:=oP _
       rw[e];exact hlen)
     have e:((sD f k).map fun l=>(⟨l.toArray⟩:ByteArray)).map (fun s=>s.data.toList)=sD f k:=oP _;rw[e,List.length_map,mA,←HR.out]at hj;have HJ:=aA hj
     clear hj hlen e;go_wp2_with fail;refine HJ.out.mono ?_;rintro r w9 ⟨rfl,hb9⟩;have HB9:=aA (aC HI.out.2 hb9)
     clear hb9;go_wp2;go_ret;exact⟨rfl,HB9.out⟩
open Go.RowKit Go.Sort
structure Gr (w u:World):Prop where
 below:Below w.heap.size w u
 drawn:w.drawn≤u.drawn
theorem Gr.refl (w:World):Gr w w:=⟨aD _ _,Nat.le_refl _⟩
theorem Gr.trans {a b c:World} (h:Gr a b) (k:Gr b c):Gr a c:=⟨h.below.trans (k.below.mono h.below.size),gU h.drawn k.drawn⟩
theorem Gr.alloc (w:World) (o:Obj):Gr w (w.alloc o):=⟨aG w o,by simp⟩
theorem Gr.drew (w:World):Gr w w.drew:=⟨(aD _ _).drew,by simp⟩
theorem Gr.form {w u:World} (h:Gr w u):∃q os,u=grow (w.drewN q) os:=by
 refine⟨u.drawn-w.drawn,u.heap.extract w.heap.size u.heap.size,?_⟩;obtain⟨⟨h1,h2,h3,h4,h5⟩,h6⟩:=h;cases u with
 |mk heap tape drawn os output=>
  simp only at h1 h2 h3 h4 h5 h6;subst h1 h2 h3;have hh:w.heap++heap.extract w.heap.size heap.size=heap:=by
   apply Array.ext_getElem?;intro i;by_cases hi:i<w.heap.size
   ·rw[Array.getElem?_append_left hi,h5 i hi]
   ·rw[Array.getElem?_append_right (by omega),Array.getElem?_extract];split
    ·congr 1;omega
    ·exact(Array.getElem?_eq_none (by omega)).symm
  have hd:w.drawn+(drawn-w.drawn)=drawn:=by omega
  simp only[grow,World.drewN];rw[hh,hd]
def gM (w:World):Type:=Subtype (fun u:World=>Gr w u)
theorem gM.there (w:World):Nonempty (gM w):=⟨⟨w,Gr.refl _⟩⟩
theorem jU {P:Program} {id:Nat} {Q:Exit→Act→World→Prop} {a:Act} {w:World} {l:List Oper} (hm:P.follows .mixedOrders=true) (hB:Region.lexB .any l.toArray=true) (h:wpQuiet P l.toArray (fun u=>∃x:gM w,u=x.1) (fun a'=>∀w',(∃x:gM w,w'=x.1)→Q .normal a' w') l a):(Code.region id l.toArray true).wp P Q a w:=
 wp_region_quiet (C:=fun u=>∃x:gM w,u=x.1) hm hB ⟨⟨_,Gr.drew _⟩,rfl⟩ (by simpa using h)
theorem xP {P:Program} {f:FuncId} {args:Array Value} {w:World} {x:gM w} {v:Value} (h:Calls P f args x.1 fun e w'=>e= .returned v∧w'=x.1):Calls P f args x.1 fun e w''=>e= .returned v∧∃y:gM w,w''=y.1:=
 h.mono fun _ _ ⟨he,hm⟩=>⟨he,x,hm⟩
theorem iO {P:Program} {f:FuncId} {args:Array Value} {w:World} {x:gM w} {v:Value} (h:Calls P f args x.1 fun e w'=>e= .returned v∧Gr x.1 w'):Calls P f args x.1 fun e w''=>e= .returned v∧∃y:gM w,w''=y.1:=
 h.mono fun _ w' ⟨he,hm⟩=>⟨he,⟨w',x.2.trans hm⟩,rfl⟩
theorem lG {w:World} {t:TypeId} (cs:Array Value) (k:Nat) (v:Value) (h:cs[k]? =some v):∀u:gM (w.alloc (.cells cs t)),u.1.cell? ⟨w.heap.size,k,none⟩=some v:=fun u=>by
 have:=lH (w:=w) (t:=t) cs k v h ⟨u.1,u.2.below⟩;exact this
theorem DC (x y d e:Int) (w:World) (h:M.ok ⟨x,y,d,e⟩=true):Calls Tryz.prog 131 #[.agg #[.int .i64 x,.int .i64 y,.int .i64 d,.int .i64 e]] w fun r w'=>r= .returned (.int .i64 (x+y+d+e))∧Gr w w':=by obtain⟨x1,x2,y1,y2,d1,d2,e1,e2⟩:=M.ok_iff.1 h;simp only at x1 x2 y1 y2 d1 d2 e1 e2;clear h;go_enter Tryz.func131,Tryz.ntmps131;go_wp2;go_ret;exact⟨rfl,Gr.alloc w _⟩
theorem BH (x y d e:Int) (w:World) (h:M.ok ⟨x,y,d,e⟩=true):Calls Tryz.prog 132 #[.agg #[.int .i64 x,.int .i64 y,.int .i64 d,.int .i64 e]] w fun r w'=>r= .returned (.int .i64 (jE ⟨x,y,d,e⟩))∧Gr w w':=by obtain⟨x1,x2,y1,y2,d1,d2,e1,e2⟩:=M.ok_iff.1 h;simp only at x1 x2 y1 y2 d1 d2 e1 e2;clear h;simp only[jE];go_enter Tryz.func132,Tryz.ntmps132;go_wp2;go_ret;exact⟨rfl,Gr.alloc w _⟩
theorem uD (x y d e:Int) (w:World) (h:M.ok ⟨x,y,d,e⟩=true):Calls Tryz.prog 91 #[.agg #[.int .i64 x,.int .i64 y,.int .i64 d,.int .i64 e]] w fun r w'=>r= .returned (.int .i64 (dV ⟨x,y,d,e⟩))∧Gr w w':=by
 obtain⟨x1,x2,y1,y2,d1,d2,e1,e2⟩:=M.ok_iff.1 h;simp only at x1 x2 y1 y2 d1 d2 e1 e2;have HK:=aA h
 have k1:0≤jE ⟨x,y,d,e⟩:=by simp only[jE];omega
 have k2:jE ⟨x,y,d,e⟩≤65535:=by simp only[jE];omega
 have r1:dV ⟨x,y,d,e⟩=(x+y+d+e)*65536+jE ⟨x,y,d,e⟩:=rfl;rw[r1];clear h r1;go_enter Tryz.func91,Tryz.ntmps91;go_wp2_with fail;have B1:=aA (Gr.alloc w (.cells #[.int .i64 x,.int .i64 y,.int .i64 d,.int .i64 e] 78))
 have ne:=gM.there (w.alloc (.cells #[.int .i64 x,.int .i64 y,.int .i64 d,.int .i64 e] 78));have s0:=lG (w:=w) (t:=78) #[.int .i64 x,.int .i64 y,.int .i64 d,.int .i64 e] 0 _ rfl
 have s1:=lG (w:=w) (t:=78) #[.int .i64 x,.int .i64 y,.int .i64 d,.int .i64 e] 1 _ rfl;have s2:=lG (w:=w) (t:=78) #[.int .i64 x,.int .i64 y,.int .i64 d,.int .i64 e] 2 _ rfl
 have s3:=lG (w:=w) (t:=78) #[.int .i64 x,.int .i64 y,.int .i64 d,.int .i64 e] 3 _ rfl;refine jU (by kernel_rfl) (by kernel_rfl) ?_;repeat(go_big_quiet_step (first|(go_at_call 131;exact iO (DC _ _ _ _ _ HK.out))|(go_at_call 132;exact iO (BH _ _ _ _ _ HK.out))))
 refine wpQuiet_nil ?_;rintro _ ⟨u,rfl⟩;go_wp2;go_ret;exact⟨rfl,B1.out.trans u.2⟩
theorem gM.cell {w:World} (x:gM w) {b o:Nat} (h:b<w.heap.size):x.1.cell? ⟨b,o,none⟩=w.cell? ⟨b,o,none⟩:=x.2.below.cell (p:=⟨b,o,none⟩) h
theorem uQ (Br:Nat) (x y d e x' y' d' e':Int) (w:World) (h:M.ok ⟨x,y,d,e⟩=true) (h':M.ok ⟨x',y',d',e'⟩=true) (hB:Br<w.heap.size) (hr:w.cell? ⟨Br,0,none⟩=some (.func (.func 91) #[] #[])):Calls Tryz.prog 153 #[.agg #[.int .i64 x,.int .i64 y,.int .i64 d,.int .i64 e],.agg #[.int .i64 x',.int .i64 y',.int .i64 d',.int .i64 e'],.pointer (some ⟨Br,0,none⟩)] w fun r w'=>r= .returned (.int .i64 (c3 (dV ⟨x,y,d,e⟩) (dV ⟨x',y',d',e'⟩)))∧Gr w w':=by
 have HA:=aA h;have HB:=aA h'
 clear h h';go_enter Tryz.func153,Tryz.ntmps153;go_wp2_with fail;have B1:=aA ((Gr.alloc w (.cells #[.int .i64 x,.int .i64 y,.int .i64 d,.int .i64 e] 78)).trans (Gr.alloc _ (.cells #[.int .i64 x',.int .i64 y',.int .i64 d',.int .i64 e'] 78)))
 have r0:((w.alloc (.cells #[.int .i64 x,.int .i64 y,.int .i64 d,.int .i64 e] 78)).alloc (.cells #[.int .i64 x',.int .i64 y',.int .i64 d',.int .i64 e'] 78)).cell? ⟨Br,0,none⟩=some (.func (.func 91) #[] #[]):=(B1.out.below.cell (p:=⟨Br,0,none⟩) hB).trans hr;have a0:((w.alloc (.cells #[.int .i64 x,.int .i64 y,.int .i64 d,.int .i64 e] 78)).alloc (.cells #[.int .i64 x',.int .i64 y',.int .i64 d',.int .i64 e'] 78)).cell? ⟨w.heap.size,0,none⟩=some (.int .i64 x):=by go_simp
 have a1:((w.alloc (.cells #[.int .i64 x,.int .i64 y,.int .i64 d,.int .i64 e] 78)).alloc (.cells #[.int .i64 x',.int .i64 y',.int .i64 d',.int .i64 e'] 78)).cell? ⟨w.heap.size,1,none⟩=some (.int .i64 y):=by go_simp
 have a2:((w.alloc (.cells #[.int .i64 x,.int .i64 y,.int .i64 d,.int .i64 e] 78)).alloc (.cells #[.int .i64 x',.int .i64 y',.int .i64 d',.int .i64 e'] 78)).cell? ⟨w.heap.size,2,none⟩=some (.int .i64 d):=by go_simp
 have a3:((w.alloc (.cells #[.int .i64 x,.int .i64 y,.int .i64 d,.int .i64 e] 78)).alloc (.cells #[.int .i64 x',.int .i64 y',.int .i64 d',.int .i64 e'] 78)).cell? ⟨w.heap.size,3,none⟩=some (.int .i64 e):=by go_simp
 have b0:((w.alloc (.cells #[.int .i64 x,.int .i64 y,.int .i64 d,.int .i64 e] 78)).alloc (.cells #[.int .i64 x',.int .i64 y',.int .i64 d',.int .i64 e'] 78)).cell? ⟨w.heap.size+1,0,none⟩=some (.int .i64 x'):=by go_simp
 have b1:((w.alloc (.cells #[.int .i64 x,.int .i64 y,.int .i64 d,.int .i64 e] 78)).alloc (.cells #[.int .i64 x',.int .i64 y',.int .i64 d',.int .i64 e'] 78)).cell? ⟨w.heap.size+1,1,none⟩=some (.int .i64 y'):=by go_simp
 have b2:((w.alloc (.cells #[.int .i64 x,.int .i64 y,.int .i64 d,.int .i64 e] 78)).alloc (.cells #[.int .i64 x',.int .i64 y',.int .i64 d',.int .i64 e'] 78)).cell? ⟨w.heap.size+1,2,none⟩=some (.int .i64 d'):=by go_simp
 have b3:((w.alloc (.cells #[.int .i64 x,.int .i64 y,.int .i64 d,.int .i64 e] 78)).alloc (.cells #[.int .i64 x',.int .i64 y',.int .i64 d',.int .i64 e'] 78)).cell? ⟨w.heap.size+1,3,none⟩=some (.int .i64 e'):=by go_simp
 have z:((w.alloc (.cells #[.int .i64 x,.int .i64 y,.int .i64 d,.int .i64 e] 78)).alloc (.cells #[.int .i64 x',.int .i64 y',.int .i64 d',.int .i64 e'] 78)).heap.size=w.heap.size+2:=by simp
 generalize(w.alloc (.cells #[.int .i64 x,.int .i64 y,.int .i64 d,.int .i64 e] 78)).alloc (.cells #[.int .i64 x',.int .i64 y',.int .i64 d',.int .i64 e'] 78)=wb at *;have ne:=gM.there wb
 have sr:∀u:gM wb,u.1.cell? ⟨Br,0,none⟩=some (.func (.func 91) #[] #[]):=fun u=>(u.cell (by omega)).trans r0;have s0:∀u:gM wb,u.1.cell? ⟨w.heap.size,0,none⟩=some (.int .i64 x):=fun u=>(u.cell (by omega)).trans a0
 have s1:∀u:gM wb,u.1.cell? ⟨w.heap.size,1,none⟩=some (.int .i64 y):=fun u=>(u.cell (by omega)).trans a1;have s2:∀u:gM wb,u.1.cell? ⟨w.heap.size,2,none⟩=some (.int .i64 d):=fun u=>(u.cell (by omega)).trans a2
 have s3:∀u:gM wb,u.1.cell? ⟨w.heap.size,3,none⟩=some (.int .i64 e):=fun u=>(u.cell (by omega)).trans a3;have t0:∀u:gM wb,u.1.cell? ⟨w.heap.size+1,0,none⟩=some (.int .i64 x'):=fun u=>(u.cell (by omega)).trans b0
 have t1:∀u:gM wb,u.1.cell? ⟨w.heap.size+1,1,none⟩=some (.int .i64 y'):=fun u=>(u.cell (by omega)).trans b1;have t2:∀u:gM wb,u.1.cell? ⟨w.heap.size+1,2,none⟩=some (.int .i64 d'):=fun u=>(u.cell (by omega)).trans b2
 have t3:∀u:gM wb,u.1.cell? ⟨w.heap.size+1,3,none⟩=some (.int .i64 e'):=fun u=>(u.cell (by omega)).trans b3;clear a0 a1 a2 a3 b0 b1 b2 b3 r0;refine jU (by kernel_rfl) (by kernel_rfl) ?_;repeat(go_big_quiet_step (first|(go_at_call 154;exact xP (zK _ _ _))|(go_at_call_of 91 (Value.int IntKind.i64 x);exact iO (uD _ _ _ _ _ HA.out))|(go_at_call 91;exact iO (uD _ _ _ _ _ HB.out))))
 refine wpQuiet_nil ?_;rintro _ ⟨u,rfl⟩;go_wp2;go_ret;exact⟨rfl,B1.out.trans u.2⟩
open Go.RowKit Go.Sort Go.Shelf Go.Lib
abbrev OM:Type:={m:M // m.ok=true}
def cX (m:OM):List Value:=[.int .i64 m.1.x,.int .i64 m.1.y,.int .i64 m.1.d,.int .i64 m.1.e]
instance:Inhabited OM:=⟨⟨⟨0,0,0,0⟩,by decide⟩⟩
theorem zH (Br blk off size:Nat) (w:World) (hB:Br<w.heap.size) (hne:Br≠blk) (hr:w.cell? ⟨Br,0,none⟩=some (.func (.func 91) #[] #[])):CmpLays Tryz.prog 153 #[.pointer (some ⟨Br,0,none⟩)] cX 4 (fun x y=>c3 (dV x.1) (dV y.1)) blk off size w:=by
 intro m os dk hdk x y;have hr':(sortWorldK cX 4 w blk off m dk os).cell? ⟨Br,0,none⟩=some (.func (.func 91) #[] #[]):=by unfold sortWorldK;rw[cell?_grow _ _ _ (by rw[size_putRowK];exact hB),cell?_putRowK_other _ _ _ blk off dk _ hne];exact hr
 have hB':Br<(sortWorldK cX 4 w blk off m dk os).heap.size:=by unfold sortWorldK;rw[Go.Sort.size_grow,size_putRowK];exact dR hB (Nat.le_add_right _ _)
 refine(uQ Br _ _ _ _ _ _ _ _ _ x.2 y.2 hB' hr').mono ?_;rintro e w' ⟨rfl,hg⟩;exact⟨rfl,hg.form⟩
theorem JE (x y:OM):ltOf (fun x y:OM=>c3 (dV x.1) (dV y.1)) x y=decide (dV x.1<dV y.1):=by
 unfold ltOf c3;by_cases h1:dV x.1<dV y.1
 ·simp[h1]
 ·by_cases h2:dV y.1<dV x.1<;>simp[h1,h2]
theorem LB:SWO (ltOf fun x y:OM=>c3 (dV x.1) (dV y.1)) where
 irrefl x:=by rw[JE];simp
 trans x y z h1 h2:=by rw[JE]at *;simp at *;omega
 ntrans x y z h1 h2:=by rw[JE]at *;simp at *;omega
shelf_lay_g SlLaysF0.n6 Slsf 6 at Tryz 177 as sortM
end Go.Proofs.YtoglomfejgpoeaaGreatDoor
namespace Go.Proofs.YtoglomfejgpoeaaGreatDoor
open Go.RowKit Go.Maps
set_option linter.unusedVariables false
theorem AH:laidOutB Tryz.prog=true:=by kernel_rfl
theorem lN:Keyed Tryz.prog 78:=Keyed.of_law (deep_law_laid AH (m:=2) (by omega) (of_decide_eq_true (by kernel_rfl)) (by kernel_rfl) (by kernel_rfl))
theorem EP {n:Int} (h0:0≤n) (h1:n≤15):(Lit.int .i64 n).wf=true:=WalkArith.wf_i64 (by omega)
def cN (m:M):Lit:=.string (keyBytes [.int .i64 m.x,.int .i64 m.y,.int .i64 m.d,.int .i64 m.e])
theorem mG {m:M} (h:m.ok=true):keyOf Tryz.prog 78 (.agg #[.int .i64 m.x,.int .i64 m.y,.int .i64 m.d,.int .i64 m.e])=some (cN m):=by
 obtain⟨x1,x2,y1,y2,d1,d2,e1,e2⟩:=M.ok_iff.1 h;have w1:=EP x1 x2
 have w2:=EP y1 y2;have w3:=EP d1 d2
 have w4:=EP e1 e2;have hk:Tryz.prog.keyType 78=true:=by kernel_rfl
 have hc:Tryz.prog.cellsOf 78=4:=by kernel_rfl
 have h1:Tryz.prog.cellsOf 3=1:=by kernel_rfl
 obtain⟨D,hD⟩:∃D,Tryz.prog.types.size+1=D+1+1:=⟨Tryz.prog.types.size-1,by have:0<Tryz.prog.types.size:=of_decide_eq_true (by kernel_rfl);omega⟩
 unfold keyOf;simp only[Tryz.underlying78,hk,hD,Value.formed,hc];simp[Program.keyLits,Tryz.underlying78,hc,h1,w1,w2,w3,w4,Value.cells,cN]
theorem CH (w:World):(zeroValue 99).run Tryz.prog w= .ok (.int .i64 0) w:=by kernel_rfl
theorem JD {n:Int} (h0:0≤n) (h1:n≤100):(Lit.int .i64 n).wf=true:=WalkArith.wf_i64 (by omega)
theorem rM {w:World} {P:Program} {k:TypeId} {R:Value→Option (DataW Unit×List MemPlace)} {b n n':Nat} {D:DataW Unit} (h:w.ownsMap P k R b n D) (hn:n≤n'):w.ownsMap P k R b n' D:=by obtain⟨es,clock,h1,h2,h3,h4⟩:=h;exact⟨es,clock,h1,h2,gU h3 hn,h4⟩
def sL (D:DataW Unit) (m:M) (v:Int):DataW Unit:=if v=0 then D.del (cN m)else D.put (cN m) (.lit (.int .i64 v))
theorem GY (b n:Nat) (D:DataW Unit) (c0 c:Int) (m:M) (w:World) (hm:m.ok=true) (hown:w.ownsMap Tryz.prog 78 (plainElem Tryz.prog 99) b n D) (hn:n<maxLen) (hat:D.atKey (cN m) (.lit (.int .i64 0))= .lit (.int .i64 c0)) (a0:0≤c0) (a1:c0≤100) (h0:0≤c) (h1:c≤100):Calls Tryz.prog 85 #[.map (some b),.int .i64 c,.agg #[.int .i64 m.x,.int .i64 m.y,.int .i64 m.d,.int .i64 m.e]] w fun e w'=>e= .returned (.tuple #[])∧w'.ownsMap Tryz.prog 78 (plainElem Tryz.prog 99) b (n+1) (sL D m ((c0+c)%101))∧w.grownBy w' (some b):=by
 have hkey:=mG hm;have r0:0≤(c0+c)%101:=by omega
 have r1:(c0+c)%101≤100:=by omega
 have hg0:=World.grownBy_alloc w (.cells #[.int .i64 m.x,.int .i64 m.y,.int .i64 m.d,.int .i64 m.e] 78) (some b);have ho0:=hown.alloc (.cells #[.int .i64 m.x,.int .i64 m.y,.int .i64 m.d,.int .i64 m.e] 78)
 by_cases hz:(c0+c)%101=0
 ·have e1:sL D m ((c0+c)%101)=D.del (cN m):=by simp[sL,hz]
  rw[e1];go_enter Tryz.func85,Tryz.ntmps85
  go_wp2_with (first
   |(at_lookup;refine wpList_lookup_own_int _ rfl _ _ 101 rfl 78 99 .i64 lN Tryz.underlying101 Tryz.underlying99 (CH _) b n D rfl ho0 _ _ rfl hkey ?_;intro c1 hat1 hwc1;obtain rfl:c1=c0:=(by rw[hat]at hat1;simpa using hat1.symm))
   |(go_at_call 127;refine(IY _ _ _ a0 a1 h0 h1).mono ?_;rintro r w2 ⟨rfl,hw⟩;obtain rfl:=hw.symm;clear hw)
   |(at_delete;refine wpList_delete_own _ rfl _ _ 101 78 rfl 99 lN Tryz.underlying101 _ b n D rfl ho0 _ _ rfl hkey ?_;intro w1 hown1 hturn1)
   |go_in)
  refine bT (results_none rfl _ _ _) rfl ?_;exact⟨rfl,rM hown1 (Nat.le_succ _),hg0.trans hturn1.grown⟩
 ·have e1:sL D m ((c0+c)%101)=D.put (cN m) (.lit (.int .i64 ((c0+c)%101))):=by simp[sL,hz]
  rw[e1];have hzb:((c0+c)%101==0)=false:=by simpa using hz
  go_enter Tryz.func85,Tryz.ntmps85
  go_wp2_with (first
   |(at_lookup;refine wpList_lookup_own_int _ rfl _ _ 101 rfl 78 99 .i64 lN Tryz.underlying101 Tryz.underlying99 (CH _) b n D rfl ho0 _ _ rfl hkey ?_;intro c1 hat1 hwc1;obtain rfl:c1=c0:=(by rw[hat]at hat1;simpa using hat1.symm))
   |(go_at_call 127;refine(IY _ _ _ a0 a1 h0 h1).mono ?_;rintro r w2 ⟨rfl,hw⟩;obtain rfl:=hw.symm;clear hw)
   |(at_mapUpdate;refine wpList_mapUpdate_own _ rfl _ _ _ 101 rfl 78 99 lN Tryz.underlying101 _ b n D rfl ho0 hn _ _ _ rfl rfl hkey _ [] (plainElem_int Tryz.underlying99 (JD r0 r1)) ?_;intro w1 hown1 hgrow1)
   |go_in)
  go_end0
  exact⟨rfl,hown1,hg0.trans hgrow1⟩
theorem oI {a b:M} (ha:a.ok=true) (hb:b.ok=true) (h:cN a=cN b):a=b:=by
 have h1:=mG ha;have h2:=mG hb
 rw[←h]at h2;have h3:=lN.inj h1 h2
 cases a;cases b;simpa using h3
def eF (w:World) (b n:Nat) (c:M→Int):Prop:=
 ∃D:DataW Unit,w.ownsMap Tryz.prog 78 (plainElem Tryz.prog 99) b n D∧(∀m,0≤c m∧c m≤100)∧
  (∀m:M,m.ok=true→D.atKey (cN m) (.lit (.int .i64 0))= .lit (.int .i64 (c m))∧(Maps.has D (cN m)=true↔c m≠0))∧(∀kl,Maps.has D kl=true→∃m:M,m.ok=true∧kl=cN m)
def KQ (a b:M):Bool:=decide (a.x=b.x∧a.y=b.y∧a.d=b.d∧a.e=b.e)
theorem gF {a b:M}:KQ a b=true↔a=b:=by cases a;cases b;simp[KQ]
def gV (c:M→Int) (m:M) (v:Int) (x:M):Int:=if KQ x m=true then(c m+v)%101 else c x
theorem qR (c:M→Int) (m:M) (v:Int):gV c m v m=(c m+v)%101:=if_pos (gF.2 rfl)
theorem kU {c:M→Int} {m x:M} {v:Int} (h:x≠m):gV c m v x=c x:=if_neg (fun e=>h (gF.1 e))
theorem eF.grown {w w':World} {b n:Nat} {c:M→Int} {row:Option Nat} (h:eF w b n c) (hg:w.grownBy w' row) (hne:some b≠row):eF w' b n c:=by
 obtain⟨D,⟨es,clock,h1,h2,h3,h4⟩,h5⟩:=h;have hlt:b<w.heap.size:=by
  rcases Nat.lt_or_ge b w.heap.size with h|h
  ·exact h
  ·rw[Array.getElem?_eq_none h]at h1;cases h1
 exact⟨D,⟨es,clock,(hg.block b hlt hne).trans h1,h2,h3,h4⟩,h5⟩
theorem rX (b n:Nat) (c:M→Int) (v:Int) (m:M) (w:World) (hm:m.ok=true) (h:eF w b n c) (hn:n<maxLen) (h0:0≤v) (h1:v≤100):Calls Tryz.prog 85 #[.map (some b),.int .i64 v,.agg #[.int .i64 m.x,.int .i64 m.y,.int .i64 m.d,.int .i64 m.e]] w fun e w'=>e= .returned (.tuple #[])∧eF w' b (n+1) (gV c m v)∧w.grownBy w' (some b):=by
 obtain⟨D,hown,hc,hat,hks⟩:=h;have hD:IsMap D:=(hown.tidy lN).isMap
 have hK:WideAt.IsKeyLit (cN m):=lN.key (mG hm);refine(GY b n D (c m) v m w hm hown hn (hat m hm).1 (hc m).1 (hc m).2 h0 h1).mono ?_;rintro e w' ⟨rfl,ho,hg⟩;refine⟨rfl,⟨_,ho,fun x=>?_,fun x hx=>?_,fun kl hkl=>?_⟩,hg⟩
 ·unfold gV;split
  ·omega
  ·exact hc x
 ·by_cases hxm:x=m
  ·subst hxm;rw[qR];unfold sL;split
   ·rename_i hz;rw[atKey_del_same,has_del_same,hz];exact⟨rfl,by simp⟩
   ·rename_i hz;rw[atKey_put_same hD hK,has_put_same hD hK];exact⟨rfl,by simp[hz]⟩
  ·have hne:cN x≠cN m:=fun e=>hxm (oI hx hm e);rw[kU hxm];unfold sL;split
   ·rw[atKey_del_other hne,has_del_other hne];exact hat x hx
   ·rw[atKey_put_other hne,has_put_other hne];exact hat x hx
 ·by_cases hkm:kl=cN m
  ·exact⟨m,hm,hkm⟩
  ·unfold sL at hkl;split at hkl
   ·rw[has_del_other hkm]at hkl;exact hks kl hkl
   ·rw[has_put_other hkm]at hkl;exact hks kl hkl
end Go.Proofs.YtoglomfejgpoeaaGreatDoor
