/-
  The program reads operators (PolRead): word by word.
-/
import Derived.Test.YtkcmamepoplcdaaGreatDoorTbb
set_option maxHeartbeats 8000000
set_option maxRecDepth 100000
namespace Go.Proofs.YtkcmamepoplcdaaGreatDoor
open Go.Shelf Go.RowKit
set_option linter.unusedVariables false
set_option linter.unusedSimpArgs false
attribute [local go_sem] Oper.semAt_some
def fB (pre:List (List UInt8)):List T:=pre.map fun x=>(cI x).1
def iB (pre:List (List UInt8)):Bool:=pre.all fun x=>(cI x).2
theorem cD (pre:List (List UInt8)):(fB pre).length=pre.length:=by simp[fB]
theorem qY (pre:List (List UInt8)) (x:List UInt8):fB (pre++[x])=fB pre++[(cI x).1]:=by simp[fB]
theorem pY (pre:List (List UInt8)) (x:List UInt8):iB (pre++[x])=(iB pre&&(cI x).2):=by simp[iB]
theorem uB {pre xs:List (List UInt8)} (h:pre<+:xs) (hp:iB pre=false):∃(i:Nat) (w:List UInt8),xs[i]? =some w∧(cI w).2=false:=by obtain⟨r,rfl⟩:=h;unfold iB at hp;rw[List.all_eq_false]at hp;obtain⟨x,hx,hf⟩:=hp;obtain⟨i,hi,e⟩:=List.getElem_of_mem hx;exact⟨i,x,by rw[List.getElem?_append_left hi,List.getElem?_eq_getElem hi,e],by simpa using hf⟩
def xT (w:World) (pre:List (List UInt8)) (W:World):Prop:=
 (∃v,Boxed W (w.heap.size+2) 22 v∧W.ownsRow (w.heap.size+6) 79 5 v pre.length (aN (fB pre))∧True)∧(eD w.heap.size (.slice none 0 0) false W∧(Below w.heap.size w W∧(w.heap.size+6≤W.heap.size∧iB pre=true)))
def zQ (w:World) (c:Code) (pre:List (List UInt8)) (W:World):Prop:=(c=Code.ret∧iB pre=false)∧(eD w.heap.size (.slice none 0 0) false W∧Below w.heap.size w W)
theorem vI (w:World) (B:Nat) (hB:w.heap.size≤B):OwnFrom B (xT w):=
 OwnFrom.and (Own.from (holdsRow_own (w.heap.size+6) (w.heap.size+2) 22 79 5 (fun(pre:List (List UInt8))=>pre.length) (fun pre=>aN (fB pre)) (fun _ _=>True)) _) (OwnFrom.and (nS _ _ _ _) (OwnFrom.and (ownFrom_below (aE _) hB) (OwnFrom.and (fun _ _ _ _ hs hg _=>kB hs hg.size) (ownFrom_pure _ _))))
theorem vK (w:World) (c:Code) (B:Nat) (hB:w.heap.size≤B):OwnFrom B (zQ w c):=OwnFrom.and (ownFrom_pure _ _) (OwnFrom.and (nS _ _ _ _) (ownFrom_below (aE _) hB))
theorem vJ {w A:World} {pre:List (List UInt8)} (h:xT w pre A) {k:Nat} (h1:w.heap.size+3≤k) (h2:k<w.heap.size+6) (u:Value):xT w pre (A.setCell ⟨k,0,none⟩ u):=by obtain⟨⟨v,hb,ho,_⟩,hr,hbl,hsz,ha⟩:=h;exact⟨⟨v,hb.other (by omega) _,ho.kept (grownBy_setCell' A k u) (.inr (fun e=>by have:=(ho.lt k e).1;omega)),trivial⟩,hr.other (by omega) _,hbl.setCell (by simp;omega) _,by simp[World.setCell];exact hsz,ha⟩
theorem gQ {B:Nat} {W W':World} (h:Below W.heap.size W W'):KeepsFrom B W W':=⟨h.size,fun k o _ hk _=>(h.block k (Array.getElem?_eq_some_iff.1 hk).1).trans hk⟩
theorem gG.set {lo hi k:Nat} (hk:k<lo) (A:World) (v:Value):gG lo hi A (A.setCell ⟨k,0,none⟩ v):=⟨by simp[World.setCell],fun j h1 h2=>Below.heap_setCell _ _ _ _ (by simp;omega)⟩
theorem vA {w:World} {b b':Nat} {cs:Array Value} {t:TypeId} (h:w.heap[b]? =some (.cells cs t)) (e:b=b'):∀(j:Nat) (u:Value),cs.toList[j]? =some u→w.cell? ((⟨b',0,none⟩:Addr).add j)=some u:=by subst e;exact World.news_of_block h
theorem qR {n:Nat} {v:Value} {ok:Bool} {A B:World} {row:Option Nat} (h:eD n v ok A) (hg:A.grownBy B row) (hr:∀k,row=some k→n+1<k):eD n v ok B:=⟨h.1.kept hg (fun e=>by have:=hr _ e.symm;omega),h.2.kept hg (fun e=>by have:=hr _ e.symm;omega)⟩
theorem jW {n D:Nat} {v:Value} {ok:Bool} {W:World} {o o':Obj} (h:eD n v ok W) (hD:W.heap[D]? =some o) (ho:o.isCells=false):eD n v ok (W.putObj D o'):=
 ⟨iX (B:=0) h.1 (grownBy_putObj' W D o') (fun r e=>by cases e;exact⟨kG _,o,hD,ho⟩),iX (B:=0) h.2 (grownBy_putObj' W D o') (fun r e=>by cases e;exact⟨kG _,o,hD,ho⟩)⟩
theorem lH {w W:World} {D:Nat} (h:Below w.heap.size w W) (hD:w.heap.size≤D) (o:Obj):Below w.heap.size w (W.putObj D o):=h.grown (grownBy_putObj' W D o) h.size (fun k e=>by cases e;exact hD)
theorem qP (s:List UInt8) (hs:s.length≤400) (h0:s≠[48]) (w:World) (hE:Er w) (hT:Tb w):Calls Tryz.prog 96 #[.string ⟨s.toArray⟩] w (dK w s):=by
 have HE:=aA hE;have HT:=aA hT
 have hlI:(s.length:Int)≤400:=by omega
 have hlI2:¬(400:Int)<(s.length:Int):=by omega
 have h0b:(s==[48])=false:=beq_eq_false_iff_ne.2 h0
 have HBAD:Hid (∀pre,pre<+:aU s→iB pre=false→∀w',Below w.heap.size w w'→dK w s (.returned (.tuple #[.slice none 0 0,.bool false])) w'):=aA (fun pre hp ha w' hb=>by
  obtain⟨i,x,hx,hf⟩:=uB hp ha;have:=vZ x
  rw[hf]at this
  exact pP (sX h0 hx this) hb)
 have HRD:Hid (iB (aU s)=true→∀(i:Nat) (x:List UInt8) (t:T),(aU s)[i]? =some x→(fB (aU s))[i]? =some t→xU x t true):=aA (fun ha i x t hx ht=>by
  unfold fB at ht;rw[List.getElem?_map,hx]at ht;cases ht;have h1:=vZ x
  have h2:(cI x).2=true:=by unfold iB at ha;rw[List.all_eq_true]at ha;exact ha x (List.mem_of_getElem? hx)
  rw[h2]at h1
  exact h1)
 have HNOT:Hid (iB (aU s)=true→aS (aU s).length (lf (fB (aU s)))=false→∀w',Below w.heap.size w w'→dK w s (.returned (.tuple #[.slice none 0 0,.bool false])) w'):=aA (fun ha hok w' hb=>pP (sY h0 (cD _) (HRD.out ha) (by rw[cD];exact hok)) hb);have hcl:=lI s
 have HYES:Hid (iB (aU s)=true→aS (aU s).length (lf (fB (aU s)))=true→∀w' v,Below w.heap.size w w'→w'.ownsRow w.heap.size 79 5 v (aU s).length (aN (fB (aU s)))→dK w s (.returned (.tuple #[v,.bool true])) w'):=aA (fun ha hok w' v hb ho=>xA (sW h0 hs (cD _) (HRD.out ha) (by rw[cD];exact hok)) (by rw[cD];omega) hb (by rw[cD];exact ho))
 have HML:Hid (∀pre x,pre++[x]<+:aU s→x.length≤400∧pre.length≤400):=aA (fun pre x hp=>by
  obtain⟨r,hr⟩:=hp;have h1:=dG s x (by rw[←hr];simp)
  have h2:(aU s).length=pre.length+1+r.length:=by rw[←hr];simp;omega
  omega)
 have HCUT:Hid (∃ws,ws=aU s∧ws.length≤401):=aA ⟨_,rfl,by omega⟩;obtain⟨PS,hPS⟩:∃Q:Ending→World→Prop,dK w s=Q:=⟨_,rfl⟩
 rw[hPS]at HBAD HNOT HYES⊢;clear hPS HRD hE hT h0;obtain⟨ws,hws,hwl⟩:∃ws,aU s=ws∧ws.length≤401:=⟨_,rfl,by omega⟩
 have HSEQ:Hid (∀u:World,wB Tryz.prog 179 #[.pointer (some ⟨u.heap.size+1,0,none⟩),.pointer (some ⟨u.heap.size,0,none⟩),.pointer (some ⟨u.heap.size+2,0,none⟩)] wK u.heap.size (u.heap.size+3) (aU s) (tW u s)):=aA (fun u=>xK s (by omega) u.heap.size (tW u s) (wC u s));rw[hws]at HBAD HNOT HYES HML HSEQ;clear hws hcl HCUT;have hR0:=nR w
 have hB0:Below w.heap.size w ((w.alloc (.cells #[.slice none 0 0] 22)).alloc (.cells #[.bool false] 4)):=cT w _ _;have hR1:=(hR0.below (aG _ (.cells #[.slice none 0 0] 22)))
 have hB1:=aD hB0 (aG _ (.cells #[.slice none 0 0] 22));have bP1:Boxed (((w.alloc (.cells #[.slice none 0 0] 22)).alloc (.cells #[.bool false] 4)).alloc (.cells #[.slice none 0 0] 22)) (w.heap.size+2) 22 (.slice none 0 0):=by
  have:=Boxed.new ((w.alloc (.cells #[.slice none 0 0] 22)).alloc (.cells #[.bool false] 4)) 22 (.slice none 0 0)
  rwa[World.size_alloc,World.size_alloc]at this
 have hs1:(((w.alloc (.cells #[.slice none 0 0] 22)).alloc (.cells #[.bool false] 4)).alloc (.cells #[.slice none 0 0] 22)).heap.size=w.heap.size+3:=by simp
 have hBx:=tZ (((w.alloc (.cells #[.slice none 0 0] 22)).alloc (.cells #[.bool false] 4)).alloc (.cells #[.slice none 0 0] 22)) s;have hS2:=rI (((w.alloc (.cells #[.slice none 0 0] 22)).alloc (.cells #[.bool false] 4)).alloc (.cells #[.slice none 0 0] 22)) s
 have HSQ:=aA (HSEQ.out (((w.alloc (.cells #[.slice none 0 0] 22)).alloc (.cells #[.bool false] 4)).alloc (.cells #[.slice none 0 0] 22)));have HSV:=aA (qV s (((w.alloc (.cells #[.slice none 0 0] 22)).alloc (.cells #[.bool false] 4)).alloc (.cells #[.slice none 0 0] 22)))
 rw[hs1]at HSQ HSV hS2;have hR2:=hR1.below hBx
 have hB2:=aD hB1 hBx;have bP2:Boxed (tW (((w.alloc (.cells #[.slice none 0 0] 22)).alloc (.cells #[.bool false] 4)).alloc (.cells #[.slice none 0 0] 22)) s) (w.heap.size+2) 22 (.slice none 0 0):=(hBx.block _ (by rw[hs1];omega)).trans bP1
 have HSTART:Hid (xT w [] (tW (((w.alloc (.cells #[.slice none 0 0] 22)).alloc (.cells #[.bool false] 4)).alloc (.cells #[.slice none 0 0] 22)) s)):=aA ⟨⟨_,bP2,nM _ _,trivial⟩,hR2,hB2,by rw[hS2];omega,rfl⟩;have HS2:=aA hS2
 clear hR0 hB0 hR1 hB1 bP1 hs1 hBx hR2 hB2 bP2 HSEQ hS2;refine(callsIn_wide (n:=9)).1 ?_;refine callsIn_of_wp_marks Tryz.func96 rfl trivial ?_ rfl;simp only[Tryz.ntmps96,List.size_toArray,List.length_cons,List.length_nil,Nat.reduceAdd,Nat.reduceSub,Array.replicate_succ,Array.replicate_zero,List.push_toArray,List.append_toArray,List.nil_append,List.cons_append]
 gi_wp2_with (first
  |(refine⟨trivial,?_⟩;gi_at_call 134;refine(callsIn_wide.2 HSV.out).mono ?_;rintro e w1 ⟨rfl,hw1⟩;rw[←hw1]at HSTART HSQ HS2;clear hw1)
  |gi_in)
 rw[show w.heap.size+1+1=w.heap.size+2 from rfl];have hs61:w.heap.size+6≤w1.heap.size:=by have:=HS2.out;omega
 refine xC (w0:=w1) (by decide) (gf:=179) (lb:=#[.pointer (some ⟨w.heap.size+3+1,0,none⟩),.pointer (some ⟨w.heap.size+3,0,none⟩),.pointer (some ⟨w.heap.size+3+2,0,none⟩)]) rfl (enters_of Tryz.func179 (by kernel_rfl) rfl) HSQ.out (aC _ _) hs61 (fun _=>rfl)
  (xT w) (zQ w) (vI w _ (by omega)) (fun pre A k v a b h=>vJ h a (by omega) v) (fun c=>vK w c _ (by omega)) HSTART.out
  (fun x a' _=>a'=({tmps:=#[Value.string ⟨s.toArray⟩,undef,Value.pointer (some ⟨w.heap.size,0,none⟩),Value.pointer (some ⟨w.heap.size+1,0,none⟩),Value.pointer (some ⟨w.heap.size+2,0,none⟩),Value.string ⟨x.toArray⟩,undef,undef,Value.string ⟨s.toArray⟩,Value.int IntKind.i64 (s.length:Int),Value.bool false,Value.string ⟨s.toArray⟩,Value.bool false,Value.string ⟨s.toArray⟩,Value.func (Fn.func 179) #[] #[.pointer (some ⟨w.heap.size+3+1,0,none⟩),.pointer (some ⟨w.heap.size+3,0,none⟩),.pointer (some ⟨w.heap.size+3+2,0,none⟩)],Value.string ⟨x.toArray⟩,undef,undef,undef,undef,undef,undef,undef,undef,undef,undef,undef,undef,undef,undef,undef],defers:=[]}:Act))
  (fun _ _ _ _ _ _ hs _ _=>hs) ?assign ?body ?done ?stop
 case assign=>
  rintro l pre x W K' hI hK';dsimp only[wK]at hK'⊢
  gi_wp2
  exact hK' _ _ (KeepsFrom.refl _ _) (gG.refl _ _ _) hI rfl
 case body=>
  rintro l pre x a' W hI rfl hpre;obtain⟨hxl,hpl⟩:=HML.out pre x hpre;obtain⟨⟨v,bP,hrow,_⟩,hR,hB,hsW,hall⟩:=hI;obtain⟨i0,hi0,hz0,hz1,hz2⟩:=info_parts pF;have hPT:=lU x hxl W (HE.out.below hB) (HT.out.below hB)
  obtain⟨t,b,htb⟩:∃t b,cI x=(t,b):=⟨_,_,rfl⟩
  unfold lE at hPT;have HTS:Hid (fB (pre++[x])=fB pre++[t]):=by rw[qY,htb];exact aA rfl
  have HAS:Hid (iB (pre++[x])=b):=by rw[pY,hall,htb];exact aA (by simp)
  rw[htb]at hPT;have HPT:=aA hPT
  have HROW:=aA hrow;have HR:=aA hR
  have HB:=aA hB;have HBP:=aA bP
  clear hPT htb hrow hR hB bP hall hpre HML;cases b
  ·gi_wp2_with (first
    |(refine⟨trivial,rfl,?_⟩;gi_at_call 135;(refine(CallsIn.inRound l (callsIn_wide.2 HPT.out)).mono ?_;rintro e w4 ⟨rfl,hb4⟩;have hR4:=HR.out.below hb4;have c1:=hR4.1.cell;have c2:=hR4.2.cell;have z1:=hR4.1.frozen;have z2:=hR4.2.frozen;have hRA:=hR4.below (aG w4 (.cells #[.int .i64 t.c,.int .i64 t.m.x,.int .i64 t.m.y,.int .i64 t.m.d,.int .i64 t.m.e] 79));have c3:=hRA.1.cell;have c4:=hRA.2.cell;have z3:=hRA.1.frozen;have z4:=hRA.2.frozen;have HR4:=aA hR4;have HB4:=aA hb4;have hn5:w.heap.size≠w4.heap.size:=(by have:=hR4.2.lt;omega);have hn6:w.heap.size+1≠w4.heap.size:=(by have:=hR4.2.lt;omega);clear hb4 hR4 hRA))
    |gi_in)
   have hRf:eD w.heap.size (.slice none 0 0) false (((w4.alloc (.cells #[.int .i64 t.c,.int .i64 t.m.x,.int .i64 t.m.y,.int .i64 t.m.d,.int .i64 t.m.e] 79)).setCell ⟨w.heap.size,0,none⟩ (.slice none 0 0)).setCell ⟨w.heap.size+1,0,none⟩ (.bool false)):=(HR4.out.below (aG w4 (.cells #[.int .i64 t.c,.int .i64 t.m.x,.int .i64 t.m.y,.int .i64 t.m.d,.int .i64 t.m.e] 79))).set _ _;have hBf:Below w.heap.size w (((w4.alloc (.cells #[.int .i64 t.c,.int .i64 t.m.x,.int .i64 t.m.y,.int .i64 t.m.d,.int .i64 t.m.e] 79)).setCell ⟨w.heap.size,0,none⟩ (.slice none 0 0)).setCell ⟨w.heap.size+1,0,none⟩ (.bool false)):=((aD (aD HB.out HB4.out) (aG w4 _)).setCell (p:=⟨w.heap.size,0,none⟩) (by simp) _).setCell (p:=⟨w.heap.size+1,0,none⟩) (by simp) _
   have hKf:KeepsFrom w1.heap.size W (((w4.alloc (.cells #[.int .i64 t.c,.int .i64 t.m.x,.int .i64 t.m.y,.int .i64 t.m.d,.int .i64 t.m.e] 79)).setCell ⟨w.heap.size,0,none⟩ (.slice none 0 0)).setCell ⟨w.heap.size+1,0,none⟩ (.bool false)):=(gQ HB4.out).trans ((gQ (aG w4 _)).trans (((KeepsOthers.setCell _ _ _).trans (KeepsOthers.setCell _ _ _)).from _));exact⟨hKf,⟨rfl,HAS.out⟩,hRf,hBf⟩
  ·obtain⟨a5,c5,hv5,_⟩:=aT (L:=fB pre) (by rw[cD];exact HROW.out) (by rw[cD];omega);rw[cD]at hv5;subst hv5
   gi_wp2_with (first
    |(refine⟨trivial,rfl,?_⟩;gi_at_call 135;(refine(CallsIn.inRound l (callsIn_wide.2 HPT.out)).mono ?_;rintro e w4 ⟨rfl,hb4⟩;have hP4:Boxed w4 (w.heap.size+2) 22 (.slice a5 pre.length c5):=(hb4.block _ HBP.out.lt).trans HBP.out;have hPA:=hP4.alloc (.cells #[.int .i64 t.c,.int .i64 t.m.x,.int .i64 t.m.y,.int .i64 t.m.d,.int .i64 t.m.e] 79);have c1:=hP4.cell;have z1:=hP4.frozen;have c2:=hPA.cell;have z2:=hPA.frozen;have HPA:=aA hPA;have HRA:=aA ((bD HROW.out hb4).alloc (.cells #[.int .i64 t.c,.int .i64 t.m.x,.int .i64 t.m.y,.int .i64 t.m.d,.int .i64 t.m.e] 79));have HB4:=aA hb4;have HNW:=aA (heap_alloc_new (w4.alloc (.cells #[.int .i64 t.c,.int .i64 t.m.x,.int .i64 t.m.y,.int .i64 t.m.d,.int .i64 t.m.e] 79)) (.cells #[.int .i64 t.c,.int .i64 t.m.x,.int .i64 t.m.y,.int .i64 t.m.d,.int .i64 t.m.e] 79));have hs4:=hb4.size;have hn5:w.heap.size+2≠w4.heap.size:=(by have:=hP4.lt;omega);clear hb4 hP4 hPA))
    |(gi_at_builtin;refine wpListIn_append_own _ rfl _ _ 22 rfl (w.heap.size+6) 79 i0 _ 5 40 Tryz.underlying22 hi0 hz0 hz1 hz2 rfl (by decide) _ pre.length (aN (fB pre)) rfl (HRA.out.alloc _) ⟨w4.heap.size+1,0,none⟩ 1 1 (aN [t]) rfl (by rw[aW];rfl) (by rw[bO];exact vA HNW.out (by simp)) (cA _) (by unfold maxLen;omega) (by omega) (by simp;omega) ?_;intro v' w7 hown' hgrow _;obtain⟨g',cap',hv'⟩:=ownsRow_succ hown';subst hv';obtain⟨hv1,hv2,_,hk2,hb2⟩:=HPA.out.appended (n₀:=w.heap.size) (by decide) (dA HRA.out (by omega)) (by simp;omega) (by omega) (dA hown' (by omega)) hgrow;have c9:=hv1.cell;have z9:=hv1.frozen;have HV1:=aA hv1;have HV2:=aA hv2;have HK2:=aA hk2;have HG2:=aA hgrow;have HO2:=aA hown';clear hv1 hv2 hk2 hb2 hgrow hown')
    |gi_in)
   have hw4:w.heap.size+6≤w4.heap.size:=by omega
   have hrw:∀k,(Value.slice a5 pre.length c5).ownBlock=some k→w.heap.size+6≤k:=fun k e=>(HRA.out.lt k e).1;have hg:=HG2.out
   have hsz7:=hg.size;have hKp:gG (w.heap.size+3) (w.heap.size+3+3) W (w7.setCell ⟨w.heap.size+2,0,none⟩ (.slice (some ⟨g',0,none⟩) (pre.length+1) cap')):=by refine(gG.below HB4.out (by omega)).trans ((gG.below (aG w4 _) (by omega)).trans ((gG.below (aG (w4.alloc (.cells #[.int .i64 t.c,.int .i64 t.m.x,.int .i64 t.m.y,.int .i64 t.m.d,.int .i64 t.m.e] 79)) _) (by simp;omega)).trans ((gG.grown hg (by simp;omega) (fun k e=>.inr (hrw k e))).trans (gG.set (by omega) _ _))))
   have hRf:eD w.heap.size (.slice none 0 0) false (w7.setCell ⟨w.heap.size+2,0,none⟩ (.slice (some ⟨g',0,none⟩) (pre.length+1) cap')):=
    (qR (((HR.out.below HB4.out).below (aG w4 _)).below (aG (w4.alloc (.cells #[.int .i64 t.c,.int .i64 t.m.x,.int .i64 t.m.y,.int .i64 t.m.d,.int .i64 t.m.e] 79)) _)) hg (fun k e=>by have:=hrw k e;omega)).other (by omega) _
   have hBf:Below w.heap.size w (w7.setCell ⟨w.heap.size+2,0,none⟩ (.slice (some ⟨g',0,none⟩) (pre.length+1) cap')):=
    ((aD (aD (aD HB.out HB4.out) (aG w4 _)) (aG (w4.alloc (.cells #[.int .i64 t.c,.int .i64 t.m.x,.int .i64 t.m.y,.int .i64 t.m.d,.int .i64 t.m.e] 79)) _)).grown hg (by simp;omega) (fun k e=>by have:=hrw k e;omega)).setCell (p:=⟨w.heap.size+2,0,none⟩) (by simp) _
   refine⟨(gQ HB4.out).trans ((gQ (aG w4 _)).trans (HK2.out.from _)),hKp,⟨_,HV2.out,?_,trivial⟩,hRf,hBf,?_,HAS.out⟩
   ·have h1:=HO2.out.kept (grownBy_setCell' w7 (w.heap.size+2) (.slice (some ⟨g',0,none⟩) (pre.length+1) cap')) (.inr (HV1.out.not_row (by decide) HO2.out).symm);rw[HTS.out,bA,List.length_append];exact h1
   ·simp[World.setCell];have:w4.heap.size+2≤w7.heap.size:=by simpa using hsz7
    omega
 case done=>
  rintro D W hD ⟨⟨v,bP,hrow,_⟩,hR,hB,hsW,hall⟩ hKd;have hDlt:D<W.heap.size:=(Array.getElem?_eq_some_iff.1 hKd).1
  obtain⟨a5,c5,hv5,hout⟩:=aT (L:=fB ws) (dA (by rw[cD];exact hrow) (show w.heap.size≤w.heap.size+6 by omega)) (by rw[cD];omega);have hrd:=hout.1
  rw[cD]at hv5 hrd;subst hv5;obtain⟨ok,hok⟩:∃b,aS ws.length (lf (fB ws))=b:=⟨_,rfl⟩
  have hc:=oJ W a5 ws.length c5 _ hrd;rw[hok]at hc;have HC:=aA hc
  have HROW:=aA hrow;have HR:=aA hR
  have HB:=aA hB;have HKD:=aA hKd
  have HBP:=aA bP;have c0:=bP.cell
  have HNO:Hid (ok=false→_):=aA (fun e=>HNOT.out hall (hok.trans e));have HYE:Hid (ok=true→_):=aA (fun e=>HYES.out hall (hok.trans e))
  clear hc hrow hR hB hKd bP hall hout hrd hok HNOT HYES;have hnD1:D≠w.heap.size:=by omega
  have hnD2:D≠w.heap.size+1:=by omega
  cases ok
  ·gi_wp2_with (first
    |(refine⟨trivial,?_⟩;gi_at_call 57;refine(callsIn_wide.2 HC.out).mono ?_;rintro e w5 ⟨rfl,hb5⟩;have hR5:=HR.out.below hb5;have c1:=hR5.1.cell;have c2:=hR5.2.cell;have z1:=hR5.1.frozen;have z2:=hR5.2.frozen;have HR5:=aA hR5;have HB5:=aA hb5;clear hb5 hR5)
    |gi_in)
   have hK5:((w5.setCell ⟨w.heap.size,0,none⟩ (.slice none 0 0)).setCell ⟨w.heap.size+1,0,none⟩ (.bool false)).heap[D]? =some (.deferred (some [])):=by rw[Below.heap_setCell _ _ _ _ hnD2,Below.heap_setCell _ _ _ _ hnD1];exact(HB5.out.block D hDlt).trans HKD.out
   refine⟨by simp,.inl ⟨_,_,rfl,run_takeDeferred hK5,?_⟩⟩;refine⟨_,dY _ rfl rfl (jW (HR5.out.set (.slice none 0 0) false) hK5 rfl),HNO.out (by first|rfl|trivial) _ ?_⟩;exact lH (((aD HB.out HB5.out).setCell (p:=⟨w.heap.size,0,none⟩) (by simp) _).setCell (p:=⟨w.heap.size+1,0,none⟩) (by simp) _) (by omega) _
  ·gi_wp2_with (first
    |(refine⟨trivial,?_⟩;gi_at_call 57;refine(callsIn_wide.2 HC.out).mono ?_;rintro e w5 ⟨rfl,hb5⟩;have hR5:=HR.out.below hb5;have c1:=hR5.1.cell;have c2:=hR5.2.cell;have z1:=hR5.1.frozen;have z2:=hR5.2.frozen;have hP5:Boxed w5 (w.heap.size+2) 22 (.slice a5 ws.length c5):=(hb5.block _ HBP.out.lt).trans HBP.out;have c5':=hP5.cell;have HR5:=aA hR5;have HB5:=aA hb5;have HO5:=aA (bD HROW.out hb5);clear hb5 hR5 hP5)
    |gi_in)
   have hK5:((w5.setCell ⟨w.heap.size,0,none⟩ (.slice a5 ws.length c5)).setCell ⟨w.heap.size+1,0,none⟩ (.bool true)).heap[D]? =some (.deferred (some [])):=by rw[Below.heap_setCell _ _ _ _ hnD2,Below.heap_setCell _ _ _ _ hnD1];exact(HB5.out.block D hDlt).trans HKD.out
   refine⟨by simp,.inl ⟨_,_,rfl,run_takeDeferred hK5,?_⟩⟩;refine⟨_,dY _ rfl rfl (jW (HR5.out.set (.slice a5 ws.length c5) true) hK5 rfl),HYE.out (by first|rfl|trivial) _ _ ?_ ?_⟩
   ·exact lH (((aD HB.out HB5.out).setCell (p:=⟨w.heap.size,0,none⟩) (by simp) _).setCell (p:=⟨w.heap.size+1,0,none⟩) (by simp) _) (by omega) _
   ·have h1:=HO5.out.kept (grownBy_setCell' w5 w.heap.size (.slice a5 ws.length c5)) (.inr (HR5.out.1.not_row (by decide) HO5.out).symm);have h2:=h1.kept (grownBy_setCell' _ (w.heap.size+1) (.bool true)) (.inr ((HR5.out.2.other (by omega) (.slice a5 ws.length c5)).not_row (by decide) h1).symm)
    exact dA (ownsRow_putObj h2 (.deferred none) hK5 rfl) (by omega)
 case stop=>
  rintro D c pre W hD hpre ⟨⟨rfl,hok⟩,hR,hB⟩ hKd;refine wpIn_ret ?_;refine⟨by simp,.inl ⟨_,_,rfl,run_takeDeferred hKd,?_⟩⟩;exact⟨_,dY _ rfl rfl (jW hR hKd rfl),HBAD.out pre hpre hok _ (lH hB (by omega) _)⟩
theorem sZ (s:List UInt8) (hs:s.length≤1048576) (w:World) (hE:Er w) (hT:Tb w):Calls Tryz.prog 96 #[.string ⟨s.toArray⟩] w fun r w'=>∃a cap,r= .returned (.tuple #[.slice a (cB s).1.length cap,.bool (cB s).2])∧Below w.heap.size w w'∧iH w.heap.size w' a cap (cB s).1:=by
 by_cases h0:s=[48]
 ·exact kW s hs w (.inl h0)
 ·by_cases hl:s.length≤400
  ·exact qP s hl h0 w hE hT
  ·exact kW s hs w (.inr (by omega))
end Go.Proofs.YtkcmamepoplcdaaGreatDoor
