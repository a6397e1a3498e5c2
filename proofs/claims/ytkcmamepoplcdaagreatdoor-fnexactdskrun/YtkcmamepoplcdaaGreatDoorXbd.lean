/-
  The program reads operators (PolRead): word by word.
-/
import Derived.Test.YtkcmamepoplcdaaGreatDoorXbc
set_option maxHeartbeats 8000000
set_option maxRecDepth 100000
namespace Go.Proofs.YtkcmamepoplcdaaGreatDoor
open Go.Shelf Go.RowKit
set_option linter.unusedVariables false
set_option linter.unusedSimpArgs false
attribute [local go_sem] Oper.semAt_some
def kW (pre:List (List UInt8)):List T:=pre.map fun x=>(eZ x).1
def oK (pre:List (List UInt8)):Bool:=pre.all fun x=>(eZ x).2
theorem dZ (pre:List (List UInt8)):(kW pre).length=pre.length:=by simp[kW]
theorem EI (pre:List (List UInt8)) (x:List UInt8):kW (pre++[x])=kW pre++[(eZ x).1]:=by simp[kW]
theorem CS (pre:List (List UInt8)) (x:List UInt8):oK (pre++[x])=(oK pre&&(eZ x).2):=by simp[oK]
theorem KQ {pre xs:List (List UInt8)} (h:pre<+:xs) (hp:oK pre=false):∃(i:Nat) (w:List UInt8),xs[i]? =some w∧(eZ w).2=false:=by obtain⟨r,rfl⟩:=h;unfold oK at hp;rw[List.all_eq_false]at hp;obtain⟨x,hx,hf⟩:=hp;obtain⟨i,hi,e⟩:=List.getElem_of_mem hx;exact⟨i,x,by rw[List.getElem?_append_left hi,List.getElem?_eq_getElem hi,e],by simpa using hf⟩
def QT (w:World) (pre:List (List UInt8)) (W:World):Prop:=
 (∃v,Boxed W (w.heap.size+2) 22 v∧W.ownsRow (w.heap.size+6) 79 5 v pre.length (aG (kW pre))∧True)∧(jD w.heap.size (.slice none 0 0) false W∧(Below w.heap.size w W∧(w.heap.size+6≤W.heap.size∧oK pre=true)))
def UH (w:World) (c:Code) (pre:List (List UInt8)) (W:World):Prop:=(c=Code.ret∧oK pre=false)∧(jD w.heap.size (.slice none 0 0) false W∧Below w.heap.size w W)
theorem MR (w:World) (B:Nat) (hB:w.heap.size≤B):OwnFrom B (QT w):=
 OwnFrom.and (Own.from (holdsRow_own (w.heap.size+6) (w.heap.size+2) 22 79 5 (fun(pre:List (List UInt8))=>pre.length) (fun pre=>aG (kW pre)) (fun _ _=>True)) _) (OwnFrom.and (yY _ _ _ _) (OwnFrom.and (ownFrom_below (Nat.le_refl _) hB) (OwnFrom.and (fun _ _ _ _ hs hg _=>jW hs hg.size) (ownFrom_pure _ _))))
theorem MU (w:World) (c:Code) (B:Nat) (hB:w.heap.size≤B):OwnFrom B (UH w c):=OwnFrom.and (ownFrom_pure _ _) (OwnFrom.and (yY _ _ _ _) (ownFrom_below (Nat.le_refl _) hB))
theorem MS {w A:World} {pre:List (List UInt8)} (h:QT w pre A) {k:Nat} (h1:w.heap.size+3≤k) (h2:k<w.heap.size+6) (u:Value):QT w pre (A.setCell ⟨k,0,none⟩ u):=by obtain⟨⟨v,hb,ho,_⟩,hr,hbl,hsz,ha⟩:=h;exact⟨⟨v,hb.other (by omega) _,ho.kept (grownBy_setCell' A k u) (.inr (fun e=>by have:=(ho.lt k e).1;omega)),trivial⟩,hr.other (by omega) _,hbl.setCell (by simp;omega) _,by simp[World.setCell];exact hsz,ha⟩
theorem nO {B:Nat} {W W':World} (h:Below W.heap.size W W'):KeepsFrom B W W':=⟨h.size,fun k o _ hk _=>(h.block k (Array.getElem?_eq_some_iff.1 hk).1).trans hk⟩
theorem mZ.set {lo hi k:Nat} (hk:k<lo) (A:World) (v:Value):mZ lo hi A (A.setCell ⟨k,0,none⟩ v):=⟨by simp[World.setCell],fun j h1 h2=>Below.heap_setCell _ _ _ _ (by simp;omega)⟩
theorem MJ {w:World} {b b':Nat} {cs:Array Value} {t:TypeId} (h:w.heap[b]? =some (.cells cs t)) (e:b=b'):∀(j:Nat) (u:Value),cs.toList[j]? =some u→w.cell? ((⟨b',0,none⟩:Addr).add j)=some u:=by subst e;exact World.news_of_block h
theorem DW {n:Nat} {v:Value} {ok:Bool} {A B:World} {row:Option Nat} (h:jD n v ok A) (hg:A.grownBy B row) (hr:∀k,row=some k→n+1<k):jD n v ok B:=⟨h.1.kept hg (fun e=>by have:=hr _ e.symm;omega),h.2.kept hg (fun e=>by have:=hr _ e.symm;omega)⟩
theorem rX {n D:Nat} {v:Value} {ok:Bool} {W:World} {o o':Obj} (h:jD n v ok W) (hD:W.heap[D]? =some o) (ho:o.isCells=false):jD n v ok (W.putObj D o'):=
 ⟨qF (B:=0) h.1 (grownBy_putObj' W D o') (fun r e=>by cases e;exact⟨gO _,o,hD,ho⟩),qF (B:=0) h.2 (grownBy_putObj' W D o') (fun r e=>by cases e;exact⟨gO _,o,hD,ho⟩)⟩
theorem uZ {w W:World} {D:Nat} (h:Below w.heap.size w W) (hD:w.heap.size≤D) (o:Obj):Below w.heap.size w (W.putObj D o):=h.grown (grownBy_putObj' W D o) h.size (fun k e=>by cases e;exact hD)
theorem DO (s:List UInt8) (hs:s.length≤400) (h0:s≠[48]) (w:World) (hE:Er w) (hT:Tb w):Calls Tryz.prog 96 #[.string ⟨s.toArray⟩] w (gX w s):=by
 have HE:=aA hE;have HT:=aA hT
 have hlI:(s.length:Int)≤400:=by omega
 have hlI2:¬(400:Int)<(s.length:Int):=by omega
 have h0b:(s==[48])=false:=beq_eq_false_iff_ne.2 h0
 have HBAD:Hid (∀pre,pre<+:aV s→oK pre=false→∀w',Below w.heap.size w w'→gX w s (.returned (.tuple #[.slice none 0 0,.bool false])) w'):=aA (fun pre hp ha w' hb=>by
  obtain⟨i,x,hx,hf⟩:=KQ hp ha;have:=OD x
  rw[hf]at this
  exact CC (IP h0 hx this) hb)
 have HRD:Hid (oK (aV s)=true→∀(i:Nat) (x:List UInt8) (t:T),(aV s)[i]? =some x→(kW (aV s))[i]? =some t→QV x t true):=aA (fun ha i x t hx ht=>by
  unfold kW at ht;rw[List.getElem?_map,hx]at ht;cases ht;have h1:=OD x
  have h2:(eZ x).2=true:=by unfold oK at ha;rw[List.all_eq_true]at ha;exact ha x (List.mem_of_getElem? hx)
  rw[h2]at h1
  exact h1)
 have HNOT:Hid (oK (aV s)=true→aH (aV s).length (lf (kW (aV s)))=false→∀w',Below w.heap.size w w'→gX w s (.returned (.tuple #[.slice none 0 0,.bool false])) w'):=aA (fun ha hok w' hb=>CC (IQ h0 (dZ _) (HRD.out ha) (by rw[dZ];exact hok)) hb);have hcl:=vB s
 have HYES:Hid (oK (aV s)=true→aH (aV s).length (lf (kW (aV s)))=true→∀w' v,Below w.heap.size w w'→w'.ownsRow w.heap.size 79 5 v (aV s).length (aG (kW (aV s)))→gX w s (.returned (.tuple #[v,.bool true])) w'):=aA (fun ha hok w' v hb ho=>PV (IOz h0 hs (dZ _) (HRD.out ha) (by rw[dZ];exact hok)) (by rw[dZ];omega) hb (by rw[dZ];exact ho))
 have HML:Hid (∀pre x,pre++[x]<+:aV s→x.length≤400∧pre.length≤400):=aA (fun pre x hp=>by
  obtain⟨r,hr⟩:=hp;have h1:=gT s x (by rw[←hr];simp)
  have h2:(aV s).length=pre.length+1+r.length:=by rw[←hr];simp;omega
  omega)
 have HCUT:Hid (∃ws,ws=aV s∧ws.length≤401):=aA ⟨_,rfl,by omega⟩;obtain⟨PS,hPS⟩:∃Q:Ending→World→Prop,gX w s=Q:=⟨_,rfl⟩
 rw[hPS]at HBAD HNOT HYES⊢;clear hPS HRD hE hT h0;obtain⟨ws,hws,hwl⟩:∃ws,aV s=ws∧ws.length≤401:=⟨_,rfl,by omega⟩
 have HSEQ:Hid (∀u:World,OG Tryz.prog 179 #[.pointer (some ⟨u.heap.size+1,0,none⟩),.pointer (some ⟨u.heap.size,0,none⟩),.pointer (some ⟨u.heap.size+2,0,none⟩)] PA u.heap.size (u.heap.size+3) (aV s) (KE u s)):=aA (fun u=>QD s (by omega) u.heap.size (KE u s) (OI u s));rw[hws]at HBAD HNOT HYES HML HSEQ;clear hws hcl HCUT;have hR0:=yX w
 have hB0:Below w.heap.size w ((w.alloc (.cells #[.slice none 0 0] 22)).alloc (.cells #[.bool false] 4)):=dB w _ _;have hR1:=(hR0.below (aF _ (.cells #[.slice none 0 0] 22)))
 have hB1:=aC hB0 (aF _ (.cells #[.slice none 0 0] 22));have bP1:Boxed (((w.alloc (.cells #[.slice none 0 0] 22)).alloc (.cells #[.bool false] 4)).alloc (.cells #[.slice none 0 0] 22)) (w.heap.size+2) 22 (.slice none 0 0):=by
  have:=Boxed.new ((w.alloc (.cells #[.slice none 0 0] 22)).alloc (.cells #[.bool false] 4)) 22 (.slice none 0 0)
  rwa[World.size_alloc,World.size_alloc]at this
 have hs1:(((w.alloc (.cells #[.slice none 0 0] 22)).alloc (.cells #[.bool false] 4)).alloc (.cells #[.slice none 0 0] 22)).heap.size=w.heap.size+3:=by simp
 have hBx:=KO (((w.alloc (.cells #[.slice none 0 0] 22)).alloc (.cells #[.bool false] 4)).alloc (.cells #[.slice none 0 0] 22)) s;have hS2:=EX (((w.alloc (.cells #[.slice none 0 0] 22)).alloc (.cells #[.bool false] 4)).alloc (.cells #[.slice none 0 0] 22)) s
 have HSQ:=aA (HSEQ.out (((w.alloc (.cells #[.slice none 0 0] 22)).alloc (.cells #[.bool false] 4)).alloc (.cells #[.slice none 0 0] 22)));have HSV:=aA (EE s (((w.alloc (.cells #[.slice none 0 0] 22)).alloc (.cells #[.bool false] 4)).alloc (.cells #[.slice none 0 0] 22)))
 rw[hs1]at HSQ HSV hS2;have hR2:=hR1.below hBx
 have hB2:=aC hB1 hBx;have bP2:Boxed (KE (((w.alloc (.cells #[.slice none 0 0] 22)).alloc (.cells #[.bool false] 4)).alloc (.cells #[.slice none 0 0] 22)) s) (w.heap.size+2) 22 (.slice none 0 0):=(hBx.block _ (by rw[hs1];omega)).trans bP1
 have HSTART:Hid (QT w [] (KE (((w.alloc (.cells #[.slice none 0 0] 22)).alloc (.cells #[.bool false] 4)).alloc (.cells #[.slice none 0 0] 22)) s)):=aA ⟨⟨_,bP2,dD _ _,trivial⟩,hR2,hB2,by rw[hS2];omega,rfl⟩;have HS2:=aA hS2
 clear hR0 hB0 hR1 hB1 bP1 hs1 hBx hR2 hB2 bP2 HSEQ hS2;refine(callsIn_wide (n:=9)).1 ?_;refine callsIn_of_wp_marks Tryz.func96 rfl trivial ?_ rfl;simp only[Tryz.ntmps96,List.size_toArray,List.length_cons,List.length_nil,Nat.reduceAdd,Nat.reduceSub,Array.replicate_succ,Array.replicate_zero,List.push_toArray,List.append_toArray,List.nil_append,List.cons_append]
 gi_wp2_with (first
  |(refine⟨trivial,?_⟩;gi_at_call 134;refine(callsIn_wide.2 HSV.out).mono ?_;rintro e w1 ⟨rfl,hw1⟩;rw[←hw1]at HSTART HSQ HS2;clear hw1)
  |gi_in)
 rw[show w.heap.size+1+1=w.heap.size+2 from rfl];have hs61:w.heap.size+6≤w1.heap.size:=by have:=HS2.out;omega
 refine PW (w0:=w1) (by decide) (gf:=179) (lb:=#[.pointer (some ⟨w.heap.size+3+1,0,none⟩),.pointer (some ⟨w.heap.size+3,0,none⟩),.pointer (some ⟨w.heap.size+3+2,0,none⟩)]) rfl (enters_of Tryz.func179 (by kernel_rfl) rfl) HSQ.out (aD _ _) hs61 (fun _=>rfl)
  (QT w) (UH w) (MR w _ (by omega)) (fun pre A k v a b h=>MS h a (by omega) v) (fun c=>MU w c _ (by omega)) HSTART.out
  (fun x a' _=>a'=({tmps:=#[Value.string ⟨s.toArray⟩,undef,Value.pointer (some ⟨w.heap.size,0,none⟩),Value.pointer (some ⟨w.heap.size+1,0,none⟩),Value.pointer (some ⟨w.heap.size+2,0,none⟩),Value.string ⟨x.toArray⟩,undef,undef,Value.string ⟨s.toArray⟩,Value.int IntKind.i64 (s.length:Int),Value.bool false,Value.string ⟨s.toArray⟩,Value.bool false,Value.string ⟨s.toArray⟩,Value.func (Fn.func 179) #[] #[.pointer (some ⟨w.heap.size+3+1,0,none⟩),.pointer (some ⟨w.heap.size+3,0,none⟩),.pointer (some ⟨w.heap.size+3+2,0,none⟩)],Value.string ⟨x.toArray⟩,undef,undef,undef,undef,undef,undef,undef,undef,undef,undef,undef,undef,undef,undef,undef],defers:=[]}:Act))
  (fun _ _ _ _ _ _ hs _ _=>hs) ?assign ?body ?done ?stop
 case assign=>
  rintro l pre x W K' hI hK';dsimp only[PA]at hK'⊢
  gi_wp2
  exact hK' _ _ (KeepsFrom.refl _ _) (mZ.refl _ _ _) hI rfl
 case body=>
  rintro l pre x a' W hI rfl hpre;obtain⟨hxl,hpl⟩:=HML.out pre x hpre;obtain⟨⟨v,bP,hrow,_⟩,hR,hB,hsW,hall⟩:=hI;obtain⟨i0,hi0,hz0,hz1,hz2⟩:=info_parts xZ;have hPT:=vV x hxl W (HE.out.below hB) (HT.out.below hB)
  obtain⟨t,b,htb⟩:∃t b,eZ x=(t,b):=⟨_,_,rfl⟩
  unfold uV at hPT;have HTS:Hid (kW (pre++[x])=kW pre++[t]):=by rw[EI,htb];exact aA rfl
  have HAS:Hid (oK (pre++[x])=b):=by rw[CS,hall,htb];exact aA (by simp)
  rw[htb]at hPT;have HPT:=aA hPT
  have HROW:=aA hrow;have HR:=aA hR
  have HB:=aA hB;have HBP:=aA bP
  clear hPT htb hrow hR hB bP hall hpre HML;cases b
  ·gi_wp2_with (first
    |(refine⟨trivial,rfl,?_⟩;gi_at_call 135;(refine(CallsIn.inRound l (callsIn_wide.2 HPT.out)).mono ?_;rintro e w4 ⟨rfl,hb4⟩;have hR4:=HR.out.below hb4;have c1:=hR4.1.cell;have c2:=hR4.2.cell;have z1:=hR4.1.frozen;have z2:=hR4.2.frozen;have hRA:=hR4.below (aF w4 (.cells #[.int .i64 t.c,.int .i64 t.m.x,.int .i64 t.m.y,.int .i64 t.m.d,.int .i64 t.m.e] 79));have c3:=hRA.1.cell;have c4:=hRA.2.cell;have z3:=hRA.1.frozen;have z4:=hRA.2.frozen;have HR4:=aA hR4;have HB4:=aA hb4;have hn5:w.heap.size≠w4.heap.size:=(by have:=hR4.2.lt;omega);have hn6:w.heap.size+1≠w4.heap.size:=(by have:=hR4.2.lt;omega);clear hb4 hR4 hRA))
    |gi_in)
   have hRf:jD w.heap.size (.slice none 0 0) false (((w4.alloc (.cells #[.int .i64 t.c,.int .i64 t.m.x,.int .i64 t.m.y,.int .i64 t.m.d,.int .i64 t.m.e] 79)).setCell ⟨w.heap.size,0,none⟩ (.slice none 0 0)).setCell ⟨w.heap.size+1,0,none⟩ (.bool false)):=(HR4.out.below (aF w4 (.cells #[.int .i64 t.c,.int .i64 t.m.x,.int .i64 t.m.y,.int .i64 t.m.d,.int .i64 t.m.e] 79))).set _ _;have hBf:Below w.heap.size w (((w4.alloc (.cells #[.int .i64 t.c,.int .i64 t.m.x,.int .i64 t.m.y,.int .i64 t.m.d,.int .i64 t.m.e] 79)).setCell ⟨w.heap.size,0,none⟩ (.slice none 0 0)).setCell ⟨w.heap.size+1,0,none⟩ (.bool false)):=((aC (aC HB.out HB4.out) (aF w4 _)).setCell (p:=⟨w.heap.size,0,none⟩) (by simp) _).setCell (p:=⟨w.heap.size+1,0,none⟩) (by simp) _
   have hKf:KeepsFrom w1.heap.size W (((w4.alloc (.cells #[.int .i64 t.c,.int .i64 t.m.x,.int .i64 t.m.y,.int .i64 t.m.d,.int .i64 t.m.e] 79)).setCell ⟨w.heap.size,0,none⟩ (.slice none 0 0)).setCell ⟨w.heap.size+1,0,none⟩ (.bool false)):=(nO HB4.out).trans ((nO (aF w4 _)).trans (((KeepsOthers.setCell _ _ _).trans (KeepsOthers.setCell _ _ _)).from _));exact⟨hKf,⟨rfl,HAS.out⟩,hRf,hBf⟩
  ·obtain⟨a5,c5,hv5,_⟩:=aO (L:=kW pre) (by rw[dZ];exact HROW.out) (by rw[dZ];omega);rw[dZ]at hv5;subst hv5
   gi_wp2_with (first
    |(refine⟨trivial,rfl,?_⟩;gi_at_call 135;(refine(CallsIn.inRound l (callsIn_wide.2 HPT.out)).mono ?_;rintro e w4 ⟨rfl,hb4⟩;have hP4:Boxed w4 (w.heap.size+2) 22 (.slice a5 pre.length c5):=(hb4.block _ HBP.out.lt).trans HBP.out;have hPA:=hP4.alloc (.cells #[.int .i64 t.c,.int .i64 t.m.x,.int .i64 t.m.y,.int .i64 t.m.d,.int .i64 t.m.e] 79);have c1:=hP4.cell;have z1:=hP4.frozen;have c2:=hPA.cell;have z2:=hPA.frozen;have HPA:=aA hPA;have HRA:=aA ((aK HROW.out hb4).alloc (.cells #[.int .i64 t.c,.int .i64 t.m.x,.int .i64 t.m.y,.int .i64 t.m.d,.int .i64 t.m.e] 79));have HB4:=aA hb4;have HNW:=aA (heap_alloc_new (w4.alloc (.cells #[.int .i64 t.c,.int .i64 t.m.x,.int .i64 t.m.y,.int .i64 t.m.d,.int .i64 t.m.e] 79)) (.cells #[.int .i64 t.c,.int .i64 t.m.x,.int .i64 t.m.y,.int .i64 t.m.d,.int .i64 t.m.e] 79));have hs4:=hb4.size;have hn5:w.heap.size+2≠w4.heap.size:=(by have:=hP4.lt;omega);clear hb4 hP4 hPA))
    |(gi_at_builtin;refine wpListIn_append_own _ rfl _ _ 22 rfl (w.heap.size+6) 79 i0 _ 5 40 Tryz.underlying22 hi0 hz0 hz1 hz2 rfl (by decide) _ pre.length (aG (kW pre)) rfl (HRA.out.alloc _) ⟨w4.heap.size+1,0,none⟩ 1 1 (aG [t]) rfl (by rw[bL];rfl) (by rw[dE];exact MJ HNW.out (by simp)) (eC _) (by unfold maxLen;omega) (by omega) (by simp;omega) ?_;intro v' w7 hown' hgrow _;obtain⟨g',cap',hv'⟩:=ownsRow_succ hown';subst hv';obtain⟨hv1,hv2,_,hk2,hb2⟩:=HPA.out.appended (n₀:=w.heap.size) (by decide) (bO HRA.out (by omega)) (by simp;omega) (by omega) (bO hown' (by omega)) hgrow;have c9:=hv1.cell;have z9:=hv1.frozen;have HV1:=aA hv1;have HV2:=aA hv2;have HK2:=aA hk2;have HG2:=aA hgrow;have HO2:=aA hown';clear hv1 hv2 hk2 hb2 hgrow hown')
    |gi_in)
   have hw4:w.heap.size+6≤w4.heap.size:=by omega
   have hrw:∀k,(Value.slice a5 pre.length c5).ownBlock=some k→w.heap.size+6≤k:=fun k e=>(HRA.out.lt k e).1;have hg:=HG2.out
   have hsz7:=hg.size;have hKp:mZ (w.heap.size+3) (w.heap.size+3+3) W (w7.setCell ⟨w.heap.size+2,0,none⟩ (.slice (some ⟨g',0,none⟩) (pre.length+1) cap')):=by refine(mZ.below HB4.out (by omega)).trans ((mZ.below (aF w4 _) (by omega)).trans ((mZ.below (aF (w4.alloc (.cells #[.int .i64 t.c,.int .i64 t.m.x,.int .i64 t.m.y,.int .i64 t.m.d,.int .i64 t.m.e] 79)) _) (by simp;omega)).trans ((mZ.grown hg (by simp;omega) (fun k e=>.inr (hrw k e))).trans (mZ.set (by omega) _ _))))
   have hRf:jD w.heap.size (.slice none 0 0) false (w7.setCell ⟨w.heap.size+2,0,none⟩ (.slice (some ⟨g',0,none⟩) (pre.length+1) cap')):=
    (DW (((HR.out.below HB4.out).below (aF w4 _)).below (aF (w4.alloc (.cells #[.int .i64 t.c,.int .i64 t.m.x,.int .i64 t.m.y,.int .i64 t.m.d,.int .i64 t.m.e] 79)) _)) hg (fun k e=>by have:=hrw k e;omega)).other (by omega) _
   have hBf:Below w.heap.size w (w7.setCell ⟨w.heap.size+2,0,none⟩ (.slice (some ⟨g',0,none⟩) (pre.length+1) cap')):=
    ((aC (aC (aC HB.out HB4.out) (aF w4 _)) (aF (w4.alloc (.cells #[.int .i64 t.c,.int .i64 t.m.x,.int .i64 t.m.y,.int .i64 t.m.d,.int .i64 t.m.e] 79)) _)).grown hg (by simp;omega) (fun k e=>by have:=hrw k e;omega)).setCell (p:=⟨w.heap.size+2,0,none⟩) (by simp) _
   refine⟨(nO HB4.out).trans ((nO (aF w4 _)).trans (HK2.out.from _)),hKp,⟨_,HV2.out,?_,trivial⟩,hRf,hBf,?_,HAS.out⟩
   ·have h1:=HO2.out.kept (grownBy_setCell' w7 (w.heap.size+2) (.slice (some ⟨g',0,none⟩) (pre.length+1) cap')) (.inr (HV1.out.not_row (by decide) HO2.out).symm);rw[HTS.out,bY,List.length_append];exact h1
   ·simp[World.setCell];have:w4.heap.size+2≤w7.heap.size:=by simpa using hsz7
    omega
 case done=>
  rintro D W hD ⟨⟨v,bP,hrow,_⟩,hR,hB,hsW,hall⟩ hKd;have hDlt:D<W.heap.size:=(Array.getElem?_eq_some_iff.1 hKd).1
  obtain⟨a5,c5,hv5,hout⟩:=aO (L:=kW ws) (bO (by rw[dZ];exact hrow) (show w.heap.size≤w.heap.size+6 by omega)) (by rw[dZ];omega);have hrd:=hout.1
  rw[dZ]at hv5 hrd;subst hv5;obtain⟨ok,hok⟩:∃b,aH ws.length (lf (kW ws))=b:=⟨_,rfl⟩
  have hc:=dU W a5 ws.length c5 _ hrd;rw[hok]at hc;have HC:=aA hc
  have HROW:=aA hrow;have HR:=aA hR
  have HB:=aA hB;have HKD:=aA hKd
  have HBP:=aA bP;have c0:=bP.cell
  have HNO:Hid (ok=false→_):=aA (fun e=>HNOT.out hall (hok.trans e));have HYE:Hid (ok=true→_):=aA (fun e=>HYES.out hall (hok.trans e))
  clear hc hrow hR hB hKd bP hall hout hrd hok HNOT HYES;have hnD1:D≠w.heap.size:=by omega
  have hnD2:D≠w.heap.size+1:=by omega
  cases ok
  ·gi_wp2_with (first
    |(refine⟨trivial,?_⟩;gi_at_call 57;refine(callsIn_wide.2 HC.out).mono ?_;rintro e w5 ⟨rfl,hb5⟩;have hR5:=HR.out.below hb5;have c1:=hR5.1.cell;have c2:=hR5.2.cell;have z1:=hR5.1.frozen;have z2:=hR5.2.frozen;have HR5:=aA hR5;have HB5:=aA hb5;clear hb5 hR5)
    |gi_in)
   have hK5:((w5.setCell ⟨w.heap.size,0,none⟩ (.slice none 0 0)).setCell ⟨w.heap.size+1,0,none⟩ (.bool false)).heap[D]? =some (.deferred (some [])):=by rw[Below.heap_setCell _ _ _ _ hnD2,Below.heap_setCell _ _ _ _ hnD1];exact(HB5.out.block D hDlt).trans HKD.out
   refine⟨by simp,.inl ⟨_,_,rfl,run_takeDeferred hK5,?_⟩⟩;refine⟨_,iZ _ rfl rfl (rX (HR5.out.set (.slice none 0 0) false) hK5 rfl),HNO.out (by first|rfl|trivial) _ ?_⟩;exact uZ (((aC HB.out HB5.out).setCell (p:=⟨w.heap.size,0,none⟩) (by simp) _).setCell (p:=⟨w.heap.size+1,0,none⟩) (by simp) _) (by omega) _
  ·gi_wp2_with (first
    |(refine⟨trivial,?_⟩;gi_at_call 57;refine(callsIn_wide.2 HC.out).mono ?_;rintro e w5 ⟨rfl,hb5⟩;have hR5:=HR.out.below hb5;have c1:=hR5.1.cell;have c2:=hR5.2.cell;have z1:=hR5.1.frozen;have z2:=hR5.2.frozen;have hP5:Boxed w5 (w.heap.size+2) 22 (.slice a5 ws.length c5):=(hb5.block _ HBP.out.lt).trans HBP.out;have c5':=hP5.cell;have HR5:=aA hR5;have HB5:=aA hb5;have HO5:=aA (aK HROW.out hb5);clear hb5 hR5 hP5)
    |gi_in)
   have hK5:((w5.setCell ⟨w.heap.size,0,none⟩ (.slice a5 ws.length c5)).setCell ⟨w.heap.size+1,0,none⟩ (.bool true)).heap[D]? =some (.deferred (some [])):=by rw[Below.heap_setCell _ _ _ _ hnD2,Below.heap_setCell _ _ _ _ hnD1];exact(HB5.out.block D hDlt).trans HKD.out
   refine⟨by simp,.inl ⟨_,_,rfl,run_takeDeferred hK5,?_⟩⟩;refine⟨_,iZ _ rfl rfl (rX (HR5.out.set (.slice a5 ws.length c5) true) hK5 rfl),HYE.out (by first|rfl|trivial) _ _ ?_ ?_⟩
   ·exact uZ (((aC HB.out HB5.out).setCell (p:=⟨w.heap.size,0,none⟩) (by simp) _).setCell (p:=⟨w.heap.size+1,0,none⟩) (by simp) _) (by omega) _
   ·have h1:=HO5.out.kept (grownBy_setCell' w5 w.heap.size (.slice a5 ws.length c5)) (.inr (HR5.out.1.not_row (by decide) HO5.out).symm);have h2:=h1.kept (grownBy_setCell' _ (w.heap.size+1) (.bool true)) (.inr ((HR5.out.2.other (by omega) (.slice a5 ws.length c5)).not_row (by decide) h1).symm)
    exact bO (ownsRow_putObj h2 (.deferred none) hK5 rfl) (by omega)
 case stop=>
  rintro D c pre W hD hpre ⟨⟨rfl,hok⟩,hR,hB⟩ hKd;refine wpIn_ret ?_;refine⟨by simp,.inl ⟨_,_,rfl,run_takeDeferred hKd,?_⟩⟩;exact⟨_,iZ _ rfl rfl (rX hR hKd rfl),HBAD.out pre hpre hok _ (uZ hB (by omega) _)⟩
theorem IR (s:List UInt8) (hs:s.length≤1048576) (w:World) (hE:Er w) (hT:Tb w):Calls Tryz.prog 96 #[.string ⟨s.toArray⟩] w fun r w'=>∃a cap,r= .returned (.tuple #[.slice a (dV s).1.length cap,.bool (dV s).2])∧Below w.heap.size w w'∧iJ w.heap.size w' a cap (dV s).1:=by
 by_cases h0:s=[48]
 ·exact uE s hs w (.inl h0)
 ·by_cases hl:s.length≤400
  ·exact DO s hl h0 w hE hT
  ·exact uE s hs w (.inr (by omega))
end Go.Proofs.YtkcmamepoplcdaaGreatDoor
namespace Go.Proofs.YtkcmamepoplcdaaGreatDoor
open Go.RowKit
set_option linter.unusedVariables false
set_option linter.unusedSimpArgs false
theorem rN (xs:List (List UInt8)):(xs.map fun l=>(⟨l.toArray⟩:ByteArray)).map (fun s=>s.data.toList)=xs:=by rw[List.map_map];exact(List.map_congr_left (fun l _=>rfl)).trans (List.map_id xs)
theorem LV:(Tryz.prog.info? 9).map (fun i=>(i.zero,i.size,i.bytes))=some (some (.string ⟨#[]⟩),1,16):=by kernel_rfl
def JN (xs:List (List UInt8)):List Value:=xs.map fun l=>Value.string ⟨l.toArray⟩
theorem MN (s:ByteArray):∀u∈[Value.string s],u.oneCell'=true:=fun u hu=>by
 rw[List.mem_singleton]at hu;subst hu;rfl
def UJ (w:World) (f:Nat→T) (k:Nat) (v:Value) (wr:World):Prop:=wr.ownsRow w.heap.size 9 1 v k (JN (wI f k))∧Below w.heap.size w wr
theorem yT (w:World) (a:Option Addr) (n cap:Nat) (f:Nat→T) (h:Rd w a n cap f) (hT:Tb w):Calls Tryz.prog 30 #[.slice a n cap] w fun r w'=>r= .returned (.string ⟨(cO n f).toArray⟩)∧Below w.heap.size w w':=by
 have HH:=aA h;have HTB:=aA hT
 have hnI:(n:Int)≤9223372036854775807:=by have:=h.2.1;omega
 obtain⟨ok,hok⟩:∃b,aH n f=b:=⟨_,rfl⟩
 have hc:=dU w a n cap f h;rw[hok]at hc;have HC:=aA hc
 have HOK:=aA hok;clear hc hok h hT;obtain⟨R,hR⟩:∃R,cO n f=R:=⟨_,rfl⟩
 rw[hR];cases ok
 ·have HR:=aA (hR.symm.trans (vU HOK.out));clear hR;go_enter Tryz.func30,Tryz.ntmps30;go_wp2_with fail;refine HC.out.mono ?_;rintro r w1 ⟨rfl,hb⟩;go_wp2;go_ret;exact⟨by rw[HR.out];rfl,hb⟩
 ·by_cases h0:n=0
  ·have HR:=aA (hR.symm.trans (mA HOK.out h0));have hn0:((n:Int)==0)=true:=by rw[h0];rfl
   clear hR h0;go_enter Tryz.func30,Tryz.ntmps30;go_wp2_with fail;refine HC.out.mono ?_;rintro r w1 ⟨rfl,hb⟩;go_wp2;go_ret;exact⟨by rw[HR.out];rfl,hb⟩
  ·have HR:=aA (hR.symm.trans ((oA HOK.out h0).trans (rE f n).symm));have hn0:((n:Int)==0)=false:=beq_eq_false_iff_ne.2 (by omega)
   have HALL:=aA (cJ HOK.out);have n400:=(cJ HOK.out).1
   have n400I:(n:Int)≤400:=by omega
   clear hR;obtain⟨b,off,rfl,hblt,hcl⟩:=HH.out.2.2.resolve_left h0;have HCL:=aA hcl
   clear hcl;obtain⟨i0,hi0,hz0,hz1,hz2⟩:=info_parts LV;go_enter Tryz.func30,Tryz.ntmps30;go_wp2_with fail;refine HC.out.mono ?_;rintro r w1 ⟨rfl,hb⟩;have HB1:=aA hb
   have hs1:=hb.size;clear hb HC;obtain⟨w2,hrun,hown2,hgr2⟩:=run_make_own (P:=Tryz.prog) w1 w.heap.size 30 9 i0 _ 1 Tryz.underlying30 hi0 hz0 hz1 .i64 .i64 n (by rw[hz2];omega) (by unfold maxLen;omega) hs1;have b2:Below w.heap.size w w2:=HB1.out.trans ⟨hgr2.os,hgr2.tape,hgr2.output,hgr2.size,fun k hk=>hgr2.block k (by omega) (by simp)⟩
   have HI0:Hid (UJ w f 0 (.slice (some ⟨w1.heap.size,0,none⟩) 0 n) w2):=⟨hown2,b2⟩
   clear hown2 hgr2 b2;go_wp2;clear hrun;go_loopw [17,3] (fun v17 v3 wr=>∃(k g cp:Nat),k≤n∧v17= .int .i64 (k:Int)∧v3= .slice (some ⟨g,0,none⟩) k cp∧Hid (UJ w f k (.slice (some ⟨g,0,none⟩) k cp) wr)) (fun v17 _ _=>n-(intOf v17).toNat);case atStart=>exact⟨0,_,_,gO _,rfl,rfl,HI0⟩
   case round=>
    obtain⟨k,g,cp,hk,rfl,rfl,HI⟩:=hrel;by_cases hkn:k<n
    ·have hklI:(k:Int)<(n:Int):=by omega
     obtain⟨⟨tc1,tc2⟩,tmo⟩:=HALL.out.2 k hkn;obtain⟨t,ht⟩:∃t,f k=t:=⟨_,rfl⟩
     have HJ:=aA (show wI f (k+1)=wI f k++[fE t] by rw[←ht];exact zE f k);obtain⟨g0,g1,g2,g3,g4⟩:=(HCL.out k hkn).below HI.out.2 hblt;rw[ht]at tc1 tc2 tmo g0 g1 g2 g3 g4;clear ht;obtain⟨c,⟨x,y,d,e⟩⟩:=t;simp only at tc1 tc2 tmo g0 g1 g2 g3 g4;obtain⟨C,rfl⟩:∃C:Nat,c=(C:Int):=⟨c.toNat,by omega⟩
     have hC100:C≤100:=by omega
     have bt:=aF wr (.cells #[.int .i64 (C:Int),.int .i64 x,.int .i64 y,.int .i64 d,.int .i64 e] 79);have hsw:w.heap.size≤wr.heap.size:=HI.out.2.size
     have HBT:=aA (HI.out.2.alloc hsw (.cells #[.int .i64 (C:Int),.int .i64 x,.int .i64 y,.int .i64 d,.int .i64 e] 79));have HTt:=aA ((HTB.out.below HI.out.2).below bt)
     have HO:=aA (HI.out.1.alloc (.cells #[.int .i64 (C:Int),.int .i64 x,.int .i64 y,.int .i64 d,.int .i64 e] 79));have HCT:=aA (gB C (by omega) x y d e tmo _ HTt.out)
     obtain⟨TT,hTT⟩:∃TT,fE ⟨(C:Int),⟨x,y,d,e⟩⟩=TT:=⟨_,rfl⟩
     rw[hTT]at HCT HJ;clear hTT HTt bt tmo HI;go_wp2_with fail;refine HCT.out.mono ?_;rintro r w3 ⟨rfl,hb3⟩;have hO3:w3.ownsRow w.heap.size 9 1 (.slice (some ⟨g,0,none⟩) k cp) k (JN (wI f k)):=aK HO.out hb3
     have hB3:=HBT.out.trans (hb3.mono (by simp;omega));have hs3:w.heap.size≤w3.heap.size:=hB3.size
     have HO4:=aA (hO3.alloc (.cells #[.string ⟨TT.toArray⟩] 9));have HB4:=aA (hB3.alloc hs3 (.cells #[.string ⟨TT.toArray⟩] 9))
     have HN:=aA (heap_alloc_new w3 (.cells #[.string ⟨TT.toArray⟩] 9));clear hb3 hO3 hB3 HO HBT HCT g0 g1 g2 g3 g4;have hmax:k+1≤maxLen:=by unfold maxLen;omega
     go_wp2_with (at_builtin;refine wpList_append_lies _ rfl (.tmp 21) (.tmp 24) 30 rfl w.heap.size 9 i0 _ 1 16 Tryz.underlying30 hi0 hz0 hz1 hz2 rfl (by omega) _ k (JN (wI f k)) rfl HO4.out ⟨w3.heap.size,0,none⟩ 1 1 [.string ⟨TT.toArray⟩] rfl rfl (World.news_of_block HN.out) (MN _) (by omega) hmax (by omega) (by simp;omega) _ rfl ?_;intro g1 cap1 w7 hown2 hgrow2 hat2 hlt2;have HO7:=aA hown2;have HB7:=aA (HB4.out.grown hgrow2 (by simp;omega) (fun k' e'=>(HO4.out.lt k' e').1));clear hown2 hgrow2 hat2 hlt2);go_roundw;case rel=>exact⟨k+1,g1,cap1,by omega,by go_num,rfl,⟨by rw[HJ.out];unfold JN;rw[List.map_append];exact HO7.out,HB7.out⟩⟩
     case measure=>simp[intOf];omega
    ·have hke:k=n:=by omega
     subst hke;have hnl:¬(k:Int)<(k:Int):=by omega
     have hlen:(Lib.join (wI f k) [43]).length≤140737488355328:=by
      rw[rE];have:=nM k (fun i hi=>HALL.out.2 i hi)
      omega
     have hj:=RH g cp ((wI f k).map fun l=>⟨l.toArray⟩) wr (fun j s hs=>by
      rw[Nat.zero_add,HI.out.1.cellAt j (by
       have:=(List.getElem?_eq_some_iff.1 hs).1;rw[List.length_map,oG]at this
       omega)]
      rw[List.getElem?_map]at hs;unfold JN;rw[List.getElem?_map];cases hq:(wI f k)[j]? with
      |none=>rw[hq]at hs;cases hs
      |some l=>rw[hq]at hs;cases hs;rfl) (HI.out.1.lt g rfl).2 (by rw[List.length_map,oG];omega) (by
       rw[List.length_map,oG];rcases HI.out.1.2 with⟨e,_⟩|⟨g',cap',cur,e,_,_,hnc,_⟩
       ·cases e
       ·cases e;exact hnc) (by
       have e:((wI f k).map fun l=>(⟨l.toArray⟩:ByteArray)).map (fun s=>s.data.toList)=wI f k:=rN _
       rw[e];exact hlen)
     have e:((wI f k).map fun l=>(⟨l.toArray⟩:ByteArray)).map (fun s=>s.data.toList)=wI f k:=rN _;rw[e,List.length_map,oG,←HR.out]at hj;have HJ:=aA hj
     clear hj hlen e;go_wp2_with fail;refine HJ.out.mono ?_;rintro r w9 ⟨rfl,hb9⟩;have HB9:=aA (aC HI.out.2 hb9)
     clear hb9;go_wp2;go_ret;exact⟨rfl,HB9.out⟩
end Go.Proofs.YtkcmamepoplcdaaGreatDoor
