/-
  The closure by which a sum's monomials are put in order.
  slices.SortFunc of monomials, laid.
  maps.Keys over a sum's map: its monomials come, each once, in some order.
-/
import Derived.Test.YtmlaedpamobmhaaGreatMah
import Derived.Shelf.SlSortCmp.InsertionK
import Derived.Shelf.Lay
import Derived.Ground.SlsfProg
import Derived.RangeFuncSeq
import Derived.RangeFuncGives
import Derived.Sort.MapsRangeIn
import Derived.Sort.KeysCollected
import Derived.Shelf.AbstractIn
import Derived.OwnWalkIn
import Derived.TacticsInMore
import Derived.RegionIn
import Derived.LoopNIn
import Derived.LoopIn
set_option maxHeartbeats 2000000
set_option maxRecDepth 100000
namespace Go.Proofs.YtmlaedpamobmhaaGreat
open Go.RowKit Go.Sort
set_option linter.unusedVariables false
theorem lD.cell {w:World} (x:lD w) {b o:Nat} (h:b<w.heap.size):x.1.cell? ⟨b,o,none⟩=w.cell? ⟨b,o,none⟩:=x.2.below.cell (p:=⟨b,o,none⟩) h
theorem JF (Br:Nat) (x y d e x' y' d' e':Int) (w:World) (h:M.ok ⟨x,y,d,e⟩=true) (h':M.ok ⟨x',y',d',e'⟩=true) (hB:Br<w.heap.size) (hr:w.cell? ⟨Br,0,none⟩=some (.func (.func 88) #[] #[])):Calls Tryz.prog 156 #[.agg #[.int .i64 x,.int .i64 y,.int .i64 d,.int .i64 e],.agg #[.int .i64 x',.int .i64 y',.int .i64 d',.int .i64 e'],.pointer (some ⟨Br,0,none⟩)] w fun r w'=>r= .returned (.int .i64 (c3 (eQ ⟨x,y,d,e⟩) (eQ ⟨x',y',d',e'⟩)))∧Gr w w':=by
 have HA:=aA h;have HB:=aA h'
 clear h h';go_enter Tryz.func156,Tryz.ntmps156;go_wp2_with fail;have B1:=aA ((Gr.alloc w (.cells #[.int .i64 x,.int .i64 y,.int .i64 d,.int .i64 e] 52)).trans (Gr.alloc _ (.cells #[.int .i64 x',.int .i64 y',.int .i64 d',.int .i64 e'] 52)))
 have r0:((w.alloc (.cells #[.int .i64 x,.int .i64 y,.int .i64 d,.int .i64 e] 52)).alloc (.cells #[.int .i64 x',.int .i64 y',.int .i64 d',.int .i64 e'] 52)).cell? ⟨Br,0,none⟩=some (.func (.func 88) #[] #[]):=(B1.out.below.cell (p:=⟨Br,0,none⟩) hB).trans hr;have a0:((w.alloc (.cells #[.int .i64 x,.int .i64 y,.int .i64 d,.int .i64 e] 52)).alloc (.cells #[.int .i64 x',.int .i64 y',.int .i64 d',.int .i64 e'] 52)).cell? ⟨w.heap.size,0,none⟩=some (.int .i64 x):=by go_simp
 have a1:((w.alloc (.cells #[.int .i64 x,.int .i64 y,.int .i64 d,.int .i64 e] 52)).alloc (.cells #[.int .i64 x',.int .i64 y',.int .i64 d',.int .i64 e'] 52)).cell? ⟨w.heap.size,1,none⟩=some (.int .i64 y):=by go_simp
 have a2:((w.alloc (.cells #[.int .i64 x,.int .i64 y,.int .i64 d,.int .i64 e] 52)).alloc (.cells #[.int .i64 x',.int .i64 y',.int .i64 d',.int .i64 e'] 52)).cell? ⟨w.heap.size,2,none⟩=some (.int .i64 d):=by go_simp
 have a3:((w.alloc (.cells #[.int .i64 x,.int .i64 y,.int .i64 d,.int .i64 e] 52)).alloc (.cells #[.int .i64 x',.int .i64 y',.int .i64 d',.int .i64 e'] 52)).cell? ⟨w.heap.size,3,none⟩=some (.int .i64 e):=by go_simp
 have b0:((w.alloc (.cells #[.int .i64 x,.int .i64 y,.int .i64 d,.int .i64 e] 52)).alloc (.cells #[.int .i64 x',.int .i64 y',.int .i64 d',.int .i64 e'] 52)).cell? ⟨w.heap.size+1,0,none⟩=some (.int .i64 x'):=by go_simp
 have b1:((w.alloc (.cells #[.int .i64 x,.int .i64 y,.int .i64 d,.int .i64 e] 52)).alloc (.cells #[.int .i64 x',.int .i64 y',.int .i64 d',.int .i64 e'] 52)).cell? ⟨w.heap.size+1,1,none⟩=some (.int .i64 y'):=by go_simp
 have b2:((w.alloc (.cells #[.int .i64 x,.int .i64 y,.int .i64 d,.int .i64 e] 52)).alloc (.cells #[.int .i64 x',.int .i64 y',.int .i64 d',.int .i64 e'] 52)).cell? ⟨w.heap.size+1,2,none⟩=some (.int .i64 d'):=by go_simp
 have b3:((w.alloc (.cells #[.int .i64 x,.int .i64 y,.int .i64 d,.int .i64 e] 52)).alloc (.cells #[.int .i64 x',.int .i64 y',.int .i64 d',.int .i64 e'] 52)).cell? ⟨w.heap.size+1,3,none⟩=some (.int .i64 e'):=by go_simp
 have z:((w.alloc (.cells #[.int .i64 x,.int .i64 y,.int .i64 d,.int .i64 e] 52)).alloc (.cells #[.int .i64 x',.int .i64 y',.int .i64 d',.int .i64 e'] 52)).heap.size=w.heap.size+2:=by simp
 generalize(w.alloc (.cells #[.int .i64 x,.int .i64 y,.int .i64 d,.int .i64 e] 52)).alloc (.cells #[.int .i64 x',.int .i64 y',.int .i64 d',.int .i64 e'] 52)=wb at *;have ne:=lD.there wb
 have sr:∀u:lD wb,u.1.cell? ⟨Br,0,none⟩=some (.func (.func 88) #[] #[]):=fun u=>(u.cell (by omega)).trans r0;have s0:∀u:lD wb,u.1.cell? ⟨w.heap.size,0,none⟩=some (.int .i64 x):=fun u=>(u.cell (by omega)).trans a0
 have s1:∀u:lD wb,u.1.cell? ⟨w.heap.size,1,none⟩=some (.int .i64 y):=fun u=>(u.cell (by omega)).trans a1;have s2:∀u:lD wb,u.1.cell? ⟨w.heap.size,2,none⟩=some (.int .i64 d):=fun u=>(u.cell (by omega)).trans a2
 have s3:∀u:lD wb,u.1.cell? ⟨w.heap.size,3,none⟩=some (.int .i64 e):=fun u=>(u.cell (by omega)).trans a3;have t0:∀u:lD wb,u.1.cell? ⟨w.heap.size+1,0,none⟩=some (.int .i64 x'):=fun u=>(u.cell (by omega)).trans b0
 have t1:∀u:lD wb,u.1.cell? ⟨w.heap.size+1,1,none⟩=some (.int .i64 y'):=fun u=>(u.cell (by omega)).trans b1;have t2:∀u:lD wb,u.1.cell? ⟨w.heap.size+1,2,none⟩=some (.int .i64 d'):=fun u=>(u.cell (by omega)).trans b2
 have t3:∀u:lD wb,u.1.cell? ⟨w.heap.size+1,3,none⟩=some (.int .i64 e'):=fun u=>(u.cell (by omega)).trans b3;clear a0 a1 a2 a3 b0 b1 b2 b3 r0;refine pM (by kernel_rfl) (by kernel_rfl) ?_;repeat(go_big_quiet_step (first|(go_at_call 145;exact OZ (SN _ _ _))|(go_at_call_of 88 (Value.int IntKind.i64 x);exact nR (GO _ _ _ _ _ HA.out))|(go_at_call 88;exact nR (GO _ _ _ _ _ HB.out))))
 refine wpQuiet_nil ?_;rintro _ ⟨u,rfl⟩;go_wp2;go_ret;exact⟨rfl,B1.out.trans u.2⟩
open Go.RowKit Go.Sort Go.Shelf Go.Lib
abbrev OM:Type:={m:M // m.ok=true}
def eR (m:OM):List Value:=[.int .i64 m.1.x,.int .i64 m.1.y,.int .i64 m.1.d,.int .i64 m.1.e]
instance:Inhabited OM:=⟨⟨⟨0,0,0,0⟩,by decide⟩⟩
theorem SJ (Br blk off size:Nat) (w:World) (hB:Br<w.heap.size) (hne:Br≠blk) (hr:w.cell? ⟨Br,0,none⟩=some (.func (.func 88) #[] #[])):CmpLays Tryz.prog 156 #[.pointer (some ⟨Br,0,none⟩)] eR 4 (fun x y=>c3 (eQ x.1) (eQ y.1)) blk off size w:=by
 intro m os dk hdk x y;have hr':(sortWorldK eR 4 w blk off m dk os).cell? ⟨Br,0,none⟩=some (.func (.func 88) #[] #[]):=by unfold sortWorldK;rw[cell?_grow _ _ _ (by rw[size_putRowK];exact hB),cell?_putRowK_other _ _ _ blk off dk _ hne];exact hr
 have hB':Br<(sortWorldK eR 4 w blk off m dk os).heap.size:=by unfold sortWorldK;rw[size_grow,size_putRowK];exact iZ hB (Nat.le_add_right _ _)
 refine(JF Br _ _ _ _ _ _ _ _ _ x.2 y.2 hB' hr').mono ?_;rintro e w' ⟨rfl,hg⟩;exact⟨rfl,hg.form⟩
theorem Gl (x y:OM):ltOf (fun x y:OM=>c3 (eQ x.1) (eQ y.1)) x y=decide (eQ x.1<eQ y.1):=by
 unfold ltOf c3;by_cases h1:eQ x.1<eQ y.1
 ·simp[h1]
 ·by_cases h2:eQ y.1<eQ x.1<;>simp[h1,h2]
theorem Hk:SWO (ltOf fun x y:OM=>c3 (eQ x.1) (eQ y.1)) where
 irrefl x:=by rw[Gl];simp
 trans x y z h1 h2:=by rw[Gl]at *;simp at *;omega
 ntrans x y z h1 h2:=by rw[Gl]at *;simp at *;omega
shelf_lay_g SlLaysF0.n6 Slsf 6 at Tryz 168 as sortM
open Go.RowKit Go.Maps Go.Sort
abbrev OX (m:M):Value:=.agg #[.int .i64 m.x,.int .i64 m.y,.int .i64 m.d,.int .i64 m.e]
def lC (D0:DataW Unit) (left:Lit→Bool) (ss:List M):Prop:=ss.Nodup∧(∀m∈ss,m.ok=true)∧∀m:M,m.ok=true→(m∈ss↔(Maps.has D0 (dU m)=true∧left (dU m)=false))
theorem lC.start (D0:DataW Unit):lC D0 (Maps.has D0) []:=⟨List.nodup_nil,fun m h=>by simp at h,fun m hm=>by cases Maps.has D0 (dU m)<;>simp⟩
theorem AW {a b:M}:(dU a).sameKey (dU b)=true↔dU a=dU b:=by simp[dU,Lit.sameKey]
theorem lC.step {D0:DataW Unit} {left:Lit→Bool} {ss:List M} (h:lC D0 left ss) {x:M} (hx:x.ok=true) {y:DataW Unit} (hlk:left (dU x)=true) (hat:∀zd,D0.atKey (dU x) zd=y):lC D0 (fun z=>left z&& !z.sameKey (dU x)) (ss++[x]):=by
 have hhas:Maps.has D0 (dU x)=true:=has_true_of_atKey hat;have hnew:x∉ss:=fun hx'=>by have:=((h.2.2 x hx).1 hx').2;rw[hlk]at this;cases this
 refine⟨List.nodup_append.2 ⟨h.1,by simp,fun a ha b hb=>by simp at hb;subst hb;exact fun e=>hnew (e▸ha)⟩,fun m hm=>?_,fun m hm=>?_⟩
 ·rcases List.mem_append.1 hm with h1|h1
  ·exact h.2.1 m h1
  ·simp at h1;rw[h1];exact hx
 ·by_cases hy:m=x
  ·subst hy;have:(dU m).sameKey (dU m)=true:=AW.2 rfl
   simp[hhas,this]
  ·have hne:(dU m).sameKey (dU x)=false:=by
    cases hb:(dU m).sameKey (dU x)with
    |false=>rfl
    |true=>exact absurd (sU hm hx (AW.1 hb)) hy
   simp[h.2.2 m hm,hy,hne]
theorem Cm {F:Fence} {n:Nat} (h10:F.fn 169) (hro:F.round=none) (hn:1≤n) (l Bm b nn:Nat) (D0:DataW Unit) (J:List M→World→Prop) (hks:∀kl,Maps.has D0 kl=true→∃m:M,m.ok=true∧kl=dU m) (hY:∀pre x W,J pre W→pre.length<Maps.size D0→YieldAt F (n-1) Tryz.prog l #[OX x] W fun e W'=>e= .returned (.bool true)∧J (pre++[x]) W'∧KeepsWalks W W') (W:World) (hJ:AbidesFrom W.heap.size J) (hm:W.cell? ⟨Bm,0,none⟩=some (.map (some b))) (hown:W.ownsMap Tryz.prog 52 (plainElem Tryz.prog 121) b nn D0) (h0:J [] W):CallsIn F n Tryz.prog 169 #[.func (.yield l) #[] #[],.pointer (some ⟨Bm,0,none⟩)] W fun e W'=>(∃v,e= .returned v)∧∃ss:List M,(ss.Nodup∧(∀m∈ss,m.ok=true)∧∀m:M,m.ok=true→(m∈ss↔Maps.has D0 (dU m)=true))∧ss.length≤Maps.size D0∧J ss W':=by
 refine callsIn_of_wp Tryz.func169 rfl h10 ?_ hro;simp only[Tryz.ntmps169,List.size_toArray,List.length_cons,List.length_nil,Nat.reduceAdd,Nat.reduceSub,Array.replicate_succ,Array.replicate_zero,List.push_toArray,List.append_toArray,List.nil_append,List.cons_append]
 gi_wp2_with (first
  |(gi_at_range;refine wpListIn_range_own _ rfl _ 122 rfl 52 121 kL Tryz.underlying122 _ b nn _ rfl hown ?_;intro w0 hrg0 hg0 hs0)
  |gi_in)
 go_frame
 gi_loopw [3] (fun _ wr=>∃(left:Lit→Bool) (xL:Nat) (ss:List M),wr.ranges Tryz.prog 52 (plainElem Tryz.prog 121) b W.heap.size nn D0 left xL∧ss.length+xL≤Maps.size D0∧lC D0 left ss∧J ss wr)
  (fun _ wr=>wr.rangeLeft b W.heap.size)
 case atStart=>
  exact⟨_,_,[],hrg0,by simp,lC.start D0,hJ [] W w0 none h0 hg0 (fun r e=>by cases e)⟩
 case round=>
  obtain⟨left,xL,ss,hrg,hcs,hC,hJs⟩:=hrel
  gi_wp2_with (first
   |(gi_at_next;refine wpListIn_next_ranges _ rfl _ rfl 52 kL (plainElem Tryz.prog 121) (id:Value→Value) id (fun key kl hk=>⟨key,rfl⟩) (fun v _ _=>⟨v,rfl⟩) b W.heap.size nn _ _ _ rfl hrg ?_ ?_)
   |gi_in)
  ·intro hc0 hl0
   gi_wp2
   go_end0
   exact⟨⟨_,rfl⟩,ss,⟨hC.1,hC.2.1,fun m hm=>by rw[hC.2.2 m hm,hl0];simp⟩,by omega,hJs⟩
  ·intro x c kl yd yp w2 cnt2 hkey hlk hv hat hrg2 hlt hg2 hs2 hen;obtain⟨m,hmo,rfl⟩:=hks kl (has_true_of_atKey hat);obtain rfl:x=OX m:=kL.inj hkey (mM hmo);have hJ2:J ss w2:=hJ ss wr w2 (some W.heap.size) hJs hg2 (fun r e=>by cases e;exact⟨Nat.le_refl _,hrg.iter_walk⟩)
   have hJ3:=hJ ss w2 _ none hJ2 (World.grownBy_alloc w2 (.cells #[.int .i64 m.x,.int .i64 m.y,.int .i64 m.d,.int .i64 m.e] 52) none) (fun r e=>by cases e);have hrg2':=hrg2.of_walks (KeepsWalks.alloc w2 (.cells #[.int .i64 m.x,.int .i64 m.y,.int .i64 m.d,.int .i64 m.e] 52))
   have hlt':(w2.alloc (.cells #[.int .i64 m.x,.int .i64 m.y,.int .i64 m.d,.int .i64 m.e] 52)).rangeLeft b W.heap.size=cnt2:=hrg2'.left_eq;obtain⟨fn,tmps,assign,body,hy,hR⟩:=hY ss m _ hJ3 (by omega);clear hs2
   gi_wp2
   refine hR.mono ?_;rintro e W3 ⟨rfl,hJ4,hk3⟩
   gi_wp2
   have hrg3:=hrg2'.of_walks hk3;go_roundw;case rel=>exact⟨_,cnt2,ss++[m],hrg3,by simp;omega,hC.step hmo hlk hat,hJ4⟩
   case measure=>rw[hrg3.left_eq,hrg.left_eq];exact hlt
def JA (D0:DataW Unit) (ss:List M):Prop:=ss.Nodup∧(∀m∈ss,m.ok=true)∧(∀m:M,m.ok=true→(m∈ss↔Maps.has D0 (dU m)=true))∧ss.length≤Maps.size D0
theorem PL {F:Fence} {n:Nat} (h10:F.fn 169) (hro:F.round=none) (hn:1≤n) (Bm b nn:Nat) (D0:DataW Unit) (w:World) (hBm:Bm<w.heap.size) (hks:∀kl,Maps.has D0 kl=true→∃m:M,m.ok=true∧kl=dU m) (hm:w.cell? ⟨Bm,0,none⟩=some (.map (some b))) (hown:w.ownsMap Tryz.prog 52 (plainElem Tryz.prog 121) b nn D0):SeqGives F n Tryz.prog 169 #[.pointer (some ⟨Bm,0,none⟩)] OX (JA D0) (Maps.size D0) w:=fun l J W hW hJ hY h0=>by
 have hown':W.ownsMap Tryz.prog 52 (plainElem Tryz.prog 121) b nn D0:=by have hbl:=hown.lt;obtain⟨es,clock,hb,Ft,hs,hD⟩:=hown;exact⟨es,clock,(hW.block b hbl).trans hb,Ft,hs,hD⟩
 refine(Cm h10 hro hn l Bm b nn D0 J hks hY W hJ ((hW.cell (p:=⟨Bm,0,none⟩) hBm).trans hm) hown' h0).mono ?_;rintro e W' ⟨h1,ss,⟨h2,h3,h4⟩,h5,h6⟩;exact⟨h1,ss,⟨h2,h3,h4,h5⟩,h6⟩
theorem Et {F:Fence} {n:Nat} (h7:F.fn 155) (hro:F.round=none) (mb:Option Nat) (w:World):CallsIn F n Tryz.prog 155 #[.map mb] w fun e w'=>e= .returned (.func (.func 169) #[] #[.pointer (some ⟨w.heap.size,0,none⟩)])∧w'=w.alloc (.cells #[.map mb] 122):=by
 refine callsIn_of_wp Tryz.func155 rfl h7 ?_ hro;simp only[Tryz.ntmps155,List.size_toArray,List.length_cons,List.length_nil,Nat.reduceAdd,Nat.reduceSub,Array.replicate_succ,Array.replicate_zero,List.push_toArray,List.append_toArray,List.nil_append,List.cons_append]
 gi_wp2
 go_ret;exact⟨rfl,rfl⟩
end Go.Proofs.YtmlaedpamobmhaaGreat
