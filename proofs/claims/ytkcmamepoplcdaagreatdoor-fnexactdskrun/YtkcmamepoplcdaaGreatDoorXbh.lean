/-
  What an operator does to a form of the times: the program, put together.
-/
import Derived.Test.YtkcmamepoplcdaaGreatDoorXbg
set_option maxHeartbeats 8000000
set_option maxRecDepth 100000
namespace Go.Proofs.YtkcmamepoplcdaaGreatDoor
open Go.RowKit Go.Maps
set_option linter.unusedVariables false
attribute [local go_sem] Oper.semAt_some
def sR (n:Nat) (v:Value) (ok:Bool) (W:World):Prop:=Boxed W n 22 v∧Boxed W (n+1) 4 (.bool ok)
theorem sR.below {n:Nat} {v:Value} {ok:Bool} {W W':World} (h:sR n v ok W) (hb:Below W.heap.size W W'):sR n v ok W':=⟨(hb.block n h.1.lt).trans h.1,(hb.block _ h.2.lt).trans h.2⟩
theorem sR.cellsK {n:Nat} {v:Value} {ok:Bool} {W W':World} (h:sR n v ok W) (hk:cellsK W W'):sR n v ok W':=⟨bH h.1 hk,bH h.2 hk⟩
theorem sR.set {n:Nat} {v:Value} {ok:Bool} {W:World} (h:sR n v ok W) (v':Value) (ok':Bool):sR n v' ok' ((W.setCell ⟨n,0,none⟩ v').setCell ⟨n+1,0,none⟩ (.bool ok')):=
 ⟨(h.1.set v').other (by omega) _,(h.2.other (by omega) v').set _⟩
theorem CE (w:World):sR w.heap.size (.slice none 0 0) false ((w.alloc (.cells #[.slice none 0 0] 22)).alloc (.cells #[.bool false] 4)):=by
 refine⟨(Boxed.new w _ _).alloc _,?_⟩;have:=Boxed.new (w.alloc (.cells #[.slice none 0 0] 22)) 4 (.bool false)
 rwa[World.size_alloc]at this
theorem CF (n:Nat) (v:Value) (ok:Bool) {β:Type} (B:Nat):OwnFrom B (fun(_:β) W=>sR n v ok W):=fun s X Y row hs hg hr=>⟨fO rfl hs.1 hg hr,fO rfl hs.2 hg hr⟩
theorem gN (tmps:Array Value) {w:World} {n:Nat} {v:Value} {ok:Bool} (h4:tmps[4]?.getD undef= .pointer (some ⟨n,0,none⟩)) (h5:tmps[5]?.getD undef= .pointer (some ⟨n+1,0,none⟩)) (h:sR n v ok w):(results Tryz.f80 tmps).run Tryz.prog w= .ok (.tuple #[v,.bool ok]) w:=by
 have c1:=h.1.cell;have c2:=h.2.cell
 simp[results,Tryz.results80,go_sem,h4,h5,c1,c2]
theorem NM (w:World) (a b:Option Addr) (la ca lb cb:Nat) (f g:Nat→T) (ha:Rd w a la ca f) (hb:Rd w b lb cb g) (hno:aH la f=false∨bU lb g=false):Calls Tryz.prog 80 #[.slice a la ca,.slice b lb cb] w fun r w'=>r= .returned (.tuple #[.slice none 0 0,.bool false])∧Below w.heap.size w w':=by
 have hB0:Below w.heap.size w ((w.alloc (.cells #[.slice none 0 0] 22)).alloc (.cells #[.bool false] 4)):=dB w _ _;have HA:=aA (ha.below hB0)
 have HB:=aA (hb.below hB0);have hr0:=CE w
 have HR0:=aA hr0;have HB0:=aA hB0
 clear ha hb hB0 hr0;refine(callsIn_wide (n:=9)).1 ?_;refine callsIn_of_wp_marks Tryz.func80 rfl trivial ?_ rfl;simp only[Tryz.ntmps80,List.size_toArray,List.length_cons,List.length_nil,Nat.reduceAdd,Nat.reduceSub,Array.replicate_succ,Array.replicate_zero,List.push_toArray,List.append_toArray,List.nil_append,List.cons_append];cases hpa:aH la f
 ·gi_wp2_with (first
   |(refine⟨trivial,?_⟩;gi_at_call 57;refine(callsIn_wide.2 (dU _ _ _ _ f HA.out)).mono ?_;rw[hpa];rintro e w1 ⟨rfl,hb1⟩;have hR1:=HR0.out.below hb1;have c1:=hR1.1.cell;have c2:=hR1.2.cell;have z1:=hR1.1.frozen;have z2:=hR1.2.frozen;have HR1:=aA hR1;have HB1:=aA (aC HB0.out hb1);clear hb1 hR1)
   |gi_in)
  refine⟨trivial,?_⟩
  gi_wp2
  refine⟨_,gN _ rfl rfl (HR1.out.set _ _),rfl,?_⟩;exact(HB1.out.setCell (p:=⟨w.heap.size,0,none⟩) (by simp) _).setCell (p:=⟨w.heap.size+1,0,none⟩) (by simp) _
 ·have hpf:bU lb g=false:=hno.resolve_left (by rw[hpa];simp)
  gi_wp2_with (first
   |(refine⟨trivial,?_⟩;gi_at_call 57;refine(callsIn_wide.2 (dU _ _ _ _ f HA.out)).mono ?_;rw[hpa];rintro e w1 ⟨rfl,hb1⟩;have HBB:=aA (HB.out.below hb1);have HR1:=aA (HR0.out.below hb1);have HB1:=aA (aC HB0.out hb1);clear hb1)
   |(refine⟨trivial,?_⟩;gi_at_call 114;refine(callsIn_wide.2 (yO _ _ _ _ g HBB.out)).mono ?_;rw[hpf];rintro e w2 ⟨rfl,hb2⟩;have hR2:=HR1.out.below hb2;have c1:=hR2.1.cell;have c2:=hR2.2.cell;have z1:=hR2.1.frozen;have z2:=hR2.2.frozen;have HR2:=aA hR2;have HB2:=aA (aC HB1.out hb2);clear hb2 hR2)
   |gi_in)
  refine⟨_,gN _ rfl rfl (HR2.out.set _ _),rfl,?_⟩;exact(HB2.out.setCell (p:=⟨w.heap.size,0,none⟩) (by simp) _).setCell (p:=⟨w.heap.size+1,0,none⟩) (by simp) _
def CZ (f:Nat→T) (la:Nat) (g:Nat→T) (lb:Nat):List T×Bool:=if eD (bA f g lb la)=true then(cA ((bA f g lb la).map (·.1)) [],true)else([],false)
theorem CG {n D:Nat} {v:Value} {ok:Bool} {W:World} {o o':Obj} (h:sR n v ok W) (hD:W.heap[D]? =some o) (ho:o.isCells=false):sR n v ok (W.putObj D o'):=
 ⟨fO (B:=0) rfl h.1 (grownBy_putObj' W D o') (fun r e=>by cases e;exact⟨gO _,o,hD,ho⟩),fO (B:=0) rfl h.2 (grownBy_putObj' W D o') (fun r e=>by cases e;exact⟨gO _,o,hD,ho⟩)⟩
theorem NN (w:World) (a b:Option Addr) (la ca lb cb:Nat) (f g:Nat→T) (ha:Rd w a la ca f) (hb:Rd w b lb cb g) (hpa:aH la f=true) (hpf:bU lb g=true):Calls Tryz.prog 80 #[.slice a la ca,.slice b lb cb] w fun r w'=>∃v,r= .returned (.tuple #[v,.bool (CZ f la g lb).2])∧Below w.heap.size w w'∧w'.ownsRow w.heap.size 79 5 v (CZ f la g lb).1.length (aG (CZ f la g lb).1):=by
 have hB0:Below w.heap.size w ((w.alloc (.cells #[.slice none 0 0] 22)).alloc (.cells #[.bool false] 4)):=dB w _ _;have HA:=aA (ha.below hB0)
 have HB:=aA (hb.below hB0);have HR0:=aA (CE w)
 have HB0:=aA hB0;have HAw:=aA ha
 have HBw:=aA hb;have hpg:aH lb g=true:=by simp only[bU,Bool.and_eq_true]at hpf;exact hpf.1
 have gf:=vT hpa;have gg:=vT hpg
 have HGF:=aA gf;have HGG:=aA gg
 clear ha hb hB0 gf gg hpg;have hmm:=@run_makeMap Tryz.prog
 refine(callsIn_wide (n:=9)).1 ?_;refine callsIn_of_wp_marks Tryz.func80 rfl trivial ?_ rfl;simp only[Tryz.ntmps80,List.size_toArray,List.length_cons,List.length_nil,Nat.reduceAdd,Nat.reduceSub,Array.replicate_succ,Array.replicate_zero,List.push_toArray,List.append_toArray,List.nil_append,List.cons_append]
 gi_wp2_with (first
  |(refine⟨trivial,?_⟩;gi_at_call 57;refine(callsIn_wide.2 (dU _ _ _ _ f HA.out)).mono ?_;rw[hpa];rintro e w1 ⟨rfl,hb1⟩;have HBB:=aA (HB.out.below hb1);have HR1:=aA (HR0.out.below hb1);have HB1:=aA (aC HB0.out hb1);clear hb1)
  |(refine⟨trivial,?_⟩;gi_at_call 114;refine(callsIn_wide.2 (yO _ _ _ _ g HBB.out)).mono ?_;rw[hpf];rintro e w2 ⟨rfl,hb2⟩;have HR2:=aA (HR1.out.below hb2);have HB2:=aA (aC HB1.out hb2);clear hb2)
  |(refine⟨trivial,?_⟩;gi_at_call 115;refine(CP (F:=Fence.wide) trivial rfl _ _ _ _ _ _ _).mono ?_;rintro e w' ⟨rfl,hw'⟩;obtain rfl:=hw'.symm;clear hw')
  |gi_in)
 have hBn:Below w2.heap.size w2 ((((w2.alloc (.map #[] 0)).alloc (.cells #[.map (some w2.heap.size)] 120)).alloc (.cells #[.slice a la ca] 22)).alloc (.cells #[.slice b lb cb] 22)):=((((aD _ _).alloc (Nat.le_refl _) _).alloc (by simp) _).alloc (by simp;omega) _).alloc (by simp;omega) _;have hsum:eP ((((w2.alloc (.map #[] 0)).alloc (.cells #[.map (some w2.heap.size)] 120)).alloc (.cells #[.slice a la ca] 22)).alloc (.cells #[.slice b lb cb] 22)) w2.heap.size 65536 (fun _=>0):=by
  have h1:=(wG w2).cap;have h2:=h1.grown (World.grownBy_alloc (w2.alloc (.map #[] 0)) (.cells #[.map (some w2.heap.size)] 120) none) (by simp)
  have h3:=h2.grown (World.grownBy_alloc _ (.cells #[.slice a la ca] 22) none) (by simp);exact h3.grown (World.grownBy_alloc _ (.cells #[.slice b lb cb] 22) none) (by simp)
 have bS0:Boxed ((((w2.alloc (.map #[] 0)).alloc (.cells #[.map (some w2.heap.size)] 120)).alloc (.cells #[.slice a la ca] 22)).alloc (.cells #[.slice b lb cb] 22)) (w2.heap.size+1) 120 (.map (some w2.heap.size)):=by have:=Boxed.new (w2.alloc (.map #[] 0)) 120 (.map (some w2.heap.size));rw[World.size_alloc]at this;exact(this.alloc _).alloc _
 have bP0:Boxed ((((w2.alloc (.map #[] 0)).alloc (.cells #[.map (some w2.heap.size)] 120)).alloc (.cells #[.slice a la ca] 22)).alloc (.cells #[.slice b lb cb] 22)) (w2.heap.size+1+1) 22 (.slice a la ca):=by have:=Boxed.new ((w2.alloc (.map #[] 0)).alloc (.cells #[.map (some w2.heap.size)] 120)) 22 (.slice a la ca);rw[World.size_alloc,World.size_alloc]at this;exact this.alloc _
 have bQ0:Boxed ((((w2.alloc (.map #[] 0)).alloc (.cells #[.map (some w2.heap.size)] 120)).alloc (.cells #[.slice a la ca] 22)).alloc (.cells #[.slice b lb cb] 22)) (w2.heap.size+1+1+1) 22 (.slice b lb cb):=by
  have:=Boxed.new (((w2.alloc (.map #[] 0)).alloc (.cells #[.map (some w2.heap.size)] 120)).alloc (.cells #[.slice a la ca] 22)) 22 (.slice b lb cb)
  rwa[World.size_alloc,World.size_alloc,World.size_alloc]at this
 have hR3:=HR2.out.below hBn;have hB3:=aC HB2.out hBn
 have hs3:((((w2.alloc (.map #[] 0)).alloc (.cells #[.map (some w2.heap.size)] 120)).alloc (.cells #[.slice a la ca] 22)).alloc (.cells #[.slice b lb cb] 22)).heap.size=w2.heap.size+4:=by simp
 have hws:w.heap.size≤w2.heap.size:=HB2.out.size;generalize((((w2.alloc (.map #[] 0)).alloc (.cells #[.map (some w2.heap.size)] 120)).alloc (.cells #[.slice a la ca] 22)).alloc (.cells #[.slice b lb cb] 22))=W0 at *;clear hmm
 refine wpIn_rangeFunc_ownH (w0:=W0) rfl (by decide) (gf:=148) (lb:=#[.pointer (some ⟨w2.heap.size+1+1,0,none⟩),.pointer (some ⟨w2.heap.size+1+1+1,0,none⟩)]) rfl trivial (enters_of Tryz.func148 (by kernel_rfl) rfl)
  (EZ (n:=8) (by omega) (w2.heap.size+1+1) (w2.heap.size+1+1+1) a b la ca lb cb f g HGF.out HGG.out W0 bP0 bQ0 (HAw.out.below hB3) (HBw.out.below hB3)) bF (lF) (aD _ _) (fun _=>rfl)
  (fun(pre:List DT) W=>eP W w2.heap.size 65536 (dT (fun _=>0) (pre.map (·.1)))∧(Boxed W (w2.heap.size+1) 120 (.map (some w2.heap.size))∧(sR w.heap.size (.slice none 0 0) false W∧(Below w.heap.size w W∧eD pre=true))))
  (fun c (pre:List DT) W=>(c=Code.ret∧eD pre=false)∧(sR w.heap.size (.slice none 0 0) false W∧Below w.heap.size w W))
  (OwnFrom.and (fun s X Y row hs hg hr=>hs.grown hg (fun e=>by have:=(hr w2.heap.size e.symm).1;omega)) (OwnFrom.and (Own.from (boxed_own _ _ (fun _=>Value.map (some w2.heap.size))) _) (OwnFrom.and (CF _ _ _ _) (OwnFrom.and (ownFrom_below (Nat.le_refl _) (by omega)) (ownFrom_pure _ _)))))
  (fun c=>OwnFrom.and (ownFrom_pure _ _) (OwnFrom.and (CF _ _ _ _) (ownFrom_below (Nat.le_refl _) (by omega))))
  ⟨hsum,bS0,hR3,hB3,rfl⟩
  (fun x a' W=>∃Bx,aZ W Bx x.1∧a'=({tmps:=#[Value.slice a la ca,Value.slice b lb cb,undef,undef,Value.pointer (some ⟨w.heap.size,0,none⟩),Value.pointer (some ⟨w.heap.size+1,0,none⟩),Value.pointer (some ⟨w2.heap.size+1,0,none⟩),Value.pointer (some ⟨Bx,0,none⟩),Value.slice a la ca,Value.bool true,Value.bool false,Value.bool false,Value.slice b lb cb,Value.bool true,Value.bool false,Value.bool false,Value.map (some w2.heap.size),Value.slice a la ca,Value.slice b lb cb,Value.func (Fn.func 148) #[] #[Value.pointer (some ⟨w2.heap.size+1+1,0,none⟩),Value.pointer (some ⟨w2.heap.size+1+1+1,0,none⟩)],Value.agg #[Value.int IntKind.i64 x.1.c,Value.int IntKind.i64 x.1.m.x,Value.int IntKind.i64 x.1.m.y,Value.int IntKind.i64 x.1.m.d,Value.int IntKind.i64 x.1.m.e],undef,undef,undef,undef,undef,undef,undef,undef,undef,undef,undef,undef,undef,undef],defers:=[]}:Act))
  (fun x a' _ X Y row hs hg hr=>by obtain⟨Bx,h2,h3⟩:=hs;exact⟨Bx,fO rfl h2 hg hr,h3⟩)
  ?assign ?body ?done ?stop
 case assign=>
  rintro l pre x W K' ⟨hS,bS,hR,hB,hok⟩ hK';dsimp only[OZ]at hK'⊢
  gi_wp2
  exact hK' _ _ ((KeepsOthers.alloc _ _).from _) (bD _ _) ⟨hS.grown (World.grownBy_alloc W _ none) (by simp),bS.alloc _,⟨hR.1.alloc _,hR.2.alloc _⟩,hB.alloc hB.size _,hok⟩ ⟨W.heap.size,World.alloc_heap_new W _,rfl⟩
 case body=>
  rintro l pre x a' W hl ⟨r,hr⟩ ⟨hS,bS,hR,hB,hok⟩ ⟨Bx,hX,rfl⟩ hlt;obtain⟨x0,x1,x2,x3,x4⟩:=hX.cells;have hmo:=gZ x.1.m.x x.1.m.y x.1.m.d x.1.m.e
  have em:(⟨x.1.m.x,x.1.m.y,x.1.m.d,x.1.m.e⟩:M)=x.1.m:=rfl;rw[em]at hmo;have HS:=aA hS
  have HBS:=aA bS;have HR:=aA hR
  have HB:=aA hB;have HX:=aA hX
  have hxa:=x.2.1;have hxb:=x.2.2.1
  clear hS bS hR hB hX em;cases hxo:x.1.m.ok
  ·rw[hxo]at hmo
   gi_wp2_with (first
    |(refine⟨trivial,?_⟩;gi_at_call 116;(refine(CallsIn.inRound l (callsIn_wide.2 (hmo W))).mono ?_;rintro e w4 ⟨rfl,hb4⟩;have hR4:=HR.out.below hb4;have c1:=hR4.1.cell;have c2:=hR4.2.cell;have z1:=hR4.1.frozen;have z2:=hR4.2.frozen;have HR4:=aA hR4;have HB4:=aA hb4;clear hb4 hR4))
    |gi_in)
   have hb4:=HB4.out;have hB4:=aC HB.out hb4
   refine⟨KeepsFrom.trans (⟨hb4.size,fun k o _ hk _=>(hb4.block k (Array.getElem?_eq_some_iff.1 hk).1).trans hk⟩) (((KeepsOthers.setCell _ _ _).trans (KeepsOthers.setCell _ _ _)).from _),⟨rfl,by rw[fS,hok];simp[eD,hxo]⟩,HR4.out.set _ _,?_⟩;exact(hB4.setCell (p:=⟨w.heap.size,0,none⟩) (by simp) _).setCell (p:=⟨w.heap.size+1,0,none⟩) (by simp) _
  ·rw[hxo]at hmo
   gi_wp2_with (first
    |(refine⟨trivial,?_⟩;gi_at_call 116;(refine(CallsIn.inRound l (callsIn_wide.2 (hmo W))).mono ?_;rintro e w4 ⟨rfl,hb4⟩;have cS:=(bH HBS.out (jZ hb4)).cell;have hX4:aZ w4 Bx x.1:=(hb4.block Bx (Array.getElem?_eq_some_iff.1 HX.out).1).trans HX.out;obtain⟨y0,y1,y2,y3,y4⟩:=hX4.cells;have HB4:=aA hb4;have HS4:=aA (HS.out.grown (cW hb4) (by simp));clear hb4 hX4))
    |(refine⟨trivial,?_⟩;gi_at_call 117;(refine(CallsIn.inRound l (callsIn_wide.2 (wF w2.heap.size 65536 _ x.1.c x.1.m w4 hxo HS4.out (by unfold maxLen;omega) hxa hxb))).mono ?_;rintro e w5 ⟨rfl,hs5,hg5⟩))
    |gi_in)
   have hb4:=HB4.out;have hk4:=jZ hb4
   have hk5:cellsK w4 w5:=kC hg5 (fun k e o ho=>by cases e;exact HS4.out.map o ho);have hk:=bF hk4 hk5
   refine⟨KeepsFrom.trans (⟨hb4.size,fun k o _ hk _=>(hb4.block k (Array.getElem?_eq_some_iff.1 hk).1).trans hk⟩) (KeepsFrom.of_grownBy hg5 (fun j e=>by cases e;omega)),hk,?_,bH HBS.out hk,HR.out.cellsK hk,?_,?_⟩
   ·rw[List.map_append,List.map_cons,List.map_nil,uW];exact hs5.cap
   ·exact(aC HB.out hb4).grown hg5 (aC HB.out hb4).size (fun k e=>by cases e;omega)
   ·rw[fS,hok];simp[eD,hxo]
 case done=>
  rintro D xs W hD rfl ⟨hS,bS,hR,hB,hok⟩ hKd;have hf:=eR ((bA f g lb la).map (·.1)) [] (AM hok) dN
  have hsh:=oN hok;have eV:CZ f la g lb=iA (cA ((bA f g lb la).map (·.1)) []):=by unfold CZ iA;rw[if_pos hok,if_pos (by omega)]
  have cS:=bS.cell;have HR:=aA hR
  have hDlt:D<W.heap.size:=(Array.getElem?_eq_some_iff.1 hKd).1;have hop:=wH W w2.heap.size 65536 _ hS (by omega) hf.1 (fun m _=>by rw[hf.2];rfl)
  generalize cA ((bA f g lb la).map (·.1)) []=KK at *
  gi_wp2_with gi_in
  refine⟨trivial,?_⟩;refine(callsIn_wide.2 hop).mono ?_;rintro e w5 ⟨v5',rfl,hb5,ho5⟩;obtain⟨a5,c5,hv5,_⟩:=aO ho5 (by have:(iA KK).1.length≤400:=(by unfold iA;split<;>simp<;>omega);omega);subst hv5;have hR5:=HR.out.below hb5
  have c1:=hR5.1.cell;have c2:=hR5.2.cell
  have z1:=hR5.1.frozen;have z2:=hR5.2.frozen
  have HR5:=aA hR5;have HB5:=aA hb5
  have HO5:=aA ho5;clear hb5 hR5 ho5
  gi_wp2
  have hnD1:D≠w.heap.size:=by omega
  have hnD2:D≠w.heap.size+1:=by omega
  have hK5:((w5.setCell ⟨w.heap.size,0,none⟩ (.slice a5 (iA KK).1.length c5)).setCell ⟨w.heap.size+1,0,none⟩ (.bool (iA KK).2)).heap[D]? =some (.deferred (some [])):=by rw[Below.heap_setCell _ _ _ _ hnD2,Below.heap_setCell _ _ _ _ hnD1];exact(HB5.out.block D hDlt).trans hKd
  refine⟨by simp,.inl ⟨_,_,rfl,run_takeDeferred hK5,?_⟩⟩;refine⟨_,gN _ rfl rfl (CG (HR5.out.set (.slice a5 (iA KK).1.length c5) (iA KK).2) hK5 rfl),.slice a5 (iA KK).1.length c5,by rw[eV],?_,?_⟩
  ·have h1:=((aC hB HB5.out).setCell (p:=⟨w.heap.size,0,none⟩) (by simp) (.slice a5 (iA KK).1.length c5)).setCell (p:=⟨w.heap.size+1,0,none⟩) (by simp) (.bool (iA KK).2);exact h1.trans (belowK_b (w:=w) (Nat.le_refl _) _ D _ _ (by omega) hK5 rfl rfl)
  ·rw[eV];have h1:=HO5.out.kept (grownBy_setCell' w5 w.heap.size (.slice a5 (iA KK).1.length c5)) (.inr (HR5.out.1.not_row (by decide) HO5.out).symm)
   have h2:=h1.kept (grownBy_setCell' _ (w.heap.size+1) (.bool (iA KK).2)) (.inr ((HR5.out.2.other (by omega) (.slice a5 (iA KK).1.length c5)).not_row (by decide) h1).symm);exact dS (ownsRow_putObj h2 (.deferred none) hK5 rfl) (by omega)
 case stop=>
  rintro D c pre W hD hpre ⟨⟨rfl,hok⟩,hR,hB⟩ hKd;have eV:CZ f la g lb=([],false):=by unfold CZ;rw[if_neg (by rw[sX hpre hok];simp)]
  refine wpIn_ret ?_;refine⟨by simp,.inl ⟨_,_,rfl,run_takeDeferred hKd,?_⟩⟩;exact⟨_,gN _ rfl rfl (CG hR hKd rfl),_,by rw[eV],hB.trans (belowK_b (w:=w) (Nat.le_refl _) _ D _ _ (by omega) hKd rfl rfl),by rw[eV];exact dD _ _⟩
theorem QL (w:World) (a b:Option Addr) (la ca lb cb:Nat) (f g:Nat→T) (ha:Rd w a la ca f) (hb:Rd w b lb cb g):Calls Tryz.prog 80 #[.slice a la ca,.slice b lb cb] w fun r w'=>∃a' cap',r= .returned (.tuple #[.slice a' (fG f la g lb).1.length cap',.bool (fG f la g lb).2])∧Below w.heap.size w w'∧iJ w.heap.size w' a' cap' (fG f la g lb).1:=by
 have hlen:=uU f la g lb;by_cases h:aH la f=true∧bU lb g=true
 ·have e1:fG f la g lb=CZ f la g lb:=by unfold fG CZ;rw[if_pos h]
  rw[e1]at hlen⊢;refine(NN w a b la ca lb cb f g ha hb h.1 h.2).mono ?_;rintro r w' ⟨v,rfl,hb1,ho1⟩;obtain⟨a',cap',rfl,hout⟩:=aO ho1 (by omega);exact⟨a',cap',rfl,hb1,hout⟩
 ·have e1:fG f la g lb=([],false):=by unfold fG;rw[if_neg h]
  rw[e1];refine(NM w a b la ca lb cb f g ha hb ?_).mono ?_
  ·cases h1:aH la f
   ·exact .inl rfl
   ·cases h2:bU lb g
    ·exact .inr rfl
    ·exact absurd ⟨h1,h2⟩ h
  ·rintro r w' ⟨rfl,hb1⟩;obtain⟨a',cap',h1,hout⟩:=aO (L:=[]) (dD w' w.heap.size) (by simp);cases h1;exact⟨_,_,rfl,hb1,hout⟩
end Go.Proofs.YtkcmamepoplcdaaGreatDoor
