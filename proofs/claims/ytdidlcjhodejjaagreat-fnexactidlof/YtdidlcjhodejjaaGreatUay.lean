/-
  What is needed, and whether it ends: the program's panic and recover.
-/
import Derived.Test.YtdidlcjhodejjaaGreatUaf
import Derived.Shelf.Abstract
import Derived.Defers
import Derived.Recover
import Derived.Test.YtdidlcjhodejjaaGreatUax
namespace Go.Proofs.YtdidlcjhodejjaaGreat
open Go.RowKit Go.Deep Go.Joins
set_option linter.unusedVariables false
abbrev tooMuch:Value:=.iface 149 (.agg #[])
set_option maxHeartbeats 1000000 in
theorem redNeed_yes (v:Value) (w:World):Calls Tryz.prog 124 #[v,.bool true] w fun r w'=>r=.returned v∧w'=w:=by
 go_enter Tryz.func124,Tryz.ntmps124
 go_wp2
 go_ret
 exact ⟨rfl,rfl⟩
set_option maxHeartbeats 1000000 in
theorem redNeed_no (v:Value) (w:World):Calls Tryz.prog 124 #[v,.bool false] w fun r w'=>r=.panicked [{ v:=tooMuch,recovered:=false }]∧w'=w:=by
 go_enter Tryz.func124,Tryz.ntmps124
 go_wp2
 exact ⟨rfl,rfl,rfl⟩
theorem ta_nil (t:TypeId) (w:World):(Instr.typeAssert Value.nilIface t 149 true).run Tryz.prog w=.ok (.tuple #[.agg #[],.bool false]) w:=by kernel_rfl
theorem ta_much (t:TypeId) (w:World):(Instr.typeAssert tooMuch t 149 true).run Tryz.prog w=.ok (.tuple #[.agg #[],.bool true]) w:=by kernel_rfl
theorem ne_nil (w:World):(binOp BinOp.neq 20 Value.nilIface Value.nilIface).run Tryz.prog w=.ok (.bool false) w:=by kernel_rfl
theorem ne_much (w:World):(binOp BinOp.neq 20 tooMuch Value.nilIface).run Tryz.prog w=.ok (.bool true) w:=by kernel_rfl
set_option maxRecDepth 100000 in
set_option maxHeartbeats 2000000 in
theorem ends1_idle (w:World):CallsD Tryz.prog 123 #[] .returning w fun e u' w'=>e=.returned (.tuple #[])∧u'=.returning∧w'=w.alloc (.cells #[] 149):=by
 refine callsD_of_wpS Tryz.func123 rfl fun c₀ cs hu=>?_
 apply wpS_seq
 apply wpS_region
 simp [wpOpsS,go_sem,recoverD,hu,Tryz.ntmps123,Exit.thenS]
 simp only [Array.replicate]
 refine wpS_of_wp ?_
 have h1:=ta_nil
 have h2:=ta_much
 have h3:=ne_nil
 have h4:=ne_much
 go_wp2
 cases c₀
 simp_all [bodyPostS,results,Tryz.results123]
set_option maxRecDepth 100000 in
set_option maxHeartbeats 2000000 in
theorem ends1_caught (w:World):CallsD Tryz.prog 123 #[] (.panicking [{ v:=tooMuch,recovered:=false }]) w fun e u' w'=>e=.returned (.tuple #[])∧u'=.panicking [{ v:=tooMuch,recovered:=true }]∧w'=w.alloc (.cells #[] 149):=by
 refine callsD_of_wpS Tryz.func123 rfl fun c₀ cs hu=>?_
 apply wpS_seq
 apply wpS_region
 simp [wpOpsS,go_sem,recoverD,hu,Tryz.ntmps123,Exit.thenS]
 simp only [Array.replicate]
 refine wpS_of_wp ?_
 have h1:=ta_nil
 have h2:=ta_much
 have h3:=ne_nil
 have h4:=ne_much
 go_wp2
 cases c₀
 simp_all [bodyPostS,results,Tryz.results123]
set_option maxRecDepth 100000 in
set_option maxHeartbeats 2000000 in
theorem redEnds_yes (g:Nat) (lb:Array Value) (w:World) (Q:World→Prop) (eg:∀ args w,(callFunc g args).run Tryz.prog w=.ok (.enter g args) w) (h:Calls Tryz.prog g lb w fun r w'=>r=.returned (.tuple #[])∧Q w') :
  Calls Tryz.prog 78 #[.func (.func g) #[] lb] w fun r w'=>r=.returned (.bool true)∧∃ w1,Q w1∧w'=w1.alloc (.cells #[] 149):=by
 have HC:=Hid.mk' h
 clear h
 go_enter_defers Tryz.func78,Tryz.ntmps78
 go_wp2_with fail
 refine HC.out.mono ?_
 rintro r w1 ⟨rfl,hq⟩
 have HQ:=Hid.mk' hq
 clear hq HC
 go_wp2
 refine leaves_cons (f:=123) (args:=#[]) (by simp) (by simp [go_sem]) ?_
 refine (ends1_idle _).mono ?_
 rintro e u' w'' ⟨rfl,rfl,rfl⟩
 simp [Leaves,settle,results,Tryz.results78,go_sem]
 exact ⟨w1,HQ.out,rfl⟩
set_option maxRecDepth 100000 in
set_option maxHeartbeats 2000000 in
theorem redEnds_no (g:Nat) (lb:Array Value) (w:World) (Q:World→Prop) (eg:∀ args w,(callFunc g args).run Tryz.prog w=.ok (.enter g args) w) (h:Calls Tryz.prog g lb w fun r w'=>r=.panicked [{ v:=tooMuch,recovered:=false }]∧Q w') :
  Calls Tryz.prog 78 #[.func (.func g) #[] lb] w fun r w'=>r=.returned (.bool false)∧∃ w1,Q w1∧w'=w1.alloc (.cells #[] 149):=by
 have HC:=Hid.mk' h
 clear h
 go_enter_defers Tryz.func78,Tryz.ntmps78
 go_wp2_with fail
 refine HC.out.mono ?_
 rintro r w1 ⟨rfl,hq⟩
 have HQ:=Hid.mk' hq
 clear hq HC
 go_wp2
 refine leaves_cons (f:=123) (args:=#[]) (by simp) (by simp [go_sem]) ?_
 refine (ends1_caught _).mono ?_
 rintro e u' w'' ⟨rfl,rfl,rfl⟩
 simp [Leaves,settle,results,Tryz.results78,go_sem]
 exact ⟨w1,HQ.out,rfl⟩
end Go.Proofs.YtdidlcjhodejjaaGreat
namespace Go.Proofs.YtdidlcjhodejjaaGreat
open Go.RowKit Go.Deep Go.Joins Go.Maps
set_option linter.unusedVariables false
theorem SumR.more {w:World} {b n n':Nat} {c:M→Int} (h:SumR w b n c) (hn:n≤n'):SumR w b n' c:=by
 obtain ⟨D,ho,h2⟩:=h
 exact ⟨D,ownsMap_more ho hn,h2⟩
theorem SumR.congr {w:World} {b n:Nat} {c c':M→Int} (h:SumR w b n c) (he:∀ m,m.ok=true→c m=c' m) (hb:∀ m,0≤c' m∧c' m≤100):SumR w b n c':=by
 obtain ⟨D,ho,h1,h2,h3⟩:=h
 exact ⟨D,ho,hb,fun m hm=>by rw [← he m hm];exact h2 m hm,h3⟩
theorem SumR.below {w w':World} {b n:Nat} {c:M→Int} (h:SumR w b n c) (hb:Below w.heap.size w w'):SumR w' b n c:=h.grown (below_grown hb none) (by simp)
theorem SumR.ne_cell {w:World} {b n:Nat} {c:M→Int} (h:SumR w b n c) {b' o:Nat} {v:Value} (hc:w.cell? ⟨b',o,none⟩=some v):b'≠b:=by
 rintro rfl
 obtain ⟨D,⟨es,clock,h1,_⟩,_⟩:=h
 unfold World.cell? at hc
 simp [h1] at hc
theorem SumR.ne_rd {w:World} {b n:Nat} {c:M→Int} (h:SumR w b n c) {a:Option Addr} {k cap:Nat} {f:Nat→T} (hr:Rd w a k cap f):k=0∨∀ b' off,a=some ⟨b',off,none⟩→some b'≠some b:=by
 by_cases hk:k=0
 ·exact .inl hk
 ·refine .inr fun b' off e e'=>?_
  rcases hr.2.2 with h0 | ⟨b1,off1,e1,_,hc⟩
  ·exact hk h0
  ·have hne:=h.ne_cell (hc 0 (by omega)).1
   rw [e] at e1
   have e2:b'=b1:=by simpa using congrArg (fun x:Option Addr=>x.map (·.block)) e1
   have e3:b'=b:=by simpa using e'
   exact hne (e2.symm.trans e3)
theorem Rd.grownMap {w w':World} {b n:Nat} {c:M→Int} (h:SumR w b n c) {a:Option Addr} {k cap:Nat} {f:Nat→T} (hr:Rd w a k cap f) (hg:w.grownBy w' (some b)):Rd w' a k cap f:=hr.grown hg (h.ne_rd hr)
theorem cell_grownMap {w w':World} {b n:Nat} {c:M→Int} (h:SumR w b n c) {b' o:Nat} {v:Value} (hc:w.cell? ⟨b',o,none⟩=some v) (hg:w.grownBy w' (some b)):w'.cell? ⟨b',o,none⟩=some v:=
 (World.cell?_of_block (a:=⟨b',o,none⟩) (hg.block b' (World.block_lt_of_cell? w _ hc) (fun e=>h.ne_cell hc (by simpa using e)))).trans hc
theorem frozen_grownMap {w w':World} {b n:Nat} {c:M→Int} (h:SumR w b n c) {b' o:Nat} {v:Value} (hc:w.cell? ⟨b',o,none⟩=some v) {z:Bool} (hz:w.frozen? ⟨b',o,none⟩=z) (hg:w.grownBy w' (some b)):w'.frozen? ⟨b',o,none⟩=z:=
 (World.frozen?_of_block (a:=⟨b',o,none⟩) (hg.block b' (World.block_lt_of_cell? w _ hc) (fun e=>h.ne_cell hc (by simpa using e)))).trans hz
theorem RdS.grownMap {w w':World} {b N:Nat} {c:M→Int} (h:SumR w b N c) {a:Option Addr} {n cap:Nat} {ad:Nat→Option Addr} {ln cp:Nat→Nat} {f:Nat→Nat→T} (hr:RdS w a n cap ad ln cp f) (hg:w.grownBy w' (some b)):RdS w' a n cap ad ln cp f:=by
 refine ⟨hr.1,hr.2.1,?_,fun i hi=>(hr.2.2.2 i hi).grownMap h hg⟩
 rcases hr.2.2.1 with h0 | ⟨b',off,e,hlt,hc⟩
 ·exact .inl h0
 ·exact .inr ⟨b',off,e,Nat.lt_of_lt_of_le hlt hg.size,fun i hi=>cell_grownMap h (hc i hi) hg⟩
structure DvP where
 s0:Nat
 Bd:Nat
 rk:Nat
 a:Option Addr
 al:Option Addr
 ta:Option Addr
 n:Nat
 cap:Nat
 cl:Nat
 tc:Nat
 ad:Nat→Option Addr
 ln:Nat→Nat
 cp:Nat→Nat
 f:Nat→Nat→T
 o:Int
 br:Nat
 bl:Nat
 bk:Nat→Nat
structure DvW (X:DvP) (w:World) (fu u N:Nat) (S:Dv):Prop where
 c0:w.cell? ⟨X.Bd,0,none⟩=some (.func (.func X.rk) #[] #[])
 c1:w.cell? ⟨X.Bd,1,none⟩=some (.slice X.a X.n X.cap)
 c2:w.cell? ⟨X.Bd,2,none⟩=some (.slice X.al X.n X.cl)
 c3:w.cell? ⟨X.Bd,3,none⟩=some (.map (some X.br))
 c4:w.cell? ⟨X.Bd,4,none⟩=some (.slice X.ta X.n X.tc)
 c5:w.cell? ⟨X.Bd,5,none⟩=some (.map (some X.bl))
 c6:w.cell? ⟨X.Bd,6,none⟩=some (.int .i64 (fu:Int))
 fz:w.frozen? ⟨X.Bd,6,none⟩=false
 ls:RdS w X.a X.n X.cap X.ad X.ln X.cp X.f
 ld:Rd w X.al X.n X.cl (lf (ldsL X.o X.ln X.f X.n))
 tk:X.n≤X.tc∧(X.n=0∨∃ bt off,X.ta=some ⟨bt,off,none⟩∧∀ i,i<X.n→w.cell? ⟨bt,off+i,none⟩=some (.map (some (X.bk i))))
 rs:SumR w X.br N (coef S.p)
 lf:SumR w X.bl u (coef S.r)
 tq:∀ i,i<X.n→SumR w (X.bk i) u (coef (S.q i))
 ne:X.br≠X.bl∧∀ i,i<X.n→X.bk i≠X.br∧X.bk i≠X.bl∧∀ j,j<X.n→i≠j→X.bk i≠X.bk j
 lo:X.s0≤X.Bd∧X.s0≤X.br∧X.s0≤X.bl∧∀ i,i<X.n→X.s0≤X.bk i
 sp:X.n=0∨((∀ b off,X.a=some ⟨b,off,none⟩→b≠X.Bd)∧(∀ i,i<X.n→X.ln i=0∨∀ b off,X.ad i=some ⟨b,off,none⟩→b≠X.Bd)∧(∀ b off,X.al=some ⟨b,off,none⟩→b≠X.Bd)∧(∀ b off,X.ta=some ⟨b,off,none⟩→b≠X.Bd))
theorem DvW.below {X:DvP} {w w':World} {fu u N:Nat} {S:Dv} (h:DvW X w fu u N S) (hb:Below w.heap.size w w'):DvW X w' fu u N S where
 c0:=(hb.cell (p:=⟨X.Bd,0,none⟩) (World.block_lt_of_cell? w _ h.c0)).trans h.c0
 c1:=(hb.cell (p:=⟨X.Bd,1,none⟩) (World.block_lt_of_cell? w _ h.c1)).trans h.c1
 c2:=(hb.cell (p:=⟨X.Bd,2,none⟩) (World.block_lt_of_cell? w _ h.c2)).trans h.c2
 c3:=(hb.cell (p:=⟨X.Bd,3,none⟩) (World.block_lt_of_cell? w _ h.c3)).trans h.c3
 c4:=(hb.cell (p:=⟨X.Bd,4,none⟩) (World.block_lt_of_cell? w _ h.c4)).trans h.c4
 c5:=(hb.cell (p:=⟨X.Bd,5,none⟩) (World.block_lt_of_cell? w _ h.c5)).trans h.c5
 c6:=(hb.cell (p:=⟨X.Bd,6,none⟩) (World.block_lt_of_cell? w _ h.c6)).trans h.c6
 fz:=(hb.frozen (p:=⟨X.Bd,6,none⟩) (World.block_lt_of_cell? w _ h.c6)).trans h.fz
 ls:=h.ls.below hb
 ld:=h.ld.below hb
 tk:=⟨h.tk.1,h.tk.2.imp id (fun ⟨bt,off,e,hc⟩=>⟨bt,off,e,fun i hi=>(hb.cell (p:=⟨bt,off+i,none⟩) (World.block_lt_of_cell? w _ (hc i hi))).trans (hc i hi)⟩)⟩
 rs:=h.rs.below hb
 lf:=h.lf.below hb
 tq:=fun i hi=>(h.tq i hi).below hb
 ne:=h.ne
 lo:=h.lo
 sp:=h.sp
theorem DvW.turn {X:DvP} {w w':World} {fu u N u' N':Nat} {S S':Dv} (h:DvW X w fu u N S) {b K:Nat} {c:M→Int} (hm:SumR w b K c) (hg:w.grownBy w' (some b))
  (rs:SumR w' X.br N' (coef S'.p)) (lf:SumR w' X.bl u' (coef S'.r)) (tq:∀ i,i<X.n→SumR w' (X.bk i) u' (coef (S'.q i))):DvW X w' fu u' N' S' where
 c0:=cell_grownMap hm h.c0 hg
 c1:=cell_grownMap hm h.c1 hg
 c2:=cell_grownMap hm h.c2 hg
 c3:=cell_grownMap hm h.c3 hg
 c4:=cell_grownMap hm h.c4 hg
 c5:=cell_grownMap hm h.c5 hg
 c6:=cell_grownMap hm h.c6 hg
 fz:=frozen_grownMap hm h.c6 h.fz hg
 ls:=h.ls.grownMap hm hg
 ld:=h.ld.grownMap hm hg
 tk:=⟨h.tk.1,h.tk.2.imp id (fun ⟨bt,off,e,hc⟩=>⟨bt,off,e,fun i hi=>cell_grownMap hm (hc i hi) hg⟩)⟩
 rs:=rs
 lf:=lf
 tq:=tq
 ne:=h.ne
 lo:=h.lo
 sp:=h.sp
theorem DvW.turnRest {X:DvP} {w w':World} {fu u N u' N':Nat} {S:Dv} {p:List T} (h:DvW X w fu u N S) (hu:u≤u') (hg:w.grownBy w' (some X.br)) (rs:SumR w' X.br N' (coef p)):DvW X w' fu u' N' ⟨p,S.q,S.r⟩:=
 h.turn h.rs hg rs ((h.lf.grown hg (by simpa using h.ne.1.symm)).more hu) (fun i hi=>((h.tq i hi).grown hg (by simpa using (h.ne.2 i hi).1)).more hu)
theorem DvW.turnLeft {X:DvP} {w w':World} {fu u N u':Nat} {S:Dv} {r:List T} (h:DvW X w fu u N S) (hu:u≤u') (hg:w.grownBy w' (some X.bl)) (lf:SumR w' X.bl u' (coef r)):DvW X w' fu u' N ⟨S.p,S.q,r⟩:=
 h.turn h.lf hg (h.rs.grown hg (by simpa using h.ne.1)) lf (fun i hi=>((h.tq i hi).grown hg (by simpa using (h.ne.2 i hi).2.1)).more hu)
theorem DvW.turnTaken {X:DvP} {w w':World} {fu u N u':Nat} {S:Dv} {q:List T} (h:DvW X w fu u N S) (hu:u≤u') {k:Nat} (hk:k<X.n) (hg:w.grownBy w' (some (X.bk k))) (hq:SumR w' (X.bk k) u' (coef q)):DvW X w' fu u' N ⟨S.p,updQ S.q k q,S.r⟩:=by
 refine h.turn (h.tq k hk) hg (h.rs.grown hg (by simpa using (h.ne.2 k hk).1.symm)) ((h.lf.grown hg (by simpa using (h.ne.2 k hk).2.1.symm)).more hu) (fun i hi=>?_)
 show SumR w' (X.bk i) u' (coef (updQ S.q k q i))
 unfold updQ
 split
 ·rename_i e
  rw [e];exact hq
 ·rename_i e
  exact ((h.tq i hi).grown hg (by simpa using (h.ne.2 k hk).2.2 i hi (fun e'=>e e'.symm) |>.symm)).more hu
theorem DvW.burn {X:DvP} {w:World} {fu u N:Nat} {S:Dv} (h:DvW X w (fu+1) u N S):DvW X (w.setCell ⟨X.Bd,6,none⟩ (.int .i64 (fu:Int))) fu u N S:=by
 have hg:=grownSet w X.Bd 6 (.int .i64 (fu:Int))
 have hcell:∀ {b o:Nat} {v:Value},w.cell? ⟨b,o,none⟩=some v→(b≠X.Bd∨o≠6)→(w.setCell ⟨X.Bd,6,none⟩ (.int .i64 (fu:Int))).cell? ⟨b,o,none⟩=some v:=fun {b o v} hc hne=>by
  rw [World.cell?_setCell_other _ _ _ _ (by intro e;cases e;rcases hne with h | h <;> exact h rfl)]
  exact hc
 have hmap:∀ {b N:Nat} {c:M→Int},SumR w b N c→SumR (w.setCell ⟨X.Bd,6,none⟩ (.int .i64 (fu:Int))) b N c:=fun {b N c} hs=>hs.grown hg (by simpa using (hs.ne_cell h.c0).symm)
 have hrd:∀ {a:Option Addr} {k cap:Nat} {f:Nat→T},Rd w a k cap f→(k=0∨∀ b off,a=some ⟨b,off,none⟩→b≠X.Bd)→Rd (w.setCell ⟨X.Bd,6,none⟩ (.int .i64 (fu:Int))) a k cap f:=fun {a k cap f} hr hne=>hr.grown hg (hne.imp id (fun hn b off e e'=>hn b off e (by simpa using e')))
 rcases h.sp with hn0 | hsp
 ·exact {
   c0:=hcell h.c0 (.inr (by decide))
   c1:=hcell h.c1 (.inr (by decide))
   c2:=hcell h.c2 (.inr (by decide))
   c3:=hcell h.c3 (.inr (by decide))
   c4:=hcell h.c4 (.inr (by decide))
   c5:=hcell h.c5 (.inr (by decide))
   c6:=by simp [go_sem,h.c6]
   fz:=by simp [go_sem,h.fz]
   ls:=⟨h.ls.1,h.ls.2.1,.inl hn0,fun i hi=>absurd hi (by omega)⟩
   ld:=hrd h.ld (.inl hn0)
   tk:=⟨h.tk.1,.inl hn0⟩
   rs:=hmap h.rs
   lf:=hmap h.lf
   tq:=fun i hi=>hmap (h.tq i hi)
   ne:=h.ne
   lo:=h.lo
   sp:=h.sp }
 ·exact {
   c0:=hcell h.c0 (.inr (by decide))
   c1:=hcell h.c1 (.inr (by decide))
   c2:=hcell h.c2 (.inr (by decide))
   c3:=hcell h.c3 (.inr (by decide))
   c4:=hcell h.c4 (.inr (by decide))
   c5:=hcell h.c5 (.inr (by decide))
   c6:=by simp [go_sem,h.c6]
   fz:=by simp [go_sem,h.fz]
   ls:=⟨h.ls.1,h.ls.2.1,h.ls.2.2.1.imp id (fun ⟨b,off,e,hlt,hc⟩=>⟨b,off,e,Nat.lt_of_lt_of_le hlt hg.size,fun i hi=>hcell (hc i hi) (.inl (hsp.1 b off e))⟩),fun i hi=>hrd (h.ls.2.2.2 i hi) (hsp.2.1 i hi)⟩
   ld:=hrd h.ld (.inr hsp.2.2.1)
   tk:=⟨h.tk.1,h.tk.2.imp id (fun ⟨bt,off,e,hc⟩=>⟨bt,off,e,fun i hi=>hcell (hc i hi) (.inl (hsp.2.2.2 bt off e))⟩)⟩
   rs:=hmap h.rs
   lf:=hmap h.lf
   tq:=fun i hi=>hmap (h.tq i hi)
   ne:=h.ne
   lo:=h.lo
   sp:=h.sp }
structure Turn (X:DvP) (w w':World):Prop where
 os:w'.os=w.os
 tape:w'.tape=w.tape
 output:w'.output=w.output
 size:w.heap.size≤w'.heap.size
 block:∀ b,b<w.heap.size→b≠X.Bd→b≠X.br→b≠X.bl→(∀ i,i<X.n→b≠X.bk i)→w'.heap[b]? = w.heap[b]?
theorem Turn.of {X:DvP} {w w':World} (h:Below w.heap.size w w'):Turn X w w':=⟨h.os,h.tape,h.output,h.size,fun b hb _ _ _ _=>h.block b hb⟩
theorem Turn.trans {X:DvP} {w w' w'':World} (h:Turn X w w') (k:Turn X w' w''):Turn X w w'':=
 ⟨k.os.trans h.os,k.tape.trans h.tape,k.output.trans h.output,Nat.le_trans h.size k.size,fun b hb h1 h2 h3 h4=>(k.block b (Nat.lt_of_lt_of_le hb h.size) h1 h2 h3 h4).trans (h.block b hb h1 h2 h3 h4)⟩
theorem Turn.drew {X:DvP} {w w':World} (h:Turn X w w'):Turn X w w'.drew:=h.trans (Turn.of (Below.refl _ _).drew)
theorem Turn.map {X:DvP} {w w':World} {b:Nat} (hg:w.grownBy w' (some b)) (h:b=X.br∨b=X.bl∨∃ i,i<X.n∧b=X.bk i):Turn X w w':=
 ⟨hg.os,hg.tape,hg.output,hg.size,fun c hc h1 h2 h3 h4=>hg.block c hc (fun e=>by
  obtain rfl:c=b:=by simpa using e
  rcases h with rfl | rfl | ⟨i,hi,rfl⟩
  ·exact h2 rfl
  ·exact h3 rfl
  ·exact h4 i hi rfl)⟩
theorem Turn.fuel {X:DvP} {w w':World} (hg:w.grownBy w' (some X.Bd)):Turn X w w':=
 ⟨hg.os,hg.tape,hg.output,hg.size,fun c hc h1 _ _ _=>hg.block c hc (fun e=>h1 (by simpa using e))⟩
theorem Turn.below {X:DvP} {w w':World} (h:Turn X w w') {fu u N:Nat} {S:Dv} (hd:DvW X w fu u N S):Below X.s0 w w':=
 ⟨h.os,h.tape,h.output,h.size,fun b hb=>h.block b (Nat.lt_of_lt_of_le hb (Nat.le_trans hd.lo.1 (Nat.le_of_lt (World.block_lt_of_cell? w _ hd.c0)))) (by have:=hd.lo.1;omega) (by have:=hd.lo.2.1;omega) (by have:=hd.lo.2.2.1;omega) (fun i hi=>by have:=hd.lo.2.2.2 i hi;omega)⟩
end Go.Proofs.YtdidlcjhodejjaaGreat
namespace Go.Proofs.YtdidlcjhodejjaaGreat
open Go.RowKit Go.Deep Go.Joins Go.Maps
set_option linter.unusedVariables false
theorem SumR.del {w:World} {b n:Nat} {c:M→Int} (h:SumR w b n c) {m:M} (hm:m.ok=true) (ty:TypeId) :
  ∃ w',(Builtin.delete_ #[170,40] ty #[.map (some b),.agg #[.int .i64 m.x,.int .i64 m.y,.int .i64 m.d,.int .i64 m.e]]).run Tryz.prog w=.ok (.tuple #[]) w'∧SumR w' b n (fun x=>if meq x m=true then 0 else c x)∧w.grownBy w' (some b):=by
 obtain ⟨D,hown,hc,hat,hks⟩:=h
 obtain ⟨w',hrun,ho,ht⟩:=hown.drop lawM Tryz.underlying170 (keyOfM hm) ty
 refine ⟨w',hrun,⟨_,ho,fun x=>?_,fun x hx=>?_,fun kl hkl=>?_⟩,ht.grown⟩
 ·dsimp only
  split
  ·exact ⟨Int.le_refl _,by decide⟩
  ·exact hc x
 ·by_cases hxm:x=m
  ·subst hxm
   rw [atKey_del_same,has_del_same]
   simp [meq_iff.2 rfl]
  ·have hne:keyM x≠keyM m:=fun e=>hxm (keyM_inj hx hm e)
   have hb:¬ meq x m=true:=fun e=>hxm (meq_iff.1 e)
   rw [atKey_del_other hne,has_del_other hne]
   simp only [hb]
   exact hat x hx
 ·by_cases hkm:kl=keyM m
  ·exact ⟨m,hm,hkm⟩
  ·rw [has_del_other hkm] at hkl
   exact hks kl hkl
theorem SumR.len {w:World} {b n:Nat} {K:List T} (h:SumR w b n (coef K)) (hK:Falls K) (ty:TypeId):(Builtin.len_ #[170] ty #[.map (some b)]).run Tryz.prog w=.ok (.int .i64 (K.length:Int)) w:=by
 obtain ⟨D,hown,hc,hat,hks⟩:=h
 have h1:=hown.len Tryz.underlying170 ty
 rw [size_K hown hat hks hK (fun _ _=>rfl)] at h1
 exact h1
theorem add_one_coef {L:List T} (hL:Falls L) {t:T} (ht:t.m.ok=true∧1≤t.c∧t.c≤100):∀ x,updC (coef L) t.m t.c x=coef (addL L [t]) x:=fun x=>by
 rw [(addL_facts hL (fallsOne ht)).2 x]
 unfold updC
 by_cases e:x=t.m
 ·subst e
  rw [if_pos (meq_iff.2 rfl),coef_cons_same]
 ·have hb:=coef_range hL x
  rw [if_neg (fun e'=>e (meq_iff.1 e')),coef_cons_ne (fun e'=>e e'.symm)]
  show coef L x=(coef L x+0) % 101
  omega
theorem del_one_coef {L:List T} (hL:Falls L) {t:T} (ht:t∈L):∀ x,(if meq x t.m=true then 0 else coef L x)=coef (subL L [t]) x:=fun x=>by
 have ht':=hL.2 t ht
 rw [(subL_facts hL (fallsOne ht')).2 x]
 by_cases e:x=t.m
 ·subst e
  rw [if_pos (meq_iff.2 rfl),coef_cons_same,(mem_coefV hL ht).1]
  omega
 ·have hb:=coef_range hL x
  rw [if_neg (fun e'=>e (meq_iff.1 e')),coef_cons_ne (fun e'=>e e'.symm)]
  show coef L x=(coef L x+100 * 0 % 101) % 101
  omega
theorem DvW.s0 {X:DvP} {w:World} {fu u N:Nat} {S:Dv} (h:DvW X w fu u N S):X.s0≤w.heap.size:=Nat.le_trans h.lo.1 (Nat.le_of_lt (World.block_lt_of_cell? w _ h.c0))
set_option maxRecDepth 100000 in
set_option maxHeartbeats 4000000 in
theorem leaveI (X:DvP) (w:World) (fu u N:Nat) (S:Dv) (t:T) (h:DvW X w fu u N S) (hok:DvOk u S) (hu:u<300) (h0:S.p.length≠0) (ht:ldL X.o S.p=t) :
  Calls Tryz.prog 150 #[.pointer (some ⟨X.Bd,0,none⟩),.agg #[.int .i64 t.c,.int .i64 t.m.x,.int .i64 t.m.y,.int .i64 t.m.d,.int .i64 t.m.e]] w fun r w'=>r=.returned (.tuple #[])∧DvW X w' fu (u+1) N (dvLeave X.o S)∧Turn X w w':=by
 have hg:=ldL_good (o:=X.o) (okL_falls hok.p).2 h0
 have hmem:=ldL_mem (o:=X.o) h0
 rw [ht] at hg hmem
 have HE:Hid (dvLeave X.o S=⟨subL S.p [t],S.q,addL S.r [t]⟩):=by show dvLeave X.o S=_;unfold dvLeave;rw [ht]
 have hs0:=h.s0
 have HB:=Hid.mk' (Turn.of (X:=X) (bel_one w (.cells #[.int .i64 t.c,.int .i64 t.m.x,.int .i64 t.m.y,.int .i64 t.m.d,.int .i64 t.m.e] 42)))
 have HW:=Hid.mk' (h.below (bel_one w (.cells #[.int .i64 t.c,.int .i64 t.m.x,.int .i64 t.m.y,.int .i64 t.m.d,.int .i64 t.m.e] 42)))
 have HC:=Hid.mk' (C5.box w 42 t)
 have HRF:=Hid.mk' hok.r.1
 have HPF:=Hid.mk' (okL_falls hok.p).2
 have HM:=Hid.mk' hmem
 have HG:=Hid.mk' hg
 clear h hok ht hmem
 rw [HE.out]
 go_enter Tryz.func150,Tryz.ntmps150
 go_wp2_with fail
 generalize (w.alloc (.cells #[.int .i64 t.c,.int .i64 t.m.x,.int .i64 t.m.y,.int .i64 t.m.d,.int .i64 t.m.e] 42))=wq at HB HW HC ⊢
 have HWD:=Hid.mk' (HW.out.below (Below.refl _ wq).drew)
 have HADD:=Hid.mk' (sumAddR X.bl u (coef S.r) t.c t.m wq.drew hg.1 HWD.out.lf (by unfold maxLen;omega) (by omega) hg.2.2)
 have k5:=HW.out.c5
 obtain ⟨q0,q1,q2,q3,q4⟩:=HC.out
 have hcl:=HC.out.lt
 go_region_with (go_at_call 165;refine HADD.out.mono ?_;rintro r w4 ⟨rfl,hS4,hg4⟩;have HS4:=Hid.mk' hS4;have HG4:=Hid.mk' hg4;clear hS4 hg4)
 all_goals
  have HW4:=Hid.mk' (HWD.out.turnLeft (u':=u+1) (r:=addL S.r [t]) (Nat.le_succ _) HG4.out (HS4.out.congr (fun m _=>add_one_coef HRF.out HG.out m) (fun m=>coef_range (addL_facts HRF.out (fallsOne HG.out)).1 m)))
  have HB4:=Hid.mk' (HB.out.drew.trans (Turn.map HG4.out (.inr (.inl rfl))))
  have r0:=cell_grownMap HWD.out.lf (b':=w.heap.size) (o:=1) (v:=.int .i64 t.m.x) q1 HG4.out
  have r1:=cell_grownMap HWD.out.lf (b':=w.heap.size) (o:=2) (v:=.int .i64 t.m.y) q2 HG4.out
  have r2:=cell_grownMap HWD.out.lf (b':=w.heap.size) (o:=3) (v:=.int .i64 t.m.d) q3 HG4.out
  have r3:=cell_grownMap HWD.out.lf (b':=w.heap.size) (o:=4) (v:=.int .i64 t.m.e) q4 HG4.out
  have k3:=HW4.out.c3
  have HW5:=Hid.mk' (HW4.out.below (Below.refl _ w4).drew)
  obtain ⟨w6,hrun,hS6,hg6⟩:=HW5.out.rs.del HG.out.1 0
  have HS6:=Hid.mk' hS6
  have HG6:=Hid.mk' hg6
  clear hS6 hg6 q0 q1 q2 q3 q4 k5 HS4 HG4 HADD
  go_wp2_with fail
  go_region_with fail
  all_goals
   go_wp2
   go_end0
   refine ⟨rfl,?_,?_⟩
   ·exact HW5.out.turnRest (Nat.le_refl _) HG6.out (HS6.out.congr (fun m _=>del_one_coef HPF.out HM.out m) (fun m=>coef_range (subL_facts HPF.out (fallsOne HG.out)).1 m))
   ·exact HB4.out.drew.trans (Turn.map HG6.out (.inl rfl))
end Go.Proofs.YtdidlcjhodejjaaGreat
namespace Go.Proofs.YtdidlcjhodejjaaGreat
open Go.RowKit Go.Deep Go.Joins Go.Maps
set_option linter.unusedVariables false
abbrev C6 (A B C:Nat) (x y:Int) (m:M) (u:World):Prop:=u.cell? ⟨A,0,none⟩=some (.int .i64 x)∧u.cell? ⟨B,0,none⟩=some (.int .i64 y)∧u.cell? ⟨C,0,none⟩=some (.int .i64 m.x)∧u.cell? ⟨C,1,none⟩=some (.int .i64 m.y)∧u.cell? ⟨C,2,none⟩=some (.int .i64 m.d)∧u.cell? ⟨C,3,none⟩=some (.int .i64 m.e)
theorem C6.below {A B C:Nat} {x y:Int} {m:M} {u u':World} (h:C6 A B C x y m u) (hb:Below u.heap.size u u'):C6 A B C x y m u':=
 ⟨(hb.cell (p:=⟨A,0,none⟩) (World.block_lt_of_cell? u _ h.1)).trans h.1,(hb.cell (p:=⟨B,0,none⟩) (World.block_lt_of_cell? u _ h.2.1)).trans h.2.1,(hb.cell (p:=⟨C,0,none⟩) (World.block_lt_of_cell? u _ h.2.2.1)).trans h.2.2.1,(hb.cell (p:=⟨C,1,none⟩) (World.block_lt_of_cell? u _ h.2.2.2.1)).trans h.2.2.2.1,(hb.cell (p:=⟨C,2,none⟩) (World.block_lt_of_cell? u _ h.2.2.2.2.1)).trans h.2.2.2.2.1,(hb.cell (p:=⟨C,3,none⟩) (World.block_lt_of_cell? u _ h.2.2.2.2.2)).trans h.2.2.2.2.2⟩
abbrev D3 (A B o:Nat) (v1 v2 v3:Value) (u:World):Prop:=u.cell? ⟨A,3,none⟩=some v1∧u.cell? ⟨A,1,none⟩=some v2∧u.cell? ⟨B,o,none⟩=some v3
theorem D3.below {A B o:Nat} {v1 v2 v3:Value} {u u':World} (h:D3 A B o v1 v2 v3 u) (hb:Below u.heap.size u u'):D3 A B o v1 v2 v3 u':=
 ⟨(hb.cell (p:=⟨A,3,none⟩) (World.block_lt_of_cell? u _ h.1)).trans h.1,(hb.cell (p:=⟨A,1,none⟩) (World.block_lt_of_cell? u _ h.2.1)).trans h.2.1,(hb.cell (p:=⟨B,o,none⟩) (World.block_lt_of_cell? u _ h.2.2)).trans h.2.2⟩
theorem D3.turn {A B o:Nat} {v1 v2 v3:Value} {u u':World} {b n:Nat} {c:M→Int} (h:D3 A B o v1 v2 v3 u) (hs:SumR u b n c) (hg:u.grownBy u' (some b)):D3 A B o v1 v2 v3 u':=
 ⟨cell_grownMap hs h.1 hg,cell_grownMap hs h.2.1 hg,cell_grownMap hs h.2.2 hg⟩
theorem over_div {t l:T} (ht:t.m.ok=true∧1≤t.c∧t.c≤100) (hl:l.m.ok=true∧1≤l.c∧l.c≤100):overT t l=⟨fDiv t.c l.c,(M.over t.m l.m).1⟩:=by
 unfold overT
 rw [fDiv_in (by omega) ht.2.2 (by omega) hl.2.2,fInv_in (by omega) hl.2.2]
theorem take_coef {p Y:List T} (hp:Falls p) (hY:Falls Y) (m:M):timesC 100 (lf Y) (coef p) Y.length m=coef (subL p Y) m:=by
 rw [timesC_is (fl_lf hY) (fun m=>coef_range hp m) _ (Nat.le_refl _),(subL_facts hp hY).2 m,fromC_lf]
set_option maxRecDepth 100000 in
set_option maxHeartbeats 8000000 in
theorem takeI (X:DvP) (w:World) (fu u N:Nat) (hN:N≤400+400 * u) (S:Dv) (t:T) (k:Nat) (h:DvW X w fu u N S) (hok:DvOk u S) (hu:u<300) (hl:lstOk X.n X.ln X.f=true) (h0:S.p.length≠0) (ht:ldL X.o S.p=t) (hkn:k<X.n) (hdv:M.dvd (ldAt X.o X.ln X.f k).m t.m=true) :
  Calls Tryz.prog 149 #[.pointer (some ⟨X.Bd,0,none⟩),.int .i64 (k:Int),.agg #[.int .i64 t.c,.int .i64 t.m.x,.int .i64 t.m.y,.int .i64 t.m.d,.int .i64 t.m.e]] w fun r w'=>Turn X w w'∧((∃ S',dvTake X.o X.ln X.f S k=some S'∧r=.returned (.tuple #[])∧DvW X w' fu (u+1) (N+400) S')∨(dvTake X.o X.ln X.f S k=none∧r=.panicked [{ v:=tooMuch,recovered:=false }])):=by
 have hg:=ldL_good (o:=X.o) (okL_falls hok.p).2 h0
 rw [ht] at hg
 have hlg:=ldAt_good (o:=X.o) hl hkn
 obtain ⟨l,hle⟩:∃ l,ldAt X.o X.ln X.f k=l:=⟨_,rfl⟩
 rw [hle] at hlg hdv
 obtain ⟨q,hqe⟩:∃ q,overT t l=q:=⟨_,rfl⟩
 have hqd:=over_div hg hlg
 rw [hqe] at hqd
 have hqg:=overT_good hg hlg hdv
 rw [hqe] at hqg
 have HD:Hid (dvT X.o X.ln X.f S k=q):=by show dvT X.o X.ln X.f S k=q;unfold dvT;rw [ht,hle,hqe]
 have hn12:X.n≤12:=(lstOk_all hl).1
 have hpk:=((lstOk_all hl).2 k hkn).2
 have hs0:=h.s0
 have hkc:(k:Int)<(X.n:Int):=by omega
 -- the blocks that are read
 obtain ⟨b1,off1,ea,hb1,hc1⟩:=h.ls.2.2.1.resolve_left (by omega)
 obtain ⟨bt,offt,et,hct⟩:=h.tk.2.resolve_left (by omega)
 obtain ⟨bl1,offl,el,hbl,hcl⟩:=h.ld.2.2.resolve_left (by omega)
 have k2:=h.c2
 have hbd:X.Bd<w.heap.size:=World.block_lt_of_cell? w _ k2
 rw [el] at k2
 have hov:M.over ⟨t.m.x,t.m.y,t.m.d,t.m.e⟩ ⟨l.m.x,l.m.y,l.m.d,l.m.e⟩=(q.m,true):=by
  rw [hqd]
  show M.over t.m l.m=((M.over t.m l.m).1,true)
  rw [M.over,if_pos hdv]
 have hqc:fDiv t.c l.c=q.c:=by rw [hqd]
 have hpo:∀ W:World,Calls Tryz.prog 139 #[.int .i64 q.c,.agg #[.int .i64 q.m.x,.int .i64 q.m.y,.int .i64 q.m.d,.int .i64 q.m.e]] W fun r w'=>∃ a c,r=.returned (.slice a 1 c)∧Below W.heap.size W w'∧Out W.heap.size w' a c [q]:=fun W=>by
  refine (polOfI q.c q.m.x q.m.y q.m.d q.m.e W).mono ?_
  have e1:polOf q.c ⟨q.m.x,q.m.y,q.m.d,q.m.e⟩=[q]:=by
   unfold polOf
   rw [if_pos ⟨hqg.2,hqg.1⟩]
  rw [e1]
  rintro r w' ⟨v,rfl,hb,ho⟩
  obtain ⟨a,c,rfl,hout⟩:=out_of_owns ho (by simp)
  exact ⟨a,c,rfl,hb,hout⟩
 have HPO:=Hid.mk' hpo
 have HQC:=Hid.mk' hqc
 clear hqc
 have hlcell:Cells w bl1 (offl+k * 5) l:=by
  have:=hcl k hkn
  rw [ldsL_at X.o X.ln X.f X.n k hkn,hle] at this
  exact this
 obtain ⟨x0,x1,x2,x3,x4⟩:=hlcell
 have HH:=Hid.mk' h
 have HOK:=Hid.mk' hok
 have HGQ:=Hid.mk' hqg
 have HPK:=Hid.mk' hpk
 have HCT:=Hid.mk' hct
 have HC1:=Hid.mk' hc1
 have HBA:=Hid.mk' (bel_two w (.cells #[.int .i64 t.c,.int .i64 t.m.x,.int .i64 t.m.y,.int .i64 t.m.d,.int .i64 t.m.e] 42) (.cells #[.int .i64 l.c,.int .i64 l.m.x,.int .i64 l.m.y,.int .i64 l.m.d,.int .i64 l.m.e] 42))
 have HCT5:=Hid.mk' ((C5.box w 42 t).below (bel_one _ (.cells #[.int .i64 l.c,.int .i64 l.m.x,.int .i64 l.m.y,.int .i64 l.m.d,.int .i64 l.m.e] 42)))
 have HCL5:=Hid.mk' (C5.box (w.alloc (.cells #[.int .i64 t.c,.int .i64 t.m.x,.int .i64 t.m.y,.int .i64 t.m.d,.int .i64 t.m.e] 42)) 42 l)
 simp only [World.size_alloc] at HCL5
 clear h hok hqg hpk hct hc1 hcl hqd hpo hqe hle hlg hdv
 go_enter Tryz.func149,Tryz.ntmps149
 go_wp2_with fail
 refine (monOverI_of hov _).mono ?_
 rintro r w1 ⟨rfl,hb1'⟩
 have HB1:=Hid.mk' (bel_next HBA.out hb1')
 have HT1:=Hid.mk' (HCT5.out.below hb1')
 have HL1:=Hid.mk' (HCL5.out.below hb1')
 clear hb1' HBA HCT5 HCL5 x0 x1 x2 x3 x4 k2 hov
 go_wp2_with fail
 have HB2:=Hid.mk' (HB1.out.alloc HB1.out.size (.cells #[.int .i64 q.m.x,.int .i64 q.m.y,.int .i64 q.m.d,.int .i64 q.m.e] 40))
 have HT2:=Hid.mk' (HT1.out.below (bel_one w1 (.cells #[.int .i64 q.m.x,.int .i64 q.m.y,.int .i64 q.m.d,.int .i64 q.m.e] 40)))
 have HL2:=Hid.mk' (HL1.out.below (bel_one w1 (.cells #[.int .i64 q.m.x,.int .i64 q.m.y,.int .i64 q.m.d,.int .i64 q.m.e] 40)))
 have HO2:=Hid.mk' (M4.box w1 40 q.m.x q.m.y q.m.d q.m.e)
 clear HB1 HT1 HL1
 generalize (w1.alloc (.cells #[.int .i64 q.m.x,.int .i64 q.m.y,.int .i64 q.m.d,.int .i64 q.m.e] 40))=w2 at HB2 HT2 HL2 HO2 ⊢
 have y0:=HT2.out.1
 have z0:=HL2.out.1
 obtain ⟨o0,o1,o2,o3⟩:=HO2.out
 have hS3:C6 w.heap.size (w.heap.size+1) w1.heap.size t.c l.c q.m w2.drew:=⟨y0,z0,o0,o1,o2,o3⟩
 clear y0 z0 o0 o1 o2 o3
 go_region_held3 (fun u=>u.cell? ⟨w.heap.size,0,none⟩=some (.int .i64 t.c)∧u.cell? ⟨w.heap.size+1,0,none⟩=some (.int .i64 l.c)∧u.cell? ⟨w1.heap.size,0,none⟩=some (.int .i64 q.m.x)∧u.cell? ⟨w1.heap.size,1,none⟩=some (.int .i64 q.m.y)∧u.cell? ⟨w1.heap.size,2,none⟩=some (.int .i64 q.m.d)∧u.cell? ⟨w1.heap.size,3,none⟩=some (.int .i64 q.m.e)) (first | with_reducible exact hS3 | with_reducible exact C6.below hS3 bb3) (first | (go_at_call 167;refine (divI _ _ _).mono ?_;rw [HQC.out];rintro r wd ⟨rfl,hwd⟩;obtain rfl:=hwd.symm;clear hwd) | (go_at_call 139;refine (HPO.out _).mono ?_;rintro r w3 ⟨qa,qc,rfl,bb3,oo3⟩))
 have HB3:=Hid.mk' (bel_next HB2.out.drew bb3)
 have HW3:=Hid.mk' (HH.out.below HB3.out)
 have HQ3:=Hid.mk' oo3.1
 have k4:=HW3.out.c4
 rw [et] at k4
 have kt:w3.cell? ⟨bt,offt+k,none⟩=some (.map (some (X.bk k))):=(HB3.out.cell (p:=⟨bt,offt+k,none⟩) (World.block_lt_of_cell? w _ (HCT.out k hkn))).trans (HCT.out k hkn)
 clear hS3 bb3 oo3 HB2 HT2 HL2 HO2 HPO
 have fq:=fallsOne HGQ.out
 have hq1:∀ i,i<1→(lf [q] i).m.ok=true∧0≤(lf [q] i).c∧(lf [q] i).c≤100:=fun i hi=>by
  obtain rfl:i=0:=by omega
  have:=HGQ.out.2
  exact ⟨HGQ.out.1,by show 0≤q.c;omega,this.2⟩
 have HADD:=Hid.mk' (sumTimes w3 (X.bk k) u (coef (S.q k)) 1 qa 1 qc (lf [q]) (HW3.out.tq k hkn) HQ3.out ((HW3.out.tq k hkn).ne_rd HQ3.out) (fun i hi=>(hq1 i hi).1) (fun i hi=>(hq1 i hi).2) (by omega) (by omega) (by omega) (HW3.out.tq k hkn).lt)
 clear hq1
 go_wp2_with fail
 refine HADD.out.mono ?_
 rintro r w4 ⟨rfl,hS4,hg4⟩
 have hco:∀ m,timesC 1 (lf [q]) (coef (S.q k)) 1 m=coef (addL (S.q k) [q]) m:=fun m=>by
  rw [timesC_is (n:=1) (fl_lf fq) (fun m=>coef_range (HOK.out.q k).1 m) 1 (Nat.le_refl _),(addL_facts (HOK.out.q k).1 fq).2 m,show fromC (lf [q]) 1 0 m=coef [q] m from fromC_lf m [q]]
  have hb:=coef_range fq m
  rw [show (1:Int) * coef [q] m % 101=coef [q] m by omega]
 have HW4:=Hid.mk' (HW3.out.turnTaken (u':=u+1) (Nat.le_succ _) hkn hg4 (hS4.congr (fun m _=>hco m) (fun m=>coef_range (addL_facts (HOK.out.q k).1 fq).1 m)))
 have HQ4:=Hid.mk' (HQ3.out.grownMap (HW3.out.tq k hkn) hg4)
 have HB4:=Hid.mk' ((Turn.of (X:=X) HB3.out).trans (Turn.map hg4 (.inr (.inr ⟨k,hkn,rfl⟩))))
 clear hS4 hg4 hco HADD HQ3 HW3 HB3 k4 kt fq
 have HZW:=Hid.mk' (HW4.out.below (Below.refl _ w4).drew)
 have HBZ:=Hid.mk' HB4.out.drew
 have hmul:=wylMulI w4.drew qa (X.ad k) 1 qc (X.ln k) (X.cp k) (lf [q]) (X.f k) (HQ4.out.below (Below.refl _ w4).drew) (HZW.out.ls.2.2.2 k hkn)
 have k3:w4.cell? ⟨X.Bd,3,none⟩=some (.map (some X.br)):=HW4.out.c3
 have k1:w4.cell? ⟨X.Bd,1,none⟩=some (.slice (some ⟨b1,off1,none⟩) X.n X.cap):=by rw [← ea];exact HW4.out.c1
 have kc:w4.cell? ⟨b1,off1+k,none⟩=some (.slice (X.ad k) (X.ln k) (X.cp k)):=by
  rcases HW4.out.ls.2.2.1 with hz | ⟨b',off',e',_,hc'⟩
  ·omega
  ·rw [ea] at e'
   cases e'
   exact hc' k hkn
 have HLO:Hid (X.s0≤w4.drew.heap.size):=HZW.out.s0
 have hop:polOk 1 (lf [q])=true:=one_ok HGQ.out
 have ewm:wylMul (lf [q]) 1 (X.f k) (X.ln k)=mulO (mulM (lf [q]) (X.f k) (X.ln k) 1):=if_pos ⟨hop,HPK.out⟩
 rw [ewm] at hmul
 clear hop ewm
 cases hY:mulM (lf [q]) (X.f k) (X.ln k) 1 with
 | none=>
  have HN:Hid (dvTake X.o X.ln X.f S k=none):=by
   show dvTake X.o X.ln X.f S k=none
   unfold dvTake
   rw [HD.out,hY]
  rw [hY] at hmul
  simp only [mulO] at hmul
  have HMUL:=Hid.mk' hmul
  clear hmul hY
  go_wp2_with fail
  refine wp_region_any (by kernel_rfl) ?_
  (try (change wpAny _ _ _ _ _ _ _ (World.drew _)))
  refine wpAny_take (i:=0) (v:=?_) rfl (by kernel_rfl) (by kernel_rfl) (by kernel_rfl) (fun _ _ _ h=>h) (Or.inl ⟨by rfl,?_⟩) ?_
  rotate_left
  ·(intro w9;go_simp) <;> with_reducible rfl
  refine wpAny_take (i:=1) (v:=?_) rfl (by kernel_rfl) (by kernel_rfl) (by kernel_rfl) (fun _ _ _ h=>h) (Or.inl ⟨by rfl,?_⟩) ?_
  rotate_left
  ·(intro w9;go_simp) <;> with_reducible rfl
  refine wpAny_take (i:=2) (v:=?_) rfl (by kernel_rfl) (by kernel_rfl) (by kernel_rfl) (fun _ _ _ h=>h) (Or.inl ⟨by rfl,?_⟩) ?_
  rotate_left
  ·(intro w9;go_simp) <;> with_reducible rfl
  refine wpAny_take (i:=4) (v:=?_) rfl (by kernel_rfl) (by kernel_rfl) (by kernel_rfl) (fun _ _ _ h=>h) (Or.inl ⟨by rfl,?_⟩) ?_
  rotate_left
  ·(intro w9;go_simp) <;> with_reducible rfl
  refine wpAny_take (i:=5) (v:=?_) rfl (by kernel_rfl) (by kernel_rfl) (by kernel_rfl) (fun _ _ _ h=>h) (Or.inl ⟨by rfl,?_⟩) ?_
  rotate_left
  ·(intro w9;go_simp) <;> with_reducible rfl
  refine wpAny_take (i:=6) (v:=?_) rfl (by kernel_rfl) (by kernel_rfl) (by kernel_rfl) (fun _ _ _ h=>h) (Or.inl ⟨by rfl,?_⟩) ?_
  rotate_left
  ·(intro w9;go_simp) <;> with_reducible rfl
  refine wpAny_take (i:=7) (v:=?_) rfl (by kernel_rfl) (by kernel_rfl) (by kernel_rfl) (fun _ _ _ h=>h) (Or.inl ⟨by rfl,?_⟩) ?_
  rotate_left
  ·(intro w9;go_simp) <;> with_reducible rfl
  refine wpAny_take (i:=9) (v:=?_) rfl (by kernel_rfl) (by kernel_rfl) (by kernel_rfl) (fun _ _ _ h=>h) (Or.inl ⟨by rfl,?_⟩) ?_
  rotate_left
  ·(intro w9;go_simp) <;> with_reducible rfl
  refine wpAny_ready (rs:=[3,8]) (by kernel_rfl) (by simp) ?_
  refine AllReady.cons rfl (fun KK hKK=>?_) ?_
  ·go_simp
   (try (refine hKK _ _ ?_;clear hKK KK))
   refine wpAny_ready (rs:=[8]) (by kernel_rfl) (by simp) ?_
   refine AllReady.cons rfl (fun KK hKK=>?_) ?_
   ·go_simp
    (try (refine hKK _ _ ?_;clear hKK KK))
    refine wpAny_take (i:=10) (v:=?_) rfl (by kernel_rfl) (by kernel_rfl) (by kernel_rfl) (fun _ _ _ h=>h) (Or.inl ⟨by rfl,?_⟩) ?_
    rotate_left
    ·(intro w9;go_simp) <;> with_reducible rfl
    refine wpAny_ready (rs:=[11]) (by kernel_rfl) (by simp) ?_
    refine AllReady.cons rfl (fun KK hKK=>?_) ?_
    ·go_simp
     (try (refine hKK _ _ ?_;clear hKK KK))
     refine wpAny_ready (rs:=[12]) (by kernel_rfl) (by simp) ?_
     refine AllReady.cons rfl (fun KK hKK=>?_) ?_
     ·go_simp
      go_wp2_with (go_at_call 154;refine HMUL.out.mono ?_;rintro e w1 ⟨p1a,p1c,rfl,bb1,oo1⟩;have hs1:=(HZW.out.below bb1).c3)
      (try (refine hKK _ _ ?_;clear hKK KK))
      refine wpAny_take (i:=13) (v:=?_) rfl (by kernel_rfl) (by kernel_rfl) (by kernel_rfl) (fun _ _ _ h=>h) (Or.inl ⟨by rfl,?_⟩) ?_
      rotate_left
      ·(intro w9;go_simp) <;> with_reducible rfl
      refine wpAny_take (i:=14) (v:=?_) rfl (by kernel_rfl) (by kernel_rfl) (by kernel_rfl) (fun _ _ _ h=>h) (Or.inl ⟨by rfl,?_⟩) ?_
      rotate_left
      ·(intro w9;go_simp) <;> with_reducible rfl
      refine wpAny_ready (rs:=[15]) (by kernel_rfl) (by simp) ?_
      refine AllReady.cons rfl (fun KK hKK=>?_) ?_
      ·go_simp
       go_wp2_with (go_at_call 124;refine (redNeed_no _ _).mono ?_;rintro e wn ⟨rfl,hwn⟩;obtain rfl:=hwn.symm;clear hwn)
       exact ⟨rfl,HBZ.out.trans (Turn.of bb1),.inr ⟨HN.out,rfl⟩⟩
      exact AllReady.nil
     exact AllReady.nil
    exact AllReady.nil
   exact AllReady.nil
  refine AllReady.cons rfl (fun KK hKK=>?_) ?_
  ·go_simp
   (try (refine hKK _ _ ?_;clear hKK KK))
   refine wpAny_take (i:=10) (v:=?_) rfl (by kernel_rfl) (by kernel_rfl) (by kernel_rfl) (fun _ _ _ h=>h) (Or.inl ⟨by rfl,?_⟩) ?_
   rotate_left
   ·(intro w9;go_simp) <;> with_reducible rfl
   refine wpAny_ready (rs:=[3,11]) (by kernel_rfl) (by simp) ?_
   refine AllReady.cons rfl (fun KK hKK=>?_) ?_
   ·go_simp
    (try (refine hKK _ _ ?_;clear hKK KK))
    refine wpAny_ready (rs:=[11]) (by kernel_rfl) (by simp) ?_
    refine AllReady.cons rfl (fun KK hKK=>?_) ?_
    ·go_simp
     (try (refine hKK _ _ ?_;clear hKK KK))
     refine wpAny_ready (rs:=[12]) (by kernel_rfl) (by simp) ?_
     refine AllReady.cons rfl (fun KK hKK=>?_) ?_
     ·go_simp
      go_wp2_with (go_at_call 154;refine HMUL.out.mono ?_;rintro e w1 ⟨p1a,p1c,rfl,bb1,oo1⟩;have hs1:=(HZW.out.below bb1).c3)
      (try (refine hKK _ _ ?_;clear hKK KK))
      refine wpAny_take (i:=13) (v:=?_) rfl (by kernel_rfl) (by kernel_rfl) (by kernel_rfl) (fun _ _ _ h=>h) (Or.inl ⟨by rfl,?_⟩) ?_
      rotate_left
      ·(intro w9;go_simp) <;> with_reducible rfl
      refine wpAny_take (i:=14) (v:=?_) rfl (by kernel_rfl) (by kernel_rfl) (by kernel_rfl) (fun _ _ _ h=>h) (Or.inl ⟨by rfl,?_⟩) ?_
      rotate_left
      ·(intro w9;go_simp) <;> with_reducible rfl
      refine wpAny_ready (rs:=[15]) (by kernel_rfl) (by simp) ?_
      refine AllReady.cons rfl (fun KK hKK=>?_) ?_
      ·go_simp
       go_wp2_with (go_at_call 124;refine (redNeed_no _ _).mono ?_;rintro e wn ⟨rfl,hwn⟩;obtain rfl:=hwn.symm;clear hwn)
       exact ⟨rfl,HBZ.out.trans (Turn.of bb1),.inr ⟨HN.out,rfl⟩⟩
      exact AllReady.nil
     exact AllReady.nil
    exact AllReady.nil
   refine AllReady.cons rfl (fun KK hKK=>?_) ?_
   ·go_simp
    (try (refine hKK _ _ ?_;clear hKK KK))
    refine wpAny_ready (rs:=[3,12]) (by kernel_rfl) (by simp) ?_
    refine AllReady.cons rfl (fun KK hKK=>?_) ?_
    ·go_simp
     (try (refine hKK _ _ ?_;clear hKK KK))
     refine wpAny_ready (rs:=[12]) (by kernel_rfl) (by simp) ?_
     refine AllReady.cons rfl (fun KK hKK=>?_) ?_
     ·go_simp
      go_wp2_with (go_at_call 154;refine HMUL.out.mono ?_;rintro e w1 ⟨p1a,p1c,rfl,bb1,oo1⟩;have hs1:=(HZW.out.below bb1).c3)
      (try (refine hKK _ _ ?_;clear hKK KK))
      refine wpAny_take (i:=13) (v:=?_) rfl (by kernel_rfl) (by kernel_rfl) (by kernel_rfl) (fun _ _ _ h=>h) (Or.inl ⟨by rfl,?_⟩) ?_
      rotate_left
      ·(intro w9;go_simp) <;> with_reducible rfl
      refine wpAny_take (i:=14) (v:=?_) rfl (by kernel_rfl) (by kernel_rfl) (by kernel_rfl) (fun _ _ _ h=>h) (Or.inl ⟨by rfl,?_⟩) ?_
      rotate_left
      ·(intro w9;go_simp) <;> with_reducible rfl
      refine wpAny_ready (rs:=[15]) (by kernel_rfl) (by simp) ?_
      refine AllReady.cons rfl (fun KK hKK=>?_) ?_
      ·go_simp
       go_wp2_with (go_at_call 124;refine (redNeed_no _ _).mono ?_;rintro e wn ⟨rfl,hwn⟩;obtain rfl:=hwn.symm;clear hwn)
       exact ⟨rfl,HBZ.out.trans (Turn.of bb1),.inr ⟨HN.out,rfl⟩⟩
      exact AllReady.nil
     exact AllReady.nil
    refine AllReady.cons rfl (fun KK hKK=>?_) ?_
    ·go_simp
     go_wp2_with (go_at_call 154;refine HMUL.out.mono ?_;rintro e w1 ⟨p1a,p1c,rfl,bb1,oo1⟩;have hs1:=(HZW.out.below bb1).c3)
     (try (refine hKK _ _ ?_;clear hKK KK))
     refine wpAny_take (i:=13) (v:=?_) rfl (by kernel_rfl) (by kernel_rfl) (by kernel_rfl) (fun _ _ _ h=>h) (Or.inl ⟨by rfl,?_⟩) ?_
     rotate_left
     ·(intro w9;go_simp) <;> with_reducible rfl
     refine wpAny_take (i:=14) (v:=?_) rfl (by kernel_rfl) (by kernel_rfl) (by kernel_rfl) (fun _ _ _ h=>h) (Or.inl ⟨by rfl,?_⟩) ?_
     rotate_left
     ·(intro w9;go_simp) <;> with_reducible rfl
     refine wpAny_ready (rs:=[3,15]) (by kernel_rfl) (by simp) ?_
     refine AllReady.cons rfl (fun KK hKK=>?_) ?_
     ·go_simp
      (try (refine hKK _ _ ?_;clear hKK KK))
      refine wpAny_ready (rs:=[15]) (by kernel_rfl) (by simp) ?_
      refine AllReady.cons rfl (fun KK hKK=>?_) ?_
      ·go_simp
       go_wp2_with (go_at_call 124;refine (redNeed_no _ _).mono ?_;rintro e wn ⟨rfl,hwn⟩;obtain rfl:=hwn.symm;clear hwn)
       exact ⟨rfl,HBZ.out.trans (Turn.of bb1),.inr ⟨HN.out,rfl⟩⟩
      exact AllReady.nil
     refine AllReady.cons rfl (fun KK hKK=>?_) ?_
     ·go_simp
      go_wp2_with (go_at_call 124;refine (redNeed_no _ _).mono ?_;rintro e wn ⟨rfl,hwn⟩;obtain rfl:=hwn.symm;clear hwn)
      exact ⟨rfl,HBZ.out.trans (Turn.of bb1),.inr ⟨HN.out,rfl⟩⟩
     exact AllReady.nil
    exact AllReady.nil
   exact AllReady.nil
  exact AllReady.nil
 | some Y=>
  have kY:=mul1_falls HGQ.out HPK.out hY
  obtain ⟨lY,fY⟩:=okL_falls kY
  rw [hY] at hmul
  simp only [mulO] at hmul
  have HMUL:=Hid.mk' hmul
  have fp:=(okL_falls HOK.out.p).2
  have hadd:∀ (W:World) (ya:Option Addr) (yc:Nat),DvW X W fu (u+1) N ⟨S.p,updQ S.q k (addL (S.q k) [q]),S.r⟩→Out w4.drew.heap.size W ya yc Y→Calls Tryz.prog 147 #[.map (some X.br),.int .i64 100,.slice ya Y.length yc] W fun e w'=>e=.returned (.tuple #[])∧SumR w' X.br (N+Y.length) (coef (subL S.p Y))∧W.grownBy w' (some X.br):=fun W ya yc hWW hO=>by
   refine (sumTimes W X.br N (coef S.p) 100 ya Y.length yc (lf Y) hWW.rs hO.1 (hWW.rs.ne_rd hO.1) (fun i hi=>(fY.2 _ (lf_mem hi)).1) (fun i hi=>by have:=fY.2 _ (lf_mem hi);omega) (by omega) (by omega) (by omega) hWW.rs.lt).mono ?_
   rintro e w' ⟨rfl,hs,hgg⟩
   exact ⟨rfl,hs.congr (fun m _=>take_coef fp fY m) (fun m=>coef_range (subL_facts fp fY).1 m),hgg⟩
  have HADD:=Hid.mk' hadd
  have HDV:Hid (dvTake X.o X.ln X.f S k=if (subL S.p Y).length≤400 then some ⟨subL S.p Y,updQ S.q k (addL (S.q k) [q]),S.r⟩ else none):=by
   show dvTake X.o X.ln X.f S k=_
   unfold dvTake
   rw [HD.out,hY]
  have HFS:=Hid.mk' (subL_facts fp fY).1
  have hsl:=subL_len S.p Y
  clear hmul hY hadd kY
  go_wp2_with fail
  have hS5:D3 X.Bd b1 (off1+k) (.map (some X.br)) (.slice (some ⟨b1,off1,none⟩) X.n X.cap) (.slice (X.ad k) (X.ln k) (X.cp k)) w4.drew:=⟨k3,k1,kc⟩
  clear k3 k1 kc
  go_region_held3 (fun u=>u.cell? ⟨X.Bd,3,none⟩=some (.map (some X.br))∧u.cell? ⟨X.Bd,1,none⟩=some (.slice (some ⟨b1,off1,none⟩) X.n X.cap)∧u.cell? ⟨b1,off1+k,none⟩=some (.slice (X.ad k) (X.ln k) (X.cp k))) (first | with_reducible exact hS5 | with_reducible exact D3.below hS5 bb5 | with_reducible exact D3.turn (D3.below hS5 bb5) (HZW.out.below bb5).rs hg6) (first
    | (go_at_call 154;refine HMUL.out.mono ?_;rintro e w5 ⟨ya,yc,rfl,bb5,oo5⟩)
    | (go_at_call 124;refine (redNeed_yes _ _).mono ?_;rintro e wn ⟨rfl,hwn⟩;obtain rfl:=hwn.symm;clear hwn)
    | (go_at_call 147;refine (HADD.out w5 ya yc (HZW.out.below bb5) oo5).mono ?_;rintro e w6 ⟨rfl,hS6,hg6⟩))
  have HW5:=Hid.mk' (HZW.out.below bb5)
  have HW6:=Hid.mk' (HW5.out.turnRest (N':=N+400) (p:=subL S.p Y) (Nat.le_refl _) hg6 (hS6.more (by omega)))
  have HB6:=Hid.mk' ((HBZ.out.trans (Turn.of bb5)).trans (Turn.map hg6 (.inl rfl)))
  have hlen:=hS6.len HFS.out 3
  have k6:=HW6.out.c3
  clear bb5 oo5 hS6 hg6 hS5
  by_cases hle:(subL S.p Y).length≤400
  ·have hgt:¬ (400:Int)<((subL S.p Y).length:Int):=by omega
   have HDS:=Hid.mk' (HDV.out.trans (if_pos hle))
   go_wp2
   go_end0
   exact ⟨HB6.out,.inl ⟨_,HDS.out,rfl,HW6.out⟩⟩
  ·have hgt:(400:Int)<((subL S.p Y).length:Int):=by omega
   have HDS:=Hid.mk' (HDV.out.trans (if_neg hle))
   go_wp2
   exact ⟨rfl,HB6.out,.inr ⟨HDS.out,rfl⟩⟩
end Go.Proofs.YtdidlcjhodejjaaGreat
