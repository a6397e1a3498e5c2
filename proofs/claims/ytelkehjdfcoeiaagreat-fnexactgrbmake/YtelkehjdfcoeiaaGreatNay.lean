/-
  A division on its way in the world: its struct, its maps; what stays true where other memory turns.
-/
import Derived.Test.YtelkehjdfcoeiaaGreatNax
set_option maxHeartbeats 4000000
set_option maxRecDepth 100000
namespace Go.Proofs.YtelkehjdfcoeiaaGreat
open Go.RowKit Go.Deep Go.Joins Go.Maps
set_option linter.unusedVariables false
theorem aV.more {w:World} {b n n':Nat} {c:M→Int} (h:aV w b n c) (hn:n≤n'):aV w b n' c:=by obtain⟨D,ho,h2⟩:=h;exact⟨D,rO ho hn,h2⟩
theorem aV.congr {w:World} {b n:Nat} {c c':M→Int} (h:aV w b n c) (he:∀m,m.ok=true→c m=c' m) (hb:∀m,0≤c' m∧c' m≤100):aV w b n c':=by obtain⟨D,ho,h1,h2,h3⟩:=h;exact⟨D,ho,hb,fun m hm=>by rw[←he m hm];exact h2 m hm,h3⟩
theorem aV.below {w w':World} {b n:Nat} {c:M→Int} (h:aV w b n c) (hb:Below w.heap.size w w'):aV w' b n c:=h.grown (cC hb none) (by simp)
theorem aV.ne_cell {w:World} {b n:Nat} {c:M→Int} (h:aV w b n c) {b' o:Nat} {v:Value} (hc:w.cell? ⟨b',o,none⟩=some v):b'≠b:=by rintro rfl;obtain⟨D,⟨es,clock,h1,_⟩,_⟩:=h;unfold World.cell? at hc;simp[h1]at hc
theorem aV.ne_rd {w:World} {b n:Nat} {c:M→Int} (h:aV w b n c) {a:Option Addr} {k cap:Nat} {f:Nat→T} (hr:Rd w a k cap f):k=0∨∀b' off,a=some ⟨b',off,none⟩→some b'≠some b:=by
 by_cases hk:k=0
 ·exact .inl hk
 ·refine .inr fun b' off e e'=>?_;rcases hr.2.2 with h0|⟨b1,off1,e1,_,hc⟩
  ·exact hk h0
  ·have hne:=h.ne_cell (hc 0 (by omega)).1;rw[e]at e1;have e2:b'=b1:=by simpa using congrArg (fun x:Option Addr=>x.map (·.block)) e1
   have e3:b'=b:=by simpa using e'
   exact hne (e2.symm.trans e3)
theorem Rd.grownMap {w w':World} {b n:Nat} {c:M→Int} (h:aV w b n c) {a:Option Addr} {k cap:Nat} {f:Nat→T} (hr:Rd w a k cap f) (hg:w.grownBy w' (some b)):Rd w' a k cap f:=hr.grown hg (h.ne_rd hr)
theorem aQ {w w':World} {b n:Nat} {c:M→Int} (h:aV w b n c) {b' o:Nat} {v:Value} (hc:w.cell? ⟨b',o,none⟩=some v) (hg:w.grownBy w' (some b)):w'.cell? ⟨b',o,none⟩=some v:=
 (nC (a:=⟨b',o,none⟩) (hg.block b' (cQ w _ hc) (fun e=>h.ne_cell hc (by simpa using e)))).trans hc
theorem uC {w w':World} {b n:Nat} {c:M→Int} (h:aV w b n c) {b' o:Nat} {v:Value} (hc:w.cell? ⟨b',o,none⟩=some v) {z:Bool} (hz:w.frozen? ⟨b',o,none⟩=z) (hg:w.grownBy w' (some b)):w'.frozen? ⟨b',o,none⟩=z:=
 (World.frozen?_of_block (a:=⟨b',o,none⟩) (hg.block b' (cQ w _ hc) (fun e=>h.ne_cell hc (by simpa using e)))).trans hz
theorem eH.grownMap {w w':World} {b N:Nat} {c:M→Int} (h:aV w b N c) {a:Option Addr} {n cap:Nat} {ad:Nat→Option Addr} {ln cp:Nat→Nat} {f:Nat→Nat→T} (hr:eH w a n cap ad ln cp f) (hg:w.grownBy w' (some b)):eH w' a n cap ad ln cp f:=by
 refine⟨hr.1,hr.2.1,?_,fun i hi=>(hr.2.2.2 i hi).grownMap h hg⟩;rcases hr.2.2.1 with h0|⟨b',off,e,hlt,hc⟩
 ·exact .inl h0
 ·exact .inr ⟨b',off,e,iZ hlt hg.size,fun i hi=>aQ h (hc i hi) hg⟩
structure sE where
 s0:Nat
 Bd:Nat
 rk:Nat
 a:Option Addr
 al:Option Addr
 ta:Option Addr
 n:Nat
 cap:Nat
 cl:Nat
 tc:Nat
 ad:Nat→Option Addr
 ln:Nat→Nat
 cp:Nat→Nat
 f:Nat→Nat→T
 o:Int
 br:Nat
 bl:Nat
 bk:Nat→Nat
structure kU (X:sE) (w:World) (fu u N:Nat) (S:Dv):Prop where
 c0:w.cell? ⟨X.Bd,0,none⟩=some (.func (.func X.rk) #[] #[])
 c1:w.cell? ⟨X.Bd,1,none⟩=some (.slice X.a X.n X.cap)
 c2:w.cell? ⟨X.Bd,2,none⟩=some (.slice X.al X.n X.cl)
 c3:w.cell? ⟨X.Bd,3,none⟩=some (.map (some X.br))
 c4:w.cell? ⟨X.Bd,4,none⟩=some (.slice X.ta X.n X.tc)
 c5:w.cell? ⟨X.Bd,5,none⟩=some (.map (some X.bl))
 c6:w.cell? ⟨X.Bd,6,none⟩=some (.int .i64 (fu:Int))
 fz:w.frozen? ⟨X.Bd,6,none⟩=false
 ls:eH w X.a X.n X.cap X.ad X.ln X.cp X.f
 ld:Rd w X.al X.n X.cl (lf (nH X.o X.ln X.f X.n))
 tk:X.n≤X.tc∧(X.n=0∨∃bt off,X.ta=some ⟨bt,off,none⟩∧∀i,i<X.n→w.cell? ⟨bt,off+i,none⟩=some (.map (some (X.bk i))))
 rs:aV w X.br N (aI S.p)
 lf:aV w X.bl u (aI S.r)
 tq:∀i,i<X.n→aV w (X.bk i) u (aI (S.q i))
 ne:X.br≠X.bl∧∀i,i<X.n→X.bk i≠X.br∧X.bk i≠X.bl∧∀j,j<X.n→i≠j→X.bk i≠X.bk j
 lo:X.s0≤X.Bd∧X.s0≤X.br∧X.s0≤X.bl∧∀i,i<X.n→X.s0≤X.bk i
 sp:X.n=0∨((∀b off,X.a=some ⟨b,off,none⟩→b≠X.Bd)∧(∀i,i<X.n→X.ln i=0∨∀b off,X.ad i=some ⟨b,off,none⟩→b≠X.Bd)∧(∀b off,X.al=some ⟨b,off,none⟩→b≠X.Bd)∧(∀b off,X.ta=some ⟨b,off,none⟩→b≠X.Bd))
theorem kU.below {X:sE} {w w':World} {fu u N:Nat} {S:Dv} (h:kU X w fu u N S) (hb:Below w.heap.size w w'):kU X w' fu u N S where
 c0:=(hb.cell (p:=⟨X.Bd,0,none⟩) (cQ w _ h.c0)).trans h.c0
 c1:=(hb.cell (p:=⟨X.Bd,1,none⟩) (cQ w _ h.c1)).trans h.c1
 c2:=(hb.cell (p:=⟨X.Bd,2,none⟩) (cQ w _ h.c2)).trans h.c2
 c3:=(hb.cell (p:=⟨X.Bd,3,none⟩) (cQ w _ h.c3)).trans h.c3
 c4:=(hb.cell (p:=⟨X.Bd,4,none⟩) (cQ w _ h.c4)).trans h.c4
 c5:=(hb.cell (p:=⟨X.Bd,5,none⟩) (cQ w _ h.c5)).trans h.c5
 c6:=(hb.cell (p:=⟨X.Bd,6,none⟩) (cQ w _ h.c6)).trans h.c6
 fz:=(hb.frozen (p:=⟨X.Bd,6,none⟩) (cQ w _ h.c6)).trans h.fz
 ls:=h.ls.below hb
 ld:=h.ld.below hb
 tk:=⟨h.tk.1,h.tk.2.imp id (fun⟨bt,off,e,hc⟩=>⟨bt,off,e,fun i hi=>(hb.cell (p:=⟨bt,off+i,none⟩) (cQ w _ (hc i hi))).trans (hc i hi)⟩)⟩
 rs:=h.rs.below hb
 lf:=h.lf.below hb
 tq:=fun i hi=>(h.tq i hi).below hb
 ne:=h.ne
 lo:=h.lo
 sp:=h.sp
theorem kU.turn {X:sE} {w w':World} {fu u N u' N':Nat} {S S':Dv} (h:kU X w fu u N S) {b K:Nat} {c:M→Int} (hm:aV w b K c) (hg:w.grownBy w' (some b)) (rs:aV w' X.br N' (aI S'.p)) (lf:aV w' X.bl u' (aI S'.r)) (tq:∀i,i<X.n→aV w' (X.bk i) u' (aI (S'.q i))):kU X w' fu u' N' S' where
 c0:=aQ hm h.c0 hg
 c1:=aQ hm h.c1 hg
 c2:=aQ hm h.c2 hg
 c3:=aQ hm h.c3 hg
 c4:=aQ hm h.c4 hg
 c5:=aQ hm h.c5 hg
 c6:=aQ hm h.c6 hg
 fz:=uC hm h.c6 h.fz hg
 ls:=h.ls.grownMap hm hg
 ld:=h.ld.grownMap hm hg
 tk:=⟨h.tk.1,h.tk.2.imp id (fun⟨bt,off,e,hc⟩=>⟨bt,off,e,fun i hi=>aQ hm (hc i hi) hg⟩)⟩
 rs:=rs
 lf:=lf
 tq:=tq
 ne:=h.ne
 lo:=h.lo
 sp:=h.sp
theorem kU.turnRest {X:sE} {w w':World} {fu u N u' N':Nat} {S:Dv} {p:List T} (h:kU X w fu u N S) (hu:u≤u') (hg:w.grownBy w' (some X.br)) (rs:aV w' X.br N' (aI p)):kU X w' fu u' N' ⟨p,S.q,S.r⟩:=
 h.turn h.rs hg rs ((h.lf.grown hg (by simpa using h.ne.1.symm)).more hu) (fun i hi=>((h.tq i hi).grown hg (by simpa using(h.ne.2 i hi).1)).more hu)
theorem kU.turnLeft {X:sE} {w w':World} {fu u N u':Nat} {S:Dv} {r:List T} (h:kU X w fu u N S) (hu:u≤u') (hg:w.grownBy w' (some X.bl)) (lf:aV w' X.bl u' (aI r)):kU X w' fu u' N ⟨S.p,S.q,r⟩:=
 h.turn h.lf hg (h.rs.grown hg (by simpa using h.ne.1)) lf (fun i hi=>((h.tq i hi).grown hg (by simpa using(h.ne.2 i hi).2.1)).more hu)
theorem kU.turnTaken {X:sE} {w w':World} {fu u N u':Nat} {S:Dv} {q:List T} (h:kU X w fu u N S) (hu:u≤u') {k:Nat} (hk:k<X.n) (hg:w.grownBy w' (some (X.bk k))) (hq:aV w' (X.bk k) u' (aI q)):kU X w' fu u' N ⟨S.p,kN S.q k q,S.r⟩:=by
 refine h.turn (h.tq k hk) hg (h.rs.grown hg (by simpa using(h.ne.2 k hk).1.symm)) ((h.lf.grown hg (by simpa using(h.ne.2 k hk).2.1.symm)).more hu) (fun i hi=>?_);show aV w' (X.bk i) u' (aI (kN S.q k q i))
 unfold kN;split
 ·rename_i e;rw[e];exact hq
 ·rename_i e;exact((h.tq i hi).grown hg (by simpa using(h.ne.2 k hk).2.2 i hi (fun e'=>e e'.symm) |>.symm)).more hu
theorem kU.burn {X:sE} {w:World} {fu u N:Nat} {S:Dv} (h:kU X w (fu+1) u N S):kU X (w.setCell ⟨X.Bd,6,none⟩ (.int .i64 (fu:Int))) fu u N S:=by
 have hg:=gJ w X.Bd 6 (.int .i64 (fu:Int));have hcell:∀{b o:Nat} {v:Value},w.cell? ⟨b,o,none⟩=some v→(b≠X.Bd∨o≠6)→(w.setCell ⟨X.Bd,6,none⟩ (.int .i64 (fu:Int))).cell? ⟨b,o,none⟩=some v:=fun{b o v} hc hne=>by rw[World.cell?_setCell_other _ _ _ _ (by intro e;cases e;rcases hne with h|h<;>exact h rfl)];exact hc
 have hmap:∀{b N:Nat} {c:M→Int},aV w b N c→aV (w.setCell ⟨X.Bd,6,none⟩ (.int .i64 (fu:Int))) b N c:=fun{b N c} hs=>hs.grown hg (by simpa using(hs.ne_cell h.c0).symm);have hrd:∀{a:Option Addr} {k cap:Nat} {f:Nat→T},Rd w a k cap f→(k=0∨∀b off,a=some ⟨b,off,none⟩→b≠X.Bd)→Rd (w.setCell ⟨X.Bd,6,none⟩ (.int .i64 (fu:Int))) a k cap f:=fun{a k cap f} hr hne=>hr.grown hg (hne.imp id (fun hn b off e e'=>hn b off e (by simpa using e')))
 rcases h.sp with hn0|hsp
 ·exact{
   c0:=hcell h.c0 (.inr (by decide))
   c1:=hcell h.c1 (.inr (by decide))
   c2:=hcell h.c2 (.inr (by decide))
   c3:=hcell h.c3 (.inr (by decide))
   c4:=hcell h.c4 (.inr (by decide))
   c5:=hcell h.c5 (.inr (by decide))
   c6:=by simp[go_sem,h.c6]
   fz:=by simp[go_sem,h.fz]
   ls:=⟨h.ls.1,h.ls.2.1,.inl hn0,fun i hi=>absurd hi (by omega)⟩
   ld:=hrd h.ld (.inl hn0)
   tk:=⟨h.tk.1,.inl hn0⟩
   rs:=hmap h.rs
   lf:=hmap h.lf
   tq:=fun i hi=>hmap (h.tq i hi)
   ne:=h.ne
   lo:=h.lo
   sp:=h.sp}
 ·exact{
   c0:=hcell h.c0 (.inr (by decide))
   c1:=hcell h.c1 (.inr (by decide))
   c2:=hcell h.c2 (.inr (by decide))
   c3:=hcell h.c3 (.inr (by decide))
   c4:=hcell h.c4 (.inr (by decide))
   c5:=hcell h.c5 (.inr (by decide))
   c6:=by simp[go_sem,h.c6]
   fz:=by simp[go_sem,h.fz]
   ls:=⟨h.ls.1,h.ls.2.1,h.ls.2.2.1.imp id (fun⟨b,off,e,hlt,hc⟩=>⟨b,off,e,iZ hlt hg.size,fun i hi=>hcell (hc i hi) (.inl (hsp.1 b off e))⟩),fun i hi=>hrd (h.ls.2.2.2 i hi) (hsp.2.1 i hi)⟩
   ld:=hrd h.ld (.inr hsp.2.2.1)
   tk:=⟨h.tk.1,h.tk.2.imp id (fun⟨bt,off,e,hc⟩=>⟨bt,off,e,fun i hi=>hcell (hc i hi) (.inl (hsp.2.2.2 bt off e))⟩)⟩
   rs:=hmap h.rs
   lf:=hmap h.lf
   tq:=fun i hi=>hmap (h.tq i hi)
   ne:=h.ne
   lo:=h.lo
   sp:=h.sp}
structure dW (X:sE) (w w':World):Prop where
 os:w'.os=w.os
 tape:w'.tape=w.tape
 output:w'.output=w.output
 size:w.heap.size≤w'.heap.size
 block:∀b,b<w.heap.size→b≠X.Bd→b≠X.br→b≠X.bl→(∀i,i<X.n→b≠X.bk i)→w'.heap[b]? =w.heap[b]?
theorem dW.of {X:sE} {w w':World} (h:Below w.heap.size w w'):dW X w w':=⟨h.os,h.tape,h.output,h.size,fun b hb _ _ _ _=>h.block b hb⟩
theorem dW.trans {X:sE} {w w' w'':World} (h:dW X w w') (k:dW X w' w''):dW X w w'':=
 ⟨k.os.trans h.os,k.tape.trans h.tape,k.output.trans h.output,gW h.size k.size,fun b hb h1 h2 h3 h4=>(k.block b (iZ hb h.size) h1 h2 h3 h4).trans (h.block b hb h1 h2 h3 h4)⟩
theorem dW.drew {X:sE} {w w':World} (h:dW X w w'):dW X w w'.drew:=h.trans (dW.of (bQ _ _).drew)
theorem dW.map {X:sE} {w w':World} {b:Nat} (hg:w.grownBy w' (some b)) (h:b=X.br∨b=X.bl∨∃i,i<X.n∧b=X.bk i):dW X w w':=
 ⟨hg.os,hg.tape,hg.output,hg.size,fun c hc h1 h2 h3 h4=>hg.block c hc (fun e=>by
  obtain rfl:c=b:=by simpa using e
  rcases h with rfl|rfl|⟨i,hi,rfl⟩
  ·exact h2 rfl
  ·exact h3 rfl
  ·exact h4 i hi rfl)⟩
theorem dW.fuel {X:sE} {w w':World} (hg:w.grownBy w' (some X.Bd)):dW X w w':=
 ⟨hg.os,hg.tape,hg.output,hg.size,fun c hc h1 _ _ _=>hg.block c hc (fun e=>h1 (by simpa using e))⟩
theorem dW.below {X:sE} {w w':World} (h:dW X w w') {fu u N:Nat} {S:Dv} (hd:kU X w fu u N S):Below X.s0 w w':=
 ⟨h.os,h.tape,h.output,h.size,fun b hb=>h.block b (iZ hb (gW hd.lo.1 (Nat.le_of_lt (cQ w _ hd.c0)))) (by have:=hd.lo.1;omega) (by have:=hd.lo.2.1;omega) (by have:=hd.lo.2.2.1;omega) (fun i hi=>by have:=hd.lo.2.2.2 i hi;omega)⟩
theorem aV.del {w:World} {b n:Nat} {c:M→Int} (h:aV w b n c) {m:M} (hm:m.ok=true) (ty:TypeId):∃w',(Builtin.delete_ #[95,84] ty #[.map (some b),.agg #[.int .i64 m.x,.int .i64 m.y,.int .i64 m.d,.int .i64 m.e]]).run Tryz.prog w= .ok (.tuple #[]) w'∧aV w' b n (fun x=>if ZB x m=true then 0 else c x)∧w.grownBy w' (some b):=by
 obtain⟨D,hown,hc,hat,hks⟩:=h;obtain⟨w',hrun,ho,ht⟩:=hown.drop jK Tryz.underlying95 (lJ hm) ty;refine⟨w',hrun,⟨_,ho,fun x=>?_,fun x hx=>?_,fun kl hkl=>?_⟩,ht.grown⟩
 ·dsimp only;split
  ·exact⟨Int.le_refl _,by decide⟩
  ·exact hc x
 ·by_cases hxm:x=m
  ·subst hxm;rw[atKey_del_same,has_del_same];simp[dS.2 rfl]
  ·have hne:cY x≠cY m:=fun e=>hxm (rF hx hm e);have hb:¬ZB x m=true:=fun e=>hxm (dS.1 e)
   rw[atKey_del_other hne,has_del_other hne];simp only[hb];exact hat x hx
 ·by_cases hkm:kl=cY m
  ·exact⟨m,hm,hkm⟩
  ·rw[has_del_other hkm]at hkl;exact hks kl hkl
theorem aV.len {w:World} {b n:Nat} {K:List T} (h:aV w b n (aI K)) (hK:aH K) (ty:TypeId):(Builtin.len_ #[95] ty #[.map (some b)]).run Tryz.prog w= .ok (.int .i64 (K.length:Int)) w:=by
 obtain⟨D,hown,hc,hat,hks⟩:=h;have h1:=hown.len Tryz.underlying95 ty
 rw[AQ hown hat hks hK (fun _ _=>rfl)]at h1;exact h1
theorem zF {L:List T} (hL:aH L) {t:T} (ht:t.m.ok=true∧1≤t.c∧t.c≤100):∀x,kM (aI L) t.m t.c x=aI (cG L [t]) x:=fun x=>by
 rw[(cM hL (fH ht)).2 x];unfold kM;by_cases e:x=t.m
 ·subst e;rw[if_pos (dS.2 rfl),bG]
 ·have hb:=bD hL x;rw[if_neg (fun e'=>e (dS.1 e')),gE (fun e'=>e e'.symm)];show aI L x=(aI L x+0)%101
  omega
theorem zI {L:List T} (hL:aH L) {t:T} (ht:t∈L):∀x,(if ZB x t.m=true then 0 else aI L x)=aI (bY L [t]) x:=fun x=>by
 have ht':=hL.2 t ht;rw[(cB hL (fH ht')).2 x];by_cases e:x=t.m
 ·subst e;rw[if_pos (dS.2 rfl),bG,(iM hL ht).1];omega
 ·have hb:=bD hL x;rw[if_neg (fun e'=>e (dS.1 e')),gE (fun e'=>e e'.symm)];show aI L x=(aI L x+100*0%101)%101
  omega
theorem kU.s0 {X:sE} {w:World} {fu u N:Nat} {S:Dv} (h:kU X w fu u N S):X.s0≤w.heap.size:=gW h.lo.1 (Nat.le_of_lt (cQ w _ h.c0))
theorem XT (X:sE) (w:World) (fu u N:Nat) (S:Dv) (t:T) (h:kU X w fu u N S) (hok:iS u S) (hu:u<300) (h0:S.p.length≠0) (ht:dD X.o S.p=t):Calls Tryz.prog 141 #[.pointer (some ⟨X.Bd,0,none⟩),.agg #[.int .i64 t.c,.int .i64 t.m.x,.int .i64 t.m.y,.int .i64 t.m.d,.int .i64 t.m.e]] w fun r w'=>r= .returned (.tuple #[])∧kU X w' fu (u+1) N (gO X.o S)∧dW X w w':=by
 have hg:=iV (o:=X.o) (aD hok.p).2 h0;have hmem:=jL (o:=X.o) h0
 rw[ht]at hg hmem;have HE:Hid (gO X.o S=⟨bY S.p [t],S.q,cG S.r [t]⟩):=by show gO X.o S=_;unfold gO;rw[ht]
 have hs0:=h.s0;have HB:=aA (dW.of (X:=X) (aC w (.cells #[.int .i64 t.c,.int .i64 t.m.x,.int .i64 t.m.y,.int .i64 t.m.d,.int .i64 t.m.e] 86)))
 have HW:=aA (h.below (aC w (.cells #[.int .i64 t.c,.int .i64 t.m.x,.int .i64 t.m.y,.int .i64 t.m.d,.int .i64 t.m.e] 86)));have HC:=aA (C5.box w 86 t)
 have HRF:=aA hok.r.1;have HPF:=aA (aD hok.p).2
 have HM:=aA hmem;have HG:=aA hg
 clear h hok ht hmem;rw[HE.out];go_enter Tryz.func141,Tryz.ntmps141;go_wp2_with fail;generalize(w.alloc (.cells #[.int .i64 t.c,.int .i64 t.m.x,.int .i64 t.m.y,.int .i64 t.m.d,.int .i64 t.m.e] 86))=wq at HB HW HC⊢;have HWD:=aA (HW.out.below (bQ _ wq).drew)
 have HADD:=aA (AX X.bl u (aI S.r) t.c t.m wq.drew hg.1 HWD.out.lf (by unfold maxLen;omega) (by omega) hg.2.2);have k5:=HW.out.c5
 obtain⟨q0,q1,q2,q3,q4⟩:=HC.out;have hcl:=HC.out.lt
 go_region_with (go_at_call 145;refine HADD.out.mono ?_;rintro r w4 ⟨rfl,hS4,hg4⟩;have HS4:=aA hS4;have HG4:=aA hg4;clear hS4 hg4)
 all_goals
  have HW4:=aA (HWD.out.turnLeft (u':=u+1) (r:=cG S.r [t]) (Nat.le_succ _) HG4.out (HS4.out.congr (fun m _=>zF HRF.out HG.out m) (fun m=>bD (cM HRF.out (fH HG.out)).1 m)));have HB4:=aA (HB.out.drew.trans (dW.map HG4.out (.inr (.inl rfl))))
  have r0:=aQ HWD.out.lf (b':=w.heap.size) (o:=1) (v:=.int .i64 t.m.x) q1 HG4.out;have r1:=aQ HWD.out.lf (b':=w.heap.size) (o:=2) (v:=.int .i64 t.m.y) q2 HG4.out
  have r2:=aQ HWD.out.lf (b':=w.heap.size) (o:=3) (v:=.int .i64 t.m.d) q3 HG4.out;have r3:=aQ HWD.out.lf (b':=w.heap.size) (o:=4) (v:=.int .i64 t.m.e) q4 HG4.out
  have k3:=HW4.out.c3;have HW5:=aA (HW4.out.below (bQ _ w4).drew)
  obtain⟨w6,hrun,hS6,hg6⟩:=HW5.out.rs.del HG.out.1 0;have HS6:=aA hS6
  have HG6:=aA hg6;clear hS6 hg6 q0 q1 q2 q3 q4 k5 HS4 HG4 HADD;go_wp2_with fail
  go_region_with fail
  all_goals
   go_wp2
   go_end0
   refine⟨rfl,?_,?_⟩
   ·exact HW5.out.turnRest (Nat.le_refl _) HG6.out (HS6.out.congr (fun m _=>zI HPF.out HM.out m) (fun m=>bD (cB HPF.out (fH HG.out)).1 m))
   ·exact HB4.out.drew.trans (dW.map HG6.out (.inl rfl))
end Go.Proofs.YtelkehjdfcoeiaaGreat
