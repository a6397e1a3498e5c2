/-
  A division on its way in the world: its struct, its maps; what stays true where other memory turns.
  A division's greatest term is left.
  A division's greatest term is taken by one.
-/
import Derived.Test.YtncffcaabnjioaaGreatMbb
set_option maxHeartbeats 8000000
set_option maxRecDepth 100000
namespace Go.Proofs.YtncffcaabnjioaaGreat
open Go.RowKit Go.Deep Go.Joins Go.Maps
set_option linter.unusedVariables false
theorem bD.more {w:World} {b n n':Nat} {c:M→Int} (h:bD w b n c) (hn:n≤n'):bD w b n' c:=by obtain⟨D,ho,h2⟩:=h;exact⟨D,sH ho hn,h2⟩
theorem bD.congr {w:World} {b n:Nat} {c c':M→Int} (h:bD w b n c) (he:∀m,m.ok=true→c m=c' m) (hb:∀m,0≤c' m∧c' m≤100):bD w b n c':=by obtain⟨D,ho,h1,h2,h3⟩:=h;exact⟨D,ho,hb,fun m hm=>by rw[←he m hm];exact h2 m hm,h3⟩
theorem bD.below {w w':World} {b n:Nat} {c:M→Int} (h:bD w b n c) (hb:Below w.heap.size w w'):bD w' b n c:=h.grown (bM hb none) (by simp)
theorem bD.ne_cell {w:World} {b n:Nat} {c:M→Int} (h:bD w b n c) {b' o:Nat} {v:Value} (hc:w.cell? ⟨b',o,none⟩=some v):b'≠b:=by rintro rfl;obtain⟨D,⟨es,clock,h1,_⟩,_⟩:=h;unfold World.cell? at hc;simp[h1]at hc
theorem bD.ne_rd {w:World} {b n:Nat} {c:M→Int} (h:bD w b n c) {a:Option Addr} {k cap:Nat} {f:Nat→T} (hr:Rd w a k cap f):k=0∨∀b' off,a=some ⟨b',off,none⟩→some b'≠some b:=by
 by_cases hk:k=0
 ·exact .inl hk
 ·refine .inr fun b' off e e'=>?_;rcases hr.2.2 with h0|⟨b1,off1,e1,_,hc⟩
  ·exact hk h0
  ·have hne:=h.ne_cell (hc 0 (by omega)).1;rw[e]at e1;have e2:b'=b1:=by simpa using congrArg (fun x:Option Addr=>x.map (·.block)) e1
   have e3:b'=b:=by simpa using e'
   exact hne (e2.symm.trans e3)
theorem Rd.grownMap {w w':World} {b n:Nat} {c:M→Int} (h:bD w b n c) {a:Option Addr} {k cap:Nat} {f:Nat→T} (hr:Rd w a k cap f) (hg:w.grownBy w' (some b)):Rd w' a k cap f:=hr.grown hg (h.ne_rd hr)
theorem aS {w w':World} {b n:Nat} {c:M→Int} (h:bD w b n c) {b' o:Nat} {v:Value} (hc:w.cell? ⟨b',o,none⟩=some v) (hg:w.grownBy w' (some b)):w'.cell? ⟨b',o,none⟩=some v:=
 (lH (a:=⟨b',o,none⟩) (hg.block b' (cU w _ hc) (fun e=>h.ne_cell hc (by simpa using e)))).trans hc
theorem uR {w w':World} {b n:Nat} {c:M→Int} (h:bD w b n c) {b' o:Nat} {v:Value} (hc:w.cell? ⟨b',o,none⟩=some v) {z:Bool} (hz:w.frozen? ⟨b',o,none⟩=z) (hg:w.grownBy w' (some b)):w'.frozen? ⟨b',o,none⟩=z:=
 (World.frozen?_of_block (a:=⟨b',o,none⟩) (hg.block b' (cU w _ hc) (fun e=>h.ne_cell hc (by simpa using e)))).trans hz
theorem fZ.grownMap {w w':World} {b N:Nat} {c:M→Int} (h:bD w b N c) {a:Option Addr} {n cap:Nat} {ad:Nat→Option Addr} {ln cp:Nat→Nat} {f:Nat→Nat→T} (hr:fZ w a n cap ad ln cp f) (hg:w.grownBy w' (some b)):fZ w' a n cap ad ln cp f:=by
 refine⟨hr.1,hr.2.1,?_,fun i hi=>(hr.2.2.2 i hi).grownMap h hg⟩;rcases hr.2.2.1 with h0|⟨b',off,e,hlt,hc⟩
 ·exact .inl h0
 ·exact .inr ⟨b',off,e,lG hlt hg.size,fun i hi=>aS h (hc i hi) hg⟩
structure sR where
 s0:Nat
 Bd:Nat
 rk:Nat
 a:Option Addr
 al:Option Addr
 ta:Option Addr
 n:Nat
 cap:Nat
 cl:Nat
 tc:Nat
 ad:Nat→Option Addr
 ln:Nat→Nat
 cp:Nat→Nat
 f:Nat→Nat→T
 o:Int
 br:Nat
 bl:Nat
 bk:Nat→Nat
structure lJ (X:sR) (w:World) (fu u N:Nat) (S:Dv):Prop where
 c0:w.cell? ⟨X.Bd,0,none⟩=some (.func (.func X.rk) #[] #[])
 c1:w.cell? ⟨X.Bd,1,none⟩=some (.slice X.a X.n X.cap)
 c2:w.cell? ⟨X.Bd,2,none⟩=some (.slice X.al X.n X.cl)
 c3:w.cell? ⟨X.Bd,3,none⟩=some (.map (some X.br))
 c4:w.cell? ⟨X.Bd,4,none⟩=some (.slice X.ta X.n X.tc)
 c5:w.cell? ⟨X.Bd,5,none⟩=some (.map (some X.bl))
 c6:w.cell? ⟨X.Bd,6,none⟩=some (.int .i64 (fu:Int))
 fz:w.frozen? ⟨X.Bd,6,none⟩=false
 ls:fZ w X.a X.n X.cap X.ad X.ln X.cp X.f
 ld:Rd w X.al X.n X.cl (lf (oC X.o X.ln X.f X.n))
 tk:X.n≤X.tc∧(X.n=0∨∃bt off,X.ta=some ⟨bt,off,none⟩∧∀i,i<X.n→w.cell? ⟨bt,off+i,none⟩=some (.map (some (X.bk i))))
 rs:bD w X.br N (aL S.p)
 lf:bD w X.bl u (aL S.r)
 tq:∀i,i<X.n→bD w (X.bk i) u (aL (S.q i))
 ne:X.br≠X.bl∧∀i,i<X.n→X.bk i≠X.br∧X.bk i≠X.bl∧∀j,j<X.n→i≠j→X.bk i≠X.bk j
 lo:X.s0≤X.Bd∧X.s0≤X.br∧X.s0≤X.bl∧∀i,i<X.n→X.s0≤X.bk i
 sp:X.n=0∨((∀b off,X.a=some ⟨b,off,none⟩→b≠X.Bd)∧(∀i,i<X.n→X.ln i=0∨∀b off,X.ad i=some ⟨b,off,none⟩→b≠X.Bd)∧(∀b off,X.al=some ⟨b,off,none⟩→b≠X.Bd)∧(∀b off,X.ta=some ⟨b,off,none⟩→b≠X.Bd))
theorem lJ.below {X:sR} {w w':World} {fu u N:Nat} {S:Dv} (h:lJ X w fu u N S) (hb:Below w.heap.size w w'):lJ X w' fu u N S where
 c0:=(hb.cell (p:=⟨X.Bd,0,none⟩) (cU w _ h.c0)).trans h.c0
 c1:=(hb.cell (p:=⟨X.Bd,1,none⟩) (cU w _ h.c1)).trans h.c1
 c2:=(hb.cell (p:=⟨X.Bd,2,none⟩) (cU w _ h.c2)).trans h.c2
 c3:=(hb.cell (p:=⟨X.Bd,3,none⟩) (cU w _ h.c3)).trans h.c3
 c4:=(hb.cell (p:=⟨X.Bd,4,none⟩) (cU w _ h.c4)).trans h.c4
 c5:=(hb.cell (p:=⟨X.Bd,5,none⟩) (cU w _ h.c5)).trans h.c5
 c6:=(hb.cell (p:=⟨X.Bd,6,none⟩) (cU w _ h.c6)).trans h.c6
 fz:=(hb.frozen (p:=⟨X.Bd,6,none⟩) (cU w _ h.c6)).trans h.fz
 ls:=h.ls.below hb
 ld:=h.ld.below hb
 tk:=⟨h.tk.1,h.tk.2.imp id (fun⟨bt,off,e,hc⟩=>⟨bt,off,e,fun i hi=>(hb.cell (p:=⟨bt,off+i,none⟩) (cU w _ (hc i hi))).trans (hc i hi)⟩)⟩
 rs:=h.rs.below hb
 lf:=h.lf.below hb
 tq:=fun i hi=>(h.tq i hi).below hb
 ne:=h.ne
 lo:=h.lo
 sp:=h.sp
theorem lJ.turn {X:sR} {w w':World} {fu u N u' N':Nat} {S S':Dv} (h:lJ X w fu u N S) {b K:Nat} {c:M→Int} (hm:bD w b K c) (hg:w.grownBy w' (some b)) (rs:bD w' X.br N' (aL S'.p)) (lf:bD w' X.bl u' (aL S'.r)) (tq:∀i,i<X.n→bD w' (X.bk i) u' (aL (S'.q i))):lJ X w' fu u' N' S' where
 c0:=aS hm h.c0 hg
 c1:=aS hm h.c1 hg
 c2:=aS hm h.c2 hg
 c3:=aS hm h.c3 hg
 c4:=aS hm h.c4 hg
 c5:=aS hm h.c5 hg
 c6:=aS hm h.c6 hg
 fz:=uR hm h.c6 h.fz hg
 ls:=h.ls.grownMap hm hg
 ld:=h.ld.grownMap hm hg
 tk:=⟨h.tk.1,h.tk.2.imp id (fun⟨bt,off,e,hc⟩=>⟨bt,off,e,fun i hi=>aS hm (hc i hi) hg⟩)⟩
 rs:=rs
 lf:=lf
 tq:=tq
 ne:=h.ne
 lo:=h.lo
 sp:=h.sp
theorem lJ.turnRest {X:sR} {w w':World} {fu u N u' N':Nat} {S:Dv} {p:List T} (h:lJ X w fu u N S) (hu:u≤u') (hg:w.grownBy w' (some X.br)) (rs:bD w' X.br N' (aL p)):lJ X w' fu u' N' ⟨p,S.q,S.r⟩:=
 h.turn h.rs hg rs ((h.lf.grown hg (by simpa using h.ne.1.symm)).more hu) (fun i hi=>((h.tq i hi).grown hg (by simpa using(h.ne.2 i hi).1)).more hu)
theorem lJ.turnLeft {X:sR} {w w':World} {fu u N u':Nat} {S:Dv} {r:List T} (h:lJ X w fu u N S) (hu:u≤u') (hg:w.grownBy w' (some X.bl)) (lf:bD w' X.bl u' (aL r)):lJ X w' fu u' N ⟨S.p,S.q,r⟩:=
 h.turn h.lf hg (h.rs.grown hg (by simpa using h.ne.1)) lf (fun i hi=>((h.tq i hi).grown hg (by simpa using(h.ne.2 i hi).2.1)).more hu)
theorem lJ.turnTaken {X:sR} {w w':World} {fu u N u':Nat} {S:Dv} {q:List T} (h:lJ X w fu u N S) (hu:u≤u') {k:Nat} (hk:k<X.n) (hg:w.grownBy w' (some (X.bk k))) (hq:bD w' (X.bk k) u' (aL q)):lJ X w' fu u' N ⟨S.p,lE S.q k q,S.r⟩:=by
 refine h.turn (h.tq k hk) hg (h.rs.grown hg (by simpa using(h.ne.2 k hk).1.symm)) ((h.lf.grown hg (by simpa using(h.ne.2 k hk).2.1.symm)).more hu) (fun i hi=>?_);show bD w' (X.bk i) u' (aL (lE S.q k q i))
 unfold lE;split
 ·rename_i e;rw[e];exact hq
 ·rename_i e;exact((h.tq i hi).grown hg (by simpa using(h.ne.2 k hk).2.2 i hi (fun e'=>e e'.symm) |>.symm)).more hu
theorem lJ.burn {X:sR} {w:World} {fu u N:Nat} {S:Dv} (h:lJ X w (fu+1) u N S):lJ X (w.setCell ⟨X.Bd,6,none⟩ (.int .i64 (fu:Int))) fu u N S:=by
 have hg:=gN w X.Bd 6 (.int .i64 (fu:Int));have hcell:∀{b o:Nat} {v:Value},w.cell? ⟨b,o,none⟩=some v→(b≠X.Bd∨o≠6)→(w.setCell ⟨X.Bd,6,none⟩ (.int .i64 (fu:Int))).cell? ⟨b,o,none⟩=some v:=fun{b o v} hc hne=>by rw[World.cell?_setCell_other _ _ _ _ (by intro e;cases e;rcases hne with h|h<;>exact h rfl)];exact hc
 have hmap:∀{b N:Nat} {c:M→Int},bD w b N c→bD (w.setCell ⟨X.Bd,6,none⟩ (.int .i64 (fu:Int))) b N c:=fun{b N c} hs=>hs.grown hg (by simpa using(hs.ne_cell h.c0).symm);have hrd:∀{a:Option Addr} {k cap:Nat} {f:Nat→T},Rd w a k cap f→(k=0∨∀b off,a=some ⟨b,off,none⟩→b≠X.Bd)→Rd (w.setCell ⟨X.Bd,6,none⟩ (.int .i64 (fu:Int))) a k cap f:=fun{a k cap f} hr hne=>hr.grown hg (hne.imp id (fun hn b off e e'=>hn b off e (by simpa using e')))
 rcases h.sp with hn0|hsp
 ·exact{
   c0:=hcell h.c0 (.inr (by decide))
   c1:=hcell h.c1 (.inr (by decide))
   c2:=hcell h.c2 (.inr (by decide))
   c3:=hcell h.c3 (.inr (by decide))
   c4:=hcell h.c4 (.inr (by decide))
   c5:=hcell h.c5 (.inr (by decide))
   c6:=by simp[go_sem,h.c6]
   fz:=by simp[go_sem,h.fz]
   ls:=⟨h.ls.1,h.ls.2.1,.inl hn0,fun i hi=>absurd hi (by omega)⟩
   ld:=hrd h.ld (.inl hn0)
   tk:=⟨h.tk.1,.inl hn0⟩
   rs:=hmap h.rs
   lf:=hmap h.lf
   tq:=fun i hi=>hmap (h.tq i hi)
   ne:=h.ne
   lo:=h.lo
   sp:=h.sp}
 ·exact{
   c0:=hcell h.c0 (.inr (by decide))
   c1:=hcell h.c1 (.inr (by decide))
   c2:=hcell h.c2 (.inr (by decide))
   c3:=hcell h.c3 (.inr (by decide))
   c4:=hcell h.c4 (.inr (by decide))
   c5:=hcell h.c5 (.inr (by decide))
   c6:=by simp[go_sem,h.c6]
   fz:=by simp[go_sem,h.fz]
   ls:=⟨h.ls.1,h.ls.2.1,h.ls.2.2.1.imp id (fun⟨b,off,e,hlt,hc⟩=>⟨b,off,e,lG hlt hg.size,fun i hi=>hcell (hc i hi) (.inl (hsp.1 b off e))⟩),fun i hi=>hrd (h.ls.2.2.2 i hi) (hsp.2.1 i hi)⟩
   ld:=hrd h.ld (.inr hsp.2.2.1)
   tk:=⟨h.tk.1,h.tk.2.imp id (fun⟨bt,off,e,hc⟩=>⟨bt,off,e,fun i hi=>hcell (hc i hi) (.inl (hsp.2.2.2 bt off e))⟩)⟩
   rs:=hmap h.rs
   lf:=hmap h.lf
   tq:=fun i hi=>hmap (h.tq i hi)
   ne:=h.ne
   lo:=h.lo
   sp:=h.sp}
structure eQ (X:sR) (w w':World):Prop where
 os:w'.os=w.os
 tape:w'.tape=w.tape
 output:w'.output=w.output
 size:w.heap.size≤w'.heap.size
 block:∀b,b<w.heap.size→b≠X.Bd→b≠X.br→b≠X.bl→(∀i,i<X.n→b≠X.bk i)→w'.heap[b]? =w.heap[b]?
theorem eQ.of {X:sR} {w w':World} (h:Below w.heap.size w w'):eQ X w w':=⟨h.os,h.tape,h.output,h.size,fun b hb _ _ _ _=>h.block b hb⟩
theorem eQ.trans {X:sR} {w w' w'':World} (h:eQ X w w') (k:eQ X w' w''):eQ X w w'':=
 ⟨k.os.trans h.os,k.tape.trans h.tape,k.output.trans h.output,jW h.size k.size,fun b hb h1 h2 h3 h4=>(k.block b (lG hb h.size) h1 h2 h3 h4).trans (h.block b hb h1 h2 h3 h4)⟩
theorem eQ.drew {X:sR} {w w':World} (h:eQ X w w'):eQ X w w'.drew:=h.trans (eQ.of (cE _ _).drew)
theorem eQ.map {X:sR} {w w':World} {b:Nat} (hg:w.grownBy w' (some b)) (h:b=X.br∨b=X.bl∨∃i,i<X.n∧b=X.bk i):eQ X w w':=
 ⟨hg.os,hg.tape,hg.output,hg.size,fun c hc h1 h2 h3 h4=>hg.block c hc (fun e=>by
  obtain rfl:c=b:=by simpa using e
  rcases h with rfl|rfl|⟨i,hi,rfl⟩
  ·exact h2 rfl
  ·exact h3 rfl
  ·exact h4 i hi rfl)⟩
theorem eQ.fuel {X:sR} {w w':World} (hg:w.grownBy w' (some X.Bd)):eQ X w w':=
 ⟨hg.os,hg.tape,hg.output,hg.size,fun c hc h1 _ _ _=>hg.block c hc (fun e=>h1 (by simpa using e))⟩
theorem eQ.below {X:sR} {w w':World} (h:eQ X w w') {fu u N:Nat} {S:Dv} (hd:lJ X w fu u N S):Below X.s0 w w':=
 ⟨h.os,h.tape,h.output,h.size,fun b hb=>h.block b (lG hb (jW hd.lo.1 (Nat.le_of_lt (cU w _ hd.c0)))) (by have:=hd.lo.1;omega) (by have:=hd.lo.2.1;omega) (by have:=hd.lo.2.2.1;omega) (fun i hi=>by have:=hd.lo.2.2.2 i hi;omega)⟩
theorem bD.del {w:World} {b n:Nat} {c:M→Int} (h:bD w b n c) {m:M} (hm:m.ok=true) (ty:TypeId):∃w',(Builtin.delete_ #[77,45] ty #[.map (some b),.agg #[.int .i64 m.x,.int .i64 m.y,.int .i64 m.d,.int .i64 m.e]]).run Tryz.prog w= .ok (.tuple #[]) w'∧bD w' b n (fun x=>if YP x m=true then 0 else c x)∧w.grownBy w' (some b):=by
 obtain⟨D,hown,hc,hat,hks⟩:=h;obtain⟨w',hrun,ho,ht⟩:=hown.drop jZ Tryz.underlying77 (lU hm) ty;refine⟨w',hrun,⟨_,ho,fun x=>?_,fun x hx=>?_,fun kl hkl=>?_⟩,ht.grown⟩
 ·dsimp only;split
  ·exact⟨Int.le_refl _,by decide⟩
  ·exact hc x
 ·by_cases hxm:x=m
  ·subst hxm;rw[atKey_del_same,has_del_same];simp[eN.2 rfl]
  ·have hne:dK x≠dK m:=fun e=>hxm (rZ hx hm e);have hb:¬YP x m=true:=fun e=>hxm (eN.1 e)
   rw[atKey_del_other hne,has_del_other hne];simp only[hb];exact hat x hx
 ·by_cases hkm:kl=dK m
  ·exact⟨m,hm,hkm⟩
  ·rw[has_del_other hkm]at hkl;exact hks kl hkl
theorem bD.len {w:World} {b n:Nat} {K:List T} (h:bD w b n (aL K)) (hK:aK K) (ty:TypeId):(Builtin.len_ #[77] ty #[.map (some b)]).run Tryz.prog w= .ok (.int .i64 (K.length:Int)) w:=by
 obtain⟨D,hown,hc,hat,hks⟩:=h;have h1:=hown.len Tryz.underlying77 ty
 rw[BE hown hat hks hK (fun _ _=>rfl)]at h1;exact h1
theorem zU {L:List T} (hL:aK L) {t:T} (ht:t.m.ok=true∧1≤t.c∧t.c≤100):∀x,lD (aL L) t.m t.c x=aL (cF L [t]) x:=fun x=>by
 rw[(cV hL (eS ht)).2 x];unfold lD;by_cases e:x=t.m
 ·subst e;rw[if_pos (eN.2 rfl),bC]
 ·have hb:=bR hL x;rw[if_neg (fun e'=>e (eN.1 e')),gF (fun e'=>e e'.symm)];show aL L x=(aL L x+0)%101
  omega
theorem zX {L:List T} (hL:aK L) {t:T} (ht:t∈L):∀x,(if YP x t.m=true then 0 else aL L x)=aL (cQ L [t]) x:=fun x=>by
 have ht':=hL.2 t ht;rw[(cJ hL (eS ht')).2 x];by_cases e:x=t.m
 ·subst e;rw[if_pos (eN.2 rfl),bC,(iP hL ht).1];omega
 ·have hb:=bR hL x;rw[if_neg (fun e'=>e (eN.1 e')),gF (fun e'=>e e'.symm)];show aL L x=(aL L x+100*0%101)%101
  omega
theorem lJ.s0 {X:sR} {w:World} {fu u N:Nat} {S:Dv} (h:lJ X w fu u N S):X.s0≤w.heap.size:=jW h.lo.1 (Nat.le_of_lt (cU w _ h.c0))
theorem XK (X:sR) (w:World) (fu u N:Nat) (S:Dv) (t:T) (h:lJ X w fu u N S) (hok:iK u S) (hu:u<300) (h0:S.p.length≠0) (ht:dQ X.o S.p=t):Calls Tryz.prog 91 #[.pointer (some ⟨X.Bd,0,none⟩),.agg #[.int .i64 t.c,.int .i64 t.m.x,.int .i64 t.m.y,.int .i64 t.m.d,.int .i64 t.m.e]] w fun r w'=>r= .returned (.tuple #[])∧lJ X w' fu (u+1) N (gS X.o S)∧eQ X w w':=by
 have hg:=iF (o:=X.o) (aE hok.p).2 h0;have hmem:=kC (o:=X.o) h0
 rw[ht]at hg hmem;have HE:Hid (gS X.o S=⟨cQ S.p [t],S.q,cF S.r [t]⟩):=by show gS X.o S=_;unfold gS;rw[ht]
 have hs0:=h.s0;have HB:=aA (eQ.of (X:=X) (aC w (.cells #[.int .i64 t.c,.int .i64 t.m.x,.int .i64 t.m.y,.int .i64 t.m.d,.int .i64 t.m.e] 47)))
 have HW:=aA (h.below (aC w (.cells #[.int .i64 t.c,.int .i64 t.m.x,.int .i64 t.m.y,.int .i64 t.m.d,.int .i64 t.m.e] 47)));have HC:=aA (C5.box w 47 t)
 have HRF:=aA hok.r.1;have HPF:=aA (aE hok.p).2
 have HM:=aA hmem;have HG:=aA hg
 clear h hok ht hmem;rw[HE.out];go_enter Tryz.func91,Tryz.ntmps91;go_wp2_with fail;generalize(w.alloc (.cells #[.int .i64 t.c,.int .i64 t.m.x,.int .i64 t.m.y,.int .i64 t.m.d,.int .i64 t.m.e] 47))=wq at HB HW HC⊢;have HWD:=aA (HW.out.below (cE _ wq).drew)
 have HADD:=aA (BO X.bl u (aL S.r) t.c t.m wq.drew hg.1 HWD.out.lf (by unfold maxLen;omega) (by omega) hg.2.2);have k5:=HW.out.c5
 obtain⟨q0,q1,q2,q3,q4⟩:=HC.out;have hcl:=HC.out.lt
 go_region_with (go_at_call 132;refine HADD.out.mono ?_;rintro r w4 ⟨rfl,hS4,hg4⟩;have HS4:=aA hS4;have HG4:=aA hg4;clear hS4 hg4)
 all_goals
  have HW4:=aA (HWD.out.turnLeft (u':=u+1) (r:=cF S.r [t]) (Nat.le_succ _) HG4.out (HS4.out.congr (fun m _=>zU HRF.out HG.out m) (fun m=>bR (cV HRF.out (eS HG.out)).1 m)));have HB4:=aA (HB.out.drew.trans (eQ.map HG4.out (.inr (.inl rfl))))
  have r0:=aS HWD.out.lf (b':=w.heap.size) (o:=1) (v:=.int .i64 t.m.x) q1 HG4.out;have r1:=aS HWD.out.lf (b':=w.heap.size) (o:=2) (v:=.int .i64 t.m.y) q2 HG4.out
  have r2:=aS HWD.out.lf (b':=w.heap.size) (o:=3) (v:=.int .i64 t.m.d) q3 HG4.out;have r3:=aS HWD.out.lf (b':=w.heap.size) (o:=4) (v:=.int .i64 t.m.e) q4 HG4.out
  have k3:=HW4.out.c3;have HW5:=aA (HW4.out.below (cE _ w4).drew)
  obtain⟨w6,hrun,hS6,hg6⟩:=HW5.out.rs.del HG.out.1 0;have HS6:=aA hS6
  have HG6:=aA hg6;clear hS6 hg6 q0 q1 q2 q3 q4 k5 HS4 HG4 HADD;go_wp2_with fail
  go_region_with fail
  all_goals
   go_wp2
   go_end0
   refine⟨rfl,?_,?_⟩
   ·exact HW5.out.turnRest (Nat.le_refl _) HG6.out (HS6.out.congr (fun m _=>zX HPF.out HM.out m) (fun m=>bR (cJ HPF.out (eS HG.out)).1 m))
   ·exact HB4.out.drew.trans (eQ.map HG6.out (.inl rfl))
abbrev C6 (A B C:Nat) (x y:Int) (m:M) (u:World):Prop:=u.cell? ⟨A,0,none⟩=some (.int .i64 x)∧u.cell? ⟨B,0,none⟩=some (.int .i64 y)∧u.cell? ⟨C,0,none⟩=some (.int .i64 m.x)∧u.cell? ⟨C,1,none⟩=some (.int .i64 m.y)∧u.cell? ⟨C,2,none⟩=some (.int .i64 m.d)∧u.cell? ⟨C,3,none⟩=some (.int .i64 m.e)
theorem C6.below {A B C:Nat} {x y:Int} {m:M} {u u':World} (h:C6 A B C x y m u) (hb:Below u.heap.size u u'):C6 A B C x y m u':=
 ⟨(hb.cell (p:=⟨A,0,none⟩) (cU u _ h.1)).trans h.1,(hb.cell (p:=⟨B,0,none⟩) (cU u _ h.2.1)).trans h.2.1,(hb.cell (p:=⟨C,0,none⟩) (cU u _ h.2.2.1)).trans h.2.2.1,(hb.cell (p:=⟨C,1,none⟩) (cU u _ h.2.2.2.1)).trans h.2.2.2.1,(hb.cell (p:=⟨C,2,none⟩) (cU u _ h.2.2.2.2.1)).trans h.2.2.2.2.1,(hb.cell (p:=⟨C,3,none⟩) (cU u _ h.2.2.2.2.2)).trans h.2.2.2.2.2⟩
abbrev D3 (A B o:Nat) (v1 v2 v3:Value) (u:World):Prop:=u.cell? ⟨A,3,none⟩=some v1∧u.cell? ⟨A,1,none⟩=some v2∧u.cell? ⟨B,o,none⟩=some v3
theorem D3.below {A B o:Nat} {v1 v2 v3:Value} {u u':World} (h:D3 A B o v1 v2 v3 u) (hb:Below u.heap.size u u'):D3 A B o v1 v2 v3 u':=
 ⟨(hb.cell (p:=⟨A,3,none⟩) (cU u _ h.1)).trans h.1,(hb.cell (p:=⟨A,1,none⟩) (cU u _ h.2.1)).trans h.2.1,(hb.cell (p:=⟨B,o,none⟩) (cU u _ h.2.2)).trans h.2.2⟩
theorem D3.turn {A B o:Nat} {v1 v2 v3:Value} {u u':World} {b n:Nat} {c:M→Int} (h:D3 A B o v1 v2 v3 u) (hs:bD u b n c) (hg:u.grownBy u' (some b)):D3 A B o v1 v2 v3 u':=
 ⟨aS hs h.1 hg,aS hs h.2.1 hg,aS hs h.2.2 hg⟩
theorem PU {t l:T} (ht:t.m.ok=true∧1≤t.c∧t.c≤100) (hl:l.m.ok=true∧1≤l.c∧l.c≤100):eW t l=⟨OH t.c l.c,(M.over t.m l.m).1⟩:=by unfold eW;rw[IB (by omega) ht.2.2 (by omega) hl.2.2,rS (by omega) hl.2.2]
theorem MS {p Y:List T} (hp:aK p) (hY:aK Y) (m:M):fE 100 (lf Y) (aL p) Y.length m=aL (cQ p Y) m:=by rw[kN (uK hY) (fun m=>bR hp m) _ (Nat.le_refl _),(cJ hp hY).2 m,kT]
theorem Ah (X:sR) (w:World) (fu u N:Nat) (hN:N≤400+400*u) (S:Dv) (t:T) (k:Nat) (h:lJ X w fu u N S) (hok:iK u S) (hu:u<300) (hl:aW X.n X.ln X.f=true) (h0:S.p.length≠0) (ht:dQ X.o S.p=t) (hkn:k<X.n) (hdv:M.dvd (kV X.o X.ln X.f k).m t.m=true):Calls Tryz.prog 90 #[.pointer (some ⟨X.Bd,0,none⟩),.int .i64 (k:Int),.agg #[.int .i64 t.c,.int .i64 t.m.x,.int .i64 t.m.y,.int .i64 t.m.d,.int .i64 t.m.e]] w fun r w'=>eQ X w w'∧((∃S',gI X.o X.ln X.f S k=some S'∧r= .returned (.tuple #[])∧lJ X w' fu (u+1) (N+400) S')∨(gI X.o X.ln X.f S k=none∧r= .panicked [{v:=gW,recovered:=false}])):=by
 have hg:=iF (o:=X.o) (aE hok.p).2 h0;rw[ht]at hg;have hlg:=tH (o:=X.o) hl hkn
 obtain⟨l,hle⟩:∃l,kV X.o X.ln X.f k=l:=⟨_,rfl⟩
 rw[hle]at hlg hdv;obtain⟨q,hqe⟩:∃q,eW t l=q:=⟨_,rfl⟩
 have hqd:=PU hg hlg;rw[hqe]at hqd;have hqg:=qV hg hlg hdv
 rw[hqe]at hqg;have HD:Hid (KU X.o X.ln X.f S k=q):=by show KU X.o X.ln X.f S k=q;unfold KU;rw[ht,hle,hqe]
 have hn12:X.n≤12:=(aT hl).1;have hpk:=((aT hl).2 k hkn).2
 have hs0:=h.s0;have hkc:(k:Int)<(X.n:Int):=by omega
 obtain⟨b1,off1,ea,hb1,hc1⟩:=h.ls.2.2.1.resolve_left (by omega);obtain⟨bt,offt,et,hct⟩:=h.tk.2.resolve_left (by omega);obtain⟨bl1,offl,el,hbl,hcl⟩:=h.ld.2.2.resolve_left (by omega);have k2:=h.c2
 have hbd:X.Bd<w.heap.size:=cU w _ k2;rw[el]at k2;have hov:M.over ⟨t.m.x,t.m.y,t.m.d,t.m.e⟩ ⟨l.m.x,l.m.y,l.m.d,l.m.e⟩=(q.m,true):=by
  rw[hqd];show M.over t.m l.m=((M.over t.m l.m).1,true)
  rw[M.over,if_pos hdv]
 have hqc:OH t.c l.c=q.c:=by rw[hqd]
 have hpo:∀W:World,Calls Tryz.prog 134 #[.int .i64 q.c,.agg #[.int .i64 q.m.x,.int .i64 q.m.y,.int .i64 q.m.d,.int .i64 q.m.e]] W fun r w'=>∃a c,r= .returned (.slice a 1 c)∧Below W.heap.size W w'∧lI W.heap.size w' a c [q]:=fun W=>by
  refine(XV q.c q.m.x q.m.y q.m.d q.m.e W).mono ?_;have e1:iJ q.c ⟨q.m.x,q.m.y,q.m.d,q.m.e⟩=[q]:=by unfold iJ;rw[if_pos ⟨hqg.2,hqg.1⟩]
  rw[e1];rintro r w' ⟨v,rfl,hb,ho⟩;obtain⟨a,c,rfl,hout⟩:=aH ho (by simp);exact⟨a,c,rfl,hb,hout⟩
 have HPO:=aA hpo;have HQC:=aA hqc
 clear hqc;have hlcell:nU w bl1 (offl+k*5) l:=by have:=hcl k hkn;rw[vC X.o X.ln X.f X.n k hkn,hle]at this;exact this
 obtain⟨x0,x1,x2,x3,x4⟩:=hlcell;have HH:=aA h
 have HOK:=aA hok;have HGQ:=aA hqg
 have HPK:=aA hpk;have HCT:=aA hct
 have HC1:=aA hc1;have HBA:=aA (aQ w (.cells #[.int .i64 t.c,.int .i64 t.m.x,.int .i64 t.m.y,.int .i64 t.m.d,.int .i64 t.m.e] 47) (.cells #[.int .i64 l.c,.int .i64 l.m.x,.int .i64 l.m.y,.int .i64 l.m.d,.int .i64 l.m.e] 47))
 have HCT5:=aA ((C5.box w 47 t).below (aC _ (.cells #[.int .i64 l.c,.int .i64 l.m.x,.int .i64 l.m.y,.int .i64 l.m.d,.int .i64 l.m.e] 47)));have HCL5:=aA (C5.box (w.alloc (.cells #[.int .i64 t.c,.int .i64 t.m.x,.int .i64 t.m.y,.int .i64 t.m.d,.int .i64 t.m.e] 47)) 47 l)
 simp only[World.size_alloc]at HCL5;clear h hok hqg hpk hct hc1 hcl hqd hpo hqe hle hlg hdv;go_enter Tryz.func90,Tryz.ntmps90;go_wp2_with fail;refine(uN hov _).mono ?_;rintro r w1 ⟨rfl,hb1'⟩;have HB1:=aA (aB HBA.out hb1')
 have HT1:=aA (HCT5.out.below hb1');have HL1:=aA (HCL5.out.below hb1')
 clear hb1' HBA HCT5 HCL5 x0 x1 x2 x3 x4 k2 hov;go_wp2_with fail;have HB2:=aA (HB1.out.alloc HB1.out.size (.cells #[.int .i64 q.m.x,.int .i64 q.m.y,.int .i64 q.m.d,.int .i64 q.m.e] 45))
 have HT2:=aA (HT1.out.below (aC w1 (.cells #[.int .i64 q.m.x,.int .i64 q.m.y,.int .i64 q.m.d,.int .i64 q.m.e] 45)));have HL2:=aA (HL1.out.below (aC w1 (.cells #[.int .i64 q.m.x,.int .i64 q.m.y,.int .i64 q.m.d,.int .i64 q.m.e] 45)))
 have HO2:=aA (M4.box w1 45 q.m.x q.m.y q.m.d q.m.e);clear HB1 HT1 HL1;generalize(w1.alloc (.cells #[.int .i64 q.m.x,.int .i64 q.m.y,.int .i64 q.m.d,.int .i64 q.m.e] 45))=w2 at HB2 HT2 HL2 HO2⊢;have y0:=HT2.out.1
 have z0:=HL2.out.1;obtain⟨o0,o1,o2,o3⟩:=HO2.out;have hS3:C6 w.heap.size (w.heap.size+1) w1.heap.size t.c l.c q.m w2.drew:=⟨y0,z0,o0,o1,o2,o3⟩
 clear y0 z0 o0 o1 o2 o3
 go_region_held3 (fun u=>u.cell? ⟨w.heap.size,0,none⟩=some (.int .i64 t.c)∧u.cell? ⟨w.heap.size+1,0,none⟩=some (.int .i64 l.c)∧u.cell? ⟨w1.heap.size,0,none⟩=some (.int .i64 q.m.x)∧u.cell? ⟨w1.heap.size,1,none⟩=some (.int .i64 q.m.y)∧u.cell? ⟨w1.heap.size,2,none⟩=some (.int .i64 q.m.d)∧u.cell? ⟨w1.heap.size,3,none⟩=some (.int .i64 q.m.e)) (first|with_reducible exact hS3|with_reducible exact C6.below hS3 bb3) (first|(go_at_call 135;refine(Aw _ _ _).mono ?_;rw[HQC.out];rintro r wd ⟨rfl,hwd⟩;obtain rfl:=hwd.symm;clear hwd)|(go_at_call 134;refine(HPO.out _).mono ?_;rintro r w3 ⟨qa,qc,rfl,bb3,oo3⟩))
 have HB3:=aA (aB HB2.out.drew bb3);have HW3:=aA (HH.out.below HB3.out)
 have HQ3:=aA oo3.1;have k4:=HW3.out.c4
 rw[et]at k4;have kt:w3.cell? ⟨bt,offt+k,none⟩=some (.map (some (X.bk k))):=(HB3.out.cell (p:=⟨bt,offt+k,none⟩) (cU w _ (HCT.out k hkn))).trans (HCT.out k hkn)
 clear hS3 bb3 oo3 HB2 HT2 HL2 HO2 HPO;have fq:=eS HGQ.out
 have hq1:∀i,i<1→(lf [q] i).m.ok=true∧0≤(lf [q] i).c∧(lf [q] i).c≤100:=fun i hi=>by
  obtain rfl:i=0:=by omega
  have:=HGQ.out.2;exact⟨HGQ.out.1,by show 0≤q.c;omega,this.2⟩
 have HADD:=aA (oZ w3 (X.bk k) u (aL (S.q k)) 1 qa 1 qc (lf [q]) (HW3.out.tq k hkn) HQ3.out ((HW3.out.tq k hkn).ne_rd HQ3.out) (fun i hi=>(hq1 i hi).1) (fun i hi=>(hq1 i hi).2) (by omega) (by omega) (by omega) (HW3.out.tq k hkn).lt);clear hq1;go_wp2_with fail;refine HADD.out.mono ?_;rintro r w4 ⟨rfl,hS4,hg4⟩;have hco:∀m,fE 1 (lf [q]) (aL (S.q k)) 1 m=aL (cF (S.q k) [q]) m:=fun m=>by
  rw[kN (n:=1) (uK fq) (fun m=>bR (HOK.out.q k).1 m) 1 (Nat.le_refl _),(cV (HOK.out.q k).1 fq).2 m,show cK (lf [q]) 1 0 m=aL [q] m from kT m [q]];have hb:=bR fq m
  rw[show(1:Int)*aL [q] m%101=aL [q] m by omega]
 have HW4:=aA (HW3.out.turnTaken (u':=u+1) (Nat.le_succ _) hkn hg4 (hS4.congr (fun m _=>hco m) (fun m=>bR (cV (HOK.out.q k).1 fq).1 m)));have HQ4:=aA (HQ3.out.grownMap (HW3.out.tq k hkn) hg4)
 have HB4:=aA ((eQ.of (X:=X) HB3.out).trans (eQ.map hg4 (.inr (.inr ⟨k,hkn,rfl⟩))));clear hS4 hg4 hco HADD HQ3 HW3 HB3 k4 kt fq;have HZW:=aA (HW4.out.below (cE _ w4).drew)
 have HBZ:=aA HB4.out.drew;have hmul:=vJ w4.drew qa (X.ad k) 1 qc (X.ln k) (X.cp k) (lf [q]) (X.f k) (HQ4.out.below (cE _ w4).drew) (HZW.out.ls.2.2.2 k hkn)
 have k3:w4.cell? ⟨X.Bd,3,none⟩=some (.map (some X.br)):=HW4.out.c3;have k1:w4.cell? ⟨X.Bd,1,none⟩=some (.slice (some ⟨b1,off1,none⟩) X.n X.cap):=by rw[←ea];exact HW4.out.c1
 have kc:w4.cell? ⟨b1,off1+k,none⟩=some (.slice (X.ad k) (X.ln k) (X.cp k)):=by
  rcases HW4.out.ls.2.2.1 with hz|⟨b',off',e',_,hc'⟩
  ·omega
  ·rw[ea]at e';cases e';exact hc' k hkn
 have HLO:Hid (X.s0≤w4.drew.heap.size):=HZW.out.s0;have hop:aN 1 (lf [q])=true:=jR HGQ.out
 have ewm:bJ (lf [q]) 1 (X.f k) (X.ln k)=iR (bY (lf [q]) (X.f k) (X.ln k) 1):=if_pos ⟨hop,HPK.out⟩;rw[ewm]at hmul;clear hop ewm;cases hY:bY (lf [q]) (X.f k) (X.ln k) 1 with
 |none=>
  have HN:Hid (gI X.o X.ln X.f S k=none):=by show gI X.o X.ln X.f S k=none;unfold gI;rw[HD.out,hY]
  rw[hY]at hmul;simp only[iR]at hmul;have HMUL:=aA hmul
  clear hmul hY;go_wp2_with fail;refine wp_region_any (by kernel_rfl) ?_
  (try(change wpAny _ _ _ _ _ _ _ (World.drew _)))
  refine wpAny_take (i:=0) (v:=?_) rfl (by kernel_rfl) (by kernel_rfl) (by kernel_rfl) (fun _ _ _ h=>h) (Or.inl ⟨by rfl,?_⟩) ?_;rotate_left
  ·(intro w9;go_simp)<;>with_reducible rfl
  refine wpAny_take (i:=1) (v:=?_) rfl (by kernel_rfl) (by kernel_rfl) (by kernel_rfl) (fun _ _ _ h=>h) (Or.inl ⟨by rfl,?_⟩) ?_;rotate_left
  ·(intro w9;go_simp)<;>with_reducible rfl
  refine wpAny_take (i:=2) (v:=?_) rfl (by kernel_rfl) (by kernel_rfl) (by kernel_rfl) (fun _ _ _ h=>h) (Or.inl ⟨by rfl,?_⟩) ?_;rotate_left
  ·(intro w9;go_simp)<;>with_reducible rfl
  refine wpAny_take (i:=4) (v:=?_) rfl (by kernel_rfl) (by kernel_rfl) (by kernel_rfl) (fun _ _ _ h=>h) (Or.inl ⟨by rfl,?_⟩) ?_;rotate_left
  ·(intro w9;go_simp)<;>with_reducible rfl
  refine wpAny_take (i:=5) (v:=?_) rfl (by kernel_rfl) (by kernel_rfl) (by kernel_rfl) (fun _ _ _ h=>h) (Or.inl ⟨by rfl,?_⟩) ?_;rotate_left
  ·(intro w9;go_simp)<;>with_reducible rfl
  refine wpAny_take (i:=6) (v:=?_) rfl (by kernel_rfl) (by kernel_rfl) (by kernel_rfl) (fun _ _ _ h=>h) (Or.inl ⟨by rfl,?_⟩) ?_;rotate_left
  ·(intro w9;go_simp)<;>with_reducible rfl
  refine wpAny_take (i:=7) (v:=?_) rfl (by kernel_rfl) (by kernel_rfl) (by kernel_rfl) (fun _ _ _ h=>h) (Or.inl ⟨by rfl,?_⟩) ?_;rotate_left
  ·(intro w9;go_simp)<;>with_reducible rfl
  refine wpAny_take (i:=9) (v:=?_) rfl (by kernel_rfl) (by kernel_rfl) (by kernel_rfl) (fun _ _ _ h=>h) (Or.inl ⟨by rfl,?_⟩) ?_;rotate_left
  ·(intro w9;go_simp)<;>with_reducible rfl
  refine wpAny_ready (rs:=[3,8]) (by kernel_rfl) (by simp) ?_;refine AllReady.cons rfl (fun KK hKK=>?_) ?_
  ·go_simp
   (try(refine hKK _ _ ?_;clear hKK KK))
   refine wpAny_ready (rs:=[8]) (by kernel_rfl) (by simp) ?_;refine AllReady.cons rfl (fun KK hKK=>?_) ?_
   ·go_simp
    (try(refine hKK _ _ ?_;clear hKK KK))
    refine wpAny_take (i:=10) (v:=?_) rfl (by kernel_rfl) (by kernel_rfl) (by kernel_rfl) (fun _ _ _ h=>h) (Or.inl ⟨by rfl,?_⟩) ?_;rotate_left
    ·(intro w9;go_simp)<;>with_reducible rfl
    refine wpAny_ready (rs:=[11]) (by kernel_rfl) (by simp) ?_;refine AllReady.cons rfl (fun KK hKK=>?_) ?_
    ·go_simp
     (try(refine hKK _ _ ?_;clear hKK KK))
     refine wpAny_ready (rs:=[12]) (by kernel_rfl) (by simp) ?_;refine AllReady.cons rfl (fun KK hKK=>?_) ?_
     ·go_simp;go_wp2_with (go_at_call 16;refine HMUL.out.mono ?_;rintro e w1 ⟨p1a,p1c,rfl,bb1,oo1⟩;have hs1:=(HZW.out.below bb1).c3)
      (try(refine hKK _ _ ?_;clear hKK KK))
      refine wpAny_take (i:=13) (v:=?_) rfl (by kernel_rfl) (by kernel_rfl) (by kernel_rfl) (fun _ _ _ h=>h) (Or.inl ⟨by rfl,?_⟩) ?_;rotate_left
      ·(intro w9;go_simp)<;>with_reducible rfl
      refine wpAny_take (i:=14) (v:=?_) rfl (by kernel_rfl) (by kernel_rfl) (by kernel_rfl) (fun _ _ _ h=>h) (Or.inl ⟨by rfl,?_⟩) ?_;rotate_left
      ·(intro w9;go_simp)<;>with_reducible rfl
      refine wpAny_ready (rs:=[15]) (by kernel_rfl) (by simp) ?_;refine AllReady.cons rfl (fun KK hKK=>?_) ?_
      ·go_simp;go_wp2_with (go_at_call 92;refine(gY _ _).mono ?_;rintro e wn ⟨rfl,hwn⟩;obtain rfl:=hwn.symm;clear hwn);exact⟨rfl,HBZ.out.trans (eQ.of bb1),.inr ⟨HN.out,rfl⟩⟩
      exact AllReady.nil
     exact AllReady.nil
    exact AllReady.nil
   exact AllReady.nil
  refine AllReady.cons rfl (fun KK hKK=>?_) ?_
  ·go_simp
   (try(refine hKK _ _ ?_;clear hKK KK))
   refine wpAny_take (i:=10) (v:=?_) rfl (by kernel_rfl) (by kernel_rfl) (by kernel_rfl) (fun _ _ _ h=>h) (Or.inl ⟨by rfl,?_⟩) ?_;rotate_left
   ·(intro w9;go_simp)<;>with_reducible rfl
   refine wpAny_ready (rs:=[3,11]) (by kernel_rfl) (by simp) ?_;refine AllReady.cons rfl (fun KK hKK=>?_) ?_
   ·go_simp
    (try(refine hKK _ _ ?_;clear hKK KK))
    refine wpAny_ready (rs:=[11]) (by kernel_rfl) (by simp) ?_;refine AllReady.cons rfl (fun KK hKK=>?_) ?_
    ·go_simp
     (try(refine hKK _ _ ?_;clear hKK KK))
     refine wpAny_ready (rs:=[12]) (by kernel_rfl) (by simp) ?_;refine AllReady.cons rfl (fun KK hKK=>?_) ?_
     ·go_simp;go_wp2_with (go_at_call 16;refine HMUL.out.mono ?_;rintro e w1 ⟨p1a,p1c,rfl,bb1,oo1⟩;have hs1:=(HZW.out.below bb1).c3)
      (try(refine hKK _ _ ?_;clear hKK KK))
      refine wpAny_take (i:=13) (v:=?_) rfl (by kernel_rfl) (by kernel_rfl) (by kernel_rfl) (fun _ _ _ h=>h) (Or.inl ⟨by rfl,?_⟩) ?_;rotate_left
      ·(intro w9;go_simp)<;>with_reducible rfl
      refine wpAny_take (i:=14) (v:=?_) rfl (by kernel_rfl) (by kernel_rfl) (by kernel_rfl) (fun _ _ _ h=>h) (Or.inl ⟨by rfl,?_⟩) ?_;rotate_left
      ·(intro w9;go_simp)<;>with_reducible rfl
      refine wpAny_ready (rs:=[15]) (by kernel_rfl) (by simp) ?_;refine AllReady.cons rfl (fun KK hKK=>?_) ?_
      ·go_simp;go_wp2_with (go_at_call 92;refine(gY _ _).mono ?_;rintro e wn ⟨rfl,hwn⟩;obtain rfl:=hwn.symm;clear hwn);exact⟨rfl,HBZ.out.trans (eQ.of bb1),.inr ⟨HN.out,rfl⟩⟩
      exact AllReady.nil
     exact AllReady.nil
    exact AllReady.nil
   refine AllReady.cons rfl (fun KK hKK=>?_) ?_
   ·go_simp
    (try(refine hKK _ _ ?_;clear hKK KK))
    refine wpAny_ready (rs:=[3,12]) (by kernel_rfl) (by simp) ?_;refine AllReady.cons rfl (fun KK hKK=>?_) ?_
    ·go_simp
     (try(refine hKK _ _ ?_;clear hKK KK))
     refine wpAny_ready (rs:=[12]) (by kernel_rfl) (by simp) ?_;refine AllReady.cons rfl (fun KK hKK=>?_) ?_
     ·go_simp;go_wp2_with (go_at_call 16;refine HMUL.out.mono ?_;rintro e w1 ⟨p1a,p1c,rfl,bb1,oo1⟩;have hs1:=(HZW.out.below bb1).c3)
      (try(refine hKK _ _ ?_;clear hKK KK))
      refine wpAny_take (i:=13) (v:=?_) rfl (by kernel_rfl) (by kernel_rfl) (by kernel_rfl) (fun _ _ _ h=>h) (Or.inl ⟨by rfl,?_⟩) ?_;rotate_left
      ·(intro w9;go_simp)<;>with_reducible rfl
      refine wpAny_take (i:=14) (v:=?_) rfl (by kernel_rfl) (by kernel_rfl) (by kernel_rfl) (fun _ _ _ h=>h) (Or.inl ⟨by rfl,?_⟩) ?_;rotate_left
      ·(intro w9;go_simp)<;>with_reducible rfl
      refine wpAny_ready (rs:=[15]) (by kernel_rfl) (by simp) ?_;refine AllReady.cons rfl (fun KK hKK=>?_) ?_
      ·go_simp;go_wp2_with (go_at_call 92;refine(gY _ _).mono ?_;rintro e wn ⟨rfl,hwn⟩;obtain rfl:=hwn.symm;clear hwn);exact⟨rfl,HBZ.out.trans (eQ.of bb1),.inr ⟨HN.out,rfl⟩⟩
      exact AllReady.nil
     exact AllReady.nil
    refine AllReady.cons rfl (fun KK hKK=>?_) ?_
    ·go_simp;go_wp2_with (go_at_call 16;refine HMUL.out.mono ?_;rintro e w1 ⟨p1a,p1c,rfl,bb1,oo1⟩;have hs1:=(HZW.out.below bb1).c3)
     (try(refine hKK _ _ ?_;clear hKK KK))
     refine wpAny_take (i:=13) (v:=?_) rfl (by kernel_rfl) (by kernel_rfl) (by kernel_rfl) (fun _ _ _ h=>h) (Or.inl ⟨by rfl,?_⟩) ?_;rotate_left
     ·(intro w9;go_simp)<;>with_reducible rfl
     refine wpAny_take (i:=14) (v:=?_) rfl (by kernel_rfl) (by kernel_rfl) (by kernel_rfl) (fun _ _ _ h=>h) (Or.inl ⟨by rfl,?_⟩) ?_;rotate_left
     ·(intro w9;go_simp)<;>with_reducible rfl
     refine wpAny_ready (rs:=[3,15]) (by kernel_rfl) (by simp) ?_;refine AllReady.cons rfl (fun KK hKK=>?_) ?_
     ·go_simp
      (try(refine hKK _ _ ?_;clear hKK KK))
      refine wpAny_ready (rs:=[15]) (by kernel_rfl) (by simp) ?_;refine AllReady.cons rfl (fun KK hKK=>?_) ?_
      ·go_simp;go_wp2_with (go_at_call 92;refine(gY _ _).mono ?_;rintro e wn ⟨rfl,hwn⟩;obtain rfl:=hwn.symm;clear hwn);exact⟨rfl,HBZ.out.trans (eQ.of bb1),.inr ⟨HN.out,rfl⟩⟩
      exact AllReady.nil
     refine AllReady.cons rfl (fun KK hKK=>?_) ?_
     ·go_simp;go_wp2_with (go_at_call 92;refine(gY _ _).mono ?_;rintro e wn ⟨rfl,hwn⟩;obtain rfl:=hwn.symm;clear hwn);exact⟨rfl,HBZ.out.trans (eQ.of bb1),.inr ⟨HN.out,rfl⟩⟩
     exact AllReady.nil
    exact AllReady.nil
   exact AllReady.nil
  exact AllReady.nil
 |some Y=>
  have kY:=wR HGQ.out HPK.out hY;obtain⟨lY,fY⟩:=aE kY;rw[hY]at hmul;simp only[iR]at hmul;have HMUL:=aA hmul
  have fp:=(aE HOK.out.p).2;have hadd:∀(W:World) (ya:Option Addr) (yc:Nat),lJ X W fu (u+1) N ⟨S.p,lE S.q k (cF (S.q k) [q]),S.r⟩→lI w4.drew.heap.size W ya yc Y→Calls Tryz.prog 87 #[.map (some X.br),.int .i64 100,.slice ya Y.length yc] W fun e w'=>e= .returned (.tuple #[])∧bD w' X.br (N+Y.length) (aL (cQ S.p Y))∧W.grownBy w' (some X.br):=fun W ya yc hWW hO=>by refine(oZ W X.br N (aL S.p) 100 ya Y.length yc (lf Y) hWW.rs hO.1 (hWW.rs.ne_rd hO.1) (fun i hi=>(fY.2 _ (lV hi)).1) (fun i hi=>by have:=fY.2 _ (lV hi);omega) (by omega) (by omega) (by omega) hWW.rs.lt).mono ?_;rintro e w' ⟨rfl,hs,hgg⟩;exact⟨rfl,hs.congr (fun m _=>MS fp fY m) (fun m=>bR (cJ fp fY).1 m),hgg⟩
  have HADD:=aA hadd;have HDV:Hid (gI X.o X.ln X.f S k=if(cQ S.p Y).length≤400 then some ⟨cQ S.p Y,lE S.q k (cF (S.q k) [q]),S.r⟩else none):=by show gI X.o X.ln X.f S k=_;unfold gI;rw[HD.out,hY]
  have HFS:=aA (cJ fp fY).1;have hsl:=xJ S.p Y
  clear hmul hY hadd kY;go_wp2_with fail;have hS5:D3 X.Bd b1 (off1+k) (.map (some X.br)) (.slice (some ⟨b1,off1,none⟩) X.n X.cap) (.slice (X.ad k) (X.ln k) (X.cp k)) w4.drew:=⟨k3,k1,kc⟩
  clear k3 k1 kc
  go_region_held3 (fun u=>u.cell? ⟨X.Bd,3,none⟩=some (.map (some X.br))∧u.cell? ⟨X.Bd,1,none⟩=some (.slice (some ⟨b1,off1,none⟩) X.n X.cap)∧u.cell? ⟨b1,off1+k,none⟩=some (.slice (X.ad k) (X.ln k) (X.cp k))) (first|with_reducible exact hS5|with_reducible exact D3.below hS5 bb5|with_reducible exact D3.turn (D3.below hS5 bb5) (HZW.out.below bb5).rs hg6) (first
   |(go_at_call 16;refine HMUL.out.mono ?_;rintro e w5 ⟨ya,yc,rfl,bb5,oo5⟩)
   |(go_at_call 92;refine(jG _ _).mono ?_;rintro e wn ⟨rfl,hwn⟩;obtain rfl:=hwn.symm;clear hwn)
   |(go_at_call 87;refine(HADD.out w5 ya yc (HZW.out.below bb5) oo5).mono ?_;rintro e w6 ⟨rfl,hS6,hg6⟩))
  have HW5:=aA (HZW.out.below bb5);have HW6:=aA (HW5.out.turnRest (N':=N+400) (p:=cQ S.p Y) (Nat.le_refl _) hg6 (hS6.more (by omega)))
  have HB6:=aA ((HBZ.out.trans (eQ.of bb5)).trans (eQ.map hg6 (.inl rfl)));have hlen:=hS6.len HFS.out 3
  have k6:=HW6.out.c3;clear bb5 oo5 hS6 hg6 hS5;by_cases hle:(cQ S.p Y).length≤400
  ·have hgt:¬(400:Int)<((cQ S.p Y).length:Int):=by omega
   have HDS:=aA (HDV.out.trans (if_pos hle));go_wp2
   go_end0
   exact⟨HB6.out,.inl ⟨_,HDS.out,rfl,HW6.out⟩⟩
  ·have hgt:(400:Int)<((cQ S.p Y).length:Int):=by omega
   have HDS:=aA (HDV.out.trans (if_neg hle));go_wp2;exact⟨rfl,HB6.out,.inr ⟨HDS.out,rfl⟩⟩
end Go.Proofs.YtncffcaabnjioaaGreat
