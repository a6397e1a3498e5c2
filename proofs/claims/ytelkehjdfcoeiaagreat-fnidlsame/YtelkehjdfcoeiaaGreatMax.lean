/-
  A division on its way in the world: its struct, its maps; what stays true where other memory turns.
-/
import Derived.Test.YtelkehjdfcoeiaaGreatMaw
set_option maxHeartbeats 8000000
set_option maxRecDepth 100000
namespace Go.Proofs.YtelkehjdfcoeiaaGreat
open Go.RowKit Go.Deep Go.Joins Go.Maps
set_option linter.unusedVariables false
theorem bU.more {w:World} {b n n':Nat} {c:M→Int} (h:bU w b n c) (hn:n≤n'):bU w b n' c:=by obtain⟨D,ho,h2⟩:=h;exact⟨D,vZ ho hn,h2⟩
theorem bU.congr {w:World} {b n:Nat} {c c':M→Int} (h:bU w b n c) (he:∀m,m.ok=true→c m=c' m) (hb:∀m,0≤c' m∧c' m≤100):bU w b n c':=by obtain⟨D,ho,h1,h2,h3⟩:=h;exact⟨D,ho,hb,fun m hm=>by rw[←he m hm];exact h2 m hm,h3⟩
theorem bU.below {w w':World} {b n:Nat} {c:M→Int} (h:bU w b n c) (hb:Below w.heap.size w w'):bU w' b n c:=h.grown (dH hb none) (by simp)
theorem bU.ne_cell {w:World} {b n:Nat} {c:M→Int} (h:bU w b n c) {b' o:Nat} {v:Value} (hc:w.cell? ⟨b',o,none⟩=some v):b'≠b:=by rintro rfl;obtain⟨D,⟨es,clock,h1,_⟩,_⟩:=h;unfold World.cell? at hc;simp[h1]at hc
theorem bU.ne_rd {w:World} {b n:Nat} {c:M→Int} (h:bU w b n c) {a:Option Addr} {k cap:Nat} {f:Nat→T} (hr:Rd w a k cap f):k=0∨∀b' off,a=some ⟨b',off,none⟩→some b'≠some b:=by
 by_cases hk:k=0
 ·exact .inl hk
 ·refine .inr fun b' off e e'=>?_;rcases hr.2.2 with h0|⟨b1,off1,e1,_,hc⟩
  ·exact hk h0
  ·have hne:=h.ne_cell (hc 0 (by omega)).1;rw[e]at e1;have e2:b'=b1:=by simpa using congrArg (fun x:Option Addr=>x.map (·.block)) e1
   have e3:b'=b:=by simpa using e'
   exact hne (e2.symm.trans e3)
theorem Rd.grownMap {w w':World} {b n:Nat} {c:M→Int} (h:bU w b n c) {a:Option Addr} {k cap:Nat} {f:Nat→T} (hr:Rd w a k cap f) (hg:w.grownBy w' (some b)):Rd w' a k cap f:=hr.grown hg (h.ne_rd hr)
theorem bA {w w':World} {b n:Nat} {c:M→Int} (h:bU w b n c) {b' o:Nat} {v:Value} (hc:w.cell? ⟨b',o,none⟩=some v) (hg:w.grownBy w' (some b)):w'.cell? ⟨b',o,none⟩=some v:=
 (lM (a:=⟨b',o,none⟩) (hg.block b' (dD w _ hc) (fun e=>h.ne_cell hc (by simpa using e)))).trans hc
theorem yU {w w':World} {b n:Nat} {c:M→Int} (h:bU w b n c) {b' o:Nat} {v:Value} (hc:w.cell? ⟨b',o,none⟩=some v) {z:Bool} (hz:w.frozen? ⟨b',o,none⟩=z) (hg:w.grownBy w' (some b)):w'.frozen? ⟨b',o,none⟩=z:=
 (World.frozen?_of_block (a:=⟨b',o,none⟩) (hg.block b' (dD w _ hc) (fun e=>h.ne_cell hc (by simpa using e)))).trans hz
theorem eQ.grownMap {w w':World} {b N:Nat} {c:M→Int} (h:bU w b N c) {a:Option Addr} {n cap:Nat} {ad:Nat→Option Addr} {ln cp:Nat→Nat} {f:Nat→Nat→T} (hr:eQ w a n cap ad ln cp f) (hg:w.grownBy w' (some b)):eQ w' a n cap ad ln cp f:=by
 refine⟨hr.1,hr.2.1,?_,fun i hi=>(hr.2.2.2 i hi).grownMap h hg⟩;rcases hr.2.2.1 with h0|⟨b',off,e,hlt,hc⟩
 ·exact .inl h0
 ·exact .inr ⟨b',off,e,lB hlt hg.size,fun i hi=>bA h (hc i hi) hg⟩
structure wR where
 s0:Nat
 Bd:Nat
 rk:Nat
 a:Option Addr
 al:Option Addr
 ta:Option Addr
 n:Nat
 cap:Nat
 cl:Nat
 tc:Nat
 ad:Nat→Option Addr
 ln:Nat→Nat
 cp:Nat→Nat
 f:Nat→Nat→T
 o:Int
 br:Nat
 bl:Nat
 bk:Nat→Nat
structure nV (X:wR) (w:World) (fu u N:Nat) (S:Dv):Prop where
 c0:w.cell? ⟨X.Bd,0,none⟩=some (.func (.func X.rk) #[] #[])
 c1:w.cell? ⟨X.Bd,1,none⟩=some (.slice X.a X.n X.cap)
 c2:w.cell? ⟨X.Bd,2,none⟩=some (.slice X.al X.n X.cl)
 c3:w.cell? ⟨X.Bd,3,none⟩=some (.map (some X.br))
 c4:w.cell? ⟨X.Bd,4,none⟩=some (.slice X.ta X.n X.tc)
 c5:w.cell? ⟨X.Bd,5,none⟩=some (.map (some X.bl))
 c6:w.cell? ⟨X.Bd,6,none⟩=some (.int .i64 (fu:Int))
 fz:w.frozen? ⟨X.Bd,6,none⟩=false
 ls:eQ w X.a X.n X.cap X.ad X.ln X.cp X.f
 ld:Rd w X.al X.n X.cl (lf (nU X.o X.ln X.f X.n))
 tk:X.n≤X.tc∧(X.n=0∨∃bt off,X.ta=some ⟨bt,off,none⟩∧∀i,i<X.n→w.cell? ⟨bt,off+i,none⟩=some (.map (some (X.bk i))))
 rs:bU w X.br N (aM S.p)
 lf:bU w X.bl u (aM S.r)
 tq:∀i,i<X.n→bU w (X.bk i) u (aM (S.q i))
 ne:X.br≠X.bl∧∀i,i<X.n→X.bk i≠X.br∧X.bk i≠X.bl∧∀j,j<X.n→i≠j→X.bk i≠X.bk j
 lo:X.s0≤X.Bd∧X.s0≤X.br∧X.s0≤X.bl∧∀i,i<X.n→X.s0≤X.bk i
 sp:X.n=0∨((∀b off,X.a=some ⟨b,off,none⟩→b≠X.Bd)∧(∀i,i<X.n→X.ln i=0∨∀b off,X.ad i=some ⟨b,off,none⟩→b≠X.Bd)∧(∀b off,X.al=some ⟨b,off,none⟩→b≠X.Bd)∧(∀b off,X.ta=some ⟨b,off,none⟩→b≠X.Bd))
theorem nV.below {X:wR} {w w':World} {fu u N:Nat} {S:Dv} (h:nV X w fu u N S) (hb:Below w.heap.size w w'):nV X w' fu u N S where
 c0:=(hb.cell (p:=⟨X.Bd,0,none⟩) (dD w _ h.c0)).trans h.c0
 c1:=(hb.cell (p:=⟨X.Bd,1,none⟩) (dD w _ h.c1)).trans h.c1
 c2:=(hb.cell (p:=⟨X.Bd,2,none⟩) (dD w _ h.c2)).trans h.c2
 c3:=(hb.cell (p:=⟨X.Bd,3,none⟩) (dD w _ h.c3)).trans h.c3
 c4:=(hb.cell (p:=⟨X.Bd,4,none⟩) (dD w _ h.c4)).trans h.c4
 c5:=(hb.cell (p:=⟨X.Bd,5,none⟩) (dD w _ h.c5)).trans h.c5
 c6:=(hb.cell (p:=⟨X.Bd,6,none⟩) (dD w _ h.c6)).trans h.c6
 fz:=(hb.frozen (p:=⟨X.Bd,6,none⟩) (dD w _ h.c6)).trans h.fz
 ls:=h.ls.below hb
 ld:=h.ld.below hb
 tk:=⟨h.tk.1,h.tk.2.imp id (fun⟨bt,off,e,hc⟩=>⟨bt,off,e,fun i hi=>(hb.cell (p:=⟨bt,off+i,none⟩) (dD w _ (hc i hi))).trans (hc i hi)⟩)⟩
 rs:=h.rs.below hb
 lf:=h.lf.below hb
 tq:=fun i hi=>(h.tq i hi).below hb
 ne:=h.ne
 lo:=h.lo
 sp:=h.sp
theorem nV.turn {X:wR} {w w':World} {fu u N u' N':Nat} {S S':Dv} (h:nV X w fu u N S) {b K:Nat} {c:M→Int} (hm:bU w b K c) (hg:w.grownBy w' (some b)) (rs:bU w' X.br N' (aM S'.p)) (lf:bU w' X.bl u' (aM S'.r)) (tq:∀i,i<X.n→bU w' (X.bk i) u' (aM (S'.q i))):nV X w' fu u' N' S' where
 c0:=bA hm h.c0 hg
 c1:=bA hm h.c1 hg
 c2:=bA hm h.c2 hg
 c3:=bA hm h.c3 hg
 c4:=bA hm h.c4 hg
 c5:=bA hm h.c5 hg
 c6:=bA hm h.c6 hg
 fz:=yU hm h.c6 h.fz hg
 ls:=h.ls.grownMap hm hg
 ld:=h.ld.grownMap hm hg
 tk:=⟨h.tk.1,h.tk.2.imp id (fun⟨bt,off,e,hc⟩=>⟨bt,off,e,fun i hi=>bA hm (hc i hi) hg⟩)⟩
 rs:=rs
 lf:=lf
 tq:=tq
 ne:=h.ne
 lo:=h.lo
 sp:=h.sp
theorem nV.turnRest {X:wR} {w w':World} {fu u N u' N':Nat} {S:Dv} {p:List T} (h:nV X w fu u N S) (hu:u≤u') (hg:w.grownBy w' (some X.br)) (rs:bU w' X.br N' (aM p)):nV X w' fu u' N' ⟨p,S.q,S.r⟩:=
 h.turn h.rs hg rs ((h.lf.grown hg (by simpa using h.ne.1.symm)).more hu) (fun i hi=>((h.tq i hi).grown hg (by simpa using(h.ne.2 i hi).1)).more hu)
theorem nV.turnLeft {X:wR} {w w':World} {fu u N u':Nat} {S:Dv} {r:List T} (h:nV X w fu u N S) (hu:u≤u') (hg:w.grownBy w' (some X.bl)) (lf:bU w' X.bl u' (aM r)):nV X w' fu u' N ⟨S.p,S.q,r⟩:=
 h.turn h.lf hg (h.rs.grown hg (by simpa using h.ne.1)) lf (fun i hi=>((h.tq i hi).grown hg (by simpa using(h.ne.2 i hi).2.1)).more hu)
theorem nV.turnTaken {X:wR} {w w':World} {fu u N u':Nat} {S:Dv} {q:List T} (h:nV X w fu u N S) (hu:u≤u') {k:Nat} (hk:k<X.n) (hg:w.grownBy w' (some (X.bk k))) (hq:bU w' (X.bk k) u' (aM q)):nV X w' fu u' N ⟨S.p,nO S.q k q,S.r⟩:=by
 refine h.turn (h.tq k hk) hg (h.rs.grown hg (by simpa using(h.ne.2 k hk).1.symm)) ((h.lf.grown hg (by simpa using(h.ne.2 k hk).2.1.symm)).more hu) (fun i hi=>?_);show bU w' (X.bk i) u' (aM (nO S.q k q i))
 unfold nO;split
 ·rename_i e;rw[e];exact hq
 ·rename_i e;exact((h.tq i hi).grown hg (by simpa using(h.ne.2 k hk).2.2 i hi (fun e'=>e e'.symm) |>.symm)).more hu
theorem nV.burn {X:wR} {w:World} {fu u N:Nat} {S:Dv} (h:nV X w (fu+1) u N S):nV X (w.setCell ⟨X.Bd,6,none⟩ (.int .i64 (fu:Int))) fu u N S:=by
 have hg:=jJ w X.Bd 6 (.int .i64 (fu:Int));have hcell:∀{b o:Nat} {v:Value},w.cell? ⟨b,o,none⟩=some v→(b≠X.Bd∨o≠6)→(w.setCell ⟨X.Bd,6,none⟩ (.int .i64 (fu:Int))).cell? ⟨b,o,none⟩=some v:=fun{b o v} hc hne=>by rw[World.cell?_setCell_other _ _ _ _ (by intro e;cases e;rcases hne with h|h<;>exact h rfl)];exact hc
 have hmap:∀{b N:Nat} {c:M→Int},bU w b N c→bU (w.setCell ⟨X.Bd,6,none⟩ (.int .i64 (fu:Int))) b N c:=fun{b N c} hs=>hs.grown hg (by simpa using(hs.ne_cell h.c0).symm);have hrd:∀{a:Option Addr} {k cap:Nat} {f:Nat→T},Rd w a k cap f→(k=0∨∀b off,a=some ⟨b,off,none⟩→b≠X.Bd)→Rd (w.setCell ⟨X.Bd,6,none⟩ (.int .i64 (fu:Int))) a k cap f:=fun{a k cap f} hr hne=>hr.grown hg (hne.imp id (fun hn b off e e'=>hn b off e (by simpa using e')))
 rcases h.sp with hn0|hsp
 ·exact{
   c0:=hcell h.c0 (.inr (by decide))
   c1:=hcell h.c1 (.inr (by decide))
   c2:=hcell h.c2 (.inr (by decide))
   c3:=hcell h.c3 (.inr (by decide))
   c4:=hcell h.c4 (.inr (by decide))
   c5:=hcell h.c5 (.inr (by decide))
   c6:=by simp[go_sem,h.c6]
   fz:=by simp[go_sem,h.fz]
   ls:=⟨h.ls.1,h.ls.2.1,.inl hn0,fun i hi=>absurd hi (by omega)⟩
   ld:=hrd h.ld (.inl hn0)
   tk:=⟨h.tk.1,.inl hn0⟩
   rs:=hmap h.rs
   lf:=hmap h.lf
   tq:=fun i hi=>hmap (h.tq i hi)
   ne:=h.ne
   lo:=h.lo
   sp:=h.sp}
 ·exact{
   c0:=hcell h.c0 (.inr (by decide))
   c1:=hcell h.c1 (.inr (by decide))
   c2:=hcell h.c2 (.inr (by decide))
   c3:=hcell h.c3 (.inr (by decide))
   c4:=hcell h.c4 (.inr (by decide))
   c5:=hcell h.c5 (.inr (by decide))
   c6:=by simp[go_sem,h.c6]
   fz:=by simp[go_sem,h.fz]
   ls:=⟨h.ls.1,h.ls.2.1,h.ls.2.2.1.imp id (fun⟨b,off,e,hlt,hc⟩=>⟨b,off,e,lB hlt hg.size,fun i hi=>hcell (hc i hi) (.inl (hsp.1 b off e))⟩),fun i hi=>hrd (h.ls.2.2.2 i hi) (hsp.2.1 i hi)⟩
   ld:=hrd h.ld (.inr hsp.2.2.1)
   tk:=⟨h.tk.1,h.tk.2.imp id (fun⟨bt,off,e,hc⟩=>⟨bt,off,e,fun i hi=>hcell (hc i hi) (.inl (hsp.2.2.2 bt off e))⟩)⟩
   rs:=hmap h.rs
   lf:=hmap h.lf
   tq:=fun i hi=>hmap (h.tq i hi)
   ne:=h.ne
   lo:=h.lo
   sp:=h.sp}
structure gC (X:wR) (w w':World):Prop where
 os:w'.os=w.os
 tape:w'.tape=w.tape
 output:w'.output=w.output
 size:w.heap.size≤w'.heap.size
 block:∀b,b<w.heap.size→b≠X.Bd→b≠X.br→b≠X.bl→(∀i,i<X.n→b≠X.bk i)→w'.heap[b]? =w.heap[b]?
theorem gC.of {X:wR} {w w':World} (h:Below w.heap.size w w'):gC X w w':=⟨h.os,h.tape,h.output,h.size,fun b hb _ _ _ _=>h.block b hb⟩
theorem gC.trans {X:wR} {w w' w'':World} (h:gC X w w') (k:gC X w' w''):gC X w w'':=
 ⟨k.os.trans h.os,k.tape.trans h.tape,k.output.trans h.output,jQ h.size k.size,fun b hb h1 h2 h3 h4=>(k.block b (lB hb h.size) h1 h2 h3 h4).trans (h.block b hb h1 h2 h3 h4)⟩
theorem gC.drew {X:wR} {w w':World} (h:gC X w w'):gC X w w'.drew:=h.trans (gC.of (bG _ _).drew)
theorem gC.map {X:wR} {w w':World} {b:Nat} (hg:w.grownBy w' (some b)) (h:b=X.br∨b=X.bl∨∃i,i<X.n∧b=X.bk i):gC X w w':=
 ⟨hg.os,hg.tape,hg.output,hg.size,fun c hc h1 h2 h3 h4=>hg.block c hc (fun e=>by
  obtain rfl:c=b:=by simpa using e
  rcases h with rfl|rfl|⟨i,hi,rfl⟩
  ·exact h2 rfl
  ·exact h3 rfl
  ·exact h4 i hi rfl)⟩
theorem gC.fuel {X:wR} {w w':World} (hg:w.grownBy w' (some X.Bd)):gC X w w':=
 ⟨hg.os,hg.tape,hg.output,hg.size,fun c hc h1 _ _ _=>hg.block c hc (fun e=>h1 (by simpa using e))⟩
theorem gC.below {X:wR} {w w':World} (h:gC X w w') {fu u N:Nat} {S:Dv} (hd:nV X w fu u N S):Below X.s0 w w':=
 ⟨h.os,h.tape,h.output,h.size,fun b hb=>h.block b (lB hb (jQ hd.lo.1 (Nat.le_of_lt (dD w _ hd.c0)))) (by have:=hd.lo.1;omega) (by have:=hd.lo.2.1;omega) (by have:=hd.lo.2.2.1;omega) (fun i hi=>by have:=hd.lo.2.2.2 i hi;omega)⟩
theorem bU.del {w:World} {b n:Nat} {c:M→Int} (h:bU w b n c) {m:M} (hm:m.ok=true) (ty:TypeId):∃w',(Builtin.delete_ #[95,84] ty #[.map (some b),.agg #[.int .i64 m.x,.int .i64 m.y,.int .i64 m.d,.int .i64 m.e]]).run Tryz.prog w= .ok (.tuple #[]) w'∧bU w' b n (fun x=>if Kv x m=true then 0 else c x)∧w.grownBy w' (some b):=by
 obtain⟨D,hown,hc,hat,hks⟩:=h;obtain⟨w',hrun,ho,ht⟩:=hown.drop mE Tryz.underlying95 (oO hm) ty;refine⟨w',hrun,⟨_,ho,fun x=>?_,fun x hx=>?_,fun kl hkl=>?_⟩,ht.grown⟩
 ·dsimp only;split
  ·exact⟨Int.le_refl _,by decide⟩
  ·exact hc x
 ·by_cases hxm:x=m
  ·subst hxm;rw[atKey_del_same,has_del_same];simp[fZ.2 rfl]
  ·have hne:eD x≠eD m:=fun e=>hxm (vR hx hm e);have hb:¬Kv x m=true:=fun e=>hxm (fZ.1 e)
   rw[atKey_del_other hne,has_del_other hne];simp only[hb];exact hat x hx
 ·by_cases hkm:kl=eD m
  ·exact⟨m,hm,hkm⟩
  ·rw[has_del_other hkm]at hkl;exact hks kl hkl
theorem bU.len {w:World} {b n:Nat} {K:List T} (h:bU w b n (aM K)) (hK:aL K) (ty:TypeId):(Builtin.len_ #[95] ty #[.map (some b)]).run Tryz.prog w= .ok (.int .i64 (K.length:Int)) w:=by
 obtain⟨D,hown,hc,hat,hks⟩:=h;have h1:=hown.len Tryz.underlying95 ty
 rw[IJ hown hat hks hK (fun _ _=>rfl)]at h1;exact h1
theorem FS {L:List T} (hL:aL L) {t:T} (ht:t.m.ok=true∧1≤t.c∧t.c≤100):∀x,nN (aM L) t.m t.c x=aM (dG L [t]) x:=fun x=>by
 rw[(cW hL (dW ht)).2 x];unfold nN;by_cases e:x=t.m
 ·subst e;rw[if_pos (fZ.2 rfl),bH]
 ·have hb:=cC hL x;rw[if_neg (fun e'=>e (fZ.1 e')),iE (fun e'=>e e'.symm)];show aM L x=(aM L x+0)%101
  omega
theorem FZ {L:List T} (hL:aL L) {t:T} (ht:t∈L):∀x,(if Kv x t.m=true then 0 else aM L x)=aM (dC L [t]) x:=fun x=>by
 have ht':=hL.2 t ht;rw[(cO hL (dW ht')).2 x];by_cases e:x=t.m
 ·subst e;rw[if_pos (fZ.2 rfl),bH,(eN hL ht).1];omega
 ·have hb:=cC hL x;rw[if_neg (fun e'=>e (fZ.1 e')),iE (fun e'=>e e'.symm)];show aM L x=(aM L x+100*0%101)%101
  omega
theorem nV.s0 {X:wR} {w:World} {fu u N:Nat} {S:Dv} (h:nV X w fu u N S):X.s0≤w.heap.size:=jQ h.lo.1 (Nat.le_of_lt (dD w _ h.c0))
theorem Jr (X:wR) (w:World) (fu u N:Nat) (S:Dv) (t:T) (h:nV X w fu u N S) (hok:kM u S) (hu:u<300) (h0:S.p.length≠0) (ht:aU X.o S.p=t):Calls Tryz.prog 141 #[.pointer (some ⟨X.Bd,0,none⟩),.agg #[.int .i64 t.c,.int .i64 t.m.x,.int .i64 t.m.y,.int .i64 t.m.d,.int .i64 t.m.e]] w fun r w'=>r= .returned (.tuple #[])∧nV X w' fu (u+1) N (jN X.o S)∧gC X w w':=by
 have hg:=dJ (o:=X.o) (aD hok.p).2 h0;have hmem:=gJ (o:=X.o) h0
 rw[ht]at hg hmem;have HE:Hid (jN X.o S=⟨dC S.p [t],S.q,dG S.r [t]⟩):=by show jN X.o S=_;unfold jN;rw[ht]
 have hs0:=h.s0;have HB:=aA (gC.of (X:=X) (aC w (.cells #[.int .i64 t.c,.int .i64 t.m.x,.int .i64 t.m.y,.int .i64 t.m.d,.int .i64 t.m.e] 86)))
 have HW:=aA (h.below (aC w (.cells #[.int .i64 t.c,.int .i64 t.m.x,.int .i64 t.m.y,.int .i64 t.m.d,.int .i64 t.m.e] 86)));have HC:=aA (C5.box w 86 t)
 have HRF:=aA hok.r.1;have HPF:=aA (aD hok.p).2
 have HM:=aA hmem;have HG:=aA hg
 clear h hok ht hmem;rw[HE.out];go_enter Tryz.func141,Tryz.ntmps141;go_wp2_with fail;generalize(w.alloc (.cells #[.int .i64 t.c,.int .i64 t.m.x,.int .i64 t.m.y,.int .i64 t.m.d,.int .i64 t.m.e] 86))=wq at HB HW HC⊢;have HWD:=aA (HW.out.below (bG _ wq).drew)
 have HADD:=aA (IR X.bl u (aM S.r) t.c t.m wq.drew hg.1 HWD.out.lf (by unfold maxLen;omega) (by omega) hg.2.2);have k5:=HW.out.c5
 obtain⟨q0,q1,q2,q3,q4⟩:=HC.out;have hcl:=HC.out.lt
 go_region_with (go_at_call 145;refine HADD.out.mono ?_;rintro r w4 ⟨rfl,hS4,hg4⟩;have HS4:=aA hS4;have HG4:=aA hg4;clear hS4 hg4)
 all_goals
  have HW4:=aA (HWD.out.turnLeft (u':=u+1) (r:=dG S.r [t]) (Nat.le_succ _) HG4.out (HS4.out.congr (fun m _=>FS HRF.out HG.out m) (fun m=>cC (cW HRF.out (dW HG.out)).1 m)));have HB4:=aA (HB.out.drew.trans (gC.map HG4.out (.inr (.inl rfl))))
  have r0:=bA HWD.out.lf (b':=w.heap.size) (o:=1) (v:=.int .i64 t.m.x) q1 HG4.out;have r1:=bA HWD.out.lf (b':=w.heap.size) (o:=2) (v:=.int .i64 t.m.y) q2 HG4.out
  have r2:=bA HWD.out.lf (b':=w.heap.size) (o:=3) (v:=.int .i64 t.m.d) q3 HG4.out;have r3:=bA HWD.out.lf (b':=w.heap.size) (o:=4) (v:=.int .i64 t.m.e) q4 HG4.out
  have k3:=HW4.out.c3;have HW5:=aA (HW4.out.below (bG _ w4).drew)
  obtain⟨w6,hrun,hS6,hg6⟩:=HW5.out.rs.del HG.out.1 0;have HS6:=aA hS6
  have HG6:=aA hg6;clear hS6 hg6 q0 q1 q2 q3 q4 k5 HS4 HG4 HADD;go_wp2_with fail
  go_region_with fail
  all_goals
   go_wp2
   go_end0
   refine⟨rfl,?_,?_⟩
   ·exact HW5.out.turnRest (Nat.le_refl _) HG6.out (HS6.out.congr (fun m _=>FZ HPF.out HM.out m) (fun m=>cC (cO HPF.out (dW HG.out)).1 m))
   ·exact HB4.out.drew.trans (gC.map HG6.out (.inl rfl))
abbrev C6 (A B C:Nat) (x y:Int) (m:M) (u:World):Prop:=u.cell? ⟨A,0,none⟩=some (.int .i64 x)∧u.cell? ⟨B,0,none⟩=some (.int .i64 y)∧u.cell? ⟨C,0,none⟩=some (.int .i64 m.x)∧u.cell? ⟨C,1,none⟩=some (.int .i64 m.y)∧u.cell? ⟨C,2,none⟩=some (.int .i64 m.d)∧u.cell? ⟨C,3,none⟩=some (.int .i64 m.e)
theorem C6.below {A B C:Nat} {x y:Int} {m:M} {u u':World} (h:C6 A B C x y m u) (hb:Below u.heap.size u u'):C6 A B C x y m u':=
 ⟨(hb.cell (p:=⟨A,0,none⟩) (dD u _ h.1)).trans h.1,(hb.cell (p:=⟨B,0,none⟩) (dD u _ h.2.1)).trans h.2.1,(hb.cell (p:=⟨C,0,none⟩) (dD u _ h.2.2.1)).trans h.2.2.1,(hb.cell (p:=⟨C,1,none⟩) (dD u _ h.2.2.2.1)).trans h.2.2.2.1,(hb.cell (p:=⟨C,2,none⟩) (dD u _ h.2.2.2.2.1)).trans h.2.2.2.2.1,(hb.cell (p:=⟨C,3,none⟩) (dD u _ h.2.2.2.2.2)).trans h.2.2.2.2.2⟩
abbrev D3 (A B o:Nat) (v1 v2 v3:Value) (u:World):Prop:=u.cell? ⟨A,3,none⟩=some v1∧u.cell? ⟨A,1,none⟩=some v2∧u.cell? ⟨B,o,none⟩=some v3
theorem D3.below {A B o:Nat} {v1 v2 v3:Value} {u u':World} (h:D3 A B o v1 v2 v3 u) (hb:Below u.heap.size u u'):D3 A B o v1 v2 v3 u':=
 ⟨(hb.cell (p:=⟨A,3,none⟩) (dD u _ h.1)).trans h.1,(hb.cell (p:=⟨A,1,none⟩) (dD u _ h.2.1)).trans h.2.1,(hb.cell (p:=⟨B,o,none⟩) (dD u _ h.2.2)).trans h.2.2⟩
theorem D3.turn {A B o:Nat} {v1 v2 v3:Value} {u u':World} {b n:Nat} {c:M→Int} (h:D3 A B o v1 v2 v3 u) (hs:bU u b n c) (hg:u.grownBy u' (some b)):D3 A B o v1 v2 v3 u':=
 ⟨bA hs h.1 hg,bA hs h.2.1 hg,bA hs h.2.2 hg⟩
theorem Ae {t l:T} (ht:t.m.ok=true∧1≤t.c∧t.c≤100) (hl:l.m.ok=true∧1≤l.c∧l.c≤100):gH t l=⟨YE t.c l.c,(M.over t.m l.m).1⟩:=by unfold gH;rw[QL (by omega) ht.2.2 (by omega) hl.2.2,vF (by omega) hl.2.2]
theorem WO {p Y:List T} (hp:aL p) (hY:aL Y) (m:M):iP 100 (lf Y) (aM p) Y.length m=aM (dC p Y) m:=by rw[mU (yJ hY) (fun m=>cC hp m) _ (Nat.le_refl _),(cO hp hY).2 m,nB]
theorem Nj (X:wR) (w:World) (fu u N:Nat) (hN:N≤400+400*u) (S:Dv) (t:T) (k:Nat) (h:nV X w fu u N S) (hok:kM u S) (hu:u<300) (hl:bB X.n X.ln X.f=true) (h0:S.p.length≠0) (ht:aU X.o S.p=t) (hkn:k<X.n) (hdv:M.dvd (nT X.o X.ln X.f k).m t.m=true):Calls Tryz.prog 140 #[.pointer (some ⟨X.Bd,0,none⟩),.int .i64 (k:Int),.agg #[.int .i64 t.c,.int .i64 t.m.x,.int .i64 t.m.y,.int .i64 t.m.d,.int .i64 t.m.e]] w fun r w'=>gC X w w'∧((∃S',jH X.o X.ln X.f S k=some S'∧r= .returned (.tuple #[])∧nV X w' fu (u+1) (N+400) S')∨(jH X.o X.ln X.f S k=none∧r= .panicked [{v:=gB,recovered:=false}])):=by
 have hg:=dJ (o:=X.o) (aD hok.p).2 h0;rw[ht]at hg;have hlg:=xH (o:=X.o) hl hkn
 obtain⟨l,hle⟩:∃l,nT X.o X.ln X.f k=l:=⟨_,rfl⟩
 rw[hle]at hlg hdv;obtain⟨q,hqe⟩:∃q,gH t l=q:=⟨_,rfl⟩
 have hqd:=Ae hg hlg;rw[hqe]at hqd;have hqg:=uD hg hlg hdv
 rw[hqe]at hqg;have HD:Hid (UG X.o X.ln X.f S k=q):=by show UG X.o X.ln X.f S k=q;unfold UG;rw[ht,hle,hqe]
 have hn12:X.n≤12:=(aQ hl).1;have hpk:=((aQ hl).2 k hkn).2
 have hs0:=h.s0;have hkc:(k:Int)<(X.n:Int):=by omega
 obtain⟨b1,off1,ea,hb1,hc1⟩:=h.ls.2.2.1.resolve_left (by omega);obtain⟨bt,offt,et,hct⟩:=h.tk.2.resolve_left (by omega);obtain⟨bl1,offl,el,hbl,hcl⟩:=h.ld.2.2.resolve_left (by omega);have k2:=h.c2
 have hbd:X.Bd<w.heap.size:=dD w _ k2;rw[el]at k2;have hov:M.over ⟨t.m.x,t.m.y,t.m.d,t.m.e⟩ ⟨l.m.x,l.m.y,l.m.d,l.m.e⟩=(q.m,true):=by
  rw[hqd];show M.over t.m l.m=((M.over t.m l.m).1,true)
  rw[M.over,if_pos hdv]
 have hqc:YE t.c l.c=q.c:=by rw[hqd]
 have hpo:∀W:World,Calls Tryz.prog 75 #[.int .i64 q.c,.agg #[.int .i64 q.m.x,.int .i64 q.m.y,.int .i64 q.m.d,.int .i64 q.m.e]] W fun r w'=>∃a c,r= .returned (.slice a 1 c)∧Below W.heap.size W w'∧jG W.heap.size w' a c [q]:=fun W=>by
  refine(Ao q.c q.m.x q.m.y q.m.d q.m.e W).mono ?_;have e1:kK q.c ⟨q.m.x,q.m.y,q.m.d,q.m.e⟩=[q]:=by unfold kK;rw[if_pos ⟨hqg.2,hqg.1⟩]
  rw[e1];rintro r w' ⟨v,rfl,hb,ho⟩;obtain⟨a,c,rfl,hout⟩:=aI ho (by simp);exact⟨a,c,rfl,hb,hout⟩
 have HPO:=aA hpo;have HQC:=aA hqc
 clear hqc;have hlcell:qM w bl1 (offl+k*5) l:=by have:=hcl k hkn;rw[zE X.o X.ln X.f X.n k hkn,hle]at this;exact this
 obtain⟨x0,x1,x2,x3,x4⟩:=hlcell;have HH:=aA h
 have HOK:=aA hok;have HGQ:=aA hqg
 have HPK:=aA hpk;have HCT:=aA hct
 have HC1:=aA hc1;have HBA:=aA (aS w (.cells #[.int .i64 t.c,.int .i64 t.m.x,.int .i64 t.m.y,.int .i64 t.m.d,.int .i64 t.m.e] 86) (.cells #[.int .i64 l.c,.int .i64 l.m.x,.int .i64 l.m.y,.int .i64 l.m.d,.int .i64 l.m.e] 86))
 have HCT5:=aA ((C5.box w 86 t).below (aC _ (.cells #[.int .i64 l.c,.int .i64 l.m.x,.int .i64 l.m.y,.int .i64 l.m.d,.int .i64 l.m.e] 86)));have HCL5:=aA (C5.box (w.alloc (.cells #[.int .i64 t.c,.int .i64 t.m.x,.int .i64 t.m.y,.int .i64 t.m.d,.int .i64 t.m.e] 86)) 86 l)
 simp only[World.size_alloc]at HCL5;clear h hok hqg hpk hct hc1 hcl hqd hpo hqe hle hlg hdv;go_enter Tryz.func140,Tryz.ntmps140;go_wp2_with fail;refine(yQ hov _).mono ?_;rintro r w1 ⟨rfl,hb1'⟩;have HB1:=aA (aB HBA.out hb1')
 have HT1:=aA (HCT5.out.below hb1');have HL1:=aA (HCL5.out.below hb1')
 clear hb1' HBA HCT5 HCL5 x0 x1 x2 x3 x4 k2 hov;go_wp2_with fail;have HB2:=aA (HB1.out.alloc HB1.out.size (.cells #[.int .i64 q.m.x,.int .i64 q.m.y,.int .i64 q.m.d,.int .i64 q.m.e] 84))
 have HT2:=aA (HT1.out.below (aC w1 (.cells #[.int .i64 q.m.x,.int .i64 q.m.y,.int .i64 q.m.d,.int .i64 q.m.e] 84)));have HL2:=aA (HL1.out.below (aC w1 (.cells #[.int .i64 q.m.x,.int .i64 q.m.y,.int .i64 q.m.d,.int .i64 q.m.e] 84)))
 have HO2:=aA (M4.box w1 84 q.m.x q.m.y q.m.d q.m.e);clear HB1 HT1 HL1;generalize(w1.alloc (.cells #[.int .i64 q.m.x,.int .i64 q.m.y,.int .i64 q.m.d,.int .i64 q.m.e] 84))=w2 at HB2 HT2 HL2 HO2⊢;have y0:=HT2.out.1
 have z0:=HL2.out.1;obtain⟨o0,o1,o2,o3⟩:=HO2.out;have hS3:C6 w.heap.size (w.heap.size+1) w1.heap.size t.c l.c q.m w2.drew:=⟨y0,z0,o0,o1,o2,o3⟩
 clear y0 z0 o0 o1 o2 o3
 go_region_held3 (fun u=>u.cell? ⟨w.heap.size,0,none⟩=some (.int .i64 t.c)∧u.cell? ⟨w.heap.size+1,0,none⟩=some (.int .i64 l.c)∧u.cell? ⟨w1.heap.size,0,none⟩=some (.int .i64 q.m.x)∧u.cell? ⟨w1.heap.size,1,none⟩=some (.int .i64 q.m.y)∧u.cell? ⟨w1.heap.size,2,none⟩=some (.int .i64 q.m.d)∧u.cell? ⟨w1.heap.size,3,none⟩=some (.int .i64 q.m.e)) (first|with_reducible exact hS3|with_reducible exact C6.below hS3 bb3) (first|(go_at_call 169;refine(Ob _ _ _).mono ?_;rw[HQC.out];rintro r wd ⟨rfl,hwd⟩;obtain rfl:=hwd.symm;clear hwd)|(go_at_call 75;refine(HPO.out _).mono ?_;rintro r w3 ⟨qa,qc,rfl,bb3,oo3⟩))
 have HB3:=aA (aB HB2.out.drew bb3);have HW3:=aA (HH.out.below HB3.out)
 have HQ3:=aA oo3.1;have k4:=HW3.out.c4
 rw[et]at k4;have kt:w3.cell? ⟨bt,offt+k,none⟩=some (.map (some (X.bk k))):=(HB3.out.cell (p:=⟨bt,offt+k,none⟩) (dD w _ (HCT.out k hkn))).trans (HCT.out k hkn)
 clear hS3 bb3 oo3 HB2 HT2 HL2 HO2 HPO;have fq:=dW HGQ.out
 have hq1:∀i,i<1→(lf [q] i).m.ok=true∧0≤(lf [q] i).c∧(lf [q] i).c≤100:=fun i hi=>by
  obtain rfl:i=0:=by omega
  have:=HGQ.out.2;exact⟨HGQ.out.1,by show 0≤q.c;omega,this.2⟩
 have HADD:=aA (rW w3 (X.bk k) u (aM (S.q k)) 1 qa 1 qc (lf [q]) (HW3.out.tq k hkn) HQ3.out ((HW3.out.tq k hkn).ne_rd HQ3.out) (fun i hi=>(hq1 i hi).1) (fun i hi=>(hq1 i hi).2) (by omega) (by omega) (by omega) (HW3.out.tq k hkn).lt);clear hq1;go_wp2_with fail;refine HADD.out.mono ?_;rintro r w4 ⟨rfl,hS4,hg4⟩;have hco:∀m,iP 1 (lf [q]) (aM (S.q k)) 1 m=aM (dG (S.q k) [q]) m:=fun m=>by
  rw[mU (n:=1) (yJ fq) (fun m=>cC (HOK.out.q k).1 m) 1 (Nat.le_refl _),(cW (HOK.out.q k).1 fq).2 m,show dI (lf [q]) 1 0 m=aM [q] m from nB m [q]];have hb:=cC fq m
  rw[show(1:Int)*aM [q] m%101=aM [q] m by omega]
 have HW4:=aA (HW3.out.turnTaken (u':=u+1) (Nat.le_succ _) hkn hg4 (hS4.congr (fun m _=>hco m) (fun m=>cC (cW (HOK.out.q k).1 fq).1 m)));have HQ4:=aA (HQ3.out.grownMap (HW3.out.tq k hkn) hg4)
 have HB4:=aA ((gC.of (X:=X) HB3.out).trans (gC.map hg4 (.inr (.inr ⟨k,hkn,rfl⟩))));clear hS4 hg4 hco HADD HQ3 HW3 HB3 k4 kt fq;have HZW:=aA (HW4.out.below (bG _ w4).drew)
 have HBZ:=aA HB4.out.drew;have hmul:=wQ w4.drew qa (X.ad k) 1 qc (X.ln k) (X.cp k) (lf [q]) (X.f k) (HQ4.out.below (bG _ w4).drew) (HZW.out.ls.2.2.2 k hkn)
 have k3:w4.cell? ⟨X.Bd,3,none⟩=some (.map (some X.br)):=HW4.out.c3;have k1:w4.cell? ⟨X.Bd,1,none⟩=some (.slice (some ⟨b1,off1,none⟩) X.n X.cap):=by rw[←ea];exact HW4.out.c1
 have kc:w4.cell? ⟨b1,off1+k,none⟩=some (.slice (X.ad k) (X.ln k) (X.cp k)):=by
  rcases HW4.out.ls.2.2.1 with hz|⟨b',off',e',_,hc'⟩
  ·omega
  ·rw[ea]at e';cases e';exact hc' k hkn
 have HLO:Hid (X.s0≤w4.drew.heap.size):=HZW.out.s0;have hop:aO 1 (lf [q])=true:=iX HGQ.out
 have ewm:bT (lf [q]) 1 (X.f k) (X.ln k)=kW (cM (lf [q]) (X.f k) (X.ln k) 1):=if_pos ⟨hop,HPK.out⟩;rw[ewm]at hmul;clear hop ewm;cases hY:cM (lf [q]) (X.f k) (X.ln k) 1 with
 |none=>
  have HN:Hid (jH X.o X.ln X.f S k=none):=by show jH X.o X.ln X.f S k=none;unfold jH;rw[HD.out,hY]
  rw[hY]at hmul;simp only[kW]at hmul;have HMUL:=aA hmul
  clear hmul hY;go_wp2_with fail;refine wp_region_any (by kernel_rfl) ?_
  (try(change wpAny _ _ _ _ _ _ _ (World.drew _)))
  refine wpAny_take (i:=0) (v:=?_) rfl (by kernel_rfl) (by kernel_rfl) (by kernel_rfl) (fun _ _ _ h=>h) (Or.inl ⟨by rfl,?_⟩) ?_;rotate_left
  ·(intro w9;go_simp)<;>with_reducible rfl
  refine wpAny_take (i:=1) (v:=?_) rfl (by kernel_rfl) (by kernel_rfl) (by kernel_rfl) (fun _ _ _ h=>h) (Or.inl ⟨by rfl,?_⟩) ?_;rotate_left
  ·(intro w9;go_simp)<;>with_reducible rfl
  refine wpAny_take (i:=2) (v:=?_) rfl (by kernel_rfl) (by kernel_rfl) (by kernel_rfl) (fun _ _ _ h=>h) (Or.inl ⟨by rfl,?_⟩) ?_;rotate_left
  ·(intro w9;go_simp)<;>with_reducible rfl
  refine wpAny_take (i:=4) (v:=?_) rfl (by kernel_rfl) (by kernel_rfl) (by kernel_rfl) (fun _ _ _ h=>h) (Or.inl ⟨by rfl,?_⟩) ?_;rotate_left
  ·(intro w9;go_simp)<;>with_reducible rfl
  refine wpAny_take (i:=5) (v:=?_) rfl (by kernel_rfl) (by kernel_rfl) (by kernel_rfl) (fun _ _ _ h=>h) (Or.inl ⟨by rfl,?_⟩) ?_;rotate_left
  ·(intro w9;go_simp)<;>with_reducible rfl
  refine wpAny_take (i:=6) (v:=?_) rfl (by kernel_rfl) (by kernel_rfl) (by kernel_rfl) (fun _ _ _ h=>h) (Or.inl ⟨by rfl,?_⟩) ?_;rotate_left
  ·(intro w9;go_simp)<;>with_reducible rfl
  refine wpAny_take (i:=7) (v:=?_) rfl (by kernel_rfl) (by kernel_rfl) (by kernel_rfl) (fun _ _ _ h=>h) (Or.inl ⟨by rfl,?_⟩) ?_;rotate_left
  ·(intro w9;go_simp)<;>with_reducible rfl
  refine wpAny_take (i:=9) (v:=?_) rfl (by kernel_rfl) (by kernel_rfl) (by kernel_rfl) (fun _ _ _ h=>h) (Or.inl ⟨by rfl,?_⟩) ?_;rotate_left
  ·(intro w9;go_simp)<;>with_reducible rfl
  refine wpAny_ready (rs:=[3,8]) (by kernel_rfl) (by simp) ?_;refine AllReady.cons rfl (fun KK hKK=>?_) ?_
  ·go_simp
   (try(refine hKK _ _ ?_;clear hKK KK))
   refine wpAny_ready (rs:=[8]) (by kernel_rfl) (by simp) ?_;refine AllReady.cons rfl (fun KK hKK=>?_) ?_
   ·go_simp
    (try(refine hKK _ _ ?_;clear hKK KK))
    refine wpAny_take (i:=10) (v:=?_) rfl (by kernel_rfl) (by kernel_rfl) (by kernel_rfl) (fun _ _ _ h=>h) (Or.inl ⟨by rfl,?_⟩) ?_;rotate_left
    ·(intro w9;go_simp)<;>with_reducible rfl
    refine wpAny_ready (rs:=[11]) (by kernel_rfl) (by simp) ?_;refine AllReady.cons rfl (fun KK hKK=>?_) ?_
    ·go_simp
     (try(refine hKK _ _ ?_;clear hKK KK))
     refine wpAny_ready (rs:=[12]) (by kernel_rfl) (by simp) ?_;refine AllReady.cons rfl (fun KK hKK=>?_) ?_
     ·go_simp;go_wp2_with (go_at_call 28;refine HMUL.out.mono ?_;rintro e w1 ⟨p1a,p1c,rfl,bb1,oo1⟩;have hs1:=(HZW.out.below bb1).c3)
      (try(refine hKK _ _ ?_;clear hKK KK))
      refine wpAny_take (i:=13) (v:=?_) rfl (by kernel_rfl) (by kernel_rfl) (by kernel_rfl) (fun _ _ _ h=>h) (Or.inl ⟨by rfl,?_⟩) ?_;rotate_left
      ·(intro w9;go_simp)<;>with_reducible rfl
      refine wpAny_take (i:=14) (v:=?_) rfl (by kernel_rfl) (by kernel_rfl) (by kernel_rfl) (fun _ _ _ h=>h) (Or.inl ⟨by rfl,?_⟩) ?_;rotate_left
      ·(intro w9;go_simp)<;>with_reducible rfl
      refine wpAny_ready (rs:=[15]) (by kernel_rfl) (by simp) ?_;refine AllReady.cons rfl (fun KK hKK=>?_) ?_
      ·go_simp;go_wp2_with (go_at_call 142;refine(gE _ _).mono ?_;rintro e wn ⟨rfl,hwn⟩;obtain rfl:=hwn.symm;clear hwn);exact⟨rfl,HBZ.out.trans (gC.of bb1),.inr ⟨HN.out,rfl⟩⟩
      exact AllReady.nil
     exact AllReady.nil
    exact AllReady.nil
   exact AllReady.nil
  refine AllReady.cons rfl (fun KK hKK=>?_) ?_
  ·go_simp
   (try(refine hKK _ _ ?_;clear hKK KK))
   refine wpAny_take (i:=10) (v:=?_) rfl (by kernel_rfl) (by kernel_rfl) (by kernel_rfl) (fun _ _ _ h=>h) (Or.inl ⟨by rfl,?_⟩) ?_;rotate_left
   ·(intro w9;go_simp)<;>with_reducible rfl
   refine wpAny_ready (rs:=[3,11]) (by kernel_rfl) (by simp) ?_;refine AllReady.cons rfl (fun KK hKK=>?_) ?_
   ·go_simp
    (try(refine hKK _ _ ?_;clear hKK KK))
    refine wpAny_ready (rs:=[11]) (by kernel_rfl) (by simp) ?_;refine AllReady.cons rfl (fun KK hKK=>?_) ?_
    ·go_simp
     (try(refine hKK _ _ ?_;clear hKK KK))
     refine wpAny_ready (rs:=[12]) (by kernel_rfl) (by simp) ?_;refine AllReady.cons rfl (fun KK hKK=>?_) ?_
     ·go_simp;go_wp2_with (go_at_call 28;refine HMUL.out.mono ?_;rintro e w1 ⟨p1a,p1c,rfl,bb1,oo1⟩;have hs1:=(HZW.out.below bb1).c3)
      (try(refine hKK _ _ ?_;clear hKK KK))
      refine wpAny_take (i:=13) (v:=?_) rfl (by kernel_rfl) (by kernel_rfl) (by kernel_rfl) (fun _ _ _ h=>h) (Or.inl ⟨by rfl,?_⟩) ?_;rotate_left
      ·(intro w9;go_simp)<;>with_reducible rfl
      refine wpAny_take (i:=14) (v:=?_) rfl (by kernel_rfl) (by kernel_rfl) (by kernel_rfl) (fun _ _ _ h=>h) (Or.inl ⟨by rfl,?_⟩) ?_;rotate_left
      ·(intro w9;go_simp)<;>with_reducible rfl
      refine wpAny_ready (rs:=[15]) (by kernel_rfl) (by simp) ?_;refine AllReady.cons rfl (fun KK hKK=>?_) ?_
      ·go_simp;go_wp2_with (go_at_call 142;refine(gE _ _).mono ?_;rintro e wn ⟨rfl,hwn⟩;obtain rfl:=hwn.symm;clear hwn);exact⟨rfl,HBZ.out.trans (gC.of bb1),.inr ⟨HN.out,rfl⟩⟩
      exact AllReady.nil
     exact AllReady.nil
    exact AllReady.nil
   refine AllReady.cons rfl (fun KK hKK=>?_) ?_
   ·go_simp
    (try(refine hKK _ _ ?_;clear hKK KK))
    refine wpAny_ready (rs:=[3,12]) (by kernel_rfl) (by simp) ?_;refine AllReady.cons rfl (fun KK hKK=>?_) ?_
    ·go_simp
     (try(refine hKK _ _ ?_;clear hKK KK))
     refine wpAny_ready (rs:=[12]) (by kernel_rfl) (by simp) ?_;refine AllReady.cons rfl (fun KK hKK=>?_) ?_
     ·go_simp;go_wp2_with (go_at_call 28;refine HMUL.out.mono ?_;rintro e w1 ⟨p1a,p1c,rfl,bb1,oo1⟩;have hs1:=(HZW.out.below bb1).c3)
      (try(refine hKK _ _ ?_;clear hKK KK))
      refine wpAny_take (i:=13) (v:=?_) rfl (by kernel_rfl) (by kernel_rfl) (by kernel_rfl) (fun _ _ _ h=>h) (Or.inl ⟨by rfl,?_⟩) ?_;rotate_left
      ·(intro w9;go_simp)<;>with_reducible rfl
      refine wpAny_take (i:=14) (v:=?_) rfl (by kernel_rfl) (by kernel_rfl) (by kernel_rfl) (fun _ _ _ h=>h) (Or.inl ⟨by rfl,?_⟩) ?_;rotate_left
      ·(intro w9;go_simp)<;>with_reducible rfl
      refine wpAny_ready (rs:=[15]) (by kernel_rfl) (by simp) ?_;refine AllReady.cons rfl (fun KK hKK=>?_) ?_
      ·go_simp;go_wp2_with (go_at_call 142;refine(gE _ _).mono ?_;rintro e wn ⟨rfl,hwn⟩;obtain rfl:=hwn.symm;clear hwn);exact⟨rfl,HBZ.out.trans (gC.of bb1),.inr ⟨HN.out,rfl⟩⟩
      exact AllReady.nil
     exact AllReady.nil
    refine AllReady.cons rfl (fun KK hKK=>?_) ?_
    ·go_simp;go_wp2_with (go_at_call 28;refine HMUL.out.mono ?_;rintro e w1 ⟨p1a,p1c,rfl,bb1,oo1⟩;have hs1:=(HZW.out.below bb1).c3)
     (try(refine hKK _ _ ?_;clear hKK KK))
     refine wpAny_take (i:=13) (v:=?_) rfl (by kernel_rfl) (by kernel_rfl) (by kernel_rfl) (fun _ _ _ h=>h) (Or.inl ⟨by rfl,?_⟩) ?_;rotate_left
     ·(intro w9;go_simp)<;>with_reducible rfl
     refine wpAny_take (i:=14) (v:=?_) rfl (by kernel_rfl) (by kernel_rfl) (by kernel_rfl) (fun _ _ _ h=>h) (Or.inl ⟨by rfl,?_⟩) ?_;rotate_left
     ·(intro w9;go_simp)<;>with_reducible rfl
     refine wpAny_ready (rs:=[3,15]) (by kernel_rfl) (by simp) ?_;refine AllReady.cons rfl (fun KK hKK=>?_) ?_
     ·go_simp
      (try(refine hKK _ _ ?_;clear hKK KK))
      refine wpAny_ready (rs:=[15]) (by kernel_rfl) (by simp) ?_;refine AllReady.cons rfl (fun KK hKK=>?_) ?_
      ·go_simp;go_wp2_with (go_at_call 142;refine(gE _ _).mono ?_;rintro e wn ⟨rfl,hwn⟩;obtain rfl:=hwn.symm;clear hwn);exact⟨rfl,HBZ.out.trans (gC.of bb1),.inr ⟨HN.out,rfl⟩⟩
      exact AllReady.nil
     refine AllReady.cons rfl (fun KK hKK=>?_) ?_
     ·go_simp;go_wp2_with (go_at_call 142;refine(gE _ _).mono ?_;rintro e wn ⟨rfl,hwn⟩;obtain rfl:=hwn.symm;clear hwn);exact⟨rfl,HBZ.out.trans (gC.of bb1),.inr ⟨HN.out,rfl⟩⟩
     exact AllReady.nil
    exact AllReady.nil
   exact AllReady.nil
  exact AllReady.nil
 |some Y=>
  have kY:=BR HGQ.out HPK.out hY;obtain⟨lY,fY⟩:=aD kY;rw[hY]at hmul;simp only[kW]at hmul;have HMUL:=aA hmul
  have fp:=(aD HOK.out.p).2;have hadd:∀(W:World) (ya:Option Addr) (yc:Nat),nV X W fu (u+1) N ⟨S.p,nO S.q k (dG (S.q k) [q]),S.r⟩→jG w4.drew.heap.size W ya yc Y→Calls Tryz.prog 137 #[.map (some X.br),.int .i64 100,.slice ya Y.length yc] W fun e w'=>e= .returned (.tuple #[])∧bU w' X.br (N+Y.length) (aM (dC S.p Y))∧W.grownBy w' (some X.br):=fun W ya yc hWW hO=>by refine(rW W X.br N (aM S.p) 100 ya Y.length yc (lf Y) hWW.rs hO.1 (hWW.rs.ne_rd hO.1) (fun i hi=>(fY.2 _ (kU hi)).1) (fun i hi=>by have:=fY.2 _ (kU hi);omega) (by omega) (by omega) (by omega) hWW.rs.lt).mono ?_;rintro e w' ⟨rfl,hs,hgg⟩;exact⟨rfl,hs.congr (fun m _=>WO fp fY m) (fun m=>cC (cO fp fY).1 m),hgg⟩
  have HADD:=aA hadd;have HDV:Hid (jH X.o X.ln X.f S k=if(dC S.p Y).length≤400 then some ⟨dC S.p Y,nO S.q k (dG (S.q k) [q]),S.r⟩else none):=by show jH X.o X.ln X.f S k=_;unfold jH;rw[HD.out,hY]
  have HFS:=aA (cO fp fY).1;have hsl:=CW S.p Y
  clear hmul hY hadd kY;go_wp2_with fail;have hS5:D3 X.Bd b1 (off1+k) (.map (some X.br)) (.slice (some ⟨b1,off1,none⟩) X.n X.cap) (.slice (X.ad k) (X.ln k) (X.cp k)) w4.drew:=⟨k3,k1,kc⟩
  clear k3 k1 kc
  go_region_held3 (fun u=>u.cell? ⟨X.Bd,3,none⟩=some (.map (some X.br))∧u.cell? ⟨X.Bd,1,none⟩=some (.slice (some ⟨b1,off1,none⟩) X.n X.cap)∧u.cell? ⟨b1,off1+k,none⟩=some (.slice (X.ad k) (X.ln k) (X.cp k))) (first|with_reducible exact hS5|with_reducible exact D3.below hS5 bb5|with_reducible exact D3.turn (D3.below hS5 bb5) (HZW.out.below bb5).rs hg6) (first
   |(go_at_call 28;refine HMUL.out.mono ?_;rintro e w5 ⟨ya,yc,rfl,bb5,oo5⟩)
   |(go_at_call 142;refine(iA _ _).mono ?_;rintro e wn ⟨rfl,hwn⟩;obtain rfl:=hwn.symm;clear hwn)
   |(go_at_call 137;refine(HADD.out w5 ya yc (HZW.out.below bb5) oo5).mono ?_;rintro e w6 ⟨rfl,hS6,hg6⟩))
  have HW5:=aA (HZW.out.below bb5);have HW6:=aA (HW5.out.turnRest (N':=N+400) (p:=dC S.p Y) (Nat.le_refl _) hg6 (hS6.more (by omega)))
  have HB6:=aA ((HBZ.out.trans (gC.of bb5)).trans (gC.map hg6 (.inl rfl)));have hlen:=hS6.len HFS.out 3
  have k6:=HW6.out.c3;clear bb5 oo5 hS6 hg6 hS5;by_cases hle:(dC S.p Y).length≤400
  ·have hgt:¬(400:Int)<((dC S.p Y).length:Int):=by omega
   have HDS:=aA (HDV.out.trans (if_pos hle));go_wp2
   go_end0
   exact⟨HB6.out,.inl ⟨_,HDS.out,rfl,HW6.out⟩⟩
  ·have hgt:(400:Int)<((dC S.p Y).length:Int):=by omega
   have HDS:=aA (HDV.out.trans (if_neg hle));go_wp2;exact⟨rfl,HB6.out,.inr ⟨HDS.out,rfl⟩⟩
end Go.Proofs.YtelkehjdfcoeiaaGreat
