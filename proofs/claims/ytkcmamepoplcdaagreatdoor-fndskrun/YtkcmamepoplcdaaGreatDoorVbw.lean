/-
  A line is drawn (spec.l20Line).
-/
import Derived.Test.YtkcmamepoplcdaaGreatDoorVbv
set_option maxHeartbeats 32000000
set_option maxRecDepth 100000
namespace Go.Proofs.YtkcmamepoplcdaaGreatDoor
open Go.RowKit Go.Deep Go.Joins
set_option linter.unusedVariables false
set_option linter.unusedSimpArgs false
structure Ln (w:World) (B R X:Nat) (u:World) (p:Nat) (k to a b:Int) (pa:Option Addr) (m cap:Nat) (f:Nat→T):Prop where
 bes:aH B w u
 rdr:iN u B p
 box:u.heap[X]? =some (.cells #[.int .i64 k,.int .i64 to,.int .i64 a,.int .i64 b,.slice pa m cap] 24 (0,0))
 res:u.heap[R]? =some (.cells #[.int .i64 0,.int .i64 0,.int .i64 0,.int .i64 0,.slice none 0 0] 24 (0,0))
 rd:Rd u pa m cap f
 m5:m≤5
 away:m=0∨∃g off,pa=some ⟨g,off,none⟩∧w.heap.size≤g∧g≠X∧g≠R
 hR:w.heap.size≤R
 hX:w.heap.size≤X
 hRX:R≠X
 hB:B<w.heap.size
theorem Ln.on {w u u':World} {B R X p q:Nat} {k to a b:Int} {pa:Option Addr} {m cap:Nat} {f:Nat→T} (h:Ln w B R X u p k to a b pa m cap f) (s:aH B u u') (r:iN u' B q):Ln w B R X u' q k to a b pa m cap f where
 bes:=h.bes.trans s
 rdr:=r
 box:=(s.block X (Array.getElem?_eq_some_iff.1 h.box).1 (by have:=h.hX;have:=h.hB;omega)).trans h.box
 res:=(s.block R (Array.getElem?_eq_some_iff.1 h.res).1 (by have:=h.hR;have:=h.hB;omega)).trans h.res
 rd:=h.rd.beside s (h.away.imp id (fun⟨g,off,e,q,_⟩ b off' e2=>by rw[e]at e2;cases e2;have:=h.hB;omega))
 m5:=h.m5
 away:=h.away
 hR:=h.hR
 hX:=h.hX
 hRX:=h.hRX
 hB:=h.hB
theorem Ln.alloc {w u:World} {B R X p:Nat} {k to a b:Int} {pa:Option Addr} {m cap:Nat} {f:Nat→T} (h:Ln w B R X u p k to a b pa m cap f) (o:Obj):Ln w B R X (u.alloc o) p k to a b pa m cap f:=h.on ((aH.refl B u).alloc o) (h.rdr.alloc o)
theorem Ln.set0 {w u:World} {B R X p:Nat} {k to a b:Int} {pa:Option Addr} {m cap:Nat} {f:Nat→T} (h:Ln w B R X u p k to a b pa m cap f) (z:Int):Ln w B R X (u.setCell ⟨X,0,none⟩ (.int .i64 z)) p z to a b pa m cap f where
 bes:=h.bes.set h.hX
 rdr:=h.rdr.set (by have:=h.hX;have:=h.hB;omega)
 box:=by rw[heap_setCell_same u X 0 _ _ _ h.box];rfl
 res:=(Below.heap_setCell _ _ _ _ h.hRX).trans h.res
 rd:=h.rd.setOther (h.away.imp id (fun⟨g,off,e,q,q2,_⟩ b off' e2=>by rw[e]at e2;cases e2;exact q2))
 m5:=h.m5
 away:=h.away
 hR:=h.hR
 hX:=h.hX
 hRX:=h.hRX
 hB:=h.hB
theorem Ln.set1 {w u:World} {B R X p:Nat} {k to a b:Int} {pa:Option Addr} {m cap:Nat} {f:Nat→T} (h:Ln w B R X u p k to a b pa m cap f) (z:Int):Ln w B R X (u.setCell ⟨X,1,none⟩ (.int .i64 z)) p k z a b pa m cap f where
 bes:=h.bes.set h.hX
 rdr:=h.rdr.set (by have:=h.hX;have:=h.hB;omega)
 box:=by rw[heap_setCell_same u X 1 _ _ _ h.box];rfl
 res:=(Below.heap_setCell _ _ _ _ h.hRX).trans h.res
 rd:=h.rd.setOther (h.away.imp id (fun⟨g,off,e,q,q2,_⟩ b off' e2=>by rw[e]at e2;cases e2;exact q2))
 m5:=h.m5
 away:=h.away
 hR:=h.hR
 hX:=h.hX
 hRX:=h.hRX
 hB:=h.hB
theorem Ln.set2 {w u:World} {B R X p:Nat} {k to a b:Int} {pa:Option Addr} {m cap:Nat} {f:Nat→T} (h:Ln w B R X u p k to a b pa m cap f) (z:Int):Ln w B R X (u.setCell ⟨X,2,none⟩ (.int .i64 z)) p k to z b pa m cap f where
 bes:=h.bes.set h.hX
 rdr:=h.rdr.set (by have:=h.hX;have:=h.hB;omega)
 box:=by rw[heap_setCell_same u X 2 _ _ _ h.box];rfl
 res:=(Below.heap_setCell _ _ _ _ h.hRX).trans h.res
 rd:=h.rd.setOther (h.away.imp id (fun⟨g,off,e,q,q2,_⟩ b off' e2=>by rw[e]at e2;cases e2;exact q2))
 m5:=h.m5
 away:=h.away
 hR:=h.hR
 hX:=h.hX
 hRX:=h.hRX
 hB:=h.hB
theorem Ln.set3 {w u:World} {B R X p:Nat} {k to a b:Int} {pa:Option Addr} {m cap:Nat} {f:Nat→T} (h:Ln w B R X u p k to a b pa m cap f) (z:Int):Ln w B R X (u.setCell ⟨X,3,none⟩ (.int .i64 z)) p k to a z pa m cap f where
 bes:=h.bes.set h.hX
 rdr:=h.rdr.set (by have:=h.hX;have:=h.hB;omega)
 box:=by rw[heap_setCell_same u X 3 _ _ _ h.box];rfl
 res:=(Below.heap_setCell _ _ _ _ h.hRX).trans h.res
 rd:=h.rd.setOther (h.away.imp id (fun⟨g,off,e,q,q2,_⟩ b off' e2=>by rw[e]at e2;cases e2;exact q2))
 m5:=h.m5
 away:=h.away
 hR:=h.hR
 hX:=h.hX
 hRX:=h.hRX
 hB:=h.hB
theorem Ln.set4 {w u:World} {B R X p:Nat} {k to a b:Int} {pa:Option Addr} {m cap:Nat} {f:Nat→T} (h:Ln w B R X u p k to a b pa m cap f) {pa':Option Addr} {m' cap':Nat} {f':Nat→T} (hr:Rd u pa' m' cap' f') (h5:m'≤5) (hw:m'=0∨∃g off,pa'=some ⟨g,off,none⟩∧w.heap.size≤g∧g≠X∧g≠R):Ln w B R X (u.setCell ⟨X,4,none⟩ (.slice pa' m' cap')) p k to a b pa' m' cap' f' where
 bes:=h.bes.set h.hX
 rdr:=h.rdr.set (by have:=h.hX;have:=h.hB;omega)
 box:=by rw[heap_setCell_same u X 4 _ _ _ h.box];rfl
 res:=(Below.heap_setCell _ _ _ _ h.hRX).trans h.res
 rd:=hr.setOther (hw.imp id (fun⟨g,off,e,q,q2,_⟩ b off' e2=>by rw[e]at e2;cases e2;exact q2))
 m5:=h5
 away:=hw
 hR:=h.hR
 hX:=h.hX
 hRX:=h.hRX
 hB:=h.hB
theorem Ln.all {w u:World} {B R X p:Nat} {k to a b:Int} {pa:Option Addr} {m cap:Nat} {f:Nat→T} (h:Ln w B R X u p k to a b pa m cap f) (k' to' a' b':Int) {pa':Option Addr} {m' cap':Nat} {f':Nat→T} (hr:Rd u pa' m' cap' f') (h5:m'≤5) (hw:m'=0∨∃g off,pa'=some ⟨g,off,none⟩∧w.heap.size≤g∧g≠X∧g≠R):Ln w B R X (((((u.setCell ⟨X,0,none⟩ (.int .i64 k')).setCell ⟨X,1,none⟩ (.int .i64 to')).setCell ⟨X,2,none⟩ (.int .i64 a')).setCell ⟨X,3,none⟩ (.int .i64 b')).setCell ⟨X,4,none⟩ (.slice pa' m' cap')) p k' to' a' b' pa' m' cap' f':=
 have n:m'=0∨∀b off,pa'=some ⟨b,off,none⟩→b≠X:=hw.imp id (fun⟨g,off,e,q,q2,_⟩ b off' e2=>by rw[e]at e2;cases e2;exact q2)
 ((((h.set0 k').set1 to').set2 a').set3 b').set4 ((((hr.setOther n).setOther n).setOther n).setOther n) h5 hw
theorem Ln.five {w u:World} {B R X p:Nat} {k to a b:Int} {pa:Option Addr} {m cap:Nat} {f:Nat→T} (h:Ln w B R X u p k to a b pa m cap f):((u.cell? ⟨X,0,none⟩=some (.int .i64 k)∧u.cell? ⟨X,1,none⟩=some (.int .i64 to)∧u.cell? ⟨X,2,none⟩=some (.int .i64 a)∧u.cell? ⟨X,3,none⟩=some (.int .i64 b)∧u.cell? ⟨X,4,none⟩=some (.slice pa m cap))∧∀j,u.frozen? ⟨X,j,none⟩=false)∧((u.cell? ⟨R,0,none⟩=some (.int .i64 0)∧u.cell? ⟨R,1,none⟩=some (.int .i64 0)∧u.cell? ⟨R,2,none⟩=some (.int .i64 0)∧u.cell? ⟨R,3,none⟩=some (.int .i64 0)∧u.cell? ⟨R,4,none⟩=some (.slice none 0 0))∧∀j,u.frozen? ⟨R,j,none⟩=false):=⟨ID h.box,ID h.res⟩
def WI (w:World) (B p:Nat) (e:Ending) (w':World):Prop:=∃(k to a b:Int) (pa:Option Addr) (m cap:Nat) (f:Nat→T) (q:Nat),e= .returned (.agg #[.int .i64 k,.int .i64 to,.int .i64 a,.int .i64 b,.slice pa m cap])∧Rd w' pa m cap f∧m≤5∧(m=0∨∃g off,pa=some ⟨g,off,none⟩∧w.heap.size≤g)∧q≤p+900∧iN w' B q∧aH B w w'
theorem Ln.fin {w u:World} {B R X p q:Nat} {k to a b:Int} {pa:Option Addr} {m cap:Nat} {f:Nat→T} (h:Ln w B R X u q k to a b pa m cap f) (hq:q≤p+900):WI w B p (.returned (.agg #[.int .i64 k,.int .i64 to,.int .i64 a,.int .i64 b,.slice pa m cap])) (((((u.setCell ⟨R,0,none⟩ (.int .i64 k)).setCell ⟨R,1,none⟩ (.int .i64 to)).setCell ⟨R,2,none⟩ (.int .i64 a)).setCell ⟨R,3,none⟩ (.int .i64 b)).setCell ⟨R,4,none⟩ (.slice pa m cap)):=
 have n:m=0∨∀b off,pa=some ⟨b,off,none⟩→b≠R:=h.away.imp id (fun⟨g,off,e,q,_,q2⟩ b off' e2=>by rw[e]at e2;cases e2;exact q2);have hb:B<R:=eH h.hB h.hR
 ⟨k,to,a,b,pa,m,cap,f,q,rfl,((((h.rd.setOther n).setOther n).setOther n).setOther n).setOther n,h.m5,h.away.imp id (fun⟨g,off,e,q,_⟩=>⟨g,off,e,q⟩),hq,((((h.rdr.set hb).set hb).set hb).set hb).set hb,((((h.bes.set h.hR).set h.hR).set h.hR).set h.hR).set h.hR⟩
theorem oM {u:World} {y:TypeId} {v0 v1 v2:Int} (x:Int) (x0:0≤x) (x3:x<3):∃z:Int,(u.alloc (.cells #[.int .i64 v0,.int .i64 v1,.int .i64 v2] y)).cell? ⟨u.heap.size,x.toNat,none⟩=some (.int .i64 z):=by rw[World.cell?_alloc_at _ _ _ _ rfl];rcases(show x=0∨x=1∨x=2 by omega)with rfl|rfl|rfl<;>exact⟨_,rfl⟩
theorem BI {u:World} {y:TypeId} {v0 v1:Int} (x:Int) (x0:0≤x) (x3:x<2):∃z:Int,(u.alloc (.cells #[.int .i64 v0,.int .i64 v1] y)).cell? ⟨u.heap.size,x.toNat,none⟩=some (.int .i64 z):=by rw[World.cell?_alloc_at _ _ _ _ rfl];rcases(show x=0∨x=1 by omega)with rfl|rfl<;>exact⟨_,rfl⟩
theorem JN (w:World) (B p:Nat) (n:Int) (h:iN w B p) (n1:1≤n) (n2:n≤1000) (hp:p≤40000):Calls Tryz.prog 47 #[.pointer (some ⟨B,0,none⟩),.int .i64 n] w (WI w B p):=by
 have hBw:=h.lt;have HR0:=aA (h.alloc (.cells #[.int .i64 0,.int .i64 0,.int .i64 0,.int .i64 0,.slice none 0 0] 24))
 have HH0:=aA (heap_alloc_new w (.cells #[.int .i64 0,.int .i64 0,.int .i64 0,.int .i64 0,.slice none 0 0] 24));have HS0:=aA ((aH.refl B w).alloc (.cells #[.int .i64 0,.int .i64 0,.int .i64 0,.int .i64 0,.slice none 0 0] 24))
 have hl0:w.heap.size<(w.alloc (.cells #[.int .i64 0,.int .i64 0,.int .i64 0,.int .i64 0,.slice none 0 0] 24)).heap.size:=by simp
 clear h;go_enter Tryz.func47,Tryz.ntmps47;go_wp2_with fail;generalize(w.alloc (.cells #[.int .i64 0,.int .i64 0,.int .i64 0,.int .i64 0,.slice none 0 0] 24))=u0 at *;refine(aI u0 B p 8 HR0.out (by omega) (by omega) (by omega)).mono ?_;rintro e u1 ⟨x,rfl,x0,x8,k1⟩;have HR1:=aA (k1.rdr HR0.out)
 have HS1:=aA (HS0.out.trans k1.beside);have HH1:=aA ((k1.beside.block _ hl0 (by omega)).trans HH0.out)
 have hl1:w.heap.size<u1.heap.size:=eH hl0 k1.beside.size;have hwx:IntKind.i64.wrap (1+x)=1+x:=(by rw[IntKind.wrap_i64];omega)
 clear k1 HR0 HS0 HH0 hl0;go_wp2_with fail;refine(aI u1 B _ 3 HR1.out (by omega) (by omega) (by omega)).mono ?_;rintro e u2 ⟨to,rfl,t0,t3,k2⟩;obtain⟨k,hk⟩:∃k,1+x=k:=⟨_,rfl⟩
 have hl2:w.heap.size<u2.heap.size:=eH hl1 k2.beside.size
 have L0:Hid (Ln w B w.heap.size u2.heap.size (u2.alloc (.cells #[.int .i64 k,.int .i64 to,.int .i64 0,.int .i64 0,.slice none 0 0] 24)) (p+1+1) k to 0 0 none 0 0 (fun _=>⟨0,⟨0,0,0,0⟩⟩)):=aA {
  bes:=(HS1.out.trans k2.beside).alloc _
  rdr:=(k2.rdr HR1.out).alloc _
  box:=heap_alloc_new u2 _
  res:=by rw[Below.heap_alloc _ _ _ hl2];exact(k2.beside.block _ hl1 (by omega)).trans HH1.out
  rd:=⟨Nat.le_refl _,by omega,.inl rfl⟩
  m5:=iK _
  away:=.inl rfl
  hR:=Nat.le_refl _
  hX:=Nat.le_of_lt hl2
  hRX:=by omega
  hB:=hBw}
 have k1':1≤k:=by omega
 have k8':k≤8:=by omega
 clear k2 HR1 HS1 HH1;go_wp2_with fail;clear hk hwx x0 x8;generalize(u2.alloc (.cells #[.int .i64 k,.int .i64 to,.int .i64 0,.int .i64 0,.slice none 0 0] 24))=v0 at *;obtain⟨R,hR⟩:∃R,R=w.heap.size:=⟨_,rfl⟩
 obtain⟨X,hX⟩:∃X,X=u2.heap.size:=⟨_,rfl⟩
 have hRw:w.heap.size≤R:=by omega
 have hwX:w.heap.size≤X:=by omega
 have hRX:R≠X:=by omega
 have hXR:X≠R:=by omega
 rw[←hR,←hX]at L0;rw[←hR,←hX];clear hX hR hl1 hl2;refine(dJ k ⟨k1',k8'⟩ _).mono ?_;obtain⟨N,hN⟩:∃N,eD k=N:=⟨_,rfl⟩
 have hNb:=KA (k:=k) ⟨k1',k8'⟩;have hk1:N≠1→k≠1:=fun q e=>by subst e;exact q (hN.symm.trans rfl)
 rw[hN]at hNb;have HN:=aA hN
 rw[hN];clear hN;rintro e w' ⟨rfl,hw'⟩;obtain rfl:=hw'.symm;clear hw';have hN3:N=1∨N=2∨N=3:=by omega
 clear hNb;rcases hN3 with rfl|rfl|rfl
 ·skip
  by_cases hk:k=1
  ·subst hk;obtain⟨⟨⟨c0,c1,c2,c3,c4⟩,cz⟩,⟨⟨d0,d1,d2,d3,d4⟩,dz⟩⟩:=L0.out.five;go_wp2_with fail;refine(dJ _ ⟨k1',k8'⟩ _).mono ?_;rw[HN.out];rintro e w' ⟨rfl,hw'⟩;obtain rfl:=hw'.symm;clear hw';go_wp2_with fail;clear c0 c1 c2 c3 c4 cz d0 d1 d2 d3 d4 dz;have L1:=aA (L0.out.on (aH.refl B v0).drew (L0.out.rdr.drewN 1))
   have HS0:Hid (v0.drew.cell? ⟨X,1,none⟩=some (.int .i64 to)):=aA L1.out.five.1.1.2.1;have hXl:X<v0.drew.heap.size:=(Array.getElem?_eq_some_iff.1 L1.out.box).1
   have hRl:R<v0.drew.heap.size:=(Array.getElem?_eq_some_iff.1 L1.out.res).1;have hwl:w.heap.size≤v0.drew.heap.size:=L1.out.bes.size
   go_region_held3 (fun u=>u.cell? ⟨X,1,none⟩=some (.int .i64 to)) (first|with_reducible exact HST.out|with_reducible exact HSB.out|with_reducible exact HS0.out) ((go_at_call 83;refine(oY v0.drew B _ 3 L1.out.rdr (by omega) (by omega) (by omega)).mono ?_;rintro e v7 ⟨vp,LP,q7,rfl,ho,hlL,hck,hq7,hR7,s7⟩;have HOP:=aA ho;clear ho hck;(obtain⟨ya,yc,rfl,hout⟩:=aJ HOP.out (by omega));have L7:=aA (L1.out.on s7 hR7);have L8:=aA (L7.out.all 1 to 0 0 hout.1 (by omega) (hout.2.2.imp id (fun⟨g,off,e,q⟩=>⟨g,off,e,by omega,by omega,by omega⟩)));have HSB:Hid (v7.cell? ⟨X,1,none⟩=some (.int .i64 to)):=aA L7.out.five.1.1.2.1;have HST:Hid ((((((v7.setCell ⟨X,0,none⟩ (.int .i64 1)).setCell ⟨X,1,none⟩ (.int .i64 to)).setCell ⟨X,2,none⟩ (.int .i64 0)).setCell ⟨X,3,none⟩ (.int .i64 0)).setCell ⟨X,4,none⟩ (.slice ya LP.length yc)).cell? ⟨X,1,none⟩=some (.int .i64 to)):=aA L8.out.five.1.1.2.1;obtain⟨⟨⟨c0,c1,c2,c3,c4⟩,cz⟩,_⟩:=L7.out.five;clear hR7 s7 hout HOP))
   clear HSB HST HS0 c0 c1 c2 c3 c4 cz L7 L1;generalize(((((v7.setCell ⟨X,0,none⟩ (.int .i64 1)).setCell ⟨X,1,none⟩ (.int .i64 to)).setCell ⟨X,2,none⟩ (.int .i64 0)).setCell ⟨X,3,none⟩ (.int .i64 0)).setCell ⟨X,4,none⟩ (.slice ya LP.length yc))=v8 at *;have hlL5:LP.length≤5:=by omega
   obtain⟨⟨⟨c0,c1,c2,c3,c4⟩,cz⟩,⟨⟨d0,d1,d2,d3,d4⟩,dz⟩⟩:=L8.out.five;go_wp2_with fail;clear c0 c1 c2 c3 c4 cz d0 d1 d2 d3 d4 dz;refine(aI _ B _ n L8.out.rdr (by omega) (by omega) (by omega)).mono ?_;rintro e v2 ⟨z,rfl,z0,z1,kp⟩;have L3:=aA (L8.out.on kp.beside (kp.rdr L8.out.rdr))
   clear kp L8;by_cases hz0:z=0;rotate_left
   ·have hzb:(z==0)=false:=beq_eq_false_iff_ne.2 hz0;obtain⟨⟨⟨c0,c1,c2,c3,c4⟩,cz⟩,⟨⟨d0,d1,d2,d3,d4⟩,dz⟩⟩:=L3.out.five;go_wp2;refine aY (v:=.agg #[.int .i64 1,.int .i64 to,.int .i64 0,.int .i64 0,.slice ya LP.length yc]) (by simp[results,Tryz.results47,go_sem, *]) rfl ?_;exact L3.out.fin (by omega)
   subst hz0;obtain⟨⟨⟨c0,c1,c2,c3,c4⟩,cz⟩,⟨⟨d0,d1,d2,d3,d4⟩,dz⟩⟩:=L3.out.five;go_wp2_with fail;clear c0 c1 c2 c3 c4 cz d0 d1 d2 d3 d4 dz;refine(aI _ B _ 4 L3.out.rdr (by omega) (by omega) (by omega)).mono ?_;rintro e v4 ⟨c,rfl,c0,c1,kp⟩;have L5:=aA (L3.out.on kp.beside (kp.rdr L3.out.rdr))
   clear kp L3;rcases(show c=0∨c=1∨c=2∨c=3 by omega)with rfl|rfl|rfl|rfl
   ·obtain⟨⟨⟨c0,c1,c2,c3,c4⟩,cz⟩,⟨⟨d0,d1,d2,d3,d4⟩,dz⟩⟩:=L5.out.five;go_wp2_with fail;clear c0 c1 c2 c3 c4 cz d0 d1 d2 d3 d4 dz;have L6:=aA (L5.out.alloc (.cells #[.int .i64 0,.int .i64 9,.int .i64 (-1)] 3))
    have hBv:B<v4.heap.size:=L5.out.rdr.lt;have hlit:=fun x x0 x3=>oM (u:=v4) (y:=3) (v0:=0) (v1:=9) (v2:=(-1)) x x0 x3
    have hvl:v4.heap.size<(v4.alloc (.cells #[.int .i64 0,.int .i64 9,.int .i64 (-1)] 3)).heap.size:=by simp
    generalize v4.alloc (.cells #[.int .i64 0,.int .i64 9,.int .i64 (-1)] 3)=va at *;generalize v4.heap.size=NB at *;refine(aI _ B _ 3 L6.out.rdr (by omega) (by omega) (by omega)).mono ?_;rintro e vb ⟨j,rfl,j0,j3,kp⟩;obtain⟨zz,hzz⟩:=hlit j j0 j3;obtain⟨J,rfl⟩:∃J:Nat,j=(J:Int):=⟨j.toNat,by omega⟩
    have hJ:J<3:=by omega
    simp only[Int.toNat_natCast]at hzz;have hz2:vb.cell? ⟨NB,J,none⟩=some (.int .i64 zz):=(kp.beside.cell hvl (by omega)).trans hzz
    have LL:=aA (L6.out.on kp.beside (kp.rdr L6.out.rdr));clear kp hlit hzz L6;obtain⟨⟨⟨c0,c1,c2,c3,c4⟩,cz⟩,⟨⟨d0,d1,d2,d3,d4⟩,dz⟩⟩:=LL.out.five;go_wp2;refine aY (v:=.agg #[.int .i64 zz,.int .i64 to,.int .i64 0,.int .i64 0,.slice ya LP.length yc]) (by simp[results,Tryz.results47,go_sem, *]) rfl ?_;exact(LL.out.set0 zz).fin (by omega)
   ·obtain⟨⟨⟨c0,c1,c2,c3,c4⟩,cz⟩,⟨⟨d0,d1,d2,d3,d4⟩,dz⟩⟩:=L5.out.five;go_wp2_with fail;clear c0 c1 c2 c3 c4 cz d0 d1 d2 d3 d4 dz;have L7:=aA (L5.out.alloc (.cells #[.int .i64 (-1),.int .i64 6] 3))
    have hBv:B<v4.heap.size:=L5.out.rdr.lt;have hlit:=fun x x0 x3=>BI (u:=v4) (y:=3) (v0:=(-1)) (v1:=6) x x0 x3
    have hvl:v4.heap.size<(v4.alloc (.cells #[.int .i64 (-1),.int .i64 6] 3)).heap.size:=by simp
    generalize v4.alloc (.cells #[.int .i64 (-1),.int .i64 6] 3)=va at *;generalize v4.heap.size=NB at *;refine(aI _ B _ 2 L7.out.rdr (by omega) (by omega) (by omega)).mono ?_;rintro e vb ⟨j,rfl,j0,j3,kp⟩;obtain⟨zz,hzz⟩:=hlit j j0 j3;obtain⟨J,rfl⟩:∃J:Nat,j=(J:Int):=⟨j.toNat,by omega⟩
    have hJ:J<2:=by omega
    simp only[Int.toNat_natCast]at hzz;have hz2:vb.cell? ⟨NB,J,none⟩=some (.int .i64 zz):=(kp.beside.cell hvl (by omega)).trans hzz
    have LL:=aA (L7.out.on kp.beside (kp.rdr L7.out.rdr));clear kp hlit hzz L7;obtain⟨⟨⟨c0,c1,c2,c3,c4⟩,cz⟩,⟨⟨d0,d1,d2,d3,d4⟩,dz⟩⟩:=LL.out.five;go_wp2;refine aY (v:=.agg #[.int .i64 1,.int .i64 zz,.int .i64 0,.int .i64 0,.slice ya LP.length yc]) (by simp[results,Tryz.results47,go_sem, *]) rfl ?_;exact(LL.out.set1 zz).fin (by omega)
   ·obtain⟨⟨⟨c0,c1,c2,c3,c4⟩,cz⟩,⟨⟨d0,d1,d2,d3,d4⟩,dz⟩⟩:=L5.out.five;go_wp2_with fail;clear c0 c1 c2 c3 c4 cz d0 d1 d2 d3 d4 dz;have L8:=aA (L5.out.alloc (.cells #[.int .i64 (-1),.int .i64 6,.int .i64 2] 3))
    have hBv:B<v4.heap.size:=L5.out.rdr.lt;have hlit:=fun x x0 x3=>oM (u:=v4) (y:=3) (v0:=(-1)) (v1:=6) (v2:=2) x x0 x3
    have hvl:v4.heap.size<(v4.alloc (.cells #[.int .i64 (-1),.int .i64 6,.int .i64 2] 3)).heap.size:=by simp
    generalize v4.alloc (.cells #[.int .i64 (-1),.int .i64 6,.int .i64 2] 3)=va at *;generalize v4.heap.size=NB at *;refine(aI _ B _ 3 L8.out.rdr (by omega) (by omega) (by omega)).mono ?_;rintro e vb ⟨j,rfl,j0,j3,kp⟩;obtain⟨zz,hzz⟩:=hlit j j0 j3;obtain⟨J,rfl⟩:∃J:Nat,j=(J:Int):=⟨j.toNat,by omega⟩
    have hJ:J<3:=by omega
    simp only[Int.toNat_natCast]at hzz;have hz2:vb.cell? ⟨NB,J,none⟩=some (.int .i64 zz):=(kp.beside.cell hvl (by omega)).trans hzz
    have LL:=aA (L8.out.on kp.beside (kp.rdr L8.out.rdr));clear kp hlit hzz L8;obtain⟨⟨⟨c0,c1,c2,c3,c4⟩,cz⟩,⟨⟨d0,d1,d2,d3,d4⟩,dz⟩⟩:=LL.out.five;go_wp2;refine aY (v:=.agg #[.int .i64 1,.int .i64 to,.int .i64 zz,.int .i64 0,.slice ya LP.length yc]) (by simp[results,Tryz.results47,go_sem, *]) rfl ?_;exact(LL.out.set2 zz).fin (by omega)
   ·obtain⟨⟨⟨c0,c1,c2,c3,c4⟩,cz⟩,⟨⟨d0,d1,d2,d3,d4⟩,dz⟩⟩:=L5.out.five;go_wp2_with fail;clear c0 c1 c2 c3 c4 cz d0 d1 d2 d3 d4 dz;refine(jE _ B _ 2 L5.out.rdr (by omega) (by omega) (by omega)).mono ?_;rintro e vb ⟨ya,ym,yc,yf,q9,rfl,hrd,hm5,hblk,hq9,hR9,s9⟩;have hvl:=L5.out.bes.size
    have hXl:X<v4.heap.size:=(Array.getElem?_eq_some_iff.1 L5.out.box).1;have hRl:R<v4.heap.size:=(Array.getElem?_eq_some_iff.1 L5.out.res).1
    have LL:=aA (L5.out.on s9 hR9);have HRD:=aA hrd
    have HAW:Hid (ym=0∨∃g off,ya=some ⟨g,off,none⟩∧w.heap.size≤g∧g≠X∧g≠R):=aA (hblk.imp id (fun⟨g,off,e,q⟩=>⟨g,off,e,by omega,by omega,by omega⟩));clear hrd hblk hR9 s9 L5;obtain⟨⟨⟨c0,c1,c2,c3,c4⟩,cz⟩,⟨⟨d0,d1,d2,d3,d4⟩,dz⟩⟩:=LL.out.five;go_wp2;refine aY (v:=.agg #[.int .i64 1,.int .i64 to,.int .i64 0,.int .i64 0,.slice ya ym yc]) (by simp[results,Tryz.results47,go_sem, *]) rfl ?_;exact(LL.out.set4 HRD.out hm5 HAW.out).fin (by omega)
  ·skip
   have hkb:(k==1)=false:=beq_eq_false_iff_ne.2 hk;obtain⟨⟨⟨c0,c1,c2,c3,c4⟩,cz⟩,⟨⟨d0,d1,d2,d3,d4⟩,dz⟩⟩:=L0.out.five;go_wp2_with fail;refine(dJ _ ⟨k1',k8'⟩ _).mono ?_;rw[HN.out];rintro e w' ⟨rfl,hw'⟩;obtain rfl:=hw'.symm;clear hw';go_wp2_with fail;clear c0 c1 c2 c3 c4 cz d0 d1 d2 d3 d4 dz;refine(aI _ B _ 3 L0.out.rdr (by omega) (by omega) (by omega)).mono ?_;rintro e v9 ⟨y,rfl,y0,y1,kp⟩;have L10:=aA (L0.out.on kp.beside (kp.rdr L0.out.rdr))
   clear kp L0;by_cases hy0:y=0
   ·subst hy0;obtain⟨⟨⟨c0,c1,c2,c3,c4⟩,cz⟩,⟨⟨d0,d1,d2,d3,d4⟩,dz⟩⟩:=L10.out.five;go_wp2_with fail;clear c0 c1 c2 c3 c4 cz d0 d1 d2 d3 d4 dz;have L11:=aA (L10.out.on (aH.refl B v9).drew (L10.out.rdr.drewN 1))
    have HS0:Hid (v9.drew.cell? ⟨X,1,none⟩=some (.int .i64 to)):=aA L11.out.five.1.1.2.1;have hXl:X<v9.drew.heap.size:=(Array.getElem?_eq_some_iff.1 L11.out.box).1
    have hRl:R<v9.drew.heap.size:=(Array.getElem?_eq_some_iff.1 L11.out.res).1;have hwl:w.heap.size≤v9.drew.heap.size:=L11.out.bes.size
    go_region_held3 (fun u=>u.cell? ⟨X,1,none⟩=some (.int .i64 to)) (first|with_reducible exact HST.out|with_reducible exact HSB.out|with_reducible exact HS0.out) ((go_at_call 83;refine(oY v9.drew B _ 3 L11.out.rdr (by omega) (by omega) (by omega)).mono ?_;rintro e v7 ⟨vp,LP,q7,rfl,ho,hlL,hck,hq7,hR7,s7⟩;have HOP:=aA ho;clear ho hck;(obtain⟨ya,yc,rfl,hout⟩:=aJ HOP.out (by omega));have L7:=aA (L11.out.on s7 hR7);have L8:=aA (L7.out.all 1 to 0 0 hout.1 (by omega) (hout.2.2.imp id (fun⟨g,off,e,q⟩=>⟨g,off,e,by omega,by omega,by omega⟩)));have HSB:Hid (v7.cell? ⟨X,1,none⟩=some (.int .i64 to)):=aA L7.out.five.1.1.2.1;have HST:Hid ((((((v7.setCell ⟨X,0,none⟩ (.int .i64 1)).setCell ⟨X,1,none⟩ (.int .i64 to)).setCell ⟨X,2,none⟩ (.int .i64 0)).setCell ⟨X,3,none⟩ (.int .i64 0)).setCell ⟨X,4,none⟩ (.slice ya LP.length yc)).cell? ⟨X,1,none⟩=some (.int .i64 to)):=aA L8.out.five.1.1.2.1;obtain⟨⟨⟨c0,c1,c2,c3,c4⟩,cz⟩,_⟩:=L7.out.five;clear hR7 s7 hout HOP))
    clear HSB HST HS0 c0 c1 c2 c3 c4 cz L7 L11;generalize(((((v7.setCell ⟨X,0,none⟩ (.int .i64 1)).setCell ⟨X,1,none⟩ (.int .i64 to)).setCell ⟨X,2,none⟩ (.int .i64 0)).setCell ⟨X,3,none⟩ (.int .i64 0)).setCell ⟨X,4,none⟩ (.slice ya LP.length yc))=v8 at *;have hlL5:LP.length≤5:=by omega
    obtain⟨⟨⟨c0,c1,c2,c3,c4⟩,cz⟩,⟨⟨d0,d1,d2,d3,d4⟩,dz⟩⟩:=L8.out.five;go_wp2_with fail;clear c0 c1 c2 c3 c4 cz d0 d1 d2 d3 d4 dz;refine(aI _ B _ n L8.out.rdr (by omega) (by omega) (by omega)).mono ?_;rintro e v12 ⟨z,rfl,z0,z1,kp⟩;have L13:=aA (L8.out.on kp.beside (kp.rdr L8.out.rdr))
    clear kp L8;by_cases hz0:z=0;rotate_left
    ·have hzb:(z==0)=false:=beq_eq_false_iff_ne.2 hz0;obtain⟨⟨⟨c0,c1,c2,c3,c4⟩,cz⟩,⟨⟨d0,d1,d2,d3,d4⟩,dz⟩⟩:=L13.out.five;go_wp2;refine aY (v:=.agg #[.int .i64 1,.int .i64 to,.int .i64 0,.int .i64 0,.slice ya LP.length yc]) (by simp[results,Tryz.results47,go_sem, *]) rfl ?_;exact L13.out.fin (by omega)
    subst hz0;obtain⟨⟨⟨c0,c1,c2,c3,c4⟩,cz⟩,⟨⟨d0,d1,d2,d3,d4⟩,dz⟩⟩:=L13.out.five;go_wp2_with fail;clear c0 c1 c2 c3 c4 cz d0 d1 d2 d3 d4 dz;refine(aI _ B _ 4 L13.out.rdr (by omega) (by omega) (by omega)).mono ?_;rintro e v14 ⟨c,rfl,c0,c1,kp⟩;have L15:=aA (L13.out.on kp.beside (kp.rdr L13.out.rdr))
    clear kp L13;rcases(show c=0∨c=1∨c=2∨c=3 by omega)with rfl|rfl|rfl|rfl
    ·obtain⟨⟨⟨c0,c1,c2,c3,c4⟩,cz⟩,⟨⟨d0,d1,d2,d3,d4⟩,dz⟩⟩:=L15.out.five;go_wp2_with fail;clear c0 c1 c2 c3 c4 cz d0 d1 d2 d3 d4 dz;have L16:=aA (L15.out.alloc (.cells #[.int .i64 0,.int .i64 9,.int .i64 (-1)] 3))
     have hBv:B<v14.heap.size:=L15.out.rdr.lt;have hlit:=fun x x0 x3=>oM (u:=v14) (y:=3) (v0:=0) (v1:=9) (v2:=(-1)) x x0 x3
     have hvl:v14.heap.size<(v14.alloc (.cells #[.int .i64 0,.int .i64 9,.int .i64 (-1)] 3)).heap.size:=by simp
     generalize v14.alloc (.cells #[.int .i64 0,.int .i64 9,.int .i64 (-1)] 3)=va at *;generalize v14.heap.size=NB at *;refine(aI _ B _ 3 L16.out.rdr (by omega) (by omega) (by omega)).mono ?_;rintro e vb ⟨j,rfl,j0,j3,kp⟩;obtain⟨zz,hzz⟩:=hlit j j0 j3;obtain⟨J,rfl⟩:∃J:Nat,j=(J:Int):=⟨j.toNat,by omega⟩
     have hJ:J<3:=by omega
     simp only[Int.toNat_natCast]at hzz;have hz2:vb.cell? ⟨NB,J,none⟩=some (.int .i64 zz):=(kp.beside.cell hvl (by omega)).trans hzz
     have LL:=aA (L16.out.on kp.beside (kp.rdr L16.out.rdr));clear kp hlit hzz L16;obtain⟨⟨⟨c0,c1,c2,c3,c4⟩,cz⟩,⟨⟨d0,d1,d2,d3,d4⟩,dz⟩⟩:=LL.out.five;go_wp2;refine aY (v:=.agg #[.int .i64 zz,.int .i64 to,.int .i64 0,.int .i64 0,.slice ya LP.length yc]) (by simp[results,Tryz.results47,go_sem, *]) rfl ?_;exact(LL.out.set0 zz).fin (by omega)
    ·obtain⟨⟨⟨c0,c1,c2,c3,c4⟩,cz⟩,⟨⟨d0,d1,d2,d3,d4⟩,dz⟩⟩:=L15.out.five;go_wp2_with fail;clear c0 c1 c2 c3 c4 cz d0 d1 d2 d3 d4 dz;have L17:=aA (L15.out.alloc (.cells #[.int .i64 (-1),.int .i64 6] 3))
     have hBv:B<v14.heap.size:=L15.out.rdr.lt;have hlit:=fun x x0 x3=>BI (u:=v14) (y:=3) (v0:=(-1)) (v1:=6) x x0 x3
     have hvl:v14.heap.size<(v14.alloc (.cells #[.int .i64 (-1),.int .i64 6] 3)).heap.size:=by simp
     generalize v14.alloc (.cells #[.int .i64 (-1),.int .i64 6] 3)=va at *;generalize v14.heap.size=NB at *;refine(aI _ B _ 2 L17.out.rdr (by omega) (by omega) (by omega)).mono ?_;rintro e vb ⟨j,rfl,j0,j3,kp⟩;obtain⟨zz,hzz⟩:=hlit j j0 j3;obtain⟨J,rfl⟩:∃J:Nat,j=(J:Int):=⟨j.toNat,by omega⟩
     have hJ:J<2:=by omega
     simp only[Int.toNat_natCast]at hzz;have hz2:vb.cell? ⟨NB,J,none⟩=some (.int .i64 zz):=(kp.beside.cell hvl (by omega)).trans hzz
     have LL:=aA (L17.out.on kp.beside (kp.rdr L17.out.rdr));clear kp hlit hzz L17;obtain⟨⟨⟨c0,c1,c2,c3,c4⟩,cz⟩,⟨⟨d0,d1,d2,d3,d4⟩,dz⟩⟩:=LL.out.five;go_wp2;refine aY (v:=.agg #[.int .i64 1,.int .i64 zz,.int .i64 0,.int .i64 0,.slice ya LP.length yc]) (by simp[results,Tryz.results47,go_sem, *]) rfl ?_;exact(LL.out.set1 zz).fin (by omega)
    ·obtain⟨⟨⟨c0,c1,c2,c3,c4⟩,cz⟩,⟨⟨d0,d1,d2,d3,d4⟩,dz⟩⟩:=L15.out.five;go_wp2_with fail;clear c0 c1 c2 c3 c4 cz d0 d1 d2 d3 d4 dz;have L18:=aA (L15.out.alloc (.cells #[.int .i64 (-1),.int .i64 6,.int .i64 2] 3))
     have hBv:B<v14.heap.size:=L15.out.rdr.lt;have hlit:=fun x x0 x3=>oM (u:=v14) (y:=3) (v0:=(-1)) (v1:=6) (v2:=2) x x0 x3
     have hvl:v14.heap.size<(v14.alloc (.cells #[.int .i64 (-1),.int .i64 6,.int .i64 2] 3)).heap.size:=by simp
     generalize v14.alloc (.cells #[.int .i64 (-1),.int .i64 6,.int .i64 2] 3)=va at *;generalize v14.heap.size=NB at *;refine(aI _ B _ 3 L18.out.rdr (by omega) (by omega) (by omega)).mono ?_;rintro e vb ⟨j,rfl,j0,j3,kp⟩;obtain⟨zz,hzz⟩:=hlit j j0 j3;obtain⟨J,rfl⟩:∃J:Nat,j=(J:Int):=⟨j.toNat,by omega⟩
     have hJ:J<3:=by omega
     simp only[Int.toNat_natCast]at hzz;have hz2:vb.cell? ⟨NB,J,none⟩=some (.int .i64 zz):=(kp.beside.cell hvl (by omega)).trans hzz
     have LL:=aA (L18.out.on kp.beside (kp.rdr L18.out.rdr));clear kp hlit hzz L18;obtain⟨⟨⟨c0,c1,c2,c3,c4⟩,cz⟩,⟨⟨d0,d1,d2,d3,d4⟩,dz⟩⟩:=LL.out.five;go_wp2;refine aY (v:=.agg #[.int .i64 1,.int .i64 to,.int .i64 zz,.int .i64 0,.slice ya LP.length yc]) (by simp[results,Tryz.results47,go_sem, *]) rfl ?_;exact(LL.out.set2 zz).fin (by omega)
    ·obtain⟨⟨⟨c0,c1,c2,c3,c4⟩,cz⟩,⟨⟨d0,d1,d2,d3,d4⟩,dz⟩⟩:=L15.out.five;go_wp2_with fail;clear c0 c1 c2 c3 c4 cz d0 d1 d2 d3 d4 dz;refine(jE _ B _ 2 L15.out.rdr (by omega) (by omega) (by omega)).mono ?_;rintro e vb ⟨ya,ym,yc,yf,q9,rfl,hrd,hm5,hblk,hq9,hR9,s9⟩;have hvl:=L15.out.bes.size
     have hXl:X<v14.heap.size:=(Array.getElem?_eq_some_iff.1 L15.out.box).1;have hRl:R<v14.heap.size:=(Array.getElem?_eq_some_iff.1 L15.out.res).1
     have LL:=aA (L15.out.on s9 hR9);have HRD:=aA hrd
     have HAW:Hid (ym=0∨∃g off,ya=some ⟨g,off,none⟩∧w.heap.size≤g∧g≠X∧g≠R):=aA (hblk.imp id (fun⟨g,off,e,q⟩=>⟨g,off,e,by omega,by omega,by omega⟩));clear hrd hblk hR9 s9 L15;obtain⟨⟨⟨c0,c1,c2,c3,c4⟩,cz⟩,⟨⟨d0,d1,d2,d3,d4⟩,dz⟩⟩:=LL.out.five;go_wp2;refine aY (v:=.agg #[.int .i64 1,.int .i64 to,.int .i64 0,.int .i64 0,.slice ya ym yc]) (by simp[results,Tryz.results47,go_sem, *]) rfl ?_;exact(LL.out.set4 HRD.out hm5 HAW.out).fin (by omega)
   ·have hyb:(y==0)=false:=beq_eq_false_iff_ne.2 hy0;obtain⟨⟨⟨c0,c1,c2,c3,c4⟩,cz⟩,⟨⟨d0,d1,d2,d3,d4⟩,dz⟩⟩:=L10.out.five;go_wp2_with fail;clear c0 c1 c2 c3 c4 cz d0 d1 d2 d3 d4 dz;refine(aI _ B _ n L10.out.rdr (by omega) (by omega) (by omega)).mono ?_;rintro e v19 ⟨z,rfl,z0,z1,kp⟩;have L20:=aA (L10.out.on kp.beside (kp.rdr L10.out.rdr))
    clear kp L10;by_cases hz0:z=0;rotate_left
    ·have hzb:(z==0)=false:=beq_eq_false_iff_ne.2 hz0;obtain⟨⟨⟨c0,c1,c2,c3,c4⟩,cz⟩,⟨⟨d0,d1,d2,d3,d4⟩,dz⟩⟩:=L20.out.five;go_wp2;refine aY (v:=.agg #[.int .i64 k,.int .i64 to,.int .i64 0,.int .i64 0,.slice none 0 0]) (by simp[results,Tryz.results47,go_sem, *]) rfl ?_;exact L20.out.fin (by omega)
    subst hz0;obtain⟨⟨⟨c0,c1,c2,c3,c4⟩,cz⟩,⟨⟨d0,d1,d2,d3,d4⟩,dz⟩⟩:=L20.out.five;go_wp2_with fail;clear c0 c1 c2 c3 c4 cz d0 d1 d2 d3 d4 dz;refine(aI _ B _ 4 L20.out.rdr (by omega) (by omega) (by omega)).mono ?_;rintro e v21 ⟨c,rfl,c0,c1,kp⟩;have L22:=aA (L20.out.on kp.beside (kp.rdr L20.out.rdr))
    clear kp L20;rcases(show c=0∨c=1∨c=2∨c=3 by omega)with rfl|rfl|rfl|rfl
    ·obtain⟨⟨⟨c0,c1,c2,c3,c4⟩,cz⟩,⟨⟨d0,d1,d2,d3,d4⟩,dz⟩⟩:=L22.out.five;go_wp2_with fail;clear c0 c1 c2 c3 c4 cz d0 d1 d2 d3 d4 dz;have L23:=aA (L22.out.alloc (.cells #[.int .i64 0,.int .i64 9,.int .i64 (-1)] 3))
     have hBv:B<v21.heap.size:=L22.out.rdr.lt;have hlit:=fun x x0 x3=>oM (u:=v21) (y:=3) (v0:=0) (v1:=9) (v2:=(-1)) x x0 x3
     have hvl:v21.heap.size<(v21.alloc (.cells #[.int .i64 0,.int .i64 9,.int .i64 (-1)] 3)).heap.size:=by simp
     generalize v21.alloc (.cells #[.int .i64 0,.int .i64 9,.int .i64 (-1)] 3)=va at *;generalize v21.heap.size=NB at *;refine(aI _ B _ 3 L23.out.rdr (by omega) (by omega) (by omega)).mono ?_;rintro e vb ⟨j,rfl,j0,j3,kp⟩;obtain⟨zz,hzz⟩:=hlit j j0 j3;obtain⟨J,rfl⟩:∃J:Nat,j=(J:Int):=⟨j.toNat,by omega⟩
     have hJ:J<3:=by omega
     simp only[Int.toNat_natCast]at hzz;have hz2:vb.cell? ⟨NB,J,none⟩=some (.int .i64 zz):=(kp.beside.cell hvl (by omega)).trans hzz
     have LL:=aA (L23.out.on kp.beside (kp.rdr L23.out.rdr));clear kp hlit hzz L23;obtain⟨⟨⟨c0,c1,c2,c3,c4⟩,cz⟩,⟨⟨d0,d1,d2,d3,d4⟩,dz⟩⟩:=LL.out.five;go_wp2;refine aY (v:=.agg #[.int .i64 zz,.int .i64 to,.int .i64 0,.int .i64 0,.slice none 0 0]) (by simp[results,Tryz.results47,go_sem, *]) rfl ?_;exact(LL.out.set0 zz).fin (by omega)
    ·obtain⟨⟨⟨c0,c1,c2,c3,c4⟩,cz⟩,⟨⟨d0,d1,d2,d3,d4⟩,dz⟩⟩:=L22.out.five;go_wp2_with fail;clear c0 c1 c2 c3 c4 cz d0 d1 d2 d3 d4 dz;have L24:=aA (L22.out.alloc (.cells #[.int .i64 (-1),.int .i64 6] 3))
     have hBv:B<v21.heap.size:=L22.out.rdr.lt;have hlit:=fun x x0 x3=>BI (u:=v21) (y:=3) (v0:=(-1)) (v1:=6) x x0 x3
     have hvl:v21.heap.size<(v21.alloc (.cells #[.int .i64 (-1),.int .i64 6] 3)).heap.size:=by simp
     generalize v21.alloc (.cells #[.int .i64 (-1),.int .i64 6] 3)=va at *;generalize v21.heap.size=NB at *;refine(aI _ B _ 2 L24.out.rdr (by omega) (by omega) (by omega)).mono ?_;rintro e vb ⟨j,rfl,j0,j3,kp⟩;obtain⟨zz,hzz⟩:=hlit j j0 j3;obtain⟨J,rfl⟩:∃J:Nat,j=(J:Int):=⟨j.toNat,by omega⟩
     have hJ:J<2:=by omega
     simp only[Int.toNat_natCast]at hzz;have hz2:vb.cell? ⟨NB,J,none⟩=some (.int .i64 zz):=(kp.beside.cell hvl (by omega)).trans hzz
     have LL:=aA (L24.out.on kp.beside (kp.rdr L24.out.rdr));clear kp hlit hzz L24;obtain⟨⟨⟨c0,c1,c2,c3,c4⟩,cz⟩,⟨⟨d0,d1,d2,d3,d4⟩,dz⟩⟩:=LL.out.five;go_wp2;refine aY (v:=.agg #[.int .i64 k,.int .i64 zz,.int .i64 0,.int .i64 0,.slice none 0 0]) (by simp[results,Tryz.results47,go_sem, *]) rfl ?_;exact(LL.out.set1 zz).fin (by omega)
    ·obtain⟨⟨⟨c0,c1,c2,c3,c4⟩,cz⟩,⟨⟨d0,d1,d2,d3,d4⟩,dz⟩⟩:=L22.out.five;go_wp2_with fail;clear c0 c1 c2 c3 c4 cz d0 d1 d2 d3 d4 dz;have L25:=aA (L22.out.alloc (.cells #[.int .i64 (-1),.int .i64 6,.int .i64 2] 3))
     have hBv:B<v21.heap.size:=L22.out.rdr.lt;have hlit:=fun x x0 x3=>oM (u:=v21) (y:=3) (v0:=(-1)) (v1:=6) (v2:=2) x x0 x3
     have hvl:v21.heap.size<(v21.alloc (.cells #[.int .i64 (-1),.int .i64 6,.int .i64 2] 3)).heap.size:=by simp
     generalize v21.alloc (.cells #[.int .i64 (-1),.int .i64 6,.int .i64 2] 3)=va at *;generalize v21.heap.size=NB at *;refine(aI _ B _ 3 L25.out.rdr (by omega) (by omega) (by omega)).mono ?_;rintro e vb ⟨j,rfl,j0,j3,kp⟩;obtain⟨zz,hzz⟩:=hlit j j0 j3;obtain⟨J,rfl⟩:∃J:Nat,j=(J:Int):=⟨j.toNat,by omega⟩
     have hJ:J<3:=by omega
     simp only[Int.toNat_natCast]at hzz;have hz2:vb.cell? ⟨NB,J,none⟩=some (.int .i64 zz):=(kp.beside.cell hvl (by omega)).trans hzz
     have LL:=aA (L25.out.on kp.beside (kp.rdr L25.out.rdr));clear kp hlit hzz L25;obtain⟨⟨⟨c0,c1,c2,c3,c4⟩,cz⟩,⟨⟨d0,d1,d2,d3,d4⟩,dz⟩⟩:=LL.out.five;go_wp2;refine aY (v:=.agg #[.int .i64 k,.int .i64 to,.int .i64 zz,.int .i64 0,.slice none 0 0]) (by simp[results,Tryz.results47,go_sem, *]) rfl ?_;exact(LL.out.set2 zz).fin (by omega)
    ·obtain⟨⟨⟨c0,c1,c2,c3,c4⟩,cz⟩,⟨⟨d0,d1,d2,d3,d4⟩,dz⟩⟩:=L22.out.five;go_wp2_with fail;clear c0 c1 c2 c3 c4 cz d0 d1 d2 d3 d4 dz;refine(jE _ B _ 2 L22.out.rdr (by omega) (by omega) (by omega)).mono ?_;rintro e vb ⟨ya,ym,yc,yf,q9,rfl,hrd,hm5,hblk,hq9,hR9,s9⟩;have hvl:=L22.out.bes.size
     have hXl:X<v21.heap.size:=(Array.getElem?_eq_some_iff.1 L22.out.box).1;have hRl:R<v21.heap.size:=(Array.getElem?_eq_some_iff.1 L22.out.res).1
     have LL:=aA (L22.out.on s9 hR9);have HRD:=aA hrd
     have HAW:Hid (ym=0∨∃g off,ya=some ⟨g,off,none⟩∧w.heap.size≤g∧g≠X∧g≠R):=aA (hblk.imp id (fun⟨g,off,e,q⟩=>⟨g,off,e,by omega,by omega,by omega⟩));clear hrd hblk hR9 s9 L22;obtain⟨⟨⟨c0,c1,c2,c3,c4⟩,cz⟩,⟨⟨d0,d1,d2,d3,d4⟩,dz⟩⟩:=LL.out.five;go_wp2;refine aY (v:=.agg #[.int .i64 k,.int .i64 to,.int .i64 0,.int .i64 0,.slice ya ym yc]) (by simp[results,Tryz.results47,go_sem, *]) rfl ?_;exact(LL.out.set4 HRD.out hm5 HAW.out).fin (by omega)
 ·have hk:=hk1 (by omega);obtain⟨⟨⟨c0,c1,c2,c3,c4⟩,cz⟩,⟨⟨d0,d1,d2,d3,d4⟩,dz⟩⟩:=L0.out.five;go_wp2_with fail;clear c0 c1 c2 c3 c4 cz d0 d1 d2 d3 d4 dz;refine(aI _ B _ 3 L0.out.rdr (by omega) (by omega) (by omega)).mono ?_;rintro e v26 ⟨xa,rfl,xa0,xa1,kp⟩;have L27:=aA (L0.out.on kp.beside (kp.rdr L0.out.rdr))
  clear kp L0;obtain⟨⟨⟨c0,c1,c2,c3,c4⟩,cz⟩,⟨⟨d0,d1,d2,d3,d4⟩,dz⟩⟩:=L27.out.five;go_wp2_with fail;clear c0 c1 c2 c3 c4 cz d0 d1 d2 d3 d4 dz;have L28:=aA (L27.out.set2 xa)
  generalize v26.setCell ⟨X,2,none⟩ (.int .i64 xa)=v29 at *;clear L27;refine(dJ _ ⟨k1',k8'⟩ _).mono ?_;rw[HN.out];rintro e w' ⟨rfl,hw'⟩;obtain rfl:=hw'.symm;clear hw';have hkb:(k==1)=false:=beq_eq_false_iff_ne.2 hk
  obtain⟨⟨⟨c0,c1,c2,c3,c4⟩,cz⟩,⟨⟨d0,d1,d2,d3,d4⟩,dz⟩⟩:=L28.out.five;go_wp2_with fail;clear c0 c1 c2 c3 c4 cz d0 d1 d2 d3 d4 dz;refine(aI _ B _ 3 L28.out.rdr (by omega) (by omega) (by omega)).mono ?_;rintro e v30 ⟨y,rfl,y0,y1,kp⟩;have L31:=aA (L28.out.on kp.beside (kp.rdr L28.out.rdr))
  clear kp L28;by_cases hy0:y=0
  ·subst hy0;obtain⟨⟨⟨c0,c1,c2,c3,c4⟩,cz⟩,⟨⟨d0,d1,d2,d3,d4⟩,dz⟩⟩:=L31.out.five;go_wp2_with fail;clear c0 c1 c2 c3 c4 cz d0 d1 d2 d3 d4 dz;have L32:=aA (L31.out.on (aH.refl B v30).drew (L31.out.rdr.drewN 1))
   have HS0:Hid (v30.drew.cell? ⟨X,1,none⟩=some (.int .i64 to)):=aA L32.out.five.1.1.2.1;have hXl:X<v30.drew.heap.size:=(Array.getElem?_eq_some_iff.1 L32.out.box).1
   have hRl:R<v30.drew.heap.size:=(Array.getElem?_eq_some_iff.1 L32.out.res).1;have hwl:w.heap.size≤v30.drew.heap.size:=L32.out.bes.size
   go_region_held3 (fun u=>u.cell? ⟨X,1,none⟩=some (.int .i64 to)) (first|with_reducible exact HST.out|with_reducible exact HSB.out|with_reducible exact HS0.out) ((go_at_call 83;refine(oY v30.drew B _ 3 L32.out.rdr (by omega) (by omega) (by omega)).mono ?_;rintro e v7 ⟨vp,LP,q7,rfl,ho,hlL,hck,hq7,hR7,s7⟩;have HOP:=aA ho;clear ho hck;(obtain⟨ya,yc,rfl,hout⟩:=aJ HOP.out (by omega));have L7:=aA (L32.out.on s7 hR7);have L8:=aA (L7.out.all 1 to 0 0 hout.1 (by omega) (hout.2.2.imp id (fun⟨g,off,e,q⟩=>⟨g,off,e,by omega,by omega,by omega⟩)));have HSB:Hid (v7.cell? ⟨X,1,none⟩=some (.int .i64 to)):=aA L7.out.five.1.1.2.1;have HST:Hid ((((((v7.setCell ⟨X,0,none⟩ (.int .i64 1)).setCell ⟨X,1,none⟩ (.int .i64 to)).setCell ⟨X,2,none⟩ (.int .i64 0)).setCell ⟨X,3,none⟩ (.int .i64 0)).setCell ⟨X,4,none⟩ (.slice ya LP.length yc)).cell? ⟨X,1,none⟩=some (.int .i64 to)):=aA L8.out.five.1.1.2.1;obtain⟨⟨⟨c0,c1,c2,c3,c4⟩,cz⟩,_⟩:=L7.out.five;clear hR7 s7 hout HOP))
   clear HSB HST HS0 c0 c1 c2 c3 c4 cz L7 L32;generalize(((((v7.setCell ⟨X,0,none⟩ (.int .i64 1)).setCell ⟨X,1,none⟩ (.int .i64 to)).setCell ⟨X,2,none⟩ (.int .i64 0)).setCell ⟨X,3,none⟩ (.int .i64 0)).setCell ⟨X,4,none⟩ (.slice ya LP.length yc))=v8 at *;have hlL5:LP.length≤5:=by omega
   obtain⟨⟨⟨c0,c1,c2,c3,c4⟩,cz⟩,⟨⟨d0,d1,d2,d3,d4⟩,dz⟩⟩:=L8.out.five;go_wp2_with fail;clear c0 c1 c2 c3 c4 cz d0 d1 d2 d3 d4 dz;refine(aI _ B _ n L8.out.rdr (by omega) (by omega) (by omega)).mono ?_;rintro e v33 ⟨z,rfl,z0,z1,kp⟩;have L34:=aA (L8.out.on kp.beside (kp.rdr L8.out.rdr))
   clear kp L8;by_cases hz0:z=0;rotate_left
   ·have hzb:(z==0)=false:=beq_eq_false_iff_ne.2 hz0;obtain⟨⟨⟨c0,c1,c2,c3,c4⟩,cz⟩,⟨⟨d0,d1,d2,d3,d4⟩,dz⟩⟩:=L34.out.five;go_wp2;refine aY (v:=.agg #[.int .i64 1,.int .i64 to,.int .i64 0,.int .i64 0,.slice ya LP.length yc]) (by simp[results,Tryz.results47,go_sem, *]) rfl ?_;exact L34.out.fin (by omega)
   subst hz0;obtain⟨⟨⟨c0,c1,c2,c3,c4⟩,cz⟩,⟨⟨d0,d1,d2,d3,d4⟩,dz⟩⟩:=L34.out.five;go_wp2_with fail;clear c0 c1 c2 c3 c4 cz d0 d1 d2 d3 d4 dz;refine(aI _ B _ 4 L34.out.rdr (by omega) (by omega) (by omega)).mono ?_;rintro e v35 ⟨c,rfl,c0,c1,kp⟩;have L36:=aA (L34.out.on kp.beside (kp.rdr L34.out.rdr))
   clear kp L34;rcases(show c=0∨c=1∨c=2∨c=3 by omega)with rfl|rfl|rfl|rfl
   ·obtain⟨⟨⟨c0,c1,c2,c3,c4⟩,cz⟩,⟨⟨d0,d1,d2,d3,d4⟩,dz⟩⟩:=L36.out.five;go_wp2_with fail;clear c0 c1 c2 c3 c4 cz d0 d1 d2 d3 d4 dz;have L37:=aA (L36.out.alloc (.cells #[.int .i64 0,.int .i64 9,.int .i64 (-1)] 3))
    have hBv:B<v35.heap.size:=L36.out.rdr.lt;have hlit:=fun x x0 x3=>oM (u:=v35) (y:=3) (v0:=0) (v1:=9) (v2:=(-1)) x x0 x3
    have hvl:v35.heap.size<(v35.alloc (.cells #[.int .i64 0,.int .i64 9,.int .i64 (-1)] 3)).heap.size:=by simp
    generalize v35.alloc (.cells #[.int .i64 0,.int .i64 9,.int .i64 (-1)] 3)=va at *;generalize v35.heap.size=NB at *;refine(aI _ B _ 3 L37.out.rdr (by omega) (by omega) (by omega)).mono ?_;rintro e vb ⟨j,rfl,j0,j3,kp⟩;obtain⟨zz,hzz⟩:=hlit j j0 j3;obtain⟨J,rfl⟩:∃J:Nat,j=(J:Int):=⟨j.toNat,by omega⟩
    have hJ:J<3:=by omega
    simp only[Int.toNat_natCast]at hzz;have hz2:vb.cell? ⟨NB,J,none⟩=some (.int .i64 zz):=(kp.beside.cell hvl (by omega)).trans hzz
    have LL:=aA (L37.out.on kp.beside (kp.rdr L37.out.rdr));clear kp hlit hzz L37;obtain⟨⟨⟨c0,c1,c2,c3,c4⟩,cz⟩,⟨⟨d0,d1,d2,d3,d4⟩,dz⟩⟩:=LL.out.five;go_wp2;refine aY (v:=.agg #[.int .i64 zz,.int .i64 to,.int .i64 0,.int .i64 0,.slice ya LP.length yc]) (by simp[results,Tryz.results47,go_sem, *]) rfl ?_;exact(LL.out.set0 zz).fin (by omega)
   ·obtain⟨⟨⟨c0,c1,c2,c3,c4⟩,cz⟩,⟨⟨d0,d1,d2,d3,d4⟩,dz⟩⟩:=L36.out.five;go_wp2_with fail;clear c0 c1 c2 c3 c4 cz d0 d1 d2 d3 d4 dz;have L38:=aA (L36.out.alloc (.cells #[.int .i64 (-1),.int .i64 6] 3))
    have hBv:B<v35.heap.size:=L36.out.rdr.lt;have hlit:=fun x x0 x3=>BI (u:=v35) (y:=3) (v0:=(-1)) (v1:=6) x x0 x3
    have hvl:v35.heap.size<(v35.alloc (.cells #[.int .i64 (-1),.int .i64 6] 3)).heap.size:=by simp
    generalize v35.alloc (.cells #[.int .i64 (-1),.int .i64 6] 3)=va at *;generalize v35.heap.size=NB at *;refine(aI _ B _ 2 L38.out.rdr (by omega) (by omega) (by omega)).mono ?_;rintro e vb ⟨j,rfl,j0,j3,kp⟩;obtain⟨zz,hzz⟩:=hlit j j0 j3;obtain⟨J,rfl⟩:∃J:Nat,j=(J:Int):=⟨j.toNat,by omega⟩
    have hJ:J<2:=by omega
    simp only[Int.toNat_natCast]at hzz;have hz2:vb.cell? ⟨NB,J,none⟩=some (.int .i64 zz):=(kp.beside.cell hvl (by omega)).trans hzz
    have LL:=aA (L38.out.on kp.beside (kp.rdr L38.out.rdr));clear kp hlit hzz L38;obtain⟨⟨⟨c0,c1,c2,c3,c4⟩,cz⟩,⟨⟨d0,d1,d2,d3,d4⟩,dz⟩⟩:=LL.out.five;go_wp2;refine aY (v:=.agg #[.int .i64 1,.int .i64 zz,.int .i64 0,.int .i64 0,.slice ya LP.length yc]) (by simp[results,Tryz.results47,go_sem, *]) rfl ?_;exact(LL.out.set1 zz).fin (by omega)
   ·obtain⟨⟨⟨c0,c1,c2,c3,c4⟩,cz⟩,⟨⟨d0,d1,d2,d3,d4⟩,dz⟩⟩:=L36.out.five;go_wp2_with fail;clear c0 c1 c2 c3 c4 cz d0 d1 d2 d3 d4 dz;have L39:=aA (L36.out.alloc (.cells #[.int .i64 (-1),.int .i64 6,.int .i64 2] 3))
    have hBv:B<v35.heap.size:=L36.out.rdr.lt;have hlit:=fun x x0 x3=>oM (u:=v35) (y:=3) (v0:=(-1)) (v1:=6) (v2:=2) x x0 x3
    have hvl:v35.heap.size<(v35.alloc (.cells #[.int .i64 (-1),.int .i64 6,.int .i64 2] 3)).heap.size:=by simp
    generalize v35.alloc (.cells #[.int .i64 (-1),.int .i64 6,.int .i64 2] 3)=va at *;generalize v35.heap.size=NB at *;refine(aI _ B _ 3 L39.out.rdr (by omega) (by omega) (by omega)).mono ?_;rintro e vb ⟨j,rfl,j0,j3,kp⟩;obtain⟨zz,hzz⟩:=hlit j j0 j3;obtain⟨J,rfl⟩:∃J:Nat,j=(J:Int):=⟨j.toNat,by omega⟩
    have hJ:J<3:=by omega
    simp only[Int.toNat_natCast]at hzz;have hz2:vb.cell? ⟨NB,J,none⟩=some (.int .i64 zz):=(kp.beside.cell hvl (by omega)).trans hzz
    have LL:=aA (L39.out.on kp.beside (kp.rdr L39.out.rdr));clear kp hlit hzz L39;obtain⟨⟨⟨c0,c1,c2,c3,c4⟩,cz⟩,⟨⟨d0,d1,d2,d3,d4⟩,dz⟩⟩:=LL.out.five;go_wp2;refine aY (v:=.agg #[.int .i64 1,.int .i64 to,.int .i64 zz,.int .i64 0,.slice ya LP.length yc]) (by simp[results,Tryz.results47,go_sem, *]) rfl ?_;exact(LL.out.set2 zz).fin (by omega)
   ·obtain⟨⟨⟨c0,c1,c2,c3,c4⟩,cz⟩,⟨⟨d0,d1,d2,d3,d4⟩,dz⟩⟩:=L36.out.five;go_wp2_with fail;clear c0 c1 c2 c3 c4 cz d0 d1 d2 d3 d4 dz;refine(jE _ B _ 2 L36.out.rdr (by omega) (by omega) (by omega)).mono ?_;rintro e vb ⟨ya,ym,yc,yf,q9,rfl,hrd,hm5,hblk,hq9,hR9,s9⟩;have hvl:=L36.out.bes.size
    have hXl:X<v35.heap.size:=(Array.getElem?_eq_some_iff.1 L36.out.box).1;have hRl:R<v35.heap.size:=(Array.getElem?_eq_some_iff.1 L36.out.res).1
    have LL:=aA (L36.out.on s9 hR9);have HRD:=aA hrd
    have HAW:Hid (ym=0∨∃g off,ya=some ⟨g,off,none⟩∧w.heap.size≤g∧g≠X∧g≠R):=aA (hblk.imp id (fun⟨g,off,e,q⟩=>⟨g,off,e,by omega,by omega,by omega⟩));clear hrd hblk hR9 s9 L36;obtain⟨⟨⟨c0,c1,c2,c3,c4⟩,cz⟩,⟨⟨d0,d1,d2,d3,d4⟩,dz⟩⟩:=LL.out.five;go_wp2;refine aY (v:=.agg #[.int .i64 1,.int .i64 to,.int .i64 0,.int .i64 0,.slice ya ym yc]) (by simp[results,Tryz.results47,go_sem, *]) rfl ?_;exact(LL.out.set4 HRD.out hm5 HAW.out).fin (by omega)
  ·have hyb:(y==0)=false:=beq_eq_false_iff_ne.2 hy0;obtain⟨⟨⟨c0,c1,c2,c3,c4⟩,cz⟩,⟨⟨d0,d1,d2,d3,d4⟩,dz⟩⟩:=L31.out.five;go_wp2_with fail;clear c0 c1 c2 c3 c4 cz d0 d1 d2 d3 d4 dz;refine(aI _ B _ n L31.out.rdr (by omega) (by omega) (by omega)).mono ?_;rintro e v40 ⟨z,rfl,z0,z1,kp⟩;have L41:=aA (L31.out.on kp.beside (kp.rdr L31.out.rdr))
   clear kp L31;by_cases hz0:z=0;rotate_left
   ·have hzb:(z==0)=false:=beq_eq_false_iff_ne.2 hz0;obtain⟨⟨⟨c0,c1,c2,c3,c4⟩,cz⟩,⟨⟨d0,d1,d2,d3,d4⟩,dz⟩⟩:=L41.out.five;go_wp2;refine aY (v:=.agg #[.int .i64 k,.int .i64 to,.int .i64 xa,.int .i64 0,.slice none 0 0]) (by simp[results,Tryz.results47,go_sem, *]) rfl ?_;exact L41.out.fin (by omega)
   subst hz0;obtain⟨⟨⟨c0,c1,c2,c3,c4⟩,cz⟩,⟨⟨d0,d1,d2,d3,d4⟩,dz⟩⟩:=L41.out.five;go_wp2_with fail;clear c0 c1 c2 c3 c4 cz d0 d1 d2 d3 d4 dz;refine(aI _ B _ 4 L41.out.rdr (by omega) (by omega) (by omega)).mono ?_;rintro e v42 ⟨c,rfl,c0,c1,kp⟩;have L43:=aA (L41.out.on kp.beside (kp.rdr L41.out.rdr))
   clear kp L41;rcases(show c=0∨c=1∨c=2∨c=3 by omega)with rfl|rfl|rfl|rfl
   ·obtain⟨⟨⟨c0,c1,c2,c3,c4⟩,cz⟩,⟨⟨d0,d1,d2,d3,d4⟩,dz⟩⟩:=L43.out.five;go_wp2_with fail;clear c0 c1 c2 c3 c4 cz d0 d1 d2 d3 d4 dz;have L44:=aA (L43.out.alloc (.cells #[.int .i64 0,.int .i64 9,.int .i64 (-1)] 3))
    have hBv:B<v42.heap.size:=L43.out.rdr.lt;have hlit:=fun x x0 x3=>oM (u:=v42) (y:=3) (v0:=0) (v1:=9) (v2:=(-1)) x x0 x3
    have hvl:v42.heap.size<(v42.alloc (.cells #[.int .i64 0,.int .i64 9,.int .i64 (-1)] 3)).heap.size:=by simp
    generalize v42.alloc (.cells #[.int .i64 0,.int .i64 9,.int .i64 (-1)] 3)=va at *;generalize v42.heap.size=NB at *;refine(aI _ B _ 3 L44.out.rdr (by omega) (by omega) (by omega)).mono ?_;rintro e vb ⟨j,rfl,j0,j3,kp⟩;obtain⟨zz,hzz⟩:=hlit j j0 j3;obtain⟨J,rfl⟩:∃J:Nat,j=(J:Int):=⟨j.toNat,by omega⟩
    have hJ:J<3:=by omega
    simp only[Int.toNat_natCast]at hzz;have hz2:vb.cell? ⟨NB,J,none⟩=some (.int .i64 zz):=(kp.beside.cell hvl (by omega)).trans hzz
    have LL:=aA (L44.out.on kp.beside (kp.rdr L44.out.rdr));clear kp hlit hzz L44;obtain⟨⟨⟨c0,c1,c2,c3,c4⟩,cz⟩,⟨⟨d0,d1,d2,d3,d4⟩,dz⟩⟩:=LL.out.five;go_wp2;refine aY (v:=.agg #[.int .i64 zz,.int .i64 to,.int .i64 xa,.int .i64 0,.slice none 0 0]) (by simp[results,Tryz.results47,go_sem, *]) rfl ?_;exact(LL.out.set0 zz).fin (by omega)
   ·obtain⟨⟨⟨c0,c1,c2,c3,c4⟩,cz⟩,⟨⟨d0,d1,d2,d3,d4⟩,dz⟩⟩:=L43.out.five;go_wp2_with fail;clear c0 c1 c2 c3 c4 cz d0 d1 d2 d3 d4 dz;have L45:=aA (L43.out.alloc (.cells #[.int .i64 (-1),.int .i64 6] 3))
    have hBv:B<v42.heap.size:=L43.out.rdr.lt;have hlit:=fun x x0 x3=>BI (u:=v42) (y:=3) (v0:=(-1)) (v1:=6) x x0 x3
    have hvl:v42.heap.size<(v42.alloc (.cells #[.int .i64 (-1),.int .i64 6] 3)).heap.size:=by simp
    generalize v42.alloc (.cells #[.int .i64 (-1),.int .i64 6] 3)=va at *;generalize v42.heap.size=NB at *;refine(aI _ B _ 2 L45.out.rdr (by omega) (by omega) (by omega)).mono ?_;rintro e vb ⟨j,rfl,j0,j3,kp⟩;obtain⟨zz,hzz⟩:=hlit j j0 j3;obtain⟨J,rfl⟩:∃J:Nat,j=(J:Int):=⟨j.toNat,by omega⟩
    have hJ:J<2:=by omega
    simp only[Int.toNat_natCast]at hzz;have hz2:vb.cell? ⟨NB,J,none⟩=some (.int .i64 zz):=(kp.beside.cell hvl (by omega)).trans hzz
    have LL:=aA (L45.out.on kp.beside (kp.rdr L45.out.rdr));clear kp hlit hzz L45;obtain⟨⟨⟨c0,c1,c2,c3,c4⟩,cz⟩,⟨⟨d0,d1,d2,d3,d4⟩,dz⟩⟩:=LL.out.five;go_wp2;refine aY (v:=.agg #[.int .i64 k,.int .i64 zz,.int .i64 xa,.int .i64 0,.slice none 0 0]) (by simp[results,Tryz.results47,go_sem, *]) rfl ?_;exact(LL.out.set1 zz).fin (by omega)
   ·obtain⟨⟨⟨c0,c1,c2,c3,c4⟩,cz⟩,⟨⟨d0,d1,d2,d3,d4⟩,dz⟩⟩:=L43.out.five;go_wp2_with fail;clear c0 c1 c2 c3 c4 cz d0 d1 d2 d3 d4 dz;have L46:=aA (L43.out.alloc (.cells #[.int .i64 (-1),.int .i64 6,.int .i64 2] 3))
    have hBv:B<v42.heap.size:=L43.out.rdr.lt;have hlit:=fun x x0 x3=>oM (u:=v42) (y:=3) (v0:=(-1)) (v1:=6) (v2:=2) x x0 x3
    have hvl:v42.heap.size<(v42.alloc (.cells #[.int .i64 (-1),.int .i64 6,.int .i64 2] 3)).heap.size:=by simp
    generalize v42.alloc (.cells #[.int .i64 (-1),.int .i64 6,.int .i64 2] 3)=va at *;generalize v42.heap.size=NB at *;refine(aI _ B _ 3 L46.out.rdr (by omega) (by omega) (by omega)).mono ?_;rintro e vb ⟨j,rfl,j0,j3,kp⟩;obtain⟨zz,hzz⟩:=hlit j j0 j3;obtain⟨J,rfl⟩:∃J:Nat,j=(J:Int):=⟨j.toNat,by omega⟩
    have hJ:J<3:=by omega
    simp only[Int.toNat_natCast]at hzz;have hz2:vb.cell? ⟨NB,J,none⟩=some (.int .i64 zz):=(kp.beside.cell hvl (by omega)).trans hzz
    have LL:=aA (L46.out.on kp.beside (kp.rdr L46.out.rdr));clear kp hlit hzz L46;obtain⟨⟨⟨c0,c1,c2,c3,c4⟩,cz⟩,⟨⟨d0,d1,d2,d3,d4⟩,dz⟩⟩:=LL.out.five;go_wp2;refine aY (v:=.agg #[.int .i64 k,.int .i64 to,.int .i64 zz,.int .i64 0,.slice none 0 0]) (by simp[results,Tryz.results47,go_sem, *]) rfl ?_;exact(LL.out.set2 zz).fin (by omega)
   ·obtain⟨⟨⟨c0,c1,c2,c3,c4⟩,cz⟩,⟨⟨d0,d1,d2,d3,d4⟩,dz⟩⟩:=L43.out.five;go_wp2_with fail;clear c0 c1 c2 c3 c4 cz d0 d1 d2 d3 d4 dz;refine(jE _ B _ 2 L43.out.rdr (by omega) (by omega) (by omega)).mono ?_;rintro e vb ⟨ya,ym,yc,yf,q9,rfl,hrd,hm5,hblk,hq9,hR9,s9⟩;have hvl:=L43.out.bes.size
    have hXl:X<v42.heap.size:=(Array.getElem?_eq_some_iff.1 L43.out.box).1;have hRl:R<v42.heap.size:=(Array.getElem?_eq_some_iff.1 L43.out.res).1
    have LL:=aA (L43.out.on s9 hR9);have HRD:=aA hrd
    have HAW:Hid (ym=0∨∃g off,ya=some ⟨g,off,none⟩∧w.heap.size≤g∧g≠X∧g≠R):=aA (hblk.imp id (fun⟨g,off,e,q⟩=>⟨g,off,e,by omega,by omega,by omega⟩));clear hrd hblk hR9 s9 L43;obtain⟨⟨⟨c0,c1,c2,c3,c4⟩,cz⟩,⟨⟨d0,d1,d2,d3,d4⟩,dz⟩⟩:=LL.out.five;go_wp2;refine aY (v:=.agg #[.int .i64 k,.int .i64 to,.int .i64 xa,.int .i64 0,.slice ya ym yc]) (by simp[results,Tryz.results47,go_sem, *]) rfl ?_;exact(LL.out.set4 HRD.out hm5 HAW.out).fin (by omega)
 ·have hk:=hk1 (by omega);obtain⟨⟨⟨c0,c1,c2,c3,c4⟩,cz⟩,⟨⟨d0,d1,d2,d3,d4⟩,dz⟩⟩:=L0.out.five;go_wp2_with fail;clear c0 c1 c2 c3 c4 cz d0 d1 d2 d3 d4 dz;refine(aI _ B _ 3 L0.out.rdr (by omega) (by omega) (by omega)).mono ?_;rintro e v47 ⟨xa,rfl,xa0,xa1,kp⟩;have L48:=aA (L0.out.on kp.beside (kp.rdr L0.out.rdr))
  clear kp L0;obtain⟨⟨⟨c0,c1,c2,c3,c4⟩,cz⟩,⟨⟨d0,d1,d2,d3,d4⟩,dz⟩⟩:=L48.out.five;go_wp2_with fail;clear c0 c1 c2 c3 c4 cz d0 d1 d2 d3 d4 dz;have L49:=aA (L48.out.set2 xa)
  generalize v47.setCell ⟨X,2,none⟩ (.int .i64 xa)=v50 at *;clear L48;refine(dJ _ ⟨k1',k8'⟩ _).mono ?_;rw[HN.out];rintro e w' ⟨rfl,hw'⟩;obtain rfl:=hw'.symm;clear hw';obtain⟨⟨⟨c0,c1,c2,c3,c4⟩,cz⟩,⟨⟨d0,d1,d2,d3,d4⟩,dz⟩⟩:=L49.out.five;go_wp2_with fail;clear c0 c1 c2 c3 c4 cz d0 d1 d2 d3 d4 dz;refine(aI _ B _ 3 L49.out.rdr (by omega) (by omega) (by omega)).mono ?_;rintro e v51 ⟨xb,rfl,xb0,xb1,kp⟩;have L52:=aA (L49.out.on kp.beside (kp.rdr L49.out.rdr))
  clear kp L49;have L53:=aA (L52.out.set3 xb)
  have hkb:(k==1)=false:=beq_eq_false_iff_ne.2 hk;obtain⟨⟨⟨c0,c1,c2,c3,c4⟩,cz⟩,⟨⟨d0,d1,d2,d3,d4⟩,dz⟩⟩:=L52.out.five;go_wp2_with fail;clear c0 c1 c2 c3 c4 cz d0 d1 d2 d3 d4 dz;generalize v51.setCell ⟨X,3,none⟩ (.int .i64 xb)=v54 at *;clear L52;refine(aI _ B _ 3 L53.out.rdr (by omega) (by omega) (by omega)).mono ?_;rintro e v55 ⟨y,rfl,y0,y1,kp⟩;have L56:=aA (L53.out.on kp.beside (kp.rdr L53.out.rdr))
  clear kp L53;by_cases hy0:y=0
  ·subst hy0;obtain⟨⟨⟨c0,c1,c2,c3,c4⟩,cz⟩,⟨⟨d0,d1,d2,d3,d4⟩,dz⟩⟩:=L56.out.five;go_wp2_with fail;clear c0 c1 c2 c3 c4 cz d0 d1 d2 d3 d4 dz;have L57:=aA (L56.out.on (aH.refl B v55).drew (L56.out.rdr.drewN 1))
   have HS0:Hid (v55.drew.cell? ⟨X,1,none⟩=some (.int .i64 to)):=aA L57.out.five.1.1.2.1;have hXl:X<v55.drew.heap.size:=(Array.getElem?_eq_some_iff.1 L57.out.box).1
   have hRl:R<v55.drew.heap.size:=(Array.getElem?_eq_some_iff.1 L57.out.res).1;have hwl:w.heap.size≤v55.drew.heap.size:=L57.out.bes.size
   go_region_held3 (fun u=>u.cell? ⟨X,1,none⟩=some (.int .i64 to)) (first|with_reducible exact HST.out|with_reducible exact HSB.out|with_reducible exact HS0.out) ((go_at_call 83;refine(oY v55.drew B _ 3 L57.out.rdr (by omega) (by omega) (by omega)).mono ?_;rintro e v7 ⟨vp,LP,q7,rfl,ho,hlL,hck,hq7,hR7,s7⟩;have HOP:=aA ho;clear ho hck;(obtain⟨ya,yc,rfl,hout⟩:=aJ HOP.out (by omega));have L7:=aA (L57.out.on s7 hR7);have L8:=aA (L7.out.all 1 to 0 0 hout.1 (by omega) (hout.2.2.imp id (fun⟨g,off,e,q⟩=>⟨g,off,e,by omega,by omega,by omega⟩)));have HSB:Hid (v7.cell? ⟨X,1,none⟩=some (.int .i64 to)):=aA L7.out.five.1.1.2.1;have HST:Hid ((((((v7.setCell ⟨X,0,none⟩ (.int .i64 1)).setCell ⟨X,1,none⟩ (.int .i64 to)).setCell ⟨X,2,none⟩ (.int .i64 0)).setCell ⟨X,3,none⟩ (.int .i64 0)).setCell ⟨X,4,none⟩ (.slice ya LP.length yc)).cell? ⟨X,1,none⟩=some (.int .i64 to)):=aA L8.out.five.1.1.2.1;obtain⟨⟨⟨c0,c1,c2,c3,c4⟩,cz⟩,_⟩:=L7.out.five;clear hR7 s7 hout HOP))
   clear HSB HST HS0 c0 c1 c2 c3 c4 cz L7 L57;generalize(((((v7.setCell ⟨X,0,none⟩ (.int .i64 1)).setCell ⟨X,1,none⟩ (.int .i64 to)).setCell ⟨X,2,none⟩ (.int .i64 0)).setCell ⟨X,3,none⟩ (.int .i64 0)).setCell ⟨X,4,none⟩ (.slice ya LP.length yc))=v8 at *;have hlL5:LP.length≤5:=by omega
   obtain⟨⟨⟨c0,c1,c2,c3,c4⟩,cz⟩,⟨⟨d0,d1,d2,d3,d4⟩,dz⟩⟩:=L8.out.five;go_wp2_with fail;clear c0 c1 c2 c3 c4 cz d0 d1 d2 d3 d4 dz;refine(aI _ B _ n L8.out.rdr (by omega) (by omega) (by omega)).mono ?_;rintro e v58 ⟨z,rfl,z0,z1,kp⟩;have L59:=aA (L8.out.on kp.beside (kp.rdr L8.out.rdr))
   clear kp L8;by_cases hz0:z=0;rotate_left
   ·have hzb:(z==0)=false:=beq_eq_false_iff_ne.2 hz0;obtain⟨⟨⟨c0,c1,c2,c3,c4⟩,cz⟩,⟨⟨d0,d1,d2,d3,d4⟩,dz⟩⟩:=L59.out.five;go_wp2;refine aY (v:=.agg #[.int .i64 1,.int .i64 to,.int .i64 0,.int .i64 0,.slice ya LP.length yc]) (by simp[results,Tryz.results47,go_sem, *]) rfl ?_;exact L59.out.fin (by omega)
   subst hz0;obtain⟨⟨⟨c0,c1,c2,c3,c4⟩,cz⟩,⟨⟨d0,d1,d2,d3,d4⟩,dz⟩⟩:=L59.out.five;go_wp2_with fail;clear c0 c1 c2 c3 c4 cz d0 d1 d2 d3 d4 dz;refine(aI _ B _ 4 L59.out.rdr (by omega) (by omega) (by omega)).mono ?_;rintro e v60 ⟨c,rfl,c0,c1,kp⟩;have L61:=aA (L59.out.on kp.beside (kp.rdr L59.out.rdr))
   clear kp L59;rcases(show c=0∨c=1∨c=2∨c=3 by omega)with rfl|rfl|rfl|rfl
   ·obtain⟨⟨⟨c0,c1,c2,c3,c4⟩,cz⟩,⟨⟨d0,d1,d2,d3,d4⟩,dz⟩⟩:=L61.out.five;go_wp2_with fail;clear c0 c1 c2 c3 c4 cz d0 d1 d2 d3 d4 dz;have L62:=aA (L61.out.alloc (.cells #[.int .i64 0,.int .i64 9,.int .i64 (-1)] 3))
    have hBv:B<v60.heap.size:=L61.out.rdr.lt;have hlit:=fun x x0 x3=>oM (u:=v60) (y:=3) (v0:=0) (v1:=9) (v2:=(-1)) x x0 x3
    have hvl:v60.heap.size<(v60.alloc (.cells #[.int .i64 0,.int .i64 9,.int .i64 (-1)] 3)).heap.size:=by simp
    generalize v60.alloc (.cells #[.int .i64 0,.int .i64 9,.int .i64 (-1)] 3)=va at *;generalize v60.heap.size=NB at *;refine(aI _ B _ 3 L62.out.rdr (by omega) (by omega) (by omega)).mono ?_;rintro e vb ⟨j,rfl,j0,j3,kp⟩;obtain⟨zz,hzz⟩:=hlit j j0 j3;obtain⟨J,rfl⟩:∃J:Nat,j=(J:Int):=⟨j.toNat,by omega⟩
    have hJ:J<3:=by omega
    simp only[Int.toNat_natCast]at hzz;have hz2:vb.cell? ⟨NB,J,none⟩=some (.int .i64 zz):=(kp.beside.cell hvl (by omega)).trans hzz
    have LL:=aA (L62.out.on kp.beside (kp.rdr L62.out.rdr));clear kp hlit hzz L62;obtain⟨⟨⟨c0,c1,c2,c3,c4⟩,cz⟩,⟨⟨d0,d1,d2,d3,d4⟩,dz⟩⟩:=LL.out.five;go_wp2;refine aY (v:=.agg #[.int .i64 zz,.int .i64 to,.int .i64 0,.int .i64 0,.slice ya LP.length yc]) (by simp[results,Tryz.results47,go_sem, *]) rfl ?_;exact(LL.out.set0 zz).fin (by omega)
   ·obtain⟨⟨⟨c0,c1,c2,c3,c4⟩,cz⟩,⟨⟨d0,d1,d2,d3,d4⟩,dz⟩⟩:=L61.out.five;go_wp2_with fail;clear c0 c1 c2 c3 c4 cz d0 d1 d2 d3 d4 dz;have L63:=aA (L61.out.alloc (.cells #[.int .i64 (-1),.int .i64 6] 3))
    have hBv:B<v60.heap.size:=L61.out.rdr.lt;have hlit:=fun x x0 x3=>BI (u:=v60) (y:=3) (v0:=(-1)) (v1:=6) x x0 x3
    have hvl:v60.heap.size<(v60.alloc (.cells #[.int .i64 (-1),.int .i64 6] 3)).heap.size:=by simp
    generalize v60.alloc (.cells #[.int .i64 (-1),.int .i64 6] 3)=va at *;generalize v60.heap.size=NB at *;refine(aI _ B _ 2 L63.out.rdr (by omega) (by omega) (by omega)).mono ?_;rintro e vb ⟨j,rfl,j0,j3,kp⟩;obtain⟨zz,hzz⟩:=hlit j j0 j3;obtain⟨J,rfl⟩:∃J:Nat,j=(J:Int):=⟨j.toNat,by omega⟩
    have hJ:J<2:=by omega
    simp only[Int.toNat_natCast]at hzz;have hz2:vb.cell? ⟨NB,J,none⟩=some (.int .i64 zz):=(kp.beside.cell hvl (by omega)).trans hzz
    have LL:=aA (L63.out.on kp.beside (kp.rdr L63.out.rdr));clear kp hlit hzz L63;obtain⟨⟨⟨c0,c1,c2,c3,c4⟩,cz⟩,⟨⟨d0,d1,d2,d3,d4⟩,dz⟩⟩:=LL.out.five;go_wp2;refine aY (v:=.agg #[.int .i64 1,.int .i64 zz,.int .i64 0,.int .i64 0,.slice ya LP.length yc]) (by simp[results,Tryz.results47,go_sem, *]) rfl ?_;exact(LL.out.set1 zz).fin (by omega)
   ·obtain⟨⟨⟨c0,c1,c2,c3,c4⟩,cz⟩,⟨⟨d0,d1,d2,d3,d4⟩,dz⟩⟩:=L61.out.five;go_wp2_with fail;clear c0 c1 c2 c3 c4 cz d0 d1 d2 d3 d4 dz;have L64:=aA (L61.out.alloc (.cells #[.int .i64 (-1),.int .i64 6,.int .i64 2] 3))
    have hBv:B<v60.heap.size:=L61.out.rdr.lt;have hlit:=fun x x0 x3=>oM (u:=v60) (y:=3) (v0:=(-1)) (v1:=6) (v2:=2) x x0 x3
    have hvl:v60.heap.size<(v60.alloc (.cells #[.int .i64 (-1),.int .i64 6,.int .i64 2] 3)).heap.size:=by simp
    generalize v60.alloc (.cells #[.int .i64 (-1),.int .i64 6,.int .i64 2] 3)=va at *;generalize v60.heap.size=NB at *;refine(aI _ B _ 3 L64.out.rdr (by omega) (by omega) (by omega)).mono ?_;rintro e vb ⟨j,rfl,j0,j3,kp⟩;obtain⟨zz,hzz⟩:=hlit j j0 j3;obtain⟨J,rfl⟩:∃J:Nat,j=(J:Int):=⟨j.toNat,by omega⟩
    have hJ:J<3:=by omega
    simp only[Int.toNat_natCast]at hzz;have hz2:vb.cell? ⟨NB,J,none⟩=some (.int .i64 zz):=(kp.beside.cell hvl (by omega)).trans hzz
    have LL:=aA (L64.out.on kp.beside (kp.rdr L64.out.rdr));clear kp hlit hzz L64;obtain⟨⟨⟨c0,c1,c2,c3,c4⟩,cz⟩,⟨⟨d0,d1,d2,d3,d4⟩,dz⟩⟩:=LL.out.five;go_wp2;refine aY (v:=.agg #[.int .i64 1,.int .i64 to,.int .i64 zz,.int .i64 0,.slice ya LP.length yc]) (by simp[results,Tryz.results47,go_sem, *]) rfl ?_;exact(LL.out.set2 zz).fin (by omega)
   ·obtain⟨⟨⟨c0,c1,c2,c3,c4⟩,cz⟩,⟨⟨d0,d1,d2,d3,d4⟩,dz⟩⟩:=L61.out.five;go_wp2_with fail;clear c0 c1 c2 c3 c4 cz d0 d1 d2 d3 d4 dz;refine(jE _ B _ 2 L61.out.rdr (by omega) (by omega) (by omega)).mono ?_;rintro e vb ⟨ya,ym,yc,yf,q9,rfl,hrd,hm5,hblk,hq9,hR9,s9⟩;have hvl:=L61.out.bes.size
    have hXl:X<v60.heap.size:=(Array.getElem?_eq_some_iff.1 L61.out.box).1;have hRl:R<v60.heap.size:=(Array.getElem?_eq_some_iff.1 L61.out.res).1
    have LL:=aA (L61.out.on s9 hR9);have HRD:=aA hrd
    have HAW:Hid (ym=0∨∃g off,ya=some ⟨g,off,none⟩∧w.heap.size≤g∧g≠X∧g≠R):=aA (hblk.imp id (fun⟨g,off,e,q⟩=>⟨g,off,e,by omega,by omega,by omega⟩));clear hrd hblk hR9 s9 L61;obtain⟨⟨⟨c0,c1,c2,c3,c4⟩,cz⟩,⟨⟨d0,d1,d2,d3,d4⟩,dz⟩⟩:=LL.out.five;go_wp2;refine aY (v:=.agg #[.int .i64 1,.int .i64 to,.int .i64 0,.int .i64 0,.slice ya ym yc]) (by simp[results,Tryz.results47,go_sem, *]) rfl ?_;exact(LL.out.set4 HRD.out hm5 HAW.out).fin (by omega)
  ·have hyb:(y==0)=false:=beq_eq_false_iff_ne.2 hy0;obtain⟨⟨⟨c0,c1,c2,c3,c4⟩,cz⟩,⟨⟨d0,d1,d2,d3,d4⟩,dz⟩⟩:=L56.out.five;go_wp2_with fail;clear c0 c1 c2 c3 c4 cz d0 d1 d2 d3 d4 dz;refine(aI _ B _ n L56.out.rdr (by omega) (by omega) (by omega)).mono ?_;rintro e v65 ⟨z,rfl,z0,z1,kp⟩;have L66:=aA (L56.out.on kp.beside (kp.rdr L56.out.rdr))
   clear kp L56;by_cases hz0:z=0;rotate_left
   ·have hzb:(z==0)=false:=beq_eq_false_iff_ne.2 hz0;obtain⟨⟨⟨c0,c1,c2,c3,c4⟩,cz⟩,⟨⟨d0,d1,d2,d3,d4⟩,dz⟩⟩:=L66.out.five;go_wp2;refine aY (v:=.agg #[.int .i64 k,.int .i64 to,.int .i64 xa,.int .i64 xb,.slice none 0 0]) (by simp[results,Tryz.results47,go_sem, *]) rfl ?_;exact L66.out.fin (by omega)
   subst hz0;obtain⟨⟨⟨c0,c1,c2,c3,c4⟩,cz⟩,⟨⟨d0,d1,d2,d3,d4⟩,dz⟩⟩:=L66.out.five;go_wp2_with fail;clear c0 c1 c2 c3 c4 cz d0 d1 d2 d3 d4 dz;refine(aI _ B _ 4 L66.out.rdr (by omega) (by omega) (by omega)).mono ?_;rintro e v67 ⟨c,rfl,c0,c1,kp⟩;have L68:=aA (L66.out.on kp.beside (kp.rdr L66.out.rdr))
   clear kp L66;rcases(show c=0∨c=1∨c=2∨c=3 by omega)with rfl|rfl|rfl|rfl
   ·obtain⟨⟨⟨c0,c1,c2,c3,c4⟩,cz⟩,⟨⟨d0,d1,d2,d3,d4⟩,dz⟩⟩:=L68.out.five;go_wp2_with fail;clear c0 c1 c2 c3 c4 cz d0 d1 d2 d3 d4 dz;have L69:=aA (L68.out.alloc (.cells #[.int .i64 0,.int .i64 9,.int .i64 (-1)] 3))
    have hBv:B<v67.heap.size:=L68.out.rdr.lt;have hlit:=fun x x0 x3=>oM (u:=v67) (y:=3) (v0:=0) (v1:=9) (v2:=(-1)) x x0 x3
    have hvl:v67.heap.size<(v67.alloc (.cells #[.int .i64 0,.int .i64 9,.int .i64 (-1)] 3)).heap.size:=by simp
    generalize v67.alloc (.cells #[.int .i64 0,.int .i64 9,.int .i64 (-1)] 3)=va at *;generalize v67.heap.size=NB at *;refine(aI _ B _ 3 L69.out.rdr (by omega) (by omega) (by omega)).mono ?_;rintro e vb ⟨j,rfl,j0,j3,kp⟩;obtain⟨zz,hzz⟩:=hlit j j0 j3;obtain⟨J,rfl⟩:∃J:Nat,j=(J:Int):=⟨j.toNat,by omega⟩
    have hJ:J<3:=by omega
    simp only[Int.toNat_natCast]at hzz;have hz2:vb.cell? ⟨NB,J,none⟩=some (.int .i64 zz):=(kp.beside.cell hvl (by omega)).trans hzz
    have LL:=aA (L69.out.on kp.beside (kp.rdr L69.out.rdr));clear kp hlit hzz L69;obtain⟨⟨⟨c0,c1,c2,c3,c4⟩,cz⟩,⟨⟨d0,d1,d2,d3,d4⟩,dz⟩⟩:=LL.out.five;go_wp2;refine aY (v:=.agg #[.int .i64 zz,.int .i64 to,.int .i64 xa,.int .i64 xb,.slice none 0 0]) (by simp[results,Tryz.results47,go_sem, *]) rfl ?_;exact(LL.out.set0 zz).fin (by omega)
   ·obtain⟨⟨⟨c0,c1,c2,c3,c4⟩,cz⟩,⟨⟨d0,d1,d2,d3,d4⟩,dz⟩⟩:=L68.out.five;go_wp2_with fail;clear c0 c1 c2 c3 c4 cz d0 d1 d2 d3 d4 dz;have L70:=aA (L68.out.alloc (.cells #[.int .i64 (-1),.int .i64 6] 3))
    have hBv:B<v67.heap.size:=L68.out.rdr.lt;have hlit:=fun x x0 x3=>BI (u:=v67) (y:=3) (v0:=(-1)) (v1:=6) x x0 x3
    have hvl:v67.heap.size<(v67.alloc (.cells #[.int .i64 (-1),.int .i64 6] 3)).heap.size:=by simp
    generalize v67.alloc (.cells #[.int .i64 (-1),.int .i64 6] 3)=va at *;generalize v67.heap.size=NB at *;refine(aI _ B _ 2 L70.out.rdr (by omega) (by omega) (by omega)).mono ?_;rintro e vb ⟨j,rfl,j0,j3,kp⟩;obtain⟨zz,hzz⟩:=hlit j j0 j3;obtain⟨J,rfl⟩:∃J:Nat,j=(J:Int):=⟨j.toNat,by omega⟩
    have hJ:J<2:=by omega
    simp only[Int.toNat_natCast]at hzz;have hz2:vb.cell? ⟨NB,J,none⟩=some (.int .i64 zz):=(kp.beside.cell hvl (by omega)).trans hzz
    have LL:=aA (L70.out.on kp.beside (kp.rdr L70.out.rdr));clear kp hlit hzz L70;obtain⟨⟨⟨c0,c1,c2,c3,c4⟩,cz⟩,⟨⟨d0,d1,d2,d3,d4⟩,dz⟩⟩:=LL.out.five;go_wp2;refine aY (v:=.agg #[.int .i64 k,.int .i64 zz,.int .i64 xa,.int .i64 xb,.slice none 0 0]) (by simp[results,Tryz.results47,go_sem, *]) rfl ?_;exact(LL.out.set1 zz).fin (by omega)
   ·obtain⟨⟨⟨c0,c1,c2,c3,c4⟩,cz⟩,⟨⟨d0,d1,d2,d3,d4⟩,dz⟩⟩:=L68.out.five;go_wp2_with fail;clear c0 c1 c2 c3 c4 cz d0 d1 d2 d3 d4 dz;have L71:=aA (L68.out.alloc (.cells #[.int .i64 (-1),.int .i64 6,.int .i64 2] 3))
    have hBv:B<v67.heap.size:=L68.out.rdr.lt;have hlit:=fun x x0 x3=>oM (u:=v67) (y:=3) (v0:=(-1)) (v1:=6) (v2:=2) x x0 x3
    have hvl:v67.heap.size<(v67.alloc (.cells #[.int .i64 (-1),.int .i64 6,.int .i64 2] 3)).heap.size:=by simp
    generalize v67.alloc (.cells #[.int .i64 (-1),.int .i64 6,.int .i64 2] 3)=va at *;generalize v67.heap.size=NB at *;refine(aI _ B _ 3 L71.out.rdr (by omega) (by omega) (by omega)).mono ?_;rintro e vb ⟨j,rfl,j0,j3,kp⟩;obtain⟨zz,hzz⟩:=hlit j j0 j3;obtain⟨J,rfl⟩:∃J:Nat,j=(J:Int):=⟨j.toNat,by omega⟩
    have hJ:J<3:=by omega
    simp only[Int.toNat_natCast]at hzz;have hz2:vb.cell? ⟨NB,J,none⟩=some (.int .i64 zz):=(kp.beside.cell hvl (by omega)).trans hzz
    have LL:=aA (L71.out.on kp.beside (kp.rdr L71.out.rdr));clear kp hlit hzz L71;obtain⟨⟨⟨c0,c1,c2,c3,c4⟩,cz⟩,⟨⟨d0,d1,d2,d3,d4⟩,dz⟩⟩:=LL.out.five;go_wp2;refine aY (v:=.agg #[.int .i64 k,.int .i64 to,.int .i64 zz,.int .i64 xb,.slice none 0 0]) (by simp[results,Tryz.results47,go_sem, *]) rfl ?_;exact(LL.out.set2 zz).fin (by omega)
   ·obtain⟨⟨⟨c0,c1,c2,c3,c4⟩,cz⟩,⟨⟨d0,d1,d2,d3,d4⟩,dz⟩⟩:=L68.out.five;go_wp2_with fail;clear c0 c1 c2 c3 c4 cz d0 d1 d2 d3 d4 dz;refine(jE _ B _ 2 L68.out.rdr (by omega) (by omega) (by omega)).mono ?_;rintro e vb ⟨ya,ym,yc,yf,q9,rfl,hrd,hm5,hblk,hq9,hR9,s9⟩;have hvl:=L68.out.bes.size
    have hXl:X<v67.heap.size:=(Array.getElem?_eq_some_iff.1 L68.out.box).1;have hRl:R<v67.heap.size:=(Array.getElem?_eq_some_iff.1 L68.out.res).1
    have LL:=aA (L68.out.on s9 hR9);have HRD:=aA hrd
    have HAW:Hid (ym=0∨∃g off,ya=some ⟨g,off,none⟩∧w.heap.size≤g∧g≠X∧g≠R):=aA (hblk.imp id (fun⟨g,off,e,q⟩=>⟨g,off,e,by omega,by omega,by omega⟩));clear hrd hblk hR9 s9 L68;obtain⟨⟨⟨c0,c1,c2,c3,c4⟩,cz⟩,⟨⟨d0,d1,d2,d3,d4⟩,dz⟩⟩:=LL.out.five;go_wp2;refine aY (v:=.agg #[.int .i64 k,.int .i64 to,.int .i64 xa,.int .i64 xb,.slice ya ym yc]) (by simp[results,Tryz.results47,go_sem, *]) rfl ?_;exact(LL.out.set4 HRD.out hm5 HAW.out).fin (by omega)
end Go.Proofs.YtkcmamepoplcdaaGreatDoor
