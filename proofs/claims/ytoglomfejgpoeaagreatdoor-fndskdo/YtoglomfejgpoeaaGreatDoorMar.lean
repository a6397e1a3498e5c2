/-
  What an operator does to a form of the times: the program.
  What an operator does to a form of the times: the program, put together.
  What an operator does to a form of the times: the model.
-/
import Derived.Test.YtoglomfejgpoeaaGreatDoorMaq
set_option maxHeartbeats 8000000
set_option maxRecDepth 100000
namespace Go.Proofs.YtoglomfejgpoeaaGreatDoor
open Go.RowKit Go.Maps
set_option linter.unusedVariables false
attribute [local go_sem] Oper.semAt_some
abbrev S10 (n:Nat) (a b:T) (u:World):Prop:=u.cell? ⟨n,0,none⟩=some (.int .i64 a.c)∧u.cell? ⟨n,1,none⟩=some (.int .i64 a.m.x)∧u.cell? ⟨n,2,none⟩=some (.int .i64 a.m.y)∧u.cell? ⟨n,3,none⟩=some (.int .i64 a.m.d)∧u.cell? ⟨n,4,none⟩=some (.int .i64 a.m.e)∧u.cell? ⟨n+1,0,none⟩=some (.int .i64 b.c)∧u.cell? ⟨n+1,1,none⟩=some (.int .i64 b.m.x)∧u.cell? ⟨n+1,2,none⟩=some (.int .i64 b.m.y)∧u.cell? ⟨n+1,3,none⟩=some (.int .i64 b.m.d)∧u.cell? ⟨n+1,4,none⟩=some (.int .i64 b.m.e)
theorem S10.below {n:Nat} {a b:T} {u u':World} (h:S10 n a b u) (hb:Below u.heap.size u u'):S10 n a b u':=by have k:∀(x o:Nat) (v:Value),u.cell? ⟨x,o,none⟩=some v→u'.cell? ⟨x,o,none⟩=some v:=fun x o v hv=>(hb.cell (p:=⟨x,o,none⟩) (uK u ⟨x,o,none⟩ hv)).trans hv;obtain⟨h0,h1,h2,h3,h4,h5,h6,h7,h8,h9⟩:=h;exact⟨k _ _ _ h0,k _ _ _ h1,k _ _ _ h2,k _ _ _ h3,k _ _ _ h4,k _ _ _ h5,k _ _ _ h6,k _ _ _ h7,k _ _ _ h8,k _ _ _ h9⟩
theorem pD {w:World} {b o b' o':Nat} {v:Value} (h:b'≠b):(w.setCell ⟨b,o,none⟩ v).cell? ⟨b',o',none⟩=w.cell? ⟨b',o',none⟩:=kV (w:=w) (Below.heap_setCell _ _ _ _ h)
theorem S10.set {n B o:Nat} {a b:T} {u:World} (h:S10 n a b u) (h1:n≠B) (h2:n+1≠B) (v:Value):S10 n a b (u.setCell ⟨B,o,none⟩ v):=by obtain⟨h0,h1',h2',h3,h4,h5,h6,h7,h8,h9⟩:=h;exact⟨(pD h1).trans h0,(pD h1).trans h1',(pD h1).trans h2',(pD h1).trans h3,(pD h1).trans h4,(pD h2).trans h5,(pD h2).trans h6,(pD h2).trans h7,(pD h2).trans h8,(pD h2).trans h9⟩
theorem S10.set5 {n B:Nat} {a b:T} {u:World} (h:S10 n a b u) (h1:n≠B) (h2:n+1≠B) (v0 v1 v2 v3 v4:Value):S10 n a b (((((u.setCell ⟨B,0,none⟩ v0).setCell ⟨B,1,none⟩ v1).setCell ⟨B,2,none⟩ v2).setCell ⟨B,3,none⟩ v3).setCell ⟨B,4,none⟩ v4):=
 ((((h.set h1 h2 v0).set h1 h2 v1).set h1 h2 v2).set h1 h2 v3).set h1 h2 v4
theorem yS (a b:T) (w:World) (ha:a.m.ok=true) (hb:b.m.ok=true):Calls Tryz.prog 125 #[.agg #[.int .i64 a.c,.int .i64 a.m.x,.int .i64 a.m.y,.int .i64 a.m.d,.int .i64 a.m.e],.agg #[.int .i64 b.c,.int .i64 b.m.x,.int .i64 b.m.y,.int .i64 b.m.d,.int .i64 b.m.e]] w fun r w'=>r= .returned (.agg #[.int .i64 (qY a b).c,.int .i64 (qY a b).m.x,.int .i64 (qY a b).m.y,.int .i64 (qY a b).m.d,.int .i64 (qY a b).m.e])∧Below w.heap.size w w':=by
 obtain⟨p1,p2,p3,p4,p5,p6,p7,p8⟩:=M.ok_iff.1 ha;obtain⟨q1,q2,q3,q4,q5,q6,q7,q8⟩:=M.ok_iff.1 hb;clear ha hb;go_enter Tryz.func125,Tryz.ntmps125;go_wp2_with (go_at_call 155;refine(DX _ _ _).mono ?_;rintro e w' ⟨rfl,hw'⟩;obtain rfl:=hw'.symm;clear hw');have c00:(((w.alloc (.cells #[.int .i64 a.c,.int .i64 a.m.x,.int .i64 a.m.y,.int .i64 a.m.d,.int .i64 a.m.e] 80)).alloc (.cells #[.int .i64 b.c,.int .i64 b.m.x,.int .i64 b.m.y,.int .i64 b.m.d,.int .i64 b.m.e] 80)).alloc (.cells #[.int .i64 0,.int .i64 0,.int .i64 0,.int .i64 0,.int .i64 0] 80)).cell? ⟨w.heap.size,0,none⟩=some (.int .i64 a.c):=by go_simp
 have c01:(((w.alloc (.cells #[.int .i64 a.c,.int .i64 a.m.x,.int .i64 a.m.y,.int .i64 a.m.d,.int .i64 a.m.e] 80)).alloc (.cells #[.int .i64 b.c,.int .i64 b.m.x,.int .i64 b.m.y,.int .i64 b.m.d,.int .i64 b.m.e] 80)).alloc (.cells #[.int .i64 0,.int .i64 0,.int .i64 0,.int .i64 0,.int .i64 0] 80)).cell? ⟨w.heap.size,1,none⟩=some (.int .i64 a.m.x):=by go_simp
 have c02:(((w.alloc (.cells #[.int .i64 a.c,.int .i64 a.m.x,.int .i64 a.m.y,.int .i64 a.m.d,.int .i64 a.m.e] 80)).alloc (.cells #[.int .i64 b.c,.int .i64 b.m.x,.int .i64 b.m.y,.int .i64 b.m.d,.int .i64 b.m.e] 80)).alloc (.cells #[.int .i64 0,.int .i64 0,.int .i64 0,.int .i64 0,.int .i64 0] 80)).cell? ⟨w.heap.size,2,none⟩=some (.int .i64 a.m.y):=by go_simp
 have c03:(((w.alloc (.cells #[.int .i64 a.c,.int .i64 a.m.x,.int .i64 a.m.y,.int .i64 a.m.d,.int .i64 a.m.e] 80)).alloc (.cells #[.int .i64 b.c,.int .i64 b.m.x,.int .i64 b.m.y,.int .i64 b.m.d,.int .i64 b.m.e] 80)).alloc (.cells #[.int .i64 0,.int .i64 0,.int .i64 0,.int .i64 0,.int .i64 0] 80)).cell? ⟨w.heap.size,3,none⟩=some (.int .i64 a.m.d):=by go_simp
 have c04:(((w.alloc (.cells #[.int .i64 a.c,.int .i64 a.m.x,.int .i64 a.m.y,.int .i64 a.m.d,.int .i64 a.m.e] 80)).alloc (.cells #[.int .i64 b.c,.int .i64 b.m.x,.int .i64 b.m.y,.int .i64 b.m.d,.int .i64 b.m.e] 80)).alloc (.cells #[.int .i64 0,.int .i64 0,.int .i64 0,.int .i64 0,.int .i64 0] 80)).cell? ⟨w.heap.size,4,none⟩=some (.int .i64 a.m.e):=by go_simp
 have c10:(((w.alloc (.cells #[.int .i64 a.c,.int .i64 a.m.x,.int .i64 a.m.y,.int .i64 a.m.d,.int .i64 a.m.e] 80)).alloc (.cells #[.int .i64 b.c,.int .i64 b.m.x,.int .i64 b.m.y,.int .i64 b.m.d,.int .i64 b.m.e] 80)).alloc (.cells #[.int .i64 0,.int .i64 0,.int .i64 0,.int .i64 0,.int .i64 0] 80)).cell? ⟨w.heap.size+1,0,none⟩=some (.int .i64 b.c):=by go_simp
 have c11:(((w.alloc (.cells #[.int .i64 a.c,.int .i64 a.m.x,.int .i64 a.m.y,.int .i64 a.m.d,.int .i64 a.m.e] 80)).alloc (.cells #[.int .i64 b.c,.int .i64 b.m.x,.int .i64 b.m.y,.int .i64 b.m.d,.int .i64 b.m.e] 80)).alloc (.cells #[.int .i64 0,.int .i64 0,.int .i64 0,.int .i64 0,.int .i64 0] 80)).cell? ⟨w.heap.size+1,1,none⟩=some (.int .i64 b.m.x):=by go_simp
 have c12:(((w.alloc (.cells #[.int .i64 a.c,.int .i64 a.m.x,.int .i64 a.m.y,.int .i64 a.m.d,.int .i64 a.m.e] 80)).alloc (.cells #[.int .i64 b.c,.int .i64 b.m.x,.int .i64 b.m.y,.int .i64 b.m.d,.int .i64 b.m.e] 80)).alloc (.cells #[.int .i64 0,.int .i64 0,.int .i64 0,.int .i64 0,.int .i64 0] 80)).cell? ⟨w.heap.size+1,2,none⟩=some (.int .i64 b.m.y):=by go_simp
 have c13:(((w.alloc (.cells #[.int .i64 a.c,.int .i64 a.m.x,.int .i64 a.m.y,.int .i64 a.m.d,.int .i64 a.m.e] 80)).alloc (.cells #[.int .i64 b.c,.int .i64 b.m.x,.int .i64 b.m.y,.int .i64 b.m.d,.int .i64 b.m.e] 80)).alloc (.cells #[.int .i64 0,.int .i64 0,.int .i64 0,.int .i64 0,.int .i64 0] 80)).cell? ⟨w.heap.size+1,3,none⟩=some (.int .i64 b.m.d):=by go_simp
 have c14:(((w.alloc (.cells #[.int .i64 a.c,.int .i64 a.m.x,.int .i64 a.m.y,.int .i64 a.m.d,.int .i64 a.m.e] 80)).alloc (.cells #[.int .i64 b.c,.int .i64 b.m.x,.int .i64 b.m.y,.int .i64 b.m.d,.int .i64 b.m.e] 80)).alloc (.cells #[.int .i64 0,.int .i64 0,.int .i64 0,.int .i64 0,.int .i64 0] 80)).cell? ⟨w.heap.size+1,4,none⟩=some (.int .i64 b.m.e):=by go_simp
 have t0:(((w.alloc (.cells #[.int .i64 a.c,.int .i64 a.m.x,.int .i64 a.m.y,.int .i64 a.m.d,.int .i64 a.m.e] 80)).alloc (.cells #[.int .i64 b.c,.int .i64 b.m.x,.int .i64 b.m.y,.int .i64 b.m.d,.int .i64 b.m.e] 80)).alloc (.cells #[.int .i64 0,.int .i64 0,.int .i64 0,.int .i64 0,.int .i64 0] 80)).cell? ⟨w.heap.size+1+1,0,none⟩=some (.int .i64 0):=by go_simp
 have t1:(((w.alloc (.cells #[.int .i64 a.c,.int .i64 a.m.x,.int .i64 a.m.y,.int .i64 a.m.d,.int .i64 a.m.e] 80)).alloc (.cells #[.int .i64 b.c,.int .i64 b.m.x,.int .i64 b.m.y,.int .i64 b.m.d,.int .i64 b.m.e] 80)).alloc (.cells #[.int .i64 0,.int .i64 0,.int .i64 0,.int .i64 0,.int .i64 0] 80)).cell? ⟨w.heap.size+1+1,1,none⟩=some (.int .i64 0):=by go_simp
 have t2:(((w.alloc (.cells #[.int .i64 a.c,.int .i64 a.m.x,.int .i64 a.m.y,.int .i64 a.m.d,.int .i64 a.m.e] 80)).alloc (.cells #[.int .i64 b.c,.int .i64 b.m.x,.int .i64 b.m.y,.int .i64 b.m.d,.int .i64 b.m.e] 80)).alloc (.cells #[.int .i64 0,.int .i64 0,.int .i64 0,.int .i64 0,.int .i64 0] 80)).cell? ⟨w.heap.size+1+1,2,none⟩=some (.int .i64 0):=by go_simp
 have t3:(((w.alloc (.cells #[.int .i64 a.c,.int .i64 a.m.x,.int .i64 a.m.y,.int .i64 a.m.d,.int .i64 a.m.e] 80)).alloc (.cells #[.int .i64 b.c,.int .i64 b.m.x,.int .i64 b.m.y,.int .i64 b.m.d,.int .i64 b.m.e] 80)).alloc (.cells #[.int .i64 0,.int .i64 0,.int .i64 0,.int .i64 0,.int .i64 0] 80)).cell? ⟨w.heap.size+1+1,3,none⟩=some (.int .i64 0):=by go_simp
 have t4:(((w.alloc (.cells #[.int .i64 a.c,.int .i64 a.m.x,.int .i64 a.m.y,.int .i64 a.m.d,.int .i64 a.m.e] 80)).alloc (.cells #[.int .i64 b.c,.int .i64 b.m.x,.int .i64 b.m.y,.int .i64 b.m.d,.int .i64 b.m.e] 80)).alloc (.cells #[.int .i64 0,.int .i64 0,.int .i64 0,.int .i64 0,.int .i64 0] 80)).cell? ⟨w.heap.size+1+1,4,none⟩=some (.int .i64 0):=by go_simp
 have z0:∀i,(((w.alloc (.cells #[.int .i64 a.c,.int .i64 a.m.x,.int .i64 a.m.y,.int .i64 a.m.d,.int .i64 a.m.e] 80)).alloc (.cells #[.int .i64 b.c,.int .i64 b.m.x,.int .i64 b.m.y,.int .i64 b.m.d,.int .i64 b.m.e] 80)).alloc (.cells #[.int .i64 0,.int .i64 0,.int .i64 0,.int .i64 0,.int .i64 0] 80)).frozen? ⟨w.heap.size+1+1,i,none⟩=false:=fun i=>by go_simp
 have HB:=aA (bZ w (.cells #[.int .i64 a.c,.int .i64 a.m.x,.int .i64 a.m.y,.int .i64 a.m.d,.int .i64 a.m.e] 80) (.cells #[.int .i64 b.c,.int .i64 b.m.x,.int .i64 b.m.y,.int .i64 b.m.d,.int .i64 b.m.e] 80) (.cells #[.int .i64 0,.int .i64 0,.int .i64 0,.int .i64 0,.int .i64 0] 80));have hs0:(((w.alloc (.cells #[.int .i64 a.c,.int .i64 a.m.x,.int .i64 a.m.y,.int .i64 a.m.d,.int .i64 a.m.e] 80)).alloc (.cells #[.int .i64 b.c,.int .i64 b.m.x,.int .i64 b.m.y,.int .i64 b.m.d,.int .i64 b.m.e] 80)).alloc (.cells #[.int .i64 0,.int .i64 0,.int .i64 0,.int .i64 0,.int .i64 0] 80)).heap.size=w.heap.size+3:=by simp
 generalize(((w.alloc (.cells #[.int .i64 a.c,.int .i64 a.m.x,.int .i64 a.m.y,.int .i64 a.m.d,.int .i64 a.m.e] 80)).alloc (.cells #[.int .i64 b.c,.int .i64 b.m.x,.int .i64 b.m.y,.int .i64 b.m.d,.int .i64 b.m.e] 80)).alloc (.cells #[.int .i64 0,.int .i64 0,.int .i64 0,.int .i64 0,.int .i64 0] 80))=W0 at *;have l0:w.heap.size<W0.heap.size:=by omega
 have l1:w.heap.size+1<W0.heap.size:=by omega
 have l2:w.heap.size+1+1<W0.heap.size:=by omega
 clear hs0;have ne:=cO.there W0
 have s00:∀u:cO W0,u.1.cell? ⟨w.heap.size,0,none⟩=some (.int .i64 a.c):=fun u=>(u.cell l0).trans c00;have s01:∀u:cO W0,u.1.cell? ⟨w.heap.size,1,none⟩=some (.int .i64 a.m.x):=fun u=>(u.cell l0).trans c01
 have s02:∀u:cO W0,u.1.cell? ⟨w.heap.size,2,none⟩=some (.int .i64 a.m.y):=fun u=>(u.cell l0).trans c02;have s03:∀u:cO W0,u.1.cell? ⟨w.heap.size,3,none⟩=some (.int .i64 a.m.d):=fun u=>(u.cell l0).trans c03
 have s04:∀u:cO W0,u.1.cell? ⟨w.heap.size,4,none⟩=some (.int .i64 a.m.e):=fun u=>(u.cell l0).trans c04;have s10:∀u:cO W0,u.1.cell? ⟨w.heap.size+1,0,none⟩=some (.int .i64 b.c):=fun u=>(u.cell l1).trans c10
 have s11:∀u:cO W0,u.1.cell? ⟨w.heap.size+1,1,none⟩=some (.int .i64 b.m.x):=fun u=>(u.cell l1).trans c11;have s12:∀u:cO W0,u.1.cell? ⟨w.heap.size+1,2,none⟩=some (.int .i64 b.m.y):=fun u=>(u.cell l1).trans c12
 have s13:∀u:cO W0,u.1.cell? ⟨w.heap.size+1,3,none⟩=some (.int .i64 b.m.d):=fun u=>(u.cell l1).trans c13;have s14:∀u:cO W0,u.1.cell? ⟨w.heap.size+1,4,none⟩=some (.int .i64 b.m.e):=fun u=>(u.cell l1).trans c14
 refine aS (by kernel_rfl) (by kernel_rfl) ?_;repeat(go_big_quiet_step (first|(go_at_call 156;exact fC (EY _ _ _))|(go_at_call 155;exact fC (DX _ _ _))))
 refine wpQuiet_nil ?_;rintro W1 ⟨u,hu⟩;have hb1:Below W0.heap.size W0 W1:=by rw[hu];exact u.2
 clear s00 s01 s02 s03 s04 s10 s11 s12 s13 s14 hu u ne;have hS1:S10 w.heap.size a b W1:=S10.below ⟨c00,c01,c02,c03,c04,c10,c11,c12,c13,c14⟩ hb1
 have hS1d:S10 w.heap.size a b W1.drew:=S10.below hS1 (aD _ _).drew;have r0:W1.cell? ⟨w.heap.size+1+1,0,none⟩=some (.int .i64 0):=(hb1.cell (p:=⟨w.heap.size+1+1,0,none⟩) l2).trans t0
 have r1:W1.cell? ⟨w.heap.size+1+1,1,none⟩=some (.int .i64 0):=(hb1.cell (p:=⟨w.heap.size+1+1,1,none⟩) l2).trans t1;have r2:W1.cell? ⟨w.heap.size+1+1,2,none⟩=some (.int .i64 0):=(hb1.cell (p:=⟨w.heap.size+1+1,2,none⟩) l2).trans t2
 have r3:W1.cell? ⟨w.heap.size+1+1,3,none⟩=some (.int .i64 0):=(hb1.cell (p:=⟨w.heap.size+1+1,3,none⟩) l2).trans t3;have r4:W1.cell? ⟨w.heap.size+1+1,4,none⟩=some (.int .i64 0):=(hb1.cell (p:=⟨w.heap.size+1+1,4,none⟩) l2).trans t4
 have y0:∀i,W1.frozen? ⟨w.heap.size+1+1,i,none⟩=false:=fun i=>(hb1.frozen (p:=⟨w.heap.size+1+1,i,none⟩) l2).trans (z0 i);have HB1:=aA (aC HB.out (hb1.mono (Nat.le_refl _)))
 have hl3:w.heap.size+1+1<W1.heap.size:=dR l2 hb1.size;clear c00 c01 c02 c03 c04 c10 c11 c12 c13 c14 hb1 t0 t1 t2 t3 t4 z0 l0 l1 l2;have hn1:w.heap.size≠w.heap.size+1+1:=by omega
 have hn2:w.heap.size+1≠w.heap.size+1+1:=by omega
 have v1:IntKind.i64.wrap (b.m.x-a.m.d)=b.m.x-a.m.d:=by rw[IntKind.wrap_i64];omega
 have v2:IntKind.i64.wrap (b.m.x-a.m.d+a.m.x)=b.m.x-a.m.d+a.m.x:=by rw[IntKind.wrap_i64];omega
 have v3:IntKind.i64.wrap (b.m.y-a.m.e)=b.m.y-a.m.e:=by rw[IntKind.wrap_i64];omega
 have v4:IntKind.i64.wrap (b.m.y-a.m.e+a.m.y)=b.m.y-a.m.e+a.m.y:=by rw[IntKind.wrap_i64];omega
 go_wp2_with fail
 go_region_held3 (fun u=>u.cell? ⟨w.heap.size,0,none⟩=some (.int .i64 a.c)∧u.cell? ⟨w.heap.size,1,none⟩=some (.int .i64 a.m.x)∧u.cell? ⟨w.heap.size,2,none⟩=some (.int .i64 a.m.y)∧u.cell? ⟨w.heap.size,3,none⟩=some (.int .i64 a.m.d)∧u.cell? ⟨w.heap.size,4,none⟩=some (.int .i64 a.m.e)∧u.cell? ⟨w.heap.size+1,0,none⟩=some (.int .i64 b.c)∧u.cell? ⟨w.heap.size+1,1,none⟩=some (.int .i64 b.m.x)∧u.cell? ⟨w.heap.size+1,2,none⟩=some (.int .i64 b.m.y)∧u.cell? ⟨w.heap.size+1,3,none⟩=some (.int .i64 b.m.d)∧u.cell? ⟨w.heap.size+1,4,none⟩=some (.int .i64 b.m.e)) (first|with_reducible exact hS1d|with_reducible exact S10.below (S10.set5 hS1 hn1 hn2 _ _ _ _ _) (aD _ _).drew) (first|(go_at_call 155;refine(DX _ _ _).mono ?_;rintro r w7 ⟨rfl,hw7⟩;obtain rfl:=hw7.symm;clear hw7))
 go_wp2;refine bT (v:=.agg #[.int .i64 (qY a b).c,.int .i64 (qY a b).m.x,.int .i64 (qY a b).m.y,.int .i64 (qY a b).m.d,.int .i64 (qY a b).m.e]) (by simp[results,Tryz.results125,go_sem,qY, *]) rfl ⟨rfl,?_⟩;exact(jM HB1.out (by omega) _ _ _ _ _).drew
theorem fR {W W':World} {b o:Nat} {v:Value} (h:W.cell? ⟨b,o,none⟩=some v) (hk:cellsK W W'):W'.cell? ⟨b,o,none⟩=some v:=by
 cases hh:W.heap[b]? with
 |none=>simp[World.cell?,hh]at h
 |some ob=>
  cases ob with
  |cells A t z=>exact(kV (w:=W) (a:=⟨b,o,none⟩) ((hk.2 b _ hh rfl).trans hh.symm)).trans h
  |_=>simp[World.cell?,hh]at h
theorem Rd.cellsK {W W':World} {a:Option Addr} {n cap:Nat} {f:Nat→T} (h:Rd W a n cap f) (hk:cellsK W W'):Rd W' a n cap f:=by
 refine⟨h.1,h.2.1,?_⟩;rcases h.2.2 with h0|⟨b,off,he,hlt,hc⟩
 ·exact .inl h0
 ·refine .inr ⟨b,off,he,dR hlt hk.1,fun i hi=>?_⟩;obtain⟨h0,h1,h2,h3,h4⟩:=hc i hi;exact⟨fR h0 hk,fR h1 hk,fR h2 hk,fR h3 hk,fR h4 hk⟩
theorem iJ {W W':World} (h:Below W.heap.size W W'):cellsK W W':=⟨h.size,fun k o hk _=>(h.block k (Array.getElem?_eq_some_iff.1 hk).1).trans hk⟩
theorem JG {n:Nat} (hn:1≤n) (l B1 B2:Nat) (p q:Option Addr) (la ca lb cb:Nat) (f g:Nat→T) (gf:∀i,i<la→(f i).m.ok=true) (gg:∀i,i<lb→(g i).m.ok=true) (J Jx:List DT→World→Prop) (hJd:∀pre W W',J pre W→W.grownBy W' none→J pre W') (hY:∀pre x W,J pre W→pre.length<la*lb→YieldAt Fence.wide (n-1) Tryz.prog l (FW x) W fun e W'=>(e= .returned (.bool true)∧J (pre++[x]) W'∧cellsK W W')∨(e= .returned (.bool false)∧Jx (pre++[x]) W')) (W:World) (hb1:Boxed W B1 22 (.slice p la ca)) (hb2:Boxed W B2 22 (.slice q lb cb)) (hp:Rd W p la ca f) (hq:Rd W q lb cb g) (h0:J [] W):CallsIn Fence.wide n Tryz.prog 124 #[.func (.yield l) #[] #[],.pointer (some ⟨B1,0,none⟩),.pointer (some ⟨B2,0,none⟩)] W fun e W'=>(∃v,e= .returned v)∧((∃xs,xs=bE f g lb la∧J xs W')∨(∃pre,pre<+:bE f g lb la∧Jx pre W')):=by
 have hla:(la:Int)≤140737488351232:=by have:=hp.2.1;omega
 have hlb:(lb:Int)≤140737488351232:=by have:=hq.2.1;omega
 have HGF:=aA gf;have HGG:=aA gg
 have HJD:=aA hJd;have HY:=aA hY
 clear gf gg hJd hY;refine callsIn_of_wp Tryz.func124 rfl trivial ?_ rfl;simp only[Tryz.ntmps124,List.size_toArray,List.length_cons,List.length_nil,Nat.reduceAdd,Nat.reduceSub,Array.replicate_succ,Array.replicate_zero,List.push_toArray,List.append_toArray,List.nil_append,List.cons_append];have c1:=hb1.cell
 gi_wp2
 clear c1
 gi_loopw [10] (fun v wr=>∃i:Nat,i≤la∧v= .int .i64 (i:Int)∧J (bE f g lb i) wr∧Boxed wr B2 22 (.slice q lb cb)∧Rd wr p la ca f∧Rd wr q lb cb g) (fun v _=>la-(RowKit.intOf v).toNat)
 case atStart=>exact⟨0,gC _,rfl,h0,hb2,hp,hq⟩
 case round=>
  obtain⟨i,hi,rfl,hJ,b2,rp,rq⟩:=hrel;by_cases hlt:i<la
  ·have hil:(i:Int)<(la:Int):=by omega
   rcases rp.2.2 with h0|⟨pb,off,hpe,hblt,hcl⟩
   ·omega
   obtain⟨g0,g1,g2,g3,g4⟩:=hcl i hlt;subst hpe;have hTi:bB (wr.alloc (.cells #[.int .i64 (f i).c,.int .i64 (f i).m.x,.int .i64 (f i).m.y,.int .i64 (f i).m.d,.int .i64 (f i).m.e] 80)) wr.heap.size (f i):=World.alloc_heap_new wr _
   have hB1:=aG wr (.cells #[.int .i64 (f i).c,.int .i64 (f i).m.x,.int .i64 (f i).m.y,.int .i64 (f i).m.d,.int .i64 (f i).m.e] 80);have hJ1:=HJD.out _ _ _ hJ (World.grownBy_alloc wr (.cells #[.int .i64 (f i).c,.int .i64 (f i).m.x,.int .i64 (f i).m.y,.int .i64 (f i).m.d,.int .i64 (f i).m.e] 80) none)
   have b21:=b2.alloc (.cells #[.int .i64 (f i).c,.int .i64 (f i).m.x,.int .i64 (f i).m.y,.int .i64 (f i).m.d,.int .i64 (f i).m.e] 80);have c2:=b21.cell
   have HP1:=aA (rp.below hB1);have HQ1:=aA (rq.below hB1)
   clear hJ b2 rp rq hcl hB1;have hfi:=HGF.out i hlt
   gi_wp2
   clear c2 g0 g1 g2 g3 g4;obtain⟨Bd,hBd⟩:∃Bd,Bd=wr.heap.size:=⟨_,rfl⟩
   rw[←hBd]at hTi⊢;generalize wr.alloc (.cells #[.int .i64 (f i).c,.int .i64 (f i).m.x,.int .i64 (f i).m.y,.int .i64 (f i).m.d,.int .i64 (f i).m.e] 80)=W1 at *;clear hBd
   gi_loopw [16] (fun v wr=>∃k:Nat,k≤lb∧v= .int .i64 (k:Int)∧J (bE f g lb i++bR (f i) g k) wr∧Boxed wr B2 22 (.slice q lb cb)∧Rd wr (some ⟨pb,off,none⟩) la ca f∧Rd wr q lb cb g∧bB wr Bd (f i)) (fun v _=>lb-(RowKit.intOf v).toNat)
   case atStart=>exact⟨0,gC _,rfl,by rw[bR,List.append_nil];exact hJ1,b21,HP1.out,HQ1.out,hTi⟩
   case round=>
    obtain⟨k,hk,rfl,hJ,b2,rp,rq,hT⟩:=hrel;by_cases hlt2:k<lb
    ·have hkl:(k:Int)<(lb:Int):=by omega
     rcases rq.2.2 with h0|⟨pb2,off2,hpe2,hblt2,hcl⟩
     ·omega
     obtain⟨g0,g1,g2,g3,g4⟩:=hcl k hlt2;subst hpe2;have hgk:=HGG.out k hlt2
     have hTlt:Bd<wr.heap.size:=(Array.getElem?_eq_some_iff.1 hT).1;have hXk:bB (wr.alloc (.cells #[.int .i64 (g k).c,.int .i64 (g k).m.x,.int .i64 (g k).m.y,.int .i64 (g k).m.d,.int .i64 (g k).m.e] 80)) wr.heap.size (g k):=World.alloc_heap_new wr _
     have hTk:bB (wr.alloc (.cells #[.int .i64 (g k).c,.int .i64 (g k).m.x,.int .i64 (g k).m.y,.int .i64 (g k).m.d,.int .i64 (g k).m.e] 80)) Bd (f i):=(Below.heap_alloc wr _ _ hTlt).trans hT;have hB1:=aG wr (.cells #[.int .i64 (g k).c,.int .i64 (g k).m.x,.int .i64 (g k).m.y,.int .i64 (g k).m.d,.int .i64 (g k).m.e] 80)
     have HJ1:=aA (HJD.out _ _ _ hJ (World.grownBy_alloc wr (.cells #[.int .i64 (g k).c,.int .i64 (g k).m.x,.int .i64 (g k).m.y,.int .i64 (g k).m.d,.int .i64 (g k).m.e] 80) none));have HB2:=aA (b2.alloc (.cells #[.int .i64 (g k).c,.int .i64 (g k).m.x,.int .i64 (g k).m.y,.int .i64 (g k).m.d,.int .i64 (g k).m.e] 80))
     have HP2:=aA (rp.below hB1);have HQ2:=aA (rq.below hB1)
     have HT2:=aA hTk;obtain⟨a0,a1,a2,a3,a4⟩:=hTk.cells;clear hJ b2 rp rq hcl hB1 hT hTk;by_cases hx:(g k).m.x<(f i).m.d
     ·have hdx:decide ((g k).m.x<(f i).m.d)=true:=decide_eq_true hx;have e2:bR (f i) g (k+1)=bR (f i) g k:=by rw[bR,EV,if_pos (.inl hx),List.append_nil]
      have HE:=aA e2;clear e2
      gi_wp2
      go_roundw;case rel=>exact⟨k+1,by omega,by go_num,by rw[HE.out];exact HJ1.out,HB2.out,HP2.out,HQ2.out,HT2.out⟩
      case measure=>simp[RowKit.intOf];omega
     ·have hdx:decide ((g k).m.x<(f i).m.d)=false:=decide_eq_false hx;by_cases hy:(g k).m.y<(f i).m.e
      ·have hdy:decide ((g k).m.y<(f i).m.e)=true:=decide_eq_true hy;have e2:bR (f i) g (k+1)=bR (f i) g k:=by rw[bR,EV,if_pos (.inr hy),List.append_nil]
       have HE:=aA e2;clear e2
       gi_wp2
       go_roundw;case rel=>exact⟨k+1,by omega,by go_num,by rw[HE.out];exact HJ1.out,HB2.out,HP2.out,HQ2.out,HT2.out⟩
       case measure=>simp[RowKit.intOf];omega
      ·have hdy:decide ((g k).m.y<(f i).m.e)=false:=decide_eq_false hy;have e2:bR (f i) g (k+1)=bR (f i) g k++[DF (f i) (g k)]:=by rw[bR,EV,if_neg (fun h=>h.elim hx hy)]
       have HE:=aA e2;have hlen:(bE f g lb i++bR (f i) g k).length<la*lb:=by
        have h1:=pJ f g lb i;have h2:=mL (f i) g k
        have h3:(i+1)*lb≤la*lb:=Nat.mul_le_mul_right lb hlt;rw[Nat.succ_mul]at h3;rw[List.length_append];omega
       have HPRE:=aA (qN f g lb la hlt (show k+1≤lb from hlt2));have HYK:Hid (∀w4,J (bE f g lb i++bR (f i) g k) w4→YieldAt Fence.wide (n-1) Tryz.prog l (#[.agg #[.int .i64 (qY (f i) (g k)).c,.int .i64 (qY (f i) (g k)).m.x,.int .i64 (qY (f i) (g k)).m.y,.int .i64 (qY (f i) (g k)).m.d,.int .i64 (qY (f i) (g k)).m.e]]) w4 fun e W'=>(e= .returned (.bool true)∧J (bE f g lb i++bR (f i) g k++[DF (f i) (g k)]) W'∧cellsK w4 W')∨(e= .returned (.bool false)∧Jx (bE f g lb i++bR (f i) g k++[DF (f i) (g k)]) W')):=fun w4 h=>HY.out _ (DF (f i) (g k)) w4 h hlen
       clear e2 hlen
       gi_wp2_with (first
        |(refine⟨trivial,?_⟩;gi_at_call 125;refine(callsIn_wide.2 (yS (f i) (g k) _ hfi hgk)).mono ?_;rintro e w4 ⟨rfl,hb4⟩;obtain⟨fn,tmps,assign,body,hyl,hRd⟩:=HYK.out w4 (HJD.out _ _ _ HJ1.out (cV hb4));have HB4:=aA (iJ hb4);clear hb4)
        |gi_in)
       refine hRd.mono ?_;rintro e W3 (⟨rfl,hJ3,hk3⟩|⟨rfl,hJx3⟩)
       ·have hk4:=bM HB4.out hk3;have HK4:=aA hk4
        have HJ3:=aA hJ3;clear hk3 hk4 hJ3 a0 a1 a2 a3 a4 g0 g1 g2 g3 g4
        gi_wp2
        go_roundw;case rel=>exact⟨k+1,by omega,by go_num,by rw[HE.out,←List.append_assoc];exact HJ3.out,bQ HB2.out HK4.out,HP2.out.cellsK HK4.out,HQ2.out.cellsK HK4.out,HK4.out.2 Bd _ HT2.out rfl⟩
        case measure=>simp[RowKit.intOf];omega
       ·clear a0 a1 a2 a3 a4 g0 g1 g2 g3 g4
        gi_wp2
        refine bT (results_none rfl _ _ _) rfl ?_;exact⟨⟨_,rfl⟩,.inr ⟨_,by have:=HPRE.out;rw[HE.out,←List.append_assoc]at this;exact this,hJx3⟩⟩
    ·obtain rfl:k=lb:=by omega
     gi_wp2
     go_roundw;case rel=>exact⟨i+1,by omega,by go_num,by rw[bE];exact hJ,b2,rp,rq⟩
     case measure=>simp[RowKit.intOf];omega
  ·obtain rfl:i=la:=by omega
   gi_wp2
   go_end0
   exact⟨⟨_,rfl⟩,.inl ⟨_,rfl,hJ⟩⟩
theorem yR {n:Nat} (hn:1≤n) (B1 B2:Nat) (p q:Option Addr) (la ca lb cb:Nat) (f g:Nat→T) (gf:∀i,i<la→(f i).m.ok=true) (gg:∀i,i<lb→(g i).m.ok=true) (w:World) (hb1:Boxed w B1 22 (.slice p la ca)) (hb2:Boxed w B2 22 (.slice q lb cb)) (hp:Rd w p la ca f) (hq:Rd w q lb cb g):SeqStopsK Fence.wide n Tryz.prog 124 #[.pointer (some ⟨B1,0,none⟩),.pointer (some ⟨B2,0,none⟩)] FW cellsK (fun xs=>xs=bE f g lb la) (fun pre=>pre<+:bE f g lb la) (la*lb) w:=fun l J Jx W hW hJ _ hY h0=>
 JG hn l B1 B2 p q la ca lb cb f g gf gg J Jx (fun pre W W' h hg=>hJ pre W W' none h hg (fun r e=>by cases e)) hY W ((hW.block B1 hb1.lt).trans hb1) ((hW.block B2 hb2.lt).trans hb2) (hp.below hW) (hq.below hW) h0
theorem wY {F:Fence} {n:Nat} (h7:F.fn 83) (hro:F.round=none) (p q:Option Addr) (la ca lb cb:Nat) (w:World):CallsIn F n Tryz.prog 83 #[.slice p la ca,.slice q lb cb] w fun e w'=>e= .returned (.func (.func 124) #[] #[.pointer (some ⟨w.heap.size,0,none⟩),.pointer (some ⟨w.heap.size+1,0,none⟩)])∧w'=(w.alloc (.cells #[.slice p la ca] 22)).alloc (.cells #[.slice q lb cb] 22):=by
 refine callsIn_of_wp Tryz.func83 rfl h7 ?_ hro;simp only[Tryz.ntmps83,List.size_toArray,List.length_cons,List.length_nil,Nat.reduceAdd,Nat.reduceSub,Array.replicate_succ,Array.replicate_zero,List.push_toArray,List.append_toArray,List.nil_append,List.cons_append]
 gi_wp2
 go_ret;exact⟨rfl,rfl⟩
end Go.Proofs.YtoglomfejgpoeaaGreatDoor
namespace Go.Proofs.YtoglomfejgpoeaaGreatDoor
open Go.RowKit Go.Maps
set_option linter.unusedVariables false
attribute [local go_sem] Oper.semAt_some
def pI (n:Nat) (v:Value) (ok:Bool) (W:World):Prop:=Boxed W n 22 v∧Boxed W (n+1) 4 (.bool ok)
theorem pI.below {n:Nat} {v:Value} {ok:Bool} {W W':World} (h:pI n v ok W) (hb:Below W.heap.size W W'):pI n v ok W':=⟨(hb.block n h.1.lt).trans h.1,(hb.block _ h.2.lt).trans h.2⟩
theorem pI.cellsK {n:Nat} {v:Value} {ok:Bool} {W W':World} (h:pI n v ok W) (hk:cellsK W W'):pI n v ok W':=⟨bQ h.1 hk,bQ h.2 hk⟩
theorem pI.set {n:Nat} {v:Value} {ok:Bool} {W:World} (h:pI n v ok W) (v':Value) (ok':Bool):pI n v' ok' ((W.setCell ⟨n,0,none⟩ v').setCell ⟨n+1,0,none⟩ (.bool ok')):=
 ⟨(h.1.set v').other (by omega) _,(h.2.other (by omega) v').set _⟩
theorem wP (w:World):pI w.heap.size (.slice none 0 0) false ((w.alloc (.cells #[.slice none 0 0] 22)).alloc (.cells #[.bool false] 4)):=by
 refine⟨(Boxed.new w _ _).alloc _,?_⟩;have:=Boxed.new (w.alloc (.cells #[.slice none 0 0] 22)) 4 (.bool false)
 rwa[World.size_alloc]at this
theorem wQ (n:Nat) (v:Value) (ok:Bool) {β:Type} (B:Nat):OwnFrom B (fun(_:β) W=>pI n v ok W):=fun s X Y row hs hg hr=>⟨eT rfl hs.1 hg hr,eT rfl hs.2 hg hr⟩
theorem fO (tmps:Array Value) {w:World} {n:Nat} {v:Value} {ok:Bool} (h4:tmps[4]?.getD undef= .pointer (some ⟨n,0,none⟩)) (h5:tmps[5]?.getD undef= .pointer (some ⟨n+1,0,none⟩)) (h:pI n v ok w):(results Tryz.f41 tmps).run Tryz.prog w= .ok (.tuple #[v,.bool ok]) w:=by
 have c1:=h.1.cell;have c2:=h.2.cell
 simp[results,Tryz.results41,go_sem,h4,h5,c1,c2]
theorem EQ (w:World) (a b:Option Addr) (la ca lb cb:Nat) (f g:Nat→T) (ha:Rd w a la ca f) (hb:Rd w b lb cb g) (hno:aN la f=false∨cA lb g=false):Calls Tryz.prog 41 #[.slice a la ca,.slice b lb cb] w fun r w'=>r= .returned (.tuple #[.slice none 0 0,.bool false])∧Below w.heap.size w w':=by
 have hB0:Below w.heap.size w ((w.alloc (.cells #[.slice none 0 0] 22)).alloc (.cells #[.bool false] 4)):=cW w _ _;have HA:=aA (ha.below hB0)
 have HB:=aA (hb.below hB0);have hr0:=wP w
 have HR0:=aA hr0;have HB0:=aA hB0
 clear ha hb hB0 hr0;refine(callsIn_wide (n:=9)).1 ?_;refine callsIn_of_wp_marks Tryz.func41 rfl trivial ?_ rfl;simp only[Tryz.ntmps41,List.size_toArray,List.length_cons,List.length_nil,Nat.reduceAdd,Nat.reduceSub,Array.replicate_succ,Array.replicate_zero,List.push_toArray,List.append_toArray,List.nil_append,List.cons_append];cases hpa:aN la f
 ·gi_wp2_with (first
   |(refine⟨trivial,?_⟩;gi_at_call 44;refine(callsIn_wide.2 (dM _ _ _ _ f HA.out)).mono ?_;rw[hpa];rintro e w1 ⟨rfl,hb1⟩;have hR1:=HR0.out.below hb1;have c1:=hR1.1.cell;have c2:=hR1.2.cell;have z1:=hR1.1.frozen;have z2:=hR1.2.frozen;have HR1:=aA hR1;have HB1:=aA (aC HB0.out hb1);clear hb1 hR1)
   |gi_in)
  refine⟨trivial,?_⟩
  gi_wp2
  refine⟨_,fO _ rfl rfl (HR1.out.set _ _),rfl,?_⟩;exact(HB1.out.setCell (p:=⟨w.heap.size,0,none⟩) (by simp) _).setCell (p:=⟨w.heap.size+1,0,none⟩) (by simp) _
 ·have hpf:cA lb g=false:=hno.resolve_left (by rw[hpa];simp)
  gi_wp2_with (first
   |(refine⟨trivial,?_⟩;gi_at_call 44;refine(callsIn_wide.2 (dM _ _ _ _ f HA.out)).mono ?_;rw[hpa];rintro e w1 ⟨rfl,hb1⟩;have HBB:=aA (HB.out.below hb1);have HR1:=aA (HR0.out.below hb1);have HB1:=aA (aC HB0.out hb1);clear hb1)
   |(refine⟨trivial,?_⟩;gi_at_call 82;refine(callsIn_wide.2 (tW _ _ _ _ g HBB.out)).mono ?_;rw[hpf];rintro e w2 ⟨rfl,hb2⟩;have hR2:=HR1.out.below hb2;have c1:=hR2.1.cell;have c2:=hR2.2.cell;have z1:=hR2.1.frozen;have z2:=hR2.2.frozen;have HR2:=aA hR2;have HB2:=aA (aC HB1.out hb2);clear hb2 hR2)
   |gi_in)
  refine⟨_,fO _ rfl rfl (HR2.out.set _ _),rfl,?_⟩;exact(HB2.out.setCell (p:=⟨w.heap.size,0,none⟩) (by simp) _).setCell (p:=⟨w.heap.size+1,0,none⟩) (by simp) _
def xL (f:Nat→T) (la:Nat) (g:Nat→T) (lb:Nat):List T×Bool:=if dT (bE f g lb la)=true then(cE ((bE f g lb la).map (·.1)) [],true)else([],false)
theorem wR {n D:Nat} {v:Value} {ok:Bool} {W:World} {o o':Obj} (h:pI n v ok W) (hD:W.heap[D]? =some o) (ho:o.isCells=false):pI n v ok (W.putObj D o'):=
 ⟨eT (B:=0) rfl h.1 (grownBy_putObj' W D o') (fun r e=>by cases e;exact⟨gC _,o,hD,ho⟩),eT (B:=0) rfl h.2 (grownBy_putObj' W D o') (fun r e=>by cases e;exact⟨gC _,o,hD,ho⟩)⟩
theorem ER (w:World) (a b:Option Addr) (la ca lb cb:Nat) (f g:Nat→T) (ha:Rd w a la ca f) (hb:Rd w b lb cb g) (hpa:aN la f=true) (hpf:cA lb g=true):Calls Tryz.prog 41 #[.slice a la ca,.slice b lb cb] w fun r w'=>∃v,r= .returned (.tuple #[v,.bool (xL f la g lb).2])∧Below w.heap.size w w'∧w'.ownsRow w.heap.size 80 5 v (xL f la g lb).1.length (aF (xL f la g lb).1):=by
 have hB0:Below w.heap.size w ((w.alloc (.cells #[.slice none 0 0] 22)).alloc (.cells #[.bool false] 4)):=cW w _ _;have HA:=aA (ha.below hB0)
 have HB:=aA (hb.below hB0);have HR0:=aA (wP w)
 have HB0:=aA hB0;have HAw:=aA ha
 have HBw:=aA hb;have hpg:aN lb g=true:=by simp only[cA,Bool.and_eq_true]at hpf;exact hpf.1
 have gf:=rN hpa;have gg:=rN hpg
 have HGF:=aA gf;have HGG:=aA gg
 clear ha hb hB0 gf gg hpg;have hmm:=@run_makeMap Tryz.prog
 refine(callsIn_wide (n:=9)).1 ?_;refine callsIn_of_wp_marks Tryz.func41 rfl trivial ?_ rfl;simp only[Tryz.ntmps41,List.size_toArray,List.length_cons,List.length_nil,Nat.reduceAdd,Nat.reduceSub,Array.replicate_succ,Array.replicate_zero,List.push_toArray,List.append_toArray,List.nil_append,List.cons_append]
 gi_wp2_with (first
  |(refine⟨trivial,?_⟩;gi_at_call 44;refine(callsIn_wide.2 (dM _ _ _ _ f HA.out)).mono ?_;rw[hpa];rintro e w1 ⟨rfl,hb1⟩;have HBB:=aA (HB.out.below hb1);have HR1:=aA (HR0.out.below hb1);have HB1:=aA (aC HB0.out hb1);clear hb1)
  |(refine⟨trivial,?_⟩;gi_at_call 82;refine(callsIn_wide.2 (tW _ _ _ _ g HBB.out)).mono ?_;rw[hpf];rintro e w2 ⟨rfl,hb2⟩;have HR2:=aA (HR1.out.below hb2);have HB2:=aA (aC HB1.out hb2);clear hb2)
  |(refine⟨trivial,?_⟩;gi_at_call 83;refine(wY (F:=Fence.wide) trivial rfl _ _ _ _ _ _ _).mono ?_;rintro e w' ⟨rfl,hw'⟩;obtain rfl:=hw'.symm;clear hw')
  |gi_in)
 have hBn:Below w2.heap.size w2 ((((w2.alloc (.map #[] 0)).alloc (.cells #[.map (some w2.heap.size)] 101)).alloc (.cells #[.slice a la ca] 22)).alloc (.cells #[.slice b lb cb] 22)):=((((aD _ _).alloc (Nat.le_refl _) _).alloc (by simp) _).alloc (by simp;omega) _).alloc (by simp;omega) _;have hsum:eF ((((w2.alloc (.map #[] 0)).alloc (.cells #[.map (some w2.heap.size)] 101)).alloc (.cells #[.slice a la ca] 22)).alloc (.cells #[.slice b lb cb] 22)) w2.heap.size 65536 (fun _=>0):=by
  have h1:=(rY w2).cap;have h2:=h1.grown (World.grownBy_alloc (w2.alloc (.map #[] 0)) (.cells #[.map (some w2.heap.size)] 101) none) (by simp)
  have h3:=h2.grown (World.grownBy_alloc _ (.cells #[.slice a la ca] 22) none) (by simp);exact h3.grown (World.grownBy_alloc _ (.cells #[.slice b lb cb] 22) none) (by simp)
 have bS0:Boxed ((((w2.alloc (.map #[] 0)).alloc (.cells #[.map (some w2.heap.size)] 101)).alloc (.cells #[.slice a la ca] 22)).alloc (.cells #[.slice b lb cb] 22)) (w2.heap.size+1) 101 (.map (some w2.heap.size)):=by have:=Boxed.new (w2.alloc (.map #[] 0)) 101 (.map (some w2.heap.size));rw[World.size_alloc]at this;exact(this.alloc _).alloc _
 have bP0:Boxed ((((w2.alloc (.map #[] 0)).alloc (.cells #[.map (some w2.heap.size)] 101)).alloc (.cells #[.slice a la ca] 22)).alloc (.cells #[.slice b lb cb] 22)) (w2.heap.size+1+1) 22 (.slice a la ca):=by have:=Boxed.new ((w2.alloc (.map #[] 0)).alloc (.cells #[.map (some w2.heap.size)] 101)) 22 (.slice a la ca);rw[World.size_alloc,World.size_alloc]at this;exact this.alloc _
 have bQ0:Boxed ((((w2.alloc (.map #[] 0)).alloc (.cells #[.map (some w2.heap.size)] 101)).alloc (.cells #[.slice a la ca] 22)).alloc (.cells #[.slice b lb cb] 22)) (w2.heap.size+1+1+1) 22 (.slice b lb cb):=by
  have:=Boxed.new (((w2.alloc (.map #[] 0)).alloc (.cells #[.map (some w2.heap.size)] 101)).alloc (.cells #[.slice a la ca] 22)) 22 (.slice b lb cb)
  rwa[World.size_alloc,World.size_alloc,World.size_alloc]at this
 have hR3:=HR2.out.below hBn;have hB3:=aC HB2.out hBn
 have hs3:((((w2.alloc (.map #[] 0)).alloc (.cells #[.map (some w2.heap.size)] 101)).alloc (.cells #[.slice a la ca] 22)).alloc (.cells #[.slice b lb cb] 22)).heap.size=w2.heap.size+4:=by simp
 have hws:w.heap.size≤w2.heap.size:=HB2.out.size;generalize((((w2.alloc (.map #[] 0)).alloc (.cells #[.map (some w2.heap.size)] 101)).alloc (.cells #[.slice a la ca] 22)).alloc (.cells #[.slice b lb cb] 22))=W0 at *;clear hmm
 refine wpIn_rangeFunc_ownH (w0:=W0) rfl (by decide) (gf:=124) (lb:=#[.pointer (some ⟨w2.heap.size+1+1,0,none⟩),.pointer (some ⟨w2.heap.size+1+1+1,0,none⟩)]) rfl trivial (enters_of Tryz.func124 (by kernel_rfl) rfl)
  (yR (n:=8) (by omega) (w2.heap.size+1+1) (w2.heap.size+1+1+1) a b la ca lb cb f g HGF.out HGG.out W0 bP0 bQ0 (HAw.out.below hB3) (HBw.out.below hB3)) bM (jN) (aD _ _) (fun _=>rfl)
  (fun(pre:List DT) W=>eF W w2.heap.size 65536 (dL (fun _=>0) (pre.map (·.1)))∧(Boxed W (w2.heap.size+1) 101 (.map (some w2.heap.size))∧(pI w.heap.size (.slice none 0 0) false W∧(Below w.heap.size w W∧dT pre=true))))
  (fun c (pre:List DT) W=>(c=Code.ret∧dT pre=false)∧(pI w.heap.size (.slice none 0 0) false W∧Below w.heap.size w W))
  (OwnFrom.and (fun s X Y row hs hg hr=>hs.grown hg (fun e=>by have:=(hr w2.heap.size e.symm).1;omega)) (OwnFrom.and (Own.from (boxed_own _ _ (fun _=>Value.map (some w2.heap.size))) _) (OwnFrom.and (wQ _ _ _ _) (OwnFrom.and (ownFrom_below (Nat.le_refl _) (by omega)) (ownFrom_pure _ _)))))
  (fun c=>OwnFrom.and (ownFrom_pure _ _) (OwnFrom.and (wQ _ _ _ _) (ownFrom_below (Nat.le_refl _) (by omega))))
  ⟨hsum,bS0,hR3,hB3,rfl⟩
  (fun x a' W=>∃Bx,bB W Bx x.1∧a'=({tmps:=#[Value.slice a la ca,Value.slice b lb cb,undef,undef,Value.pointer (some ⟨w.heap.size,0,none⟩),Value.pointer (some ⟨w.heap.size+1,0,none⟩),Value.pointer (some ⟨w2.heap.size+1,0,none⟩),Value.pointer (some ⟨Bx,0,none⟩),Value.slice a la ca,Value.bool true,Value.bool false,Value.bool false,Value.slice b lb cb,Value.bool true,Value.bool false,Value.bool false,Value.map (some w2.heap.size),Value.slice a la ca,Value.slice b lb cb,Value.func (Fn.func 124) #[] #[Value.pointer (some ⟨w2.heap.size+1+1,0,none⟩),Value.pointer (some ⟨w2.heap.size+1+1+1,0,none⟩)],Value.agg #[Value.int IntKind.i64 x.1.c,Value.int IntKind.i64 x.1.m.x,Value.int IntKind.i64 x.1.m.y,Value.int IntKind.i64 x.1.m.d,Value.int IntKind.i64 x.1.m.e],undef,undef,undef,undef,undef,undef,undef,undef,undef,undef,undef,undef,undef,undef],defers:=[]}:Act))
  (fun x a' _ X Y row hs hg hr=>by obtain⟨Bx,h2,h3⟩:=hs;exact⟨Bx,eT rfl h2 hg hr,h3⟩)
  ?assign ?body ?done ?stop
 case assign=>
  rintro l pre x W K' ⟨hS,bS,hR,hB,hok⟩ hK';dsimp only[FW]at hK'⊢
  gi_wp2
  exact hK' _ _ ((KeepsOthers.alloc _ _).from _) (bJ _ _) ⟨hS.grown (World.grownBy_alloc W _ none) (by simp),bS.alloc _,⟨hR.1.alloc _,hR.2.alloc _⟩,hB.alloc hB.size _,hok⟩ ⟨W.heap.size,World.alloc_heap_new W _,rfl⟩
 case body=>
  rintro l pre x a' W hl ⟨r,hr⟩ ⟨hS,bS,hR,hB,hok⟩ ⟨Bx,hX,rfl⟩ hlt;obtain⟨x0,x1,x2,x3,x4⟩:=hX.cells;have hmo:=fZ x.1.m.x x.1.m.y x.1.m.d x.1.m.e
  have em:(⟨x.1.m.x,x.1.m.y,x.1.m.d,x.1.m.e⟩:M)=x.1.m:=rfl;rw[em]at hmo;have HS:=aA hS
  have HBS:=aA bS;have HR:=aA hR
  have HB:=aA hB;have HX:=aA hX
  have hxa:=x.2.1;have hxb:=x.2.2.1
  clear hS bS hR hB hX em;cases hxo:x.1.m.ok
  ·rw[hxo]at hmo
   gi_wp2_with (first
    |(refine⟨trivial,?_⟩;gi_at_call 84;(refine(CallsIn.inRound l (callsIn_wide.2 (hmo W))).mono ?_;rintro e w4 ⟨rfl,hb4⟩;have hR4:=HR.out.below hb4;have c1:=hR4.1.cell;have c2:=hR4.2.cell;have z1:=hR4.1.frozen;have z2:=hR4.2.frozen;have HR4:=aA hR4;have HB4:=aA hb4;clear hb4 hR4))
    |gi_in)
   have hb4:=HB4.out;have hB4:=aC HB.out hb4
   refine⟨KeepsFrom.trans (⟨hb4.size,fun k o _ hk _=>(hb4.block k (Array.getElem?_eq_some_iff.1 hk).1).trans hk⟩) (((KeepsOthers.setCell _ _ _).trans (KeepsOthers.setCell _ _ _)).from _),⟨rfl,by rw[eY,hok];simp[dT,hxo]⟩,HR4.out.set _ _,?_⟩;exact(hB4.setCell (p:=⟨w.heap.size,0,none⟩) (by simp) _).setCell (p:=⟨w.heap.size+1,0,none⟩) (by simp) _
  ·rw[hxo]at hmo
   gi_wp2_with (first
    |(refine⟨trivial,?_⟩;gi_at_call 84;(refine(CallsIn.inRound l (callsIn_wide.2 (hmo W))).mono ?_;rintro e w4 ⟨rfl,hb4⟩;have cS:=(bQ HBS.out (iJ hb4)).cell;have hX4:bB w4 Bx x.1:=(hb4.block Bx (Array.getElem?_eq_some_iff.1 HX.out).1).trans HX.out;obtain⟨y0,y1,y2,y3,y4⟩:=hX4.cells;have HB4:=aA hb4;have HS4:=aA (HS.out.grown (cV hb4) (by simp));clear hb4 hX4))
    |(refine⟨trivial,?_⟩;gi_at_call 85;(refine(CallsIn.inRound l (callsIn_wide.2 (rX w2.heap.size 65536 _ x.1.c x.1.m w4 hxo HS4.out (by unfold maxLen;omega) hxa hxb))).mono ?_;rintro e w5 ⟨rfl,hs5,hg5⟩))
    |gi_in)
   have hb4:=HB4.out;have hk4:=iJ hb4
   have hk5:cellsK w4 w5:=iK hg5 (fun k e o ho=>by cases e;exact HS4.out.map o ho);have hk:=bM hk4 hk5
   refine⟨KeepsFrom.trans (⟨hb4.size,fun k o _ hk _=>(hb4.block k (Array.getElem?_eq_some_iff.1 hk).1).trans hk⟩) (KeepsFrom.of_grownBy hg5 (fun j e=>by cases e;omega)),hk,?_,bQ HBS.out hk,HR.out.cellsK hk,?_,?_⟩
   ·rw[List.map_append,List.map_cons,List.map_nil,qU];exact hs5.cap
   ·exact(aC HB.out hb4).grown hg5 (aC HB.out hb4).size (fun k e=>by cases e;omega)
   ·rw[eY,hok];simp[dT,hxo]
 case done=>
  rintro D xs W hD rfl ⟨hS,bS,hR,hB,hok⟩ hKd;have hf:=dN ((bE f g lb la).map (·.1)) [] (sC hok) cL
  have hsh:=mE hok;have eV:xL f la g lb=gB (cE ((bE f g lb la).map (·.1)) []):=by unfold xL gB;rw[if_pos hok,if_pos (by omega)]
  have cS:=bS.cell;have HR:=aA hR
  have hDlt:D<W.heap.size:=(Array.getElem?_eq_some_iff.1 hKd).1;have hop:=rZ W w2.heap.size 65536 _ hS (by omega) hf.1 (fun m _=>by rw[hf.2];rfl)
  generalize cE ((bE f g lb la).map (·.1)) []=KK at *
  gi_wp2_with gi_in
  refine⟨trivial,?_⟩;refine(callsIn_wide.2 hop).mono ?_;rintro e w5 ⟨v5',rfl,hb5,ho5⟩;obtain⟨a5,c5,hv5,_⟩:=aM ho5 (by have:(gB KK).1.length≤400:=(by unfold gB;split<;>simp<;>omega);omega);subst hv5;have hR5:=HR.out.below hb5
  have c1:=hR5.1.cell;have c2:=hR5.2.cell
  have z1:=hR5.1.frozen;have z2:=hR5.2.frozen
  have HR5:=aA hR5;have HB5:=aA hb5
  have HO5:=aA ho5;clear hb5 hR5 ho5
  gi_wp2
  have hnD1:D≠w.heap.size:=by omega
  have hnD2:D≠w.heap.size+1:=by omega
  have hK5:((w5.setCell ⟨w.heap.size,0,none⟩ (.slice a5 (gB KK).1.length c5)).setCell ⟨w.heap.size+1,0,none⟩ (.bool (gB KK).2)).heap[D]? =some (.deferred (some [])):=by rw[Below.heap_setCell _ _ _ _ hnD2,Below.heap_setCell _ _ _ _ hnD1];exact(HB5.out.block D hDlt).trans hKd
  refine⟨by simp,.inl ⟨_,_,rfl,run_takeDeferred hK5,?_⟩⟩;refine⟨_,fO _ rfl rfl (wR (HR5.out.set (.slice a5 (gB KK).1.length c5) (gB KK).2) hK5 rfl),.slice a5 (gB KK).1.length c5,by rw[eV],?_,?_⟩
  ·have h1:=((aC hB HB5.out).setCell (p:=⟨w.heap.size,0,none⟩) (by simp) (.slice a5 (gB KK).1.length c5)).setCell (p:=⟨w.heap.size+1,0,none⟩) (by simp) (.bool (gB KK).2);exact h1.trans (belowK_b (w:=w) (Nat.le_refl _) _ D _ _ (by omega) hK5 rfl rfl)
  ·rw[eV];have h1:=HO5.out.kept (grownBy_setCell' w5 w.heap.size (.slice a5 (gB KK).1.length c5)) (.inr (HR5.out.1.not_row (by decide) HO5.out).symm)
   have h2:=h1.kept (grownBy_setCell' _ (w.heap.size+1) (.bool (gB KK).2)) (.inr ((HR5.out.2.other (by omega) (.slice a5 (gB KK).1.length c5)).not_row (by decide) h1).symm);exact dJ (ownsRow_putObj h2 (.deferred none) hK5 rfl) (by omega)
 case stop=>
  rintro D c pre W hD hpre ⟨⟨rfl,hok⟩,hR,hB⟩ hKd;have eV:xL f la g lb=([],false):=by unfold xL;rw[if_neg (by rw[pL hpre hok];simp)]
  refine wpIn_ret ?_;refine⟨by simp,.inl ⟨_,_,rfl,run_takeDeferred hKd,?_⟩⟩;exact⟨_,fO _ rfl rfl (wR hR hKd rfl),_,by rw[eV],hB.trans (belowK_b (w:=w) (Nat.le_refl _) _ D _ _ (by omega) hKd rfl rfl),by rw[eV];exact dQ _ _⟩
theorem CF (w:World) (a b:Option Addr) (la ca lb cb:Nat) (f g:Nat→T) (ha:Rd w a la ca f) (hb:Rd w b lb cb g):Calls Tryz.prog 41 #[.slice a la ca,.slice b lb cb] w fun r w'=>∃a' cap',r= .returned (.tuple #[.slice a' (dH f la g lb).1.length cap',.bool (dH f la g lb).2])∧Below w.heap.size w w'∧mB w.heap.size w' a' cap' (dH f la g lb).1:=by
 have hlen:=mQ f la g lb;by_cases h:aN la f=true∧cA lb g=true
 ·have e1:dH f la g lb=xL f la g lb:=by unfold dH xL;rw[if_pos h]
  rw[e1]at hlen⊢;refine(ER w a b la ca lb cb f g ha hb h.1 h.2).mono ?_;rintro r w' ⟨v,rfl,hb1,ho1⟩;obtain⟨a',cap',rfl,hout⟩:=aM ho1 (by omega);exact⟨a',cap',rfl,hb1,hout⟩
 ·have e1:dH f la g lb=([],false):=by unfold dH;rw[if_neg h]
  rw[e1];refine(EQ w a b la ca lb cb f g ha hb ?_).mono ?_
  ·cases h1:aN la f
   ·exact .inl rfl
   ·cases h2:cA lb g
    ·exact .inr rfl
    ·exact absurd ⟨h1,h2⟩ h
  ·rintro r w' ⟨rfl,hb1⟩;obtain⟨a',cap',h1,hout⟩:=aM (L:=[]) (dQ w' w.heap.size) (by simp);cases h1;exact⟨_,_,rfl,hb1,hout⟩
end Go.Proofs.YtoglomfejgpoeaaGreatDoor
namespace Go.Proofs.YtoglomfejgpoeaaGreatDoor
open Go.RowKit
set_option linter.unusedVariables false
def II (a b:T):Int:=a.c*b.c%101*cR b.m.x a.m.d%101*cR b.m.y a.m.e%101
theorem iC (n k:Int):0≤cR n k∧cR n k≤100:=by
 by_cases h:0≤n∧n≤60∧0≤k∧k≤60
 ·rw[gQ h.1 h.2.1 h.2.2.1 h.2.2.2];exact mX n k.toNat
 ·rw[mF h];omega
theorem zP {a b:T} (ha:0≤a.c∧a.c≤100) (hb:0≤b.c∧b.c≤100):(qY a b).c=II a b:=by
 have h1:=iC b.m.x a.m.d;have h2:=iC b.m.y a.m.e
 show gE (gE a.c b.c) (gE (cR b.m.x a.m.d) (cR b.m.y a.m.e))=_;rw[uU (fD _ _) h1 h2,eO (fD _ _).1 (fD _ _).2 h2.1 h2.2,eO (fD _ _).1 (fD _ _).2 h1.1 h1.2,eO ha.1 ha.2 hb.1 hb.2];rfl
theorem zQ {a b:T} (ha:a.m.ok=true) (hb:b.m.ok=true) (h:b.m.x<a.m.d∨b.m.y<a.m.e):II a b=0:=by
 obtain⟨p1,p2,p3,p4,p5,p6,p7,p8⟩:=M.ok_iff.1 ha;obtain⟨q1,q2,q3,q4,q5,q6,q7,q8⟩:=M.ok_iff.1 hb;unfold II;rcases h with h|h
 ·rw[sY q1 (by omega) (by omega) h];simp
 ·rw[sY q3 (by omega) (by omega) h];simp
theorem FV {a b:T} (ha:a.m.ok=true∧1≤a.c∧a.c≤100) (hb:b.m.ok=true∧1≤b.c∧b.c≤100) (h:¬(b.m.x<a.m.d∨b.m.y<a.m.e)):II a b≠0:=by
 obtain⟨p1,p2,p3,p4,p5,p6,p7,p8⟩:=M.ok_iff.1 ha.1;obtain⟨q1,q2,q3,q4,q5,q6,q7,q8⟩:=M.ok_iff.1 hb.1;rw[←zP (by omega) (by omega)];have h1:=iC b.m.x a.m.d
 have h2:=iC b.m.y a.m.e;have n1:cR b.m.x a.m.d≠0:=sX (by omega) p5 (by omega)
 have n2:cR b.m.y a.m.e≠0:=sX (by omega) p7 (by omega);exact qZ (fD _ _) (fD _ _) (qZ (by omega) (by omega) (by omega) (by omega)) (qZ h1 h2 n1 n2)
def sI (L:List DT):List T:=cE (L.map (·.1)) []
theorem zR (L:List DT) (x:DT):sI (L++[x])=fU x.1.c x.1.m (sI L):=by unfold sI;rw[List.map_append,List.map_cons,List.map_nil,uA]
theorem xK {L:List DT} (h:dT L=true):aV (sI L):=(dN _ [] (sC h) cL).1
theorem ID (w:World) (a b:Option Addr) (la ca lb cb:Nat) (f g:Nat→T) (ha:Rd w a la ca f) (hb:Rd w b lb cb g):Calls Tryz.prog 56 #[.slice a la ca,.slice b lb cb] w fun r w'=>∃v,r= .returned (.tuple #[v,.bool (dH f la g lb).2])∧Below w.heap.size w w'∧w'.ownsRow w.heap.size 80 5 v (dH f la g lb).1.length (aF (dH f la g lb).1):=by
 have HA:=aA ha;have HB:=aA hb
 have hla:(la:Int)≤140737488351232:=by have:=ha.2.1;omega
 have hlb:(lb:Int)≤140737488351232:=by have:=hb.2.1;omega
 clear ha hb;cases hpa:aN la f
 ·have e1:dH f la g lb=([],false):=by simp[dH,hpa]
  rw[e1];go_enter Tryz.func56,Tryz.ntmps56;go_wp2_with (go_at_call 74;refine(bD _ _ _ _ f HA.out).mono ?_;rw[hpa];rintro r w1 ⟨rfl,hb1⟩;have HB1:=aA hb1;clear hb1);refine bT (results_tmp2 rfl _ _ _) rfl ?_;exact⟨_,rfl,HB1.out.alloc HB1.out.size _,aQ w1 w.heap.size HB1.out.size⟩
 ·cases hpf:cA lb g
  ·have e1:dH f la g lb=([],false):=by simp[dH,hpf]
   rw[e1];go_enter Tryz.func56,Tryz.ntmps56
   go_wp2_with (first
    |(go_at_call 74;refine(bD _ _ _ _ f HA.out).mono ?_;rw[hpa];rintro r w1 ⟨rfl,hb1⟩;have HB1:=aA hb1;clear hb1)
    |(go_at_call 100;refine(tX _ _ _ _ g (HB.out.below HB1.out)).mono ?_;rw[hpf];rintro r w2 ⟨rfl,hb2⟩;have HB2:=aA (aC HB1.out hb2);clear hb2))
   refine bT (results_tmp2 rfl _ _ _) rfl ?_;exact⟨_,rfl,HB2.out.alloc HB2.out.size _,aQ w2 w.heap.size HB2.out.size⟩
  ·have e2:dH f la g lb=xL f la g lb:=by simp[dH,xL,hpa,hpf]
   rw[e2];clear e2;have hpg:aN lb g=true:=by simp only[cA,Bool.and_eq_true]at hpf;exact hpf.1
   have HGF:=aA (cD hpa).2;have HGG:=aA (cD hpg).2
   clear hpg;go_enter Tryz.func56,Tryz.ntmps56
   go_wp2_with (first
    |(go_at_call 74;refine(bD _ _ _ _ f HA.out).mono ?_;rw[hpa];rintro r w1 ⟨rfl,hb1⟩;have HB1:=aA hb1;clear hb1)
    |(go_at_call 100;refine(tX _ _ _ _ g (HB.out.below HB1.out)).mono ?_;rw[hpf];rintro r w2 ⟨rfl,hb2⟩;have HB2:=aA (aC HB1.out hb2);clear hb2))
   clear hpa hpf;have HO3:=aA (aQ w2 w.heap.size HB2.out.size)
   have HB3:=aA (aC HB2.out (aG w2 (.cells #[] 80)));generalize w2.alloc (.cells #[] 80)=w3 at *;generalize w2.heap.size=n2 at *;go_loopw [6,7] (fun v ii wr=>∃i:Nat,i≤la∧ii= .int .i64 (i:Int)∧dT (bE f g lb i)=true∧wr.ownsRow w.heap.size 80 5 v (sI (bE f g lb i)).length (aF (sI (bE f g lb i)))∧Below w.heap.size w wr) (fun _ ii _=>la-(intOf ii).toNat);case atStart=>exact⟨0,gC _,rfl,rfl,HO3.out,HB3.out⟩
   case round=>
    obtain⟨i,hi,rfl,hok,hown,hbl⟩:=hrel;by_cases hlt:i<la
    ·have hil:(i:Int)<(la:Int):=by omega
     have HOWN:=aA hown;have HBL:=aA hbl
     have hfi:=HGF.out i hlt;clear hown hbl;go_wp2;go_loopw [6,8] (fun v kk wr=>∃k:Nat,k≤lb∧kk= .int .i64 (k:Int)∧dT (bE f g lb i++bR (f i) g k)=true∧wr.ownsRow w.heap.size 80 5 v (sI (bE f g lb i++bR (f i) g k)).length (aF (sI (bE f g lb i++bR (f i) g k)))∧Below w.heap.size w wr) (fun _ kk _=>lb-(intOf kk).toNat);case atStart=>exact⟨0,gC _,rfl,by rw[bR,List.append_nil];exact hok,by rw[bR,List.append_nil];exact HOWN.out,HBL.out⟩
     case round=>
      obtain⟨k,hk,rfl,hok',hown',hbl'⟩:=hrel;by_cases hlt2:k<lb
      ·have hkl:(k:Int)<(lb:Int):=by omega
       have hri:=HA.out.below hbl';have hrk:=HB.out.below hbl'
       rcases hri.2.2 with h0|⟨pb,off,hpe,hblt,hcl⟩
       ·omega
       rcases hrk.2.2 with h0|⟨pb2,off2,hpe2,hblt2,hcl2⟩
       ·omega
       obtain⟨g0,g1,g2,g3,g4⟩:=hcl i hlt;obtain⟨j0,j1,j2,j3,j4⟩:=hcl2 k hlt2;subst hpe hpe2;have hgk:=HGG.out k hlt2
       have HC1:=aA (And.intro g0 j0);have HOW:=aA hown'
       have HBL':=aA hbl';have hws:w.heap.size≤wr.heap.size:=hbl'.size
       have hKs:=mE hok';have hKf:=xK hok'
       clear hcl hcl2 hri hrk hown' hbl' g0 j0;go_wp2_with fail;refine Code.wp_mono (Q:=fun e b0 u=>match e with|Exit.normal=>(∃h1 h2:Nat,b0={tmps:=#[Value.slice (some ⟨pb,off,none⟩) la ca,Value.slice (some ⟨pb2,off2,none⟩) lb cb,undef,undef,u4,u5,u6,Value.int IntKind.i64 (i:Int),Value.int IntKind.i64 (k:Int),Value.pointer (some ⟨h1,0,none⟩),Value.pointer (some ⟨h2,0,none⟩),u11,u12,Value.slice (some ⟨pb,off,none⟩) la ca,Value.bool true,Value.bool false,Value.bool false,Value.slice (some ⟨pb2,off2,none⟩) lb cb,Value.bool true,Value.bool false,Value.bool false,undef,Value.slice (some ⟨n2,0,none⟩) 0 0,Value.int IntKind.i64 (i:Int),Value.slice (some ⟨pb,off,none⟩) la ca,Value.int IntKind.i64 (la:Int),Value.bool true,u27,u28,Value.int IntKind.i64 (k:Int),Value.slice (some ⟨pb2,off2,none⟩) lb cb,Value.int IntKind.i64 (lb:Int),Value.bool true,u33,u34,Value.slice (some ⟨pb,off,none⟩) la ca,Value.int IntKind.i64 (i:Int),Value.pointer (some ⟨pb,off+i*5,none⟩),Value.pointer (some ⟨pb,off+i*5+1,none⟩),Value.agg #[Value.int IntKind.i64 (f i).m.x,Value.int IntKind.i64 (f i).m.y,Value.int IntKind.i64 (f i).m.d,Value.int IntKind.i64 (f i).m.e],Value.slice (some ⟨pb2,off2,none⟩) lb cb,Value.int IntKind.i64 (k:Int),Value.pointer (some ⟨pb2,off2+k*5,none⟩),Value.pointer (some ⟨pb2,off2+k*5+1,none⟩),Value.agg #[Value.int IntKind.i64 (g k).m.x,Value.int IntKind.i64 (g k).m.y,Value.int IntKind.i64 (g k).m.d,Value.int IntKind.i64 (g k).m.e],u45,u46,u47,u48,u49,u50,u51,u52,u53,u54,u55,u56,u57,u58,u59,u60,u61,u62,u63,u64,u65,u66,u67,u68,u69,u70,u71,u72,u73,u74,u75,u76,u77,u78,u79,u80,u81,u82,u83,u84,u85,u86,u87,u88,u89,u90,u91,u92,u93,u94,u95,u96,u97,u98,u99,undef],defers:=[]}∧M4 u h1 (f i).m.x (f i).m.y (f i).m.d (f i).m.e∧M4 u h2 (g k).m.x (g k).m.y (g k).m.d (g k).m.e∧Below wr.heap.size wr u)|_=>False) ?_ ?_;rotate_left
       ·go_region_with (fail)
        all_goals
         refine⟨_,_,rfl,⟨by go_simp,by go_simp,by go_simp,by go_simp⟩,⟨by go_simp,by go_simp,by go_simp,by go_simp⟩,?_⟩
         first
          |exact(cW wr _ _).drew
          |exact cW wr.drew _ _
       ·intro e b0 ua hh;cases e with
        |normal=>
         obtain⟨h1,h2,rfl,m1,m2,hbu⟩:=hh;have hOU:=aT HOW.out hbu
         have hBU:=aC HBL'.out hbu;have x1:=(hbu.cell (p:=⟨pb,off+i*5,none⟩) hblt).trans HC1.out.1
         have x2:=(hbu.cell (p:=⟨pb2,off2+k*5,none⟩) hblt2).trans HC1.out.2;have HOU:=aA hOU
         have HBU:=aA hBU;have lp1:pb<ua.heap.size:=dR hblt hbu.size
         have lp2:pb2<ua.heap.size:=dR hblt2 hbu.size;have lh1:=m1.lt
         have lh2:=m2.lt;have HM1:=aA m1
         have HM2:=aA m2;have ne:=cO.there ua
         have s1:∀u:cO ua,u.1.cell? ⟨pb,off+i*5,none⟩=some (.int .i64 (f i).c):=fun u=>(u.cell lp1).trans x1;have s2:∀u:cO ua,u.1.cell? ⟨pb2,off2+k*5,none⟩=some (.int .i64 (g k).c):=fun u=>(u.cell lp2).trans x2
         have s3:∀u:cO ua,u.1.cell? ⟨h1,2,none⟩=some (.int .i64 (f i).m.d):=fun u=>(u.cell lh1).trans m1.2.2.1;have s4:∀u:cO ua,u.1.cell? ⟨h1,3,none⟩=some (.int .i64 (f i).m.e):=fun u=>(u.cell lh1).trans m1.2.2.2
         have s5:∀u:cO ua,u.1.cell? ⟨h2,0,none⟩=some (.int .i64 (g k).m.x):=fun u=>(u.cell lh2).trans m2.1;have s6:∀u:cO ua,u.1.cell? ⟨h2,1,none⟩=some (.int .i64 (g k).m.y):=fun u=>(u.cell lh2).trans m2.2.1
         obtain⟨p1,p2,p3,p4,p5,p6,p7,p8⟩:=M.ok_iff.1 hfi.1;obtain⟨q1,q2,q3,q4,q5,q6,q7,q8⟩:=M.ok_iff.1 hgk.1;have f1:=iC (g k).m.x (f i).m.d
         have f2:=iC (g k).m.y (f i).m.e;obtain⟨F1,eF1⟩:∃F1,F1=cR (g k).m.x (f i).m.d:=⟨_,rfl⟩
         obtain⟨F2,eF2⟩:∃F2,F2=cR (g k).m.y (f i).m.e:=⟨_,rfl⟩
         obtain⟨c1,ec1⟩:∃c1,c1=(f i).c*(g k).c%101:=⟨_,rfl⟩
         obtain⟨c2,ec2⟩:∃c2,c2=c1*F1%101:=⟨_,rfl⟩
         obtain⟨c3,ec3⟩:∃c3,c3=c2*F2%101:=⟨_,rfl⟩
         have HC3:Hid (c3=II (f i) (g k)):=by show c3=_;rw[ec3,ec2,ec1,eF1,eF2];rfl
         rw[←eF1]at f1;rw[←eF2]at f2;have b1:=fF (show 0≤(f i).c by omega) hfi.2.2 (show 0≤(g k).c by omega) hgk.2.2
         have b2:=fF (show 0≤c1 by omega) (show c1≤100 by omega) f1.1 f1.2;have b3:=fF (show 0≤c2 by omega) (show c2≤100 by omega) f2.1 f2.2
         have v1:IntKind.i64.wrap ((f i).c*(g k).c)=(f i).c*(g k).c:=by rw[IntKind.wrap_i64];omega
         have t1:((f i).c*(g k).c).tmod 101=c1:=(Int.tmod_eq_emod_of_nonneg b1.1).trans ec1.symm;have v2:IntKind.i64.wrap (c1*F1)=c1*F1:=by rw[IntKind.wrap_i64];omega
         have t2:(c1*F1).tmod 101=c2:=(Int.tmod_eq_emod_of_nonneg b2.1).trans ec2.symm;have v3:IntKind.i64.wrap (c2*F2)=c2*F2:=by rw[IntKind.wrap_i64];omega
         have t3:(c2*F2).tmod 101=c3:=(Int.tmod_eq_emod_of_nonneg b3.1).trans ec3.symm;have hF1:∀u:World,Calls Tryz.prog 101 #[.int .i64 (g k).m.x,.int .i64 (f i).m.d] u fun e w'=>e= .returned (.int .i64 F1)∧w'=u:=fun u=>by rw[eF1];exact vU _ _ u
         have hF2:∀u:World,Calls Tryz.prog 101 #[.int .i64 (g k).m.y,.int .i64 (f i).m.e] u fun e w'=>e= .returned (.int .i64 F2)∧w'=u:=fun u=>by rw[eF2];exact vU _ _ u
         have k1:0≤c3:=by omega
         have k2:c3≤100:=by omega
         clear b1 b2 b3 f1 f2 ec1 ec2 ec3 eF1 eF2 x1 x2 hOU hBU m1 m2 hbu lh1 lh2 lp1 lp2 HC1 g1 g2 g3 g4 j1 j2 j3 j4;go_wp2_with fail;refine aS (by kernel_rfl) (by kernel_rfl) ?_;repeat(go_big_quiet_step (first|(go_at_call_of 101 (Value.int IntKind.i64 (g k).m.x);exact fC (hF1 _))|(go_at_call 101;exact fC (hF2 _))))
         refine wpQuiet_nil ?_;rintro W1 ⟨u,hu⟩;have hb1:Below ua.heap.size ua W1:=by rw[hu];exact u.2
         obtain⟨r0,r1,r2,r3⟩:=HM1.out.below hb1;obtain⟨z0,z1,z2,z3⟩:=HM2.out.below hb1;have HO1:=aA (aT HOU.out hb1)
         have HB1:=aA (aC HBU.out hb1);clear s1 s2 s3 s4 s5 s6 hu u ne hb1 v1 v2 v3 t1 t2 t3 hF1 hF2 HOU HBU HM1 HM2;have v1:IntKind.i64.wrap ((g k).m.x-(f i).m.d)=(g k).m.x-(f i).m.d:=by rw[IntKind.wrap_i64];omega
         have v2:IntKind.i64.wrap ((g k).m.x-(f i).m.d+(f i).m.x)=(g k).m.x-(f i).m.d+(f i).m.x:=by rw[IntKind.wrap_i64];omega
         have v3:IntKind.i64.wrap ((g k).m.y-(f i).m.e)=(g k).m.y-(f i).m.e:=by rw[IntKind.wrap_i64];omega
         have v4:IntKind.i64.wrap ((g k).m.y-(f i).m.e+(f i).m.y)=(g k).m.y-(f i).m.e+(f i).m.y:=by rw[IntKind.wrap_i64];omega
         have hBx:=aG W1 (.cells #[.int .i64 ((g k).m.x-(f i).m.d+(f i).m.x),.int .i64 ((g k).m.y-(f i).m.e+(f i).m.y),.int .i64 0,.int .i64 0] 78);have HOx:=aA (aT HO1.out hBx)
         have HBx:=aA (aC HB1.out hBx);by_cases hsk:(g k).m.x<(f i).m.d∨(g k).m.y<(f i).m.e
         ·have hc0:c3=0:=by rw[HC3.out];exact zQ hfi.1 hgk.1 hsk
          have e2:bR (f i) g (k+1)=bR (f i) g k:=by rw[bR,EV,if_pos hsk,List.append_nil]
          have HE:=aA e2;subst hc0;have hput:=rG _ w.heap.size u6 _ 0 ((g k).m.x-(f i).m.d+(f i).m.x) ((g k).m.y-(f i).m.e+(f i).m.y) 0 0 HOx.out HBx.out.size (show(sI (bE f g lb i++bR (f i) g k)).length≤1000 by have:(sI (bE f g lb i++bR (f i) g k)).length≤256:=hKs;omega) (dE hKf) (by omega) (by omega)
          have ep:fU 0 ⟨((g k).m.x-(f i).m.d+(f i).m.x),((g k).m.y-(f i).m.e+(f i).m.y),0,0⟩ (sI (bE f g lb i++bR (f i) g k))=sI (bE f g lb i++bR (f i) g k):=by simp[fU]
          rw[ep]at hput;clear e2 ep hBx hKs hKf hsk;go_wp2_with (go_at_call 103;refine hput.mono ?_;rintro r w7 ⟨v7,rfl,hb7,ho7⟩;have HB7:=aA (aC HBx.out hb7);have HO7:=aA ho7;clear hb7 ho7);go_roundw;case rel=>exact⟨k+1,by omega,by go_num,by rw[HE.out];exact hok',by rw[HE.out];exact HO7.out,HB7.out⟩
          case measure=>simp[intOf];omega
         ·have hc0:c3≠0:=by rw[HC3.out];exact FV hfi hgk hsk
          have hcb:(c3 !=0)=true:=by simp[hc0]
          have e2:bR (f i) g (k+1)=bR (f i) g k++[DF (f i) (g k)]:=by rw[bR,EV,if_neg hsk]
          have HE:Hid (bE f g lb i++bR (f i) g (k+1)=bE f g lb i++bR (f i) g k++[DF (f i) (g k)]):=by show _=_;rw[e2,List.append_assoc]
          have hcd:(qY (f i) (g k)).c=c3:=(zP (by omega) (by omega)).trans HC3.out.symm;have hm:=fK ((g k).m.x-(f i).m.d+(f i).m.x) ((g k).m.y-(f i).m.e+(f i).m.y) 0 0
          cases hxo:M.ok ⟨((g k).m.x-(f i).m.d+(f i).m.x),((g k).m.y-(f i).m.e+(f i).m.y),0,0⟩
          ·have hbad:dT (bE f g lb i++bR (f i) g (k+1))=false:=by
            rw[HE.out,eY,hok'];show dT [DF (f i) (g k)]=false
            unfold dT;simp only[List.all_cons,List.all_nil,Bool.and_true];exact hxo
           have eV:xL f la g lb=([],false):=if_neg (by rw[pL (qN f g lb la hlt (show k+1≤lb from hlt2)) hbad];simp);rw[hxo]at hm;clear hbad e2 hcd hKs hKf hsk hBx hc0;go_wp2_with (go_at_call 102;refine(hm _).mono ?_;rintro r w6 ⟨rfl,hb6⟩;have HB6:=aA (aC HBx.out hb6);clear hb6);refine bT (results_tmp2 rfl _ _ _) rfl ?_;rw[eV];exact⟨_,rfl,HB6.out.alloc HB6.out.size _,aQ w6 w.heap.size HB6.out.size⟩
          ·have hgood:Hid (dT (bE f g lb i++bR (f i) g (k+1))=true):=by
            show _=_;rw[HE.out,eY,hok'];show dT [DF (f i) (g k)]=true
            unfold dT;simp only[List.all_cons,List.all_nil,Bool.and_true];exact hxo
           have HK:Hid (sI (bE f g lb i++bR (f i) g (k+1))=fU c3 ⟨((g k).m.x-(f i).m.d+(f i).m.x),((g k).m.y-(f i).m.e+(f i).m.y),0,0⟩ (sI (bE f g lb i++bR (f i) g k))):=by show _=_;rw[HE.out,zR,←hcd];rfl
           rw[hxo]at hm;obtain⟨y0,y1,y2,y3⟩:=M4.box W1 78 ((g k).m.x-(f i).m.d+(f i).m.x) ((g k).m.y-(f i).m.e+(f i).m.y) 0 0;have HXB:=aA (M4.box W1 78 ((g k).m.x-(f i).m.d+(f i).m.x) ((g k).m.y-(f i).m.e+(f i).m.y) 0 0)
           have HL:Hid ((sI (bE f g lb i++bR (f i) g k)).length≤256):=hKs;have HKF:=aA hKf
           clear e2 hcd hKs hKf hsk hBx hc0 y0 y1 y2 y3
           go_wp2_with (first
            |(go_at_call 102;refine(hm _).mono ?_;rintro r w6 ⟨rfl,hb6⟩;obtain⟨y0,y1,y2,y3⟩:=HXB.out.below hb6;have HO6:=aA (aT HOx.out hb6);have HB6:=aA (aC HBx.out hb6);clear hb6)
            |(go_at_call 103;refine(rG w6 w.heap.size u6 _ c3 ((g k).m.x-(f i).m.d+(f i).m.x) ((g k).m.y-(f i).m.e+(f i).m.y) 0 0 HO6.out HB6.out.size (gU HL.out (by decide)) (dE HKF.out) k1 k2).mono ?_;rintro r w7 ⟨v7,rfl,hb7,ho7⟩;have HB7:=aA (aC HB6.out hb7);have HO7:=aA ho7;clear hb7 ho7))
           go_roundw;case rel=>exact⟨k+1,by omega,by go_num,hgood.out,by rw[HK.out];exact HO7.out,HB7.out⟩
           case measure=>simp[intOf];omega
        |_=>exact hh.elim
      ·obtain rfl:k=lb:=by omega
       have HOK:Hid (dT (bE f g k (i+1))=true):=hok';have HOWK:Hid (wr.ownsRow w.heap.size 80 5 _ (sI (bE f g k (i+1))).length (aF (sI (bE f g k (i+1))))):=hown'
       have HBLK:=aA hbl';clear hok' hown' hbl';go_wp2;go_roundw;case rel=>exact⟨i+1,by omega,by go_num,HOK.out,HOWK.out,HBLK.out⟩
       case measure=>simp[intOf];omega
    ·obtain rfl:i=la:=by omega
     have eV:xL f i g lb=(sI (bE f g lb i),true):=if_pos hok;go_wp2;refine bT (results_tmp2 rfl _ _ _) rfl ?_;rw[eV];exact⟨_,rfl,hbl,hown⟩
end Go.Proofs.YtoglomfejgpoeaaGreatDoor
