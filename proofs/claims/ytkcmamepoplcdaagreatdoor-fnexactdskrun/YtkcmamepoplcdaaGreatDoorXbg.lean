/-
  What an operator does to a form of the times: the program.
-/
import Derived.Test.YtkcmamepoplcdaaGreatDoorXbf
set_option maxHeartbeats 8000000
set_option maxRecDepth 100000
namespace Go.Proofs.YtkcmamepoplcdaaGreatDoor
open Go.RowKit Go.Maps
set_option linter.unusedVariables false
attribute [local go_sem] Oper.semAt_some
abbrev S10 (n:Nat) (a b:T) (u:World):Prop:=u.cell? ⟨n,0,none⟩=some (.int .i64 a.c)∧u.cell? ⟨n,1,none⟩=some (.int .i64 a.m.x)∧u.cell? ⟨n,2,none⟩=some (.int .i64 a.m.y)∧u.cell? ⟨n,3,none⟩=some (.int .i64 a.m.d)∧u.cell? ⟨n,4,none⟩=some (.int .i64 a.m.e)∧u.cell? ⟨n+1,0,none⟩=some (.int .i64 b.c)∧u.cell? ⟨n+1,1,none⟩=some (.int .i64 b.m.x)∧u.cell? ⟨n+1,2,none⟩=some (.int .i64 b.m.y)∧u.cell? ⟨n+1,3,none⟩=some (.int .i64 b.m.d)∧u.cell? ⟨n+1,4,none⟩=some (.int .i64 b.m.e)
theorem S10.below {n:Nat} {a b:T} {u u':World} (h:S10 n a b u) (hb:Below u.heap.size u u'):S10 n a b u':=by have k:∀(x o:Nat) (v:Value),u.cell? ⟨x,o,none⟩=some v→u'.cell? ⟨x,o,none⟩=some v:=fun x o v hv=>(hb.cell (p:=⟨x,o,none⟩) (EU u ⟨x,o,none⟩ hv)).trans hv;obtain⟨h0,h1,h2,h3,h4,h5,h6,h7,h8,h9⟩:=h;exact⟨k _ _ _ h0,k _ _ _ h1,k _ _ _ h2,k _ _ _ h3,k _ _ _ h4,k _ _ _ h5,k _ _ _ h6,k _ _ _ h7,k _ _ _ h8,k _ _ _ h9⟩
theorem sK {w:World} {b o b' o':Nat} {v:Value} (h:b'≠b):(w.setCell ⟨b,o,none⟩ v).cell? ⟨b',o',none⟩=w.cell? ⟨b',o',none⟩:=sP (w:=w) (Below.heap_setCell _ _ _ _ h)
theorem S10.set {n B o:Nat} {a b:T} {u:World} (h:S10 n a b u) (h1:n≠B) (h2:n+1≠B) (v:Value):S10 n a b (u.setCell ⟨B,o,none⟩ v):=by obtain⟨h0,h1',h2',h3,h4,h5,h6,h7,h8,h9⟩:=h;exact⟨(sK h1).trans h0,(sK h1).trans h1',(sK h1).trans h2',(sK h1).trans h3,(sK h1).trans h4,(sK h2).trans h5,(sK h2).trans h6,(sK h2).trans h7,(sK h2).trans h8,(sK h2).trans h9⟩
theorem S10.set5 {n B:Nat} {a b:T} {u:World} (h:S10 n a b u) (h1:n≠B) (h2:n+1≠B) (v0 v1 v2 v3 v4:Value):S10 n a b (((((u.setCell ⟨B,0,none⟩ v0).setCell ⟨B,1,none⟩ v1).setCell ⟨B,2,none⟩ v2).setCell ⟨B,3,none⟩ v3).setCell ⟨B,4,none⟩ v4):=
 ((((h.set h1 h2 v0).set h1 h2 v1).set h1 h2 v2).set h1 h2 v3).set h1 h2 v4
theorem FA (a b:T) (w:World) (ha:a.m.ok=true) (hb:b.m.ok=true):Calls Tryz.prog 149 #[.agg #[.int .i64 a.c,.int .i64 a.m.x,.int .i64 a.m.y,.int .i64 a.m.d,.int .i64 a.m.e],.agg #[.int .i64 b.c,.int .i64 b.m.x,.int .i64 b.m.y,.int .i64 b.m.d,.int .i64 b.m.e]] w fun r w'=>r= .returned (.agg #[.int .i64 (vD a b).c,.int .i64 (vD a b).m.x,.int .i64 (vD a b).m.y,.int .i64 (vD a b).m.d,.int .i64 (vD a b).m.e])∧Below w.heap.size w w':=by
 obtain⟨p1,p2,p3,p4,p5,p6,p7,p8⟩:=M.ok_iff.1 ha;obtain⟨q1,q2,q3,q4,q5,q6,q7,q8⟩:=M.ok_iff.1 hb;clear ha hb;go_enter Tryz.func149,Tryz.ntmps149;go_wp2_with (go_at_call 177;refine(MH _ _ _).mono ?_;rintro e w' ⟨rfl,hw'⟩;obtain rfl:=hw'.symm;clear hw');have c00:(((w.alloc (.cells #[.int .i64 a.c,.int .i64 a.m.x,.int .i64 a.m.y,.int .i64 a.m.d,.int .i64 a.m.e] 79)).alloc (.cells #[.int .i64 b.c,.int .i64 b.m.x,.int .i64 b.m.y,.int .i64 b.m.d,.int .i64 b.m.e] 79)).alloc (.cells #[.int .i64 0,.int .i64 0,.int .i64 0,.int .i64 0,.int .i64 0] 79)).cell? ⟨w.heap.size,0,none⟩=some (.int .i64 a.c):=by go_simp
 have c01:(((w.alloc (.cells #[.int .i64 a.c,.int .i64 a.m.x,.int .i64 a.m.y,.int .i64 a.m.d,.int .i64 a.m.e] 79)).alloc (.cells #[.int .i64 b.c,.int .i64 b.m.x,.int .i64 b.m.y,.int .i64 b.m.d,.int .i64 b.m.e] 79)).alloc (.cells #[.int .i64 0,.int .i64 0,.int .i64 0,.int .i64 0,.int .i64 0] 79)).cell? ⟨w.heap.size,1,none⟩=some (.int .i64 a.m.x):=by go_simp
 have c02:(((w.alloc (.cells #[.int .i64 a.c,.int .i64 a.m.x,.int .i64 a.m.y,.int .i64 a.m.d,.int .i64 a.m.e] 79)).alloc (.cells #[.int .i64 b.c,.int .i64 b.m.x,.int .i64 b.m.y,.int .i64 b.m.d,.int .i64 b.m.e] 79)).alloc (.cells #[.int .i64 0,.int .i64 0,.int .i64 0,.int .i64 0,.int .i64 0] 79)).cell? ⟨w.heap.size,2,none⟩=some (.int .i64 a.m.y):=by go_simp
 have c03:(((w.alloc (.cells #[.int .i64 a.c,.int .i64 a.m.x,.int .i64 a.m.y,.int .i64 a.m.d,.int .i64 a.m.e] 79)).alloc (.cells #[.int .i64 b.c,.int .i64 b.m.x,.int .i64 b.m.y,.int .i64 b.m.d,.int .i64 b.m.e] 79)).alloc (.cells #[.int .i64 0,.int .i64 0,.int .i64 0,.int .i64 0,.int .i64 0] 79)).cell? ⟨w.heap.size,3,none⟩=some (.int .i64 a.m.d):=by go_simp
 have c04:(((w.alloc (.cells #[.int .i64 a.c,.int .i64 a.m.x,.int .i64 a.m.y,.int .i64 a.m.d,.int .i64 a.m.e] 79)).alloc (.cells #[.int .i64 b.c,.int .i64 b.m.x,.int .i64 b.m.y,.int .i64 b.m.d,.int .i64 b.m.e] 79)).alloc (.cells #[.int .i64 0,.int .i64 0,.int .i64 0,.int .i64 0,.int .i64 0] 79)).cell? ⟨w.heap.size,4,none⟩=some (.int .i64 a.m.e):=by go_simp
 have c10:(((w.alloc (.cells #[.int .i64 a.c,.int .i64 a.m.x,.int .i64 a.m.y,.int .i64 a.m.d,.int .i64 a.m.e] 79)).alloc (.cells #[.int .i64 b.c,.int .i64 b.m.x,.int .i64 b.m.y,.int .i64 b.m.d,.int .i64 b.m.e] 79)).alloc (.cells #[.int .i64 0,.int .i64 0,.int .i64 0,.int .i64 0,.int .i64 0] 79)).cell? ⟨w.heap.size+1,0,none⟩=some (.int .i64 b.c):=by go_simp
 have c11:(((w.alloc (.cells #[.int .i64 a.c,.int .i64 a.m.x,.int .i64 a.m.y,.int .i64 a.m.d,.int .i64 a.m.e] 79)).alloc (.cells #[.int .i64 b.c,.int .i64 b.m.x,.int .i64 b.m.y,.int .i64 b.m.d,.int .i64 b.m.e] 79)).alloc (.cells #[.int .i64 0,.int .i64 0,.int .i64 0,.int .i64 0,.int .i64 0] 79)).cell? ⟨w.heap.size+1,1,none⟩=some (.int .i64 b.m.x):=by go_simp
 have c12:(((w.alloc (.cells #[.int .i64 a.c,.int .i64 a.m.x,.int .i64 a.m.y,.int .i64 a.m.d,.int .i64 a.m.e] 79)).alloc (.cells #[.int .i64 b.c,.int .i64 b.m.x,.int .i64 b.m.y,.int .i64 b.m.d,.int .i64 b.m.e] 79)).alloc (.cells #[.int .i64 0,.int .i64 0,.int .i64 0,.int .i64 0,.int .i64 0] 79)).cell? ⟨w.heap.size+1,2,none⟩=some (.int .i64 b.m.y):=by go_simp
 have c13:(((w.alloc (.cells #[.int .i64 a.c,.int .i64 a.m.x,.int .i64 a.m.y,.int .i64 a.m.d,.int .i64 a.m.e] 79)).alloc (.cells #[.int .i64 b.c,.int .i64 b.m.x,.int .i64 b.m.y,.int .i64 b.m.d,.int .i64 b.m.e] 79)).alloc (.cells #[.int .i64 0,.int .i64 0,.int .i64 0,.int .i64 0,.int .i64 0] 79)).cell? ⟨w.heap.size+1,3,none⟩=some (.int .i64 b.m.d):=by go_simp
 have c14:(((w.alloc (.cells #[.int .i64 a.c,.int .i64 a.m.x,.int .i64 a.m.y,.int .i64 a.m.d,.int .i64 a.m.e] 79)).alloc (.cells #[.int .i64 b.c,.int .i64 b.m.x,.int .i64 b.m.y,.int .i64 b.m.d,.int .i64 b.m.e] 79)).alloc (.cells #[.int .i64 0,.int .i64 0,.int .i64 0,.int .i64 0,.int .i64 0] 79)).cell? ⟨w.heap.size+1,4,none⟩=some (.int .i64 b.m.e):=by go_simp
 have t0:(((w.alloc (.cells #[.int .i64 a.c,.int .i64 a.m.x,.int .i64 a.m.y,.int .i64 a.m.d,.int .i64 a.m.e] 79)).alloc (.cells #[.int .i64 b.c,.int .i64 b.m.x,.int .i64 b.m.y,.int .i64 b.m.d,.int .i64 b.m.e] 79)).alloc (.cells #[.int .i64 0,.int .i64 0,.int .i64 0,.int .i64 0,.int .i64 0] 79)).cell? ⟨w.heap.size+1+1,0,none⟩=some (.int .i64 0):=by go_simp
 have t1:(((w.alloc (.cells #[.int .i64 a.c,.int .i64 a.m.x,.int .i64 a.m.y,.int .i64 a.m.d,.int .i64 a.m.e] 79)).alloc (.cells #[.int .i64 b.c,.int .i64 b.m.x,.int .i64 b.m.y,.int .i64 b.m.d,.int .i64 b.m.e] 79)).alloc (.cells #[.int .i64 0,.int .i64 0,.int .i64 0,.int .i64 0,.int .i64 0] 79)).cell? ⟨w.heap.size+1+1,1,none⟩=some (.int .i64 0):=by go_simp
 have t2:(((w.alloc (.cells #[.int .i64 a.c,.int .i64 a.m.x,.int .i64 a.m.y,.int .i64 a.m.d,.int .i64 a.m.e] 79)).alloc (.cells #[.int .i64 b.c,.int .i64 b.m.x,.int .i64 b.m.y,.int .i64 b.m.d,.int .i64 b.m.e] 79)).alloc (.cells #[.int .i64 0,.int .i64 0,.int .i64 0,.int .i64 0,.int .i64 0] 79)).cell? ⟨w.heap.size+1+1,2,none⟩=some (.int .i64 0):=by go_simp
 have t3:(((w.alloc (.cells #[.int .i64 a.c,.int .i64 a.m.x,.int .i64 a.m.y,.int .i64 a.m.d,.int .i64 a.m.e] 79)).alloc (.cells #[.int .i64 b.c,.int .i64 b.m.x,.int .i64 b.m.y,.int .i64 b.m.d,.int .i64 b.m.e] 79)).alloc (.cells #[.int .i64 0,.int .i64 0,.int .i64 0,.int .i64 0,.int .i64 0] 79)).cell? ⟨w.heap.size+1+1,3,none⟩=some (.int .i64 0):=by go_simp
 have t4:(((w.alloc (.cells #[.int .i64 a.c,.int .i64 a.m.x,.int .i64 a.m.y,.int .i64 a.m.d,.int .i64 a.m.e] 79)).alloc (.cells #[.int .i64 b.c,.int .i64 b.m.x,.int .i64 b.m.y,.int .i64 b.m.d,.int .i64 b.m.e] 79)).alloc (.cells #[.int .i64 0,.int .i64 0,.int .i64 0,.int .i64 0,.int .i64 0] 79)).cell? ⟨w.heap.size+1+1,4,none⟩=some (.int .i64 0):=by go_simp
 have z0:∀i,(((w.alloc (.cells #[.int .i64 a.c,.int .i64 a.m.x,.int .i64 a.m.y,.int .i64 a.m.d,.int .i64 a.m.e] 79)).alloc (.cells #[.int .i64 b.c,.int .i64 b.m.x,.int .i64 b.m.y,.int .i64 b.m.d,.int .i64 b.m.e] 79)).alloc (.cells #[.int .i64 0,.int .i64 0,.int .i64 0,.int .i64 0,.int .i64 0] 79)).frozen? ⟨w.heap.size+1+1,i,none⟩=false:=fun i=>by go_simp
 have HB:=aA (cL w (.cells #[.int .i64 a.c,.int .i64 a.m.x,.int .i64 a.m.y,.int .i64 a.m.d,.int .i64 a.m.e] 79) (.cells #[.int .i64 b.c,.int .i64 b.m.x,.int .i64 b.m.y,.int .i64 b.m.d,.int .i64 b.m.e] 79) (.cells #[.int .i64 0,.int .i64 0,.int .i64 0,.int .i64 0,.int .i64 0] 79));have hs0:(((w.alloc (.cells #[.int .i64 a.c,.int .i64 a.m.x,.int .i64 a.m.y,.int .i64 a.m.d,.int .i64 a.m.e] 79)).alloc (.cells #[.int .i64 b.c,.int .i64 b.m.x,.int .i64 b.m.y,.int .i64 b.m.d,.int .i64 b.m.e] 79)).alloc (.cells #[.int .i64 0,.int .i64 0,.int .i64 0,.int .i64 0,.int .i64 0] 79)).heap.size=w.heap.size+3:=by simp
 generalize(((w.alloc (.cells #[.int .i64 a.c,.int .i64 a.m.x,.int .i64 a.m.y,.int .i64 a.m.d,.int .i64 a.m.e] 79)).alloc (.cells #[.int .i64 b.c,.int .i64 b.m.x,.int .i64 b.m.y,.int .i64 b.m.d,.int .i64 b.m.e] 79)).alloc (.cells #[.int .i64 0,.int .i64 0,.int .i64 0,.int .i64 0,.int .i64 0] 79))=W0 at *;have l0:w.heap.size<W0.heap.size:=by omega
 have l1:w.heap.size+1<W0.heap.size:=by omega
 have l2:w.heap.size+1+1<W0.heap.size:=by omega
 clear hs0;have ne:=dQ.there W0
 have s00:∀u:dQ W0,u.1.cell? ⟨w.heap.size,0,none⟩=some (.int .i64 a.c):=fun u=>(u.cell l0).trans c00;have s01:∀u:dQ W0,u.1.cell? ⟨w.heap.size,1,none⟩=some (.int .i64 a.m.x):=fun u=>(u.cell l0).trans c01
 have s02:∀u:dQ W0,u.1.cell? ⟨w.heap.size,2,none⟩=some (.int .i64 a.m.y):=fun u=>(u.cell l0).trans c02;have s03:∀u:dQ W0,u.1.cell? ⟨w.heap.size,3,none⟩=some (.int .i64 a.m.d):=fun u=>(u.cell l0).trans c03
 have s04:∀u:dQ W0,u.1.cell? ⟨w.heap.size,4,none⟩=some (.int .i64 a.m.e):=fun u=>(u.cell l0).trans c04;have s10:∀u:dQ W0,u.1.cell? ⟨w.heap.size+1,0,none⟩=some (.int .i64 b.c):=fun u=>(u.cell l1).trans c10
 have s11:∀u:dQ W0,u.1.cell? ⟨w.heap.size+1,1,none⟩=some (.int .i64 b.m.x):=fun u=>(u.cell l1).trans c11;have s12:∀u:dQ W0,u.1.cell? ⟨w.heap.size+1,2,none⟩=some (.int .i64 b.m.y):=fun u=>(u.cell l1).trans c12
 have s13:∀u:dQ W0,u.1.cell? ⟨w.heap.size+1,3,none⟩=some (.int .i64 b.m.d):=fun u=>(u.cell l1).trans c13;have s14:∀u:dQ W0,u.1.cell? ⟨w.heap.size+1,4,none⟩=some (.int .i64 b.m.e):=fun u=>(u.cell l1).trans c14
 refine aR (by kernel_rfl) (by kernel_rfl) ?_;repeat(go_big_quiet_step (first|(go_at_call 178;exact fU (NT _ _ _))|(go_at_call 177;exact fU (MH _ _ _))))
 refine wpQuiet_nil ?_;rintro W1 ⟨u,hu⟩;have hb1:Below W0.heap.size W0 W1:=by rw[hu];exact u.2
 clear s00 s01 s02 s03 s04 s10 s11 s12 s13 s14 hu u ne;have hS1:S10 w.heap.size a b W1:=S10.below ⟨c00,c01,c02,c03,c04,c10,c11,c12,c13,c14⟩ hb1
 have hS1d:S10 w.heap.size a b W1.drew:=S10.below hS1 (aD _ _).drew;have r0:W1.cell? ⟨w.heap.size+1+1,0,none⟩=some (.int .i64 0):=(hb1.cell (p:=⟨w.heap.size+1+1,0,none⟩) l2).trans t0
 have r1:W1.cell? ⟨w.heap.size+1+1,1,none⟩=some (.int .i64 0):=(hb1.cell (p:=⟨w.heap.size+1+1,1,none⟩) l2).trans t1;have r2:W1.cell? ⟨w.heap.size+1+1,2,none⟩=some (.int .i64 0):=(hb1.cell (p:=⟨w.heap.size+1+1,2,none⟩) l2).trans t2
 have r3:W1.cell? ⟨w.heap.size+1+1,3,none⟩=some (.int .i64 0):=(hb1.cell (p:=⟨w.heap.size+1+1,3,none⟩) l2).trans t3;have r4:W1.cell? ⟨w.heap.size+1+1,4,none⟩=some (.int .i64 0):=(hb1.cell (p:=⟨w.heap.size+1+1,4,none⟩) l2).trans t4
 have y0:∀i,W1.frozen? ⟨w.heap.size+1+1,i,none⟩=false:=fun i=>(hb1.frozen (p:=⟨w.heap.size+1+1,i,none⟩) l2).trans (z0 i);have HB1:=aA (aC HB.out (hb1.mono (Nat.le_refl _)))
 have hl3:w.heap.size+1+1<W1.heap.size:=eB l2 hb1.size;clear c00 c01 c02 c03 c04 c10 c11 c12 c13 c14 hb1 t0 t1 t2 t3 t4 z0 l0 l1 l2;have hn1:w.heap.size≠w.heap.size+1+1:=by omega
 have hn2:w.heap.size+1≠w.heap.size+1+1:=by omega
 have v1:IntKind.i64.wrap (b.m.x-a.m.d)=b.m.x-a.m.d:=by rw[IntKind.wrap_i64];omega
 have v2:IntKind.i64.wrap (b.m.x-a.m.d+a.m.x)=b.m.x-a.m.d+a.m.x:=by rw[IntKind.wrap_i64];omega
 have v3:IntKind.i64.wrap (b.m.y-a.m.e)=b.m.y-a.m.e:=by rw[IntKind.wrap_i64];omega
 have v4:IntKind.i64.wrap (b.m.y-a.m.e+a.m.y)=b.m.y-a.m.e+a.m.y:=by rw[IntKind.wrap_i64];omega
 go_wp2_with fail
 go_region_held3 (fun u=>u.cell? ⟨w.heap.size,0,none⟩=some (.int .i64 a.c)∧u.cell? ⟨w.heap.size,1,none⟩=some (.int .i64 a.m.x)∧u.cell? ⟨w.heap.size,2,none⟩=some (.int .i64 a.m.y)∧u.cell? ⟨w.heap.size,3,none⟩=some (.int .i64 a.m.d)∧u.cell? ⟨w.heap.size,4,none⟩=some (.int .i64 a.m.e)∧u.cell? ⟨w.heap.size+1,0,none⟩=some (.int .i64 b.c)∧u.cell? ⟨w.heap.size+1,1,none⟩=some (.int .i64 b.m.x)∧u.cell? ⟨w.heap.size+1,2,none⟩=some (.int .i64 b.m.y)∧u.cell? ⟨w.heap.size+1,3,none⟩=some (.int .i64 b.m.d)∧u.cell? ⟨w.heap.size+1,4,none⟩=some (.int .i64 b.m.e)) (first|with_reducible exact hS1d|with_reducible exact S10.below (S10.set5 hS1 hn1 hn2 _ _ _ _ _) (aD _ _).drew) (first|(go_at_call 177;refine(MH _ _ _).mono ?_;rintro r w7 ⟨rfl,hw7⟩;obtain rfl:=hw7.symm;clear hw7))
 go_wp2;refine bC (v:=.agg #[.int .i64 (vD a b).c,.int .i64 (vD a b).m.x,.int .i64 (vD a b).m.y,.int .i64 (vD a b).m.d,.int .i64 (vD a b).m.e]) (by simp[results,Tryz.results149,go_sem,vD, *]) rfl ⟨rfl,?_⟩;exact(cF HB1.out (by omega) _ _ _ _ _).drew
theorem gS {W W':World} {b o:Nat} {v:Value} (h:W.cell? ⟨b,o,none⟩=some v) (hk:cellsK W W'):W'.cell? ⟨b,o,none⟩=some v:=by
 cases hh:W.heap[b]? with
 |none=>simp[World.cell?,hh]at h
 |some ob=>
  cases ob with
  |cells A t z=>exact(sP (w:=W) (a:=⟨b,o,none⟩) ((hk.2 b _ hh rfl).trans hh.symm)).trans h
  |_=>simp[World.cell?,hh]at h
theorem Rd.cellsK {W W':World} {a:Option Addr} {n cap:Nat} {f:Nat→T} (h:Rd W a n cap f) (hk:cellsK W W'):Rd W' a n cap f:=by
 refine⟨h.1,h.2.1,?_⟩;rcases h.2.2 with h0|⟨b,off,he,hlt,hc⟩
 ·exact .inl h0
 ·refine .inr ⟨b,off,he,eB hlt hk.1,fun i hi=>?_⟩;obtain⟨h0,h1,h2,h3,h4⟩:=hc i hi;exact⟨gS h0 hk,gS h1 hk,gS h2 hk,gS h3 hk,gS h4 hk⟩
theorem jZ {W W':World} (h:Below W.heap.size W W'):cellsK W W':=⟨h.size,fun k o hk _=>(h.block k (Array.getElem?_eq_some_iff.1 hk).1).trans hk⟩
theorem SJ {n:Nat} (hn:1≤n) (l B1 B2:Nat) (p q:Option Addr) (la ca lb cb:Nat) (f g:Nat→T) (gf:∀i,i<la→(f i).m.ok=true) (gg:∀i,i<lb→(g i).m.ok=true) (J Jx:List DT→World→Prop) (hJd:∀pre W W',J pre W→W.grownBy W' none→J pre W') (hY:∀pre x W,J pre W→pre.length<la*lb→YieldAt Fence.wide (n-1) Tryz.prog l (OZ x) W fun e W'=>(e= .returned (.bool true)∧J (pre++[x]) W'∧cellsK W W')∨(e= .returned (.bool false)∧Jx (pre++[x]) W')) (W:World) (hb1:Boxed W B1 22 (.slice p la ca)) (hb2:Boxed W B2 22 (.slice q lb cb)) (hp:Rd W p la ca f) (hq:Rd W q lb cb g) (h0:J [] W):CallsIn Fence.wide n Tryz.prog 148 #[.func (.yield l) #[] #[],.pointer (some ⟨B1,0,none⟩),.pointer (some ⟨B2,0,none⟩)] W fun e W'=>(∃v,e= .returned v)∧((∃xs,xs=bA f g lb la∧J xs W')∨(∃pre,pre<+:bA f g lb la∧Jx pre W')):=by
 have hla:(la:Int)≤140737488351232:=by have:=hp.2.1;omega
 have hlb:(lb:Int)≤140737488351232:=by have:=hq.2.1;omega
 have HGF:=aA gf;have HGG:=aA gg
 have HJD:=aA hJd;have HY:=aA hY
 clear gf gg hJd hY;refine callsIn_of_wp Tryz.func148 rfl trivial ?_ rfl;simp only[Tryz.ntmps148,List.size_toArray,List.length_cons,List.length_nil,Nat.reduceAdd,Nat.reduceSub,Array.replicate_succ,Array.replicate_zero,List.push_toArray,List.append_toArray,List.nil_append,List.cons_append];have c1:=hb1.cell
 gi_wp2
 clear c1
 gi_loopw [10] (fun v wr=>∃i:Nat,i≤la∧v= .int .i64 (i:Int)∧J (bA f g lb i) wr∧Boxed wr B2 22 (.slice q lb cb)∧Rd wr p la ca f∧Rd wr q lb cb g) (fun v _=>la-(RowKit.intOf v).toNat)
 case atStart=>exact⟨0,gO _,rfl,h0,hb2,hp,hq⟩
 case round=>
  obtain⟨i,hi,rfl,hJ,b2,rp,rq⟩:=hrel;by_cases hlt:i<la
  ·have hil:(i:Int)<(la:Int):=by omega
   rcases rp.2.2 with h0|⟨pb,off,hpe,hblt,hcl⟩
   ·omega
   obtain⟨g0,g1,g2,g3,g4⟩:=hcl i hlt;subst hpe;have hTi:aZ (wr.alloc (.cells #[.int .i64 (f i).c,.int .i64 (f i).m.x,.int .i64 (f i).m.y,.int .i64 (f i).m.d,.int .i64 (f i).m.e] 79)) wr.heap.size (f i):=World.alloc_heap_new wr _
   have hB1:=aF wr (.cells #[.int .i64 (f i).c,.int .i64 (f i).m.x,.int .i64 (f i).m.y,.int .i64 (f i).m.d,.int .i64 (f i).m.e] 79);have hJ1:=HJD.out _ _ _ hJ (World.grownBy_alloc wr (.cells #[.int .i64 (f i).c,.int .i64 (f i).m.x,.int .i64 (f i).m.y,.int .i64 (f i).m.d,.int .i64 (f i).m.e] 79) none)
   have b21:=b2.alloc (.cells #[.int .i64 (f i).c,.int .i64 (f i).m.x,.int .i64 (f i).m.y,.int .i64 (f i).m.d,.int .i64 (f i).m.e] 79);have c2:=b21.cell
   have HP1:=aA (rp.below hB1);have HQ1:=aA (rq.below hB1)
   clear hJ b2 rp rq hcl hB1;have hfi:=HGF.out i hlt
   gi_wp2
   clear c2 g0 g1 g2 g3 g4;obtain⟨Bd,hBd⟩:∃Bd,Bd=wr.heap.size:=⟨_,rfl⟩
   rw[←hBd]at hTi⊢;generalize wr.alloc (.cells #[.int .i64 (f i).c,.int .i64 (f i).m.x,.int .i64 (f i).m.y,.int .i64 (f i).m.d,.int .i64 (f i).m.e] 79)=W1 at *;clear hBd
   gi_loopw [16] (fun v wr=>∃k:Nat,k≤lb∧v= .int .i64 (k:Int)∧J (bA f g lb i++bJ (f i) g k) wr∧Boxed wr B2 22 (.slice q lb cb)∧Rd wr (some ⟨pb,off,none⟩) la ca f∧Rd wr q lb cb g∧aZ wr Bd (f i)) (fun v _=>lb-(RowKit.intOf v).toNat)
   case atStart=>exact⟨0,gO _,rfl,by rw[bJ,List.append_nil];exact hJ1,b21,HP1.out,HQ1.out,hTi⟩
   case round=>
    obtain⟨k,hk,rfl,hJ,b2,rp,rq,hT⟩:=hrel;by_cases hlt2:k<lb
    ·have hkl:(k:Int)<(lb:Int):=by omega
     rcases rq.2.2 with h0|⟨pb2,off2,hpe2,hblt2,hcl⟩
     ·omega
     obtain⟨g0,g1,g2,g3,g4⟩:=hcl k hlt2;subst hpe2;have hgk:=HGG.out k hlt2
     have hTlt:Bd<wr.heap.size:=(Array.getElem?_eq_some_iff.1 hT).1;have hXk:aZ (wr.alloc (.cells #[.int .i64 (g k).c,.int .i64 (g k).m.x,.int .i64 (g k).m.y,.int .i64 (g k).m.d,.int .i64 (g k).m.e] 79)) wr.heap.size (g k):=World.alloc_heap_new wr _
     have hTk:aZ (wr.alloc (.cells #[.int .i64 (g k).c,.int .i64 (g k).m.x,.int .i64 (g k).m.y,.int .i64 (g k).m.d,.int .i64 (g k).m.e] 79)) Bd (f i):=(Below.heap_alloc wr _ _ hTlt).trans hT;have hB1:=aF wr (.cells #[.int .i64 (g k).c,.int .i64 (g k).m.x,.int .i64 (g k).m.y,.int .i64 (g k).m.d,.int .i64 (g k).m.e] 79)
     have HJ1:=aA (HJD.out _ _ _ hJ (World.grownBy_alloc wr (.cells #[.int .i64 (g k).c,.int .i64 (g k).m.x,.int .i64 (g k).m.y,.int .i64 (g k).m.d,.int .i64 (g k).m.e] 79) none));have HB2:=aA (b2.alloc (.cells #[.int .i64 (g k).c,.int .i64 (g k).m.x,.int .i64 (g k).m.y,.int .i64 (g k).m.d,.int .i64 (g k).m.e] 79))
     have HP2:=aA (rp.below hB1);have HQ2:=aA (rq.below hB1)
     have HT2:=aA hTk;obtain⟨a0,a1,a2,a3,a4⟩:=hTk.cells;clear hJ b2 rp rq hcl hB1 hT hTk;by_cases hx:(g k).m.x<(f i).m.d
     ·have hdx:decide ((g k).m.x<(f i).m.d)=true:=decide_eq_true hx;have e2:bJ (f i) g (k+1)=bJ (f i) g k:=by rw[bJ,NR,if_pos (.inl hx),List.append_nil]
      have HE:=aA e2;clear e2
      gi_wp2
      go_roundw;case rel=>exact⟨k+1,by omega,by go_num,by rw[HE.out];exact HJ1.out,HB2.out,HP2.out,HQ2.out,HT2.out⟩
      case measure=>simp[RowKit.intOf];omega
     ·have hdx:decide ((g k).m.x<(f i).m.d)=false:=decide_eq_false hx;by_cases hy:(g k).m.y<(f i).m.e
      ·have hdy:decide ((g k).m.y<(f i).m.e)=true:=decide_eq_true hy;have e2:bJ (f i) g (k+1)=bJ (f i) g k:=by rw[bJ,NR,if_pos (.inr hy),List.append_nil]
       have HE:=aA e2;clear e2
       gi_wp2
       go_roundw;case rel=>exact⟨k+1,by omega,by go_num,by rw[HE.out];exact HJ1.out,HB2.out,HP2.out,HQ2.out,HT2.out⟩
       case measure=>simp[RowKit.intOf];omega
      ·have hdy:decide ((g k).m.y<(f i).m.e)=false:=decide_eq_false hy;have e2:bJ (f i) g (k+1)=bJ (f i) g k++[LE (f i) (g k)]:=by rw[bJ,NR,if_neg (fun h=>h.elim hx hy)]
       have HE:=aA e2;have hlen:(bA f g lb i++bJ (f i) g k).length<la*lb:=by
        have h1:=sV f g lb i;have h2:=pA (f i) g k
        have h3:(i+1)*lb≤la*lb:=Nat.mul_le_mul_right lb hlt;rw[Nat.succ_mul]at h3;rw[List.length_append];omega
       have HPRE:=aA (uK f g lb la hlt (show k+1≤lb from hlt2));have HYK:Hid (∀w4,J (bA f g lb i++bJ (f i) g k) w4→YieldAt Fence.wide (n-1) Tryz.prog l (#[.agg #[.int .i64 (vD (f i) (g k)).c,.int .i64 (vD (f i) (g k)).m.x,.int .i64 (vD (f i) (g k)).m.y,.int .i64 (vD (f i) (g k)).m.d,.int .i64 (vD (f i) (g k)).m.e]]) w4 fun e W'=>(e= .returned (.bool true)∧J (bA f g lb i++bJ (f i) g k++[LE (f i) (g k)]) W'∧cellsK w4 W')∨(e= .returned (.bool false)∧Jx (bA f g lb i++bJ (f i) g k++[LE (f i) (g k)]) W')):=fun w4 h=>HY.out _ (LE (f i) (g k)) w4 h hlen
       clear e2 hlen
       gi_wp2_with (first
        |(refine⟨trivial,?_⟩;gi_at_call 149;refine(callsIn_wide.2 (FA (f i) (g k) _ hfi hgk)).mono ?_;rintro e w4 ⟨rfl,hb4⟩;obtain⟨fn,tmps,assign,body,hyl,hRd⟩:=HYK.out w4 (HJD.out _ _ _ HJ1.out (cW hb4));have HB4:=aA (jZ hb4);clear hb4)
        |gi_in)
       refine hRd.mono ?_;rintro e W3 (⟨rfl,hJ3,hk3⟩|⟨rfl,hJx3⟩)
       ·have hk4:=bF HB4.out hk3;have HK4:=aA hk4
        have HJ3:=aA hJ3;clear hk3 hk4 hJ3 a0 a1 a2 a3 a4 g0 g1 g2 g3 g4
        gi_wp2
        go_roundw;case rel=>exact⟨k+1,by omega,by go_num,by rw[HE.out,←List.append_assoc];exact HJ3.out,bH HB2.out HK4.out,HP2.out.cellsK HK4.out,HQ2.out.cellsK HK4.out,HK4.out.2 Bd _ HT2.out rfl⟩
        case measure=>simp[RowKit.intOf];omega
       ·clear a0 a1 a2 a3 a4 g0 g1 g2 g3 g4
        gi_wp2
        refine bC (results_none rfl _ _ _) rfl ?_;exact⟨⟨_,rfl⟩,.inr ⟨_,by have:=HPRE.out;rw[HE.out,←List.append_assoc]at this;exact this,hJx3⟩⟩
    ·obtain rfl:k=lb:=by omega
     gi_wp2
     go_roundw;case rel=>exact⟨i+1,by omega,by go_num,by rw[bA];exact hJ,b2,rp,rq⟩
     case measure=>simp[RowKit.intOf];omega
  ·obtain rfl:i=la:=by omega
   gi_wp2
   go_end0
   exact⟨⟨_,rfl⟩,.inl ⟨_,rfl,hJ⟩⟩
theorem EZ {n:Nat} (hn:1≤n) (B1 B2:Nat) (p q:Option Addr) (la ca lb cb:Nat) (f g:Nat→T) (gf:∀i,i<la→(f i).m.ok=true) (gg:∀i,i<lb→(g i).m.ok=true) (w:World) (hb1:Boxed w B1 22 (.slice p la ca)) (hb2:Boxed w B2 22 (.slice q lb cb)) (hp:Rd w p la ca f) (hq:Rd w q lb cb g):SeqStopsK Fence.wide n Tryz.prog 148 #[.pointer (some ⟨B1,0,none⟩),.pointer (some ⟨B2,0,none⟩)] OZ cellsK (fun xs=>xs=bA f g lb la) (fun pre=>pre<+:bA f g lb la) (la*lb) w:=fun l J Jx W hW hJ _ hY h0=>
 SJ hn l B1 B2 p q la ca lb cb f g gf gg J Jx (fun pre W W' h hg=>hJ pre W W' none h hg (fun r e=>by cases e)) hY W ((hW.block B1 hb1.lt).trans hb1) ((hW.block B2 hb2.lt).trans hb2) (hp.below hW) (hq.below hW) h0
theorem CP {F:Fence} {n:Nat} (h7:F.fn 115) (hro:F.round=none) (p q:Option Addr) (la ca lb cb:Nat) (w:World):CallsIn F n Tryz.prog 115 #[.slice p la ca,.slice q lb cb] w fun e w'=>e= .returned (.func (.func 148) #[] #[.pointer (some ⟨w.heap.size,0,none⟩),.pointer (some ⟨w.heap.size+1,0,none⟩)])∧w'=(w.alloc (.cells #[.slice p la ca] 22)).alloc (.cells #[.slice q lb cb] 22):=by
 refine callsIn_of_wp Tryz.func115 rfl h7 ?_ hro;simp only[Tryz.ntmps115,List.size_toArray,List.length_cons,List.length_nil,Nat.reduceAdd,Nat.reduceSub,Array.replicate_succ,Array.replicate_zero,List.push_toArray,List.append_toArray,List.nil_append,List.cons_append]
 gi_wp2
 go_ret;exact⟨rfl,rfl⟩
end Go.Proofs.YtkcmamepoplcdaaGreatDoor
