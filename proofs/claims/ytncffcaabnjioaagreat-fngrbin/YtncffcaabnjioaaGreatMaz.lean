/-
  What is needed, and whether it ends: the program's panic and recover.
-/
import Derived.Test.YtncffcaabnjioaaGreatMau
import Derived.Shelf.Abstract
import Derived.Defers
import Derived.Recover
set_option maxHeartbeats 8000000
set_option maxRecDepth 100000
namespace Go.Proofs.YtncffcaabnjioaaGreat
open Go.RowKit Go.Deep Go.Joins
set_option linter.unusedVariables false
abbrev gW:Value:=.iface 117 (.agg #[])
theorem jG (v:Value) (w:World):Calls Tryz.prog 92 #[v,.bool true] w fun r w'=>r= .returned v∧w'=w:=by go_enter Tryz.func92,Tryz.ntmps92;go_wp2;go_ret;exact⟨rfl,rfl⟩
theorem gY (v:Value) (w:World):Calls Tryz.prog 92 #[v,.bool false] w fun r w'=>r= .panicked [{v:=gW,recovered:=false}]∧w'=w:=by go_enter Tryz.func92,Tryz.ntmps92;go_wp2;exact⟨rfl,rfl,rfl⟩
theorem SB (t:TypeId) (w:World):(Instr.typeAssert Value.nilIface t 117 true).run Tryz.prog w= .ok (.tuple #[.agg #[],.bool false]) w:=by kernel_rfl
theorem JQ (t:TypeId) (w:World):(Instr.typeAssert gW t 117 true).run Tryz.prog w= .ok (.tuple #[.agg #[],.bool true]) w:=by kernel_rfl
theorem PN (w:World):(binOp BinOp.neq 20 Value.nilIface Value.nilIface).run Tryz.prog w= .ok (.bool false) w:=by kernel_rfl
theorem IX (w:World):(binOp BinOp.neq 20 gW Value.nilIface).run Tryz.prog w= .ok (.bool true) w:=by kernel_rfl
theorem FE (w:World):CallsD Tryz.prog 88 #[] .returning w fun e u' w'=>e= .returned (.tuple #[])∧u'= .returning∧w'=w.alloc (.cells #[] 117):=by
 refine callsD_of_wpS Tryz.func88 rfl fun c₀ cs hu=>?_;apply wpS_seq;apply wpS_region;simp[wpOpsS,go_sem,recoverD,hu,Tryz.ntmps88,Exit.thenS];simp only[Array.replicate];refine wpS_of_wp ?_;have h1:=SB
 have h2:=JQ;have h3:=PN
 have h4:=IX;go_wp2;cases c₀
 simp_all [bodyPostS,results,Tryz.results88]
theorem zY (w:World):CallsD Tryz.prog 88 #[] (.panicking [{v:=gW,recovered:=false}]) w fun e u' w'=>e= .returned (.tuple #[])∧u'= .panicking [{v:=gW,recovered:=true}]∧w'=w.alloc (.cells #[] 117):=by
 refine callsD_of_wpS Tryz.func88 rfl fun c₀ cs hu=>?_;apply wpS_seq;apply wpS_region;simp[wpOpsS,go_sem,recoverD,hu,Tryz.ntmps88,Exit.thenS];simp only[Array.replicate];refine wpS_of_wp ?_;have h1:=SB
 have h2:=JQ;have h3:=PN
 have h4:=IX;go_wp2;cases c₀
 simp_all [bodyPostS,results,Tryz.results88]
theorem oW (g:Nat) (lb:Array Value) (w:World) (Q:World→Prop) (eg:∀args w,(callFunc g args).run Tryz.prog w= .ok (.enter g args) w) (h:Calls Tryz.prog g lb w fun r w'=>r= .returned (.tuple #[])∧Q w'):Calls Tryz.prog 42 #[.func (.func g) #[] lb] w fun r w'=>r= .returned (.bool true)∧∃w1,Q w1∧w'=w1.alloc (.cells #[] 117):=by
 have HC:=aA h;clear h
 go_enter_defers Tryz.func42,Tryz.ntmps42
 go_wp2_with fail;refine HC.out.mono ?_;rintro r w1 ⟨rfl,hq⟩;have HQ:=aA hq
 clear hq HC;go_wp2;refine leaves_cons (f:=88) (args:=#[]) (by simp) (by simp[go_sem]) ?_;refine(FE _).mono ?_;rintro e u' w'' ⟨rfl,rfl,rfl⟩;simp[Leaves,settle,results,Tryz.results42,go_sem];exact⟨w1,HQ.out,rfl⟩
theorem wZ (g:Nat) (lb:Array Value) (w:World) (Q:World→Prop) (eg:∀args w,(callFunc g args).run Tryz.prog w= .ok (.enter g args) w) (h:Calls Tryz.prog g lb w fun r w'=>r= .panicked [{v:=gW,recovered:=false}]∧Q w'):Calls Tryz.prog 42 #[.func (.func g) #[] lb] w fun r w'=>r= .returned (.bool false)∧∃w1,Q w1∧w'=w1.alloc (.cells #[] 117):=by
 have HC:=aA h;clear h
 go_enter_defers Tryz.func42,Tryz.ntmps42
 go_wp2_with fail;refine HC.out.mono ?_;rintro r w1 ⟨rfl,hq⟩;have HQ:=aA hq
 clear hq HC;go_wp2;refine leaves_cons (f:=88) (args:=#[]) (by simp) (by simp[go_sem]) ?_;refine(zY _).mono ?_;rintro e u' w'' ⟨rfl,rfl,rfl⟩;simp[Leaves,settle,results,Tryz.results42,go_sem];exact⟨w1,HQ.out,rfl⟩
end Go.Proofs.YtncffcaabnjioaaGreat
namespace Go.Proofs.YtncffcaabnjioaaGreat
open Go.RowKit
set_option linter.unusedVariables false
theorem ZM (u:Int) (u0:0≤u) (u1:u<11):∃x,#[Value.int .i64 1,.int .i64 2,.int .i64 3,.int .i64 1,.int .i64 2,.int .i64 3,.int .i64 1,.int .i64 2,.int .i64 3,.int .i64 0,.int .i64 4][u.toNat]? =some (.int .i64 x):=by
 have hu:u=0∨u=1∨u=2∨u=3∨u=4∨u=5∨u=6∨u=7∨u=8∨u=9∨u=10:=by omega
 rcases hu with rfl|rfl|rfl|rfl|rfl|rfl|rfl|rfl|rfl|rfl|rfl<;>exact⟨_,rfl⟩
theorem LT (w:World) (B p:Nat) (h:iU w B p) (hp:p≤90000):Calls Tryz.prog 75 #[.pointer (some ⟨B,0,none⟩)] w fun e w'=>∃x,e= .returned (.int .i64 x)∧iU w' B (p+1)∧aD B w w':=by
 have hB:=h.lt;go_enter Tryz.func75,Tryz.ntmps75;go_wp2_with fail;refine(aY _ B p 11 (h.alloc _) (by omega) (by omega) (by omega)).mono ?_;rintro e w1 ⟨j,rfl,j0,j1,hk⟩;obtain⟨x,hx⟩:=ZM j j0 j1;have hc:w1.cell? ⟨w.heap.size,j.toNat,none⟩=some (.int .i64 x):=by rw[hk.beside.cell (by simp) (by omega),World.cell?_alloc_at _ _ _ _ rfl];exact hx
 have hr:=hk.rdr (h.alloc _);have hb:=(cY B w _).trans hk.beside
 clear hk hx h;go_wp2;go_ret;exact⟨_,rfl,hr,hb⟩
theorem UW {pa:Option Addr} {m B N:Nat} (hblk:m=0∨∃g off,pa=some ⟨g,off,none⟩∧N≤g) (hB:B<N):m=0∨∀b off,pa=some ⟨b,off,none⟩→b≠B:=hblk.imp id (fun⟨g,off,he,hg⟩ b off' hb=>by rw[he]at hb;cases hb;omega)
open Go.RowKit Go.Deep Go.Joins
theorem JI (u:World) (N:Nat) (t:TypeId) (x0 x1 x2:Int) (hN:N≤u.heap.size):Sl (u.alloc (.cells #[.int .i64 x0,.int .i64 x1,.int .i64 x2] t)) N 3 (.slice (some ⟨u.heap.size,0,none⟩) 3 3):=by
 refine⟨u.heap.size,rfl,hN,fun i hi=>?_⟩;rw[World.cell?_alloc_at _ _ _ _ rfl];have h5:i=0∨i=1∨i=2:=by omega
 rcases h5 with rfl|rfl|rfl<;>exact⟨_,rfl⟩
def FJ (B N:Nat) (w:World) (v:Value):Nat→Prop
 |0=>v= .pointer (some ⟨B,0,none⟩)
 |1=>Pk 2 v
 |2=>Sl w N 3 v
 |3=>v= .pointer (some ⟨B,0,none⟩)
 |4=>Pk 3 v
 |5=>Ix w N v
 |6=>Ld v
 |7=>v= .pointer (some ⟨B,0,none⟩)
 |8=>Pk 3 v
 |9=>Ld v
 |10=>Sl w N 3 v
 |11=>v= .pointer (some ⟨B,0,none⟩)
 |12=>Pk 3 v
 |13=>Ix w N v
 |14=>Ld v
 |15=>Ag v
 |_=>True
theorem FJ.move {B N:Nat} {w w':World} {v:Value} {k:Nat} (h:FJ B N w v k) (hb:aD B w w') (hB:B<N):FJ B N w' v k:=by unfold FJ at h⊢;split at h<;>first|exact h|exact Sl.move h hb hB|exact Ix.move h hb hB
def MJ (F:(Nat→Value)→Act) (B p:Nat) (W:World) (N:Nat) (l:Array Bool) (a:Act) (u:World):Prop:=
 ∃(q:Nat) (vs:Nat→Value),a=F vs∧iU u B q∧q+fM l≤p+18∧aD B W u∧N≤u.heap.size∧l.size=18∧
  (l.getD 17 false=true→∀k,k<17→l.getD k false=true)∧(∀k,l.getD k false=true→l.getD 17 false=false→FJ B N u (vs k) k)∧(l.getD 16 false=true→Al u N (vs 16))
theorem MJ.step {F:(Nat→Value)→Act} {B p:Nat} {W:World} {N:Nat} {l:Array Bool} {u u':World} {q':Nat} {vs:Nat→Value} {i:Nat} {v:Value} (hB:B<N) (hR:iU u' B q') (hq:q'+fM (l.setIfInBounds i true)≤p+18) (hW:aD B W u) (hN:N≤u.heap.size) (hl:l.size=18) (h17:l.getD 17 false=false) (hi:i≠17) (hf:∀k,l.getD k false=true→l.getD 17 false=false→FJ B N u (vs k) k) (h16:l.getD 16 false=true→Al u N (vs 16)) (hm:aD B u u') (hv:FJ B N u' v i) (hv':i=16→Al u' N v) (a:Act) (ha:a=F (fun k=>if k=i then v else vs k)):MJ F B p W N (l.setIfInBounds i true) a u':=by
 refine⟨q',fun k=>if k=i then v else vs k,ha,hR,hq,hW.trans hm,jW hN hm.size,by simp[hl],?_,?_,?_⟩
 ·intro h;rw[getD_set_ne false hi,h17]at h;cases h
 ·intro k hk _;by_cases hki:k=i
  ·have hv2:FJ B N u' v k:=by rw[hki];exact hv
   exact Eq.mpr (congrArg (fun z=>FJ B N u' z k) (if_pos hki)) hv2
  ·rw[getD_set_ne false (fun e=>hki e.symm)]at hk;simp only[if_neg hki];exact(hf k hk h17).move hm hB
 ·intro hk;by_cases hki:16=i
  ·exact Eq.mpr (congrArg (fun z=>Al u' N z) (if_pos hki)) (hv' hki.symm)
  ·rw[getD_set_ne false (fun e=>hki e.symm)]at hk;simp only[if_neg hki];exact(h16 hk).move hm hB
abbrev G4 (g:Nat) (a0 a1 a2 a3:Int) (u:World):Prop:=u.cell? ⟨g,0,none⟩=some (.int .i64 a0)∧u.cell? ⟨g,1,none⟩=some (.int .i64 a1)∧u.cell? ⟨g,2,none⟩=some (.int .i64 a2)∧u.cell? ⟨g,3,none⟩=some (.int .i64 a3)
theorem G4.beside {g B:Nat} {a0 a1 a2 a3:Int} {u u':World} (h:G4 g a0 a1 a2 a3 u) (hb:aD B u u') (hg:g≠B):G4 g a0 a1 a2 a3 u':=
 have l:=cU u ⟨g,0,none⟩ h.1
 ⟨(hb.cell l hg).trans h.1,(hb.cell l hg).trans h.2.1,(hb.cell l hg).trans h.2.2.1,(hb.cell l hg).trans h.2.2.2⟩
theorem G4.below {g:Nat} {a0 a1 a2 a3:Int} {u u':World} (h:G4 g a0 a1 a2 a3 u) (hb:Below u.heap.size u u'):G4 g a0 a1 a2 a3 u':=
 have l:=cU u ⟨g,0,none⟩ h.1
 ⟨(hb.cell (p:=⟨g,0,none⟩) l).trans h.1,(hb.cell (p:=⟨g,1,none⟩) l).trans h.2.1,(hb.cell (p:=⟨g,2,none⟩) l).trans h.2.2.1,(hb.cell (p:=⟨g,3,none⟩) l).trans h.2.2.2⟩
def El (w:World) (lo:Nat) (g:Option Nat) (v:Value):Prop:=∃a n c f,v= .slice a n c∧Rd w a n c f∧n≤5∧(n=0∨∃b off,a=some ⟨b,off,none⟩∧lo≤b∧some b≠g)
theorem El.below {w w':World} {lo:Nat} {g:Option Nat} {v:Value} (h:El w lo g v) (hb:Below w.heap.size w w'):El w' lo g v:=by obtain⟨a,n,c,f,rfl,hr,hn,hx⟩:=h;exact⟨a,n,c,f,rfl,hr.below hb,hn,hx⟩
theorem El.beside {w w':World} {B lo:Nat} {g:Option Nat} {v:Value} (h:El w lo g v) (hb:aD B w w') (hB:B<lo):El w' lo g v:=by
 obtain⟨a,n,c,f,rfl,hr,hn,hx⟩:=h;refine⟨a,n,c,f,rfl,hr.beside hb ?_,hn,hx⟩;rcases hx with h0|⟨b,off,rfl,hlo,_⟩
 ·exact .inl h0
 ·exact .inr fun b' off' e=>by cases e;omega
theorem El.none {w:World} {lo:Nat} {g:Option Nat} {v:Value} (h:El w lo g v):El w lo none v:=by obtain⟨a,n,c,f,rfl,hr,hn,hx⟩:=h;exact⟨a,n,c,f,rfl,hr,hn,hx.imp id fun⟨b,off,e,hlo,_⟩=>⟨b,off,e,hlo,by simp⟩⟩
theorem El.grown {w w':World} {lo g H:Nat} {row:Option Nat} {v:Value} (h:El w lo row v) (hg:w.grownBy w' row) (hat:row=some g∨g=H) (hH:w.heap.size≤H):El w' lo (some g) v:=by
 obtain⟨a,n,c,f,rfl,hr,hn,hx⟩:=h;rcases hx with h0|⟨b,off,rfl,hlo,hne⟩
 ·exact⟨a,n,c,f,rfl,hr.grown hg (.inl h0),hn,.inl h0⟩
 ·by_cases h0:n=0
  ·exact⟨_,n,c,f,rfl,hr.grown hg (.inl h0),hn,.inl h0⟩
  refine⟨_,n,c,f,rfl,hr.grown hg (.inr fun b' off' e=>by cases e;exact hne),hn,.inr ⟨b,off,rfl,hlo,?_⟩⟩;have hlt:b<w.heap.size:=by
   rcases hr.2.2 with h1|⟨b',off',e,hl,_⟩
   ·exact absurd h1 h0
   ·cases e;exact hl
  rcases hat with e|e
  ·rw[←e];exact hne
  ·intro ee;have:b=g:=by simpa using ee
   omega
theorem XF:(Tryz.prog.info? 24).map (fun i=>(i.zero,i.size,i.bytes))=some (some (.slice none 0 0),1,24):=by kernel_rfl
theorem OZ (w:World) (B p:Nat) (most n:Int) (h:iU w B p) (m1:1≤most) (m2:most≤4) (hn:1≤n) (hn':n≤1000) (hp:p≤4000):Calls Tryz.prog 76 #[.pointer (some ⟨B,0,none⟩),.int .i64 most,.int .i64 n] w fun r w'=>∃(v:Value) (LS:List Value) (q:Nat),r= .returned v∧w'.ownsRow w.heap.size 24 1 v LS.length LS∧LS.length≤5∧(∀e∈LS,El w' w.heap.size v.ownBlock e)∧q≤p+1000∧iU w' B q∧aD B w w':=by
 have hB:=h.lt;obtain⟨tI,hi0,hz0,hz1,hz2⟩:=info_parts XF;have HR0:=aA (h.alloc (.cells #[] 24))
 have HB0:=aA ((aD.refl B w).alloc (.cells #[] 24));have HO0:Hid ((w.alloc (.cells #[] 24)).ownsRow w.heap.size 24 1 (.slice (some ⟨w.heap.size,0,none⟩) 0 0) 0 []):=World.ownsRow_lit _ _ _ (Nat.le_refl _) (gL _) rfl
 clear h;go_enter Tryz.func76,Tryz.ntmps76;go_wp2_with fail;generalize(w.alloc (.cells #[] 24))=W at *;refine(aY _ B p most HR0.out (by omega) (by omega) (by omega)).mono ?_;rintro e w1 ⟨k,rfl,k0,k1,hk⟩;have HR1:=aA (hk.rdr HR0.out)
 have HB1:=aA (HB0.out.trans hk.beside);have HO1:=aA (bK HO0.out hk.beside hB)
 clear hk HO0 HR0 HB0;go_wp2;go_loopw [7,8] (fun v i wr=>∃(j:Nat) (LS:List Value) (q:Nat),i= .int .i64 j∧LS.length+j≤4∧wr.ownsRow w.heap.size 24 1 v LS.length LS∧(∀e∈LS,El wr w.heap.size v.ownBlock e)∧q+50*j≤p+201∧iU wr B q∧aD B w wr) (fun _ i _=>(intOf i).toNat);case atStart=>exact⟨(1+k).toNat,[],p+1,by rw[Int.toNat_of_nonneg (by omega)],by simp;omega,HO1.out,(fun e he=>absurd he List.not_mem_nil),by omega,HR1.out,HB1.out⟩
 case round=>
  obtain⟨j,LS,q,rfl,hj,ho,hE,hq,hR,hb⟩:=hrel;by_cases hj0:0<j
  ·have hjb:(0:Int)<(j:Int):=by omega
   have HO:=aA ho;have HE:=aA hE
   have HR:=aA hR;have HB:=aA hb
   clear ho hE hR hb;have hwo:w.heap.size≤wr.heap.size:=HB.out.size
   have HR2:=aA (HR.out.alloc (.cells #[] 47));have HB2:=aA ((aD.refl B wr).alloc (.cells #[] 47))
   have HO2:Hid ((wr.alloc (.cells #[] 47)).ownsRow wr.heap.size 47 5 (.slice (some ⟨wr.heap.size,0,none⟩) 0 0) ([]:List T).length (aF [])):=cD wr wr.heap.size (Nat.le_refl _);generalize hwr:wr=wo at *;clear hwr wr;go_wp2_with fail;generalize(wo.alloc (.cells #[] 47))=w2 at *;refine(aY _ B q 2 HR2.out (by omega) (by omega) (by omega)).mono ?_;rintro e w3 ⟨i,rfl,i0,i1,hk⟩;have HR3:=aA (hk.rdr HR2.out)
   have HB3:=aA (HB2.out.trans hk.beside);have HO3:=aA (bK HO2.out hk.beside (by omega))
   clear hk HR2 HB2 HO2;go_wp2;go_loopw [9,10] (fun v2 ii wx=>∃(j2:Nat) (L:List T) (q2:Nat),ii= .int .i64 j2∧wx.ownsRow wo.heap.size 47 5 v2 L.length (aF L)∧L.length+j2≤2∧Hid (NC L)∧q2+20*j2≤q+41∧iU wx B q2∧aD B wo wx) (fun _ ii _=>(intOf ii).toNat);case atStart=>exact⟨(1+i).toNat,[],q+1,by rw[Int.toNat_of_nonneg (by omega)],HO3.out,by simp;omega,zW,by omega,HR3.out,HB3.out⟩
   case round=>
    obtain⟨j2,L,q2,rfl,ho2,hl2,hc2,hq2,hR2,hb2⟩:=hrel;have HX:=aA hb2
    have HRx:=aA hR2;have HOx:=aA ho2
    clear hR2 hb2 ho2;by_cases hj2:0<j2
    ·have hjb2:(0:Int)<(j2:Int):=by omega
     go_wp2_with fail;obtain⟨N,hNe⟩:∃N,wr.heap.size=N:=⟨_,rfl⟩
     have hBN:B<N:=by have:=HX.out.size;omega
     refine Code.wp_mono (Q:=fun e a u=>e=Exit.normal∧∃(q:Nat) (vs:Nat→Value),a={tmps:=#[Value.pointer (some ⟨B,0,none⟩),Value.int IntKind.i64 most,Value.int IntKind.i64 n,undef,undef,undef,Value.slice none 0 0,u7,Value.int IntKind.i64 (j:Int),u9,Value.int IntKind.i64 (j2:Int),vs 16,Value.slice (some ⟨w.heap.size,0,none⟩) 0 0,Value.pointer (some ⟨B,0,none⟩),Value.int IntKind.i64 most,Value.int IntKind.i64 k,Value.int IntKind.i64 (1+k),Value.int IntKind.i64 (j:Int),Value.bool true,u19,u20,Value.slice (some ⟨wo.heap.size,0,none⟩) 0 0,Value.pointer (some ⟨B,0,none⟩),Value.int IntKind.i64 i,Value.int IntKind.i64 (1+i),Value.int IntKind.i64 (j2:Int),Value.bool true,u27,u28,vs 0,vs 1,vs 2,vs 3,vs 4,vs 5,vs 6,vs 7,vs 8,vs 9,vs 10,vs 11,vs 12,vs 13,vs 14,vs 15,u45,u46,u47,u48,u49,u50,u51,u52,u53,u54,u55,u56,u57,u58,u59,u60,u61,undef,undef,undef,undef,undef,undef,undef,undef,undef,undef],defers:=[]}∧iU u B q∧q≤q2+18∧aD B wr u∧Al u N (vs 16)) ?_ ?_;rotate_left
     ·refine mC (I:=MJ (fun vs:Nat→Value=>({tmps:=#[Value.pointer (some ⟨B,0,none⟩),Value.int IntKind.i64 most,Value.int IntKind.i64 n,undef,undef,undef,Value.slice none 0 0,u7,Value.int IntKind.i64 (j:Int),u9,Value.int IntKind.i64 (j2:Int),vs 16,Value.slice (some ⟨w.heap.size,0,none⟩) 0 0,Value.pointer (some ⟨B,0,none⟩),Value.int IntKind.i64 most,Value.int IntKind.i64 k,Value.int IntKind.i64 (1+k),Value.int IntKind.i64 (j:Int),Value.bool true,u19,u20,Value.slice (some ⟨wo.heap.size,0,none⟩) 0 0,Value.pointer (some ⟨B,0,none⟩),Value.int IntKind.i64 i,Value.int IntKind.i64 (1+i),Value.int IntKind.i64 (j2:Int),Value.bool true,u27,u28,vs 0,vs 1,vs 2,vs 3,vs 4,vs 5,vs 6,vs 7,vs 8,vs 9,vs 10,vs 11,vs 12,vs 13,vs 14,vs 15,u45,u46,u47,u48,u49,u50,u51,u52,u53,u54,u55,u56,u57,u58,u59,u60,u61,undef,undef,undef,undef,undef,undef,undef,undef,undef,undef],defers:=[]}:Act)) B q2 wr N) (by kernel_rfl) ?_ ?_ ?_
      ·refine⟨q2,(fun k=>#[u29,u30,u31,u32,u33,u34,u35,u36,u37,u38,u39,u40,u41,u42,u43,u44,u11].getD k undef),rfl,HRx.out.drewN 1,?_,(aD.refl B wr).drewN 1,by simp[hNe],by simp,?_,?_,?_⟩
       ·rw[dU];exact Nat.le_refl _
       ·intro h;rw[jH]at h;cases h
       ·intro k h;rw[jH]at h;cases h
       ·intro h;rw[jH]at h;cases h
      ·intro l a u hI i hi;obtain⟨q,vs,rfl,hR,hq,hBs,hN,hsz,hc,hf,h16⟩:=hI;have hl0:=(mem_ready.1 hi).1
       have hund:=fO (bA hl0);have hi18:i<18:=by obtain⟨_,o,ho,_⟩:=mem_ready.1 hi;exact(Array.getElem?_eq_some_iff.1 ho).1
       have h17:i≠17→l.getD 17 false=false:=fun hne=>by
        cases hx:l.getD 17 false
        ·rfl
        ·have:=hc hx i (by omega);rw[Array.getD_eq_getD_getElem?,bA hl0]at this;simp at this
       rcases(show i=0∨i=1∨i=2∨i=3∨i=4∨i=5∨i=6∨i=7∨i=8∨i=9∨i=10∨i=11∨i=12∨i=13∨i=14∨i=15∨i=16∨i=17 from by omega)with rfl|rfl|rfl|rfl|rfl|rfl|rfl|rfl|rfl|rfl|rfl|rfl|rfl|rfl|rfl|rfl|rfl|rfl
       ·have h17:=h17 (by decide);refine wpOp_step rfl (fun K hK=>?_);go_simp;refine hK _ _ ?_;exact MJ.step (i:=0) (v:=.pointer (some ⟨B,0,none⟩)) hBN hR (by omega) hBs hN hsz h17 (by decide) hf h16 (aD.refl B u) rfl (fun e=>by cases e) _ rfl
       ·have h17:=h17 (by decide);have e1:vs 0= .pointer (some ⟨B,0,none⟩):=hf 0 (aG hi rfl 0 (by kernel_rfl)) h17
        refine wpOp_step rfl (fun K hK=>?_);go_simp;refine(aY u B q 2 hR (by omega) (by omega) (by omega)).mono ?_;rintro e u' ⟨x,rfl,x0,x1,hk⟩;refine hK _ _ ?_;exact MJ.step (i:=1) (v:=.int .i64 x) hBN (hk.rdr hR) (by omega) hBs hN hsz h17 (by decide) hf h16 hk.beside ⟨x.toNat,by omega,by rw[Int.toNat_of_nonneg x0]⟩ (fun e=>by cases e) _ (by first|(rw[←e1];done)|(rw[←e1];rfl))
       ·have h17:=h17 (by decide);refine wpOp_step rfl (fun K hK=>?_);go_simp;refine hK _ _ ?_;exact MJ.step (i:=2) (v:=.slice (some ⟨u.heap.size,0,none⟩) 3 3) hBN (hR.alloc _) (by omega) hBs hN hsz h17 (by decide) hf h16 (cY B u _) (JI u _ _ _ _ _ hN) (fun e=>by cases e) _ rfl
       ·have h17:=h17 (by decide);refine wpOp_step rfl (fun K hK=>?_);go_simp;refine hK _ _ ?_;exact MJ.step (i:=3) (v:=.pointer (some ⟨B,0,none⟩)) hBN hR (by omega) hBs hN hsz h17 (by decide) hf h16 (aD.refl B u) rfl (fun e=>by cases e) _ rfl
       ·have h17:=h17 (by decide);have e1:vs 3= .pointer (some ⟨B,0,none⟩):=hf 3 (aG hi rfl 3 (by kernel_rfl)) h17
        refine wpOp_step rfl (fun K hK=>?_);go_simp;refine(aY u B q 3 hR (by omega) (by omega) (by omega)).mono ?_;rintro e u' ⟨x,rfl,x0,x1,hk⟩;refine hK _ _ ?_;exact MJ.step (i:=4) (v:=.int .i64 x) hBN (hk.rdr hR) (by omega) hBs hN hsz h17 (by decide) hf h16 hk.beside ⟨x.toNat,by omega,by rw[Int.toNat_of_nonneg x0]⟩ (fun e=>by cases e) _ (by first|(rw[←e1];done)|(rw[←e1];rfl))
       ·have h17:=h17 (by decide);obtain⟨b,e1,hb,hcb⟩:Sl u N 3 (vs 2):=hf 2 (aG hi rfl 2 (by kernel_rfl)) h17;obtain⟨jj,hj,e2⟩:Pk 3 (vs 4):=hf 4 (aG hi rfl 4 (by kernel_rfl)) h17;obtain⟨x,hx⟩:=hcb jj hj;have hji:(jj:Int)<3:=by omega
        clear hcb;refine wpOp_step rfl (fun K hK=>?_);go_simp;refine hK _ _ ?_;exact MJ.step (i:=5) (v:=.pointer (some ⟨b,jj,none⟩)) hBN hR (by omega) hBs hN hsz h17 (by decide) hf h16 (aD.refl B u) ⟨b,jj,x,rfl,hb,hx⟩ (fun e=>by cases e) _ (by first|(rw[←e1,←e2];done)|(rw[←e1,←e2];rfl))
       ·have h17:=h17 (by decide);obtain⟨b,jj,x,e1,hb,hx⟩:Ix u N (vs 5):=hf 5 (aG hi rfl 5 (by kernel_rfl)) h17;refine wpOp_step rfl (fun K hK=>?_);go_simp;refine hK _ _ ?_;exact MJ.step (i:=6) (v:=.int .i64 x) hBN hR (by omega) hBs hN hsz h17 (by decide) hf h16 (aD.refl B u) ⟨x,rfl⟩ (fun e=>by cases e) _ (by first|(rw[←e1];done)|(rw[←e1];rfl))
       ·have h17:=h17 (by decide);refine wpOp_step rfl (fun K hK=>?_);go_simp;refine hK _ _ ?_;exact MJ.step (i:=7) (v:=.pointer (some ⟨B,0,none⟩)) hBN hR (by omega) hBs hN hsz h17 (by decide) hf h16 (aD.refl B u) rfl (fun e=>by cases e) _ rfl
       ·have h17:=h17 (by decide);have e1:vs 7= .pointer (some ⟨B,0,none⟩):=hf 7 (aG hi rfl 7 (by kernel_rfl)) h17
        refine wpOp_step rfl (fun K hK=>?_);go_simp;refine(aY u B q 3 hR (by omega) (by omega) (by omega)).mono ?_;rintro e u' ⟨x,rfl,x0,x1,hk⟩;refine hK _ _ ?_;exact MJ.step (i:=8) (v:=.int .i64 x) hBN (hk.rdr hR) (by omega) hBs hN hsz h17 (by decide) hf h16 hk.beside ⟨x.toNat,by omega,by rw[Int.toNat_of_nonneg x0]⟩ (fun e=>by cases e) _ (by first|(rw[←e1];done)|(rw[←e1];rfl))
       ·have h17:=h17 (by decide);obtain⟨jj,hj,e1⟩:Pk 3 (vs 8):=hf 8 (aG hi rfl 8 (by kernel_rfl)) h17;refine wpOp_step rfl (fun K hK=>?_);go_simp;refine hK _ _ ?_;exact MJ.step (i:=9) (v:=.int .i64 ((jj:Int).tmod 2)) hBN hR (by omega) hBs hN hsz h17 (by decide) hf h16 (aD.refl B u) ⟨_,rfl⟩ (fun e=>by cases e) _ (by first|(rw[←e1];done)|(rw[←e1];rfl))
       ·have h17:=h17 (by decide);refine wpOp_step rfl (fun K hK=>?_);go_simp;refine hK _ _ ?_;exact MJ.step (i:=10) (v:=.slice (some ⟨u.heap.size,0,none⟩) 3 3) hBN (hR.alloc _) (by omega) hBs hN hsz h17 (by decide) hf h16 (cY B u _) (JI u _ _ _ _ _ hN) (fun e=>by cases e) _ rfl
       ·have h17:=h17 (by decide);refine wpOp_step rfl (fun K hK=>?_);go_simp;refine hK _ _ ?_;exact MJ.step (i:=11) (v:=.pointer (some ⟨B,0,none⟩)) hBN hR (by omega) hBs hN hsz h17 (by decide) hf h16 (aD.refl B u) rfl (fun e=>by cases e) _ rfl
       ·have h17:=h17 (by decide);have e1:vs 11= .pointer (some ⟨B,0,none⟩):=hf 11 (aG hi rfl 11 (by kernel_rfl)) h17
        refine wpOp_step rfl (fun K hK=>?_);go_simp;refine(aY u B q 3 hR (by omega) (by omega) (by omega)).mono ?_;rintro e u' ⟨x,rfl,x0,x1,hk⟩;refine hK _ _ ?_;exact MJ.step (i:=12) (v:=.int .i64 x) hBN (hk.rdr hR) (by omega) hBs hN hsz h17 (by decide) hf h16 hk.beside ⟨x.toNat,by omega,by rw[Int.toNat_of_nonneg x0]⟩ (fun e=>by cases e) _ (by first|(rw[←e1];done)|(rw[←e1];rfl))
       ·have h17:=h17 (by decide);obtain⟨b,e1,hb,hcb⟩:Sl u N 3 (vs 10):=hf 10 (aG hi rfl 10 (by kernel_rfl)) h17;obtain⟨jj,hj,e2⟩:Pk 3 (vs 12):=hf 12 (aG hi rfl 12 (by kernel_rfl)) h17;obtain⟨x,hx⟩:=hcb jj hj;have hji:(jj:Int)<3:=by omega
        clear hcb;refine wpOp_step rfl (fun K hK=>?_);go_simp;refine hK _ _ ?_;exact MJ.step (i:=13) (v:=.pointer (some ⟨b,jj,none⟩)) hBN hR (by omega) hBs hN hsz h17 (by decide) hf h16 (aD.refl B u) ⟨b,jj,x,rfl,hb,hx⟩ (fun e=>by cases e) _ (by first|(rw[←e1,←e2];done)|(rw[←e1,←e2];rfl))
       ·have h17:=h17 (by decide);obtain⟨b,jj,x,e1,hb,hx⟩:Ix u N (vs 13):=hf 13 (aG hi rfl 13 (by kernel_rfl)) h17;refine wpOp_step rfl (fun K hK=>?_);go_simp;refine hK _ _ ?_;exact MJ.step (i:=14) (v:=.int .i64 x) hBN hR (by omega) hBs hN hsz h17 (by decide) hf h16 (aD.refl B u) ⟨x,rfl⟩ (fun e=>by cases e) _ (by first|(rw[←e1];done)|(rw[←e1];rfl))
       ·have h17:=h17 (by decide);obtain⟨jj,hj,e0⟩:Pk 2 (vs 1):=hf 1 (aG hi rfl 1 (by kernel_rfl)) h17;obtain⟨x1,e1⟩:Ld (vs 6):=hf 6 (aG hi rfl 6 (by kernel_rfl)) h17;obtain⟨x2,e2⟩:Ld (vs 9):=hf 9 (aG hi rfl 9 (by kernel_rfl)) h17;obtain⟨x3,e3⟩:Ld (vs 14):=hf 14 (aG hi rfl 14 (by kernel_rfl)) h17;refine wpOp_step rfl (fun K hK=>?_);go_simp;refine hK _ _ ?_;exact MJ.step (i:=15) (v:=.agg #[.int .i64 (jj:Int),.int .i64 x1,.int .i64 x2,.int .i64 x3]) hBN hR (by omega) hBs hN hsz h17 (by decide) hf h16 (aD.refl B u) ⟨_,x1,x2,x3,rfl⟩ (fun e=>by cases e) _ (by first|(rw[←e0,←e1,←e2,←e3];done)|(rw[←e0,←e1,←e2,←e3];rfl))
       ·have h17:=h17 (by decide);refine wpOp_step rfl (fun K hK=>?_);go_simp;refine hK _ _ ?_;exact MJ.step (i:=16) (v:=.pointer (some ⟨u.heap.size,0,none⟩)) hBN (hR.alloc _) (by omega) hBs hN hsz h17 (by decide) hf h16 (cY B u _) trivial (fun _=>NN u _ _ _ _ _ _ hN) _ rfl
       ·have h17f:l.getD 17 false=false:=by rw[Array.getD_eq_getD_getElem?,bA hl0];rfl
        have hall:∀k,k<17→l.getD k false=true:=fun k hk=>by
         have h5:k=0∨k=1∨k=2∨k=3∨k=4∨k=5∨k=6∨k=7∨k=8∨k=9∨k=10∨k=11∨k=12∨k=13∨k=14∨k=15∨k=16:=by omega
         rcases h5 with rfl|rfl|rfl|rfl|rfl|rfl|rfl|rfl|rfl|rfl|rfl|rfl|rfl|rfl|rfl|rfl|rfl<;>exact aG hi rfl _ (by kernel_rfl)
        obtain⟨x0,x1,x2,x3,e20⟩:Ag (vs 15):=hf 15 (hall 15 (by omega)) h17f;obtain⟨g,e21,hgN,hgs,hgc,hgf⟩:Al u N (vs 16):=h16 (hall 16 (by omega));obtain⟨y0,c0⟩:=hgc 0 (by omega);obtain⟨y1,c1⟩:=hgc 1 (by omega);obtain⟨y2,c2⟩:=hgc 2 (by omega);obtain⟨y3,c3⟩:=hgc 3 (by omega);have f0:=hgf 0
        have f1:=hgf 1;have f2:=hgf 2
        have f3:=hgf 3;refine wpOp_step rfl (fun K hK=>?_);have hAl:Al ((((u.setCell ⟨g,0,none⟩ (.int .i64 x0)).setCell ⟨g,1,none⟩ (.int .i64 x1)).setCell ⟨g,2,none⟩ (.int .i64 x2)).setCell ⟨g,3,none⟩ (.int .i64 x3)) N (vs 16):=by
         refine⟨g,e21,hgN,by simpa[World.setCell]using hgs,fun i hi=>?_,fun i=>?_⟩
         ·have h5:i=0∨i=1∨i=2∨i=3:=by omega
          rcases h5 with rfl|rfl|rfl|rfl
          ·exact⟨x0,by go_simp⟩
          ·exact⟨x1,by go_simp⟩
          ·exact⟨x2,by go_simp⟩
          ·exact⟨x3,by go_simp⟩
         ·simp only[World.frozen?_setCell];exact hgf i
        have hRn:=(((hR.set (b:=g) (o:=0) (v:=.int .i64 x0) (by omega)).set (b:=g) (o:=1) (v:=.int .i64 x1) (by omega)).set (b:=g) (o:=2) (v:=.int .i64 x2) (by omega)).set (b:=g) (o:=3) (v:=.int .i64 x3) (by omega);have hBn:=(((hBs.set (b:=g) (o:=0) (v:=.int .i64 x0) (by omega)).set (b:=g) (o:=1) (v:=.int .i64 x1) (by omega)).set (b:=g) (o:=2) (v:=.int .i64 x2) (by omega)).set (b:=g) (o:=3) (v:=.int .i64 x3) (by omega)
        clear hgc hgf hf h16;go_simp;refine hK _ _ ?_;refine⟨q,vs,by dsimp only;rw[e20,e21],hRn,by omega,hBn,by simpa[World.setCell]using hN,by simp[hsz],fun _ k hk=>?_,fun k _ hk=>?_,fun _=>hAl⟩
        ·rw[getD_set_ne false (by omega)];exact hall k hk
        ·rw[jB false (by omega)]at hk;cases hk
      ·intro l a u hI hr;obtain⟨q,vs,rfl,hR,hq,hBs,hN,hsz,hc,hf,h16⟩:=hI;refine⟨rfl,q,vs,rfl,hR,by omega,hBs,h16 ?_⟩;cases hx:l.getD 16 false
       ·exfalso;rw[List.eq_nil_iff_forall_not_mem]at hr;refine hr 16 (mem_ready.2 ⟨?_,_,rfl,?_⟩)
        ·rw[Array.getD_eq_getD_getElem?]at hx⊢;rw[Array.getElem?_eq_getElem (by omega)]at hx⊢;simpa using hx
        ·intro e he;have he2:e∈([]:List _):=Array.mem_def.1 he
         cases he2
       ·rfl
     rintro e a u ⟨rfl,q3,vs,rfl,hR3,hq3,hBs,hal⟩;obtain⟨g,e16,hgN,hg4⟩:=CE hal;rw[e16];have HR4:=aA hR3
     have HB4:=aA hBs;have HG4:=aA hg4
     have hwx:wo.heap.size≤g:=by have:=HX.out.size;omega
     clear hR3 hBs hal hg4 e16;go_wp2_with fail;refine(aY u B q3 4 HR4.out (by omega) (by omega) (by omega)).mono ?_;rintro e w5 ⟨x,rfl,x0,x1,hk⟩;have HR5:=aA (hk.rdr HR4.out)
     have HB5:=aA (HB4.out.trans hk.beside);have HG5:=aA (HG4.out.move hk.beside (by omega))
     clear hk HR4 HB4 HG4;obtain⟨⟨a0,a1,a2,a3,c0,c1,c2,c3⟩,f0,f1,f2,f3⟩:=HG5.out;by_cases hx:x=0
     ·subst hx;have hS6:G4 g a0 a1 2 a3 (w5.setCell ⟨g,2,none⟩ (.int .i64 2)):=⟨by go_simp,by go_simp,by go_simp,by go_simp⟩
      have HR6:=aA (HR5.out.set (b:=g) (o:=2) (v:=.int .i64 2) (by omega));have HBx6:=aA (HB5.out.set (b:=g) (o:=2) (v:=.int .i64 2) (by omega))
      go_wp2_with fail;clear c0 c1 c2 c3 f0 f1 f2 f3 HG5;generalize(w5.setCell ⟨g,2,none⟩ (.int .i64 2))=w6 at *;have hSd:G4 g a0 a1 2 a3 w6.drew:=hS6
      have HRd:Hid (iU w6.drew B (q3+1)):=HR6.out.drewN 1;have HBd:Hid (aD B wr w6.drew):=HBx6.out.drewN 1
      have hgB:g≠B:=by omega
      go_region_held3 (fun u=>u.cell? ⟨g,0,none⟩=some (.int .i64 a0)∧u.cell? ⟨g,1,none⟩=some (.int .i64 a1)∧u.cell? ⟨g,2,none⟩=some (.int .i64 2)∧u.cell? ⟨g,3,none⟩=some (.int .i64 a3)) (first|with_reducible exact hSd|with_reducible exact G4.beside hSd hk.beside hgB|with_reducible exact G4.below (G4.beside hSd hk.beside hgB) hb8) (first|(go_at_call 37;(with_reducible refine(aY _ B _ 100 HRd.out (by omega) (by omega) (by omega)).mono ?_);rintro e w7 ⟨c,rfl,c0,c1,hk⟩;have hb7:aD B wr w7:=(HBd.out.trans hk.beside);have ho7:=bK HOx.out hb7 (by omega);have hs7:wo.heap.size≤w7.heap.size:=(HX.out.trans hb7).size;have hw1:IntKind.i64.wrap (1+c)=1+c:=(by rw[IntKind.wrap_i64];omega))|(go_at_call 121;(with_reducible refine(AF w7 wo.heap.size u9 L (1+c) a0 a1 2 a3 ho7 hs7 (by omega) hc2.out (by omega) (by omega)).mono ?_);rintro e w8 ⟨v8,rfl,hb8,ho8⟩))
      have HR8:=aA ((hk.rdr HRd.out).beside (eE hb8));have HB8:=aA (HX.out.trans (hb7.trans (eE hb8)))
      have HO8:=aA ho8;have HC8:=aA (GA (c:=1+c) (m:=⟨a0,a1,2,a3⟩) hc2.out (by omega) (by omega))
      have hl8:=sK (1+c) ⟨a0,a1,2,a3⟩ L;clear hk hb8 ho8 hSd hb7 ho7;go_wp2;go_roundw;case rel=>exact⟨j2-1,jD (1+c) ⟨a0,a1,2,a3⟩ L,_,by first|go_num|(congr 1;omega),HO8.out,by omega,HC8.out,by omega,HR8.out,HB8.out⟩
      case measure=>simp[intOf];omega
     ·have hxb:(x==0)=false:=by simp[hx]
      have hS6:G4 g a0 a1 a2 a3 w5:=⟨c0,c1,c2,c3⟩
      have HR6:=HR5;have HBx6:=HB5
      clear c0 c1 c2 c3 f0 f1 f2 f3 HG5 hx;go_wp2_with fail;generalize w5=w6 at *;have hSd:G4 g a0 a1 a2 a3 w6.drew:=hS6
      have HRd:Hid (iU w6.drew B (q3+1)):=HR6.out.drewN 1;have HBd:Hid (aD B wr w6.drew):=HBx6.out.drewN 1
      have hgB:g≠B:=by omega
      go_region_held3 (fun u=>u.cell? ⟨g,0,none⟩=some (.int .i64 a0)∧u.cell? ⟨g,1,none⟩=some (.int .i64 a1)∧u.cell? ⟨g,2,none⟩=some (.int .i64 a2)∧u.cell? ⟨g,3,none⟩=some (.int .i64 a3)) (first|with_reducible exact hSd|with_reducible exact G4.beside hSd hk.beside hgB|with_reducible exact G4.below (G4.beside hSd hk.beside hgB) hb8) (first|(go_at_call 37;(with_reducible refine(aY _ B _ 100 HRd.out (by omega) (by omega) (by omega)).mono ?_);rintro e w7 ⟨c,rfl,c0,c1,hk⟩;have hb7:aD B wr w7:=(HBd.out.trans hk.beside);have ho7:=bK HOx.out hb7 (by omega);have hs7:wo.heap.size≤w7.heap.size:=(HX.out.trans hb7).size;have hw1:IntKind.i64.wrap (1+c)=1+c:=(by rw[IntKind.wrap_i64];omega))|(go_at_call 121;(with_reducible refine(AF w7 wo.heap.size u9 L (1+c) a0 a1 a2 a3 ho7 hs7 (by omega) hc2.out (by omega) (by omega)).mono ?_);rintro e w8 ⟨v8,rfl,hb8,ho8⟩))
      have HR8:=aA ((hk.rdr HRd.out).beside (eE hb8));have HB8:=aA (HX.out.trans (hb7.trans (eE hb8)))
      have HO8:=aA ho8;have HC8:=aA (GA (c:=1+c) (m:=⟨a0,a1,a2,a3⟩) hc2.out (by omega) (by omega))
      have hl8:=sK (1+c) ⟨a0,a1,a2,a3⟩ L;clear hk hb8 ho8 hSd hb7 ho7;go_wp2;go_roundw;case rel=>exact⟨j2-1,jD (1+c) ⟨a0,a1,a2,a3⟩ L,_,by first|go_num|(congr 1;omega),HO8.out,by omega,HC8.out,by omega,HR8.out,HB8.out⟩
      case measure=>simp[intOf];omega
    ·obtain rfl:j2=0:=by omega
     have hnj:¬(0:Int)<((0:Nat):Int):=by omega
     obtain⟨pa,pcap,hv9,hout⟩:=aH HOx.out (by omega);subst hv9;have hOw:=bK HO.out HX.out hB
     have hEw:∀e∈LS,El wr w.heap.size u7.ownBlock e:=fun e he=>(HE.out e he).beside HX.out hB;have hElt:∀kk,u7.ownBlock=some kk→kk<wo.heap.size:=fun kk hkk=>(HO.out.lt kk hkk).2
     have hBw:=HB.out.trans HX.out;have hwx:wo.heap.size≤wr.heap.size:=HX.out.size
     by_cases hL:0<L.length
     ·have hLb:(0:Int)<(L.length:Int):=by omega
      have hP:El wr w.heap.size u7.ownBlock (.slice pa L.length pcap):=⟨pa,L.length,pcap,lf L,rfl,hout.1,by omega,hout.2.2.imp id fun⟨b,off,e,hlo⟩=>⟨b,off,e,by omega,fun ee=>by have:=hElt b ee.symm;omega⟩⟩
      have hnew:=heap_alloc_new wr (.cells #[.slice pa L.length pcap] 24);have HN:=aA hnew
      have hO5:=hOw.alloc (.cells #[.slice pa L.length pcap] 24);have HE5:Hid (∀e∈LS++[.slice pa L.length pcap],El (wr.alloc (.cells #[.slice pa L.length pcap] 24)) w.heap.size u7.ownBlock e):=fun e he=>by
       rcases List.mem_append.1 he with h|h
       ·exact(hEw e h).below (aC _ _)
       ·have:e= .slice pa L.length pcap:=by simpa using h
        subst this;exact hP.below (aC _ _)
      have HR5:=aA (HRx.out.alloc (.cells #[.slice pa L.length pcap] 24));have HB5:=aA (hBw.alloc (.cells #[.slice pa L.length pcap] 24))
      have HLt:Hid (∀kk,u7.ownBlock=some kk→w.heap.size≤kk):=fun kk hkk=>(HO.out.lt kk hkk).1;have hnews:∀jj u,[Value.slice pa L.length pcap][jj]? =some u→(wr.alloc (.cells #[.slice pa L.length pcap] 24)).cell? ((⟨wr.heap.size,0,none⟩:Addr).add jj)=some u:=World.news_of_block HN.out
      have hone:∀u∈[Value.slice pa L.length pcap],u.oneCell'=true:=fun u hu=>by
       have:u= .slice pa L.length pcap:=by simpa using hu
       subst this;rfl
      have hbase:w.heap.size≤(wr.alloc (.cells #[.slice pa L.length pcap] 24)).heap.size:=by simp;omega
      have hmax:LS.length+1≤maxLen:=by unfold maxLen;omega
      clear hP hEw hElt hnew hOw hout;go_wp2_with (at_builtin;refine wpList_append_lies _ rfl (.tmp 58) (.tmp 60) 23 rfl w.heap.size 24 tI _ 1 24 Tryz.underlying23 hi0 hz0 hz1 hz2 rfl (by omega) _ LS.length LS rfl hO5 ⟨wr.heap.size,0,none⟩ 1 1 [.slice pa L.length pcap] rfl rfl hnews hone (by omega) hmax (by omega) hbase _ rfl ?_;intro g0 cap0 w5 hown1 hgrow hat hlt1);have HO6:=aA hown1
      have HR6:=aA (HR5.out.grown hgrow (fun kk hkk=>by have:=HLt.out kk hkk;omega));have HB6:=aA (HB5.out.grown hgrow HLt.out)
      have HE6:Hid (∀e∈LS++[.slice pa L.length pcap],El w5 w.heap.size (some g0) e):=fun e he=>(HE5.out e he).grown hgrow hat (Nat.le_refl _);go_roundw;case rel=>exact⟨j-1,LS++[.slice pa L.length pcap],q2,by first|go_num|(congr 1;omega),by simp;omega,by rw[List.length_append];exact HO6.out,HE6.out,by omega,HR6.out,HB6.out⟩
      case measure=>simp[intOf];omega
     ·have hLb:¬(0:Int)<(L.length:Int):=by omega
      have HOw:=aA hOw;have HEw:=aA hEw
      have HBw:=aA hBw;clear hOw hEw hBw hElt hout;go_wp2;go_roundw;case rel=>exact⟨j-1,LS,q2,by first|go_num|(congr 1;omega),by omega,HOw.out,HEw.out,by omega,HRx.out,HBw.out⟩
      case measure=>simp[intOf];omega
  ·obtain rfl:j=0:=by omega
   have hnj:¬(0:Int)<((0:Nat):Int):=by omega
   have HO:=aA ho;have HE:=aA hE
   have HR:=aA hR;have HB:=aA hb
   have hwo:w.heap.size≤wr.heap.size:=hb.size;clear ho hE hR hb;go_wp2_with fail;refine(aY wr B q n HR.out (by omega) (by omega) (by omega)).mono ?_;rintro e w5 ⟨x,rfl,x0,x1,hk⟩;have HR5:=aA (hk.rdr HR.out)
   have HB5:=aA (HB.out.trans hk.beside);have HO5:=aA (bK HO.out hk.beside hB)
   have HE5:Hid (∀e∈LS,El w5 w.heap.size u7.ownBlock e):=fun e he=>(HE.out e he).beside hk.beside hB;have hw5:w.heap.size≤w5.heap.size:=HB5.out.size
   clear hk HO HE HR HB;by_cases hx:x=0
   ·subst hx;go_wp2_with fail;refine(uZ w5 B _ 1 HR5.out (by omega) (by omega) (by omega)).mono ?_;rintro e w6 ⟨pa,m,pcap,fa,q6,rfl,hrd,hm5,hblk,hq6,hR6,hb6⟩;have hOw:=bK HO5.out hb6 hB
    have hElt:∀kk,u7.ownBlock=some kk→kk<w5.heap.size:=fun kk hkk=>(HO5.out.lt kk hkk).2;have hP:El w6 w.heap.size u7.ownBlock (.slice pa m pcap):=⟨pa,m,pcap,fa,rfl,hrd,hm5,hblk.imp id fun⟨b,off,e,hlo⟩=>⟨b,off,e,by omega,fun ee=>by have:=hElt b ee.symm;omega⟩⟩
    have hnew:=heap_alloc_new w6 (.cells #[.slice pa m pcap] 24);have hO7:=hOw.alloc (.cells #[.slice pa m pcap] 24)
    have HE7:Hid (∀e∈LS++[.slice pa m pcap],El (w6.alloc (.cells #[.slice pa m pcap] 24)) w.heap.size u7.ownBlock e):=fun e he=>by
     rcases List.mem_append.1 he with h|h
     ·exact((HE5.out e h).beside hb6 hB).below (aC _ _)
     ·have:e= .slice pa m pcap:=by simpa using h
      subst this;exact hP.below (aC _ _)
    have HR7:=aA (hR6.alloc (.cells #[.slice pa m pcap] 24));have HB7:=aA ((HB5.out.trans hb6).alloc (.cells #[.slice pa m pcap] 24))
    have HLt:Hid (∀kk,u7.ownBlock=some kk→w.heap.size≤kk):=fun kk hkk=>(HO5.out.lt kk hkk).1;have hnews:∀jj u,[Value.slice pa m pcap][jj]? =some u→(w6.alloc (.cells #[.slice pa m pcap] 24)).cell? ((⟨w6.heap.size,0,none⟩:Addr).add jj)=some u:=World.news_of_block hnew
    have hone:∀u∈[Value.slice pa m pcap],u.oneCell'=true:=fun u hu=>by
     have:u= .slice pa m pcap:=by simpa using hu
     subst this;rfl
    have hbase:w.heap.size≤(w6.alloc (.cells #[.slice pa m pcap] 24)).heap.size:=by have:=hb6.size;simp;omega
    have hmax:LS.length+1≤maxLen:=by unfold maxLen;omega
    clear hP hElt hnew hOw hrd hblk hR6 hb6;go_wp2_with (at_builtin;refine wpList_append_lies _ rfl (.tmp 66) (.tmp 69) 23 rfl w.heap.size 24 tI _ 1 24 Tryz.underlying23 hi0 hz0 hz1 hz2 rfl (by omega) _ LS.length LS rfl hO7 ⟨w6.heap.size,0,none⟩ 1 1 [.slice pa m pcap] rfl rfl hnews hone (by omega) hmax (by omega) hbase _ rfl ?_;intro g0 cap0 w7 hown1 hgrow hat hlt1);have HO8:=aA hown1
    have HR8:=aA (HR7.out.grown hgrow (fun kk hkk=>by have:=HLt.out kk hkk;omega));have HB8:=aA (HB7.out.grown hgrow HLt.out)
    have HE8:Hid (∀e∈LS++[.slice pa m pcap],El w7 w.heap.size (some g0) e):=fun e he=>(HE7.out e he).grown hgrow hat (Nat.le_refl _);clear hown1 hgrow hat hlt1;go_ret;exact⟨_,LS++[.slice pa m pcap],q6,rfl,by rw[List.length_append];exact HO8.out,by simp;omega,HE8.out,by omega,HR8.out,HB8.out⟩
   ·have hxb:(x==0)=false:=by simp[hx]
    go_wp2;go_ret;exact⟨_,LS,q+1,rfl,HO5.out,by omega,HE5.out,by omega,HR5.out,HB5.out⟩
end Go.Proofs.YtncffcaabnjioaaGreat
