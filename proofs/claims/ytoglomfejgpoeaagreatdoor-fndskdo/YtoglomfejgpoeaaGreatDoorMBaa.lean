/-
  The program reads monomials (leadingDigits, monGuess, MonRead).
-/
import Derived.Test.YtoglomfejgpoeaaGreatDoorMan
set_option maxHeartbeats 1000000
namespace Go.Proofs.YtoglomfejgpoeaaGreatDoor
open Go.Shelf Go.RowKit
set_option linter.unusedVariables false
set_option linter.unusedSimpArgs false
end Go.Proofs.YtoglomfejgpoeaaGreatDoor
namespace Go.Proofs.YtoglomfejgpoeaaGreatDoor
open Go.RowKit
set_option linter.unusedVariables false
theorem CG (x y:Int) (hx:0≤x) (hx':x<1099511627776) (hy:0≤y) (hy':y<1099511627776):0≤bits .xor .i64 x y:=by
 obtain⟨a,rfl⟩:=Int.eq_ofNat_of_zero_le hx;obtain⟨b,rfl⟩:=Int.eq_ofNat_of_zero_le hy;have hab:a ^^^ b<2 ^ 40:=Nat.xor_lt_two_pow (by omega) (by omega)
 have h1:(BitVec.ofInt 64 (a:Int)).toNat=a:=by rw[BitVec.ofInt_natCast,BitVec.toNat_ofNat];exact Nat.mod_eq_of_lt (by omega)
 have h2:(BitVec.ofInt 64 (b:Int)).toNat=b:=by rw[BitVec.ofInt_natCast,BitVec.toNat_ofNat];exact Nat.mod_eq_of_lt (by omega)
 show 0≤IntKind.i64.wrap ((BitVec.ofInt 64 (a:Int) ^^^ BitVec.ofInt 64 (b:Int)).toNat:Int);rw[BitVec.toNat_xor,h1,h2];simp only[IntKind.wrap,IntKind.bits,IntKind.signed];generalize a ^^^ b=c at hab;have hc:(c:Int)<1099511627776:=by omega
 simp;omega
theorem wV {x n:Int} (hx:0≤x) (hn:1≤n):0≤x.tmod n∧x.tmod n<n:=by rw[Int.tmod_eq_emod_of_nonneg hx];exact⟨Int.emod_nonneg _ (by omega),Int.emod_lt_of_pos _ (by omega)⟩
theorem ED (w:World) (B bb off len cap p:Nat) (n:Int) (z:Nat→Int) (hc0:w.cell? ⟨B,0,none⟩=some (.slice (some ⟨bb,off,none⟩) len cap)) (hc1:w.cell? ⟨B,1,none⟩=some (.int .i64 p)) (hf:w.frozen? ⟨B,1,none⟩=false) (hbb:bb<B) (hz:∀i,i<len→w.cell? ⟨bb,off+i,none⟩=some (.int .u8 (z i))) (hz0:∀i,0≤z i) (hz1:∀i,z i≤255) (hl:len≤2000) (hn:1≤n) (hn':n≤100000) (hp:p<len):Calls Tryz.prog 76 #[.pointer (some ⟨B,0,none⟩),.int .i64 n] w fun e w'=>∃v,e= .returned (.int .i64 v)∧0≤v∧v<n∧∃nq,w'=(w.setCell ⟨B,1,none⟩ (.int .i64 (p+1))).drewN nq:=by
 have hne:¬bb=B:=by omega
 have hl0:((len:Int)==0)=false:=by simp;omega
 have hpl:(p:Int)<(len:Int):=by omega
 have hcp:=hz p hp;have z0:=hz0 p
 have z1:=hz1 p;have hm0:=Int.emod_nonneg (z p) (show n≠0 by omega)
 have hm1:=Int.emod_lt_of_pos (z p) (show 0<n by omega);clear hz hz0 hz1;go_enter Tryz.func76,Tryz.ntmps76;go_wp2;go_ret;exact⟨_,rfl,hm0,hm1,0,rfl⟩
theorem xZ (w:World) (B cap p:Nat) (a:Option Addr) (n:Int) (hc0:w.cell? ⟨B,0,none⟩=some (.slice a 0 cap)) (hc1:w.cell? ⟨B,1,none⟩=some (.int .i64 p)) (hf:w.frozen? ⟨B,1,none⟩=false) (hn:1≤n) (hp:(p:Int)≤100000):Calls Tryz.prog 76 #[.pointer (some ⟨B,0,none⟩),.int .i64 n] w fun e w'=>∃v,e= .returned (.int .i64 v)∧0≤v∧v<n∧∃nq,w'=(w.setCell ⟨B,1,none⟩ (.int .i64 (p+1))).drewN nq:=by go_enter Tryz.func76,Tryz.ntmps76;go_wp2;go_ret;exact⟨_,rfl,by omega,by omega,0,rfl⟩
theorem yA (w:World) (B bb off len cap p:Nat) (n:Int) (z:Nat→Int) (hc0:w.cell? ⟨B,0,none⟩=some (.slice (some ⟨bb,off,none⟩) len cap)) (hc1:w.cell? ⟨B,1,none⟩=some (.int .i64 p)) (hf:w.frozen? ⟨B,1,none⟩=false) (hbb:bb<B) (hz:∀i,i<len→w.cell? ⟨bb,off+i,none⟩=some (.int .u8 (z i))) (hz0:∀i,0≤z i) (hz1:∀i,z i≤255) (hl:len≤2000) (hn:1≤n) (hn':n≤100000) (hp:len≤p) (h0:0<len) (hp':(p:Int)≤100000):Calls Tryz.prog 76 #[.pointer (some ⟨B,0,none⟩),.int .i64 n] w fun e w'=>∃v,e= .returned (.int .i64 v)∧0≤v∧v<n∧∃nq,w'=(w.setCell ⟨B,1,none⟩ (.int .i64 (p+1))).drewN nq:=by
 have hne:¬bb=B:=by omega
 have hl0:((len:Int)==0)=false:=by simp;omega
 have hlp:(0:Int)<(len:Int):=by omega
 have hl2:(len:Int)≤2000:=by omega
 have hpl:(len:Int)≤(p:Int):=by omega
 have i1:=Int.emod_nonneg (p:Int) (show(len:Int)≠0 by omega);have i2:=Int.emod_lt_of_pos (p:Int) hlp
 have j1:=Int.emod_nonneg ((p:Int)*7+3) (show(len:Int)≠0 by omega);have j2:=Int.emod_lt_of_pos ((p:Int)*7+3) hlp
 have q1:0≤(p:Int) / (len:Int):=Int.ediv_nonneg (by omega) (by omega);have q2:(p:Int) / (len:Int)≤100000:=Int.le_trans (Int.ediv_le_self _ (by omega)) hp'
 have hci:=hz (p%len) (Nat.mod_lt _ h0);have hcj:=hz ((p*7+3)%len) (Nat.mod_lt _ h0)
 have zi0:=hz0 (p%len);have zi1:=hz1 (p%len)
 have zj0:=hz0 ((p*7+3)%len);have zj1:=hz1 ((p*7+3)%len)
 clear hz hz0 hz1;go_enter Tryz.func76,Tryz.ntmps76;go_wp2
 go_quiet (fail)
 go_wp2;go_ret;exact⟨_,rfl,(wV (CG _ _ (by omega) (by omega) (by omega) (by omega)) hn).1,(wV (CG _ _ (by omega) (by omega) (by omega) (by omega)) hn).2,_,rfl⟩
def gO (w:World) (B p:Nat):Prop:=
 w.cell? ⟨B,1,none⟩=some (.int .i64 p)∧w.frozen? ⟨B,1,none⟩=false∧
 ∃(a:Option Addr) (len cap:Nat),w.cell? ⟨B,0,none⟩=some (.slice a len cap)∧len≤2000∧
  (len=0∨∃(bb off:Nat) (z:Nat→Int),a=some ⟨bb,off,none⟩∧bb<B∧(∀i,i<len→w.cell? ⟨bb,off+i,none⟩=some (.int .u8 (z i)))∧(∀i,0≤z i)∧∀i,z i≤255)
def mC (w w':World) (B p:Nat):Prop:=∃nq,w'=(w.setCell ⟨B,1,none⟩ (.int .i64 ((p+1:Nat):Int))).drewN nq
theorem aK (w:World) (B p:Nat) (n:Int) (h:gO w B p) (hn:1≤n) (hn':n≤100000) (hp:(p:Int)≤100000):Calls Tryz.prog 76 #[.pointer (some ⟨B,0,none⟩),.int .i64 n] w fun e w'=>∃v,e= .returned (.int .i64 v)∧0≤v∧v<n∧mC w w' B p:=by
 obtain⟨hc1,hf,a,len,cap,hc0,hl,h0⟩:=h;have key:∀e w',(∃v,e=Ending.returned (.int .i64 v)∧0≤v∧v<n∧∃nq,w'=(w.setCell ⟨B,1,none⟩ (.int .i64 (p+1))).drewN nq)→∃v,e= .returned (.int .i64 v)∧0≤v∧v<n∧mC w w' B p:=by rintro e w' ⟨v,h1,h2,h3,nq,h4⟩;exact⟨v,h1,h2,h3,nq,by rw[h4];rfl⟩
 by_cases hz:len=0
 ·subst hz;exact(xZ w B cap p a n hc0 hc1 hf hn hp).mono key
 ·obtain⟨bb,off,z,rfl,hbb,hb,z0,z1⟩:=h0.resolve_left hz;by_cases hpl:p<len
  ·exact(ED w B bb off len cap p n z hc0 hc1 hf hbb hb z0 z1 hl hn hn' hpl).mono key
  ·exact(yA w B bb off len cap p n z hc0 hc1 hf hbb hb z0 z1 hl hn hn' (by omega) (by omega) hp).mono key
theorem mC.beside {w w':World} {B p:Nat} (h:mC w w' B p):aH B w w':=by
 obtain⟨nq,rfl⟩:=h;have h:aH B w (w.setCell ⟨B,1,none⟩ (.int .i64 ((p+1:Nat):Int))):=⟨rfl,rfl,rfl,by simp[World.setCell],fun k _ hk=>Below.heap_setCell _ _ _ _ hk⟩
 exact h.drewN nq
theorem gO.lt {w:World} {B p:Nat} (h:gO w B p):B<w.heap.size:=uK w _ h.1
theorem mC.rdr {w w':World} {B p:Nat} (hp:mC w w' B p) (h:gO w B p):gO w' B (p+1):=by
 have hb:=hp.beside;have hlt:=h.lt
 obtain⟨nq,rfl⟩:=hp;obtain⟨hc1,hf,a,len,cap,hc0,hl,h0⟩:=h;refine⟨by go_simp,by go_simp,a,len,cap,by go_simp,hl,?_⟩;rcases h0 with h0|⟨bb,off,z,rfl,hbb,hz,z0,z1⟩
 ·exact .inl h0
 ·exact .inr ⟨bb,off,z,rfl,hbb,fun i hi=>by rw[hb.cell (by omega) (by omega)];exact hz i hi,z0,z1⟩
theorem gO.alloc {w:World} {B p:Nat} (h:gO w B p) (o:Obj):gO (w.alloc o) B p:=by
 have hlt:=h.lt;obtain⟨hc1,hf,a,len,cap,hc0,hl,h0⟩:=h;refine⟨by rw[World.cell?_alloc_past o B 1 hlt];exact hc1,by rw[World.frozen?_alloc_past o B 1 hlt];exact hf,a,len,cap,by rw[World.cell?_alloc_past o B 0 hlt];exact hc0,hl,?_⟩;rcases h0 with h0|⟨bb,off,z,rfl,hbb,hz,z0,z1⟩
 ·exact .inl h0
 ·exact .inr ⟨bb,off,z,rfl,hbb,fun i hi=>by rw[World.cell?_alloc_past o bb _ (by omega)];exact hz i hi,z0,z1⟩
theorem gO.drewN {w:World} {B p:Nat} (h:gO w B p) (n:Nat):gO (w.drewN n) B p:=h
def FI (w:World) (a:Option Addr) (len cap:Nat):Prop:=
 len≤cap∧cap≤maxLen∧(len=0∨∃(bb off:Nat) (z:Nat→Int),a=some ⟨bb,off,none⟩∧bb<w.heap.size∧(∀i,i<len→w.cell? ⟨bb,off+i,none⟩=some (.int .u8 (z i)))∧(∀i,0≤z i)∧∀i,z i≤255)
theorem FI.below {w w':World} {a:Option Addr} {len cap:Nat} (h:FI w a len cap) (hb:Below w.heap.size w w'):FI w' a len cap:=by
 obtain⟨h1,h2,h3⟩:=h;refine⟨h1,h2,?_⟩;rcases h3 with h0|⟨bb,off,z,rfl,hbb,hz,z0,z1⟩
 ·exact .inl h0
 ·exact .inr ⟨bb,off,z,rfl,dR hbb hb.size,fun i hi=>by rw[hb.cell (p:=⟨bb,off+i,none⟩) hbb];exact hz i hi,z0,z1⟩
theorem wO (w:World) (a:Option Addr) (len cap:Nat) (t:TypeId) (hl:len≤2000) (h:len=0∨∃(bb off:Nat) (z:Nat→Int),a=some ⟨bb,off,none⟩∧bb<w.heap.size∧(∀i,i<len→w.cell? ⟨bb,off+i,none⟩=some (.int .u8 (z i)))∧(∀i,0≤z i)∧∀i,z i≤255):gO (w.alloc (.cells #[.slice a len cap,.int .i64 0] t)) w.heap.size 0:=by
 refine⟨by rw[World.cell?_alloc_at _ _ _ _ rfl];rfl,by rw[World.frozen?_alloc_at _ _ _ _ rfl],a,len,cap,by rw[World.cell?_alloc_at _ _ _ _ rfl];rfl,hl,?_⟩;rcases h with h0|⟨bb,off,z,rfl,hbb,hz,z0,z1⟩
 ·exact .inl h0
 ·exact .inr ⟨bb,off,z,rfl,hbb,fun i hi=>by rw[World.cell?_alloc_past _ bb _ hbb];exact hz i hi,z0,z1⟩
theorem AZ (w:World) (a:Option Addr) (len cap:Nat) (h:FI w a len cap):Calls Tryz.prog 67 #[.slice a len cap] w fun e w'=>e= .returned (.pointer (some ⟨w.heap.size,0,none⟩))∧gO w' w.heap.size 0∧Below w.heap.size w w':=by
 obtain⟨h1,h2,h3⟩:=h;unfold maxLen at h2;by_cases hl:len≤2000
 ·have hl':(len:Int)≤2000:=by omega
  go_enter Tryz.func67,Tryz.ntmps67;go_wp2;go_ret;exact⟨rfl,wO w a len cap _ hl h3,(aD _ _).alloc (Nat.le_refl _) _⟩
 ·have hl':(2000:Int)<(len:Int):=by omega
  have hc':(2000:Int)≤(cap:Int):=by omega
  rcases h3 with h0|⟨bb,off,z,rfl,hbb,hz,z0,z1⟩
  ·omega
  ·have hn:=wO w (some ⟨bb,off,none⟩) 2000 cap 126 (Nat.le_refl _) (.inr ⟨bb,off,z,rfl,hbb,fun i hi=>hz i (by omega),z0,z1⟩);clear hz z0 z1;go_enter Tryz.func67,Tryz.ntmps67;go_wp2;go_ret;exact⟨rfl,hn,(aD _ _).alloc (Nat.le_refl _) _⟩
open Go.Shelf Go.RowKit
set_option linter.unusedSimpArgs false
theorem W4.set0 {w:World} {b:Nat} {x0 x1 x2 x3:Int} (h:W4 w b x0 x1 x2 x3) (v:Int):W4 (w.setCell ⟨b,0,none⟩ (.int .i64 v)) b v x1 x2 x3:=
 ⟨⟨World.cell?_setCell_same _ _ _ h.1.1,by rw[World.cell?_setCell_other _ _ _ _ (by simp)];exact h.1.2.1,by rw[World.cell?_setCell_other _ _ _ _ (by simp)];exact h.1.2.2.1,by rw[World.cell?_setCell_other _ _ _ _ (by simp)];exact h.1.2.2.2⟩,fun j=>by rw[World.frozen?_setCell];exact h.2 j⟩
theorem W4.set1 {w:World} {b:Nat} {x0 x1 x2 x3:Int} (h:W4 w b x0 x1 x2 x3) (v:Int):W4 (w.setCell ⟨b,1,none⟩ (.int .i64 v)) b x0 v x2 x3:=
 ⟨⟨by rw[World.cell?_setCell_other _ _ _ _ (by simp)];exact h.1.1,World.cell?_setCell_same _ _ _ h.1.2.1,by rw[World.cell?_setCell_other _ _ _ _ (by simp)];exact h.1.2.2.1,by rw[World.cell?_setCell_other _ _ _ _ (by simp)];exact h.1.2.2.2⟩,fun j=>by rw[World.frozen?_setCell];exact h.2 j⟩
theorem W4.set2 {w:World} {b:Nat} {x0 x1 x2 x3:Int} (h:W4 w b x0 x1 x2 x3) (v:Int):W4 (w.setCell ⟨b,2,none⟩ (.int .i64 v)) b x0 x1 v x3:=
 ⟨⟨by rw[World.cell?_setCell_other _ _ _ _ (by simp)];exact h.1.1,by rw[World.cell?_setCell_other _ _ _ _ (by simp)];exact h.1.2.1,World.cell?_setCell_same _ _ _ h.1.2.2.1,by rw[World.cell?_setCell_other _ _ _ _ (by simp)];exact h.1.2.2.2⟩,fun j=>by rw[World.frozen?_setCell];exact h.2 j⟩
theorem W4.set3 {w:World} {b:Nat} {x0 x1 x2 x3:Int} (h:W4 w b x0 x1 x2 x3) (v:Int):W4 (w.setCell ⟨b,3,none⟩ (.int .i64 v)) b x0 x1 x2 v:=
 ⟨⟨by rw[World.cell?_setCell_other _ _ _ _ (by simp)];exact h.1.1,by rw[World.cell?_setCell_other _ _ _ _ (by simp)];exact h.1.2.1,by rw[World.cell?_setCell_other _ _ _ _ (by simp)];exact h.1.2.2.1,World.cell?_setCell_same _ _ _ h.1.2.2.2⟩,fun j=>by rw[World.frozen?_setCell];exact h.2 j⟩
end Go.Proofs.YtoglomfejgpoeaaGreatDoor
namespace Go.Proofs.YtoglomfejgpoeaaGreatDoor
open Go.RowKit
set_option linter.unusedVariables false
set_option linter.unusedSimpArgs false
open Go.RowKit Go.Maps Go.Sort Go.Shelf
attribute [local go_sem] Oper.semAt_some
end Go.Proofs.YtoglomfejgpoeaaGreatDoor
namespace Go.Proofs.YtoglomfejgpoeaaGreatDoor
open Go.RowKit
theorem kK {P:Program} {id:Nat} {ops:Array Oper} {Q:Exit→Act→World→Prop} {I:Array Bool→Act→World→Prop} {a:Act} {w:World} (hm:P.follows .mixedOrders=true) (h0:I (Array.replicate ops.size false) a w.drew) (hs:∀l a w,I l a w→∀i∈Region.ready .any ops l,wpOp P ops Q i (I (l.setIfInBounds i true)) a w) (he:∀l a w,I l a w→Region.ready .any ops l=[]→Q .normal a w):(Code.region id ops true).wp P Q a w:=
 wp_region_any hm (mP hs he ops.size _ a _ (by rw[dG];exact Nat.le_refl _) h0)
set_option linter.unusedVariables false
attribute [local go_sem] Oper.semAt_some
end Go.Proofs.YtoglomfejgpoeaaGreatDoor
namespace Go.Proofs.YtoglomfejgpoeaaGreatDoor
open Go.RowKit Go.Maps
set_option linter.unusedVariables false
end Go.Proofs.YtoglomfejgpoeaaGreatDoor
namespace Go.Proofs.YtoglomfejgpoeaaGreatDoor
open Go.RowKit
set_option linter.unusedVariables false
theorem vO:CI []:=fun t ht=>by simp at ht
theorem qV {f:Nat→T} {la:Nat} {g:Nat→T} {lb:Nat} (hf:∀i,i<la→0≤(f i).c∧(f i).c≤100) (hg:∀i,i<lb→0≤(g i).c∧(g i).c≤100):∀(u i k:Nat),CI (dZ f la g lb u i k)
 |0,_,_=>by intro t ht;simp[dZ]at ht
 |u+1,i,k=>by
  have a1:=qV hf hg u (i+1) k;have a2:=qV hf hg u i (k+1)
  have a3:=qV hf hg u (i+1) (k+1);intro t ht;simp only[dZ]at ht;split at ht
  ·rename_i hh;split at ht
   ·rcases List.mem_cons.1 ht with rfl|ht
    ·exact hf i hh.1
    ·exact a1 t ht
   ·split at ht
    ·rcases List.mem_cons.1 ht with rfl|ht
     ·exact hg k hh.2
     ·exact a2 t ht
    ·split at ht
     ·rcases List.mem_cons.1 ht with rfl|ht
      ·dsimp only;omega
      ·exact a3 t ht
     ·exact a3 t ht
  ·split at ht
   ·rename_i hh;rcases List.mem_cons.1 ht with rfl|ht
    ·exact hf i hh
    ·exact a1 t ht
   ·split at ht
    ·rename_i hh;rcases List.mem_cons.1 ht with rfl|ht
     ·exact hg k hh
     ·exact a2 t ht
    ·cases ht
theorem GS {c:Int} {m:M} {L:List T} (hL:CI L) (h0:0≤c) (h1:c≤100):CI (fU c m L):=by
 unfold fU;split
 ·exact hL
 ·exact qV hL.at (fun _ _=>⟨h0,h1⟩) _ _ _
end Go.Proofs.YtoglomfejgpoeaaGreatDoor
