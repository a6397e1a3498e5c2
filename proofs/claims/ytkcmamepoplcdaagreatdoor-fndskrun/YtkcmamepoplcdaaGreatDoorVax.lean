/-
  What the drawing functions return: the reader's pick is a number below its bound, and writes the reader's place alone; what is drawn is some number that fits its kind.
-/
import Derived.Deep.RegionWith
import Derived.Test.YtkcmamepoplcdaaGreatDoorVae
set_option maxHeartbeats 2000000
set_option maxRecDepth 100000
namespace Go.Proofs.YtkcmamepoplcdaaGreatDoor
open Go.RowKit
set_option linter.unusedVariables false
theorem LX (x y:Int) (hx:0≤x) (hx':x<1099511627776) (hy:0≤y) (hy':y<1099511627776):0≤bits .xor .i64 x y:=by
 obtain⟨a,rfl⟩:=Int.eq_ofNat_of_zero_le hx;obtain⟨b,rfl⟩:=Int.eq_ofNat_of_zero_le hy;have hab:a ^^^ b<2 ^ 40:=Nat.xor_lt_two_pow (by omega) (by omega)
 have h1:(BitVec.ofInt 64 (a:Int)).toNat=a:=by rw[BitVec.ofInt_natCast,BitVec.toNat_ofNat];exact Nat.mod_eq_of_lt (by omega)
 have h2:(BitVec.ofInt 64 (b:Int)).toNat=b:=by rw[BitVec.ofInt_natCast,BitVec.toNat_ofNat];exact Nat.mod_eq_of_lt (by omega)
 show 0≤IntKind.i64.wrap ((BitVec.ofInt 64 (a:Int) ^^^ BitVec.ofInt 64 (b:Int)).toNat:Int);rw[BitVec.toNat_xor,h1,h2];simp only[IntKind.wrap,IntKind.bits,IntKind.signed];generalize a ^^^ b=c at hab;have hc:(c:Int)<1099511627776:=by omega
 simp;omega
theorem DW {x n:Int} (hx:0≤x) (hn:1≤n):0≤x.tmod n∧x.tmod n<n:=by rw[Int.tmod_eq_emod_of_nonneg hx];exact⟨Int.emod_nonneg _ (by omega),Int.emod_lt_of_pos _ (by omega)⟩
theorem OQ (w:World) (B bb off len cap p:Nat) (n:Int) (z:Nat→Int) (hc0:w.cell? ⟨B,0,none⟩=some (.slice (some ⟨bb,off,none⟩) len cap)) (hc1:w.cell? ⟨B,1,none⟩=some (.int .i64 p)) (hf:w.frozen? ⟨B,1,none⟩=false) (hbb:bb<B) (hz:∀i,i<len→w.cell? ⟨bb,off+i,none⟩=some (.int .u8 (z i))) (hz0:∀i,0≤z i) (hz1:∀i,z i≤255) (hl:len≤2000) (hn:1≤n) (hn':n≤100000) (hp:p<len):Calls Tryz.prog 55 #[.pointer (some ⟨B,0,none⟩),.int .i64 n] w fun e w'=>∃v,e= .returned (.int .i64 v)∧0≤v∧v<n∧∃nq,w'=(w.setCell ⟨B,1,none⟩ (.int .i64 (p+1))).drewN nq:=by
 have hne:¬bb=B:=by omega
 have hl0:((len:Int)==0)=false:=by simp;omega
 have hpl:(p:Int)<(len:Int):=by omega
 have hcp:=hz p hp;have z0:=hz0 p
 have z1:=hz1 p;have hm0:=Int.emod_nonneg (z p) (show n≠0 by omega)
 have hm1:=Int.emod_lt_of_pos (z p) (show 0<n by omega);clear hz hz0 hz1;go_enter Tryz.func55,Tryz.ntmps55;go_wp2;go_ret;exact⟨_,rfl,hm0,hm1,0,rfl⟩
theorem FD (w:World) (B cap p:Nat) (a:Option Addr) (n:Int) (hc0:w.cell? ⟨B,0,none⟩=some (.slice a 0 cap)) (hc1:w.cell? ⟨B,1,none⟩=some (.int .i64 p)) (hf:w.frozen? ⟨B,1,none⟩=false) (hn:1≤n) (hp:(p:Int)≤100000):Calls Tryz.prog 55 #[.pointer (some ⟨B,0,none⟩),.int .i64 n] w fun e w'=>∃v,e= .returned (.int .i64 v)∧0≤v∧v<n∧∃nq,w'=(w.setCell ⟨B,1,none⟩ (.int .i64 (p+1))).drewN nq:=by go_enter Tryz.func55,Tryz.ntmps55;go_wp2;go_ret;exact⟨_,rfl,by omega,by omega,0,rfl⟩
theorem FE (w:World) (B bb off len cap p:Nat) (n:Int) (z:Nat→Int) (hc0:w.cell? ⟨B,0,none⟩=some (.slice (some ⟨bb,off,none⟩) len cap)) (hc1:w.cell? ⟨B,1,none⟩=some (.int .i64 p)) (hf:w.frozen? ⟨B,1,none⟩=false) (hbb:bb<B) (hz:∀i,i<len→w.cell? ⟨bb,off+i,none⟩=some (.int .u8 (z i))) (hz0:∀i,0≤z i) (hz1:∀i,z i≤255) (hl:len≤2000) (hn:1≤n) (hn':n≤100000) (hp:len≤p) (h0:0<len) (hp':(p:Int)≤100000):Calls Tryz.prog 55 #[.pointer (some ⟨B,0,none⟩),.int .i64 n] w fun e w'=>∃v,e= .returned (.int .i64 v)∧0≤v∧v<n∧∃nq,w'=(w.setCell ⟨B,1,none⟩ (.int .i64 (p+1))).drewN nq:=by
 have hne:¬bb=B:=by omega
 have hl0:((len:Int)==0)=false:=by simp;omega
 have hlp:(0:Int)<(len:Int):=by omega
 have hl2:(len:Int)≤2000:=by omega
 have hpl:(len:Int)≤(p:Int):=by omega
 have i1:=Int.emod_nonneg (p:Int) (show(len:Int)≠0 by omega);have i2:=Int.emod_lt_of_pos (p:Int) hlp
 have j1:=Int.emod_nonneg ((p:Int)*7+3) (show(len:Int)≠0 by omega);have j2:=Int.emod_lt_of_pos ((p:Int)*7+3) hlp
 have q1:0≤(p:Int) / (len:Int):=Int.ediv_nonneg (by omega) (by omega);have q2:(p:Int) / (len:Int)≤100000:=Int.le_trans (Int.ediv_le_self _ (by omega)) hp'
 have hci:=hz (p%len) (Nat.mod_lt _ h0);have hcj:=hz ((p*7+3)%len) (Nat.mod_lt _ h0)
 have zi0:=hz0 (p%len);have zi1:=hz1 (p%len)
 have zj0:=hz0 ((p*7+3)%len);have zj1:=hz1 ((p*7+3)%len)
 clear hz hz0 hz1;go_enter Tryz.func55,Tryz.ntmps55;go_wp2
 go_quiet (fail)
 go_wp2;go_ret;exact⟨_,rfl,(DW (LX _ _ (by omega) (by omega) (by omega) (by omega)) hn).1,(DW (LX _ _ (by omega) (by omega) (by omega) (by omega)) hn).2,_,rfl⟩
def iN (w:World) (B p:Nat):Prop:=
 w.cell? ⟨B,1,none⟩=some (.int .i64 p)∧w.frozen? ⟨B,1,none⟩=false∧
 ∃(a:Option Addr) (len cap:Nat),w.cell? ⟨B,0,none⟩=some (.slice a len cap)∧len≤2000∧
  (len=0∨∃(bb off:Nat) (z:Nat→Int),a=some ⟨bb,off,none⟩∧bb<B∧(∀i,i<len→w.cell? ⟨bb,off+i,none⟩=some (.int .u8 (z i)))∧(∀i,0≤z i)∧∀i,z i≤255)
def pH (w w':World) (B p:Nat):Prop:=∃nq,w'=(w.setCell ⟨B,1,none⟩ (.int .i64 ((p+1:Nat):Int))).drewN nq
theorem aI (w:World) (B p:Nat) (n:Int) (h:iN w B p) (hn:1≤n) (hn':n≤100000) (hp:(p:Int)≤100000):Calls Tryz.prog 55 #[.pointer (some ⟨B,0,none⟩),.int .i64 n] w fun e w'=>∃v,e= .returned (.int .i64 v)∧0≤v∧v<n∧pH w w' B p:=by
 obtain⟨hc1,hf,a,len,cap,hc0,hl,h0⟩:=h;have key:∀e w',(∃v,e=Ending.returned (.int .i64 v)∧0≤v∧v<n∧∃nq,w'=(w.setCell ⟨B,1,none⟩ (.int .i64 (p+1))).drewN nq)→∃v,e= .returned (.int .i64 v)∧0≤v∧v<n∧pH w w' B p:=by rintro e w' ⟨v,h1,h2,h3,nq,h4⟩;exact⟨v,h1,h2,h3,nq,by rw[h4];rfl⟩
 by_cases hz:len=0
 ·subst hz;exact(FD w B cap p a n hc0 hc1 hf hn hp).mono key
 ·obtain⟨bb,off,z,rfl,hbb,hb,z0,z1⟩:=h0.resolve_left hz;by_cases hpl:p<len
  ·exact(OQ w B bb off len cap p n z hc0 hc1 hf hbb hb z0 z1 hl hn hn' hpl).mono key
  ·exact(FE w B bb off len cap p n z hc0 hc1 hf hbb hb z0 z1 hl hn hn' (by omega) (by omega) hp).mono key
structure aH (B:Nat) (w w':World):Prop where
 os:w'.os=w.os
 tape:w'.tape=w.tape
 output:w'.output=w.output
 size:w.heap.size≤w'.heap.size
 block:∀k,k<w.heap.size→k≠B→w'.heap[k]? =w.heap[k]?
theorem aH.refl (B:Nat) (w:World):aH B w w:=⟨rfl,rfl,rfl,Nat.le_refl _,fun _ _ _=>rfl⟩
theorem aH.trans {B:Nat} {a b c:World} (h:aH B a b) (k:aH B b c):aH B a c:=
 ⟨k.os.trans h.os,k.tape.trans h.tape,k.output.trans h.output,iS h.size k.size,fun i hi hn=>(k.block i (eH hi h.size) hn).trans (h.block i hi hn)⟩
theorem aH.alloc {B:Nat} {a w:World} (h:aH B a w) (o:Obj):aH B a (w.alloc o):=
 h.trans ⟨rfl,rfl,rfl,by simp,fun k hk _=>Below.heap_alloc _ _ _ hk⟩
theorem aH.drewN {B:Nat} {a w:World} (h:aH B a w) (n:Nat):aH B a (w.drewN n):=h.trans ⟨rfl,rfl,rfl,Nat.le_refl _,fun _ _ _=>rfl⟩
theorem aH.cell {B:Nat} {w w':World} (h:aH B w w') {b o:Nat} (hb:b<w.heap.size) (hn:b≠B):w'.cell? ⟨b,o,none⟩=w.cell? ⟨b,o,none⟩:=
 lM (w:=w) (h.block b hb hn)
theorem aH.below {B n:Nat} {a w w':World} (k:Below n a w) (h:aH B w w') (hB:n≤B) (hn:n≤w.heap.size):Below n a w':=
 k.trans ⟨h.os,h.tape,h.output,h.size,fun k hk=>h.block k (by omega) (by omega)⟩
theorem pH.beside {w w':World} {B p:Nat} (h:pH w w' B p):aH B w w':=by
 obtain⟨nq,rfl⟩:=h;have h:aH B w (w.setCell ⟨B,1,none⟩ (.int .i64 ((p+1:Nat):Int))):=⟨rfl,rfl,rfl,by simp[World.setCell],fun k _ hk=>Below.heap_setCell _ _ _ _ hk⟩
 exact h.drewN nq
theorem iN.lt {w:World} {B p:Nat} (h:iN w B p):B<w.heap.size:=BX w _ h.1
theorem pH.rdr {w w':World} {B p:Nat} (hp:pH w w' B p) (h:iN w B p):iN w' B (p+1):=by
 have hb:=hp.beside;have hlt:=h.lt
 obtain⟨nq,rfl⟩:=hp;obtain⟨hc1,hf,a,len,cap,hc0,hl,h0⟩:=h;refine⟨by go_simp,by go_simp,a,len,cap,by go_simp,hl,?_⟩;rcases h0 with h0|⟨bb,off,z,rfl,hbb,hz,z0,z1⟩
 ·exact .inl h0
 ·exact .inr ⟨bb,off,z,rfl,hbb,fun i hi=>by rw[hb.cell (by omega) (by omega)];exact hz i hi,z0,z1⟩
theorem iN.alloc {w:World} {B p:Nat} (h:iN w B p) (o:Obj):iN (w.alloc o) B p:=by
 have hlt:=h.lt;obtain⟨hc1,hf,a,len,cap,hc0,hl,h0⟩:=h;refine⟨by rw[World.cell?_alloc_past o B 1 hlt];exact hc1,by rw[World.frozen?_alloc_past o B 1 hlt];exact hf,a,len,cap,by rw[World.cell?_alloc_past o B 0 hlt];exact hc0,hl,?_⟩;rcases h0 with h0|⟨bb,off,z,rfl,hbb,hz,z0,z1⟩
 ·exact .inl h0
 ·exact .inr ⟨bb,off,z,rfl,hbb,fun i hi=>by rw[World.cell?_alloc_past o bb _ (by omega)];exact hz i hi,z0,z1⟩
theorem iN.drewN {w:World} {B p:Nat} (h:iN w B p) (n:Nat):iN (w.drewN n) B p:=h
def QJ (w:World) (a:Option Addr) (len cap:Nat):Prop:=
 len≤cap∧cap≤maxLen∧(len=0∨∃(bb off:Nat) (z:Nat→Int),a=some ⟨bb,off,none⟩∧bb<w.heap.size∧(∀i,i<len→w.cell? ⟨bb,off+i,none⟩=some (.int .u8 (z i)))∧(∀i,0≤z i)∧∀i,z i≤255)
theorem QJ.below {w w':World} {a:Option Addr} {len cap:Nat} (h:QJ w a len cap) (hb:Below w.heap.size w w'):QJ w' a len cap:=by
 obtain⟨h1,h2,h3⟩:=h;refine⟨h1,h2,?_⟩;rcases h3 with h0|⟨bb,off,z,rfl,hbb,hz,z0,z1⟩
 ·exact .inl h0
 ·exact .inr ⟨bb,off,z,rfl,eH hbb hb.size,fun i hi=>by rw[hb.cell (p:=⟨bb,off+i,none⟩) hbb];exact hz i hi,z0,z1⟩
theorem DN (w:World) (a:Option Addr) (len cap:Nat) (t:TypeId) (hl:len≤2000) (h:len=0∨∃(bb off:Nat) (z:Nat→Int),a=some ⟨bb,off,none⟩∧bb<w.heap.size∧(∀i,i<len→w.cell? ⟨bb,off+i,none⟩=some (.int .u8 (z i)))∧(∀i,0≤z i)∧∀i,z i≤255):iN (w.alloc (.cells #[.slice a len cap,.int .i64 0] t)) w.heap.size 0:=by
 refine⟨by rw[World.cell?_alloc_at _ _ _ _ rfl];rfl,by rw[World.frozen?_alloc_at _ _ _ _ rfl],a,len,cap,by rw[World.cell?_alloc_at _ _ _ _ rfl];rfl,hl,?_⟩;rcases h with h0|⟨bb,off,z,rfl,hbb,hz,z0,z1⟩
 ·exact .inl h0
 ·exact .inr ⟨bb,off,z,rfl,hbb,fun i hi=>by rw[World.cell?_alloc_past _ bb _ hbb];exact hz i hi,z0,z1⟩
theorem KD (w:World) (a:Option Addr) (len cap:Nat) (h:QJ w a len cap):Calls Tryz.prog 48 #[.slice a len cap] w fun e w'=>e= .returned (.pointer (some ⟨w.heap.size,0,none⟩))∧iN w' w.heap.size 0∧Below w.heap.size w w':=by
 obtain⟨h1,h2,h3⟩:=h;unfold maxLen at h2;by_cases hl:len≤2000
 ·have hl':(len:Int)≤2000:=by omega
  go_enter Tryz.func48,Tryz.ntmps48;go_wp2;go_ret;exact⟨rfl,DN w a len cap _ hl h3,(aD _ _).alloc (Nat.le_refl _) _⟩
 ·have hl':(2000:Int)<(len:Int):=by omega
  have hc':(2000:Int)≤(cap:Int):=by omega
  rcases h3 with h0|⟨bb,off,z,rfl,hbb,hz,z0,z1⟩
  ·omega
  ·have hn:=DN w (some ⟨bb,off,none⟩) 2000 cap 91 (Nat.le_refl _) (.inr ⟨bb,off,z,rfl,hbb,fun i hi=>hz i (by omega),z0,z1⟩);clear hz z0 z1;go_enter Tryz.func48,Tryz.ntmps48;go_wp2;go_ret;exact⟨rfl,hn,(aD _ _).alloc (Nat.le_refl _) _⟩
open Go.Shelf Go.RowKit
set_option linter.unusedSimpArgs false
theorem AR (a b:List UInt8):(⟨a.toArray⟩++⟨b.toArray⟩:ByteArray)=⟨(a++b).toArray⟩:=by apply ByteArray.ext;simp
theorem mL (a:List UInt8) (c:UInt8):(⟨a.toArray⟩++⟨#[c]⟩:ByteArray)=⟨(a++[c]).toArray⟩:=AR a [c]
theorem CD (a b:List UInt8) (c:UInt8):(⟨a.toArray⟩++⟨#[c]⟩++⟨b.toArray⟩:ByteArray)=⟨(a++c::b).toArray⟩:=by rw[mL,AR,List.append_assoc];rfl
theorem vJ {l:List UInt8} {k:Nat} (h:k+1≤l.length) (u:World):(Instr.slice 9 (.string ⟨l.toArray⟩) (some (.int .i64 ((k:Int)+1))) none none).run Tryz.prog u= .ok (.string ⟨(l.drop (k+1)).toArray⟩) u:=jQ h u
theorem MR (x:Int):((UInt8.ofNat (x%256).toNat).toNat:Int)=x%256:=by
 have h1:=Int.emod_nonneg x (show(256:Int)≠0 by omega);have h2:=Int.emod_lt_of_pos x (show(0:Int)<256 by omega)
 rw[UInt8.toNat_ofNat'];omega
theorem zK (w:World) (x:Int) (t:TypeId):(convert 35 9 (.slice (some ⟨w.heap.size,0,none⟩) 1 1)).run Tryz.prog (w.alloc (Obj.cells #[.int .u8 (x%256)] t))= .ok (.string ⟨[UInt8.ofNat (x%256).toNat].toArray⟩) (w.alloc (Obj.cells #[.int .u8 (x%256)] t)):=
 run_convert_bytes_back _ _ _ 5 ⟨w.heap.size,0,none⟩ 1 [UInt8.ofNat (x%256).toNat] Tryz.underlying35 Tryz.underlying5 Tryz.underlying9 (fun j hj=>by
  have hj0:j=0:=by simpa using hj
  subst hj0;have e:([UInt8.ofNat (x%256).toNat]:List UInt8)[0]=UInt8.ofNat (x%256).toNat:=rfl
  rw[e,MR];show(w.alloc _).cell? ⟨w.heap.size,0,none⟩=_
  rw[World.cell?_alloc_at _ _ _ _ rfl]
  rfl)
theorem IA (w:World) (B p:Nat) (l:List UInt8) (h:iN w B p) (hl:l.length≤90000) (hp:p≤90000):Calls Tryz.prog 56 #[.pointer (some ⟨B,0,none⟩),.string ⟨l.toArray⟩] w fun e w'=>∃(l':List UInt8) (q:Nat),e= .returned (.string ⟨l'.toArray⟩)∧l'.length≤l.length+1∧q≤p+5∧iN w' B q∧aH B w w':=by
 have hlI:(l.length:Int)≤90000:=by omega
 go_enter Tryz.func56,Tryz.ntmps56;go_wp2_with fail;refine(aI _ _ _ _ h (by omega) (by omega) (by omega)).mono ?_;rintro e w1 ⟨k,rfl,k0,k1,hk⟩;have h1:=hk.rdr h
 have hb1:=hk.beside;clear hk;go_wp2_with fail;refine(aI _ _ _ _ h1 (by omega) (by omega) (by omega)).mono ?_;rintro e w2 ⟨y,rfl,y0,y1,hk⟩;have h2:=hk.rdr h1
 have hb2:=hb1.trans hk.beside;clear hk h1 hb1 h;go_wp2_with fail;refine(aI _ _ _ _ (h2.alloc _) (by omega) (by omega) (by omega)).mono ?_;rintro e w3 ⟨u,rfl,u0,u1,hk⟩;have hb3:=hk.beside
 have h3:=hk.rdr (h2.alloc _);obtain⟨x,hx⟩:∃x,w3.cell? ⟨w2.heap.size,u.toNat,none⟩=some (.int .i64 x):=by
  rw[hb3.cell (by simp) (by have:=h2.lt;omega),World.cell?_alloc_at _ _ _ _ rfl];have hu:u=0∨u=1∨u=2∨u=3∨u=4∨u=5∨u=6∨u=7:=by omega
  rcases hu with rfl|rfl|rfl|rfl|rfl|rfl|rfl|rfl<;>exact⟨_,rfl⟩
 have hbb:aH B w w3:=(hb2.alloc _).trans hb3;clear hk hb2 hb3 h2;obtain⟨K,rfl⟩:=Int.eq_ofNat_of_zero_le k0;have hcv:=zK w3 x 5
 obtain⟨c,hc⟩:∃c,UInt8.ofNat (x%256).toNat=c:=⟨_,rfl⟩
 rw[hc]at hcv;clear hc;go_wp2_with fail;have hbc:=hbb.alloc (Obj.cells #[.int .u8 (x%256)] 5)
 have h4:=h3.alloc (Obj.cells #[.int .u8 (x%256)] 5);clear hbb h3 hcv hx;generalize w3.alloc (Obj.cells #[.int .u8 (x%256)] 5)=w4 at hbc h4⊢;refine(aI _ _ _ _ h4 (by omega) (by omega) (by omega)).mono ?_;rintro e w5 ⟨v,rfl,v0,v1,hk⟩;have h5:=hk.rdr h4
 have hb5:=hbc.trans hk.beside;clear hk h4 hbc;have hkl:K≤l.length:=by omega
 have hto:=fun u=>xG (l:=l) (k:=K) hkl u;have hfr:=fun u=>jQ (l:=l) (k:=K) hkl u
 by_cases hv:v=0
 ·subst hv;go_wp2
  go_quiet (fail)
  go_wp2;go_ret;exact⟨l.take K++c::l.drop K,_,by simp;exact CD _ _ _,by simp;omega,by omega,h5,hb5.drewN _⟩
 ·have hvb:(v==0)=false:=by simp[hv]
  clear hv;by_cases hke:K=l.length
  ·have hkb:((K:Int)==(l.length:Int))=true:=by simp[hke]
   clear hke hto hfr;go_wp2;go_ret;exact⟨l++[c],_,by simp;exact mL _ _,by simp,by omega,h5,hb5⟩
  ·have hkb:((K:Int)==(l.length:Int))=false:=by simp;omega
   have hfr1:=fun u=>vJ (l:=l) (k:=K) (by omega) u;go_wp2_with fail;refine(aI _ _ _ _ h5 (by omega) (by omega) (by omega)).mono ?_;rintro e w6 ⟨r,rfl,r0,r1,hk⟩;have h6:=hk.rdr h5
   have hb6:=hb5.trans hk.beside;have hKI:(K:Int)<(l.length:Int):=by omega
   clear hk h5 hb5 hfr hke;by_cases hr:r=0
   ·subst hr;go_wp2
    go_quiet (fail)
    go_wp2;go_ret;exact⟨l.take K++l.drop (K+1),_,by simp;exact AR _ _,by simp;omega,by omega,h6,hb6.drewN _⟩
   ·have hrb:(r==0)=false:=by simp[hr]
    clear hr;go_wp2
    go_quiet (fail)
    go_wp2;go_ret;exact⟨l.take K++c::l.drop (K+1),_,by simp;exact CD _ _ _,by simp;omega,by omega,h6,hb6.drewN _⟩
end Go.Proofs.YtkcmamepoplcdaaGreatDoor
