/-
  What the drawing functions return: the reader's pick is a number below its bound, and writes the reader's place alone; what is drawn is some number that fits its kind.
-/
import Derived.Test.YtelkehjdfcoeiaaGreatRows
import Derived.WalkKit
import Derived.Deep.QuietTactic
import Derived.BigQuiet
import Derived.Deep.RegionWith
import Derived.WalkSmall
import Derived.Below
set_option maxHeartbeats 1000000
set_option maxRecDepth 100000
namespace Go.Proofs.YtelkehjdfcoeiaaGreat
open Go.RowKit
set_option linter.unusedVariables false
abbrev dD:=@World.block_lt_of_cell?
abbrev bG:=@Go.RowKit.Below.refl
abbrev cD:=@bodyPost_ret
abbrev lB:=@Nat.lt_of_lt_of_le
abbrev lM:=@World.cell?_of_block
abbrev jQ:=@Nat.le_trans
abbrev tD:=@Nat.not_lt_zero
abbrev JB:=@World.cell?_alloc_lt
theorem gF:(∀{α:Type}(xs:List α)(i:Nat)(h:i<xs.toArray.size),xs.toArray[i]=xs[i]'(by simpa using h))∧(∀{α:Type}(a:α)(l:List α)(i:Nat)(h:i+1<(a::l).length),(a::l)[i+1]=l[i]'(by simpa using h))∧(∀{α:Type}(a:α)(l:List α)(h:0<(a::l).length),(a::l)[0]=a)∧(∀{α:Type}(l:List α)(i:Nat)(a:α),l.toArray.setIfInBounds i a=(l.set i a).toArray)∧(∀{α:Type}(x:α)(xs:List α)(a:α),(x::xs).set 0 a=a::xs)∧(∀{α:Type}(x:α)(xs:List α)(n:Nat)(a:α),(x::xs).set (n+1) a=x::xs.set n a):=⟨fun _ _ _=>List.getElem_toArray ..,fun _ _ _ _=>List.getElem_cons_succ ..,fun _ _ _=>List.getElem_cons_zero ..,fun _ _ _=>List.setIfInBounds_toArray ..,fun _ _ _=>List.set_cons_zero ..,fun _ _ _ _=>List.set_cons_succ ..⟩
theorem Dk (x y:Int) (hx:0≤x) (hx':x<1099511627776) (hy:0≤y) (hy':y<1099511627776):0≤bits .xor .i64 x y:=by
 obtain⟨a,rfl⟩:=Int.eq_ofNat_of_zero_le hx;obtain⟨b,rfl⟩:=Int.eq_ofNat_of_zero_le hy;have hab:a ^^^ b<2 ^ 40:=Nat.xor_lt_two_pow (by omega) (by omega)
 have h1:(BitVec.ofInt 64 (a:Int)).toNat=a:=by rw[BitVec.ofInt_natCast,BitVec.toNat_ofNat];exact Nat.mod_eq_of_lt (by omega)
 have h2:(BitVec.ofInt 64 (b:Int)).toNat=b:=by rw[BitVec.ofInt_natCast,BitVec.toNat_ofNat];exact Nat.mod_eq_of_lt (by omega)
 show 0≤IntKind.i64.wrap ((BitVec.ofInt 64 (a:Int) ^^^ BitVec.ofInt 64 (b:Int)).toNat:Int);rw[BitVec.toNat_xor,h1,h2];simp only[IntKind.wrap,IntKind.bits,IntKind.signed];generalize a ^^^ b=c at hab;have hc:(c:Int)<1099511627776:=by omega
 simp;omega
theorem TB {x n:Int} (hx:0≤x) (hn:1≤n):0≤x.tmod n∧x.tmod n<n:=by rw[Int.tmod_eq_emod_of_nonneg hx];exact⟨Int.emod_nonneg _ (by omega),Int.emod_lt_of_pos _ (by omega)⟩
theorem Gn (w:World) (B bb off len cap p:Nat) (n:Int) (z:Nat→Int) (hc0:w.cell? ⟨B,0,none⟩=some (.slice (some ⟨bb,off,none⟩) len cap)) (hc1:w.cell? ⟨B,1,none⟩=some (.int .i64 p)) (hf:w.frozen? ⟨B,1,none⟩=false) (hbb:bb<B) (hz:∀i,i<len→w.cell? ⟨bb,off+i,none⟩=some (.int .u8 (z i))) (hz0:∀i,0≤z i) (hz1:∀i,z i≤255) (hl:len≤2000) (hn:1≤n) (hn':n≤100000) (hp:p<len):Calls Tryz.prog 48 #[.pointer (some ⟨B,0,none⟩),.int .i64 n] w fun e w'=>∃v,e= .returned (.int .i64 v)∧0≤v∧v<n∧∃nq,w'=(w.setCell ⟨B,1,none⟩ (.int .i64 (p+1))).drewN nq:=by
 have hne:¬bb=B:=by omega
 have hl0:((len:Int)==0)=false:=by simp;omega
 have hpl:(p:Int)<(len:Int):=by omega
 have hcp:=hz p hp;have z0:=hz0 p
 have z1:=hz1 p;have hm0:=Int.emod_nonneg (z p) (show n≠0 by omega)
 have hm1:=Int.emod_lt_of_pos (z p) (show 0<n by omega);clear hz hz0 hz1;go_enter Tryz.func48,Tryz.ntmps48;go_wp2;go_ret;exact⟨_,rfl,hm0,hm1,0,rfl⟩
theorem VP (w:World) (B cap p:Nat) (a:Option Addr) (n:Int) (hc0:w.cell? ⟨B,0,none⟩=some (.slice a 0 cap)) (hc1:w.cell? ⟨B,1,none⟩=some (.int .i64 p)) (hf:w.frozen? ⟨B,1,none⟩=false) (hn:1≤n) (hp:(p:Int)≤100000):Calls Tryz.prog 48 #[.pointer (some ⟨B,0,none⟩),.int .i64 n] w fun e w'=>∃v,e= .returned (.int .i64 v)∧0≤v∧v<n∧∃nq,w'=(w.setCell ⟨B,1,none⟩ (.int .i64 (p+1))).drewN nq:=by go_enter Tryz.func48,Tryz.ntmps48;go_wp2;go_ret;exact⟨_,rfl,by omega,by omega,0,rfl⟩
theorem VQ (w:World) (B bb off len cap p:Nat) (n:Int) (z:Nat→Int) (hc0:w.cell? ⟨B,0,none⟩=some (.slice (some ⟨bb,off,none⟩) len cap)) (hc1:w.cell? ⟨B,1,none⟩=some (.int .i64 p)) (hf:w.frozen? ⟨B,1,none⟩=false) (hbb:bb<B) (hz:∀i,i<len→w.cell? ⟨bb,off+i,none⟩=some (.int .u8 (z i))) (hz0:∀i,0≤z i) (hz1:∀i,z i≤255) (hl:len≤2000) (hn:1≤n) (hn':n≤100000) (hp:len≤p) (h0:0<len) (hp':(p:Int)≤100000):Calls Tryz.prog 48 #[.pointer (some ⟨B,0,none⟩),.int .i64 n] w fun e w'=>∃v,e= .returned (.int .i64 v)∧0≤v∧v<n∧∃nq,w'=(w.setCell ⟨B,1,none⟩ (.int .i64 (p+1))).drewN nq:=by
 have hne:¬bb=B:=by omega
 have hl0:((len:Int)==0)=false:=by simp;omega
 have hlp:(0:Int)<(len:Int):=by omega
 have hl2:(len:Int)≤2000:=by omega
 have hpl:(len:Int)≤(p:Int):=by omega
 have i1:=Int.emod_nonneg (p:Int) (show(len:Int)≠0 by omega);have i2:=Int.emod_lt_of_pos (p:Int) hlp
 have j1:=Int.emod_nonneg ((p:Int)*7+3) (show(len:Int)≠0 by omega);have j2:=Int.emod_lt_of_pos ((p:Int)*7+3) hlp
 have q1:0≤(p:Int) / (len:Int):=Int.ediv_nonneg (by omega) (by omega);have q2:(p:Int) / (len:Int)≤100000:=Int.le_trans (Int.ediv_le_self _ (by omega)) hp'
 have hci:=hz (p%len) (Nat.mod_lt _ h0);have hcj:=hz ((p*7+3)%len) (Nat.mod_lt _ h0)
 have zi0:=hz0 (p%len);have zi1:=hz1 (p%len)
 have zj0:=hz0 ((p*7+3)%len);have zj1:=hz1 ((p*7+3)%len)
 clear hz hz0 hz1;go_enter Tryz.func48,Tryz.ntmps48;go_wp2
 go_quiet (fail)
 go_wp2;go_ret;exact⟨_,rfl,(TB (Dk _ _ (by omega) (by omega) (by omega) (by omega)) hn).1,(TB (Dk _ _ (by omega) (by omega) (by omega) (by omega)) hn).2,_,rfl⟩
def kO (w:World) (B p:Nat):Prop:=
 w.cell? ⟨B,1,none⟩=some (.int .i64 p)∧w.frozen? ⟨B,1,none⟩=false∧
 ∃(a:Option Addr) (len cap:Nat),w.cell? ⟨B,0,none⟩=some (.slice a len cap)∧len≤2000∧
  (len=0∨∃(bb off:Nat) (z:Nat→Int),a=some ⟨bb,off,none⟩∧bb<B∧(∀i,i<len→w.cell? ⟨bb,off+i,none⟩=some (.int .u8 (z i)))∧(∀i,0≤z i)∧∀i,z i≤255)
def wX (w w':World) (B p:Nat):Prop:=∃nq,w'=(w.setCell ⟨B,1,none⟩ (.int .i64 ((p+1:Nat):Int))).drewN nq
theorem bR (w:World) (B p:Nat) (n:Int) (h:kO w B p) (hn:1≤n) (hn':n≤100000) (hp:(p:Int)≤100000):Calls Tryz.prog 48 #[.pointer (some ⟨B,0,none⟩),.int .i64 n] w fun e w'=>∃v,e= .returned (.int .i64 v)∧0≤v∧v<n∧wX w w' B p:=by
 obtain⟨hc1,hf,a,len,cap,hc0,hl,h0⟩:=h;have key:∀e w',(∃v,e=Ending.returned (.int .i64 v)∧0≤v∧v<n∧∃nq,w'=(w.setCell ⟨B,1,none⟩ (.int .i64 (p+1))).drewN nq)→∃v,e= .returned (.int .i64 v)∧0≤v∧v<n∧wX w w' B p:=by rintro e w' ⟨v,h1,h2,h3,nq,h4⟩;exact⟨v,h1,h2,h3,nq,by rw[h4];rfl⟩
 by_cases hz:len=0
 ·subst hz;exact(VP w B cap p a n hc0 hc1 hf hn hp).mono key
 ·obtain⟨bb,off,z,rfl,hbb,hb,z0,z1⟩:=h0.resolve_left hz;by_cases hpl:p<len
  ·exact(Gn w B bb off len cap p n z hc0 hc1 hf hbb hb z0 z1 hl hn hn' hpl).mono key
  ·exact(VQ w B bb off len cap p n z hc0 hc1 hf hbb hb z0 z1 hl hn hn' (by omega) (by omega) hp).mono key
structure aF (B:Nat) (w w':World):Prop where
 os:w'.os=w.os
 tape:w'.tape=w.tape
 output:w'.output=w.output
 size:w.heap.size≤w'.heap.size
 block:∀k,k<w.heap.size→k≠B→w'.heap[k]? =w.heap[k]?
theorem aF.refl (B:Nat) (w:World):aF B w w:=⟨rfl,rfl,rfl,Nat.le_refl _,fun _ _ _=>rfl⟩
theorem aF.trans {B:Nat} {a b c:World} (h:aF B a b) (k:aF B b c):aF B a c:=
 ⟨k.os.trans h.os,k.tape.trans h.tape,k.output.trans h.output,jQ h.size k.size,fun i hi hn=>(k.block i (lB hi h.size) hn).trans (h.block i hi hn)⟩
theorem aF.alloc {B:Nat} {a w:World} (h:aF B a w) (o:Obj):aF B a (w.alloc o):=
 h.trans ⟨rfl,rfl,rfl,by simp,fun k hk _=>Below.heap_alloc _ _ _ hk⟩
theorem aF.drewN {B:Nat} {a w:World} (h:aF B a w) (n:Nat):aF B a (w.drewN n):=h.trans ⟨rfl,rfl,rfl,Nat.le_refl _,fun _ _ _=>rfl⟩
theorem aF.cell {B:Nat} {w w':World} (h:aF B w w') {b o:Nat} (hb:b<w.heap.size) (hn:b≠B):w'.cell? ⟨b,o,none⟩=w.cell? ⟨b,o,none⟩:=
 lM (w:=w) (h.block b hb hn)
theorem aF.below {B n:Nat} {a w w':World} (k:Below n a w) (h:aF B w w') (hB:n≤B) (hn:n≤w.heap.size):Below n a w':=
 k.trans ⟨h.os,h.tape,h.output,h.size,fun k hk=>h.block k (by omega) (by omega)⟩
theorem wX.beside {w w':World} {B p:Nat} (h:wX w w' B p):aF B w w':=by
 obtain⟨nq,rfl⟩:=h;have h:aF B w (w.setCell ⟨B,1,none⟩ (.int .i64 ((p+1:Nat):Int))):=⟨rfl,rfl,rfl,by simp[World.setCell],fun k _ hk=>Below.heap_setCell _ _ _ _ hk⟩
 exact h.drewN nq
theorem kO.lt {w:World} {B p:Nat} (h:kO w B p):B<w.heap.size:=dD w _ h.1
theorem wX.rdr {w w':World} {B p:Nat} (hp:wX w w' B p) (h:kO w B p):kO w' B (p+1):=by
 have hb:=hp.beside;have hlt:=h.lt
 obtain⟨nq,rfl⟩:=hp;obtain⟨hc1,hf,a,len,cap,hc0,hl,h0⟩:=h;refine⟨by go_simp,by go_simp,a,len,cap,by go_simp,hl,?_⟩;rcases h0 with h0|⟨bb,off,z,rfl,hbb,hz,z0,z1⟩
 ·exact .inl h0
 ·exact .inr ⟨bb,off,z,rfl,hbb,fun i hi=>by rw[hb.cell (by omega) (by omega)];exact hz i hi,z0,z1⟩
theorem kO.alloc {w:World} {B p:Nat} (h:kO w B p) (o:Obj):kO (w.alloc o) B p:=by
 have hlt:=h.lt;obtain⟨hc1,hf,a,len,cap,hc0,hl,h0⟩:=h;refine⟨by rw[World.cell?_alloc_past o B 1 hlt];exact hc1,by rw[World.frozen?_alloc_past o B 1 hlt];exact hf,a,len,cap,by rw[World.cell?_alloc_past o B 0 hlt];exact hc0,hl,?_⟩;rcases h0 with h0|⟨bb,off,z,rfl,hbb,hz,z0,z1⟩
 ·exact .inl h0
 ·exact .inr ⟨bb,off,z,rfl,hbb,fun i hi=>by rw[World.cell?_alloc_past o bb _ (by omega)];exact hz i hi,z0,z1⟩
theorem kO.drewN {w:World} {B p:Nat} (h:kO w B p) (n:Nat):kO (w.drewN n) B p:=h
def QC (w:World) (a:Option Addr) (len cap:Nat):Prop:=
 len≤cap∧cap≤maxLen∧(len=0∨∃(bb off:Nat) (z:Nat→Int),a=some ⟨bb,off,none⟩∧bb<w.heap.size∧(∀i,i<len→w.cell? ⟨bb,off+i,none⟩=some (.int .u8 (z i)))∧(∀i,0≤z i)∧∀i,z i≤255)
theorem QC.below {w w':World} {a:Option Addr} {len cap:Nat} (h:QC w a len cap) (hb:Below w.heap.size w w'):QC w' a len cap:=by
 obtain⟨h1,h2,h3⟩:=h;refine⟨h1,h2,?_⟩;rcases h3 with h0|⟨bb,off,z,rfl,hbb,hz,z0,z1⟩
 ·exact .inl h0
 ·exact .inr ⟨bb,off,z,rfl,lB hbb hb.size,fun i hi=>by rw[hb.cell (p:=⟨bb,off+i,none⟩) hbb];exact hz i hi,z0,z1⟩
theorem SM (w:World) (a:Option Addr) (len cap:Nat) (t:TypeId) (hl:len≤2000) (h:len=0∨∃(bb off:Nat) (z:Nat→Int),a=some ⟨bb,off,none⟩∧bb<w.heap.size∧(∀i,i<len→w.cell? ⟨bb,off+i,none⟩=some (.int .u8 (z i)))∧(∀i,0≤z i)∧∀i,z i≤255):kO (w.alloc (.cells #[.slice a len cap,.int .i64 0] t)) w.heap.size 0:=by
 refine⟨by rw[World.cell?_alloc_at _ _ _ _ rfl];rfl,by rw[World.frozen?_alloc_at _ _ _ _ rfl],a,len,cap,by rw[World.cell?_alloc_at _ _ _ _ rfl];rfl,hl,?_⟩;rcases h with h0|⟨bb,off,z,rfl,hbb,hz,z0,z1⟩
 ·exact .inl h0
 ·exact .inr ⟨bb,off,z,rfl,hbb,fun i hi=>by rw[World.cell?_alloc_past _ bb _ hbb];exact hz i hi,z0,z1⟩
theorem BT (w:World) (a:Option Addr) (len cap:Nat) (h:QC w a len cap):Calls Tryz.prog 45 #[.slice a len cap] w fun e w'=>e= .returned (.pointer (some ⟨w.heap.size,0,none⟩))∧kO w' w.heap.size 0∧Below w.heap.size w w':=by
 obtain⟨h1,h2,h3⟩:=h;unfold maxLen at h2;by_cases hl:len≤2000
 ·have hl':(len:Int)≤2000:=by omega
  go_enter Tryz.func45,Tryz.ntmps45;go_wp2;go_ret;exact⟨rfl,SM w a len cap _ hl h3,(bG _ _).alloc (Nat.le_refl _) _⟩
 ·have hl':(2000:Int)<(len:Int):=by omega
  have hc':(2000:Int)≤(cap:Int):=by omega
  rcases h3 with h0|⟨bb,off,z,rfl,hbb,hz,z0,z1⟩
  ·omega
  ·have hn:=SM w (some ⟨bb,off,none⟩) 2000 cap 119 (Nat.le_refl _) (.inr ⟨bb,off,z,rfl,hbb,fun i hi=>hz i (by omega),z0,z1⟩);clear hz z0 z1;go_enter Tryz.func45,Tryz.ntmps45;go_wp2;go_ret;exact⟨rfl,hn,(bG _ _).alloc (Nat.le_refl _) _⟩
def qT (a b:Int):Int:=if 0≤a∧a≤100∧0≤b∧b≤100 then a*b%101 else 0
def pw (a:Int):Nat→Int
 |0=>1
 |n+1=>pw a n*a%101
def Er (a n:Int):Int:=if 0≤a∧a≤100∧0≤n∧n≤1000 then pw a n.toNat else 0
def iv (a:Int):Int:=pw a 99
def kE (a:Int):Int:=if 0≤a∧a≤100 then iv a else 0
def fl (n:Int):Nat→Int
 |0=>1
 |i+1=>fl n i*((n-i)%101)%101
def kP (n k:Int):Int:=if 0≤n∧n≤60∧0≤k∧k≤60 then fl n k.toNat else 0
def fV (n k:Int):Int:=if 0≤n∧n≤60∧0≤k∧k≤n then fl n k.toNat*iv (fl k k.toNat)%101 else 0
def YE (a b:Int):Int:=if 0≤a∧a≤100∧0≤b∧b≤100 then a*iv b%101 else 0
theorem Im (a:Int) (n:Nat):0≤pw a n∧pw a n≤100:=by
 cases n with
 |zero=>simp[pw]
 |succ n=>simp only[pw];omega
theorem EN (a:Int):0≤iv a∧iv a≤100:=Im a 99
theorem ED (n:Int) (i:Nat):0≤fl n i∧fl n i≤100:=by
 cases i with
 |zero=>simp[fl]
 |succ i=>simp only[fl];omega
theorem oR {a b:Int} (ha:0≤a) (ha':a≤100) (hb:0≤b) (hb':b≤100):0≤a*b∧a*b≤10000:=by
 refine⟨Int.mul_nonneg ha hb,?_⟩
 calc a*b≤100*100:=Int.mul_le_mul ha' hb' hb (by omega)
  _=10000:=by omega
theorem Nc (a:Int) (n:Nat):pw a n=a ^ n%101:=by
 induction n with
 |zero=>simp[pw]
 |succ n ih=>simp only[pw,ih,Int.pow_succ];rw[Int.mul_emod,Int.emod_emod_of_dvd _ (Int.dvd_refl 101),←Int.mul_emod]
theorem RG (a:Int) (n:Nat):(a%101) ^ n%101=a ^ n%101:=by
 induction n with
 |zero=>simp
 |succ n ih=>
  rw[Int.pow_succ,Int.pow_succ,Int.mul_emod,ih,Int.emod_emod_of_dvd _ (Int.dvd_refl 101),←Int.mul_emod]
def qY (a:Int) (n:Nat) (b m x:Int):Prop:=x*b ^ m.toNat%101=a ^ n%101
theorem LZ (a:Int) (n:Int):qY a n.toNat a n 1:=by unfold qY;rw[Int.one_mul]
theorem VY {a:Int} {n:Nat} {b x:Int} (h:qY a n b 0 x) (h0:0≤x) (h1:x≤100):x=pw a n:=by unfold qY at h;rw[Nc,←h];simp;omega
theorem Cw (b:Int) (m:Nat):(b*b) ^ m=b ^ (2*m):=by rw[Int.pow_mul,Int.pow_succ,Int.pow_succ,Int.pow_zero,Int.one_mul]
theorem PN {a:Int} {n:Nat} {b m x:Int} (h:qY a n b m x) (hm:0<m) (he:m%2=0):qY a n (b*b%101) (m / 2) x:=by
 unfold qY at *;rw[←h];have e:m.toNat=2*(m / 2).toNat:=by omega
 rw[e,←Cw,Int.mul_emod,RG,←Int.mul_emod]
theorem VZ {a:Int} {n:Nat} {b m x:Int} (h:qY a n b m x) (hm:0<m) (he:m%2=1):qY a n (b*b%101) (m / 2) (x*b%101):=by
 unfold qY at *;rw[←h];have e:m.toNat=2*(m / 2).toNat+1:=by omega
 rw[e,Int.pow_succ,←Cw,Int.mul_emod,RG,Int.emod_emod_of_dvd _ (Int.dvd_refl 101),←Int.mul_emod];congr 1;rw[Int.mul_assoc,Int.mul_comm b]
theorem Ew (n:Int) (j i:Nat) (hn:n=j) (h:j<i):fl n i=0:=by
 induction i with
 |zero=>omega
 |succ i ih=>
  simp only[fl];by_cases e:j=i
  ·subst e;subst hn;have:((j:Int)-j)%101=0:=by omega
   rw[this];simp
  ·rw[ih (by omega)];simp
theorem Ev (n:Int) (j:Nat) (h:(j:Int)≤n) (hn:n≤60):fl n (j+1)=fl n j*(n-j)%101:=by
 simp only[fl];have:(n-(j:Int))%101=n-j:=by omega
 rw[this]
theorem sP {k:IntKind} {a b:Int} (h:a=b):Ending.returned (.int k a)= .returned (.int k b):=by rw[h]
theorem jO {a b:Int} (h1:0≤a) (h2:a≤100) (h3:0≤b) (h4:b≤100):qT a b=a*b%101:=if_pos ⟨h1,h2,h3,h4⟩
theorem QL {a b:Int} (h1:0≤a) (h2:a≤100) (h3:0≤b) (h4:b≤100):YE a b=a*iv b%101:=if_pos ⟨h1,h2,h3,h4⟩
theorem vF {a:Int} (h1:0≤a) (h2:a≤100):kE a=iv a:=if_pos ⟨h1,h2⟩
theorem QN {a n:Int} (h1:0≤a) (h2:a≤100) (h3:0≤n) (h4:n≤1000):Er a n=pw a n.toNat:=if_pos ⟨h1,h2,h3,h4⟩
theorem vE {n k:Int} (h1:0≤n) (h2:n≤60) (h3:0≤k) (h4:k≤60):kP n k=fl n k.toNat:=if_pos ⟨h1,h2,h3,h4⟩
theorem AO {n k:Int} (h1:0≤n) (h2:n≤60) (h3:0≤k) (h4:k≤n):fV n k=fl n k.toNat*iv (fl k k.toNat)%101:=if_pos ⟨h1,h2,h3,h4⟩
theorem JZ {a b:Int} (h:¬(0≤a∧a≤100∧0≤b∧b≤100)):qT a b=0:=if_neg h
theorem YF {a b:Int} (h:¬(0≤a∧a≤100∧0≤b∧b≤100)):YE a b=0:=if_neg h
theorem JY {a:Int} (h:¬(0≤a∧a≤100)):kE a=0:=if_neg h
theorem KD {a n:Int} (h:¬(0≤a∧a≤100∧0≤n∧n≤1000)):Er a n=0:=if_neg h
theorem EC {n k:Int} (h:¬(0≤n∧n≤60∧0≤k∧k≤60)):kP n k=0:=if_neg h
theorem yI {n k:Int} (h:¬(0≤n∧n≤60∧0≤k∧k≤n)):fV n k=0:=if_neg h
theorem yY {a b:Int} (h:(a==b)=false):a≠b:=by simpa using h
theorem Es (a:Int):Er a 99=kE a:=by
 by_cases h:0≤a∧a≤100
 ·rw[QN h.1 h.2 (by omega) (by omega),vF h.1 h.2];rfl
 ·rw[KD (by omega),JY h]
theorem JW {n k:Int} (h1:0≤n) (h2:n≤60) (h3:0≤k) (h4:k≤n):qT (kP n k) (kE (kP k k))=fV n k:=by
 have b1:=ED n k.toNat;have b2:=ED k k.toNat
 have b3:=EN (fl k k.toNat);rw[AO h1 h2 h3 h4,vE h1 h2 h3 (by omega),vE h3 (by omega) h3 (by omega),vF b2.1 b2.2,jO b1.1 b1.2 b3.1 b3.2]
theorem nZ (a:Int):0≤kE a∧kE a≤100:=by have:=EN a;unfold kE;split<;>omega
theorem EZ:∀a:Fin 101,∀b:Fin 101,a.val*b.val%101=0→a.val=0∨b.val=0:=by decide+kernel
theorem GS {a b:Int} (ha:0≤a∧a≤100) (hb:0≤b∧b≤100) (h:a*b%101=0):a=0∨b=0:=by
 obtain⟨x,rfl⟩:=Int.eq_ofNat_of_zero_le ha.1;obtain⟨y,rfl⟩:=Int.eq_ofNat_of_zero_le hb.1;have:=EZ ⟨x,by omega⟩ ⟨y,by omega⟩ (by simp only;omega)
 simp only at this;omega
theorem QM {a b:Int} (ha:0≤a∧a≤100) (hb:0≤b∧b≤100) (h1:a≠0) (h2:b≠0):qT a b≠0:=by
 rw[jO ha.1 ha.2 hb.1 hb.2];intro h;have:=GS ha hb h
 omega
theorem Fb:∀a:Fin 101,a.val≠0→pw (a.val:Int) 99*(a.val:Int)%101=1:=by decide+kernel
theorem Jl {b:Int} (hb:0≤b∧b≤100) (h0:b≠0):iv b*b%101=1:=by obtain⟨x,rfl⟩:=Int.eq_ofNat_of_zero_le hb.1;exact Fb ⟨x,by omega⟩ (by simp only;omega)
theorem vH {b:Int} (hb:0≤b∧b≤100) (h0:b≠0):qT (kE b) b=1:=by rw[vF hb.1 hb.2,jO (EN b).1 (EN b).2 hb.1 hb.2,Jl hb h0]
theorem qG (a:Int) (w:World) (h1:0≤a) (h2:a≤100):Calls Tryz.prog 54 #[.int .i64 a] w fun e w'=>e= .returned (.bool true)∧w'=w:=by have d1:decide (a<101)=true:=decide_eq_true (by omega);go_enter Tryz.func54,Tryz.ntmps54;go_wp2;go_ret;exact⟨rfl,rfl⟩
theorem oG (a:Int) (w:World) (h:a<0∨100<a):Calls Tryz.prog 54 #[.int .i64 a] w fun e w'=>e= .returned (.bool false)∧w'=w:=by
 rcases h with h|h
 ·go_enter Tryz.func54,Tryz.ntmps54;go_wp2;go_ret;exact⟨rfl,rfl⟩
 ·have d1:decide (a<101)=false:=decide_eq_false (by omega);go_enter Tryz.func54,Tryz.ntmps54;go_wp2;go_ret;exact⟨rfl,rfl⟩
theorem cX (n l h:Int) (w:World) (h1:l≤n) (h2:n≤h):Calls Tryz.prog 30 #[.int .i64 n,.int .i64 l,.int .i64 h] w fun e w'=>e= .returned (.bool true)∧w'=w:=by have d1:decide (n≤h)=true:=decide_eq_true h2;go_enter Tryz.func30,Tryz.ntmps30;go_wp2;go_ret;exact⟨rfl,rfl⟩
theorem eC (n l h:Int) (w:World) (hh:n<l∨(l≤n∧h<n)):Calls Tryz.prog 30 #[.int .i64 n,.int .i64 l,.int .i64 h] w fun e w'=>e= .returned (.bool false)∧w'=w:=by
 rcases hh with h1|⟨h1,h2⟩
 ·go_enter Tryz.func30,Tryz.ntmps30;go_wp2;go_ret;exact⟨rfl,rfl⟩
 ·have d1:decide (n≤h)=false:=decide_eq_false (by omega);go_enter Tryz.func30,Tryz.ntmps30;go_wp2;go_ret;exact⟨rfl,rfl⟩
theorem GV (a:Int) (w:World) (h1:0≤a) (h2:a≤100):Calls Tryz.prog 185 #[.int .i64 a] w fun e w'=>e= .returned (.bool true)∧w'=w:=by go_enter Tryz.func185,Tryz.ntmps185;go_wp2_with (first|(go_at_call 30;first|(refine(cX _ _ _ _ (by omega) (by omega)).mono ?_;rintro e w' ⟨rfl,rfl⟩)|(refine(eC _ _ _ _ (by omega)).mono ?_;rintro e w' ⟨rfl,rfl⟩)));go_ret;exact⟨rfl,rfl⟩
theorem zM (a:Int) (w:World) (h:a<0∨100<a):Calls Tryz.prog 185 #[.int .i64 a] w fun e w'=>e= .returned (.bool false)∧w'=w:=by
 rcases h with h|h
 ·go_enter Tryz.func185,Tryz.ntmps185;go_wp2_with (first|(go_at_call 30;first|(refine(cX _ _ _ _ (by omega) (by omega)).mono ?_;rintro e w' ⟨rfl,rfl⟩)|(refine(eC _ _ _ _ (by omega)).mono ?_;rintro e w' ⟨rfl,rfl⟩)));go_ret;exact⟨rfl,rfl⟩
 ·go_enter Tryz.func185,Tryz.ntmps185;go_wp2_with (first|(go_at_call 30;first|(refine(cX _ _ _ _ (by omega) (by omega)).mono ?_;rintro e w' ⟨rfl,rfl⟩)|(refine(eC _ _ _ _ (by omega)).mono ?_;rintro e w' ⟨rfl,rfl⟩)));go_ret;exact⟨rfl,rfl⟩
theorem qR (a b:Int) (w:World) (h1:0≤a) (h2:a≤100) (h3:0≤b) (h4:b≤100):Calls Tryz.prog 94 #[.int .i64 a,.int .i64 b] w fun e w'=>e= .returned (.int .i64 (a*b%101))∧w'=w:=by obtain⟨hm1,hm2⟩:=oR h1 h2 h3 h4;go_enter Tryz.func94,Tryz.ntmps94;go_wp2;go_ret;exact⟨rfl,rfl⟩
theorem Mt (a b:Int) (w:World) (h1:0≤a) (h2:a≤100) (h3:0≤b) (h4:b≤100):Calls Tryz.prog 173 #[.int .i64 a,.int .i64 b] w fun e w'=>e= .returned (.int .i64 ((a+b)%101))∧w'=w:=by go_enter Tryz.func173,Tryz.ntmps173;go_wp2;go_ret;exact⟨rfl,rfl⟩
theorem Mg (a b:Int) (w:World):Calls Tryz.prog 55 #[.int .i64 a,.int .i64 b] w fun e w'=>e= .returned (.int .i64 (qT a b))∧w'=w:=by
 by_cases h:0≤a∧a≤100∧0≤b∧b≤100
 ·rw[jO h.1 h.2.1 h.2.2.1 h.2.2.2];obtain⟨h1,h2,h3,h4⟩:=h;obtain⟨hm1,hm2⟩:=oR h1 h2 h3 h4;go_enter Tryz.func55,Tryz.ntmps55;go_wp2_with (first|(go_at_call 54;first|(refine(qG _ _ (by omega) (by omega)).mono ?_;rintro e w' ⟨rfl,rfl⟩)|(refine(oG _ _ (by omega)).mono ?_;rintro e w' ⟨rfl,rfl⟩))|(go_at_call 94;refine(qR _ _ _ (by omega) (by omega) (by omega) (by omega)).mono ?_;rintro e w' ⟨rfl,rfl⟩));go_ret;exact⟨rfl,rfl⟩
 ·rw[JZ h];have h':a<0∨100<a∨(0≤a∧a≤100∧b<0)∨(0≤a∧a≤100∧100<b):=by omega
  clear h;rcases h' with h|h|⟨h1,h2,h3⟩|⟨h1,h2,h3⟩
  all_goals
   go_enter Tryz.func55,Tryz.ntmps55;go_wp2_with (first|(go_at_call 54;first|(refine(qG _ _ (by omega) (by omega)).mono ?_;rintro e w' ⟨rfl,rfl⟩)|(refine(oG _ _ (by omega)).mono ?_;rintro e w' ⟨rfl,rfl⟩))|(go_at_call 94;refine(qR _ _ _ (by omega) (by omega) (by omega) (by omega)).mono ?_;rintro e w' ⟨rfl,rfl⟩));go_ret;exact⟨rfl,rfl⟩
theorem Oh (a b:Int) (w:World):Calls Tryz.prog 204 #[.int .i64 a,.int .i64 b] w fun e w'=>e= .returned (.int .i64 (qT a b))∧w'=w:=by
 by_cases h:0≤a∧a≤100∧0≤b∧b≤100
 ·rw[jO h.1 h.2.1 h.2.2.1 h.2.2.2];obtain⟨h1,h2,h3,h4⟩:=h;obtain⟨hm1,hm2⟩:=oR h1 h2 h3 h4;go_enter Tryz.func204,Tryz.ntmps204;go_wp2_with (first|(go_at_call 185;first|(refine(GV _ _ (by omega) (by omega)).mono ?_;rintro e w' ⟨rfl,rfl⟩)|(refine(zM _ _ (by omega)).mono ?_;rintro e w' ⟨rfl,rfl⟩)));go_ret;exact⟨rfl,rfl⟩
 ·rw[JZ h];have h':a<0∨100<a∨(0≤a∧a≤100∧b<0)∨(0≤a∧a≤100∧100<b):=by omega
  clear h;rcases h' with h|h|⟨h1,h2,h3⟩|⟨h1,h2,h3⟩
  all_goals
   go_enter Tryz.func204,Tryz.ntmps204;go_wp2_with (first|(go_at_call 185;first|(refine(GV _ _ (by omega) (by omega)).mono ?_;rintro e w' ⟨rfl,rfl⟩)|(refine(zM _ _ (by omega)).mono ?_;rintro e w' ⟨rfl,rfl⟩)));go_ret;exact⟨rfl,rfl⟩
theorem My (a n:Int) (w:World) (h1:0≤a) (h2:a≤100) (h3:0≤n) (h4:n≤1000):Calls Tryz.prog 184 #[.int .i64 a,.int .i64 n] w fun e w'=>e= .returned (.int .i64 (pw a n.toNat))∧w'=w:=by
 go_enter Tryz.func184,Tryz.ntmps184;go_wp2
 go_loop [0,1,5] (fun a' n' r=>∃b m x:Int,a'= .int .i64 b∧n'= .int .i64 m∧r= .int .i64 x∧0≤b∧b≤100∧0≤m∧m≤1000∧0≤x∧x≤100∧qY a n.toNat b m x) (fun _ n' _=>(intOf n').toNat)
 case atStart=>exact⟨a,n,1,rfl,rfl,rfl,h1,h2,h3,h4,by omega,by omega,LZ a n⟩
 case round=>
  obtain⟨b,m,x,rfl,rfl,rfl,b1,b2,m1,m2,x1,x2,hI⟩:=hrel;by_cases hm:0<m
  ·obtain⟨s1,s2⟩:=oR b1 b2 b1 b2;by_cases ho:m%2=1
   ·obtain⟨t1,t2⟩:=oR x1 x2 b1 b2;have hI':=VZ hI hm ho
    clear hI;have hb:(m%2==1)=true:=by simp[ho]
    clear ho;go_wp2;go_round;case rel=>exact⟨_,_,_,rfl,rfl,rfl,by omega,by omega,by omega,by omega,by omega,by omega,hI'⟩
    case measure=>simp[intOf];omega
   ·have hI':=PN hI hm (by omega);clear hI;have hb:(m%2==1)=false:=by simp[ho]
    clear ho;go_wp2;go_round;case rel=>exact⟨_,_,_,rfl,rfl,rfl,by omega,by omega,by omega,by omega,by omega,by omega,hI'⟩
    case measure=>simp[intOf];omega
  ·have e:m=0:=by omega
   subst e;go_wp2;go_ret;exact⟨sP (VY hI x1 x2),rfl⟩
theorem Oj (a n:Int) (w:World):Calls Tryz.prog 164 #[.int .i64 a,.int .i64 n] w fun e w'=>e= .returned (.int .i64 (Er a n))∧w'=w:=by
 by_cases h:0≤a∧a≤100∧0≤n∧n≤1000
 ·rw[QN h.1 h.2.1 h.2.2.1 h.2.2.2];obtain⟨h1,h2,h3,h4⟩:=h;go_enter Tryz.func164,Tryz.ntmps164;go_wp2_with (first|(go_at_call 185;first|(refine(GV _ _ (by omega) (by omega)).mono ?_;rintro e w' ⟨rfl,rfl⟩)|(refine(zM _ _ (by omega)).mono ?_;rintro e w' ⟨rfl,rfl⟩))|(go_at_call 30;first|(refine(cX _ _ _ _ (by omega) (by omega)).mono ?_;rintro e w' ⟨rfl,rfl⟩)|(refine(eC _ _ _ _ (by omega)).mono ?_;rintro e w' ⟨rfl,rfl⟩)))
  go_loop [5,6] (fun x i=>∃k:Nat,(k:Int)≤n∧i= .int .i64 k∧x= .int .i64 (pw a k)) (fun _ i=>(n-intOf i).toNat)
  case atStart=>exact⟨0,by omega,rfl,rfl⟩
  case round=>
   obtain⟨k,hk,rfl,rfl⟩:=hrel;obtain⟨p1,p2⟩:=Im a k;by_cases hlt:(k:Int)<n
   ·obtain⟨t1,t2⟩:=oR p1 p2 h1 h2;go_wp2;go_round;case rel=>exact⟨k+1,by omega,by go_num,rfl⟩
    case measure=>simp[intOf];omega
   ·go_wp2;go_ret;exact⟨sP (by rw[show n.toNat=k by omega]),rfl⟩
 ·rw[KD h];have h':a<0∨100<a∨(0≤a∧a≤100∧n<0)∨(0≤a∧a≤100∧1000<n):=by omega
  clear h;rcases h' with h|h|⟨h1,h2,h3⟩|⟨h1,h2,h3⟩
  all_goals
   go_enter Tryz.func164,Tryz.ntmps164;go_wp2_with (first|(go_at_call 185;first|(refine(GV _ _ (by omega) (by omega)).mono ?_;rintro e w' ⟨rfl,rfl⟩)|(refine(zM _ _ (by omega)).mono ?_;rintro e w' ⟨rfl,rfl⟩))|(go_at_call 30;first|(refine(cX _ _ _ _ (by omega) (by omega)).mono ?_;rintro e w' ⟨rfl,rfl⟩)|(refine(eC _ _ _ _ (by omega)).mono ?_;rintro e w' ⟨rfl,rfl⟩)));go_ret;exact⟨rfl,rfl⟩
theorem vQ (a:Int) (w:World) (h1:0≤a) (h2:a≤100):Calls Tryz.prog 163 #[.int .i64 a] w fun e w'=>e= .returned (.int .i64 (iv a))∧w'=w:=by go_enter Tryz.func163,Tryz.ntmps163;go_wp2_with (first|(go_at_call 184;refine(My _ _ _ (by omega) (by omega) (by omega) (by omega)).mono ?_;rintro e w' ⟨rfl,rfl⟩));go_ret;exact⟨rfl,rfl⟩
theorem Lz (a:Int) (w:World):Calls Tryz.prog 132 #[.int .i64 a] w fun e w'=>e= .returned (.int .i64 (kE a))∧w'=w:=by
 by_cases h:0≤a∧a≤100
 ·rw[vF h.1 h.2];obtain⟨h1,h2⟩:=h;go_enter Tryz.func132,Tryz.ntmps132;go_wp2_with (first|(go_at_call 54;first|(refine(qG _ _ (by omega) (by omega)).mono ?_;rintro e w' ⟨rfl,rfl⟩)|(refine(oG _ _ (by omega)).mono ?_;rintro e w' ⟨rfl,rfl⟩))|(go_at_call 163;refine(vQ _ _ (by omega) (by omega)).mono ?_;rintro e w' ⟨rfl,rfl⟩));go_ret;exact⟨rfl,rfl⟩
 ·rw[JY h];have h':a<0∨100<a:=by omega
  clear h;rcases h' with h|h
  all_goals
   go_enter Tryz.func132,Tryz.ntmps132;go_wp2_with (first|(go_at_call 54;first|(refine(qG _ _ (by omega) (by omega)).mono ?_;rintro e w' ⟨rfl,rfl⟩)|(refine(oG _ _ (by omega)).mono ?_;rintro e w' ⟨rfl,rfl⟩))|(go_at_call 163;refine(vQ _ _ (by omega) (by omega)).mono ?_;rintro e w' ⟨rfl,rfl⟩));go_ret;exact⟨rfl,rfl⟩
theorem Jk (a:Int) (w:World):Calls Tryz.prog 134 #[.int .i64 a] w fun e w'=>e= .returned (.int .i64 (kE a))∧w'=w:=by go_enter Tryz.func134,Tryz.ntmps134;go_wp2_with (first|(go_at_call 164;refine(Oj _ _ _).mono ?_;rintro e w' ⟨rfl,rfl⟩));go_ret;exact⟨sP (Es a),rfl⟩
theorem Ob (a b:Int) (w:World):Calls Tryz.prog 169 #[.int .i64 a,.int .i64 b] w fun e w'=>e= .returned (.int .i64 (YE a b))∧w'=w:=by
 by_cases h:0≤a∧a≤100∧0≤b∧b≤100
 ·rw[QL h.1 h.2.1 h.2.2.1 h.2.2.2];obtain⟨h1,h2,h3,h4⟩:=h;obtain⟨i1,i2⟩:=EN b;go_enter Tryz.func169,Tryz.ntmps169;go_wp2_with (first|(go_at_call 54;first|(refine(qG _ _ (by omega) (by omega)).mono ?_;rintro e w' ⟨rfl,rfl⟩)|(refine(oG _ _ (by omega)).mono ?_;rintro e w' ⟨rfl,rfl⟩))|(go_at_call 163;refine(vQ _ _ (by omega) (by omega)).mono ?_;rintro e w' ⟨rfl,rfl⟩)|(go_at_call 94;refine(qR _ _ _ (by omega) (by omega) (by omega) (by omega)).mono ?_;rintro e w' ⟨rfl,rfl⟩));go_ret;exact⟨rfl,rfl⟩
 ·rw[YF h];have h':a<0∨100<a∨(0≤a∧a≤100∧b<0)∨(0≤a∧a≤100∧100<b):=by omega
  clear h;rcases h' with h|h|⟨h1,h2,h3⟩|⟨h1,h2,h3⟩
  all_goals
   go_enter Tryz.func169,Tryz.ntmps169;go_wp2_with (first|(go_at_call 54;first|(refine(qG _ _ (by omega) (by omega)).mono ?_;rintro e w' ⟨rfl,rfl⟩)|(refine(oG _ _ (by omega)).mono ?_;rintro e w' ⟨rfl,rfl⟩))|(go_at_call 163;refine(vQ _ _ (by omega) (by omega)).mono ?_;rintro e w' ⟨rfl,rfl⟩)|(go_at_call 94;refine(qR _ _ _ (by omega) (by omega) (by omega) (by omega)).mono ?_;rintro e w' ⟨rfl,rfl⟩));go_ret;exact⟨rfl,rfl⟩
theorem sD (a:Int) (w:World) (h1:0≤a) (h2:a≤60):Calls Tryz.prog 186 #[.int .i64 a] w fun e w'=>e= .returned (.bool true)∧w'=w:=by have d1:decide (a≤60)=true:=decide_eq_true h2;go_enter Tryz.func186,Tryz.ntmps186;go_wp2;go_ret;exact⟨rfl,rfl⟩
theorem pU (a:Int) (w:World) (h:a<0∨60<a):Calls Tryz.prog 186 #[.int .i64 a] w fun e w'=>e= .returned (.bool false)∧w'=w:=by
 rcases h with h|h
 ·go_enter Tryz.func186,Tryz.ntmps186;go_wp2;go_ret;exact⟨rfl,rfl⟩
 ·have d1:decide (a≤60)=false:=decide_eq_false (by omega);go_enter Tryz.func186,Tryz.ntmps186;go_wp2;go_ret;exact⟨rfl,rfl⟩
theorem Et (n k:Int) (w:World) (h1:0≤n) (h2:n≤60) (h3:0≤k) (h4:k≤60):Calls Tryz.prog 187 #[.int .i64 n,.int .i64 k] w fun e w'=>e= .returned (.int .i64 (fl n k.toNat))∧w'=w:=by
 go_enter Tryz.func187,Tryz.ntmps187;go_wp2
 go_loop [0,5,7] (fun a' r i=>∃j:Nat,(j:Int)≤k∧(j:Int)≤n∧a'= .int .i64 (n-j)∧r= .int .i64 (fl n j)∧i= .int .i64 j) (fun _ _ i=>(k-intOf i).toNat)
 case atStart=>exact⟨0,by omega,by omega,by simp,rfl,rfl⟩
 case round=>
  obtain⟨j,hj,hjn,rfl,rfl,rfl⟩:=hrel;obtain⟨p1,p2⟩:=ED n j;by_cases hlt:(j:Int)<k
  ·by_cases hz:n-(j:Int)=0
   ·have hb:(n-(j:Int)==0)=true:=by simp[hz]
    have hf:Hid (fl n k.toNat=0):=Ew n j k.toNat (by omega) (by omega);clear hz;go_wp2;go_ret;exact⟨sP hf.out.symm,rfl⟩
   ·have hb:(n-(j:Int)==0)=false:=by simp[hz]
    clear hz;have hp:0<n-(j:Int):=by have:=yY hb;omega
    obtain⟨t1,t2⟩:=oR p1 p2 (show(0:Int)≤n-j by omega) (show n-(j:Int)≤100 by omega);have hs:Hid (fl n (j+1)=fl n j*(n-j)%101):=Ev n j hjn h2
    go_wp2;go_round;case rel=>exact⟨j+1,by omega,by omega,congrArg (Value.int .i64) (by omega),by rw[hs.out];rfl,by go_num⟩
    case measure=>simp[intOf];omega
  ·go_wp2;go_ret;exact⟨sP (by rw[show k.toNat=j by omega]),rfl⟩
theorem Ii (n k:Int) (w:World):Calls Tryz.prog 192 #[.int .i64 n,.int .i64 k] w fun e w'=>e= .returned (.int .i64 (kP n k))∧w'=w:=by
 by_cases h:0≤n∧n≤60∧0≤k∧k≤60
 ·rw[vE h.1 h.2.1 h.2.2.1 h.2.2.2];obtain⟨h1,h2,h3,h4⟩:=h;go_enter Tryz.func192,Tryz.ntmps192;go_wp2_with (first|(go_at_call 30;first|(refine(cX _ _ _ _ (by omega) (by omega)).mono ?_;rintro e w' ⟨rfl,rfl⟩)|(refine(eC _ _ _ _ (by omega)).mono ?_;rintro e w' ⟨rfl,rfl⟩)))
  go_loop [5,6] (fun x i=>∃j:Nat,(j:Int)≤k∧i= .int .i64 j∧x= .int .i64 (fl n j)) (fun _ i=>(k-intOf i).toNat)
  case atStart=>exact⟨0,by omega,rfl,rfl⟩
  case round=>
   obtain⟨j,hj,rfl,rfl⟩:=hrel;obtain⟨p1,p2⟩:=ED n j;by_cases hlt:(j:Int)<k
   ·obtain⟨t1,t2⟩:=oR p1 p2 (show(0:Int)≤(n-j)%101 by omega) (show(n-(j:Int))%101≤100 by omega);go_wp2;go_round;case rel=>exact⟨j+1,by omega,by go_num,rfl⟩
    case measure=>simp[intOf];omega
   ·go_wp2;go_ret;exact⟨sP (by rw[show k.toNat=j by omega]),rfl⟩
 ·rw[EC h];have h':n<0∨60<n∨(0≤n∧n≤60∧k<0)∨(0≤n∧n≤60∧60<k):=by omega
  clear h;rcases h' with h|h|⟨h1,h2,h3⟩|⟨h1,h2,h3⟩
  all_goals
   go_enter Tryz.func192,Tryz.ntmps192;go_wp2_with (first|(go_at_call 30;first|(refine(cX _ _ _ _ (by omega) (by omega)).mono ?_;rintro e w' ⟨rfl,rfl⟩)|(refine(eC _ _ _ _ (by omega)).mono ?_;rintro e w' ⟨rfl,rfl⟩)));go_ret;exact⟨rfl,rfl⟩
theorem Ls (n k:Int) (w:World):Calls Tryz.prog 176 #[.int .i64 n,.int .i64 k] w fun e w'=>e= .returned (.int .i64 (kP n k))∧w'=w:=by
 by_cases h:0≤n∧n≤60∧0≤k∧k≤60
 ·rw[vE h.1 h.2.1 h.2.2.1 h.2.2.2];obtain⟨h1,h2,h3,h4⟩:=h;go_enter Tryz.func176,Tryz.ntmps176;go_wp2_with (first|(go_at_call 186;first|(refine(sD _ _ (by omega) (by omega)).mono ?_;rintro e w' ⟨rfl,rfl⟩)|(refine(pU _ _ (by omega)).mono ?_;rintro e w' ⟨rfl,rfl⟩))|(go_at_call 187;refine(Et _ _ _ (by omega) (by omega) (by omega) (by omega)).mono ?_;rintro e w' ⟨rfl,rfl⟩));go_ret;exact⟨rfl,rfl⟩
 ·rw[EC h];have h':n<0∨60<n∨(0≤n∧n≤60∧k<0)∨(0≤n∧n≤60∧60<k):=by omega
  clear h;rcases h' with h|h|⟨h1,h2,h3⟩|⟨h1,h2,h3⟩
  all_goals
   go_enter Tryz.func176,Tryz.ntmps176;go_wp2_with (first|(go_at_call 186;first|(refine(sD _ _ (by omega) (by omega)).mono ?_;rintro e w' ⟨rfl,rfl⟩)|(refine(pU _ _ (by omega)).mono ?_;rintro e w' ⟨rfl,rfl⟩))|(go_at_call 187;refine(Et _ _ _ (by omega) (by omega) (by omega) (by omega)).mono ?_;rintro e w' ⟨rfl,rfl⟩));go_ret;exact⟨rfl,rfl⟩
theorem Eg (n k:Int) (w:World):Calls Tryz.prog 175 #[.int .i64 n,.int .i64 k] w fun e w'=>e= .returned (.int .i64 (fV n k))∧w'=w:=by
 by_cases h:0≤n∧n≤60∧0≤k∧k≤n
 ·rw[AO h.1 h.2.1 h.2.2.1 h.2.2.2];obtain⟨h1,h2,h3,h4⟩:=h;obtain⟨p1,p2⟩:=ED n k.toNat;obtain⟨q1,q2⟩:=ED k k.toNat;obtain⟨r1,r2⟩:=EN (fl k k.toNat);have d1:decide (n<k)=false:=decide_eq_false (by omega)
  go_enter Tryz.func175,Tryz.ntmps175;go_wp2_with (first|(go_at_call 186;first|(refine(sD _ _ (by omega) (by omega)).mono ?_;rintro e w' ⟨rfl,rfl⟩)|(refine(pU _ _ (by omega)).mono ?_;rintro e w' ⟨rfl,rfl⟩))|(go_at_call 187;refine(Et _ _ _ (by omega) (by omega) (by omega) (by omega)).mono ?_;rintro e w' ⟨rfl,rfl⟩)|(go_at_call 163;refine(vQ _ _ (by omega) (by omega)).mono ?_;rintro e w' ⟨rfl,rfl⟩)|(go_at_call 94;refine(qR _ _ _ (by omega) (by omega) (by omega) (by omega)).mono ?_;rintro e w' ⟨rfl,rfl⟩));go_ret;exact⟨rfl,rfl⟩
 ·rw[yI h];have h':n<0∨60<n∨(0≤n∧n≤60∧k<0)∨(0≤n∧n≤60∧0≤k∧n<k):=by omega
  clear h;rcases h' with h|h|⟨h1,h2,h3⟩|⟨h1,h2,h3,h4⟩
  all_goals
   go_enter Tryz.func175,Tryz.ntmps175;go_wp2_with (first|(go_at_call 186;first|(refine(sD _ _ (by omega) (by omega)).mono ?_;rintro e w' ⟨rfl,rfl⟩)|(refine(pU _ _ (by omega)).mono ?_;rintro e w' ⟨rfl,rfl⟩))|(go_at_call 187;refine(Et _ _ _ (by omega) (by omega) (by omega) (by omega)).mono ?_;rintro e w' ⟨rfl,rfl⟩));go_ret;exact⟨rfl,rfl⟩
theorem Eh (n k:Int) (w:World):Calls Tryz.prog 191 #[.int .i64 n,.int .i64 k] w fun e w'=>e= .returned (.int .i64 (fV n k))∧w'=w:=by
 by_cases h:0≤n∧n≤60∧0≤k∧k≤n
 ·rw[←JW h.1 h.2.1 h.2.2.1 h.2.2.2];obtain⟨h1,h2,h3,h4⟩:=h;go_enter Tryz.func191,Tryz.ntmps191;go_wp2_with (first|(go_at_call 30;first|(refine(cX _ _ _ _ (by omega) (by omega)).mono ?_;rintro e w' ⟨rfl,rfl⟩)|(refine(eC _ _ _ _ (by omega)).mono ?_;rintro e w' ⟨rfl,rfl⟩))|(go_at_call 192;refine(Ii _ _ _).mono ?_;rintro e w' ⟨rfl,rfl⟩)|(go_at_call 134;refine(Jk _ _).mono ?_;rintro e w' ⟨rfl,rfl⟩)|(go_at_call 204;refine(Oh _ _ _).mono ?_;rintro e w' ⟨rfl,rfl⟩));go_ret;exact⟨rfl,rfl⟩
 ·rw[yI h];have h':n<0∨60<n∨(0≤n∧n≤60∧k<0)∨(0≤n∧n≤60∧0≤k∧n<k):=by omega
  clear h;rcases h' with h|h|⟨h1,h2,h3⟩|⟨h1,h2,h3,h4⟩
  all_goals
   go_enter Tryz.func191,Tryz.ntmps191;go_wp2_with (first|(go_at_call 30;first|(refine(cX _ _ _ _ (by omega) (by omega)).mono ?_;rintro e w' ⟨rfl,rfl⟩)|(refine(eC _ _ _ _ (by omega)).mono ?_;rintro e w' ⟨rfl,rfl⟩)));go_ret;exact⟨rfl,rfl⟩
end Go.Proofs.YtelkehjdfcoeiaaGreat
