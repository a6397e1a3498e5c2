/-
  A term put into a sum, in the model.
-/
import Derived.Test.YtkcmamepoplcdaaGreatDoorTac
import Derived.Deep.RegionWith
import Derived.Orders
set_option maxHeartbeats 2000000
set_option maxRecDepth 100000
namespace Go.Proofs.YtkcmamepoplcdaaGreatDoor
open Go.RowKit
set_option linter.unusedVariables false
def jU (c:Int) (m:M) (L:List T):List T:=if c=0 then L else dN (lf L) L.length (fun _=>⟨c,m⟩) 1 0 0
def tY (L:List T):Prop:=∀t∈L,0≤t.c∧t.c≤100
theorem oV:tY []:=fun t ht=>by simp at ht
theorem wV {L:List T} {i:Nat} (h:i<L.length):lf L i∈L:=by unfold lf;rw[List.getD_eq_getElem?_getD,List.getElem?_eq_getElem h];exact List.getElem_mem h
theorem tY.at {L:List T} (h:tY L):∀i,i<L.length→0≤(lf L i).c∧(lf L i).c≤100:=fun i hi=>h _ (wV hi)
theorem lF {f:Nat→T} {la:Nat} {g:Nat→T} {lb:Nat} (hf:∀i,i<la→0≤(f i).c∧(f i).c≤100) (hg:∀i,i<lb→0≤(g i).c∧(g i).c≤100):∀(u i k:Nat),tY (eG f la g lb u i k)
 |0,_,_=>by intro t ht;simp[eG]at ht
 |u+1,i,k=>by
  have a1:=lF hf hg u (i+1) k;have a2:=lF hf hg u i (k+1)
  have a3:=lF hf hg u (i+1) (k+1);intro t ht;simp only[eG]at ht;split at ht
  ·rename_i hh;split at ht
   ·rcases List.mem_cons.1 ht with rfl|ht
    ·exact hf i hh.1
    ·exact a1 t ht
   ·split at ht
    ·rcases List.mem_cons.1 ht with rfl|ht
     ·exact hg k hh.2
     ·exact a2 t ht
    ·split at ht
     ·rcases List.mem_cons.1 ht with rfl|ht
      ·dsimp only;omega
      ·exact a3 t ht
     ·exact a3 t ht
  ·split at ht
   ·rename_i hh;rcases List.mem_cons.1 ht with rfl|ht
    ·exact hf i hh
    ·exact a1 t ht
   ·split at ht
    ·rename_i hh;rcases List.mem_cons.1 ht with rfl|ht
     ·exact hg k hh
     ·exact a2 t ht
    ·cases ht
theorem xB {c:Int} {m:M} {L:List T} (hL:tY L) (h0:0≤c) (h1:c≤100):tY (jU c m L):=by
 unfold jU;split
 ·exact hL
 ·exact lF hL.at (fun _ _=>⟨h0,h1⟩) _ _ _
theorem tB (c:Int) (m:M) (L:List T):(jU c m L).length≤L.length+1:=by
 unfold jU;split
 ·omega
 ·have:=rK (lf L) L.length (fun _=>⟨c,m⟩) 1 0 0;omega
theorem xE (w:World) (t:T):Rd (w.alloc (.cells #[.int .i64 t.c,.int .i64 t.m.x,.int .i64 t.m.y,.int .i64 t.m.d,.int .i64 t.m.e] 79)) (some ⟨w.heap.size,0,none⟩) 1 1 (fun _=>t):=by
 refine⟨aE _,by omega,.inr ⟨w.heap.size,0,rfl,by simp,fun i hi=>?_⟩⟩;obtain rfl:i=0:=by omega
 exact⟨by rw[World.cell?_alloc_at _ _ _ _ rfl];rfl,by rw[World.cell?_alloc_at _ _ _ _ rfl];rfl,by rw[World.cell?_alloc_at _ _ _ _ rfl];rfl,by rw[World.cell?_alloc_at _ _ _ _ rfl];rfl,by rw[World.cell?_alloc_at _ _ _ _ rfl];rfl⟩
theorem wR (w:World) (lo:Nat) (v:Value) (L:List T) (c x y d e:Int) (ho:w.ownsRow lo 79 5 v L.length (aN L)) (hlo:lo≤w.heap.size) (hl:L.length≤1000) (hL:tY L) (h0:0≤c) (h1:c≤100):Calls Tryz.prog 105 #[v,.int .i64 c,.agg #[.int .i64 x,.int .i64 y,.int .i64 d,.int .i64 e]] w fun r w'=>∃v',r= .returned v'∧Below w.heap.size w w'∧w'.ownsRow lo 79 5 v' (jU c ⟨x,y,d,e⟩ L).length (aN (jU c ⟨x,y,d,e⟩ L)):=by
 by_cases hc:c=0
 ·subst hc;have e1:jU 0 ⟨x,y,d,e⟩ L=L:=by simp[jU]
  rw[e1];have HO:=aA (bD ho (aG w (.cells #[.int .i64 x,.int .i64 y,.int .i64 d,.int .i64 e] 77)))
  clear ho e1;go_enter Tryz.func105,Tryz.ntmps105;go_wp2;go_ret;exact⟨_,rfl,aG w _,HO.out⟩
 ·have hcb:(c==0)=false:=by simp[hc]
  have e1:jU c ⟨x,y,d,e⟩ L=dN (lf L) L.length (fun _=>⟨c,⟨x,y,d,e⟩⟩) 1 0 0:=by simp[jU,hc]
  rw[e1];obtain⟨a,cap,rfl,hout⟩:=aT ho (by omega);have HR:=aA hout.1
  clear ho hout hc e1;go_enter Tryz.func105,Tryz.ntmps105;go_wp2_with fail;have ha:=aA ((HR.out.below (aG w (.cells #[.int .i64 x,.int .i64 y,.int .i64 d,.int .i64 e] 77))).below (aG _ (.cells #[.int .i64 c,.int .i64 x,.int .i64 y,.int .i64 d,.int .i64 e] 79)))
  have hb:=xE (w.alloc (.cells #[.int .i64 x,.int .i64 y,.int .i64 d,.int .i64 e] 77)) ⟨c,⟨x,y,d,e⟩⟩;have hb2:Rd ((w.alloc (.cells #[.int .i64 x,.int .i64 y,.int .i64 d,.int .i64 e] 77)).alloc (.cells #[.int .i64 c,.int .i64 x,.int .i64 y,.int .i64 d,.int .i64 e] 79)) (some ⟨w.heap.size+1,0,none⟩) 1 1 (fun _=>⟨c,⟨x,y,d,e⟩⟩):=by simpa using hb
  have hz:=aA (aD (aG w (.cells #[.int .i64 x,.int .i64 y,.int .i64 d,.int .i64 e] 77)) (aG _ (.cells #[.int .i64 c,.int .i64 x,.int .i64 y,.int .i64 d,.int .i64 e] 79)));clear hb;generalize((w.alloc (.cells #[.int .i64 x,.int .i64 y,.int .i64 d,.int .i64 e] 77)).alloc (.cells #[.int .i64 c,.int .i64 x,.int .i64 y,.int .i64 d,.int .i64 e] 79))=W at ha hb2 hz⊢;refine(wP _ _ _ _ _ _ _ (lf L) (fun _=>⟨c,⟨x,y,d,e⟩⟩) ha.out hb2 (by omega) hL.at (fun _ _=>⟨h0,h1⟩)).mono ?_;rintro r w1 ⟨v',rfl,hb1,hown⟩;have HB:=aA (aD hz.out hb1)
  have HO:=aA (dA hown (kB hlo hz.out.size));clear hb2 hb1 hown ha hz HR;go_wp2;go_ret;exact⟨_,rfl,HB.out,HO.out⟩
theorem tT (x y:Int) (hx:0≤x) (hx':x<1099511627776) (hy:0≤y) (hy':y<1099511627776):0≤bits .xor .i64 x y:=by
 obtain⟨a,rfl⟩:=Int.eq_ofNat_of_zero_le hx;obtain⟨b,rfl⟩:=Int.eq_ofNat_of_zero_le hy;have hab:a ^^^ b<2 ^ 40:=Nat.xor_lt_two_pow (by omega) (by omega)
 have h1:(BitVec.ofInt 64 (a:Int)).toNat=a:=by rw[BitVec.ofInt_natCast,BitVec.toNat_ofNat];exact Nat.mod_eq_of_lt (by omega)
 have h2:(BitVec.ofInt 64 (b:Int)).toNat=b:=by rw[BitVec.ofInt_natCast,BitVec.toNat_ofNat];exact Nat.mod_eq_of_lt (by omega)
 show 0≤IntKind.i64.wrap ((BitVec.ofInt 64 (a:Int) ^^^ BitVec.ofInt 64 (b:Int)).toNat:Int);rw[BitVec.toNat_xor,h1,h2];simp only[IntKind.wrap,IntKind.bits,IntKind.signed];generalize a ^^^ b=c at hab;have hc:(c:Int)<1099511627776:=by omega
 simp;omega
theorem pS {x n:Int} (hx:0≤x) (hn:1≤n):0≤x.tmod n∧x.tmod n<n:=by rw[Int.tmod_eq_emod_of_nonneg hx];exact⟨Int.emod_nonneg _ (by omega),Int.emod_lt_of_pos _ (by omega)⟩
theorem vH (w:World) (B bb off len cap p:Nat) (n:Int) (z:Nat→Int) (hc0:w.cell? ⟨B,0,none⟩=some (.slice (some ⟨bb,off,none⟩) len cap)) (hc1:w.cell? ⟨B,1,none⟩=some (.int .i64 p)) (hf:w.frozen? ⟨B,1,none⟩=false) (hbb:bb<B) (hz:∀i,i<len→w.cell? ⟨bb,off+i,none⟩=some (.int .u8 (z i))) (hz0:∀i,0≤z i) (hz1:∀i,z i≤255) (hl:len≤2000) (hn:1≤n) (hn':n≤100000) (hp:p<len):Calls Tryz.prog 55 #[.pointer (some ⟨B,0,none⟩),.int .i64 n] w fun e w'=>∃v,e= .returned (.int .i64 v)∧0≤v∧v<n∧∃nq,w'=(w.setCell ⟨B,1,none⟩ (.int .i64 (p+1))).drewN nq:=by
 have hne:¬bb=B:=by omega
 have hl0:((len:Int)==0)=false:=by simp;omega
 have hpl:(p:Int)<(len:Int):=by omega
 have hcp:=hz p hp;have z0:=hz0 p
 have z1:=hz1 p;have hm0:=Int.emod_nonneg (z p) (show n≠0 by omega)
 have hm1:=Int.emod_lt_of_pos (z p) (show 0<n by omega);clear hz hz0 hz1;go_enter Tryz.func55,Tryz.ntmps55;go_wp2;go_ret;exact⟨_,rfl,hm0,hm1,0,rfl⟩
theorem qN (w:World) (B cap p:Nat) (a:Option Addr) (n:Int) (hc0:w.cell? ⟨B,0,none⟩=some (.slice a 0 cap)) (hc1:w.cell? ⟨B,1,none⟩=some (.int .i64 p)) (hf:w.frozen? ⟨B,1,none⟩=false) (hn:1≤n) (hp:(p:Int)≤100000):Calls Tryz.prog 55 #[.pointer (some ⟨B,0,none⟩),.int .i64 n] w fun e w'=>∃v,e= .returned (.int .i64 v)∧0≤v∧v<n∧∃nq,w'=(w.setCell ⟨B,1,none⟩ (.int .i64 (p+1))).drewN nq:=by go_enter Tryz.func55,Tryz.ntmps55;go_wp2;go_ret;exact⟨_,rfl,by omega,by omega,0,rfl⟩
theorem qO (w:World) (B bb off len cap p:Nat) (n:Int) (z:Nat→Int) (hc0:w.cell? ⟨B,0,none⟩=some (.slice (some ⟨bb,off,none⟩) len cap)) (hc1:w.cell? ⟨B,1,none⟩=some (.int .i64 p)) (hf:w.frozen? ⟨B,1,none⟩=false) (hbb:bb<B) (hz:∀i,i<len→w.cell? ⟨bb,off+i,none⟩=some (.int .u8 (z i))) (hz0:∀i,0≤z i) (hz1:∀i,z i≤255) (hl:len≤2000) (hn:1≤n) (hn':n≤100000) (hp:len≤p) (h0:0<len) (hp':(p:Int)≤100000):Calls Tryz.prog 55 #[.pointer (some ⟨B,0,none⟩),.int .i64 n] w fun e w'=>∃v,e= .returned (.int .i64 v)∧0≤v∧v<n∧∃nq,w'=(w.setCell ⟨B,1,none⟩ (.int .i64 (p+1))).drewN nq:=by
 have hne:¬bb=B:=by omega
 have hl0:((len:Int)==0)=false:=by simp;omega
 have hlp:(0:Int)<(len:Int):=by omega
 have hl2:(len:Int)≤2000:=by omega
 have hpl:(len:Int)≤(p:Int):=by omega
 have i1:=Int.emod_nonneg (p:Int) (show(len:Int)≠0 by omega);have i2:=Int.emod_lt_of_pos (p:Int) hlp
 have j1:=Int.emod_nonneg ((p:Int)*7+3) (show(len:Int)≠0 by omega);have j2:=Int.emod_lt_of_pos ((p:Int)*7+3) hlp
 have q1:0≤(p:Int) / (len:Int):=Int.ediv_nonneg (by omega) (by omega);have q2:(p:Int) / (len:Int)≤100000:=Int.le_trans (Int.ediv_le_self _ (by omega)) hp'
 have hci:=hz (p%len) (Nat.mod_lt _ h0);have hcj:=hz ((p*7+3)%len) (Nat.mod_lt _ h0)
 have zi0:=hz0 (p%len);have zi1:=hz1 (p%len)
 have zj0:=hz0 ((p*7+3)%len);have zj1:=hz1 ((p*7+3)%len)
 clear hz hz0 hz1;go_enter Tryz.func55,Tryz.ntmps55;go_wp2
 go_quiet (fail)
 go_wp2;go_ret;exact⟨_,rfl,(pS (tT _ _ (by omega) (by omega) (by omega) (by omega)) hn).1,(pS (tT _ _ (by omega) (by omega) (by omega) (by omega)) hn).2,_,rfl⟩
def dL (w:World) (B p:Nat):Prop:=
 w.cell? ⟨B,1,none⟩=some (.int .i64 p)∧w.frozen? ⟨B,1,none⟩=false∧
 ∃(a:Option Addr) (len cap:Nat),w.cell? ⟨B,0,none⟩=some (.slice a len cap)∧len≤2000∧
  (len=0∨∃(bb off:Nat) (z:Nat→Int),a=some ⟨bb,off,none⟩∧bb<B∧(∀i,i<len→w.cell? ⟨bb,off+i,none⟩=some (.int .u8 (z i)))∧(∀i,0≤z i)∧∀i,z i≤255)
def iA (w w':World) (B p:Nat):Prop:=∃nq,w'=(w.setCell ⟨B,1,none⟩ (.int .i64 ((p+1:Nat):Int))).drewN nq
theorem aI (w:World) (B p:Nat) (n:Int) (h:dL w B p) (hn:1≤n) (hn':n≤100000) (hp:(p:Int)≤100000):Calls Tryz.prog 55 #[.pointer (some ⟨B,0,none⟩),.int .i64 n] w fun e w'=>∃v,e= .returned (.int .i64 v)∧0≤v∧v<n∧iA w w' B p:=by
 obtain⟨hc1,hf,a,len,cap,hc0,hl,h0⟩:=h;have key:∀e w',(∃v,e=Ending.returned (.int .i64 v)∧0≤v∧v<n∧∃nq,w'=(w.setCell ⟨B,1,none⟩ (.int .i64 (p+1))).drewN nq)→∃v,e= .returned (.int .i64 v)∧0≤v∧v<n∧iA w w' B p:=by rintro e w' ⟨v,h1,h2,h3,nq,h4⟩;exact⟨v,h1,h2,h3,nq,by rw[h4];rfl⟩
 by_cases hz:len=0
 ·subst hz;exact(qN w B cap p a n hc0 hc1 hf hn hp).mono key
 ·obtain⟨bb,off,z,rfl,hbb,hb,z0,z1⟩:=h0.resolve_left hz;by_cases hpl:p<len
  ·exact(vH w B bb off len cap p n z hc0 hc1 hf hbb hb z0 z1 hl hn hn' hpl).mono key
  ·exact(qO w B bb off len cap p n z hc0 hc1 hf hbb hb z0 z1 hl hn hn' (by omega) (by omega) hp).mono key
structure aH (B:Nat) (w w':World):Prop where
 os:w'.os=w.os
 tape:w'.tape=w.tape
 output:w'.output=w.output
 size:w.heap.size≤w'.heap.size
 block:∀k,k<w.heap.size→k≠B→w'.heap[k]? =w.heap[k]?
theorem aH.refl (B:Nat) (w:World):aH B w w:=⟨rfl,rfl,rfl,aE _,fun _ _ _=>rfl⟩
theorem aH.trans {B:Nat} {a b c:World} (h:aH B a b) (k:aH B b c):aH B a c:=
 ⟨k.os.trans h.os,k.tape.trans h.tape,k.output.trans h.output,kB h.size k.size,fun i hi hn=>(k.block i (dM hi h.size) hn).trans (h.block i hi hn)⟩
theorem aH.alloc {B:Nat} {a w:World} (h:aH B a w) (o:Obj):aH B a (w.alloc o):=
 h.trans ⟨rfl,rfl,rfl,by simp,fun k hk _=>Below.heap_alloc _ _ _ hk⟩
theorem aH.drewN {B:Nat} {a w:World} (h:aH B a w) (n:Nat):aH B a (w.drewN n):=h.trans ⟨rfl,rfl,rfl,aE _,fun _ _ _=>rfl⟩
theorem aH.cell {B:Nat} {w w':World} (h:aH B w w') {b o:Nat} (hb:b<w.heap.size) (hn:b≠B):w'.cell? ⟨b,o,none⟩=w.cell? ⟨b,o,none⟩:=
 kA (w:=w) (h.block b hb hn)
theorem aH.below {B n:Nat} {a w w':World} (k:Below n a w) (h:aH B w w') (hB:n≤B) (hn:n≤w.heap.size):Below n a w':=
 k.trans ⟨h.os,h.tape,h.output,h.size,fun k hk=>h.block k (by omega) (by omega)⟩
theorem iA.beside {w w':World} {B p:Nat} (h:iA w w' B p):aH B w w':=by
 obtain⟨nq,rfl⟩:=h;have h:aH B w (w.setCell ⟨B,1,none⟩ (.int .i64 ((p+1:Nat):Int))):=⟨rfl,rfl,rfl,by simp[World.setCell],fun k _ hk=>Below.heap_setCell _ _ _ _ hk⟩
 exact h.drewN nq
theorem dL.lt {w:World} {B p:Nat} (h:dL w B p):B<w.heap.size:=tS w _ h.1
theorem iA.rdr {w w':World} {B p:Nat} (hp:iA w w' B p) (h:dL w B p):dL w' B (p+1):=by
 have hb:=hp.beside;have hlt:=h.lt
 obtain⟨nq,rfl⟩:=hp;obtain⟨hc1,hf,a,len,cap,hc0,hl,h0⟩:=h;refine⟨by go_simp,by go_simp,a,len,cap,by go_simp,hl,?_⟩;rcases h0 with h0|⟨bb,off,z,rfl,hbb,hz,z0,z1⟩
 ·exact .inl h0
 ·exact .inr ⟨bb,off,z,rfl,hbb,fun i hi=>by rw[hb.cell (by omega) (by omega)];exact hz i hi,z0,z1⟩
theorem dL.alloc {w:World} {B p:Nat} (h:dL w B p) (o:Obj):dL (w.alloc o) B p:=by
 have hlt:=h.lt;obtain⟨hc1,hf,a,len,cap,hc0,hl,h0⟩:=h;refine⟨by rw[World.cell?_alloc_past o B 1 hlt];exact hc1,by rw[World.frozen?_alloc_past o B 1 hlt];exact hf,a,len,cap,by rw[World.cell?_alloc_past o B 0 hlt];exact hc0,hl,?_⟩;rcases h0 with h0|⟨bb,off,z,rfl,hbb,hz,z0,z1⟩
 ·exact .inl h0
 ·exact .inr ⟨bb,off,z,rfl,hbb,fun i hi=>by rw[World.cell?_alloc_past o bb _ (by omega)];exact hz i hi,z0,z1⟩
theorem dL.drewN {w:World} {B p:Nat} (h:dL w B p) (n:Nat):dL (w.drewN n) B p:=h
def uA (w:World) (a:Option Addr) (len cap:Nat):Prop:=
 len≤cap∧cap≤maxLen∧(len=0∨∃(bb off:Nat) (z:Nat→Int),a=some ⟨bb,off,none⟩∧bb<w.heap.size∧(∀i,i<len→w.cell? ⟨bb,off+i,none⟩=some (.int .u8 (z i)))∧(∀i,0≤z i)∧∀i,z i≤255)
theorem uA.below {w w':World} {a:Option Addr} {len cap:Nat} (h:uA w a len cap) (hb:Below w.heap.size w w'):uA w' a len cap:=by
 obtain⟨h1,h2,h3⟩:=h;refine⟨h1,h2,?_⟩;rcases h3 with h0|⟨bb,off,z,rfl,hbb,hz,z0,z1⟩
 ·exact .inl h0
 ·exact .inr ⟨bb,off,z,rfl,dM hbb hb.size,fun i hi=>by rw[hb.cell (p:=⟨bb,off+i,none⟩) hbb];exact hz i hi,z0,z1⟩
theorem pQ (w:World) (a:Option Addr) (len cap:Nat) (t:TypeId) (hl:len≤2000) (h:len=0∨∃(bb off:Nat) (z:Nat→Int),a=some ⟨bb,off,none⟩∧bb<w.heap.size∧(∀i,i<len→w.cell? ⟨bb,off+i,none⟩=some (.int .u8 (z i)))∧(∀i,0≤z i)∧∀i,z i≤255):dL (w.alloc (.cells #[.slice a len cap,.int .i64 0] t)) w.heap.size 0:=by
 refine⟨by rw[World.cell?_alloc_at _ _ _ _ rfl];rfl,by rw[World.frozen?_alloc_at _ _ _ _ rfl],a,len,cap,by rw[World.cell?_alloc_at _ _ _ _ rfl];rfl,hl,?_⟩;rcases h with h0|⟨bb,off,z,rfl,hbb,hz,z0,z1⟩
 ·exact .inl h0
 ·exact .inr ⟨bb,off,z,rfl,hbb,fun i hi=>by rw[World.cell?_alloc_past _ bb _ hbb];exact hz i hi,z0,z1⟩
theorem nK (w:World) (a:Option Addr) (len cap:Nat) (h:uA w a len cap):Calls Tryz.prog 48 #[.slice a len cap] w fun e w'=>e= .returned (.pointer (some ⟨w.heap.size,0,none⟩))∧dL w' w.heap.size 0∧Below w.heap.size w w':=by
 obtain⟨h1,h2,h3⟩:=h;unfold maxLen at h2;by_cases hl:len≤2000
 ·have hl':(len:Int)≤2000:=by omega
  go_enter Tryz.func48,Tryz.ntmps48;go_wp2;go_ret;exact⟨rfl,pQ w a len cap _ hl h3,(aC _ _).alloc (aE _) _⟩
 ·have hl':(2000:Int)<(len:Int):=by omega
  have hc':(2000:Int)≤(cap:Int):=by omega
  rcases h3 with h0|⟨bb,off,z,rfl,hbb,hz,z0,z1⟩
  ·omega
  ·have hn:=pQ w (some ⟨bb,off,none⟩) 2000 cap 91 (aE _) (.inr ⟨bb,off,z,rfl,hbb,fun i hi=>hz i (by omega),z0,z1⟩);clear hz z0 z1;go_enter Tryz.func48,Tryz.ntmps48;go_wp2;go_ret;exact⟨rfl,hn,(aC _ _).alloc (aE _) _⟩
def cQ (l:Array Bool):Nat:=(l.toList.filter (fun b=>b==false)).length
theorem iJ:∀(l:List Bool) (i:Nat),l[i]? =some false→((l.set i true).filter (fun b=>b==false)).length+1=(l.filter (fun b=>b==false)).length
 |[],i,h=>by simp at h
 |b::r,0,h=>by simp at h;subst h;simp
 |b::r,i+1,h=>by have ih:=iJ r i (by simpa using h);cases b<;>simp at ih⊢<;>omega
theorem cR {l:Array Bool} {i:Nat} (h:l[i]? =some false):cQ (l.setIfInBounds i true)+1=cQ l:=by unfold cQ;rw[Array.toList_setIfInBounds];exact iJ _ _ (by simpa using h)
theorem eP:∀(l:List Bool),(l.filter (fun b=>b==false)).length=0→∀i:Nat,l[i]? ≠some false
 |[],_,i,h=>by simp at h
 |b::r,hl,0,h=>by simp at h;subst h;simp at hl
 |b::r,hl,i+1,h=>by refine eP r ?_ i (by simpa using h);cases b<;>simp at hl⊢;exact hl
theorem bJ {l:Array Bool} {i:Nat} (h:l.getD i true=false):l[i]? =some false:=by
 rw[Array.getD_eq_getD_getElem?]at h;cases hx:l[i]? with
 |none=>rw[hx]at h;simp at h
 |some b=>rw[hx]at h;simp at h;rw[h]
theorem lD {P:Program} {md:Region.Mode} {ops:Array Oper} {Q:Exit→Act→World→Prop} {I:Array Bool→Act→World→Prop} (hs:∀l a w,I l a w→∀i∈Region.ready md ops l,wpOp P ops Q i (I (l.setIfInBounds i true)) a w) (he:∀l a w,I l a w→Region.ready md ops l=[]→Q .normal a w):∀(fuel:Nat) (l:Array Bool) (a:Act) (w:World),cQ l≤fuel→I l a w→wpAny P md ops Q fuel l a w
 |0,l,a,w,hf,hI=>by
  have hr:Region.ready md ops l=[]:=by
   rw[List.eq_nil_iff_forall_not_mem];intro i hi;have h0:=bJ (mem_ready.1 hi).1
   exact eP l.toList (by unfold cQ at hf;omega) i (by simpa using h0)
  exact⟨hr,he l a w hI hr⟩
 |fuel+1,l,a,w,hf,hI=>by
  refine⟨fun hr=>he l a w hI hr,fun i hi=>?_⟩;have h0:=bJ (mem_ready.1 hi).1
  have h1:=cR h0;exact wpOp_mono (fun a' w' h=>lD hs he fuel _ a' w' (by omega) h) (hs l a w hI i hi)
theorem dD (n:Nat):cQ (Array.replicate n false)=n:=by unfold cQ;simp
theorem gA {P:Program} {id:Nat} {ops:Array Oper} {Q:Exit→Act→World→Prop} {I:Array Bool→Act→World→Prop} {a:Act} {w:World} (hm:P.follows .mixedOrders=true) (h0:I (Array.replicate ops.size false) a w.drew) (hs:∀l a w,I l a w→∀i∈Region.ready .any ops l,wpOp P ops Q i (I (l.setIfInBounds i true)) a w) (he:∀l a w,I l a w→Region.ready .any ops l=[]→Q .normal a w):(Code.region id ops true).wp P Q a w:=
 wp_region_any hm (lD hs he ops.size _ a _ (by rw[dD];exact aE _) h0)
end Go.Proofs.YtkcmamepoplcdaaGreatDoor
