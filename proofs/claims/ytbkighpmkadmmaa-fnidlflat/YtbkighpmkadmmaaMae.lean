/-
  More of chapter 3's model: an operator of one term, the number of a monomial, so many times an operator.
-/
import Derived.Test.YtbkighpmkadmmaaMad
set_option maxHeartbeats 4000000
set_option maxRecDepth 100000
namespace Go.Proofs.Ytbkighpmkadmmaa
open Go.RowKit
set_option linter.unusedVariables false
def BK (c:Int) (f:Nat→T) (k:Nat):List T:=(List.range k).map fun i=>⟨c*(f i).c%101,(f i).m⟩
theorem IY (c:Int) (f:Nat→T) (k:Nat):(BK c f k).length=k:=by simp[BK]
theorem EY (c:Int) (f:Nat→T) (k:Nat):BK c f (k+1)=BK c f k++[⟨c*(f k).c%101,(f k).m⟩]:=by simp[BK,List.range_succ]
theorem DB (w:World) (c:Int) (a:Option Addr) (n cap:Nat) (f:Nat→T) (h:Rd w a n cap f) (hc0:0≤c) (hc1:c≤100) (hl:n≤1000000) (hcf:∀i,i<n→0≤(f i).c∧(f i).c≤100):Calls Try.prog 137 #[.int .i64 c,.slice a n cap] w fun r w'=>∃v,r= .returned v∧Below w.heap.size w w'∧w'.ownsRow w.heap.size 33 5 v (if c=0 then 0 else n) (aG (BK c f (if c=0 then 0 else n))):=by
 obtain⟨i0,hi0,hz0,hz1,hz2⟩:=info_parts vB;obtain⟨h1,h2,h3⟩:=h;have hn:(n:Int)≤1000000:=by omega
 by_cases hz:c=0
 ·rw[if_pos hz];subst hz;go_enter Try.func137,Try.ntmps137;go_wp2;go_loopw [5,6] (fun v i wr=>v= .slice (some ⟨w.heap.size,0,none⟩) 0 0∧i= .int .i64 0∧wr=w.alloc (.cells #[] 33)) (fun _ _ _=>0);case atStart=>exact⟨rfl,rfl,rfl⟩
  case round=>
   obtain⟨rfl,rfl,rfl⟩:=hrel;by_cases hn0:n=0
   ·subst hn0;go_wp2;go_ret;exact⟨_,rfl,(cM _ _).alloc (Nat.le_refl _) _,bL w _ (Nat.le_refl _)⟩
   ·have hnp:(0:Int)<(n:Int):=by omega
    have dn:decide ((0:Int)<(n:Int))=true:=decide_eq_true hnp;go_wp2;go_ret;exact⟨_,rfl,(cM _ _).alloc (Nat.le_refl _) _,bL w _ (Nat.le_refl _)⟩
 ·rw[if_neg hz];have hcb:(c !=0)=true:=by simp[hz]
  clear hz;go_enter Try.func137,Try.ntmps137;go_wp2;go_loopw [5,6] (fun v i wr=>∃k:Nat,k≤n∧i= .int .i64 k∧Below w.heap.size w wr∧wr.ownsRow w.heap.size 33 5 v k (aG (BK c f k))) (fun _ i _=>n-(intOf i).toNat);case atStart=>exact⟨0,gT _,rfl,(cM _ _).alloc (Nat.le_refl _) _,bL w _ (Nat.le_refl _)⟩
  case round=>
   obtain⟨k,hk,rfl,hB,hown⟩:=hrel;by_cases hlt:k<n
   ·rcases h3 with h0|⟨b,off,rfl,hblt,hcl⟩
    ·omega
    have hkn:(k:Int)<(n:Int):=by omega
    have hbr:b<wr.heap.size:=lD hblt hB.size;obtain⟨g0,g1,g2,g3,g4⟩:=(hcl k hlt).below hB hblt;obtain⟨JM,JN⟩:=hcf k hlt;obtain⟨mb1,mb2⟩:=sW hc0 hc1 JM JN;have HV:Hid ((IntKind.i64.wrap (c*(f k).c)).tmod 101=c*(f k).c%101):=by show _=_;rw[show IntKind.i64.wrap (c*(f k).c)=c*(f k).c by rw[IntKind.wrap_i64];omega,Int.tmod_eq_emod_of_nonneg mb1]
    have HO:=aA hown;clear hcl hcf hown;go_wp2_with fail
    go_region_held3 (fun u=>u.cell? ⟨b,off+k*5,none⟩=some (.int .i64 (f k).c)∧u.cell? ⟨b,off+k*5+1,none⟩=some (.int .i64 (f k).m.x)∧u.cell? ⟨b,off+k*5+2,none⟩=some (.int .i64 (f k).m.y)∧u.cell? ⟨b,off+k*5+3,none⟩=some (.int .i64 (f k).m.d)∧u.cell? ⟨b,off+k*5+4,none⟩=some (.int .i64 (f k).m.e)) (first|go_keep|(refine⟨?_,?_,?_,?_,?_⟩<;>(rw[hgrow.cell_far _ (by simp;omega) (by intro hh;exact absurd (HO.out.lt b hh.symm).1 (by omega))];go_simp))) ((refine step_append_lies _ (by rfl) (.tmp 18) (.tmp 33) 29 (by rfl) w.heap.size 33 i0 _ 5 40 Try.underlying29 hi0 hz0 hz1 hz2 rfl (by omega) _ k (aG (BK c f k)) (by rfl) (by first|exact HO.out.alloc _|exact(cI HO.out (cM _ _).drew).alloc _) ⟨wr.heap.size,0,none⟩ 1 1 (aG [⟨c*(f k).c%101,(f k).m⟩]) (by rfl) (by rw[aU];rfl) (by rw[bX];simp only;rw[←HV.out];exact World.news_of_block (heap_alloc_new wr _)) (cC _) (by omega) (by unfold maxLen;omega) (by omega) (by have:=hB.size;simp;omega) _ (by rfl) ?_;intro g0 cap0 w1 hown1 hgrow hat hlt1))
    have HB:=aA (((hB.alloc hB.size _).drew).grown hgrow (kM hB.size (by simp)) (fun j hj=>(HO.out.lt j hj).1));have HP:=aA hown1
    clear hown1 hgrow hat hlt1 HO;go_wp2;go_roundw;case rel=>exact⟨k+1,by omega,by go_num,HB.out,by rw[EY,bC];exact HP.out⟩
    case measure=>simp[intOf];omega
   ·have hkn:k=n:=by omega
    subst hkn;have HO:=aA hown
    clear hown hcf;go_wp2;go_ret;exact⟨_,rfl,hB,HO.out⟩
theorem KK (c:Int) (f:Nat→T) (n i:Nat) (h:i<n):lf (BK c f n) i=⟨c*(f i).c%101,(f i).m⟩:=by simp[lf,BK,List.getD,List.getElem?_map,List.getElem?_range h]
def KU (g:Nat→T) (lb:Nat):Nat→T:=lf (BK 100 g lb)
def kL (f:Nat→T) (la:Nat) (g:Nat→T) (lb:Nat):List T×Bool:=
 if aL la f=true∧aL lb g=true∧(dS f la (KU g lb) lb 0 0).length≤400 then(dS f la (KU g lb) lb 0 0,true)else([],false)
theorem xR (f:Nat→T) (la:Nat) (g:Nat→T) (lb:Nat):(kL f la g lb).1.length≤400:=by
 unfold kL;split
 ·rename_i h;exact h.2.2
 ·simp
theorem mX {n:Nat} {f:Nat→T} (h:aL n f=true):∀i,i<n→(f i).m.ok=true:=by
 intro i hi;simp only[aL,decide_eq_true_eq]at h;have:=h.2 i hi
 simp only[gC,Bool.and_eq_true,decide_eq_true_eq]at this;exact this.1.2
def aR (o:Int) (f:Nat→T):Nat→Nat→Nat→Nat
 |0,_,k=>k
 |u+1,i,k=>if 0<M.ord o (f i).m (f k).m then aR o f u (i+1) i else aR o f u (i+1) k
def aP (o:Int) (f:Nat→T) (n:Nat):Nat:=aR o f (n-1) 1 0
theorem kU (w:World) (o:Int) (a:Option Addr) (n cap:Nat) (f:Nat→T) (h:Rd w a n cap f) (h0:0<n) (hm:∀i,i<n→(f i).m.ok=true):Calls Try.prog 46 #[.int .i64 o,.slice a n cap] w fun r w'=>r= .returned (.agg #[.int .i64 (f (aP o f n)).c,.int .i64 (f (aP o f n)).m.x,.int .i64 (f (aP o f n)).m.y,.int .i64 (f (aP o f n)).m.d,.int .i64 (f (aP o f n)).m.e])∧Below w.heap.size w w':=by
 obtain⟨h1,h2,h3⟩:=h;have HM:=aA hm
 clear hm;have hn:(n:Int)≤140737488351232:=by omega
 obtain⟨b,off,rfl,hblt,hcl⟩:=h3.resolve_left (by omega);have HCL:=aA hcl
 clear h3 hcl;go_enter Try.func46,Try.ntmps46;go_wp2;go_loopw [5,6] (fun kk ii wr=>∃i k:Nat,1≤i∧i≤n∧k<n∧ii= .int .i64 i∧kk= .int .i64 k∧Below w.heap.size w wr∧(∀j,j<5→wr.cell? ⟨w.heap.size,j,none⟩=some (.int .i64 0))∧(∀j,wr.frozen? ⟨w.heap.size,j,none⟩=false)∧w.heap.size<wr.heap.size∧Hid (aR o f (n-i) i k=aP o f n)) (fun _ ii _=>n-(intOf ii).toNat)
 case atStart=>
  refine⟨1,0,Nat.le_refl _,h0,h0,rfl,rfl,(cM _ _).alloc (Nat.le_refl _) _,fun j hj=>?_,fun j=>by rw[World.frozen?_alloc_at _ _ _ _ rfl],by simp,rfl⟩;rw[World.cell?_alloc_at _ _ _ _ rfl];have h5:j=0∨j=1∨j=2∨j=3∨j=4:=by omega
  rcases h5 with rfl|rfl|rfl|rfl|rfl<;>rfl
 case round=>
  obtain⟨i,k,hi1,hi,hk,rfl,rfl,hB,hz,hfz,hsz,HL⟩:=hrel;have HZ:=aA hz
  have HFZ:=aA hfz;clear hz hfz;have hkn:(k:Int)<(n:Int):=by omega
  by_cases hlt:i<n
  ·have hin:(i:Int)<(n:Int):=by omega
   have hbr:b<wr.heap.size:=lD hblt hB.size;have ne:=cG.there wr
   have hci:=(HCL.out i hlt).below hB hblt;have hck:=(HCL.out k hk).below hB hblt
   have s1:∀u:cG wr,u.1.cell? ⟨b,off+i*5+1,none⟩=some (.int .i64 (f i).m.x):=fun u=>(u.cell hbr).trans hci.2.1;have s2:∀u:cG wr,u.1.cell? ⟨b,off+i*5+2,none⟩=some (.int .i64 (f i).m.y):=fun u=>(u.cell hbr).trans hci.2.2.1
   have s3:∀u:cG wr,u.1.cell? ⟨b,off+i*5+3,none⟩=some (.int .i64 (f i).m.d):=fun u=>(u.cell hbr).trans hci.2.2.2.1;have s4:∀u:cG wr,u.1.cell? ⟨b,off+i*5+4,none⟩=some (.int .i64 (f i).m.e):=fun u=>(u.cell hbr).trans hci.2.2.2.2
   have t1:∀u:cG wr,u.1.cell? ⟨b,off+k*5+1,none⟩=some (.int .i64 (f k).m.x):=fun u=>(u.cell hbr).trans hck.2.1;have t2:∀u:cG wr,u.1.cell? ⟨b,off+k*5+2,none⟩=some (.int .i64 (f k).m.y):=fun u=>(u.cell hbr).trans hck.2.2.1
   have t3:∀u:cG wr,u.1.cell? ⟨b,off+k*5+3,none⟩=some (.int .i64 (f k).m.d):=fun u=>(u.cell hbr).trans hck.2.2.2.1;have t4:∀u:cG wr,u.1.cell? ⟨b,off+k*5+4,none⟩=some (.int .i64 (f k).m.e):=fun u=>(u.cell hbr).trans hck.2.2.2.2
   have HO:Hid (o=3→(f i).m.ok=true∧(f k).m.ok=true):=fun _=>⟨HM.out i hlt,HM.out k hk⟩
   have keep:∀u:cG wr,(∀j,j<5→u.1.cell? ⟨w.heap.size,j,none⟩=some (.int .i64 0))∧(∀j,u.1.frozen? ⟨w.heap.size,j,none⟩=false)∧w.heap.size<u.1.heap.size:=fun u=>⟨fun j hj=>(u.cell hsz).trans (HZ.out j hj),fun j=>(u.2.frozen (p:=⟨w.heap.size,j,none⟩) hsz).trans (HFZ.out j),lD hsz u.2.size⟩
   have KP:=aA keep;clear hci hck keep;by_cases hq:0<M.ord o (f i).m (f k).m
   ·have dq:decide (0<M.ord o ⟨(f i).m.x,(f i).m.y,(f i).m.d,(f i).m.e⟩ ⟨(f k).m.x,(f k).m.y,(f k).m.d,(f k).m.e⟩)=true:=decide_eq_true hq;have HN:Hid (aR o f (n-(i+1)) (i+1) i=aP o f n):=by show _=_;rw[←HL.out,show n-i=(n-(i+1))+1 by omega,aR,if_pos hq]
    clear hq HL;go_wp2_with fail;refine aK (by kernel_rfl) (by kernel_rfl) ?_;repeat(go_big_quiet_step (first|(go_at_call 60;exact aM (MD _ _ _ _ _ _ _ _ _ _ HO.out))))
    refine wpQuiet_nil ?_;rintro _ ⟨u,rfl⟩;go_wp2;go_roundw;case rel=>exact⟨i+1,i,by omega,by omega,hlt,by go_num,by go_num,hB.trans (u.2.mono hB.size),(KP.out u).1,(KP.out u).2.1,(KP.out u).2.2,HN⟩
    case measure=>simp[intOf];omega
   ·have dq:decide (0<M.ord o ⟨(f i).m.x,(f i).m.y,(f i).m.d,(f i).m.e⟩ ⟨(f k).m.x,(f k).m.y,(f k).m.d,(f k).m.e⟩)=false:=decide_eq_false hq;have HN:Hid (aR o f (n-(i+1)) (i+1) k=aP o f n):=by show _=_;rw[←HL.out,show n-i=(n-(i+1))+1 by omega,aR,if_neg hq]
    clear hq HL;go_wp2_with fail;refine aK (by kernel_rfl) (by kernel_rfl) ?_;repeat(go_big_quiet_step (first|(go_at_call 60;exact aM (MD _ _ _ _ _ _ _ _ _ _ HO.out))))
    refine wpQuiet_nil ?_;rintro _ ⟨u,rfl⟩;go_wp2;go_roundw;case rel=>exact⟨i+1,k,by omega,by omega,hk,by go_num,by go_num,hB.trans (u.2.mono hB.size),(KP.out u).1,(KP.out u).2.1,(KP.out u).2.2,HN⟩
    case measure=>simp[intOf];omega
  ·have hkl:Hid (k=aP o f n):=by show _=_;rw[←HL.out,show n-i=0 by omega];rfl
   obtain⟨g0,g1,g2,g3,g4⟩:=(HCL.out k hk).below hB hblt;have z0:=HZ.out 0 (by omega)
   have z1:=HZ.out 1 (by omega);have z2:=HZ.out 2 (by omega)
   have z3:=HZ.out 3 (by omega);have z4:=HZ.out 4 (by omega)
   have fz:=HFZ.out;have hne:¬b=w.heap.size:=by omega
   clear HL;go_wp2;refine cN (v:=.agg #[.int .i64 (f k).c,.int .i64 (f k).m.x,.int .i64 (f k).m.y,.int .i64 (f k).m.d,.int .i64 (f k).m.e]) (by simp[results,Try.results46,go_sem, *]) rfl ⟨by rw[←hkl.out],?_⟩;exact bU hB (Nat.le_refl _) _ _ _ _ _
end Go.Proofs.Ytbkighpmkadmmaa
