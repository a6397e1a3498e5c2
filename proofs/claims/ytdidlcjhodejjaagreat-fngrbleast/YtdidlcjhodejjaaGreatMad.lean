/-
  More of chapter 3's model: an operator of one term, the number of a monomial, so many times an operator.
-/
import Derived.Test.YtdidlcjhodejjaaGreatMac
set_option maxHeartbeats 8000000
set_option maxRecDepth 100000
namespace Go.Proofs.YtdidlcjhodejjaaGreat
open Go.RowKit
set_option linter.unusedVariables false
def xA (c:Int) (m:M):List T:=if(1≤c∧c≤100)∧m.ok=true then[⟨c,m⟩]else[]
def LP (c:Int) (f:Nat→T) (k:Nat):List T:=(List.range k).map fun i=>⟨c*(f i).c%101,(f i).m⟩
theorem KU (c:Int) (f:Nat→T) (k:Nat):(LP c f k).length=k:=by simp[LP]
theorem PH (c:Int) (f:Nat→T) (k:Nat):LP c f (k+1)=LP c f k++[⟨c*(f k).c%101,(f k).m⟩]:=by simp[LP,List.range_succ]
theorem NH (w:World) (c:Int) (a:Option Addr) (n cap:Nat) (f:Nat→T) (h:Rd w a n cap f) (hc0:0≤c) (hc1:c≤100) (hl:n≤1000000) (hcf:∀i,i<n→0≤(f i).c∧(f i).c≤100):Calls Tryz.prog 88 #[.int .i64 c,.slice a n cap] w fun r w'=>∃v,r= .returned v∧Below w.heap.size w w'∧w'.ownsRow w.heap.size 42 5 v (if c=0 then 0 else n) (aE (LP c f (if c=0 then 0 else n))):=by
 obtain⟨i0,hi0,hz0,hz1,hz2⟩:=info_parts uG;obtain⟨h1,h2,h3⟩:=h;have hn:(n:Int)≤1000000:=by omega
 by_cases hz:c=0
 ·rw[if_pos hz];subst hz;go_enter Tryz.func88,Tryz.ntmps88;go_wp2;go_loopw [5,6] (fun v i wr=>v= .slice (some ⟨w.heap.size,0,none⟩) 0 0∧i= .int .i64 0∧wr=w.alloc (.cells #[] 42)) (fun _ _ _=>0);case atStart=>exact⟨rfl,rfl,rfl⟩
  case round=>
   obtain⟨rfl,rfl,rfl⟩:=hrel;by_cases hn0:n=0
   ·subst hn0;go_wp2;go_ret;exact⟨_,rfl,(bL _ _).alloc (Nat.le_refl _) _,dY w _ (Nat.le_refl _)⟩
   ·have hnp:(0:Int)<(n:Int):=by omega
    have dn:decide ((0:Int)<(n:Int))=true:=decide_eq_true hnp;go_wp2;go_ret;exact⟨_,rfl,(bL _ _).alloc (Nat.le_refl _) _,dY w _ (Nat.le_refl _)⟩
 ·rw[if_neg hz];have hcb:(c !=0)=true:=by simp[hz]
  clear hz;go_enter Tryz.func88,Tryz.ntmps88;go_wp2;go_loopw [5,6] (fun v i wr=>∃k:Nat,k≤n∧i= .int .i64 k∧Below w.heap.size w wr∧wr.ownsRow w.heap.size 42 5 v k (aE (LP c f k))) (fun _ i _=>n-(intOf i).toNat);case atStart=>exact⟨0,Nat.zero_le _,rfl,(bL _ _).alloc (Nat.le_refl _) _,dY w _ (Nat.le_refl _)⟩
  case round=>
   obtain⟨k,hk,rfl,hB,hown⟩:=hrel;by_cases hlt:k<n
   ·rcases h3 with h0|⟨b,off,rfl,hblt,hcl⟩
    ·omega
    have hkn:(k:Int)<(n:Int):=by omega
    have hbr:b<wr.heap.size:=jY hblt hB.size;obtain⟨g0,g1,g2,g3,g4⟩:=(hcl k hlt).below hB hblt;obtain⟨TP,TR⟩:=hcf k hlt;obtain⟨mb1,mb2⟩:=pI hc0 hc1 TP TR;have HV:Hid ((IntKind.i64.wrap (c*(f k).c)).tmod 101=c*(f k).c%101):=by show _=_;rw[show IntKind.i64.wrap (c*(f k).c)=c*(f k).c by rw[IntKind.wrap_i64];omega,Int.tmod_eq_emod_of_nonneg mb1]
    have HO:=aA hown;clear hcl hcf hown;go_wp2_with fail
    go_region_held3 (fun u=>u.cell? ⟨b,off+k*5,none⟩=some (.int .i64 (f k).c)∧u.cell? ⟨b,off+k*5+1,none⟩=some (.int .i64 (f k).m.x)∧u.cell? ⟨b,off+k*5+2,none⟩=some (.int .i64 (f k).m.y)∧u.cell? ⟨b,off+k*5+3,none⟩=some (.int .i64 (f k).m.d)∧u.cell? ⟨b,off+k*5+4,none⟩=some (.int .i64 (f k).m.e)) (first|go_keep|(refine⟨?_,?_,?_,?_,?_⟩<;>(rw[hgrow.cell_far _ (by simp;omega) (by intro hh;exact absurd (HO.out.lt b hh.symm).1 (by omega))];go_simp))) ((refine step_append_lies _ (by rfl) (.tmp 18) (.tmp 33) 45 (by rfl) w.heap.size 42 i0 _ 5 40 Tryz.underlying45 hi0 hz0 hz1 hz2 rfl (by omega) _ k (aE (LP c f k)) (by rfl) (by first|exact HO.out.alloc _|exact(dC HO.out (bL _ _).drew).alloc _) ⟨wr.heap.size,0,none⟩ 1 1 (aE [⟨c*(f k).c%101,(f k).m⟩]) (by rfl) (by rw[aX];rfl) (by rw[dM];simp only;rw[←HV.out];exact World.news_of_block (heap_alloc_new wr _)) (dX _) (by omega) (by unfold maxLen;omega) (by omega) (by have:=hB.size;simp;omega) _ (by rfl) ?_;intro g0 cap0 w1 hown1 hgrow hat hlt1))
    have HB:=aA (((hB.alloc hB.size _).drew).grown hgrow (jZ hB.size (by simp)) (fun j hj=>(HO.out.lt j hj).1));have HP:=aA hown1
    clear hown1 hgrow hat hlt1 HO;go_wp2;go_roundw;case rel=>exact⟨k+1,by omega,by go_num,HB.out,by rw[PH,bK];exact HP.out⟩
    case measure=>simp[intOf];omega
   ·have hkn:k=n:=by omega
    subst hkn;have HO:=aA hown
    clear hown hcf;go_wp2;go_ret;exact⟨_,rfl,hB,HO.out⟩
def fD (c:Int) (f:Nat→T) (n:Nat):List T:=if(0≤c∧c≤100)∧aN n f=true∧c≠0 then LP c f n else[]
theorem CQ (c:Int) (f:Nat→T) (n i:Nat) (h:i<n):lf (LP c f n) i=⟨c*(f i).c%101,(f i).m⟩:=by simp[lf,LP,List.getD,List.getElem?_map,List.getElem?_range h]
theorem tO {n:Nat} {f:Nat→T} (h:aN n f=true):∀i,i<n→(f i).m.ok=true:=by
 intro i hi;simp only[aN,decide_eq_true_eq]at h;have:=h.2 i hi
 simp only[mH,Bool.and_eq_true,decide_eq_true_eq]at this;exact this.1.2
def bB (o:Int) (f:Nat→T):Nat→Nat→Nat→Nat
 |0,_,k=>k
 |u+1,i,k=>if 0<M.ord o (f i).m (f k).m then bB o f u (i+1) i else bB o f u (i+1) k
def bD (o:Int) (f:Nat→T) (n:Nat):Nat:=bB o f (n-1) 1 0
theorem qV (w:World) (o:Int) (a:Option Addr) (n cap:Nat) (f:Nat→T) (h:Rd w a n cap f) (h0:0<n) (hm:∀i,i<n→(f i).m.ok=true):Calls Tryz.prog 61 #[.int .i64 o,.slice a n cap] w fun r w'=>r= .returned (.agg #[.int .i64 (f (bD o f n)).c,.int .i64 (f (bD o f n)).m.x,.int .i64 (f (bD o f n)).m.y,.int .i64 (f (bD o f n)).m.d,.int .i64 (f (bD o f n)).m.e])∧Below w.heap.size w w':=by
 obtain⟨h1,h2,h3⟩:=h;have HM:=aA hm
 clear hm;have hn:(n:Int)≤140737488351232:=by omega
 obtain⟨b,off,rfl,hblt,hcl⟩:=h3.resolve_left (by omega);have HCL:=aA hcl
 clear h3 hcl;go_enter Tryz.func61,Tryz.ntmps61;go_wp2;go_loopw [5,6] (fun kk ii wr=>∃i k:Nat,1≤i∧i≤n∧k<n∧ii= .int .i64 i∧kk= .int .i64 k∧Below w.heap.size w wr∧(∀j,j<5→wr.cell? ⟨w.heap.size,j,none⟩=some (.int .i64 0))∧(∀j,wr.frozen? ⟨w.heap.size,j,none⟩=false)∧w.heap.size<wr.heap.size∧Hid (bB o f (n-i) i k=bD o f n)) (fun _ ii _=>n-(intOf ii).toNat)
 case atStart=>
  refine⟨1,0,Nat.le_refl _,h0,h0,rfl,rfl,(bL _ _).alloc (Nat.le_refl _) _,fun j hj=>?_,fun j=>by rw[World.frozen?_alloc_at _ _ _ _ rfl],by simp,rfl⟩;rw[World.cell?_alloc_at _ _ _ _ rfl];have h5:j=0∨j=1∨j=2∨j=3∨j=4:=by omega
  rcases h5 with rfl|rfl|rfl|rfl|rfl<;>rfl
 case round=>
  obtain⟨i,k,hi1,hi,hk,rfl,rfl,hB,hz,hfz,hsz,HL⟩:=hrel;have HZ:=aA hz
  have HFZ:=aA hfz;clear hz hfz;have hkn:(k:Int)<(n:Int):=by omega
  by_cases hlt:i<n
  ·have hin:(i:Int)<(n:Int):=by omega
   have hbr:b<wr.heap.size:=jY hblt hB.size;have ne:=bJ.there wr
   have hci:=(HCL.out i hlt).below hB hblt;have hck:=(HCL.out k hk).below hB hblt
   have s1:∀u:bJ wr,u.1.cell? ⟨b,off+i*5+1,none⟩=some (.int .i64 (f i).m.x):=fun u=>(u.cell hbr).trans hci.2.1;have s2:∀u:bJ wr,u.1.cell? ⟨b,off+i*5+2,none⟩=some (.int .i64 (f i).m.y):=fun u=>(u.cell hbr).trans hci.2.2.1
   have s3:∀u:bJ wr,u.1.cell? ⟨b,off+i*5+3,none⟩=some (.int .i64 (f i).m.d):=fun u=>(u.cell hbr).trans hci.2.2.2.1;have s4:∀u:bJ wr,u.1.cell? ⟨b,off+i*5+4,none⟩=some (.int .i64 (f i).m.e):=fun u=>(u.cell hbr).trans hci.2.2.2.2
   have t1:∀u:bJ wr,u.1.cell? ⟨b,off+k*5+1,none⟩=some (.int .i64 (f k).m.x):=fun u=>(u.cell hbr).trans hck.2.1;have t2:∀u:bJ wr,u.1.cell? ⟨b,off+k*5+2,none⟩=some (.int .i64 (f k).m.y):=fun u=>(u.cell hbr).trans hck.2.2.1
   have t3:∀u:bJ wr,u.1.cell? ⟨b,off+k*5+3,none⟩=some (.int .i64 (f k).m.d):=fun u=>(u.cell hbr).trans hck.2.2.2.1;have t4:∀u:bJ wr,u.1.cell? ⟨b,off+k*5+4,none⟩=some (.int .i64 (f k).m.e):=fun u=>(u.cell hbr).trans hck.2.2.2.2
   have HO:Hid (o=3→(f i).m.ok=true∧(f k).m.ok=true):=fun _=>⟨HM.out i hlt,HM.out k hk⟩
   have keep:∀u:bJ wr,(∀j,j<5→u.1.cell? ⟨w.heap.size,j,none⟩=some (.int .i64 0))∧(∀j,u.1.frozen? ⟨w.heap.size,j,none⟩=false)∧w.heap.size<u.1.heap.size:=fun u=>⟨fun j hj=>(u.cell hsz).trans (HZ.out j hj),fun j=>(u.2.frozen (p:=⟨w.heap.size,j,none⟩) hsz).trans (HFZ.out j),jY hsz u.2.size⟩
   have KP:=aA keep;clear hci hck keep;by_cases hq:0<M.ord o (f i).m (f k).m
   ·have dq:decide (0<M.ord o ⟨(f i).m.x,(f i).m.y,(f i).m.d,(f i).m.e⟩ ⟨(f k).m.x,(f k).m.y,(f k).m.d,(f k).m.e⟩)=true:=decide_eq_true hq;have HN:Hid (bB o f (n-(i+1)) (i+1) i=bD o f n):=by show _=_;rw[←HL.out,show n-i=(n-(i+1))+1 by omega,bB,if_pos hq]
    clear hq HL;go_wp2_with fail;refine aG (by kernel_rfl) (by kernel_rfl) ?_;repeat(go_big_quiet_step (first|(go_at_call 82;exact aJ (Od _ _ _ _ _ _ _ _ _ _ HO.out))))
    refine wpQuiet_nil ?_;rintro _ ⟨u,rfl⟩;go_wp2;go_roundw;case rel=>exact⟨i+1,i,by omega,by omega,hlt,by go_num,by go_num,hB.trans (u.2.mono hB.size),(KP.out u).1,(KP.out u).2.1,(KP.out u).2.2,HN⟩
    case measure=>simp[intOf];omega
   ·have dq:decide (0<M.ord o ⟨(f i).m.x,(f i).m.y,(f i).m.d,(f i).m.e⟩ ⟨(f k).m.x,(f k).m.y,(f k).m.d,(f k).m.e⟩)=false:=decide_eq_false hq;have HN:Hid (bB o f (n-(i+1)) (i+1) k=bD o f n):=by show _=_;rw[←HL.out,show n-i=(n-(i+1))+1 by omega,bB,if_neg hq]
    clear hq HL;go_wp2_with fail;refine aG (by kernel_rfl) (by kernel_rfl) ?_;repeat(go_big_quiet_step (first|(go_at_call 82;exact aJ (Od _ _ _ _ _ _ _ _ _ _ HO.out))))
    refine wpQuiet_nil ?_;rintro _ ⟨u,rfl⟩;go_wp2;go_roundw;case rel=>exact⟨i+1,k,by omega,by omega,hk,by go_num,by go_num,hB.trans (u.2.mono hB.size),(KP.out u).1,(KP.out u).2.1,(KP.out u).2.2,HN⟩
    case measure=>simp[intOf];omega
  ·have hkl:Hid (k=bD o f n):=by show _=_;rw[←HL.out,show n-i=0 by omega];rfl
   obtain⟨g0,g1,g2,g3,g4⟩:=(HCL.out k hk).below hB hblt;have z0:=HZ.out 0 (by omega)
   have z1:=HZ.out 1 (by omega);have z2:=HZ.out 2 (by omega)
   have z3:=HZ.out 3 (by omega);have z4:=HZ.out 4 (by omega)
   have fz:=HFZ.out;have hne:¬b=w.heap.size:=by omega
   clear HL;go_wp2;refine bY (v:=.agg #[.int .i64 (f k).c,.int .i64 (f k).m.x,.int .i64 (f k).m.y,.int .i64 (f k).m.d,.int .i64 (f k).m.e]) (by simp[results,Tryz.results61,go_sem, *]) rfl ⟨by rw[←hkl.out],?_⟩;exact cE hB (Nat.le_refl _) _ _ _ _ _
theorem mI (w:World) (lo:Nat):w.ownsRow lo 42 5 (.slice none 0 0) 0 (aE []):=⟨rfl,.inl ⟨rfl,rfl⟩⟩
theorem Ei (c x y d e:Int) (w:World):Calls Tryz.prog 139 #[.int .i64 c,.agg #[.int .i64 x,.int .i64 y,.int .i64 d,.int .i64 e]] w fun r w'=>∃v,r= .returned v∧Below w.heap.size w w'∧w'.ownsRow w.heap.size 42 5 v (xA c ⟨x,y,d,e⟩).length (aE (xA c ⟨x,y,d,e⟩)):=by
 cases ht:iU c ⟨x,y,d,e⟩
 ·have e1:xA c ⟨x,y,d,e⟩=[]:=by unfold xA;rw[if_neg (fun h=>by rw[iU,decide_eq_true h.1,h.2]at ht;cases ht)]
  rw[e1];clear e1;go_enter Tryz.func139,Tryz.ntmps139;go_wp2_with fail;refine(lV ht _).mono ?_;rintro r w1 ⟨rfl,hb⟩;have HB:=aA (aB (aC w _) hb)
  clear hb;go_wp2;go_ret;exact⟨_,rfl,HB.out,mI w1 _⟩
 ·have e1:xA c ⟨x,y,d,e⟩=[⟨c,⟨x,y,d,e⟩⟩]:=by unfold xA;simp only[iU,Bool.and_eq_true,decide_eq_true_eq]at ht;rw[if_pos ht]
  rw[e1];clear e1;go_enter Tryz.func139,Tryz.ntmps139;go_wp2_with fail;refine(lV ht _).mono ?_;rintro r w1 ⟨rfl,hb⟩;obtain⟨hcl,hf⟩:=aP hb;have HB:=aA (aB (aC w _) hb)
  clear hb;go_wp2;go_ret;exact⟨_,rfl,HB.out.alloc HB.out.size _,World.ownsRow_lit w1 #[.int .i64 c,.int .i64 x,.int .i64 y,.int .i64 d,.int .i64 e] 1 HB.out.size (by decide) rfl⟩
theorem KG (c:Int) (f:Nat→T) (n:Nat):(fD c f n).length≤400:=by
 unfold fD;split
 ·rename_i h;rw[KU];exact(VC h.2.1).1
 ·simp
theorem nO (w:World) (lo:Nat):w.ownsRow lo 42 5 (.slice none 0 0) 0 (aE []):=⟨rfl,.inl ⟨rfl,rfl⟩⟩
theorem DS {w w':World} {b:Nat} {v0 v1 v2 v3 v4:Value} (hb:Below w.heap.size w w') (h:w.cell? ⟨b,0,none⟩=some v0∧w.cell? ⟨b,1,none⟩=some v1∧w.cell? ⟨b,2,none⟩=some v2∧w.cell? ⟨b,3,none⟩=some v3∧w.cell? ⟨b,4,none⟩=some v4):w'.cell? ⟨b,0,none⟩=some v0∧w'.cell? ⟨b,1,none⟩=some v1∧w'.cell? ⟨b,2,none⟩=some v2∧w'.cell? ⟨b,3,none⟩=some v3∧w'.cell? ⟨b,4,none⟩=some v4:=by have hl:b<w.heap.size:=cX w _ h.1;exact⟨(hb.cell (p:=⟨b,0,none⟩) hl).trans h.1,(hb.cell (p:=⟨b,1,none⟩) hl).trans h.2.1,(hb.cell (p:=⟨b,2,none⟩) hl).trans h.2.2.1,(hb.cell (p:=⟨b,3,none⟩) hl).trans h.2.2.2.1,(hb.cell (p:=⟨b,4,none⟩) hl).trans h.2.2.2.2⟩
theorem Fj {w:World} {o:Obj} {b:Nat} {v0 v1 v2 v3 v4:Value} (h:w.cell? ⟨b,0,none⟩=some v0∧w.cell? ⟨b,1,none⟩=some v1∧w.cell? ⟨b,2,none⟩=some v2∧w.cell? ⟨b,3,none⟩=some v3∧w.cell? ⟨b,4,none⟩=some v4):(w.alloc o).cell? ⟨b,0,none⟩=some v0∧(w.alloc o).cell? ⟨b,1,none⟩=some v1∧(w.alloc o).cell? ⟨b,2,none⟩=some v2∧(w.alloc o).cell? ⟨b,3,none⟩=some v3∧(w.alloc o).cell? ⟨b,4,none⟩=some v4:=DS ((bL _ _).alloc (Nat.le_refl _) o) h
theorem Kb {w:World} {b:Nat} {v0 v1 v2 v3 v4:Value} (h:w.cell? ⟨b,0,none⟩=some v0∧w.cell? ⟨b,1,none⟩=some v1∧w.cell? ⟨b,2,none⟩=some v2∧w.cell? ⟨b,3,none⟩=some v3∧w.cell? ⟨b,4,none⟩=some v4):w.drew.cell? ⟨b,0,none⟩=some v0∧w.drew.cell? ⟨b,1,none⟩=some v1∧w.drew.cell? ⟨b,2,none⟩=some v2∧w.drew.cell? ⟨b,3,none⟩=some v3∧w.drew.cell? ⟨b,4,none⟩=some v4:=DS (bL _ _).drew h
theorem Fk {w w':World} {row:Option Nat} {b:Nat} {v0 v1 v2 v3 v4:Value} (hg:w.grownBy w' row) (hne:some b≠row) (h:w.cell? ⟨b,0,none⟩=some v0∧w.cell? ⟨b,1,none⟩=some v1∧w.cell? ⟨b,2,none⟩=some v2∧w.cell? ⟨b,3,none⟩=some v3∧w.cell? ⟨b,4,none⟩=some v4):w'.cell? ⟨b,0,none⟩=some v0∧w'.cell? ⟨b,1,none⟩=some v1∧w'.cell? ⟨b,2,none⟩=some v2∧w'.cell? ⟨b,3,none⟩=some v3∧w'.cell? ⟨b,4,none⟩=some v4:=by have he:=hg.block b (cX w _ h.1) hne;exact⟨(mB (w:=w) (a:=⟨b,0,none⟩) he).trans h.1,(mB (w:=w) (a:=⟨b,1,none⟩) he).trans h.2.1,(mB (w:=w) (a:=⟨b,2,none⟩) he).trans h.2.2.1,(mB (w:=w) (a:=⟨b,3,none⟩) he).trans h.2.2.2.1,(mB (w:=w) (a:=⟨b,4,none⟩) he).trans h.2.2.2.2⟩
theorem GZ (w:World) (c:Int) (a:Option Addr) (n cap:Nat) (f:Nat→T) (h:Rd w a n cap f):Calls Tryz.prog 30 #[.int .i64 c,.slice a n cap] w fun r w'=>∃v,r= .returned v∧Below w.heap.size w w'∧w'.ownsRow w.heap.size 42 5 v (fD c f n).length (aE (fD c f n)):=by
 obtain⟨i0,hi0,hz0,hz1,hz2⟩:=info_parts uG;have HR:=aA h
 by_cases hz:c=0
 ·have e1:fD c f n=[]:=by simp[fD,hz]
  rw[e1];subst hz;clear h e1;go_enter Tryz.func30,Tryz.ntmps30;go_wp2;go_ret;exact⟨_,rfl,bL _ _,nO w _⟩
 ·have hcb:(c==0)=false:=by simp[hz]
  by_cases hc:0≤c∧c≤100
  ·obtain⟨c0,c1⟩:=hc;cases hp:aN n f
   ·have e1:fD c f n=[]:=by simp[fD,hp]
    rw[e1];clear h e1 hz;go_enter Tryz.func30,Tryz.ntmps30;go_wp2_with (go_at_call 71;refine(rC _ _ c0 c1).mono ?_;rintro r w' ⟨rfl,hw'⟩;obtain rfl:=hw'.symm;clear hw');refine(eO _ _ _ _ f HR.out).mono ?_;rw[hp];rintro r w1 ⟨rfl,hb⟩;go_wp2;go_ret;exact⟨_,rfl,hb,nO w1 _⟩
   ·obtain⟨l1,c2⟩:=VC hp;have HC:=aA c2
    have e1:fD c f n=LP c f n:=by simp[fD,hp,c0,c1,hz]
    rw[e1,KU];obtain⟨h1,h2,h3⟩:=h;have hn:(n:Int)≤400:=by omega
    clear e1 hz c2;go_enter Tryz.func30,Tryz.ntmps30;go_wp2_with (go_at_call 71;refine(rC _ _ c0 c1).mono ?_;rintro r w' ⟨rfl,hw'⟩;obtain rfl:=hw'.symm;clear hw');refine(eO _ _ _ _ f HR.out).mono ?_;rw[hp];rintro r w1 ⟨rfl,hb1⟩;have HB1:=aA hb1
    clear hb1;go_wp2;go_loopw [5,22] (fun v i wr=>∃k:Nat,k≤n∧i= .int .i64 k∧Below w.heap.size w wr∧wr.ownsRow w.heap.size 42 5 v k (aE (LP c f k))) (fun _ i _=>n-(intOf i).toNat);case atStart=>exact⟨0,Nat.zero_le _,rfl,HB1.out,nO w1 _⟩
    case round=>
     obtain⟨k,hk,rfl,hB,hown⟩:=hrel;by_cases hlt:k<n
     ·rcases h3 with h0|⟨b,off,rfl,hblt,hcl⟩
      ·omega
      have hkn:(k:Int)<(n:Int):=by omega
      obtain⟨g0,g1,g2,g3,g4⟩:=(hcl k hlt).below hB hblt;obtain⟨TP,TR⟩:=HC.out k hlt;obtain⟨mb1,mb2⟩:=pI c0 c1 TP TR;have HO:=aA hown
      clear hcl hown;go_wp2_with fail;have HOQ:=aA (HO.out.alloc (.cells #[.int .i64 (f k).c,.int .i64 (f k).m.x,.int .i64 (f k).m.y,.int .i64 (f k).m.d,.int .i64 (f k).m.e] 42))
      have HBQ:=aA (hB.alloc hB.size (.cells #[.int .i64 (f k).c,.int .i64 (f k).m.x,.int .i64 (f k).m.y,.int .i64 (f k).m.d,.int .i64 (f k).m.e] 42));have q:∀i v,#[Value.int .i64 (f k).c,.int .i64 (f k).m.x,.int .i64 (f k).m.y,.int .i64 (f k).m.d,.int .i64 (f k).m.e][i]? =some v→(wr.alloc (.cells #[.int .i64 (f k).c,.int .i64 (f k).m.x,.int .i64 (f k).m.y,.int .i64 (f k).m.d,.int .i64 (f k).m.e] 42)).cell? ⟨wr.heap.size,i,none⟩=some v:=fun i v hv=>by rw[World.cell?_alloc_at _ _ _ _ rfl];exact hv
      have hsz:(wr.alloc (.cells #[.int .i64 (f k).c,.int .i64 (f k).m.x,.int .i64 (f k).m.y,.int .i64 (f k).m.d,.int .i64 (f k).m.e] 42)).heap.size=wr.heap.size+1:=by simp
      generalize(wr.alloc (.cells #[.int .i64 (f k).c,.int .i64 (f k).m.x,.int .i64 (f k).m.y,.int .i64 (f k).m.d,.int .i64 (f k).m.e] 42))=wq at HOQ HBQ q hsz⊢;have q0:=q 0 _ rfl
      have q1:=q 1 _ rfl;have q2:=q 2 _ rfl
      have q3:=q 3 _ rfl;have q4:=q 4 _ rfl
      have hws:w.heap.size≤wr.heap.size:=hB.size;have HSZ:=aA hsz
      clear g0 g1 g2 g3 g4 q hsz
      go_region_held3 (fun u=>u.cell? ⟨wr.heap.size,0,none⟩=some (.int .i64 (f k).c)∧u.cell? ⟨wr.heap.size,1,none⟩=some (.int .i64 (f k).m.x)∧u.cell? ⟨wr.heap.size,2,none⟩=some (.int .i64 (f k).m.y)∧u.cell? ⟨wr.heap.size,3,none⟩=some (.int .i64 (f k).m.d)∧u.cell? ⟨wr.heap.size,4,none⟩=some (.int .i64 (f k).m.e)) (first|exact Fk hgrow (fun hh=>absurd (HO.out.lt _ hh.symm).2 (Nat.lt_irrefl _)) (by assumption)|exact Fj (by assumption)|exact Kb (by assumption)|exact⟨q0,q1,q2,q3,q4⟩) (first|(refine step_append_lies _ (by rfl) (.tmp 26) (.tmp 34) 45 (by rfl) w.heap.size 42 i0 _ 5 40 Tryz.underlying45 hi0 hz0 hz1 hz2 rfl (by omega) _ k (aE (LP c f k)) (by rfl) (by first|exact HOQ.out.alloc _|exact(dC HOQ.out (bL _ _).drew).alloc _) ⟨wq.heap.size,0,none⟩ 1 1 (aE [⟨c*(f k).c%101,(f k).m⟩]) (by rfl) (by rw[aX];rfl) (by rw[dM];exact World.news_of_block (heap_alloc_new wq _)) (dX _) (by omega) (by unfold maxLen;omega) (by omega) (by have:=HBQ.out.size;simp;omega) _ (by rfl) ?_;intro g0 cap0 w1 hown1 hgrow hat hlt1)|(go_at_call 72;refine(Qp _ _ _).mono ?_;rw[jW c0 c1 TP TR];rintro r w2 ⟨rfl,hw2⟩;obtain rfl:=hw2.symm;clear hw2))
      have HB:=aA (((HBQ.out.alloc HBQ.out.size _).drew).grown hgrow (jZ HBQ.out.size (by simp)) (fun j hj=>(HOQ.out.lt j hj).1));have HP:=aA hown1
      clear hown1 hgrow hat hlt1 HOQ HO;go_wp2;go_roundw;case rel=>exact⟨k+1,by omega,by go_num,HB.out,by rw[PH,bK];exact HP.out⟩
      case measure=>simp[intOf];omega
     ·have hkn:k=n:=by omega
      subst hkn;have HO:=aA hown
      clear hown;go_wp2;go_ret;exact⟨_,rfl,hB,HO.out⟩
  ·have e1:fD c f n=[]:=by simp[fD,hc]
   rw[e1];have hc':c<0∨100<c:=by omega
   clear hc e1 hz h;go_enter Tryz.func30,Tryz.ntmps30;go_wp2_with (go_at_call 71;refine(oU _ _ hc').mono ?_;rintro r w' ⟨rfl,rfl⟩);go_ret;exact⟨_,rfl,bL _ _,nO _ _⟩
def bF (o:Int) (n:Nat) (f:Nat→T):Bool:=decide (1≤o∧o≤3)&&aN n f&&decide (0<n)
def bQ (o:Int) (n:Nat) (f:Nat→T):T:=if bF o n f=true then f (bD o f n)else⟨0,⟨0,0,0,0⟩⟩
theorem wP {o:Int} {n:Nat} {f:Nat→T} (h:bF o n f=false):bQ o n f=⟨0,⟨0,0,0,0⟩⟩:=by rw[bQ,if_neg (by rw[h];decide)]
theorem dP {o:Int} {n:Nat} {f:Nat→T} (h:bF o n f=true):bQ o n f=f (bD o f n):=by rw[bQ,if_pos h]
end Go.Proofs.YtdidlcjhodejjaaGreat
