/-
  More of chapter 3's model: an operator of one term, the number of a monomial, so many times an operator.
-/
import Derived.Test.YtelkehjdfcoeiaaGreatNaf
import Derived.Test.YtelkehjdfcoeiaaGreatNae
set_option maxHeartbeats 4000000
set_option maxRecDepth 100000
namespace Go.Proofs.YtelkehjdfcoeiaaGreat
open Go.RowKit
set_option linter.unusedVariables false
def rR (c:Int) (m:M):List T:=if(1≤c∧c≤100)∧m.ok=true then[⟨c,m⟩]else[]
def MO (c:Int) (f:Nat→T) (k:Nat):List T:=(List.range k).map fun i=>⟨c*(f i).c%101,(f i).m⟩
theorem VH (c:Int) (f:Nat→T) (k:Nat):(MO c f k).length=k:=by simp[MO]
theorem RG (c:Int) (f:Nat→T) (k:Nat):MO c f (k+1)=MO c f k++[⟨c*(f k).c%101,(f k).m⟩]:=by simp[MO,List.range_succ]
theorem OQ (w:World) (c:Int) (a:Option Addr) (n cap:Nat) (f:Nat→T) (h:Rd w a n cap f) (hc0:0≤c) (hc1:c≤100) (hl:n≤1000000) (hcf:∀i,i<n→0≤(f i).c∧(f i).c≤100):Calls Tryz.prog 59 #[.int .i64 c,.slice a n cap] w fun r w'=>∃v,r= .returned v∧Below w.heap.size w w'∧w'.ownsRow w.heap.size 86 5 v (if c=0 then 0 else n) (aE (MO c f (if c=0 then 0 else n))):=by
 obtain⟨i0,hi0,hz0,hz1,hz2⟩:=info_parts vJ;obtain⟨h1,h2,h3⟩:=h;have hn:(n:Int)≤1000000:=by omega
 by_cases hz:c=0
 ·rw[if_pos hz];subst hz;go_enter Tryz.func59,Tryz.ntmps59;go_wp2;go_loopw [5,6] (fun v i wr=>v= .slice (some ⟨w.heap.size,0,none⟩) 0 0∧i= .int .i64 0∧wr=w.alloc (.cells #[] 86)) (fun _ _ _=>0);case atStart=>exact⟨rfl,rfl,rfl⟩
  case round=>
   obtain⟨rfl,rfl,rfl⟩:=hrel;by_cases hn0:n=0
   ·subst hn0;go_wp2;go_ret;exact⟨_,rfl,(bQ _ _).alloc (Nat.le_refl _) _,dM w _ (Nat.le_refl _)⟩
   ·have hnp:(0:Int)<(n:Int):=by omega
    have dn:decide ((0:Int)<(n:Int))=true:=decide_eq_true hnp;go_wp2;go_ret;exact⟨_,rfl,(bQ _ _).alloc (Nat.le_refl _) _,dM w _ (Nat.le_refl _)⟩
 ·rw[if_neg hz];have hcb:(c !=0)=true:=by simp[hz]
  clear hz;go_enter Tryz.func59,Tryz.ntmps59;go_wp2;go_loopw [5,6] (fun v i wr=>∃k:Nat,k≤n∧i= .int .i64 k∧Below w.heap.size w wr∧wr.ownsRow w.heap.size 86 5 v k (aE (MO c f k))) (fun _ i _=>n-(intOf i).toNat);case atStart=>exact⟨0,Nat.zero_le _,rfl,(bQ _ _).alloc (Nat.le_refl _) _,dM w _ (Nat.le_refl _)⟩
  case round=>
   obtain⟨k,hk,rfl,hB,hown⟩:=hrel;by_cases hlt:k<n
   ·rcases h3 with h0|⟨b,off,rfl,hblt,hcl⟩
    ·omega
    have hkn:(k:Int)<(n:Int):=by omega
    have hbr:b<wr.heap.size:=iZ hblt hB.size;obtain⟨g0,g1,g2,g3,g4⟩:=(hcl k hlt).below hB hblt;obtain⟨SO,SP⟩:=hcf k hlt;obtain⟨mb1,mb2⟩:=mS hc0 hc1 SO SP;have HV:Hid ((IntKind.i64.wrap (c*(f k).c)).tmod 101=c*(f k).c%101):=by show _=_;rw[show IntKind.i64.wrap (c*(f k).c)=c*(f k).c by rw[IntKind.wrap_i64];omega,Int.tmod_eq_emod_of_nonneg mb1]
    have HO:=aA hown;clear hcl hcf hown;go_wp2_with fail
    go_region_held3 (fun u=>u.cell? ⟨b,off+k*5,none⟩=some (.int .i64 (f k).c)∧u.cell? ⟨b,off+k*5+1,none⟩=some (.int .i64 (f k).m.x)∧u.cell? ⟨b,off+k*5+2,none⟩=some (.int .i64 (f k).m.y)∧u.cell? ⟨b,off+k*5+3,none⟩=some (.int .i64 (f k).m.d)∧u.cell? ⟨b,off+k*5+4,none⟩=some (.int .i64 (f k).m.e)) (first|go_keep|(refine⟨?_,?_,?_,?_,?_⟩<;>(rw[hgrow.cell_far _ (by simp;omega) (by intro hh;exact absurd (HO.out.lt b hh.symm).1 (by omega))];go_simp))) ((refine step_append_lies _ (by rfl) (.tmp 18) (.tmp 33) 41 (by rfl) w.heap.size 86 i0 _ 5 40 Tryz.underlying41 hi0 hz0 hz1 hz2 rfl (by omega) _ k (aE (MO c f k)) (by rfl) (by first|exact HO.out.alloc _|exact(dY HO.out (bQ _ _).drew).alloc _) ⟨wr.heap.size,0,none⟩ 1 1 (aE [⟨c*(f k).c%101,(f k).m⟩]) (by rfl) (by rw[bJ];rfl) (by rw[dX];simp only;rw[←HV.out];exact World.news_of_block (heap_alloc_new wr _)) (fK _) (by omega) (by unfold maxLen;omega) (by omega) (by have:=hB.size;simp;omega) _ (by rfl) ?_;intro g0 cap0 w1 hown1 hgrow hat hlt1))
    have HB:=aA (((hB.alloc hB.size _).drew).grown hgrow (gW hB.size (by simp)) (fun j hj=>(HO.out.lt j hj).1));have HP:=aA hown1
    clear hown1 hgrow hat hlt1 HO;go_wp2;go_roundw;case rel=>exact⟨k+1,by omega,by go_num,HB.out,by rw[RG,cK];exact HP.out⟩
    case measure=>simp[intOf];omega
   ·have hkn:k=n:=by omega
    subst hkn;have HO:=aA hown
    clear hown hcf;go_wp2;go_ret;exact⟨_,rfl,hB,HO.out⟩
theorem vN (c:Int) (f:Nat→T) (n i:Nat) (h:i<n):lf (MO c f n) i=⟨c*(f i).c%101,(f i).m⟩:=by simp[lf,MO,List.getD,List.getElem?_map,List.getElem?_range h]
def uE (g:Nat→T) (lb:Nat):Nat→T:=lf (MO 100 g lb)
def iO (f:Nat→T) (la:Nat) (g:Nat→T) (lb:Nat):List T×Bool:=
 if aK la f=true∧aK lb g=true∧(fG f la (uE g lb) lb 0 0).length≤400 then(fG f la (uE g lb) lb 0 0,true)else([],false)
theorem vY (f:Nat→T) (la:Nat) (g:Nat→T) (lb:Nat):(iO f la g lb).1.length≤400:=by
 unfold iO;split
 ·rename_i h;exact h.2.2
 ·simp
theorem rS {n:Nat} {f:Nat→T} (h:aK n f=true):∀i,i<n→(f i).m.ok=true:=by
 intro i hi;simp only[aK,decide_eq_true_eq]at h;have:=h.2 i hi
 simp only[jD,Bool.and_eq_true,decide_eq_true_eq]at this;exact this.1.2
def aR (o:Int) (f:Nat→T):Nat→Nat→Nat→Nat
 |0,_,k=>k
 |u+1,i,k=>if 0<M.ord o (f i).m (f k).m then aR o f u (i+1) i else aR o f u (i+1) k
def aT (o:Int) (f:Nat→T) (n:Nat):Nat:=aR o f (n-1) 1 0
theorem rI (w:World) (o:Int) (a:Option Addr) (n cap:Nat) (f:Nat→T) (h:Rd w a n cap f) (h0:0<n) (hm:∀i,i<n→(f i).m.ok=true):Calls Tryz.prog 113 #[.int .i64 o,.slice a n cap] w fun r w'=>r= .returned (.agg #[.int .i64 (f (aT o f n)).c,.int .i64 (f (aT o f n)).m.x,.int .i64 (f (aT o f n)).m.y,.int .i64 (f (aT o f n)).m.d,.int .i64 (f (aT o f n)).m.e])∧Below w.heap.size w w':=by
 obtain⟨h1,h2,h3⟩:=h;have HM:=aA hm
 clear hm;have hn:(n:Int)≤140737488351232:=by omega
 obtain⟨b,off,rfl,hblt,hcl⟩:=h3.resolve_left (by omega);have HCL:=aA hcl
 clear h3 hcl;go_enter Tryz.func113,Tryz.ntmps113;go_wp2;go_loopw [5,6] (fun kk ii wr=>∃i k:Nat,1≤i∧i≤n∧k<n∧ii= .int .i64 i∧kk= .int .i64 k∧Below w.heap.size w wr∧(∀j,j<5→wr.cell? ⟨w.heap.size,j,none⟩=some (.int .i64 0))∧(∀j,wr.frozen? ⟨w.heap.size,j,none⟩=false)∧w.heap.size<wr.heap.size∧Hid (aR o f (n-i) i k=aT o f n)) (fun _ ii _=>n-(intOf ii).toNat)
 case atStart=>
  refine⟨1,0,Nat.le_refl _,h0,h0,rfl,rfl,(bQ _ _).alloc (Nat.le_refl _) _,fun j hj=>?_,fun j=>by rw[World.frozen?_alloc_at _ _ _ _ rfl],by simp,rfl⟩;rw[World.cell?_alloc_at _ _ _ _ rfl];have h5:j=0∨j=1∨j=2∨j=3∨j=4:=by omega
  rcases h5 with rfl|rfl|rfl|rfl|rfl<;>rfl
 case round=>
  obtain⟨i,k,hi1,hi,hk,rfl,rfl,hB,hz,hfz,hsz,HL⟩:=hrel;have HZ:=aA hz
  have HFZ:=aA hfz;clear hz hfz;have hkn:(k:Int)<(n:Int):=by omega
  by_cases hlt:i<n
  ·have hin:(i:Int)<(n:Int):=by omega
   have hbr:b<wr.heap.size:=iZ hblt hB.size;have ne:=bR.there wr
   have hci:=(HCL.out i hlt).below hB hblt;have hck:=(HCL.out k hk).below hB hblt
   have s1:∀u:bR wr,u.1.cell? ⟨b,off+i*5+1,none⟩=some (.int .i64 (f i).m.x):=fun u=>(u.cell hbr).trans hci.2.1;have s2:∀u:bR wr,u.1.cell? ⟨b,off+i*5+2,none⟩=some (.int .i64 (f i).m.y):=fun u=>(u.cell hbr).trans hci.2.2.1
   have s3:∀u:bR wr,u.1.cell? ⟨b,off+i*5+3,none⟩=some (.int .i64 (f i).m.d):=fun u=>(u.cell hbr).trans hci.2.2.2.1;have s4:∀u:bR wr,u.1.cell? ⟨b,off+i*5+4,none⟩=some (.int .i64 (f i).m.e):=fun u=>(u.cell hbr).trans hci.2.2.2.2
   have t1:∀u:bR wr,u.1.cell? ⟨b,off+k*5+1,none⟩=some (.int .i64 (f k).m.x):=fun u=>(u.cell hbr).trans hck.2.1;have t2:∀u:bR wr,u.1.cell? ⟨b,off+k*5+2,none⟩=some (.int .i64 (f k).m.y):=fun u=>(u.cell hbr).trans hck.2.2.1
   have t3:∀u:bR wr,u.1.cell? ⟨b,off+k*5+3,none⟩=some (.int .i64 (f k).m.d):=fun u=>(u.cell hbr).trans hck.2.2.2.1;have t4:∀u:bR wr,u.1.cell? ⟨b,off+k*5+4,none⟩=some (.int .i64 (f k).m.e):=fun u=>(u.cell hbr).trans hck.2.2.2.2
   have HO:Hid (o=3→(f i).m.ok=true∧(f k).m.ok=true):=fun _=>⟨HM.out i hlt,HM.out k hk⟩
   have keep:∀u:bR wr,(∀j,j<5→u.1.cell? ⟨w.heap.size,j,none⟩=some (.int .i64 0))∧(∀j,u.1.frozen? ⟨w.heap.size,j,none⟩=false)∧w.heap.size<u.1.heap.size:=fun u=>⟨fun j hj=>(u.cell hsz).trans (HZ.out j hj),fun j=>(u.2.frozen (p:=⟨w.heap.size,j,none⟩) hsz).trans (HFZ.out j),iZ hsz u.2.size⟩
   have KP:=aA keep;clear hci hck keep;by_cases hq:0<M.ord o (f i).m (f k).m
   ·have dq:decide (0<M.ord o ⟨(f i).m.x,(f i).m.y,(f i).m.d,(f i).m.e⟩ ⟨(f k).m.x,(f k).m.y,(f k).m.d,(f k).m.e⟩)=true:=decide_eq_true hq;have HN:Hid (aR o f (n-(i+1)) (i+1) i=aT o f n):=by show _=_;rw[←HL.out,show n-i=(n-(i+1))+1 by omega,aR,if_pos hq]
    clear hq HL;go_wp2_with fail;refine aF (by kernel_rfl) (by kernel_rfl) ?_;repeat(go_big_quiet_step (first|(go_at_call 111;exact aG (Ae _ _ _ _ _ _ _ _ _ _ HO.out))))
    refine wpQuiet_nil ?_;rintro _ ⟨u,rfl⟩;go_wp2;go_roundw;case rel=>exact⟨i+1,i,by omega,by omega,hlt,by go_num,by go_num,hB.trans (u.2.mono hB.size),(KP.out u).1,(KP.out u).2.1,(KP.out u).2.2,HN⟩
    case measure=>simp[intOf];omega
   ·have dq:decide (0<M.ord o ⟨(f i).m.x,(f i).m.y,(f i).m.d,(f i).m.e⟩ ⟨(f k).m.x,(f k).m.y,(f k).m.d,(f k).m.e⟩)=false:=decide_eq_false hq;have HN:Hid (aR o f (n-(i+1)) (i+1) k=aT o f n):=by show _=_;rw[←HL.out,show n-i=(n-(i+1))+1 by omega,aR,if_neg hq]
    clear hq HL;go_wp2_with fail;refine aF (by kernel_rfl) (by kernel_rfl) ?_;repeat(go_big_quiet_step (first|(go_at_call 111;exact aG (Ae _ _ _ _ _ _ _ _ _ _ HO.out))))
    refine wpQuiet_nil ?_;rintro _ ⟨u,rfl⟩;go_wp2;go_roundw;case rel=>exact⟨i+1,k,by omega,by omega,hk,by go_num,by go_num,hB.trans (u.2.mono hB.size),(KP.out u).1,(KP.out u).2.1,(KP.out u).2.2,HN⟩
    case measure=>simp[intOf];omega
  ·have hkl:Hid (k=aT o f n):=by show _=_;rw[←HL.out,show n-i=0 by omega];rfl
   obtain⟨g0,g1,g2,g3,g4⟩:=(HCL.out k hk).below hB hblt;have z0:=HZ.out 0 (by omega)
   have z1:=HZ.out 1 (by omega);have z2:=HZ.out 2 (by omega)
   have z3:=HZ.out 3 (by omega);have z4:=HZ.out 4 (by omega)
   have fz:=HFZ.out;have hne:¬b=w.heap.size:=by omega
   clear HL;go_wp2;refine cV (v:=.agg #[.int .i64 (f k).c,.int .i64 (f k).m.x,.int .i64 (f k).m.y,.int .i64 (f k).m.d,.int .i64 (f k).m.e]) (by simp[results,Tryz.results113,go_sem, *]) rfl ⟨by rw[←hkl.out],?_⟩;exact bC hB (Nat.le_refl _) _ _ _ _ _
theorem iW (w:World) (lo:Nat):w.ownsRow lo 86 5 (.slice none 0 0) 0 (aE []):=⟨rfl,.inl ⟨rfl,rfl⟩⟩
theorem QA (c x y d e:Int) (w:World):Calls Tryz.prog 75 #[.int .i64 c,.agg #[.int .i64 x,.int .i64 y,.int .i64 d,.int .i64 e]] w fun r w'=>∃v,r= .returned v∧Below w.heap.size w w'∧w'.ownsRow w.heap.size 86 5 v (rR c ⟨x,y,d,e⟩).length (aE (rR c ⟨x,y,d,e⟩)):=by
 cases ht:fR c ⟨x,y,d,e⟩
 ·have e1:rR c ⟨x,y,d,e⟩=[]:=by unfold rR;rw[if_neg (fun h=>by rw[fR,decide_eq_true h.1,h.2]at ht;cases ht)]
  rw[e1];clear e1;go_enter Tryz.func75,Tryz.ntmps75;go_wp2_with fail;refine(iQ ht _).mono ?_;rintro r w1 ⟨rfl,hb⟩;have HB:=aA (aB (aC w _) hb)
  clear hb;go_wp2;go_ret;exact⟨_,rfl,HB.out,iW w1 _⟩
 ·have e1:rR c ⟨x,y,d,e⟩=[⟨c,⟨x,y,d,e⟩⟩]:=by unfold rR;simp only[fR,Bool.and_eq_true,decide_eq_true_eq]at ht;rw[if_pos ht]
  rw[e1];clear e1;go_enter Tryz.func75,Tryz.ntmps75;go_wp2_with fail;refine(iQ ht _).mono ?_;rintro r w1 ⟨rfl,hb⟩;obtain⟨hcl,hf⟩:=aL hb;have HB:=aA (aB (aC w _) hb)
  clear hb;go_wp2;go_ret;exact⟨_,rfl,HB.out.alloc HB.out.size _,World.ownsRow_lit w1 #[.int .i64 c,.int .i64 x,.int .i64 y,.int .i64 d,.int .i64 e] 1 HB.out.size (by decide) rfl⟩
open Go.RowKit Go.Deep Go.Joins
def aW (n:Nat) (ln:Nat→Nat) (f:Nat→Nat→T):Bool:=decide (n≤12∧∀i,i<n→ln i≠0∧aK (ln i) (f i)=true)
theorem OW (w:World) (a:Option Addr) (n cap:Nat) (ad:Nat→Option Addr) (ln cp:Nat→Nat) (f:Nat→Nat→T) (h:eH w a n cap ad ln cp f):Calls Tryz.prog 58 #[.slice a n cap] w fun r w'=>r= .returned (.bool (aW n ln f))∧Below w.heap.size w w':=by
 have hn:(n:Int)≤140737488351232:=by have:=h.2.1;omega
 have HH:=aA h;clear h;by_cases hbig:12<n
 ·have e:aW n ln f=false:=decide_eq_false (fun hh=>by omega);have hb:(12:Int)<(n:Int):=by omega
  rw[e];go_enter Tryz.func58,Tryz.ntmps58;go_wp2;go_ret;exact⟨rfl,bQ _ _⟩
 ·have hnb:¬(12:Int)<(n:Int):=by omega
  go_enter Tryz.func58,Tryz.ntmps58;go_wp2;go_loopw [10] (fun v wr=>∃i:Nat,i≤n∧v= .int .i64 (i:Int)∧Below w.heap.size w wr∧∀j,j<i→ln j≠0∧aK (ln j) (f j)=true) (fun v _=>n-(intOf v).toNat);case atStart=>exact⟨0,Nat.zero_le _,rfl,bQ _ _,fun j hj=>by omega⟩
  case round=>
   obtain⟨i,hi,rfl,hB,hJ⟩:=hrel;by_cases hlt:i<n
   ·rcases HH.out.2.2.1 with h0|⟨b,off,rfl,hblt,hcl⟩
    ·omega
    have hil:(i:Int)<(n:Int):=by omega
    have g0:wr.cell? ⟨b,off+i,none⟩=some (.slice (ad i) (ln i) (cp i)):=(hB.cell (p:=⟨b,off+i,none⟩) hblt).trans (hcl i hlt);have HK:=aA ((HH.out.2.2.2 i hlt).below hB)
    have HB:=aA hB;have HJ:=aA hJ
    clear hcl hB hJ;by_cases h0:ln i=0
    ·have HE:Hid (aW n ln f=false):=decide_eq_false (fun hh=>(hh.2 i hlt).1 h0);have hz:((ln i:Int)==0)=true:=by rw[h0];rfl
     clear h0;go_wp2;go_ret;exact⟨congrArg (fun z=>Ending.returned (Value.bool z)) HE.out.symm,HB.out⟩
    ·have hz:((ln i:Int)==0)=false:=by rw[beq_eq_false_iff_ne];omega
     have HZ:=aA h0;clear h0;cases hp:aK (ln i) (f i)
     ·have HE:Hid (aW n ln f=false):=decide_eq_false (fun hh=>by have:=(hh.2 i hlt).2;rw[hp]at this;cases this);go_wp2_with fail;refine(dZ _ _ _ _ (f i) HK.out).mono ?_;rw[hp];rintro r w1 ⟨rfl,hb⟩;have HB1:=aA (aB HB.out hb)
      clear hb;go_wp2;go_ret;exact⟨congrArg (fun z=>Ending.returned (Value.bool z)) HE.out.symm,HB1.out⟩
     ·go_wp2_with fail;refine(dZ _ _ _ _ (f i) HK.out).mono ?_;rw[hp];rintro r w1 ⟨rfl,hb⟩;have HB1:=aA (aB HB.out hb)
      clear hb;go_wp2;go_roundw
      case rel=>exact⟨i+1,by omega,by go_num,HB1.out,fun j hj=>by
       by_cases e:j=i
       ·rw[e];exact⟨HZ.out,hp⟩
       ·exact HJ.out j (by omega)⟩
      case measure=>simp[intOf];omega
   ·have hnl:¬(i:Int)<(n:Int):=by omega
    have hie:i=n:=by omega
    subst hie;have HE:Hid (aW i ln f=true):=decide_eq_true ⟨by omega,hJ⟩
    have HB:=aA hB;clear hB hJ;go_wp2;go_ret;exact⟨congrArg (fun z=>Ending.returned (Value.bool z)) HE.out.symm,HB.out⟩
theorem zW (w:World) (a:Option Addr) (n cap:Nat) (ad:Nat→Option Addr) (ln cp:Nat→Nat) (f:Nat→Nat→T) (h:eH w a n cap ad ln cp f):Calls Tryz.prog 31 #[.slice a n cap] w fun r w'=>r= .returned (.bool (aW n ln f))∧Below w.heap.size w w':=by
 have hn:(n:Int)≤140737488351232:=by have:=h.2.1;omega
 have HH:=aA h;clear h;by_cases hbig:12<n
 ·have e:aW n ln f=false:=decide_eq_false (fun hh=>by omega);have hb:(12:Int)<(n:Int):=by omega
  rw[e];go_enter Tryz.func31,Tryz.ntmps31;go_wp2;go_ret;exact⟨rfl,bQ _ _⟩
 ·have hnb:¬(12:Int)<(n:Int):=by omega
  go_enter Tryz.func31,Tryz.ntmps31;go_wp2;go_loopw [3] (fun v wr=>∃i:Nat,i≤n∧v= .int .i64 (i:Int)∧Below w.heap.size w wr∧∀j,j<i→ln j≠0∧aK (ln j) (f j)=true) (fun v _=>n-(intOf v).toNat);case atStart=>exact⟨0,Nat.zero_le _,rfl,bQ _ _,fun j hj=>by omega⟩
  case round=>
   obtain⟨i,hi,rfl,hB,hJ⟩:=hrel;by_cases hlt:i<n
   ·rcases HH.out.2.2.1 with h0|⟨b,off,rfl,hblt,hcl⟩
    ·omega
    have hil:(i:Int)<(n:Int):=by omega
    have g0:wr.cell? ⟨b,off+i,none⟩=some (.slice (ad i) (ln i) (cp i)):=(hB.cell (p:=⟨b,off+i,none⟩) hblt).trans (hcl i hlt);have HG:Hid (∀w',Below wr.heap.size wr w'→w'.cell? ⟨b,off+i,none⟩=some (.slice (ad i) (ln i) (cp i))):=fun w' hb=>(hb.cell (p:=⟨b,off+i,none⟩) (iZ hblt hB.size)).trans g0
    have HK:=aA ((HH.out.2.2.2 i hlt).below hB);have HB:=aA hB
    have HJ:=aA hJ;clear hcl hB hJ;cases hp:aK (ln i) (f i)
    ·have HE:Hid (aW n ln f=false):=decide_eq_false (fun hh=>by have:=(hh.2 i hlt).2;rw[hp]at this;cases this);go_wp2_with fail;refine(kL _ _ _ _ (f i) HK.out).mono ?_;rw[hp];rintro r w1 ⟨rfl,hb⟩;have HB1:=aA (aB HB.out hb)
     clear hb;go_wp2;go_ret;exact⟨congrArg (fun z=>Ending.returned (Value.bool z)) HE.out.symm,HB1.out⟩
    ·go_wp2_with fail;refine(kL _ _ _ _ (f i) HK.out).mono ?_;rw[hp];rintro r w1 ⟨rfl,hb⟩;have HB1:=aA (aB HB.out hb)
     have g1:=HG.out w1 hb;clear hb g0;by_cases h0:ln i=0
     ·have HE:Hid (aW n ln f=false):=decide_eq_false (fun hh=>(hh.2 i hlt).1 h0);have hz:((ln i:Int)==0)=true:=by rw[h0];rfl
      clear h0;go_wp2;go_ret;exact⟨congrArg (fun z=>Ending.returned (Value.bool z)) HE.out.symm,HB1.out⟩
     ·have hz:((ln i:Int)==0)=false:=by rw[beq_eq_false_iff_ne];omega
      have HZ:=aA h0;clear h0;go_wp2;go_roundw
      case rel=>exact⟨i+1,by omega,by go_num,HB1.out,fun j hj=>by
       by_cases e:j=i
       ·rw[e];exact⟨HZ.out,hp⟩
       ·exact HJ.out j (by omega)⟩
      case measure=>simp[intOf];omega
   ·have hnl:¬(i:Int)<(n:Int):=by omega
    have hie:i=n:=by omega
    subst hie;have HE:Hid (aW i ln f=true):=decide_eq_true ⟨by omega,hJ⟩
    have HB:=aA hB;clear hB hJ;go_wp2;go_ret;exact⟨congrArg (fun z=>Ending.returned (Value.bool z)) HE.out.symm,HB.out⟩
theorem zK (w:World) (a a':Option Addr) (n cap cap':Nat) (ad ad':Nat→Option Addr) (ln cp cp':Nat→Nat) (f:Nat→Nat→T) (h:eH w a n cap ad ln cp f) (h':eH w a' n cap' ad' ln cp' f):Calls Tryz.prog 12 #[.slice a n cap,.slice a' n cap'] w fun r w'=>r= .returned (.bool true)∧Below w.heap.size w w':=by
 have hn:(n:Int)≤140737488351232:=by have:=h.2.1;omega
 have HH:=aA h;have HH':=aA h'
 clear h h';go_enter Tryz.func12,Tryz.ntmps12;go_wp2;go_loopw [5] (fun v wr=>∃i:Nat,i≤n∧v= .int .i64 (i:Int)∧Below w.heap.size w wr) (fun v _=>n-(intOf v).toNat);case atStart=>exact⟨0,Nat.zero_le _,rfl,bQ _ _⟩
 case round=>
  obtain⟨i,hi,rfl,hB⟩:=hrel;by_cases hlt:i<n
  ·rcases HH.out.2.2.1 with h0|⟨b,off,rfl,hblt,hcl⟩
   ·omega
   rcases HH'.out.2.2.1 with h0|⟨b',off',rfl,hblt',hcl'⟩
   ·omega
   have hil:(i:Int)<(n:Int):=by omega
   have hbr:b<wr.heap.size:=iZ hblt hB.size;have hbr':b'<wr.heap.size:=iZ hblt' hB.size
   have ne:=bR.there wr;have g0:wr.cell? ⟨b,off+i,none⟩=some (.slice (ad i) (ln i) (cp i)):=(hB.cell (p:=⟨b,off+i,none⟩) hblt).trans (hcl i hlt)
   have g1:wr.cell? ⟨b',off'+i,none⟩=some (.slice (ad' i) (ln i) (cp' i)):=(hB.cell (p:=⟨b',off'+i,none⟩) hblt').trans (hcl' i hlt);have s0:∀u:bR wr,u.1.cell? ⟨b,off+i,none⟩=some (.slice (ad i) (ln i) (cp i)):=fun u=>(u.cell hbr).trans g0
   have s1:∀u:bR wr,u.1.cell? ⟨b',off'+i,none⟩=some (.slice (ad' i) (ln i) (cp' i)):=fun u=>(u.cell hbr').trans g1;have HK:=aA ((HH.out.2.2.2 i hlt).below hB)
   have HK':=aA ((HH'.out.2.2.2 i hlt).below hB);have HB:=aA hB
   have hcall:∀u:bR wr,Calls Tryz.prog 40 #[.slice (ad i) (ln i) (cp i),.slice (ad' i) (ln i) (cp' i)] u.1 fun r w'=>r= .returned (.bool true)∧Below u.1.heap.size u.1 w':=fun u=>by have:=TL u.1 (ad i) (ad' i) (ln i) (cp i) (ln i) (cp' i) (f i) (f i) (HK.out.below u.2) (HK'.out.below u.2);rw[show jO (ln i) (f i) (ln i) (f i)=true from decide_eq_true ⟨rfl,fun j _=>T.eqB_iff.2 rfl⟩]at this;exact this
   clear hcl hcl' hB g0 g1;go_wp2_with fail;refine aF (by kernel_rfl) (by kernel_rfl) ?_;repeat(go_big_quiet_step (first|(go_at_call 40;exact aG (hcall _))|fail))
   refine wpQuiet_nil ?_;rintro _ ⟨v,rfl⟩;have HV:=aA v.2
   clear s0 s1 ne hcall;go_wp2;go_roundw;case rel=>exact⟨i+1,by omega,by go_num,aB HB.out HV.out⟩
   case measure=>simp[intOf];omega
  ·have hnl:¬(i:Int)<(n:Int):=by omega
   go_wp2;go_ret;exact⟨rfl,hB⟩
end Go.Proofs.YtelkehjdfcoeiaaGreat
namespace Go.Proofs.YtelkehjdfcoeiaaGreat
open Go.RowKit
set_option linter.unusedVariables false
def fZ (a b:M):Bool:=decide (a.x=b.x∧a.y=b.y∧a.d=b.d∧a.e=b.e)
theorem bM {a b:M}:fZ a b=true↔a=b:=by cases a;cases b;simp[fZ]
theorem UR {a b:M}:fZ a b=false↔a≠b:=by rw[←Bool.not_eq_true,bM]
theorem XH {p q y z:Int} (hy:0≤y∧y≤15) (hz:0≤z∧z≤15) (h:p*16+y=q*16+z):p=q∧y=z:=by omega
theorem Cn {p q y z:Int} (hy:0≤y∧y≤65535) (hz:0≤z∧z≤65535) (h:p*65536+y=q*65536+z):y=z:=by omega
theorem AL {a b:M} (ha:a.ok=true) (hb:b.ok=true) (h:dI a=dI b):a=b:=by
 have ka:=M.ok_iff.1 ha;have kb:=M.ok_iff.1 hb
 have la:0≤fF a∧fF a≤65535:=by unfold fF;omega
 have lb:0≤fF b∧fF b≤65535:=by unfold fF;omega
 unfold dI at h;have h:=Cn la lb h
 unfold fF at h;obtain⟨h,h1⟩:=XH ⟨ka.2.2.1,ka.2.2.2.1⟩ ⟨kb.2.2.1,kb.2.2.2.1⟩ h;obtain⟨h,h2⟩:=XH ⟨ka.1,ka.2.1⟩ ⟨kb.1,kb.2.1⟩ h;obtain⟨h,h3⟩:=XH ⟨ka.2.2.2.2.2.2.1,ka.2.2.2.2.2.2.2⟩ ⟨kb.2.2.2.2.2.2.1,kb.2.2.2.2.2.2.2⟩ h;cases a;cases b;simp only at h h1 h2 h3;subst h h1 h2 h3;rfl
def aI:List T→M→Int
 |[],_=>0
 |t::r,m=>if fZ t.m m=true then t.c else aI r m
def aH (L:List T):Prop:=L.Pairwise (fun a b=>dI b.m<dI a.m)∧∀t∈L,t.m.ok=true∧1≤t.c∧t.c≤100
theorem jS {m:M}:∀{L:List T},(∀t∈L,dI t.m<dI m)→aI L m=0
 |[],_=>rfl
 |t::r,h=>by have h1:=h t (List.mem_cons_self ..);rw[aI,if_neg (fun e=>by rw[bM.1 e]at h1;omega)];exact jS (fun s hs=>h s (List.mem_cons_of_mem _ hs))
theorem gE {t:T} {r:List T} {m:M} (h:t.m≠m):aI (t::r) m=aI r m:=by rw[aI,if_neg (fun e=>h (bM.1 e))]
theorem bG (t:T) (r:List T):aI (t::r) t.m=t.c:=by rw[aI,if_pos (bM.2 rfl)]
theorem aH.tail {t:T} {r:List T} (h:aH (t::r)):aH r:=⟨(List.pairwise_cons.1 h.1).2,fun s hs=>h.2 s (List.mem_cons_of_mem _ hs)⟩
theorem aH.head {t:T} {r:List T} (h:aH (t::r)):∀s∈r,dI s.m<dI t.m:=(List.pairwise_cons.1 h.1).1
theorem jU:∀{L K:List T},aH L→aH K→(∀m,m.ok=true→aI L m=aI K m)→L=K
 |[],[],_,_,_=>rfl
 |[],t::r,_,hK,h=>by
  have h1:=hK.2 t (List.mem_cons_self ..);have h2:=h t.m h1.1
  rw[bG,aI]at h2;omega
 |t::r,[],hL,_,h=>by
  have h1:=hL.2 t (List.mem_cons_self ..);have h2:=h t.m h1.1
  rw[bG,aI]at h2;omega
 |s::p,t::r,hL,hK,h=>by
  have hs:=hL.2 s (List.mem_cons_self ..);have ht:=hK.2 t (List.mem_cons_self ..)
  rcases Int.lt_trichotomy (dI s.m) (dI t.m)with hlt|heq|hgt
  ·have h2:=h t.m ht.1
   rw[bG,jS (fun u hu=>by
    rcases List.mem_cons.1 hu with rfl|hu
    ·exact hlt
    ·have:=hL.head u hu;omega)]at h2
   omega
  ·have hm:s.m=t.m:=AL hs.1 ht.1 heq;have hc:s.c=t.c:=by have h2:=h s.m hs.1;rw[bG,hm,bG]at h2;exact h2
   have hst:s=t:=by cases s;cases t;simp only at hm hc;subst hm hc;rfl
   subst hst;have hrest:∀m,m.ok=true→aI p m=aI r m:=fun m hok=>by
    by_cases hm2:s.m=m
    ·subst hm2;rw[jS hL.head,jS hK.head]
    ·have h2:=h m hok;rw[gE hm2,gE hm2]at h2;exact h2
   rw[jU hL.tail hK.tail hrest]
  ·have h2:=h s.m hs.1
   rw[bG,jS (fun u hu=>by
    rcases List.mem_cons.1 hu with rfl|hu
    ·exact hgt
    ·have:=hK.head u hu;omega)]at h2
   omega
def cD (f:Nat→T):Nat→Nat→M→Int
 |0,_,_=>0
 |u+1,i,m=>if fZ (f i).m m=true then(f i).c else cD f u (i+1) m
theorem pO {f:Nat→T} {m:M}:∀(u i:Nat),(∀j,i≤j→j<i+u→(f j).m≠m)→cD f u i m=0
 |0,_,_=>rfl
 |u+1,i,h=>by rw[cD,if_neg (fun e=>h i (Nat.le_refl _) (by omega) (bM.1 e))];exact pO u (i+1) (fun j h1 h2=>h j (by omega) (by omega))
def Fl (f:Nat→T) (n:Nat):Prop:=(∀j i,j<i→i<n→dI (f i).m<dI (f j).m)∧∀i,i<n→(f i).m.ok=true∧1≤(f i).c∧(f i).c≤100
theorem Fl.high {f:Nat→T} {n i:Nat} {m:M} (h:Fl f n) (hi:i<n→dI (f i).m<dI m):cD f (n-i) i m=0:=by
 refine pO _ _ (fun j h1 h2 e=>?_);have hin:i<n:=by omega
 have h3:=hi hin;by_cases hji:j=i
 ·rw[hji]at e;rw[e]at h3;omega
 ·have:=h.1 i j (by omega) (by omega);rw[e]at this;omega
theorem mM {f:Nat→T} {n i:Nat} (m:M) (hi:i<n):cD f (n-i) i m=if fZ (f i).m m=true then(f i).c else cD f (n-(i+1)) (i+1) m:=by rw[show n-i=(n-(i+1))+1 by omega,cD]
theorem pN {t:T} {r:List T} (h:aH r) (h1:∀s∈r,dI s.m<dI t.m) (h2:t.m.ok=true∧1≤t.c∧t.c≤100):aH (t::r):=
 ⟨List.pairwise_cons.2 ⟨h1,h.1⟩,fun s hs=>by rcases List.mem_cons.1 hs with rfl|hs;exact h2;exact h.2 s hs⟩
theorem jV {f:Nat→T} {la:Nat} {g:Nat→T} {lb:Nat} (F:Fl f la) (G:Fl g lb):∀(u i k:Nat),la-i+(lb-k)≤u→(∀t∈gL f la g lb u i k,(∃j,i≤j∧j<la∧t.m=(f j).m)∨(∃j,k≤j∧j<lb∧t.m=(g j).m))∧aH (gL f la g lb u i k)∧∀m,aI (gL f la g lb u i k) m=(cD f (la-i) i m+cD g (lb-k) k m)%101
 |0,i,k,hu=>by refine⟨fun t ht=>by simp[gL]at ht,⟨List.Pairwise.nil,fun t ht=>by simp[gL]at ht⟩,fun m=>?_⟩;rw[show la-i=0 by omega,show lb-k=0 by omega];rfl
 |u+1,i,k,hu=>by
  have up:∀(n i:Nat),n-i=0→∀m,cD f (n-i) i m=0:=fun n i h m=>by rw[h];rfl
  have low:∀{t:T} {i' k':Nat} {r:Int},((∃j,i'≤j∧j<la∧t.m=(f j).m)∨(∃j,k'≤j∧j<lb∧t.m=(g j).m))→(i'<la→dI (f i').m<r)→(k'<lb→dI (g k').m<r)→dI t.m<r:=by
   intro t i' k' r h h1 h2;rcases h with⟨j,a1,a2,a3⟩|⟨j,a1,a2,a3⟩
   ·rw[a3];by_cases hj:j=i'
    ·rw[hj];exact h1 (by omega)
    ·have:=F.1 i' j (by omega) a2;have:=h1 (by omega);omega
   ·rw[a3];by_cases hj:j=k'
    ·rw[hj];exact h2 (by omega)
    ·have:=G.1 k' j (by omega) a2;have:=h2 (by omega);omega
  have fi:i<la→(k<lb→dI (g k).m<dI (f i).m)→(∀t∈f i::gL f la g lb u (i+1) k,(∃j,i≤j∧j<la∧t.m=(f j).m)∨(∃j,k≤j∧j<lb∧t.m=(g j).m))∧aH (f i::gL f la g lb u (i+1) k)∧∀m,aI (f i::gL f la g lb u (i+1) k) m=(cD f (la-i) i m+cD g (lb-k) k m)%101:=by
   intro hi hk;obtain⟨p1,p2,p3⟩:=jV F G u (i+1) k (by omega);refine⟨fun t ht=>?_,pN p2 (fun s hs=>low (p1 s hs) (fun h=>F.1 i (i+1) (by omega) h) hk) (F.2 i hi),fun m=>?_⟩
   ·rcases List.mem_cons.1 ht with rfl|ht
    ·exact .inl ⟨i,Nat.le_refl _,hi,rfl⟩
    ·exact(p1 t ht).imp (fun⟨j,a1,a2,a3⟩=>⟨j,by omega,a2,a3⟩) id
   ·rw[mM m hi];by_cases hm:fZ (f i).m m=true
    ·have:=bM.1 hm;subst this;have h0:=F.2 i hi
     rw[bG,if_pos hm,G.high hk,Int.add_zero];omega
    ·rw[aI,if_neg hm,if_neg hm];exact p3 m
  have gk:k<lb→(i<la→dI (f i).m<dI (g k).m)→(∀t∈g k::gL f la g lb u i (k+1),(∃j,i≤j∧j<la∧t.m=(f j).m)∨(∃j,k≤j∧j<lb∧t.m=(g j).m))∧aH (g k::gL f la g lb u i (k+1))∧∀m,aI (g k::gL f la g lb u i (k+1)) m=(cD f (la-i) i m+cD g (lb-k) k m)%101:=by
   intro hk hi;obtain⟨p1,p2,p3⟩:=jV F G u i (k+1) (by omega);refine⟨fun t ht=>?_,pN p2 (fun s hs=>low (p1 s hs) hi (fun h=>G.1 k (k+1) (by omega) h)) (G.2 k hk),fun m=>?_⟩
   ·rcases List.mem_cons.1 ht with rfl|ht
    ·exact .inr ⟨k,Nat.le_refl _,hk,rfl⟩
    ·exact(p1 t ht).imp id (fun⟨j,a1,a2,a3⟩=>⟨j,by omega,a2,a3⟩)
   ·rw[mM (f:=g) m hk];by_cases hm:fZ (g k).m m=true
    ·have:=bM.1 hm;subst this;have h0:=G.2 k hk
     rw[bG,if_pos hm,F.high hi,Int.zero_add];omega
    ·rw[aI,if_neg hm,if_neg hm];exact p3 m
  simp only[gL];by_cases hik:i<la∧k<lb
  ·rw[if_pos hik];have hrk:=vZ (F.2 i hik.1).1 (G.2 k hik.2).1
   by_cases h1:0<M.ord 1 (f i).m (g k).m
   ·rw[if_pos h1];exact fi hik.1 (fun _=>(rJ (F.2 i hik.1).1 (G.2 k hik.2).1).1 h1)
   ·rw[if_neg h1];by_cases h2:M.ord 1 (f i).m (g k).m<0
    ·rw[if_pos h2];refine gk hik.2 (fun _=>?_);rw[←hrk]at h2;unfold c3 at h2;split at h2
     ·assumption
     ·split at h2<;>omega
    ·rw[if_neg h2];have heq:dI (f i).m=dI (g k).m:=by
      have h3:M.ord 1 (f i).m (g k).m=0:=by omega
      rw[←hrk]at h3;unfold c3 at h3;split at h3
      ·omega
      ·split at h3<;>omega
     have hmm:=AL (F.2 i hik.1).1 (G.2 k hik.2).1 heq;obtain⟨p1,p2,p3⟩:=jV F G u (i+1) (k+1) (by omega);have hsum:∀m,(cD f (la-i) i m+cD g (lb-k) k m)%101=if fZ (f i).m m=true then((f i).c+(g k).c)%101 else(cD f (la-(i+1)) (i+1) m+cD g (lb-(k+1)) (k+1) m)%101:=fun m=>by rw[mM m hik.1,mM (f:=g) m hik.2,←hmm];split<;>rfl
     have hhi:aI (gL f la g lb u (i+1) (k+1)) (f i).m=0:=by rw[p3,F.high (fun h=>F.1 i (i+1) (by omega) h),G.high (fun h=>by rw[hmm];exact G.1 k (k+1) (by omega) h)];rfl
     have q1:∀t∈gL f la g lb u (i+1) (k+1),(∃j,i≤j∧j<la∧t.m=(f j).m)∨(∃j,k≤j∧j<lb∧t.m=(g j).m):=fun t ht=>(p1 t ht).imp (fun⟨j,a1,a2,a3⟩=>⟨j,by omega,a2,a3⟩) (fun⟨j,a1,a2,a3⟩=>⟨j,by omega,a2,a3⟩);by_cases hz:((f i).c+(g k).c)%101≠0
     ·rw[if_pos hz];refine⟨fun t ht=>?_,pN p2 (fun s hs=>low (p1 s hs) (fun h=>F.1 i (i+1) (by omega) h) (fun h=>by rw[hmm];exact G.1 k (k+1) (by omega) h)) ⟨(F.2 i hik.1).1,by dsimp only;omega,by dsimp only;omega⟩,fun m=>?_⟩
      ·rcases List.mem_cons.1 ht with rfl|ht
       ·exact .inl ⟨i,Nat.le_refl _,hik.1,rfl⟩
       ·exact q1 t ht
      ·rw[hsum m,aI];by_cases hm:fZ (f i).m m=true
       ·rw[if_pos hm,if_pos hm]
       ·rw[if_neg hm,if_neg hm];exact p3 m
     ·rw[if_neg hz];refine⟨q1,p2,fun m=>?_⟩;rw[hsum m];by_cases hm:fZ (f i).m m=true
      ·have:=bM.1 hm;subst this;rw[if_pos hm,hhi];omega
      ·rw[if_neg hm];exact p3 m
  ·rw[if_neg hik];by_cases hi:i<la
   ·rw[if_pos hi];exact fi hi (fun h=>absurd ⟨hi,h⟩ hik)
   ·rw[if_neg hi];by_cases hk:k<lb
    ·rw[if_pos hk];exact gk hk (fun h=>absurd h hi)
    ·rw[if_neg hk];refine⟨fun t ht=>(by cases ht),⟨List.Pairwise.nil,fun t ht=>(by cases ht)⟩,fun m=>?_⟩;rw[show la-i=0 by omega,show lb-k=0 by omega];rfl
theorem dR {n:Nat} {f:Nat→T} (h:aK n f=true):Fl f n:=by
 have hp:=h;simp only[aK,decide_eq_true_eq]at hp;have h1:∀i,i<n→(f i).m.ok=true∧1≤(f i).c∧(f i).c≤100:=fun i hi=>by have:=hp.2 i hi;simp only[jD,Bool.and_eq_true,decide_eq_true_eq]at this;exact⟨this.1.2,this.1.1⟩
 refine⟨fun j i hji hi=>?_,h1⟩;induction i with
 |zero=>omega
 |succ i ih=>
  have h2:=hp.2 (i+1) hi;simp only[jD,Bool.and_eq_true,Bool.or_eq_true,decide_eq_true_eq]at h2;have h3:=h2.2.resolve_left (by omega)
  rw[show i+1-1=i by omega]at h3;have h4:=(rJ (h1 i (by omega)).1 (h1 (i+1) hi).1).1 h3
  by_cases hji2:j=i
  ·rw[hji2];exact h4
  ·have:=ih (by omega) (by omega);omega
end Go.Proofs.YtelkehjdfcoeiaaGreat
