/-
  Slices of slices of terms: how they are read, copied, counted and held against each other.
-/
import Derived.Test.YtoglomfejgpoeaaGreatDoorMCaa
set_option maxHeartbeats 4000000
set_option maxRecDepth 100000
namespace Go.Proofs.YtoglomfejgpoeaaGreatDoor
open Go.RowKit Go.Deep Go.Joins
set_option linter.unusedVariables false
theorem EM (a:Option Addr) (n cap:Nat) (ad:Nat→Option Addr) (ln cp:Nat→Nat) (l:Int) (w:World) (hn:(n:Int)≤9223372036854775807) (hl:0≤l) (hl':l≤1048576) (h3:n=0∨∃b off,a=some ⟨b,off,none⟩∧b<w.heap.size∧∀i,i<n→w.cell? ⟨b,off+i,none⟩=some (.slice (ad i) (ln i) (cp i))) (hln:∀i,i<n→(ln i:Int)≤9223372036854775807):Calls Tryz.prog 13 #[.slice a n cap,.int .i64 l] w fun r w'=>∃z:Int,r= .returned (.int .i64 z)∧w'=w∧z≤l∧(0≤z→(n:Int)≤l∧∀i,i<n→(ln i:Int)≤l):=by
 by_cases hneg:l-n<0
 ·go_enter Tryz.func13,Tryz.ntmps13;go_wp2;go_ret;exact⟨-1,rfl,rfl,by omega,fun h=>by omega⟩
 ·go_enter Tryz.func13,Tryz.ntmps13;go_wp2;go_loopw [1,5] (fun lv iv wr=>∃(i:Nat) (z:Int),i≤n∧iv= .int .i64 (i:Int)∧lv= .int .i64 z∧0≤z∧z≤l∧(∀j,j<i→(ln j:Int)≤l)∧wr=w) (fun _ v _=>n-(intOf v).toNat);case atStart=>exact⟨0,l-n,gC _,rfl,rfl,by omega,by omega,fun j hj=>by omega,rfl⟩
  case round=>
   obtain⟨i,z,hi,rfl,rfl,z0,z1,hj,rfl⟩:=hrel;have HJ:=aA hj
   clear hj;by_cases hlt:i<n
   ·rcases h3 with h0|⟨b,off,rfl,hblt,hcl⟩
    ·omega
    have hil:(i:Int)<(n:Int):=by omega
    have hc:=hcl i hlt;have hli:=hln i hlt
    clear hcl hln;go_wp2_with fail;refine(sA _ _ _ _ _ hli z0 (by omega)).mono ?_;by_cases hz:z-ln i<0
    ·rw[if_pos hz];rintro e w' ⟨rfl,rfl⟩;go_wp2;go_ret;exact⟨-1,rfl,rfl,by omega,fun h=>by omega⟩
    ·rw[if_neg hz];obtain⟨y,hy⟩:∃y,z-(ln i:Int)=y:=⟨_,rfl⟩
     rw[hy];rintro e w' ⟨rfl,rfl⟩;have hy0:¬y<0:=by omega
     go_wp2;go_roundw
     case rel=>exact⟨i+1,y,by omega,by go_num,rfl,by omega,by omega,fun j hj=>by
      by_cases e:j=i
      ·rw[e];omega
      ·exact HJ.out j (by omega),by first|trivial|rfl⟩
     case measure=>simp[intOf];omega
   ·have hnl:¬(i:Int)<(n:Int):=by omega
    have hie:i=n:=by omega
    subst hie;go_wp2;go_ret;exact⟨z,rfl,rfl,z1,fun _=>⟨by omega,HJ.out⟩⟩
theorem IQ:(Tryz.prog.info? 22).map (fun i=>(i.zero,i.size,i.bytes))=some (some (.slice none 0 0),1,24):=by kernel_rfl
theorem oN {ops:Array Oper} {rest:List Oper} {o:Oper} {a:Act} {Q:Exit→Act→World→Prop} (w:World) (hg:o.guard=none) (l c:Operand) (hop:o.op=Op.makeSlice 38 l c) (n:Nat) (hl:a.eval l= .int .i64 (n:Int)) (hc:a.eval c= .int .i64 (n:Int)) (hbytes:n*40≤140737488351232) (hK:(w.alloc (.cells (madeCells #[.slice none 0 0] n) 22)).rowIs w.heap.size 22 n (fun _=>.slice none 0 0)→wpList Tryz.prog ops Q rest (a.put o.dst (.slice (some ⟨w.heap.size,0,none⟩) n n)) (w.alloc (.cells (madeCells #[.slice none 0 0] n) 22))):wpList Tryz.prog ops Q (o::rest) a w:=by
 obtain⟨i,hi,hzz⟩:=Option.map_eq_some_iff.1 IQ;simp only[Prod.mk.injEq]at hzz;obtain⟨hz,hs,hb⟩:=hzz;refine wpList_plain hg fun K hK'=>?_;have hr:=run_make (P:=Tryz.prog) w 38 22 i _ Tryz.underlying38 hi hz .i64 .i64 (n:Int) (n:Int) (by omega) (Int.le_refl _) (by rw[hb];omega) (by omega)
 simp only[Int.toNat_natCast,hs,Value.cells,Nat.mul_one]at hr;unfold Oper.wp;simp[execOp,hop,hl,hc,hr,Result.andThen];refine hK' _ _ (hK ?_);refine⟨_,Go.Deep.blk_alloc_new _ _,size_madeCells _ _,fun j hj=>?_⟩;simp[madeCells,hj,Nat.mod_one]
def gD (B ln:Nat→Nat) (k j:Nat):Value:=if j<k then .slice (some ⟨B j,0,none⟩) (ln j) (ln j)else .slice none 0 0
theorem oT {w:World} {g n k:Nat} {B ln:Nat→Nat} {v:Nat} (h:w.rowIs g 22 n (gD B ln k)):(w.setCell ⟨g,k,none⟩ (.slice (some ⟨v,0,none⟩) (ln k) (ln k))).rowIs g 22 n (gD (fun j=>if j=k then v else B j) ln (k+1)):=by
 refine(h.set _ _).congr fun j hj=>?_;by_cases e:j=k
 ·subst e;simp[gD]
 ·unfold gD;by_cases hl:j<k
  ·rw[if_pos (show j<k+1 by omega)];simp[e,hl]
  ·rw[if_neg (show ¬j<k+1 by omega)];simp[e,hl]
theorem sB (w:World) (a:Option Addr) (n cap:Nat) (ad:Nat→Option Addr) (ln cp:Nat→Nat) (f:Nat→Nat→T) (h:kM w a n cap ad ln cp f):Calls Tryz.prog 16 #[.slice a n cap] w fun r w'=>∃B:Nat→Nat,r= .returned (.slice (some ⟨w.heap.size,0,none⟩) n n)∧Below w.heap.size w w'∧w'.rowIs w.heap.size 22 n (gD B ln n)∧∀i,i<n→w.heap.size<B i∧Own w' (B i) (ln i) (f i):=by
 have hn:(n:Int)≤140737488351232:=by have:=h.2.1;omega
 have h2:=h.2.1;have HH:=aA h
 clear h;go_enter Tryz.func16,Tryz.ntmps16;go_wp2_with (at_make;refine oN _ rfl _ _ rfl n rfl rfl (by omega) ?_;intro hrow);go_loopw [4] (fun i wr=>∃(k:Nat) (B:Nat→Nat),k≤n∧i= .int .i64 k∧Below w.heap.size w wr∧wr.rowIs w.heap.size 22 n (gD B ln k)∧∀i,i<k→w.heap.size<B i∧Own wr (B i) (ln i) (f i)) (fun i _=>n-(intOf i).toNat);case atStart=>exact⟨0,fun _=>0,gC _,rfl,(aD _ _).alloc (Nat.le_refl _) _,hrow.congr fun j _=>by simp[gD],fun i hi=>by omega⟩
 case round=>
  obtain⟨k,B,hk,rfl,hB,hR,hO⟩:=hrel;by_cases hlt:k<n
  ·rcases HH.out.2.2.1 with h0|⟨b,off,rfl,hblt,hcl⟩
   ·omega
   have hkn:(k:Int)<(n:Int):=by omega
   have g0:wr.cell? ⟨b,off+k,none⟩=some (.slice (ad k) (ln k) (cp k)):=(hB.cell (p:=⟨b,off+k,none⟩) hblt).trans (hcl k hlt);have HR:=aA hR
   have HO:=aA hO;have HB:=aA hB
   have HK:=aA ((HH.out.2.2.2 k hlt).below hB);clear hR hcl hO;go_wp2_with fail;refine(nO _ _ _ _ (f k) HK.out).mono ?_;rintro r w1 ⟨rfl,hb,ho⟩;have hR1:=HR.out.of_block (hb.block w.heap.size (HR.out.lt))
   have hB1:=HB.out.trans (hb.mono HB.out.size);have hsz:w.heap.size<wr.heap.size:=HR.out.lt
   have q0:=hR1.cell (i:=k) hlt;have fz:=fun i=>hR1.frozen i
   obtain⟨V,hV⟩:∃V,wr.heap.size=V:=⟨_,rfl⟩
   rw[hV]at ho⊢;have HN:=aA (oT (v:=V) hR1)
   have HO2:Hid (∀i,i<k+1→w.heap.size<(if i=k then V else B i)∧Own w1 (if i=k then V else B i) (ln i) (f i)):=fun i hi=>by
    by_cases e:i=k
    ·rw[if_pos e,e];exact⟨by omega,ho⟩
    ·rw[if_neg e];have:=HO.out i (by omega)
     exact⟨this.1,this.2.below hb this.2.lt⟩
   have HB1:=aA hB1;clear hR1 HR hb ho HO hB1 hB;go_wp2;go_roundw
   case rel=>
    refine⟨k+1,_,by omega,by go_num,HB1.out.setCell (Nat.le_refl _) _,HN.out,fun i hi=>?_⟩;have:=HO2.out i hi
    refine⟨this.1,this.2.of_block ?_⟩;exact Below.heap_setCell _ _ _ _ (Nat.ne_of_gt this.1)
   case measure=>simp[intOf];omega
  ·have hkn:k=n:=by omega
   subst hkn;have HR:=aA hR
   have HO:=aA hO;clear hR hO;go_wp2;go_ret;exact⟨B,rfl,hB,HR.out,HO.out⟩
theorem jQ {w:World} {g n:Nat} {B ln:Nat→Nat} {f:Nat→Nat→T} (hR:w.rowIs g 22 n (gD B ln n)) (hO:∀i,i<n→Own w (B i) (ln i) (f i)) (hn:n*40≤140737488351232) (hl:∀i,i<n→ln i*40≤140737488351232):kM w (some ⟨g,0,none⟩) n n (fun i=>some ⟨B i,0,none⟩) ln ln f:=
 ⟨Nat.le_refl _,hn,.inr ⟨g,0,rfl,hR.lt,fun i hi=>by
  have:=hR.cell (i:=i) hi;rw[Nat.zero_add,this];unfold gD
  rw[if_pos hi]⟩,fun i hi=>(hO i hi).rd (hl i hi)⟩
theorem DI (w:World) (a a':Option Addr) (n cap cap':Nat) (ad ad':Nat→Option Addr) (ln cp cp':Nat→Nat) (f:Nat→Nat→T) (h:kM w a n cap ad ln cp f) (h':kM w a' n cap' ad' ln cp' f):Calls Tryz.prog 20 #[.slice a n cap,.slice a' n cap'] w fun r w'=>r= .returned (.bool true)∧Below w.heap.size w w':=by
 have hn:(n:Int)≤140737488351232:=by have:=h.2.1;omega
 have HH:=aA h;have HH':=aA h'
 clear h h';go_enter Tryz.func20,Tryz.ntmps20;go_wp2;go_loopw [5] (fun v wr=>∃i:Nat,i≤n∧v= .int .i64 (i:Int)∧Below w.heap.size w wr) (fun v _=>n-(intOf v).toNat);case atStart=>exact⟨0,gC _,rfl,aD _ _⟩
 case round=>
  obtain⟨i,hi,rfl,hB⟩:=hrel;by_cases hlt:i<n
  ·rcases HH.out.2.2.1 with h0|⟨b,off,rfl,hblt,hcl⟩
   ·omega
   rcases HH'.out.2.2.1 with h0|⟨b',off',rfl,hblt',hcl'⟩
   ·omega
   have hil:(i:Int)<(n:Int):=by omega
   have hbr:b<wr.heap.size:=dR hblt hB.size;have hbr':b'<wr.heap.size:=dR hblt' hB.size
   have ne:=cO.there wr;have g0:wr.cell? ⟨b,off+i,none⟩=some (.slice (ad i) (ln i) (cp i)):=(hB.cell (p:=⟨b,off+i,none⟩) hblt).trans (hcl i hlt)
   have g1:wr.cell? ⟨b',off'+i,none⟩=some (.slice (ad' i) (ln i) (cp' i)):=(hB.cell (p:=⟨b',off'+i,none⟩) hblt').trans (hcl' i hlt);have s0:∀u:cO wr,u.1.cell? ⟨b,off+i,none⟩=some (.slice (ad i) (ln i) (cp i)):=fun u=>(u.cell hbr).trans g0
   have s1:∀u:cO wr,u.1.cell? ⟨b',off'+i,none⟩=some (.slice (ad' i) (ln i) (cp' i)):=fun u=>(u.cell hbr').trans g1;have HK:=aA ((HH.out.2.2.2 i hlt).below hB)
   have HK':=aA ((HH'.out.2.2.2 i hlt).below hB);have HB:=aA hB
   have hcall:∀u:cO wr,Calls Tryz.prog 19 #[.slice (ad i) (ln i) (cp i),.slice (ad' i) (ln i) (cp' i)] u.1 fun r w'=>r= .returned (.bool true)∧Below u.1.heap.size u.1 w':=fun u=>by have:=lF u.1 (ad i) (ad' i) (ln i) (cp i) (ln i) (cp' i) (f i) (f i) (HK.out.below u.2) (HK'.out.below u.2);rw[show bL (ln i) (f i) (ln i) (f i)=true from decide_eq_true ⟨rfl,fun j _=>T.eqB_iff.2 rfl⟩]at this;exact this
   clear hcl hcl' hB g0 g1;go_wp2_with fail;refine aS (by kernel_rfl) (by kernel_rfl) ?_;repeat(go_big_quiet_step (first|(go_at_call 19;exact bK (hcall _))|fail))
   refine wpQuiet_nil ?_;rintro _ ⟨v,rfl⟩;have HV:=aA v.2
   clear s0 s1 ne hcall;go_wp2;go_roundw;case rel=>exact⟨i+1,by omega,by go_num,aC HB.out HV.out⟩
   case measure=>simp[intOf];omega
  ·have hnl:¬(i:Int)<(n:Int):=by omega
   go_wp2;go_ret;exact⟨rfl,hB⟩
def kW (w:World) (a:Option Addr) (n cap:Nat) (ad:Nat→Option Addr) (ln cp:Nat→Nat) (f:Nat→Nat→T):Prop:=
 n≤cap∧cap≤maxLen∧(n=0∨∃b off,a=some ⟨b,off,none⟩∧b<w.heap.size∧∀i,i<n→w.cell? ⟨b,off+i,none⟩=some (.slice (ad i) (ln i) (cp i)))∧∀i,i<n→gW w (ad i) (ln i) (cp i) (f i)
theorem kW.rd {w:World} {a:Option Addr} {n cap:Nat} {ad:Nat→Option Addr} {ln cp:Nat→Nat} {f:Nat→Nat→T} (h:kW w a n cap ad ln cp f) (hn:n*40≤140737488351232) (hl:∀i,i<n→ln i*40≤140737488351232):kM w a n cap ad ln cp f:=
 ⟨h.1,hn,h.2.2.1,fun i hi=>(h.2.2.2 i hi).rd (hl i hi)⟩
theorem zF:Tryz.prog.cellsOf 31=1:=by kernel_rfl
theorem pF {H:Type} {enc:TypeId×Value→H} {w:World} {base:Nat} {spare:Nat→Bool} {held:Bool} {fuel:Nat} {v:Value} {x:DataW H×List MemPlace} (h:DataW.trod enc Tryz.prog w base spare held fuel 31 [v]=some x):∃(t:Option Addr×Nat×Nat) (f:Nat→T),v= .slice t.1 t.2.1 t.2.2∧gW w t.1 t.2.1 t.2.2 f:=by
 have h':=h;rcases open_slice Tryz.underlying31 h with⟨hc,_⟩|⟨ad,len,cp,m,k,D,Pl,hc,_⟩
 ·simp at hc;subst hc;obtain⟨f,hf⟩:=iY h';exact⟨(none,0,0),f,rfl,hf⟩
 ·simp at hc;subst hc;obtain⟨f,hf⟩:=iY h';exact⟨(some ad,len,cp),f,rfl,hf⟩
theorem uX {H:Type} {enc:TypeId×Value→H} {w:World} {base:Nat} {spare:Nat→Bool} {held:Bool} {fuel:Nat} {a:Option Addr} {n cap:Nat} {x:DataW H×List MemPlace} (h:DataW.trod enc Tryz.prog w base spare held fuel 30 [.slice a n cap]=some x):∃ad ln cp f,kW w a n cap ad ln cp f:=by
 rcases open_slice Tryz.underlying30 h with⟨hc,_⟩|⟨ad,len,cp,m,k,D,Pl,hc,_,hl,hm,hmm,_,hx⟩
 ·simp at hc;obtain⟨rfl,rfl,rfl⟩:=hc;exact⟨fun _=>none,fun _=>0,fun _=>0,fun _ _=>⟨0,⟨0,0,0,0⟩⟩,Nat.le_refl _,gC _,.inl rfl,fun i hi=>absurd hi (FE _)⟩
 ·simp at hc;obtain⟨rfl,rfl,rfl⟩:=hc;by_cases h0:n=0
  ·exact⟨fun _=>none,fun _=>0,fun _=>0,fun _ _=>⟨0,⟨0,0,0,0⟩⟩,hl,hm,.inl h0,fun i hi=>by omega⟩
  have hnm:n≤m:=by rw[hmm];split<;>omega
  have each:∀i,i<n→∃t:(Option Addr×Nat×Nat)×(Nat→T),w.cell? (ad.add i)=some (.slice t.1.1 t.1.2.1 t.1.2.2)∧gW w t.1.1 t.1.2.1 t.1.2.2 t.2:=by
   intro i hi;obtain⟨cs',h1,h2⟩:=hx i (by omega);rw[zF]at h1;obtain⟨_,hlen,hcell⟩:=World.cells?_some h1;match cs',hlen with
   |[v0],_=>
    obtain⟨t,f,rfl,ht⟩:=pF h2;have c0:=hcell 0 (by omega)
    rw[add_add]at c0;exact⟨(t,f),by simpa using c0,ht⟩
  haveI:Inhabited ((Option Addr×Nat×Nat)×(Nat→T)):=⟨((none,0,0),fun _=>⟨0,⟨0,0,0,0⟩⟩)⟩
  obtain⟨q,hq⟩:=choose_lt each;obtain⟨b,off,spot⟩:=ad;have hs:spot=none:=by have:=World.cell?_spot (hq 0 (by omega)).1;simpa[Addr.add]using this
  subst hs;have hadd:∀j,(⟨b,off,none⟩:Addr).add j=⟨b,off+j,none⟩:=fun j=>by unfold Addr.add;split<;>simp_all
  refine⟨fun i=>(q i).1.1,fun i=>(q i).1.2.1,fun i=>(q i).1.2.2,fun i=>(q i).2,hl,hm,.inr ⟨b,off,rfl,?_,fun i hi=>?_⟩,fun i hi=>(hq i hi).2⟩
  ·have:=uK w _ (hq 0 (by omega)).1;rw[hadd]at this;exact this
  ·have:=(hq i hi).1;rw[hadd]at this;exact this
theorem CB (w:World) (a:Option Addr) (n cap:Nat) (ad:Nat→Option Addr) (ln cp:Nat→Nat) (f:Nat→Nat→T) (h:kM w a n cap ad ln cp f):Calls Tryz.prog 16 #[.slice a n cap] w fun r w'=>∃B:Nat→Nat,r= .returned (.slice (some ⟨w.heap.size,0,none⟩) n n)∧Below w.heap.size w w'∧w'.rowIs w.heap.size 22 n (gD B ln n)∧(∀i,i<n→w.heap.size<B i∧Own w' (B i) (ln i) (f i))∧∀i j,i<j→j<n→B i<B j:=by
 have hn:(n:Int)≤140737488351232:=by have:=h.2.1;omega
 have h2:=h.2.1;have HH:=aA h
 clear h;go_enter Tryz.func16,Tryz.ntmps16;go_wp2_with (at_make;refine oN _ rfl _ _ rfl n rfl rfl (by omega) ?_;intro hrow);go_loopw [4] (fun i wr=>∃(k:Nat) (B:Nat→Nat),k≤n∧i= .int .i64 k∧Below w.heap.size w wr∧wr.rowIs w.heap.size 22 n (gD B ln k)∧(∀i,i<k→w.heap.size<B i∧Own wr (B i) (ln i) (f i))∧∀i j,i<j→j<k→B i<B j) (fun i _=>n-(intOf i).toNat);case atStart=>exact⟨0,fun _=>0,gC _,rfl,(aD _ _).alloc (Nat.le_refl _) _,hrow.congr fun j _=>by simp[gD],fun i hi=>by omega,fun i j _ hj=>by omega⟩
 case round=>
  obtain⟨k,B,hk,rfl,hB,hR,hO,hD⟩:=hrel;have HD:=aA hD
  clear hD;by_cases hlt:k<n
  ·rcases HH.out.2.2.1 with h0|⟨b,off,rfl,hblt,hcl⟩
   ·omega
   have hkn:(k:Int)<(n:Int):=by omega
   have g0:wr.cell? ⟨b,off+k,none⟩=some (.slice (ad k) (ln k) (cp k)):=(hB.cell (p:=⟨b,off+k,none⟩) hblt).trans (hcl k hlt);have HR:=aA hR
   have HO:=aA hO;have HB:=aA hB
   have HK:=aA ((HH.out.2.2.2 k hlt).below hB);clear hR hcl hO;go_wp2_with fail;refine(nO _ _ _ _ (f k) HK.out).mono ?_;rintro r w1 ⟨rfl,hb,ho⟩;have hR1:=HR.out.of_block (hb.block w.heap.size (HR.out.lt))
   have hB1:=HB.out.trans (hb.mono HB.out.size);have hsz:w.heap.size<wr.heap.size:=HR.out.lt
   have q0:=hR1.cell (i:=k) hlt;have fz:=fun i=>hR1.frozen i
   obtain⟨V,hV⟩:∃V,wr.heap.size=V:=⟨_,rfl⟩
   rw[hV]at ho⊢;have HN:=aA (oT (v:=V) hR1)
   have HO2:Hid (∀i,i<k+1→w.heap.size<(if i=k then V else B i)∧Own w1 (if i=k then V else B i) (ln i) (f i)):=fun i hi=>by
    by_cases e:i=k
    ·rw[if_pos e,e];exact⟨by omega,ho⟩
    ·rw[if_neg e];have:=HO.out i (by omega)
     exact⟨this.1,this.2.below hb this.2.lt⟩
   have HD2:Hid (∀i j,i<j→j<k+1→(if i=k then V else B i)<(if j=k then V else B j)):=fun i j hij hj=>by
    rw[if_neg (show ¬i=k by omega)];by_cases e:j=k
    ·rw[if_pos e,←hV];exact(HO.out i (by omega)).2.lt
    ·rw[if_neg e];exact HD.out i j hij (by omega)
   have HB1:=aA hB1;clear hR1 HR hb ho HO hB1 hB;go_wp2;go_roundw
   case rel=>
    refine⟨k+1,_,by omega,by go_num,HB1.out.setCell (Nat.le_refl _) _,HN.out,fun i hi=>?_,HD2.out⟩;have:=HO2.out i hi
    refine⟨this.1,this.2.of_block ?_⟩;exact Below.heap_setCell _ _ _ _ (Nat.ne_of_gt this.1)
   case measure=>simp[intOf];omega
  ·have hkn:k=n:=by omega
   subst hkn;have HR:=aA hR
   have HO:=aA hO;clear hR hO;go_wp2;go_ret;exact⟨B,rfl,hB,HR.out,HO.out,HD.out⟩
structure jB (lo hi:Nat) (w w':World):Prop where
 os:w'.os=w.os
 tape:w'.tape=w.tape
 output:w'.output=w.output
 size:w'.heap.size=w.heap.size
 block:∀k,k<w.heap.size→k<lo∨hi≤k→w'.heap[k]? =w.heap[k]?
theorem jB.refl (lo hi:Nat) (w:World):jB lo hi w w:=⟨rfl,rfl,rfl,rfl,fun _ _ _=>rfl⟩
theorem jB.grown {lo hi:Nat} {w w' w'':World} {g:Nat} (h:jB lo hi w w') (hg:w'.grownBy w'' (some g)) (hs:w''.heap.size=w'.heap.size) (h1:lo≤g) (h2:g<hi):jB lo hi w w'':=
 ⟨hg.os.trans h.os,hg.tape.trans h.tape,hg.output.trans h.output,hs.trans h.size,fun k hk hc=>(hg.block k (by rw[h.size];exact hk) (fun e=>by cases e;omega)).trans (h.block k hk hc)⟩
theorem xU (w:World) (g n hi:Nat) (B ln:Nat→Nat) (f:Nat→Nat→T) (k:Int) (hR:w.rowIs g 22 n (gD B ln n)) (hO:∀i,i<n→g<B i∧B i<hi∧Own w (B i) (ln i) (f i)) (hD:∀i j,i<j→j<n→B i<B j) (hn:n≤1048576) (hl:∀i,i<n→ln i≤1048576) (hk0:0≤k) (hk1:k≤10000000000000):Calls Tryz.prog 21 #[.slice (some ⟨g,0,none⟩) n n,.int .i64 k] w fun r w'=>∃z:Int,r= .returned (.int .i64 z)∧0≤z∧z≤k+5242880*n∧jB (g+1) hi w w':=by
 have hn':(n:Int)≤1048576:=by omega
 have HR:=aA hR;have HO:=aA hO
 have HD:=aA hD;have HL:=aA hl
 clear hR hO hD hl;go_enter Tryz.func21,Tryz.ntmps21;go_wp2;go_loopw [1,5] (fun kk ii wr=>∃(i:Nat) (z:Int),i≤n∧ii= .int .i64 (i:Int)∧kk= .int .i64 z∧0≤z∧z≤k+5242880*i∧jB (g+1) hi w wr∧∀j,i≤j→j<n→Own wr (B j) (ln j) (f j)) (fun _ ii _=>n-(intOf ii).toNat);case atStart=>exact⟨0,k,gC _,rfl,rfl,hk0,by omega,jB.refl _ _ _,fun j _ hj=>(HO.out j hj).2.2⟩
 case round=>
  obtain⟨i,z,hi,rfl,rfl,z0,z1,hA,hW⟩:=hrel;have HA:=aA hA
  have HW:=aA hW;clear hW;by_cases hlt:i<n
  ·have hil:(i:Int)<(n:Int):=by omega
   have hgl:g<w.heap.size:=HR.out.lt;have hrow:=HR.out.of_block (hA.block g hgl (.inl (Nat.lt_succ_self _)))
   have g0:=hrow.cell (i:=i) hlt;have e0:gD B ln n i= .slice (some ⟨B i,0,none⟩) (ln i) (ln i):=by simp[gD,hlt]
   rw[e0]at g0;have hli:=HL.out i hlt
   have hw:=HW.out i (Nat.le_refl _) hlt;have HM:=aA (mI wr (some ⟨B i,0,none⟩) (ln i) (ln i) (f i) z hw.wr (by omega) z0 (by omega))
   clear hrow hA hw e0;go_wp2_with fail;refine HM.out.mono ?_;rintro r w1 ⟨rfl,hg,hz,_,_⟩;have HA1:=aA (HA.out.grown (show wr.grownBy w1 (some (B i))from hg) hz (HO.out i hlt).1 (HO.out i hlt).2.1)
   have HW1:Hid (∀j,i+1≤j→j<n→Own w1 (B j) (ln j) (f j)):=fun j h1 h2=>(HW.out j (by omega) h2).of_block (hg.block (B j) (HW.out j (by omega) h2).lt (fun e=>by
    have:=HD.out i j (by omega) h2;have e':B j=B i:=by simpa using e
    omega))
   clear hg hz HM g0;go_wp2;go_roundw;case rel=>exact⟨i+1,z+5*(ln i),by omega,by go_num,rfl,by omega,by omega,HA1.out,HW1.out⟩
   case measure=>simp[intOf];omega
  ·have hnl:¬(i:Int)<(n:Int):=by omega
   have hie:i=n:=by omega
   subst hie;go_wp2;go_ret;exact⟨z,rfl,z0,z1,HA.out⟩
end Go.Proofs.YtoglomfejgpoeaaGreatDoor
namespace Go.Proofs.YtoglomfejgpoeaaGreatDoor
open Go.RowKit
set_option linter.unusedVariables false
variable {w:World} {a b:Option Addr} {ca cb:Nat} {L K:List T}
end Go.Proofs.YtoglomfejgpoeaaGreatDoor
namespace Go.Proofs.YtoglomfejgpoeaaGreatDoor
open Go.RowKit Go.Deep Go.Joins Go.WideShapes Go.ChangeShapes
set_option linter.unusedVariables false
set_option linter.unusedSimpArgs false
theorem EN (k to a b:Int) (pa:Option Addr) (n cap:Nat) (f:Nat→T) (w:World) (h:Rd w pa n cap f):Calls Tryz.prog 17 #[.agg #[.int .i64 k,.int .i64 to,.int .i64 a,.int .i64 b,.slice pa n cap]] w fun r w'=>∃g,r= .returned (.agg #[.int .i64 k,.int .i64 to,.int .i64 a,.int .i64 b,.slice (some ⟨g,0,none⟩) n n])∧Below w.heap.size w w'∧Own w' g n f∧w.heap.size<g:=by
 have HH:=aA h;clear h;go_enter Tryz.func17,Tryz.ntmps17;go_wp2_with fail;have hbX:=bZ w (.cells #[.int .i64 k,.int .i64 to,.int .i64 a,.int .i64 b,.slice pa n cap] 33) (.cells #[.int .i64 0,.int .i64 0,.int .i64 0,.int .i64 0,.slice none 0 0] 24) (.cells #[.int .i64 k,.int .i64 to,.int .i64 a,.int .i64 b,.slice none 0 0] 24)
 have h2X:(((w.alloc (.cells #[.int .i64 k,.int .i64 to,.int .i64 a,.int .i64 b,.slice pa n cap] 33)).alloc (.cells #[.int .i64 0,.int .i64 0,.int .i64 0,.int .i64 0,.slice none 0 0] 24)).alloc (.cells #[.int .i64 k,.int .i64 to,.int .i64 a,.int .i64 b,.slice none 0 0] 24)).heap[w.heap.size+1]? =some (.cells #[.int .i64 0,.int .i64 0,.int .i64 0,.int .i64 0,.slice none 0 0] 24 (0,0)):=by
  rw[Below.heap_alloc _ _ _ (by simp)];have:=heap_alloc_new (w.alloc (.cells #[.int .i64 k,.int .i64 to,.int .i64 a,.int .i64 b,.slice pa n cap] 33)) (.cells #[.int .i64 0,.int .i64 0,.int .i64 0,.int .i64 0,.slice none 0 0] 24)
  rwa[World.size_alloc]at this
 have h3X:(((w.alloc (.cells #[.int .i64 k,.int .i64 to,.int .i64 a,.int .i64 b,.slice pa n cap] 33)).alloc (.cells #[.int .i64 0,.int .i64 0,.int .i64 0,.int .i64 0,.slice none 0 0] 24)).alloc (.cells #[.int .i64 k,.int .i64 to,.int .i64 a,.int .i64 b,.slice none 0 0] 24)).heap[w.heap.size+1+1]? =some (.cells #[.int .i64 k,.int .i64 to,.int .i64 a,.int .i64 b,.slice none 0 0] 24 (0,0)):=by
  have:=heap_alloc_new ((w.alloc (.cells #[.int .i64 k,.int .i64 to,.int .i64 a,.int .i64 b,.slice pa n cap] 33)).alloc (.cells #[.int .i64 0,.int .i64 0,.int .i64 0,.int .i64 0,.slice none 0 0] 24)) (.cells #[.int .i64 k,.int .i64 to,.int .i64 a,.int .i64 b,.slice none 0 0] 24)
  rwa[World.size_alloc,World.size_alloc]at this
 have hsX:(((w.alloc (.cells #[.int .i64 k,.int .i64 to,.int .i64 a,.int .i64 b,.slice pa n cap] 33)).alloc (.cells #[.int .i64 0,.int .i64 0,.int .i64 0,.int .i64 0,.slice none 0 0] 24)).alloc (.cells #[.int .i64 k,.int .i64 to,.int .i64 a,.int .i64 b,.slice none 0 0] 24)).heap.size=w.heap.size+3:=by simp
 generalize(((w.alloc (.cells #[.int .i64 k,.int .i64 to,.int .i64 a,.int .i64 b,.slice pa n cap] 33)).alloc (.cells #[.int .i64 0,.int .i64 0,.int .i64 0,.int .i64 0,.slice none 0 0] 24)).alloc (.cells #[.int .i64 k,.int .i64 to,.int .i64 a,.int .i64 b,.slice none 0 0] 24))=X at hbX h2X h3X hsX⊢;refine(nO _ _ _ _ f (HH.out.below hbX)).mono ?_;rintro e w1 ⟨rfl,hb,ho⟩;obtain⟨g,hg⟩:∃g,X.heap.size=g:=⟨_,rfl⟩
 have hgl:w.heap.size+3≤g:=by omega
 rw[hg]at ho⊢;obtain⟨⟨r0,r1,r2,r3,r4⟩,rz⟩:=dS ((hb.block _ (by omega)).trans h2X);obtain⟨⟨x0,x1,x2,x3,x4⟩,xz⟩:=dS ((hb.block _ (by omega)).trans h3X);have HB:=aA (aC hbX hb)
 have HO:=aA ho;have hn1:w.heap.size+1≠w.heap.size+1+1:=by omega
 have hn2:w.heap.size+1+1≠w.heap.size+1:=by omega
 have hg1:g≠w.heap.size+1:=by omega
 have hg2:g≠w.heap.size+1+1:=by omega
 clear hb ho hbX h2X h3X hsX hg;go_wp2;refine bT (v:=.agg #[.int .i64 k,.int .i64 to,.int .i64 a,.int .i64 b,.slice (some ⟨g,0,none⟩) n n]) (by simp[results,Tryz.results17,go_sem, *]) rfl ?_;refine⟨g,rfl,?_,?_,by omega⟩
 ·first
   |exact jM (HB.out.setCell (p:=⟨w.heap.size+1+1,4,none⟩) (by show w.heap.size≤w.heap.size+1+1;omega) _) (by omega) _ _ _ _ _
   |exact(jM HB.out (by omega) _ _ _ _ _).setCell (p:=⟨w.heap.size+1+1,4,none⟩) (by show w.heap.size≤w.heap.size+1+1;omega) _
 ·refine HO.out.of_block ?_;repeat(first|rw[Below.heap_setCell _ _ _ _ hg1]|rw[Below.heap_setCell _ _ _ _ hg2])
theorem AN (k to a b:Int) (g n:Nat) (f:Nat→T) (K:Int) (w:World) (h:Own w g n f) (hn:n≤1048576) (k0:0≤K) (k1:K≤100000000000000):Calls Tryz.prog 11 #[.agg #[.int .i64 k,.int .i64 to,.int .i64 a,.int .i64 b,.slice (some ⟨g,0,none⟩) n n],.int .i64 K] w fun r w'=>r= .returned (.int .i64 (K+5*n))∧aH g w w':=by
 have hb0:=aG w (.cells #[.int .i64 k,.int .i64 to,.int .i64 a,.int .i64 b,.slice (some ⟨g,0,none⟩) n n] 24);have HM:=aA (mI _ (some ⟨g,0,none⟩) n n f K (h.below hb0 h.lt).wr (by omega) k0 (by omega))
 have HB0:=aA hb0;clear hb0 h;go_enter Tryz.func11,Tryz.ntmps11;go_wp2_with fail;refine HM.out.mono ?_;rintro r w1 ⟨rfl,hg,hz,hw,hs⟩;have HG:Hid (aH g w w1):=aA ⟨hg.os.trans HB0.out.os,hg.tape.trans HB0.out.tape,hg.output.trans HB0.out.output,by rw[hz];exact HB0.out.size,fun j hj hn=>(hg.block j (dR hj HB0.out.size) (by simp;exact hn)).trans (HB0.out.block j hj)⟩
 clear hg hz hw hs HM;go_wp2;go_ret;exact⟨rfl,HG.out⟩
end Go.Proofs.YtoglomfejgpoeaaGreatDoor
