/-
  The draw of a list of operators: some operators, each in memory of its own.
-/
import Derived.Test.YtbkighpmkadmmaaMaq
set_option maxHeartbeats 8000000
set_option maxRecDepth 100000
namespace Go.Proofs.Ytbkighpmkadmmaa
open Go.RowKit Go.Deep Go.Joins
set_option linter.unusedVariables false
theorem zS (u:World) (N:Nat) (t:TypeId) (x0 x1 x2:Int) (hN:N≤u.heap.size):Sl (u.alloc (.cells #[.int .i64 x0,.int .i64 x1,.int .i64 x2] t)) N 3 (.slice (some ⟨u.heap.size,0,none⟩) 3 3):=by
 refine⟨u.heap.size,rfl,hN,fun i hi=>?_⟩;rw[World.cell?_alloc_at _ _ _ _ rfl];have h5:i=0∨i=1∨i=2:=by omega
 rcases h5 with rfl|rfl|rfl<;>exact⟨_,rfl⟩
def FJ (B N:Nat) (w:World) (v:Value):Nat→Prop
 |0=>v= .pointer (some ⟨B,0,none⟩)
 |1=>Pk 2 v
 |2=>Sl w N 3 v
 |3=>v= .pointer (some ⟨B,0,none⟩)
 |4=>Pk 3 v
 |5=>Ix w N v
 |6=>Ld v
 |7=>v= .pointer (some ⟨B,0,none⟩)
 |8=>Pk 3 v
 |9=>Ld v
 |10=>Sl w N 3 v
 |11=>v= .pointer (some ⟨B,0,none⟩)
 |12=>Pk 3 v
 |13=>Ix w N v
 |14=>Ld v
 |15=>Ag v
 |_=>True
theorem FJ.move {B N:Nat} {w w':World} {v:Value} {k:Nat} (h:FJ B N w v k) (hb:aE B w w') (hB:B<N):FJ B N w' v k:=by unfold FJ at h⊢;split at h<;>first|exact h|exact Sl.move h hb hB|exact Ix.move h hb hB
def MJ (F:(Nat→Value)→Act) (B p:Nat) (W:World) (N:Nat) (l:Array Bool) (a:Act) (u:World):Prop:=
 ∃(q:Nat) (vs:Nat→Value),a=F vs∧fV u B q∧q+dP l≤p+18∧aE B W u∧N≤u.heap.size∧l.size=18∧
  (l.getD 17 false=true→∀k,k<17→l.getD k false=true)∧(∀k,l.getD k false=true→l.getD 17 false=false→FJ B N u (vs k) k)∧(l.getD 16 false=true→Al u N (vs 16))
theorem MJ.step {F:(Nat→Value)→Act} {B p:Nat} {W:World} {N:Nat} {l:Array Bool} {u u':World} {q':Nat} {vs:Nat→Value} {i:Nat} {v:Value} (hB:B<N) (hR:fV u' B q') (hq:q'+dP (l.setIfInBounds i true)≤p+18) (hW:aE B W u) (hN:N≤u.heap.size) (hl:l.size=18) (h17:l.getD 17 false=false) (hi:i≠17) (hf:∀k,l.getD k false=true→l.getD 17 false=false→FJ B N u (vs k) k) (h16:l.getD 16 false=true→Al u N (vs 16)) (hm:aE B u u') (hv:FJ B N u' v i) (hv':i=16→Al u' N v) (a:Act) (ha:a=F (fun k=>if k=i then v else vs k)):MJ F B p W N (l.setIfInBounds i true) a u':=by
 refine⟨q',fun k=>if k=i then v else vs k,ha,hR,hq,hW.trans hm,kM hN hm.size,by simp[hl],?_,?_,?_⟩
 ·intro h;rw[getD_set_ne false hi,h17]at h;cases h
 ·intro k hk _;by_cases hki:k=i
  ·have hv2:FJ B N u' v k:=by rw[hki];exact hv
   exact Eq.mpr (congrArg (fun z=>FJ B N u' z k) (if_pos hki)) hv2
  ·rw[getD_set_ne false (fun e=>hki e.symm)]at hk;simp only[if_neg hki];exact(hf k hk h17).move hm hB
 ·intro hk;by_cases hki:16=i
  ·exact Eq.mpr (congrArg (fun z=>Al u' N z) (if_pos hki)) (hv' hki.symm)
  ·rw[getD_set_ne false (fun e=>hki e.symm)]at hk;simp only[if_neg hki];exact(h16 hk).move hm hB
abbrev G4 (g:Nat) (a0 a1 a2 a3:Int) (u:World):Prop:=u.cell? ⟨g,0,none⟩=some (.int .i64 a0)∧u.cell? ⟨g,1,none⟩=some (.int .i64 a1)∧u.cell? ⟨g,2,none⟩=some (.int .i64 a2)∧u.cell? ⟨g,3,none⟩=some (.int .i64 a3)
theorem G4.beside {g B:Nat} {a0 a1 a2 a3:Int} {u u':World} (h:G4 g a0 a1 a2 a3 u) (hb:aE B u u') (hg:g≠B):G4 g a0 a1 a2 a3 u':=
 have l:=fG u ⟨g,0,none⟩ h.1
 ⟨(hb.cell l hg).trans h.1,(hb.cell l hg).trans h.2.1,(hb.cell l hg).trans h.2.2.1,(hb.cell l hg).trans h.2.2.2⟩
theorem G4.below {g:Nat} {a0 a1 a2 a3:Int} {u u':World} (h:G4 g a0 a1 a2 a3 u) (hb:Below u.heap.size u u'):G4 g a0 a1 a2 a3 u':=
 have l:=fG u ⟨g,0,none⟩ h.1
 ⟨(hb.cell (p:=⟨g,0,none⟩) l).trans h.1,(hb.cell (p:=⟨g,1,none⟩) l).trans h.2.1,(hb.cell (p:=⟨g,2,none⟩) l).trans h.2.2.1,(hb.cell (p:=⟨g,3,none⟩) l).trans h.2.2.2⟩
def El (w:World) (lo:Nat) (g:Option Nat) (v:Value):Prop:=∃a n c f,v= .slice a n c∧Rd w a n c f∧n≤5∧(n=0∨∃b off,a=some ⟨b,off,none⟩∧lo≤b∧some b≠g)
theorem El.below {w w':World} {lo:Nat} {g:Option Nat} {v:Value} (h:El w lo g v) (hb:Below w.heap.size w w'):El w' lo g v:=by obtain⟨a,n,c,f,rfl,hr,hn,hx⟩:=h;exact⟨a,n,c,f,rfl,hr.below hb,hn,hx⟩
theorem El.beside {w w':World} {B lo:Nat} {g:Option Nat} {v:Value} (h:El w lo g v) (hb:aE B w w') (hB:B<lo):El w' lo g v:=by
 obtain⟨a,n,c,f,rfl,hr,hn,hx⟩:=h;refine⟨a,n,c,f,rfl,hr.beside hb ?_,hn,hx⟩;rcases hx with h0|⟨b,off,rfl,hlo,_⟩
 ·exact .inl h0
 ·exact .inr fun b' off' e=>by cases e;omega
theorem El.none {w:World} {lo:Nat} {g:Option Nat} {v:Value} (h:El w lo g v):El w lo none v:=by obtain⟨a,n,c,f,rfl,hr,hn,hx⟩:=h;exact⟨a,n,c,f,rfl,hr,hn,hx.imp id fun⟨b,off,e,hlo,_⟩=>⟨b,off,e,hlo,by simp⟩⟩
theorem El.grown {w w':World} {lo g H:Nat} {row:Option Nat} {v:Value} (h:El w lo row v) (hg:w.grownBy w' row) (hat:row=some g∨g=H) (hH:w.heap.size≤H):El w' lo (some g) v:=by
 obtain⟨a,n,c,f,rfl,hr,hn,hx⟩:=h;rcases hx with h0|⟨b,off,rfl,hlo,hne⟩
 ·exact⟨a,n,c,f,rfl,hr.grown hg (.inl h0),hn,.inl h0⟩
 ·by_cases h0:n=0
  ·exact⟨_,n,c,f,rfl,hr.grown hg (.inl h0),hn,.inl h0⟩
  refine⟨_,n,c,f,rfl,hr.grown hg (.inr fun b' off' e=>by cases e;exact hne),hn,.inr ⟨b,off,rfl,hlo,?_⟩⟩;have hlt:b<w.heap.size:=by
   rcases hr.2.2 with h1|⟨b',off',e,hl,_⟩
   ·exact absurd h1 h0
   ·cases e;exact hl
  rcases hat with e|e
  ·rw[←e];exact hne
  ·intro ee;have:b=g:=by simpa using ee
   omega
theorem KI:(Try.prog.info? 29).map (fun i=>(i.zero,i.size,i.bytes))=some (some (.slice none 0 0),1,24):=by kernel_rfl
theorem DG (w:World) (B p:Nat) (most n:Int) (h:fV w B p) (m1:1≤most) (m2:most≤4) (hn:1≤n) (hn':n≤1000) (hp:p≤4000):Calls Try.prog 42 #[.pointer (some ⟨B,0,none⟩),.int .i64 most,.int .i64 n] w fun r w'=>∃(v:Value) (LS:List Value) (q:Nat),r= .returned v∧w'.ownsRow w.heap.size 29 1 v LS.length LS∧LS.length≤5∧(∀e∈LS,El w' w.heap.size v.ownBlock e)∧q≤p+1000∧fV w' B q∧aE B w w':=by
 have hB:=h.lt;obtain⟨tI,hi0,hz0,hz1,hz2⟩:=info_parts KI;have HR0:=aA (h.alloc (.cells #[] 29))
 have HB0:=aA ((aE.refl B w).alloc (.cells #[] 29));have HO0:Hid ((w.alloc (.cells #[] 29)).ownsRow w.heap.size 29 1 (.slice (some ⟨w.heap.size,0,none⟩) 0 0) 0 []):=World.ownsRow_lit _ _ _ (Nat.le_refl _) (gT _) rfl
 clear h;go_enter Try.func42,Try.ntmps42;go_wp2_with fail;generalize(w.alloc (.cells #[] 29))=W at *;refine(aT _ B p most HR0.out (by omega) (by omega) (by omega)).mono ?_;rintro e w1 ⟨k,rfl,k0,k1,hk⟩;have HR1:=aA (hk.rdr HR0.out)
 have HB1:=aA (HB0.out.trans hk.beside);have HO1:=aA (aV HO0.out hk.beside hB)
 clear hk HO0 HR0 HB0;go_wp2;go_loopw [7,8] (fun v i wr=>∃(j:Nat) (LS:List Value) (q:Nat),i= .int .i64 j∧LS.length+j≤4∧wr.ownsRow w.heap.size 29 1 v LS.length LS∧(∀e∈LS,El wr w.heap.size v.ownBlock e)∧q+50*j≤p+201∧fV wr B q∧aE B w wr) (fun _ i _=>(intOf i).toNat);case atStart=>exact⟨(1+k).toNat,[],p+1,by rw[Int.toNat_of_nonneg (by omega)],by simp;omega,HO1.out,(fun e he=>absurd he List.not_mem_nil),by omega,HR1.out,HB1.out⟩
 case round=>
  obtain⟨j,LS,q,rfl,hj,ho,hE,hq,hR,hb⟩:=hrel;by_cases hj0:0<j
  ·have hjb:(0:Int)<(j:Int):=by omega
   have HO:=aA ho;have HE:=aA hE
   have HR:=aA hR;have HB:=aA hb
   clear ho hE hR hb;have hwo:w.heap.size≤wr.heap.size:=HB.out.size
   have HR2:=aA (HR.out.alloc (.cells #[] 33));have HB2:=aA ((aE.refl B wr).alloc (.cells #[] 33))
   have HO2:Hid ((wr.alloc (.cells #[] 33)).ownsRow wr.heap.size 33 5 (.slice (some ⟨wr.heap.size,0,none⟩) 0 0) ([]:List T).length (aG [])):=bL wr wr.heap.size (Nat.le_refl _);generalize hwr:wr=wo at *;clear hwr wr;go_wp2_with fail;generalize(wo.alloc (.cells #[] 33))=w2 at *;refine(aT _ B q 2 HR2.out (by omega) (by omega) (by omega)).mono ?_;rintro e w3 ⟨i,rfl,i0,i1,hk⟩;have HR3:=aA (hk.rdr HR2.out)
   have HB3:=aA (HB2.out.trans hk.beside);have HO3:=aA (aV HO2.out hk.beside (by omega))
   clear hk HR2 HB2 HO2;go_wp2;go_loopw [9,10] (fun v2 ii wx=>∃(j2:Nat) (L:List T) (q2:Nat),ii= .int .i64 j2∧wx.ownsRow wo.heap.size 33 5 v2 L.length (aG L)∧L.length+j2≤2∧Hid (BT L)∧q2+20*j2≤q+41∧fV wx B q2∧aE B wo wx) (fun _ ii _=>(intOf ii).toNat);case atStart=>exact⟨(1+i).toNat,[],q+1,by rw[Int.toNat_of_nonneg (by omega)],HO3.out,by simp;omega,sG,by omega,HR3.out,HB3.out⟩
   case round=>
    obtain⟨j2,L,q2,rfl,ho2,hl2,hc2,hq2,hR2,hb2⟩:=hrel;have HX:=aA hb2
    have HRx:=aA hR2;have HOx:=aA ho2
    clear hR2 hb2 ho2;by_cases hj2:0<j2
    ·have hjb2:(0:Int)<(j2:Int):=by omega
     go_wp2_with fail;obtain⟨N,hNe⟩:∃N,wr.heap.size=N:=⟨_,rfl⟩
     have hBN:B<N:=by have:=HX.out.size;omega
     refine Code.wp_mono (Q:=fun e a u=>e=Exit.normal∧∃(q:Nat) (vs:Nat→Value),a={tmps:=#[Value.pointer (some ⟨B,0,none⟩),Value.int IntKind.i64 most,Value.int IntKind.i64 n,undef,undef,undef,Value.slice none 0 0,u7,Value.int IntKind.i64 (j:Int),u9,Value.int IntKind.i64 (j2:Int),vs 16,Value.slice (some ⟨w.heap.size,0,none⟩) 0 0,Value.pointer (some ⟨B,0,none⟩),Value.int IntKind.i64 most,Value.int IntKind.i64 k,Value.int IntKind.i64 (1+k),Value.int IntKind.i64 (j:Int),Value.bool true,u19,u20,Value.slice (some ⟨wo.heap.size,0,none⟩) 0 0,Value.pointer (some ⟨B,0,none⟩),Value.int IntKind.i64 i,Value.int IntKind.i64 (1+i),Value.int IntKind.i64 (j2:Int),Value.bool true,u27,u28,vs 0,vs 1,vs 2,vs 3,vs 4,vs 5,vs 6,vs 7,vs 8,vs 9,vs 10,vs 11,vs 12,vs 13,vs 14,vs 15,u45,u46,u47,u48,u49,u50,u51,u52,u53,u54,u55,u56,u57,u58,u59,u60,u61,undef,undef,undef,undef,undef,undef,undef,undef,undef,undef],defers:=[]}∧fV u B q∧q≤q2+18∧aE B wr u∧Al u N (vs 16)) ?_ ?_;rotate_left
     ·refine iO (I:=MJ (fun vs:Nat→Value=>({tmps:=#[Value.pointer (some ⟨B,0,none⟩),Value.int IntKind.i64 most,Value.int IntKind.i64 n,undef,undef,undef,Value.slice none 0 0,u7,Value.int IntKind.i64 (j:Int),u9,Value.int IntKind.i64 (j2:Int),vs 16,Value.slice (some ⟨w.heap.size,0,none⟩) 0 0,Value.pointer (some ⟨B,0,none⟩),Value.int IntKind.i64 most,Value.int IntKind.i64 k,Value.int IntKind.i64 (1+k),Value.int IntKind.i64 (j:Int),Value.bool true,u19,u20,Value.slice (some ⟨wo.heap.size,0,none⟩) 0 0,Value.pointer (some ⟨B,0,none⟩),Value.int IntKind.i64 i,Value.int IntKind.i64 (1+i),Value.int IntKind.i64 (j2:Int),Value.bool true,u27,u28,vs 0,vs 1,vs 2,vs 3,vs 4,vs 5,vs 6,vs 7,vs 8,vs 9,vs 10,vs 11,vs 12,vs 13,vs 14,vs 15,u45,u46,u47,u48,u49,u50,u51,u52,u53,u54,u55,u56,u57,u58,u59,u60,u61,undef,undef,undef,undef,undef,undef,undef,undef,undef,undef],defers:=[]}:Act)) B q2 wr N) (by kernel_rfl) ?_ ?_ ?_
      ·refine⟨q2,(fun k=>#[u29,u30,u31,u32,u33,u34,u35,u36,u37,u38,u39,u40,u41,u42,u43,u44,u11].getD k undef),rfl,HRx.out.drewN 1,?_,(aE.refl B wr).drewN 1,by simp[hNe],by simp,?_,?_,?_⟩
       ·rw[dW];exact Nat.le_refl _
       ·intro h;rw[fT]at h;cases h
       ·intro k h;rw[fT]at h;cases h
       ·intro h;rw[fT]at h;cases h
      ·intro l a u hI i hi;obtain⟨q,vs,rfl,hR,hq,hBs,hN,hsz,hc,hf,h16⟩:=hI;have hl0:=(mem_ready.1 hi).1
       have hund:=dQ (bH hl0);have hi18:i<18:=by obtain⟨_,o,ho,_⟩:=mem_ready.1 hi;exact(Array.getElem?_eq_some_iff.1 ho).1
       have h17:i≠17→l.getD 17 false=false:=fun hne=>by
        cases hx:l.getD 17 false
        ·rfl
        ·have:=hc hx i (by omega);rw[Array.getD_eq_getD_getElem?,bH hl0]at this;simp at this
       rcases(show i=0∨i=1∨i=2∨i=3∨i=4∨i=5∨i=6∨i=7∨i=8∨i=9∨i=10∨i=11∨i=12∨i=13∨i=14∨i=15∨i=16∨i=17 from by omega)with rfl|rfl|rfl|rfl|rfl|rfl|rfl|rfl|rfl|rfl|rfl|rfl|rfl|rfl|rfl|rfl|rfl|rfl
       ·have h17:=h17 (by decide);refine wpOp_step rfl (fun K hK=>?_);go_simp;refine hK _ _ ?_;exact MJ.step (i:=0) (v:=.pointer (some ⟨B,0,none⟩)) hBN hR (by omega) hBs hN hsz h17 (by decide) hf h16 (aE.refl B u) rfl (fun e=>by cases e) _ rfl
       ·have h17:=h17 (by decide);have e1:vs 0= .pointer (some ⟨B,0,none⟩):=hf 0 (aF hi rfl 0 (by kernel_rfl)) h17
        refine wpOp_step rfl (fun K hK=>?_);go_simp;refine(aT u B q 2 hR (by omega) (by omega) (by omega)).mono ?_;rintro e u' ⟨x,rfl,x0,x1,hk⟩;refine hK _ _ ?_;exact MJ.step (i:=1) (v:=.int .i64 x) hBN (hk.rdr hR) (by omega) hBs hN hsz h17 (by decide) hf h16 hk.beside ⟨x.toNat,by omega,by rw[Int.toNat_of_nonneg x0]⟩ (fun e=>by cases e) _ (by first|(rw[←e1];done)|(rw[←e1];rfl))
       ·have h17:=h17 (by decide);refine wpOp_step rfl (fun K hK=>?_);go_simp;refine hK _ _ ?_;exact MJ.step (i:=2) (v:=.slice (some ⟨u.heap.size,0,none⟩) 3 3) hBN (hR.alloc _) (by omega) hBs hN hsz h17 (by decide) hf h16 (bK B u _) (zS u _ _ _ _ _ hN) (fun e=>by cases e) _ rfl
       ·have h17:=h17 (by decide);refine wpOp_step rfl (fun K hK=>?_);go_simp;refine hK _ _ ?_;exact MJ.step (i:=3) (v:=.pointer (some ⟨B,0,none⟩)) hBN hR (by omega) hBs hN hsz h17 (by decide) hf h16 (aE.refl B u) rfl (fun e=>by cases e) _ rfl
       ·have h17:=h17 (by decide);have e1:vs 3= .pointer (some ⟨B,0,none⟩):=hf 3 (aF hi rfl 3 (by kernel_rfl)) h17
        refine wpOp_step rfl (fun K hK=>?_);go_simp;refine(aT u B q 3 hR (by omega) (by omega) (by omega)).mono ?_;rintro e u' ⟨x,rfl,x0,x1,hk⟩;refine hK _ _ ?_;exact MJ.step (i:=4) (v:=.int .i64 x) hBN (hk.rdr hR) (by omega) hBs hN hsz h17 (by decide) hf h16 hk.beside ⟨x.toNat,by omega,by rw[Int.toNat_of_nonneg x0]⟩ (fun e=>by cases e) _ (by first|(rw[←e1];done)|(rw[←e1];rfl))
       ·have h17:=h17 (by decide);obtain⟨b,e1,hb,hcb⟩:Sl u N 3 (vs 2):=hf 2 (aF hi rfl 2 (by kernel_rfl)) h17;obtain⟨jj,hj,e2⟩:Pk 3 (vs 4):=hf 4 (aF hi rfl 4 (by kernel_rfl)) h17;obtain⟨x,hx⟩:=hcb jj hj;have hji:(jj:Int)<3:=by omega
        clear hcb;refine wpOp_step rfl (fun K hK=>?_);go_simp;refine hK _ _ ?_;exact MJ.step (i:=5) (v:=.pointer (some ⟨b,jj,none⟩)) hBN hR (by omega) hBs hN hsz h17 (by decide) hf h16 (aE.refl B u) ⟨b,jj,x,rfl,hb,hx⟩ (fun e=>by cases e) _ (by first|(rw[←e1,←e2];done)|(rw[←e1,←e2];rfl))
       ·have h17:=h17 (by decide);obtain⟨b,jj,x,e1,hb,hx⟩:Ix u N (vs 5):=hf 5 (aF hi rfl 5 (by kernel_rfl)) h17;refine wpOp_step rfl (fun K hK=>?_);go_simp;refine hK _ _ ?_;exact MJ.step (i:=6) (v:=.int .i64 x) hBN hR (by omega) hBs hN hsz h17 (by decide) hf h16 (aE.refl B u) ⟨x,rfl⟩ (fun e=>by cases e) _ (by first|(rw[←e1];done)|(rw[←e1];rfl))
       ·have h17:=h17 (by decide);refine wpOp_step rfl (fun K hK=>?_);go_simp;refine hK _ _ ?_;exact MJ.step (i:=7) (v:=.pointer (some ⟨B,0,none⟩)) hBN hR (by omega) hBs hN hsz h17 (by decide) hf h16 (aE.refl B u) rfl (fun e=>by cases e) _ rfl
       ·have h17:=h17 (by decide);have e1:vs 7= .pointer (some ⟨B,0,none⟩):=hf 7 (aF hi rfl 7 (by kernel_rfl)) h17
        refine wpOp_step rfl (fun K hK=>?_);go_simp;refine(aT u B q 3 hR (by omega) (by omega) (by omega)).mono ?_;rintro e u' ⟨x,rfl,x0,x1,hk⟩;refine hK _ _ ?_;exact MJ.step (i:=8) (v:=.int .i64 x) hBN (hk.rdr hR) (by omega) hBs hN hsz h17 (by decide) hf h16 hk.beside ⟨x.toNat,by omega,by rw[Int.toNat_of_nonneg x0]⟩ (fun e=>by cases e) _ (by first|(rw[←e1];done)|(rw[←e1];rfl))
       ·have h17:=h17 (by decide);obtain⟨jj,hj,e1⟩:Pk 3 (vs 8):=hf 8 (aF hi rfl 8 (by kernel_rfl)) h17;refine wpOp_step rfl (fun K hK=>?_);go_simp;refine hK _ _ ?_;exact MJ.step (i:=9) (v:=.int .i64 ((jj:Int).tmod 2)) hBN hR (by omega) hBs hN hsz h17 (by decide) hf h16 (aE.refl B u) ⟨_,rfl⟩ (fun e=>by cases e) _ (by first|(rw[←e1];done)|(rw[←e1];rfl))
       ·have h17:=h17 (by decide);refine wpOp_step rfl (fun K hK=>?_);go_simp;refine hK _ _ ?_;exact MJ.step (i:=10) (v:=.slice (some ⟨u.heap.size,0,none⟩) 3 3) hBN (hR.alloc _) (by omega) hBs hN hsz h17 (by decide) hf h16 (bK B u _) (zS u _ _ _ _ _ hN) (fun e=>by cases e) _ rfl
       ·have h17:=h17 (by decide);refine wpOp_step rfl (fun K hK=>?_);go_simp;refine hK _ _ ?_;exact MJ.step (i:=11) (v:=.pointer (some ⟨B,0,none⟩)) hBN hR (by omega) hBs hN hsz h17 (by decide) hf h16 (aE.refl B u) rfl (fun e=>by cases e) _ rfl
       ·have h17:=h17 (by decide);have e1:vs 11= .pointer (some ⟨B,0,none⟩):=hf 11 (aF hi rfl 11 (by kernel_rfl)) h17
        refine wpOp_step rfl (fun K hK=>?_);go_simp;refine(aT u B q 3 hR (by omega) (by omega) (by omega)).mono ?_;rintro e u' ⟨x,rfl,x0,x1,hk⟩;refine hK _ _ ?_;exact MJ.step (i:=12) (v:=.int .i64 x) hBN (hk.rdr hR) (by omega) hBs hN hsz h17 (by decide) hf h16 hk.beside ⟨x.toNat,by omega,by rw[Int.toNat_of_nonneg x0]⟩ (fun e=>by cases e) _ (by first|(rw[←e1];done)|(rw[←e1];rfl))
       ·have h17:=h17 (by decide);obtain⟨b,e1,hb,hcb⟩:Sl u N 3 (vs 10):=hf 10 (aF hi rfl 10 (by kernel_rfl)) h17;obtain⟨jj,hj,e2⟩:Pk 3 (vs 12):=hf 12 (aF hi rfl 12 (by kernel_rfl)) h17;obtain⟨x,hx⟩:=hcb jj hj;have hji:(jj:Int)<3:=by omega
        clear hcb;refine wpOp_step rfl (fun K hK=>?_);go_simp;refine hK _ _ ?_;exact MJ.step (i:=13) (v:=.pointer (some ⟨b,jj,none⟩)) hBN hR (by omega) hBs hN hsz h17 (by decide) hf h16 (aE.refl B u) ⟨b,jj,x,rfl,hb,hx⟩ (fun e=>by cases e) _ (by first|(rw[←e1,←e2];done)|(rw[←e1,←e2];rfl))
       ·have h17:=h17 (by decide);obtain⟨b,jj,x,e1,hb,hx⟩:Ix u N (vs 13):=hf 13 (aF hi rfl 13 (by kernel_rfl)) h17;refine wpOp_step rfl (fun K hK=>?_);go_simp;refine hK _ _ ?_;exact MJ.step (i:=14) (v:=.int .i64 x) hBN hR (by omega) hBs hN hsz h17 (by decide) hf h16 (aE.refl B u) ⟨x,rfl⟩ (fun e=>by cases e) _ (by first|(rw[←e1];done)|(rw[←e1];rfl))
       ·have h17:=h17 (by decide);obtain⟨jj,hj,e0⟩:Pk 2 (vs 1):=hf 1 (aF hi rfl 1 (by kernel_rfl)) h17;obtain⟨x1,e1⟩:Ld (vs 6):=hf 6 (aF hi rfl 6 (by kernel_rfl)) h17;obtain⟨x2,e2⟩:Ld (vs 9):=hf 9 (aF hi rfl 9 (by kernel_rfl)) h17;obtain⟨x3,e3⟩:Ld (vs 14):=hf 14 (aF hi rfl 14 (by kernel_rfl)) h17;refine wpOp_step rfl (fun K hK=>?_);go_simp;refine hK _ _ ?_;exact MJ.step (i:=15) (v:=.agg #[.int .i64 (jj:Int),.int .i64 x1,.int .i64 x2,.int .i64 x3]) hBN hR (by omega) hBs hN hsz h17 (by decide) hf h16 (aE.refl B u) ⟨_,x1,x2,x3,rfl⟩ (fun e=>by cases e) _ (by first|(rw[←e0,←e1,←e2,←e3];done)|(rw[←e0,←e1,←e2,←e3];rfl))
       ·have h17:=h17 (by decide);refine wpOp_step rfl (fun K hK=>?_);go_simp;refine hK _ _ ?_;exact MJ.step (i:=16) (v:=.pointer (some ⟨u.heap.size,0,none⟩)) hBN (hR.alloc _) (by omega) hBs hN hsz h17 (by decide) hf h16 (bK B u _) trivial (fun _=>CE u _ _ _ _ _ _ hN) _ rfl
       ·have h17f:l.getD 17 false=false:=by rw[Array.getD_eq_getD_getElem?,bH hl0];rfl
        have hall:∀k,k<17→l.getD k false=true:=fun k hk=>by
         have h5:k=0∨k=1∨k=2∨k=3∨k=4∨k=5∨k=6∨k=7∨k=8∨k=9∨k=10∨k=11∨k=12∨k=13∨k=14∨k=15∨k=16:=by omega
         rcases h5 with rfl|rfl|rfl|rfl|rfl|rfl|rfl|rfl|rfl|rfl|rfl|rfl|rfl|rfl|rfl|rfl|rfl<;>exact aF hi rfl _ (by kernel_rfl)
        obtain⟨x0,x1,x2,x3,e20⟩:Ag (vs 15):=hf 15 (hall 15 (by omega)) h17f;obtain⟨g,e21,hgN,hgs,hgc,hgf⟩:Al u N (vs 16):=h16 (hall 16 (by omega));obtain⟨y0,c0⟩:=hgc 0 (by omega);obtain⟨y1,c1⟩:=hgc 1 (by omega);obtain⟨y2,c2⟩:=hgc 2 (by omega);obtain⟨y3,c3⟩:=hgc 3 (by omega);have f0:=hgf 0
        have f1:=hgf 1;have f2:=hgf 2
        have f3:=hgf 3;refine wpOp_step rfl (fun K hK=>?_);have hAl:Al ((((u.setCell ⟨g,0,none⟩ (.int .i64 x0)).setCell ⟨g,1,none⟩ (.int .i64 x1)).setCell ⟨g,2,none⟩ (.int .i64 x2)).setCell ⟨g,3,none⟩ (.int .i64 x3)) N (vs 16):=by
         refine⟨g,e21,hgN,by simpa[World.setCell]using hgs,fun i hi=>?_,fun i=>?_⟩
         ·have h5:i=0∨i=1∨i=2∨i=3:=by omega
          rcases h5 with rfl|rfl|rfl|rfl
          ·exact⟨x0,by go_simp⟩
          ·exact⟨x1,by go_simp⟩
          ·exact⟨x2,by go_simp⟩
          ·exact⟨x3,by go_simp⟩
         ·simp only[World.frozen?_setCell];exact hgf i
        have hRn:=(((hR.set (b:=g) (o:=0) (v:=.int .i64 x0) (by omega)).set (b:=g) (o:=1) (v:=.int .i64 x1) (by omega)).set (b:=g) (o:=2) (v:=.int .i64 x2) (by omega)).set (b:=g) (o:=3) (v:=.int .i64 x3) (by omega);have hBn:=(((hBs.set (b:=g) (o:=0) (v:=.int .i64 x0) (by omega)).set (b:=g) (o:=1) (v:=.int .i64 x1) (by omega)).set (b:=g) (o:=2) (v:=.int .i64 x2) (by omega)).set (b:=g) (o:=3) (v:=.int .i64 x3) (by omega)
        clear hgc hgf hf h16;go_simp;refine hK _ _ ?_;refine⟨q,vs,by dsimp only;rw[e20,e21],hRn,by omega,hBn,by simpa[World.setCell]using hN,by simp[hsz],fun _ k hk=>?_,fun k _ hk=>?_,fun _=>hAl⟩
        ·rw[getD_set_ne false (by omega)];exact hall k hk
        ·rw[fJ false (by omega)]at hk;cases hk
      ·intro l a u hI hr;obtain⟨q,vs,rfl,hR,hq,hBs,hN,hsz,hc,hf,h16⟩:=hI;refine⟨rfl,q,vs,rfl,hR,by omega,hBs,h16 ?_⟩;cases hx:l.getD 16 false
       ·exfalso;rw[List.eq_nil_iff_forall_not_mem]at hr;refine hr 16 (mem_ready.2 ⟨?_,_,rfl,?_⟩)
        ·rw[Array.getD_eq_getD_getElem?]at hx⊢;rw[Array.getElem?_eq_getElem (by omega)]at hx⊢;simpa using hx
        ·intro e he;have he2:e∈([]:List _):=Array.mem_def.1 he
         cases he2
       ·rfl
     rintro e a u ⟨rfl,q3,vs,rfl,hR3,hq3,hBs,hal⟩;obtain⟨g,e16,hgN,hg4⟩:=qS hal;rw[e16];have HR4:=aA hR3
     have HB4:=aA hBs;have HG4:=aA hg4
     have hwx:wo.heap.size≤g:=by have:=HX.out.size;omega
     clear hR3 hBs hal hg4 e16;go_wp2_with fail;refine(aT u B q3 4 HR4.out (by omega) (by omega) (by omega)).mono ?_;rintro e w5 ⟨x,rfl,x0,x1,hk⟩;have HR5:=aA (hk.rdr HR4.out)
     have HB5:=aA (HB4.out.trans hk.beside);have HG5:=aA (HG4.out.move hk.beside (by omega))
     clear hk HR4 HB4 HG4;obtain⟨⟨a0,a1,a2,a3,c0,c1,c2,c3⟩,f0,f1,f2,f3⟩:=HG5.out;by_cases hx:x=0
     ·subst hx;have hS6:G4 g a0 a1 2 a3 (w5.setCell ⟨g,2,none⟩ (.int .i64 2)):=⟨by go_simp,by go_simp,by go_simp,by go_simp⟩
      have HR6:=aA (HR5.out.set (b:=g) (o:=2) (v:=.int .i64 2) (by omega));have HBx6:=aA (HB5.out.set (b:=g) (o:=2) (v:=.int .i64 2) (by omega))
      go_wp2_with fail;clear c0 c1 c2 c3 f0 f1 f2 f3 HG5;generalize(w5.setCell ⟨g,2,none⟩ (.int .i64 2))=w6 at *;have hSd:G4 g a0 a1 2 a3 w6.drew:=hS6
      have HRd:Hid (fV w6.drew B (q3+1)):=HR6.out.drewN 1;have HBd:Hid (aE B wr w6.drew):=HBx6.out.drewN 1
      have hgB:g≠B:=by omega
      go_region_held3 (fun u=>u.cell? ⟨g,0,none⟩=some (.int .i64 a0)∧u.cell? ⟨g,1,none⟩=some (.int .i64 a1)∧u.cell? ⟨g,2,none⟩=some (.int .i64 2)∧u.cell? ⟨g,3,none⟩=some (.int .i64 a3)) (first|with_reducible exact hSd|with_reducible exact G4.beside hSd hk.beside hgB|with_reducible exact G4.below (G4.beside hSd hk.beside hgB) hb8) (first|(go_at_call 48;(with_reducible refine(aT _ B _ 100 HRd.out (by omega) (by omega) (by omega)).mono ?_);rintro e w7 ⟨c,rfl,c0,c1,hk⟩;have hb7:aE B wr w7:=(HBd.out.trans hk.beside);have ho7:=aV HOx.out hb7 (by omega);have hs7:wo.heap.size≤w7.heap.size:=(HX.out.trans hb7).size;have hw1:IntKind.i64.wrap (1+c)=1+c:=(by rw[IntKind.wrap_i64];omega))|(go_at_call 79;(with_reducible refine(sO w7 wo.heap.size u9 L (1+c) a0 a1 2 a3 ho7 hs7 (by omega) hc2.out (by omega) (by omega)).mono ?_);rintro e w8 ⟨v8,rfl,hb8,ho8⟩))
      have HR8:=aA ((hk.rdr HRd.out).beside (cB hb8));have HB8:=aA (HX.out.trans (hb7.trans (cB hb8)))
      have HO8:=aA ho8;have HC8:=aA (xT (c:=1+c) (m:=⟨a0,a1,2,a3⟩) hc2.out (by omega) (by omega))
      have hl8:=mY (1+c) ⟨a0,a1,2,a3⟩ L;clear hk hb8 ho8 hSd hb7 ho7;go_wp2;go_roundw;case rel=>exact⟨j2-1,fQ (1+c) ⟨a0,a1,2,a3⟩ L,_,by first|go_num|(congr 1;omega),HO8.out,by omega,HC8.out,by omega,HR8.out,HB8.out⟩
      case measure=>simp[intOf];omega
     ·have hxb:(x==0)=false:=by simp[hx]
      have hS6:G4 g a0 a1 a2 a3 w5:=⟨c0,c1,c2,c3⟩
      have HR6:=HR5;have HBx6:=HB5
      clear c0 c1 c2 c3 f0 f1 f2 f3 HG5 hx;go_wp2_with fail;generalize w5=w6 at *;have hSd:G4 g a0 a1 a2 a3 w6.drew:=hS6
      have HRd:Hid (fV w6.drew B (q3+1)):=HR6.out.drewN 1;have HBd:Hid (aE B wr w6.drew):=HBx6.out.drewN 1
      have hgB:g≠B:=by omega
      go_region_held3 (fun u=>u.cell? ⟨g,0,none⟩=some (.int .i64 a0)∧u.cell? ⟨g,1,none⟩=some (.int .i64 a1)∧u.cell? ⟨g,2,none⟩=some (.int .i64 a2)∧u.cell? ⟨g,3,none⟩=some (.int .i64 a3)) (first|with_reducible exact hSd|with_reducible exact G4.beside hSd hk.beside hgB|with_reducible exact G4.below (G4.beside hSd hk.beside hgB) hb8) (first|(go_at_call 48;(with_reducible refine(aT _ B _ 100 HRd.out (by omega) (by omega) (by omega)).mono ?_);rintro e w7 ⟨c,rfl,c0,c1,hk⟩;have hb7:aE B wr w7:=(HBd.out.trans hk.beside);have ho7:=aV HOx.out hb7 (by omega);have hs7:wo.heap.size≤w7.heap.size:=(HX.out.trans hb7).size;have hw1:IntKind.i64.wrap (1+c)=1+c:=(by rw[IntKind.wrap_i64];omega))|(go_at_call 79;(with_reducible refine(sO w7 wo.heap.size u9 L (1+c) a0 a1 a2 a3 ho7 hs7 (by omega) hc2.out (by omega) (by omega)).mono ?_);rintro e w8 ⟨v8,rfl,hb8,ho8⟩))
      have HR8:=aA ((hk.rdr HRd.out).beside (cB hb8));have HB8:=aA (HX.out.trans (hb7.trans (cB hb8)))
      have HO8:=aA ho8;have HC8:=aA (xT (c:=1+c) (m:=⟨a0,a1,a2,a3⟩) hc2.out (by omega) (by omega))
      have hl8:=mY (1+c) ⟨a0,a1,a2,a3⟩ L;clear hk hb8 ho8 hSd hb7 ho7;go_wp2;go_roundw;case rel=>exact⟨j2-1,fQ (1+c) ⟨a0,a1,a2,a3⟩ L,_,by first|go_num|(congr 1;omega),HO8.out,by omega,HC8.out,by omega,HR8.out,HB8.out⟩
      case measure=>simp[intOf];omega
    ·obtain rfl:j2=0:=by omega
     have hnj:¬(0:Int)<((0:Nat):Int):=by omega
     obtain⟨pa,pcap,hv9,hout⟩:=aI HOx.out (by omega);subst hv9;have hOw:=aV HO.out HX.out hB
     have hEw:∀e∈LS,El wr w.heap.size u7.ownBlock e:=fun e he=>(HE.out e he).beside HX.out hB;have hElt:∀kk,u7.ownBlock=some kk→kk<wo.heap.size:=fun kk hkk=>(HO.out.lt kk hkk).2
     have hBw:=HB.out.trans HX.out;have hwx:wo.heap.size≤wr.heap.size:=HX.out.size
     by_cases hL:0<L.length
     ·have hLb:(0:Int)<(L.length:Int):=by omega
      have hP:El wr w.heap.size u7.ownBlock (.slice pa L.length pcap):=⟨pa,L.length,pcap,lf L,rfl,hout.1,by omega,hout.2.2.imp id fun⟨b,off,e,hlo⟩=>⟨b,off,e,by omega,fun ee=>by have:=hElt b ee.symm;omega⟩⟩
      have hnew:=heap_alloc_new wr (.cells #[.slice pa L.length pcap] 29);have HN:=aA hnew
      have hO5:=hOw.alloc (.cells #[.slice pa L.length pcap] 29);have HE5:Hid (∀e∈LS++[.slice pa L.length pcap],El (wr.alloc (.cells #[.slice pa L.length pcap] 29)) w.heap.size u7.ownBlock e):=fun e he=>by
       rcases List.mem_append.1 he with h|h
       ·exact(hEw e h).below (aC _ _)
       ·have:e= .slice pa L.length pcap:=by simpa using h
        subst this;exact hP.below (aC _ _)
      have HR5:=aA (HRx.out.alloc (.cells #[.slice pa L.length pcap] 29));have HB5:=aA (hBw.alloc (.cells #[.slice pa L.length pcap] 29))
      have HLt:Hid (∀kk,u7.ownBlock=some kk→w.heap.size≤kk):=fun kk hkk=>(HO.out.lt kk hkk).1;have hnews:∀jj u,[Value.slice pa L.length pcap][jj]? =some u→(wr.alloc (.cells #[.slice pa L.length pcap] 29)).cell? ((⟨wr.heap.size,0,none⟩:Addr).add jj)=some u:=World.news_of_block HN.out
      have hone:∀u∈[Value.slice pa L.length pcap],u.oneCell'=true:=fun u hu=>by
       have:u= .slice pa L.length pcap:=by simpa using hu
       subst this;rfl
      have hbase:w.heap.size≤(wr.alloc (.cells #[.slice pa L.length pcap] 29)).heap.size:=by simp;omega
      have hmax:LS.length+1≤maxLen:=by unfold maxLen;omega
      clear hP hEw hElt hnew hOw hout;go_wp2_with (at_builtin;refine wpList_append_lies _ rfl (.tmp 58) (.tmp 60) 23 rfl w.heap.size 29 tI _ 1 24 Try.underlying23 hi0 hz0 hz1 hz2 rfl (by omega) _ LS.length LS rfl hO5 ⟨wr.heap.size,0,none⟩ 1 1 [.slice pa L.length pcap] rfl rfl hnews hone (by omega) hmax (by omega) hbase _ rfl ?_;intro g0 cap0 w5 hown1 hgrow hat hlt1);have HO6:=aA hown1
      have HR6:=aA (HR5.out.grown hgrow (fun kk hkk=>by have:=HLt.out kk hkk;omega));have HB6:=aA (HB5.out.grown hgrow HLt.out)
      have HE6:Hid (∀e∈LS++[.slice pa L.length pcap],El w5 w.heap.size (some g0) e):=fun e he=>(HE5.out e he).grown hgrow hat (Nat.le_refl _);go_roundw;case rel=>exact⟨j-1,LS++[.slice pa L.length pcap],q2,by first|go_num|(congr 1;omega),by simp;omega,by rw[List.length_append];exact HO6.out,HE6.out,by omega,HR6.out,HB6.out⟩
      case measure=>simp[intOf];omega
     ·have hLb:¬(0:Int)<(L.length:Int):=by omega
      have HOw:=aA hOw;have HEw:=aA hEw
      have HBw:=aA hBw;clear hOw hEw hBw hElt hout;go_wp2;go_roundw;case rel=>exact⟨j-1,LS,q2,by first|go_num|(congr 1;omega),by omega,HOw.out,HEw.out,by omega,HRx.out,HBw.out⟩
      case measure=>simp[intOf];omega
  ·obtain rfl:j=0:=by omega
   have hnj:¬(0:Int)<((0:Nat):Int):=by omega
   have HO:=aA ho;have HE:=aA hE
   have HR:=aA hR;have HB:=aA hb
   have hwo:w.heap.size≤wr.heap.size:=hb.size;clear ho hE hR hb;go_wp2_with fail;refine(aT wr B q n HR.out (by omega) (by omega) (by omega)).mono ?_;rintro e w5 ⟨x,rfl,x0,x1,hk⟩;have HR5:=aA (hk.rdr HR.out)
   have HB5:=aA (HB.out.trans hk.beside);have HO5:=aA (aV HO.out hk.beside hB)
   have HE5:Hid (∀e∈LS,El w5 w.heap.size u7.ownBlock e):=fun e he=>(HE.out e he).beside hk.beside hB;have hw5:w.heap.size≤w5.heap.size:=HB5.out.size
   clear hk HO HE HR HB;by_cases hx:x=0
   ·subst hx;go_wp2_with fail;refine(GG w5 B _ 1 HR5.out (by omega) (by omega) (by omega)).mono ?_;rintro e w6 ⟨pa,m,pcap,fa,q6,rfl,hrd,hm5,hblk,hq6,hR6,hb6⟩;have hOw:=aV HO5.out hb6 hB
    have hElt:∀kk,u7.ownBlock=some kk→kk<w5.heap.size:=fun kk hkk=>(HO5.out.lt kk hkk).2;have hP:El w6 w.heap.size u7.ownBlock (.slice pa m pcap):=⟨pa,m,pcap,fa,rfl,hrd,hm5,hblk.imp id fun⟨b,off,e,hlo⟩=>⟨b,off,e,by omega,fun ee=>by have:=hElt b ee.symm;omega⟩⟩
    have hnew:=heap_alloc_new w6 (.cells #[.slice pa m pcap] 29);have hO7:=hOw.alloc (.cells #[.slice pa m pcap] 29)
    have HE7:Hid (∀e∈LS++[.slice pa m pcap],El (w6.alloc (.cells #[.slice pa m pcap] 29)) w.heap.size u7.ownBlock e):=fun e he=>by
     rcases List.mem_append.1 he with h|h
     ·exact((HE5.out e h).beside hb6 hB).below (aC _ _)
     ·have:e= .slice pa m pcap:=by simpa using h
      subst this;exact hP.below (aC _ _)
    have HR7:=aA (hR6.alloc (.cells #[.slice pa m pcap] 29));have HB7:=aA ((HB5.out.trans hb6).alloc (.cells #[.slice pa m pcap] 29))
    have HLt:Hid (∀kk,u7.ownBlock=some kk→w.heap.size≤kk):=fun kk hkk=>(HO5.out.lt kk hkk).1;have hnews:∀jj u,[Value.slice pa m pcap][jj]? =some u→(w6.alloc (.cells #[.slice pa m pcap] 29)).cell? ((⟨w6.heap.size,0,none⟩:Addr).add jj)=some u:=World.news_of_block hnew
    have hone:∀u∈[Value.slice pa m pcap],u.oneCell'=true:=fun u hu=>by
     have:u= .slice pa m pcap:=by simpa using hu
     subst this;rfl
    have hbase:w.heap.size≤(w6.alloc (.cells #[.slice pa m pcap] 29)).heap.size:=by have:=hb6.size;simp;omega
    have hmax:LS.length+1≤maxLen:=by unfold maxLen;omega
    clear hP hElt hnew hOw hrd hblk hR6 hb6;go_wp2_with (at_builtin;refine wpList_append_lies _ rfl (.tmp 66) (.tmp 69) 23 rfl w.heap.size 29 tI _ 1 24 Try.underlying23 hi0 hz0 hz1 hz2 rfl (by omega) _ LS.length LS rfl hO7 ⟨w6.heap.size,0,none⟩ 1 1 [.slice pa m pcap] rfl rfl hnews hone (by omega) hmax (by omega) hbase _ rfl ?_;intro g0 cap0 w7 hown1 hgrow hat hlt1);have HO8:=aA hown1
    have HR8:=aA (HR7.out.grown hgrow (fun kk hkk=>by have:=HLt.out kk hkk;omega));have HB8:=aA (HB7.out.grown hgrow HLt.out)
    have HE8:Hid (∀e∈LS++[.slice pa m pcap],El w7 w.heap.size (some g0) e):=fun e he=>(HE7.out e he).grown hgrow hat (Nat.le_refl _);clear hown1 hgrow hat hlt1;go_ret;exact⟨_,LS++[.slice pa m pcap],q6,rfl,by rw[List.length_append];exact HO8.out,by simp;omega,HE8.out,by omega,HR8.out,HB8.out⟩
   ·have hxb:(x==0)=false:=by simp[hx]
    go_wp2;go_ret;exact⟨_,LS,q+1,rfl,HO5.out,by omega,HE5.out,by omega,HR5.out,HB5.out⟩
end Go.Proofs.Ytbkighpmkadmmaa
namespace Go.Proofs.Ytbkighpmkadmmaa
open Go.RowKit
set_option linter.unusedVariables false
def cX:Nat→Nat→Nat
 |0,c=>2*c
 |a+1,c=>2*cX a c+1
def BS (n:Nat):Nat×Nat:=if h:n%2=0 then(0,n / 2)else((BS (n / 2)).1+1,(BS (n / 2)).2)
termination_by n
decreasing_by all_goals omega
theorem qK:∀a c,BS (cX a c)=(a,c)
 |0,c=>by unfold BS cX;rw[dif_pos (by omega),show 2*c / 2=c by omega]
 |a+1,c=>by have ih:=qK a c;unfold BS cX;rw[dif_neg (by omega),show(2*cX a c+1) / 2=cX a c by omega,ih]
theorem MK (n:Nat):cX (BS n).1 (BS n).2=n:=by
 induction n using Nat.strongRecOn with
 |ind n ih=>
  unfold BS;by_cases h:n%2=0
  ·rw[dif_pos h];show 2*(n / 2)=n;omega
  ·rw[dif_neg h];have:=ih (n / 2) (by omega)
   show 2*cX (BS (n / 2)).1 (BS (n / 2)).2+1=n;rw[this];omega
def fD (n:Nat):Nat:=(BS n).1
def jQ (n:Nat):Nat:=(BS n).2
theorem qZ (a c:Nat):fD (cX a c)=a:=by unfold fD;rw[qK]
theorem rO (a c:Nat):jQ (cX a c)=c:=by unfold jQ;rw[qK]
theorem zK (n:Nat):cX (fD n) (jQ n)=n:=MK n
def rX:Lq:=⟨fun u n k=>u (cX (fD n+1) (jQ n)) k,fun _ _=>rfl,fun _ _=>rfl⟩
def rY:Lq:=⟨fun u n k=>u n (cX (fD k+1) (jQ k)),fun _ _=>rfl,fun _ _=>rfl⟩
def rD:Lq:=⟨fun u n k=>u (cX (fD n) (jQ n+1)) k+nf (fD n)*u (cX (fD n-1) (jQ n)) k,fun u v=>by funext n k;simp only[va];grind,fun c u=>by funext n k;simp only[vs];grind⟩
def rE:Lq:=⟨fun u n k=>u n (cX (fD k) (jQ k+1))+nf (fD k)*u n (cX (fD k-1) (jQ k)),fun u v=>by funext n k;simp only[va];grind,fun c u=>by funext n k;simp only[vs];grind⟩
def aN:nE where
 x:=rX
 y:=rY
 d:=rD
 e:=rE
 wx:=Lq.ext fun u n k=>by
  show u (cX (fD (cX (fD n+1) (jQ n))) (jQ (cX (fD n+1) (jQ n))+1)) k+nf (fD (cX (fD n+1) (jQ n)))*u (cX (fD (cX (fD n+1) (jQ n))-1) (jQ (cX (fD n+1) (jQ n)))) k=u (cX (fD (cX (fD n) (jQ n+1))+1) (jQ (cX (fD n) (jQ n+1)))) k+nf (fD n)*u (cX (fD (cX (fD n-1) (jQ n))+1) (jQ (cX (fD n-1) (jQ n)))) k+u n k;simp only[qZ,rO];rw[show fD n+1-1=fD n by omega,zK,nS,jN];cases h:fD n with
  |zero=>rw[eE];grind
  |succ m=>rw[show m+1-1+1=m+1 by omega,←h,zK];grind
 wy:=Lq.ext fun u n k=>by
  show u n (cX (fD (cX (fD k+1) (jQ k))) (jQ (cX (fD k+1) (jQ k))+1))+nf (fD (cX (fD k+1) (jQ k)))*u n (cX (fD (cX (fD k+1) (jQ k))-1) (jQ (cX (fD k+1) (jQ k))))=u n (cX (fD (cX (fD k) (jQ k+1))+1) (jQ (cX (fD k) (jQ k+1))))+nf (fD k)*u n (cX (fD (cX (fD k-1) (jQ k))+1) (jQ (cX (fD k-1) (jQ k))))+u n k;simp only[qZ,rO];rw[show fD k+1-1=fD k by omega,zK,nS,jN];cases h:fD k with
  |zero=>rw[eE];grind
  |succ m=>rw[show m+1-1+1=m+1 by omega,←h,zK];grind
 xy:=rfl
 xe:=rfl
 dy:=rfl
 de:=Lq.ext fun u n k=>by
  show(_+nf _*_)+nf (fD k)*(_+nf _*_)=(_+nf _*_)+nf (fD n)*(_+nf _*_)
  grind
theorem EE (u:Vq) (c k:Nat):∀j i,(Lq.pow rX j).f u (cX i c) k=u (cX (i+j) c) k
 |0,i=>rfl
 |j+1,i=>by
  rw[Lq.pow_succ'];show(Lq.pow rX j).f (rX.f u) (cX i c) k=_
  rw[EE (rX.f u) c k j i];show u (cX (fD (cX (i+j) c)+1) (jQ (cX (i+j) c))) k=_
  rw[qZ,rO];rfl
theorem EF (u:Vq) (n c:Nat):∀j i,(Lq.pow rY j).f u n (cX i c)=u n (cX (i+j) c)
 |0,i=>rfl
 |j+1,i=>by
  rw[Lq.pow_succ'];show(Lq.pow rY j).f (rY.f u) n (cX i c)=_
  rw[EF (rY.f u) n c j i];show u n (cX (fD (cX (i+j) c)+1) (jQ (cX (i+j) c)))=_
  rw[qZ,rO];rfl
theorem EC (u:Vq) (k:Nat):∀j i,(Lq.pow rD j).f u (cX 0 i) k=u (cX 0 (i+j)) k
 |0,i=>rfl
 |j+1,i=>by
  rw[Lq.pow_succ'];show(Lq.pow rD j).f (rD.f u) (cX 0 i) k=_
  rw[EC (rD.f u) k j i];show u (cX (fD (cX 0 (i+j))) (jQ (cX 0 (i+j))+1)) k+nf (fD (cX 0 (i+j)))*_=_
  rw[qZ,rO,eE];show u (cX 0 (i+(j+1))) k+0*_=_
  grind
theorem ED (u:Vq) (n:Nat):∀j i,(Lq.pow rE j).f u n (cX 0 i)=u n (cX 0 (i+j))
 |0,i=>rfl
 |j+1,i=>by
  rw[Lq.pow_succ'];show(Lq.pow rE j).f (rE.f u) n (cX 0 i)=_
  rw[ED (rE.f u) n j i];show u n (cX (fD (cX 0 (i+j))) (jQ (cX 0 (i+j))+1))+nf (fD (cX 0 (i+j)))*_=_
  rw[qZ,rO,eE];show u n (cX 0 (i+(j+1)))+0*_=_
  grind
theorem KR (m:M) (u:Vq):(mo aN m).f u 0 0=u (cX m.x.toNat m.d.toNat) (cX m.y.toNat m.e.toNat):=by
 have e0:(0:Nat)=cX 0 0:=rfl;show(Lq.pow rE m.e.toNat).f ((Lq.pow rD m.d.toNat).f ((Lq.pow rY m.y.toNat).f ((Lq.pow rX m.x.toNat).f u))) 0 0=_
 rw[show(Lq.pow rE m.e.toNat).f ((Lq.pow rD m.d.toNat).f ((Lq.pow rY m.y.toNat).f ((Lq.pow rX m.x.toNat).f u))) 0 0=(Lq.pow rE m.e.toNat).f ((Lq.pow rD m.d.toNat).f ((Lq.pow rY m.y.toNat).f ((Lq.pow rX m.x.toNat).f u))) 0 (cX 0 0)from rfl,ED];rw[show(Lq.pow rD m.d.toNat).f ((Lq.pow rY m.y.toNat).f ((Lq.pow rX m.x.toNat).f u)) 0 (cX 0 (0+m.e.toNat))=(Lq.pow rD m.d.toNat).f ((Lq.pow rY m.y.toNat).f ((Lq.pow rX m.x.toNat).f u)) (cX 0 0) (cX 0 (0+m.e.toNat))from rfl,EC,EF,EE];simp only[Nat.zero_add]
def M.nn (m:M):Prop:=0≤m.x∧0≤m.y∧0≤m.d∧0≤m.e
theorem rZ {m:M} (h:m.ok=true):m.nn:=by obtain⟨x1,x2,y1,y2,d1,d2,e1,e2⟩:=M.ok_iff.1 h;exact⟨x1,y1,d1,e1⟩
theorem pI {a b:M} (ha:a.nn) (hb:b.nn):(a.sum b).nn:=by obtain⟨a1,a2,a3,a4⟩:=ha;obtain⟨b1,b2,b3,b4⟩:=hb;exact⟨Int.add_nonneg a1 b1,Int.add_nonneg a2 b2,Int.add_nonneg a3 b3,Int.add_nonneg a4 b4⟩
def NJ (m:M):Vq:=fun n k=>if n=cX m.x.toNat m.d.toNat∧k=cX m.y.toNat m.e.toNat then 1 else 0
def AJ (A:Lq) (m:M):Fq:=A.f (NJ m) 0 0
theorem JO {a m:M} (ha:a.nn) (hm:m.nn):AJ (mo aN a) m=dl m a:=by
 unfold AJ dl;rw[KR];unfold NJ;by_cases e:a=m
 ·rw[if_pos (bY.2 e.symm),if_pos (by rw[e];exact⟨rfl,rfl⟩)]
 ·rw[if_neg (fun h=>e (bY.1 h).symm),if_neg];rintro⟨h1,h2⟩;have i1:=qK a.x.toNat a.d.toNat
  rw[h1,qK]at i1;have i2:=qK a.y.toNat a.e.toNat
  rw[h2,qK]at i2;simp only[Prod.mk.injEq]at i1 i2;obtain⟨a1,a2,a3,a4⟩:=ha;obtain⟨b1,b2,b3,b4⟩:=hm;refine e ?_;have j1:a.x=m.x:=by omega
  have j2:a.y=m.y:=by omega
  have j3:a.d=m.d:=by omega
  have j4:a.e=m.e:=by omega
  cases a;cases m;simp only at j1 j2 j3 j4;rw[j1,j2,j3,j4]
theorem wS (A B:Lq) (m:M):AJ (Lq.sum A B) m=AJ A m+AJ B m:=rfl
theorem JP (c:Fq) (A:Lq) (m:M):AJ (Lq.sc c A) m=c*AJ A m:=rfl
theorem CH (m:M):AJ Lq.nil m=0:=rfl
def kf (o:Int) (a:M):Int:=if o=1 then a.x+a.y+a.d+a.e else if o=3 then a.d+a.x else 0
def kF (o:Int) (a b:M):Prop:=kf o a<kf o b∨(kf o a=kf o b∧(a.d<b.d∨(a.d=b.d∧(a.e<b.e∨(a.e=b.e∧(a.x<b.x∨(a.x=b.x∧a.y<b.y)))))))
theorem MT (a:M):kf 1 a=a.x+a.y+a.d+a.e:=if_pos rfl
theorem MU (a:M):kf 2 a=0:=(if_neg (by decide)).trans (if_neg (by decide))
theorem MV (a:M):kf 3 a=a.d+a.x:=(if_neg (by decide)).trans (if_pos rfl)
theorem ML (a:M):gI 1 a=fW a:=if_pos rfl
theorem MM (a:M):gI 2 a=eI a:=(if_neg (by decide)).trans (if_neg (by decide))
theorem MN (a:M):gI 3 a=uB a:=(if_neg (by decide)).trans (if_pos rfl)
theorem sN (o:Int) (a b:M):kf o (a.sum b)=kf o a+kf o b:=by
 unfold kf M.sum;split
 ·simp only;omega
 ·split
  ·simp only;omega
  ·rfl
theorem kT {o:Int} {a b c:M} (h1:kF o a b) (h2:kF o b c):kF o a c:=by unfold kF at *;generalize kf o a=p at *;generalize kf o b=q at *;generalize kf o c=r at *;omega
theorem yU {o:Int} {a:M} (h:kF o a a):False:=by unfold kF at h;omega
theorem jY {a b:M} (h1:a.x=b.x) (h2:a.y=b.y) (h3:a.d=b.d) (h4:a.e=b.e):a=b:=by cases a;cases b;simp only at h1 h2 h3 h4;rw[h1,h2,h3,h4]
theorem GR (o:Int) (a b:M):kF o a b∨a=b∨kF o b a:=by
 by_cases e:a.x=b.x∧a.y=b.y∧a.d=b.d∧a.e=b.e
 ·exact .inr (.inl (jY e.1 e.2.1 e.2.2.1 e.2.2.2))
 ·unfold kF;generalize kf o a=p;generalize kf o b=q;omega
theorem yT {o:Int} {a b:M} (c:M) (h:kF o a b):kF o (a.sum c) (b.sum c):=by unfold kF at *;rw[sN,sN];unfold M.sum;simp only;generalize kf o a=p at *;generalize kf o b=q at *;omega
theorem vC {o:Int} {a b:M} (c:M) (h:kF o a b):kF o (c.sum a) (c.sum b):=by unfold kF at *;rw[sN,sN];unfold M.sum;simp only;generalize kf o a=p at *;generalize kf o b=q at *;omega
theorem GQ {o:Int} (ho:1≤o∧o≤3) (a b:M) {i k:Int} (hi:0≤i) (hk:0≤k) (h:0<i+k):kF o ⟨a.x+b.x-i,a.y+b.y-k,a.d+b.d-i,a.e+b.e-k⟩ (a.sum b):=by
 have h3:o=1∨o=2∨o=3:=by omega
 unfold kF;rcases h3 with rfl|rfl|rfl
 ·rw[MT,MT];unfold M.sum;simp only;omega
 ·rw[MU,MU];unfold M.sum;simp only;by_cases hi0:i=0
  ·exact .inr ⟨trivial,.inr ⟨by omega,.inl (by omega)⟩⟩
  ·exact .inr ⟨trivial,.inl (by omega)⟩
 ·rw[MV,MV];unfold M.sum;simp only;by_cases hi0:i=0
  ·exact .inr ⟨by omega,.inr ⟨by omega,.inl (by omega)⟩⟩
  ·exact .inl (by omega)
theorem tG {o:Int} (ho:1≤o∧o≤3) {a b:M} (ha:a.ok=true) (hb:b.ok=true) (h:gI o a<gI o b):kF o a b:=by
 obtain⟨x1,x2,y1,y2,d1,d2,e1,e2⟩:=M.ok_iff.1 ha;obtain⟨x3,x4,y3,y4,d3,d4,e3,e4⟩:=M.ok_iff.1 hb;have h3:o=1∨o=2∨o=3:=by omega
 unfold kF;rcases h3 with rfl|rfl|rfl
 ·rw[ML,ML]at h;rw[MT,MT];unfold fW eI at h;omega
 ·rw[MM,MM]at h;rw[MU,MU];unfold eI at h;omega
 ·rw[MN,MN]at h;rw[MV,MV];unfold uB eI at h;omega
def IG (a b:M) (i k:Nat):M:=⟨a.x+b.x-(i:Int),a.y+b.y-(k:Int),a.d+b.d-(i:Int),a.e+b.e-(k:Int)⟩
theorem DH (a b:M):IG a b 0 0=a.sum b:=by unfold IG M.sum;simp
theorem II (g:nE) (a b:M) (ha:a.nn) (hb:b.nn):Lq.mul (mo g a) (mo g b)=Lq.sumN (fun i=>Lq.sumN (fun k=>Lq.sc (nf (wN a.d.toNat b.x.toNat i)*nf (wN a.e.toNat b.y.toNat k)) (mo g (IG a b i k))) (min a.e.toNat b.y.toNat+1)) (min a.d.toNat b.x.toNat+1):=by
 obtain⟨ax0,ay0,ad0,ae0⟩:=ha;obtain⟨bx0,by0,bd0,be0⟩:=hb;have e1:Lq.mul (mo g a) (mo g b)=Lq.mul (Lq.mul (Lq.pow g.x a.x.toNat) (Lq.pow g.y a.y.toNat)) (Lq.mul (Lq.mul (Lq.pow g.d a.d.toNat) (Lq.pow g.x b.x.toNat)) (Lq.mul (Lq.mul (Lq.pow g.e a.e.toNat) (Lq.pow g.y b.y.toNat)) (Lq.mul (Lq.pow g.d b.d.toNat) (Lq.pow g.e b.e.toNat)))):=by
  have h:=g.xe.symm.pows a.e.toNat b.x.toNat
  calc _=Lq.mul (Lq.mul (Lq.pow g.x a.x.toNat) (Lq.pow g.y a.y.toNat)) (Lq.mul (Lq.pow g.d a.d.toNat) (Lq.mul (Lq.mul (Lq.pow g.e a.e.toNat) (Lq.pow g.x b.x.toNat)) (Lq.mul (Lq.pow g.y b.y.toNat) (Lq.mul (Lq.pow g.d b.d.toNat) (Lq.pow g.e b.e.toNat))))):=rfl
   _=Lq.mul (Lq.mul (Lq.pow g.x a.x.toNat) (Lq.pow g.y a.y.toNat)) (Lq.mul (Lq.pow g.d a.d.toNat) (Lq.mul (Lq.mul (Lq.pow g.x b.x.toNat) (Lq.pow g.e a.e.toNat)) (Lq.mul (Lq.pow g.y b.y.toNat) (Lq.mul (Lq.pow g.d b.d.toNat) (Lq.pow g.e b.e.toNat))))):=by rw[h]
   _=_:=rfl
 rw[e1,lB g.wx,lB g.wy,fH,Lq.mul_sumN];refine Lq.sumN_congr (fun i hi=>?_);rw[Lq.sc_mul,Lq.mul_sc,fH,Lq.mul_sumN,Lq.mul_sumN,eZ];refine Lq.sumN_congr (fun k hk=>?_);rw[Lq.sc_mul,Lq.mul_sc,Lq.mul_sc,Lq.sc_sc,zQ (g.xy.symm.pows _ _) (g.dy.pows _ _) (g.de.symm.pows _ _),←Lq.pow_add,←Lq.pow_add,←Lq.pow_add,←Lq.pow_add];unfold mo IG;simp only;rw[show a.x.toNat+(b.x.toNat-i)=(a.x+b.x-(i:Int)).toNat by omega,show a.y.toNat+(b.y.toNat-k)=(a.y+b.y-(k:Int)).toNat by omega,show a.d.toNat-i+b.d.toNat=(a.d+b.d-(i:Int)).toNat by omega,show a.e.toNat-k+b.e.toNat=(a.e+b.e-(k:Int)).toNat by omega]
theorem zZ (b c:Nat):wN b c 0=1:=by unfold wN;rw[pM];rfl
inductive Lw (g:nE) (o:Int) (μ:M):Lq→Prop
 |nil:Lw g o μ Lq.nil
 |cons {A:Lq} (c:Fq) (m:M):m.nn→kF o m μ→Lw g o μ A→Lw g o μ (Lq.sum (Lq.sc c (mo g m)) A)
theorem Lw.sum {g:nE} {o:Int} {μ:M} {A B:Lq} (h:Lw g o μ A) (h':Lw g o μ B):Lw g o μ (Lq.sum A B):=by
 induction h with
 |nil=>rw[Lq.sum_comm,Lq.sum_nil];exact h'
 |cons c m h1 h2 h3 ih=>rw[Lq.sum_assoc];exact Lw.cons c m h1 h2 ih
theorem Lw.one {g:nE} {o:Int} {μ:M} (c:Fq) {m:M} (h1:m.nn) (h2:kF o m μ):Lw g o μ (Lq.sc c (mo g m)):=by
 have:=Lw.cons (g:=g) c m h1 h2 Lw.nil
 rwa[Lq.sum_nil]at this
theorem Lw.sumN {g:nE} {o:Int} {μ:M} {f:Nat→Lq}:∀n,(∀i,i<n→Lw g o μ (f i))→Lw g o μ (Lq.sumN f n)
 |0,_=>Lw.nil
 |n+1,h=>by rw[Lq.sumN];exact(Lw.sumN n (fun i hi=>h i (by omega))).sum (h n (by omega))
theorem sU (g:nE) {o:Int} (ho:1≤o∧o≤3) {a b:M} (ha:a.nn) (hb:b.nn):∃A,Lw g o (a.sum b) A∧Lq.mul (mo g a) (mo g b)=Lq.sum (mo g (a.sum b)) A:=by
 have hnn:∀i k:Nat,i<min a.d.toNat b.x.toNat+1→k<min a.e.toNat b.y.toNat+1→(IG a b i k).nn:=fun i k hi hk=>by obtain⟨ax0,ay0,ad0,ae0⟩:=ha;obtain⟨bx0,by0,bd0,be0⟩:=hb;refine⟨?_,?_,?_,?_⟩<;>(unfold IG;simp only;omega)
 have hlt:∀i k:Nat,0<i+k→kF o (IG a b i k) (a.sum b):=fun i k h=>GQ ho a b (by omega) (by omega) (by omega);rw[II g a b ha hb,Lq.sumN_head,Lq.sumN_head];refine⟨Lq.sum (Lq.sumN (fun i=>Lq.sc (nf (wN a.d.toNat b.x.toNat 0)*nf (wN a.e.toNat b.y.toNat (i+1))) (mo g (IG a b 0 (i+1)))) (min a.e.toNat b.y.toNat)) (Lq.sumN (fun i=>Lq.sumN (fun k=>Lq.sc (nf (wN a.d.toNat b.x.toNat (i+1))*nf (wN a.e.toNat b.y.toNat k)) (mo g (IG a b (i+1) k))) (min a.e.toNat b.y.toNat+1)) (min a.d.toNat b.x.toNat)),?_,?_⟩
 ·refine Lw.sum (Lw.sumN _ (fun i hi=>Lw.one _ (hnn _ _ (by omega) (by omega)) (hlt _ _ (by omega)))) (Lw.sumN _ (fun i hi=>Lw.sumN _ (fun k hk=>Lw.one _ (hnn _ _ (by omega) (by omega)) (hlt _ _ (by omega)))))
 ·rw[Lq.sum_assoc,zZ,zZ,jN,DH,show(1:Fq)*1=1 from rfl,Lq.sc_one]
theorem Lw.cf {o:Int} {μ m:M} {A:Lq} (h:Lw aN o μ A) (hm:m.nn) (hl:¬kF o m μ):AJ A m=0:=by
 induction h with
 |nil=>exact CH m
 |cons c a h1 h2 h3 ih=>
  rw[wS,JP,ih,JO h1 hm];unfold dl;rw[if_neg]
  ·grind
  ·intro e;rw[bY.1 e]at hl;exact hl h2
variable (o:Int) (n:Nat) (L:Nat→List T)
def dR (j:Nat):M:=(dY o (L j)).m
structure qN:Prop where
 ho:1≤o∧o≤3
 fl:∀j,j<n→bZ (L j)=true∧(L j).length≠0
variable {o n L}
theorem qN.mem (h:qN o n L) {j:Nat} (hj:j<n):dY o (L j)∈L j:=jJ (h.fl j hj).2
theorem qN.falls (h:qN o n L) {j:Nat} (hj:j<n):aJ (L j):=(aH (h.fl j hj).1).2
theorem qN.good (h:qN o n L) {j:Nat} (hj:j<n):(dY o (L j)).m.ok=true∧1≤(dY o (L j)).c∧(dY o (L j)).c≤100:=(h.falls hj).2 _ (h.mem hj)
theorem qN.nn (h:qN o n L) {j:Nat} (hj:j<n):(dR o L j).nn:=rZ (h.good hj).1
theorem qN.top (h:qN o n L) {j:Nat} (hj:j<n) {t:T} (ht:t∈L j) (hne:t.m≠dR o L j):kF o t.m (dR o L j):=by
 have h1:=yX h.ho (h.fl j hj).1 (h.fl j hj).2 t ht;have h2:=((h.falls hj).2 t ht).1
 have h3:=(h.good hj).1;refine tG h.ho h2 h3 ?_;rcases Int.lt_or_eq_of_le h1 with h4|h4
 ·exact h4
 ·exact absurd (nB _ _ h2 h3 h4) hne
theorem uI (A:Lq) (m:M):∀K:List T,AJ (Lq.mul A (Rp aN K)) m=su K (fun t=>zz t.c*AJ (Lq.mul A (mo aN t.m)) m)
 |[]=>rfl
 |t::r=>by rw[su,←uI A m r];rfl
theorem qN.cf_off (h:qN o n L) {j:Nat} (hj:j<n) {m δ:M} (hm:m.nn) (hδ:δ.nn) (hl:kF o (m.sum (dR o L j)) δ):AJ (Lq.mul (mo aN m) (Rp aN (L j))) δ=0:=by
 rw[uI];refine jS _ _ (fun t ht=>?_);have h4:=rZ ((h.falls hj).2 t ht).1
 obtain⟨A,h1,h2⟩:=sU aN h.ho hm h4;have h3:kF o (m.sum t.m) δ:=by
  by_cases e:t.m=dR o L j
  ·rw[e];exact hl
  ·exact kT (vC m (h.top hj ht e)) hl
 rw[h2,wS,h1.cf hδ (fun q=>yU (kT q h3)),JO (pI hm h4) hδ];unfold dl;rw[if_neg]
 ·grind
 ·intro q;rw[bY.1 q]at h3;exact yU h3
inductive Lo (o:Int) (n:Nat) (L:Nat→List T) (δ:M):Lq→Prop
 |nil:Lo o n L δ Lq.nil
 |cons {A:Lq} (c:Fq) (m:M) (j:Nat):j<n→m.nn→kF o (m.sum (dR o L j)) δ→Lo o n L δ A→Lo o n L δ (Lq.sum (Lq.sc c (Lq.mul (mo aN m) (Rp aN (L j)))) A)
theorem Lo.sum {δ:M} {A B:Lq} (h:Lo o n L δ A) (h':Lo o n L δ B):Lo o n L δ (Lq.sum A B):=by
 induction h with
 |nil=>rw[Lq.sum_comm,Lq.sum_nil];exact h'
 |cons c m j h1 h2 h3 h4 ih=>rw[Lq.sum_assoc];exact Lo.cons c m j h1 h2 h3 ih
theorem Lo.sc {δ:M} {A:Lq} (d:Fq) (h:Lo o n L δ A):Lo o n L δ (Lq.sc d A):=by
 induction h with
 |nil=>
  rw[show Lq.sc d Lq.nil=Lq.nil from Lq.ext fun u n k=>by show d*(0:Fq)=0;grind];exact Lo.nil
 |cons c m j h1 h2 h3 h4 ih=>rw[Lq.sc_sum,Lq.sc_sc];exact Lo.cons _ m j h1 h2 h3 ih
theorem Lo.mono {δ δ':M} {A:Lq} (h:Lo o n L δ A) (hd:kF o δ δ'∨δ=δ'):Lo o n L δ' A:=by
 induction h with
 |nil=>exact Lo.nil
 |cons c m j h1 h2 h3 h4 ih=>
  refine Lo.cons c m j h1 h2 ?_ ih;rcases hd with hd|hd
  ·exact kT h3 hd
  ·rw[←hd];exact h3
theorem Lo.one {δ:M} (c:Fq) {m:M} {j:Nat} (h1:j<n) (h2:m.nn) (h3:kF o (m.sum (dR o L j)) δ):Lo o n L δ (Lq.sc c (Lq.mul (mo aN m) (Rp aN (L j)))):=by
 have:=Lo.cons c m j h1 h2 h3 (Lo.nil (o:=o) (n:=n) (L:=L) (δ:=δ))
 rwa[Lq.sum_nil]at this
theorem Lw.lo {μ δ:M} {A:Lq} {j:Nat} (hj:j<n) (h:Lw aN o μ A) (hd:kF o (μ.sum (dR o L j)) δ∨μ.sum (dR o L j)=δ):Lo o n L δ (Lq.mul A (Rp aN (L j))):=by
 induction h with
 |nil=>rw[Lq.nil_mul];exact Lo.nil
 |cons c m h1 h2 h3 ih=>
  rw[Lq.sum_mul,Lq.sc_mul];refine Lo.cons c m j hj h1 ?_ ih;rcases hd with hd|hd
  ·exact kT (yT _ h2) hd
  ·rw[←hd];exact yT _ h2
theorem Lo.mul (hL:qN o n L) {δ s:M} {A:Lq} (hs:s.nn) (h:Lo o n L δ A):Lo o n L (s.sum δ) (Lq.mul (mo aN s) A):=by
 induction h with
 |nil=>rw[Lq.mul_nil];exact Lo.nil
 |cons c m j h1 h2 h3 h4 ih=>
  rw[Lq.mul_sum,Lq.mul_sc,←Lq.mul_assoc];obtain⟨B,hB,e⟩:=sU aN hL.ho hs h2;rw[e,Lq.sum_mul];have has:(s.sum m).sum (dR o L j)=s.sum (m.sum (dR o L j)):=by unfold M.sum;refine jY ?_ ?_ ?_ ?_<;>(simp only;omega)
  have h5:kF o ((s.sum m).sum (dR o L j)) (s.sum δ):=by rw[has];exact vC s h3
  refine Lo.sum (Lo.sc c (Lo.sum ?_ (hB.lo h1 (.inl h5)))) ih;have:=Lo.one (o:=o) (n:=n) (L:=L) (δ:=s.sum δ) 1 h1 (pI hs h2) h5
  rwa[Lq.sc_one]at this
def M.le (a b:M):Prop:=a.x≤b.x∧a.y≤b.y∧a.d≤b.d∧a.e≤b.e
def M.sub (b a:M):M:=⟨b.x-a.x,b.y-a.y,b.d-a.d,b.e-a.e⟩
theorem kN {a b:M}:(M.sub b a).sum a=b:=by unfold M.sub M.sum;refine jY ?_ ?_ ?_ ?_<;>(simp only;omega)
theorem mG {a b:M} (h:M.le a b):(M.sub b a).nn:=by obtain⟨h1,h2,h3,h4⟩:=h;unfold M.sub;exact⟨by simp only;omega,by simp only;omega,by simp only;omega,by simp only;omega⟩
def tv (o:Int) (L:Nat→List T) (δ:M):List (Fq×Nat)→Lq
 |[]=>Lq.nil
 |(c,j)::r=>Lq.sum (Lq.sc c (Lq.mul (mo aN (M.sub δ (dR o L j))) (Rp aN (L j)))) (tv o L δ r)
def Tp (o:Int) (n:Nat) (L:Nat→List T) (δ:M) (tp:List (Fq×Nat)):Prop:=∀q∈tp,q.2<n∧M.le (dR o L q.2) δ
theorem MQ {δ δ':M} {tp:List (Fq×Nat)} (h:Tp o n L δ tp) (hd:kF o δ δ'):Lo o n L δ' (tv o L δ tp):=by
 induction tp with
 |nil=>exact Lo.nil
 |cons q r ih=>
  obtain⟨h1,h2⟩:=h q (List.mem_cons_self ..);exact Lo.cons q.1 _ q.2 h1 (mG h2) (by rw[kN];exact hd) (ih (fun s hs=>h s (List.mem_cons_of_mem _ hs)))
def Le (o:Int) (n:Nat) (L:Nat→List T) (δ:M) (A:Lq):Prop:=∃tp B,Tp o n L δ tp∧Lo o n L δ B∧A=Lq.sum (tv o L δ tp) B
theorem Le.lo {δ δ':M} {A:Lq} (h:Le o n L δ A) (hd:kF o δ δ'):Lo o n L δ' A:=by obtain⟨tp,B,h1,h2,rfl⟩:=h;exact(MQ h1 hd).sum (h2.mono (.inl hd))
theorem Lo.max (hL:qN o n L) {δ:M} {A:Lq} (h:Lo o n L δ A):A=Lq.nil∨∃δ',δ'.nn∧kF o δ' δ∧Le o n L δ' A:=by
 induction h with
 |nil=>exact .inl rfl
 |cons c m j h1 h2 h3 h4 ih=>
  have hμ:=pI h2 (hL.nn h1);have hle:M.le (dR o L j) (m.sum (dR o L j)):=by obtain⟨a1,a2,a3,a4⟩:=h2;unfold M.sum;exact⟨by simp only;omega,by simp only;omega,by simp only;omega,by simp only;omega⟩
  have esub:M.sub (m.sum (dR o L j)) (dR o L j)=m:=by unfold M.sub M.sum;refine jY ?_ ?_ ?_ ?_<;>(simp only;omega)
  right;rcases ih with e|⟨δ',d1,d2,d3⟩
  ·refine⟨_,hμ,h3,[(c,j)],Lq.nil,fun q hq=>?_,Lo.nil,?_⟩
   ·rw[List.mem_singleton.1 hq];exact⟨h1,hle⟩
   ·rw[e];show _=Lq.sum (Lq.sum (Lq.sc c (Lq.mul (mo aN (M.sub (m.sum (dR o L j)) (dR o L j))) (Rp aN (L j)))) Lq.nil) Lq.nil
    rw[esub,Lq.sum_nil,Lq.sum_nil]
  ·rcases GR o (m.sum (dR o L j)) δ' with q|q|q
   ·obtain⟨tp,B,e1,e2,rfl⟩:=d3;refine⟨δ',d1,d2,tp,Lq.sum (Lq.sc c (Lq.mul (mo aN m) (Rp aN (L j)))) B,e1,Lo.cons c m j h1 h2 q e2,?_⟩;rw[←Lq.sum_assoc,Lq.sum_comm _ (tv o L δ' tp),Lq.sum_assoc]
   ·obtain⟨tp,B,e1,e2,rfl⟩:=d3;refine⟨δ',d1,d2,(c,j)::tp,B,fun z hz=>?_,e2,?_⟩
    ·rcases List.mem_cons.1 hz with rfl|hz
     ·exact⟨h1,by rw[←q];exact hle⟩
     ·exact e1 z hz
    ·show _=Lq.sum (Lq.sum (Lq.sc c (Lq.mul (mo aN (M.sub δ' (dR o L j))) (Rp aN (L j)))) (tv o L δ' tp)) B;rw[←q,esub,Lq.sum_assoc]
   ·refine⟨_,hμ,h3,[(c,j)],_,fun z hz=>?_,d3.lo q,?_⟩
    ·rw[List.mem_singleton.1 hz];exact⟨h1,hle⟩
    ·show _=Lq.sum (Lq.sum (Lq.sc c (Lq.mul (mo aN (M.sub (m.sum (dR o L j)) (dR o L j))) (Rp aN (L j)))) Lq.nil) _;rw[esub,Lq.sum_nil]
theorem Lo.cf0 (hL:qN o n L) {δ:M} {A:Lq} (hδ:δ.nn) (h:Lo o n L δ A):AJ A δ=0:=by
 induction h with
 |nil=>exact CH δ
 |cons c m j h1 h2 h3 h4 ih=>rw[wS,JP,hL.cf_off h1 h2 hδ h3,ih];grind
def M.lcm (a b:M):M:=⟨if a.x≤b.x then b.x else a.x,if a.y≤b.y then b.y else a.y,if a.d≤b.d then b.d else a.d,if a.e≤b.e then b.e else a.e⟩
theorem BX (a b:M):M.le a (M.lcm a b)∧M.le b (M.lcm a b):=by unfold M.le M.lcm;simp only;refine⟨⟨?_,?_,?_,?_⟩,?_,?_,?_,?_⟩<;>(split<;>omega)
theorem BW {a b c:M} (h1:M.le a c) (h2:M.le b c):M.le (M.lcm a b) c:=by obtain⟨a1,a2,a3,a4⟩:=h1;obtain⟨b1,b2,b3,b4⟩:=h2;unfold M.le M.lcm;simp only;refine⟨?_,?_,?_,?_⟩<;>(split<;>omega)
def sA (o:Int) (n:Nat) (L:Nat→List T) (i k:Nat):Prop:=∀u v:Fq,u*zz (dY o (L i)).c=1→v*zz (dY o (L k)).c=1→Lo o n L (M.lcm (dR o L i) (dR o L k)) (Lq.sum (Lq.sc u (Lq.mul (mo aN (M.sub (M.lcm (dR o L i) (dR o L k)) (dR o L i))) (Rp aN (L i)))) (Lq.sc (-v) (Lq.mul (mo aN (M.sub (M.lcm (dR o L i) (dR o L k)) (dR o L k))) (Rp aN (L k)))))
theorem AF {a b c:M}:(M.sub c b).sum (M.sub b a)=M.sub c a:=by unfold M.sub M.sum;refine jY ?_ ?_ ?_ ?_<;>(simp only;omega)
theorem sA.up (hL:qN o n L) {i k:Nat} (hi:i<n) (hk:k<n) (h:sA o n L i k) {δ:M} (hδi:M.le (dR o L i) δ) (hδk:M.le (dR o L k) δ) {u v:Fq} (hu:u*zz (dY o (L i)).c=1) (hv:v*zz (dY o (L k)).c=1):Lo o n L δ (Lq.sum (Lq.sc u (Lq.mul (mo aN (M.sub δ (dR o L i))) (Rp aN (L i)))) (Lq.sc (-v) (Lq.mul (mo aN (M.sub δ (dR o L k))) (Rp aN (L k))))):=by
 have hb:=BW hδi hδk;have hs:=mG hb
 obtain⟨l1,l2⟩:=BX (dR o L i) (dR o L k);obtain⟨A,a1,a2⟩:=sU aN hL.ho hs (mG l1);obtain⟨B,b1,b2⟩:=sU aN hL.ho hs (mG l2);rw[AF]at a1 a2 b1 b2;have key:=(h u v hu hv).mul hL hs
 rw[kN]at key;have la:=(a1.lo hi (.inr (kN))).sc (-u)
 have lb:=(b1.lo hk (.inr (kN))).sc v;have tot:=(key.sum la).sum lb
 have e:Lq.sum (Lq.sum (Lq.mul (mo aN (M.sub δ (M.lcm (dR o L i) (dR o L k)))) (Lq.sum (Lq.sc u (Lq.mul (mo aN (M.sub (M.lcm (dR o L i) (dR o L k)) (dR o L i))) (Rp aN (L i)))) (Lq.sc (-v) (Lq.mul (mo aN (M.sub (M.lcm (dR o L i) (dR o L k)) (dR o L k))) (Rp aN (L k)))))) (Lq.sc (-u) (Lq.mul A (Rp aN (L i))))) (Lq.sc v (Lq.mul B (Rp aN (L k))))=Lq.sum (Lq.sc u (Lq.mul (mo aN (M.sub δ (dR o L i))) (Rp aN (L i)))) (Lq.sc (-v) (Lq.mul (mo aN (M.sub δ (dR o L k))) (Rp aN (L k)))):=by
  rw[Lq.mul_sum,Lq.mul_sc,Lq.mul_sc,←Lq.mul_assoc,←Lq.mul_assoc,a2,b2,Lq.sum_mul,Lq.sum_mul];refine Lq.ext fun w p q=>?_;simp only[FL,KY]
  grind
 rw[e]at tot;exact tot
end Go.Proofs.Ytbkighpmkadmmaa
