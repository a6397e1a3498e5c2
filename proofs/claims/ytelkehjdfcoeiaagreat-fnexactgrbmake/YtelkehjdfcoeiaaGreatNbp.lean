/-
  A pair is looked at: (*impl.grbMaking).lookAt.
-/
import Derived.Test.YtelkehjdfcoeiaaGreatNbo
import Derived.Deep.LoopGhost
import Derived.Laws.OwnMore
set_option maxHeartbeats 16000000
set_option maxRecDepth 100000
namespace Go.Proofs.YtelkehjdfcoeiaaGreat
open Go.RowKit Go.Deep Go.Joins
set_option linter.unusedVariables false
set_option linter.unusedSimpArgs false
theorem VK {o:Int} {n:Nat} {L:Nat→List T} (ho:1≤o∧o≤3) (hl:aW n (lN L) (fN L)=true) {j:Nat} (hj:j<bA n):FC o (L (pq j).1) (L (pq j).2)=(uG (fun i=>dD o (L i)) j).t1∧GN o (L (pq j).1) (L (pq j).2)=(uG (fun i=>dD o (L i)) j).t2∧JO o (L (pq j).1) (L (pq j).2)=kV (uG (fun i=>dD o (L i)) j).t1 (uG (fun i=>dD o (L i)) j).t2 (lf (L (pq j).1)) (L (pq j).1).length (lf (L (pq j).2)) (L (pq j).2).length:=by
 obtain⟨h1,h2⟩:=JG hj;have hL:=FQ ho hl
 have li:bF o (L (pq j).1).length (lf (L (pq j).1))=dD o (L (pq j).1):=(sP hL.ho (hL.fl _ (by omega)).1 (hL.fl _ (by omega)).2).symm;have lk:bF o (L (pq j).2).length (lf (L (pq j).2))=dD o (L (pq j).2):=(sP hL.ho (hL.fl _ h2).1 (hL.fl _ h2).2).symm
 have k1:xG o (L (pq j).1)=true:=iB.2 ⟨ho,(hL.fl _ (by omega)).1,fun e=>(hL.fl (pq j).1 (by omega)).2 (by rw[e];rfl)⟩;have k2:xG o (L (pq j).2)=true:=iB.2 ⟨ho,(hL.fl _ h2).1,fun e=>(hL.fl (pq j).2 h2).2 (by rw[e];rfl)⟩
 have hok:eQ o (L (pq j).1).length (lf (L (pq j).1)) (L (pq j).2).length (lf (L (pq j).2))=true:=by unfold eQ;rw[show aY o (L (pq j).1).length (lf (L (pq j).1))=true from k1,show aY o (L (pq j).2).length (lf (L (pq j).2))=true from k2];rfl
 have eU:FC o (L (pq j).1) (L (pq j).2)=(uG (fun i=>dD o (L i)) j).t1:=by unfold FC eR kT uG;rw[if_pos hok,li,lk]
 have eV:GN o (L (pq j).1) (L (pq j).2)=(uG (fun i=>dD o (L i)) j).t2:=by unfold GN eS kT uG;rw[if_pos hok,li,lk]
 refine⟨eU,eV,?_⟩;unfold JO dH;rw[if_pos hok];show kV (FC o (L (pq j).1) (L (pq j).2)) (GN o (L (pq j).1) (L (pq j).2)) _ _ _ _=_
 rw[eU,eV]
def ZF (w:World) (lo Mb g:Nat) (o:Int) (f:Nat) (B:Bs) (a:Nat) (E:Option Bs) (r:Ending) (w':World):Prop:=
 Fr (fun k=>lo≤k) w w'∧((∃tvL tvP lv LS PS Bq,E=none∧r= .panicked [{v:=dU,recovered:=false}]∧MW w' lo Mb g o f B a tvL tvP lv LS PS Bq)∨(∃B' tvL tvP lv LS PS Bq,E=some B'∧r= .returned (.tuple #[])∧MW w' lo Mb g o f B' a tvL tvP lv LS PS Bq))
theorem UN (w:World) (lo Mb g:Nat) (o:Int) (f:Nat) (B:Bs) (j:Nat) (tvL tvP lv:Value) (LS PS:List Value) (Bq:Nat→Nat) (h:MW w lo Mb g o f B (j+1) tvL tvP lv LS PS Bq) (hB:wZ o g B) (hg:g≤12) (hj:j<bA B.m) (pb:Nat) (nx:Option Addr) (hp:iF w pb (uG (fun i=>dD o (B.L i)) j) nx):Calls Tryz.prog 80 #[.pointer (some ⟨Mb,0,none⟩),.pointer (some ⟨pb,0,none⟩)] w (ZF w lo Mb g o f B (j+1) (eG o g B (pq j).1 (pq j).2)):=by
 obtain⟨h1,h2⟩:=JG hj;obtain⟨eU,eV,eP⟩:=VK hB.ho hB.l hj;obtain⟨E,hE⟩:∃E,eG o g B (pq j).1 (pq j).2=E:=⟨_,rfl⟩
 rw[hE];obtain⟨la0,lc0,lad,lcp,rfl,hRL⟩:=h.bk.readL (by have:=h.m12;omega);obtain⟨pa0,AF,A,C,AD,CP,rfl,hRP⟩:=h.bk.readP (by have:=h.m12;omega);obtain⟨R,hR⟩:∃R,OH o B.m B.L (uG (fun i=>dD o (B.L i)) j)=R:=⟨_,rfl⟩
 have dw:Below w.heap.size w w.drew:=(bQ _ _).drew;have hc:=OG w.drew pb _ nx (hp.below dw) o la0 B.m lc0 lad lcp B.L (hRL.below dw) (show(pq j).1<B.m by omega) (show(pq j).2<B.m from h2) hR
 have HC:=aA hc;have HH:=aA h
 have HBo:=aA hB;have HE:=aA hE
 have HR:=aA hR;have HP:=aA hp
 have HRP:=aA hRP;have HEQ:=aA (And.intro eU (And.intro eV eP))
 have HS0:Hid (w.drew.cell? ⟨Mb,3,none⟩=some (.int .i64 o)∧w.drew.cell? ⟨Mb,0,none⟩=some (.slice la0 B.m lc0)):=⟨h.bx.c3,h.bx.c0⟩
 have hMl:Mb<w.heap.size:=h.bx.lt;have hm12:(B.m:Int)≤12:=by have:=h.m12;omega
 have m12:=h.m12;clear h hB hE hR hp hRP hRL hc eU eV eP dw;cases R with
 |none=>
  have hEn:E=none:=by
   rw[←HE.out];have hR:=HR.out
   unfold OH at hR;split at hR
   ·rename_i s hs;exact wG (g:=g) (HEQ.out.2.2.trans hs) hR
   ·rename_i s hs;exact EP (g:=g) (HEQ.out.2.2.trans hs)
  subst hEn;have HCN:Hid (Calls Tryz.prog 125 #[.pointer (some ⟨pb,0,none⟩),.int .i64 o,.slice la0 B.m lc0] w.drew fun r w'=>r= .panicked [{v:=dU,recovered:=false}]∧Below w.drew.heap.size w.drew w'):=HC.out.mono fun r w' hh=>by
   rcases hh with⟨hb,⟨S,_,_,_,_,_,_,_,_,_,_,e,_⟩|⟨_,e⟩⟩
   ·cases e
   ·exact⟨e,hb⟩
  clear HC;go_enter Tryz.func80,Tryz.ntmps80;go_wp2_with fail;have hS:=HS0.out
  refine wp_region_held_drew (S:=(fun x=>x.cell? ⟨Mb,3,none⟩=some (.int .i64 o)∧x.cell? ⟨Mb,0,none⟩=some (.slice la0 B.m lc0))) (by kernel_rfl) (hS) (fun hHeld=>?_);refine wpAnyH_take (i:=0) (v:=?_) rfl (by kernel_rfl) (by kernel_rfl) (by kernel_rfl) (fun _ _ _ h=>h) (Or.inl ⟨by rfl,?_⟩) (by assumption) ?_;rotate_left
  ·(intro w9 hSw;(try dsimp only at hSw);go_simp)<;>with_reducible rfl
  try simp only[Act.put,eD]
  refine wpAnyH_take (i:=1) (v:=?_) rfl (by kernel_rfl) (by kernel_rfl) (by kernel_rfl) (fun _ _ _ h=>h) (Or.inl ⟨by rfl,?_⟩) (by assumption) ?_;rotate_left
  ·(intro w9 hSw;(try dsimp only at hSw);go_simp)<;>with_reducible rfl
  try simp only[Act.put,eD]
  refine wpAnyH_take (i:=2) (v:=?_) rfl (by kernel_rfl) (by kernel_rfl) (by kernel_rfl) (fun _ _ _ h=>h) (Or.inl ⟨by rfl,?_⟩) (by assumption) ?_;rotate_left
  ·(intro w9 hSw;(try dsimp only at hSw);go_simp)<;>with_reducible rfl
  try simp only[Act.put,eD]
  refine wpAnyH_take (i:=3) (v:=?_) rfl (by kernel_rfl) (by kernel_rfl) (by kernel_rfl) (fun _ _ _ h=>h) (Or.inl ⟨by rfl,?_⟩) (by assumption) ?_;rotate_left
  ·(intro w9 hSw;(try dsimp only at hSw);go_simp)<;>with_reducible rfl
  try simp only[Act.put,eD]
  refine wpAnyH_take (i:=4) (v:=?_) rfl (by kernel_rfl) (by kernel_rfl) (by kernel_rfl) (fun _ _ _ h=>h) (Or.inl ⟨by rfl,?_⟩) (by assumption) ?_;rotate_left
  ·(intro w9 hSw;(try dsimp only at hSw);go_simp)<;>with_reducible rfl
  try simp only[Act.put,eD]
  refine wpAnyH_take (i:=5) (v:=?_) rfl (by kernel_rfl) (by kernel_rfl) (by kernel_rfl) (fun _ _ _ h=>h) (Or.inl ⟨by rfl,?_⟩) (by assumption) ?_;rotate_left
  ·(intro w9 hSw;(try dsimp only at hSw);go_simp)<;>with_reducible rfl
  try simp only[Act.put,eD]
  refine wpAnyH_take (i:=6) (v:=?_) rfl (by kernel_rfl) (by kernel_rfl) (by kernel_rfl) (fun _ _ _ h=>h) (Or.inl ⟨by rfl,?_⟩) (by assumption) ?_;rotate_left
  ·(intro w9 hSw;(try dsimp only at hSw);go_simp)<;>with_reducible rfl
  try simp only[Act.put,eD]
  refine wpAnyH_take (i:=7) (v:=?_) rfl (by kernel_rfl) (by kernel_rfl) (by kernel_rfl) (fun _ _ _ h=>h) (Or.inl ⟨by rfl,?_⟩) (by assumption) ?_;rotate_left
  ·(intro w9 hSw;(try dsimp only at hSw);go_simp)<;>with_reducible rfl
  try simp only[Act.put,eD]
  refine wpAnyH_take (i:=8) (v:=?_) rfl (by kernel_rfl) (by kernel_rfl) (by kernel_rfl) (fun _ _ _ h=>h) (Or.inl ⟨by rfl,?_⟩) (by assumption) ?_;rotate_left
  ·(intro w9 hSw;(try dsimp only at hSw);go_simp)<;>with_reducible rfl
  try simp only[Act.put,eD]
  refine wpAnyH_take (i:=9) (v:=?_) rfl (by kernel_rfl) (by kernel_rfl) (by kernel_rfl) (fun _ _ _ h=>h) (Or.inl ⟨by rfl,?_⟩) (by assumption) ?_;rotate_left
  ·(intro w9 hSw;(try dsimp only at hSw);go_simp)<;>with_reducible rfl
  try simp only[Act.put,eD]
  refine wpAnyH_ready (rs:=[10]) (by kernel_rfl) (by simp) ?_;refine AllReadyH.cons rfl (fun K hK=>?_) AllReadyH.nil;go_simp;go_wp2_with (go_at_call 125;refine HCN.out.mono ?_;rintro e w5 ⟨rfl,b5⟩);have b5':=aB (bQ _ w).drew b5
  exact⟨rfl,aO b5',.inl ⟨_,_,_,_,_,_,rfl,rfl,HH.out.below b5'⟩⟩
 |some S=>
  obtain⟨s,hs,hrs⟩:∃s,JO o (B.L (pq j).1) (B.L (pq j).2)=(s,true)∧dA o s B.m (lN B.L) (fN B.L)=some S:=by
   have hR:=HR.out;unfold OH at hR;split at hR
   ·rename_i s hs;exact⟨s,HEQ.out.2.2.trans hs,hR⟩
   ·cases hR
  have HSP:=aA hs;have HRA:=aA hrs
  have HCY:Hid (Calls Tryz.prog 125 #[.pointer (some ⟨pb,0,none⟩),.int .i64 o,.slice la0 B.m lc0] w.drew fun r w'=>∃qa qc ad cp la lc,r= .returned (.tuple #[.slice qa B.m qc,.slice la S.r.length lc])∧Below w.drew.heap.size w.drew w'∧eH w' qa B.m qc ad (lN S.q) cp (fN S.q)∧gX w.heap.size w' la lc S.r):=HC.out.mono fun r w' hh=>by
   rcases hh with⟨hb,⟨S',qa,qc,ad,cp,Rb,B',la,lc,mid,lo',e,e2,hlo',o1,o2,_,_,hmid⟩|⟨e,_⟩⟩
   ·cases e;have hdw:w.drew.heap.size=w.heap.size:=by simp
    exact⟨qa,qc,ad,cp,la,lc,e2,hb,o1.rd,o2.low (by omega)⟩
   ·cases e
  have hs300:(S.r.length:Int)≤300:=by have:=(dB hrs).1.r.2;omega
  clear HC hs hrs;go_enter Tryz.func80,Tryz.ntmps80;go_wp2_with fail;have hS:=HS0.out
  go_region_held3 (fun x=>x.cell? ⟨Mb,3,none⟩=some (.int .i64 o)∧x.cell? ⟨Mb,0,none⟩=some (.slice la0 B.m lc0)) (first|with_reducible exact hS|with_reducible exact hS5) (first|(go_at_call 125;refine HCY.out.mono ?_;rintro e w5 ⟨qa,qc,qad,qcp,la,lc,rfl,b5,hq5,ho5⟩;have hS5:w5.cell? ⟨Mb,3,none⟩=some (.int .i64 o)∧w5.cell? ⟨Mb,0,none⟩=some (.slice la0 B.m lc0):=⟨(b5.cell (p:=⟨Mb,3,none⟩) hMl).trans hS.1,(b5.cell (p:=⟨Mb,0,none⟩) hMl).trans hS.2⟩))
  have b5':=aB (bQ _ w).drew b5;have HB5:=aA b5'
  have HM5:=aA (HH.out.below b5');have HQ5:=aA hq5
  have HO5:=aA ho5;have HLT5:Hid (S.r.length≠0→cH la<w5.heap.size):=fun h0=>BU ho5.1 h0
  have e0:=hS5.2;have e1:=HM5.out.bx.c1
  clear hS hS5 b5 b5' hq5 ho5 HCY;by_cases h0:S.r.length=0
  ·have hEs:E=some B:=by rw[←HE.out];exact wH HSP.out HRA.out h0
   subst hEs;have hq0:((S.r.length:Int)==0)=true:=by rw[h0];rfl
   clear h0 e0 e1;go_wp2
   go_end0
   exact⟨aO HB5.out,.inr ⟨B,_,_,_,_,_,_,rfl,rfl,HM5.out⟩⟩
  have hq0:((S.r.length:Int)==0)=false:=beq_eq_false_iff_ne.2 (by omega);by_cases h12:B.m=12
  ·have hEn:E=none:=by rw[←HE.out];exact wD HSP.out HRA.out h0 h12
   subst hEn;have hmb:((B.m:Int)==12)=true:=by rw[h12];rfl
   clear h0 h12 e1;go_wp2;exact⟨rfl,aO HB5.out,.inl ⟨_,_,_,_,_,_,rfl,rfl,HM5.out⟩⟩
  have hmb:((B.m:Int)==12)=false:=beq_eq_false_iff_ne.2 (by omega);have HH0:=aA (And.intro h0 h12)
  clear h0 h12;obtain⟨E2,hE2⟩:∃E2,lL g B.P (pq j).1 (pq j).2 (FC o (B.L (pq j).1) (B.L (pq j).2)) (GN o (B.L (pq j).1) (B.L (pq j).2)) B.m S.q=E2:=⟨_,rfl⟩
  obtain⟨_,gU,gV⟩:=oZ HSP.out;have hrow:=UP (show(pq j).1<B.m by omega) h2 HBo.out.p gU gV (fun t _=>fO (by have:=((dB HRA.out).1.q t).2;omega) ((dB HRA.out).1.q t).1)
  rw[hE2,HEQ.out.1,HEQ.out.2.1]at hrow;have HPO:=aA (QM w5 Mb pb (uG (fun i=>dD o (B.L i)) j) nx (HP.out.below HB5.out) g B.m hg m12 pa0 AF HM5.out.bx.c1 A C AD CP B.P (HRP.out.below HB5.out) (show(pq j).1<B.m by omega) (show(pq j).2<B.m from h2) qa qc qad qcp S.q HQ5.out hrow)
  have HE2:=aA hE2;clear hE2 hrow gU gV;go_wp2_with fail;refine HPO.out.mono ?_;rintro e w6 ⟨b6,h6⟩;have b6':=aB HB5.out b6
  have HB6:=aA b6';have HM6:=aA (HM5.out.below b6)
  have HO6:=aA (HO5.out.below b6);have hs56:w.heap.size≤w5.heap.size:=HB5.out.size
  clear b6 b6' e0 e1 HPO;rcases h6 with⟨RW,ra,rc,rad,rcp,xlo,xRb,xB,rfl,rfl,hxl,hxo⟩|⟨rfl,rfl⟩
  ·have hEs:E=some (zE B S.r RW):=by rw[←HE.out];exact wE HSP.out HRA.out HH0.out.1 HH0.out.2 HE2.out
   subst hEs;have far:∀b,w.heap.size≤b→NB (QY lo Mb lv Bq (j+1) (bA B.m)) (.slice la0 B.m lc0) (.slice pa0 B.m AF) b:=fun b hb=>NB.far (m:=w.heap.size) (fun k e=>(HH.out.bk.rL.lt k e).2) (fun k e=>(HH.out.bk.rP.lt k e).2) (fun k q=>HH.out.ylt q) hb
   have HR6:Hid (xC (NB (QY lo Mb lv Bq (j+1) (bA B.m)) (.slice la0 B.m lc0) (.slice pa0 B.m AF)) w6 la lc S.r):=⟨HO6.out.1,HO6.out.2.2.imp id (fun⟨g,off',e,hg⟩ b o2 e2=>by rw[e]at e2;cases e2;exact far _ hg)⟩
   have HRS6:Hid (uI (NB (QY lo Mb lv Bq (j+1) (bA B.m)) (.slice la0 B.m lc0) (.slice pa0 B.m AF)) w6 ra g rc rad rcp RW):=(wA (hi:=w6.heap.size) hxo (Nat.le_refl _)).mono (fun b _ hb=>far b (by omega));have HOC6:Hid (wY (NB (QY lo Mb lv Bq (j+1) (bA B.m)) (.slice la0 B.m lc0) (.slice pa0 B.m AF)) w6 lo B.m g B.L B.P LS PS ra rc (jI la rad) (jI lc rcp) (jI S.r RW)):=HH.out.ow.wait HB6.out (NY (lo:=w.heap.size) HB6.out.size far HO6.out (hxo.low (by omega)) (fun h0 h1=>by have:=HLT5.out h0;have:=DI hxo h1;omega) (fun x hx h0 h1=>by have:=HLT5.out h0;have:=pY hxo hx h1;omega))
   have hrok:cJ S.r=true:=fO (by have:=(dB HRA.out).1.r.2;omega) (dB HRA.out).1.r.1;have HAD:=aA (WB w6 lo Mb g o f B (j+1) _ _ lv LS PS Bq HM6.out HBo.out.ho (by have:=HH0.out.2;omega) la lc S.r HR6.out hrok HH0.out.1 ra rc rad rcp RW HRS6.out HOC6.out)
   clear far HR6 HRS6 HOC6 hrok hxl hxo;go_wp2_with fail;refine HAD.out.mono ?_;rintro e w7 ⟨rfl,tvL7,tvP7,lv7,LS7,PS7,Bq7,hM7,hF7⟩;have HM7:=aA hM7
   have HF7:Hid (Fr (fun k=>lo≤k) w w7):=(aO HB6.out).trans hF7;clear hM7 hF7;go_wp2
   go_end0
   exact⟨HF7.out,.inr ⟨_,_,_,_,_,_,_,rfl,rfl,HM7.out⟩⟩
  ·have hEn:E=none:=by rw[←HE.out];exact wF HSP.out HRA.out HH0.out.1 HH0.out.2 HE2.out
   subst hEn;exact⟨rfl,aO HB6.out,.inl ⟨_,_,_,_,_,_,rfl,rfl,HM6.out⟩⟩
def ZI (w:World) (lo Mb g:Nat) (o:Int) (f:Nat) (B:Bs) (j:Nat) (p:Option Addr) (u:World):Prop:=
 Fr (fun k=>lo≤k) w u∧((j<bA B.m∧∃pb nx tvL tvP lv LS PS Bq,p=some ⟨pb,0,none⟩∧MW u lo Mb g o f B (j+1) tvL tvP lv LS PS Bq∧iF u pb (uG (fun i=>dD o (B.L i)) j) nx)∨(bA B.m≤j∧p=none∧∃tvL tvP lv LS PS Bq,MW u lo Mb g o f B j tvL tvP lv LS PS Bq))
theorem WO (w:World) (lo Mb g:Nat) (o:Int) (f:Nat) (B:Bs) (j:Nat) (tvL tvP lv:Value) (LS PS:List Value) (Bq:Nat→Nat) (h:MW w lo Mb g o f B j tvL tvP lv LS PS Bq):Calls Tryz.prog 79 #[.pointer (some ⟨Mb,4,none⟩)] w fun r u=>∃p,r= .returned (.pointer p)∧ZI w lo Mb g o f B j p u:=by
 by_cases hlt:j<bA B.m
 ·refine(Cv w lo Mb 4 lv B.m _ Bq j (bA B.m) h.qu hlt).mono ?_;rintro r u ⟨rfl,hq,hp,hf,hk⟩;have sub:∀b,QY lo Mb lv Bq (j+1) (bA B.m) b→QY lo Mb lv Bq j (bA B.m) b:=fun b q=>by
   rcases q with q|q|q|⟨i,i1,i2,q⟩
   ·exact .inl q
   ·exact .inr (.inl q)
   ·exact .inr (.inr (.inl q))
   ·exact .inr (.inr (.inr ⟨i,by omega,i2,q⟩))
  exact⟨_,rfl,hf.mono (fun k _ e=>by rw[e];exact h.lo),.inl ⟨hlt,Bq j,_,tvL,tvP,lv,LS,PS,Bq,rfl,⟨h.bx.kx hk hq,hq,(h.bk.fr hf (fun b e=>.inr (.inl e))).yet (fun b _ q=>sub b q),by omega,h.m12,h.lo,(h.ow.fr hf (fun b nb e=>nb.2.2 (.inr (.inl e)))).mono (fun b _ nb=>⟨nb.1,nb.2.1,fun q=>nb.2.2 (sub b q)⟩)⟩,hp⟩⟩
 ·refine(MB w lo Mb 4 lv B.m _ Bq j (bA B.m) h.qu hlt).mono ?_;rintro r u ⟨rfl,rfl⟩;exact⟨_,rfl,Fr.refl _ _,.inr ⟨by omega,rfl,tvL,tvP,lv,LS,PS,Bq,h⟩⟩
theorem Ay {w:World} {pb Mb:Nat} {p:Pr} {nx:Option Addr} {tvL tvP:Value} {o:Int} {f:Nat} (h:iF w pb p nx) (hx:Mx w Mb tvL tvP o f):¬pb=Mb:=fun e=>by
 have h1:=h.a2;have h2:=hx.c2
 rw[e,h2]at h1;cases h1
def ZE (w:World) (lo Mb g:Nat) (o:Int) (G:Bs×Bool) (r:Ending) (w':World):Prop:=
 Fr (fun k=>lo≤k) w w'∧((G.2=true∧r= .returned (.tuple #[]))∨(G.2=false∧r= .panicked [{v:=dU,recovered:=false}]))∧∃f a tvL tvP lv LS PS Bq,MW w' lo Mb g o f G.1 a tvL tvP lv LS PS Bq
theorem zG {w w':World} {lo Mb g:Nat} {o:Int} {G:Bs×Bool} {r:Ending} {B:Bs} {d:Bool} (hG:G=(B,d)) (hf:Fr (fun k=>lo≤k) w w') (hr:(d=true∧r= .returned (.tuple #[]))∨(d=false∧r= .panicked [{v:=dU,recovered:=false}])) {f a:Nat} {tvL tvP lv:Value} {LS PS:List Value} {Bq:Nat→Nat} (hm:MW w' lo Mb g o f B a tvL tvP lv LS PS Bq):ZE w lo Mb g o G r w':=by subst hG;exact⟨hf,hr,f,a,tvL,tvP,lv,LS,PS,Bq,hm⟩
theorem FS (w:World) (lo Mb g:Nat) (o:Int) (f0:Nat) (hf60:f0≤60) (B0:Bs) (tvL tvP lv:Value) (LS PS:List Value) (Bq:Nat→Nat) (h:MW w lo Mb g o f0 B0 0 tvL tvP lv LS PS Bq) (hB:wZ o g B0) (hg:g≤12) {G:Bs×Bool} (hG:kQ o g f0 B0 0=G):Calls Tryz.prog 38 #[.pointer (some ⟨Mb,0,none⟩)] w (ZE w lo Mb g o G):=by
 have HH:=aA h;have HB:=aA hB
 have HG:=aA hG;clear h hB hG;go_enter Tryz.func38,Tryz.ntmps38;go_wp2_with fail;refine(WO w lo Mb g o f0 B0 0 _ _ _ _ _ _ HH.out).mono ?_;rintro r w1 ⟨p1,rfl,hp1⟩;have HP1:=aA hp1
 clear hp1;go_wp2
 go_loopg [2] f0 (fun gk pv wr=>∃(B:Bs) (j:Nat) (p:Option Addr) (wb:World),gk≤60∧pv= .pointer p∧wZ o g B∧kQ o g gk B j=G∧Fr (fun k=>lo≤k) w wb∧ZI wb lo Mb g o gk B j p wr)
 case atStart=>exact⟨B0,0,p1,w,hf60,rfl,HB.out,HG.out,Fr.refl _ _,HP1.out⟩
 case round=>
  obtain⟨B,j,p,wb,hgk,rfl,hBo,hgr,hFb,hF1,hcase⟩:=hrel;have hF:=hFb.trans hF1
  have HF:=aA hF;have HGR:=aA hgr
  have HBo:=aA hBo;rcases hcase with⟨hlt,pb,nx,tvL1,tvP1,lv1,LS1,PS1,Bq1,rfl,hM,hpr⟩|⟨hge,rfl,tvL1,tvP1,lv1,LS1,PS1,Bq1,hM⟩
  ·have HM:=aA hM;have HPR:=aA hpr
   have c7:=hM.bx.c7;have z7:=hM.bx.fz 7
   clear hF hFb hF1 hgr hBo hM hpr;rcases gk with _|gk
   ·have HGE:=aA (HGR.out.symm.trans (CS hlt));go_wp2;refine⟨rfl,?_⟩;exact zG HGE.out HF.out (.inr ⟨rfl,rfl⟩) HM.out
   have hf1:(((gk+1:Nat):Int)==0)=false:=by simp;omega
   have hfw:IntKind.i64.wrap (((gk+1:Nat):Int)-1)=(gk:Int):=by rw[IntKind.wrap_i64];omega
   have hfw2:((gk+1:Nat):Int)-1=(gk:Int):=by omega
   have hM2:MW (wr.setCell ⟨Mb,7,none⟩ (.int .i64 (gk:Int))) lo Mb g o gk B (j+1) tvL1 tvP1 lv1 LS1 PS1 Bq1:=⟨HM.out.bx.set7 gk,HM.out.qu.put (by decide) _,HM.out.bk.fr ((Fr.refl (QY lo Mb lv1 Bq1 (j+1) (bA B.m)) wr).set (fun _=>.inr (.inl rfl))) (fun b q=>q),HM.out.le,HM.out.m12,HM.out.lo,HM.out.ow.fr ((Fr.refl (fun k=>k=Mb) wr).set (fun _=>rfl)) (fun b nb e=>nb.2.2 (.inr (.inl e)))⟩
   have HM2:=aA hM2;have hF2:Fr (fun k=>lo≤k) w (wr.setCell ⟨Mb,7,none⟩ (.int .i64 (gk:Int))):=HF.out.set (fun _=>HM.out.lo)
   have HF2:=aA hF2;have HPR2:Hid (iF (wr.setCell ⟨Mb,7,none⟩ (.int .i64 (gk:Int))) pb (uG (fun i=>dD o (B.L i)) j) nx):=HPR.out.fr ((Fr.refl (fun k=>k=Mb) wr).set (fun _=>rfl)) (Ay HPR.out HM.out.bx)
   obtain⟨E,hE⟩:∃E,eG o g B (pq j).1 (pq j).2=E:=⟨_,rfl⟩
   have hcl:=UN (wr.setCell ⟨Mb,7,none⟩ (.int .i64 (gk:Int))) lo Mb g o gk B j _ _ _ _ _ _ HM2.out HBo.out hg hlt pb nx HPR2.out;rw[hE]at hcl;have HCL:=aA hcl
   have HE:=aA hE;clear hM2 hF2 hcl hE;go_wp2_with fail;refine HCL.out.mono ?_;rintro r w3 ⟨hF3,hc3⟩;have HF3:=aA (HF2.out.trans hF3)
   clear c7 z7 hF3 HCL;rcases hc3 with⟨tvL3,tvP3,lv3,LS3,PS3,Bq3,rfl,rfl,hM3⟩|⟨B3,tvL3,tvP3,lv3,LS3,PS3,Bq3,rfl,rfl,hM3⟩
   ·have hGE:G=(B,false):=HGR.out.symm.trans (by rw[kQ,if_pos hlt];simp only[HE.out]);have HM3:=aA hM3
    clear hM3;refine⟨rfl,?_⟩;exact zG hGE HF3.out (.inr ⟨rfl,rfl⟩) HM3.out
   ·have hGE:kQ o g gk B3 (j+1)=G:=by rw[←HGR.out,kQ,if_pos hlt];simp only[HE.out]
    obtain⟨h1,h2⟩:=JG hlt;have hB3:=rW HBo.out (by omega) h2 HE.out
    have HGE:=aA hGE;have HB3:=aA hB3
    have HM3:=aA hM3;clear hGE hB3 hM3;go_wp2_with fail;refine(WO w3 lo Mb g o gk B3 (j+1) _ _ _ _ _ _ HM3.out).mono ?_;rintro r w4 ⟨p4,rfl,hp4⟩;have HP4:=aA hp4
    clear hp4;go_wp2
    go_roundg gk
    case measure=>omega
    case rel=>exact⟨B3,j+1,p4,w3,by omega,rfl,HB3.out,HGE.out,HF3.out,HP4.out⟩
  ·have HGE:=aA (HGR.out.symm.trans (yA (o:=o) (g:=g) (f:=gk) hge));have HM:=aA hM
   clear hF hFb hF1 hgr hBo hM;go_wp2
   go_end0
   exact zG HGE.out HF.out (.inl ⟨rfl,rfl⟩) HM.out
theorem JM {w w2:World} {n j:Nat} {va:Option Addr} {vc:Nat} (hj:j<n) (hn:n≤3) (hc:∀i,i<n→w2.cell? ⟨w.heap.size,i,none⟩=some (.slice none 0 0)) (hb:w.heap.size<w2.heap.size) (hv:gX (w.heap.size+1) w2 va vc [⟨1,⟨0,0,0,0⟩⟩]):uI (fun b=>w.heap.size≤b) (w2.setCell ⟨w.heap.size,j,none⟩ (.slice va 1 vc)) (some ⟨w.heap.size,0,none⟩) n n (fun i=>if i=j then va else none) (fun i=>if i=j then vc else 0) (dF j):=by
 have fs:Fr (fun b=>b=w.heap.size) w2 (w2.setCell ⟨w.heap.size,j,none⟩ (.slice va 1 vc)):=(Fr.refl _ w2).set (fun _=>rfl);refine⟨⟨Nat.le_refl _,by omega,.inr ⟨w.heap.size,0,rfl,by rw[World.size_setCell];exact hb,fun i hi=>?_⟩,fun i hi=>?_⟩,.inr (fun b off e=>by cases e;exact Nat.le_refl _),fun i hi=>?_⟩
 ·rw[Nat.zero_add];show _=some (Value.slice (if i=j then va else none) (dF j i).length (if i=j then vc else 0))
  unfold dF;by_cases e:i=j
  ·subst e;rw[if_pos rfl,if_pos rfl,if_pos rfl];exact gF (hc i hi)
  ·rw[if_neg e,if_neg e,if_neg e,aJ (pE (fun q=>e q.symm))];exact hc i hi
 ·show Rd _ (if i=j then va else none) (dF j i).length (if i=j then vc else 0) (lf (dF j i));unfold dF;by_cases e:i=j
  ·rw[if_pos e,if_pos e,if_pos e];exact fs.rd hv.1 (hv.2.2.imp id (fun⟨g,off,e1,hg⟩ b off' e2 q=>by rw[e1]at e2;cases e2;omega))
  ·rw[if_neg e,if_neg e,if_neg e];exact⟨Nat.le_refl _,by simp,.inl rfl⟩
 ·unfold dF;by_cases e:i=j
  ·rw[if_pos e];refine .inr fun b off e2=>?_;have e2:(if i=j then va else none)=some ⟨b,off,none⟩:=e2
   rw[if_pos e]at e2;show w.heap.size≤b
   rcases hv.2.2 with h0|⟨g,off',e1,hg⟩
   ·simp at h0
   ·rw[e1]at e2;cases e2;omega
  ·rw[if_neg e];exact .inl rfl
theorem RB {w w2:World} {n j:Nat} {va:Option Addr} {vc:Nat} (hj:j<n) (hn:n≤3) (hc:∀i,i<n→w2.cell? ⟨w.heap.size,i,none⟩=some (.slice none 0 0)) (hb:w.heap.size<w2.heap.size) (hv:gX (w.heap.size+1) w2 va vc [⟨1,⟨0,0,0,0⟩⟩]):dV w.heap.size (w2.setCell ⟨w.heap.size,j,none⟩ (.slice va 1 vc)) (some ⟨w.heap.size,0,none⟩) n n (fun i=>if i=j then va else none) (lN (dF j)) (fun i=>if i=j then vc else 0) (fN (dF j)) w.heap.size (fun _=>cH va) where
 rd:=(JM hj hn hc hb hv).1
 row:=.inr ⟨0,rfl,Nat.le_refl _⟩
 wr:=fun i hi=>by
  have fs:Fr (fun b=>b=w.heap.size) w2 (w2.setCell ⟨w.heap.size,j,none⟩ (.slice va 1 vc)):=(Fr.refl _ w2).set (fun _=>rfl);show Wr _ (if i=j then va else none) (dF j i).length (lf (dF j i))
  unfold dF;by_cases e:i=j
  ·rw[if_pos e,if_pos e];exact fs.wr hv.2.1 (hv.2.2.imp id (fun⟨g,off,e1,hg⟩ b off' e2 q=>by rw[e1]at e2;cases e2;omega))
  ·rw[if_neg e,if_neg e];exact .inl rfl
 el:=fun i hi=>by
  show(dF j i).length=0∨∃off,(if i=j then va else none)=some ⟨cH va,off,none⟩∧w.heap.size≤cH va∧cH va≠w.heap.size;unfold dF;by_cases e:i=j
  ·rw[if_pos e,if_pos e];rcases hv.2.2 with h0|⟨g,off,e1,hg⟩
   ·simp at h0
   ·have hk:=fE e1;exact .inr ⟨off,by rw[hk];exact e1,by omega,by omega⟩
  ·rw[if_neg e];exact .inl rfl
 ap:=fun i i' hii hi n1 n2=>by
  have q:∀x,lN (dF j) x≠0→x=j:=fun x hx=>by
   by_cases e:x=j
   ·exact e
   ·refine absurd ?_ hx;show(dF j x).length=0
    unfold dF;rw[if_neg e];rfl
  have:=q i n1;have:=q i' n2
  omega
theorem OY {w w1:World} {n:Nat} {v:Value} (hn:n≤3) (hz:v= .slice none 0 0) (h:w1.ownsRow w.heap.size 41 1 (.slice (some ⟨w.heap.size,0,none⟩) n n) n (madeCells v.cells (n*1)).toList):(∀i,i<n→w1.cell? ⟨w.heap.size,i,none⟩=some (.slice none 0 0))∧(∀j,w1.frozen? ⟨w.heap.size,j,none⟩=false):=by
 subst hz;refine⟨fun i hi=>?_,fun j=>?_⟩
 ·rw[h.cellAt i (by omega)];show((Array.range (n*1)).map (fun x=>(#[Value.slice none 0 0]:Array Value)[x%1]!)).toList[i]? =_
  have h1:i<n*1:=by omega
  simp[Nat.mod_one,hi]
 ·rcases h.2 with⟨hv,h0⟩|⟨b,cap,cur,hv,hlo,hg,_⟩
  ·cases hv
  ·have e:w.heap.size=b:=by injection hv with e1;injection e1 with e2;injection e2
   subst e;unfold World.frozen?;simp[hg]
theorem MA:rR 1 ⟨0,0,0,0⟩=[⟨1,⟨0,0,0,0⟩⟩]:=rfl
theorem KG (w:World) (Mb:Nat) (o:Int) (f:Nat) (ho:1≤o∧o≤3) (a:Option Addr) (n cap:Nat) (ad:Nat→Option Addr) (cp:Nat→Nat) (L:Nat→List T) (h:eH w a n cap ad (lN L) cp (fN L)) (hl:aW n (lN L) (fN L)=true) (hn:1≤n∧n≤3) (lo:Nat) (hlo:∀b off,a=some ⟨b,off,none⟩→b<lo) (hel:∀i,i<n→∀b off,ad i=some ⟨b,off,none⟩→b<lo) (tvL tvP lv:Value) (LS PS:List Value) (Bq:Nat→Nat) (hM:MW w lo Mb n o f ⟨0,L,fun k=>dF k⟩ 0 tvL tvP lv LS PS Bq) (hlw:lo≤w.heap.size):Calls Tryz.prog 36 #[.pointer (some ⟨Mb,0,none⟩),.slice a n cap] w fun e w'=>e= .returned (.tuple #[])∧∃tvL' tvP' lv' LS' PS' Bq',MW w' lo Mb n o f (CN n L) 0 tvL' tvP' lv' LS' PS' Bq'∧Fr (fun k=>lo≤k) w w':=by
 obtain⟨lb,off,rfl,hlb,hcl⟩:=h.2.2.1.resolve_left (by omega);have HH:=aA h
 have HC:=aA hcl;have HM:=aA hM
 have HLA:=aA (aU hl).2;have hn3:(n:Int)≤3:=by omega
 obtain⟨i0,hi0,hz0,hz1,hz2⟩:=info_parts pR;clear h hcl hM hl;go_enter Tryz.func36,Tryz.ntmps36;go_wp2;go_loopw [9] (fun v wr=>∃(j:Nat) (tvL tvP lv:Value) (LS PS:List Value) (Bq:Nat→Nat),j≤n∧v= .int .i64 (j:Int)∧MW wr lo Mb n o f ⟨j,L,fun k=>dF k⟩ 0 tvL tvP lv LS PS Bq∧Fr (fun k=>lo≤k) w wr) (fun v _=>n-(intOf v).toNat);case atStart=>exact⟨0,_,_,_,_,_,_,Nat.zero_le _,rfl,HM.out,Fr.refl _ _⟩
 case round=>
  obtain⟨j,tvL,tvP,lv,LS,PS,Bq,hj,rfl,hMj,hFj⟩:=hrel;have HMj:=aA hMj
  have HFj:=aA hFj;by_cases hlt:j<n
  ·have hjl:(j:Int)<(n:Int):=by omega
   have hlb2:¬lo≤lb:=by have:=hlo lb off rfl;omega
   have d0:wr.cell? ⟨lb,off+j,none⟩=some (.slice (ad j) (L j).length (cp j)):=(hFj.cell hlb hlb2).trans (HC.out j hlt);clear hMj hFj;have hrl:RL wr (ad j) (cp j) (L j):=HFj.out.rd (HH.out.2.2.2 j hlt) (.inr fun b off' e q=>by have:=hel j hlt b off' e;omega)
   have HRL:=aA hrl;have okj:=(HLA.out j hlt).2
   have ne0:=(HLA.out j hlt).1;have HOK:Hid (cJ (L j)=true):=okj
   have HNE:Hid ((L j).length≠0):=ne0;obtain⟨w1,hrun,hown1,hgr1⟩:=run_make_full (P:=Tryz.prog) wr wr.heap.size 24 41 i0 _ 1 Tryz.underlying24 hi0 hz0 hz1 .i64 .i64 n (by rw[hz2];omega) (by unfold maxLen;omega) (Nat.le_refl _);have hsw1:wr.heap.size<w1.heap.size:=(hown1.lt wr.heap.size rfl).2
   have b1:Below wr.heap.size wr w1:=⟨hgr1.os,hgr1.tape,hgr1.output,hgr1.size,fun k hk=>hgr1.block k hk (by simp)⟩
   have HB1:=aA b1;have HRC:=aA (OY (by omega) rfl hown1)
   have hlow:lo≤wr.heap.size:=gW hlw HFj.out.size;clear hrl okj ne0 b1 hown1 hgr1;go_wp2_with fail;refine(QA 1 0 0 0 0 _).mono ?_;rw[MA];rintro e w2 ⟨v,rfl,b2,hv⟩;obtain⟨va,vc,rfl,hvo⟩:=aM hv (by simp);have hb2:=aB HB1.out b2
   have hw2:wr.heap.size<w2.heap.size:=by have:=b2.size;omega
   have hc2:∀i,i<n→w2.cell? ⟨wr.heap.size,i,none⟩=some (.slice none 0 0):=fun i hi=>(b2.cell (p:=⟨wr.heap.size,i,none⟩) hsw1).trans (HRC.out.1 i hi);have cj:=hc2 j hlt
   have zj:w2.frozen? ⟨wr.heap.size,j,none⟩=false:=(b2.frozen (p:=⟨wr.heap.size,j,none⟩) hsw1).trans (HRC.out.2 j);have hvo':gX (wr.heap.size+1) w2 va vc [⟨1,⟨0,0,0,0⟩⟩]:=hvo.low (by omega)
   have HROW:=aA (JM hlt (by omega) hc2 hw2 hvo');have HRO:=aA (RB hlt (by omega) hc2 hw2 hvo')
   have HB3:Hid (Below wr.heap.size wr (w2.setCell ⟨wr.heap.size,j,none⟩ (.slice va 1 vc))):=hb2.setCell (Nat.le_refl _) _;clear b2 hv hvo hvo' hb2 hc2 HRC HB1 hrun;go_wp2_with fail;clear cj zj;generalize(w2.setCell ⟨wr.heap.size,j,none⟩ (.slice va 1 vc))=w3 at HROW HRO HB3⊢;refine(XF w3 (ad j) (cp j) (L j) (HRL.out.below HB3.out) HNE.out (aD HOK.out).1).mono ?_;rintro e w4 ⟨ca,cc,rfl,b4,hco⟩;have hb4:=aB HB3.out b4
   have HM4:=aA (HMj.out.below hb4);have hs3:wr.heap.size≤w3.heap.size:=HB3.out.size
   have far:∀b,wr.heap.size≤b→NB (QY lo Mb lv Bq 0 (bA j)) tvL tvP b:=fun b hb=>NB.far (m:=wr.heap.size) (fun k e=>(HMj.out.bk.rL.lt k e).2) (fun k e=>(HMj.out.bk.rP.lt k e).2) (fun k q=>HMj.out.ylt q) hb;have HR4:Hid (xC (NB (QY lo Mb lv Bq 0 (bA j)) tvL tvP) w4 ca cc (L j)):=⟨hco.1,hco.2.2.imp id (fun⟨g,off',e,hg⟩ b o2 e2=>by rw[e]at e2;cases e2;exact far _ (by omega))⟩
   have HRS4:Hid (uI (NB (QY lo Mb lv Bq 0 (bA j)) tvL tvP) w4 (some ⟨wr.heap.size,0,none⟩) n n (fun i=>if i=j then va else none) (fun i=>if i=j then vc else 0) (dF j)):=(HROW.out.fr (P:=fun _=>False) (aO b4) (fun _ _ q=>q)).mono (fun b _ hb=>far b hb);have HOC4:Hid (wY (NB (QY lo Mb lv Bq 0 (bA j)) tvL tvP) w4 lo j n L (fun k=>dF k) LS PS (some ⟨wr.heap.size,0,none⟩) n (jI ca (fun i=>if i=j then va else none)) (jI cc (fun i=>if i=j then vc else 0)) (jI (L j) (dF j))):=HMj.out.ow.wait hb4 (XG hs3 far HRO.out b4 hco)
   have HF4:Hid (Fr (fun k=>lo≤k) w w4):=HFj.out.trans (aO hb4);have HAD:=aA (WB w4 lo Mb n o f ⟨j,L,fun k=>dF k⟩ 0 tvL tvP lv LS PS Bq HM4.out ho (by show j≤11;omega) ca cc (L j) HR4.out HOK.out HNE.out _ n _ _ (dF j) HRS4.out HOC4.out)
   clear b4 hco hb4 far HROW HRO HB3 HR4 HRS4 HOC4 HM4;go_wp2_with fail;refine HAD.out.mono ?_;rintro e w5 ⟨rfl,tvL5,tvP5,lv5,LS5,PS5,Bq5,hM5,hF5⟩;have eB:zE ⟨j,L,fun k=>dF k⟩ (L j) (dF j)=⟨j+1,L,fun k=>dF k⟩:=by unfold zE;rw[yU,EX]
   rw[eB]at hM5;have HM5:=aA hM5
   have HF5:=aA (HF4.out.trans hF5);clear hM5 hF5 eB;go_wp2;go_roundw;case rel=>exact⟨j+1,_,_,_,_,_,_,by omega,by go_num,HM5.out,HF5.out⟩
   case measure=>simp[intOf];omega
  ·have hjn:¬(j:Int)<(n:Int):=by omega
   have hje:j=n:=by omega
   subst hje;clear hMj hFj;go_wp2
   go_end0
   exact⟨rfl,⟨_,_,_,_,_,_,HMj.out⟩,HFj.out⟩
end Go.Proofs.YtelkehjdfcoeiaaGreat
