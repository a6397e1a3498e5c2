/-
  A pair is looked at: (*impl.grbMaking).lookAt.
-/
import Derived.Test.YtdidlcjhodejjaaGreatMMab
import Derived.Test.YtdidlcjhodejjaaGreatMIab
set_option maxHeartbeats 16000000
set_option maxRecDepth 100000
namespace Go.Proofs.YtdidlcjhodejjaaGreat
open Go.RowKit Go.Deep Go.Joins
set_option linter.unusedVariables false
set_option linter.unusedSimpArgs false
theorem Kl {o:Int} {n:Nat} {L:Nat→List T} (ho:1≤o∧o≤3) (hl:aT n (lN L) (fN L)=true) {j:Nat} (hj:j<aZ n):QK o (L (pq j).1) (L (pq j).2)=(oW (fun i=>aV o (L i)) j).t1∧TA o (L (pq j).1) (L (pq j).2)=(oW (fun i=>aV o (L i)) j).t2∧VP o (L (pq j).1) (L (pq j).2)=mE (oW (fun i=>aV o (L i)) j).t1 (oW (fun i=>aV o (L i)) j).t2 (lf (L (pq j).1)) (L (pq j).1).length (lf (L (pq j).2)) (L (pq j).2).length:=by
 obtain⟨h1,h2⟩:=DI hj;have hL:=yJ ho hl
 have li:bQ o (L (pq j).1).length (lf (L (pq j).1))=aV o (L (pq j).1):=(yH hL.ho (hL.fl _ (by omega)).1 (hL.fl _ (by omega)).2).symm;have lk:bQ o (L (pq j).2).length (lf (L (pq j).2))=aV o (L (pq j).2):=(yH hL.ho (hL.fl _ h2).1 (hL.fl _ h2).2).symm
 have k1:EZ o (L (pq j).1)=true:=fT.2 ⟨ho,(hL.fl _ (by omega)).1,fun e=>(hL.fl (pq j).1 (by omega)).2 (by rw[e];rfl)⟩;have k2:EZ o (L (pq j).2)=true:=fT.2 ⟨ho,(hL.fl _ h2).1,fun e=>(hL.fl (pq j).2 h2).2 (by rw[e];rfl)⟩
 have hok:gB o (L (pq j).1).length (lf (L (pq j).1)) (L (pq j).2).length (lf (L (pq j).2))=true:=by unfold gB;rw[show bF o (L (pq j).1).length (lf (L (pq j).1))=true from k1,show bF o (L (pq j).2).length (lf (L (pq j).2))=true from k2];rfl
 have eU:QK o (L (pq j).1) (L (pq j).2)=(oW (fun i=>aV o (L i)) j).t1:=by unfold QK gL oH oW;rw[if_pos hok,li,lk]
 have eV:TA o (L (pq j).1) (L (pq j).2)=(oW (fun i=>aV o (L i)) j).t2:=by unfold TA gM oH oW;rw[if_pos hok,li,lk]
 refine⟨eU,eV,?_⟩;unfold VP dV;rw[if_pos hok];show mE (QK o (L (pq j).1) (L (pq j).2)) (TA o (L (pq j).1) (L (pq j).2)) _ _ _ _=_
 rw[eU,eV]
def Pg (w:World) (lo Mb g:Nat) (o:Int) (f:Nat) (B:Bs) (a:Nat) (E:Option Bs) (r:Ending) (w':World):Prop:=
 Fr (fun k=>lo≤k) w w'∧((∃tvL tvP lv LS PS Bq,E=none∧r= .panicked [{v:=fG,recovered:=false}]∧MW w' lo Mb g o f B a tvL tvP lv LS PS Bq)∨(∃B' tvL tvP lv LS PS Bq,E=some B'∧r= .returned (.tuple #[])∧MW w' lo Mb g o f B' a tvL tvP lv LS PS Bq))
theorem Jd (w:World) (lo Mb g:Nat) (o:Int) (f:Nat) (B:Bs) (j:Nat) (tvL tvP lv:Value) (LS PS:List Value) (Bq:Nat→Nat) (h:MW w lo Mb g o f B (j+1) tvL tvP lv LS PS Bq) (hB:EU o g B) (hg:g≤12) (hj:j<aZ B.m) (pb:Nat) (nx:Option Addr) (hp:jK w pb (oW (fun i=>aV o (B.L i)) j) nx):Calls Tryz.prog 142 #[.pointer (some ⟨Mb,0,none⟩),.pointer (some ⟨pb,0,none⟩)] w (Pg w lo Mb g o f B (j+1) (gJ o g B (pq j).1 (pq j).2)):=by
 obtain⟨h1,h2⟩:=DI hj;obtain⟨eU,eV,eP⟩:=Kl hB.ho hB.l hj;obtain⟨E,hE⟩:∃E,gJ o g B (pq j).1 (pq j).2=E:=⟨_,rfl⟩
 rw[hE];obtain⟨la0,lc0,lad,lcp,rfl,hRL⟩:=h.bk.readL (by have:=h.m12;omega);obtain⟨pa0,ET,A,C,AD,CP,rfl,hRP⟩:=h.bk.readP (by have:=h.m12;omega);obtain⟨R,hR⟩:∃R,EX o B.m B.L (oW (fun i=>aV o (B.L i)) j)=R:=⟨_,rfl⟩
 have dw:Below w.heap.size w w.drew:=(bL _ _).drew;have hc:=MG w.drew pb _ nx (hp.below dw) o la0 B.m lc0 lad lcp B.L (hRL.below dw) (show(pq j).1<B.m by omega) (show(pq j).2<B.m from h2) hR
 have HC:=aA hc;have HH:=aA h
 have HBo:=aA hB;have HE:=aA hE
 have HR:=aA hR;have HP:=aA hp
 have HRP:=aA hRP;have HEQ:=aA (And.intro eU (And.intro eV eP))
 have HS0:Hid (w.drew.cell? ⟨Mb,3,none⟩=some (.int .i64 o)∧w.drew.cell? ⟨Mb,0,none⟩=some (.slice la0 B.m lc0)):=⟨h.bx.c3,h.bx.c0⟩
 have hMl:Mb<w.heap.size:=h.bx.lt;have hm12:(B.m:Int)≤12:=by have:=h.m12;omega
 have m12:=h.m12;clear h hB hE hR hp hRP hRL hc eU eV eP dw;cases R with
 |none=>
  have hEn:E=none:=by
   rw[←HE.out];have hR:=HR.out
   unfold EX at hR;split at hR
   ·rename_i s hs;exact EE (g:=g) (HEQ.out.2.2.trans hs) hR
   ·rename_i s hs;exact PW (g:=g) (HEQ.out.2.2.trans hs)
  subst hEn;have HCN:Hid (Calls Tryz.prog 81 #[.pointer (some ⟨pb,0,none⟩),.int .i64 o,.slice la0 B.m lc0] w.drew fun r w'=>r= .panicked [{v:=fG,recovered:=false}]∧Below w.drew.heap.size w.drew w'):=HC.out.mono fun r w' hh=>by
   rcases hh with⟨hb,⟨S,_,_,_,_,_,_,_,_,_,_,e,_⟩|⟨_,e⟩⟩
   ·cases e
   ·exact⟨e,hb⟩
  clear HC;go_enter Tryz.func142,Tryz.ntmps142;go_wp2_with fail;have hS:=HS0.out
  refine wp_region_held_drew (S:=(fun x=>x.cell? ⟨Mb,3,none⟩=some (.int .i64 o)∧x.cell? ⟨Mb,0,none⟩=some (.slice la0 B.m lc0))) (by kernel_rfl) (hS) (fun hHeld=>?_);refine wpAnyH_take (i:=0) (v:=?_) rfl (by kernel_rfl) (by kernel_rfl) (by kernel_rfl) (fun _ _ _ h=>h) (Or.inl ⟨by rfl,?_⟩) (by assumption) ?_;rotate_left
  ·(intro w9 hSw;(try dsimp only at hSw);go_simp)<;>with_reducible rfl
  try simp only[Act.put,gG]
  refine wpAnyH_take (i:=1) (v:=?_) rfl (by kernel_rfl) (by kernel_rfl) (by kernel_rfl) (fun _ _ _ h=>h) (Or.inl ⟨by rfl,?_⟩) (by assumption) ?_;rotate_left
  ·(intro w9 hSw;(try dsimp only at hSw);go_simp)<;>with_reducible rfl
  try simp only[Act.put,gG]
  refine wpAnyH_take (i:=2) (v:=?_) rfl (by kernel_rfl) (by kernel_rfl) (by kernel_rfl) (fun _ _ _ h=>h) (Or.inl ⟨by rfl,?_⟩) (by assumption) ?_;rotate_left
  ·(intro w9 hSw;(try dsimp only at hSw);go_simp)<;>with_reducible rfl
  try simp only[Act.put,gG]
  refine wpAnyH_take (i:=3) (v:=?_) rfl (by kernel_rfl) (by kernel_rfl) (by kernel_rfl) (fun _ _ _ h=>h) (Or.inl ⟨by rfl,?_⟩) (by assumption) ?_;rotate_left
  ·(intro w9 hSw;(try dsimp only at hSw);go_simp)<;>with_reducible rfl
  try simp only[Act.put,gG]
  refine wpAnyH_take (i:=4) (v:=?_) rfl (by kernel_rfl) (by kernel_rfl) (by kernel_rfl) (fun _ _ _ h=>h) (Or.inl ⟨by rfl,?_⟩) (by assumption) ?_;rotate_left
  ·(intro w9 hSw;(try dsimp only at hSw);go_simp)<;>with_reducible rfl
  try simp only[Act.put,gG]
  refine wpAnyH_take (i:=5) (v:=?_) rfl (by kernel_rfl) (by kernel_rfl) (by kernel_rfl) (fun _ _ _ h=>h) (Or.inl ⟨by rfl,?_⟩) (by assumption) ?_;rotate_left
  ·(intro w9 hSw;(try dsimp only at hSw);go_simp)<;>with_reducible rfl
  try simp only[Act.put,gG]
  refine wpAnyH_take (i:=6) (v:=?_) rfl (by kernel_rfl) (by kernel_rfl) (by kernel_rfl) (fun _ _ _ h=>h) (Or.inl ⟨by rfl,?_⟩) (by assumption) ?_;rotate_left
  ·(intro w9 hSw;(try dsimp only at hSw);go_simp)<;>with_reducible rfl
  try simp only[Act.put,gG]
  refine wpAnyH_take (i:=7) (v:=?_) rfl (by kernel_rfl) (by kernel_rfl) (by kernel_rfl) (fun _ _ _ h=>h) (Or.inl ⟨by rfl,?_⟩) (by assumption) ?_;rotate_left
  ·(intro w9 hSw;(try dsimp only at hSw);go_simp)<;>with_reducible rfl
  try simp only[Act.put,gG]
  refine wpAnyH_take (i:=8) (v:=?_) rfl (by kernel_rfl) (by kernel_rfl) (by kernel_rfl) (fun _ _ _ h=>h) (Or.inl ⟨by rfl,?_⟩) (by assumption) ?_;rotate_left
  ·(intro w9 hSw;(try dsimp only at hSw);go_simp)<;>with_reducible rfl
  try simp only[Act.put,gG]
  refine wpAnyH_take (i:=9) (v:=?_) rfl (by kernel_rfl) (by kernel_rfl) (by kernel_rfl) (fun _ _ _ h=>h) (Or.inl ⟨by rfl,?_⟩) (by assumption) ?_;rotate_left
  ·(intro w9 hSw;(try dsimp only at hSw);go_simp)<;>with_reducible rfl
  try simp only[Act.put,gG]
  refine wpAnyH_ready (rs:=[10]) (by kernel_rfl) (by simp) ?_;refine AllReadyH.cons rfl (fun K hK=>?_) AllReadyH.nil;go_simp;go_wp2_with (go_at_call 81;refine HCN.out.mono ?_;rintro e w5 ⟨rfl,b5⟩);have b5':=aB (bL _ w).drew b5
  exact⟨rfl,bA b5',.inl ⟨_,_,_,_,_,_,rfl,rfl,HH.out.below b5'⟩⟩
 |some S=>
  obtain⟨s,hs,hrs⟩:∃s,VP o (B.L (pq j).1) (B.L (pq j).2)=(s,true)∧aW o s B.m (lN B.L) (fN B.L)=some S:=by
   have hR:=HR.out;unfold EX at hR;split at hR
   ·rename_i s hs;exact⟨s,HEQ.out.2.2.trans hs,hR⟩
   ·cases hR
  have HSP:=aA hs;have HRA:=aA hrs
  have HCY:Hid (Calls Tryz.prog 81 #[.pointer (some ⟨pb,0,none⟩),.int .i64 o,.slice la0 B.m lc0] w.drew fun r w'=>∃qa qc ad cp la lc,r= .returned (.tuple #[.slice qa B.m qc,.slice la S.r.length lc])∧Below w.drew.heap.size w.drew w'∧cZ w' qa B.m qc ad (lN S.q) cp (fN S.q)∧jN w.heap.size w' la lc S.r):=HC.out.mono fun r w' hh=>by
   rcases hh with⟨hb,⟨S',qa,qc,ad,cp,Rb,B',la,lc,mid,lo',e,e2,hlo',o1,o2,_,_,hmid⟩|⟨e,_⟩⟩
   ·cases e;have hdw:w.drew.heap.size=w.heap.size:=by simp
    exact⟨qa,qc,ad,cp,la,lc,e2,hb,o1.rd,o2.low (by omega)⟩
   ·cases e
  have hs300:(S.r.length:Int)≤300:=by have:=(dG hrs).1.r.2;omega
  clear HC hs hrs;go_enter Tryz.func142,Tryz.ntmps142;go_wp2_with fail;have hS:=HS0.out
  go_region_held3 (fun x=>x.cell? ⟨Mb,3,none⟩=some (.int .i64 o)∧x.cell? ⟨Mb,0,none⟩=some (.slice la0 B.m lc0)) (first|with_reducible exact hS|with_reducible exact hS5) (first|(go_at_call 81;refine HCY.out.mono ?_;rintro e w5 ⟨qa,qc,qad,qcp,la,lc,rfl,b5,hq5,ho5⟩;have hS5:w5.cell? ⟨Mb,3,none⟩=some (.int .i64 o)∧w5.cell? ⟨Mb,0,none⟩=some (.slice la0 B.m lc0):=⟨(b5.cell (p:=⟨Mb,3,none⟩) hMl).trans hS.1,(b5.cell (p:=⟨Mb,0,none⟩) hMl).trans hS.2⟩))
  have b5':=aB (bL _ w).drew b5;have HB5:=aA b5'
  have HM5:=aA (HH.out.below b5');have HQ5:=aA hq5
  have HO5:=aA ho5;have e0:=hS5.2
  have e1:=HM5.out.bx.c1;clear hS hS5 b5 b5' hq5 ho5 HCY;by_cases h0:S.r.length=0
  ·have hEs:E=some B:=by rw[←HE.out];exact EF HSP.out HRA.out h0
   subst hEs;have hq0:((S.r.length:Int)==0)=true:=by rw[h0];rfl
   clear h0 e0 e1;go_wp2
   go_end0
   exact⟨bA HB5.out,.inr ⟨B,_,_,_,_,_,_,rfl,rfl,HM5.out⟩⟩
  have hq0:((S.r.length:Int)==0)=false:=beq_eq_false_iff_ne.2 (by omega);by_cases h12:B.m=12
  ·have hEn:E=none:=by rw[←HE.out];exact EB HSP.out HRA.out h0 h12
   subst hEn;have hmb:((B.m:Int)==12)=true:=by rw[h12];rfl
   clear h0 h12 e1;go_wp2;exact⟨rfl,bA HB5.out,.inl ⟨_,_,_,_,_,_,rfl,rfl,HM5.out⟩⟩
  have hmb:((B.m:Int)==12)=false:=beq_eq_false_iff_ne.2 (by omega);have HH0:=aA (And.intro h0 h12)
  clear h0 h12;obtain⟨E2,hE2⟩:∃E2,rR g B.P (pq j).1 (pq j).2 (QK o (B.L (pq j).1) (B.L (pq j).2)) (TA o (B.L (pq j).1) (B.L (pq j).2)) B.m S.q=E2:=⟨_,rfl⟩
  obtain⟨_,gU,gV⟩:=tS HSP.out;have hrow:=Jf (show(pq j).1<B.m by omega) h2 HBo.out.p gU gV (fun t _=>gE (by have:=((dG HRA.out).1.q t).2;omega) ((dG HRA.out).1.q t).1)
  rw[hE2,HEQ.out.1,HEQ.out.2.1]at hrow;have HPO:=aA (Ex w5 Mb pb (oW (fun i=>aV o (B.L i)) j) nx (HP.out.below HB5.out) g B.m hg m12 pa0 ET HM5.out.bx.c1 A C AD CP B.P (HRP.out.below HB5.out) (show(pq j).1<B.m by omega) (show(pq j).2<B.m from h2) qa qc qad qcp S.q HQ5.out hrow)
  have HE2:=aA hE2;clear hE2 hrow gU gV;go_wp2_with fail;refine HPO.out.mono ?_;rintro e w6 ⟨b6,h6⟩;have b6':=aB HB5.out b6
  have HB6:=aA b6';have HM6:=aA (HM5.out.below b6)
  have HO6:=aA (HO5.out.below b6);have hs56:w.heap.size≤w5.heap.size:=HB5.out.size
  clear b6 b6' e0 e1 HPO;rcases h6 with⟨RW,ra,rc,rad,rcp,xlo,xRb,xB,rfl,rfl,hxl,hxo⟩|⟨rfl,rfl⟩
  ·have hEs:E=some (IW B S.r RW):=by rw[←HE.out];exact EC HSP.out HRA.out HH0.out.1 HH0.out.2 HE2.out
   subst hEs;have far:∀b,w.heap.size≤b→NB (QY lo Mb lv Bq (j+1) (aZ B.m)) (.slice la0 B.m lc0) (.slice pa0 B.m ET) b:=fun b hb=>NB.far (m:=w.heap.size) (fun k e=>(HH.out.bk.rL.lt k e).2) (fun k e=>(HH.out.bk.rP.lt k e).2) (fun k q=>HH.out.ylt q) hb
   have HR6:Hid (ES (NB (QY lo Mb lv Bq (j+1) (aZ B.m)) (.slice la0 B.m lc0) (.slice pa0 B.m ET)) w6 la lc S.r):=⟨HO6.out.1,HO6.out.2.2.imp id (fun⟨g,off',e,hg⟩ b o2 e2=>by rw[e]at e2;cases e2;exact far _ hg)⟩
   have HRS6:Hid (tU (NB (QY lo Mb lv Bq (j+1) (aZ B.m)) (.slice la0 B.m lc0) (.slice pa0 B.m ET)) w6 ra g rc rad rcp RW):=(DQ (hi:=w6.heap.size) hxo (Nat.le_refl _)).mono (fun b _ hb=>far b (by omega));have hrok:cG S.r=true:=gE (by have:=(dG HRA.out).1.r.2;omega) (dG HRA.out).1.r.1
   have HAD:=aA (Lh w6 lo Mb g o f B (j+1) _ _ lv LS PS Bq HM6.out HBo.out.ho (by have:=HH0.out.2;omega) la lc S.r HR6.out hrok HH0.out.1 ra rc rad rcp RW HRS6.out);clear far HR6 HRS6 hrok hxl hxo;go_wp2_with fail;refine HAD.out.mono ?_;rintro e w7 ⟨rfl,tvL7,tvP7,lv7,LS7,PS7,Bq7,hM7,hF7⟩;have HM7:=aA hM7
   have HF7:Hid (Fr (fun k=>lo≤k) w w7):=(bA HB6.out).trans hF7;clear hM7 hF7;go_wp2
   go_end0
   exact⟨HF7.out,.inr ⟨_,_,_,_,_,_,_,rfl,rfl,HM7.out⟩⟩
  ·have hEn:E=none:=by rw[←HE.out];exact ED HSP.out HRA.out HH0.out.1 HH0.out.2 HE2.out
   subst hEn;exact⟨rfl,bA HB6.out,.inl ⟨_,_,_,_,_,_,rfl,rfl,HM6.out⟩⟩
def Pj (w:World) (lo Mb g:Nat) (o:Int) (f:Nat) (B:Bs) (j:Nat) (p:Option Addr) (u:World):Prop:=
 Fr (fun k=>lo≤k) w u∧((j<aZ B.m∧∃pb nx tvL tvP lv LS PS Bq,p=some ⟨pb,0,none⟩∧MW u lo Mb g o f B (j+1) tvL tvP lv LS PS Bq∧jK u pb (oW (fun i=>aV o (B.L i)) j) nx)∨(aZ B.m≤j∧p=none∧∃tvL tvP lv LS PS Bq,MW u lo Mb g o f B j tvL tvP lv LS PS Bq))
theorem Mc (w:World) (lo Mb g:Nat) (o:Int) (f:Nat) (B:Bs) (j:Nat) (tvL tvP lv:Value) (LS PS:List Value) (Bq:Nat→Nat) (h:MW w lo Mb g o f B j tvL tvP lv LS PS Bq):Calls Tryz.prog 80 #[.pointer (some ⟨Mb,4,none⟩)] w fun r u=>∃p,r= .returned (.pointer p)∧Pj w lo Mb g o f B j p u:=by
 by_cases hlt:j<aZ B.m
 ·refine(Tg w lo Mb 4 lv B.m _ Bq j (aZ B.m) h.qu hlt).mono ?_;rintro r u ⟨rfl,hq,hp,hf,hk⟩;refine⟨_,rfl,hf.mono (fun k _ e=>by rw[e];exact h.lo),.inl ⟨hlt,Bq j,_,tvL,tvP,lv,LS,PS,Bq,rfl,⟨h.bx.kx hk hq,hq,(h.bk.fr hf (fun b e=>.inr (.inl e))).yet (fun b _ q=>?_),by omega,h.m12,h.lo⟩,hp⟩⟩;rcases q with q|q|q|⟨i,i1,i2,q⟩
  ·exact .inl q
  ·exact .inr (.inl q)
  ·exact .inr (.inr (.inl q))
  ·exact .inr (.inr (.inr ⟨i,by omega,i2,q⟩))
 ·refine(IA w lo Mb 4 lv B.m _ Bq j (aZ B.m) h.qu hlt).mono ?_;rintro r u ⟨rfl,rfl⟩;exact⟨_,rfl,Fr.refl _ _,.inr ⟨by omega,rfl,tvL,tvP,lv,LS,PS,Bq,h⟩⟩
theorem Ri {w:World} {pb Mb:Nat} {p:Pr} {nx:Option Addr} {tvL tvP:Value} {o:Int} {f:Nat} (h:jK w pb p nx) (hx:Mx w Mb tvL tvP o f):¬pb=Mb:=fun e=>by
 have h1:=h.a2;have h2:=hx.c2
 rw[e,h2]at h1;cases h1
def Pa (w:World) (lo Mb g:Nat) (o:Int) (G:Bs×Bool) (r:Ending) (w':World):Prop:=
 Fr (fun k=>lo≤k) w w'∧((G.2=true∧r= .returned (.tuple #[]))∨(G.2=false∧r= .panicked [{v:=fG,recovered:=false}]))∧∃f a tvL tvP lv LS PS Bq,MW w' lo Mb g o f G.1 a tvL tvP lv LS PS Bq
theorem IZ {w w':World} {lo Mb g:Nat} {o:Int} {G:Bs×Bool} {r:Ending} {B:Bs} {d:Bool} (hG:G=(B,d)) (hf:Fr (fun k=>lo≤k) w w') (hr:(d=true∧r= .returned (.tuple #[]))∨(d=false∧r= .panicked [{v:=fG,recovered:=false}])) {f a:Nat} {tvL tvP lv:Value} {LS PS:List Value} {Bq:Nat→Nat} (hm:MW w' lo Mb g o f B a tvL tvP lv LS PS Bq):Pa w lo Mb g o G r w':=by subst hG;exact⟨hf,hr,f,a,tvL,tvP,lv,LS,PS,Bq,hm⟩
theorem RU (w:World) (lo Mb g:Nat) (o:Int) (f0:Nat) (hf60:f0≤60) (B0:Bs) (tvL tvP lv:Value) (LS PS:List Value) (Bq:Nat→Nat) (h:MW w lo Mb g o f0 B0 0 tvL tvP lv LS PS Bq) (hB:EU o g B0) (hg:g≤12) {G:Bs×Bool} (hG:oN o g f0 B0 0=G):Calls Tryz.prog 99 #[.pointer (some ⟨Mb,0,none⟩)] w (Pa w lo Mb g o G):=by
 have HH:=aA h;have HB:=aA hB
 have HG:=aA hG;clear h hB hG;go_enter Tryz.func99,Tryz.ntmps99;go_wp2_with fail;refine(Mc w lo Mb g o f0 B0 0 _ _ _ _ _ _ HH.out).mono ?_;rintro r w1 ⟨p1,rfl,hp1⟩;have HP1:=aA hp1
 clear hp1;go_wp2
 go_loopg [2] f0 (fun gk pv wr=>∃(B:Bs) (j:Nat) (p:Option Addr) (wb:World),gk≤60∧pv= .pointer p∧EU o g B∧oN o g gk B j=G∧Fr (fun k=>lo≤k) w wb∧Pj wb lo Mb g o gk B j p wr)
 case atStart=>exact⟨B0,0,p1,w,hf60,rfl,HB.out,HG.out,Fr.refl _ _,HP1.out⟩
 case round=>
  obtain⟨B,j,p,wb,hgk,rfl,hBo,hgr,hFb,hF1,hcase⟩:=hrel;have hF:=hFb.trans hF1
  have HF:=aA hF;have HGR:=aA hgr
  have HBo:=aA hBo;rcases hcase with⟨hlt,pb,nx,tvL1,tvP1,lv1,LS1,PS1,Bq1,rfl,hM,hpr⟩|⟨hge,rfl,tvL1,tvP1,lv1,LS1,PS1,Bq1,hM⟩
  ·have HM:=aA hM;have HPR:=aA hpr
   have c7:=hM.bx.c7;have z7:=hM.bx.fz 7
   clear hF hFb hF1 hgr hBo hM hpr;rcases gk with _|gk
   ·have HGE:=aA (HGR.out.symm.trans (ND hlt));go_wp2;refine⟨rfl,?_⟩;exact IZ HGE.out HF.out (.inr ⟨rfl,rfl⟩) HM.out
   have hf1:(((gk+1:Nat):Int)==0)=false:=by simp;omega
   have hfw:IntKind.i64.wrap (((gk+1:Nat):Int)-1)=(gk:Int):=by rw[IntKind.wrap_i64];omega
   have hfw2:((gk+1:Nat):Int)-1=(gk:Int):=by omega
   have hM2:MW (wr.setCell ⟨Mb,7,none⟩ (.int .i64 (gk:Int))) lo Mb g o gk B (j+1) tvL1 tvP1 lv1 LS1 PS1 Bq1:=⟨HM.out.bx.set7 gk,HM.out.qu.put (by decide) _,HM.out.bk.fr ((Fr.refl (QY lo Mb lv1 Bq1 (j+1) (aZ B.m)) wr).set (fun _=>.inr (.inl rfl))) (fun b q=>q),HM.out.le,HM.out.m12,HM.out.lo⟩
   have HM2:=aA hM2;have hF2:Fr (fun k=>lo≤k) w (wr.setCell ⟨Mb,7,none⟩ (.int .i64 (gk:Int))):=HF.out.set (fun _=>HM.out.lo)
   have HF2:=aA hF2;have HPR2:Hid (jK (wr.setCell ⟨Mb,7,none⟩ (.int .i64 (gk:Int))) pb (oW (fun i=>aV o (B.L i)) j) nx):=HPR.out.fr ((Fr.refl (fun k=>k=Mb) wr).set (fun _=>rfl)) (Ri HPR.out HM.out.bx)
   obtain⟨E,hE⟩:∃E,gJ o g B (pq j).1 (pq j).2=E:=⟨_,rfl⟩
   have hcl:=Jd (wr.setCell ⟨Mb,7,none⟩ (.int .i64 (gk:Int))) lo Mb g o gk B j _ _ _ _ _ _ HM2.out HBo.out hg hlt pb nx HPR2.out;rw[hE]at hcl;have HCL:=aA hcl
   have HE:=aA hE;clear hM2 hF2 hcl hE;go_wp2_with fail;refine HCL.out.mono ?_;rintro r w3 ⟨hF3,hc3⟩;have HF3:=aA (HF2.out.trans hF3)
   clear c7 z7 hF3 HCL;rcases hc3 with⟨tvL3,tvP3,lv3,LS3,PS3,Bq3,rfl,rfl,hM3⟩|⟨B3,tvL3,tvP3,lv3,LS3,PS3,Bq3,rfl,rfl,hM3⟩
   ·have hGE:G=(B,false):=HGR.out.symm.trans (by rw[oN,if_pos hlt];simp only[HE.out]);have HM3:=aA hM3
    clear hM3;refine⟨rfl,?_⟩;exact IZ hGE HF3.out (.inr ⟨rfl,rfl⟩) HM3.out
   ·have hGE:oN o g gk B3 (j+1)=G:=by rw[←HGR.out,oN,if_pos hlt];simp only[HE.out]
    obtain⟨h1,h2⟩:=DI hlt;have hB3:=xI HBo.out (by omega) h2 HE.out
    have HGE:=aA hGE;have HB3:=aA hB3
    have HM3:=aA hM3;clear hGE hB3 hM3;go_wp2_with fail;refine(Mc w3 lo Mb g o gk B3 (j+1) _ _ _ _ _ _ HM3.out).mono ?_;rintro r w4 ⟨p4,rfl,hp4⟩;have HP4:=aA hp4
    clear hp4;go_wp2
    go_roundg gk
    case measure=>omega
    case rel=>exact⟨B3,j+1,p4,w3,by omega,rfl,HB3.out,HGE.out,HF3.out,HP4.out⟩
  ·have HGE:=aA (HGR.out.symm.trans (GD (o:=o) (g:=g) (f:=gk) hge));have HM:=aA hM
   clear hF hFb hF1 hgr hBo hM;go_wp2
   go_end0
   exact IZ HGE.out HF.out (.inl ⟨rfl,rfl⟩) HM.out
theorem Ka {w w2:World} {n j:Nat} {va:Option Addr} {vc:Nat} (hj:j<n) (hn:n≤3) (hc:∀i,i<n→w2.cell? ⟨w.heap.size,i,none⟩=some (.slice none 0 0)) (hb:w.heap.size<w2.heap.size) (hv:jN (w.heap.size+1) w2 va vc [⟨1,⟨0,0,0,0⟩⟩]):tU (fun b=>w.heap.size≤b) (w2.setCell ⟨w.heap.size,j,none⟩ (.slice va 1 vc)) (some ⟨w.heap.size,0,none⟩) n n (fun i=>if i=j then va else none) (fun i=>if i=j then vc else 0) (jD j):=by
 have fs:Fr (fun b=>b=w.heap.size) w2 (w2.setCell ⟨w.heap.size,j,none⟩ (.slice va 1 vc)):=(Fr.refl _ w2).set (fun _=>rfl);refine⟨⟨Nat.le_refl _,by omega,.inr ⟨w.heap.size,0,rfl,by rw[World.size_setCell];exact hb,fun i hi=>?_⟩,fun i hi=>?_⟩,.inr (fun b off e=>by cases e;exact Nat.le_refl _),fun i hi=>?_⟩
 ·rw[Nat.zero_add];show _=some (Value.slice (if i=j then va else none) (jD j i).length (if i=j then vc else 0))
  unfold jD;by_cases e:i=j
  ·subst e;rw[if_pos rfl,if_pos rfl,if_pos rfl];exact iX (hc i hi)
  ·rw[if_neg e,if_neg e,if_neg e,aS (tW (fun q=>e q.symm))];exact hc i hi
 ·show Rd _ (if i=j then va else none) (jD j i).length (if i=j then vc else 0) (lf (jD j i));unfold jD;by_cases e:i=j
  ·rw[if_pos e,if_pos e,if_pos e];exact fs.rd hv.1 (hv.2.2.imp id (fun⟨g,off,e1,hg⟩ b off' e2 q=>by rw[e1]at e2;cases e2;omega))
  ·rw[if_neg e,if_neg e,if_neg e];exact⟨Nat.le_refl _,by simp,.inl rfl⟩
 ·unfold jD;by_cases e:i=j
  ·rw[if_pos e];refine .inr fun b off e2=>?_;have e2:(if i=j then va else none)=some ⟨b,off,none⟩:=e2
   rw[if_pos e]at e2;show w.heap.size≤b
   rcases hv.2.2 with h0|⟨g,off',e1,hg⟩
   ·simp at h0
   ·rw[e1]at e2;cases e2;omega
  ·rw[if_neg e];exact .inl rfl
theorem Dh {w w1:World} {n:Nat} {v:Value} (hn:n≤3) (hz:v= .slice none 0 0) (h:w1.ownsRow w.heap.size 45 1 (.slice (some ⟨w.heap.size,0,none⟩) n n) n (madeCells v.cells (n*1)).toList):(∀i,i<n→w1.cell? ⟨w.heap.size,i,none⟩=some (.slice none 0 0))∧(∀j,w1.frozen? ⟨w.heap.size,j,none⟩=false):=by
 subst hz;refine⟨fun i hi=>?_,fun j=>?_⟩
 ·rw[h.cellAt i (by omega)];show((Array.range (n*1)).map (fun x=>(#[Value.slice none 0 0]:Array Value)[x%1]!)).toList[i]? =_
  have h1:i<n*1:=by omega
  simp[Nat.mod_one,hi]
 ·rcases h.2 with⟨hv,h0⟩|⟨b,cap,cur,hv,hlo,hg,_⟩
  ·cases hv
  ·have e:w.heap.size=b:=by injection hv with e1;injection e1 with e2;injection e2
   subst e;unfold World.frozen?;simp[hg]
theorem YU:xA 1 ⟨0,0,0,0⟩=[⟨1,⟨0,0,0,0⟩⟩]:=rfl
theorem WO (w:World) (Mb:Nat) (o:Int) (f:Nat) (ho:1≤o∧o≤3) (a:Option Addr) (n cap:Nat) (ad:Nat→Option Addr) (cp:Nat→Nat) (L:Nat→List T) (h:cZ w a n cap ad (lN L) cp (fN L)) (hl:aT n (lN L) (fN L)=true) (hn:1≤n∧n≤3) (lo:Nat) (hlo:∀b off,a=some ⟨b,off,none⟩→b<lo) (hel:∀i,i<n→∀b off,ad i=some ⟨b,off,none⟩→b<lo) (tvL tvP lv:Value) (LS PS:List Value) (Bq:Nat→Nat) (hM:MW w lo Mb n o f ⟨0,L,fun k=>jD k⟩ 0 tvL tvP lv LS PS Bq) (hlw:lo≤w.heap.size):Calls Tryz.prog 98 #[.pointer (some ⟨Mb,0,none⟩),.slice a n cap] w fun e w'=>e= .returned (.tuple #[])∧∃tvL' tvP' lv' LS' PS' Bq',MW w' lo Mb n o f (MX n L) 0 tvL' tvP' lv' LS' PS' Bq'∧Fr (fun k=>lo≤k) w w':=by
 obtain⟨lb,off,rfl,hlb,hcl⟩:=h.2.2.1.resolve_left (by omega);have HH:=aA h
 have HC:=aA hcl;have HM:=aA hM
 have HLA:=aA (aL hl).2;have hn3:(n:Int)≤3:=by omega
 obtain⟨i0,hi0,hz0,hz1,hz2⟩:=info_parts uU;clear h hcl hM hl;go_enter Tryz.func98,Tryz.ntmps98;go_wp2;go_loopw [9] (fun v wr=>∃(j:Nat) (tvL tvP lv:Value) (LS PS:List Value) (Bq:Nat→Nat),j≤n∧v= .int .i64 (j:Int)∧MW wr lo Mb n o f ⟨j,L,fun k=>jD k⟩ 0 tvL tvP lv LS PS Bq∧Fr (fun k=>lo≤k) w wr) (fun v _=>n-(intOf v).toNat);case atStart=>exact⟨0,_,_,_,_,_,_,Nat.zero_le _,rfl,HM.out,Fr.refl _ _⟩
 case round=>
  obtain⟨j,tvL,tvP,lv,LS,PS,Bq,hj,rfl,hMj,hFj⟩:=hrel;have HMj:=aA hMj
  have HFj:=aA hFj;by_cases hlt:j<n
  ·have hjl:(j:Int)<(n:Int):=by omega
   have hlb2:¬lo≤lb:=by have:=hlo lb off rfl;omega
   have d0:wr.cell? ⟨lb,off+j,none⟩=some (.slice (ad j) (L j).length (cp j)):=(hFj.cell hlb hlb2).trans (HC.out j hlt);clear hMj hFj;have hrl:RL wr (ad j) (cp j) (L j):=HFj.out.rd (HH.out.2.2.2 j hlt) (.inr fun b off' e q=>by have:=hel j hlt b off' e;omega)
   have HRL:=aA hrl;have okj:=(HLA.out j hlt).2
   have ne0:=(HLA.out j hlt).1;have HOK:Hid (cG (L j)=true):=okj
   have HNE:Hid ((L j).length≠0):=ne0;obtain⟨w1,hrun,hown1,hgr1⟩:=run_make_full (P:=Tryz.prog) wr wr.heap.size 24 45 i0 _ 1 Tryz.underlying24 hi0 hz0 hz1 .i64 .i64 n (by rw[hz2];omega) (by unfold maxLen;omega) (Nat.le_refl _);have hsw1:wr.heap.size<w1.heap.size:=(hown1.lt wr.heap.size rfl).2
   have b1:Below wr.heap.size wr w1:=⟨hgr1.os,hgr1.tape,hgr1.output,hgr1.size,fun k hk=>hgr1.block k hk (by simp)⟩
   have HB1:=aA b1;have HRC:=aA (Dh (by omega) rfl hown1)
   have hlow:lo≤wr.heap.size:=jZ hlw HFj.out.size;clear hrl okj ne0 b1 hown1 hgr1;go_wp2_with fail;refine(Ei 1 0 0 0 0 _).mono ?_;rw[YU];rintro e w2 ⟨v,rfl,b2,hv⟩;obtain⟨va,vc,rfl,hvo⟩:=aH hv (by simp);have hb2:=aB HB1.out b2
   have hw2:wr.heap.size<w2.heap.size:=by have:=b2.size;omega
   have hc2:∀i,i<n→w2.cell? ⟨wr.heap.size,i,none⟩=some (.slice none 0 0):=fun i hi=>(b2.cell (p:=⟨wr.heap.size,i,none⟩) hsw1).trans (HRC.out.1 i hi);have cj:=hc2 j hlt
   have zj:w2.frozen? ⟨wr.heap.size,j,none⟩=false:=(b2.frozen (p:=⟨wr.heap.size,j,none⟩) hsw1).trans (HRC.out.2 j);have hvo':jN (wr.heap.size+1) w2 va vc [⟨1,⟨0,0,0,0⟩⟩]:=hvo.low (by omega)
   have HROW:=aA (Ka hlt (by omega) hc2 hw2 hvo');have HB3:Hid (Below wr.heap.size wr (w2.setCell ⟨wr.heap.size,j,none⟩ (.slice va 1 vc))):=hb2.setCell (Nat.le_refl _) _
   clear b2 hv hvo hvo' hb2 hc2 HRC HB1 hrun;go_wp2_with fail;clear cj zj;generalize(w2.setCell ⟨wr.heap.size,j,none⟩ (.slice va 1 vc))=w3 at HROW HB3⊢;refine(Ms w3 (ad j) (cp j) (L j) (HRL.out.below HB3.out) HNE.out (aD HOK.out).1).mono ?_;rintro e w4 ⟨ca,cc,rfl,b4,hco⟩;have hb4:=aB HB3.out b4
   have HM4:=aA (HMj.out.below hb4);have hs3:wr.heap.size≤w3.heap.size:=HB3.out.size
   have far:∀b,wr.heap.size≤b→NB (QY lo Mb lv Bq 0 (aZ j)) tvL tvP b:=fun b hb=>NB.far (m:=wr.heap.size) (fun k e=>(HMj.out.bk.rL.lt k e).2) (fun k e=>(HMj.out.bk.rP.lt k e).2) (fun k q=>HMj.out.ylt q) hb;have HR4:Hid (ES (NB (QY lo Mb lv Bq 0 (aZ j)) tvL tvP) w4 ca cc (L j)):=⟨hco.1,hco.2.2.imp id (fun⟨g,off',e,hg⟩ b o2 e2=>by rw[e]at e2;cases e2;exact far _ (by omega))⟩
   have HRS4:Hid (tU (NB (QY lo Mb lv Bq 0 (aZ j)) tvL tvP) w4 (some ⟨wr.heap.size,0,none⟩) n n (fun i=>if i=j then va else none) (fun i=>if i=j then vc else 0) (jD j)):=(HROW.out.fr (P:=fun _=>False) (bA b4) (fun _ _ q=>q)).mono (fun b _ hb=>far b hb);have HF4:Hid (Fr (fun k=>lo≤k) w w4):=HFj.out.trans (bA hb4)
   have HAD:=aA (Lh w4 lo Mb n o f ⟨j,L,fun k=>jD k⟩ 0 tvL tvP lv LS PS Bq HM4.out ho (by show j≤11;omega) ca cc (L j) HR4.out HOK.out HNE.out _ n _ _ (jD j) HRS4.out);clear b4 hco hb4 far HROW HB3 HR4 HRS4 HM4;go_wp2_with fail;refine HAD.out.mono ?_;rintro e w5 ⟨rfl,tvL5,tvP5,lv5,LS5,PS5,Bq5,hM5,hF5⟩;have eB:IW ⟨j,L,fun k=>jD k⟩ (L j) (jD j)=⟨j+1,L,fun k=>jD k⟩:=by unfold IW;rw[IOz,QD]
   rw[eB]at hM5;have HM5:=aA hM5
   have HF5:=aA (HF4.out.trans hF5);clear hM5 hF5 eB;go_wp2;go_roundw;case rel=>exact⟨j+1,_,_,_,_,_,_,by omega,by go_num,HM5.out,HF5.out⟩
   case measure=>simp[intOf];omega
  ·have hjn:¬(j:Int)<(n:Int):=by omega
   have hje:j=n:=by omega
   subst hje;clear hMj hFj;go_wp2
   go_end0
   exact⟨rfl,⟨_,_,_,_,_,_,HMj.out⟩,HFj.out⟩
theorem KJ (g:Nat) (bd:Array Value) (w:World) (Q:World→Prop) (eg:∀args w,(callFunc g args).run Tryz.prog w= .ok (.enter g args) w) (h:Calls Tryz.prog g bd w fun r w'=>r= .returned (.tuple #[])∧Q w'):Calls Tryz.prog 78 #[.func (.func g) bd #[]] w fun r w'=>r= .returned (.bool true)∧∃w1,Q w1∧w'=w1.alloc (.cells #[] 149):=by
 have HC:=aA h;clear h
 go_enter_defers Tryz.func78,Tryz.ntmps78
 go_wp2_with fail;refine HC.out.mono ?_;rintro r w1 ⟨rfl,hq⟩;have HQ:=aA hq
 clear hq HC;go_wp2;refine leaves_cons (f:=123) (args:=#[]) (by simp) (by simp[go_sem]) ?_;refine(BU _).mono ?_;rintro e u' w'' ⟨rfl,rfl,rfl⟩;simp[Leaves,settle,results,Tryz.results78,go_sem];exact⟨w1,HQ.out,rfl⟩
theorem OU (g:Nat) (bd:Array Value) (w:World) (Q:World→Prop) (eg:∀args w,(callFunc g args).run Tryz.prog w= .ok (.enter g args) w) (h:Calls Tryz.prog g bd w fun r w'=>r= .panicked [{v:=fG,recovered:=false}]∧Q w'):Calls Tryz.prog 78 #[.func (.func g) bd #[]] w fun r w'=>r= .returned (.bool false)∧∃w1,Q w1∧w'=w1.alloc (.cells #[] 149):=by
 have HC:=aA h;clear h
 go_enter_defers Tryz.func78,Tryz.ntmps78
 go_wp2_with fail;refine HC.out.mono ?_;rintro r w1 ⟨rfl,hq⟩;have HQ:=aA hq
 clear hq HC;go_wp2;refine leaves_cons (f:=123) (args:=#[]) (by simp) (by simp[go_sem]) ?_;refine(wA _).mono ?_;rintro e u' w'' ⟨rfl,rfl,rfl⟩;simp[Leaves,settle,results,Tryz.results78,go_sem];exact⟨w1,HQ.out,rfl⟩
theorem Ny (w:World) (lo n:Nat) (o:Int) (f:Nat) (L:Nat→List T) (hlo:lo≤w.heap.size):MW (w.alloc (.cells #[.slice none 0 0,.slice none 0 0,.bool false,.int .i64 o,.slice none 0 0,.pointer none,.pointer none,.int .i64 (f:Int)] 120)) lo w.heap.size n o f ⟨0,L,fun k=>jD k⟩ 0 (.slice none 0 0) (.slice none 0 0) (.slice none 0 0) [] [] (fun _=>0):=by
 have c:∀i,(w.alloc (.cells #[.slice none 0 0,.slice none 0 0,.bool false,.int .i64 o,.slice none 0 0,.pointer none,.pointer none,.int .i64 (f:Int)] 120)).cell? ⟨w.heap.size,i,none⟩=#[Value.slice none 0 0,.slice none 0 0,.bool false,.int .i64 o,.slice none 0 0,.pointer none,.pointer none,.int .i64 (f:Int)][i]? :=fun i=>World.cell?_alloc_at _ _ _ _ rfl
 have z:∀j,(w.alloc (.cells #[.slice none 0 0,.slice none 0 0,.bool false,.int .i64 o,.slice none 0 0,.pointer none,.pointer none,.int .i64 (f:Int)] 120)).frozen? ⟨w.heap.size,j,none⟩=false:=fun j=>by rw[World.frozen?_alloc_at _ _ _ _ rfl]
 exact⟨⟨c 0,c 1,c 2,c 3,c 7,z⟩,⟨c 4,c 5,⟨_,c 6,fun q=>absurd q (Nat.lt_irrefl _)⟩,⟨z 4,z 5,z 6⟩,⟨rfl,.inl ⟨rfl,rfl⟩⟩,fun g hg=>by simp[Value.ownBlock]at hg,fun j j1 j2=>absurd j2 (rT _),fun j j1 j2=>absurd j2 (rT _),fun i j _ _ j2=>absurd j2 (rT _),hlo⟩,mT.none _ _ _ _ _ _,Nat.le_refl _,Nat.zero_le _,hlo⟩
theorem JI (w:World) (o:Int) (a:Option Addr) (n cap:Nat) (ad:Nat→Option Addr) (cp:Nat→Nat) (L:Nat→List T) (h:cZ w a n cap ad (lN L) cp (fN L)) (fuel:Int) (hbad:¬((1≤o∧o≤3)∧aT n (lN L) (fN L)=true∧(1≤n∧n≤3)∧(0≤fuel∧fuel≤60))):Calls Tryz.prog 55 #[.int .i64 o,.slice a n cap,.int .i64 fuel] w (vO w n (⟨0,fun _=>[],fun _ _=>[]⟩,false)):=by
 have q1:(n:Int)≤140737488351232:=by have:=h.2.1;omega
 have HH:=aA (h.below (aC w (.cells #[.slice none 0 0,.slice none 0 0,.bool false] 77)));have HX0:=aA (gO.box w 77 (.slice none 0 0) (.slice none 0 0) (.bool false))
 clear h;by_cases ho:1≤o∧o≤3;rotate_left
 ·have ho':o<1∨3<o:=by omega
  clear hbad;go_enter Tryz.func55,Tryz.ntmps55;go_wp2_with fail;refine(iS _ _ _ _ _ ho').mono ?_;rintro r w2 ⟨rfl,hb2⟩;have HB2:=aA (aB (aC w (.cells #[.slice none 0 0,.slice none 0 0,.bool false] 77)) hb2)
  obtain⟨⟨x0,x1,x2⟩,xz⟩:=HX0.out.below hb2;clear hb2;go_wp2;refine bY (v:=.agg #[.slice none 0 0,.slice none 0 0,.bool false]) (by simp[results,Tryz.results55,go_sem, *]) rfl ?_;exact⟨_,_,[],[],rfl,iH HB2.out (Nat.le_refl _) _ _ _,mT.none _ _ _ _ _ _⟩
 obtain⟨o1,o2⟩:=ho;cases hl:aT n (lN L) (fN L)
 ·clear hbad;go_enter Tryz.func55,Tryz.ntmps55;go_wp2_with fail;refine(jM _ _ _ _ _ _ _ _ _ HH.out o1 o2 hl).mono ?_;rintro r w2 ⟨rfl,hb2⟩;have HB2:=aA (aB (aC w (.cells #[.slice none 0 0,.slice none 0 0,.bool false] 77)) hb2)
  obtain⟨⟨x0,x1,x2⟩,xz⟩:=HX0.out.below hb2;clear hb2;go_wp2;refine bY (v:=.agg #[.slice none 0 0,.slice none 0 0,.bool false]) (by simp[results,Tryz.results55,go_sem, *]) rfl ?_;exact⟨_,_,[],[],rfl,iH HB2.out (Nat.le_refl _) _ _ _,mT.none _ _ _ _ _ _⟩
 have hrest:n=0∨(n≠0∧3<n)∨((n≠0∧n≤3)∧fuel<0)∨((n≠0∧n≤3)∧0≤fuel∧60<fuel):=by
  by_cases h1:n=0
  ·exact .inl h1
  ·by_cases h2:3<n
   ·exact .inr (.inl ⟨h1,h2⟩)
   ·by_cases h3:fuel<0
    ·exact .inr (.inr (.inl ⟨⟨h1,by omega⟩,h3⟩))
    ·by_cases h4:60<fuel
     ·exact .inr (.inr (.inr ⟨⟨h1,by omega⟩,by omega,h4⟩))
     ·exact absurd ⟨⟨o1,o2⟩,hl,⟨by omega,by omega⟩,by omega,by omega⟩ hbad
 have n12:=(aL hl).1;clear hbad;go_enter Tryz.func55,Tryz.ntmps55;go_wp2_with fail;refine(kM _ _ _ _ _ _ _ _ _ HH.out o1 o2 hl).mono ?_;rintro r w2 ⟨v,rfl,hb2,_⟩;have HB2:=aA (aB (aC w (.cells #[.slice none 0 0,.slice none 0 0,.bool false] 77)) hb2)
 obtain⟨⟨x0,x1,x2⟩,xz⟩:=HX0.out.below hb2;clear hb2;rcases hrest with h1|⟨h1,h2⟩|⟨⟨h1,h2⟩,h3⟩|⟨⟨h1,h2⟩,h3,h4⟩
 ·have e1:((n:Int)==0)=true:=by rw[h1];rfl
  clear h1;go_wp2;refine bY (v:=.agg #[.slice none 0 0,.slice none 0 0,.bool false]) (by simp[results,Tryz.results55,go_sem, *]) rfl ?_;exact⟨_,_,[],[],rfl,iH HB2.out (Nat.le_refl _) _ _ _,mT.none _ _ _ _ _ _⟩
 ·have e1:((n:Int)==0)=false:=beq_eq_false_iff_ne.2 (by omega);have e2:(3:Int)<(n:Int):=by omega
  clear h1 h2;go_wp2;refine bY (v:=.agg #[.slice none 0 0,.slice none 0 0,.bool false]) (by simp[results,Tryz.results55,go_sem, *]) rfl ?_;exact⟨_,_,[],[],rfl,iH HB2.out (Nat.le_refl _) _ _ _,mT.none _ _ _ _ _ _⟩
 ·have e1:((n:Int)==0)=false:=beq_eq_false_iff_ne.2 (by omega);have e2:¬(3:Int)<(n:Int):=by omega
  clear h1 h2;go_wp2;refine bY (v:=.agg #[.slice none 0 0,.slice none 0 0,.bool false]) (by simp[results,Tryz.results55,go_sem, *]) rfl ?_;exact⟨_,_,[],[],rfl,iH HB2.out (Nat.le_refl _) _ _ _,mT.none _ _ _ _ _ _⟩
 ·have e1:((n:Int)==0)=false:=beq_eq_false_iff_ne.2 (by omega);have e2:¬(3:Int)<(n:Int):=by omega
  have e3:¬fuel<0:=by omega
  clear h1 h2;go_wp2;refine bY (v:=.agg #[.slice none 0 0,.slice none 0 0,.bool false]) (by simp[results,Tryz.results55,go_sem, *]) rfl ?_;exact⟨_,_,[],[],rfl,iH HB2.out (Nat.le_refl _) _ _ _,mT.none _ _ _ _ _ _⟩
theorem MY (w:World) (o:Int) (a:Option Addr) (n cap:Nat) (ad:Nat→Option Addr) (cp:Nat→Nat) (L:Nat→List T) (h:cZ w a n cap ad (lN L) cp (fN L)) (fu:Nat) (ho:1≤o∧o≤3) (hl:aT n (lN L) (fN L)=true) (hn:1≤n∧n≤3) (hf:fu≤60) {G:Bs×Bool} (hG:oN o n fu (MX n L) 0=G):Calls Tryz.prog 55 #[.int .i64 o,.slice a n cap,.int .i64 (fu:Int)] w (vO w n G):=by
 have bx:=aC w (.cells #[.slice none 0 0,.slice none 0 0,.bool false] 77);have HH:=aA (h.below bx)
 have HX0:=aA (gO.box w 77 (.slice none 0 0) (.slice none 0 0) (.bool false));have HG:=aA hG
 have HL:=aA hl;have HBX:=aA bx
 have hlo0:∀b off,a=some ⟨b,off,none⟩→b<w.heap.size+1:=fun b off e=>by
  rcases h.2.2.1 with h0|⟨b',off',e',hlt,_⟩
  ·omega
  ·rw[e']at e;cases e;omega
 have hel0:∀i,i<n→∀b off,ad i=some ⟨b,off,none⟩→b<w.heap.size+1:=fun i hi b off e=>by
  rcases(h.2.2.2 i hi).2.2 with h0|⟨b',off',e',hlt,_⟩
  ·exact absurd h0 ((aL hl).2 i hi).1
  ·rw[e']at e;cases e;omega
 have HLO:=aA hlo0;have HEL:=aA hel0
 obtain⟨o1,o2⟩:=ho;have e1:((n:Int)==0)=false:=beq_eq_false_iff_ne.2 (by omega)
 have e2:¬(3:Int)<(n:Int):=by omega
 have e3:¬(fu:Int)<0:=by omega
 have e4:¬(60:Int)<(fu:Int):=by omega
 have n12:=(aL hl).1;clear h hG bx hlo0 hel0;go_enter Tryz.func55,Tryz.ntmps55;go_wp2_with fail;refine(kM _ _ _ _ _ _ _ _ _ HH.out o1 o2 hl).mono ?_;rintro r w2 ⟨v,rfl,hb2,_⟩;have hb02:=aB HBX.out hb2
 have HB2:=aA hb02;have HX2:=aA (HX0.out.below hb2)
 have HH2:=aA (HH.out.below hb2);have hs2:w.heap.size+1≤w2.heap.size:=HX2.out.lt
 have HM3:=aA (Ny w2 (w.heap.size+1) n o fu L hs2);have bm:=aC w2 (.cells #[.slice none 0 0,.slice none 0 0,.bool false,.int .i64 o,.slice none 0 0,.pointer none,.pointer none,.int .i64 (fu:Int)] 120)
 have HBM:=aA bm;have HAG:=aA (WO (w2.alloc (.cells #[.slice none 0 0,.slice none 0 0,.bool false,.int .i64 o,.slice none 0 0,.pointer none,.pointer none,.int .i64 (fu:Int)] 120)) w2.heap.size o fu ⟨o1,o2⟩ a n cap ad cp L (HH2.out.below bm) hl hn (w.heap.size+1) HLO.out HEL.out _ _ _ _ _ _ HM3.out (by simp;omega))
 clear hb2 hb02 bm HX0 HH;go_wp2_with fail;refine HAG.out.mono ?_;rintro r w4 ⟨rfl,tvL4,tvP4,lv4,LS4,PS4,Bq4,hM4,hF4⟩;have HF4:Hid (Fr (fun k=>w.heap.size+1≤k) w2 w4):=(bA HBM.out).trans hF4
 have HM4:=aA hM4;have HALL:=aA (RU w4 (w.heap.size+1) w2.heap.size n o fu hf (MX n L) _ _ _ _ _ _ HM4.out (JF ⟨o1,o2⟩ hl) (by omega) HG.out)
 clear hM4 hF4 HAG HM3;obtain⟨BG,d,hGd⟩:∃BG d,G=(BG,d):=⟨_,_,rfl⟩
 subst hGd;have key:Calls Tryz.prog 78 #[.func (.func 99) #[.pointer (some ⟨w2.heap.size,0,none⟩)] #[]] w4 fun r w'=>r= .returned (.bool d)∧∃w1,(Fr (fun k=>w.heap.size+1≤k) w4 w1∧∃f a tvL tvP lv LS PS Bq,MW w1 (w.heap.size+1) w2.heap.size n o f BG a tvL tvP lv LS PS Bq)∧w'=w1.alloc (.cells #[] 149):=by
  cases d
  ·exact OU 99 _ w4 (fun w1=>Fr (fun k=>w.heap.size+1≤k) w4 w1∧∃f a tvL tvP lv LS PS Bq,MW w1 (w.heap.size+1) w2.heap.size n o f BG a tvL tvP lv LS PS Bq) (enters_of Tryz.func99 (by kernel_rfl) rfl) (HALL.out.mono fun r u ⟨k1,k2,k3⟩=>by
    rcases k2 with⟨q,_⟩|⟨_,q⟩
    ·cases q
    ·exact⟨q,k1,k3⟩)
  ·exact KJ 99 _ w4 (fun w1=>Fr (fun k=>w.heap.size+1≤k) w4 w1∧∃f a tvL tvP lv LS PS Bq,MW w1 (w.heap.size+1) w2.heap.size n o f BG a tvL tvP lv LS PS Bq) (enters_of Tryz.func99 (by kernel_rfl) rfl) (HALL.out.mono fun r u ⟨k1,k2,k3⟩=>by
    rcases k2 with⟨_,q⟩|⟨q,_⟩
    ·exact⟨q,k1,k3⟩
    ·cases q)
 have HKEY:=aA key;clear key HALL;go_wp2_with fail;refine HKEY.out.mono ?_;rintro r w6 ⟨rfl,w5,⟨hF5,f5,a5,tvL,tvP,lv,LS,PS,Bq,hM5⟩,rfl⟩;have b6:=aC w5 (.cells #[] 149)
 have hM6:=hM5.below b6;have hF6:Fr (fun k=>w.heap.size+1≤k) w2 (w5.alloc (.cells #[] 149)):=(HF4.out.trans hF5).next b6
 generalize w5.alloc (.cells #[] 149)=w6 at hM6 hF6⊢;obtain⟨la,lc,lad,lcp,rfl,_⟩:=hM6.bk.readL (by have:=hM6.m12;omega);obtain⟨pa,pc,pA,pC,pAD,pCP,rfl,_⟩:=hM6.bk.readP (by have:=hM6.m12;omega);have HM6:=aA hM6
 have HF6:=aA hF6;obtain⟨⟨x0,x1,x2⟩,xz⟩:=HX2.out.fr hF6 (by omega);obtain⟨c0,c1,c2,c3,c7,cz⟩:=hM6.bx;have hne1:w2.heap.size≠w.heap.size:=by omega
 have hne2:w.heap.size≠w2.heap.size:=by omega
 clear hM5 hM6 hF5 hF6 b6 HKEY c3 c7;go_wp2;refine bY (v:=.agg #[.slice la BG.m lc,.slice pa BG.m pc,.bool d]) (by simp[results,Tryz.results55,go_sem, *]) rfl ?_;have hFw:Below w.heap.size w w6:=Fr.below HB2.out HF6.out (fun k q=>by omega) (Nat.le_refl _)
 have hY:Fr (QY (w.heap.size+1) w2.heap.size lv Bq a5 (aZ BG.m)) w6 ((((w6.setCell ⟨w2.heap.size,2,none⟩ (.bool d)).setCell ⟨w.heap.size,0,none⟩ (.slice la BG.m lc)).setCell ⟨w.heap.size,1,none⟩ (.slice pa BG.m pc)).setCell ⟨w.heap.size,2,none⟩ (.bool d)):=((((Fr.refl _ w6).set (fun _=>.inr (.inl rfl))).set (fun _=>.inl (by omega))).set (fun _=>.inl (by omega))).set (fun _=>.inl (by omega));exact⟨_,_,LS,PS,rfl,iH (hFw.setCell (show w.heap.size≤w2.heap.size by omega) _) (Nat.le_refl _) _ _ _,(((HM6.out.bk.fr hY (fun b q=>q)).yet (fun b _ q=>.inl (Nat.lt_succ_of_lt q)))).low (Nat.le_succ _)⟩
theorem Cj (w:World) (o:Int) (a:Option Addr) (n cap:Nat) (ad:Nat→Option Addr) (cp:Nat→Nat) (L:Nat→List T) (h:cZ w a n cap ad (lN L) cp (fN L)) (fuel:Int):Calls Tryz.prog 55 #[.int .i64 o,.slice a n cap,.int .i64 fuel] w (vO w n (eT o n L fuel)):=by
 by_cases hc:(1≤o∧o≤3)∧aT n (lN L) (fN L)=true∧(1≤n∧n≤3)∧(0≤fuel∧fuel≤60)
 ·obtain⟨fu,rfl⟩:∃fu:Nat,fuel=(fu:Int):=⟨fuel.toNat,by omega⟩
  exact MY w o a n cap ad cp L h fu hc.1 hc.2.1 hc.2.2.1 (by omega) (by unfold eT;rw[if_pos hc,Int.toNat_natCast])
 ·rw[zP hc];exact JI w o a n cap ad cp L h fuel hc
def Sx (w:World) (n m:Nat) (BL:Nat→List T) (BP:Nat→Nat→List T) (d:Bool) (e:Ending) (w':World):Prop:=∃(a:Option Addr) (c:Nat) (ad:Nat→Option Addr) (cp:Nat→Nat) (pa:Option Addr) (pc:Nat) (A:Nat→Option Addr) (C:Nat→Nat) (AD:Nat→Nat→Option Addr) (CP:Nat→Nat→Nat),e= .returned (.agg #[.slice a m c,.slice pa m pc,.bool d])∧Below w.heap.size w w'∧cZ w' a m c ad (lN BL) cp (fN BL)∧R3 w' pa m pc n A C AD CP BP
theorem GQ {w:World} {n m:Nat} {BL:Nat→List T} {BP:Nat→Nat→List T} {d:Bool} (hm:m≤12) {e:Ending} {w':World} (h:vO w n (⟨m,BL,BP⟩,d) e w'):Sx w n m BL BP d e w':=by
 obtain⟨tvL,tvP,LS,PS,he,hb,hk⟩:=h;have hk':mT (fun b=>b<w.heap.size) w' w.heap.size tvL tvP n m BL m BP LS PS:=hk
 obtain⟨a,c,ad,cp,rfl,hr⟩:=hk'.readL (by omega);obtain⟨pa,pc,A,C,AD,CP,rfl,hp⟩:=hk'.readP (by omega);exact⟨a,c,ad,cp,pa,pc,A,C,AD,CP,he,hb,hr,hp⟩
theorem Qn {o:Int} {n:Nat} {L:Nat→List T} {fuel:Int} {m:Nat} {BL:Nat→List T} {BP:Nat→Nat→List T} {d:Bool} (h:eT o n L fuel=(⟨m,BL,BP⟩,d)):m≤12:=by have:=GA (o:=o) (n:=n) (L:=L) (fuel:=fuel);rw[h]at this;exact this
theorem To {w:World} {o:Int} {a:Option Addr} {n cap:Nat} {ad:Nat→Option Addr} {cp:Nat→Nat} {L:Nat→List T} (h:cZ w a n cap ad (lN L) cp (fN L)) {fuel:Int} {m:Nat} {BL:Nat→List T} {BP:Nat→Nat→List T} {d:Bool} (hX:eT o n L fuel=(⟨m,BL,BP⟩,d)):Calls Tryz.prog 55 #[.int .i64 o,.slice a n cap,.int .i64 fuel] w (Sx w n m BL BP d):=
 (Cj w o a n cap ad cp L h fuel).mono fun e w' k=>GQ (Qn hX) (by rw[hX]at k;exact k)
theorem Tq {w:World} {o:Int} {a:Option Addr} {n cap:Nat} {ad:Nat→Option Addr} {cp:Nat→Nat} {L:Nat→List T} (h:cZ w a n cap ad (lN L) cp (fN L)) {fuel:Int} {m:Nat} {BL:Nat→List T} {BP:Nat→Nat→List T} {d:Bool} (hX:eT o n L fuel=(⟨m,BL,BP⟩,d)):Calls Tryz.prog 54 #[.int .i64 o,.slice a n cap,.int .i64 fuel] w (Sx w n m BL BP d):=
 (MZ w o a n cap ad cp L h fuel).mono fun e w' k=>GQ (Qn hX) (by rw[hX]at k;exact k)
abbrev Pe (b:Nat) (v0 v1 v2:Value) (u:World):Prop:=u.cell? ⟨b,0,none⟩=some v0∧u.cell? ⟨b,1,none⟩=some v1∧u.cell? ⟨b,2,none⟩=some v2
theorem Pe.below {b:Nat} {v0 v1 v2:Value} {u u':World} (h:Pe b v0 v1 v2 u) (hb:Below u.heap.size u u'):Pe b v0 v1 v2 u':=
 ⟨(hb.cell (p:=⟨b,0,none⟩) (cX u _ h.1)).trans h.1,(hb.cell (p:=⟨b,1,none⟩) (cX u _ h.2.1)).trans h.2.1,(hb.cell (p:=⟨b,2,none⟩) (cX u _ h.2.2)).trans h.2.2⟩
def mV (o:Int) (n:Nat) (L:Nat→List T):Option (List (List T)):=if(eT o n L 60).2=true then aU o (eT o n L 60).1.m (eT o n L 60).1.L else none
theorem CH {o:Int} {n:Nat} {L:Nat→List T}:(IE (mV o n L)).length≤12∧∀i,(bC (IE (mV o n L)) i).length≤400:=by
 unfold mV;split
 ·exact CO
 ·exact⟨Nat.zero_le _,fun i=>by rw[JT (Nat.zero_le _)];exact Nat.zero_le _⟩
theorem CI {o:Int} {n:Nat} {L:Nat→List T} {m:Nat} {BL:Nat→List T} {BP:Nat→Nat→List T} {d:Bool} (h:eT o n L 60=(⟨m,BL,BP⟩,d)):mV o n L=if d=true then aU o m BL else none:=by unfold mV;rw[h]
theorem RG (w:World) (o:Int) (a:Option Addr) (n cap:Nat) (ad:Nat→Option Addr) (cp:Nat→Nat) (L:Nat→List T) (h:cZ w a n cap ad (lN L) cp (fN L)):Calls Tryz.prog 17 #[.int .i64 o,.slice a n cap] w (kP w (mV o n L)):=by
 obtain⟨⟨⟨m,BL,BP⟩,d⟩,hX⟩:∃X,eT o n L 60=X:=⟨_,rfl⟩
 rw[CI hX];obtain⟨R0,hR0⟩:∃R0,(if d=true then aU o m BL else none)=R0:=⟨_,rfl⟩
 rw[hR0];have HR0:=aA hR0
 clear hR0;have HC:=aA (To h hX)
 clear h hX;go_enter Tryz.func17,Tryz.ntmps17;go_wp2_with fail;refine HC.out.mono ?_;rintro r w1 ⟨qa,qc,qad,qcp,pa,pc,A,C,AD,CP,rfl,hb,hr,_⟩;have bx:=aC w1 (.cells #[.slice qa m qc,.slice pa m pc,.bool d] 77)
 have HB:=aA (aB hb bx);have HR:=aA (hr.below bx)
 obtain⟨k0,k1,k2⟩:Pe w1.heap.size (.slice qa m qc) (.slice pa m pc) (.bool d) (w1.alloc (.cells #[.slice qa m qc,.slice pa m pc,.bool d] 77)):=⟨by rw[World.cell?_alloc_at _ _ _ _ rfl];rfl,by rw[World.cell?_alloc_at _ _ _ _ rfl];rfl,by rw[World.cell?_alloc_at _ _ _ _ rfl];rfl⟩
 clear hb hr bx;cases d
 ·obtain rfl:none=R0:=HR0.out;go_wp2;refine bY (results_tmp2 rfl _ _ _) rfl ?_;exact rU.all ⟨HB.out,.inr ⟨rfl,rfl⟩⟩
 ·obtain rfl:aU o m BL=R0:=HR0.out;go_wp2_with fail;refine(kK _ o qa m qc qad qcp BL HR.out).mono ?_;rintro r w2 hh;obtain⟨ya,yc,yad,ycp,Rb,B,rfl,hb2,hO⟩:=kP.from (rU.all hh) HB.out;have HH:Hid (kP w (aU o m BL) (.returned (.tuple #[.slice ya (IE (aU o m BL)).length yc,.bool (aU o m BL).isSome])) w2):=⟨ya,yc,yad,ycp,Rb,B,rfl,hb2,hO⟩
  clear hh hb2 hO k0 k1 k2;go_wp2;refine bY (results_tmp2 rfl _ _ _) rfl ?_;exact HH.out
theorem RH (w:World) (o:Int) (a:Option Addr) (n cap:Nat) (ad:Nat→Option Addr) (cp:Nat→Nat) (L:Nat→List T) (h:cZ w a n cap ad (lN L) cp (fN L)):Calls Tryz.prog 16 #[.int .i64 o,.slice a n cap] w (kQ w (mV o n L)):=by
 obtain⟨⟨⟨m,BL,BP⟩,d⟩,hX⟩:∃X,eT o n L 60=X:=⟨_,rfl⟩
 rw[CI hX];obtain⟨R0,hR0⟩:∃R0,(if d=true then aU o m BL else none)=R0:=⟨_,rfl⟩
 rw[hR0];have HR0:=aA hR0
 clear hR0;have HC:=aA (Tq h hX)
 clear h hX;go_enter Tryz.func16,Tryz.ntmps16;go_wp2_with fail;refine HC.out.mono ?_;rintro r w1 ⟨qa,qc,qad,qcp,pa,pc,A,C,AD,CP,rfl,hb,hr,_⟩;have bx:=aC w1 (.cells #[.slice qa m qc,.slice pa m pc,.bool d] 77)
 have HB:=aA (aB hb bx);have HR:=aA (hr.below bx)
 obtain⟨k0,k1,k2⟩:Pe w1.heap.size (.slice qa m qc) (.slice pa m pc) (.bool d) (w1.alloc (.cells #[.slice qa m qc,.slice pa m pc,.bool d] 77)):=⟨by rw[World.cell?_alloc_at _ _ _ _ rfl];rfl,by rw[World.cell?_alloc_at _ _ _ _ rfl];rfl,by rw[World.cell?_alloc_at _ _ _ _ rfl];rfl⟩
 clear hb hr bx;cases d
 ·obtain rfl:none=R0:=HR0.out;have HB2:=aA (aB HB.out (aC _ (.cells #[] 45)))
  go_wp2;refine bY (results_tmp2 rfl _ _ _) rfl ?_;exact uM.all ⟨HB2.out,.inr ⟨rfl,_,_,rfl⟩⟩
 ·obtain rfl:aU o m BL=R0:=HR0.out;go_wp2_with fail;refine(yF _ o qa m qc qad qcp BL HR.out).mono ?_;rintro r w2 hh;obtain⟨ya,yc,yad,ycp,rfl,hb2,hO⟩:=kQ.from (uM.all hh) HB.out;have HH:Hid (kQ w (aU o m BL) (.returned (.tuple #[.slice ya (IE (aU o m BL)).length yc,.bool (aU o m BL).isSome])) w2):=⟨ya,yc,yad,ycp,rfl,hb2,hO⟩
  clear hh hb2 hO k0 k1 k2;go_wp2;refine bY (results_tmp2 rfl _ _ _) rfl ?_;exact HH.out
end Go.Proofs.YtdidlcjhodejjaaGreat
