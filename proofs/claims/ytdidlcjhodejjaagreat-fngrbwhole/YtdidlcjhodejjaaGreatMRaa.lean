/-
  What the functions over operators hand back, as lists.
-/
import Derived.Test.YtdidlcjhodejjaaGreatMOaa
import Derived.Test.YtdidlcjhodejjaaGreatMKac
set_option maxHeartbeats 8000000
set_option maxRecDepth 100000
namespace Go.Proofs.YtdidlcjhodejjaaGreat
open Go.RowKit
set_option linter.unusedVariables false
variable {w:World} {a b:Option Addr} {ca cb:Nat} {L K:List T}
theorem Qs (ha:RL w a ca L):Calls Tryz.prog 65 #[.slice a L.length ca] w (ZP w (.bool (cG L))):=kI w a L.length ca (lf L) ha
end Go.Proofs.YtdidlcjhodejjaaGreat
namespace Go.Proofs.YtdidlcjhodejjaaGreat
open Go.RowKit Go.Deep Go.Joins
set_option linter.unusedVariables false
set_option linter.unusedSimpArgs false
def Pb (w:World) (n:Nat) (R:Option Dv) (r:Ending) (w':World):Prop:=
 Below w.heap.size w w'∧((∃S qa qc ad cp ra rc,R=some S∧r= .returned (.tuple #[.slice qa n qc,.slice ra S.r.length rc,.bool true])∧cZ w' qa n qc ad (fun i=>(S.q i).length) cp (fun i=>lf (S.q i))∧RL w' ra rc S.r)∨(R=none∧∃qa qc ra rc,r= .returned (.tuple #[.slice qa 0 qc,.slice ra 0 rc,.bool false])))
theorem LT.plain {w:World} {n:Nat} {R:Option Dv} {r:Ending} {w':World} (h:LT w n R r w'):Pb w n R r w':=⟨h.1,h.2.imp (fun⟨S,qa,qc,ad,cp,ra,rc,e1,e2,r1,r2,_⟩=>⟨S,qa,qc,ad,cp,ra,rc,e1,e2,r1,r2⟩) id⟩
theorem Np (w:World) (o:Int) (pa0:Option Addr) (ET:Nat) (p:List T) (a:Option Addr) (n cap:Nat) (ad0:Nat→Option Addr) (ln cp0:Nat→Nat) (f:Nat→Nat→T) (hp:RL w pa0 ET p) (h:cZ w a n cap ad0 ln cp0 f) (o1:1≤o) (o2:o≤3) (hpo:cG p=true) (hl:aT n ln f=true):Calls Tryz.prog 42 #[.int .i64 o,.slice pa0 p.length ET,.slice a n cap] w fun r w'=>Pb w n (eR o n ln f 300 (lB p)) r w':=
 (JN w o pa0 ET p a n cap ad0 ln cp0 f hp h o1 o2 hpo hl).mono fun _ _ h=>h.plain
open Go.RowKit Go.Deep Go.Joins Go.Maps
theorem Jy (w:World) (o:Int) (pa:Option Addr) (pc:Nat) (p:List T) (a:Option Addr) (n cap:Nat) (ad:Nat→Option Addr) (ln cp:Nat→Nat) (f:Nat→Nat→T) (hp:RL w pa pc p) (h:cZ w a n cap ad ln cp f) {R:Option Dv} (hR:aW o p n ln f=R):Calls Tryz.prog 70 #[.int .i64 o,.slice pa p.length pc,.slice a n cap] w fun r w'=>∃qa qc ad cp ra rc,r= .returned (.tuple #[.slice qa (FB n R) qc,.slice ra (qG R).length rc,.bool R.isSome])∧Below w.heap.size w w'∧cZ w' qa (FB n R) qc ad (fun i=>(OW R i).length) cp (fun i=>lf (OW R i))∧RL w' ra rc (qG R):=by
 have q1:(n:Int)≤140737488351232:=by have:=h.2.1;omega
 have q2:(p.length:Int)≤140737488351232:=by have:=hp.2.1;omega
 have HP:=aA hp;have HH:=aA h
 clear hp h;have hfin:∀(W:World) (qa ra:Option Addr) (qc rc:Nat),R=none→∃qa' qc' ad cp ra' rc',Ending.returned (.tuple #[.slice qa 0 qc,.slice ra 0 rc,.bool false])= .returned (.tuple #[.slice qa' (FB n R) qc',.slice ra' (qG R).length rc',.bool R.isSome])∧cZ W qa' (FB n R) qc' ad (fun i=>(OW R i).length) cp (fun i=>lf (OW R i))∧RL W ra' rc' (qG R):=fun W qa ra qc rc e=>by subst e;exact⟨qa,qc,fun _=>none,fun _=>0,ra,rc,rfl,⟨Nat.zero_le _,Nat.zero_le _,.inl rfl,fun i hi=>absurd hi (rT _)⟩,⟨Nat.zero_le _,Nat.zero_le _,.inl rfl⟩⟩
 have HFIN:=aA hfin;clear hfin;by_cases hok:(1≤o∧o≤3)∧cG p=true∧aT n ln f=true
 ·have e0:eR o n ln f 300 (lB p)=R:=by rw[←hR];exact(if_pos hok).symm
  have HE:=aA e0;obtain⟨⟨o1,o2⟩,h1,h2⟩:=hok;clear e0;have HAL:=fun(W:World) (k1:RL W pa pc p) (k2:cZ W a n cap ad ln cp f)=>Np W o pa pc p a n cap ad ln cp f k1 k2 o1 o2 h1 h2
  rw[HE.out]at HAL;have HALL:=aA HAL
  clear HAL;go_enter Tryz.func70,Tryz.ntmps70;go_wp2_with (go_at_call 39;refine(cQ _ _ _ _ (by omega) (by omega)).mono ?_;rintro r w' ⟨rfl,hw'⟩;obtain rfl:=hw'.symm;clear hw');refine(kI _ _ _ _ (lf p) HP.out).mono ?_;rw[show aN p.length (lf p)=true from h1];rintro r w1 ⟨rfl,hb1⟩;have HB1:=aA hb1
  clear hb1;go_wp2_with fail;refine(kE _ _ _ _ _ _ _ _ (HH.out.below HB1.out)).mono ?_;rw[h2];rintro r w2 ⟨rfl,hb2⟩;have HB2:=aA (aB HB1.out hb2)
  clear hb2;go_wp2_with fail;refine(HALL.out w2 (Rd.below HP.out HB2.out) (HH.out.below HB2.out)).mono ?_;rintro r w3 ⟨hb3,hh⟩;have HB3:=aA (aB HB2.out hb3)
  rcases hh with⟨S,qa,qc,ad',cp',ra,rc,e1,rfl,r1,r2⟩|⟨e1,qa,qc,ra,rc,rfl⟩
  ·subst e1;have HR1:=aA r1
   have HR2:=aA r2;clear r1 r2 hb3;go_wp2;refine bY (results_tmp3 rfl _ _ _) rfl ?_;exact⟨qa,qc,ad',cp',ra,rc,rfl,HB3.out,HR1.out,HR2.out⟩
  ·have HF:=aA (HFIN.out w3 qa ra qc rc e1);clear hb3;go_wp2;refine bY (results_tmp3 rfl _ _ _) rfl ?_;obtain⟨qa',qc',ad',cp',ra',rc',e2,r1,r2⟩:=HF.out;exact⟨qa',qc',ad',cp',ra',rc',e2,HB3.out,r1,r2⟩
 ·have e0:R=none:=by rw[←hR];exact if_neg hok
  have HF:=fun(W:World) qa ra qc rc=>HFIN.out W qa ra qc rc e0;have HFF:=aA HF
  clear HF;by_cases ho:1≤o∧o≤3
  ·obtain⟨o1,o2⟩:=ho;cases h1:cG p
   ·clear hok;go_enter Tryz.func70,Tryz.ntmps70;go_wp2_with (go_at_call 39;refine(cQ _ _ _ _ (by omega) (by omega)).mono ?_;rintro r w' ⟨rfl,hw'⟩;obtain rfl:=hw'.symm;clear hw');refine(kI _ _ _ _ (lf p) HP.out).mono ?_;rw[show aN p.length (lf p)=false from h1];rintro r w1 ⟨rfl,hb1⟩;have HB1:=aA hb1
    clear hb1;go_wp2;refine bY (results_tmp3 rfl _ _ _) rfl ?_;obtain⟨qa',qc',ad',cp',ra',rc',e2,r1,r2⟩:=HFF.out _ _ _ _ _;exact⟨qa',qc',ad',cp',ra',rc',e2,(HB1.out.alloc HB1.out.size _).alloc (by have:=HB1.out.size;simp;omega) _,r1,r2⟩
   ·have h2:aT n ln f=false:=by
     cases h2:aT n ln f
     ·rfl
     ·exact absurd ⟨⟨o1,o2⟩,h1,h2⟩ hok
    clear hok;go_enter Tryz.func70,Tryz.ntmps70;go_wp2_with (go_at_call 39;refine(cQ _ _ _ _ (by omega) (by omega)).mono ?_;rintro r w' ⟨rfl,hw'⟩;obtain rfl:=hw'.symm;clear hw');refine(kI _ _ _ _ (lf p) HP.out).mono ?_;rw[show aN p.length (lf p)=true from h1];rintro r w1 ⟨rfl,hb1⟩;have HB1:=aA hb1
    clear hb1;go_wp2_with fail;refine(kE _ _ _ _ _ _ _ _ (HH.out.below HB1.out)).mono ?_;rw[h2];rintro r w2 ⟨rfl,hb2⟩;have HB2:=aA (aB HB1.out hb2)
    clear hb2;go_wp2;refine bY (results_tmp3 rfl _ _ _) rfl ?_;obtain⟨qa',qc',ad',cp',ra',rc',e2,r1,r2⟩:=HFF.out _ _ _ _ _;exact⟨qa',qc',ad',cp',ra',rc',e2,(HB2.out.alloc HB2.out.size _).alloc (by have:=HB2.out.size;simp;omega) _,r1,r2⟩
  ·have ho':o<1∨(1≤o∧3<o):=by omega
   clear hok ho;go_enter Tryz.func70,Tryz.ntmps70;go_wp2_with (go_at_call 39;refine(eC _ _ _ _ ho').mono ?_;rintro r w' ⟨rfl,hw'⟩;obtain rfl:=hw'.symm;clear hw');refine bY (results_tmp3 rfl _ _ _) rfl ?_;obtain⟨qa',qc',ad',cp',ra',rc',e2,r1,r2⟩:=HFF.out _ _ _ _ _;exact⟨qa',qc',ad',cp',ra',rc',e2,aR _ _ _,r1,r2⟩
theorem Na (w:World) (o:Int) (pa:Option Addr) (pc:Nat) (p:List T) (a:Option Addr) (n cap:Nat) (ad:Nat→Option Addr) (ln cp:Nat→Nat) (f:Nat→Nat→T) (hp:RL w pa pc p) (h:cZ w a n cap ad ln cp f) {R:Option Dv} (hR:aW o p n ln f=R):Calls Tryz.prog 29 #[.int .i64 o,.slice a n cap,.slice pa p.length pc] w fun r w'=>r= .returned (.tuple #[.bool (FZ R),.bool R.isSome])∧Below w.heap.size w w':=by
 have HC:=aA (Jy w o pa pc p a n cap ad ln cp f hp h hR);have hbd:=(SV (o:=o) (p:=p) (n:=n) (ln:=ln) (f:=f)).2.2
 rw[hR]at hbd;clear hp h hR;cases R with
 |none=>
  go_enter Tryz.func29,Tryz.ntmps29;go_wp2_with fail;refine HC.out.mono ?_;rintro r w1 ⟨qa,qc,ad',cp',ra,rc,rfl,hb,_⟩;have HB:=aA hb
  simp only[Option.isSome];clear hb HC;go_wp2;refine bY (results_tmp2 rfl _ _ _) rfl ?_;exact⟨rfl,HB.out⟩
 |some S=>
  have hl:(S.r.length:Int)≤300:=by have:S.r.length≤300:=hbd;omega
  by_cases h0:S.r.length=0
  ·have hi:((S.r.length:Int)==0)=true:=by simpa using h0
   have HG:Hid (FZ (some S)=true):=by show FZ (some S)=true;simp[FZ,qG,h0]
   clear h0;go_enter Tryz.func29,Tryz.ntmps29;go_wp2_with fail;refine HC.out.mono ?_;rintro r w1 ⟨qa,qc,ad',cp',ra,rc,rfl,hb,_⟩;have HB:=aA hb
   simp only[Option.isSome,qG];clear hb HC;go_wp2;refine bY (results_tmp2 rfl _ _ _) rfl ?_;rw[HG.out];exact⟨rfl,HB.out⟩
  ·have hi:((S.r.length:Int)==0)=false:=by simpa using h0
   have HG:Hid (FZ (some S)=false):=by show FZ (some S)=false;simp[FZ,qG,h0]
   clear h0;go_enter Tryz.func29,Tryz.ntmps29;go_wp2_with fail;refine HC.out.mono ?_;rintro r w1 ⟨qa,qc,ad',cp',ra,rc,rfl,hb,_⟩;have HB:=aA hb
   simp only[Option.isSome,qG];clear hb HC;go_wp2;refine bY (results_tmp2 rfl _ _ _) rfl ?_;rw[HG.out];exact⟨rfl,HB.out⟩
end Go.Proofs.YtdidlcjhodejjaaGreat
namespace Go.Proofs.YtdidlcjhodejjaaGreat
open Go.RowKit
set_option linter.unusedVariables false
theorem Jn {pa:Option Addr} {m B N:Nat} (hblk:m=0∨∃g off,pa=some ⟨g,off,none⟩∧N≤g) (hB:B<N):m=0∨∀b off,pa=some ⟨b,off,none⟩→b≠B:=hblk.imp id (fun⟨g,off,he,hg⟩ b off' hb=>by rw[he]at hb;cases hb;omega)
open Go.RowKit Go.Deep Go.Joins
theorem QG {m:M} (h:m.ok=true):M.dvd M.zero m=true:=by have:=M.ok_iff.1 h;unfold M.dvd;rw[h,show M.zero.ok=true from by decide];exact decide_eq_true ⟨this.1,this.2.2.1,this.2.2.2.2.1,this.2.2.2.2.2.2.1⟩
theorem Ce {m:M} (h:M.dvd m M.zero=true):m=M.zero:=by
 unfold M.dvd at h;simp only[Bool.and_eq_true,decide_eq_true_eq]at h;have:=M.ok_iff.1 h.1.1
 have h2:=h.2;simp only[M.zero]at h2;cases m;simp only[M.zero,M.mk.injEq]at *;omega
theorem Gm {o:Int} {p:List T} {n:Nat} {L:Nat→List T} {S:Dv} (h:aW o p n (lN L) (fN L)=some S) {j:Nat} (hj:j<n) (hz:(aV o (L j)).m=M.zero):S.r=[]:=by
 cases hr:S.r with
 |nil=>rfl
 |cons t r=>
  have ht:t∈S.r:=by rw[hr];exact List.mem_cons_self ..
  have h1:=xF h t ht j hj;rw[hz,QG ((aD (iD h).1).2.2 t ht).1]at h1;cases h1
theorem XK {o:Int} {p:List T} {n:Nat} {L:Nat→List T} {j:Nat} (hj:j<n) (hz:(aV o (L j)).m=M.zero):(aW o p n (lN L) (fN L)).isSome=true→FZ (aW o p n (lN L) (fN L))=true:=fun hs=>by
 cases h:aW o p n (lN L) (fN L)with
 |none=>rw[h]at hs;cases hs
 |some S=>
  show(true&&decide (S.r.length=0))=true;rw[Gm h hj hz];rfl
theorem VL {α:Type} {nd:Nat→Bool} {f:Nat→α} {i:Nat} (hn:nd i=true):∀{n},i<n→f i∈fJ nd f n
 |0,h=>by omega
 |n+1,h=>by
  unfold fJ;by_cases e:i=n
  ·subst e;rw[if_pos hn];exact List.mem_append_right _ (List.mem_singleton.2 rfl)
  ·have:=VL (f:=f) hn (n:=n) (by omega);split
   ·exact List.mem_append_left _ this
   ·exact this
theorem MU {P:Nat→Prop} [DecidablePred P]:∀{n j:Nat},j<n→P j→∃i,i<n∧P i∧∀k,k<i→¬P k
 |0,j,h,_=>by omega
 |n+1,j,h,hp=>by
  by_cases q:∃i,i<n∧P i
  ·obtain⟨i,hi,hpi⟩:=q;obtain⟨i',h1,h2,h3⟩:=MU hi hpi;exact⟨i',by omega,h2,h3⟩
  ·refine⟨n,by omega,?_,fun k hk hpk=>q ⟨k,hk,hpk⟩⟩;have:j=n:=by
    rcases Nat.lt_or_ge j n with q'|q'
    ·exact absurd ⟨j,q',hp⟩ q
    ·omega
   rw[←this];exact hp
theorem YL {k:Nat→M} {n j:Nat} (hj:j<n) (hz:k j=M.zero):∃i,i<n∧k i=M.zero∧jP k n i=true:=by
 obtain⟨i,hi,hzi,hmin⟩:=MU (P:=fun i=>eF (k i) M.zero=true) hj (dF.2 hz);have hzi':=dF.1 hzi
 refine⟨i,hi,hzi',decide_eq_true (fun t ht hh=>?_)⟩;obtain⟨h1,h2,h3⟩:=hh;rw[hzi']at h2 h3;have e:=Ce h2
 rcases h3 with q|q
 ·rw[e]at q;have:eF M.zero M.zero=true:=by decide
  rw[this]at q;cases q
 ·exact hmin t q (dF.2 e)
theorem Fe {o:Int} {m:M} (ho:1≤o∧o≤3) (h:m.ok=true) (hr:fH o m≤fH o M.zero):m=M.zero:=by
 have h1:=M.ok_iff.1 h;refine lW (o:=o) m M.zero h (by decide) ?_;have h3:o=1∨o=2∨o=3:=by omega
 have hd:m.deg=m.x+m.y+m.d+m.e:=if_pos h;have hd0:M.zero.deg=0:=by decide
 rcases h3 with rfl|rfl|rfl
 all_goals
  simp[fH,fF,xT,iF,M.zero]at hr⊢;omega
theorem QE {o:Int} {n:Nat} {L:Nat→List T} {l:List (List T)} (h:aU o n L=some l) {j:Nat} (hj:j<n) (hz:(aV o (L j)).m=M.zero):l=[[⟨1,⟨0,0,0,0⟩⟩]]:=by
 have hL:=iZ h;have hs:=mZ h
 obtain⟨i,hi,hzi,hni⟩:=YL (k:=fun i=>(aV o (L i)).m) hj hz;have hm:L i∈bU o n L:=qJ.2 (.inr (VL hni hi))
 obtain⟨k,hk,e⟩:=List.mem_iff_getElem.1 hm;have hke:bC (bU o n L) k=L i:=by show(bU o n L).getD k []=_;rw[List.getD_eq_getElem?_getD,List.getElem?_eq_getElem hk];exact e
 have hkl:k<l.length:=by rw[hs.len];exact hk
 have hlk:oT o (bC l k)=M.zero:=by rw[hs.lead k hk,hke];exact hzi
 have hone:∀t,t<l.length→t=k:=fun t ht=>by
  rcases Classical.em (t=k)with q|q
  ·exact q
  ·have h1:=hL.anti k t hkl ht (fun e=>q e.symm);rw[hlk,QG (mP (o:=o) (hL.ok _ (eY ht)))]at h1;cases h1
 have hk0:k=0:=by have:=hone 0 (by omega);omega
 subst hk0;have hlen:l.length=1:=by
  rcases Nat.lt_or_ge 1 l.length with q|q
  ·have:=hone 1 q;omega
  ·omega
 obtain⟨Y,rfl⟩:∃Y,l=[Y]:=by
  match l,hlen with
  |[Y],_=>exact⟨Y,rfl⟩
 have hY:=hL.ok Y (List.mem_singleton.2 rfl);have hlead:(aV o Y).m=M.zero:=hlk
 have hc:(aV o Y).c=1:=hL.one 0 (by show 0<1;omega);have hmem:=gN (o:=o) hY.2
 have hall:∀t∈Y,t.m=M.zero:=fun t ht=>by have h1:=sZ hL.ho hY.1 hY.2 t ht;rw[hlead]at h1;exact Fe hL.ho ((aD hY.1).2.2 t ht).1 h1
 have hf:=(aD hY.1).2;match Y,hY,hlead,hc,hmem,hall,hf with
 |[],hY,_,_,_,_,_=>exact absurd rfl hY.2
 |[t],hY,hlead,hc,hmem,hall,hf=>
  have et:aV o [t]=t:=List.mem_singleton.1 hmem;rw[et]at hlead hc;cases t;simp only at hlead hc;rw[hlead,hc];rfl
 |t::s::r,hY,hlead,hc,hmem,hall,hf=>
  have h1:=(List.pairwise_cons.1 hf.1).1 s (List.mem_cons_self ..);rw[hall t (List.mem_cons_self ..),hall s (List.mem_cons_of_mem _ (List.mem_cons_self ..))]at h1;omega
end Go.Proofs.YtdidlcjhodejjaaGreat
namespace Go.Proofs.YtdidlcjhodejjaaGreat
open Go.RowKit
set_option linter.unusedVariables false
theorem As (w:World) (B p:Nat) (n:Int) (h:lR w B p) (hn:1≤n) (hn':n≤1000) (hp:p≤5000):
 Calls Tryz.prog 66 #[.pointer (some ⟨B,0,none⟩),.int .i64 n] w fun r w'=>∃(a:Option Addr) (m cap:Nat) (f:Nat→T) (q:Nat),r= .returned (.slice a m cap)∧Rd w' a m cap f∧m≤5∧(m=0∨∃g off,a=some ⟨g,off,none⟩∧w.heap.size≤g)∧q≤p+700∧lR w' B q∧aF B w w':=TN w B p n h hn hn' hp
open Go.RowKit Go.Deep Go.Joins
def Ss (w:World) (e:Ending) (w':World):Prop:=∃(o:Int) (pa:Option Addr) (pc:Nat) (p:List T) (a:Option Addr) (n c:Nat) (ad:Nat→Option Addr) (cp:Nat→Nat) (L:Nat→List T),e= .returned (.tuple #[.int .i64 o,.slice a n c,.slice pa p.length pc])∧RL w' pa pc p∧cZ w' a n c ad (lN L) cp (fN L)∧p.length≤400∧n≤12∧Below w.heap.size w w'
theorem XD (w:World) (a:Option Addr) (len cap:Nat) (h:WM w a len cap):Calls Tryz.prog 27 #[.slice a len cap] w (Ss w):=by
 go_enter Tryz.func27,Tryz.ntmps27;go_wp2_with fail;refine(DA _ _ _ _ h).mono ?_;rintro e w1 ⟨rfl,hR1,b1⟩;have hl1:=hR1.lt
 clear h;go_wp2_with fail;refine(BJ w1 _ _ hR1 (by omega)).mono ?_;rintro e w2 ⟨o,la,n,lc,lad,lcp,L,q2,rfl,hr2,hn12,hq2,hR2,s2⟩;have b2:=s2.below b1 (Nat.le_refl _) (by omega)
 have hs2:=s2.size;have HL2:=aA hr2
 clear hR1 s2 b1 hr2;go_wp2_with fail;refine(As w2 _ _ 24 hR2 (by omega) (by omega) (by omega)).mono ?_;rintro e w3 ⟨pa,m,pc,f,q3,rfl,hrd,hm,hblk,hq3,hR3,s3⟩;obtain⟨p,rfl,hrdL⟩:=UI hrd;have b3:=s3.below b2 (Nat.le_refl _) (by omega)
 have hne:=Jn hblk (show w.heap.size<w2.heap.size by omega);have hs3:=s3.size
 have HL3:=aA (HL2.out.beside s3);clear hR2 s3 b2 hblk HL2 hrd;go_wp2_with fail;refine(bT w3 _ _ 2 hR3 (by omega) (by omega) (by omega)).mono ?_;rintro e w4 ⟨x,rfl,hx0,hx2,hp4⟩;have s4:=hp4.beside
 have HB4:=aA (s4.below b3 (Nat.le_refl _) (by omega));have HP4:Hid (RL w4 pa pc p):=Rd.beside hrdL s4 hne
 have HL4:=aA (HL3.out.beside s4);have HR4:=aA (hp4.rdr hR3)
 have HNE:=aA hne;have hs4:=s4.size
 have hnI:(n:Int)≤12:=by omega
 have hpI:(p.length:Int)≤5:=by omega
 clear s4 hp4 hR3 b3 HL3 hrdL hne;have hx:x=0∨x=1:=by omega
 rcases hx with rfl|rfl;rotate_left
 ·go_wp2;refine bY (v:=.tuple #[.int .i64 o,.slice la n lc,.slice pa p.length pc]) (by simp[results,Tryz.results27,go_sem, *]) rfl ?_;exact⟨o,pa,pc,p,la,n,lc,lad,lcp,L,rfl,HP4.out,HL4.out.1,by omega,hn12,HB4.out⟩
 go_wp2_with fail;refine(kE _ _ _ _ _ _ _ _ HL4.out.1).mono ?_;obtain⟨lk,hlk⟩:∃b,aT n (lN L) (fN L)=b:=⟨_,rfl⟩
 rw[hlk];rintro r w5 ⟨rfl,hb5⟩;have HB5:=aA (aB HB4.out hb5)
 have HP5:=aA (RL.below HP4.out hb5);have HL5:=aA (HL4.out.below hb5)
 have HR5:=aA (HR4.out.grown (cK hb5 none) (fun _ e=>by cases e));have HLK:=aA hlk
 have hs5:=hb5.size;clear hb5 HB4 HP4 HL4 HR4 hlk;cases lk
 ·go_wp2;refine bY (v:=.tuple #[.int .i64 o,.slice la n lc,.slice pa p.length pc]) (by simp[results,Tryz.results27,go_sem, *]) rfl ?_;exact⟨o,pa,pc,p,la,n,lc,lad,lcp,L,rfl,HP5.out,HL5.out.1,by omega,hn12,HB5.out⟩
 by_cases hn0:n=0
 ·have hnz:¬(0:Int)<(n:Int):=by omega
  clear hn0;go_wp2;refine bY (v:=.tuple #[.int .i64 o,.slice la n lc,.slice pa p.length pc]) (by simp[results,Tryz.results27,go_sem, *]) rfl ?_;exact⟨o,pa,pc,p,la,n,lc,lad,lcp,L,rfl,HP5.out,HL5.out.1,by omega,hn12,HB5.out⟩
 have hnz:(0:Int)<(n:Int):=by omega
 go_wp2_with fail;refine(Qs HP5.out).mono ?_;obtain⟨pk,hpk⟩:∃b,cG p=b:=⟨_,rfl⟩
 rw[hpk];rintro r w6 ⟨rfl,hb6⟩;have HB6:=aA (aB HB5.out hb6)
 have HP6:=aA (RL.below HP5.out hb6);have HL6:=aA (HL5.out.below hb6)
 have HR6:=aA (HR5.out.grown (cK hb6 none) (fun _ e=>by cases e));have HPK:=aA hpk
 have hs6:=hb6.size;clear hb6 HB5 HP5 HL5 HR5 hpk;cases pk
 ·go_wp2;refine bY (v:=.tuple #[.int .i64 o,.slice la n lc,.slice pa p.length pc]) (by simp[results,Tryz.results27,go_sem, *]) rfl ?_;exact⟨o,pa,pc,p,la,n,lc,lad,lcp,L,rfl,HP6.out,HL6.out.1,by omega,hn12,HB6.out⟩
 go_wp2_with fail;refine(bT w6 _ _ n HR6.out (by omega) (by omega) (by omega)).mono ?_;rintro e w7 ⟨y,rfl,hy0,hyn,hp7⟩;obtain⟨k,rfl⟩:∃k:Nat,y=(k:Int):=⟨y.toNat,by omega⟩
 have hk:k<n:=by omega
 have s7:=hp7.beside;have HB7:=aA (s7.below HB6.out (Nat.le_refl _) (by omega))
 have HP7:Hid (RL w7 pa pc p):=Rd.beside HP6.out s7 HNE.out;have HL7:=aA (HL6.out.beside s7)
 obtain⟨lb,off,rfl,hlb,hcl⟩:=HL7.out.1.2.2.1.resolve_left hn0;have g0:w7.cell? ⟨lb,off+k,none⟩=some (.slice (lad k) (L k).length (lcp k)):=hcl k hk
 have HE7:Hid (RL w7 (lad k) (lcp k) (L k)):=HL7.out.1.2.2.2 k hk;have okk:cG (L k)=true:=((aL HLK.out).2 k hk).2
 have HOK:=aA okk;clear s7 hp7 HB6 HP6 HL6 HR6 hcl okk;go_wp2_with fail;refine(UQ w7 pa (lad k) p.length pc (L k).length (lcp k) (lf p) (lf (L k)) HP7.out HE7.out (aD HPK.out).1 (aD HOK.out).1 (cF HPK.out).2 (cF HOK.out).2).mono ?_;obtain⟨X,xo,hX⟩:∃X b,lC (cT (lf p) (lf (L k)) (L k).length p.length)=(X,b):=⟨_,_,rfl⟩
 have hXl:X.length≤400:=by
  have hw:nU p (L k)=(X,xo):=by unfold nU bV;rw[if_pos ⟨HPK.out,HOK.out⟩,hX]
  cases xo
  ·rcases ER p (L k)with e|⟨Q,e,_⟩
   ·rw[e]at hw;cases hw;simp
   ·rw[e]at hw;cases hw
  ·exact(aD (zV hw)).1
 rw[hX];rintro e w8 ⟨v,rfl,hb8,hv8⟩;have hv9:w8.ownsRow w7.heap.size 42 5 v X.length (aE X):=hv8
 obtain⟨xa,xc,rfl,hO8⟩:=aH hv9 (by omega);have HB8:=aA (aB HB7.out hb8)
 have HP8:=aA (RL.below HP7.out hb8);have HL8:=aA (HL7.out.below hb8)
 have HX8:Hid (RL w8 xa xc X):=hO8.1;clear hb8 hv8 hv9 hO8 HB7 HP7 HL7 HE7 g0 hX;cases xo
 ·go_wp2;refine bY (v:=.tuple #[.int .i64 o,.slice (some ⟨lb,off,none⟩) n lc,.slice pa p.length pc]) (by simp[results,Tryz.results27,go_sem, *]) rfl ?_;exact⟨o,pa,pc,p,_,n,lc,lad,lcp,L,rfl,HP8.out,HL8.out.1,by omega,hn12,HB8.out⟩
 ·go_wp2;refine bY (v:=.tuple #[.int .i64 o,.slice (some ⟨lb,off,none⟩) n lc,.slice xa X.length xc]) (by simp[results,Tryz.results27,go_sem, *]) rfl ?_;exact⟨o,xa,xc,X,_,n,lc,lad,lcp,L,rfl,HX8.out,HL8.out.1,hXl,hn12,HB8.out⟩
abbrev eW (ya:Option Addr) (yc k:Nat):E:=⟨ya,yc,[⟨1+(k:Int),⟨0,0,0,0⟩⟩]⟩
abbrev AB:List T:=[⟨1,⟨0,0,0,0⟩⟩]
theorem JK (u:World):Calls Tryz.prog 31 #[] u fun e w'=>∃za zc,e= .returned (.slice za 1 zc)∧Below u.heap.size u w'∧RL w' za zc AB:=by go_enter Tryz.func31,Tryz.ntmps31;go_wp2;go_ret;exact⟨_,_,rfl,aC u _,gR u ⟨1,⟨0,0,0,0⟩⟩⟩
theorem Kg {k:Int} (k1:1≤k) (k2:k≤100):Sj k AB=[⟨k,⟨0,0,0,0⟩⟩]:=by
 rw[SZ k1 k2 (by decide),nF];show[(⟨k*1%101,_⟩:T)]=_
 rw[show k*1%101=k by omega]
theorem Rs {w:World} {a:Option Addr} {c:Nat} {k:Int} (k1:1≤k) (k2:k≤100) (h:RL w a c AB):Calls Tryz.prog 30 #[.int .i64 k,.slice a 1 c] w fun e w'=>∃za zc,e= .returned (.slice za 1 zc)∧Below w.heap.size w w'∧jN w.heap.size w' za zc [⟨k,⟨0,0,0,0⟩⟩]:=by refine(GZ w k a 1 c (lf AB) h).mono ?_;rintro r w' ⟨v,rfl,hb,hown⟩;rw[show fD k (lf AB) 1=[⟨k,⟨0,0,0,0⟩⟩]from Kg k1 k2]at hown;obtain⟨a',c',rfl,hO⟩:=aH hown (by simp);exact⟨a',c',rfl,hb,hO⟩
theorem It (o:Int) (t:T):aV o [t]=t:=List.mem_singleton.1 (gN (o:=o) (L:=[t]) (by simp))
theorem Ew {L:Nat→List T} {ad:Nat→Option Addr} {cp:Nat→Nat} {n:Nat} {e:E}:bC ((eH (gK ad cp L) n++[e]).map E.p) n=e.p:=by rw[tJ,List.getD_eq_getElem?_getD,List.getElem?_append_right (by rw[cH];exact Nat.le_refl _),cH,Nat.sub_self];rfl
theorem sV {w w':World} (h:Below w.drew.heap.size w.drew w'):Below w.heap.size w w':=⟨h.os,h.tape,h.output,h.size,h.block⟩
theorem C1w.below {w w':World} {b o:Nat} {v:Value} (h:w.cell? ⟨b,o,none⟩=some v) (hb:Below w.heap.size w w'):w'.cell? ⟨b,o,none⟩=some v:=(hb.cell (p:=⟨b,o,none⟩) (cX w _ h)).trans h
theorem AG (w:World) (a0:Option Addr) (len0 cap0:Nat) (s0:WM w a0 len0 cap0):Calls Tryz.prog 7 #[.slice a0 len0 cap0] w fun e w'=>e= .returned (.bool true)∧Below w.heap.size w w':=by
 obtain⟨i0,hi0,hz0,hz1,hz2⟩:=pU;by_cases c0:(1048576:Int)<(len0:Int)
 ·go_enter Tryz.func7,Tryz.ntmps7;go_wp2;go_ret;exact⟨rfl,bL _ _⟩
 go_enter Tryz.func7,Tryz.ntmps7;go_wp2_with fail;refine(XD _ _ _ _ s0).mono ?_;rintro e w1 ⟨o,pa,pc,p,a,n,c,ad,cp,L,rfl,hp,hr,hpl,hn,b1⟩;have HR:=aA hr
 have HP:=aA hp;have HB:=aA b1
 have hnI:(n:Int)≤12:=by omega
 obtain⟨pl,hpe⟩:∃pl,p.length=pl:=⟨_,rfl⟩
 rw[hpe];have HPE:=aA hpe
 clear s0 hr b1 hp hpe;obtain⟨R,hR⟩:∃R,aW o p n (lN L) (fN L)=R:=⟨_,rfl⟩
 have HRR:=aA hR;obtain⟨gi,hgi⟩:∃g,FZ R=g:=⟨_,rfl⟩
 obtain⟨so,hso⟩:∃s,R.isSome=s:=⟨_,rfl⟩
 have HGI:=aA hgi;have HSO:=aA hso
 have HCI:Hid (∀W,RL W pa pc p→cZ W a n c ad (lN L) cp (fN L)→Calls Tryz.prog 28 #[.int .i64 o,.slice a n c,.slice pa pl pc] W fun r w'=>r= .returned (.tuple #[.bool gi,.bool so])∧Below W.heap.size W w'):=fun W h1 h2=>by have:=JG W o pa pc p a n c ad (lN L) cp (fN L) h1 h2 hR;rw[hgi,hso,HPE.out]at this;exact this
 have HCS:Hid (∀W,RL W pa pc p→cZ W a n c ad (lN L) cp (fN L)→Calls Tryz.prog 29 #[.int .i64 o,.slice a n c,.slice pa pl pc] W fun r w'=>r= .returned (.tuple #[.bool gi,.bool so])∧Below W.heap.size W w'):=fun W h1 h2=>by have:=Na W o pa pc p a n c ad (lN L) cp (fN L) h1 h2 hR;rw[hgi,hso,HPE.out]at this;exact this
 clear hR hgi hso;go_wp2_with fail;refine(HCI.out w1 HP.out HR.out).mono ?_;rintro e w2 ⟨rfl,hb2⟩;have HB2:=aA (aB HB.out hb2)
 have HR2:=aA (HR.out.below hb2);have HP2:Hid (RL w2 pa pc p):=Rd.below HP.out hb2
 clear hb2 HR HP HB HCI;go_wp2_with fail;refine(HCS.out w2 HP2.out HR2.out).mono ?_;rintro e w3 ⟨rfl,hb3⟩;have HB3:=aA (aB HB2.out hb3)
 have HR3:=aA (HR2.out.below hb3);have HP3:Hid (RL w3 pa pc p):=Rd.below HP2.out hb3
 clear hb3 HR2 HP2 HB2 HCS;have hg1:(gi !=gi)=false:=by simp
 have hg2:(so !=so)=false:=by simp
 by_cases hg:(1≤o∧o≤3)∧aT n (lN L) (fN L)=true;rotate_left
 ·have hRn:R=none:=by rw[←HRR.out];exact if_neg (fun q=>hg ⟨q.1,q.2.2⟩)
  have hgi:gi=false:=by rw[←HGI.out,hRn];rfl
  have hso:so=false:=by rw[←HSO.out,hRn];rfl
  subst hgi hso;have hcs:aT n (lN L) (fN L)=false∨(aT n (lN L) (fN L)=true∧o<1)∨(aT n (lN L) (fN L)=true∧1≤o∧3<o):=by
   cases hl:aT n (lN L) (fN L)
   ·exact .inl rfl
   ·right;rcases Classical.em (1≤o∧o≤3)with q|q
    ·exact absurd ⟨q,hl⟩ hg
    ·rcases Int.lt_or_le o 1 with q'|q'
     ·exact .inl ⟨rfl,q'⟩
     ·exact .inr ⟨rfl,q',by omega⟩
  clear hg hRn;rcases hcs with hl|⟨hl,q⟩|⟨hl,q,q'⟩
  all_goals
   go_wp2_with fail;refine(kE _ a n c ad (lN L) cp (fN L) HR3.out).mono ?_;rw[hl];rintro e w4 ⟨rfl,hb4⟩;have HB4:=aA (aB HB3.out hb4)
   clear hb4;go_wp2_with fail;refine(mO _).mono ?_;rintro e w5 ⟨rfl,hb5⟩;have HB5:=aA (aB HB4.out hb5)
   clear hb5;go_wp2;go_ret;exact⟨rfl,HB5.out⟩
 obtain⟨⟨o1,o2⟩,hl⟩:=hg;go_wp2_with fail;refine(kE _ a n c ad (lN L) cp (fN L) HR3.out).mono ?_;rw[hl];rintro e w4 ⟨rfl,hb4⟩;have HB4:=aA (aB HB3.out hb4)
 have HR4:=aA (HR3.out.below hb4);have HP4:Hid (RL w4 pa pc p):=Rd.below HP3.out hb4
 clear hb4 HR3 HP3 HB3;by_cases h12:n=12
 ·subst h12;cases so
  ·cases gi
   ·go_wp2_with fail;refine(mO _).mono ?_;rintro e w5 ⟨rfl,hb5⟩;have HB5:=aA (aB HB4.out hb5)
    clear hb5;go_wp2;go_ret;exact⟨rfl,HB5.out⟩
   ·go_wp2;go_ret;exact⟨rfl,HB4.out⟩
  ·go_wp2;go_ret;exact⟨rfl,HB4.out⟩
 have hn12:((n:Int)==12)=false:=by rw[beq_eq_false_iff_ne];omega
 have hn11:n+1≤12:=by omega
 have hrde:=MN HR4.out (show n≤100 by omega);have hpl0:(eH (gK ad cp L) n).length=n:=cH _ _
 obtain⟨es,hes⟩:∃es,eH (gK ad cp L) n=es:=⟨_,rfl⟩
 rw[hes]at hrde hpl0;have HES:=aA hes
 have HRE:=aA hrde;have HPL:=aA hpl0
 have HST:=aA (dA.start (w:=w4) (Nat.le_refl w4.heap.size));have hq:((len0:Int)).tmod 100=((len0%100:Nat):Int):=(Int.ofNat_tmod len0 100).symm
 obtain⟨k,hk⟩:∃k,len0%100=k:=⟨_,rfl⟩
 have hk100:k<100:=by omega
 rw[hk]at hq;have hkI:(k:Int)<100:=by omega
 clear hrde hpl0 hes hk;have FACTS:Hid (∀(w8:World) (tv:Value) (ya:Option Addr) (yc:Nat),dA w4.heap.size w8 tv (es++[eW ya yc k])→∃A C9,tv= .slice A (n+1) C9∧cZ w8 A (n+1) C9 (fun i=>((es++[eW ya yc k]).getD i E0).a) (lN (bC ((es++[eW ya yc k]).map E.p))) (fun i=>((es++[eW ya yc k]).getD i E0).c) (fN (bC ((es++[eW ya yc k]).map E.p)))∧(aV o (bC ((es++[eW ya yc k]).map E.p) n)).m=M.zero):=fun w8 tv ya yc hX=>by
  have hle:(es++[eW ya yc k]).length=n+1:=by rw[List.length_append,HPL.out];rfl
  obtain⟨A,C9,eA,hrd⟩:=hX.rd (by rw[hle];omega);have h3:=hrd.rds
  rw[hle]at eA h3;refine⟨A,C9,eA,h3,?_⟩;rw[←HES.out,Ew,It];rfl
 have HBW:=aA (aC w4 (.cells #[] 45));have hlo0:w4.heap.size≤(w4.alloc (.cells #[] 45)).heap.size:=HBW.out.size
 have HEL0:Hid (∀e∈es,mU (w4.alloc (.cells #[] 45)) (Value.slice (some ⟨w4.heap.size,0,none⟩) 0 0).ownBlock e):=fun e he=>mU.far (HRE.out.2.2.2 e he) HBW.out (fun k hk=>by
  have:=(HST.out.row.lt k hk).1
  omega)
 go_wp2_with (at_builtin;refine eJ (by rfl) (.tmp 76) (.tmp 77) (by rfl) HST.out (by rfl) HPL.out (by rfl) (HRE.out.below HBW.out) HEL0.out hlo0 (by simp;omega) ?_;intro tv5 w5 r1 r2 r3;have HRW5:=aA (show dA w4.heap.size w5 tv5 es from r1);have HBW5:=aA (r2 _ _ HBW.out (Nat.le_refl _));clear r1 r2 r3);refine(JK _).mono ?_;rintro e w6 ⟨za,zc,rfl,hb6,hz6⟩;have HBW6:=aA (aB HBW5.out hb6)
 have HRW6:=aA (HRW5.out.below hb6);have HZ6:=aA hz6
 clear hb6 hz6 HRW5 HBW5 HEL0 HST hlo0;go_wp2_with fail;refine(Rs (k:=1+(k:Int)) (by omega) (by omega) HZ6.out).mono ?_;rintro e w7 ⟨ya,yc,rfl,hb7,hy7⟩;have bx:=aC w7 (.cells #[.slice ya 1 yc] 45)
 have HBW7:=aA (aB (aB HBW6.out hb7) bx);have HRW7:=aA ((HRW6.out.below hb7).below bx)
 have HEL:Hid (∀e∈[eW ya yc k],mU (w7.alloc (.cells #[.slice ya 1 yc] 45)) tv5.ownBlock e):=fun e he=>by
  rw[List.mem_singleton.1 he];refine⟨Rd.below hy7.1 bx,.inr fun b off e1 e2=>?_⟩;have e1':ya=some ⟨b,off,none⟩:=e1
  obtain⟨g,off',e3,hg⟩:=hy7.2.2.resolve_left (by simp);rw[e3]at e1';cases e1';have:=(HRW6.out.row.lt _ e2).2
  omega
 have HRD7:Hid (nG (w7.alloc (.cells #[.slice ya 1 yc] 45)) (some ⟨w7.heap.size,0,none⟩) 1 [eW ya yc k]):=nG.box (W:=w7) (e:=eW ya yc k) hy7.1;have hbase:w4.heap.size≤(w7.alloc (.cells #[.slice ya 1 yc] 45)).heap.size:=HBW7.out.size
 have hes1:es.length+1≤100:=by rw[HPL.out];omega
 clear hb7 hy7 bx;go_wp2_with (at_builtin;refine eJ (by rfl) (.tmp 78) (.tmp 85) (by rfl) HRW7.out (by rfl) rfl (by rfl) HRD7.out HEL.out hbase hes1 ?_;intro tv8 w8 r1 r2 r3;have HX:=aA r1;have HBW8:=aA (r2 _ _ HBW7.out (Nat.le_refl _));obtain⟨A,C9,htv8,h3,hzz⟩:=FACTS.out w8 tv8 ya yc r1;subst htv8;have H3Z:=aA (And.intro h3 hzz);clear r1 r2 r3 h3 hzz hbase hes1);have h3:=H3Z.out.1
 have hzz:=H3Z.out.2;obtain⟨L',hL'⟩:∃L',bC ((es++[eW ya yc k]).map E.p)=L':=⟨_,rfl⟩
 rw[hL']at h3 hzz;obtain⟨R',hR'⟩:∃R',aW o p (n+1) (lN L') (fN L')=R':=⟨_,rfl⟩
 have hgw:=XK (o:=o) (p:=p) (n:=n+1) (L:=L') (j:=n) (by omega) hzz;rw[hR']at hgw;have HGW:=aA hgw
 have HZZ:=aA hzz;have H3:=aA h3
 have HB8:=aA (aB HB4.out HBW8.out);have HP8:Hid (RL w8 pa pc p):=Rd.below HP4.out HBW8.out
 have hcin:=JG w8 o pa pc p A (n+1) C9 _ _ _ _ HP8.out h3 hR';rw[HPE.out]at hcin;have HCIN:=aA hcin
 clear h3 hzz hL' hR' hgw hcin HX HEL HRW7 HBW7 HRW6 HBW6 HZ6 H3Z HRD7;go_wp2_with fail;refine HCIN.out.mono ?_;rintro e w9 ⟨rfl,hb9⟩;have HB9:=aA (aB HB8.out hb9)
 have H39:=aA (H3.out.below hb9);clear hb9 HCIN H3 HB8;go_wp2_with fail;refine(kK w9 o A (n+1) C9 _ _ L' H39.out).mono ?_;rintro e w11 ⟨hb11,hh⟩;have HB11:=aA (aB HB9.out hb11)
 obtain⟨gi',hgi'⟩:∃g,FZ R'=g:=⟨_,rfl⟩
 obtain⟨so',hso'⟩:∃s,R'.isSome=s:=⟨_,rfl⟩
 have hgw:=HGW.out;rw[hgi',hso']at hgw⊢;clear hb11 hgi' hso' HB9 H39 HGW;have hfi:so'=false∨(so'=true∧gi'=true):=by
  cases so'
  ·exact .inl rfl
  ·exact .inr ⟨rfl,hgw rfl⟩
 clear hgw;rcases hh with⟨l,qa,qc,xad,xcp,Rb,B,q,rfl,hO⟩|⟨_,rfl⟩
 ·have el:=QE q (j:=n) (by omega) HZZ.out;subst el;have hx:=hO.rd
  obtain⟨xb,xo,ex,hxb,hxc⟩:=hx.2.2.1.resolve_left (by simp);have hxc0:=hxc 0 (by simp)
  have HXC:Hid (w11.cell? ⟨xb,xo,none⟩=some (.slice (xad 0) 1 (xcp 0))):=hxc0;have HX0:Hid (RL w11 (xad 0) (xcp 0) AB):=hx.2.2.2 0 (by simp)
  simp only[List.length_singleton];subst ex;clear hO hx hxc hxc0 q HZZ;rcases hfi with rfl|⟨rfl,rfl⟩
  ·have HSM:Hid (∀(u:World) (za':Option Addr) (zc':Nat),Below w11.heap.size w11 u→RL u za' zc' AB→Calls Tryz.prog 32 #[.slice (xad 0) 1 (xcp 0),.slice za' 1 zc'] u fun r w'=>r= .returned (.bool true)∧Below u.heap.size u w'):=fun u za' zc' hu hz=>by have:=Nc (L:=AB) (K:=AB) (Rd.below HX0.out hu) hz;rw[rH]at this;exact this
   have hS:w11.drew.cell? ⟨xb,xo,none⟩=some (.slice (xad 0) 1 (xcp 0)):=HXC.out;go_wp2_with fail;first|(go_region_held (fun u=>u.cell? ⟨xb,xo,none⟩=some (.slice (xad 0) 1 (xcp 0))) (first|with_reducible exact hS|with_reducible exact C1w.below hS b12|with_reducible exact C1w.below (C1w.below hS b12) b13|with_reducible exact C1w.below (C1w.below (C1w.below hS b12) b13) b14) (first|(go_at_call 31;(with_reducible refine(JK _).mono ?_);rintro e w12 ⟨za',zc',rfl,b12,hz12⟩)|(go_at_call 32;(with_reducible refine(HSM.out _ _ _ (sV b12) hz12).mono ?_);rintro e w13 ⟨rfl,b13⟩)|(go_at_call 26;(with_reducible refine(mO _).mono ?_);rintro e w14 ⟨rfl,b14⟩)))|fail
   go_wp2;go_ret;exact⟨rfl,aB (aB (aB HB11.out (sV b12)) b13) b14⟩
  ·have HSM:Hid (∀(u:World) (za':Option Addr) (zc':Nat),Below w11.heap.size w11 u→RL u za' zc' AB→Calls Tryz.prog 32 #[.slice (xad 0) 1 (xcp 0),.slice za' 1 zc'] u fun r w'=>r= .returned (.bool true)∧Below u.heap.size u w'):=fun u za' zc' hu hz=>by have:=Nc (L:=AB) (K:=AB) (Rd.below HX0.out hu) hz;rw[rH]at this;exact this
   have hS:w11.drew.cell? ⟨xb,xo,none⟩=some (.slice (xad 0) 1 (xcp 0)):=HXC.out;go_wp2_with fail;first|(go_region_held3 (fun u=>u.cell? ⟨xb,xo,none⟩=some (.slice (xad 0) 1 (xcp 0))) (first|with_reducible exact hS|with_reducible exact C1w.below hS b12|with_reducible exact C1w.below (C1w.below hS b12) b13|with_reducible exact C1w.below (C1w.below (C1w.below hS b12) b13) b14) (first|(go_at_call 31;(with_reducible refine(JK _).mono ?_);rintro e w12 ⟨za',zc',rfl,b12,hz12⟩)|(go_at_call 32;(with_reducible refine(HSM.out _ _ _ (sV b12) hz12).mono ?_);rintro e w13 ⟨rfl,b13⟩)|(go_at_call 26;(with_reducible refine(mO _).mono ?_);rintro e w14 ⟨rfl,b14⟩)))|fail
   go_wp2;go_ret;exact⟨rfl,aB (aB (aB HB11.out (sV b12)) b13) b14⟩
 ·clear HZZ;have ne:=bJ.there w11
  have HOKc:Hid (∀u:bJ w11,Calls Tryz.prog 26 #[] u.1 fun r w'=>r= .returned (.bool true)∧Below u.1.heap.size u.1 w'):=fun u=>mO _;rcases hfi with rfl|⟨rfl,rfl⟩
  all_goals
   go_wp2_with fail;refine aG (by kernel_rfl) (by kernel_rfl) ?_;repeat(go_big_quiet_step (first|(go_at_call 26;exact aJ (HOKc.out _))|fail))
   refine wpQuiet_nil ?_;rintro _ ⟨v,rfl⟩;have HV:=aA (aB HB11.out v.2)
   go_wp2;go_ret;exact⟨rfl,HV.out⟩
end Go.Proofs.YtdidlcjhodejjaaGreat
