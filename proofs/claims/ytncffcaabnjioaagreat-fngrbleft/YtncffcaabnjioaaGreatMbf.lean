/-
  The program's RedAll.
  The model's division.
  The model's division, to its end.
-/
import Derived.Test.YtncffcaabnjioaaGreatMbe
set_option maxHeartbeats 16000000
set_option maxRecDepth 100000
namespace Go.Proofs.YtncffcaabnjioaaGreat
open Go.RowKit Go.Deep Go.Joins Go.Maps
set_option linter.unusedVariables false
set_option linter.unusedSimpArgs false
theorem KN {o:Int} {p:List T} {n:Nat} {ln:Nat→Nat} {f:Nat→Nat→T} (h:¬((1≤o∧o≤3)∧cT p=true∧aW n ln f=true)):(o<1∨3<o)∨((1≤o∧o≤3)∧aW n ln f=false)∨((1≤o∧o≤3)∧aW n ln f=true∧cT p=false):=by
 by_cases ho:1≤o∧o≤3
 ·cases hl:aW n ln f
  ·exact .inr (.inl ⟨ho,rfl⟩)
  ·cases hp:cT p
   ·exact .inr (.inr ⟨ho,rfl,rfl⟩)
   ·exact absurd ⟨ho,hp,hl⟩ h
 ·exact .inl (by omega)
theorem GC (w:World) (o:Int) (pa:Option Addr) (pc:Nat) (p:List T) (a:Option Addr) (n cap:Nat) (ad:Nat→Option Addr) (ln cp:Nat→Nat) (f:Nat→Nat→T) (hp:RL w pa pc p) (h:fZ w a n cap ad ln cp f) (hno:¬((1≤o∧o≤3)∧cT p=true∧aW n ln f=true)):Calls Tryz.prog 41 #[.int .i64 o,.slice pa p.length pc,.slice a n cap] w fun r w'=>r= .returned (.tuple #[.pointer none,.bool false])∧Below w.heap.size w w':=by
 have HP:=aA hp;have HH:=aA h
 have q1:(n:Int)≤140737488351232:=by have:=h.2.1;omega
 have q2:(p.length:Int)≤140737488351232:=by have:=hp.2.1;omega
 clear hp h;rcases KN hno with ho|⟨ho,hl⟩|⟨ho,hl,hk⟩
 ·clear hno;go_enter Tryz.func41,Tryz.ntmps41;go_wp2_with fail;refine(nJ _ _ ho).mono ?_;rintro r w1 ⟨rfl,hb1⟩;have HB1:=aA hb1
  clear hb1;go_wp2_with fail;refine(qD _ _ _ _ _ ho).mono ?_;rintro r w2 ⟨rfl,hb2⟩;have HB2:=aA (aB HB1.out hb2)
  clear hb2;go_wp2;refine cB (results_tmp2 rfl _ _ _) rfl ?_;exact⟨rfl,HB2.out⟩
 ·clear hno;go_enter Tryz.func41,Tryz.ntmps41;go_wp2_with fail;refine(iB _ _ ho.1 ho.2).mono ?_;rintro r w1 ⟨fv,rfl,hb1⟩;have HB1:=aA hb1
  clear hb1;go_wp2_with fail;refine(sL _ _ _ _ _ _ _ _ _ (HH.out.below HB1.out) ho.1 ho.2 hl).mono ?_;rintro r w2 ⟨rfl,hb2⟩;have HB2:=aA (aB HB1.out hb2)
  clear hb2;go_wp2;refine cB (results_tmp2 rfl _ _ _) rfl ?_;exact⟨rfl,HB2.out⟩
 ·clear hno;go_enter Tryz.func41,Tryz.ntmps41;go_wp2_with fail;refine(iB _ _ ho.1 ho.2).mono ?_;rintro r w1 ⟨fv,rfl,hb1⟩;have HB1:=aA hb1
  clear hb1;go_wp2_with fail;refine(tP _ _ _ _ _ _ _ _ _ (HH.out.below HB1.out) ho.1 ho.2 hl).mono ?_;rintro r w2 ⟨v,rfl,hb2,ho2⟩;have HB2:=aA (aB HB1.out hb2)
  clear hb2 ho2;go_wp2_with fail;refine(eD _ _ _ _ (lf p) (HP.out.below HB2.out)).mono ?_;rw[show aN p.length (lf p)=false from hk];rintro r w3 ⟨rfl,hb3⟩;have HB3:=aA (aB HB2.out hb3)
  clear hb3;go_wp2;refine cB (results_tmp2 rfl _ _ _) rfl ?_;exact⟨rfl,HB3.out⟩
def zO (w:World) (n:Nat) (R:Option Dv) (r:Ending) (w':World):Prop:=
 Below w.heap.size w w'∧((∃S qa qc ad cp Rb B la lc mid,R=some S∧r= .returned (.tuple #[.slice qa n qc,.slice la S.r.length lc,.bool true])∧jK w.heap.size w' qa n qc ad (fun i=>(S.q i).length) cp (fun i=>lf (S.q i)) Rb B∧lI mid w' la lc S.r∧(n=0∨Rb<mid)∧(∀i,i<n→(S.q i).length≠0→B i<mid)∧w.heap.size≤mid)∨(R=none∧r= .returned (.tuple #[.slice none 0 0,.slice none 0 0,.bool false])))
theorem VG (w:World) (o:Int) (pa:Option Addr) (pc:Nat) (p:List T) (a:Option Addr) (n cap:Nat) (ad:Nat→Option Addr) (ln cp:Nat→Nat) (f:Nat→Nat→T) (hp:RL w pa pc p) (h:fZ w a n cap ad ln cp f):Calls Tryz.prog 12 #[.int .i64 o,.slice pa p.length pc,.slice a n cap] w fun r w'=>zO w n (aP o p n ln f) r w':=by
 by_cases hok:(1≤o∧o≤3)∧cT p=true∧aW n ln f=true
 ·have HE:Hid (aP o p n ln f=dV o n ln f 300 (jO p)):=if_pos hok;rw[HE.out];have HBG:=aA (MF w o pa pc p a n cap ad ln cp f hp h hok.1.1 hok.1.2 hok.2.1 hok.2.2)
  clear HE hp h;go_enter Tryz.func12,Tryz.ntmps12;go_wp2_with fail;refine HBG.out.mono ?_;rintro r w1 ⟨X,rfl,e1,e2,e3,e4,e5,e6,hD,hb1⟩;subst e1 e2 e3;have hbd:X.Bd<w1.heap.size:=cU w1 _ hD.c0
  have hs1:w.heap.size≤w1.heap.size:=hb1.size;have HB0:=aA (aB hb1 (aR w1 (.cells #[.pointer (some ⟨X.Bd,0,none⟩)] 62) (.cells #[.slice none 0 0] 23) (.cells #[.slice none 0 0] 24)))
  have hsz:(((w1.alloc (.cells #[.pointer (some ⟨X.Bd,0,none⟩)] 62)).alloc (.cells #[.slice none 0 0] 23)).alloc (.cells #[.slice none 0 0] 24)).heap.size=w1.heap.size+3:=by simp
  have HSZ:=aA hsz
  have HA:=aA (YY X (((w1.alloc (.cells #[.pointer (some ⟨X.Bd,0,none⟩)] 62)).alloc (.cells #[.slice none 0 0] 23)).alloc (.cells #[.slice none 0 0] 24)) p (hD.below (aR _ _ _ _)) hok.2.1 (by rw[e5,e4]) (by rw[e4];exact hok.1) hok.2.2 w1.heap.size (w1.heap.size+1) (w1.heap.size+2)
   (by simp[go_sem]) (by simp[go_sem]) (by simp[go_sem]) (by simp[go_sem]) (by simp[go_sem]) (by omega) (by omega) (by omega) (by omega) (by rw[e6];omega) (by rw[e6];omega))
  rw[e4,e6]at HA;clear hb1 hD hsz;go_wp2_with fail;rw[show w1.heap.size+1+1=w1.heap.size+2 from rfl];cases hR:dV o X.n X.ln X.f 300 (jO p)with
  |some S=>
   have HC:=aA (oW 43 #[.pointer (some ⟨w1.heap.size,0,none⟩),.pointer (some ⟨w1.heap.size+1,0,none⟩),.pointer (some ⟨w1.heap.size+2,0,none⟩)] (((w1.alloc (.cells #[.pointer (some ⟨X.Bd,0,none⟩)] 62)).alloc (.cells #[.slice none 0 0] 23)).alloc (.cells #[.slice none 0 0] 24)) (fun w'=>Below w.heap.size (((w1.alloc (.cells #[.pointer (some ⟨X.Bd,0,none⟩)] 62)).alloc (.cells #[.slice none 0 0] 23)).alloc (.cells #[.slice none 0 0] 24)) w'∧∃qa qc ad cp Rb B la lc mid,w'.cell? ⟨w1.heap.size+1,0,none⟩=some (.slice qa X.n qc)∧w'.cell? ⟨w1.heap.size+2,0,none⟩=some (.slice la S.r.length lc)∧jK (w1.heap.size+3) w' qa X.n qc ad (fun i=>(S.q i).length) cp (fun i=>lf (S.q i)) Rb B∧lI mid w' la lc S.r∧(X.n=0∨Rb<mid)∧(∀i,i<X.n→(S.q i).length≠0→B i<mid)∧w1.heap.size+3≤mid) (enters_of Tryz.func43 (by kernel_rfl) rfl) (HA.out.mono fun r w' h=>by
    rw[hR]at h;rcases h.2 with⟨S',qa,qc,ad,cp,Rb,B,la,lc,mid,hS,hr,r1,r2,r3,r4,r5,r6,r7⟩|⟨hno,_⟩
    ·cases hS;rw[HSZ.out]at r3 r7;exact⟨hr,h.1,qa,qc,ad,cp,Rb,B,la,lc,mid,r1,r2,r3,r4,r5,r6,r7⟩
    ·cases hno))
   have HRR:=aA hR;clear HA hR;refine HC.out.mono ?_;rintro r w3 ⟨rfl,w2,⟨hb2,qa,qc,ad',cp',Rb,B,la,lc,mid,k1,k2,hO,hL,m1,m2,m3⟩,rfl⟩;have g1:(w2.alloc (.cells #[] 117)).cell? ⟨w1.heap.size+1,0,none⟩=some (.slice qa X.n qc):=((aC w2 _).cell (p:=⟨w1.heap.size+1,0,none⟩) (cU w2 _ k1)).trans k1
   have g2:(w2.alloc (.cells #[] 117)).cell? ⟨w1.heap.size+2,0,none⟩=some (.slice la S.r.length lc):=((aC w2 _).cell (p:=⟨w1.heap.size+2,0,none⟩) (cU w2 _ k2)).trans k2;have hbw:Below w.heap.size w w2:=HB0.out.trans hb2
   have HFIN:Hid (zO w X.n (some S) (.returned (.tuple #[.slice qa X.n qc,.slice la S.r.length lc,.bool true])) (w2.alloc (.cells #[] 117)).drew):=
    ⟨(hbw.alloc hbw.size _).drew,.inl ⟨S,qa,qc,ad',cp',Rb,B,la,lc,mid,rfl,rfl,((hO.low (by omega)).below (aC w2 _)).below (cE _ _).drew,(hL.below (aC w2 _)).below (cE _ _).drew,m1,m2,by omega⟩⟩
   clear hb2 k1 k2 hO hL m1 m2 m3 HC hbw;go_wp2_with fail
   go_region_with fail
   all_goals
    go_wp2;refine cB (results_tmp3 rfl _ _ _) rfl ?_;rw[HRR.out];exact HFIN.out
  |none=>
   have HC:=aA (wZ 43 #[.pointer (some ⟨w1.heap.size,0,none⟩),.pointer (some ⟨w1.heap.size+1,0,none⟩),.pointer (some ⟨w1.heap.size+2,0,none⟩)] (((w1.alloc (.cells #[.pointer (some ⟨X.Bd,0,none⟩)] 62)).alloc (.cells #[.slice none 0 0] 23)).alloc (.cells #[.slice none 0 0] 24)) (fun w'=>Below w.heap.size (((w1.alloc (.cells #[.pointer (some ⟨X.Bd,0,none⟩)] 62)).alloc (.cells #[.slice none 0 0] 23)).alloc (.cells #[.slice none 0 0] 24)) w'∧w'.cell? ⟨w1.heap.size+1,0,none⟩=some (.slice none 0 0)∧w'.cell? ⟨w1.heap.size+2,0,none⟩=some (.slice none 0 0)) (enters_of Tryz.func43 (by kernel_rfl) rfl) (HA.out.mono fun r w' h=>by
    rw[hR]at h;rcases h.2 with⟨S',qa,qc,ad,cp,Rb,B,la,lc,mid,hS,_⟩|⟨_,hr,r1,r2⟩
    ·cases hS
    ·exact⟨hr,h.1,r1,r2⟩))
   have HRR:=aA hR;clear HA hR;refine HC.out.mono ?_;rintro r w3 ⟨rfl,w2,⟨hb2,k1,k2⟩,rfl⟩;have g1:(w2.alloc (.cells #[] 117)).cell? ⟨w1.heap.size+1,0,none⟩=some (.slice none 0 0):=((aC w2 _).cell (p:=⟨w1.heap.size+1,0,none⟩) (cU w2 _ k1)).trans k1
   have g2:(w2.alloc (.cells #[] 117)).cell? ⟨w1.heap.size+2,0,none⟩=some (.slice none 0 0):=((aC w2 _).cell (p:=⟨w1.heap.size+2,0,none⟩) (cU w2 _ k2)).trans k2;have hbw:Below w.heap.size w w2:=HB0.out.trans hb2
   have HFIN:Hid (zO w X.n none (.returned (.tuple #[.slice none 0 0,.slice none 0 0,.bool false])) (w2.alloc (.cells #[] 117)).drew):=⟨(hbw.alloc hbw.size _).drew,.inr ⟨rfl,rfl⟩⟩
   clear hb2 k1 k2 HC hbw;go_wp2_with fail
   go_region_with fail
   all_goals
    go_wp2;refine cB (results_tmp3 rfl _ _ _) rfl ?_;rw[HRR.out];exact HFIN.out
 ·have HE:Hid (aP o p n ln f=none):=if_neg hok;rw[HE.out];have HBG:=aA (GC w o pa pc p a n cap ad ln cp f hp h hok)
  clear hok HE hp h;go_enter Tryz.func12,Tryz.ntmps12;go_wp2_with fail;refine HBG.out.mono ?_;rintro r w1 ⟨rfl,hb1⟩;have HB1:=aA hb1
  clear hb1 HBG;go_wp2;refine cB (results_tmp3 rfl _ _ _) rfl ?_;exact⟨HB1.out.alloc HB1.out.size _,.inr ⟨rfl,rfl⟩⟩
end Go.Proofs.YtncffcaabnjioaaGreat
namespace Go.Proofs.YtncffcaabnjioaaGreat
open Go.RowKit Go.Deep Go.Joins
set_option linter.unusedVariables false
set_option linter.unusedSimpArgs false
theorem UG (w:World) (o:Int) (a:Option Addr) (n cap:Nat) (ad:Nat→Option Addr) (ln cp:Nat→Nat) (f:Nat→Nat→T) (m:M) (h:fZ w a n cap ad ln cp f) (hok:∀i,i<n→ln i≠0∧aN (ln i) (f i)=true):Calls Tryz.prog 109 #[.int .i64 o,.slice a n cap,.agg #[.int .i64 m.x,.int .i64 m.y,.int .i64 m.d,.int .i64 m.e]] w fun r w'=>r= .returned (.int .i64 (vX o n ln f m))∧Below w.heap.size w w':=by
 have hn:(n:Int)≤140737488351232:=by have:=h.2.1;omega
 have HB0:=aA (aC w (.cells #[.int .i64 m.x,.int .i64 m.y,.int .i64 m.d,.int .i64 m.e] 45));have HM0:=aA (M4.box w 45 m.x m.y m.d m.e)
 have HH:=aA h;have HO:=aA hok
 clear h hok;go_enter Tryz.func109,Tryz.ntmps109;go_wp2;go_loopw [7] (fun v wr=>∃i:Nat,i≤n∧v= .int .i64 (i:Int)∧Below w.heap.size w wr∧M4 wr w.heap.size m.x m.y m.d m.e∧∀j,j<i→M.dvd (kV o ln f j).m m=false) (fun v _=>n-(intOf v).toNat);case atStart=>exact⟨0,gL _,rfl,HB0.out,HM0.out,fun j hj=>by omega⟩
 case round=>
  obtain⟨i,hi,rfl,hB,hM,hJ⟩:=hrel;have HJ:=aA hJ
  have HB:=aA hB;have HM:=aA hM
  clear hJ;by_cases hlt:i<n
  ·rcases HH.out.2.2.1 with h0|⟨b,off,rfl,hblt,hcl⟩
   ·omega
   have hil:(i:Int)<(n:Int):=by omega
   have hbr:b<wr.heap.size:=lG hblt hB.size;have g0:wr.cell? ⟨b,off+i,none⟩=some (.slice (ad i) (ln i) (cp i)):=(hB.cell (p:=⟨b,off+i,none⟩) hblt).trans (hcl i hlt)
   have hS:L5 b (off+i) w.heap.size (.slice (ad i) (ln i) (cp i)) m wr.drew:=⟨g0,hM.1,hM.2.1,hM.2.2.1,hM.2.2.2⟩
   have hoi:=HO.out i hlt;have fl:=dE hoi.2
   have HK:=aA ((HH.out.2.2.2 i hlt).below hB);obtain⟨t,ht⟩:∃t,kV o ln f i=t:=⟨_,rfl⟩
   have hlead:Calls Tryz.prog 107 #[.int .i64 o,.slice (ad i) (ln i) (cp i)] wr.drew fun r w'=>r= .returned (.agg #[.int .i64 t.c,.int .i64 t.m.x,.int .i64 t.m.y,.int .i64 t.m.d,.int .i64 t.m.e])∧Below wr.drew.heap.size wr.drew w':=by have:=sD wr.drew o (ad i) (ln i) (cp i) (f i) (HK.out.below (cE _ _).drew) (by omega) (fun j hj=>(fl.2 j hj).1);rw[show f i (aX o (f i) (ln i))=t from ht]at this;exact this
   obtain⟨bv,hbv⟩:∃bv,M.dvd ⟨t.m.x,t.m.y,t.m.d,t.m.e⟩ ⟨m.x,m.y,m.d,m.e⟩=bv:=⟨_,rfl⟩
   have HT:Hid (M.dvd (kV o ln f i).m m=bv):=by show M.dvd (kV o ln f i).m m=bv;rw[ht];exact hbv
   have hfield:∀W:World,(Instr.field 47 (Value.agg #[.int .i64 t.c,.int .i64 t.m.x,.int .i64 t.m.y,.int .i64 t.m.d,.int .i64 t.m.e]) 1).run Tryz.prog W= .ok (Value.agg #[.int .i64 t.m.x,.int .i64 t.m.y,.int .i64 t.m.d,.int .i64 t.m.e]) W:=fun W=>by kernel_rfl
   have HBD:=aA hB.drew;have HMD:=aA hM.drew'
   clear hcl hB hM g0 hoi fl ht hbr;go_wp2_with fail
   go_region_held3 (fun u=>u.cell? ⟨b,off+i,none⟩=some (.slice (ad i) (ln i) (cp i))∧u.cell? ⟨w.heap.size,0,none⟩=some (.int .i64 m.x)∧u.cell? ⟨w.heap.size,1,none⟩=some (.int .i64 m.y)∧u.cell? ⟨w.heap.size,2,none⟩=some (.int .i64 m.d)∧u.cell? ⟨w.heap.size,3,none⟩=some (.int .i64 m.e)) (first|with_reducible exact hS|with_reducible exact L5.below hS b1|with_reducible exact L5.below (L5.below hS b1) b2) (first|(go_at_call 107;refine hlead.mono ?_;rintro e w1 ⟨rfl,b1⟩)|(go_at_call 108;refine(lA hbv _).mono ?_;rintro e w2 ⟨rfl,b2⟩))
   have HBV:=aA (aB (aB HBD.out b1) b2);have HMV:=aA ((HMD.out.below b1).below b2)
   clear hS hlead hbv b1 b2 hfield;cases bv
   ·go_wp2;go_roundw
    case rel=>exact⟨i+1,by omega,by go_num,HBV.out,HMV.out,fun j hj=>by
     by_cases e:j=i
     ·rw[e];exact HT.out
     ·exact HJ.out j (by omega)⟩
    case measure=>simp[intOf];omega
   ·go_wp2;go_ret;have e:vX o n ln f m=(i:Int):=vB (p:=fun t=>M.dvd t.m m) (f:=kV o ln f) HJ.out HT.out n hlt
    rw[e];exact⟨rfl,HBV.out⟩
  ·have hnl:¬(i:Int)<(n:Int):=by omega
   have hie:i=n:=by omega
   subst hie;go_wp2;go_ret;have e:vX o i ln f m= -1:=rV (p:=fun t=>M.dvd t.m m) (f:=kV o ln f) HJ.out
   rw[e];exact⟨rfl,HB.out⟩
structure QW (w:World) (g n:Nat) (q:Nat→List T) (ad:Nat→Option Addr) (cp:Nat→Nat):Prop where
 cell:∀i,i<n→w.cell? ⟨g,i,none⟩=some (.slice (ad i) (q i).length (cp i))
 fz:∀i,i<n→w.frozen? ⟨g,i,none⟩=false
 rd:∀i,i<n→Rd w (ad i) (q i).length (cp i) (lf (q i))
 ap:∀i,i<n→(q i).length=0∨∀b off,ad i=some ⟨b,off,none⟩→b≠g
theorem QW.below {w w':World} {g n:Nat} {q:Nat→List T} {ad:Nat→Option Addr} {cp:Nat→Nat} (h:QW w g n q ad cp) (hb:Below w.heap.size w w'):QW w' g n q ad cp:=
 ⟨fun i hi=>(hb.cell (p:=⟨g,i,none⟩) (cU w _ (h.cell i hi))).trans (h.cell i hi),fun i hi=>(hb.frozen (p:=⟨g,i,none⟩) (cU w _ (h.cell i hi))).trans (h.fz i hi),fun i hi=>(h.rd i hi).below hb,h.ap⟩
theorem Ae (w:World) (b i:Nat) (v:Value):w.grownBy (w.setCell ⟨b,i,none⟩ v) (some b):=
 ⟨(cE 0 w).setCell (p:=⟨b,i,none⟩) (gL _) v |>.os,(cE 0 w).setCell (p:=⟨b,i,none⟩) (gL _) v |>.tape,(cE 0 w).setCell (p:=⟨b,i,none⟩) (gL _) v |>.output,(cE 0 w).setCell (p:=⟨b,i,none⟩) (gL _) v |>.size,fun k _ hk=>Below.heap_setCell _ _ _ k (fun e=>hk (by rw[e]))⟩
def NG (a:Option Addr) (k g:Nat):Prop:=k=0∨∀b off,a=some ⟨b,off,none⟩→b≠g
theorem NG.rd {w w':World} {a:Option Addr} {k cap g:Nat} {f:Nat→T} (h:NG a k g) (hr:Rd w a k cap f) (hg:w.grownBy w' (some g)):Rd w' a k cap f:=hr.grown hg (h.imp id (fun hh b off e e'=>hh b off e (by simpa using e')))
theorem QW.put {w:World} {g n:Nat} {q:Nat→List T} {ad:Nat→Option Addr} {cp:Nat→Nat} (h:QW w g n q ad cp) {k:Nat} (hk:k<n) {a:Option Addr} {c:Nat} {L:List T} (hr:Rd w a L.length c (lf L)) (ho:NG a L.length g):QW (w.setCell ⟨g,k,none⟩ (.slice a L.length c)) g n (lE q k L) (fun i=>if i=k then a else ad i) (fun i=>if i=k then c else cp i):=by
 have hs:=Ae w g k (.slice a L.length c);refine⟨fun i hi=>?_,fun i hi=>?_,fun i hi=>?_,fun i hi=>?_⟩
 ·unfold lE;by_cases e:i=k
  ·subst e;simp only[if_pos];simp[go_sem,h.cell i hi]
  ·simp only[if_neg e];rw[World.cell?_setCell_other _ _ _ _ (by intro e';cases e';exact e rfl)];exact h.cell i hi
 ·simp[go_sem,h.fz i hi]
 ·unfold lE;by_cases e:i=k
  ·subst e;simp only[if_pos];exact ho.rd hr hs
  ·simp only[if_neg e];exact NG.rd (h.ap i hi) (h.rd i hi) hs
 ·unfold lE;by_cases e:i=k
  ·subst e;simp only[if_pos];exact ho
  ·simp only[if_neg e];exact h.ap i hi
theorem QW.rds {w:World} {g n c:Nat} {q:Nat→List T} {ad:Nat→Option Addr} {cp:Nat→Nat} (h:QW w g n q ad cp) (hn:n≤12) (hc:n≤c):fZ w (some ⟨g,0,none⟩) n c ad (fun i=>(q i).length) cp (fun i=>lf (q i)):=by
 refine⟨hc,by omega,?_,h.rd⟩;by_cases h0:n=0
 ·exact .inl h0
 ·exact .inr ⟨g,0,rfl,cU w _ (h.cell 0 (by omega)),fun i hi=>by rw[Nat.zero_add];exact h.cell i hi⟩
theorem nX.qw {lo:Nat} {w:World} {q:Nat→List T} {n:Nat} {g c:Nat} {ad:Nat→Option Addr} {cp B:Nat→Nat} (h:nX lo w q n (.slice (some ⟨g,0,none⟩) n c) ad cp B):QW w g n q ad cp:=by
 refine⟨fun i hi=>?_,fun i hi=>?_,fun i hi=>(h.el i hi).1,fun i hi=>?_⟩
 ·rw[h.row.cellAt i (by omega),RI hi]
 ·rcases h.row.2 with⟨e,_⟩|⟨g',cap,cur,e,_,hg,_⟩
  ·cases e
  ·cases e;unfold World.frozen?;simp[hg]
 ·rcases(h.el i hi).2.2 with h0|⟨off,e1,_,_,e4⟩
  ·exact .inl h0
  ·refine .inr fun b off' e e'=>?_;rw[e1]at e;cases e;exact e4 (by rw[e'];rfl)
theorem UV {t:T} (ht:1≤t.c∧t.c≤100) (L:List T):cF L [(⟨101-t.c,t.m⟩:T)]=cQ L [t]:=by
 have:kE 100 [t]=[(⟨101-t.c,t.m⟩:T)]:=by
  rw[nS];show[(⟨100*t.c%101,t.m⟩:T)]=_
  rw[show 100*t.c%101=101-t.c by omega]
 unfold cQ;rw[this]
theorem XE:(Tryz.prog.info? 24).map (fun i=>(i.zero,i.size,i.bytes))=some (some (.slice none 0 0),1,24):=by kernel_rfl
def YR (w:World) (n:Nat) (R:Option Dv) (r:Ending) (w':World):Prop:=
 Below w.heap.size w w'∧((∃S qa qc ad cp ra rc,R=some S∧r= .returned (.tuple #[.slice qa n qc,.slice ra S.r.length rc,.bool true])∧fZ w' qa n qc ad (fun i=>(S.q i).length) cp (fun i=>lf (S.q i))∧RL w' ra rc S.r)∨(R=none∧∃qa qc ra rc,r= .returned (.tuple #[.slice qa 0 qc,.slice ra 0 rc,.bool false])))
def GT (w:World) (n:Nat) (R:Option Dv) (r:Ending) (w':World):Prop:=
 Below w.heap.size w w'∧((∃S qa qc ad cp ra rc,R=some S∧r= .returned (.tuple #[.slice qa n qc,.slice ra S.r.length rc,.bool true])∧fZ w' qa n qc ad (fun i=>(S.q i).length) cp (fun i=>lf (S.q i))∧RL w' ra rc S.r∧∀x,x<w.heap.size→NG ra S.r.length x)∨(R=none∧∃qa qc ra rc,r= .returned (.tuple #[.slice qa 0 qc,.slice ra 0 rc,.bool false])))
theorem GT.plain {w:World} {n:Nat} {R:Option Dv} {r:Ending} {w':World} (h:GT w n R r w'):YR w n R r w':=⟨h.1,h.2.imp (fun⟨S,qa,qc,ad,cp,ra,rc,e1,e2,r1,r2,_⟩=>⟨S,qa,qc,ad,cp,ra,rc,e1,e2,r1,r2⟩) id⟩
structure SW (w wr:World) (o:Int) (n:Nat) (ln:Nat→Nat) (f:Nat→Nat→T) (p:List T) (g i:Nat) (S:Dv) (pa:Option Addr) (pc:Nat) (ra:Option Addr) (rc:Nat) (ad:Nat→Option Addr) (cp:Nat→Nat):Prop where
 bel:Below w.heap.size w wr
 ok:iK i S
 rp:RL wr pa pc S.p
 rr:RL wr ra rc S.r
 q:QW wr g n S.q ad cp
 op:NG pa S.p.length g
 oq:NG ra S.r.length g
 run:dV o n ln f (300-i) S=dV o n ln f 300 (jO p)
 gl:g<wr.heap.size
 fr:∀x,x<w.heap.size→NG ra S.r.length x
theorem MT {o:Int} {ln:Nat→Nat} {f:Nat→Nat→T} {S:Dv} {k:Nat} {q:T} (h:KU o ln f S k=q):gI o ln f S k=if(mL S.p q (f k) (ln k)).2=true then some ⟨(mL S.p q (f k) (ln k)).1,lE S.q k (cF (S.q k) [q]),S.r⟩else none:=by
 unfold gI mL;rw[h];cases bY (lf [q]) (f k) (ln k) 1 with
 |none=>rfl
 |some Y=>
  by_cases hle:(cQ S.p Y).length≤400
  ·simp[hle]
  ·simp[hle]
abbrev K6 (A b o:Nat) (t:T) (v:Value) (u:World):Prop:=u.cell? ⟨A,0,none⟩=some (.int .i64 t.c)∧u.cell? ⟨A,1,none⟩=some (.int .i64 t.m.x)∧u.cell? ⟨A,2,none⟩=some (.int .i64 t.m.y)∧u.cell? ⟨A,3,none⟩=some (.int .i64 t.m.d)∧u.cell? ⟨A,4,none⟩=some (.int .i64 t.m.e)∧u.cell? ⟨b,o,none⟩=some v
theorem K6.below {A b o:Nat} {t:T} {v:Value} {u u':World} (h:K6 A b o t v u) (hb:Below u.heap.size u u'):K6 A b o t v u':=
 ⟨(hb.cell (p:=⟨A,0,none⟩) (cU u _ h.1)).trans h.1,(hb.cell (p:=⟨A,1,none⟩) (cU u _ h.2.1)).trans h.2.1,(hb.cell (p:=⟨A,2,none⟩) (cU u _ h.2.2.1)).trans h.2.2.1,(hb.cell (p:=⟨A,3,none⟩) (cU u _ h.2.2.2.1)).trans h.2.2.2.1,(hb.cell (p:=⟨A,4,none⟩) (cU u _ h.2.2.2.2.1)).trans h.2.2.2.2.1,(hb.cell (p:=⟨b,o,none⟩) (cU u _ h.2.2.2.2.2)).trans h.2.2.2.2.2⟩
theorem sF {lo:Nat} {w:World} {a:Option Addr} {c g:Nat} {L:List T} (h:lI lo w a c L) (hg:g<lo):NG a L.length g:=h.2.2.imp id (fun⟨b,off,e,hb⟩ b' off' e'=>by rw[e]at e';cases e';omega)
theorem II (w:World) (o:Int) (pa0:Option Addr) (pc0:Nat) (p:List T) (a:Option Addr) (n cap:Nat) (ad0:Nat→Option Addr) (ln cp0:Nat→Nat) (f:Nat→Nat→T) (hp:RL w pa0 pc0 p) (h:fZ w a n cap ad0 ln cp0 f) (o1:1≤o) (o2:o≤3) (hpo:cT p=true) (hl:aW n ln f=true):Calls Tryz.prog 65 #[.int .i64 o,.slice pa0 p.length pc0,.slice a n cap] w fun r w'=>GT w n (dV o n ln f 300 (jO p)) r w':=by
 obtain⟨i0,hi0,hz0,hz1,hz2⟩:=info_parts XE;have n12:=(aT hl).1
 have hnl:(n:Int)≤12:=by omega
 have hpl:=(aE hpo).1;have hpl':(p.length:Int)≤400:=by omega
 have HP:=aA hp;have HH:=aA h
 have HLO:=aA (aT hl).2
 have hq0:nX w.heap.size (w.alloc (.cells #[] 24)) (fun _=>[]) 0 (.slice (some ⟨w.heap.size,0,none⟩) 0 0) (fun _=>none) (fun _=>0) (fun _=>0):=
  ⟨⟨rfl,.inr ⟨w.heap.size,0,#[],rfl,Nat.le_refl _,heap_alloc_new w (.cells #[] 24),Nat.le_refl _,gL _,rfl,rfl⟩⟩,fun i hi=>by omega,fun i k _ hk=>by omega,by simp⟩
 have HQ0:=aA hq0;clear hp h hq0;go_enter Tryz.func65,Tryz.ntmps65;go_wp2;go_loopw [9,10] (fun tv ii wr=>∃(j:Nat) (ad:Nat→Option Addr) (cp B:Nat→Nat) (g c:Nat),j≤n∧ii= .int .i64 (j:Int)∧tv= .slice (some ⟨g,0,none⟩) j c∧j≤c∧Below w.heap.size w wr∧nX w.heap.size wr (fun _=>[]) j tv ad cp B) (fun _ ii _=>n-(intOf ii).toNat);case atStart=>exact⟨0,_,_,_,_,_,gL _,rfl,rfl,Nat.le_refl _,aC _ _,HQ0.out⟩
 case round=>
  obtain⟨j,ad,cp,B,g,c,hj,rfl,rfl,hjc,hB,hA⟩:=hrel;have HB:=aA hB
  have HA:=aA hA;have hgl:g<wr.heap.size:=(hA.row.lt g rfl).2
  have hgw:w.heap.size≤g:=(hA.row.lt g rfl).1;by_cases hlt:j<n
  ·have hjn:(j:Int)<(n:Int):=by omega
   have hb1:=aC wr (.cells #[] 47);have HA1:=aA (hA.below hb1)
   have HB1:=aA (aB hB hb1);have hsz0:w.heap.size≤wr.heap.size:=hB.size
   have HO1:Hid (lI wr.heap.size (wr.alloc (.cells #[] 47)) (some ⟨wr.heap.size,0,none⟩) 0 ([]:List T)):=⟨⟨Nat.le_refl _,by simp,.inl rfl⟩,.inl rfl,.inl rfl⟩
   have hnew:=heap_alloc_new (wr.alloc (.cells #[] 47)) (.cells #[.slice (some ⟨wr.heap.size,0,none⟩) 0 0] 24);rw[World.size_alloc]at hnew;have HN:=aA hnew
   have hrow:=HA1.out.row.alloc (.cells #[.slice (some ⟨wr.heap.size,0,none⟩) 0 0] 24);have hnews:∀jj u,[Value.slice (some ⟨wr.heap.size,0,none⟩) 0 0][jj]? =some u→((wr.alloc (.cells #[] 47)).alloc (.cells #[.slice (some ⟨wr.heap.size,0,none⟩) 0 0] 24)).cell? ((⟨wr.heap.size+1,0,none⟩:Addr).add jj)=some u:=World.news_of_block HN.out
   have hone:∀u∈[Value.slice (some ⟨wr.heap.size,0,none⟩) 0 0],u.oneCell'=true:=fun u hu=>by
    have:u= .slice (some ⟨wr.heap.size,0,none⟩) 0 0:=by simpa using hu
    subst this;rfl
   have hbase:w.heap.size≤((wr.alloc (.cells #[] 47)).alloc (.cells #[.slice (some ⟨wr.heap.size,0,none⟩) 0 0] 24)).heap.size:=by simp;omega
   have hmax:j+1≤maxLen:=by unfold maxLen;omega
   have HMR:Hid (∀k,(Value.slice (some ⟨g,0,none⟩) j c).ownBlock=some k→k<wr.heap.size):=fun k e=>(hA.row.lt k e).2;clear hA hB hb1 hnew;go_wp2_with (at_builtin;refine wpList_append_lies _ rfl (.tmp 25) (.tmp 27) 23 rfl w.heap.size 24 i0 _ 1 24 Tryz.underlying23 hi0 hz0 hz1 hz2 rfl (by omega) _ j (BH ad (fun i=>((fun _=>[]) i:List T).length) cp j) rfl hrow ⟨wr.heap.size+1,0,none⟩ 1 1 [.slice (some ⟨wr.heap.size,0,none⟩) 0 0] rfl rfl hnews hone (by omega) hmax (by omega) hbase _ rfl ?_;intro g0 cap0 w5 hown1 hgrow hat hlt1;have HR:=aA (HA1.out.round (m:=wr.heap.size) (fun i hi h0=>absurd rfl h0) HMR.out hsz0 HO1.out hgrow hown1 (hat.imp id (fun e=>e.trans (by simp))) hlt1);have HB5:=aA ((HB1.out.alloc HB1.out.size _).grown hgrow hbase (fun k e=>(HA1.out.row.lt k e).1));have hcc:j+1≤cap0:=(by rcases hown1.2 with⟨e,_⟩|⟨g',cap',cur,e,_,_,hh,_⟩;(cases e);(cases e;exact hh));clear hown1 hgrow hat hlt1 hrow);go_roundw;case rel=>exact⟨j+1,_,_,_,g0,cap0,by omega,by go_num,rfl,hcc,HB5.out,HR.out⟩
   case measure=>simp[intOf];omega
  ·have hjn:¬(j:Int)<(n:Int):=by omega
   have hje:j=n:=by omega
   subst hje
   have hst:SW w (wr.alloc (.cells #[] 47)) o j ln f p g 0 (jO p) pa0 pc0 (some ⟨wr.heap.size,0,none⟩) 0 ad cp:=
    ⟨aB hB (aC _ _),iK.start hpo,(HP.out.below hB).below (aC _ _),⟨Nat.le_refl _,by simp[jO],.inl rfl⟩,hA.qw.below (aC _ _),HP.out.under.imp id (fun hh b off e=>by have:=hh b off e;omega),.inl rfl,rfl,by simp;omega,fun _ _=>.inl rfl⟩
   have HST:=aA hst;clear hA hB hst;obtain⟨W9,hW9⟩:∃W9,wr.heap.size=W9:=⟨_,rfl⟩
   rw[hW9]at HST;go_wp2
   (try rw[hW9])
   go_loopw [1,11,12] (fun pv rv ii wq=>∃(i:Nat) (S:Dv) (pa:Option Addr) (pc:Nat) (ra:Option Addr) (rc:Nat) (ad:Nat→Option Addr) (cp:Nat→Nat),i≤300∧ii= .int .i64 (i:Int)∧pv= .slice pa S.p.length pc∧rv= .slice ra S.r.length rc∧SW w wq o j ln f p g i S pa pc ra rc ad cp) (fun _ _ ii _=>300-(intOf ii).toNat);case atStart=>exact⟨0,jO p,pa0,pc0,_,0,ad,cp,by omega,rfl,rfl,rfl,HST.out⟩
   case round=>
    obtain⟨i,S,pa,pc,ra,rc,ad,cp,hi,rfl,rfl,rfl,hS⟩:=hrel;have HS:=aA hS
    have HK:=aA hS.ok;have hil:(i:Int)≤300:=by omega
    have hSp:=(aE hS.ok.p).1;have hSp':(S.p.length:Int)≤400:=by omega
    have hSr:=hS.ok.r.2;have hSr':(S.r.length:Int)≤300:=by omega
    by_cases h0:S.p.length=0
    ·have HE:=aA (hS.run.symm.trans (mU h0));have HF:Hid (GT w j (some S) (.returned (.tuple #[.slice (some ⟨g,0,none⟩) j c,.slice ra S.r.length rc,.bool true])) wr):=⟨hS.bel,.inl ⟨S,_,_,ad,cp,ra,rc,rfl,rfl,hS.q.rds n12 hjc,hS.rr,hS.fr⟩⟩
     have hp0:(S.p.length:Int)=0:=by omega
     have hg4:¬(400:Int)<(S.r.length:Int):=by omega
     rw[h0];clear hS h0 hSp;by_cases hi3:i<300
     ·have hic:(i:Int)<300:=by omega
      go_wp2;refine cB (results_tmp3 rfl _ _ _) rfl ?_;rw[HE.out];exact HF.out
     ·have hic:¬(i:Int)<300:=by omega
      go_wp2;refine cB (results_tmp3 rfl _ _ _) rfl ?_;rw[HE.out];exact HF.out
    ·have hp0:(0:Int)<(S.p.length:Int):=by omega
     by_cases hi3:i<300
     ·have hic:(i:Int)<300:=by omega
      obtain⟨t,ht⟩:∃t,dQ o S.p=t:=⟨_,rfl⟩
      have fp:=(aE hS.ok.p).2;have hg1:=iF (o:=o) fp h0
      have hmm:=kC (o:=o) h0;rw[ht]at hg1 hmm;have hlead:Calls Tryz.prog 107 #[.int .i64 o,.slice pa S.p.length pc] wr fun r w'=>r= .returned (.agg #[.int .i64 t.c,.int .i64 t.m.x,.int .i64 t.m.y,.int .i64 t.m.d,.int .i64 t.m.e])∧Below wr.heap.size wr w':=by have:=sD wr o pa S.p.length pc (lf S.p) hS.rp (by omega) (fun i hi=>(fp.2 _ (lV hi)).1);rw[show lf S.p (aX o (lf S.p) S.p.length)=t from ht]at this;exact this
      have HLE:=aA hlead;have hrun:dV o j ln f (300-(i+1)+1) S=dV o j ln f 300 (jO p):=by rw[show 300-(i+1)+1=300-i by omega];exact hS.run
      have HRUN:=aA hrun;have HT:=aA ht
      have HG:=aA hg1;have HM:=aA hmm
      have HFP:=aA fp;clear hS hlead hrun ht hmm fp;go_wp2_with fail;refine HLE.out.mono ?_;rintro r w1 ⟨rfl,hb1⟩;have HB1:=aA (aB hb1 (aC w1 (.cells #[.int .i64 t.c,.int .i64 t.m.x,.int .i64 t.m.y,.int .i64 t.m.d,.int .i64 t.m.e] 47)))
      have HC1:=aA (C5.box w1 47 t);clear hb1 HLE;obtain⟨z,hz⟩:∃z,vX o j ln f t.m=z:=⟨_,rfl⟩
      have HZ:=aA hz;have hfind:=fun W hW=>UG W o a j cap ad0 ln cp0 f t.m hW HLO.out
      rw[hz]at hfind;have HFI:=aA hfind
      clear hz hfind;go_wp2_with fail;refine(HFI.out _ ((HH.out.below HS.out.bel).below HB1.out)).mono ?_;rintro r w2 ⟨rfl,hb2⟩;have HB2:=aA (aB HB1.out hb2)
      obtain⟨y0,y1,y2,y3,y4⟩:=HC1.out.below hb2;have HC2:=aA (HC1.out.below hb2)
      have hl2:w1.heap.size<w2.heap.size:=cU w2 _ y0;clear hb2 HB1 HC1 HFI;by_cases hzz:0≤z
      ·obtain⟨k,hk⟩:∃k:Nat,z=(k:Int):=⟨z.toNat,by omega⟩
       subst hk;have hfk:(vX o j ln f t.m).toNat=k:=by rw[HZ.out];simp
       have hd:=kJ (o:=o) (n:=j) (ln:=ln) (f:=f) (m:=t.m) (by rw[HZ.out];exact hzz);rw[hfk]at hd;obtain⟨hkj,hdv⟩:=hd;have hkjc:(k:Int)<(j:Int):=by omega
       have HSTP:Hid (dB o j ln f S=gI o ln f S k):=by show dB o j ln f S=_;unfold dB;rw[HT.out,if_pos (by rw[HZ.out];exact hzz),hfk]
       have hlg:=tH (o:=o) hl hkj;obtain⟨q,hqe⟩:∃q,eW t (kV o ln f k)=q:=⟨_,rfl⟩
       have hqg:=qV HG.out hlg hdv;rw[hqe]at hqg;have HQG:=aA hqg
       have HD:Hid (KU o ln f S k=q):=by show KU o ln f S k=q;unfold KU;rw[HT.out,hqe]
       obtain⟨hk0,hpk⟩:=HLO.out k hkj;obtain⟨b1,off1,ea,hb1,hc1⟩:=HH.out.2.2.1.resolve_left (by omega);have kc:w2.cell? ⟨b1,off1+k,none⟩=some (.slice (ad0 k) (ln k) (cp0 k)):=((aB HS.out.bel HB2.out).cell (p:=⟨b1,off1+k,none⟩) hb1).trans (hc1 k hkj)
       have hb2':b1<w2.heap.size:=cU w2 _ kc;have hover:∀W:World,Rd W (ad0 k) (ln k) (cp0 k) (f k)→Calls Tryz.prog 110 #[.int .i64 o,.agg #[.int .i64 t.c,.int .i64 t.m.x,.int .i64 t.m.y,.int .i64 t.m.d,.int .i64 t.m.e],.slice (ad0 k) (ln k) (cp0 k)] W fun r w'=>r= .returned (.agg #[.int .i64 q.c,.int .i64 q.m.x,.int .i64 q.m.y,.int .i64 q.m.d,.int .i64 q.m.e])∧Below W.heap.size W w':=fun W hW=>by have:=AG W o t (ad0 k) (ln k) (cp0 k) (f k) hW (by omega) (fun i hi=>((dE hpk).2 i hi).1) (by have:=HG.out.2;omega) HG.out.2.2;rw[show eW t (f k (aX o (f k) (ln k)))=q from hqe]at this;exact this
       have HOV:=aA hover;have HPK:=aA hpk
       have HC1:=aA hc1;clear hover hqe hfk hdv hlg hqg hc1 hpk hzz;subst ea;go_wp2_with fail;have HRD:=aA ((((HH.out.below (aB HS.out.bel HB2.out)).below (cE _ w2).drew)).2.2.2 k hkj)
       have HRA:=aA ((((HH.out.below (aB HS.out.bel HB2.out)).below (aC w2 (.cells #[.int .i64 0,.int .i64 0,.int .i64 0,.int .i64 0,.int .i64 0] 47))).below (cE _ _).drew).2.2.2 k hkj);have HZA:Hid (∀v:World,Below (w2.alloc (.cells #[.int .i64 0,.int .i64 0,.int .i64 0,.int .i64 0,.int .i64 0] 47)).drew.heap.size (w2.alloc (.cells #[.int .i64 0,.int .i64 0,.int .i64 0,.int .i64 0,.int .i64 0] 47)).drew v→bL v w2.heap.size ⟨0,⟨0,0,0,0⟩⟩):=fun v hv=>((bL.box w2 47 ⟨0,⟨0,0,0,0⟩⟩).below (cE _ _).drew).below hv
       refine Code.wp_mono (Q:=NoPanic fun e a v=>e=Exit.normal∧∃(gq:Nat),a={tmps:=#[.int .i64 o,.slice pa S.p.length pc,.slice (some ⟨b1,off1,none⟩) j cap,undef,undef,undef,u6,u7,u8,.slice (some ⟨g,0,none⟩) j c,.int .i64 (j:Int),.slice ra S.r.length rc,.int .i64 (i:Int),.pointer (some ⟨w1.heap.size,0,none⟩),.int .i64 (k:Int),.pointer (some ⟨gq,0,none⟩),u16,u17,.slice (some ⟨w.heap.size,0,none⟩) 0 0,.int .i64 (j:Int),.slice (some ⟨b1,off1,none⟩) j cap,.int .i64 (j:Int),.bool false,u23,u24,u25,u26,u27,u28,.slice (some ⟨W9,0,none⟩) 0 0,.int .i64 (i:Int),.bool true,.bool true,.slice pa S.p.length pc,.int .i64 (S.p.length:Int),.bool true,.bool true,u37,u38,.int .i64 o,.slice pa S.p.length pc,.agg #[.int .i64 t.c,.int .i64 t.m.x,.int .i64 t.m.y,.int .i64 t.m.d,.int .i64 t.m.e],.int .i64 o,.slice (some ⟨b1,off1,none⟩) j cap,.pointer (some ⟨w1.heap.size,1,none⟩),.agg #[.int .i64 t.m.x,.int .i64 t.m.y,.int .i64 t.m.d,.int .i64 t.m.e],.int .i64 (k:Int),.int .i64 (k:Int),.bool (decide ((k:Int)<0)),u49,u50,u51,u52,u53,u54,u55,u56,u57,u58,u59,u60,u61,.int .i64 o,.agg #[.int .i64 t.c,.int .i64 t.m.x,.int .i64 t.m.y,.int .i64 t.m.d,.int .i64 t.m.e],.slice (some ⟨b1,off1,none⟩) j cap,.int .i64 (k:Int),.pointer (some ⟨b1,off1+k,none⟩),.slice (ad0 k) (ln k) (cp0 k),.agg #[.int .i64 q.c,.int .i64 q.m.x,.int .i64 q.m.y,.int .i64 q.m.d,.int .i64 q.m.e],u69,u70,u71,u72,u73,u74,u75,u76,u77,u78,u79,u80,u81,u82,u83,u84,u85,u86,u87,u88,u89,u90,u91,u92,u93,undef,undef,undef,undef,undef,undef,undef,undef,undef,undef,undef,undef],defers:=[]}∧C5 v gq q∧Below w2.heap.size w2 v∧w2.heap.size≤gq) ?_ ?_;rotate_left
       ·go_region_with (go_at_call 110;refine(HOV.out _ ?_).mono ?_;(first|with_reducible exact HRD.out|with_reducible exact HRA.out);rintro r w4 ⟨rfl,hb4⟩;(try(have hz4:=HZA.out _ hb4;obtain⟨⟨z0,z1,z2,z3,z4⟩,zf⟩:=hz4));(have HB4:Hid (Below w2.heap.size w2 w4):=by first|exact aB (cE _ w2).drew hb4|exact aB (aC w2 (.cells #[.int .i64 0,.int .i64 0,.int .i64 0,.int .i64 0,.int .i64 0] 47)).drew hb4);clear hb4)
        all_goals
         first
         |exact NoPanic.normal ⟨rfl,_,rfl,⟨by go_simp,by go_simp,by go_simp,by go_simp,by go_simp⟩,bQ HB4.out (Nat.le_refl _) _ _ _ _ _,Nat.le_refl _⟩
         |exact NoPanic.normal ⟨rfl,_,rfl,C5.box w4 47 q,HB4.out.alloc HB4.out.size _,HB4.out.size⟩
       ·intro e5 a5 w5 hq5;obtain⟨rfl,gq,rfl,hcq,hb5,hgl2⟩:=NoPanic.imp _ _ _ hq5;have hgne:gq≠g:=by have:=HB2.out.size;have:=HS.out.gl;omega
        have HB5:=aA (aB HB2.out hb5);have HCQ:=aA hcq
        have HQ5:=aA (HS.out.q.below HB5.out);have kg:=HQ5.out.cell k hkj
        have kz:=HQ5.out.fz k hkj;have hgq:=hcq.lt
        obtain⟨x0,x1,x2,x3,x4⟩:=hcq;have hgl5:g<w5.heap.size:=cU w5 _ kg
        have c1:Hid (∀i,i<(S.q k).length→0≤(lf (S.q k) i).c∧(lf (S.q k) i).c≤100):=fun i hi=>by have:=(HK.out.q k).1.2 _ (lV hi);omega
        have c2:Hid (∀i,i<1→0≤(lf [q] i).c∧(lf [q] i).c≤100):=fun i hi=>by
         obtain rfl:i=0:=by omega
         have:=HQG.out.2;exact⟨by show 0≤q.c;omega,this.2⟩
        have hqk:=(HK.out.q k).2;have hadd:Calls Tryz.prog 86 #[.slice (ad k) (S.q k).length (cp k),.slice (some ⟨w5.heap.size,0,none⟩) 1 1] (w5.alloc (.cells #[.int .i64 q.c,.int .i64 q.m.x,.int .i64 q.m.y,.int .i64 q.m.d,.int .i64 q.m.e] 47)).drew fun r w'=>∃qa qc,r= .returned (.slice qa (cF (S.q k) [q]).length qc)∧Below (w5.alloc (.cells #[.int .i64 q.c,.int .i64 q.m.x,.int .i64 q.m.y,.int .i64 q.m.d,.int .i64 q.m.e] 47)).drew.heap.size (w5.alloc (.cells #[.int .i64 q.c,.int .i64 q.m.x,.int .i64 q.m.y,.int .i64 q.m.d,.int .i64 q.m.e] 47)).drew w'∧lI (w5.alloc (.cells #[.int .i64 q.c,.int .i64 q.m.x,.int .i64 q.m.y,.int .i64 q.m.d,.int .i64 q.m.e] 47)).drew.heap.size w' qa qc (cF (S.q k) [q]):=by
         refine(oS (w5.alloc (.cells #[.int .i64 q.c,.int .i64 q.m.x,.int .i64 q.m.y,.int .i64 q.m.d,.int .i64 q.m.e] 47)).drew (ad k) (some ⟨w5.heap.size,0,none⟩) (S.q k).length (cp k) 1 1 (lf (S.q k)) (lf [q]) (((HQ5.out.rd k hkj).below (aC _ _)).below (cE _ _).drew) (Rd.below (gK w5 q) (cE _ _).drew) (by omega) c1.out c2.out).mono ?_;rw[show eI (lf (S.q k)) (S.q k).length (lf [q]) 1 0 0=cF (S.q k) [q]from rfl];rintro r w6 ⟨v6,rfl,hb6,ho6⟩;have hal:=oK (S.q k) [q]
         simp only[List.length_singleton]at hal;obtain⟨qa,qc,rfl,hO6⟩:=aH ho6 (by omega);exact⟨qa,qc,rfl,hb6,hO6⟩
        have HAD:=aA hadd;have HKK:Hid (∀v:World,Below (w5.alloc (.cells #[.int .i64 q.c,.int .i64 q.m.x,.int .i64 q.m.y,.int .i64 q.m.d,.int .i64 q.m.e] 47)).drew.heap.size (w5.alloc (.cells #[.int .i64 q.c,.int .i64 q.m.x,.int .i64 q.m.y,.int .i64 q.m.d,.int .i64 q.m.e] 47)).drew v→v.cell? ⟨g,k,none⟩=some (.slice (ad k) (S.q k).length (cp k))∧v.frozen? ⟨g,k,none⟩=false):=fun v hv=>⟨((HQ5.out.below (aB (aC w5 (.cells #[.int .i64 q.c,.int .i64 q.m.x,.int .i64 q.m.y,.int .i64 q.m.d,.int .i64 q.m.e] 47)).drew hv)).cell k hkj),((HQ5.out.below (aB (aC w5 (.cells #[.int .i64 q.c,.int .i64 q.m.x,.int .i64 q.m.y,.int .i64 q.m.d,.int .i64 q.m.e] 47)).drew hv)).fz k hkj)⟩
        clear hq5 hb5 HRD HRA HZA HOV kc y0 y1 y2 y3 y4 hadd;go_wp2_with fail
        go_region_with (go_at_call 86;refine HAD.out.mono ?_;rintro r w6 ⟨qa,qc,rfl,hb6,hO6⟩;obtain⟨kg6,kz6⟩:=HKK.out _ hb6;have HB6:=aA hb6;have HO6:=aA hO6;clear hb6 hO6)
        all_goals
         have hw6:w5.heap.size+1≤w6.heap.size:=by have:=HB6.out.size;simpa using this
         have HBX:=aA (aB (aB HB5.out (aC w5 (.cells #[.int .i64 q.c,.int .i64 q.m.x,.int .i64 q.m.y,.int .i64 q.m.d,.int .i64 q.m.e] 47)).drew) HB6.out);have HOF:=aA (sF HO6.out (g:=g) (by simp;omega))
         have HQ7:=aA ((HQ5.out.below (aB (aC w5 (.cells #[.int .i64 q.c,.int .i64 q.m.x,.int .i64 q.m.y,.int .i64 q.m.d,.int .i64 q.m.e] 47)).drew HB6.out)).put hkj HO6.out.1 HOF.out);have hs7:=Ae w6 g k (.slice qa (cF (S.q k) [q]).length qc)
         have HB7:=aA ((aB HS.out.bel HBX.out).setCell (p:=⟨g,k,none⟩) (by show w.heap.size≤g;omega) (.slice qa (cF (S.q k) [q]).length qc));have HP7:=aA (HS.out.op.rd (HS.out.rp.below HBX.out) hs7)
         have HR7:=aA (HS.out.oq.rd (HS.out.rr.below HBX.out) hs7);have hcq6:=(HCQ.out.below (aB (aC w5 (.cells #[.int .i64 q.c,.int .i64 q.m.x,.int .i64 q.m.y,.int .i64 q.m.d,.int .i64 q.m.e] 47)).drew HB6.out))
         have hbg:b1≠g:=by omega
         have hS7:K6 gq b1 (off1+k) q (.slice (ad0 k) (ln k) (cp0 k)) (w6.setCell ⟨g,k,none⟩ (.slice qa (cF (S.q k) [q]).length qc)).drew:=
          ⟨(lH (w:=w6) (a:=⟨gq,0,none⟩) (Below.heap_setCell _ _ _ _ hgne)).trans hcq6.1,(lH (w:=w6) (a:=⟨gq,1,none⟩) (Below.heap_setCell _ _ _ _ hgne)).trans hcq6.2.1,(lH (w:=w6) (a:=⟨gq,2,none⟩) (Below.heap_setCell _ _ _ _ hgne)).trans hcq6.2.2.1,(lH (w:=w6) (a:=⟨gq,3,none⟩) (Below.heap_setCell _ _ _ _ hgne)).trans hcq6.2.2.2.1,(lH (w:=w6) (a:=⟨gq,4,none⟩) (Below.heap_setCell _ _ _ _ hgne)).trans hcq6.2.2.2.2,(HB7.out.cell (p:=⟨b1,off1+k,none⟩) hb1).trans (HC1.out k hkj)⟩
         have hgl7:g<(w6.setCell ⟨g,k,none⟩ (.slice qa (cF (S.q k) [q]).length qc)).heap.size:=by have:=hs7.size;omega
         have HLW:=aA (HH.out.below HB7.out);clear hcq6 hs7 HBX HB6 HO6 HAD HKK kg6 kz6 HQ5 HCQ x0 x1 x2 x3 x4 kg kz hw6;generalize(w6.setCell ⟨g,k,none⟩ (.slice qa (cF (S.q k) [q]).length qc))=w7 at HQ7 HB7 HP7 HR7 hS7 hgl7 HLW⊢;have hless:=IJ w7.drew pa pc S.p q (ad0 k) (ln k) (cp0 k) (f k) (Rd.below HP7.out (cE _ w7).drew) hSp HFP.out HQG.out ((HLW.out.2.2.2 k hkj).below (cE _ w7).drew) HPK.out
         have htl:=MT (o:=o) (S:=S) HD.out;obtain⟨K,hK⟩:∃K,mL S.p q (f k) (ln k)=K:=⟨_,rfl⟩
         have hKl:=LN S.p q (f k) (ln k);rw[hK]at hless htl hKl;have HLESS:=aA hless
         have HTL:=aA htl;clear hless htl hK;go_wp2_with fail
         go_region_held3 (fun u=>u.cell? ⟨gq,0,none⟩=some (.int .i64 q.c)∧u.cell? ⟨gq,1,none⟩=some (.int .i64 q.m.x)∧u.cell? ⟨gq,2,none⟩=some (.int .i64 q.m.y)∧u.cell? ⟨gq,3,none⟩=some (.int .i64 q.m.d)∧u.cell? ⟨gq,4,none⟩=some (.int .i64 q.m.e)∧u.cell? ⟨b1,off1+k,none⟩=some (.slice (ad0 k) (ln k) (cp0 k))) (first|with_reducible exact hS7|with_reducible exact K6.below hS7 hb8) (first|(go_at_call 111;refine HLESS.out.mono ?_;rintro r w8 ⟨v8,rfl,hb8,ho8⟩))
         have hbb:Below w7.heap.size w7 w8:=aB (cE _ w7).drew hb8;obtain⟨pa',pc',rfl,hO8⟩:=aH ho8 (by omega);obtain⟨KL,kb⟩:=K;have HB8:=aA (HB7.out.trans (hbb.mono HB7.out.size))
         cases kb
         ·have HNO:Hid (dV o j ln f 300 (jO p)=none):=by show dV o j ln f 300 (jO p)=none;rw[←HRUN.out];exact rN h0 (HSTP.out.trans HTL.out)
          clear hb8 ho8 hO8 hbb hS7 HLESS;go_wp2;refine cB (results_tmp3 rfl _ _ _) rfl ?_;rw[HNO.out];exact⟨(HB8.out.alloc HB8.out.size _).alloc (by have:=HB8.out.size;simp;omega) _,.inr ⟨rfl,_,_,_,_,rfl⟩⟩
         ·have hstp:dB o j ln f S=some ⟨KL,lE S.q k (cF (S.q k) [q]),S.r⟩:=HSTP.out.trans HTL.out
          have HST2:Hid (SW w w8 o j ln f p g (i+1) ⟨KL,lE S.q k (cF (S.q k) [q]),S.r⟩ pa' pc' ra rc (fun i=>if i=k then qa else ad i) (fun i=>if i=k then qc else cp i)):=
           ⟨HB8.out,mF hl HK.out h0 hstp,hO8.1,HR7.out.below hbb,HQ7.out.below hbb,sF hO8 hgl7,HS.out.oq,(kR h0 hstp).symm.trans HRUN.out,lG hgl7 hbb.size,HS.out.fr⟩
          clear hb8 ho8 hO8 hbb hS7 HLESS hstp;go_wp2;go_roundw;case rel=>exact⟨i+1,⟨KL,lE S.q k (cF (S.q k) [q]),S.r⟩,pa',pc',ra,rc,_,_,by omega,by go_num,rfl,rfl,HST2.out⟩
          case measure=>simp[intOf];omega
      ·have hzl:z<0:=by omega
       have HSTP:Hid (dB o j ln f S=some (gS o S)):=by show dB o j ln f S=_;unfold dB;rw[HT.out,if_neg (by rw[HZ.out];exact hzz)]
       have HOK2:=aA (mF hl HK.out h0 HSTP.out);have HRUN2:=aA ((kR h0 HSTP.out).symm.trans HRUN.out)
       have HDL:Hid (gS o S=⟨cQ S.p [t],S.q,cF S.r [t]⟩):=by show gS o S=_;unfold gS;rw[HT.out]
       rw[HDL.out]at HOK2 HRUN2;clear HDL HSTP;have c1:Hid (∀i,i<S.r.length→0≤(lf S.r i).c∧(lf S.r i).c≤100):=fun i hi=>by have:=HK.out.r.1.2 _ (lV hi);omega
       have c2:Hid (∀i,i<S.p.length→0≤(lf S.p i).c∧(lf S.p i).c≤100):=fun i hi=>by have:=HFP.out.2 _ (lV hi);omega
       have c3:Hid (∀i,i<1→0≤(lf [t] i).c∧(lf [t] i).c≤100):=fun i hi=>by
        obtain rfl:i=0:=by omega
        have:=HG.out.2;exact⟨by show 0≤t.c;omega,this.2⟩
       have c4:Hid (∀i,i<1→0≤(lf [(⟨101-t.c,t.m⟩:T)] i).c∧(lf [(⟨101-t.c,t.m⟩:T)] i).c≤100):=fun i hi=>by
        obtain rfl:i=0:=by omega
        have:=HG.out.2;exact⟨by show 0≤101-t.c;omega,by show 101-t.c≤100;omega⟩
       have HA1:=aA (oS (w2.alloc (.cells #[.int .i64 t.c,.int .i64 t.m.x,.int .i64 t.m.y,.int .i64 t.m.d,.int .i64 t.m.e] 47)) ra (some ⟨w2.heap.size,0,none⟩) S.r.length rc 1 1 (lf S.r) (lf [t]) ((HS.out.rr.below HB2.out).below (aC _ _)) (gK w2 t) (by omega) c1.out c3.out);go_wp2_with fail;refine HA1.out.mono ?_;rw[show eI (lf S.r) S.r.length (lf [t]) 1 0 0=cF S.r [t]from rfl];rintro r w3 ⟨v3,rfl,hb3,ho3⟩;have hal:=oK S.r [t]
       simp only[List.length_singleton]at hal;obtain⟨ra',rc',rfl,hO3⟩:=aH ho3 (by omega);have HB3:=aA (aB (aB HB2.out (aC w2 (.cells #[.int .i64 t.c,.int .i64 t.m.x,.int .i64 t.m.y,.int .i64 t.m.d,.int .i64 t.m.e] 47))) hb3)
       obtain⟨x0,x1,x2,x3,x4⟩:=(HC2.out.below (aC w2 (.cells #[.int .i64 t.c,.int .i64 t.m.x,.int .i64 t.m.y,.int .i64 t.m.d,.int .i64 t.m.e] 47))).below hb3;have hl3:w1.heap.size<w3.heap.size:=cU w3 _ x0
       have hgl3:g<w2.heap.size+1:=by have:=HB2.out.size;have:=HS.out.gl;omega
       have HO3:=aA hO3;have HF3:=aA (sF hO3 (g:=g) (by simp;omega))
       have HFR:Hid (∀x,x<w.heap.size→NG ra' (cF S.r [t]).length x):=fun x hx=>sF hO3 (g:=x) (by have:=HB2.out.size;have:=HS.out.bel.size;simp;omega);have HA2:=aA (oS (w3.alloc (.cells #[.int .i64 (101-t.c),.int .i64 t.m.x,.int .i64 t.m.y,.int .i64 t.m.d,.int .i64 t.m.e] 47)) pa (some ⟨w3.heap.size,0,none⟩) S.p.length pc 1 1 (lf S.p) (lf [(⟨101-t.c,t.m⟩:T)]) ((HS.out.rp.below HB3.out).below (aC _ _)) (gK w3 ⟨101-t.c,t.m⟩) (by omega) c2.out c4.out)
       have hc1:=HG.out.2.1;have hc2:=HG.out.2.2
       clear y0 y1 y2 y3 y4 hb3 ho3 hO3 HA1;go_wp2_with fail;refine HA2.out.mono ?_;rw[show eI (lf S.p) S.p.length (lf [(⟨101-t.c,t.m⟩:T)]) 1 0 0=cQ S.p [t]from UV HG.out.2 S.p];rintro r w4 ⟨v4,rfl,hb4,ho4⟩;have hsl:=uP HFP.out HM.out
       obtain⟨pa',pc',rfl,hO4⟩:=aH ho4 (by omega);have HST2:Hid (SW w w4 o j ln f p g (i+1) ⟨cQ S.p [t],S.q,cF S.r [t]⟩ pa' pc' ra' rc' ad cp):=by have hbb:Below wr.heap.size wr w4:=aB (aB HB3.out (aC w3 _)) hb4;exact⟨aB HS.out.bel hbb,HOK2.out,hO4.1,(HO3.out.1.below (aC w3 _)).below hb4,HS.out.q.below hbb,sF hO4 (by have:=HB3.out.size;have:=HS.out.gl;simp;omega),HF3.out,HRUN2.out,lG HS.out.gl hbb.size,HFR.out⟩
       clear x0 x1 x2 x3 x4 hb4 ho4 hO4 HA2 HOK2 HRUN2;go_wp2;go_roundw;case rel=>exact⟨i+1,_,pa',pc',ra',rc',ad,cp,by omega,by go_num,rfl,rfl,HST2.out⟩
       case measure=>simp[intOf];omega
     ·have hic:¬(i:Int)<300:=by omega
      obtain rfl:i=300:=by omega
      have HE:=aA (hS.run.symm.trans (yH h0));have HBW:=aA hS.bel
      clear hS;go_wp2;refine cB (results_tmp3 rfl _ _ _) rfl ?_;rw[HE.out];exact⟨(HBW.out.alloc HBW.out.size _).alloc (by have:=HBW.out.size;simp;omega) _,.inr ⟨rfl,_,_,_,_,rfl⟩⟩
theorem XJ (w:World) (o:Int) (pa0:Option Addr) (pc0:Nat) (p:List T) (a:Option Addr) (n cap:Nat) (ad0:Nat→Option Addr) (ln cp0:Nat→Nat) (f:Nat→Nat→T) (hp:RL w pa0 pc0 p) (h:fZ w a n cap ad0 ln cp0 f) (o1:1≤o) (o2:o≤3) (hpo:cT p=true) (hl:aW n ln f=true):Calls Tryz.prog 65 #[.int .i64 o,.slice pa0 p.length pc0,.slice a n cap] w fun r w'=>YR w n (dV o n ln f 300 (jO p)) r w':=
 (II w o pa0 pc0 p a n cap ad0 ln cp0 f hp h o1 o2 hpo hl).mono fun _ _ h=>h.plain
end Go.Proofs.YtncffcaabnjioaaGreat
