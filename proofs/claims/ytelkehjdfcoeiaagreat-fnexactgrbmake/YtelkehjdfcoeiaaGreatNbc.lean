/-
  The program's RedAll.
-/
import Derived.Test.YtelkehjdfcoeiaaGreatNbb
set_option maxHeartbeats 8000000
set_option maxRecDepth 100000
namespace Go.Proofs.YtelkehjdfcoeiaaGreat
open Go.RowKit Go.Deep Go.Joins Go.Maps
set_option linter.unusedVariables false
set_option linter.unusedSimpArgs false
theorem KN {o:Int} {p:List T} {n:Nat} {ln:Nat→Nat} {f:Nat→Nat→T} (h:¬((1≤o∧o≤3)∧cJ p=true∧aW n ln f=true)):(o<1∨3<o)∨((1≤o∧o≤3)∧aW n ln f=false)∨((1≤o∧o≤3)∧aW n ln f=true∧cJ p=false):=by
 by_cases ho:1≤o∧o≤3
 ·cases hl:aW n ln f
  ·exact .inr (.inl ⟨ho,rfl⟩)
  ·cases hp:cJ p
   ·exact .inr (.inr ⟨ho,rfl,rfl⟩)
   ·exact absurd ⟨ho,hp,hl⟩ h
 ·exact .inl (by omega)
theorem GH (w:World) (o:Int) (pa:Option Addr) (pc:Nat) (p:List T) (a:Option Addr) (n cap:Nat) (ad:Nat→Option Addr) (ln cp:Nat→Nat) (f:Nat→Nat→T) (hp:RL w pa pc p) (h:eH w a n cap ad ln cp f) (hno:¬((1≤o∧o≤3)∧cJ p=true∧aW n ln f=true)):Calls Tryz.prog 95 #[.int .i64 o,.slice pa p.length pc,.slice a n cap] w fun r w'=>r= .returned (.tuple #[.pointer none,.bool false])∧Below w.heap.size w w':=by
 have HP:=aA hp;have HH:=aA h
 have q1:(n:Int)≤140737488351232:=by have:=h.2.1;omega
 have q2:(p.length:Int)≤140737488351232:=by have:=hp.2.1;omega
 clear hp h;rcases KN hno with ho|⟨ho,hl⟩|⟨ho,hl,hk⟩
 ·clear hno;go_enter Tryz.func95,Tryz.ntmps95;go_wp2_with fail;refine(mW _ _ ho).mono ?_;rintro r w1 ⟨rfl,hb1⟩;have HB1:=aA hb1
  clear hb1;go_wp2_with fail;refine(pK _ _ _ _ _ ho).mono ?_;rintro r w2 ⟨rfl,hb2⟩;have HB2:=aA (aB HB1.out hb2)
  clear hb2;go_wp2;refine cV (results_tmp2 rfl _ _ _) rfl ?_;exact⟨rfl,HB2.out⟩
 ·clear hno;go_enter Tryz.func95,Tryz.ntmps95;go_wp2_with fail;refine(gT _ _ ho.1 ho.2).mono ?_;rintro r w1 ⟨fv,rfl,hb1⟩;have HB1:=aA hb1
  clear hb1;go_wp2_with fail;refine(rU _ _ _ _ _ _ _ _ _ (HH.out.below HB1.out) ho.1 ho.2 hl).mono ?_;rintro r w2 ⟨rfl,hb2⟩;have HB2:=aA (aB HB1.out hb2)
  clear hb2;go_wp2;refine cV (results_tmp2 rfl _ _ _) rfl ?_;exact⟨rfl,HB2.out⟩
 ·clear hno;go_enter Tryz.func95,Tryz.ntmps95;go_wp2_with fail;refine(gT _ _ ho.1 ho.2).mono ?_;rintro r w1 ⟨fv,rfl,hb1⟩;have HB1:=aA hb1
  clear hb1;go_wp2_with fail;refine(oU _ _ _ _ _ _ _ _ _ (HH.out.below HB1.out) ho.1 ho.2 hl).mono ?_;rintro r w2 ⟨v,rfl,hb2,ho2⟩;have HB2:=aA (aB HB1.out hb2)
  clear hb2 ho2;go_wp2_with fail;refine(dZ _ _ _ _ (lf p) (HP.out.below HB2.out)).mono ?_;rw[show aK p.length (lf p)=false from hk];rintro r w3 ⟨rfl,hb3⟩;have HB3:=aA (aB HB2.out hb3)
  clear hb3;go_wp2;refine cV (results_tmp2 rfl _ _ _) rfl ?_;exact⟨rfl,HB3.out⟩
def yZ (w:World) (n:Nat) (R:Option Dv) (r:Ending) (w':World):Prop:=
 Below w.heap.size w w'∧((∃S qa qc ad cp Rb B la lc mid,R=some S∧r= .returned (.tuple #[.slice qa n qc,.slice la S.r.length lc,.bool true])∧dV w.heap.size w' qa n qc ad (fun i=>(S.q i).length) cp (fun i=>lf (S.q i)) Rb B∧gX mid w' la lc S.r∧(n=0∨Rb<mid)∧(∀i,i<n→(S.q i).length≠0→B i<mid)∧w.heap.size≤mid)∨(R=none∧r= .returned (.tuple #[.slice none 0 0,.slice none 0 0,.bool false])))
theorem VE (w:World) (o:Int) (pa:Option Addr) (pc:Nat) (p:List T) (a:Option Addr) (n cap:Nat) (ad:Nat→Option Addr) (ln cp:Nat→Nat) (f:Nat→Nat→T) (hp:RL w pa pc p) (h:eH w a n cap ad ln cp f):Calls Tryz.prog 56 #[.int .i64 o,.slice pa p.length pc,.slice a n cap] w fun r w'=>yZ w n (dA o p n ln f) r w':=by
 by_cases hok:(1≤o∧o≤3)∧cJ p=true∧aW n ln f=true
 ·have HE:Hid (dA o p n ln f=eE o n ln f 300 (kP p)):=if_pos hok;rw[HE.out];have HBG:=aA (MI w o pa pc p a n cap ad ln cp f hp h hok.1.1 hok.1.2 hok.2.1 hok.2.2)
  clear HE hp h;go_enter Tryz.func56,Tryz.ntmps56;go_wp2_with fail;refine HBG.out.mono ?_;rintro r w1 ⟨X,rfl,e1,e2,e3,e4,e5,e6,hD,hb1⟩;subst e1 e2 e3;have hbd:X.Bd<w1.heap.size:=cQ w1 _ hD.c0
  have hs1:w.heap.size≤w1.heap.size:=hb1.size;have HB0:=aA (aB hb1 (aP w1 (.cells #[.pointer (some ⟨X.Bd,0,none⟩)] 133) (.cells #[.slice none 0 0] 24) (.cells #[.slice none 0 0] 41)))
  have hsz:(((w1.alloc (.cells #[.pointer (some ⟨X.Bd,0,none⟩)] 133)).alloc (.cells #[.slice none 0 0] 24)).alloc (.cells #[.slice none 0 0] 41)).heap.size=w1.heap.size+3:=by simp
  have HSZ:=aA hsz
  have HA:=aA (ZM X (((w1.alloc (.cells #[.pointer (some ⟨X.Bd,0,none⟩)] 133)).alloc (.cells #[.slice none 0 0] 24)).alloc (.cells #[.slice none 0 0] 41)) p (hD.below (aP _ _ _ _)) hok.2.1 (by rw[e5,e4]) (by rw[e4];exact hok.1) hok.2.2 w1.heap.size (w1.heap.size+1) (w1.heap.size+2)
   (by simp[go_sem]) (by simp[go_sem]) (by simp[go_sem]) (by simp[go_sem]) (by simp[go_sem]) (by omega) (by omega) (by omega) (by omega) (by rw[e6];omega) (by rw[e6];omega))
  rw[e4,e6]at HA;clear hb1 hD hsz;go_wp2_with fail;rw[show w1.heap.size+1+1=w1.heap.size+2 from rfl];cases hR:eE o X.n X.ln X.f 300 (kP p)with
  |some S=>
   have HC:=aA (DZ 96 #[.pointer (some ⟨w1.heap.size,0,none⟩),.pointer (some ⟨w1.heap.size+1,0,none⟩),.pointer (some ⟨w1.heap.size+2,0,none⟩)] (((w1.alloc (.cells #[.pointer (some ⟨X.Bd,0,none⟩)] 133)).alloc (.cells #[.slice none 0 0] 24)).alloc (.cells #[.slice none 0 0] 41)) (fun w'=>Below w.heap.size (((w1.alloc (.cells #[.pointer (some ⟨X.Bd,0,none⟩)] 133)).alloc (.cells #[.slice none 0 0] 24)).alloc (.cells #[.slice none 0 0] 41)) w'∧∃qa qc ad cp Rb B la lc mid,w'.cell? ⟨w1.heap.size+1,0,none⟩=some (.slice qa X.n qc)∧w'.cell? ⟨w1.heap.size+2,0,none⟩=some (.slice la S.r.length lc)∧dV (w1.heap.size+3) w' qa X.n qc ad (fun i=>(S.q i).length) cp (fun i=>lf (S.q i)) Rb B∧gX mid w' la lc S.r∧(X.n=0∨Rb<mid)∧(∀i,i<X.n→(S.q i).length≠0→B i<mid)∧w1.heap.size+3≤mid) (enters_of Tryz.func96 (by kernel_rfl) rfl) (HA.out.mono fun r w' h=>by
    rw[hR]at h;rcases h.2 with⟨S',qa,qc,ad,cp,Rb,B,la,lc,mid,hS,hr,r1,r2,r3,r4,r5,r6,r7⟩|⟨hno,_⟩
    ·cases hS;rw[HSZ.out]at r3 r7;exact⟨hr,h.1,qa,qc,ad,cp,Rb,B,la,lc,mid,r1,r2,r3,r4,r5,r6,r7⟩
    ·cases hno))
   have HRR:=aA hR;clear HA hR;refine HC.out.mono ?_;rintro r w3 ⟨rfl,w2,⟨hb2,qa,qc,ad',cp',Rb,B,la,lc,mid,k1,k2,hO,hL,m1,m2,m3⟩,rfl⟩;have g1:(w2.alloc (.cells #[] 114)).cell? ⟨w1.heap.size+1,0,none⟩=some (.slice qa X.n qc):=((aC w2 _).cell (p:=⟨w1.heap.size+1,0,none⟩) (cQ w2 _ k1)).trans k1
   have g2:(w2.alloc (.cells #[] 114)).cell? ⟨w1.heap.size+2,0,none⟩=some (.slice la S.r.length lc):=((aC w2 _).cell (p:=⟨w1.heap.size+2,0,none⟩) (cQ w2 _ k2)).trans k2;have hbw:Below w.heap.size w w2:=HB0.out.trans hb2
   have HFIN:Hid (yZ w X.n (some S) (.returned (.tuple #[.slice qa X.n qc,.slice la S.r.length lc,.bool true])) (w2.alloc (.cells #[] 114)).drew):=
    ⟨(hbw.alloc hbw.size _).drew,.inl ⟨S,qa,qc,ad',cp',Rb,B,la,lc,mid,rfl,rfl,((hO.low (by omega)).below (aC w2 _)).below (bQ _ _).drew,(hL.below (aC w2 _)).below (bQ _ _).drew,m1,m2,by omega⟩⟩
   clear hb2 k1 k2 hO hL m1 m2 m3 HC hbw;go_wp2_with fail
   go_region_with fail
   all_goals
    go_wp2;refine cV (results_tmp3 rfl _ _ _) rfl ?_;rw[HRR.out];exact HFIN.out
  |none=>
   have HC:=aA (GI 96 #[.pointer (some ⟨w1.heap.size,0,none⟩),.pointer (some ⟨w1.heap.size+1,0,none⟩),.pointer (some ⟨w1.heap.size+2,0,none⟩)] (((w1.alloc (.cells #[.pointer (some ⟨X.Bd,0,none⟩)] 133)).alloc (.cells #[.slice none 0 0] 24)).alloc (.cells #[.slice none 0 0] 41)) (fun w'=>Below w.heap.size (((w1.alloc (.cells #[.pointer (some ⟨X.Bd,0,none⟩)] 133)).alloc (.cells #[.slice none 0 0] 24)).alloc (.cells #[.slice none 0 0] 41)) w'∧w'.cell? ⟨w1.heap.size+1,0,none⟩=some (.slice none 0 0)∧w'.cell? ⟨w1.heap.size+2,0,none⟩=some (.slice none 0 0)) (enters_of Tryz.func96 (by kernel_rfl) rfl) (HA.out.mono fun r w' h=>by
    rw[hR]at h;rcases h.2 with⟨S',qa,qc,ad,cp,Rb,B,la,lc,mid,hS,_⟩|⟨_,hr,r1,r2⟩
    ·cases hS
    ·exact⟨hr,h.1,r1,r2⟩))
   have HRR:=aA hR;clear HA hR;refine HC.out.mono ?_;rintro r w3 ⟨rfl,w2,⟨hb2,k1,k2⟩,rfl⟩;have g1:(w2.alloc (.cells #[] 114)).cell? ⟨w1.heap.size+1,0,none⟩=some (.slice none 0 0):=((aC w2 _).cell (p:=⟨w1.heap.size+1,0,none⟩) (cQ w2 _ k1)).trans k1
   have g2:(w2.alloc (.cells #[] 114)).cell? ⟨w1.heap.size+2,0,none⟩=some (.slice none 0 0):=((aC w2 _).cell (p:=⟨w1.heap.size+2,0,none⟩) (cQ w2 _ k2)).trans k2;have hbw:Below w.heap.size w w2:=HB0.out.trans hb2
   have HFIN:Hid (yZ w X.n none (.returned (.tuple #[.slice none 0 0,.slice none 0 0,.bool false])) (w2.alloc (.cells #[] 114)).drew):=⟨(hbw.alloc hbw.size _).drew,.inr ⟨rfl,rfl⟩⟩
   clear hb2 k1 k2 HC hbw;go_wp2_with fail
   go_region_with fail
   all_goals
    go_wp2;refine cV (results_tmp3 rfl _ _ _) rfl ?_;rw[HRR.out];exact HFIN.out
 ·have HE:Hid (dA o p n ln f=none):=if_neg hok;rw[HE.out];have HBG:=aA (GH w o pa pc p a n cap ad ln cp f hp h hok)
  clear hok HE hp h;go_enter Tryz.func56,Tryz.ntmps56;go_wp2_with fail;refine HBG.out.mono ?_;rintro r w1 ⟨rfl,hb1⟩;have HB1:=aA hb1
  clear hb1 HBG;go_wp2;refine cV (results_tmp3 rfl _ _ _) rfl ?_;exact⟨HB1.out.alloc HB1.out.size _,.inr ⟨rfl,rfl⟩⟩
end Go.Proofs.YtelkehjdfcoeiaaGreat
namespace Go.Proofs.YtelkehjdfcoeiaaGreat
open Go.RowKit Go.Deep Go.Joins
set_option linter.unusedVariables false
set_option linter.unusedSimpArgs false
theorem UC (w:World) (o:Int) (a:Option Addr) (n cap:Nat) (ad:Nat→Option Addr) (ln cp:Nat→Nat) (f:Nat→Nat→T) (m:M) (h:eH w a n cap ad ln cp f) (hok:∀i,i<n→ln i≠0∧aK (ln i) (f i)=true):Calls Tryz.prog 117 #[.int .i64 o,.slice a n cap,.agg #[.int .i64 m.x,.int .i64 m.y,.int .i64 m.d,.int .i64 m.e]] w fun r w'=>r= .returned (.int .i64 (vA o n ln f m))∧Below w.heap.size w w':=by
 have hn:(n:Int)≤140737488351232:=by have:=h.2.1;omega
 have HB0:=aA (aC w (.cells #[.int .i64 m.x,.int .i64 m.y,.int .i64 m.d,.int .i64 m.e] 84));have HM0:=aA (M4.box w 84 m.x m.y m.d m.e)
 have HH:=aA h;have HO:=aA hok
 clear h hok;go_enter Tryz.func117,Tryz.ntmps117;go_wp2;go_loopw [7] (fun v wr=>∃i:Nat,i≤n∧v= .int .i64 (i:Int)∧Below w.heap.size w wr∧M4 wr w.heap.size m.x m.y m.d m.e∧∀j,j<i→M.dvd (kS o ln f j).m m=false) (fun v _=>n-(intOf v).toNat);case atStart=>exact⟨0,Nat.zero_le _,rfl,HB0.out,HM0.out,fun j hj=>by omega⟩
 case round=>
  obtain⟨i,hi,rfl,hB,hM,hJ⟩:=hrel;have HJ:=aA hJ
  have HB:=aA hB;have HM:=aA hM
  clear hJ;by_cases hlt:i<n
  ·rcases HH.out.2.2.1 with h0|⟨b,off,rfl,hblt,hcl⟩
   ·omega
   have hil:(i:Int)<(n:Int):=by omega
   have hbr:b<wr.heap.size:=iZ hblt hB.size;have g0:wr.cell? ⟨b,off+i,none⟩=some (.slice (ad i) (ln i) (cp i)):=(hB.cell (p:=⟨b,off+i,none⟩) hblt).trans (hcl i hlt)
   have hS:L5 b (off+i) w.heap.size (.slice (ad i) (ln i) (cp i)) m wr.drew:=⟨g0,hM.1,hM.2.1,hM.2.2.1,hM.2.2.2⟩
   have hoi:=HO.out i hlt;have fl:=dR hoi.2
   have HK:=aA ((HH.out.2.2.2 i hlt).below hB);obtain⟨t,ht⟩:∃t,kS o ln f i=t:=⟨_,rfl⟩
   have hlead:Calls Tryz.prog 113 #[.int .i64 o,.slice (ad i) (ln i) (cp i)] wr.drew fun r w'=>r= .returned (.agg #[.int .i64 t.c,.int .i64 t.m.x,.int .i64 t.m.y,.int .i64 t.m.d,.int .i64 t.m.e])∧Below wr.drew.heap.size wr.drew w':=by have:=rI wr.drew o (ad i) (ln i) (cp i) (f i) (HK.out.below (bQ _ _).drew) (by omega) (fun j hj=>(fl.2 j hj).1);rw[show f i (aT o (f i) (ln i))=t from ht]at this;exact this
   obtain⟨bv,hbv⟩:∃bv,M.dvd ⟨t.m.x,t.m.y,t.m.d,t.m.e⟩ ⟨m.x,m.y,m.d,m.e⟩=bv:=⟨_,rfl⟩
   have HT:Hid (M.dvd (kS o ln f i).m m=bv):=by show M.dvd (kS o ln f i).m m=bv;rw[ht];exact hbv
   have hfield:∀W:World,(Instr.field 86 (Value.agg #[.int .i64 t.c,.int .i64 t.m.x,.int .i64 t.m.y,.int .i64 t.m.d,.int .i64 t.m.e]) 1).run Tryz.prog W= .ok (Value.agg #[.int .i64 t.m.x,.int .i64 t.m.y,.int .i64 t.m.d,.int .i64 t.m.e]) W:=fun W=>by kernel_rfl
   have HBD:=aA hB.drew;have HMD:=aA hM.drew'
   clear hcl hB hM g0 hoi fl ht hbr;go_wp2_with fail
   go_region_held3 (fun u=>u.cell? ⟨b,off+i,none⟩=some (.slice (ad i) (ln i) (cp i))∧u.cell? ⟨w.heap.size,0,none⟩=some (.int .i64 m.x)∧u.cell? ⟨w.heap.size,1,none⟩=some (.int .i64 m.y)∧u.cell? ⟨w.heap.size,2,none⟩=some (.int .i64 m.d)∧u.cell? ⟨w.heap.size,3,none⟩=some (.int .i64 m.e)) (first|with_reducible exact hS|with_reducible exact L5.below hS b1|with_reducible exact L5.below (L5.below hS b1) b2) (first|(go_at_call 113;refine hlead.mono ?_;rintro e w1 ⟨rfl,b1⟩)|(go_at_call 133;refine(kJ hbv _).mono ?_;rintro e w2 ⟨rfl,b2⟩))
   have HBV:=aA (aB (aB HBD.out b1) b2);have HMV:=aA ((HMD.out.below b1).below b2)
   clear hS hlead hbv b1 b2 hfield;cases bv
   ·go_wp2;go_roundw
    case rel=>exact⟨i+1,by omega,by go_num,HBV.out,HMV.out,fun j hj=>by
     by_cases e:j=i
     ·rw[e];exact HT.out
     ·exact HJ.out j (by omega)⟩
    case measure=>simp[intOf];omega
   ·go_wp2;go_ret;have e:vA o n ln f m=(i:Int):=uK (p:=fun t=>M.dvd t.m m) (f:=kS o ln f) HJ.out HT.out n hlt
    rw[e];exact⟨rfl,HBV.out⟩
  ·have hnl:¬(i:Int)<(n:Int):=by omega
   have hie:i=n:=by omega
   subst hie;go_wp2;go_ret;have e:vA o i ln f m= -1:=rA (p:=fun t=>M.dvd t.m m) (f:=kS o ln f) HJ.out
   rw[e];exact⟨rfl,HB.out⟩
structure QW (w:World) (g n:Nat) (q:Nat→List T) (ad:Nat→Option Addr) (cp:Nat→Nat):Prop where
 cell:∀i,i<n→w.cell? ⟨g,i,none⟩=some (.slice (ad i) (q i).length (cp i))
 fz:∀i,i<n→w.frozen? ⟨g,i,none⟩=false
 rd:∀i,i<n→Rd w (ad i) (q i).length (cp i) (lf (q i))
 ap:∀i,i<n→(q i).length=0∨∀b off,ad i=some ⟨b,off,none⟩→b≠g
theorem QW.below {w w':World} {g n:Nat} {q:Nat→List T} {ad:Nat→Option Addr} {cp:Nat→Nat} (h:QW w g n q ad cp) (hb:Below w.heap.size w w'):QW w' g n q ad cp:=
 ⟨fun i hi=>(hb.cell (p:=⟨g,i,none⟩) (cQ w _ (h.cell i hi))).trans (h.cell i hi),fun i hi=>(hb.frozen (p:=⟨g,i,none⟩) (cQ w _ (h.cell i hi))).trans (h.fz i hi),fun i hi=>(h.rd i hi).below hb,h.ap⟩
theorem Ca (w:World) (b i:Nat) (v:Value):w.grownBy (w.setCell ⟨b,i,none⟩ v) (some b):=
 ⟨(bQ 0 w).setCell (p:=⟨b,i,none⟩) (Nat.zero_le _) v |>.os,(bQ 0 w).setCell (p:=⟨b,i,none⟩) (Nat.zero_le _) v |>.tape,(bQ 0 w).setCell (p:=⟨b,i,none⟩) (Nat.zero_le _) v |>.output,(bQ 0 w).setCell (p:=⟨b,i,none⟩) (Nat.zero_le _) v |>.size,fun k _ hk=>Below.heap_setCell _ _ _ k (fun e=>hk (by rw[e]))⟩
def NF (a:Option Addr) (k g:Nat):Prop:=k=0∨∀b off,a=some ⟨b,off,none⟩→b≠g
theorem NF.rd {w w':World} {a:Option Addr} {k cap g:Nat} {f:Nat→T} (h:NF a k g) (hr:Rd w a k cap f) (hg:w.grownBy w' (some g)):Rd w' a k cap f:=hr.grown hg (h.imp id (fun hh b off e e'=>hh b off e (by simpa using e')))
theorem QW.put {w:World} {g n:Nat} {q:Nat→List T} {ad:Nat→Option Addr} {cp:Nat→Nat} (h:QW w g n q ad cp) {k:Nat} (hk:k<n) {a:Option Addr} {c:Nat} {L:List T} (hr:Rd w a L.length c (lf L)) (ho:NF a L.length g):QW (w.setCell ⟨g,k,none⟩ (.slice a L.length c)) g n (kN q k L) (fun i=>if i=k then a else ad i) (fun i=>if i=k then c else cp i):=by
 have hs:=Ca w g k (.slice a L.length c);refine⟨fun i hi=>?_,fun i hi=>?_,fun i hi=>?_,fun i hi=>?_⟩
 ·unfold kN;by_cases e:i=k
  ·subst e;simp only[if_pos];simp[go_sem,h.cell i hi]
  ·simp only[if_neg e];rw[World.cell?_setCell_other _ _ _ _ (by intro e';cases e';exact e rfl)];exact h.cell i hi
 ·simp[go_sem,h.fz i hi]
 ·unfold kN;by_cases e:i=k
  ·subst e;simp only[if_pos];exact ho.rd hr hs
  ·simp only[if_neg e];exact NF.rd (h.ap i hi) (h.rd i hi) hs
 ·unfold kN;by_cases e:i=k
  ·subst e;simp only[if_pos];exact ho
  ·simp only[if_neg e];exact h.ap i hi
theorem QW.rds {w:World} {g n c:Nat} {q:Nat→List T} {ad:Nat→Option Addr} {cp:Nat→Nat} (h:QW w g n q ad cp) (hn:n≤12) (hc:n≤c):eH w (some ⟨g,0,none⟩) n c ad (fun i=>(q i).length) cp (fun i=>lf (q i)):=by
 refine⟨hc,by omega,?_,h.rd⟩;by_cases h0:n=0
 ·exact .inl h0
 ·exact .inr ⟨g,0,rfl,cQ w _ (h.cell 0 (by omega)),fun i hi=>by rw[Nat.zero_add];exact h.cell i hi⟩
theorem lE.qw {lo:Nat} {w:World} {q:Nat→List T} {n:Nat} {g c:Nat} {ad:Nat→Option Addr} {cp B:Nat→Nat} (h:lE lo w q n (.slice (some ⟨g,0,none⟩) n c) ad cp B):QW w g n q ad cp:=by
 refine⟨fun i hi=>?_,fun i hi=>?_,fun i hi=>(h.el i hi).1,fun i hi=>?_⟩
 ·rw[h.row.cellAt i (by omega),RK hi]
 ·rcases h.row.2 with⟨e,_⟩|⟨g',cap,cur,e,_,hg,_⟩
  ·cases e
  ·cases e;unfold World.frozen?;simp[hg]
 ·rcases(h.el i hi).2.2 with h0|⟨off,e1,_,_,e4⟩
  ·exact .inl h0
  ·refine .inr fun b off' e e'=>?_;rw[e1]at e;cases e;exact e4 (by rw[e'];rfl)
theorem UV {t:T} (ht:1≤t.c∧t.c≤100) (L:List T):cG L [(⟨101-t.c,t.m⟩:T)]=bY L [t]:=by
 have:jA 100 [t]=[(⟨101-t.c,t.m⟩:T)]:=by
  rw[mZ];show[(⟨100*t.c%101,t.m⟩:T)]=_
  rw[show 100*t.c%101=101-t.c by omega]
 unfold bY;rw[this]
end Go.Proofs.YtelkehjdfcoeiaaGreat
