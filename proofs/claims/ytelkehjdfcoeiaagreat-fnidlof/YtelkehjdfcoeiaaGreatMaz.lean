/-
  A division's answer.
-/
import Derived.Test.YtelkehjdfcoeiaaGreatMay
set_option maxHeartbeats 8000000
set_option maxRecDepth 100000
namespace Go.Proofs.YtelkehjdfcoeiaaGreat
open Go.RowKit Go.Deep Go.Joins Go.Maps
set_option linter.unusedVariables false
theorem Jh:(Tryz.prog.info? 41).map (fun i=>(i.zero,i.size,i.bytes))=some (some (.slice none 0 0),1,24):=by kernel_rfl
theorem Da (w:World) (b n:Nat) (K:List T) (h:bU w b n (aM K)) (hn:n≤1000000) (hK:aL K) (hl:K.length≤300):Calls Tryz.prog 66 #[.map (some b)] w fun e w'=>∃a c,e= .returned (.tuple #[.slice a K.length c,.bool true])∧Below w.heap.size w w'∧jG w.heap.size w' a c K:=by
 refine(PW w b n (aM K) h hn hK (fun _ _=>rfl)).mono ?_;have e:DO K=(K,true):=if_pos (by omega)
 rw[e];rintro r w' ⟨v,rfl,hb,ho⟩;obtain⟨a,c,rfl,hout⟩:=aI ho (by show K.length*40≤_;omega);exact⟨a,c,rfl,hb,hout⟩
theorem Eb (X:wR) (w:World) (fu u N:Nat) (S:Dv) (h:nV X w fu u N S) (hok:kM u S) (hu:u≤300) (hn:X.n≤12):Calls Tryz.prog 99 #[.pointer (some ⟨X.Bd,0,none⟩)] w fun r w'=>∃qa qc ad cp R B la lc mid,r= .returned (.tuple #[.slice qa X.n qc,.slice la S.r.length lc])∧Below w.heap.size w w'∧jY w.heap.size w' qa X.n qc ad (fun i=>(S.q i).length) cp (fun i=>lf (S.q i)) R B∧jG mid w' la lc S.r∧(X.n=0∨R<mid)∧(∀i,i<X.n→(S.q i).length≠0→B i<mid)∧w.heap.size≤mid:=by
 obtain⟨i0,hi0,hz0,hz1,hz2⟩:=info_parts Jh;have hnl:(X.n:Int)≤12:=by omega
 have k4:=h.c4;have HH:=aA h
 have HOK:=aA hok;clear h hok;go_enter Tryz.func99,Tryz.ntmps99;go_wp2;clear k4;go_loopw [4,12] (fun tv ii wr=>∃(j:Nat) (ad:Nat→Option Addr) (cp B:Nat→Nat),j≤X.n∧ii= .int .i64 (j:Int)∧Below w.heap.size w wr∧oJ w.heap.size wr S.q j tv ad cp B) (fun _ ii _=>X.n-(intOf ii).toNat);case atStart=>exact⟨0,_,_,_,Nat.zero_le _,rfl,bG _ _,oJ.start (Nat.le_refl _) S.q⟩
 case round=>
  obtain⟨j,ad,cp,B,hj,rfl,hB,hA⟩:=hrel;have HB:=aA hB
  have HA:=aA hA;have HW:=aA (HH.out.below hB)
  clear hB hA;by_cases hlt:j<X.n
  ·have hjn:(j:Int)<(X.n:Int):=by omega
   obtain⟨bt,offt,et,hct⟩:=HW.out.tk.2.resolve_left (by omega);have kt:=hct j hlt
   have HOPR:=aA (Da wr (X.bk j) u (S.q j) (HW.out.tq j hlt) (by omega) (HOK.out.q j).1 (by have:=(HOK.out.q j).2;omega));clear hct;rw[et];go_wp2_with fail;refine HOPR.out.mono ?_;rintro r w1 ⟨va,vc,rfl,hb1,ho1⟩;have HB1:=aA (aB HB.out hb1)
   have HA1:=aA (HA.out.below hb1);have HO1:=aA ho1
   have hsz0:w.heap.size≤wr.heap.size:=HB.out.size;have hsz1:wr.heap.size≤w1.heap.size:=hb1.size
   have HM:Hid (∀i,i<j→(S.q i).length≠0→B i<wr.heap.size):=fun i hi h0=>by
    rcases(HA.out.el i hi).2.2 with hz|⟨_,_,_,h3,_⟩
    ·exact absurd hz h0
    ·exact h3
   have HMR:Hid (∀k,u4.ownBlock=some k→k<wr.heap.size):=fun k hk=>(HA.out.row.lt k hk).2;have hnew:=heap_alloc_new w1 (.cells #[.slice va (S.q j).length vc] 41)
   have HN:=aA hnew;have hrow:=HA1.out.row.alloc (.cells #[.slice va (S.q j).length vc] 41)
   have hnews:∀jj u,[Value.slice va (S.q j).length vc][jj]? =some u→(w1.alloc (.cells #[.slice va (S.q j).length vc] 41)).cell? ((⟨w1.heap.size,0,none⟩:Addr).add jj)=some u:=World.news_of_block HN.out
   have hone:∀u∈[Value.slice va (S.q j).length vc],u.oneCell'=true:=fun u hu=>by
    have:u= .slice va (S.q j).length vc:=by simpa using hu
    subst this;rfl
   have hbase:w.heap.size≤(w1.alloc (.cells #[.slice va (S.q j).length vc] 41)).heap.size:=by simp;omega
   have hmax:j+1≤maxLen:=by unfold maxLen;omega
   clear hb1 ho1 hnew kt HOPR
   go_wp2_with (first
    |(go_at_call 142;refine(iA _ _).mono ?_;rintro e wn ⟨rfl,hwn⟩;obtain rfl:=hwn.symm;clear hwn)
    |(at_builtin;refine wpList_append_lies _ rfl (.tmp 16) (.tmp 22) 24 rfl w.heap.size 41 i0 _ 1 24 Tryz.underlying24 hi0 hz0 hz1 hz2 rfl (by omega) _ j (DN ad (fun i=>(S.q i).length) cp j) rfl hrow ⟨w1.heap.size,0,none⟩ 1 1 [.slice va (S.q j).length vc] rfl rfl hnews hone (by omega) hmax (by omega) hbase _ rfl ?_;intro g0 cap0 w5 hown1 hgrow hat hlt1;have HR:=aA (HA1.out.round (m:=wr.heap.size) HM.out HMR.out hsz0 HO1.out hgrow hown1 (hat.imp id (fun e=>e.trans (by simp))) hlt1);have HB5:=aA ((HB1.out.alloc HB1.out.size _).grown hgrow hbase (fun k e=>(HA1.out.row.lt k e).1));clear hown1 hgrow hat hlt1 hrow))
   go_roundw;case rel=>exact⟨j+1,_,_,_,by omega,by go_num,HB5.out,HR.out⟩
   case measure=>simp[intOf];omega
  ·have hjn:¬(j:Int)<(X.n:Int):=by omega
   have hje:j=X.n:=by omega
   subst hje;have k5:=HW.out.c5
   have HOPR:=aA (Da wr X.bl u S.r HW.out.lf (by omega) HOK.out.r.1 (by have:=HOK.out.r.2;omega));go_wp2_with fail;refine HOPR.out.mono ?_;rintro r w1 ⟨la,lc,rfl,hb1,ho1⟩;have HB1:=aA (aB HB.out hb1)
   obtain⟨qa,qc,R,etv,hO⟩:=(HA.out.below hb1).out (by omega);subst etv;have HOS:=aA hO
   have HO1:=aA ho1;have HRM:Hid (X.n=0∨R<wr.heap.size):=by
    rcases hO.row with h0|⟨off,e,_⟩
    ·exact .inl h0
    ·refine .inr (HA.out.row.lt R ?_).2;rw[e];rfl
   have HM:Hid (∀i,i<X.n→(S.q i).length≠0→B i<wr.heap.size):=fun i hi h0=>by
    rcases(HA.out.el i hi).2.2 with hz|⟨_,_,_,h3,_⟩
    ·exact absurd hz h0
    ·exact h3
   clear hb1 ho1 hO k5 HOPR;go_wp2_with (go_at_call 142;refine(iA _ _).mono ?_;rintro e wn ⟨rfl,hwn⟩;obtain rfl:=hwn.symm;clear hwn);refine cD (results_tmp2 rfl _ _ _) rfl ?_;exact⟨qa,qc,ad,cp,R,B,la,lc,wr.heap.size,rfl,HB1.out,HOS.out,HO1.out,HRM.out,HM.out,HB.out.size⟩
set_option linter.unusedSimpArgs false
theorem Id (X:wR) (w:World) (fu u N:Nat) (S:Dv) (h:nV X w fu u N S) (hp:aL S.p) (b:Bool) (hb:((S.p.length:Int)==0)=b):Calls Tryz.prog 97 #[.pointer (some ⟨X.Bd,0,none⟩)] w fun r w'=>r= .returned (.bool b)∧w'=w:=by
 have hlen:=h.rs.len hp 3;have k3:=h.c3
 clear h;go_enter Tryz.func97,Tryz.ntmps97;go_wp2;go_ret;exact⟨rfl,rfl⟩
theorem gC.cell {X:wR} {w w':World} (h:gC X w w') {fu u N:Nat} {S:Dv} (hd:nV X w fu u N S) {b o:Nat} {v:Value} (hc:w.cell? ⟨b,o,none⟩=some v) (hne:b≠X.Bd):w'.cell? ⟨b,o,none⟩=some v:=
 (lM (a:=⟨b,o,none⟩) (h.block b (dD w _ hc) hne (hd.rs.ne_cell hc) (hd.lf.ne_cell hc) (fun i hi=>(hd.tq i hi).ne_cell hc))).trans hc
theorem gC.frozen {X:wR} {w w':World} (h:gC X w w') {fu u N:Nat} {S:Dv} (hd:nV X w fu u N S) {b o:Nat} {v:Value} (hc:w.cell? ⟨b,o,none⟩=some v) (hne:b≠X.Bd) {z:Bool} (hz:w.frozen? ⟨b,o,none⟩=z):w'.frozen? ⟨b,o,none⟩=z:=
 (World.frozen?_of_block (a:=⟨b,o,none⟩) (h.block b (dD w _ hc) hne (hd.rs.ne_cell hc) (hd.lf.ne_cell hc) (fun i hi=>(hd.tq i hi).ne_cell hc))).trans hz
def tQ (b:Nat) (w:World):Nat:=match w.cell? ⟨b,6,none⟩with
 |some (.int .i64 z)=>z.toNat
 |_=>0
theorem nV.fuel {X:wR} {w:World} {fu u N:Nat} {S:Dv} (h:nV X w fu u N S):tQ X.Bd w=fu:=by unfold tQ;rw[h.c6];simp
theorem jY.far {lo:Nat} {w w':World} {a:Option Addr} {n cap:Nat} {ad:Nat→Option Addr} {ln cp:Nat→Nat} {f:Nat→Nat→T} {R:Nat} {B:Nat→Nat} (h:jY lo w a n cap ad ln cp f R B) {b:Nat} (hg:w.grownBy w' (some b)) (hb:b<lo):jY lo w' a n cap ad ln cp f R B:=by
 have hne:∀i,i<n→ln i=0∨∀b' off,ad i=some ⟨b',off,none⟩→some b'≠some b:=fun i hi=>(h.el i hi).imp id (fun⟨off,e,h1,_⟩ b' off' e' e2=>by
  rw[e]at e';cases e';have:B i=b:=by simpa using e2
  omega)
 refine⟨⟨h.rd.1,h.rd.2.1,?_,fun i hi=>(h.rd.2.2.2 i hi).grown hg (hne i hi)⟩,h.row,fun i hi=>(h.wr i hi).grown hg (hne i hi),h.el,h.ap⟩;rcases h.rd.2.2.1 with h0|⟨b',off,e,hlt,hc⟩
 ·exact .inl h0
 ·rcases h.row with h0|⟨off',e',hlo⟩
  ·exact .inl h0
  ·rw[e']at e;obtain⟨rfl,rfl⟩:R=b'∧off'=off:=by simpa using e
   exact .inr ⟨R,off',e',lB hlt hg.size,fun i hi=>(lM (a:=⟨R,off'+i,none⟩) (hg.block R hlt (fun e2=>by
    have:R=b:=by simpa using e2
    omega))).trans (hc i hi)⟩
theorem jY.low {lo lo':Nat} {w:World} {a:Option Addr} {n cap:Nat} {ad:Nat→Option Addr} {ln cp:Nat→Nat} {f:Nat→Nat→T} {R:Nat} {B:Nat→Nat} (h:jY lo w a n cap ad ln cp f R B) (hl:lo'≤lo):jY lo' w a n cap ad ln cp f R B:=
 ⟨h.rd,h.row.imp id (fun⟨off,e,h1⟩=>⟨off,e,jQ hl h1⟩),h.wr,fun i hi=>(h.el i hi).imp id (fun⟨off,e,h1,h2⟩=>⟨off,e,jQ hl h1,h2⟩),h.ap⟩
theorem jY.below {lo:Nat} {w w':World} {a:Option Addr} {n cap:Nat} {ad:Nat→Option Addr} {ln cp:Nat→Nat} {f:Nat→Nat→T} {R:Nat} {B:Nat→Nat} (h:jY lo w a n cap ad ln cp f R B) (hb:Below w.heap.size w w'):jY lo w' a n cap ad ln cp f R B:=
 ⟨h.rd.below hb,h.row,fun i hi=>(h.wr i hi).below hb,h.el,h.ap⟩
theorem jG.far {lo:Nat} {w w':World} {a:Option Addr} {c:Nat} {L:List T} (h:jG lo w a c L) {b:Nat} (hg:w.grownBy w' (some b)) (hb:b<lo):jG lo w' a c L:=by
 have hne:L.length=0∨∀b' off,a=some ⟨b',off,none⟩→some b'≠some b:=h.2.2.imp id (fun⟨g,off,e,h1⟩ b' off' e' e2=>by
  rw[e]at e';cases e';have:b'=b:=by simpa using e2
  omega)
 exact⟨h.1.grown hg hne,h.2.1.grown hg hne,h.2.2⟩
def PZ (s0:Nat) (W:World) (Bt Bl n:Nat) (R:Option Dv) (r:Ending) (w':World):Prop:=
 Below s0 W w'∧((∃S qa qc ad cp Rb B la lc mid,R=some S∧r= .returned (.tuple #[])∧w'.cell? ⟨Bt,0,none⟩=some (.slice qa n qc)∧w'.cell? ⟨Bl,0,none⟩=some (.slice la S.r.length lc)∧jY W.heap.size w' qa n qc ad (fun i=>(S.q i).length) cp (fun i=>lf (S.q i)) Rb B∧jG mid w' la lc S.r∧(n=0∨Rb<mid)∧(∀i,i<n→(S.q i).length≠0→B i<mid)∧W.heap.size≤mid)∨(R=none∧r= .panicked [{v:=gB,recovered:=false}]∧w'.cell? ⟨Bt,0,none⟩=some (.slice none 0 0)∧w'.cell? ⟨Bl,0,none⟩=some (.slice none 0 0)))
theorem Lm (X:wR) (W:World) (p:List T) (h:nV X W 300 0 400 (lR p)) (hp:cF p=true) (hrk:X.rk=Kw X.o) (ho:1≤X.o∧X.o≤3) (hl:bB X.n X.ln X.f=true) (Bv Bt Bl:Nat) (hv:W.cell? ⟨Bv,0,none⟩=some (.pointer (some ⟨X.Bd,0,none⟩))) (ht:W.cell? ⟨Bt,0,none⟩=some (.slice none 0 0)) (hz:W.frozen? ⟨Bt,0,none⟩=false) (hc:W.cell? ⟨Bl,0,none⟩=some (.slice none 0 0)) (hy:W.frozen? ⟨Bl,0,none⟩=false) (n1:Bv≠X.Bd) (n2:Bt≠X.Bd) (n3:Bl≠X.Bd) (n4:Bt≠Bl) (l2:X.s0≤Bt) (l3:X.s0≤Bl):Calls Tryz.prog 96 #[.pointer (some ⟨Bv,0,none⟩),.pointer (some ⟨Bt,0,none⟩),.pointer (some ⟨Bl,0,none⟩)] W fun r w'=>PZ X.s0 W Bt Bl X.n (fK X.o X.n X.ln X.f 300 (lR p)) r w':=by
 have HH:=aA h;have HV:=aA hv
 have HT:=aA (And.intro ht hz);have HC:=aA (And.intro hc hy)
 have n12:=(aQ hl).1;clear h hv ht hz hc hy;go_enter Tryz.func96,Tryz.ntmps96;go_wp2;go_loopw [3] (fun _ wr=>∃(fu u N:Nat) (S:Dv),fu+u=300∧N≤400+400*u∧kM u S∧nV X wr fu u N S∧gC X W wr∧fK X.o X.n X.ln X.f fu S=fK X.o X.n X.ln X.f 300 (lR p)) (fun _ wr=>tQ X.Bd wr);case atStart=>exact⟨300,0,400,lR p,rfl,by omega,kM.start hp,HH.out,gC.of (bG _ _),rfl⟩
 case round=>
  obtain⟨fu,u,N,S,hfu,hN,hok,hW,hT,hR⟩:=hrel;have HOK:=aA hok
  have HW:=aA hW;have HTR:=aA hT
  have HR:=aA hR;have kv:=hT.cell HH.out HV.out n1
  clear hok hW hT hR;by_cases h0:S.p.length=0
  ·have hb:((S.p.length:Int)==0)=true:=by simpa using h0
   have HDN:=aA (Id X wr fu u N S HW.out (aD HOK.out.p).2 true hb);have HE:=aA (HR.out.symm.trans (pV h0))
   have HAN:=aA (Eb X wr fu u N S HW.out HOK.out (by omega) n12);obtain⟨kt,kz⟩:=And.intro (HTR.out.cell HH.out HT.out.1 n2) (HTR.out.frozen HH.out HT.out.1 n2 HT.out.2);obtain⟨kl,ky⟩:=And.intro (HTR.out.cell HH.out HC.out.1 n3) (HTR.out.frozen HH.out HC.out.1 n3 HC.out.2);have HK:=aA (And.intro (And.intro kt kz) (And.intro kl ky))
   clear kt kz kl ky hb;go_wp2_with fail;refine HDN.out.mono ?_;rintro r w' ⟨rfl,hw'⟩;obtain rfl:=hw'.symm;clear hw' HDN;go_wp2_with fail;refine HAN.out.mono ?_;rintro r w1 ⟨qa,qc,ad,cp,Rb,B,la,lc,mid,rfl,hb1,hO,hL,hm1,hm2,hm3⟩;have ltt:Bt<wr.heap.size:=dD wr _ HK.out.1.1
   have ltl:Bl<wr.heap.size:=dD wr _ HK.out.2.1;have kt:w1.cell? ⟨Bt,0,none⟩=some (.slice none 0 0):=(hb1.cell (p:=⟨Bt,0,none⟩) ltt).trans HK.out.1.1
   have kz:w1.frozen? ⟨Bt,0,none⟩=false:=(hb1.frozen (p:=⟨Bt,0,none⟩) ltt).trans HK.out.1.2;have kl:w1.cell? ⟨Bl,0,none⟩=some (.slice none 0 0):=(hb1.cell (p:=⟨Bl,0,none⟩) ltl).trans HK.out.2.1
   have ky:w1.frozen? ⟨Bl,0,none⟩=false:=(hb1.frozen (p:=⟨Bl,0,none⟩) ltl).trans HK.out.2.2;have HFIN:Hid (PZ X.s0 W Bt Bl X.n (some S) (.returned (.tuple #[])) ((w1.setCell ⟨Bt,0,none⟩ (.slice qa X.n qc)).setCell ⟨Bl,0,none⟩ (.slice la S.r.length lc))):=by
    have hs:=HH.out.s0;have hsw:W.heap.size≤wr.heap.size:=HTR.out.size
    have g1:=jJ w1 Bt 0 (.slice qa X.n qc);have g2:=jJ (w1.setCell ⟨Bt,0,none⟩ (.slice qa X.n qc)) Bl 0 (.slice la S.r.length lc)
    have hbw:Below X.s0 W w1:=(HTR.out.below HH.out).trans (hb1.mono HW.out.s0);refine⟨(hbw.setCell (p:=⟨Bt,0,none⟩) l2 _).setCell (p:=⟨Bl,0,none⟩) l3 _,.inl ⟨S,qa,qc,ad,cp,Rb,B,la,lc,mid,rfl,rfl,?_,?_,?_,?_,hm1,hm2,by omega⟩⟩
    ·simp[go_sem,kt,n4,n4.symm]
    ·simp[go_sem,kl,n4,n4.symm]
    ·exact((hO.far g1 ltt).far g2 ltl).low hsw
    ·exact(hL.far g1 (by omega)).far g2 (by omega)
   clear hb1 hO hL hm1 hm2 hm3 HAN;have hnl:¬Bl=Bt:=fun e=>n4 e.symm
   go_wp2
   go_end0
   rw[HE.out];exact HFIN.out
  ·have hb:((S.p.length:Int)==0)=false:=by simpa using h0
   have HDN:=aA (Id X wr fu u N S HW.out (aD HOK.out.p).2 false hb);clear hb;cases fu with
   |zero=>
    have HE:=aA (HR.out.symm.trans (DZ h0));have HS:=aA (Kk X wr u N S HW.out)
    go_wp2_with fail;refine HDN.out.mono ?_;rintro r w' ⟨rfl,hw'⟩;obtain rfl:=hw'.symm;clear hw' HDN;go_wp2_with fail;refine HS.out.mono ?_;rintro r w' ⟨rfl,hw'⟩;obtain rfl:=hw'.symm;clear hw' HS;go_wp2;rw[HE.out];exact⟨rfl,HTR.out.below HH.out,.inr ⟨rfl,rfl,HTR.out.cell HH.out HT.out.1 n2,HTR.out.cell HH.out HC.out.1 n3⟩⟩
   |succ fu=>
    have HS:=aA (Ni X wr fu u N hN S HW.out hrk ho HOK.out (by omega) hl h0 (by omega));go_wp2_with fail;refine HDN.out.mono ?_;rintro r w' ⟨rfl,hw'⟩;obtain rfl:=hw'.symm;clear hw' HDN;go_wp2_with fail;refine HS.out.mono ?_;rintro r w1 ⟨ht1,hh⟩;rcases hh with⟨S',e1,rfl,hW1⟩|⟨e1,rfl⟩
    ·have HT1:=aA (HTR.out.trans ht1);have HW1:=aA hW1
     have HO1:=aA (oZ hl HOK.out h0 e1);have HE1:=aA ((mZ h0 e1).symm.trans HR.out)
     have HF:Hid (tQ X.Bd w1<tQ X.Bd wr):=by show tQ X.Bd w1<tQ X.Bd wr;rw[hW1.fuel,HW.out.fuel];omega
     clear ht1 hW1 e1 HS;go_wp2;go_roundw;case rel=>exact⟨fu,u+1,N+400,S',by omega,by omega,HO1.out,HW1.out,HT1.out,HE1.out⟩
     case measure=>exact HF.out
    ·have HE:=aA (HR.out.symm.trans (vA h0 e1));have HT1:=aA (HTR.out.trans ht1)
     clear ht1 e1 HS;go_wp2;rw[HE.out];exact⟨rfl,HT1.out.below HH.out,.inr ⟨rfl,rfl,HT1.out.cell HH.out HT.out.1 n2,HT1.out.cell HH.out HC.out.1 n3⟩⟩
theorem TZ {o:Int} {p:List T} {n:Nat} {ln:Nat→Nat} {f:Nat→Nat→T} (h:¬((1≤o∧o≤3)∧cF p=true∧bB n ln f=true)):(o<1∨3<o)∨((1≤o∧o≤3)∧bB n ln f=false)∨((1≤o∧o≤3)∧bB n ln f=true∧cF p=false):=by
 by_cases ho:1≤o∧o≤3
 ·cases hl:bB n ln f
  ·exact .inr (.inl ⟨ho,rfl⟩)
  ·cases hp:cF p
   ·exact .inr (.inr ⟨ho,rfl,rfl⟩)
   ·exact absurd ⟨ho,hp,hl⟩ h
 ·exact .inl (by omega)
theorem PO (w:World) (o:Int) (pa:Option Addr) (pc:Nat) (p:List T) (a:Option Addr) (n cap:Nat) (ad:Nat→Option Addr) (ln cp:Nat→Nat) (f:Nat→Nat→T) (hp:RL w pa pc p) (h:eQ w a n cap ad ln cp f) (hno:¬((1≤o∧o≤3)∧cF p=true∧bB n ln f=true)):Calls Tryz.prog 95 #[.int .i64 o,.slice pa p.length pc,.slice a n cap] w fun r w'=>r= .returned (.tuple #[.pointer none,.bool false])∧Below w.heap.size w w':=by
 have HP:=aA hp;have HH:=aA h
 have q1:(n:Int)≤140737488351232:=by have:=h.2.1;omega
 have q2:(p.length:Int)≤140737488351232:=by have:=hp.2.1;omega
 clear hp h;rcases TZ hno with ho|⟨ho,hl⟩|⟨ho,hl,hk⟩
 ·clear hno;go_enter Tryz.func95,Tryz.ntmps95;go_wp2_with fail;refine(mG _ _ ho).mono ?_;rintro r w1 ⟨rfl,hb1⟩;have HB1:=aA hb1
  clear hb1;go_wp2_with fail;refine(oS _ _ _ _ _ ho).mono ?_;rintro r w2 ⟨rfl,hb2⟩;have HB2:=aA (aB HB1.out hb2)
  clear hb2;go_wp2;refine cD (results_tmp2 rfl _ _ _) rfl ?_;exact⟨rfl,HB2.out⟩
 ·clear hno;go_enter Tryz.func95,Tryz.ntmps95;go_wp2_with fail;refine(gX _ _ ho.1 ho.2).mono ?_;rintro r w1 ⟨fv,rfl,hb1⟩;have HB1:=aA hb1
  clear hb1;go_wp2_with fail;refine(qI _ _ _ _ _ _ _ _ _ (HH.out.below HB1.out) ho.1 ho.2 hl).mono ?_;rintro r w2 ⟨rfl,hb2⟩;have HB2:=aA (aB HB1.out hb2)
  clear hb2;go_wp2;refine cD (results_tmp2 rfl _ _ _) rfl ?_;exact⟨rfl,HB2.out⟩
 ·clear hno;go_enter Tryz.func95,Tryz.ntmps95;go_wp2_with fail;refine(gX _ _ ho.1 ho.2).mono ?_;rintro r w1 ⟨fv,rfl,hb1⟩;have HB1:=aA hb1
  clear hb1;go_wp2_with fail;refine(pN _ _ _ _ _ _ _ _ _ (HH.out.below HB1.out) ho.1 ho.2 hl).mono ?_;rintro r w2 ⟨v,rfl,hb2,ho2⟩;have HB2:=aA (aB HB1.out hb2)
  clear hb2 ho2;go_wp2_with fail;refine(eW _ _ _ _ (lf p) (HP.out.below HB2.out)).mono ?_;rw[show aO p.length (lf p)=false from hk];rintro r w3 ⟨rfl,hb3⟩;have HB3:=aA (aB HB2.out hb3)
  clear hb3;go_wp2;refine cD (results_tmp2 rfl _ _ _) rfl ?_;exact⟨rfl,HB3.out⟩
def FN (w:World) (n:Nat) (R:Option Dv) (r:Ending) (w':World):Prop:=
 Below w.heap.size w w'∧((∃S qa qc ad cp Rb B la lc mid,R=some S∧r= .returned (.tuple #[.slice qa n qc,.slice la S.r.length lc,.bool true])∧jY w.heap.size w' qa n qc ad (fun i=>(S.q i).length) cp (fun i=>lf (S.q i)) Rb B∧jG mid w' la lc S.r∧(n=0∨Rb<mid)∧(∀i,i<n→(S.q i).length≠0→B i<mid)∧w.heap.size≤mid)∨(R=none∧r= .returned (.tuple #[.slice none 0 0,.slice none 0 0,.bool false])))
theorem Gv (w:World) (o:Int) (pa:Option Addr) (pc:Nat) (p:List T) (a:Option Addr) (n cap:Nat) (ad:Nat→Option Addr) (ln cp:Nat→Nat) (f:Nat→Nat→T) (hp:RL w pa pc p) (h:eQ w a n cap ad ln cp f):Calls Tryz.prog 56 #[.int .i64 o,.slice pa p.length pc,.slice a n cap] w fun r w'=>FN w n (aY o p n ln f) r w':=by
 by_cases hok:(1≤o∧o≤3)∧cF p=true∧bB n ln f=true
 ·have HE:Hid (aY o p n ln f=fK o n ln f 300 (lR p)):=if_pos hok;rw[HE.out];have HBG:=aA (WD w o pa pc p a n cap ad ln cp f hp h hok.1.1 hok.1.2 hok.2.1 hok.2.2)
  clear HE hp h;go_enter Tryz.func56,Tryz.ntmps56;go_wp2_with fail;refine HBG.out.mono ?_;rintro r w1 ⟨X,rfl,e1,e2,e3,e4,e5,e6,hD,hb1⟩;subst e1 e2 e3;have hbd:X.Bd<w1.heap.size:=dD w1 _ hD.c0
  have hs1:w.heap.size≤w1.heap.size:=hb1.size;have HB0:=aA (aB hb1 (aX w1 (.cells #[.pointer (some ⟨X.Bd,0,none⟩)] 133) (.cells #[.slice none 0 0] 24) (.cells #[.slice none 0 0] 41)))
  have hsz:(((w1.alloc (.cells #[.pointer (some ⟨X.Bd,0,none⟩)] 133)).alloc (.cells #[.slice none 0 0] 24)).alloc (.cells #[.slice none 0 0] 41)).heap.size=w1.heap.size+3:=by simp
  have HSZ:=aA hsz
  have HA:=aA (Lm X (((w1.alloc (.cells #[.pointer (some ⟨X.Bd,0,none⟩)] 133)).alloc (.cells #[.slice none 0 0] 24)).alloc (.cells #[.slice none 0 0] 41)) p (hD.below (aX _ _ _ _)) hok.2.1 (by rw[e5,e4]) (by rw[e4];exact hok.1) hok.2.2 w1.heap.size (w1.heap.size+1) (w1.heap.size+2)
   (by simp[go_sem]) (by simp[go_sem]) (by simp[go_sem]) (by simp[go_sem]) (by simp[go_sem]) (by omega) (by omega) (by omega) (by omega) (by rw[e6];omega) (by rw[e6];omega))
  rw[e4,e6]at HA;clear hb1 hD hsz;go_wp2_with fail;rw[show w1.heap.size+1+1=w1.heap.size+2 from rfl];cases hR:fK o X.n X.ln X.f 300 (lR p)with
  |some S=>
   have HC:=aA (ME 96 #[.pointer (some ⟨w1.heap.size,0,none⟩),.pointer (some ⟨w1.heap.size+1,0,none⟩),.pointer (some ⟨w1.heap.size+2,0,none⟩)] (((w1.alloc (.cells #[.pointer (some ⟨X.Bd,0,none⟩)] 133)).alloc (.cells #[.slice none 0 0] 24)).alloc (.cells #[.slice none 0 0] 41)) (fun w'=>Below w.heap.size (((w1.alloc (.cells #[.pointer (some ⟨X.Bd,0,none⟩)] 133)).alloc (.cells #[.slice none 0 0] 24)).alloc (.cells #[.slice none 0 0] 41)) w'∧∃qa qc ad cp Rb B la lc mid,w'.cell? ⟨w1.heap.size+1,0,none⟩=some (.slice qa X.n qc)∧w'.cell? ⟨w1.heap.size+2,0,none⟩=some (.slice la S.r.length lc)∧jY (w1.heap.size+3) w' qa X.n qc ad (fun i=>(S.q i).length) cp (fun i=>lf (S.q i)) Rb B∧jG mid w' la lc S.r∧(X.n=0∨Rb<mid)∧(∀i,i<X.n→(S.q i).length≠0→B i<mid)∧w1.heap.size+3≤mid) (enters_of Tryz.func96 (by kernel_rfl) rfl) (HA.out.mono fun r w' h=>by
    rw[hR]at h;rcases h.2 with⟨S',qa,qc,ad,cp,Rb,B,la,lc,mid,hS,hr,r1,r2,r3,r4,r5,r6,r7⟩|⟨hno,_⟩
    ·cases hS;rw[HSZ.out]at r3 r7;exact⟨hr,h.1,qa,qc,ad,cp,Rb,B,la,lc,mid,r1,r2,r3,r4,r5,r6,r7⟩
    ·cases hno))
   have HRR:=aA hR;clear HA hR;refine HC.out.mono ?_;rintro r w3 ⟨rfl,w2,⟨hb2,qa,qc,ad',cp',Rb,B,la,lc,mid,k1,k2,hO,hL,m1,m2,m3⟩,rfl⟩;have g1:(w2.alloc (.cells #[] 114)).cell? ⟨w1.heap.size+1,0,none⟩=some (.slice qa X.n qc):=((aC w2 _).cell (p:=⟨w1.heap.size+1,0,none⟩) (dD w2 _ k1)).trans k1
   have g2:(w2.alloc (.cells #[] 114)).cell? ⟨w1.heap.size+2,0,none⟩=some (.slice la S.r.length lc):=((aC w2 _).cell (p:=⟨w1.heap.size+2,0,none⟩) (dD w2 _ k2)).trans k2;have hbw:Below w.heap.size w w2:=HB0.out.trans hb2
   have HFIN:Hid (FN w X.n (some S) (.returned (.tuple #[.slice qa X.n qc,.slice la S.r.length lc,.bool true])) (w2.alloc (.cells #[] 114)).drew):=
    ⟨(hbw.alloc hbw.size _).drew,.inl ⟨S,qa,qc,ad',cp',Rb,B,la,lc,mid,rfl,rfl,((hO.low (by omega)).below (aC w2 _)).below (bG _ _).drew,(hL.below (aC w2 _)).below (bG _ _).drew,m1,m2,by omega⟩⟩
   clear hb2 k1 k2 hO hL m1 m2 m3 HC hbw;go_wp2_with fail
   go_region_with fail
   all_goals
    go_wp2;refine cD (results_tmp3 rfl _ _ _) rfl ?_;rw[HRR.out];exact HFIN.out
  |none=>
   have HC:=aA (PP 96 #[.pointer (some ⟨w1.heap.size,0,none⟩),.pointer (some ⟨w1.heap.size+1,0,none⟩),.pointer (some ⟨w1.heap.size+2,0,none⟩)] (((w1.alloc (.cells #[.pointer (some ⟨X.Bd,0,none⟩)] 133)).alloc (.cells #[.slice none 0 0] 24)).alloc (.cells #[.slice none 0 0] 41)) (fun w'=>Below w.heap.size (((w1.alloc (.cells #[.pointer (some ⟨X.Bd,0,none⟩)] 133)).alloc (.cells #[.slice none 0 0] 24)).alloc (.cells #[.slice none 0 0] 41)) w'∧w'.cell? ⟨w1.heap.size+1,0,none⟩=some (.slice none 0 0)∧w'.cell? ⟨w1.heap.size+2,0,none⟩=some (.slice none 0 0)) (enters_of Tryz.func96 (by kernel_rfl) rfl) (HA.out.mono fun r w' h=>by
    rw[hR]at h;rcases h.2 with⟨S',qa,qc,ad,cp,Rb,B,la,lc,mid,hS,_⟩|⟨_,hr,r1,r2⟩
    ·cases hS
    ·exact⟨hr,h.1,r1,r2⟩))
   have HRR:=aA hR;clear HA hR;refine HC.out.mono ?_;rintro r w3 ⟨rfl,w2,⟨hb2,k1,k2⟩,rfl⟩;have g1:(w2.alloc (.cells #[] 114)).cell? ⟨w1.heap.size+1,0,none⟩=some (.slice none 0 0):=((aC w2 _).cell (p:=⟨w1.heap.size+1,0,none⟩) (dD w2 _ k1)).trans k1
   have g2:(w2.alloc (.cells #[] 114)).cell? ⟨w1.heap.size+2,0,none⟩=some (.slice none 0 0):=((aC w2 _).cell (p:=⟨w1.heap.size+2,0,none⟩) (dD w2 _ k2)).trans k2;have hbw:Below w.heap.size w w2:=HB0.out.trans hb2
   have HFIN:Hid (FN w X.n none (.returned (.tuple #[.slice none 0 0,.slice none 0 0,.bool false])) (w2.alloc (.cells #[] 114)).drew):=⟨(hbw.alloc hbw.size _).drew,.inr ⟨rfl,rfl⟩⟩
   clear hb2 k1 k2 HC hbw;go_wp2_with fail
   go_region_with fail
   all_goals
    go_wp2;refine cD (results_tmp3 rfl _ _ _) rfl ?_;rw[HRR.out];exact HFIN.out
 ·have HE:Hid (aY o p n ln f=none):=if_neg hok;rw[HE.out];have HBG:=aA (PO w o pa pc p a n cap ad ln cp f hp h hok)
  clear hok HE hp h;go_enter Tryz.func56,Tryz.ntmps56;go_wp2_with fail;refine HBG.out.mono ?_;rintro r w1 ⟨rfl,hb1⟩;have HB1:=aA hb1
  clear hb1 HBG;go_wp2;refine cD (results_tmp3 rfl _ _ _) rfl ?_;exact⟨HB1.out.alloc HB1.out.size _,.inr ⟨rfl,rfl⟩⟩
open Go.RowKit Go.Deep Go.Joins
theorem Fh (w:World) (o:Int) (a:Option Addr) (n cap:Nat) (ad:Nat→Option Addr) (ln cp:Nat→Nat) (f:Nat→Nat→T) (m:M) (h:eQ w a n cap ad ln cp f) (hok:∀i,i<n→ln i≠0∧aO (ln i) (f i)=true):Calls Tryz.prog 117 #[.int .i64 o,.slice a n cap,.agg #[.int .i64 m.x,.int .i64 m.y,.int .i64 m.d,.int .i64 m.e]] w fun r w'=>r= .returned (.int .i64 (AK o n ln f m))∧Below w.heap.size w w':=by
 have hn:(n:Int)≤140737488351232:=by have:=h.2.1;omega
 have HB0:=aA (aC w (.cells #[.int .i64 m.x,.int .i64 m.y,.int .i64 m.d,.int .i64 m.e] 84));have HM0:=aA (M4.box w 84 m.x m.y m.d m.e)
 have HH:=aA h;have HO:=aA hok
 clear h hok;go_enter Tryz.func117,Tryz.ntmps117;go_wp2;go_loopw [7] (fun v wr=>∃i:Nat,i≤n∧v= .int .i64 (i:Int)∧Below w.heap.size w wr∧M4 wr w.heap.size m.x m.y m.d m.e∧∀j,j<i→M.dvd (nT o ln f j).m m=false) (fun v _=>n-(intOf v).toNat);case atStart=>exact⟨0,Nat.zero_le _,rfl,HB0.out,HM0.out,fun j hj=>by omega⟩
 case round=>
  obtain⟨i,hi,rfl,hB,hM,hJ⟩:=hrel;have HJ:=aA hJ
  have HB:=aA hB;have HM:=aA hM
  clear hJ;by_cases hlt:i<n
  ·rcases HH.out.2.2.1 with h0|⟨b,off,rfl,hblt,hcl⟩
   ·omega
   have hil:(i:Int)<(n:Int):=by omega
   have hbr:b<wr.heap.size:=lB hblt hB.size;have g0:wr.cell? ⟨b,off+i,none⟩=some (.slice (ad i) (ln i) (cp i)):=(hB.cell (p:=⟨b,off+i,none⟩) hblt).trans (hcl i hlt)
   have hS:L5 b (off+i) w.heap.size (.slice (ad i) (ln i) (cp i)) m wr.drew:=⟨g0,hM.1,hM.2.1,hM.2.2.1,hM.2.2.2⟩
   have hoi:=HO.out i hlt;have fl:=fW hoi.2
   have HK:=aA ((HH.out.2.2.2 i hlt).below hB);obtain⟨t,ht⟩:∃t,nT o ln f i=t:=⟨_,rfl⟩
   have hlead:Calls Tryz.prog 113 #[.int .i64 o,.slice (ad i) (ln i) (cp i)] wr.drew fun r w'=>r= .returned (.agg #[.int .i64 t.c,.int .i64 t.m.x,.int .i64 t.m.y,.int .i64 t.m.d,.int .i64 t.m.e])∧Below wr.drew.heap.size wr.drew w':=by have:=sE wr.drew o (ad i) (ln i) (cp i) (f i) (HK.out.below (bG _ _).drew) (by omega) (fun j hj=>(fl.2 j hj).1);rw[show f i (bC o (f i) (ln i))=t from ht]at this;exact this
   obtain⟨bv,hbv⟩:∃bv,M.dvd ⟨t.m.x,t.m.y,t.m.d,t.m.e⟩ ⟨m.x,m.y,m.d,m.e⟩=bv:=⟨_,rfl⟩
   have HT:Hid (M.dvd (nT o ln f i).m m=bv):=by show M.dvd (nT o ln f i).m m=bv;rw[ht];exact hbv
   have hfield:∀W:World,(Instr.field 86 (Value.agg #[.int .i64 t.c,.int .i64 t.m.x,.int .i64 t.m.y,.int .i64 t.m.d,.int .i64 t.m.e]) 1).run Tryz.prog W= .ok (Value.agg #[.int .i64 t.m.x,.int .i64 t.m.y,.int .i64 t.m.d,.int .i64 t.m.e]) W:=fun W=>by kernel_rfl
   have HBD:=aA hB.drew;have HMD:=aA hM.drew'
   clear hcl hB hM g0 hoi fl ht hbr;go_wp2_with fail
   go_region_held3 (fun u=>u.cell? ⟨b,off+i,none⟩=some (.slice (ad i) (ln i) (cp i))∧u.cell? ⟨w.heap.size,0,none⟩=some (.int .i64 m.x)∧u.cell? ⟨w.heap.size,1,none⟩=some (.int .i64 m.y)∧u.cell? ⟨w.heap.size,2,none⟩=some (.int .i64 m.d)∧u.cell? ⟨w.heap.size,3,none⟩=some (.int .i64 m.e)) (first|with_reducible exact hS|with_reducible exact L5.below hS b1|with_reducible exact L5.below (L5.below hS b1) b2) (first|(go_at_call 113;refine hlead.mono ?_;rintro e w1 ⟨rfl,b1⟩)|(go_at_call 133;refine(kI hbv _).mono ?_;rintro e w2 ⟨rfl,b2⟩))
   have HBV:=aA (aB (aB HBD.out b1) b2);have HMV:=aA ((HMD.out.below b1).below b2)
   clear hS hlead hbv b1 b2 hfield;cases bv
   ·go_wp2;go_roundw
    case rel=>exact⟨i+1,by omega,by go_num,HBV.out,HMV.out,fun j hj=>by
     by_cases e:j=i
     ·rw[e];exact HT.out
     ·exact HJ.out j (by omega)⟩
    case measure=>simp[intOf];omega
   ·go_wp2;go_ret;have e:AK o n ln f m=(i:Int):=zD (p:=fun t=>M.dvd t.m m) (f:=nT o ln f) HJ.out HT.out n hlt
    rw[e];exact⟨rfl,HBV.out⟩
  ·have hnl:¬(i:Int)<(n:Int):=by omega
   have hie:i=n:=by omega
   subst hie;go_wp2;go_ret;have e:AK o i ln f m= -1:=vN (p:=fun t=>M.dvd t.m m) (f:=nT o ln f) HJ.out
   rw[e];exact⟨rfl,HB.out⟩
structure QW (w:World) (g n:Nat) (q:Nat→List T) (ad:Nat→Option Addr) (cp:Nat→Nat):Prop where
 cell:∀i,i<n→w.cell? ⟨g,i,none⟩=some (.slice (ad i) (q i).length (cp i))
 fz:∀i,i<n→w.frozen? ⟨g,i,none⟩=false
 rd:∀i,i<n→Rd w (ad i) (q i).length (cp i) (lf (q i))
 ap:∀i,i<n→(q i).length=0∨∀b off,ad i=some ⟨b,off,none⟩→b≠g
theorem QW.below {w w':World} {g n:Nat} {q:Nat→List T} {ad:Nat→Option Addr} {cp:Nat→Nat} (h:QW w g n q ad cp) (hb:Below w.heap.size w w'):QW w' g n q ad cp:=
 ⟨fun i hi=>(hb.cell (p:=⟨g,i,none⟩) (dD w _ (h.cell i hi))).trans (h.cell i hi),fun i hi=>(hb.frozen (p:=⟨g,i,none⟩) (dD w _ (h.cell i hi))).trans (h.fz i hi),fun i hi=>(h.rd i hi).below hb,h.ap⟩
theorem Nh (w:World) (b i:Nat) (v:Value):w.grownBy (w.setCell ⟨b,i,none⟩ v) (some b):=
 ⟨(bG 0 w).setCell (p:=⟨b,i,none⟩) (Nat.zero_le _) v |>.os,(bG 0 w).setCell (p:=⟨b,i,none⟩) (Nat.zero_le _) v |>.tape,(bG 0 w).setCell (p:=⟨b,i,none⟩) (Nat.zero_le _) v |>.output,(bG 0 w).setCell (p:=⟨b,i,none⟩) (Nat.zero_le _) v |>.size,fun k _ hk=>Below.heap_setCell _ _ _ k (fun e=>hk (by rw[e]))⟩
def XF (a:Option Addr) (k g:Nat):Prop:=k=0∨∀b off,a=some ⟨b,off,none⟩→b≠g
theorem XF.rd {w w':World} {a:Option Addr} {k cap g:Nat} {f:Nat→T} (h:XF a k g) (hr:Rd w a k cap f) (hg:w.grownBy w' (some g)):Rd w' a k cap f:=hr.grown hg (h.imp id (fun hh b off e e'=>hh b off e (by simpa using e')))
theorem QW.put {w:World} {g n:Nat} {q:Nat→List T} {ad:Nat→Option Addr} {cp:Nat→Nat} (h:QW w g n q ad cp) {k:Nat} (hk:k<n) {a:Option Addr} {c:Nat} {L:List T} (hr:Rd w a L.length c (lf L)) (ho:XF a L.length g):QW (w.setCell ⟨g,k,none⟩ (.slice a L.length c)) g n (nO q k L) (fun i=>if i=k then a else ad i) (fun i=>if i=k then c else cp i):=by
 have hs:=Nh w g k (.slice a L.length c);refine⟨fun i hi=>?_,fun i hi=>?_,fun i hi=>?_,fun i hi=>?_⟩
 ·unfold nO;by_cases e:i=k
  ·subst e;simp only[if_pos];simp[go_sem,h.cell i hi]
  ·simp only[if_neg e];rw[World.cell?_setCell_other _ _ _ _ (by intro e';cases e';exact e rfl)];exact h.cell i hi
 ·simp[go_sem,h.fz i hi]
 ·unfold nO;by_cases e:i=k
  ·subst e;simp only[if_pos];exact ho.rd hr hs
  ·simp only[if_neg e];exact XF.rd (h.ap i hi) (h.rd i hi) hs
 ·unfold nO;by_cases e:i=k
  ·subst e;simp only[if_pos];exact ho
  ·simp only[if_neg e];exact h.ap i hi
theorem QW.rds {w:World} {g n c:Nat} {q:Nat→List T} {ad:Nat→Option Addr} {cp:Nat→Nat} (h:QW w g n q ad cp) (hn:n≤12) (hc:n≤c):eQ w (some ⟨g,0,none⟩) n c ad (fun i=>(q i).length) cp (fun i=>lf (q i)):=by
 refine⟨hc,by omega,?_,h.rd⟩;by_cases h0:n=0
 ·exact .inl h0
 ·exact .inr ⟨g,0,rfl,dD w _ (h.cell 0 (by omega)),fun i hi=>by rw[Nat.zero_add];exact h.cell i hi⟩
theorem oJ.qw {lo:Nat} {w:World} {q:Nat→List T} {n:Nat} {g c:Nat} {ad:Nat→Option Addr} {cp B:Nat→Nat} (h:oJ lo w q n (.slice (some ⟨g,0,none⟩) n c) ad cp B):QW w g n q ad cp:=by
 refine⟨fun i hi=>?_,fun i hi=>?_,fun i hi=>(h.el i hi).1,fun i hi=>?_⟩
 ·rw[h.row.cellAt i (by omega),Co hi]
 ·rcases h.row.2 with⟨e,_⟩|⟨g',cap,cur,e,_,hg,_⟩
  ·cases e
  ·cases e;unfold World.frozen?;simp[hg]
 ·rcases(h.el i hi).2.2 with h0|⟨off,e1,_,_,e4⟩
  ·exact .inl h0
  ·refine .inr fun b off' e e'=>?_;rw[e1]at e;cases e;exact e4 (by rw[e'];rfl)
theorem Gh {t:T} (ht:1≤t.c∧t.c≤100) (L:List T):dG L [(⟨101-t.c,t.m⟩:T)]=dC L [t]:=by
 have:iS 100 [t]=[(⟨101-t.c,t.m⟩:T)]:=by
  rw[qK];show[(⟨100*t.c%101,t.m⟩:T)]=_
  rw[show 100*t.c%101=101-t.c by omega]
 unfold dC;rw[this]
end Go.Proofs.YtelkehjdfcoeiaaGreat
