/-
  The model's least basis (spec.l10Monic, spec.GrbLeast).
-/
import Derived.Test.YtelkehjdfcoeiaaGreatMbf
set_option maxHeartbeats 16000000
set_option maxRecDepth 100000
namespace Go.Proofs.YtelkehjdfcoeiaaGreat
open Go.RowKit Go.Deep Go.Joins
set_option linter.unusedVariables false
set_option linter.unusedSimpArgs false
def zW (w:World) (R:Option (List (List T))) (r:Ending) (w':World):Prop:=Below w.heap.size w w'∧((∃l qa qc ad cp,R=some l∧r= .returned (.tuple #[.slice qa l.length qc,.bool true])∧eQ w' qa l.length qc ad (lN (bY l)) cp (fN (bY l)))∨(R=none∧∃qa qc,r= .returned (.tuple #[.slice qa 0 qc,.bool false])))
theorem UZ (w:World) (o:Int) (a:Option Addr) (c:Nat) (R:List T) (h:RL w a c R) (hR:cF R=true) (h0:R.length≠0):Calls Tryz.prog 91 #[.int .i64 o,.slice a R.length c] w fun r w'=>∃a' c',r= .returned (.slice a' (qU o R).length c')∧Below w.heap.size w w'∧jG w.heap.size w' a' c' (qU o R):=by
 obtain⟨m1,m2,m3⟩:=zJ (o:=o) hR h0;have hg:=dJ (o:=o) (aD hR).2 h0
 have f1:=vG hg.2.1 hg.2.2;have f2:=(nZ (aU o R).c).2
 have hcf:=(aD hR).2.2;obtain⟨t,ht⟩:∃t,aU o R=t:=⟨_,rfl⟩
 rw[ht]at m3 f1 f2 hg;obtain⟨k,hk⟩:∃k,kE t.c=k:=⟨_,rfl⟩
 rw[hk]at m3 f1 f2;obtain⟨n,hn⟩:∃n,R.length=n:=⟨_,rfl⟩
 obtain⟨Y,hY⟩:∃Y,qU o R=Y:=⟨_,rfl⟩
 rw[hY]at m1 m2 m3⊢;rw[hn]at m2;have n400:n≤400:=by rw[←hn];exact(aD hR).1
 have hnI:(n:Int)≤400:=by omega
 have HLE:=aA (GI (o:=o) h hR h0 (congrArg T.c ht) (congrArg T.m ht));have hinv:=Jk t.c
 rw[hk]at hinv;have HIV:=aA hinv
 have HSC:Hid (∀W,Below w.heap.size w W→Calls Tryz.prog 59 #[.int .i64 k,.slice a n c] W fun r w'=>∃a' c',r= .returned (.slice a' Y.length c')∧Below W.heap.size W w'∧jG W.heap.size w' a' c' Y):=fun W hW=>by
  rw[←hn];refine(BI W k a R.length c (lf R) (Rd.below h hW) (by omega) f2 (by omega) (fun i hi=>by have:=(hcf _ (kU hi));omega)).mono ?_;rintro r w' ⟨v,rfl,hb,hown⟩;rw[if_neg (show ¬k=0 by omega)]at hown;have e:IH k (lf R) R.length=Y:=m3.symm
  rw[e,show R.length=Y.length by omega]at hown;obtain⟨a',c',rfl,hO⟩:=aI hown (by omega);exact⟨a',c',rfl,hb,hO⟩
 rw[hn]at HLE⊢;clear h hR h0 m1 m2 m3 f1 f2 hg ht hk hn hY hinv hcf;have hfield:∀W:World,(Instr.field 86 (Value.agg #[.int .i64 t.c,.int .i64 t.m.x,.int .i64 t.m.y,.int .i64 t.m.d,.int .i64 t.m.e]) 0).run Tryz.prog W= .ok (.int .i64 t.c) W:=fun W=>by kernel_rfl
 go_enter Tryz.func91,Tryz.ntmps91;go_wp2_with fail;refine HLE.out.mono ?_;rintro r w1 ⟨rfl,hb1⟩;have HB1:=aA hb1
 clear hb1;go_wp2_with fail;refine(HIV.out _).mono ?_;rintro r w2 ⟨rfl,hw2⟩;obtain rfl:=hw2.symm;clear hw2;go_wp2_with fail;refine(HSC.out _ HB1.out).mono ?_;rintro r w3 ⟨a',c',rfl,hb3,hO⟩;have HB3:=aA (aB HB1.out hb3)
 have HO:Hid (jG w.heap.size w3 a' c' Y):=⟨hO.1,hO.2.1,hO.2.2.imp id (fun⟨g,off,e,hg⟩=>⟨g,off,e,by have:=HB1.out.size;omega⟩)⟩
 clear hb3 hO;go_wp2;go_ret;exact⟨a',c',rfl,HB3.out,HO.out⟩
theorem UL (w:World) (o:Int) (a:Option Addr) (n cap:Nat) (ad:Nat→Option Addr) (cp:Nat→Nat) (L:Nat→List T) (h:eQ w a n cap ad (lN L) cp (fN L)):Calls Tryz.prog 50 #[.int .i64 o,.slice a n cap] w (zW w (aT o n L)):=by
 have HH:=aA h;have q1:(n:Int)≤140737488351232:=by have:=h.2.1;omega
 clear h;by_cases ho:1≤o∧o≤3;rotate_left
 ·have e:aT o n L=none:=if_neg (fun q=>ho q.1);rw[e];go_enter Tryz.func50,Tryz.ntmps50;go_wp2_with (go_at_call 30;refine(eC _ _ _ _ (by omega)).mono ?_;rintro r w' ⟨rfl,hw'⟩;obtain rfl:=hw'.symm;clear hw');refine cD (results_tmp2 rfl _ _ _) rfl ?_;exact⟨by first|exact aC _ _|exact bG _ _,.inr ⟨rfl,_,_,rfl⟩⟩
 obtain⟨o1,o2⟩:=ho;cases hl:bB n (lN L) (fN L)
 ·have e:aT o n L=none:=if_neg (fun q=>by rw[hl]at q;exact absurd q.2 (by simp));rw[e];go_enter Tryz.func50,Tryz.ntmps50;go_wp2_with (go_at_call 30;refine(cX _ _ _ _ (by omega) (by omega)).mono ?_;rintro r w' ⟨rfl,hw'⟩;obtain rfl:=hw'.symm;clear hw');refine(uB _ _ _ _ _ _ _ _ HH.out).mono ?_;rw[hl];rintro r w1 ⟨rfl,hb1⟩;have HB1:=aA (aB hb1 (aC w1 (.cells #[] 41)))
  clear hb1;go_wp2;refine cD (results_tmp2 rfl _ _ _) rfl ?_;exact⟨HB1.out,.inr ⟨rfl,_,_,rfl⟩⟩
 have n12:=(aQ hl).1;have hnl:(n:Int)≤12:=by omega
 have hR0:aT o n L=iF o (cH o n L).length 0 (cH o n L):=if_pos ⟨⟨o1,o2⟩,hl⟩;obtain⟨R0,hR0e⟩:∃R0,aT o n L=R0:=⟨_,rfl⟩
 rw[hR0e]at hR0⊢;obtain⟨hlk,hl12⟩:=sH (o:=o) hl;have HLK:=aA hlk
 have hsrc:XH w o a n cap ad cp L:=⟨HH.out,⟨o1,o2⟩,fun i hi=>⟨((aQ hl).2 i hi).2,((aQ hl).2 i hi).1⟩⟩
 have HSRC:=aA hsrc;obtain⟨es0,hes0⟩:∃es0,gS (jR (fun i=>(aU o (L i)).m) n) (gK ad cp L) n=es0:=⟨_,rfl⟩
 have h0p:es0.map E.p=gS (jR (fun i=>(aU o (L i)).m) n) L n:=by rw[←hes0,wF];rfl
 obtain⟨es1,hes1⟩:∃es1,jA (jC o) [] es0=es1:=⟨_,rfl⟩
 have h1p:es1.map E.p=cH o n L:=by
  rw[←hes1];show(jA (fun a b=>RE o a.p b.p) [] es0).map E.p=_
  rw[CL E.p (RE o),h0p];rfl
 have h0l:es0.length≤12:=by rw[←hes0];have:=pP (jR (fun i=>(aU o (L i)).m) n) (gK ad cp L) n;omega
 have h1l:es1.length≤12:=by rw[←hes1,rU];simp;omega
 have h0ok:∀e∈es0,cF e.p=true∧e.p.length≠0:=fun e he=>by
  have:e.p∈gS (jR (fun i=>(aU o (L i)).m) n) L n:=by rw[←h0p];exact List.mem_map_of_mem he
  exact GP hl e.p this
 have hN1:(cH o n L).length=es1.length:=by rw[←h1p,List.length_map]
 rw[hN1]at hR0;obtain⟨N,hN⟩:∃N,es1.length=N:=⟨_,rfl⟩
 rw[hN]at hR0 h1l;have HR0:Hid (iF o (N-0) 0 (cH o n L)=R0):=hR0.symm
 have HES0:=aA hes0;have HES1:=aA hes1
 have H1P:=aA h1p;have HOK0:=aA h0ok
 have HN:=aA hN;have hNI:(N:Int)≤12:=by omega
 clear hR0 hR0e hlk hl12 hsrc hes0 hes1 h0p h1p h0ok hN1 hN;go_enter Tryz.func50,Tryz.ntmps50;go_wp2_with (go_at_call 30;refine(cX _ _ _ _ (by omega) (by omega)).mono ?_;rintro r w' ⟨rfl,hw'⟩;obtain rfl:=hw'.symm;clear hw');refine(uB _ _ _ _ _ _ _ _ HH.out).mono ?_;rw[hl];rintro r w1 ⟨rfl,hb1⟩;have HB1:=aA hb1
 clear hb1;go_wp2_with fail;refine(UY w1 o a n cap ad cp L (HSRC.out.below HB1.out) n12).mono ?_;rintro r w2 ⟨tv2,rfl,hb2,hR2⟩;rw[HES0.out]at hR2;obtain⟨a2,c2,rfl,hrd2⟩:=hR2.rd (by omega);have HB2:=aA (aB HB1.out hb2)
 have HRD2:=aA hrd2;clear hb2 hR2 hrd2;go_wp2_with fail;refine(OS w2 o a2 c2 es0 HRD2.out ⟨o1,o2⟩ h0l HOK0.out).mono ?_;rintro r w3 ⟨tv3,rfl,hb3,hR3⟩;rw[HES1.out]at hR3;have HB3:=aA (aB HB2.out hb3)
 have HR3:=aA (hR3.weak (lo':=w.heap.size) HB2.out.size);clear hb3 hR3;go_wp2;go_loopw [1,6] (fun tv ii wr=>∃(i:Nat) (es:List E) (l:List (List T)),i≤N∧ii= .int .i64 (i:Int)∧Below w.heap.size w wr∧cT w.heap.size wr tv es∧Hid (es.map E.p=l)∧Hid (RU l)∧Hid (es.length=N)∧Hid (iF o (N-i) i l=R0)) (fun _ ii _=>N-(intOf ii).toNat);case atStart=>exact⟨0,es1,cH o n L,Nat.zero_le _,rfl,HB3.out,HR3.out,H1P,HLK,HN,HR0⟩
 case round=>
  obtain⟨i,es,l,hi,rfl,hB,hA,HP,HO,HLN,HR⟩:=hrel;have HB:=aA hB
  have HA:=aA hA;obtain⟨ga,gc,htv,hrd⟩:=hA.rd (by rw[HLN.out];omega);rw[HLN.out]at htv;subst htv;have HRD:=aA hrd
  clear hB hA;by_cases hit:i<N
  ·have hiI:(i:Int)<(N:Int):=by omega
   obtain⟨b,off,rfl,hb,hc⟩:=hrd.2.2.1.resolve_left (by rw[HLN.out];omega);have hNc:N≤gc:=by have:=hrd.1;rw[HLN.out]at this;exact this
   have hNcI:(N:Int)≤(gc:Int):=by omega
   obtain⟨x,hx⟩:∃x,es.getD i E0=x:=⟨_,rfl⟩
   obtain⟨xl,hxl⟩:∃xl,x.p.length=xl:=⟨_,rfl⟩
   have hxm:x∈es:=by rw[←hx];exact(yV (by rw[HLN.out];exact hit)).2
   have HXC:Hid (∀W,Below wr.heap.size wr W→W.cell? ⟨b,off+i,none⟩=some (.slice x.a xl x.c)):=fun W hW=>by rw[hW.cell (p:=⟨b,off+i,none⟩) hb,hc i _ (yV (by rw[HLN.out];exact hit)).1,hx,←hxl];rfl
   have hi1:(i:Int)+1≤(N:Int):=by omega
   have hic:(i:Int)≤(gc:Int):=by omega
   have hwi:IntKind.i64.wrap ((i:Int)+1)=(i:Int)+1:=by rw[IntKind.wrap_i64];omega
   have ei:((i:Int)+1).toNat=i+1:=by omega
   have hi0':¬((i:Int)+1<0):=by omega
   have hi2:i+1≤N:=by omega
   have ht1:(es.take i).length=i:=by rw[List.length_take,HLN.out];omega
   have ht2:(es.drop (i+1)).length=N-(i+1):=by rw[List.length_drop,HLN.out]
   have HT1:=aA ht1;have HT2:=aA ht2
   have hlx:bY l i=x.p:=by rw[←HP.out,oE,hx]
   have hot:(gD es i).map E.p=gD l i:=by rw[LH,HP.out]
   have hol:(gD es i).length=N-1:=by rw[nJ (by rw[HLN.out];exact hit),HLN.out]
   have hln:l.length=N:=by rw[←HP.out,List.length_map,HLN.out]
   have hoo:RU (gD l i):=Gk HO.out;have hox:=HO.out _ (eE (l:=l) (i:=i) (by omega))
   obtain⟨S,hS⟩:∃S,aY o x.p (N-1) (lN (bY (gD l i))) (fN (bY (gD l i)))=S:=⟨_,rfl⟩
   have hLS:pI o (bY l i) (gD l i)=GJ o S:=by rw[ZA,hlx,←hS,←hot,List.length_map,hol]
   have hlst:bB (N-1) (lN (bY (gD l i))) (fN (bY (gD l i)))=true:=by
    have:=RV hoo (by rw[nJ (by omega)];omega)
    rwa[show(gD l i).length=N-1 by rw[nJ (by omega),hln]]at this
   have hdv:fK o (N-1) (lN (bY (gD l i))) (fN (bY (gD l i))) 300 (lR x.p)=S:=by rw[←hS];rw[hlx]at hox;exact(if_pos ⟨⟨o1,o2⟩,hox.1,hlst⟩).symm
   have hSr:∀D,S=some D→cF D.r=true:=fun D e=>(jX (hS.trans e)).1;have HSR:=aA hSr
   have HLS:=aA hLS;have HAL:Hid (∀(W:World) (oa:Option Addr) (oc:Nat),Below wr.heap.size wr W→mA W oa oc (gD es i)→Calls Tryz.prog 70 #[.int .i64 o,.slice x.a xl x.c,.slice oa (N-1) oc] W fun r w'=>WX W (N-1) S r w'):=fun W oa oc hW hR=>by
    have h3:=hR.rds;rw[hot,hol]at h3;rw[hlx]at hox;have:=QV W o x.a x.c x.p oa (N-1) oc _ _ _ _ (Rd.below (HRD.out.2.2.2 x hxm) hW) h3 o1 o2 hox.1 hlst
    rw[hdv,hxl]at this;exact this
   have HEL:Hid (∀(W:World) (tv:Value),Below wr.heap.size wr W→(∀k,tv.ownBlock=some k→wr.heap.size≤k)→∀e∈es,lW W tv.ownBlock e):=fun W tv hW hk e he=>lW.far (w:=wr) (HRD.out.2.2.2 e he) hW hk;have HEL1:Hid (∀(W:World) (tv:Value),Below wr.heap.size wr W→(∀k,tv.ownBlock=some k→wr.heap.size≤k)→∀e∈es.take i,lW W tv.ownBlock e):=fun W tv hW hk e he=>HEL.out W tv hW hk e (List.mem_of_mem_take he)
   have HEL2:Hid (∀(W:World) (tv:Value),Below wr.heap.size wr W→(∀k,tv.ownBlock=some k→wr.heap.size≤k)→∀e∈es.drop (i+1),lW W tv.ownBlock e):=fun W tv hW hk e he=>HEL.out W tv hW hk e (List.mem_of_mem_drop he);have HTK:Hid (∀W,Below wr.heap.size wr W→mA W (some ⟨b,off,none⟩) gc (es.take i)):=fun W hW=>(HRD.out.below hW).takeE (by rw[HLN.out];omega)
   have HPUTL:Hid (∀(a':Option Addr) (c':Nat) (Y:List T),(es.take i++[(⟨a',c',Y⟩:E)]++es.drop (i+1)).map E.p=jD l i Y∧(es.take i++[(⟨a',c',Y⟩:E)]++es.drop (i+1)).length=N):=fun a' c' Y=>by
    have e:es.take i++[(⟨a',c',Y⟩:E)]++es.drop (i+1)=jD es i ⟨a',c',Y⟩:=by unfold jD;rw[List.append_assoc];rfl
    rw[e];exact⟨by rw[CC,HP.out],by rw[CB (by rw[HLN.out];exact hit),HLN.out]⟩
   clear hrd hc ht1 ht2 hlx hot hol hln hoo hox hS hLS hlst hdv hSr hx hxl;have HDR:Hid (∃da dc dl,(es.drop (i+1)).length=dl∧(∀W,Below wr.heap.size wr W→mA W da dc (es.drop (i+1)))∧((gc=i+1∧da=some ⟨b,off,none⟩∧dc=0∧dl=0)∨(gc≠i+1∧da=some ⟨b,off+(i+1),none⟩∧dc=gc-(i+1)∧dl=N-(i+1)))):=by
    by_cases hce:gc=i+1
    ·refine⟨some ⟨b,off,none⟩,0,0,by rw[HT2.out];omega,fun W hW=>?_,.inl ⟨hce,rfl,rfl,rfl⟩⟩;have:es.drop (i+1)=[]:=List.drop_eq_nil_of_le (by rw[HLN.out];omega)
     rw[this];exact⟨Nat.le_refl _,Nat.zero_le _,.inl rfl,fun e he=>by cases he⟩
    ·exact⟨_,_,_,HT2.out,fun W hW=>(HRD.out.below hW).dropE (k:=i+1) (by rw[HLN.out];omega),.inr ⟨hce,rfl,rfl,rfl⟩⟩
   obtain⟨da,dc,dl,hdl,hdr,hcase⟩:=HDR.out;have HDL:=aA hdl
   have HLEN:Hid (([]++es.take i).length+dl≤100):=by show([]++es.take i).length+dl≤100;rw[List.nil_append,HT1.out,←hdl,HT2.out];omega
   have HLEN9:Hid (∀y:E,([]++es.take i++[y]).length+dl≤100):=fun y=>by rw[List.length_append,List.nil_append,HT1.out,←hdl,HT2.out];simp;omega
   clear hdl;have HDD:=aA hdr
   have HBX:=aA (aC wr (.cells #[] 41)).drew;have HRX:Hid (cT wr.heap.size (wr.alloc (.cells #[] 41)).drew (.slice (some ⟨wr.heap.size,0,none⟩) 0 0) []):=(cT.start (Nat.le_refl _)).below (bG _ _).drew
   have hlx0:wr.heap.size≤(wr.alloc (.cells #[] 41)).drew.heap.size:=HBX.out.size;have HOWN:Hid (∀(lo:Nat) (W:World) (tv:Value) (es':List E),cT lo W tv es'→∀k,tv.ownBlock=some k→lo≤k):=fun lo W tv es' h k hk=>(h.row.lt k hk).1
   clear hdr HDR;rcases hcase with⟨hce,rfl,rfl,rfl⟩|⟨hce,rfl,rfl,rfl⟩
   all_goals
    (try(have hceI:(gc:Int)=(i:Int)+1:=by omega))
    (try subst hce)
    have hic2:(i:Int)≤(i:Int)+1:=by omega
    go_wp2_with fail
    go_region_law (first|(refine uJ (by rfl) (.tmp 32) (.tmp 35) (by rfl) HRX.out (by rfl) HT1.out (by rfl) (HTK.out _ HBX.out) (HEL1.out _ _ HBX.out (HOWN.out _ _ _ _ HRX.out)) hlx0 (by simp;omega) ?_;intro tv1 w4 r1 r2 r3;have RR1:=aA r1;have BB1:=aA (r2 _ _ HBX.out (Nat.le_refl _));have hx4:=BB1.out.size;have rn1:=HLEN.out;clear r1 r2 r3)|(refine uJ (by rfl) (.tmp 36) (.tmp 40) (by rfl) RR1.out (by rfl) HDL.out (by rfl) (HDD.out _ BB1.out) (HEL2.out _ _ BB1.out (HOWN.out _ _ _ _ RR1.out)) hx4 rn1 ?_;intro tv2 w5 r1 r2 r3;have RR2:=aA r1;have BB2:=aA (r2 _ _ BB1.out (Nat.le_refl _));clear r1 r2 r3))
    have hoth:[]++es.take i++es.drop (i+1)=gD es i:=rfl;have RR3:Hid (cT wr.heap.size w5 tv2 (gD es i)):=RR2.out
    obtain⟨oa,oc,hov,hrdo⟩:=RR3.out.rd (by rw[nJ (by rw[HLN.out];exact hit),HLN.out];omega);rw[nJ (by rw[HLN.out];exact hit),HLN.out]at hov;subst hov;have kx:=HXC.out w5 BB2.out
    have HC6:=aA (HAL.out w5 oa oc BB2.out hrdo);clear hrdo hoth hlx0 hx4 rn1;go_wp2_with fail;refine HC6.out.mono ?_;rintro r w6 ⟨hb6,hh⟩;have BB6:=aA (aB BB2.out hb6)
    rcases hh with⟨D,qa,qc,ad6,cp6,ra,rc,hD,rfl,_,hr6,_⟩|⟨hD,qa,qc,ra,rc,rfl⟩
    ·have hok6:=HSR.out D hD;have HOK6:=aA hok6
     have HR6:=aA hr6;obtain⟨rl,hrl⟩:∃rl,D.r.length=rl:=⟨_,rfl⟩
     have hrl4:(rl:Int)≤400:=by have:=(aD hok6).1;omega
     rw[hrl];by_cases hz:rl=0
     ·subst hz;have hR7:R0=none:=by rw[←HR.out,show N-i=(N-(i+1))+1 by omega,mO];rw[HLS.out,hD];exact if_pos hrl
      subst hR7;have BB7:=aA (aB (aB HB.out BB6.out) (aC w6 (.cells #[] 41)))
      clear hb6 hr6 hok6 hD hrl;go_wp2;refine cD (results_tmp2 rfl _ _ _) rfl ?_;exact⟨BB7.out,.inr ⟨rfl,_,_,rfl⟩⟩
     ·have hzI:¬(rl:Int)=0:=by omega
      have hY:pI o (bY l i) (gD l i)=some (qU o D.r):=by rw[HLS.out,hD];exact if_neg (by rw[hrl];exact hz)
      have hRn:iF o (N-(i+1)) (i+1) (jD l i (qU o D.r))=R0:=by rw[←HR.out,show N-i=(N-(i+1))+1 by omega,nG hY]
      have hOn:=zN (i:=i) HO.out (vV hY);have HMO:Hid (∀W,Below w6.heap.size w6 W→Calls Tryz.prog 91 #[.int .i64 o,.slice ra rl rc] W fun r w'=>∃a' c',r= .returned (.slice a' (qU o D.r).length c')∧Below W.heap.size W w'∧jG W.heap.size w' a' c' (qU o D.r)):=fun W hW=>by have:=UZ W o ra rc D.r (Rd.below HR6.out hW) HOK6.out (by rw[hrl];exact hz);rw[hrl]at this;exact this
      have hYl:(qU o D.r).length≤400:=(aD (vV hY).1).1;obtain⟨Y,hYe⟩:∃Y,qU o D.r=Y:=⟨_,rfl⟩
      rw[hYe]at hRn hOn hYl HMO;have HRN:=aA hRn
      have HON:=aA hOn;obtain⟨yl,hyl⟩:∃yl,Y.length=yl:=⟨_,rfl⟩
      rw[hyl]at HMO;have HYL:=aA hyl
      have B6:=aA (aC w6 (.cells #[] 41));have BX6:=aA (aB BB6.out B6.out)
      have RX6:Hid (cT w6.heap.size (w6.alloc (.cells #[] 41)) (.slice (some ⟨w6.heap.size,0,none⟩) 0 0) []):=cT.start (Nat.le_refl _);have hlx6:w6.heap.size≤(w6.alloc (.cells #[] 41)).heap.size:=B6.out.size
      have HOW:Hid (∀(W:World) (tv:Value) (es':List E),cT w6.heap.size W tv es'→∀k,tv.ownBlock=some k→wr.heap.size≤k):=fun W tv es' h k hk=>jQ BB6.out.size (h.row.lt k hk).1;clear hb6 hr6 hok6 hD hrl hY hRn hOn hYe hyl hYl kx;go_wp2_with (at_builtin;refine dR (by rfl) (.tmp 61) (.tmp 64) (by rfl) RX6.out (by rfl) HT1.out (by rfl) (HTK.out _ BX6.out) (HEL1.out _ _ BX6.out (HOW.out _ _ _ RX6.out)) hlx6 (by simp;omega) ?_;intro tv7 w7 r1 r2 r3;have R7:=aA r1;have B7:=aA (r2 _ _ B6.out (Nat.le_refl _));clear r1 r2 r3);refine(HMO.out w7 B7.out).mono ?_;rintro r w8 ⟨ya,yc,rfl,hb8,hY8⟩;have hbx8:=aC w8 (.cells #[.slice ya yl yc] 41)
      have B8:=aA (aB (aB B7.out hb8) hbx8);have R8:=aA ((R7.out.below hb8).below hbx8)
      have hlx8:w6.heap.size≤(w8.alloc (.cells #[.slice ya yl yc] 41)).heap.size:=B8.out.size;have RD8:Hid (mA (w8.alloc (.cells #[.slice ya yl yc] 41)) (some ⟨w8.heap.size,0,none⟩) 1 [(⟨ya,yc,Y⟩:E)]):=by have:=mA.box (W:=w8) (e:=(⟨ya,yc,Y⟩:E)) hY8.1;rw[show(⟨ya,yc,Y⟩:E).v= .slice ya yl yc by show Value.slice ya Y.length yc=_;rw[HYL.out]]at this;exact this
      have EL8:Hid (∀e∈[(⟨ya,yc,Y⟩:E)],lW (w8.alloc (.cells #[.slice ya yl yc] 41)) tv7.ownBlock e):=fun e he=>by
       rw[List.mem_singleton.1 he];refine⟨Rd.below hY8.1 hbx8,hY8.2.2.imp id (fun⟨g,off,e,hg⟩ b' off' e' hk=>?_)⟩;have e2:ya=some ⟨b',off',none⟩:=e'
       rw[e]at e2;cases e2;have:=(R7.out.row.lt _ hk).2
       omega
      have hn8:([]++es.take i).length+1≤100:=by rw[List.nil_append,HT1.out];omega
      clear hb8 hY8 hbx8;go_wp2_with (first|(at_builtin;refine dR (by rfl) (.tmp 65) (.tmp 69) (by rfl) R8.out (by rfl) rfl (by rfl) RD8.out EL8.out hlx8 hn8 ?_;intro tv9 w9 r1 r2 r3;have R9:=aA r1;have B9:=aA (r2 _ _ B8.out (Nat.le_refl _));have BX9:=aA (aB BB6.out B9.out);have hlx9:=B9.out.size;have hn9:=HLEN9.out (⟨ya,yc,Y⟩:E);clear r1 r2 r3)|(at_builtin;refine dR (by rfl) (.tmp 71) (.tmp 75) (by rfl) R9.out (by rfl) HDL.out (by rfl) (HDD.out _ BX9.out) (HEL2.out _ _ BX9.out (HOW.out _ _ _ R9.out)) hlx9 hn9 ?_;intro tv10 w10 r1 r2 r3;have R10:=aA r1;have B10:=aA (r2 _ _ B9.out (Nat.le_refl _));clear r1 r2 r3));have BF:=aA (aB (aB HB.out BB6.out) B10.out)
      have RF:Hid (cT w.heap.size w10 tv10 (es.take i++[(⟨ya,yc,Y⟩:E)]++es.drop (i+1))):=R10.out.weak (jQ HB.out.size BB6.out.size);have HPF:=aA (HPUTL.out ya yc Y)
      go_roundw;case rel=>exact⟨i+1,es.take i++[(⟨ya,yc,Y⟩:E)]++es.drop (i+1),jD l i Y,by omega,by go_num,BF.out,RF.out,HPF.out.1,HON.out,HPF.out.2,HRN.out⟩
      case measure=>simp[intOf];omega
    ·have hR7:R0=none:=by rw[←HR.out,show N-i=(N-(i+1))+1 by omega,mO];rw[HLS.out,hD];rfl
     subst hR7;have BB7:=aA (aB (aB HB.out BB6.out) (aC w6 (.cells #[] 41)))
     clear hb6 hD;go_wp2;refine cD (results_tmp2 rfl _ _ _) rfl ?_;exact⟨BB7.out,.inr ⟨rfl,_,_,rfl⟩⟩
  ·have hiI:¬(i:Int)<(N:Int):=by omega
   have hie:i=N:=by omega
   have hRl:R0=some l:=by rw[←HR.out,hie,Nat.sub_self];rfl
   have hln:l.length=N:=by rw[←HP.out,List.length_map,HLN.out]
   have hF:=HRD.out.rds;rw[HP.out,HLN.out]at hF;subst hie;subst hRl;have HF:Hid (∃l' qa qc ad cp,some l=some l'∧Ending.returned (.tuple #[.slice ga i gc,.bool true])= .returned (.tuple #[.slice qa l'.length qc,.bool true])∧eQ wr qa l'.length qc ad (lN (bY l')) cp (fN (bY l'))):=⟨l,ga,gc,_,_,rfl,by rw[hln],by rw[hln];exact hF⟩
   clear hrd hln hF;go_wp2;refine cD (results_tmp2 rfl _ _ _) rfl ?_;exact⟨HB.out,.inl HF.out⟩
open Go.RowKit
def gZ:Nat→Nat→Nat
 |0,c=>2*c
 |a+1,c=>2*gZ a c+1
def WW (n:Nat):Nat×Nat:=if h:n%2=0 then(0,n / 2)else((WW (n / 2)).1+1,(WW (n / 2)).2)
termination_by n
decreasing_by all_goals omega
theorem DB:∀a c,WW (gZ a c)=(a,c)
 |0,c=>by unfold WW gZ;rw[dif_pos (by omega),show 2*c / 2=c by omega]
 |a+1,c=>by have ih:=DB a c;unfold WW gZ;rw[dif_neg (by omega),show(2*gZ a c+1) / 2=gZ a c by omega,ih]
theorem Na (n:Nat):gZ (WW n).1 (WW n).2=n:=by
 induction n using Nat.strongRecOn with
 |ind n ih=>
  unfold WW;by_cases h:n%2=0
  ·rw[dif_pos h];show 2*(n / 2)=n;omega
  ·rw[dif_neg h];have:=ih (n / 2) (by omega)
   show 2*gZ (WW (n / 2)).1 (WW (n / 2)).2+1=n;rw[this];omega
def kT (n:Nat):Nat:=(WW n).1
def qJ (n:Nat):Nat:=(WW n).2
theorem EQ (a c:Nat):kT (gZ a c)=a:=by unfold kT;rw[DB]
theorem FC (a c:Nat):qJ (gZ a c)=c:=by unfold qJ;rw[DB]
theorem SL (n:Nat):gZ (kT n) (qJ n)=n:=Na n
def rX:Lq:=⟨fun u n k=>u (gZ (kT n+1) (qJ n)) k,fun _ _=>rfl,fun _ _=>rfl⟩
def rY:Lq:=⟨fun u n k=>u n (gZ (kT k+1) (qJ k)),fun _ _=>rfl,fun _ _=>rfl⟩
def rD:Lq:=⟨fun u n k=>u (gZ (kT n) (qJ n+1)) k+nf (kT n)*u (gZ (kT n-1) (qJ n)) k,fun u v=>by funext n k;simp only[va];grind,fun c u=>by funext n k;simp only[vs];grind⟩
def rE:Lq:=⟨fun u n k=>u n (gZ (kT k) (qJ k+1))+nf (kT k)*u n (gZ (kT k-1) (qJ k)),fun u v=>by funext n k;simp only[va];grind,fun c u=>by funext n k;simp only[vs];grind⟩
def aK:wS where
 x:=rX
 y:=rY
 d:=rD
 e:=rE
 wx:=Lq.ext fun u n k=>by
  show u (gZ (kT (gZ (kT n+1) (qJ n))) (qJ (gZ (kT n+1) (qJ n))+1)) k+nf (kT (gZ (kT n+1) (qJ n)))*u (gZ (kT (gZ (kT n+1) (qJ n))-1) (qJ (gZ (kT n+1) (qJ n)))) k=u (gZ (kT (gZ (kT n) (qJ n+1))+1) (qJ (gZ (kT n) (qJ n+1)))) k+nf (kT n)*u (gZ (kT (gZ (kT n-1) (qJ n))+1) (qJ (gZ (kT n-1) (qJ n)))) k+u n k;simp only[EQ,FC];rw[show kT n+1-1=kT n by omega,SL,xN,qD];cases h:kT n with
  |zero=>rw[jP];grind
  |succ m=>rw[show m+1-1+1=m+1 by omega,←h,SL];grind
 wy:=Lq.ext fun u n k=>by
  show u n (gZ (kT (gZ (kT k+1) (qJ k))) (qJ (gZ (kT k+1) (qJ k))+1))+nf (kT (gZ (kT k+1) (qJ k)))*u n (gZ (kT (gZ (kT k+1) (qJ k))-1) (qJ (gZ (kT k+1) (qJ k))))=u n (gZ (kT (gZ (kT k) (qJ k+1))+1) (qJ (gZ (kT k) (qJ k+1))))+nf (kT k)*u n (gZ (kT (gZ (kT k-1) (qJ k))+1) (qJ (gZ (kT k-1) (qJ k))))+u n k;simp only[EQ,FC];rw[show kT k+1-1=kT k by omega,SL,xN,qD];cases h:kT k with
  |zero=>rw[jP];grind
  |succ m=>rw[show m+1-1+1=m+1 by omega,←h,SL];grind
 xy:=rfl
 xe:=rfl
 dy:=rfl
 de:=Lq.ext fun u n k=>by
  show(_+nf _*_)+nf (kT k)*(_+nf _*_)=(_+nf _*_)+nf (kT n)*(_+nf _*_)
  grind
theorem Au (u:Vq) (c k:Nat):∀j i,(Lq.pow rX j).f u (gZ i c) k=u (gZ (i+j) c) k
 |0,i=>rfl
 |j+1,i=>by
  rw[Lq.pow_succ'];show(Lq.pow rX j).f (rX.f u) (gZ i c) k=_
  rw[Au (rX.f u) c k j i];show u (gZ (kT (gZ (i+j) c)+1) (qJ (gZ (i+j) c))) k=_
  rw[EQ,FC];rfl
theorem Av (u:Vq) (n c:Nat):∀j i,(Lq.pow rY j).f u n (gZ i c)=u n (gZ (i+j) c)
 |0,i=>rfl
 |j+1,i=>by
  rw[Lq.pow_succ'];show(Lq.pow rY j).f (rY.f u) n (gZ i c)=_
  rw[Av (rY.f u) n c j i];show u n (gZ (kT (gZ (i+j) c)+1) (qJ (gZ (i+j) c)))=_
  rw[EQ,FC];rfl
theorem As (u:Vq) (k:Nat):∀j i,(Lq.pow rD j).f u (gZ 0 i) k=u (gZ 0 (i+j)) k
 |0,i=>rfl
 |j+1,i=>by
  rw[Lq.pow_succ'];show(Lq.pow rD j).f (rD.f u) (gZ 0 i) k=_
  rw[As (rD.f u) k j i];show u (gZ (kT (gZ 0 (i+j))) (qJ (gZ 0 (i+j))+1)) k+nf (kT (gZ 0 (i+j)))*_=_
  rw[EQ,FC,jP];show u (gZ 0 (i+(j+1))) k+0*_=_
  grind
theorem At (u:Vq) (n:Nat):∀j i,(Lq.pow rE j).f u n (gZ 0 i)=u n (gZ 0 (i+j))
 |0,i=>rfl
 |j+1,i=>by
  rw[Lq.pow_succ'];show(Lq.pow rE j).f (rE.f u) n (gZ 0 i)=_
  rw[At (rE.f u) n j i];show u n (gZ (kT (gZ 0 (i+j))) (qJ (gZ 0 (i+j))+1))+nf (kT (gZ 0 (i+j)))*_=_
  rw[EQ,FC,jP];show u n (gZ 0 (i+(j+1)))+0*_=_
  grind
theorem Jy (m:M) (u:Vq):(mo aK m).f u 0 0=u (gZ m.x.toNat m.d.toNat) (gZ m.y.toNat m.e.toNat):=by
 have e0:(0:Nat)=gZ 0 0:=rfl;show(Lq.pow rE m.e.toNat).f ((Lq.pow rD m.d.toNat).f ((Lq.pow rY m.y.toNat).f ((Lq.pow rX m.x.toNat).f u))) 0 0=_
 rw[show(Lq.pow rE m.e.toNat).f ((Lq.pow rD m.d.toNat).f ((Lq.pow rY m.y.toNat).f ((Lq.pow rX m.x.toNat).f u))) 0 0=(Lq.pow rE m.e.toNat).f ((Lq.pow rD m.d.toNat).f ((Lq.pow rY m.y.toNat).f ((Lq.pow rX m.x.toNat).f u))) 0 (gZ 0 0)from rfl,At];rw[show(Lq.pow rD m.d.toNat).f ((Lq.pow rY m.y.toNat).f ((Lq.pow rX m.x.toNat).f u)) 0 (gZ 0 (0+m.e.toNat))=(Lq.pow rD m.d.toNat).f ((Lq.pow rY m.y.toNat).f ((Lq.pow rX m.x.toNat).f u)) (gZ 0 0) (gZ 0 (0+m.e.toNat))from rfl,As,Av,Au];simp only[Nat.zero_add]
def M.nn (m:M):Prop:=0≤m.x∧0≤m.y∧0≤m.d∧0≤m.e
theorem nX {m:M} (h:m.ok=true):m.nn:=by obtain⟨x1,x2,y1,y2,d1,d2,e1,e2⟩:=M.ok_iff.1 h;exact⟨x1,y1,d1,e1⟩
theorem jZ {a b:M} (ha:a.nn) (hb:b.nn):(a.sum b).nn:=by obtain⟨a1,a2,a3,a4⟩:=ha;obtain⟨b1,b2,b3,b4⟩:=hb;exact⟨Int.add_nonneg a1 b1,Int.add_nonneg a2 b2,Int.add_nonneg a3 b3,Int.add_nonneg a4 b4⟩
def Oc (m:M):Vq:=fun n k=>if n=gZ m.x.toNat m.d.toNat∧k=gZ m.y.toNat m.e.toNat then 1 else 0
def uM (A:Lq) (m:M):Fq:=A.f (Oc m) 0 0
theorem JN {a m:M} (ha:a.nn) (hm:m.nn):uM (mo aK a) m=dl m a:=by
 unfold uM dl;rw[Jy];unfold Oc;by_cases e:a=m
 ·rw[if_pos (dQ.2 e.symm),if_pos (by rw[e];exact⟨rfl,rfl⟩)]
 ·rw[if_neg (fun h=>e (dQ.1 h).symm),if_neg];rintro⟨h1,h2⟩;have i1:=DB a.x.toNat a.d.toNat
  rw[h1,DB]at i1;have i2:=DB a.y.toNat a.e.toNat
  rw[h2,DB]at i2;simp only[Prod.mk.injEq]at i1 i2;obtain⟨a1,a2,a3,a4⟩:=ha;obtain⟨b1,b2,b3,b4⟩:=hm;refine e ?_;have j1:a.x=m.x:=by omega
  have j2:a.y=m.y:=by omega
  have j3:a.d=m.d:=by omega
  have j4:a.e=m.e:=by omega
  cases a;cases m;simp only at j1 j2 j3 j4;rw[j1,j2,j3,j4]
theorem rF (A B:Lq) (m:M):uM (Lq.sum A B) m=uM A m+uM B m:=rfl
theorem JO (c:Fq) (A:Lq) (m:M):uM (Lq.sc c A) m=c*uM A m:=rfl
theorem OD (m:M):uM Lq.nil m=0:=rfl
def kf (o:Int) (a:M):Int:=if o=1 then a.x+a.y+a.d+a.e else if o=3 then a.d+a.x else 0
def pE (o:Int) (a b:M):Prop:=kf o a<kf o b∨(kf o a=kf o b∧(a.d<b.d∨(a.d=b.d∧(a.e<b.e∨(a.e=b.e∧(a.x<b.x∨(a.x=b.x∧a.y<b.y)))))))
theorem Nr (a:M):kf 1 a=a.x+a.y+a.d+a.e:=if_pos rfl
theorem Ns (a:M):kf 2 a=0:=(if_neg (by decide)).trans (if_neg (by decide))
theorem Nt (a:M):kf 3 a=a.d+a.x:=(if_neg (by decide)).trans (if_pos rfl)
theorem Nd (a:M):eO 1 a=fI a:=if_pos rfl
theorem Ne (a:M):eO 2 a=iB a:=(if_neg (by decide)).trans (if_neg (by decide))
theorem Nf (a:M):eO 3 a=wT a:=(if_neg (by decide)).trans (if_pos rfl)
theorem GE (o:Int) (a b:M):kf o (a.sum b)=kf o a+kf o b:=by
 unfold kf M.sum;split
 ·simp only;omega
 ·split
  ·simp only;omega
  ·rfl
theorem pF {o:Int} {a b c:M} (h1:pE o a b) (h2:pE o b c):pE o a c:=by unfold pE at *;generalize kf o a=p at *;generalize kf o b=q at *;generalize kf o c=r at *;omega
theorem vT {o:Int} {a:M} (h:pE o a a):False:=by unfold pE at h;omega
theorem oK {a b:M} (h1:a.x=b.x) (h2:a.y=b.y) (h3:a.d=b.d) (h4:a.e=b.e):a=b:=by cases a;cases b;simp only at h1 h2 h3 h4;rw[h1,h2,h3,h4]
theorem QR {o:Int} {a b:M} (c:M) (h:pE o a b):pE o (a.sum c) (b.sum c):=by unfold pE at *;rw[GE,GE];unfold M.sum;simp only;generalize kf o a=p at *;generalize kf o b=q at *;omega
theorem BH {o:Int} {a b:M} (c:M) (h:pE o a b):pE o (c.sum a) (c.sum b):=by unfold pE at *;rw[GE,GE];unfold M.sum;simp only;generalize kf o a=p at *;generalize kf o b=q at *;omega
theorem Ff {o:Int} (ho:1≤o∧o≤3) (a b:M) {i k:Int} (hi:0≤i) (hk:0≤k) (h:0<i+k):pE o ⟨a.x+b.x-i,a.y+b.y-k,a.d+b.d-i,a.e+b.e-k⟩ (a.sum b):=by
 have h3:o=1∨o=2∨o=3:=by omega
 unfold pE;rcases h3 with rfl|rfl|rfl
 ·rw[Nr,Nr];unfold M.sum;simp only;omega
 ·rw[Ns,Ns];unfold M.sum;simp only;by_cases hi0:i=0
  ·exact .inr ⟨trivial,.inr ⟨by omega,.inl (by omega)⟩⟩
  ·exact .inr ⟨trivial,.inl (by omega)⟩
 ·rw[Nt,Nt];unfold M.sum;simp only;by_cases hi0:i=0
  ·exact .inr ⟨by omega,.inr ⟨by omega,.inl (by omega)⟩⟩
  ·exact .inl (by omega)
theorem zO {o:Int} (ho:1≤o∧o≤3) {a b:M} (ha:a.ok=true) (hb:b.ok=true) (h:eO o a<eO o b):pE o a b:=by
 obtain⟨x1,x2,y1,y2,d1,d2,e1,e2⟩:=M.ok_iff.1 ha;obtain⟨x3,x4,y3,y4,d3,d4,e3,e4⟩:=M.ok_iff.1 hb;have h3:o=1∨o=2∨o=3:=by omega
 unfold pE;rcases h3 with rfl|rfl|rfl
 ·rw[Nd,Nd]at h;rw[Nr,Nr];unfold fI iB at h;omega
 ·rw[Ne,Ne]at h;rw[Ns,Ns];unfold iB at h;omega
 ·rw[Nf,Nf]at h;rw[Nt,Nt];unfold wT iB at h;omega
end Go.Proofs.YtelkehjdfcoeiaaGreat
