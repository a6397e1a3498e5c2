/-
  The model's least basis (spec.l10Monic, spec.GrbLeast).
-/
import Derived.Test.YtdidlcjhodejjaaGreatMFaa
import Derived.Test.YtdidlcjhodejjaaGreatMas
import Derived.Deep.RegionLaw
import Derived.Deep.LoopGhost
import Derived.Laws.OwnMore
set_option maxHeartbeats 16000000
set_option maxRecDepth 100000
namespace Go.Proofs.YtdidlcjhodejjaaGreat
open Go.RowKit Go.Deep Go.Joins
set_option linter.unusedVariables false
set_option linter.unusedSimpArgs false
def uM (w:World) (R:Option (List (List T))) (r:Ending) (w':World):Prop:=Below w.heap.size w w'∧((∃l qa qc ad cp,R=some l∧r= .returned (.tuple #[.slice qa l.length qc,.bool true])∧cZ w' qa l.length qc ad (lN (bC l)) cp (fN (bC l)))∨(R=none∧∃qa qc,r= .returned (.tuple #[.slice qa 0 qc,.bool false])))
theorem XX (w:World) (o:Int) (a:Option Addr) (c:Nat) (R:List T) (h:RL w a c R) (hR:cG R=true) (h0:R.length≠0):Calls Tryz.prog 43 #[.int .i64 o,.slice a R.length c] w fun r w'=>∃a' c',r= .returned (.slice a' (pY o R).length c')∧Below w.heap.size w w'∧jN w.heap.size w' a' c' (pY o R):=by
 obtain⟨m1,m2,m3⟩:=wS (o:=o) hR h0;have hg:=dU (o:=o) (aD hR).2 h0
 have f1:=wE hg.2.1 hg.2.2;have f2:=(oQ (aV o R).c).2
 have hcf:=(aD hR).2.2;obtain⟨t,ht⟩:∃t,aV o R=t:=⟨_,rfl⟩
 rw[ht]at m3 f1 f2 hg;obtain⟨k,hk⟩:∃k,kN t.c=k:=⟨_,rfl⟩
 rw[hk]at m3 f1 f2;obtain⟨n,hn⟩:∃n,R.length=n:=⟨_,rfl⟩
 obtain⟨Y,hY⟩:∃Y,pY o R=Y:=⟨_,rfl⟩
 rw[hY]at m1 m2 m3⊢;rw[hn]at m2;have n400:n≤400:=by rw[←hn];exact(aD hR).1
 have hnI:(n:Int)≤400:=by omega
 have HLE:=aA (JQ (o:=o) h hR h0 (congrArg T.c ht) (congrArg T.m ht));have hinv:=Nk t.c
 rw[hk]at hinv;have HIV:=aA hinv
 have HSC:Hid (∀W,Below w.heap.size w W→Calls Tryz.prog 88 #[.int .i64 k,.slice a n c] W fun r w'=>∃a' c',r= .returned (.slice a' Y.length c')∧Below W.heap.size W w'∧jN W.heap.size w' a' c' Y):=fun W hW=>by
  rw[←hn];refine(NH W k a R.length c (lf R) (Rd.below h hW) (by omega) f2 (by omega) (fun i hi=>by have:=(hcf _ (lK hi));omega)).mono ?_;rintro r w' ⟨v,rfl,hb,hown⟩;rw[if_neg (show ¬k=0 by omega)]at hown;have e:LP k (lf R) R.length=Y:=m3.symm
  rw[e,show R.length=Y.length by omega]at hown;obtain⟨a',c',rfl,hO⟩:=aH hown (by omega);exact⟨a',c',rfl,hb,hO⟩
 rw[hn]at HLE⊢;clear h hR h0 m1 m2 m3 f1 f2 hg ht hk hn hY hinv hcf;have hfield:∀W:World,(Instr.field 42 (Value.agg #[.int .i64 t.c,.int .i64 t.m.x,.int .i64 t.m.y,.int .i64 t.m.d,.int .i64 t.m.e]) 0).run Tryz.prog W= .ok (.int .i64 t.c) W:=fun W=>by kernel_rfl
 go_enter Tryz.func43,Tryz.ntmps43;go_wp2_with fail;refine HLE.out.mono ?_;rintro r w1 ⟨rfl,hb1⟩;have HB1:=aA hb1
 clear hb1;go_wp2_with fail;refine(HIV.out _).mono ?_;rintro r w2 ⟨rfl,hw2⟩;obtain rfl:=hw2.symm;clear hw2;go_wp2_with fail;refine(HSC.out _ HB1.out).mono ?_;rintro r w3 ⟨a',c',rfl,hb3,hO⟩;have HB3:=aA (aB HB1.out hb3)
 have HO:Hid (jN w.heap.size w3 a' c' Y):=⟨hO.1,hO.2.1,hO.2.2.imp id (fun⟨g,off,e,hg⟩=>⟨g,off,e,by have:=HB1.out.size;omega⟩)⟩
 clear hb3 hO;go_wp2;go_ret;exact⟨a',c',rfl,HB3.out,HO.out⟩
theorem yF (w:World) (o:Int) (a:Option Addr) (n cap:Nat) (ad:Nat→Option Addr) (cp:Nat→Nat) (L:Nat→List T) (h:cZ w a n cap ad (lN L) cp (fN L)):Calls Tryz.prog 10 #[.int .i64 o,.slice a n cap] w (uM w (aU o n L)):=by
 have HH:=aA h;have q1:(n:Int)≤140737488351232:=by have:=h.2.1;omega
 clear h;by_cases ho:1≤o∧o≤3;rotate_left
 ·have e:aU o n L=none:=if_neg (fun q=>ho q.1);rw[e];go_enter Tryz.func10,Tryz.ntmps10;go_wp2_with (go_at_call 39;refine(eC _ _ _ _ (by omega)).mono ?_;rintro r w' ⟨rfl,hw'⟩;obtain rfl:=hw'.symm;clear hw');refine bY (results_tmp2 rfl _ _ _) rfl ?_;exact⟨by first|exact aC _ _|exact bL _ _,.inr ⟨rfl,_,_,rfl⟩⟩
 obtain⟨o1,o2⟩:=ho;cases hl:aT n (lN L) (fN L)
 ·have e:aU o n L=none:=if_neg (fun q=>by rw[hl]at q;exact absurd q.2 (by simp));rw[e];go_enter Tryz.func10,Tryz.ntmps10;go_wp2_with (go_at_call 39;refine(cQ _ _ _ _ (by omega) (by omega)).mono ?_;rintro r w' ⟨rfl,hw'⟩;obtain rfl:=hw'.symm;clear hw');refine(kE _ _ _ _ _ _ _ _ HH.out).mono ?_;rw[hl];rintro r w1 ⟨rfl,hb1⟩;have HB1:=aA (aB hb1 (aC w1 (.cells #[] 45)))
  clear hb1;go_wp2;refine bY (results_tmp2 rfl _ _ _) rfl ?_;exact⟨HB1.out,.inr ⟨rfl,_,_,rfl⟩⟩
 have n12:=(aL hl).1;have hnl:(n:Int)≤12:=by omega
 have hR0:aU o n L=gD o (bU o n L).length 0 (bU o n L):=if_pos ⟨⟨o1,o2⟩,hl⟩;obtain⟨R0,hR0e⟩:∃R0,aU o n L=R0:=⟨_,rfl⟩
 rw[hR0e]at hR0⊢;obtain⟨hlk,hl12⟩:=tF (o:=o) hl;have HLK:=aA hlk
 have hsrc:Ab w o a n cap ad cp L:=⟨HH.out,⟨o1,o2⟩,fun i hi=>⟨((aL hl).2 i hi).2,((aL hl).2 i hi).1⟩⟩
 have HSRC:=aA hsrc;obtain⟨es0,hes0⟩:∃es0,fJ (jP (fun i=>(aV o (L i)).m) n) (gK ad cp L) n=es0:=⟨_,rfl⟩
 have h0p:es0.map E.p=fJ (jP (fun i=>(aV o (L i)).m) n) L n:=by rw[←hes0,xG];rfl
 obtain⟨es1,hes1⟩:∃es1,iT (jL o) [] es0=es1:=⟨_,rfl⟩
 have h1p:es1.map E.p=bU o n L:=by
  rw[←hes1];show(iT (fun a b=>UJ o a.p b.p) [] es0).map E.p=_
  rw[DX E.p (UJ o),h0p];rfl
 have h0l:es0.length≤12:=by rw[←hes0];have:=qI (jP (fun i=>(aV o (L i)).m) n) (gK ad cp L) n;omega
 have h1l:es1.length≤12:=by rw[←hes1,sO];simp;omega
 have h0ok:∀e∈es0,cG e.p=true∧e.p.length≠0:=fun e he=>by
  have:e.p∈fJ (jP (fun i=>(aV o (L i)).m) n) L n:=by rw[←h0p];exact List.mem_map_of_mem he
  exact JU hl e.p this
 have hN1:(bU o n L).length=es1.length:=by rw[←h1p,List.length_map]
 rw[hN1]at hR0;obtain⟨N,hN⟩:∃N,es1.length=N:=⟨_,rfl⟩
 rw[hN]at hR0 h1l;have HR0:Hid (gD o (N-0) 0 (bU o n L)=R0):=hR0.symm
 have HES0:=aA hes0;have HES1:=aA hes1
 have H1P:=aA h1p;have HOK0:=aA h0ok
 have HN:=aA hN;have hNI:(N:Int)≤12:=by omega
 clear hR0 hR0e hlk hl12 hsrc hes0 hes1 h0p h1p h0ok hN1 hN;go_enter Tryz.func10,Tryz.ntmps10;go_wp2_with (go_at_call 39;refine(cQ _ _ _ _ (by omega) (by omega)).mono ?_;rintro r w' ⟨rfl,hw'⟩;obtain rfl:=hw'.symm;clear hw');refine(kE _ _ _ _ _ _ _ _ HH.out).mono ?_;rw[hl];rintro r w1 ⟨rfl,hb1⟩;have HB1:=aA hb1
 clear hb1;go_wp2_with fail;refine(XW w1 o a n cap ad cp L (HSRC.out.below HB1.out) n12).mono ?_;rintro r w2 ⟨tv2,rfl,hb2,hR2⟩;rw[HES0.out]at hR2;obtain⟨a2,c2,rfl,hrd2⟩:=hR2.rd (by omega);have HB2:=aA (aB HB1.out hb2)
 have HRD2:=aA hrd2;clear hb2 hR2 hrd2;go_wp2_with fail;refine(RK w2 o a2 c2 es0 HRD2.out ⟨o1,o2⟩ h0l HOK0.out).mono ?_;rintro r w3 ⟨tv3,rfl,hb3,hR3⟩;rw[HES1.out]at hR3;have HB3:=aA (aB HB2.out hb3)
 have HR3:=aA (hR3.weak (lo':=w.heap.size) HB2.out.size);clear hb3 hR3;go_wp2;go_loopw [1,6] (fun tv ii wr=>∃(i:Nat) (es:List E) (l:List (List T)),i≤N∧ii= .int .i64 (i:Int)∧Below w.heap.size w wr∧dA w.heap.size wr tv es∧Hid (es.map E.p=l)∧Hid (UU l)∧Hid (es.length=N)∧Hid (gD o (N-i) i l=R0)) (fun _ ii _=>N-(intOf ii).toNat);case atStart=>exact⟨0,es1,bU o n L,Nat.zero_le _,rfl,HB3.out,HR3.out,H1P,HLK,HN,HR0⟩
 case round=>
  obtain⟨i,es,l,hi,rfl,hB,hA,HP,HO,HLN,HR⟩:=hrel;have HB:=aA hB
  have HA:=aA hA;obtain⟨ga,gc,htv,hrd⟩:=hA.rd (by rw[HLN.out];omega);rw[HLN.out]at htv;subst htv;have HRD:=aA hrd
  clear hB hA;by_cases hit:i<N
  ·have hiI:(i:Int)<(N:Int):=by omega
   obtain⟨b,off,rfl,hb,hc⟩:=hrd.2.2.1.resolve_left (by rw[HLN.out];omega);have hNc:N≤gc:=by have:=hrd.1;rw[HLN.out]at this;exact this
   have hNcI:(N:Int)≤(gc:Int):=by omega
   obtain⟨x,hx⟩:∃x,es.getD i E0=x:=⟨_,rfl⟩
   obtain⟨xl,hxl⟩:∃xl,x.p.length=xl:=⟨_,rfl⟩
   have hxm:x∈es:=by rw[←hx];exact(zX (by rw[HLN.out];exact hit)).2
   have HXC:Hid (∀W,Below wr.heap.size wr W→W.cell? ⟨b,off+i,none⟩=some (.slice x.a xl x.c)):=fun W hW=>by rw[hW.cell (p:=⟨b,off+i,none⟩) hb,hc i _ (zX (by rw[HLN.out];exact hit)).1,hx,←hxl];rfl
   have hi1:(i:Int)+1≤(N:Int):=by omega
   have hic:(i:Int)≤(gc:Int):=by omega
   have hwi:IntKind.i64.wrap ((i:Int)+1)=(i:Int)+1:=by rw[IntKind.wrap_i64];omega
   have ei:((i:Int)+1).toNat=i+1:=by omega
   have hi0':¬((i:Int)+1<0):=by omega
   have hi2:i+1≤N:=by omega
   have ht1:(es.take i).length=i:=by rw[List.length_take,HLN.out];omega
   have ht2:(es.drop (i+1)).length=N-(i+1):=by rw[List.length_drop,HLN.out]
   have HT1:=aA ht1;have HT2:=aA ht2
   have hlx:bC l i=x.p:=by rw[←HP.out,tJ,hx]
   have hot:(eN es i).map E.p=eN l i:=by rw[DB,HP.out]
   have hol:(eN es i).length=N-1:=by rw[jF (by rw[HLN.out];exact hit),HLN.out]
   have hln:l.length=N:=by rw[←HP.out,List.length_map,HLN.out]
   have hoo:UU (eN l i):=KC HO.out;have hox:=HO.out _ (eY (l:=l) (i:=i) (by omega))
   obtain⟨S,hS⟩:∃S,aW o x.p (N-1) (lN (bC (eN l i))) (fN (bC (eN l i)))=S:=⟨_,rfl⟩
   have hLS:mQ o (bC l i) (eN l i)=JR o S:=by rw[Da,hlx,←hS,←hot,List.length_map,hol]
   have hlst:aT (N-1) (lN (bC (eN l i))) (fN (bC (eN l i)))=true:=by
    have:=wT hoo (by rw[jF (by omega)];omega)
    rwa[show(eN l i).length=N-1 by rw[jF (by omega),hln]]at this
   have hdv:eR o (N-1) (lN (bC (eN l i))) (fN (bC (eN l i))) 300 (lB x.p)=S:=by rw[←hS];rw[hlx]at hox;exact(if_pos ⟨⟨o1,o2⟩,hox.1,hlst⟩).symm
   have hSr:∀D,S=some D→cG D.r=true:=fun D e=>(iD (hS.trans e)).1;have HSR:=aA hSr
   have HLS:=aA hLS;have HAL:Hid (∀(W:World) (oa:Option Addr) (oc:Nat),Below wr.heap.size wr W→nG W oa oc (eN es i)→Calls Tryz.prog 42 #[.int .i64 o,.slice x.a xl x.c,.slice oa (N-1) oc] W fun r w'=>LT W (N-1) S r w'):=fun W oa oc hW hR=>by
    have h3:=hR.rds;rw[hot,hol]at h3;rw[hlx]at hox;have:=JN W o x.a x.c x.p oa (N-1) oc _ _ _ _ (Rd.below (HRD.out.2.2.2 x hxm) hW) h3 o1 o2 hox.1 hlst
    rw[hdv,hxl]at this;exact this
   have HEL:Hid (∀(W:World) (tv:Value),Below wr.heap.size wr W→(∀k,tv.ownBlock=some k→wr.heap.size≤k)→∀e∈es,mU W tv.ownBlock e):=fun W tv hW hk e he=>mU.far (w:=wr) (HRD.out.2.2.2 e he) hW hk;have HEL1:Hid (∀(W:World) (tv:Value),Below wr.heap.size wr W→(∀k,tv.ownBlock=some k→wr.heap.size≤k)→∀e∈es.take i,mU W tv.ownBlock e):=fun W tv hW hk e he=>HEL.out W tv hW hk e (List.mem_of_mem_take he)
   have HEL2:Hid (∀(W:World) (tv:Value),Below wr.heap.size wr W→(∀k,tv.ownBlock=some k→wr.heap.size≤k)→∀e∈es.drop (i+1),mU W tv.ownBlock e):=fun W tv hW hk e he=>HEL.out W tv hW hk e (List.mem_of_mem_drop he);have HTK:Hid (∀W,Below wr.heap.size wr W→nG W (some ⟨b,off,none⟩) gc (es.take i)):=fun W hW=>(HRD.out.below hW).takeE (by rw[HLN.out];omega)
   have HPUTL:Hid (∀(a':Option Addr) (c':Nat) (Y:List T),(es.take i++[(⟨a',c',Y⟩:E)]++es.drop (i+1)).map E.p=jH l i Y∧(es.take i++[(⟨a',c',Y⟩:E)]++es.drop (i+1)).length=N):=fun a' c' Y=>by
    have e:es.take i++[(⟨a',c',Y⟩:E)]++es.drop (i+1)=jH es i ⟨a',c',Y⟩:=by unfold jH;rw[List.append_assoc];rfl
    rw[e];exact⟨by rw[DL,HP.out],by rw[qE (by rw[HLN.out];exact hit),HLN.out]⟩
   clear hrd hc ht1 ht2 hlx hot hol hln hoo hox hS hLS hlst hdv hSr hx hxl;have HDR:Hid (∃da dc dl,(es.drop (i+1)).length=dl∧(∀W,Below wr.heap.size wr W→nG W da dc (es.drop (i+1)))∧((gc=i+1∧da=some ⟨b,off,none⟩∧dc=0∧dl=0)∨(gc≠i+1∧da=some ⟨b,off+(i+1),none⟩∧dc=gc-(i+1)∧dl=N-(i+1)))):=by
    by_cases hce:gc=i+1
    ·refine⟨some ⟨b,off,none⟩,0,0,by rw[HT2.out];omega,fun W hW=>?_,.inl ⟨hce,rfl,rfl,rfl⟩⟩;have:es.drop (i+1)=[]:=List.drop_eq_nil_of_le (by rw[HLN.out];omega)
     rw[this];exact⟨Nat.le_refl _,Nat.zero_le _,.inl rfl,fun e he=>by cases he⟩
    ·exact⟨_,_,_,HT2.out,fun W hW=>(HRD.out.below hW).dropE (k:=i+1) (by rw[HLN.out];omega),.inr ⟨hce,rfl,rfl,rfl⟩⟩
   obtain⟨da,dc,dl,hdl,hdr,hcase⟩:=HDR.out;have HDL:=aA hdl
   have HLEN:Hid (([]++es.take i).length+dl≤100):=by show([]++es.take i).length+dl≤100;rw[List.nil_append,HT1.out,←hdl,HT2.out];omega
   have HLEN9:Hid (∀y:E,([]++es.take i++[y]).length+dl≤100):=fun y=>by rw[List.length_append,List.nil_append,HT1.out,←hdl,HT2.out];simp;omega
   clear hdl;have HDD:=aA hdr
   have HBX:=aA (aC wr (.cells #[] 45)).drew;have HRX:Hid (dA wr.heap.size (wr.alloc (.cells #[] 45)).drew (.slice (some ⟨wr.heap.size,0,none⟩) 0 0) []):=(dA.start (Nat.le_refl _)).below (bL _ _).drew
   have hlx0:wr.heap.size≤(wr.alloc (.cells #[] 45)).drew.heap.size:=HBX.out.size;have HOWN:Hid (∀(lo:Nat) (W:World) (tv:Value) (es':List E),dA lo W tv es'→∀k,tv.ownBlock=some k→lo≤k):=fun lo W tv es' h k hk=>(h.row.lt k hk).1
   clear hdr HDR;rcases hcase with⟨hce,rfl,rfl,rfl⟩|⟨hce,rfl,rfl,rfl⟩
   all_goals
    (try(have hceI:(gc:Int)=(i:Int)+1:=by omega))
    (try subst hce)
    have hic2:(i:Int)≤(i:Int)+1:=by omega
    go_wp2_with fail
    go_region_law (first|(refine rI (by rfl) (.tmp 32) (.tmp 35) (by rfl) HRX.out (by rfl) HT1.out (by rfl) (HTK.out _ HBX.out) (HEL1.out _ _ HBX.out (HOWN.out _ _ _ _ HRX.out)) hlx0 (by simp;omega) ?_;intro tv1 w4 r1 r2 r3;have RR1:=aA r1;have BB1:=aA (r2 _ _ HBX.out (Nat.le_refl _));have hx4:=BB1.out.size;have rn1:=HLEN.out;clear r1 r2 r3)|(refine rI (by rfl) (.tmp 36) (.tmp 40) (by rfl) RR1.out (by rfl) HDL.out (by rfl) (HDD.out _ BB1.out) (HEL2.out _ _ BB1.out (HOWN.out _ _ _ _ RR1.out)) hx4 rn1 ?_;intro tv2 w5 r1 r2 r3;have RR2:=aA r1;have BB2:=aA (r2 _ _ BB1.out (Nat.le_refl _));clear r1 r2 r3))
    have hoth:[]++es.take i++es.drop (i+1)=eN es i:=rfl;have RR3:Hid (dA wr.heap.size w5 tv2 (eN es i)):=RR2.out
    obtain⟨oa,oc,hov,hrdo⟩:=RR3.out.rd (by rw[jF (by rw[HLN.out];exact hit),HLN.out];omega);rw[jF (by rw[HLN.out];exact hit),HLN.out]at hov;subst hov;have kx:=HXC.out w5 BB2.out
    have HC6:=aA (HAL.out w5 oa oc BB2.out hrdo);clear hrdo hoth hlx0 hx4 rn1;go_wp2_with fail;refine HC6.out.mono ?_;rintro r w6 ⟨hb6,hh⟩;have BB6:=aA (aB BB2.out hb6)
    rcases hh with⟨D,qa,qc,ad6,cp6,ra,rc,hD,rfl,_,hr6,_⟩|⟨hD,qa,qc,ra,rc,rfl⟩
    ·have hok6:=HSR.out D hD;have HOK6:=aA hok6
     have HR6:=aA hr6;obtain⟨rl,hrl⟩:∃rl,D.r.length=rl:=⟨_,rfl⟩
     have hrl4:(rl:Int)≤400:=by have:=(aD hok6).1;omega
     rw[hrl];by_cases hz:rl=0
     ·subst hz;have hR7:R0=none:=by rw[←HR.out,show N-i=(N-(i+1))+1 by omega,lL];rw[HLS.out,hD];exact if_pos hrl
      subst hR7;have BB7:=aA (aB (aB HB.out BB6.out) (aC w6 (.cells #[] 45)))
      clear hb6 hr6 hok6 hD hrl;go_wp2;refine bY (results_tmp2 rfl _ _ _) rfl ?_;exact⟨BB7.out,.inr ⟨rfl,_,_,rfl⟩⟩
     ·have hzI:¬(rl:Int)=0:=by omega
      have hY:mQ o (bC l i) (eN l i)=some (pY o D.r):=by rw[HLS.out,hD];exact if_neg (by rw[hrl];exact hz)
      have hRn:gD o (N-(i+1)) (i+1) (jH l i (pY o D.r))=R0:=by rw[←HR.out,show N-i=(N-(i+1))+1 by omega,kF hY]
      have hOn:=AS (i:=i) HO.out (wQ hY);have HMO:Hid (∀W,Below w6.heap.size w6 W→Calls Tryz.prog 43 #[.int .i64 o,.slice ra rl rc] W fun r w'=>∃a' c',r= .returned (.slice a' (pY o D.r).length c')∧Below W.heap.size W w'∧jN W.heap.size w' a' c' (pY o D.r)):=fun W hW=>by have:=XX W o ra rc D.r (Rd.below HR6.out hW) HOK6.out (by rw[hrl];exact hz);rw[hrl]at this;exact this
      have hYl:(pY o D.r).length≤400:=(aD (wQ hY).1).1;obtain⟨Y,hYe⟩:∃Y,pY o D.r=Y:=⟨_,rfl⟩
      rw[hYe]at hRn hOn hYl HMO;have HRN:=aA hRn
      have HON:=aA hOn;obtain⟨yl,hyl⟩:∃yl,Y.length=yl:=⟨_,rfl⟩
      rw[hyl]at HMO;have HYL:=aA hyl
      have B6:=aA (aC w6 (.cells #[] 45));have BX6:=aA (aB BB6.out B6.out)
      have RX6:Hid (dA w6.heap.size (w6.alloc (.cells #[] 45)) (.slice (some ⟨w6.heap.size,0,none⟩) 0 0) []):=dA.start (Nat.le_refl _);have hlx6:w6.heap.size≤(w6.alloc (.cells #[] 45)).heap.size:=B6.out.size
      have HOW:Hid (∀(W:World) (tv:Value) (es':List E),dA w6.heap.size W tv es'→∀k,tv.ownBlock=some k→wr.heap.size≤k):=fun W tv es' h k hk=>jZ BB6.out.size (h.row.lt k hk).1;clear hb6 hr6 hok6 hD hrl hY hRn hOn hYe hyl hYl kx;go_wp2_with (at_builtin;refine eJ (by rfl) (.tmp 61) (.tmp 64) (by rfl) RX6.out (by rfl) HT1.out (by rfl) (HTK.out _ BX6.out) (HEL1.out _ _ BX6.out (HOW.out _ _ _ RX6.out)) hlx6 (by simp;omega) ?_;intro tv7 w7 r1 r2 r3;have R7:=aA r1;have B7:=aA (r2 _ _ B6.out (Nat.le_refl _));clear r1 r2 r3);refine(HMO.out w7 B7.out).mono ?_;rintro r w8 ⟨ya,yc,rfl,hb8,hY8⟩;have hbx8:=aC w8 (.cells #[.slice ya yl yc] 45)
      have B8:=aA (aB (aB B7.out hb8) hbx8);have R8:=aA ((R7.out.below hb8).below hbx8)
      have hlx8:w6.heap.size≤(w8.alloc (.cells #[.slice ya yl yc] 45)).heap.size:=B8.out.size;have RD8:Hid (nG (w8.alloc (.cells #[.slice ya yl yc] 45)) (some ⟨w8.heap.size,0,none⟩) 1 [(⟨ya,yc,Y⟩:E)]):=by have:=nG.box (W:=w8) (e:=(⟨ya,yc,Y⟩:E)) hY8.1;rw[show(⟨ya,yc,Y⟩:E).v= .slice ya yl yc by show Value.slice ya Y.length yc=_;rw[HYL.out]]at this;exact this
      have EL8:Hid (∀e∈[(⟨ya,yc,Y⟩:E)],mU (w8.alloc (.cells #[.slice ya yl yc] 45)) tv7.ownBlock e):=fun e he=>by
       rw[List.mem_singleton.1 he];refine⟨Rd.below hY8.1 hbx8,hY8.2.2.imp id (fun⟨g,off,e,hg⟩ b' off' e' hk=>?_)⟩;have e2:ya=some ⟨b',off',none⟩:=e'
       rw[e]at e2;cases e2;have:=(R7.out.row.lt _ hk).2
       omega
      have hn8:([]++es.take i).length+1≤100:=by rw[List.nil_append,HT1.out];omega
      clear hb8 hY8 hbx8;go_wp2_with (first|(at_builtin;refine eJ (by rfl) (.tmp 65) (.tmp 69) (by rfl) R8.out (by rfl) rfl (by rfl) RD8.out EL8.out hlx8 hn8 ?_;intro tv9 w9 r1 r2 r3;have R9:=aA r1;have B9:=aA (r2 _ _ B8.out (Nat.le_refl _));have BX9:=aA (aB BB6.out B9.out);have hlx9:=B9.out.size;have hn9:=HLEN9.out (⟨ya,yc,Y⟩:E);clear r1 r2 r3)|(at_builtin;refine eJ (by rfl) (.tmp 71) (.tmp 75) (by rfl) R9.out (by rfl) HDL.out (by rfl) (HDD.out _ BX9.out) (HEL2.out _ _ BX9.out (HOW.out _ _ _ R9.out)) hlx9 hn9 ?_;intro tv10 w10 r1 r2 r3;have R10:=aA r1;have B10:=aA (r2 _ _ B9.out (Nat.le_refl _));clear r1 r2 r3));have BF:=aA (aB (aB HB.out BB6.out) B10.out)
      have RF:Hid (dA w.heap.size w10 tv10 (es.take i++[(⟨ya,yc,Y⟩:E)]++es.drop (i+1))):=R10.out.weak (jZ HB.out.size BB6.out.size);have HPF:=aA (HPUTL.out ya yc Y)
      go_roundw;case rel=>exact⟨i+1,es.take i++[(⟨ya,yc,Y⟩:E)]++es.drop (i+1),jH l i Y,by omega,by go_num,BF.out,RF.out,HPF.out.1,HON.out,HPF.out.2,HRN.out⟩
      case measure=>simp[intOf];omega
    ·have hR7:R0=none:=by rw[←HR.out,show N-i=(N-(i+1))+1 by omega,lL];rw[HLS.out,hD];rfl
     subst hR7;have BB7:=aA (aB (aB HB.out BB6.out) (aC w6 (.cells #[] 45)))
     clear hb6 hD;go_wp2;refine bY (results_tmp2 rfl _ _ _) rfl ?_;exact⟨BB7.out,.inr ⟨rfl,_,_,rfl⟩⟩
  ·have hiI:¬(i:Int)<(N:Int):=by omega
   have hie:i=N:=by omega
   have hRl:R0=some l:=by rw[←HR.out,hie,Nat.sub_self];rfl
   have hln:l.length=N:=by rw[←HP.out,List.length_map,HLN.out]
   have hF:=HRD.out.rds;rw[HP.out,HLN.out]at hF;subst hie;subst hRl;have HF:Hid (∃l' qa qc ad cp,some l=some l'∧Ending.returned (.tuple #[.slice ga i gc,.bool true])= .returned (.tuple #[.slice qa l'.length qc,.bool true])∧cZ wr qa l'.length qc ad (lN (bC l')) cp (fN (bC l'))):=⟨l,ga,gc,_,_,rfl,by rw[hln],by rw[hln];exact hF⟩
   clear hrd hln hF;go_wp2;refine bY (results_tmp2 rfl _ _ _) rfl ?_;exact⟨HB.out,.inl HF.out⟩
def ET (F X:List T):Option (List T):=match nU F X with
 |(Y,true)=>some Y
 |(_,false)=>none
def IE:Option (List (List T))→List (List T)
 |some l=>l
 |none=>[]
theorem JT {l:List (List T)} {i:Nat} (h:l.length≤i):bC l i=[]:=by
 show l.getD i []=[]
 rw[List.getD_eq_getElem?_getD,List.getElem?_eq_none h];rfl
theorem CO {o:Int} {n:Nat} {L:Nat→List T}:(IE (aU o n L)).length≤12∧∀i,(bC (IE (aU o n L)) i).length≤400:=by
 cases h:aU o n L with
 |none=>exact⟨Nat.zero_le _,fun i=>by rw[JT (Nat.zero_le _)];exact Nat.zero_le _⟩
 |some l=>
  have hL:=iZ h;refine⟨hL.le,fun i=>?_⟩;by_cases hi:i<l.length
  ·exact(aD (hL.ok _ (eY hi)).1).1
  ·show(bC l i).length≤400;rw[JT (Nat.le_of_not_lt hi)];exact Nat.zero_le _
def kP (w:World) (R:Option (List (List T))) (r:Ending) (w':World):Prop:=∃qa qc ad cp Rb B,r= .returned (.tuple #[.slice qa (IE R).length qc,.bool R.isSome])∧Below w.heap.size w w'∧iL w.heap.size w' qa (IE R).length qc ad (lN (bC (IE R))) cp (fN (bC (IE R))) Rb B
def kQ (w:World) (R:Option (List (List T))) (r:Ending) (w':World):Prop:=∃qa qc ad cp,r= .returned (.tuple #[.slice qa (IE R).length qc,.bool R.isSome])∧Below w.heap.size w w'∧cZ w' qa (IE R).length qc ad (lN (bC (IE R))) cp (fN (bC (IE R)))
theorem rU.all {w:World} {R:Option (List (List T))} {r:Ending} {w':World} (h:rU w R r w'):kP w R r w':=by
 obtain⟨hb,⟨l,qa,qc,ad,cp,Rb,B,rfl,rfl,hO⟩|⟨rfl,rfl⟩⟩:=h
 ·exact⟨qa,qc,ad,cp,Rb,B,rfl,hb,hO⟩
 ·exact⟨none,0,fun _=>none,fun _=>0,0,fun _=>0,rfl,hb,⟨⟨Nat.le_refl _,Nat.zero_le _,.inl rfl,fun i hi=>absurd hi (rT _)⟩,.inl rfl,fun i hi=>absurd hi (rT _),fun i hi=>absurd hi (rT _),fun i j _ hj=>absurd hj (rT _)⟩⟩
theorem uM.all {w:World} {R:Option (List (List T))} {r:Ending} {w':World} (h:uM w R r w'):kQ w R r w':=by
 obtain⟨hb,⟨l,qa,qc,ad,cp,rfl,rfl,hO⟩|⟨rfl,qa,qc,rfl⟩⟩:=h
 ·exact⟨qa,qc,ad,cp,rfl,hb,hO⟩
 ·exact⟨qa,qc,fun _=>none,fun _=>0,rfl,hb,⟨Nat.zero_le _,Nat.zero_le _,.inl rfl,fun i hi=>absurd hi (rT _)⟩⟩
theorem kP.from {w w1:World} {R:Option (List (List T))} {r:Ending} {w':World} (h:kP w1 R r w') (hb:Below w.heap.size w w1):kP w R r w':=by obtain⟨qa,qc,ad,cp,Rb,B,e,hb1,hO⟩:=h;exact⟨qa,qc,ad,cp,Rb,B,e,aB hb hb1,hO.low hb.size⟩
theorem kQ.from {w w1:World} {R:Option (List (List T))} {r:Ending} {w':World} (h:kQ w1 R r w') (hb:Below w.heap.size w w1):kQ w R r w':=by obtain⟨qa,qc,ad,cp,e,hb1,hO⟩:=h;exact⟨qa,qc,ad,cp,e,aB hb hb1,hO⟩
end Go.Proofs.YtdidlcjhodejjaaGreat
