/-
  The walk of FnGrbLeast: whatever the code, it comes out true, and nothing that was there is turned.
-/
import Derived.Test.YtdidlcjhodejjaaGreatMKac
import Derived.Test.YtdidlcjhodejjaaGreatMSab
set_option maxHeartbeats 16000000
set_option maxRecDepth 100000
namespace Go.Proofs.YtdidlcjhodejjaaGreat
open Go.RowKit Go.Deep Go.Joins
set_option linter.unusedVariables false
set_option linter.unusedSimpArgs false
def Sv (w:World) (e:Ending) (w':World):Prop:=∃(o:Int) (a:Option Addr) (n c:Nat) (ad:Nat→Option Addr) (cp:Nat→Nat) (L:Nat→List T),e= .returned (.tuple #[.int .i64 o,.slice a n c])∧cZ w' a n c ad (lN L) cp (fN L)∧n≤12∧Below w.heap.size w w'
theorem XE (w:World) (a:Option Addr) (len cap:Nat) (h:WM w a len cap):Calls Tryz.prog 33 #[.slice a len cap] w (Sv w):=by
 go_enter Tryz.func33,Tryz.ntmps33;go_wp2_with fail;refine(DA _ _ _ _ h).mono ?_;rintro e w1 ⟨rfl,hR1,b1⟩;have hl1:=hR1.lt
 clear h;go_wp2_with fail;refine(BJ w1 _ _ hR1 (by omega)).mono ?_;rintro e w2 ⟨o,la,n,lc,lad,lcp,L,q2,rfl,hr2,hn12,hq2,hR2,s2⟩;have b2:=s2.below b1 (Nat.le_refl _) (by omega)
 have HL2:=aA hr2;have HB2:=aA b2
 clear hR1 s2 b1 hr2 b2 hR2;go_wp2;refine bY (v:=.tuple #[.int .i64 o,.slice la n lc]) (by simp[results,Tryz.results33,go_sem, *]) rfl ?_;exact⟨o,la,n,lc,lad,lcp,L,rfl,HL2.out.1,hn12,HB2.out⟩
theorem Cv {W:World} {o:Int} {a:Option Addr} {c:Nat} {p:List T} (ho:1≤o∧o≤3) (h:RL W a c p) (hp:cG p=true) (h0:p.length≠0) {t:T} (ht:aV o p=t):Calls Tryz.prog 23 #[.int .i64 o,.slice a p.length c] W fun r w'=>r= .returned (.tuple #[.agg #[.int .i64 t.c,.int .i64 t.m.x,.int .i64 t.m.y,.int .i64 t.m.d,.int .i64 t.m.e],.bool true])∧Below W.heap.size W w':=by
 have e1:bF o p.length (lf p)=true:=fT.2 ⟨ho,hp,fun e=>h0 (by rw[e];rfl)⟩;have t1:bQ o p.length (lf p)=aV o p:=dP e1
 have:=kV W o a p.length c (lf p) h;rw[t1,e1,ht]at this;exact this
def Pf (w:World) (a:Option Addr) (n c:Nat) (ad:Nat→Option Addr) (cp:Nat→Nat) (L:Nat→List T):Prop:=∀W,Below w.heap.size w W→cZ W a n c ad (lN L) cp (fN L)
theorem AF (w:World) (a0:Option Addr) (len0 cap0:Nat) (s0:WM w a0 len0 cap0):Calls Tryz.prog 8 #[.slice a0 len0 cap0] w fun e w'=>e= .returned (.bool true)∧Below w.heap.size w w':=by
 by_cases c0:(1048576:Int)<(len0:Int)
 ·go_enter Tryz.func8,Tryz.ntmps8;go_wp2;go_ret;exact⟨rfl,bL _ _⟩
 go_enter Tryz.func8,Tryz.ntmps8;go_wp2_with fail;refine(XE _ _ _ _ s0).mono ?_;rintro e w1 ⟨o,a,n,c,ad,cp,L,rfl,hr,hn,b1⟩;have HR:=aA hr
 have HB:=aA b1;have hnI:(n:Int)≤12:=by omega
 clear s0 hr b1;obtain⟨R,hR⟩:∃R,aU o n L=R:=⟨_,rfl⟩
 have HRR:=aA hR;have hbd:=CO (o:=o) (n:=n) (L:=L)
 rw[hR]at hbd;obtain⟨l,hl⟩:∃l,IE R=l:=⟨_,rfl⟩
 obtain⟨so,hso⟩:∃s,R.isSome=s:=⟨_,rfl⟩
 rw[hl]at hbd;obtain⟨N,hN⟩:∃N,l.length=N:=⟨_,rfl⟩
 have HN:=aA hN;have hN12:N≤12:=by rw[←hN];exact hbd.1
 have hNI:(N:Int)≤12:=by omega
 have HCI:Hid (∀W,cZ W a n c ad (lN L) cp (fN L)→Calls Tryz.prog 12 #[.int .i64 o,.slice a n c] W fun r w'=>∃qa qc qad qcp Rb B,r= .returned (.tuple #[.slice qa N qc,.bool so])∧Below W.heap.size W w'∧iL W.heap.size w' qa N qc qad (lN (bC l)) qcp (fN (bC l)) Rb B):=fun W hW=>by
  have:=kK W o a n c ad cp L hW;rw[hR]at this;refine this.mono fun r w' h=>?_;have h2:kP W R r w':=rU.all h
  unfold kP at h2;rw[hl,hso,hN]at h2;exact h2
 have HCS:Hid (∀W,cZ W a n c ad (lN L) cp (fN L)→Calls Tryz.prog 10 #[.int .i64 o,.slice a n c] W fun r w'=>∃qa qc qad qcp,r= .returned (.tuple #[.slice qa N qc,.bool so])∧Below W.heap.size W w'∧cZ w' qa N qc qad (lN (bC l)) qcp (fN (bC l))):=fun W hW=>by
  have:=yF W o a n c ad cp L hW;rw[hR]at this;refine this.mono fun r w' h=>?_;have h2:kQ W R r w':=uM.all h
  unfold kQ at h2;rw[hl,hso,hN]at h2;exact h2
 have HL:=aA hl;have HSO:=aA hso
 clear hR hl hso hN hbd;go_wp2_with fail;refine(HCI.out w1 HR.out).mono ?_;rintro e w2 ⟨xa,xc,xad,xcp,Rb,B,rfl,hb2,hx2⟩;have HB2:=aA (aB HB.out hb2)
 have HR2:=aA (HR.out.below hb2);have HX2:=aA hx2.rd
 clear hb2 hx2 HR HB HCI;go_wp2_with fail;refine(HCS.out w2 HR2.out).mono ?_;rintro e w3 ⟨ya,yc,yad,ycp,rfl,hb3,hy3⟩;have HB3:=aA (aB HB2.out hb3)
 have HR3:=aA (HR2.out.below hb3);have HX3:=aA (HX2.out.below hb3)
 have HY3:=aA hy3;clear hb3 hy3 HR2 HB2 HX2 HCS;go_wp2_with fail;refine(UB w3 xa ya N xc N yc _ _ _ _ (bC l) (bC l) HX3.out HY3.out).mono ?_;rw[NM];rintro e w4 ⟨rfl,hb4⟩;have HB4:=aA (aB HB3.out hb4)
 have KR:Hid (Pf w4 a n c ad cp L):=fun W hW=>(HR3.out.below hb4).below hW;have KX:Hid (Pf w4 xa N xc xad xcp (bC l)):=fun W hW=>(HX3.out.below hb4).below hW
 have hsb:(so !=so)=false:=by simp
 clear hb4 HR3 HB3 HX3 HY3;cases R with
 |none=>
  have hso:so=false:=HSO.out.symm;have hl0:l=[]:=HL.out.symm
  have hN0:N=0:=by rw[←HN.out,hl0];rfl
  subst hso hN0;go_wp2_with fail;refine(mO _).mono ?_;rintro e w5 ⟨rfl,hb5⟩;have HB5:=aA (aB HB4.out hb5)
  clear hb5;go_wp2;go_ret;exact⟨rfl,HB5.out⟩
 |some l'=>
  have hso:so=true:=HSO.out.symm;have hll:l'=l:=HL.out
  subst hso hll;have hLE:=iZ HRR.out
  have HLE:=aA hLE;have ho:=hLE.ho
  have HOKA:=aA hLE.ok;clear hLE;have HLD:Hid (∀i,i<N→∀W,Below w4.heap.size w4 W→Calls Tryz.prog 23 #[.int .i64 o,.slice (xad i) (bC l' i).length (xcp i)] W fun r w'=>r= .returned (.tuple #[.agg #[.int .i64 1,.int .i64 (oT o (bC l' i)).x,.int .i64 (oT o (bC l' i)).y,.int .i64 (oT o (bC l' i)).d,.int .i64 (oT o (bC l' i)).e],.bool true])∧Below W.heap.size W w'):=fun i hi W hW=>by
   have hm:=HOKA.out _ (eY (l:=l') (i:=i) (by rw[HN.out];exact hi));have:=Cv (W:=W) (a:=xad i) (c:=xcp i) (p:=bC l' i) ho ((KX.out W hW).2.2.2 i hi) hm.1 hm.2 rfl
   rw[HLE.out.one i (by rw[HN.out];exact hi)]at this;exact this
  have HXC:Hid (∀i,i<N→∃b off,xa=some ⟨b,off,none⟩∧∀W,Below w4.heap.size w4 W→W.cell? ⟨b,off+i,none⟩=some (.slice (xad i) (bC l' i).length (xcp i))):=fun i hi=>by obtain⟨b,off,e,hb,hc⟩:=(KX.out w4 (bL _ _)).2.2.1.resolve_left (by omega);exact⟨b,off,e,fun W hW=>(hW.cell (p:=⟨b,off+i,none⟩) hb).trans (hc i hi)⟩
  have HRC:Hid (∀i,i<n→∃b off,a=some ⟨b,off,none⟩∧∀W,Below w4.heap.size w4 W→W.cell? ⟨b,off+i,none⟩=some (.slice (ad i) (L i).length (cp i))):=fun i hi=>by obtain⟨b,off,e,hb,hc⟩:=(KR.out w4 (bL _ _)).2.2.1.resolve_left (by omega);exact⟨b,off,e,fun W hW=>(hW.cell (p:=⟨b,off+i,none⟩) hb).trans (hc i hi)⟩
  obtain⟨es,hes⟩:∃es,eH (gK xad xcp (bC l')) N=es:=⟨_,rfl⟩
  have hesl:es.length=N:=by rw[←hes,cH]
  have hesp:es.map E.p=l':=by
   rw[←hes];unfold eH;rw[List.map_map];have:=GL l'
   rw[HN.out]at this;exact this
  have HESL:=aA hesl;have HESP:=aA hesp
  have HRDE:Hid (∀W,Below w4.heap.size w4 W→nG W xa xc es):=fun W hW=>by have:=MN (KX.out W hW) (by omega);rw[hes]at this;exact this
  have hNc:N≤xc:=(KX.out w4 (bL _ _)).1;have hNcI:(N:Int)≤(xc:Int):=by omega
  clear hes hesl hesp HSO HL;go_wp2;go_loopw [9] (fun v wr=>∃i:Nat,i≤N∧v= .int .i64 (i:Int)∧Below w4.heap.size w4 wr) (fun v _=>N-(intOf v).toNat);case atStart=>exact⟨0,Nat.zero_le _,rfl,bL _ _⟩
  case round=>
   obtain⟨i,hi,rfl,hBr⟩:=hrel;have HBR:=aA hBr
   clear hBr;by_cases hit:i<N
   ·have hiI:(i:Int)<(N:Int):=by omega
    obtain⟨b,off,rfl,hxc⟩:=HXC.out i hit;have HXI:=aA hxc
    obtain⟨xl,hxl⟩:∃xl,(bC l' i).length=xl:=⟨_,rfl⟩
    have HXL:=aA hxl;obtain⟨m,hm⟩:∃m,oT o (bC l' i)=m:=⟨_,rfl⟩
    have HM:=aA hm;have kx:wr.cell? ⟨b,off+i,none⟩=some (.slice (xad i) xl (xcp i)):=by rw[←hxl];exact hxc wr HBR.out
    have hcl:=HLD.out i hit wr HBR.out;rw[hxl,hm]at hcl;have HCL:=aA hcl
    clear hxc hxl hm hcl;go_wp2_with fail;refine HCL.out.mono ?_;rintro e w5 ⟨rfl,hb5⟩;have bx5:=aC w5 (.cells #[.int .i64 1,.int .i64 m.x,.int .i64 m.y,.int .i64 m.d,.int .i64 m.e] 42)
    have HB5:=aA (aB (aB HBR.out hb5) bx5);have HX5:=aA (C5.box w5 42 ⟨1,m⟩)
    clear hb5 bx5 kx HCL;go_wp2_with fail;obtain⟨B5,hB5⟩:∃B5,w5.heap.size=B5:=⟨_,rfl⟩
    have hlt5:B5<(w5.alloc (.cells #[.int .i64 1,.int .i64 m.x,.int .i64 m.y,.int .i64 m.d,.int .i64 m.e] 42)).heap.size:=by rw[←hB5];simp
    generalize(w5.alloc (.cells #[.int .i64 1,.int .i64 m.x,.int .i64 m.y,.int .i64 m.d,.int .i64 m.e] 42))=w6 at HB5 HX5 hlt5⊢;rw[hB5]at HX5⊢;clear hB5;have hi1:(i:Int)+1≤(N:Int):=by omega
    have hic:(i:Int)≤(xc:Int):=by omega
    have hwi:IntKind.i64.wrap ((i:Int)+1)=(i:Int)+1:=by rw[IntKind.wrap_i64];omega
    have ei:((i:Int)+1).toNat=i+1:=by omega
    have hi0':¬((i:Int)+1<0):=by omega
    have hi2:i+1≤N:=by omega
    have HT1:Hid ((es.take i).length=i):=by show _=_;rw[List.length_take,HESL.out];omega
    have HT2:Hid ((es.drop (i+1)).length=N-(i+1)):=by show _=_;rw[List.length_drop,HESL.out]
    have BW6:=HB5.out.size;have HBX:=aA (aC w6 (.cells #[] 45)).drew
    have HRX:Hid (dA w6.heap.size (w6.alloc (.cells #[] 45)).drew (.slice (some ⟨w6.heap.size,0,none⟩) 0 0) []):=(dA.start (Nat.le_refl _)).below (bL _ _).drew;have hlx0:w6.heap.size≤(w6.alloc (.cells #[] 45)).drew.heap.size:=HBX.out.size
    have HOWN:Hid (∀(W:World) (tv:Value) (es':List E),dA w6.heap.size W tv es'→∀k,tv.ownBlock=some k→w6.heap.size≤k):=fun W tv es' h k hk=>(h.row.lt k hk).1;have HEL:Hid (∀(W:World) (tv:Value),Below w6.heap.size w6 W→(∀k,tv.ownBlock=some k→w6.heap.size≤k)→∀e∈es,mU W tv.ownBlock e):=fun W tv hW hk e he=>mU.far (w:=w6) ((HRDE.out w6 HB5.out).2.2.2 e he) hW hk
    have HEL1:Hid (∀(W:World) (tv:Value),Below w6.heap.size w6 W→(∀k,tv.ownBlock=some k→w6.heap.size≤k)→∀e∈es.take i,mU W tv.ownBlock e):=fun W tv hW hk e he=>HEL.out W tv hW hk e (List.mem_of_mem_take he);have HEL2:Hid (∀(W:World) (tv:Value),Below w6.heap.size w6 W→(∀k,tv.ownBlock=some k→w6.heap.size≤k)→∀e∈es.drop (i+1),mU W tv.ownBlock e):=fun W tv hW hk e he=>HEL.out W tv hW hk e (List.mem_of_mem_drop he)
    have HTK:Hid (∀W,Below w6.heap.size w6 W→nG W (some ⟨b,off,none⟩) xc (es.take i)):=fun W hW=>(HRDE.out W (aB HB5.out hW)).takeE (by rw[HESL.out];omega);have HDR:Hid (∃da dc dl,(es.drop (i+1)).length=dl∧(∀W,Below w6.heap.size w6 W→nG W da dc (es.drop (i+1)))∧((xc=i+1∧da=some ⟨b,off,none⟩∧dc=0∧dl=0)∨(xc≠i+1∧da=some ⟨b,off+(i+1),none⟩∧dc=xc-(i+1)∧dl=N-(i+1)))):=by
     by_cases hce:xc=i+1
     ·refine⟨some ⟨b,off,none⟩,0,0,by rw[HT2.out];omega,fun W hW=>?_,.inl ⟨hce,rfl,rfl,rfl⟩⟩;have:es.drop (i+1)=[]:=List.drop_eq_nil_of_le (by rw[HESL.out];omega)
      rw[this];exact⟨Nat.le_refl _,Nat.zero_le _,.inl rfl,fun e he=>by cases he⟩
     ·exact⟨_,_,_,HT2.out,fun W hW=>(HRDE.out W (aB HB5.out hW)).dropE (k:=i+1) (by rw[HESL.out];omega),.inr ⟨hce,rfl,rfl,rfl⟩⟩
    have HOTH:Hid ((eN es i).length=N-1):=by show _=_;rw[jF (by rw[HESL.out];exact hit),HESL.out]
    have HFREE:Hid (∀(W:World) (oa:Option Addr) (oc:Nat),Below w6.heap.size w6 W→nG W oa oc (eN es i)→Calls Tryz.prog 35 #[.int .i64 o,.slice (xad i) xl (xcp i),.slice oa (N-1) oc] W fun r w'=>r= .returned (.bool true)∧Below W.heap.size W w'):=fun W oa oc hW hR=>by
     have h3:=hR.rds;rw[HOTH.out,DB,HESP.out]at h3;have:=Fb W o (xad i) (bC l' i).length (xcp i) (lf (bC l' i)) ((KX.out W (aB HB5.out hW)).2.2.2 i hit) oa (N-1) oc _ _ _ _ h3
     have e:=FA HLE.out (i:=i) (by rw[HN.out];exact hit);rw[jF (by rw[HN.out];exact hit),HN.out]at e;rw[e,HXL.out]at this;exact this
    obtain⟨da,dc,dl,hdl,hdr,hcase⟩:=HDR.out;have HDL:=aA hdl
    have HLEN:Hid (([]++es.take i).length+dl≤100):=by show([]++es.take i).length+dl≤100;rw[List.nil_append,HT1.out,←hdl,HT2.out];omega
    clear hdl;have HDD:=aA hdr
    clear hdr HDR;rcases hcase with⟨hce,rfl,rfl,rfl⟩|⟨hce,rfl,rfl,rfl⟩
    all_goals
     (try(have hceI:(xc:Int)=(i:Int)+1:=by omega))
     (try subst hce)
     have hic2:(i:Int)≤(i:Int)+1:=by omega
     have hi10:(0:Int)≤(i:Int)+1:=by omega
     go_region_law (first|(refine rI (by rfl) (.tmp 75) (.tmp 78) (by rfl) HRX.out (by rfl) HT1.out (by rfl) (HTK.out _ HBX.out) (HEL1.out _ _ HBX.out (HOWN.out _ _ _ HRX.out)) hlx0 (by simp;omega) ?_;intro tv1 w7 r1 r2 r3;have RR1:=aA r1;have BB1:=aA (r2 _ _ HBX.out (Nat.le_refl _));have hx4:=BB1.out.size;have rn1:=HLEN.out;clear r1 r2 r3)|(refine rI (by rfl) (.tmp 79) (.tmp 83) (by rfl) RR1.out (by rfl) HDL.out (by rfl) (HDD.out _ BB1.out) (HEL2.out _ _ BB1.out (HOWN.out _ _ _ RR1.out)) hx4 rn1 ?_;intro tv2 w8 r1 r2 r3;have RR2:=aA r1;have BB2:=aA (r2 _ _ BB1.out (Nat.le_refl _));clear r1 r2 r3))
     have RR3:Hid (dA w6.heap.size w8 tv2 (eN es i)):=RR2.out;try clear hceI
     clear hic2 hi10;obtain⟨oa,oc,hov,hrdo⟩:=RR3.out.rd (by rw[HOTH.out];omega);rw[HOTH.out]at hov;subst hov;have HC8:=aA (HFREE.out w8 oa oc BB2.out hrdo)
     have hx8:=HXI.out w8 (aB HB5.out BB2.out);rw[HXL.out]at hx8;obtain⟨z0,z1,z2,z3,z4⟩:=HX5.out.below BB2.out;have hn1:((1:Int)!=1)=false:=by simp
     clear hrdo hlx0 hx4 rn1;go_wp2_with fail;refine HC8.out.mono ?_;rintro e w9 ⟨rfl,hb9⟩;have HB9:=aA (aB (aB HB5.out BB2.out) hb9)
     have HX9:=aA ((HX5.out.below BB2.out).below hb9);clear hb9 HC8 hx8 z0 z1 z2 z3 z4;obtain⟨p,hp⟩:∃p,i-1=p:=⟨_,rfl⟩
     have hpN:p<N:=by omega
     have hpNI:(p:Int)<(N:Int):=by omega
     have hwp:IntKind.i64.wrap ((i:Int)-1)=(i:Int)-1:=by rw[IntKind.wrap_i64];omega
     have hmx1:max ((i:Int)-1) 0=(p:Int):=by omega
     have hmx2:(if(i:Int)-1<0 then 0 else(i:Int)-1)=(p:Int):=by split<;>omega
     obtain⟨pl,hpl⟩:∃pl,(bC l' p).length=pl:=⟨_,rfl⟩
     obtain⟨pm,hpm⟩:∃pm,oT o (bC l' p)=pm:=⟨_,rfl⟩
     have HPM:=aA hpm;obtain⟨b',off',eb,hpc⟩:=HXC.out p hpN;cases eb;have kp:w9.cell? ⟨b,off+p,none⟩=some (.slice (xad p) pl (xcp p)):=by rw[←hpl];exact hpc w9 HB9.out
     have hcp:=HLD.out p hpN w9 HB9.out;rw[hpl,hpm]at hcp;have HCP:=aA hcp
     have HCM:Hid (0<i→∃z,z<0∧∀W:World,Calls Tryz.prog 36 #[.int .i64 o,.agg #[.int .i64 pm.x,.int .i64 pm.y,.int .i64 pm.d,.int .i64 pm.e],.agg #[.int .i64 m.x,.int .i64 m.y,.int .i64 m.d,.int .i64 m.e]] W fun r w'=>r= .returned (.int .i64 z)∧Below W.heap.size W w'):=fun h0=>by have hz:=XZ HLE.out (i:=p) (j:=i) (by omega) (by rw[HN.out];exact hit);rw[HPM.out,HM.out]at hz;exact⟨_,hz,fun W=>SC (x:=pm.x) (y:=pm.y) (d:=pm.d) (e:=pm.e) (x':=m.x) (y':=m.y) (d':=m.d) (e':=m.e) rfl W⟩
     clear hp hpl hpm hpc hcp;go_wp2_with fail;refine HCP.out.mono ?_;rintro e w10 ⟨rfl,hb10⟩;have bx10:=aC w10 (.cells #[.int .i64 1,.int .i64 pm.x,.int .i64 pm.y,.int .i64 pm.d,.int .i64 pm.e] 42)
     have HB10:=aA (aB (aB HB9.out hb10) bx10);obtain⟨y0,y1,y2,y3,y4⟩:=C5.box w10 42 ⟨1,pm⟩;obtain⟨z0,z1,z2,z3,z4⟩:=(HX9.out.below hb10).below bx10;clear hb10 bx10 kp HCP HX9;by_cases h0:0<i
     ·have h0I:(0:Int)<(i:Int):=by omega
      have h0b:(i:Int)>0:=h0I;obtain⟨z,hz,hcz⟩:=HCM.out h0;have HCZ:=aA hcz
      have hz2:¬(0≤z):=by omega
      have hz3:¬(z≥0):=by omega
      clear hcz;go_wp2_with fail;refine(HCZ.out _).mono ?_;rintro e w11 ⟨rfl,hb11⟩;have HB11:=aA (aB HB10.out hb11)
      clear hb11;go_wp2;go_roundw;case rel=>exact⟨i+1,by omega,by go_num,HB11.out⟩
      case measure=>simp[intOf];omega
     ·have h0I:¬(0:Int)<(i:Int):=by omega
      have h0b:¬(i:Int)>0:=h0I;go_wp2;go_roundw;case rel=>exact⟨i+1,by omega,by go_num,HB10.out⟩
      case measure=>simp[intOf];omega
   ·have hiI:¬(i:Int)<(N:Int):=by omega
    obtain⟨wo,hwo⟩:∃x,x=wr:=⟨_,rfl⟩
    subst hwo;clear hi hit;have hag:=kK wo o xa N xc _ _ (bC l') (KX.out wo HBR.out)
    have e2:=CB HRR.out;rw[HN.out]at e2;rw[e2]at hag;have HAG:=aA hag
    clear hag e2;go_wp2_with fail;refine HAG.out.mono ?_;rintro e w5 hh5;obtain⟨ga,gc,gad,gcp,Rb5,Bb5,rfl,hb5,hO5⟩:=rU.all hh5;have hO5':cZ w5 ga l'.length gc gad (lN (bC l')) gcp (fN (bC l')):=hO5.rd
    rw[HN.out]at hO5';have HB5:=aA (aB HBR.out hb5)
    have HO5:=aA hO5';simp only[IE,Option.isSome];rw[HN.out];clear hh5 hb5 hO5 hO5' HAG;go_wp2_with fail;refine(UB w5 ga xa N gc N xc _ _ _ _ (bC l') (bC l') HO5.out (KX.out w5 HB5.out)).mono ?_;rw[NM];rintro e w6 ⟨rfl,hb6⟩;have HB6:=aA (aB HB5.out hb6)
    clear hb6 HO5;obtain⟨gk,hgk⟩:∃g,CD o n L=g:=⟨_,rfl⟩
    have HGK:=aA hgk;go_wp2_with fail;refine(Nb w6 o a n c ad cp L (KR.out w6 HB6.out)).mono ?_;rw[hgk];rintro e w7 ⟨rfl,hb7⟩;have HB7:=aA (aB HB6.out hb7)
    clear hb7 hgk;cases gk
    ·go_wp2_with fail;refine(mO _).mono ?_;rintro e w8 ⟨rfl,hb8⟩;have HB8:=aA (aB HB7.out hb8)
     clear hb8;go_wp2;go_ret;exact⟨rfl,aB HB4.out HB8.out⟩
    ·have HBAS:=aA (Mm HGK.out).1;have HG1:Hid (∀(W:World) (j:Nat),j<n→Below w4.heap.size w4 W→∃g f,(f=true→g=true)∧Calls Tryz.prog 28 #[.int .i64 o,.slice xa N xc,.slice (ad j) (L j).length (cp j)] W fun r w'=>r= .returned (.tuple #[.bool g,.bool f])∧Below W.heap.size W w'):=fun W j hj hW=>by
      obtain⟨S,hS⟩:∃S,aW o (L j) N (lN (bC l')) (fN (bC l'))=S:=⟨_,rfl⟩
      refine⟨FZ S,S.isSome,fun hf=>?_,JG W o (ad j) (cp j) (L j) xa N xc _ _ _ _ ((KR.out W hW).2.2.2 j hj) (KX.out W hW) hS⟩;cases S with
      |none=>cases hf
      |some D=>exact UA (RN HBAS.out HRR.out (by rw[HN.out];exact hS) (IR hj))
     have HG2:Hid (∀(W:World) (j:Nat),j<N→Below w4.heap.size w4 W→∃g f,(f=true→g=true)∧Calls Tryz.prog 28 #[.int .i64 o,.slice a n c,.slice (xad j) (bC l' j).length (xcp j)] W fun r w'=>r= .returned (.tuple #[.bool g,.bool f])∧Below W.heap.size W w'):=fun W j hj hW=>by
      obtain⟨S,hS⟩:∃S,aW o (bC l' j) n (lN L) (fN L)=S:=⟨_,rfl⟩
      refine⟨FZ S,S.isSome,fun hf=>?_,JG W o (xad j) (xcp j) (bC l' j) a n c _ _ _ _ ((KX.out W hW).2.2.2 j hj) (KR.out W hW) hS⟩;cases S with
      |none=>cases hf
      |some D=>exact UA (HBAS.out.left hS (uD HRR.out _ (eY (by rw[HN.out];exact hj))))
     clear HBAS HGK;go_wp2;go_loopw [17] (fun v wr=>∃i:Nat,i≤n∧v= .int .i64 (i:Int)∧Below w7.heap.size w7 wr) (fun v _=>n-(intOf v).toNat);case atStart=>exact⟨0,Nat.zero_le _,rfl,bL _ _⟩
     case round=>
      obtain⟨i,hi,rfl,hBr⟩:=hrel;have HB8:=aA (aB HB7.out hBr)
      have HBR8:=aA hBr;clear hBr;by_cases hit:i<n
      ·have hiI:(i:Int)<(n:Int):=by omega
       obtain⟨b,off,rfl,hxc⟩:=HRC.out i hit;obtain⟨pl,hpl⟩:∃pl,(L i).length=pl:=⟨_,rfl⟩
       have kx:wr.cell? ⟨b,off+i,none⟩=some (.slice (ad i) pl (cp i)):=by rw[←hpl];exact hxc wr HB8.out
       obtain⟨g,f,hgf,hcl⟩:=HG1.out wr i hit HB8.out;rw[hpl]at hcl;have HCL:=aA hcl
       clear hxc hpl hcl;go_wp2_with fail;refine HCL.out.mono ?_;rintro e w9 ⟨rfl,hb9⟩;have HB9:=aA (aB HBR8.out hb9)
       clear hb9 kx;cases f
       ·clear hgf;go_wp2;go_roundw;case rel=>exact⟨i+1,by omega,by go_num,HB9.out⟩
        case measure=>simp[intOf];omega
       ·have hg:=hgf rfl;subst hg;go_wp2;go_roundw;case rel=>exact⟨i+1,by omega,by go_num,HB9.out⟩
        case measure=>simp[intOf];omega
      ·have hiI:¬(i:Int)<(n:Int):=by omega
       obtain⟨w8,hw8⟩:∃x,x=wr:=⟨_,rfl⟩
       subst hw8;clear HBR8;go_wp2;go_loopw [20] (fun v wr=>∃i:Nat,i≤N∧v= .int .i64 (i:Int)∧Below w8.heap.size w8 wr) (fun v _=>N-(intOf v).toNat);case atStart=>exact⟨0,Nat.zero_le _,rfl,bL _ _⟩
       case round=>
        obtain⟨j,hj,rfl,hBr⟩:=hrel;have HB9:=aA (aB HB8.out hBr)
        have HBR9:=aA hBr;clear hBr;by_cases hjt:j<N
        ·have hjI:(j:Int)<(N:Int):=by omega
         obtain⟨b,off,rfl,hxc⟩:=HXC.out j hjt;obtain⟨pl,hpl⟩:∃pl,(bC l' j).length=pl:=⟨_,rfl⟩
         have kx:wr.cell? ⟨b,off+j,none⟩=some (.slice (xad j) pl (xcp j)):=by rw[←hpl];exact hxc wr HB9.out
         obtain⟨g,f,hgf,hcl⟩:=HG2.out wr j hjt HB9.out;rw[hpl]at hcl;have HCL:=aA hcl
         clear hxc hpl hcl;go_wp2_with fail;refine HCL.out.mono ?_;rintro e w10 ⟨rfl,hb10⟩;have HB10:=aA (aB HBR9.out hb10)
         clear hb10 kx;cases f
         ·clear hgf;go_wp2;go_roundw;case rel=>exact⟨j+1,by omega,by go_num,HB10.out⟩
          case measure=>simp[intOf];omega
         ·have hg:=hgf rfl;subst hg;go_wp2;go_roundw;case rel=>exact⟨j+1,by omega,by go_num,HB10.out⟩
          case measure=>simp[intOf];omega
        ·have hjI:¬(j:Int)<(N:Int):=by omega
         clear HBR9;go_wp2;go_ret;exact⟨rfl,aB HB4.out HB9.out⟩
end Go.Proofs.YtdidlcjhodejjaaGreat
