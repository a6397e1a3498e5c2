/-
  More of chapter 3's model: an operator of one term, the number of a monomial, so many times an operator.
-/
import Derived.Test.YtelkehjdfcoeiaaGreatMBaa
set_option maxHeartbeats 8000000
set_option maxRecDepth 100000
namespace Go.Proofs.YtelkehjdfcoeiaaGreat
open Go.RowKit
set_option linter.unusedVariables false
theorem Kg (c x y d e:Int) (w:World):Calls Tryz.prog 64 #[.int .i64 c,.agg #[.int .i64 x,.int .i64 y,.int .i64 d,.int .i64 e]] w fun r w'=>∃v,r= .returned v∧Below w.heap.size w w'∧w'.ownsRow w.heap.size 86 5 v (kK c ⟨x,y,d,e⟩).length (aE (kK c ⟨x,y,d,e⟩)):=by
 have bx:∀o:Obj,Below w.heap.size w (w.alloc o):=fun o=>(bG _ _).alloc (Nat.le_refl _) _;by_cases hc:1≤c∧c≤100
 ·obtain⟨c1,c2⟩:=hc;cases hm:M.ok ⟨x,y,d,e⟩
  ·have e1:kK c ⟨x,y,d,e⟩=[]:=by simp[kK,hm]
   rw[e1];have BX:=aA bx
   clear e1 bx;go_enter Tryz.func64,Tryz.ntmps64;go_wp2_with (go_at_call 30;refine(cX _ _ _ _ c1 c2).mono ?_;rintro r w' ⟨rfl,rfl⟩);refine(bM hm _).mono ?_;rintro r w1 ⟨rfl,hb⟩;have HB:=aA (aB (BX.out _) hb)
   clear hb;go_wp2;go_ret;exact⟨_,rfl,HB.out.alloc HB.out.size _,dA w1 _ HB.out.size⟩
  ·have e1:kK c ⟨x,y,d,e⟩=[⟨c,⟨x,y,d,e⟩⟩]:=by simp[kK,hm,c1,c2]
   rw[e1];have BX:=aA bx
   clear e1 bx;go_enter Tryz.func64,Tryz.ntmps64;go_wp2_with (go_at_call 30;refine(cX _ _ _ _ c1 c2).mono ?_;rintro r w' ⟨rfl,rfl⟩);refine(bM hm _).mono ?_;rintro r w1 ⟨rfl,hb⟩;obtain⟨hcl,hf⟩:=aN hb;have HB:=aA (aB (BX.out _) hb)
   clear hb;go_wp2;go_ret;exact⟨_,rfl,HB.out.alloc HB.out.size _,World.ownsRow_lit w1 #[.int .i64 c,.int .i64 x,.int .i64 y,.int .i64 d,.int .i64 e] 1 HB.out.size (by decide) rfl⟩
 ·have e1:kK c ⟨x,y,d,e⟩=[]:=by simp[kK,hc]
  rw[e1];have hc':c<1∨(1≤c∧100<c):=by omega
  have BX:=aA bx;clear e1 bx hc;go_enter Tryz.func64,Tryz.ntmps64;go_wp2_with (go_at_call 30;refine(eC _ _ _ _ hc').mono ?_;rintro r w' ⟨rfl,rfl⟩);go_ret;refine⟨_,rfl,(BX.out _).alloc (BX.out _).size _,?_⟩;have ho:=dA (w.alloc (.cells #[.int .i64 x,.int .i64 y,.int .i64 d,.int .i64 e] 84)) w.heap.size (BX.out _).size
  simpa using ho
theorem ZY {pa:Option Addr} {m B N:Nat} (hblk:m=0∨∃g off,pa=some ⟨g,off,none⟩∧N≤g) (hB:B<N):m=0∨∀b off,pa=some ⟨b,off,none⟩→b≠B:=hblk.imp id (fun⟨g,off,he,hg⟩ b off' hb=>by rw[he]at hb;cases hb;omega)
def Ht (w:World) (n m:Nat) (e:Ending) (w':World):Prop:=∃(a1:Option Addr) (c1:Nat) (A:List T) (b1:Option Addr) (c2:Nat) (B:List T),e= .returned (.tuple #[.slice a1 A.length c1,.slice b1 B.length c2])∧RL w' a1 c1 A∧RL w' b1 c2 B∧A.length≤n∧B.length≤m∧Below w.heap.size w w'
theorem SD {w w':World} {a1 b1:Option Addr} {n1 c1 n2 c2 n m:Nat} {f g:Nat→T} (h1:Rd w' a1 n1 c1 f) (h2:Rd w' b1 n2 c2 g) (l1:n1≤n) (l2:n2≤m) (hb:Below w.heap.size w w'):Ht w n m (.returned (.tuple #[.slice a1 n1 c1,.slice b1 n2 c2])) w':=by obtain⟨A,rfl,hA⟩:=GL h1;obtain⟨B,rfl,hB⟩:=GL h2;exact⟨_,_,A,_,_,B,rfl,hA,hB,l1,l2,hb⟩
variable {w:World} {a b:Option Addr} {ca cb:Nat} {L K:List T}
theorem Nm (ha:RL w a ca L) (hb:RL w b cb K):Calls Tryz.prog 28 #[.slice a L.length ca,.slice b K.length cb] w (JI w (lO L K)):=
 (wQ w a b L.length ca K.length cb (lf L) (lf K) ha hb).mono fun _ _ h=>TC h
theorem OI (w:World) (a:Option Addr) (len cap:Nat) (h:QC w a len cap):Calls Tryz.prog 27 #[.slice a len cap] w (Ht w 5 5):=by
 go_enter Tryz.func27,Tryz.ntmps27;go_wp2_with fail;refine(BT _ _ _ _ h).mono ?_;rintro e w1 ⟨rfl,hR1,b1⟩;have hl1:=hR1.lt
 clear h;go_wp2_with fail;refine(FU w1 _ _ 24 hR1 (by omega) (by omega) (by omega)).mono ?_;rintro e w2 ⟨pa,m,pc,f,q,rfl,hrd,hm,hblk,hq,hR2,s2⟩;have b2:=s2.below b1 (Nat.le_refl _) (by omega)
 have hne:=ZY hblk hl1;have hs2:=s2.size
 clear hR1 s2 b1 hblk;go_wp2_with fail;refine(FU w2 _ _ 24 hR2 (by omega) (by omega) (by omega)).mono ?_;rintro e w3 ⟨pa',m',pc',g,q',rfl,hrd',hm',hblk',hq',hR3,s3⟩;have b3:=s3.below b2 (Nat.le_refl _) (by omega)
 have hne':=ZY hblk' (show w.heap.size<w2.heap.size by omega);have hrd3:=hrd.beside s3 hne
 have hs3:=s3.size;clear hR2 s3 b2 hblk' hrd;go_wp2_with fail;refine(bR w3 _ _ 24 hR3 (by omega) (by omega) (by omega)).mono ?_;rintro e w4 ⟨j,rfl,j0,j1,hk⟩;have HB4:=aA (hk.beside.below b3 (Nat.le_refl _) (by omega))
 have HA4:=aA (hrd3.beside hk.beside hne);have HG4:=aA (hrd'.beside hk.beside hne')
 clear hk hR3 b3 hrd3 hrd' hne hne' hs2 hs3 hl1 hq hq';by_cases hj:j=0
 ·subst hj;go_wp2_with fail;refine(Kg 1 15 0 14 0 _).mono ?_;rintro e w5 ⟨v5,rfl,hb5,ho5⟩;have hl5:(kK 1 ⟨15,0,14,0⟩).length≤1:=by unfold kK;split<;>simp
  obtain⟨a5,c5,hv5,hout5⟩:=aI ho5 (by omega);subst hv5;have HB5:=aA (aB HB4.out hb5)
  have HA5:=aA (HA4.out.below hb5);have HR5:=aA hout5.1
  clear hb5 ho5 hout5;go_wp2;refine cD (results_tmp2 rfl _ _ _) rfl ?_;exact SD HA5.out HR5.out hm (by omega) HB5.out
 ·have hjb:(j==0)=false:=by simp[hj]
  go_wp2;refine cD (results_tmp2 rfl _ _ _) rfl ?_;exact SD HA4.out HG4.out hm hm' HB4.out
end Go.Proofs.YtelkehjdfcoeiaaGreat
namespace Go.Proofs.YtelkehjdfcoeiaaGreat
open Go.RowKit Go.Deep Go.Joins
set_option linter.unusedVariables false
set_option linter.unusedSimpArgs false
theorem YD {w:World} {a:Option Addr} {n c:Nat} {ad:Nat→Option Addr} {cp:Nat→Nat} {L:Nat→List T} (h:eQ w a n c ad (lN L) cp (fN L)) (hn:n≤100):mA w a c (eI (gK ad cp L) n):=by
 refine⟨by rw[cE];exact h.1,by rw[cE];exact hn,?_,fun e he=>?_⟩
 ·rcases h.2.2.1 with h0|⟨b,off,e1,hlt,hc⟩
  ·exact .inl (by rw[cE];exact h0)
  ·refine .inr ⟨b,off,e1,hlt,fun i e he=>?_⟩;have hi:i<n:=by have:=(List.getElem?_eq_some_iff.1 he).1;rwa[cE]at this
   have h2:=sN (gK ad cp L) hi;rw[List.getD_eq_getElem?_getD,he]at h2;have h3:e=gK ad cp L i:=h2
   rw[h3];exact hc i hi
 ·obtain⟨i,hi,rfl⟩:=List.mem_map.1 he;exact h.2.2.2 i (by simpa using hi)
theorem Dj {A B P:List T} (h:lO A B=(P,true)):cF A=true∧cF B=true:=by
 unfold lO bT at h;split at h
 ·assumption
 ·cases h
theorem Bc {n:Nat} {L:Nat→List T} {q P:List T} {B:List T} (hB:eJ n L (Rp aK B)) (h:lO q B=(P,true)):eJ n L (Rp aK P):=by rw[tL aK h];exact hB.mulRp q (AP (aD (Dj h).1).2)
theorem YJ {o:Int} {n:Nat} {L L':Nat→List T} {q P:List T} {l l':List (List T)} (h:bQ o n L=some l) (h':bQ o (n+1) L'=some l') (hn:1≤n) (hL:∀i,i<n→L' i=L i) (hP:L' n=P) (hw:lO q (L 0)=(P,true)):l=l':=by
 refine EJ h h' (fun j hj=>?_) (fun j hj=>?_)
 ·rw[←hL j hj];exact nW (by omega)
 ·by_cases e:j<n
  ·rw[hL j e];exact nW e
  ·have:j=n:=by omega
   rw[this,hP];exact Bc (nW (by omega)) hw
theorem Gs {L:Nat→List T} {ad:Nat→Option Addr} {cp:Nat→Nat} {n:Nat} {e:E} {i:Nat} (hi:i<n):bY ((eI (gK ad cp L) n++[e]).map E.p) i=L i:=by rw[oE,List.getD_eq_getElem?_getD,List.getElem?_append_left (by rw[cE];exact hi),←List.getD_eq_getElem?_getD,sN _ hi];rfl
theorem Gt {L:Nat→List T} {ad:Nat→Option Addr} {cp:Nat→Nat} {n:Nat} {e:E}:bY ((eI (gK ad cp L) n++[e]).map E.p) n=e.p:=by rw[oE,List.getD_eq_getElem?_getD,List.getElem?_append_right (by rw[cE];exact Nat.le_refl _),cE,Nat.sub_self];rfl
theorem DE (w:World) (a0:Option Addr) (len0 cap0:Nat) (s0:QC w a0 len0 cap0) (a1:Option Addr) (len1 cap1:Nat) (s1:QC w a1 len1 cap1):Calls Tryz.prog 6 #[.slice a0 len0 cap0,.slice a1 len1 cap1] w fun e w'=>e= .returned (.bool true)∧Below w.heap.size w w':=by
 by_cases c0:(1048576:Int)<(len0:Int)
 ·go_enter Tryz.func6,Tryz.ntmps6;go_wp2;go_ret;exact⟨rfl,bG _ _⟩
 by_cases c1:(1048576:Int)<(len1:Int)
 ·go_enter Tryz.func6,Tryz.ntmps6;go_wp2;go_ret;exact⟨rfl,bG _ _⟩
 go_enter Tryz.func6,Tryz.ntmps6;go_wp2_with fail;refine(DY _ _ _ _ s0).mono ?_;rintro e w1 ⟨o,a,n,c,ad,cp,L,rfl,hr,hn,b1⟩;have HR1:=aA hr
 have B1:=aA b1;have S1:=aA (s1.below b1)
 have hnI:(n:Int)≤5:=by omega
 clear s0 s1 hr b1;go_wp2_with fail;refine(OI w1 a1 len1 cap1 S1.out).mono ?_;rintro e w2 ⟨qa,qc,Q,dd,dcd,D,rfl,hQ,hD,hlQ,hlD,hb⟩;have B2:=aA (aB B1.out hb)
 have KA:=aA (HR1.out.below hb).keep;have HQ:=aA hQ
 obtain⟨ql,hql⟩:∃k,Q.length=k:=⟨_,rfl⟩
 obtain⟨dl,hdl⟩:∃k,D.length=k:=⟨_,rfl⟩
 have HQL:=aA hql;rw[hql]at hlQ⊢;rw[hdl]at hlD⊢;clear hb hQ hD HR1 B1 S1 hql hdl;obtain⟨x,hx⟩:∃x,wU (bQ o n L)=x:=⟨_,rfl⟩
 obtain⟨so,hs⟩:∃x,(bQ o n L).isSome=x:=⟨_,rfl⟩
 obtain⟨N,hN⟩:∃N,x.length=N:=⟨_,rfl⟩
 have HX:=aA hx;have HS:=aA hs
 have HN:=aA hN;clear hx hs hN;go_wp2_with fail;refine(xG (KA.out w2 (bG _ _)) HX.out HS.out).mono ?_;rintro e w3 ⟨xa,xc,xad,xcp,rfl,hb,hx⟩;have B3:=aA (aB B2.out hb)
 have BK3:=aA hb;have KX:=aA hx.keep
 clear hb hx;go_wp2_with fail;refine(YM (KA.out w3 BK3.out) HX.out HS.out).mono ?_;rintro e w4 ⟨ya,yc,yad,ycp,rfl,hb,hy⟩;have B4:=aA (aB B3.out hb)
 have KA4:=aA (KA.out.next (aB BK3.out hb));have HQ4:Hid (RL w4 qa qc Q):=Rd.below HQ.out (aB BK3.out hb)
 have KX4:=aA (KX.out.next hb);have HY4:=aA hy
 clear hb hy KA KX HQ BK3 B3 B2;go_wp2_with fail;refine(vK w4 xa ya x.length xc x.length yc _ _ _ _ (bY x) (bY x) (KX4.out w4 (bG _ _)) HY4.out).mono ?_;rw[rR];rintro e w5 ⟨rfl,hb⟩;have B5:=aA (aB B4.out hb)
 have KA5:=aA (KA4.out.next hb);have HQ5:Hid (RL w5 qa qc Q):=Rd.below HQ4.out hb
 have KX5:=aA (KX4.out.next hb);have hsb:(so !=so)=false:=by simp
 clear hb HY4 KA4 KX4 HQ4 B4;cases so
 ·go_wp2_with fail;refine(nC _).mono ?_;rintro e w6 ⟨rfl,hb⟩;have B6:=aA (aB B5.out hb)
  clear hb;go_wp2;go_ret;exact⟨rfl,B6.out⟩
 have hsome:=vM HX.out HS.out;have HSOME:=aA hsome
 obtain⟨_,_,hn13,_⟩:=iU hsome;clear hsome;by_cases hn3:n=3
 ·subst hn3;go_wp2_with fail;refine(nC _).mono ?_;rintro e w6 ⟨rfl,hb⟩;have B6:=aA (aB B5.out hb)
  clear hb;go_wp2;go_ret;exact⟨rfl,B6.out⟩
 have hn3b:((n:Int)==3)=false:=beq_eq_false_iff_ne.2 (by omega);have hn0:(0:Int)<(n:Int):=by omega
 obtain⟨b,off,rfl,hxc⟩:=KA5.out.cell (i:=0) (by omega);obtain⟨l0,hl0⟩:∃k,(L 0).length=k:=⟨_,rfl⟩
 have kc:w5.cell? ⟨b,off,none⟩=some (.slice (ad 0) l0 (cp 0)):=by have:=hxc w5 (bG _ _);rw[hl0,Nat.add_zero]at this;exact this
 obtain⟨P,ok,hw⟩:∃P ok,lO Q (L 0)=(P,ok):=⟨_,_,rfl⟩
 have hcl:=Nm (a:=qa) (ca:=qc) (b:=ad 0) (cb:=cp 0) HQ5.out ((KA5.out w5 (bG _ _)).2.2.2 0 (by omega));rw[hl0,hw,HQL.out]at hcl;have HCL:=aA hcl
 have HW:=aA hw;clear hxc hl0 hw hcl;go_wp2_with fail;refine HCL.out.mono ?_;rintro e w6 ⟨pa,pc,rfl,hb,hP⟩;have B6:=aA (aB B5.out hb)
 have KA6:=aA (KA5.out.next hb);have KX6:=aA (KX5.out.next hb)
 have HP:Hid (RL w6 pa pc P):=hP;obtain⟨pl,hpl⟩:∃k,P.length=k:=⟨_,rfl⟩
 have HPL:=aA hpl;have hplI:(pl:Int)≤140737488351232:=by have:=hP.2.1;have h2:P.length=pl:=hpl;have h3:P.length*40≤140737488351232:=this;omega
 simp only[hpl];clear hb hP HQ5 KA5 KX5 B5 HCL kc hpl;cases ok
 ·go_wp2_with fail;refine(nC _).mono ?_;rintro e w7 ⟨rfl,hb⟩;have B7:=aA (aB B6.out hb)
  clear hb;go_wp2;go_ret;exact⟨rfl,B7.out⟩
 by_cases hp0:pl=0
 ·subst hp0;go_wp2_with fail;refine(nC _).mono ?_;rintro e w7 ⟨rfl,hb⟩;have B7:=aA (aB B6.out hb)
  clear hb;go_wp2;go_ret;exact⟨rfl,B7.out⟩
 have hp0b:((pl:Int)==0)=false:=beq_eq_false_iff_ne.2 (by omega);obtain⟨es,hes⟩:∃es,eI (gK ad cp L) n=es:=⟨_,rfl⟩
 have HES:=aA hes;have hesl:es.length=n:=by rw[←hes,cE]
 have HESL:=aA hesl;have HRE:Hid (mA w6 (some ⟨b,off,none⟩) c es):=by have:=YD (KA6.out w6 (bG _ _)) (by omega);rw[hes]at this;exact this
 have HST:=aA (cT.start (w:=w6) (Nat.le_refl w6.heap.size));have HBW:=aA (aC w6 (.cells #[] 41))
 have hlo0:w6.heap.size≤(w6.alloc (.cells #[] 41)).heap.size:=HBW.out.size;have HEL0:Hid (∀e∈es,lW (w6.alloc (.cells #[] 41)) (Value.slice (some ⟨w6.heap.size,0,none⟩) 0 0).ownBlock e):=fun e he=>lW.far (HRE.out.2.2.2 e he) HBW.out (fun k hk=>(HST.out.row.lt k hk).1)
 have HNEW:Hid (∀(W:World) (tv:Value),Below w6.heap.size w6 W→cT w6.heap.size W tv es→cT w6.heap.size (W.alloc (.cells #[.slice pa pl pc] 41)) tv es∧mA (W.alloc (.cells #[.slice pa pl pc] 41)) (some ⟨W.heap.size,0,none⟩) 1 [(⟨pa,pc,P⟩:E)]∧(∀e∈[(⟨pa,pc,P⟩:E)],lW (W.alloc (.cells #[.slice pa pl pc] 41)) tv.ownBlock e)∧w6.heap.size≤(W.alloc (.cells #[.slice pa pl pc] 41)).heap.size∧Below w6.heap.size w6 (W.alloc (.cells #[.slice pa pl pc] 41))):=fun W tv hW hR=>by
  have bx:=aC W (.cells #[.slice pa pl pc] 41);refine⟨hR.below bx,?_,fun e he=>?_,(aB hW bx).size,aB hW bx⟩
  ·have:=mA.box (W:=W) (e:=(⟨pa,pc,P⟩:E)) (Rd.below HP.out hW);rw[show(⟨pa,pc,P⟩:E).v= .slice pa pl pc by show Value.slice pa P.length pc=_;rw[HPL.out]]at this;exact this
  ·rw[List.mem_singleton.1 he];exact lW.far (w:=w6) HP.out (aB hW bx) (fun k hk=>((hR.below bx).row.lt k hk).1)
 have hes1:es.length+1≤100:=by rw[hesl];omega
 clear hes hesl;go_wp2_with (first|(at_builtin;refine dR (by rfl) (.tmp 82) (.tmp 83) (by rfl) HST.out (by rfl) HESL.out (by rfl) (HRE.out.below HBW.out) HEL0.out hlo0 (by simp;omega) ?_;intro tv7 w7 r1 r2 r3;have R7:=aA (show cT w6.heap.size w7 tv7 es from r1);have B7:=aA (r2 _ _ HBW.out (Nat.le_refl _));obtain⟨p1,p2,p3,p4,p5⟩:=HNEW.out w7 tv7 B7.out R7.out;have P1:=aA p1;have P2:=aA p2;have P3:=aA p3;have P5:=aA p5;clear r1 r2 r3 p1 p2 p3 p5)|(at_builtin;refine dR (by rfl) (.tmp 84) (.tmp 86) (by rfl) P1.out (by rfl) rfl (by rfl) P2.out P3.out p4 hes1 ?_;intro tv8 w8 r1 r2 r3;have R8:=aA r1;have B8:=aA (r2 _ _ P5.out (Nat.le_refl _));clear r1 r2 r3;obtain⟨ga,gc,htv,hrd⟩:=R8.out.rd (by rw[List.length_append,HESL.out];simp;omega);rw[List.length_append,HESL.out]at htv;subst htv;have HF:=aA hrd.rds;clear hrd));have hF:=HF.out
 rw[List.length_append,HESL.out]at hF;obtain⟨L',hL'⟩:∃L',bY ((es++[(⟨pa,pc,P⟩:E)]).map E.p)=L':=⟨_,rfl⟩
 rw[hL']at hF;have hF1:eQ w8 ga (n+1) gc _ (lN L') _ (fN L'):=hF
 have HF8:=aA hF1;have hLe:∀i,i<n→L' i=L i:=fun i hi=>by rw[←hL',←HES.out];exact Gs hi
 have hLn:L' n=P:=by rw[←hL',←HES.out];exact Gt
 have HLE:=aA hLe;have HLN:=aA hLn
 clear hF hF1 hL' hLe hLn HF R8 P1 P2 P3 P5 HNEW HEL0 HST HRE;obtain⟨y,hy⟩:∃x,wU (bQ o (n+1) L')=x:=⟨_,rfl⟩
 obtain⟨sy,hsy⟩:∃x,(bQ o (n+1) L').isSome=x:=⟨_,rfl⟩
 have HYY:=aA hy;have HSY:=aA hsy
 clear hy hsy;have KX8:=aA (KX6.out.next B8.out)
 have B68:=aA (aB B6.out B8.out);clear KX6 KA6 B6;have HC9:Hid (Calls Tryz.prog 17 #[.int .i64 o,.slice ga (n+1) gc] w8 (XB w8 y sy)):=xG HF8.out HYY.out HSY.out
 go_wp2_with fail;refine HC9.out.mono ?_;rintro e w9 ⟨za,zc,zad,zcp,rfl,hb,hz⟩;have B9:=aA (aB B68.out hb)
 have KX9:=aA (KX8.out.next hb);have HZ:=aA hz
 clear hb hz HC9 KX8 B68;cases sy
 ·go_wp2;go_ret;exact⟨rfl,B9.out⟩
 ·have hxy:x=y:=YJ HSOME.out (vM HYY.out HSY.out) (by omega) HLE.out HLN.out HW.out;have HC10:Hid (Calls Tryz.prog 19 #[.slice xa x.length xc,.slice za y.length zc] w9 (NX w9 (.bool true))):=by have:=vK w9 xa za x.length xc y.length zc _ _ _ _ (bY x) (bY y) (KX9.out w9 (bG _ _)) HZ.out;rw[←hxy]at this⊢;rw[rR]at this;exact this
  have HCT:=aA HC10.out;clear hxy HC10;go_wp2_with fail;refine HCT.out.mono ?_;rintro e w10 ⟨rfl,hb⟩;have B10:=aA (aB B9.out hb)
  clear hb;go_wp2;go_ret;exact⟨rfl,B10.out⟩
end Go.Proofs.YtelkehjdfcoeiaaGreat
