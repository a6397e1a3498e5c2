/-
  A pair of a basis is looked at: the model's l9Step.
  IdlRest: the program and the model.
  A basis is made: the model's GrbMake.
-/
import Derived.Test.YtmlaedpamobmhaaGreatMBaa
import Derived.Test.YtmlaedpamobmhaaGreatMbn
import Derived.Deep.LoopGhost
set_option maxHeartbeats 8000000
set_option maxRecDepth 100000
namespace Go.Proofs.YtmlaedpamobmhaaGreat
open Go.RowKit Go.Deep Go.Joins
set_option linter.unusedVariables false
section
variable {w1 u u':World} {bx:Nat} {lv:Value} {lb x y:Nat} {v1 v2:Value}
end
end Go.Proofs.YtmlaedpamobmhaaGreat
namespace Go.Proofs.YtmlaedpamobmhaaGreat
open Go.RowKit Go.Deep Go.Joins
set_option linter.unusedVariables false
set_option linter.unusedSimpArgs false
theorem Bu (w:World) (a:Option Addr) (c:Nat) (L:List T) (h:Rd w a L.length c (lf L)) (h0:L.length≠0) (hl:L.length≤400):Calls Tryz.prog 82 #[.slice a L.length c] w fun r w'=>∃a' c',r= .returned (.slice a' L.length c')∧Below w.heap.size w w'∧iA w.heap.size w' a' c' L:=by
 obtain⟨i0,hi0,hz0,hz1,hz2⟩:=info_parts vU;obtain⟨b,off,rfl,hb,_⟩:=h.2.2.resolve_left h0;have hL:(L.length:Int)≤400:=by omega
 have hown:=yL w;have HO:=aA hown
 have hnews:∀j u,(aE L)[j]? =some u→(w.alloc (.cells #[] 54)).cell? ((⟨b,off,none⟩:Addr).add j)=some u:=EM (h.below (aC w _))
 have hone:∀u∈aE L,u.oneCell'=true:=lF L;have hnil:∀W:World,(binOp BinOp.eql 35 (Value.slice (some ⟨b,off,none⟩) L.length c) (Value.slice none 0 0)).run Tryz.prog W= .ok (.bool false) W:=fun W=>by first|rfl|kernel_rfl|simp[binOp,go_sem]
 clear h;go_enter Tryz.func82,Tryz.ntmps82;go_wp2_with (at_builtin;refine wpList_append_lies _ rfl (.tmp 5) (.tmp 6) 35 rfl w.heap.size 54 i0 _ 5 40 Tryz.underlying35 hi0 hz0 hz1 hz2 rfl (by omega) _ 0 (aE []) rfl hown ⟨b,off,none⟩ L.length c (aE L) rfl (by rw[aW]) hnews hone (by omega) (by unfold maxLen;omega) (by omega) (by simp) _ rfl ?_;intro g0 cap0 w5 hown1 hgrow hat hlt1;have HB5:=aA (((aC w (.cells #[] 54))).grown hgrow (by simp) (fun k e=>(HO.out.lt k e).1));have HR:=aA hown1;clear hown1 hgrow hat hlt1);go_ret;have ho:=HR.out
 simp only[Nat.zero_add,show aE []++aE L=aE L from rfl]at ho;obtain⟨a',c',e,hO⟩:=aI ho (by omega);exact⟨a',c',congrArg Ending.returned e,HB5.out,hO⟩
inductive gQ (n:Nat) (L:Nat→List T):Lq→Prop
 |nil:gQ n L Lq.nil
 |cons {A:Lq} (c:Fq) (m:M) (j:Nat):j<n→m.nn→gQ n L A→gQ n L (Lq.sum (Lq.sc c (Lq.mul (mo aN m) (Rp aN (L j)))) A)
section
variable {o:Int} {n:Nat} {L:Nat→List T}
theorem gQ.sum {A B:Lq} (h:gQ n L A) (h':gQ n L B):gQ n L (Lq.sum A B):=by
 induction h with
 |nil=>rw[DH];exact h'
 |cons c m j h1 h2 h3 ih=>rw[Lq.sum_assoc];exact gQ.cons c m j h1 h2 ih
theorem gQ.sc {A:Lq} (d:Fq) (h:gQ n L A):gQ n L (Lq.sc d A):=by
 induction h with
 |nil=>rw[VT];exact gQ.nil
 |cons c m j h1 h2 h3 ih=>rw[Lq.sc_sum,Lq.sc_sc];exact gQ.cons _ m j h1 h2 ih
theorem gQ.one (c:Fq) {m:M} {j:Nat} (h1:j<n) (h2:m.nn):gQ n L (Lq.sc c (Lq.mul (mo aN m) (Rp aN (L j)))):=by
 have:=gQ.cons c m j h1 h2 (gQ.nil (n:=n) (L:=L))
 rwa[Lq.sum_nil]at this
theorem Lo.idl {δ:M} {A:Lq} (h:Lo o n L δ A):gQ n L A:=by
 induction h with
 |nil=>exact gQ.nil
 |cons c m j h1 h2 h3 h4 ih=>exact gQ.cons c m j h1 h2 ih
theorem Lw.idl {μ:M} {A:Lq} {j:Nat} (hj:j<n) (h:Lw aN o μ A):gQ n L (Lq.mul A (Rp aN (L j))):=by
 induction h with
 |nil=>rw[Lq.nil_mul];exact gQ.nil
 |cons c m h1 h2 h3 ih=>rw[Lq.sum_mul,Lq.sc_mul];exact gQ.cons c m j hj h1 ih
theorem gQ.mulMo {A:Lq} (h:gQ n L A) {s:M} (hs:s.nn):gQ n L (Lq.mul (mo aN s) A):=by
 induction h with
 |nil=>rw[Lq.mul_nil];exact gQ.nil
 |cons c m j h1 h2 h3 ih=>
  rw[Lq.mul_sum,Lq.mul_sc,←Lq.mul_assoc];obtain⟨B,hB,e⟩:=rI aN (o:=1) ⟨by omega,by omega⟩ hs h2;rw[e,Lq.sum_mul];refine gQ.sum (gQ.sc c (gQ.sum ?_ (hB.idl h1))) ih;have:=gQ.one (L:=L) 1 h1 (iT hs h2)
  rwa[Lq.sc_one]at this
theorem gQ.mulRp {A:Lq} (h:gQ n L A):∀q:List T,(∀t∈q,t.m.nn)→gQ n L (Lq.mul (Rp aN q) A)
 |[],_=>by rw[nJ,Lq.nil_mul];exact gQ.nil
 |t::r,hq=>by rw[LC,Lq.sum_mul,Lq.sc_mul];exact gQ.sum (gQ.sc _ (h.mulMo (hq t (List.mem_cons_self ..)))) (gQ.mulRp h r (fun s hs=>hq s (List.mem_cons_of_mem _ hs)))
theorem WU {j:Nat} (hj:j<n):gQ n L (Rp aN (L j)):=by
 have:=gQ.one (L:=L) 1 hj (m:=⟨0,0,0,0⟩) ⟨by decide,by decide,by decide,by decide⟩
 rwa[Lq.sc_one,DE]at this
theorem gQ.trans {n':Nat} {L':Nat→List T} (hg:∀j,j<n→gQ n' L' (Rp aN (L j))) {A:Lq} (h:gQ n L A):gQ n' L' A:=by
 induction h with
 |nil=>exact gQ.nil
 |cons c m j h1 h2 h3 ih=>exact gQ.sum (gQ.sc c ((hg j h1).mulMo h2)) ih
theorem FG {q:List T} (h:aK q):∀t∈q,t.m.nn:=fun t ht=>nH (h.2 t ht).1
theorem gQ.sumN {f:Nat→Lq}:∀k,(∀i,i<k→gQ n L (f i))→gQ n L (Lq.sumN f k)
 |0,_=>gQ.nil
 |k+1,h=>gQ.sum (gQ.sumN k (fun i hi=>h i (by omega))) (h k (by omega))
theorem gQ.qsum {q:Nat→List T} (hq:∀i,i<n→aK (q i)):gQ n L (qsum aN n L q):=gQ.sumN n fun i hi=>(WU hi).mulRp _ (FG (hq i hi))
theorem TA (o:Int) {a b:M} (hb:b.nn):nU o a ((a.sum b).sum ⟨1,0,0,0⟩):=by
 obtain⟨h1,h2,h3,h4⟩:=hb;unfold nU kf M.sum;simp only;by_cases o1:o=1
 ·simp only[if_pos o1];omega
 ·by_cases o3:o=3
  ·simp only[if_neg o1,if_pos o3];omega
  ·simp only[if_neg o1,if_neg o3];refine Or.inr ⟨trivial,?_⟩;by_cases q1:b.d=0
   ·refine Or.inr ⟨by omega,?_⟩;by_cases q2:b.e=0
    ·exact Or.inr ⟨by omega,Or.inl (by omega)⟩
    ·exact Or.inl (by omega)
   ·exact Or.inl (by omega)
theorem gQ.lo (hL:rW o n L) {A:Lq} (h:gQ n L A):∃δ:M,δ.nn∧Lo o n L δ A:=by
 induction h with
 |nil=>exact⟨⟨0,0,0,0⟩,⟨by decide,by decide,by decide,by decide⟩,Lo.nil⟩
 |cons c m j h1 h2 h3 ih=>
  obtain⟨δ,d1,d2⟩:=ih;have hμ:=iT h2 (hL.nn h1)
  refine⟨((m.sum (fI o L j)).sum δ).sum ⟨1,0,0,0⟩,iT (iT hμ d1) ⟨by decide,by decide,by decide,by decide⟩,Lo.cons c m j h1 h2 (TA o d1) (d2.mono (.inl ?_))⟩;rw[M.sum_comm (m.sum (fI o L j)) δ];exact TA o hμ
theorem gQ.le (hL:rW o n L) {A:Lq} (h:gQ n L A):A=Lq.nil∨∃δ:M,δ.nn∧Le o n L δ A:=by
 obtain⟨δ,_,h2⟩:=h.lo hL;rcases h2.max hL with q|⟨δ',d1,_,d3⟩
 ·exact .inl q
 ·exact .inr ⟨δ',d1,d3⟩
def ZZ (o:Int) (n:Nat) (L:Nat→List T):Prop:=∀A,gQ n L A→A≠Lq.nil→∃m j,m.nn∧j<n∧M.le (fI o L j) m∧vK A m≠0
theorem Be (hL:rW o n L) (hP:∀i k,i<k→k<n→xA o n L i k):ZZ o n L:=fun A hA hne=>by
 rcases hA.le hL with q|⟨δ,d1,d2⟩
 ·exact absurd q hne
 ·exact OP hL hP δ d1 A d2 hne
theorem LY (φ:M→Fq):∀r:List T,kW φ r≠0→∃t∈r,φ t.m≠0
 |[],h=>absurd rfl h
 |t::r,h=>by
  by_cases e:φ t.m=0
  ·have h':kW φ r≠0:=fun q=>h (by show zz t.c*φ t.m+kW φ r=0;rw[e,q];grind);obtain⟨s,hs,hh⟩:=LY φ r h';exact⟨s,List.mem_cons_of_mem _ hs,hh⟩
  ·exact⟨t,List.mem_cons_self ..,e⟩
theorem Bp {r:List T} (hr:aK r) {m:M} (hm:m.nn) (h:vK (Rp aN r) m≠0):∃t∈r,t.m=m:=by
 rw[Ah r (FG hr) hm]at h;obtain⟨t,ht,hh⟩:=LY _ r h;refine⟨t,ht,?_⟩;unfold dl at hh;by_cases e:gP m t.m=true
 ·exact(dV.1 e).symm
 ·rw[if_neg e]at hh;exact absurd rfl hh
theorem Ca {a b:M} (ha:a.ok=true) (hb:b.ok=true) (h:M.le a b):M.dvd a b=true:=by unfold M.dvd;rw[ha,hb];exact decide_eq_true h
theorem ZZ.free (hB:ZZ o n L) (hL:rW o n L) {r:List T} (hr:aK r) (hi:gQ n L (Rp aN r)) (hf:∀t∈r,∀i,i<n→M.dvd (dH o (L i)).m t.m=false):r=[]:=by
 by_cases h0:r=[]
 ·exact h0
 ·obtain⟨m,j,h1,h2,h3,h4⟩:=hB _ hi (fun e=>h0 (LI hr e));obtain⟨t,ht,e⟩:=Bp hr h1 h4;have:=hf t ht j h2
  rw[Ca (hL.good h2).1 (hr.2 t ht).1 (by rw[e];exact h3)]at this;cases this
theorem VE {p:List T} {S:Dv} (h:bJ o p n (lN L) (fN L)=some S):gQ n L (qsum aN n L S.q):=gQ.qsum fun i _=>((cY h).1.q i).1
theorem ZZ.left (hB:ZZ o n L) {p:List T} {S:Dv} (h:bJ o p n (lN L) (fN L)=some S) (hi:gQ n L (Rp aN p)):S.r=[]:=by obtain⟨ho,_,hl,_⟩:=iS h;refine hB.free (qZ ho hl) (cY h).1.r.1 ?_ (VJ h);rw[LW h];exact hi.sum ((VE h).sc _)
theorem ZF {P Q:List T} (hP:aK P) (hQ:aK Q) (h:Rp aN P=Rp aN Q):P=Q:=by
 refine(vY hP hQ).1 (LI (cQ hP hQ).1 ?_);rw[uB aN hP hQ,h,WO];refine Lq.ext fun u a b=>?_;show _+(-1)*_=(0:Fq)
 grind
end
end Go.Proofs.YtmlaedpamobmhaaGreat
namespace Go.Proofs.YtmlaedpamobmhaaGreat
open Go.RowKit Go.Deep Go.Joins
set_option linter.unusedVariables false
theorem Dk {k m i:Nat} (hk:k<m) (hi:i<k):aT k+i<aT m:=by
 have h1:aT (k+1)≤aT m:=pL hk;have h2:aT (k+1)=aT k+k:=rfl
 omega
theorem Mk.bas {o:Int} {g:Nat} {L0:Nat→List T} {B:Bs} {j:Nat} (h:Mk o g L0 B j) (hj:aT B.m≤j):ZZ o B.m B.L:=Be (qZ h.ok.ho h.ok.l) fun i k hi hk=>h.pr i k hi hk (by have:=Dk hk hi;omega)
theorem Mk.proof {o:Int} {g:Nat} {L0:Nat→List T} {B:Bs} {j:Nat} (h:Mk o g L0 B j) {i:Nat} (hi:i<B.m) {x:List T} (hx:iX g (lN (B.P i)) (fN (B.P i)) g (lN L0) (fN L0)=(x,true)):x=B.L i:=by obtain⟨e,ok⟩:=QI aN hx;rw[h.pf i hi]at e;exact ZF (aF ok).2 ((qZ h.ok.ho h.ok.l).falls hi) e
theorem Mk.idl {o:Int} {g:Nat} {L0:Nat→List T} {B:Bs} {j:Nat} (h:Mk o g L0 B j) {i:Nat} (hi:i<B.m):gQ g L0 (Rp aN (B.L i)):=by rw[←h.pf i hi];exact gQ.qsum fun t ht=>(aF (h.ok.p i hi t ht)).2
abbrev xD (u:World) (b:Nat) (p:Pr) (lb i k:Nat) (v1 v2:Value):Prop:=
 u.cell? ⟨b,0,none⟩=some (.int .i64 p.t1.c)∧u.cell? ⟨b,1,none⟩=some (.int .i64 p.t1.m.x)∧u.cell? ⟨b,2,none⟩=some (.int .i64 p.t1.m.y)∧u.cell? ⟨b,3,none⟩=some (.int .i64 p.t1.m.d)∧u.cell? ⟨b,4,none⟩=some (.int .i64 p.t1.m.e)∧u.cell? ⟨b,5,none⟩=some (.int .i64 p.t2.c)∧u.cell? ⟨b,6,none⟩=some (.int .i64 p.t2.m.x)∧u.cell? ⟨b,7,none⟩=some (.int .i64 p.t2.m.y)∧u.cell? ⟨b,8,none⟩=some (.int .i64 p.t2.m.d)∧u.cell? ⟨b,9,none⟩=some (.int .i64 p.t2.m.e)∧u.cell? ⟨b,10,none⟩=some (.int .i64 (p.i:Int))∧u.cell? ⟨b,11,none⟩=some (.int .i64 (p.k:Int))∧u.cell? ⟨lb,i,none⟩=some v1∧u.cell? ⟨lb,k,none⟩=some v2
theorem xD.mk {u:World} {b:Nat} {p:Pr} {nx:Option Addr} {lb i k:Nat} {v1 v2:Value} (h:gO u b p nx) (h1:u.cell? ⟨lb,i,none⟩=some v1) (h2:u.cell? ⟨lb,k,none⟩=some v2):xD u b p lb i k v1 v2:=⟨h.a0,h.a1,h.a2,h.a3,h.a4,h.b0,h.b1,h.b2,h.b3,h.b4,h.ci,h.ck,h1,h2⟩
theorem xD.below {u u':World} {b:Nat} {p:Pr} {lb i k:Nat} {v1 v2:Value} (h:xD u b p lb i k v1 v2) (hb:Below u.heap.size u u'):xD u' b p lb i k v1 v2:=by
 obtain⟨a0,a1,a2,a3,a4,c0,c1,c2,c3,c4,d0,d1,e0,e1⟩:=h;have l1:=cE u _ a0
 have l2:=cE u _ e0;exact⟨(hb.cell (p:=⟨b,0,none⟩) l1).trans a0,(hb.cell (p:=⟨b,1,none⟩) l1).trans a1,(hb.cell (p:=⟨b,2,none⟩) l1).trans a2,(hb.cell (p:=⟨b,3,none⟩) l1).trans a3,(hb.cell (p:=⟨b,4,none⟩) l1).trans a4,(hb.cell (p:=⟨b,5,none⟩) l1).trans c0,(hb.cell (p:=⟨b,6,none⟩) l1).trans c1,(hb.cell (p:=⟨b,7,none⟩) l1).trans c2,(hb.cell (p:=⟨b,8,none⟩) l1).trans c3,(hb.cell (p:=⟨b,9,none⟩) l1).trans c4,(hb.cell (p:=⟨b,10,none⟩) l1).trans d0,(hb.cell (p:=⟨b,11,none⟩) l1).trans d1,(hb.cell (p:=⟨lb,i,none⟩) l2).trans e0,(hb.cell (p:=⟨lb,k,none⟩) l2).trans e1⟩
def Ay (w:World) (n:Nat) (R:Option Dv) (r:Ending) (w':World):Prop:=
 Below w.heap.size w w'∧((∃S qa qc ad cp Rb B la lc mid lo,R=some S∧r= .returned (.tuple #[.slice qa n qc,.slice la S.r.length lc])∧w.heap.size≤lo∧jC lo w' qa n qc ad (fun i=>(S.q i).length) cp (fun i=>lf (S.q i)) Rb B∧iA mid w' la lc S.r∧(n=0∨Rb<mid)∧(∀i,i<n→(S.q i).length≠0→B i<mid)∧lo≤mid)∨(R=none∧r= .panicked [{v:=dW,recovered:=false}]))
def uH (o:Int) (n:Nat) (L:Nat→List T) (p:Pr):Option Dv:=
 match iM p.t1 p.t2 (lf (L p.i)) (L p.i).length (lf (L p.k)) (L p.k).length with
 |(s,true)=>bJ o s n (lN L) (fN L)
 |(_,false)=>none
theorem xN (w:World) (b:Nat) (p:Pr) (nx:Option Addr) (hp:gO w b p nx) (o:Int) (a:Option Addr) (n cap:Nat) (ad:Nat→Option Addr) (cp:Nat→Nat) (L:Nat→List T) (h:eJ w a n cap ad (lN L) cp (fN L)) (hi:p.i<n) (hk:p.k<n) {R:Option Dv} (hR:uH o n L p=R):Calls Tryz.prog 55 #[.pointer (some ⟨b,0,none⟩),.int .i64 o,.slice a n cap] w (Ay w n R):=by
 have q1:(n:Int)≤140737488351232:=by have:=h.2.1;omega
 have i1:(0:Int)≤(p.i:Int):=by omega
 have i2:(p.i:Int)<(n:Int):=by omega
 have k1:(0:Int)≤(p.k:Int):=by omega
 have k2:(p.k:Int)<(n:Int):=by omega
 have dr:Below w.heap.size w w.drew:=(bQ _ _).drew;rcases h.2.2.1 with h0|⟨lb,off,rfl,hblt,hcl⟩
 ·omega
 obtain⟨A,hA⟩:∃A,L p.i=A:=⟨_,rfl⟩
 obtain⟨C,hC⟩:∃A,L p.k=A:=⟨_,rfl⟩
 have RA:Hid (RL w.drew (ad p.i) (cp p.i) A):=by rw[←hA];exact(h.2.2.2 p.i hi).below dr
 have RC:Hid (RL w.drew (ad p.k) (cp p.k) C):=by rw[←hC];exact(h.2.2.2 p.k hk).below dr
 have hS0:xD w.drew b p lb (off+p.i) (off+p.k) (.slice (ad p.i) A.length (cp p.i)) (.slice (ad p.k) C.length (cp p.k)):=xD.mk (hp.below dr) ((dr.cell (p:=⟨lb,off+p.i,none⟩) hblt).trans (by rw[←hA];exact hcl p.i hi)) ((dr.cell (p:=⟨lb,off+p.k,none⟩) hblt).trans (by rw[←hC];exact hcl p.k hk));have HS:=aA hS0
 have HH:=aA (h.below dr);have HB0:=aA dr
 obtain⟨s,sb,hsp⟩:∃s sb,iM p.t1 p.t2 (lf A) A.length (lf C) C.length=(s,sb):=⟨_,_,rfl⟩
 have hc:=SO w.drew p.t1 p.t2 (ad p.i) (ad p.k) A.length (cp p.i) C.length (cp p.k) (lf A) (lf C) RA.out RC.out;rw[hsp]at hc;have HC:=aA hc
 have hRR:(match ((s,sb):List T×Bool)with|(s,true)=>bJ o s n (lN L) (fN L)|(_,false)=>none)=R:=by rw[←hR];unfold uH;rw[hA,hC,hsp]
 have HRR:=aA hRR;have hlbw:lb<w.heap.size:=hblt
 have hbw:b<w.heap.size:=hp.lt;clear hp h hcl hS0 hc hsp hR hRR hA hC dr hblt;cases sb
 ·have hRn:R=none:=HRR.out.symm;subst hRn;go_enter Tryz.func55,Tryz.ntmps55;go_wp2_with fail;have hS:=HS.out
  refine wp_region_held_drew (S:=(fun u=>xD u b p lb (off+p.i) (off+p.k) (.slice (ad p.i) A.length (cp p.i)) (.slice (ad p.k) C.length (cp p.k)))) (by kernel_rfl) hS (fun hHeld=>?_);clear hS;refine wpAnyH_take (i:=0) (v:=?_) rfl (by kernel_rfl) (by kernel_rfl) (by kernel_rfl) (fun _ _ _ h=>h) (Or.inl ⟨by rfl,?_⟩) (by assumption) ?_;rotate_left
  ·(intro w9 hSw;(try dsimp only at hSw);go_simp)<;>with_reducible rfl
  refine wpAnyH_take (i:=1) (v:=?_) rfl (by kernel_rfl) (by kernel_rfl) (by kernel_rfl) (fun _ _ _ h=>h) (Or.inl ⟨by rfl,?_⟩) (by assumption) ?_;rotate_left
  ·(intro w9 hSw;(try dsimp only at hSw);go_simp)<;>with_reducible rfl
  refine wpAnyH_take (i:=2) (v:=?_) rfl (by kernel_rfl) (by kernel_rfl) (by kernel_rfl) (fun _ _ _ h=>h) (Or.inl ⟨by rfl,?_⟩) (by assumption) ?_;rotate_left
  ·(intro w9 hSw;(try dsimp only at hSw);go_simp)<;>with_reducible rfl
  refine wpAnyH_take (i:=3) (v:=?_) rfl (by kernel_rfl) (by kernel_rfl) (by kernel_rfl) (fun _ _ _ h=>h) (Or.inl ⟨by rfl,?_⟩) (by assumption) ?_;rotate_left
  ·(intro w9 hSw;(try dsimp only at hSw);go_simp)<;>with_reducible rfl
  refine wpAnyH_take (i:=4) (v:=?_) rfl (by kernel_rfl) (by kernel_rfl) (by kernel_rfl) (fun _ _ _ h=>h) (Or.inl ⟨by rfl,?_⟩) (by assumption) ?_;rotate_left
  ·(intro w9 hSw;(try dsimp only at hSw);go_simp)<;>with_reducible rfl
  refine wpAnyH_take (i:=5) (v:=?_) rfl (by kernel_rfl) (by kernel_rfl) (by kernel_rfl) (fun _ _ _ h=>h) (Or.inl ⟨by rfl,?_⟩) (by assumption) ?_;rotate_left
  ·(intro w9 hSw;(try dsimp only at hSw);go_simp)<;>with_reducible rfl
  refine wpAnyH_take (i:=6) (v:=?_) rfl (by kernel_rfl) (by kernel_rfl) (by kernel_rfl) (fun _ _ _ h=>h) (Or.inl ⟨by rfl,?_⟩) (by assumption) ?_;rotate_left
  ·(intro w9 hSw;(try dsimp only at hSw);go_simp)<;>with_reducible rfl
  refine wpAnyH_take (i:=7) (v:=?_) rfl (by kernel_rfl) (by kernel_rfl) (by kernel_rfl) (fun _ _ _ h=>h) (Or.inl ⟨by rfl,?_⟩) (by assumption) ?_;rotate_left
  ·(intro w9 hSw;(try dsimp only at hSw);go_simp)<;>with_reducible rfl
  refine wpAnyH_take (i:=8) (v:=?_) rfl (by kernel_rfl) (by kernel_rfl) (by kernel_rfl) (fun _ _ _ h=>h) (Or.inl ⟨by rfl,?_⟩) (by assumption) ?_;rotate_left
  ·(intro w9 hSw;(try dsimp only at hSw);go_simp)<;>with_reducible rfl
  refine wpAnyH_take (i:=9) (v:=?_) rfl (by kernel_rfl) (by kernel_rfl) (by kernel_rfl) (fun _ _ _ h=>h) (Or.inl ⟨by rfl,?_⟩) (by assumption) ?_;rotate_left
  ·(intro w9 hSw;(try dsimp only at hSw);go_simp)<;>with_reducible rfl
  refine wpAnyH_take (i:=10) (v:=?_) rfl (by kernel_rfl) (by kernel_rfl) (by kernel_rfl) (fun _ _ _ h=>h) (Or.inl ⟨by rfl,?_⟩) (by assumption) ?_;rotate_left
  ·(intro w9 hSw;(try dsimp only at hSw);go_simp)<;>with_reducible rfl
  refine wpAnyH_take (i:=11) (v:=?_) rfl (by kernel_rfl) (by kernel_rfl) (by kernel_rfl) (fun _ _ _ h=>h) (Or.inl ⟨by rfl,?_⟩) (by assumption) ?_;rotate_left
  ·(intro w9 hSw;(try dsimp only at hSw);go_simp)<;>with_reducible rfl
  refine wpAnyH_take (i:=12) (v:=?_) rfl (by kernel_rfl) (by kernel_rfl) (by kernel_rfl) (fun _ _ _ h=>h) (Or.inl ⟨by rfl,?_⟩) (by assumption) ?_;rotate_left
  ·(intro w9 hSw;(try dsimp only at hSw);go_simp)<;>with_reducible rfl
  refine wpAnyH_take (i:=13) (v:=?_) rfl (by kernel_rfl) (by kernel_rfl) (by kernel_rfl) (fun _ _ _ h=>h) (Or.inl ⟨by rfl,?_⟩) (by assumption) ?_;rotate_left
  ·(intro w9 hSw;(try dsimp only at hSw);go_simp)<;>with_reducible rfl
  refine wpAnyH_take (i:=14) (v:=?_) rfl (by kernel_rfl) (by kernel_rfl) (by kernel_rfl) (fun _ _ _ h=>h) (Or.inl ⟨by rfl,?_⟩) (by assumption) ?_;rotate_left
  ·(intro w9 hSw;(try dsimp only at hSw);go_simp)<;>with_reducible rfl
  refine wpAnyH_take (i:=15) (v:=?_) rfl (by kernel_rfl) (by kernel_rfl) (by kernel_rfl) (fun _ _ _ h=>h) (Or.inl ⟨by rfl,?_⟩) (by assumption) ?_;rotate_left
  ·(intro w9 hSw;(try dsimp only at hSw);go_simp)<;>with_reducible rfl
  refine wpAnyH_take (i:=16) (v:=?_) rfl (by kernel_rfl) (by kernel_rfl) (by kernel_rfl) (fun _ _ _ h=>h) (Or.inl ⟨by rfl,?_⟩) (by assumption) ?_;rotate_left
  ·(intro w9 hSw;(try dsimp only at hSw);go_simp)<;>with_reducible rfl
  refine wpAnyH_take (i:=17) (v:=?_) rfl (by kernel_rfl) (by kernel_rfl) (by kernel_rfl) (fun _ _ _ h=>h) (Or.inl ⟨by rfl,?_⟩) (by assumption) ?_;rotate_left
  ·(intro w9 hSw;(try dsimp only at hSw);go_simp)<;>with_reducible rfl
  refine wpAnyH_ready (rs:=[18]) (by kernel_rfl) (by simp) ?_;refine AllReadyH.cons rfl (fun K hK=>?_) AllReadyH.nil;go_simp;go_wp2_with (go_at_call 60;refine HC.out.mono ?_;rintro e w5 ⟨za,zc,rfl,b5,hz⟩);refine hK.out _ _ ?_ (fun hHeld2=>?_)
  ·exact xD.below hHeld b5
  clear hK K;refine wpAnyH_take (i:=19) (v:=?_) rfl (by kernel_rfl) (by kernel_rfl) (by kernel_rfl) (fun _ _ _ h=>h) (Or.inl ⟨by rfl,?_⟩) (by assumption) ?_;rotate_left
  ·(intro w9 hSw;(try dsimp only at hSw);go_simp)<;>with_reducible rfl
  refine wpAnyH_take (i:=20) (v:=?_) rfl (by kernel_rfl) (by kernel_rfl) (by kernel_rfl) (fun _ _ _ h=>h) (Or.inl ⟨by rfl,?_⟩) (by assumption) ?_;rotate_left
  ·(intro w9 hSw;(try dsimp only at hSw);go_simp)<;>with_reducible rfl
  refine wpAnyH_ready (rs:=[21]) (by kernel_rfl) (by simp) ?_;refine AllReadyH.cons rfl (fun K hK=>?_) AllReadyH.nil;go_simp;go_wp2_with (go_at_call 48;refine(bC _ _).mono ?_;rintro e wn ⟨rfl,hwn⟩;obtain rfl:=hwn.symm;clear hwn);exact⟨rfl,aB HB0.out b5,.inr ⟨rfl,rfl⟩⟩
 ·have hRs:bJ o s n (lN L) (fN L)=R:=HRR.out;have HR:=aA hRs
  clear hRs HRR;go_enter Tryz.func55,Tryz.ntmps55;go_wp2_with fail;have hS:=HS.out
  go_region_held3 (fun u=>xD u b p lb (off+p.i) (off+p.k) (.slice (ad p.i) A.length (cp p.i)) (.slice (ad p.k) C.length (cp p.k))) (first|with_reducible exact hS|with_reducible exact xD.below hS b5) (first|(go_at_call 60;refine HC.out.mono ?_;rintro e w5 ⟨za,zc,rfl,b5,hz⟩)|(go_at_call 48;refine(cD _ _).mono ?_;rintro e wn ⟨rfl,hwn⟩;obtain rfl:=hwn.symm;clear hwn))
  have HB5:=aA (aB HB0.out b5);have HZ5:Hid (RL w5 za zc s):=hz.1
  have HH5:=aA (HH.out.below b5);have hs5:w.heap.size≤w5.heap.size:=HB5.out.size
  clear hS b5 hz HC RA RC HS HH;go_wp2_with fail;refine(yQ w5 o za zc s _ n cap ad (lN L) cp (fN L) HZ5.out HH5.out HR.out).mono ?_;rintro e w6 ⟨qa,qc,ad6,cp6,Rb,B6,la,lc,mid,rfl,b6,o1,o2,m1,m2,m3⟩;have HB6:=aA (aB HB5.out b6)
  clear b6;cases R with
  |none=>
   clear o1 o2 m1 m2 m3;go_wp2_with fail;refine(bC _ _).mono ?_;rintro e wn ⟨rfl,hwn⟩;obtain rfl:=hwn.symm;clear hwn;exact⟨rfl,HB6.out,.inr ⟨rfl,rfl⟩⟩
  |some S=>
   have HO1:=aA o1;have HO2:=aA o2
   have HM:=aA (And.intro m1 (And.intro m2 m3));clear o1 o2 m1 m2 m3;have e1:GS n (some S)=n:=rfl
   have e2:QM (some S)=S.r:=rfl;rw[e1,e2];clear e1 e2;go_wp2_with fail;refine(cD _ _).mono ?_;rintro e wn ⟨rfl,hwn⟩;obtain rfl:=hwn.symm;clear hwn;go_wp2;refine cW (results_tmp2 rfl _ _ _) rfl ?_;exact⟨HB6.out,.inl ⟨S,qa,qc,ad6,cp6,Rb,B6,la,lc,mid,w5.heap.size,rfl,rfl,hs5,HO1.out,HO2.out,HM.out.1,HM.out.2.1,HM.out.2.2⟩⟩
end Go.Proofs.YtmlaedpamobmhaaGreat
