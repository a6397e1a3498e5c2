/-
  The program's least basis (impl.GrbLeast): what it answers, and that the answer's memory is its own.
-/
import Derived.Test.YtelkehjdfcoeiaaGreatMbc
set_option maxHeartbeats 8000000
set_option maxRecDepth 100000
namespace Go.Proofs.YtelkehjdfcoeiaaGreat
open Go.RowKit Go.Deep Go.Joins
set_option linter.unusedVariables false
theorem PE {k k':Nat→M} {n i:Nat} (h:∀j,j<n→k j=k' j) (hi:i<n):jR k n i=jR k' n i:=by
 rw[Bool.eq_iff_iff];simp only[jR,decide_eq_true_eq];constructor
 ·intro hh j hj;rw[←h j hj,←h i hi];exact hh j hj
 ·intro hh j hj;rw[h j hj,h i hi];exact hh j hj
theorem cT.rw {lo:Nat} {w:World} {g cap:Nat} {es:List E} (h:cT lo w (.slice (some ⟨g,0,none⟩) es.length cap) es):uL g w es.length (fun i=>es.getD i E0) where
 row:=by
  rcases h.row.2 with⟨hv,h0⟩|⟨g',cap',cur,hv,hlo,hg,hn,hm,hs,ht⟩
  ·cases hv
  ·cases hv;refine⟨cap*1,by omega,fun j=>cur.getD j undef,⟨cur,hg,hs,fun j hj=>?_⟩,fun j hj=>?_⟩
   ·have hjs:j<cur.size:=by omega
    show cur[j]? =some (cur.getD j undef)
    rw[Array.getD_eq_getD_getElem?,Array.getElem?_eq_getElem hjs];rfl
   ·have e:(cur.toList.take (es.length*1))[j]? =(es.map E.v)[j]? :=by rw[ht]
    rw[List.getElem?_take_of_lt (by omega),List.getElem?_map,(yV hj).1]at e;show cur.getD j undef=(es.getD j E0).v
    rw[Array.getD_eq_getD_getElem?];have e2:cur[j]? =some (es.getD j E0).v:=by simpa using e
    rw[e2];rfl
 el:=fun j hj=>h.el _ (yV hj).2
theorem VX (es:List E):eI (fun i=>es.getD i E0) es.length=es:=by
 refine List.ext_getElem (cE _ _) (fun i h1 h2=>?_);have:=sN (fun i=>es.getD i E0) (n:=es.length) (i:=i) h2
 rw[List.getD_eq_getElem?_getD,List.getElem?_eq_getElem h1]at this;rw[List.getD_eq_getElem?_getD,List.getElem?_eq_getElem h2]at this;exact this
theorem uL.rd {g:Nat} {w:World} {n cap:Nat} {F:Nat→E} (h:uL g w n F) (hn:n≤100) (hc:n≤cap):mA w (some ⟨g,0,none⟩) cap (eI F n):=by
 refine⟨by rw[cE];exact hc,by rw[cE];exact hn,.inr ⟨g,0,rfl,h.lt,fun i e he=>?_⟩,fun e he=>?_⟩
 ·have hi:i<n:=by have:=(List.getElem?_eq_some_iff.1 he).1;rwa[cE]at this
  have:=sN F hi;rw[List.getD_eq_getElem?_getD,he]at this;rw[Nat.zero_add,h.cell hi,←this];rfl
 ·obtain⟨i,hi,rfl⟩:=List.mem_map.1 he;exact(h.el i (by simpa using hi)).1
structure Do (lo g:Nat) (w:World) (N j:Nat) (G:Nat→E) (B:Nat→Nat):Prop where
 rw:uL g w N G
 nw:∀i,i<j→Wr w (G i).a (G i).p.length (lf (G i).p)∧∃off,(G i).a=some ⟨B i,off,none⟩∧lo≤B i∧B i<w.heap.size∧B i≠g
 ap:∀i k,i<k→k<j→B i<B k
theorem Do.below {lo g:Nat} {w w':World} {N j:Nat} {G:Nat→E} {B:Nat→Nat} (h:Do lo g w N j G B) (hb:Below w.heap.size w w'):Do lo g w' N j G B where
 rw:=h.rw.below hb
 nw:=fun i hi=>⟨(h.nw i hi).1.below hb,(h.nw i hi).2.imp fun off ⟨e1,e2,e3,e4⟩=>⟨e1,e2,lB e3 hb.size,e4⟩⟩
 ap:=h.ap
theorem Do.put {lo g:Nat} {w:World} {N j:Nat} {G:Nat→E} {B:Nat→Nat} {m:Nat} (h:Do lo g w N j G B) (hj:j<N) (hm:∀i,i<j→B i<m) (hgm:g<m) (hlm:lo≤m) {a:Option Addr} {c:Nat} {Y:List T} (hO:jG m w a c Y) (h0:Y.length≠0):∃B',Do lo g (w.setCell ⟨g,j,none⟩ (.slice a Y.length c)) N (j+1) (fun i=>if i=j then⟨a,c,Y⟩else G i) B':=by
 obtain⟨b,off,e,hb⟩:=hO.2.2.resolve_left h0;have hbl:b<w.heap.size:=(hO.1.under.resolve_left h0) b off e
 have hg:w.grownBy (w.setCell ⟨g,j,none⟩ (.slice a Y.length c)) (some g):=⟨rfl,rfl,rfl,by simp,fun k hk hne=>Below.heap_setCell _ _ _ _ (fun q=>hne (by rw[q]))⟩
 have hE:lW w (some g) ⟨a,c,Y⟩:=⟨hO.1,.inr fun b' off' e1 e2=>by
  have e1':a=some ⟨b',off',none⟩:=e1;rw[e]at e1';cases e1';have:g=b:=by simpa using e2
  omega⟩
 refine⟨fun i=>if i=j then b else B i,⟨h.rw.set hE,fun i hi=>?_,fun i k hik hk=>?_⟩⟩
 ·by_cases q:i=j
  ·simp only[if_pos q];refine⟨hO.2.1.grown hg (.inr fun b' off' e1 e2=>?_),off,e,by omega,by simpa using hbl,by omega⟩;rw[e]at e1;cases e1;have:b=g:=by simpa using e2
   omega
  ·simp only[if_neg q];obtain⟨w1,off1,e1,e2,e3,e4⟩:=h.nw i (by omega);refine⟨w1.grown hg (.inr fun b' off' q1 q2=>?_),off1,e1,e2,by simpa using e3,e4⟩;rw[e1]at q1;cases q1;exact e4 (by simpa using q2)
 ·show(if i=j then b else B i)<(if k=j then b else B k);rw[if_neg (show ¬i=j by omega)];by_cases q:k=j
  ·rw[if_pos q];have:=hm i (by omega)
   omega
  ·rw[if_neg q];exact h.ap i k hik (by omega)
theorem Do.out {lo g:Nat} {w:World} {N cap:Nat} {G:Nat→E} {B:Nat→Nat} (h:Do lo g w N N G B) (hN:N≤100) (hc:N≤cap) (hlo:lo≤g) {l:List (List T)} (hl:(eI G N).map E.p=l):l.length=N∧jY lo w (some ⟨g,0,none⟩) N cap (fun i=>(G i).a) (lN (bY l)) (fun i=>(G i).c) (fN (bY l)) g B:=by
 have hle:l.length=N:=by rw[←hl,List.length_map,cE]
 have hof:∀i,i<N→bY l i=(G i).p:=fun i hi=>by rw[←hl,oE,sN G hi]
 refine⟨hle,⟨⟨hc,by omega,.inr ⟨g,0,rfl,h.rw.lt,fun i hi=>?_⟩,fun i hi=>?_⟩,.inr ⟨0,rfl,hlo⟩,fun i hi=>?_,fun i hi=>?_,fun i k hik hk _ _=>?_⟩⟩
 ·rw[Nat.zero_add,h.rw.cell hi];show some (Value.slice (G i).a (G i).p.length (G i).c)=some (.slice (G i).a (bY l i).length (G i).c)
  rw[hof i hi]
 ·show Rd w (G i).a (bY l i).length (G i).c (lf (bY l i));rw[hof i hi];exact(h.rw.el i hi).1
 ·show Wr w (G i).a (bY l i).length (lf (bY l i));rw[hof i hi];exact(h.nw i hi).1
 ·obtain⟨_,off,e1,e2,_,e4⟩:=h.nw i hi;exact .inr ⟨off,e1,e2,e4⟩
 ·have:=h.ap i k hik hk;omega
theorem LU (G:Nat→E) {N j:Nat} (e:E) (hj:j<N):eI (fun i=>if i=j then e else G i) N=jD (eI G N) j e:=by
 rw[LY (by rw[cE];exact hj)];refine List.ext_getElem (by rw[List.length_set,cE,cE]) (fun i h1 h2=>?_);rw[List.getElem_set];simp only[eI,List.getElem_map,List.getElem_range];by_cases q:i=j
 ·simp[q]
 ·rw[if_neg q,if_neg (fun q'=>q q'.symm)]
def zV (w:World) (R:Option (List (List T))) (r:Ending) (w':World):Prop:=Below w.heap.size w w'∧((∃l qa qc ad cp Rb B,R=some l∧r= .returned (.tuple #[.slice qa l.length qc,.bool true])∧jY w.heap.size w' qa l.length qc ad (lN (bY l)) cp (fN (bY l)) Rb B)∨(R=none∧r= .returned (.tuple #[.slice none 0 0,.bool false])))
theorem UK (w:World) (o:Int) (a:Option Addr) (n cap:Nat) (ad:Nat→Option Addr) (cp:Nat→Nat) (L:Nat→List T) (h:eQ w a n cap ad (lN L) cp (fN L)):Calls Tryz.prog 49 #[.int .i64 o,.slice a n cap] w (zV w (aT o n L)):=by
 have HH:=aA h;have q1:(n:Int)≤140737488351232:=by have:=h.2.1;omega
 clear h;by_cases ho:1≤o∧o≤3;rotate_left
 ·have e:aT o n L=none:=if_neg (fun q=>ho q.1);rw[e];go_enter Tryz.func49,Tryz.ntmps49;go_wp2_with fail;refine(oS _ o _ _ _ (by omega)).mono ?_;rintro r w1 ⟨rfl,hb1⟩;have HB1:=aA hb1
  clear hb1;go_wp2;refine cD (results_tmp2 rfl _ _ _) rfl ?_;exact⟨HB1.out,.inr ⟨rfl,rfl⟩⟩
 cases hl:bB n (lN L) (fN L)
 ·have e:aT o n L=none:=if_neg (fun q=>by rw[hl]at q;exact absurd q.2 (by simp));rw[e];go_enter Tryz.func49,Tryz.ntmps49;go_wp2_with fail;refine(qI _ o _ _ _ _ _ _ _ HH.out ho.1 ho.2 hl).mono ?_;rintro r w1 ⟨rfl,hb1⟩;have HB1:=aA hb1
  clear hb1;go_wp2;refine cD (results_tmp2 rfl _ _ _) rfl ?_;exact⟨HB1.out,.inr ⟨rfl,rfl⟩⟩
 obtain⟨i0,hi0,hz0,hz1,hz2⟩:=rJ;have n12:=(aQ hl).1
 have hnl:(n:Int)≤12:=by omega
 have hR0:aT o n L=iF o (cH o n L).length 0 (cH o n L):=if_pos ⟨ho,hl⟩;obtain⟨R0,hR0e⟩:∃R0,aT o n L=R0:=⟨_,rfl⟩
 rw[hR0e]at hR0⊢;have HR0:=aA hR0
 obtain⟨hlk,hl12⟩:=sH (o:=o) hl;have HLK:=aA hlk
 obtain⟨nd,hnd⟩:∃nd,jR (fun i=>(aU o (L i)).m) n=nd:=⟨_,rfl⟩
 have HND:=aA hnd;have HL0:Hid (∀es:List E,es=gS nd (gK ad cp L) n→(jA (jC o) [] es).map E.p=cH o n L∧es.length≤12∧(cH o n L).length=es.length∧∀e∈es,cF e.p=true∧e.p.length≠0):=fun es he=>by
  have h1:es.map E.p=gS nd L n:=by rw[he,wF];rfl
  refine⟨?_,?_,?_,fun e hee=>?_⟩
  ·show(jA (fun a b=>RE o a.p b.p) [] es).map E.p=_;rw[CL E.p (RE o),h1,←hnd];rfl
  ·have:=pP nd (gK ad cp L) n;rw[he];omega
  ·unfold cH;rw[rU,hnd,←h1,List.length_map,List.length_nil,Nat.zero_add]
  ·have:e.p∈gS nd L n:=by rw[←h1];exact List.mem_map_of_mem hee
   exact GP hl e.p this
 clear hR0 hR0e hlk hnd;go_enter Tryz.func49,Tryz.ntmps49;go_wp2_with fail;refine(pN _ o _ _ _ _ _ _ _ HH.out ho.1 ho.2 hl).mono ?_;rintro r w1 ⟨v,rfl,hb1,ho1⟩;obtain⟨la,lc,rfl,hout⟩:=aI ho1 (by rw[kG];omega);have hld:=hout.1
 rw[kG]at hld;rw[kG];have HLD:=aA hld
 have HB1:=aA hb1;have hf:∀i,i<n→lf (nU o (lN L) (fN L) n) i=aU o (L i):=fun i hi=>zE o (lN L) (fN L) n i hi
 have HNEED:Hid (∀j,j<n→jR (fun i=>(lf (nU o (lN L) (fN L) n) i).m) n j=nd j):=fun j hj=>by rw[←HND.out];exact PE (fun i hi=>by show(lf (nU o (lN L) (fN L) n) i).m=(aU o (L i)).m;rw[hf i hi]) hj
 have hsw:w.heap.size≤w1.heap.size:=hb1.size;clear hb1 ho1 hout hld hf;go_wp2;go_loopw [8,24] (fun tv ii wr=>∃(j:Nat),j≤n∧ii= .int .i64 (j:Int)∧Below w1.heap.size w1 wr∧cT w1.heap.size wr tv (gS nd (gK ad cp L) j)) (fun _ ii _=>n-(intOf ii).toNat);case atStart=>exact⟨0,Nat.zero_le _,rfl,bG _ _,cT.nil _ _⟩
 case round=>
  obtain⟨j,hj,rfl,hB,hA⟩:=hrel;have HB:=aA hB
  have HA:=aA hA;have hjl:=pP nd (gK ad cp L) j
  by_cases hlt:j<n
  ·have hjn:(j:Int)<(n:Int):=by omega
   obtain⟨b1,off1,ea,hb1,hc1⟩:=HH.out.2.2.1.resolve_left (by omega);obtain⟨l,hlen⟩:∃l,(L j).length=l:=⟨_,rfl⟩
   have kc:wr.cell? ⟨b1,off1+j,none⟩=some (.slice (ad j) l (cp j)):=((aB HB1.out hB).cell (p:=⟨b1,off1+j,none⟩) hb1).trans (by rw[←hlen];exact hc1 j hlt);have hcall:=OO wr la n lc (lf (nU o (lN L) (fN L) n)) j (HLD.out.below hB) hlt
   rw[HNEED.out j hlt]at hcall;have HCL:=aA hcall
   have HLEN:=aA hlen;have HEJ:=aA (eQ.el (HH.out.below (aB HB1.out hB)) hlt)
   have hskip:nd j=false→gS nd (gK ad cp L) (j+1)=gS nd (gK ad cp L) j:=fun hg=>if_neg (by rw[hg];simp);have htake:nd j=true→gS nd (gK ad cp L) (j+1)=gS nd (gK ad cp L) j++[gK ad cp L j]:=fun hg=>if_pos hg
   have HSK:=aA hskip;have HTK:=aA htake
   subst ea;clear hB hA hc1 hcall hlen hskip htake;cases hg:nd j
   ·have HS:=aA (HSK.out hg);go_wp2_with fail;refine HCL.out.mono ?_;rw[hg];rintro r w2 ⟨rfl,hb2⟩;have HB2:=aA (aB HB.out hb2)
    have HA2:=aA (HA.out.below hb2);clear hb2 kc hg;go_wp2;go_roundw;case rel=>exact⟨j+1,by omega,by go_num,HB2.out,by rw[HS.out];exact HA2.out⟩
    case measure=>simp[intOf];omega
   ·have HT:=aA (HTK.out hg);go_wp2_with fail;refine HCL.out.mono ?_;rw[hg];rintro r w2 ⟨rfl,hb2⟩;have bx:=aC w2 (.cells #[.slice (ad j) l (cp j)] 41)
    have HB2:=aA (aB (aB HB.out hb2) bx);have HA2:=aA ((HA.out.below hb2).below bx)
    have hrow:=HA2.out.row;obtain⟨m,hm⟩:∃m,(gS nd (gK ad cp L) j).length=m:=⟨_,rfl⟩
    rw[hm]at hrow hjl;have hnews:∀jj u,[Value.slice (ad j) l (cp j)][jj]? =some u→(w2.alloc (.cells #[.slice (ad j) l (cp j)] 41)).cell? ((⟨w2.heap.size,0,none⟩:Addr).add jj)=some u:=World.news_of_block (heap_alloc_new w2 _)
    have hone:∀u∈[Value.slice (ad j) l (cp j)],u.oneCell'=true:=fun u hu=>by
     have:u= .slice (ad j) l (cp j):=by simpa using hu
     subst this;rfl
    have hbase:w1.heap.size≤(w2.alloc (.cells #[.slice (ad j) l (cp j)] 41)).heap.size:=HB2.out.size;have HEL:Hid (lW (w2.alloc (.cells #[.slice (ad j) l (cp j)] 41)) u8.ownBlock (gK ad cp L j)):=by
     refine lW.far (w:=w) (HH.out.el hlt) (aB HB1.out HB2.out) (fun k hk=>?_);have:=(HA2.out.row.lt k hk).1
     omega
    have HRND:Hid (∀(g0 cap0:Nat) (w5:World),w5.ownsRow w1.heap.size 41 1 (.slice (some ⟨g0,0,none⟩) (m+1) cap0) (m+1) ((gS nd (gK ad cp L) j).map E.v++[.slice (ad j) l (cp j)])→(w2.alloc (.cells #[.slice (ad j) l (cp j)] 41)).grownBy w5 u8.ownBlock→(u8.ownBlock=some g0∨g0=(w2.alloc (.cells #[.slice (ad j) l (cp j)] 41)).heap.size)→cT w1.heap.size w5 (.slice (some ⟨g0,0,none⟩) (m+1) cap0) (gS nd (gK ad cp L) (j+1))):=fun g0 cap0 w5 p1 p2 p3=>by have:=HA2.out.app (es':=[gK ad cp L j]) (fun e he=>by rw[List.mem_singleton.1 he];exact HEL.out) (g0:=g0) (cap0:=cap0) p2 (by rw[hm];show w5.ownsRow _ _ _ _ (m+1) (_++[Value.slice (ad j) (L j).length (cp j)]);rw[HLEN.out];exact p1) p3;rw[hm]at this;rw[HT.out];exact this
    clear hb2 bx kc hg hm;go_wp2_with (at_builtin;refine wpList_append_lies _ rfl (.tmp 32) (.tmp 34) 24 rfl w1.heap.size 41 i0 _ 1 24 Tryz.underlying24 hi0 hz0 hz1 hz2 rfl (by omega) _ m ((gS nd (gK ad cp L) j).map E.v) rfl hrow ⟨w2.heap.size,0,none⟩ 1 1 [.slice (ad j) l (cp j)] rfl rfl hnews hone (by omega) (by unfold maxLen;omega) (by omega) hbase _ rfl ?_;intro g0 cap0 w5 hown1 hgrow hat hlt1;have HX:=aA (HRND.out g0 cap0 w5 hown1 hgrow hat);have HB5:=aA (HB2.out.grown hgrow hbase (fun k e=>(HA2.out.row.lt k e).1));clear hown1 hgrow hat hlt1 hnews hone hrow hbase);go_roundw;case rel=>exact⟨j+1,by omega,by go_num,HB5.out,HX.out⟩
    case measure=>simp[intOf];omega
  ·have hjn:¬(j:Int)<(n:Int):=by omega
   have hje:j=n:=by omega
   subst hje;obtain⟨es,hes⟩:∃es,gS nd (gK ad cp L) j=es:=⟨_,rfl⟩
   rw[hes]at hA hjl;obtain⟨e1,e2,e3,e4⟩:=HL0.out es hes.symm;have HE1:=aA e1
   have HE4:=aA e4;have hRs:iF o es.length 0 (cH o j L)=R0:=by rw[HR0.out,e3]
   have HRS:=aA hRs;clear hB hes e1 e3 e4 hRs HA HL0 HNEED HND HLD HR0;obtain⟨W0,hW0⟩:∃x,x=wr:=⟨_,rfl⟩
   subst hW0;rcases hA.row.2 with⟨hv,h0⟩|⟨g,capg,cur,hv,hlo,hg,hnc,_⟩
   ·subst hv;have e0:es=[]:=List.length_eq_zero_iff.1 h0
    subst e0;have hR:R0=some []:=by rw[←HRS.out,←HE1.out];rfl
    subst hR;clear hA;go_wp2_with fail;refine(Cq _ o _).mono ?_;rintro r w3 ⟨rfl,hw3⟩;obtain rfl:=hw3.symm;clear hw3;go_wp2;go_loopw [43] (fun v w'=>v= .int .i64 0∧w'=W0) (fun _ _=>0);case atStart=>exact⟨rfl,rfl⟩
    case round=>
     obtain⟨rfl,rfl⟩:=hrel;go_wp2;refine cD (results_tmp2 rfl _ _ _) rfl ?_;exact⟨aB HB1.out HB.out,.inl ⟨[],none,0,fun _=>none,fun _=>0,0,fun _=>0,rfl,rfl,⟨⟨Nat.le_refl _,Nat.zero_le _,.inl rfl,fun i hi=>absurd hi (tD _)⟩,.inl rfl,fun i hi=>absurd hi (tD _),fun i hi=>absurd hi (tD _),fun i j _ hj=>absurd hj (tD _)⟩⟩⟩
   ·subst hv;obtain⟨N,hN⟩:∃N,es.length=N:=⟨_,rfl⟩
    have hrw:=hA.rw;rw[hN]at hrw e2 hnc hjl HRS⊢;have hgw:w.heap.size≤g:=by omega
    have hNI:(N:Int)≤12:=by omega
    have hNc:(N:Int)≤(capg:Int):=by omega
    have hgl:=hrw.lt;have hsrt:=Hd W0 o g N capg (fun i=>es.getD i E0) ho hrw e2 (fun j hj=>HE4.out _ (yV (by omega)).2)
    have hpre:(eI (sZ (jC o) (N-1) 1 (fun i=>es.getD i E0)) N)=jA (jC o) [] es:=by rw[Hc,←hN,VX]
    obtain⟨G0,hG0⟩:∃G0,sZ (jC o) (N-1) 1 (fun i=>es.getD i E0)=G0:=⟨_,rfl⟩
    rw[hG0]at hsrt hpre;have HP0:Hid ((eI G0 N).map E.p=cH o j L):=by show _=_;rw[hpre,HE1.out]
    have HSRT:=aA hsrt;clear hsrt hpre hG0 hA hrw hg hN HE1 HE4;go_wp2_with fail;refine HSRT.out.mono ?_;rintro r w3 ⟨rfl,hg3,hr3⟩;have HB3:=aA ((aB HB1.out HB.out).grown hg3 (aB HB1.out HB.out).size (fun k e=>by cases e;exact hgw))
    have HR3:=aA hr3;clear hg3 hr3 HSRT;go_wp2;go_loopw [43] (fun ii wr=>∃(i:Nat) (G:Nat→E) (B:Nat→Nat) (l:List (List T)),i≤N∧ii= .int .i64 (i:Int)∧Below w.heap.size w wr∧Do w.heap.size g wr N i G B∧Hid ((eI G N).map E.p=l)∧Hid (RU l)∧Hid (iF o (N-i) i l=R0)) (fun ii _=>N-(intOf ii).toNat);case atStart=>exact⟨0,G0,fun _=>0,cH o j L,Nat.zero_le _,rfl,HB3.out,⟨HR3.out,fun i hi=>absurd hi (tD _),fun i k _ hk=>absurd hk (tD _)⟩,HP0,HLK,HRS⟩
    case round=>
     obtain⟨i,G,B,l,hi,rfl,hBr,hW,HP,HO,HR⟩:=hrel;by_cases hit:i<N
     ·have hiI:(i:Int)<(N:Int):=by omega
      obtain⟨x,hx⟩:∃x,G i=x:=⟨_,rfl⟩
      have kc:=hW.rw.cell hit;rw[hx]at kc;have kc':wr.cell? ⟨g,i,none⟩=some (.slice x.a x.p.length x.c):=kc
      have hi1:(i:Int)+1≤(N:Int):=by omega
      have hic:(i:Int)≤(capg:Int):=by omega
      have hgr:=hW.rw.lt;have hwi:IntKind.i64.wrap ((i:Int)+1)=(i:Int)+1:=by rw[IntKind.wrap_i64];omega
      have ei:((i:Int)+1).toNat=i+1:=by omega
      have hi0':¬((i:Int)+1<0):=by omega
      have hi2:i+1≤N:=by omega
      have hi3:N≤capg:=hnc;have HX:=aA hx
      have hlen1:((eI G N).take i).length=i:=by rw[List.length_take,cE];omega
      have hlen2:((eI G N).drop (i+1)).length=N-(i+1):=by rw[List.length_drop,cE]
      have hrdw:=hW.rw.rd (cap:=capg) (by omega) hnc;have HCC:Hid (∀(A2:Option Addr) (C2:Nat),mA wr A2 C2 ((eI G N).drop (i+1))→Calls Tryz.prog 87 #[.slice (some ⟨wr.heap.size,0,none⟩) 2 2] (wr.alloc (.cells #[.slice (some ⟨g,0,none⟩) i capg,.slice A2 (N-(i+1)) C2] 24)).drew fun r w'=>∃oa oc,r= .returned (.slice oa (N-1) oc)∧Below w.heap.size w w'∧mA w' oa oc (gD (eI G N) i)∧Do w.heap.size g w' N i G B∧wr.heap.size≤w'.heap.size):=fun A2 C2 hA2=>by
       have bx:Below wr.heap.size wr (wr.alloc (.cells #[.slice (some ⟨g,0,none⟩) i capg,.slice A2 (N-(i+1)) C2] 24)).drew:=(aC wr _).drew;refine(Ei _ wr.heap.size (some ⟨g,0,none⟩) capg ((eI G N).take i) A2 C2 ((eI G N).drop (i+1)) ?_ ?_ ((hrdw.takeE (by rw[cE];omega)).below bx) (hA2.below bx) (by rw[hlen1,hlen2];omega)).mono ?_
       ·rw[hlen1];show(wr.alloc _).cell? _=_
        rw[World.cell?_alloc_at _ _ _ _ rfl];rfl
       ·rw[hlen2];show(wr.alloc _).cell? _=_
        rw[World.cell?_alloc_at _ _ _ _ rfl];rfl
       ·rintro r w' ⟨tv,rfl,hb,hR⟩;have hl:(gD (eI G N) i).length=N-1:=by rw[nJ (by rw[cE];exact hit),cE]
        obtain⟨oa,oc,etv,hrd⟩:=cT.rd (es:=gD (eI G N) i) hR (by rw[hl];omega);rw[hl]at etv;subst etv;exact⟨oa,oc,rfl,aB (aB hBr bx) hb,hrd,(hW.below bx).below hb,jQ bx.size hb.size⟩
      have hlx:bY l i=x.p:=by rw[←HP.out,oE,sN G hit,hx]
      have hot:(gD (eI G N) i).map E.p=gD l i:=by rw[LH,HP.out]
      have hol:(gD (eI G N) i).length=N-1:=by rw[nJ (by rw[cE];exact hit),cE]
      have HLF:Hid (∀(W:World) (oa:Option Addr) (oc:Nat),RL W x.a x.c x.p→mA W oa oc (gD (eI G N) i)→Calls Tryz.prog 88 #[.int .i64 o,.slice x.a x.p.length x.c,.slice oa (N-1) oc] W fun r w'=>Below W.heap.size W w'∧((∃Y a' c',pI o (bY l i) (gD l i)=some Y∧r= .returned (.tuple #[.slice a' Y.length c',.bool true])∧jG W.heap.size w' a' c' Y)∨(pI o (bY l i) (gD l i)=none∧r= .returned (.tuple #[.slice none 0 0,.bool false])))):=fun W oa oc h1 h2=>by
       have h3:=h2.rds;rw[hot,hol]at h3;have:=YL W o x.a x.c x.p oa (N-1) oc _ _ (bY (gD l i)) ho h1 h3 rfl
       rw[ZA,hlx,←hot,List.length_map,hol,hot];exact this
      clear kc hBr hW hlen1 hlen2 hlx hot hol hx;by_cases hce:capg=i+1
      ·subst hce;have hNi:N=i+1:=by omega
       have HRX:Hid (mA wr (some ⟨g,0,none⟩) 0 ((eI G N).drop (i+1))):=by have:(eI G N).drop (i+1)=[]:=List.drop_eq_nil_of_le (by rw[cE];omega);rw[this];exact⟨Nat.le_refl _,Nat.zero_le _,.inl rfl,fun e he=>by cases he⟩
       clear hrdw hNi;go_wp2_with fail;have HC5:=aA (HCC.out (some ⟨g,0,none⟩) 0 HRX.out)
       rw[show N-(i+1)=0 by omega]at HC5
       go_region_with (go_at_call 87;refine HC5.out.mono ?_;rintro r w5 ⟨oa,oc,rfl,hB5,hrd5,hW5,hs5⟩;have HB5:=aA hB5;have HW5:=aA hW5;have HRD5:=aA hrd5;clear hB5 hW5 hrd5)
       all_goals
        have hx5:RL w5 x.a x.c x.p:=by have:=(HW5.out.rw.el i hit).1;rw[HX.out]at this;exact this
        have HC6:=aA (HLF.out w5 oa oc hx5 HRD5.out);clear hx5 HC5 kc';go_wp2_with fail;refine HC6.out.mono ?_;rintro r w6 ⟨hb6,hh⟩;have HB6:=aA (aB HB5.out hb6)
        have HW6:=aA (HW5.out.below hb6);have k6:=HW6.out.rw.cell hit
        rw[HX.out]at k6;have c6:w6.cell? ⟨g,i,none⟩=some (.slice x.a x.p.length x.c):=k6
        have f6:w6.frozen? ⟨g,i,none⟩=false:=HW6.out.rw.frozen i;have hs6:w5.heap.size≤w6.heap.size:=hb6.size
        rcases hh with⟨Y,ya,yc,hY,rfl,hO⟩|⟨hY,rfl⟩
        ·have hY0:=vV hY;obtain⟨B',hW7⟩:=HW6.out.put (m:=w5.heap.size) hit (fun k hk=>by obtain⟨_,_,_,_,e3,_⟩:=HW5.out.nw k hk;exact e3) HW5.out.rw.lt HB5.out.size hO hY0.2;have HW7:=aA hW7
         have HB7:=aA (HB6.out.setCell (p:=⟨g,i,none⟩) hgw (.slice ya Y.length yc));have HP7:Hid ((eI (fun k=>if k=i then⟨ya,yc,Y⟩else G k) N).map E.p=jD l i Y):=by show _=_;rw[LU G _ hit,CC,HP.out]
         have HO7:Hid (RU (jD l i Y)):=zN HO.out hY0;have HR7:Hid (iF o (N-(i+1)) (i+1) (jD l i Y)=R0):=by show _=_;rw[←HR.out,show N-i=(N-(i+1))+1 by omega,nG hY]
         clear hW7 hO hY hb6 k6 hY0;go_wp2;go_roundw;case rel=>exact⟨i+1,_,B',jD l i Y,by omega,by go_num,HB7.out,HW7.out,HP7,HO7,HR7⟩
         case measure=>simp[intOf];omega
        ·have HB7:=aA (HB6.out.setCell (p:=⟨g,i,none⟩) hgw (.slice none 0 0));have hR7:R0=none:=by rw[←HR.out,show N-i=(N-(i+1))+1 by omega,mO hY]
         subst hR7;clear hY hb6 k6;go_wp2;refine cD (results_tmp2 rfl _ _ _) rfl ?_;exact⟨HB7.out,.inr ⟨rfl,rfl⟩⟩
      ·have HRX:Hid (mA wr (some ⟨g,i+1,none⟩) (capg-(i+1)) ((eI G N).drop (i+1))):=by have:=hrdw.dropE (k:=i+1) (by rw[cE];omega);rw[Nat.zero_add]at this;exact this
       clear hrdw;go_wp2_with fail;have HC5:=aA (HCC.out (some ⟨g,i+1,none⟩) (capg-(i+1)) HRX.out)
       go_region_with (go_at_call 87;refine HC5.out.mono ?_;rintro r w5 ⟨oa,oc,rfl,hB5,hrd5,hW5,hs5⟩;have HB5:=aA hB5;have HW5:=aA hW5;have HRD5:=aA hrd5;clear hB5 hW5 hrd5)
       all_goals
        have hx5:RL w5 x.a x.c x.p:=by have:=(HW5.out.rw.el i hit).1;rw[HX.out]at this;exact this
        have HC6:=aA (HLF.out w5 oa oc hx5 HRD5.out);clear hx5 HC5 kc';go_wp2_with fail;refine HC6.out.mono ?_;rintro r w6 ⟨hb6,hh⟩;have HB6:=aA (aB HB5.out hb6)
        have HW6:=aA (HW5.out.below hb6);have k6:=HW6.out.rw.cell hit
        rw[HX.out]at k6;have c6:w6.cell? ⟨g,i,none⟩=some (.slice x.a x.p.length x.c):=k6
        have f6:w6.frozen? ⟨g,i,none⟩=false:=HW6.out.rw.frozen i;have hs6:w5.heap.size≤w6.heap.size:=hb6.size
        rcases hh with⟨Y,ya,yc,hY,rfl,hO⟩|⟨hY,rfl⟩
        ·have hY0:=vV hY;obtain⟨B',hW7⟩:=HW6.out.put (m:=w5.heap.size) hit (fun k hk=>by obtain⟨_,_,_,_,e3,_⟩:=HW5.out.nw k hk;exact e3) HW5.out.rw.lt HB5.out.size hO hY0.2;have HW7:=aA hW7
         have HB7:=aA (HB6.out.setCell (p:=⟨g,i,none⟩) hgw (.slice ya Y.length yc));have HP7:Hid ((eI (fun k=>if k=i then⟨ya,yc,Y⟩else G k) N).map E.p=jD l i Y):=by show _=_;rw[LU G _ hit,CC,HP.out]
         have HO7:Hid (RU (jD l i Y)):=zN HO.out hY0;have HR7:Hid (iF o (N-(i+1)) (i+1) (jD l i Y)=R0):=by show _=_;rw[←HR.out,show N-i=(N-(i+1))+1 by omega,nG hY]
         clear hW7 hO hY hb6 k6 hY0;go_wp2;go_roundw;case rel=>exact⟨i+1,_,B',jD l i Y,by omega,by go_num,HB7.out,HW7.out,HP7,HO7,HR7⟩
         case measure=>simp[intOf];omega
        ·have HB7:=aA (HB6.out.setCell (p:=⟨g,i,none⟩) hgw (.slice none 0 0));have hR7:R0=none:=by rw[←HR.out,show N-i=(N-(i+1))+1 by omega,mO hY]
         subst hR7;clear hY hb6 k6;go_wp2;refine cD (results_tmp2 rfl _ _ _) rfl ?_;exact⟨HB7.out,.inr ⟨rfl,rfl⟩⟩
     ·have hiI:¬(i:Int)<(N:Int):=by omega
      have hie:i=N:=by omega
      subst hie;have hRl:R0=some l:=by rw[←HR.out,Nat.sub_self];rfl
      subst hRl;obtain⟨hll,hOS⟩:=hW.out (cap:=capg) (by omega) hnc hgw HP.out;have HF:Hid (∃l' qa qc ad cp Rb B,some l=some l'∧Ending.returned (.tuple #[.slice (some ⟨g,0,none⟩) i capg,.bool true])= .returned (.tuple #[.slice qa l'.length qc,.bool true])∧jY w.heap.size wr qa l'.length qc ad (lN (bY l')) cp (fN (bY l')) Rb B):=⟨l,some ⟨g,0,none⟩,capg,_,_,g,B,rfl,by rw[hll],by rw[hll];exact hOS⟩
      have HBR:=aA hBr;clear hBr hW hll hOS;go_wp2;refine cD (results_tmp2 rfl _ _ _) rfl ?_;exact⟨HBR.out,.inl HF.out⟩
end Go.Proofs.YtelkehjdfcoeiaaGreat
