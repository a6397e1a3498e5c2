/-
  The program's least basis: two cuts of a row put together (slices.Concat).
-/
import Derived.Test.YtdidlcjhodejjaaGreatMaq
set_option maxHeartbeats 8000000
set_option maxRecDepth 100000
namespace Go.Proofs.YtdidlcjhodejjaaGreat
open Go.RowKit Go.Deep Go.Joins
set_option linter.unusedVariables false
theorem nG.news {w:World} {b off c:Nat} {es:List E} (h:nG w (some ⟨b,off,none⟩) c es):∀j u,(es.map E.v)[j]? =some u→w.cell? ((⟨b,off,none⟩:Addr).add j)=some u:=by
 have:=h.newsTo es.length
 rwa[List.take_length]at this
theorem nG.takeE {w:World} {a:Option Addr} {c:Nat} {es:List E} (h:nG w a c es) {k:Nat} (hk:k≤es.length):nG w a c (es.take k):=by
 have hl:(es.take k).length=k:=by rw[List.length_take];omega
 refine⟨by rw[hl];have:=h.1;omega,by rw[hl];have:=h.2.1;omega,?_,fun e he=>h.2.2.2 e (List.mem_of_mem_take he)⟩;rcases h.2.2.1 with h0|⟨b,off,e1,hlt,hc⟩
 ·exact .inl (by omega)
 ·refine .inr ⟨b,off,e1,hlt,fun i e he=>hc i e ?_⟩;have hi:=(List.getElem?_eq_some_iff.1 he).1
  rw[List.getElem?_take_of_lt (by omega)]at he;exact he
theorem nG.dropE {w:World} {b off c:Nat} {es:List E} (h:nG w (some ⟨b,off,none⟩) c es) {k:Nat} (hk:k≤es.length):nG w (some ⟨b,off+k,none⟩) (c-k) (es.drop k):=by
 have hl:(es.drop k).length=es.length-k:=List.length_drop ..;refine⟨by rw[hl];have:=h.1;omega,by rw[hl];have:=h.2.1;omega,?_,fun e he=>h.2.2.2 e (List.mem_of_mem_drop he)⟩;rcases h.2.2.1 with h0|⟨b',off',e1,hlt,hc⟩
 ·exact .inl (by omega)
 ·cases e1;refine .inr ⟨b,off+k,rfl,hlt,fun i e he=>?_⟩;rw[List.getElem?_drop]at he;have:=hc (k+i) e he
  rw[←Nat.add_assoc]at this;exact this
theorem mU.far {w wr:World} {tv:Value} {e:E} (h:RL w e.a e.c e.p) (hb:Below w.heap.size w wr) (hk:∀k,tv.ownBlock=some k→w.heap.size≤k):mU wr tv.ownBlock e:=by
 refine⟨Rd.below h hb,?_⟩;rcases h.2.2 with h0|⟨b,off,e1,hlt,_⟩
 ·exact .inl h0
 ·refine .inr fun b' off' e2 e3=>?_;rw[e1]at e2;cases e2;have:=hk b e3
  omega
theorem IH {P:Program} {w:World} (base:Nat) (t ty e:TypeId) (i:TypeInfo) (size:Nat) (ht:P.underlying t=some (.slice e)) (hi:P.info? e=some i) (v:Value) (n:Nat) (xs:List Value) (hown:w.ownsRow base e size v n xs) (pa:Option Addr) (pc:Nat):(Builtin.append_ #[t,t] ty #[v,.slice pa 0 pc]).run P w= .ok v w:=by
 rcases hown.2 with⟨rfl,rfl⟩|⟨g,cap,cur,rfl,_,_,hnc,_⟩
 ·cases pa<;>simp[Builtin.append_,run_underlying ht,sizeOf,typeInfo,hi,Builtin.lenOf,Builtin.firstCells,loadCells,loadCellsFrom]
 ·cases pa<;>simp[Builtin.append_,run_underlying ht,sizeOf,typeInfo,hi,Builtin.lenOf,Builtin.firstCells,hnc,storeCells,loadCells,loadCellsFrom]
theorem xP {P:Program} {w:World} {ops:Array Oper} {rest:List Oper} {o:Oper} {a:Act} {Q:Exit→Act→World→Prop} (hgd:o.guard=none) (s x:Operand) (t:TypeId) (ho:o.op= .call {callee:=.builtin .append,args:=#[s,x],argTypes:=#[t,t]}) (base:Nat) (e:TypeId) (i:TypeInfo) (size:Nat) (ht:P.underlying t=some (.slice e)) (hi:P.info? e=some i) (v:Value) (n:Nat) (xs:List Value) (hs:a.eval s=v) (hown:w.ownsRow base e size v n xs) (pa:Option Addr) (pc:Nat) (hx:a.eval x= .slice pa 0 pc) (h:wpList P ops Q rest (a.put o.dst v) w):wpList P ops Q (o::rest) a w:=by
 refine wpList_plain hgd fun K hK=>?_;have hrun:=IH (P:=P) (w:=w) base t o.type e i size ht hi v n xs hown pa pc
 unfold Oper.wp;simp[execOp,ho,resolve,invoke,builtin,hs,hx,hrun,Result.andThen];exact hK _ _ h
theorem Hq (w:World) (v0:Nat) (a1:Option Addr) (c1:Nat) (es1:List E) (a2:Option Addr) (c2:Nat) (es2:List E) (k1:w.cell? ⟨v0,0,none⟩=some (.slice a1 es1.length c1)) (k2:w.cell? ⟨v0,1,none⟩=some (.slice a2 es2.length c2)) (h1:nG w a1 c1 es1) (h2:nG w a2 c2 es2) (hn:es1.length+es2.length≤12):Calls Tryz.prog 49 #[.slice (some ⟨v0,0,none⟩) 2 2] w fun r w'=>∃tv,r= .returned tv∧Below w.heap.size w w'∧dA w.heap.size w' tv (es1++es2):=by
 obtain⟨i0,hi0,hz0,hz1,hz2⟩:=pU;have hv0:v0<w.heap.size:=cX w _ k1
 obtain⟨n1,hn1⟩:∃n1,es1.length=n1:=⟨_,rfl⟩
 obtain⟨n2,hn2⟩:∃n2,es2.length=n2:=⟨_,rfl⟩
 rw[hn1]at k1 hn;rw[hn2]at k2 hn;have hI1:(n1:Int)≤12:=by omega
 have hI2:(n2:Int)≤12:=by omega
 have HN1:=aA hn1;have HN2:=aA hn2
 have H1:=aA h1;have H2:=aA h2
 have HK1:=aA k1;have HK2:=aA k2
 clear h1 h2 hn1 hn2;go_enter Tryz.func49,Tryz.ntmps49;go_wp2;go_loopw [3,11] (fun sv jv wr=>wr=w∧((jv= .int .i64 0∧sv= .int .i64 0)∨(jv= .int .i64 1∧sv= .int .i64 (n1:Int))∨(jv= .int .i64 2∧sv= .int .i64 ((n1+n2:Nat):Int)))) (fun _ jv _=>2-(intOf jv).toNat);case atStart=>exact⟨rfl,.inl ⟨rfl,rfl⟩⟩
 case round=>
  obtain⟨rfl,hh⟩:=hrel;rcases hh with⟨rfl,rfl⟩|⟨rfl,rfl⟩|⟨rfl,rfl⟩
  ·go_wp2;go_roundw;case rel=>exact⟨by first|trivial|rfl,.inr (.inl ⟨by first|rfl|go_num,by first|rfl|go_num⟩)⟩
   case measure=>first|(simp[intOf];done)|(simp[intOf];omega)
  ·go_wp2;go_roundw;case rel=>exact⟨by first|trivial|rfl,.inr (.inr ⟨by first|rfl|go_num,by first|rfl|go_num|(congr 1;omega)⟩)⟩
   case measure=>first|(simp[intOf];done)|(simp[intOf];omega)
  ·obtain⟨N,hN⟩:∃N,n1+n2=N:=⟨_,rfl⟩
   rw[hN];have hN12:N≤100:=by omega
   clear hN k1 k2;obtain⟨wq,hwq⟩:∃x,x=wr:=⟨_,rfl⟩
   subst hwq;go_wp2_with fail;refine(Qe wq N hN12).mono ?_;rintro r w2 ⟨tv0,rfl,hb2,hown2⟩;have HB2:=aA hb2
   have HR2:Hid (dA wq.heap.size w2 tv0 []):=⟨hown2,fun e he=>by cases he⟩
   clear hb2 hown2;go_wp2;go_loopw [6,27] (fun tv jv w'=>Below wq.heap.size wq w'∧((jv= .int .i64 0∧dA wq.heap.size w' tv [])∨(jv= .int .i64 1∧dA wq.heap.size w' tv es1)∨(jv= .int .i64 2∧dA wq.heap.size w' tv (es1++es2)))) (fun _ jv _=>2-(intOf jv).toNat);case atStart=>exact⟨HB2.out,.inl ⟨rfl,HR2.out⟩⟩
   case round=>
    obtain⟨hB,hh⟩:=hrel;have HB:=aA hB
    rcases hh with⟨rfl,hR⟩|⟨rfl,hR⟩|⟨rfl,hR⟩
    ·have g1:wr.cell? ⟨v0,0,none⟩=some (.slice a1 n1 c1):=(hB.cell (p:=⟨v0,0,none⟩) hv0).trans HK1.out;have hrd:=H1.out.below hB
     have HR:=aA hR;have hlo:wq.heap.size≤wr.heap.size:=hB.size
     have HEL:Hid (∀e∈es1,mU wr u6.ownBlock e):=fun e he=>mU.far (H1.out.2.2.2 e he) HB.out (fun k hk=>(HR.out.row.lt k hk).1);have hrow:=hR.row
     by_cases h0:n1=0
     ·subst h0;have e0:es1=[]:=List.length_eq_zero_iff.1 HN1.out
      have HX:Hid (dA wq.heap.size wr u6 es1):=by rw[e0];exact hR
      clear hB hR hrd e0;go_wp2_with (at_builtin;refine xP rfl (.tmp 31) (.tmp 32) 24 rfl wq.heap.size 45 i0 1 Tryz.underlying24 hi0 _ 0 [] rfl hrow a1 c1 rfl ?_);go_roundw;case rel=>exact⟨HB.out,.inr (.inl ⟨by first|rfl|go_num,HX.out⟩)⟩
      case measure=>first|(simp[intOf];done)|(simp[intOf];omega)
     ·obtain⟨b,off,rfl,hb,_⟩:=hrd.2.2.1.resolve_left (by rw[HN1.out];exact h0);have hnews:=hrd.news
      have hone:=Oc es1;have hlen:(es1.map E.v).length=n1*1:=by rw[List.length_map,HN1.out,Nat.mul_one]
      have HRND:Hid (∀(g0 cap0:Nat) (w5:World),w5.ownsRow wq.heap.size 45 1 (.slice (some ⟨g0,0,none⟩) (0+n1) cap0) (0+n1) ([]++es1.map E.v)→wr.grownBy w5 u6.ownBlock→(u6.ownBlock=some g0∨g0=wr.heap.size)→dA wq.heap.size w5 (.slice (some ⟨g0,0,none⟩) n1 cap0) es1):=fun g0 cap0 w5 q1 q2 q3=>by have:=HR.out.app (es':=es1) HEL.out (g0:=g0) (cap0:=cap0) q2 (by rw[HN1.out];exact q1) q3;rw[HN1.out]at this;simp only[List.length_nil,Nat.zero_add]at this⊢;exact this
      clear hB hR hrd;go_wp2_with (at_builtin;refine wpList_append_lies _ rfl (.tmp 31) (.tmp 32) 24 rfl wq.heap.size 45 i0 _ 1 24 Tryz.underlying24 hi0 hz0 hz1 hz2 rfl (by omega) _ 0 [] rfl hrow ⟨b,off,none⟩ n1 c1 (es1.map E.v) rfl hlen hnews hone (by omega) (by unfold maxLen;omega) (by omega) hlo _ rfl ?_;intro g0 cap0 w5 hown1 hgrow hat hlt1;have HX:=aA (HRND.out g0 cap0 w5 hown1 hgrow hat);have HB5:=aA (HB.out.grown hgrow hlo (fun k e=>(HR.out.row.lt k e).1));clear hown1 hgrow hat hlt1 hnews hone hlen hrow);go_roundw;case rel=>exact⟨HB5.out,.inr (.inl ⟨by first|rfl|go_num,HX.out⟩)⟩
      case measure=>first|(simp[intOf];done)|(simp[intOf];omega)
    ·have g1:wr.cell? ⟨v0,1,none⟩=some (.slice a2 n2 c2):=(hB.cell (p:=⟨v0,1,none⟩) hv0).trans HK2.out;have hrd:=H2.out.below hB
     have HR:=aA hR;have hlo:wq.heap.size≤wr.heap.size:=hB.size
     have HEL:Hid (∀e∈es2,mU wr u6.ownBlock e):=fun e he=>mU.far (H2.out.2.2.2 e he) HB.out (fun k hk=>(HR.out.row.lt k hk).1);have hrow:=hR.row
     rw[HN1.out]at hrow;by_cases h0:n2=0
     ·subst h0;have e0:es2=[]:=List.length_eq_zero_iff.1 HN2.out
      have HX:Hid (dA wq.heap.size wr u6 (es1++es2)):=by rw[e0,List.append_nil];exact hR
      clear hB hR hrd e0;go_wp2_with (at_builtin;refine xP rfl (.tmp 31) (.tmp 32) 24 rfl wq.heap.size 45 i0 1 Tryz.underlying24 hi0 _ n1 (es1.map E.v) rfl hrow a2 c2 rfl ?_);go_roundw;case rel=>exact⟨HB.out,.inr (.inr ⟨by first|rfl|go_num,HX.out⟩)⟩
      case measure=>first|(simp[intOf];done)|(simp[intOf];omega)
     ·obtain⟨b,off,rfl,hb,_⟩:=hrd.2.2.1.resolve_left (by rw[HN2.out];exact h0);have hnews:=hrd.news
      have hone:=Oc es2;have hlen:(es2.map E.v).length=n2*1:=by rw[List.length_map,HN2.out,Nat.mul_one]
      have HRND:Hid (∀(g0 cap0:Nat) (w5:World),w5.ownsRow wq.heap.size 45 1 (.slice (some ⟨g0,0,none⟩) (n1+n2) cap0) (n1+n2) (es1.map E.v++es2.map E.v)→wr.grownBy w5 u6.ownBlock→(u6.ownBlock=some g0∨g0=wr.heap.size)→dA wq.heap.size w5 (.slice (some ⟨g0,0,none⟩) (n1+n2) cap0) (es1++es2)):=fun g0 cap0 w5 q1 q2 q3=>by have:=HR.out.app (es':=es2) HEL.out (g0:=g0) (cap0:=cap0) q2 (by rw[HN1.out,HN2.out];exact q1) q3;rw[HN1.out,HN2.out]at this;exact this
      clear hB hR hrd;go_wp2_with (at_builtin;refine wpList_append_lies _ rfl (.tmp 31) (.tmp 32) 24 rfl wq.heap.size 45 i0 _ 1 24 Tryz.underlying24 hi0 hz0 hz1 hz2 rfl (by omega) _ n1 (es1.map E.v) rfl hrow ⟨b,off,none⟩ n2 c2 (es2.map E.v) rfl hlen hnews hone (by omega) (by unfold maxLen;omega) (by omega) hlo _ rfl ?_;intro g0 cap0 w5 hown1 hgrow hat hlt1;have HX:=aA (HRND.out g0 cap0 w5 hown1 hgrow hat);have HB5:=aA (HB.out.grown hgrow hlo (fun k e=>(HR.out.row.lt k e).1));clear hown1 hgrow hat hlt1 hnews hone hlen hrow);go_roundw;case rel=>exact⟨HB5.out,.inr (.inr ⟨by first|rfl|go_num,HX.out⟩)⟩
      case measure=>first|(simp[intOf];done)|(simp[intOf];omega)
    ·have HR:=aA hR;clear hB hR;go_wp2;refine bY (results_tmp rfl _ _ _) rfl ?_;exact⟨u6,rfl,HB.out,HR.out⟩
theorem SG {k k':Nat→M} {n i:Nat} (h:∀j,j<n→k j=k' j) (hi:i<n):jP k n i=jP k' n i:=by
 rw[Bool.eq_iff_iff];simp only[jP,decide_eq_true_eq];constructor
 ·intro hh j hj;rw[←h j hj,←h i hi];exact hh j hj
 ·intro hh j hj;rw[h j hj,h i hi];exact hh j hj
theorem dA.rw {lo:Nat} {w:World} {g cap:Nat} {es:List E} (h:dA lo w (.slice (some ⟨g,0,none⟩) es.length cap) es):vI g w es.length (fun i=>es.getD i E0) where
 row:=by
  rcases h.row.2 with⟨hv,h0⟩|⟨g',cap',cur,hv,hlo,hg,hn,hm,hs,ht⟩
  ·cases hv
  ·cases hv;refine⟨cap*1,by omega,fun j=>cur.getD j undef,⟨cur,hg,hs,fun j hj=>?_⟩,fun j hj=>?_⟩
   ·have hjs:j<cur.size:=by omega
    show cur[j]? =some (cur.getD j undef)
    rw[Array.getD_eq_getD_getElem?,Array.getElem?_eq_getElem hjs];rfl
   ·have e:(cur.toList.take (es.length*1))[j]? =(es.map E.v)[j]? :=by rw[ht]
    rw[List.getElem?_take_of_lt (by omega),List.getElem?_map,(zX hj).1]at e;show cur.getD j undef=(es.getD j E0).v
    rw[Array.getD_eq_getD_getElem?];have e2:cur[j]? =some (es.getD j E0).v:=by simpa using e
    rw[e2];rfl
 el:=fun j hj=>h.el _ (zX hj).2
theorem YW (es:List E):eH (fun i=>es.getD i E0) es.length=es:=by
 refine List.ext_getElem (cH _ _) (fun i h1 h2=>?_);have:=xC (fun i=>es.getD i E0) (n:=es.length) (i:=i) h2
 rw[List.getD_eq_getElem?_getD,List.getElem?_eq_getElem h1]at this;rw[List.getD_eq_getElem?_getD,List.getElem?_eq_getElem h2]at this;exact this
theorem vI.rd {g:Nat} {w:World} {n cap:Nat} {F:Nat→E} (h:vI g w n F) (hn:n≤100) (hc:n≤cap):nG w (some ⟨g,0,none⟩) cap (eH F n):=by
 refine⟨by rw[cH];exact hc,by rw[cH];exact hn,.inr ⟨g,0,rfl,h.lt,fun i e he=>?_⟩,fun e he=>?_⟩
 ·have hi:i<n:=by have:=(List.getElem?_eq_some_iff.1 he).1;rwa[cH]at this
  have:=xC F hi;rw[List.getD_eq_getElem?_getD,he]at this;rw[Nat.zero_add,h.cell hi,←this];rfl
 ·obtain⟨i,hi,rfl⟩:=List.mem_map.1 he;exact(h.el i (by simpa using hi)).1
structure Gw (lo g:Nat) (w:World) (N j:Nat) (G:Nat→E) (B:Nat→Nat):Prop where
 rw:vI g w N G
 nw:∀i,i<j→Wr w (G i).a (G i).p.length (lf (G i).p)∧∃off,(G i).a=some ⟨B i,off,none⟩∧lo≤B i∧B i<w.heap.size∧B i≠g
 ap:∀i k,i<k→k<j→B i<B k
theorem Gw.below {lo g:Nat} {w w':World} {N j:Nat} {G:Nat→E} {B:Nat→Nat} (h:Gw lo g w N j G B) (hb:Below w.heap.size w w'):Gw lo g w' N j G B where
 rw:=h.rw.below hb
 nw:=fun i hi=>⟨(h.nw i hi).1.below hb,(h.nw i hi).2.imp fun off ⟨e1,e2,e3,e4⟩=>⟨e1,e2,jY e3 hb.size,e4⟩⟩
 ap:=h.ap
theorem Gw.put {lo g:Nat} {w:World} {N j:Nat} {G:Nat→E} {B:Nat→Nat} {m:Nat} (h:Gw lo g w N j G B) (hj:j<N) (hm:∀i,i<j→B i<m) (hgm:g<m) (hlm:lo≤m) {a:Option Addr} {c:Nat} {Y:List T} (hO:jN m w a c Y) (h0:Y.length≠0):∃B',Gw lo g (w.setCell ⟨g,j,none⟩ (.slice a Y.length c)) N (j+1) (fun i=>if i=j then⟨a,c,Y⟩else G i) B':=by
 obtain⟨b,off,e,hb⟩:=hO.2.2.resolve_left h0;have hbl:b<w.heap.size:=(hO.1.under.resolve_left h0) b off e
 have hg:w.grownBy (w.setCell ⟨g,j,none⟩ (.slice a Y.length c)) (some g):=⟨rfl,rfl,rfl,by simp,fun k hk hne=>Below.heap_setCell _ _ _ _ (fun q=>hne (by rw[q]))⟩
 have hE:mU w (some g) ⟨a,c,Y⟩:=⟨hO.1,.inr fun b' off' e1 e2=>by
  have e1':a=some ⟨b',off',none⟩:=e1;rw[e]at e1';cases e1';have:g=b:=by simpa using e2
  omega⟩
 refine⟨fun i=>if i=j then b else B i,⟨h.rw.set hE,fun i hi=>?_,fun i k hik hk=>?_⟩⟩
 ·by_cases q:i=j
  ·simp only[if_pos q];refine⟨hO.2.1.grown hg (.inr fun b' off' e1 e2=>?_),off,e,by omega,by simpa using hbl,by omega⟩;rw[e]at e1;cases e1;have:b=g:=by simpa using e2
   omega
  ·simp only[if_neg q];obtain⟨w1,off1,e1,e2,e3,e4⟩:=h.nw i (by omega);refine⟨w1.grown hg (.inr fun b' off' q1 q2=>?_),off1,e1,e2,by simpa using e3,e4⟩;rw[e1]at q1;cases q1;exact e4 (by simpa using q2)
 ·show(if i=j then b else B i)<(if k=j then b else B k);rw[if_neg (show ¬i=j by omega)];by_cases q:k=j
  ·rw[if_pos q];have:=hm i (by omega)
   omega
  ·rw[if_neg q];exact h.ap i k hik (by omega)
theorem Gw.out {lo g:Nat} {w:World} {N cap:Nat} {G:Nat→E} {B:Nat→Nat} (h:Gw lo g w N N G B) (hN:N≤100) (hc:N≤cap) (hlo:lo≤g) {l:List (List T)} (hl:(eH G N).map E.p=l):l.length=N∧iL lo w (some ⟨g,0,none⟩) N cap (fun i=>(G i).a) (lN (bC l)) (fun i=>(G i).c) (fN (bC l)) g B:=by
 have hle:l.length=N:=by rw[←hl,List.length_map,cH]
 have hof:∀i,i<N→bC l i=(G i).p:=fun i hi=>by rw[←hl,tJ,xC G hi]
 refine⟨hle,⟨⟨hc,by omega,.inr ⟨g,0,rfl,h.rw.lt,fun i hi=>?_⟩,fun i hi=>?_⟩,.inr ⟨0,rfl,hlo⟩,fun i hi=>?_,fun i hi=>?_,fun i k hik hk _ _=>?_⟩⟩
 ·rw[Nat.zero_add,h.rw.cell hi];show some (Value.slice (G i).a (G i).p.length (G i).c)=some (.slice (G i).a (bC l i).length (G i).c)
  rw[hof i hi]
 ·show Rd w (G i).a (bC l i).length (G i).c (lf (bC l i));rw[hof i hi];exact(h.rw.el i hi).1
 ·show Wr w (G i).a (bC l i).length (lf (bC l i));rw[hof i hi];exact(h.nw i hi).1
 ·obtain⟨_,off,e1,e2,_,e4⟩:=h.nw i hi;exact .inr ⟨off,e1,e2,e4⟩
 ·have:=h.ap i k hik hk;omega
theorem OK (G:Nat→E) {N j:Nat} (e:E) (hj:j<N):eH (fun i=>if i=j then e else G i) N=jH (eH G N) j e:=by
 rw[OO (by rw[cH];exact hj)];refine List.ext_getElem (by rw[List.length_set,cH,cH]) (fun i h1 h2=>?_);rw[List.getElem_set];simp only[eH,List.getElem_map,List.getElem_range];by_cases q:i=j
 ·simp[q]
 ·rw[if_neg q,if_neg (fun q'=>q q'.symm)]
def rU (w:World) (R:Option (List (List T))) (r:Ending) (w':World):Prop:=Below w.heap.size w w'∧((∃l qa qc ad cp Rb B,R=some l∧r= .returned (.tuple #[.slice qa l.length qc,.bool true])∧iL w.heap.size w' qa l.length qc ad (lN (bC l)) cp (fN (bC l)) Rb B)∨(R=none∧r= .returned (.tuple #[.slice none 0 0,.bool false])))
theorem kK (w:World) (o:Int) (a:Option Addr) (n cap:Nat) (ad:Nat→Option Addr) (cp:Nat→Nat) (L:Nat→List T) (h:cZ w a n cap ad (lN L) cp (fN L)):Calls Tryz.prog 12 #[.int .i64 o,.slice a n cap] w (rU w (aU o n L)):=by
 have HH:=aA h;have q1:(n:Int)≤140737488351232:=by have:=h.2.1;omega
 clear h;by_cases ho:1≤o∧o≤3;rotate_left
 ·have e:aU o n L=none:=if_neg (fun q=>ho q.1);rw[e];go_enter Tryz.func12,Tryz.ntmps12;go_wp2_with fail;refine(iS _ o _ _ _ (by omega)).mono ?_;rintro r w1 ⟨rfl,hb1⟩;have HB1:=aA hb1
  clear hb1;go_wp2;refine bY (results_tmp2 rfl _ _ _) rfl ?_;exact⟨HB1.out,.inr ⟨rfl,rfl⟩⟩
 cases hl:aT n (lN L) (fN L)
 ·have e:aU o n L=none:=if_neg (fun q=>by rw[hl]at q;exact absurd q.2 (by simp));rw[e];go_enter Tryz.func12,Tryz.ntmps12;go_wp2_with fail;refine(jM _ o _ _ _ _ _ _ _ HH.out ho.1 ho.2 hl).mono ?_;rintro r w1 ⟨rfl,hb1⟩;have HB1:=aA hb1
  clear hb1;go_wp2;refine bY (results_tmp2 rfl _ _ _) rfl ?_;exact⟨HB1.out,.inr ⟨rfl,rfl⟩⟩
 obtain⟨i0,hi0,hz0,hz1,hz2⟩:=pU;have n12:=(aL hl).1
 have hnl:(n:Int)≤12:=by omega
 have hR0:aU o n L=gD o (bU o n L).length 0 (bU o n L):=if_pos ⟨ho,hl⟩;obtain⟨R0,hR0e⟩:∃R0,aU o n L=R0:=⟨_,rfl⟩
 rw[hR0e]at hR0⊢;have HR0:=aA hR0
 obtain⟨hlk,hl12⟩:=tF (o:=o) hl;have HLK:=aA hlk
 obtain⟨nd,hnd⟩:∃nd,jP (fun i=>(aV o (L i)).m) n=nd:=⟨_,rfl⟩
 have HND:=aA hnd;have HL0:Hid (∀es:List E,es=fJ nd (gK ad cp L) n→(iT (jL o) [] es).map E.p=bU o n L∧es.length≤12∧(bU o n L).length=es.length∧∀e∈es,cG e.p=true∧e.p.length≠0):=fun es he=>by
  have h1:es.map E.p=fJ nd L n:=by rw[he,xG];rfl
  refine⟨?_,?_,?_,fun e hee=>?_⟩
  ·show(iT (fun a b=>UJ o a.p b.p) [] es).map E.p=_;rw[DX E.p (UJ o),h1,←hnd];rfl
  ·have:=qI nd (gK ad cp L) n;rw[he];omega
  ·unfold bU;rw[sO,hnd,←h1,List.length_map,List.length_nil,Nat.zero_add]
  ·have:e.p∈fJ nd L n:=by rw[←h1];exact List.mem_map_of_mem hee
   exact JU hl e.p this
 clear hR0 hR0e hlk hnd;go_enter Tryz.func12,Tryz.ntmps12;go_wp2_with fail;refine(kM _ o _ _ _ _ _ _ _ HH.out ho.1 ho.2 hl).mono ?_;rintro r w1 ⟨v,rfl,hb1,ho1⟩;obtain⟨la,lc,rfl,hout⟩:=aH ho1 (by rw[fU];omega);have hld:=hout.1
 rw[fU]at hld;rw[fU];have HLD:=aA hld
 have HB1:=aA hb1;have hf:∀i,i<n→lf (kD o (lN L) (fN L) n) i=aV o (L i):=fun i hi=>oS o (lN L) (fN L) n i hi
 have HNEED:Hid (∀j,j<n→jP (fun i=>(lf (kD o (lN L) (fN L) n) i).m) n j=nd j):=fun j hj=>by rw[←HND.out];exact SG (fun i hi=>by show(lf (kD o (lN L) (fN L) n) i).m=(aV o (L i)).m;rw[hf i hi]) hj
 have hsw:w.heap.size≤w1.heap.size:=hb1.size;clear hb1 ho1 hout hld hf;go_wp2;go_loopw [8,24] (fun tv ii wr=>∃(j:Nat),j≤n∧ii= .int .i64 (j:Int)∧Below w1.heap.size w1 wr∧dA w1.heap.size wr tv (fJ nd (gK ad cp L) j)) (fun _ ii _=>n-(intOf ii).toNat);case atStart=>exact⟨0,Nat.zero_le _,rfl,bL _ _,dA.nil _ _⟩
 case round=>
  obtain⟨j,hj,rfl,hB,hA⟩:=hrel;have HB:=aA hB
  have HA:=aA hA;have hjl:=qI nd (gK ad cp L) j
  by_cases hlt:j<n
  ·have hjn:(j:Int)<(n:Int):=by omega
   obtain⟨b1,off1,ea,hb1,hc1⟩:=HH.out.2.2.1.resolve_left (by omega);obtain⟨l,hlen⟩:∃l,(L j).length=l:=⟨_,rfl⟩
   have kc:wr.cell? ⟨b1,off1+j,none⟩=some (.slice (ad j) l (cp j)):=((aB HB1.out hB).cell (p:=⟨b1,off1+j,none⟩) hb1).trans (by rw[←hlen];exact hc1 j hlt);have hcall:=RE wr la n lc (lf (kD o (lN L) (fN L) n)) j (HLD.out.below hB) hlt
   rw[HNEED.out j hlt]at hcall;have HCL:=aA hcall
   have HLEN:=aA hlen;have HEJ:=aA (cZ.el (HH.out.below (aB HB1.out hB)) hlt)
   have hskip:nd j=false→fJ nd (gK ad cp L) (j+1)=fJ nd (gK ad cp L) j:=fun hg=>if_neg (by rw[hg];simp);have htake:nd j=true→fJ nd (gK ad cp L) (j+1)=fJ nd (gK ad cp L) j++[gK ad cp L j]:=fun hg=>if_pos hg
   have HSK:=aA hskip;have HTK:=aA htake
   subst ea;clear hB hA hc1 hcall hlen hskip htake;cases hg:nd j
   ·have HS:=aA (HSK.out hg);go_wp2_with fail;refine HCL.out.mono ?_;rw[hg];rintro r w2 ⟨rfl,hb2⟩;have HB2:=aA (aB HB.out hb2)
    have HA2:=aA (HA.out.below hb2);clear hb2 kc hg;go_wp2;go_roundw;case rel=>exact⟨j+1,by omega,by go_num,HB2.out,by rw[HS.out];exact HA2.out⟩
    case measure=>simp[intOf];omega
   ·have HT:=aA (HTK.out hg);go_wp2_with fail;refine HCL.out.mono ?_;rw[hg];rintro r w2 ⟨rfl,hb2⟩;have bx:=aC w2 (.cells #[.slice (ad j) l (cp j)] 45)
    have HB2:=aA (aB (aB HB.out hb2) bx);have HA2:=aA ((HA.out.below hb2).below bx)
    have hrow:=HA2.out.row;obtain⟨m,hm⟩:∃m,(fJ nd (gK ad cp L) j).length=m:=⟨_,rfl⟩
    rw[hm]at hrow hjl;have hnews:∀jj u,[Value.slice (ad j) l (cp j)][jj]? =some u→(w2.alloc (.cells #[.slice (ad j) l (cp j)] 45)).cell? ((⟨w2.heap.size,0,none⟩:Addr).add jj)=some u:=World.news_of_block (heap_alloc_new w2 _)
    have hone:∀u∈[Value.slice (ad j) l (cp j)],u.oneCell'=true:=fun u hu=>by
     have:u= .slice (ad j) l (cp j):=by simpa using hu
     subst this;rfl
    have hbase:w1.heap.size≤(w2.alloc (.cells #[.slice (ad j) l (cp j)] 45)).heap.size:=HB2.out.size;have HEL:Hid (mU (w2.alloc (.cells #[.slice (ad j) l (cp j)] 45)) u8.ownBlock (gK ad cp L j)):=by
     refine mU.far (w:=w) (HH.out.el hlt) (aB HB1.out HB2.out) (fun k hk=>?_);have:=(HA2.out.row.lt k hk).1
     omega
    have HRND:Hid (∀(g0 cap0:Nat) (w5:World),w5.ownsRow w1.heap.size 45 1 (.slice (some ⟨g0,0,none⟩) (m+1) cap0) (m+1) ((fJ nd (gK ad cp L) j).map E.v++[.slice (ad j) l (cp j)])→(w2.alloc (.cells #[.slice (ad j) l (cp j)] 45)).grownBy w5 u8.ownBlock→(u8.ownBlock=some g0∨g0=(w2.alloc (.cells #[.slice (ad j) l (cp j)] 45)).heap.size)→dA w1.heap.size w5 (.slice (some ⟨g0,0,none⟩) (m+1) cap0) (fJ nd (gK ad cp L) (j+1))):=fun g0 cap0 w5 p1 p2 p3=>by have:=HA2.out.app (es':=[gK ad cp L j]) (fun e he=>by rw[List.mem_singleton.1 he];exact HEL.out) (g0:=g0) (cap0:=cap0) p2 (by rw[hm];show w5.ownsRow _ _ _ _ (m+1) (_++[Value.slice (ad j) (L j).length (cp j)]);rw[HLEN.out];exact p1) p3;rw[hm]at this;rw[HT.out];exact this
    clear hb2 bx kc hg hm;go_wp2_with (at_builtin;refine wpList_append_lies _ rfl (.tmp 32) (.tmp 34) 24 rfl w1.heap.size 45 i0 _ 1 24 Tryz.underlying24 hi0 hz0 hz1 hz2 rfl (by omega) _ m ((fJ nd (gK ad cp L) j).map E.v) rfl hrow ⟨w2.heap.size,0,none⟩ 1 1 [.slice (ad j) l (cp j)] rfl rfl hnews hone (by omega) (by unfold maxLen;omega) (by omega) hbase _ rfl ?_;intro g0 cap0 w5 hown1 hgrow hat hlt1;have HX:=aA (HRND.out g0 cap0 w5 hown1 hgrow hat);have HB5:=aA (HB2.out.grown hgrow hbase (fun k e=>(HA2.out.row.lt k e).1));clear hown1 hgrow hat hlt1 hnews hone hrow hbase);go_roundw;case rel=>exact⟨j+1,by omega,by go_num,HB5.out,HX.out⟩
    case measure=>simp[intOf];omega
  ·have hjn:¬(j:Int)<(n:Int):=by omega
   have hje:j=n:=by omega
   subst hje;obtain⟨es,hes⟩:∃es,fJ nd (gK ad cp L) j=es:=⟨_,rfl⟩
   rw[hes]at hA hjl;obtain⟨e1,e2,e3,e4⟩:=HL0.out es hes.symm;have HE1:=aA e1
   have HE4:=aA e4;have hRs:gD o es.length 0 (bU o j L)=R0:=by rw[HR0.out,e3]
   have HRS:=aA hRs;clear hB hes e1 e3 e4 hRs HA HL0 HNEED HND HLD HR0;obtain⟨W0,hW0⟩:∃x,x=wr:=⟨_,rfl⟩
   subst hW0;rcases hA.row.2 with⟨hv,h0⟩|⟨g,capg,cur,hv,hlo,hg,hnc,_⟩
   ·subst hv;have e0:es=[]:=List.length_eq_zero_iff.1 h0
    subst e0;have hR:R0=some []:=by rw[←HRS.out,←HE1.out];rfl
    subst hR;clear hA;go_wp2_with fail;refine(Fy _ o _).mono ?_;rintro r w3 ⟨rfl,hw3⟩;obtain rfl:=hw3.symm;clear hw3;go_wp2;go_loopw [43] (fun v w'=>v= .int .i64 0∧w'=W0) (fun _ _=>0);case atStart=>exact⟨rfl,rfl⟩
    case round=>
     obtain⟨rfl,rfl⟩:=hrel;go_wp2;refine bY (results_tmp2 rfl _ _ _) rfl ?_;exact⟨aB HB1.out HB.out,.inl ⟨[],none,0,fun _=>none,fun _=>0,0,fun _=>0,rfl,rfl,⟨⟨Nat.le_refl _,Nat.zero_le _,.inl rfl,fun i hi=>absurd hi (rT _)⟩,.inl rfl,fun i hi=>absurd hi (rT _),fun i hi=>absurd hi (rT _),fun i j _ hj=>absurd hj (rT _)⟩⟩⟩
   ·subst hv;obtain⟨N,hN⟩:∃N,es.length=N:=⟨_,rfl⟩
    have hrw:=hA.rw;rw[hN]at hrw e2 hnc hjl HRS⊢;have hgw:w.heap.size≤g:=by omega
    have hNI:(N:Int)≤12:=by omega
    have hNc:(N:Int)≤(capg:Int):=by omega
    have hgl:=hrw.lt;have hsrt:=Ki W0 o g N capg (fun i=>es.getD i E0) ho hrw e2 (fun j hj=>HE4.out _ (zX (by omega)).2)
    have hpre:(eH (uA (jL o) (N-1) 1 (fun i=>es.getD i E0)) N)=iT (jL o) [] es:=by rw[Kh,←hN,YW]
    obtain⟨G0,hG0⟩:∃G0,uA (jL o) (N-1) 1 (fun i=>es.getD i E0)=G0:=⟨_,rfl⟩
    rw[hG0]at hsrt hpre;have HP0:Hid ((eH G0 N).map E.p=bU o j L):=by show _=_;rw[hpre,HE1.out]
    have HSRT:=aA hsrt;clear hsrt hpre hG0 hA hrw hg hN HE1 HE4;go_wp2_with fail;refine HSRT.out.mono ?_;rintro r w3 ⟨rfl,hg3,hr3⟩;have HB3:=aA ((aB HB1.out HB.out).grown hg3 (aB HB1.out HB.out).size (fun k e=>by cases e;exact hgw))
    have HR3:=aA hr3;clear hg3 hr3 HSRT;go_wp2;go_loopw [43] (fun ii wr=>∃(i:Nat) (G:Nat→E) (B:Nat→Nat) (l:List (List T)),i≤N∧ii= .int .i64 (i:Int)∧Below w.heap.size w wr∧Gw w.heap.size g wr N i G B∧Hid ((eH G N).map E.p=l)∧Hid (UU l)∧Hid (gD o (N-i) i l=R0)) (fun ii _=>N-(intOf ii).toNat);case atStart=>exact⟨0,G0,fun _=>0,bU o j L,Nat.zero_le _,rfl,HB3.out,⟨HR3.out,fun i hi=>absurd hi (rT _),fun i k _ hk=>absurd hk (rT _)⟩,HP0,HLK,HRS⟩
    case round=>
     obtain⟨i,G,B,l,hi,rfl,hBr,hW,HP,HO,HR⟩:=hrel;by_cases hit:i<N
     ·have hiI:(i:Int)<(N:Int):=by omega
      obtain⟨x,hx⟩:∃x,G i=x:=⟨_,rfl⟩
      have kc:=hW.rw.cell hit;rw[hx]at kc;have kc':wr.cell? ⟨g,i,none⟩=some (.slice x.a x.p.length x.c):=kc
      have hi1:(i:Int)+1≤(N:Int):=by omega
      have hic:(i:Int)≤(capg:Int):=by omega
      have hgr:=hW.rw.lt;have hwi:IntKind.i64.wrap ((i:Int)+1)=(i:Int)+1:=by rw[IntKind.wrap_i64];omega
      have ei:((i:Int)+1).toNat=i+1:=by omega
      have hi0':¬((i:Int)+1<0):=by omega
      have hi2:i+1≤N:=by omega
      have hi3:N≤capg:=hnc;have HX:=aA hx
      have hlen1:((eH G N).take i).length=i:=by rw[List.length_take,cH];omega
      have hlen2:((eH G N).drop (i+1)).length=N-(i+1):=by rw[List.length_drop,cH]
      have hrdw:=hW.rw.rd (cap:=capg) (by omega) hnc;have HCC:Hid (∀(A2:Option Addr) (C2:Nat),nG wr A2 C2 ((eH G N).drop (i+1))→Calls Tryz.prog 49 #[.slice (some ⟨wr.heap.size,0,none⟩) 2 2] (wr.alloc (.cells #[.slice (some ⟨g,0,none⟩) i capg,.slice A2 (N-(i+1)) C2] 24)).drew fun r w'=>∃oa oc,r= .returned (.slice oa (N-1) oc)∧Below w.heap.size w w'∧nG w' oa oc (eN (eH G N) i)∧Gw w.heap.size g w' N i G B∧wr.heap.size≤w'.heap.size):=fun A2 C2 hA2=>by
       have bx:Below wr.heap.size wr (wr.alloc (.cells #[.slice (some ⟨g,0,none⟩) i capg,.slice A2 (N-(i+1)) C2] 24)).drew:=(aC wr _).drew;refine(Hq _ wr.heap.size (some ⟨g,0,none⟩) capg ((eH G N).take i) A2 C2 ((eH G N).drop (i+1)) ?_ ?_ ((hrdw.takeE (by rw[cH];omega)).below bx) (hA2.below bx) (by rw[hlen1,hlen2];omega)).mono ?_
       ·rw[hlen1];show(wr.alloc _).cell? _=_
        rw[World.cell?_alloc_at _ _ _ _ rfl];rfl
       ·rw[hlen2];show(wr.alloc _).cell? _=_
        rw[World.cell?_alloc_at _ _ _ _ rfl];rfl
       ·rintro r w' ⟨tv,rfl,hb,hR⟩;have hl:(eN (eH G N) i).length=N-1:=by rw[jF (by rw[cH];exact hit),cH]
        obtain⟨oa,oc,etv,hrd⟩:=dA.rd (es:=eN (eH G N) i) hR (by rw[hl];omega);rw[hl]at etv;subst etv;exact⟨oa,oc,rfl,aB (aB hBr bx) hb,hrd,(hW.below bx).below hb,jZ bx.size hb.size⟩
      have hlx:bC l i=x.p:=by rw[←HP.out,tJ,xC G hit,hx]
      have hot:(eN (eH G N) i).map E.p=eN l i:=by rw[DB,HP.out]
      have hol:(eN (eH G N) i).length=N-1:=by rw[jF (by rw[cH];exact hit),cH]
      have HLF:Hid (∀(W:World) (oa:Option Addr) (oc:Nat),RL W x.a x.c x.p→nG W oa oc (eN (eH G N) i)→Calls Tryz.prog 50 #[.int .i64 o,.slice x.a x.p.length x.c,.slice oa (N-1) oc] W fun r w'=>Below W.heap.size W w'∧((∃Y a' c',mQ o (bC l i) (eN l i)=some Y∧r= .returned (.tuple #[.slice a' Y.length c',.bool true])∧jN W.heap.size w' a' c' Y)∨(mQ o (bC l i) (eN l i)=none∧r= .returned (.tuple #[.slice none 0 0,.bool false])))):=fun W oa oc h1 h2=>by
       have h3:=h2.rds;rw[hot,hol]at h3;have:=Ck W o x.a x.c x.p oa (N-1) oc _ _ (bC (eN l i)) ho h1 h3 rfl
       rw[Da,hlx,←hot,List.length_map,hol,hot];exact this
      clear kc hBr hW hlen1 hlen2 hlx hot hol hx;by_cases hce:capg=i+1
      ·subst hce;have hNi:N=i+1:=by omega
       have HRX:Hid (nG wr (some ⟨g,0,none⟩) 0 ((eH G N).drop (i+1))):=by have:(eH G N).drop (i+1)=[]:=List.drop_eq_nil_of_le (by rw[cH];omega);rw[this];exact⟨Nat.le_refl _,Nat.zero_le _,.inl rfl,fun e he=>by cases he⟩
       clear hrdw hNi;go_wp2_with fail;have HC5:=aA (HCC.out (some ⟨g,0,none⟩) 0 HRX.out)
       rw[show N-(i+1)=0 by omega]at HC5
       go_region_with (go_at_call 49;refine HC5.out.mono ?_;rintro r w5 ⟨oa,oc,rfl,hB5,hrd5,hW5,hs5⟩;have HB5:=aA hB5;have HW5:=aA hW5;have HRD5:=aA hrd5;clear hB5 hW5 hrd5)
       all_goals
        have hx5:RL w5 x.a x.c x.p:=by have:=(HW5.out.rw.el i hit).1;rw[HX.out]at this;exact this
        have HC6:=aA (HLF.out w5 oa oc hx5 HRD5.out);clear hx5 HC5 kc';go_wp2_with fail;refine HC6.out.mono ?_;rintro r w6 ⟨hb6,hh⟩;have HB6:=aA (aB HB5.out hb6)
        have HW6:=aA (HW5.out.below hb6);have k6:=HW6.out.rw.cell hit
        rw[HX.out]at k6;have c6:w6.cell? ⟨g,i,none⟩=some (.slice x.a x.p.length x.c):=k6
        have f6:w6.frozen? ⟨g,i,none⟩=false:=HW6.out.rw.frozen i;have hs6:w5.heap.size≤w6.heap.size:=hb6.size
        rcases hh with⟨Y,ya,yc,hY,rfl,hO⟩|⟨hY,rfl⟩
        ·have hY0:=wQ hY;obtain⟨B',hW7⟩:=HW6.out.put (m:=w5.heap.size) hit (fun k hk=>by obtain⟨_,_,_,_,e3,_⟩:=HW5.out.nw k hk;exact e3) HW5.out.rw.lt HB5.out.size hO hY0.2;have HW7:=aA hW7
         have HB7:=aA (HB6.out.setCell (p:=⟨g,i,none⟩) hgw (.slice ya Y.length yc));have HP7:Hid ((eH (fun k=>if k=i then⟨ya,yc,Y⟩else G k) N).map E.p=jH l i Y):=by show _=_;rw[OK G _ hit,DL,HP.out]
         have HO7:Hid (UU (jH l i Y)):=AS HO.out hY0;have HR7:Hid (gD o (N-(i+1)) (i+1) (jH l i Y)=R0):=by show _=_;rw[←HR.out,show N-i=(N-(i+1))+1 by omega,kF hY]
         clear hW7 hO hY hb6 k6 hY0;go_wp2;go_roundw;case rel=>exact⟨i+1,_,B',jH l i Y,by omega,by go_num,HB7.out,HW7.out,HP7,HO7,HR7⟩
         case measure=>simp[intOf];omega
        ·have HB7:=aA (HB6.out.setCell (p:=⟨g,i,none⟩) hgw (.slice none 0 0));have hR7:R0=none:=by rw[←HR.out,show N-i=(N-(i+1))+1 by omega,lL hY]
         subst hR7;clear hY hb6 k6;go_wp2;refine bY (results_tmp2 rfl _ _ _) rfl ?_;exact⟨HB7.out,.inr ⟨rfl,rfl⟩⟩
      ·have HRX:Hid (nG wr (some ⟨g,i+1,none⟩) (capg-(i+1)) ((eH G N).drop (i+1))):=by have:=hrdw.dropE (k:=i+1) (by rw[cH];omega);rw[Nat.zero_add]at this;exact this
       clear hrdw;go_wp2_with fail;have HC5:=aA (HCC.out (some ⟨g,i+1,none⟩) (capg-(i+1)) HRX.out)
       go_region_with (go_at_call 49;refine HC5.out.mono ?_;rintro r w5 ⟨oa,oc,rfl,hB5,hrd5,hW5,hs5⟩;have HB5:=aA hB5;have HW5:=aA hW5;have HRD5:=aA hrd5;clear hB5 hW5 hrd5)
       all_goals
        have hx5:RL w5 x.a x.c x.p:=by have:=(HW5.out.rw.el i hit).1;rw[HX.out]at this;exact this
        have HC6:=aA (HLF.out w5 oa oc hx5 HRD5.out);clear hx5 HC5 kc';go_wp2_with fail;refine HC6.out.mono ?_;rintro r w6 ⟨hb6,hh⟩;have HB6:=aA (aB HB5.out hb6)
        have HW6:=aA (HW5.out.below hb6);have k6:=HW6.out.rw.cell hit
        rw[HX.out]at k6;have c6:w6.cell? ⟨g,i,none⟩=some (.slice x.a x.p.length x.c):=k6
        have f6:w6.frozen? ⟨g,i,none⟩=false:=HW6.out.rw.frozen i;have hs6:w5.heap.size≤w6.heap.size:=hb6.size
        rcases hh with⟨Y,ya,yc,hY,rfl,hO⟩|⟨hY,rfl⟩
        ·have hY0:=wQ hY;obtain⟨B',hW7⟩:=HW6.out.put (m:=w5.heap.size) hit (fun k hk=>by obtain⟨_,_,_,_,e3,_⟩:=HW5.out.nw k hk;exact e3) HW5.out.rw.lt HB5.out.size hO hY0.2;have HW7:=aA hW7
         have HB7:=aA (HB6.out.setCell (p:=⟨g,i,none⟩) hgw (.slice ya Y.length yc));have HP7:Hid ((eH (fun k=>if k=i then⟨ya,yc,Y⟩else G k) N).map E.p=jH l i Y):=by show _=_;rw[OK G _ hit,DL,HP.out]
         have HO7:Hid (UU (jH l i Y)):=AS HO.out hY0;have HR7:Hid (gD o (N-(i+1)) (i+1) (jH l i Y)=R0):=by show _=_;rw[←HR.out,show N-i=(N-(i+1))+1 by omega,kF hY]
         clear hW7 hO hY hb6 k6 hY0;go_wp2;go_roundw;case rel=>exact⟨i+1,_,B',jH l i Y,by omega,by go_num,HB7.out,HW7.out,HP7,HO7,HR7⟩
         case measure=>simp[intOf];omega
        ·have HB7:=aA (HB6.out.setCell (p:=⟨g,i,none⟩) hgw (.slice none 0 0));have hR7:R0=none:=by rw[←HR.out,show N-i=(N-(i+1))+1 by omega,lL hY]
         subst hR7;clear hY hb6 k6;go_wp2;refine bY (results_tmp2 rfl _ _ _) rfl ?_;exact⟨HB7.out,.inr ⟨rfl,rfl⟩⟩
     ·have hiI:¬(i:Int)<(N:Int):=by omega
      have hie:i=N:=by omega
      subst hie;have hRl:R0=some l:=by rw[←HR.out,Nat.sub_self];rfl
      subst hRl;obtain⟨hll,hOS⟩:=hW.out (cap:=capg) (by omega) hnc hgw HP.out;have HF:Hid (∃l' qa qc ad cp Rb B,some l=some l'∧Ending.returned (.tuple #[.slice (some ⟨g,0,none⟩) i capg,.bool true])= .returned (.tuple #[.slice qa l'.length qc,.bool true])∧iL w.heap.size wr qa l'.length qc ad (lN (bC l')) cp (fN (bC l')) Rb B):=⟨l,some ⟨g,0,none⟩,capg,_,_,g,B,rfl,by rw[hll],by rw[hll];exact hOS⟩
      have HBR:=aA hBr;clear hBr hW hll hOS;go_wp2;refine bY (results_tmp2 rfl _ _ _) rfl ?_;exact⟨HBR.out,.inl HF.out⟩
end Go.Proofs.YtdidlcjhodejjaaGreat
namespace Go.Proofs.YtdidlcjhodejjaaGreat
open Go.RowKit
set_option linter.unusedVariables false
def iC:Nat→Nat→Nat
 |0,c=>2*c
 |a+1,c=>2*iC a c+1
def ZR (n:Nat):Nat×Nat:=if h:n%2=0 then(0,n / 2)else((ZR (n / 2)).1+1,(ZR (n / 2)).2)
termination_by n
decreasing_by all_goals omega
theorem EO:∀a c,ZR (iC a c)=(a,c)
 |0,c=>by unfold ZR iC;rw[dif_pos (by omega),show 2*c / 2=c by omega]
 |a+1,c=>by have ih:=EO a c;unfold ZR iC;rw[dif_neg (by omega),show(2*iC a c+1) / 2=iC a c by omega,ih]
theorem Rj (n:Nat):iC (ZR n).1 (ZR n).2=n:=by
 induction n using Nat.strongRecOn with
 |ind n ih=>
  unfold ZR;by_cases h:n%2=0
  ·rw[dif_pos h];show 2*(n / 2)=n;omega
  ·rw[dif_neg h];have:=ih (n / 2) (by omega)
   show 2*iC (ZR (n / 2)).1 (ZR (n / 2)).2+1=n;rw[this];omega
def lJ (n:Nat):Nat:=(ZR n).1
def rG (n:Nat):Nat:=(ZR n).2
theorem GK (a c:Nat):lJ (iC a c)=a:=by unfold lJ;rw[EO]
theorem IG (a c:Nat):rG (iC a c)=c:=by unfold rG;rw[EO]
theorem VE (n:Nat):iC (lJ n) (rG n)=n:=Rj n
def rX:Lq:=⟨fun u n k=>u (iC (lJ n+1) (rG n)) k,fun _ _=>rfl,fun _ _=>rfl⟩
def rY:Lq:=⟨fun u n k=>u n (iC (lJ k+1) (rG k)),fun _ _=>rfl,fun _ _=>rfl⟩
def rD:Lq:=⟨fun u n k=>u (iC (lJ n) (rG n+1)) k+nf (lJ n)*u (iC (lJ n-1) (rG n)) k,fun u v=>by funext n k;simp only[va];grind,fun c u=>by funext n k;simp only[vs];grind⟩
def rE:Lq:=⟨fun u n k=>u n (iC (lJ k) (rG k+1))+nf (lJ k)*u n (iC (lJ k-1) (rG k)),fun u v=>by funext n k;simp only[va];grind,fun c u=>by funext n k;simp only[vs];grind⟩
def aQ:xR where
 x:=rX
 y:=rY
 d:=rD
 e:=rE
 wx:=Lq.ext fun u n k=>by
  show u (iC (lJ (iC (lJ n+1) (rG n))) (rG (iC (lJ n+1) (rG n))+1)) k+nf (lJ (iC (lJ n+1) (rG n)))*u (iC (lJ (iC (lJ n+1) (rG n))-1) (rG (iC (lJ n+1) (rG n)))) k=u (iC (lJ (iC (lJ n) (rG n+1))+1) (rG (iC (lJ n) (rG n+1)))) k+nf (lJ n)*u (iC (lJ (iC (lJ n-1) (rG n))+1) (rG (iC (lJ n-1) (rG n)))) k+u n k;simp only[GK,IG];rw[show lJ n+1-1=lJ n by omega,VE,yN,qZ];cases h:lJ n with
  |zero=>rw[jX];grind
  |succ m=>rw[show m+1-1+1=m+1 by omega,←h,VE];grind
 wy:=Lq.ext fun u n k=>by
  show u n (iC (lJ (iC (lJ k+1) (rG k))) (rG (iC (lJ k+1) (rG k))+1))+nf (lJ (iC (lJ k+1) (rG k)))*u n (iC (lJ (iC (lJ k+1) (rG k))-1) (rG (iC (lJ k+1) (rG k))))=u n (iC (lJ (iC (lJ k) (rG k+1))+1) (rG (iC (lJ k) (rG k+1))))+nf (lJ k)*u n (iC (lJ (iC (lJ k-1) (rG k))+1) (rG (iC (lJ k-1) (rG k))))+u n k;simp only[GK,IG];rw[show lJ k+1-1=lJ k by omega,VE,yN,qZ];cases h:lJ k with
  |zero=>rw[jX];grind
  |succ m=>rw[show m+1-1+1=m+1 by omega,←h,VE];grind
 xy:=rfl
 xe:=rfl
 dy:=rfl
 de:=Lq.ext fun u n k=>by
  show(_+nf _*_)+nf (lJ k)*(_+nf _*_)=(_+nf _*_)+nf (lJ n)*(_+nf _*_)
  grind
def M.nn (m:M):Prop:=0≤m.x∧0≤m.y∧0≤m.d∧0≤m.e
def kf (o:Int) (a:M):Int:=if o=1 then a.x+a.y+a.d+a.e else if o=3 then a.d+a.x else 0
theorem qM {a b:M} (h1:a.x=b.x) (h2:a.y=b.y) (h3:a.d=b.d) (h4:a.e=b.e):a=b:=by cases a;cases b;simp only at h1 h2 h3 h4;rw[h1,h2,h3,h4]
variable (o:Int) (n:Nat) (L:Nat→List T)
def fV (j:Nat):M:=(aV o (L j)).m
variable {o n L}
def M.le (a b:M):Prop:=a.x≤b.x∧a.y≤b.y∧a.d≤b.d∧a.e≤b.e
def M.sub (b a:M):M:=⟨b.x-a.x,b.y-a.y,b.d-a.d,b.e-a.e⟩
def tv (o:Int) (L:Nat→List T) (δ:M):List (Fq×Nat)→Lq
 |[]=>Lq.nil
 |(c,j)::r=>Lq.sum (Lq.sc c (Lq.mul (mo aQ (M.sub δ (fV o L j))) (Rp aQ (L j)))) (tv o L δ r)
end Go.Proofs.YtdidlcjhodejjaaGreat
namespace Go.Proofs.YtdidlcjhodejjaaGreat
open Go.RowKit
set_option linter.unusedVariables false
theorem mX {m:M}:∀{L:List T},aM L m≠0→∃t∈L,t.m=m
 |[],h=>absurd rfl h
 |t::r,h=>by
  rw[aM]at h;split at h
  ·rename_i he;exact⟨t,List.mem_cons_self ..,cM.1 he⟩
  ·obtain⟨s,hs,e⟩:=mX h;exact⟨s,List.mem_cons_of_mem _ hs,e⟩
open Go.RowKit Go.Deep Go.Joins
section
variable {o:Int} {n:Nat} {L:Nat→List T}
theorem M.sum_comm (a b:M):a.sum b=b.sum a:=by unfold M.sum;refine qM ?_ ?_ ?_ ?_<;>(simp only;omega)
end
end Go.Proofs.YtdidlcjhodejjaaGreat
namespace Go.Proofs.YtdidlcjhodejjaaGreat
open Go.RowKit Go.Deep Go.Joins
set_option linter.unusedVariables false
theorem Fc {o:Int} {p:List T} {n:Nat} {L:Nat→List T} {S:Dv} (h:aW o p n (lN L) (fN L)=some S) (h0:p.length≠0) (hno:∀i,i<n→M.dvd (aV o (L i)).m (aV o p).m=false):S.r.length≠0∧aV o S.r=aV o p:=by
 obtain⟨h1,h2,h3,h4⟩:=jI h;have hm:=gN (o:=o) h0
 have hg:=dU (o:=o) (aD h2).2 h0;have htop:=sZ h1 h2 h0
 generalize ht:aV o p=t0 at *
 have key:=nD h (fun S=>S=lB p∨((∀t∈S.p,fH o t.m<fH o t0.m)∧aM S.r t0.m=t0.c)) (.inl rfl) (fun u S S' hok hs0 hI hs=>by
  rcases hI with rfl|⟨i1,i2⟩
  ·rcases kS h3 hok.p hs0 hs with⟨k,Y,hk,hd,_⟩|⟨_,rfl⟩
   ·have hd':M.dvd (aV o (L k)).m (aV o p).m=true:=hd;rw[ht,hno k hk]at hd';cases hd'
   ·right;show(∀t∈cY p [aV o p],fH o t.m<fH o t0.m)∧aM (dJ [] [aV o p]) t0.m=t0.c
    rw[ht];have f1:=cW (aD h2).2 (dH hg)
    have f2:=cU eQ (dH hg);have c1:aM [t0] t0.m=t0.c:=bO t0 []
    refine⟨fun t htm=>?_,by rw[f2.2,c1];show(0+t0.c)%101=t0.c;omega⟩;have hle:fH o t.m≤fH o t0.m:=by
     rcases tK (aD h2).2 (dH hg) htm with⟨a,ha,e⟩|⟨b,hb,e⟩
     ·rw[←e];exact htop a ha
     ·rw[←e,List.mem_singleton.1 hb];exact Int.le_refl _
    rcases Int.lt_or_le (fH o t.m) (fH o t0.m)with q|q
    ·exact q
    ·have e:=lW (o:=o) t.m t0.m (f1.1.2 t htm).1 hg.1 (by omega);have h5:=(iR f1.1 htm).2
     rw[e,f1.2,c1,(iR (aD h2).2 hm).1]at h5;exact absurd (by omega) h5
  ·have hl:=gN (o:=o) hs0;have hgl:=dU (o:=o) (aD hok.p).2 hs0
   right;rcases kS h3 hok.p hs0 hs with⟨k,Y,hk,hd,ho,hY,_,rfl⟩|⟨_,rfl⟩
   ·have hk2:=(aL h3).2 k hk;have hpt:=OL h1 hk2.2 hk2.1 hY
    have hsum:=OC hd;have hw:=(DP o (gI (aV o S.p) (aV o (L k))).m (aV o (L k)).m 0 0).2
    rw[hsum]at hw;refine⟨fun t htm=>?_,i2⟩;rcases tK (aD hok.p).2 (oM hY) htm with⟨a,ha,e⟩|⟨b,hb,e⟩
    ·rw[←e];exact i1 a ha
    ·rw[←e];have:=hpt b hb
     have:=i1 _ hl;omega
   ·refine⟨fun t htm=>?_,?_⟩
    ·rcases tK (aD hok.p).2 (dH hgl) htm with⟨a,ha,e⟩|⟨b,hb,e⟩
     ·rw[←e];exact i1 a ha
     ·rw[←e,List.mem_singleton.1 hb];exact i1 _ hl
    ·show aM (dJ S.r [aV o S.p]) t0.m=t0.c;have hne:(aV o S.p).m≠t0.m:=fun e=>by have:=i1 _ hl;rw[e]at this;omega
     rw[(cU hok.r.1 (dH hgl)).2,i2,iI hne,nZ]
     omega)
 obtain⟨hd,hpn⟩:=dG h;rcases key with e|⟨_,k2⟩
 ·rw[e]at hpn;have:p=[]:=hpn
  rw[this]at h0;exact absurd rfl h0
 ·have hne:aM S.r t0.m≠0:=by rw[k2];omega
  obtain⟨t,htm,e⟩:=mX hne;have hr0:S.r.length≠0:=fun q=>by rw[List.length_eq_zero_iff.1 q]at htm;cases htm
  refine⟨hr0,?_⟩;have hrok:=(iD h).1
  have q1:=(OV h htop).1 _ (gN (o:=o) hr0);have q2:=sZ h1 hrok hr0 t htm
  rw[e]at q2;have hgr:=dU (o:=o) (aD hrok).2 hr0
  have em:=lW (o:=o) (aV o S.r).m t0.m hgr.1 hg.1 (by omega);have ec:=(iR (aD hrok).2 (gN (o:=o) hr0)).1
  rw[em,k2]at ec;cases hq:aV o S.r;rw[hq]at em ec;cases t0
  simp_all
theorem Fo {t:T} (c1:1≤t.c) (c2:t.c≤100):(vG (kN t.c) t).c=1∧(vG (kN t.c) t).m=t.m:=by
 refine⟨?_,rfl⟩;have h1:=wF (b:=t.c) ⟨by omega,c2⟩ (by omega)
 have h2:=oQ t.c;unfold rQ at h1;rw[if_pos (by omega)]at h1;exact h1
theorem YD {o:Int} {p:List T} {oth:List (List T)} {Y:List T} (h:mQ o p oth=some Y) (h0:p.length≠0) (hno:∀q∈oth,M.dvd (aV o q).m (aV o p).m=false):(aV o Y).m=(aV o p).m∧(aV o Y).c=1∧(∀t∈Y,∀q∈oth,M.dvd (aV o q).m t.m=false):=by
 unfold mQ at h;split at h
 ·rename_i S hS;split at h
  ·cases h
  ·rename_i hr0;cases h;obtain⟨k1,k2⟩:=Fc hS h0 (fun i hi=>hno _ (eY hi));have hrok:=(iD hS).1
   obtain⟨_,_,e⟩:=wS (o:=o) hrok hr0;have hg:=dU (o:=o) (aD hrok).2 hr0
   rw[e,Nr o _ hr0];obtain⟨q1,q2⟩:=Fo hg.2.1 hg.2.2;refine⟨by rw[q2,k2],q1,fun t ht q hq=>?_⟩;obtain⟨a,ha,ea⟩:=Dl ht;obtain⟨i,hi,rfl⟩:=List.mem_iff_getElem.1 hq;have:=xF hS a ha i hi
   rw[show bC oth i=oth[i] by show oth.getD i []=_;rw[List.getD_eq_getElem?_getD,List.getElem?_eq_getElem hi];rfl]at this;rw[←ea];exact this
 ·cases h
end Go.Proofs.YtdidlcjhodejjaaGreat
