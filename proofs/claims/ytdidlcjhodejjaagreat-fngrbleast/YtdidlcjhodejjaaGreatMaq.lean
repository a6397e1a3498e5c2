/-
  Rows of operators that lie elsewhere: how they are read, cut and put together.
-/
import Derived.Test.YtdidlcjhodejjaaGreatMap
import Derived.Shelf.RegionOpenPlain
import Derived.Lib.AppendZeros
set_option maxHeartbeats 8000000
set_option maxRecDepth 100000
namespace Go.Proofs.YtdidlcjhodejjaaGreat
open Go.RowKit Go.Deep Go.Joins
set_option linter.unusedVariables false
structure E where
 a:Option Addr
 c:Nat
 p:List T
def E.v (e:E):Value:=.slice e.a e.p.length e.c
def E0:E:=⟨none,0,[]⟩
theorem Oc (es:List E):∀u∈es.map E.v,u.oneCell'=true:=fun u hu=>by
 obtain⟨e,_,rfl⟩:=List.mem_map.1 hu;rfl
def mU (w:World) (g:Option Nat) (e:E):Prop:=RL w e.a e.c e.p∧(e.p.length=0∨∀b off,e.a=some ⟨b,off,none⟩→g≠some b)
theorem mU.below {w w':World} {g:Option Nat} {e:E} (h:mU w g e) (hb:Below w.heap.size w w'):mU w' g e:=⟨Rd.below h.1 hb,h.2⟩
theorem mU.grown {w w':World} {g:Option Nat} {e:E} (h:mU w g e) (hg:w.grownBy w' g):mU w' g e:=⟨Rd.grown h.1 hg (h.2.imp id (fun q b off e1 e2=>q b off e1 e2.symm)),h.2⟩
theorem mU.to {w:World} {g g':Option Nat} {e:E} (h:mU w g e) (hg:g'=g∨∃k,g'=some k∧w.heap.size≤k):mU w g' e:=by
 refine⟨h.1,?_⟩;rcases hg with rfl|⟨k,rfl,hk⟩
 ·exact h.2
 ·rcases h.1.2.2 with h0|⟨b,off,e1,hlt,_⟩
  ·exact .inl h0
  ·refine .inr fun b' off' e2 e3=>?_;rw[e1]at e2;cases e2;have:k=b:=by simpa using e3
   omega
theorem mU.any {w:World} {e:E} (h:RL w e.a e.c e.p) {k:Nat} (hk:w.heap.size≤k):mU w (some k) e:=(show mU w none e from⟨h,.inr fun _ _ _ q=>by cases q⟩).to (.inr ⟨k,rfl,hk⟩)
structure dA (lo:Nat) (w:World) (tv:Value) (es:List E):Prop where
 row:w.ownsRow lo 45 1 tv es.length (es.map E.v)
 el:∀e∈es,mU w tv.ownBlock e
theorem dA.nil (lo:Nat) (w:World):dA lo w (.slice none 0 0) []:=⟨⟨rfl,.inl ⟨rfl,rfl⟩⟩,fun e he=>by cases he⟩
theorem dA.start {lo:Nat} {w:World} (h:lo≤w.heap.size):dA lo (w.alloc (.cells #[] 45)) (.slice (some ⟨w.heap.size,0,none⟩) 0 0) []:=⟨⟨rfl,.inr ⟨w.heap.size,0,#[],rfl,h,heap_alloc_new w (.cells #[] 45),Nat.le_refl _,Nat.zero_le _,rfl,rfl⟩⟩,fun e he=>by cases he⟩
theorem dA.below {lo:Nat} {w w':World} {tv:Value} {es:List E} (h:dA lo w tv es) (hb:Below w.heap.size w w'):dA lo w' tv es where
 row:=h.row.kept (BK hb none) (by
  cases e:tv.ownBlock with
  |none=>exact .inl rfl
  |some k=>exact .inr (by simp))
 el:=fun e he=>(h.el e he).below hb
theorem dA.app {lo:Nat} {w w5:World} {tv:Value} {es es':List E} (h:dA lo w tv es) (h':∀e∈es',mU w tv.ownBlock e) {g0 cap0:Nat} (hgrow:w.grownBy w5 tv.ownBlock) (hown:w5.ownsRow lo 45 1 (.slice (some ⟨g0,0,none⟩) (es.length+es'.length) cap0) (es.length+es'.length) (es.map E.v++es'.map E.v)) (hat:tv.ownBlock=some g0∨g0=w.heap.size):dA lo w5 (.slice (some ⟨g0,0,none⟩) (es.length+es'.length) cap0) (es++es'):=by
 refine⟨by rw[List.length_append,List.map_append];exact hown,fun e he=>?_⟩;have h1:mU w tv.ownBlock e:=by
  rcases List.mem_append.1 he with q|q
  ·exact h.el e q
  ·exact h' e q
 show mU w5 (some g0) e;rcases hat with q|q
 ·rw[←q];exact h1.grown hgrow
 ·have h2:=h1.to (g':=some g0) (.inr ⟨g0,rfl,by omega⟩);exact⟨(h1.grown hgrow).1,h2.2⟩
def nG (w:World) (a:Option Addr) (c:Nat) (es:List E):Prop:=
 es.length≤c∧es.length≤100∧(es.length=0∨∃b off,a=some ⟨b,off,none⟩∧b<w.heap.size∧∀i e,es[i]? =some e→w.cell? ⟨b,off+i,none⟩=some e.v)∧∀e∈es,RL w e.a e.c e.p
theorem nG.below {w w':World} {a:Option Addr} {c:Nat} {es:List E} (h:nG w a c es) (hb:Below w.heap.size w w'):nG w' a c es:=
 ⟨h.1,h.2.1,h.2.2.1.imp id (fun⟨b,off,e1,hlt,hc⟩=>⟨b,off,e1,jY hlt hb.size,fun i e he=>(hb.cell (p:=⟨b,off+i,none⟩) hlt).trans (hc i e he)⟩),fun e he=>Rd.below (h.2.2.2 e he) hb⟩
theorem dA.rd {lo:Nat} {w:World} {tv:Value} {es:List E} (h:dA lo w tv es) (hn:es.length≤100):∃a c,tv= .slice a es.length c∧nG w a c es:=by
 rcases h.row.2 with⟨hv,h0⟩|⟨b,cap,cur,hv,hlo,hg,hnc,_⟩
 ·exact⟨none,0,by rw[hv,h0],by omega,hn,.inl h0,fun e he=>(h.el e he).1⟩
 ·have hr:=h.row;rw[hv]at hr;refine⟨some ⟨b,0,none⟩,cap,hv,hnc,hn,.inr ⟨b,0,rfl,(hr.lt b rfl).2,fun i e he=>?_⟩,fun e he=>(h.el e he).1⟩;have hi:i<es.length:=(List.getElem?_eq_some_iff.1 he).1
  rw[Nat.zero_add,hr.cellAt i (by omega),List.getElem?_map,he];rfl
theorem zX {es:List E} {i:Nat} (h:i<es.length):es[i]? =some (es.getD i E0)∧es.getD i E0∈es:=by rw[List.getD_eq_getElem?_getD,List.getElem?_eq_getElem h];exact⟨rfl,List.getElem_mem h⟩
theorem tJ (es:List E) (i:Nat):bC (es.map E.p) i=(es.getD i E0).p:=by show(es.map E.p).getD i []=_;rw[List.getD_eq_getElem?_getD,List.getD_eq_getElem?_getD,List.getElem?_map];cases es[i]? <;>rfl
theorem nG.rds {w:World} {a:Option Addr} {c:Nat} {es:List E} (h:nG w a c es):cZ w a es.length c (fun i=>(es.getD i E0).a) (lN (bC (es.map E.p))) (fun i=>(es.getD i E0).c) (fN (bC (es.map E.p))):=by
 refine⟨h.1,by have:=h.2.1;omega,?_,fun i hi=>?_⟩
 ·rcases h.2.2.1 with h0|⟨b,off,e1,hlt,hc⟩
  ·exact .inl h0
  ·refine .inr ⟨b,off,e1,hlt,fun i hi=>?_⟩;rw[hc i _ (zX hi).1];show some (Value.slice (es.getD i E0).a (es.getD i E0).p.length (es.getD i E0).c)=some (.slice (es.getD i E0).a (bC (es.map E.p) i).length (es.getD i E0).c)
   rw[tJ]
 ·have:=h.2.2.2 _ (zX hi).2;show Rd w (es.getD i E0).a (bC (es.map E.p) i).length (es.getD i E0).c (lf (bC (es.map E.p) i))
  rw[tJ];exact this
def gK (ad:Nat→Option Addr) (cp:Nat→Nat) (L:Nat→List T) (i:Nat):E:=⟨ad i,cp i,L i⟩
theorem cZ.el {w:World} {a:Option Addr} {n c:Nat} {ad:Nat→Option Addr} {cp:Nat→Nat} {L:Nat→List T} (h:cZ w a n c ad (lN L) cp (fN L)) {i:Nat} (hi:i<n):RL w (gK ad cp L i).a (gK ad cp L i).c (gK ad cp L i).p:=h.2.2.2 i hi
theorem nG.newsTo {w:World} {b off c:Nat} {es:List E} (h:nG w (some ⟨b,off,none⟩) c es) (k:Nat):∀j u,((es.take k).map E.v)[j]? =some u→w.cell? ((⟨b,off,none⟩:Addr).add j)=some u:=by
 intro j u hu;rw[List.getElem?_map]at hu;cases he:(es.take k)[j]? with
 |none=>rw[he]at hu;cases hu
 |some e=>
  rw[he]at hu;cases hu;have hjk:=(List.getElem?_eq_some_iff.1 he).1
  rw[List.length_take]at hjk;have he':es[j]? =some e:=by rw[List.getElem?_take_of_lt (by omega)]at he;exact he
  rcases h.2.2.1 with h0|⟨b',off',e1,hlt,hc⟩
  ·omega
  ·cases e1;have e2:(⟨b,off,none⟩:Addr).add j=⟨b,off+j,none⟩:=by unfold Addr.add;split<;>simp_all
   rw[e2];exact hc j e he'
theorem Ne:(Tryz.prog.info? 45).map (fun i=>(i.zero,i.size,i.bytes))=some (some (.slice none 0 0),1,24):=by kernel_rfl
theorem YJ {k:Nat→M} {n i j:Nat} (hj:j<n) (h:j≠i∧M.dvd (k j) (k i)=true∧(eF (k j) (k i)=false∨j<i)):jP k n i=false:=decide_eq_false (fun hh=>hh j hj h)
theorem RE (w:World) (a:Option Addr) (n cap:Nat) (f:Nat→T) (i:Nat) (h:Rd w a n cap f) (hi:i<n):Calls Tryz.prog 46 #[.slice a n cap,.int .i64 (i:Int)] w fun r w'=>r= .returned (.bool (jP (fun j=>(f j).m) n i))∧Below w.heap.size w w':=by
 obtain⟨h1,h2,h3⟩:=h;have hn:(n:Int)≤140737488351232:=by omega
 have hin:(i:Int)<(n:Int):=by omega
 rcases h3 with h0|⟨b,off,rfl,hblt,hcl⟩
 ·omega
 obtain⟨c0,c1,c2,c3,c4⟩:=hcl i hi;obtain⟨m,hm⟩:∃m,(f i).m=m:=⟨_,rfl⟩
 rw[hm]at c1 c2 c3 c4;have HM:=aA hm
 have HC:=aA hcl;obtain⟨R,hR⟩:∃R,jP (fun j=>(f j).m) n i=R:=⟨_,rfl⟩
 rw[hR];have HR:=aA hR
 clear hcl hm hR;go_enter Tryz.func46,Tryz.ntmps46;go_wp2;have HO:=aA (M4.box w 40 m.x m.y m.d m.e)
 have HB1:=aA (aC w (.cells #[.int .i64 m.x,.int .i64 m.y,.int .i64 m.d,.int .i64 m.e] 40));have hsz1:w.heap.size<(w.alloc (.cells #[.int .i64 m.x,.int .i64 m.y,.int .i64 m.d,.int .i64 m.e] 40)).heap.size:=by simp
 clear c0 c1 c2 c3 c4;generalize(w.alloc (.cells #[.int .i64 m.x,.int .i64 m.y,.int .i64 m.d,.int .i64 m.e] 40))=w1 at HO HB1 hsz1⊢;go_loopw [15] (fun v wr=>∃j:Nat,j≤n∧v= .int .i64 (j:Int)∧Below w1.heap.size w1 wr∧Hid (∀t,t<j→¬(t≠i∧M.dvd (f t).m m=true∧(eF (f t).m m=false∨t<i)))) (fun v _=>n-(intOf v).toNat);case atStart=>exact⟨0,Nat.zero_le _,rfl,bL _ _,fun t ht=>absurd ht (rT _)⟩
 case round=>
  obtain⟨j,hj,rfl,hB,HJ⟩:=hrel;by_cases hlt:j<n
  ·have hjn:(j:Int)<(n:Int):=by omega
   obtain⟨g0,g1,g2,g3,g4⟩:=(HC.out j hlt).below (aB HB1.out hB) hblt;obtain⟨t,ht⟩:∃t,f j=t:=⟨_,rfl⟩
   rw[ht]at g0 g1 g2 g3 g4;obtain⟨y0,y1,y2,y3,y4⟩:=C5.box wr 42 t;have HOr:=HO.out.below hB
   have HO2:=HOr.below (aC wr (.cells #[.int .i64 t.c,.int .i64 t.m.x,.int .i64 t.m.y,.int .i64 t.m.d,.int .i64 t.m.e] 42));obtain⟨x0,x1,x2,x3⟩:=HO2;have HBT:=aA (aB hB (aC wr (.cells #[.int .i64 t.c,.int .i64 t.m.x,.int .i64 t.m.y,.int .i64 t.m.d,.int .i64 t.m.e] 42)))
   have HBX:=aA (C5.box wr 42 t);have HOX:=aA (HOr.below (aC wr (.cells #[.int .i64 t.c,.int .i64 t.m.x,.int .i64 t.m.y,.int .i64 t.m.d,.int .i64 t.m.e] 42)))
   have HT:=aA ht;have hwr:w1.heap.size≤wr.heap.size:=hB.size
   have hbad:(j≠i∧M.dvd t.m m=true∧(eF t.m m=false∨j<i))→R=false:=fun hh=>by rw[←HR.out];exact YJ (k:=fun j=>(f j).m) hlt (by show j≠i∧M.dvd (f j).m (f i).m=true∧(eF (f j).m (f i).m=false∨j<i);rw[HT.out,HM.out];exact hh)
   have hgood:¬(j≠i∧M.dvd t.m m=true∧(eF t.m m=false∨j<i))→∀t',t'<j+1→¬(t'≠i∧M.dvd (f t').m m=true∧(eF (f t').m m=false∨t'<i)):=fun hh t' ht'=>by
    by_cases e:t'=j
    ·rw[e,HT.out];exact hh
    ·exact HJ.out t' (by omega)
   have HBAD:=aA hbad;have HGOOD:=aA hgood
   have hdv:=jB (x:=t.m.x) (y:=t.m.y) (d:=t.m.d) (e:=t.m.e) (x':=m.x) (y':=m.y) (d':=m.d) (e':=m.e) rfl;obtain⟨dv,hdd⟩:∃dv,M.dvd t.m m=dv:=⟨_,rfl⟩
   rw[show M.dvd ⟨t.m.x,t.m.y,t.m.d,t.m.e⟩ ⟨m.x,m.y,m.d,m.e⟩=dv from hdd]at hdv;have HDV:=aA hdv
   have HDD:=aA hdd;clear hB ht hbad hgood hdv hdd HOr;cases dv
   ·have HG:=aA (HGOOD.out (fun hh=>by rw[HDD.out]at hh;exact absurd hh.2.1 (by simp)));go_wp2_with fail;refine(HDV.out _).mono ?_;rintro r w3 ⟨rfl,hb3⟩;have HB3:=aA (aB HBT.out hb3)
    clear hb3;go_wp2;go_roundw;case rel=>exact⟨j+1,by omega,by go_num,HB3.out,HG.out⟩
    case measure=>simp[intOf];omega
   ·by_cases hji:j<i
    ·have hR0:=HBAD.out ⟨by omega,HDD.out,.inr hji⟩;subst hR0;have hjiI:(j:Int)<(i:Int):=by omega
     go_wp2_with fail;refine(HDV.out _).mono ?_;rintro r w3 ⟨rfl,hb3⟩;have HB3:=aA (aB HBT.out hb3)
     clear hb3;go_wp2;go_ret;exact⟨rfl,aB HB1.out HB3.out⟩
    ·have hjiI:¬(j:Int)<(i:Int):=by omega
     go_wp2_with fail;refine(HDV.out _).mono ?_;rintro r w3 ⟨rfl,hb3⟩;have HB3:=aA (aB HBT.out hb3)
     obtain⟨z0,z1,z2,z3,z4⟩:=HBX.out.below hb3;obtain⟨v0,v1,v2,v3⟩:=HOX.out.below hb3;clear hb3 y0 y1 y2 y3 y4 x0 x1 x2 x3;by_cases hx:t.m.x=m.x
     ·by_cases hy:t.m.y=m.y
      ·by_cases hd:t.m.d=m.d
       ·by_cases he:t.m.e=m.e
        ·have HG:=aA (HGOOD.out (fun hh=>by
          rcases hh.2.2 with q|q
          ·have:eF t.m m=true:=decide_eq_true ⟨hx,hy,hd,he⟩;rw[this]at q;cases q
          ·omega))
         go_wp2;go_roundw;case rel=>exact⟨j+1,by omega,by go_num,HB3.out,HG.out⟩
         case measure=>simp[intOf];omega
        ·have hR0:=HBAD.out ⟨by intro e;rw[e]at HT;exact he (by rw[←HT.out,HM.out]),HDD.out,.inl (decide_eq_false (fun q=>he q.2.2.2))⟩;subst hR0;go_wp2;go_ret;exact⟨rfl,aB HB1.out HB3.out⟩
       ·have hR0:=HBAD.out ⟨by intro e;rw[e]at HT;exact hd (by rw[←HT.out,HM.out]),HDD.out,.inl (decide_eq_false (fun q=>hd q.2.2.1))⟩;subst hR0;go_wp2;go_ret;exact⟨rfl,aB HB1.out HB3.out⟩
      ·have hR0:=HBAD.out ⟨by intro e;rw[e]at HT;exact hy (by rw[←HT.out,HM.out]),HDD.out,.inl (decide_eq_false (fun q=>hy q.2.1))⟩;subst hR0;go_wp2;go_ret;exact⟨rfl,aB HB1.out HB3.out⟩
     ·have hR0:=HBAD.out ⟨by intro e;rw[e]at HT;exact hx (by rw[←HT.out,HM.out]),HDD.out,.inl (decide_eq_false (fun q=>hx q.1))⟩;subst hR0;go_wp2;go_ret;exact⟨rfl,aB HB1.out HB3.out⟩
  ·have hjn:¬(j:Int)<(n:Int):=by omega
   have hje:j=n:=by omega
   subst hje;have hR0:R=true:=by
    rw[←HR.out];refine decide_eq_true (fun t ht=>?_);show ¬(t≠i∧M.dvd (f t).m (f i).m=true∧(eF (f t).m (f i).m=false∨t<i))
    rw[HM.out];exact HJ.out t ht
   subst hR0;have HB2:=aA hB
   clear hB;go_wp2;go_ret;exact⟨rfl,aB HB1.out HB2.out⟩
theorem Ih (w:World) (o:Int) (a b:Option Addr) (ca cb:Nat) (A B:List T) (ha:RL w a ca A) (hb:RL w b cb B) (ho:1≤o∧o≤3) (oA:cG A=true∧A.length≠0) (oB:cG B=true∧B.length≠0):Calls Tryz.prog 48 #[.int .i64 o,.slice a A.length ca,.slice b B.length cb] w fun r w'=>r= .returned (.int .i64 (M.ord o (aV o A).m (aV o B).m))∧Below w.heap.size w w':=by
 have hl:=kV;have e1:bF o A.length (lf A)=true:=fT.2 ⟨ho,oA.1,fun e=>oA.2 (by rw[e];rfl)⟩
 have e2:bF o B.length (lf B)=true:=fT.2 ⟨ho,oB.1,fun e=>oB.2 (by rw[e];rfl)⟩;have t1:bQ o A.length (lf A)=aV o A:=dP e1
 have t2:bQ o B.length (lf B)=aV o B:=dP e2;have k1:=(dU (o:=o) (aD oA.1).2 oA.2).1
 have k2:=(dU (o:=o) (aD oB.1).2 oB.2).1;have hc:M.cmp o (aV o A).m (aV o B).m=M.ord o (aV o A).m (aV o B).m:=if_pos ⟨ho,k1,k2⟩
 obtain⟨s,hs⟩:∃s,aV o A=s:=⟨_,rfl⟩
 obtain⟨t,ht⟩:∃t,aV o B=t:=⟨_,rfl⟩
 obtain⟨q,hq⟩:∃q,M.ord o (aV o A).m (aV o B).m=q:=⟨_,rfl⟩
 rw[hq]at hc⊢;rw[hs]at t1 hc;rw[ht]at t2 hc;have HA:=aA ha
 have HB:=aA hb;have HLA:Hid (∀W,RL W a ca A→Calls Tryz.prog 23 #[.int .i64 o,.slice a A.length ca] W fun r w'=>r= .returned (.tuple #[.agg #[.int .i64 s.c,.int .i64 s.m.x,.int .i64 s.m.y,.int .i64 s.m.d,.int .i64 s.m.e],.bool true])∧Below W.heap.size W w'):=fun W hW=>by have:=kV W o a A.length ca (lf A) hW;rw[t1,e1]at this;exact this
 have HLB:Hid (∀W,RL W b cb B→Calls Tryz.prog 23 #[.int .i64 o,.slice b B.length cb] W fun r w'=>r= .returned (.tuple #[.agg #[.int .i64 t.c,.int .i64 t.m.x,.int .i64 t.m.y,.int .i64 t.m.d,.int .i64 t.m.e],.bool true])∧Below W.heap.size W w'):=fun W hW=>by have:=kV W o b B.length cb (lf B) hW;rw[t2,e2]at this;exact this
 have HCM:Hid (∀W:World,Calls Tryz.prog 36 #[.int .i64 o,.agg #[.int .i64 s.m.x,.int .i64 s.m.y,.int .i64 s.m.d,.int .i64 s.m.e],.agg #[.int .i64 t.m.x,.int .i64 t.m.y,.int .i64 t.m.d,.int .i64 t.m.e]] W fun r w'=>r= .returned (.int .i64 q)∧Below W.heap.size W w'):=fun W=>by have:=UL o s.m.x s.m.y s.m.d s.m.e t.m.x t.m.y t.m.d t.m.e W;rw[show M.cmp o ⟨s.m.x,s.m.y,s.m.d,s.m.e⟩ ⟨t.m.x,t.m.y,t.m.d,t.m.e⟩=q from hc]at this;exact this
 clear hl e1 e2 t1 t2 k1 k2 hc hs ht hq ha hb oA oB;go_enter Tryz.func48,Tryz.ntmps48;go_wp2_with fail;refine(HLA.out w HA.out).mono ?_;rintro r w1 ⟨rfl,hb1⟩;have HB1:=aA (aB hb1 (aC w1 (.cells #[.int .i64 s.c,.int .i64 s.m.x,.int .i64 s.m.y,.int .i64 s.m.d,.int .i64 s.m.e] 42)))
 have HX1:=aA (C5.box w1 42 s);have HS1:w1.heap.size<(w1.alloc (.cells #[.int .i64 s.c,.int .i64 s.m.x,.int .i64 s.m.y,.int .i64 s.m.d,.int .i64 s.m.e] 42)).heap.size:=by simp
 have HRB:=aA (Rd.below HB.out HB1.out);clear hb1;go_wp2_with fail;generalize(w1.alloc (.cells #[.int .i64 s.c,.int .i64 s.m.x,.int .i64 s.m.y,.int .i64 s.m.d,.int .i64 s.m.e] 42))=w2 at HB1 HX1 HS1 HRB⊢;refine(HLB.out w2 HRB.out).mono ?_;rintro r w3 ⟨rfl,hb3⟩;have bx:=aC w3 (.cells #[.int .i64 t.c,.int .i64 t.m.x,.int .i64 t.m.y,.int .i64 t.m.d,.int .i64 t.m.e] 42)
 have HB3:=aA (aB (aB HB1.out hb3) bx);obtain⟨y0,y1,y2,y3,y4⟩:=(HX1.out.below hb3).below bx;obtain⟨z0,z1,z2,z3,z4⟩:=C5.box w3 42 t;have hs3:w1.heap.size<w3.heap.size:=by have:=hb3.size;omega
 clear hb3 bx;go_wp2_with fail;refine(HCM.out _).mono ?_;rintro r w4 ⟨rfl,hb4⟩;have HB4:=aA (aB HB3.out hb4)
 clear hb4;go_wp2;go_ret;exact⟨rfl,HB4.out⟩
structure vI (g:Nat) (w:World) (n:Nat) (F:Nat→E):Prop where
 row:∃N,n≤N∧∃V:Nat→Value,w.rowIs g 45 N V∧∀j,j<n→V j=(F j).v
 el:∀j,j<n→mU w (some g) (F j)
theorem vI.lt {g:Nat} {w:World} {n:Nat} {F:Nat→E} (h:vI g w n F):g<w.heap.size:=by obtain⟨N,hN,V,h1,h2⟩:=h.row;exact h1.lt
theorem vI.cell {g:Nat} {w:World} {n:Nat} {F:Nat→E} (h:vI g w n F) {j:Nat} (hj:j<n):w.cell? ⟨g,j,none⟩=some (F j).v:=by obtain⟨N,hN,V,h1,h2⟩:=h.row;rw[h1.cell (by omega),h2 j hj]
theorem vI.frozen {g:Nat} {w:World} {n:Nat} {F:Nat→E} (h:vI g w n F) (j:Nat):w.frozen? ⟨g,j,none⟩=false:=by obtain⟨N,hN,V,h1,h2⟩:=h.row;exact h1.frozen j
theorem vI.below {g:Nat} {w w':World} {n:Nat} {F:Nat→E} (h:vI g w n F) (hb:Below w.heap.size w w'):vI g w' n F where
 row:=by obtain⟨N,hN,V,h1,h2⟩:=h.row;exact⟨N,hN,V,h1.of_block (hb.block g h1.lt),h2⟩
 el:=fun j hj=>(h.el j hj).below hb
theorem vI.set {g:Nat} {w:World} {n:Nat} {F:Nat→E} (h:vI g w n F) {i:Nat} {e:E} (he:mU w (some g) e):vI g (w.setCell ⟨g,i,none⟩ e.v) n (fun j=>if j=i then e else F j) where
 row:=by
  obtain⟨N,hN,V,h1,h2⟩:=h.row;refine⟨N,hN,fun j=>if j=i then e.v else V j,h1.set _ _,fun j hj=>?_⟩;by_cases q:j=i
  ·simp[q]
  ·simp[q,h2 j hj]
 el:=fun j hj=>by
  have hg:w.grownBy (w.setCell ⟨g,i,none⟩ e.v) (some g):=⟨rfl,rfl,rfl,by simp,fun k hk hne=>Below.heap_setCell _ _ _ _ (fun q=>hne (by rw[q]))⟩
  by_cases q:j=i
  ·simp only[if_pos q];exact he.grown hg
  ·simp only[if_neg q];exact(h.el j hj).grown hg
theorem vI.congr {g:Nat} {w:World} {n:Nat} {F G:Nat→E} (h:vI g w n F) (e:∀j,j<n→F j=G j):vI g w n G where
 row:=by obtain⟨N,hN,V,h1,h2⟩:=h.row;exact⟨N,hN,V,h1,fun j hj=>by rw[h2 j hj,e j hj]⟩
 el:=fun j hj=>by rw[←e j hj];exact h.el j hj
def rS (F:Nat→E) (j:Nat) (t:Nat):E:=if t=j then F (j+1)else if t=j+1 then F j else F t
theorem vI.swp {g:Nat} {w:World} {n:Nat} {F:Nat→E} (h:vI g w n F) {j:Nat} (hj:j+1<n):vI g ((w.setCell ⟨g,j+1,none⟩ (F j).v).setCell ⟨g,j,none⟩ (F (j+1)).v) n (rS F j):=by
 have h1:=h.set (i:=j+1) (h.el j (by omega));have hg:w.grownBy (w.setCell ⟨g,j+1,none⟩ (F j).v) (some g):=⟨rfl,rfl,rfl,by simp,fun k hk hne=>Below.heap_setCell _ _ _ _ (fun q=>hne (by rw[q]))⟩
 have h2:=h1.set (i:=j) (e:=F (j+1)) ((h.el (j+1) hj).grown hg);refine h2.congr fun t ht=>?_;unfold rS;by_cases e1:t=j
 ·simp[e1]
 ·by_cases e2:t=j+1
  ·simp[e2]
  ·simp[e1,e2]
def sD (lt:E→E→Bool):Nat→(Nat→E)→(Nat→E)
 |0,F=>F
 |j+1,F=>if lt (F (j+1)) (F j)=true then sD lt j (rS F j)else F
def uA (lt:E→E→Bool):Nat→Nat→(Nat→E)→(Nat→E)
 |0,_,F=>F
 |u+1,i,F=>uA lt u (i+1) (sD lt i F)
theorem QU {lt:E→E→Bool} {j:Nat} {F:Nat→E} (h:lt (F (j+1)) (F j)=true):sD lt (j+1) F=sD lt j (rS F j):=if_pos h
theorem QV {lt:E→E→Bool} {j:Nat} {F:Nat→E} (h:lt (F (j+1)) (F j)=false):sD lt (j+1) F=F:=if_neg (by rw[h];simp)
def So (o:Int) (e e':E):Int:=M.ord o (aV o e.p).m (aV o e'.p).m
def jL (o:Int) (e e':E):Bool:=UJ o e.p e'.p
theorem Mv:∀args w,(callFunc 48 args).run Tryz.prog w= .ok (.enter 48 args) w:=enters_of Tryz.func48 (by kernel_rfl) rfl
theorem Tc (w:World) (o:Int) (g n cap:Nat) (F:Nat→E) (ho:1≤o∧o≤3) (h:vI g w n F) (hn:n≤12) (hok:∀j,j<n→cG (F j).p=true∧(F j).p.length≠0):Calls Tryz.prog 132 #[.slice (some ⟨g,0,none⟩) n cap,.int .i64 0,.int .i64 (n:Int),.func (.func 48) #[.int .i64 o] #[]] w fun r w'=>r= .returned (.tuple #[])∧w.grownBy w' (some g)∧vI g w' n (uA (jL o) (n-1) 1 F):=by
 have hnI:(n:Int)≤12:=by omega
 have HH:=aA h;have HOK:=aA hok
 have hgl:=h.lt;clear h hok;go_enter Tryz.func132,Tryz.ntmps132;go_wp2;go_loopw [8] (fun vi wr=>∃(i:Nat) (G:Nat→E),1≤i∧(i≤n∨i=1)∧vi= .int .i64 (i:Int)∧w.grownBy wr (some g)∧vI g wr n G∧Hid (uA (jL o) (n-i) i G=uA (jL o) (n-1) 1 F)∧Hid (∀j,j<n→cG (G j).p=true∧(G j).p.length≠0)) (fun vi _=>n-(intOf vi).toNat);case atStart=>exact⟨1,F,Nat.le_refl _,.inr rfl,rfl,⟨rfl,rfl,rfl,Nat.le_refl _,fun _ _ _=>rfl⟩,HH.out,rfl,HOK.out⟩
 case round=>
  obtain⟨i,G,hi1,hin,rfl,hg,hG,HS,HGO⟩:=hrel;by_cases hlt:i<n
  ·have hil:(i:Int)<(n:Int):=by omega
   have HG1:=aA hg;have HG2:=aA hG
   obtain⟨wo,hwo⟩:∃x,x=wr:=⟨_,rfl⟩
   subst hwo;clear hg hG;go_wp2;go_loopw [9] (fun vj w'=>∃(j:Nat) (K:Nat→E),j≤i∧vj= .int .i64 (j:Int)∧w.grownBy w' (some g)∧vI g w' n K∧Hid (sD (jL o) j K=sD (jL o) i G)∧Hid (∀j,j<n→cG (K j).p=true∧(K j).p.length≠0)) (fun vj _=>(intOf vj).toNat);case atStart=>exact⟨i,G,Nat.le_refl _,rfl,HG1.out,HG2.out,rfl,HGO⟩
   case round=>
    obtain⟨j,K,hji,rfl,hgw,hK,HD,HKO⟩:=hrel;have HGW:=aA hgw
    have HK:=aA hK;have hgr:g<wr.heap.size:=hK.lt
    have hout:sD (jL o) j K=K→Hid (uA (jL o) (n-(i+1)) (i+1) K=uA (jL o) (n-1) 1 F):=fun q=>by
     show _=_;rw[←HS.out,show n-i=(n-(i+1))+1 by omega];show uA (jL o) (n-(i+1)) (i+1) K=uA (jL o) (n-(i+1)) (i+1) (sD (jL o) i G)
     rw[←HD.out,q]
    have HOUT:=aA hout;clear hgw hK hout;by_cases hj0:0<j
    ·obtain⟨p,rfl⟩:∃p,j=p+1:=⟨j-1,by omega⟩
     have hp0:(0:Int)<(p:Int)+1:=by omega
     have hp1:(p:Int)+1<(n:Int):=by omega
     have hp2:(p:Int)<(n:Int):=by omega
     have hp3:(0:Int)≤(p:Int)+1:=by omega
     have hwp:IntKind.i64.wrap (p:Int)=(p:Int):=by rw[IntKind.wrap_i64];omega
     have e0:((p:Int)+1).toNat=p+1:=by omega
     have hpn:p+1<n:=by omega
     have ne:=bJ.there wr;obtain⟨x,hx⟩:∃x,K (p+1)=x:=⟨_,rfl⟩
     obtain⟨y,hy⟩:∃y,K p=y:=⟨_,rfl⟩
     have c1:=HK.out.cell hpn;have c2:=HK.out.cell (show p<n by omega)
     rw[hx]at c1;rw[hy]at c2;have s1:∀u:bJ wr,u.1.cell? ⟨g,p+1,none⟩=some (.slice x.a x.p.length x.c):=fun u=>(u.cell hgr).trans c1
     have s2:∀u:bJ wr,u.1.cell? ⟨g,p,none⟩=some (.slice y.a y.p.length y.c):=fun u=>(u.cell hgr).trans c2;obtain⟨q,hq⟩:∃q,So o x y=q:=⟨_,rfl⟩
     have hqi:q<0↔fH o (aV o x.p).m<fH o (aV o y.p).m:=by rw[←hq,←hx,←hy];exact SL ho (mP (HKO.out _ hpn)) (mP (HKO.out _ (by omega)))
     have HQI:=aA hqi;clear hqi;have hcall:∀u:bJ wr,Calls Tryz.prog 48 #[.int .i64 o,.slice x.a x.p.length x.c,.slice y.a y.p.length y.c] u.1 fun r w'=>r= .returned (.int .i64 q)∧Below u.1.heap.size u.1 w':=fun u=>by
      have r1:=(HK.out.el (p+1) hpn).1;have r2:=(HK.out.el p (by omega)).1
      have o1:=HKO.out (p+1) hpn;have o2:=HKO.out p (by omega)
      rw[hx]at r1 o1;rw[hy]at r2 o2;have:=Ih u.1 o x.a y.a x.c y.c x.p y.p (Rd.below r1 u.2) (Rd.below r2 u.2) ho o1 o2
      rw[show M.ord o (aV o x.p).m (aV o y.p).m=q from hq]at this;exact this
     have eg:=Mv;have HQ:=aA hq
     have HX:=aA hx;have HY:=aA hy
     clear c1 c2 hq hx hy;by_cases hlq:q<0
     ·have HLT:Hid (jL o (K (p+1)) (K p)=true):=by show _=_;rw[HX.out,HY.out];exact decide_eq_true (HQI.out.1 hlq)
      have hdq:decide (q<0)=true:=decide_eq_true hlq;go_wp2_with fail;refine aG (by kernel_rfl) (by kernel_rfl) ?_;repeat(go_big_quiet_step (first|(go_at_fn 48;exact aJ (hcall _))|fail))
      refine wpQuiet_nil ?_;rintro _ ⟨v,rfl⟩;have HKV:=aA (HK.out.below v.2)
      have HGV:=aA (HGW.out.trans (BK v.2 (some g)));obtain⟨u,hu⟩:∃u,v.1=u:=⟨_,rfl⟩
      rw[hu]at HKV HGV⊢;clear hu s1 s2 ne hcall v;have d1:=HKV.out.cell hpn
      have d2:=HKV.out.cell (show p<n by omega);rw[HX.out]at d1;rw[HY.out]at d2;have f1:u.frozen? ⟨g,p+1,none⟩=false:=HKV.out.frozen _
      have f2:u.frozen? ⟨g,p,none⟩=false:=HKV.out.frozen _;have z1:u.cell? ⟨g,p+1,none⟩=some (.slice x.a x.p.length x.c):=d1
      have z2:u.cell? ⟨g,p,none⟩=some (.slice y.a y.p.length y.c):=d2;have HSW:=aA ((HKV.out.below (bL _ _).drew).swp hpn)
      rw[HX.out,HY.out]at HSW;have HNX:Hid (sD (jL o) p (rS K p)=sD (jL o) i G):=by show _=_;rw[←HD.out,QU HLT.out]
      have HKO2:Hid (∀j,j<n→cG (rS K p j).p=true∧(rS K p j).p.length≠0):=fun j hj=>by
       unfold rS;split
       ·exact HKO.out _ hpn
       ·split
        ·exact HKO.out _ (by omega)
        ·exact HKO.out _ hj
      have HG3:Hid (w.grownBy ((u.drew.setCell ⟨g,p+1,none⟩ y.v).setCell ⟨g,p,none⟩ x.v) (some g)):=⟨HGV.out.os,HGV.out.tape,HGV.out.output,by have:=HGV.out.size;simpa using this,fun k hk hne=>by
       rw[Below.heap_setCell _ _ _ _ (fun q=>hne (by rw[q])),Below.heap_setCell _ _ _ _ (fun q=>hne (by rw[q]))]
       exact HGV.out.block k hk hne⟩
      clear d1 d2;go_wp2_with fail;obtain⟨j1,hj1⟩:∃j1,j1=p+1:=⟨_,rfl⟩
      rw[←hj1]at z1 f1 e0 HG3 HSW;have hj1n:(j1:Int)<(n:Int):=by omega
      have J1:=aA hj1;clear hj1;have mixed:Tryz.prog.follows Departure.mixedOrders=true:=by kernel_rfl
      go_big_region_o
      all_goals go_wp2
      go_roundw;case rel=>exact⟨p,rS K p,by omega,by first|rfl|go_num|(congr 1;omega),HG3.out,HSW.out,HNX,HKO2⟩
      case measure=>first|(simp[intOf];done)|(simp[intOf];omega)
     ·have HLT:Hid (jL o (K (p+1)) (K p)=false):=by show _=_;rw[HX.out,HY.out];exact decide_eq_false (fun q'=>hlq (HQI.out.2 q'))
      have hdq:decide (q<0)=false:=decide_eq_false hlq;have HF:=aA (HOUT.out (QV HLT.out))
      go_wp2_with fail;refine aG (by kernel_rfl) (by kernel_rfl) ?_;repeat(go_big_quiet_step (first|(go_at_fn 48;exact aJ (hcall _))|fail))
      refine wpQuiet_nil ?_;rintro _ ⟨v,rfl⟩;have HKV:=aA (HK.out.below v.2)
      have HGV:=aA (HGW.out.trans (BK v.2 (some g)));obtain⟨u,hu⟩:∃u,v.1=u:=⟨_,rfl⟩
      rw[hu]at HKV HGV⊢;clear hu s1 s2 ne hcall v;go_wp2;go_roundw;case rel=>exact⟨i+1,K,by omega,.inl (by omega),by go_num,HGV.out,HKV.out,HF.out,HKO⟩
      case measure=>simp[intOf];omega
    ·have hj00:j=0:=by omega
     subst hj00;have HF:=aA (HOUT.out rfl)
     have ne:=bJ.there wr;go_wp2_with fail;refine aG (by kernel_rfl) (by kernel_rfl) ?_;repeat(go_big_quiet_step (fail))
     refine wpQuiet_nil ?_;rintro _ ⟨v,rfl⟩;have HKV:=aA (HK.out.below v.2)
     have HGV:=aA (HGW.out.trans (BK v.2 (some g)));obtain⟨u,hu⟩:∃u,v.1=u:=⟨_,rfl⟩
     rw[hu]at HKV HGV⊢;clear hu ne v;go_wp2;go_roundw;case rel=>exact⟨i+1,K,by omega,.inl (by omega),by go_num,HGV.out,HKV.out,HF.out,HKO⟩
     case measure=>simp[intOf];omega
  ·have hil:¬(i:Int)<(n:Int):=by omega
   have HE:Hid (G=uA (jL o) (n-1) 1 F):=by show _=_;rw[←HS.out,show n-i=0 by omega];rfl
   have HG1:=aA hg;have HG2:=aA hG
   clear hg hG;go_wp2
   go_end0
   rw[←HE.out];exact⟨rfl,HG1.out,HG2.out⟩
theorem Km (w:World) (o:Int) (g n cap:Nat) (F:Nat→E) (ho:1≤o∧o≤3) (h:vI g w n F) (hn:n≤12) (hok:∀j,j<n→cG (F j).p=true∧(F j).p.length≠0):Calls Tryz.prog 92 #[.slice (some ⟨g,0,none⟩) n cap,.int .i64 (n:Int),.func (.func 48) #[.int .i64 o] #[]] w fun r w'=>r= .returned (.tuple #[])∧w.grownBy w' (some g)∧vI g w' n (uA (jL o) (n-1) 1 F):=by
 have hnI:(n:Int)≤12:=by omega
 have HC:=aA (Tc w o g n cap F ho h hn hok);have h20:¬(20:Int)≤(n:Int):=by omega
 have h21:¬(20:Int)<(n:Int):=by omega
 clear h hok;go_enter Tryz.func92,Tryz.ntmps92;go_wp2;go_loopw [7,8] (fun v v' wr=>v= .int .i64 0∧v'= .int .i64 20∧wr=w) (fun _ _ _=>0);case atStart=>exact⟨rfl,rfl,rfl⟩
 case round=>
  obtain⟨rfl,rfl,rfl⟩:=hrel;go_wp2_with fail;refine HC.out.mono ?_;rintro r w1 ⟨rfl,hg,hr⟩;have HG:=aA hg
  have HR:=aA hr;clear hg hr HC;go_wp2;go_loopw [6] (fun v w'=>v= .int .i64 20∧w'=w1) (fun _ _=>0);case atStart=>exact⟨rfl,rfl⟩
  case round=>
   obtain⟨rfl,rfl⟩:=hrel;go_wp2
   go_end0
   exact⟨rfl,HG.out,HR.out⟩
theorem Ki (w:World) (o:Int) (g n cap:Nat) (F:Nat→E) (ho:1≤o∧o≤3) (h:vI g w n F) (hn:n≤12) (hok:∀j,j<n→cG (F j).p=true∧(F j).p.length≠0):Calls Tryz.prog 47 #[.slice (some ⟨g,0,none⟩) n cap,.func (.func 48) #[.int .i64 o] #[]] w fun r w'=>r= .returned (.tuple #[])∧w.grownBy w' (some g)∧vI g w' n (uA (jL o) (n-1) 1 F):=by
 have HC:=aA (Km w o g n cap F ho h hn hok);clear h hok;go_enter Tryz.func47,Tryz.ntmps47;go_wp2_with fail;refine HC.out.mono ?_;rintro r w1 ⟨rfl,hg,hr⟩;have HG:=aA hg
 have HR:=aA hr;clear hg hr HC;go_wp2
 go_end0
 exact⟨rfl,HG.out,HR.out⟩
theorem Gf (w:World) (o:Int) (fv:Value):Calls Tryz.prog 92 #[.slice none 0 0,.int .i64 0,fv] w fun r w'=>r= .returned (.tuple #[])∧w'=w:=by
 have h1:Calls Tryz.prog 132 #[.slice none 0 0,.int .i64 0,.int .i64 0,fv] w fun r w'=>r= .returned (.tuple #[])∧w'=w:=by
  go_enter Tryz.func132,Tryz.ntmps132;go_wp2;go_loopw [8] (fun v wr=>v= .int .i64 1∧wr=w) (fun _ _=>0);case atStart=>exact⟨rfl,rfl⟩
  case round=>
   obtain⟨rfl,rfl⟩:=hrel;go_wp2
   go_end0
   exact⟨rfl,rfl⟩
 have HC:=aA h1;clear h1;go_enter Tryz.func92,Tryz.ntmps92;go_wp2;go_loopw [7,8] (fun v v' wr=>v= .int .i64 0∧v'= .int .i64 20∧wr=w) (fun _ _ _=>0);case atStart=>exact⟨rfl,rfl,rfl⟩
 case round=>
  obtain⟨rfl,rfl,rfl⟩:=hrel;go_wp2_with fail;refine HC.out.mono ?_;rintro r w1 ⟨rfl,hw1⟩;obtain rfl:=hw1.symm;clear hw1;go_wp2;obtain⟨W0,hW0⟩:∃x,x=wr:=⟨_,rfl⟩
  go_loopw [6] (fun v w'=>v= .int .i64 20∧w'=W0) (fun _ _=>0);case atStart=>exact⟨rfl,hW0.symm⟩
  case round=>
   obtain⟨rfl,rfl⟩:=hrel;go_wp2
   go_end0
   exact⟨rfl,by first|rfl|exact hW0|exact hW0.symm⟩
theorem Fy (w:World) (o:Int) (fv:Value):Calls Tryz.prog 47 #[.slice none 0 0,fv] w fun r w'=>r= .returned (.tuple #[])∧w'=w:=by
 have HC:=aA (Gf w o fv);go_enter Tryz.func47,Tryz.ntmps47;go_wp2_with fail;refine HC.out.mono ?_;rintro r w1 ⟨rfl,hw1⟩;obtain rfl:=hw1.symm;clear hw1;go_wp2
 go_end0
 exact⟨rfl,rfl⟩
theorem GG {α:Type} {lt:α→α→Bool} {x y:α}:∀{l:List α},(∀z∈l,lt x z=true→lt x y=true)→eX lt x (l++[y])=if lt x y=true then eX lt x l++[y]else l++[y,x]
 |[],_=>by show(if lt x y=true then[x,y]else[y,x])=_;rfl
 |z::r,h=>by
  have ih:=GG (lt:=lt) (x:=x) (y:=y) (l:=r) (fun z hz=>h z (List.mem_cons_of_mem _ hz));show(if lt x z=true then x::z::(r++[y])else z::eX lt x (r++[y]))=if lt x y=true then(if lt x z=true then x::z::r else z::eX lt x r)++[y]else z::(r++[y,x])
  by_cases e1:lt x z=true
  ·rw[if_pos e1,if_pos (h z (List.mem_cons_self ..) e1),if_pos e1];rfl
  ·rw[if_neg e1,if_neg e1,ih];by_cases e2:lt x y=true
   ·rw[if_pos e2,if_pos e2];rfl
   ·rw[if_neg e2,if_neg e2]
def eH (F:Nat→E) (n:Nat):List E:=(List.range n).map F
theorem cH (F:Nat→E) (n:Nat):(eH F n).length=n:=by simp[eH]
theorem tP (F:Nat→E) (n:Nat):eH F (n+1)=eH F n++[F n]:=by simp[eH,List.range_succ]
theorem DK {F G:Nat→E} {n:Nat} (h:∀i,i<n→F i=G i):eH F n=eH G n:=List.map_congr_left fun i hi=>h i (by simpa using hi)
theorem xC (F:Nat→E) {n i:Nat} (h:i<n):(eH F n).getD i E0=F i:=by rw[List.getD_eq_getElem?_getD];simp[eH,h]
def WL (o:Int) (l:List E):Prop:=l.Pairwise (fun a b=>jL o b a=false)
theorem JV {o:Int} {a b:E}:jL o a b=true↔fH o (aV o a.p).m<fH o (aV o b.p).m:=by unfold jL UJ;exact decide_eq_true_iff
theorem AM {o:Int} {a b:E}:jL o a b=false↔fH o (aV o b.p).m≤fH o (aV o a.p).m:=by unfold jL UJ;rw[decide_eq_false_iff_not];omega
theorem GF {o:Int} {x:E}:∀{l:List E},WL o l→WL o (eX (jL o) x l)
 |[],_=>List.pairwise_singleton _ _
 |y::r,h=>by
  obtain⟨h1,h2⟩:=List.pairwise_cons.1 h;show WL o (if jL o x y=true then x::y::r else y::eX (jL o) x r)
  by_cases e:jL o x y=true
  ·rw[if_pos e];refine List.pairwise_cons.2 ⟨fun z hz=>?_,h⟩;have e':=JV.1 e
   rcases List.mem_cons.1 hz with rfl|hz
   ·exact AM.2 (by omega)
   ·have:=AM.1 (h1 z hz);exact AM.2 (by omega)
  ·rw[if_neg e];refine List.pairwise_cons.2 ⟨fun z hz=>?_,GF h2⟩;rcases wI.1 hz with rfl|hz
   ·cases q:jL o z y
    ·rfl
    ·exact absurd q e
   ·exact h1 z hz
theorem BS {o:Int}:∀{j:Nat} {F:Nat→E} {t:Nat},j<t→sD (jL o) j F t=F t
 |0,F,t,h=>rfl
 |j+1,F,t,h=>by
  cases e:jL o (F (j+1)) (F j)
  ·rw[QV e]
  ·rw[QU e,BS (by omega)];unfold rS;rw[if_neg (by omega),if_neg (by omega)]
theorem TT {o:Int}:∀{j:Nat} {F:Nat→E},WL o (eH F j)→eH (sD (jL o) j F) (j+1)=eX (jL o) (F j) (eH F j)
 |0,F,h=>rfl
 |j+1,F,h=>by
  have hs:=tP F j;rw[hs]at h⊢;obtain⟨h1,_,h3⟩:=List.pairwise_append.1 h;have key:∀z∈eH F j,jL o (F (j+1)) z=true→jL o (F (j+1)) (F j)=true:=fun z hz q=>by
   have q1:=JV.1 q;have q2:=AM.1 (h3 z hz (F j) (List.mem_singleton.2 rfl))
   exact JV.2 (by omega)
  rw[GG key];cases e:jL o (F (j+1)) (F j)
  ·rw[QV e,tP,tP];simp
  ·rw[QU e,tP,TT (F:=rS F j) (by rw[DK (G:=F) (fun i hi=>by unfold rS;rw[if_neg (by omega),if_neg (by omega)])];exact h1),BS (by omega)];rw[if_pos rfl,DK (F:=rS F j) (G:=F) (fun i hi=>by unfold rS;rw[if_neg (by omega),if_neg (by omega)])];have e1:rS F j j=F (j+1):=by unfold rS;rw[if_pos rfl]
   have e2:rS F j (j+1)=F j:=by unfold rS;rw[if_neg (by omega),if_pos rfl]
   rw[e1,e2]
theorem VO {o:Int}:∀{u i:Nat} {F:Nat→E},WL o (eH F i)→eH (uA (jL o) u i F) (i+u)=iT (jL o) (eH F i) ((List.range u).map (fun t=>F (i+t)))
 |0,i,F,h=>rfl
 |u+1,i,F,h=>by
  have h1:=TT h;have h2:WL o (eH (sD (jL o) i F) (i+1)):=by rw[h1];exact GF h
  have ih:=VO (u:=u) (i:=i+1) (F:=sD (jL o) i F) h2;show eH (uA (jL o) u (i+1) (sD (jL o) i F)) (i+(u+1))=_
  rw[show i+(u+1)=i+1+u by omega,ih,h1,List.range_succ_eq_map,List.map_cons,List.map_map];show _=iT (jL o) (eX (jL o) (F i) (eH F i)) _
  congr 1;refine List.map_congr_left fun t _=>?_;show sD (jL o) i F (i+1+t)=F (i+(t+1))
  rw[BS (by omega),show i+1+t=i+(t+1) by omega]
theorem Kh (o:Int) (n:Nat) (F:Nat→E):eH (uA (jL o) (n-1) 1 F) n=iT (jL o) [] (eH F n):=by
 cases n with
 |zero=>rfl
 |succ n=>
  have h:=VO (o:=o) (u:=n) (i:=1) (F:=F) (by rw[show eH F 1=[F 0]from rfl];exact List.pairwise_singleton _ _);rw[show n+1-1=n from rfl,show n+1=1+n by omega,h];show iT (jL o) [F 0] _=iT (jL o) [] (eH F (1+n))
  unfold eH;rw[show 1+n=n+1 by omega,List.range_succ_eq_map,List.map_cons,List.map_map];show _=iT (jL o) [F 0] _
  congr 1;refine List.map_congr_left fun t _=>?_;show F (1+t)=F (t+1)
  rw[Nat.add_comm]
def JR (o:Int):Option Dv→Option (List T)
 |some S=>if S.r.length=0 then none else some (pY o S.r)
 |none=>none
theorem Da (o:Int) (p:List T) (oth:List (List T)):mQ o p oth=JR o (aW o p oth.length (lN (bC oth)) (fN (bC oth))):=by unfold mQ JR;cases aW o p oth.length (lN (bC oth)) (fN (bC oth))<;>rfl
theorem Ck (w:World) (o:Int) (pa:Option Addr) (pc:Nat) (p:List T) (a:Option Addr) (n cap:Nat) (ad:Nat→Option Addr) (cp:Nat→Nat) (L:Nat→List T) (ho:1≤o∧o≤3) (hp:RL w pa pc p) (h:cZ w a n cap ad (lN L) cp (fN L)) {R:Option Dv} (hR:aW o p n (lN L) (fN L)=R):Calls Tryz.prog 50 #[.int .i64 o,.slice pa p.length pc,.slice a n cap] w fun r w'=>Below w.heap.size w w'∧((∃Y a' c',JR o R=some Y∧r= .returned (.tuple #[.slice a' Y.length c',.bool true])∧jN w.heap.size w' a' c' Y)∨(JR o R=none∧r= .returned (.tuple #[.slice none 0 0,.bool false]))):=by
 have HC:=aA (DN w o pa pc p a n cap ad (lN L) cp (fN L) hp h hR);have HL0:Hid (∀(W:World) (la:Option Addr) (lc:Nat),RL W la lc []→Calls Tryz.prog 23 #[.int .i64 o,.slice la 0 lc] W fun r w'=>r= .returned (.tuple #[.agg #[.int .i64 0,.int .i64 0,.int .i64 0,.int .i64 0,.int .i64 0],.bool false])∧Below W.heap.size W w'):=fun W la lc hW=>by
  have e1:bF o 0 (lf [])=false:=by simp[bF]
  have:=kV W o la 0 lc (lf []) hW;rw[wP e1,e1]at this;exact this
 have hok:∀S,R=some S→cG S.r=true:=fun S e=>(iD (hR.trans e)).1;have HOK:=aA hok
 have hbd:=(SV (o:=o) (p:=p) (n:=n) (ln:=lN L) (f:=fN L)).2.2;rw[hR]at hbd;clear hp h hR hok;have hnone:∀r:List T,qG R=r→r.length=0→JR o R=none→Calls Tryz.prog 50 #[.int .i64 o,.slice pa p.length pc,.slice a n cap] w fun r w'=>Below w.heap.size w w'∧((∃Y a' c',JR o R=some Y∧r= .returned (.tuple #[.slice a' Y.length c',.bool true])∧jN w.heap.size w' a' c' Y)∨(JR o R=none∧r= .returned (.tuple #[.slice none 0 0,.bool false]))):=fun r er h0 hn=>by
  have e0:qG R=[]:=by rw[er];exact List.length_eq_zero_iff.1 h0
  have HN:=aA hn;have HE:=aA e0
  clear er h0 hn e0;go_enter Tryz.func50,Tryz.ntmps50;go_wp2_with fail;refine HC.out.mono ?_;rintro r w1 ⟨qa,qc,ad',cp',Rb,B,la,lc,mid,rfl,hb,_,hO,_⟩;have HB:=aA hb
  have hO1:=hO.1;rw[HE.out]at hO1⊢;have HO:=aA hO1
  clear hb hO hO1 HC;simp only[List.length_nil];go_wp2_with fail;refine(HL0.out w1 la lc HO.out).mono ?_;rintro r w2 ⟨rfl,hb2⟩;have HB2:=aA (aB (aB HB.out hb2) (aC w2 (.cells #[.int .i64 0,.int .i64 0,.int .i64 0,.int .i64 0,.int .i64 0] 42)))
  clear hb2;go_wp2;refine bY (results_tmp2 rfl _ _ _) rfl ?_;exact⟨HB2.out,.inr ⟨HN.out,rfl⟩⟩
 cases R with
 |none=>exact hnone [] rfl rfl rfl
 |some S=>
  by_cases h0:S.r.length=0
  ·exact hnone S.r rfl h0 (if_pos h0)
  ·have hY:JR o (some S)=some (pY o S.r):=if_neg h0;have hS:=HOK.out S rfl
   have e1:bF o S.r.length (lf S.r)=true:=fT.2 ⟨ho,hS,fun e=>h0 (by rw[e];rfl)⟩;have t1:bQ o S.r.length (lf S.r)=aV o S.r:=dP e1
   have hm:pY o S.r=fD (kN (aV o S.r).c) (lf S.r) S.r.length:=rfl;obtain⟨Y,hYe⟩:∃Y,pY o S.r=Y:=⟨_,rfl⟩
   obtain⟨t,ht⟩:∃t,aV o S.r=t:=⟨_,rfl⟩
   have hYl:Y.length≤400:=by rw[←hYe,hm];exact KG _ _ _
   rw[ht]at t1 hm;rw[hYe]at hY hm;obtain⟨k,hk⟩:∃k,kN t.c=k:=⟨_,rfl⟩
   rw[hk]at hm;have HLD:Hid (∀(W:World) (la:Option Addr) (lc:Nat),RL W la lc S.r→Calls Tryz.prog 23 #[.int .i64 o,.slice la S.r.length lc] W fun r w'=>r= .returned (.tuple #[.agg #[.int .i64 t.c,.int .i64 t.m.x,.int .i64 t.m.y,.int .i64 t.m.d,.int .i64 t.m.e],.bool true])∧Below W.heap.size W w'):=fun W la lc hW=>by have:=kV W o la S.r.length lc (lf S.r) hW;rw[t1,e1]at this;exact this
   have HSC:Hid (∀(W:World) (la:Option Addr) (lc:Nat),RL W la lc S.r→Calls Tryz.prog 30 #[.int .i64 k,.slice la S.r.length lc] W fun r w'=>∃a' c',r= .returned (.slice a' Y.length c')∧Below W.heap.size W w'∧jN W.heap.size w' a' c' Y):=fun W la lc hW=>by refine(GZ W k la S.r.length lc (lf S.r) hW).mono ?_;rintro r w' ⟨v,rfl,hb,hown⟩;rw[←hm]at hown;obtain⟨a',c',rfl,hO⟩:=aH hown (by omega);exact⟨a',c',rfl,hb,hO⟩
   have hinv:=Qj t.c;rw[hk]at hinv;have HIV:=aA hinv
   have HYY:=aA hY;clear hS e1 t1 hm hYe ht hk hinv hnone hY hbd;go_enter Tryz.func50,Tryz.ntmps50;go_wp2_with fail;refine HC.out.mono ?_;rintro r w1 ⟨qa,qc,ad',cp',Rb,B,la,lc,mid,rfl,hb,_,hO,_⟩;have HB:=aA hb
   have HO:Hid (RL w1 la lc S.r):=hO.1;clear hb hO HC;simp only[qG];go_wp2_with fail;refine(HLD.out w1 la lc HO.out).mono ?_;rintro r w2 ⟨rfl,hb2⟩;have bx:=aC w2 (.cells #[.int .i64 t.c,.int .i64 t.m.x,.int .i64 t.m.y,.int .i64 t.m.d,.int .i64 t.m.e] 42)
   have HB2:=aA (aB (aB HB.out hb2) bx);have HO2:=aA (Rd.below (Rd.below HO.out hb2) bx)
   obtain⟨y0,y1,y2,y3,y4⟩:=C5.box w2 42 t;have hsz:w.heap.size≤w2.heap.size:=by have:=HB2.out.size;have:=HB.out.size;have:=hb2.size;omega
   clear hb2 bx HO HB;go_wp2_with fail;refine(HIV.out _).mono ?_;rintro r w3 ⟨rfl,hw3⟩;obtain rfl:=hw3.symm;clear hw3;go_wp2_with fail;generalize(w2.alloc (.cells #[.int .i64 t.c,.int .i64 t.m.x,.int .i64 t.m.y,.int .i64 t.m.d,.int .i64 t.m.e] 42))=w3 at HB2 HO2⊢;refine(HSC.out w3 la lc HO2.out).mono ?_;rintro r w4 ⟨a',c',rfl,hb4,hO4⟩;have HB4:=aA (aB HB2.out hb4)
   have HO4:Hid (jN w.heap.size w4 a' c' Y):=⟨hO4.1,hO4.2.1,hO4.2.2.imp id (fun⟨g,off,e,hg⟩=>⟨g,off,e,by have:=HB2.out.size;omega⟩)⟩
   clear hb4 hO4 y0 y1 y2 y3 y4;go_wp2;refine bY (results_tmp2 rfl _ _ _) rfl ?_;exact⟨HB4.out,.inl ⟨Y,a',c',HYY.out,rfl,HO4.out⟩⟩
theorem pU:∃i:TypeInfo,Tryz.prog.info? 45=some i∧i.zero=some (.slice none 0 0)∧i.size=1∧i.bytes=24:=info_parts Ne
theorem Qe (w:World) (k:Nat) (hk:k≤100):Calls Tryz.prog 93 #[.slice none 0 0,.int .i64 (k:Int)] w fun r w'=>∃tv,r= .returned tv∧Below w.heap.size w w'∧w'.ownsRow w.heap.size 45 1 tv 0 []:=by
 obtain⟨i0,hi0,hz0,hz1,hz2⟩:=pU;have hkI:(k:Int)≤100:=by omega
 have hk0:¬(k:Int)<0:=by omega
 by_cases h0:k=0
 ·subst h0;go_enter Tryz.func93,Tryz.ntmps93;go_wp2;go_ret;exact⟨_,rfl,bL _ _,⟨rfl,.inl ⟨rfl,rfl⟩⟩⟩
 ·have hpos:(0:Int)<(k:Int):=by omega
  have hrun:=fun ty=>Lib.run_append_nil_zeros (P:=Tryz.prog) w 24 3 ty 45 i0 _ .i64 .i64 Tryz.underlying24 Tryz.underlying3 hi0 hz0 k (by omega) (by omega) (by omega) (by rw[hz2];omega);have hge:=grownCap_ge w k 0 45
  have hle:=grownCap_le_maxLen w k 0 45 (by unfold maxLen;omega);obtain⟨C,hC⟩:∃C,grownCap w k 0 45=C:=⟨_,rfl⟩
  rw[hC]at hge hle;simp only[hC]at hrun;obtain⟨cur,hcur⟩:∃cur,Builtin.zeroCells (Value.slice none 0 0).cells k++Builtin.zeroCells (Value.slice none 0 0).cells (C-k)=cur:=⟨_,rfl⟩
  have hsz:cur.size=C*1:=by rw[←hcur];simp[Builtin.zeroCells,Value.cells];omega
  simp only[hcur]at hrun;have HOW:=aA (World.ownsRow_made (base:=w.heap.size) (e:=45) (size:=1) w.drew cur C (Nat.le_refl _) hle hsz)
  have HBL:=aA ((bL w.heap.size w).drew.alloc (Nat.le_refl _) (.cells cur 45));clear hC hcur hsz hz0 hz1 hz2 hi0 hge;go_enter Tryz.func93,Tryz.ntmps93;go_wp2_with (at_builtin;refine Lib.wpList_append_run _ rfl _ _ _ _ rfl _ _ rfl rfl _ _ (hrun _) ?_;clear hrun);go_ret;exact⟨_,rfl,HBL.out,HOW.out⟩
end Go.Proofs.YtdidlcjhodejjaaGreat
