/-
  Rows of operators that lie elsewhere: how they are read, cut and put together.
-/
import Derived.Test.YtdidlcjhodejjaaGreatUbb
import Derived.Test.YtdidlcjhodejjaaGreatUba
import Derived.Deep.AppendLies
import Derived.Test.YtdidlcjhodejjaaGreatUaw
import Derived.Shelf.RegionOpenPlain
namespace Go.Proofs.YtdidlcjhodejjaaGreat
open Go.RowKit Go.Deep Go.Joins
set_option linter.unusedVariables false
structure E where
 a:Option Addr
 c:Nat
 p:List T
def E.v (e:E):Value:=.slice e.a e.p.length e.c
def E0:E:=⟨none,0,[]⟩
theorem oneE (es:List E):∀ u∈es.map E.v,u.oneCell'=true:=fun u hu=>by
 obtain ⟨e,_,rfl⟩:=List.mem_map.1 hu
 rfl
def ElE (w:World) (g:Option Nat) (e:E):Prop:=RL w e.a e.c e.p∧(e.p.length=0∨∀ b off,e.a=some ⟨b,off,none⟩→g≠some b)
theorem ElE.below {w w':World} {g:Option Nat} {e:E} (h:ElE w g e) (hb:Below w.heap.size w w'):ElE w' g e:=⟨Rd.below h.1 hb,h.2⟩
theorem ElE.grown {w w':World} {g:Option Nat} {e:E} (h:ElE w g e) (hg:w.grownBy w' g):ElE w' g e:=⟨Rd.grown h.1 hg (h.2.imp id (fun q b off e1 e2=>q b off e1 e2.symm)),h.2⟩
theorem ElE.to {w:World} {g g':Option Nat} {e:E} (h:ElE w g e) (hg:g'=g∨∃ k,g'=some k∧w.heap.size≤k):ElE w g' e:=by
 refine ⟨h.1,?_⟩
 rcases hg with rfl | ⟨k,rfl,hk⟩
 ·exact h.2
 ·rcases h.1.2.2 with h0 | ⟨b,off,e1,hlt,_⟩
  ·exact .inl h0
  ·refine .inr fun b' off' e2 e3=>?_
   rw [e1] at e2;cases e2
   have:k=b:=by simpa using e3
   omega
theorem ElE.any {w:World} {e:E} (h:RL w e.a e.c e.p) {k:Nat} (hk:w.heap.size≤k):ElE w (some k) e:=(show ElE w none e from ⟨h,.inr fun _ _ _ q=>by cases q⟩).to (.inr ⟨k,rfl,hk⟩)
structure RowE (lo:Nat) (w:World) (tv:Value) (es:List E):Prop where
 row:w.ownsRow lo 45 1 tv es.length (es.map E.v)
 el:∀ e∈es,ElE w tv.ownBlock e
theorem RowE.nil (lo:Nat) (w:World):RowE lo w (.slice none 0 0) []:=⟨⟨rfl,.inl ⟨rfl,rfl⟩⟩,fun e he=>by cases he⟩
theorem RowE.start {lo:Nat} {w:World} (h:lo≤w.heap.size):RowE lo (w.alloc (.cells #[] 45)) (.slice (some ⟨w.heap.size,0,none⟩) 0 0) []:=⟨⟨rfl,.inr ⟨w.heap.size,0,#[],rfl,h,heap_alloc_new w (.cells #[] 45),Nat.le_refl _,Nat.zero_le _,rfl,rfl⟩⟩,fun e he=>by cases he⟩
theorem RowE.below {lo:Nat} {w w':World} {tv:Value} {es:List E} (h:RowE lo w tv es) (hb:Below w.heap.size w w'):RowE lo w' tv es where
 row:=h.row.kept (belowG hb none) (by
  cases e:tv.ownBlock with
  | none=>exact .inl rfl
  | some k=>exact .inr (by simp))
 el:=fun e he=>(h.el e he).below hb
theorem RowE.app {lo:Nat} {w w5:World} {tv:Value} {es es':List E} (h:RowE lo w tv es) (h':∀ e∈es',ElE w tv.ownBlock e) {g0 cap0:Nat} (hgrow:w.grownBy w5 tv.ownBlock)
  (hown:w5.ownsRow lo 45 1 (.slice (some ⟨g0,0,none⟩) (es.length+es'.length) cap0) (es.length+es'.length) (es.map E.v ++ es'.map E.v)) (hat:tv.ownBlock=some g0∨g0=w.heap.size) :
  RowE lo w5 (.slice (some ⟨g0,0,none⟩) (es.length+es'.length) cap0) (es ++ es'):=by
 refine ⟨by rw [List.length_append,List.map_append];exact hown,fun e he=>?_⟩
 have h1:ElE w tv.ownBlock e:=by
  rcases List.mem_append.1 he with q | q
  ·exact h.el e q
  ·exact h' e q
 show ElE w5 (some g0) e
 rcases hat with q | q
 ·rw [← q];exact h1.grown hgrow
 ·have h2:=h1.to (g':=some g0) (.inr ⟨g0,rfl,by omega⟩)
  exact ⟨(h1.grown hgrow).1,h2.2⟩
def RdE (w:World) (a:Option Addr) (c:Nat) (es:List E):Prop:=
 es.length≤c∧es.length≤100∧(es.length=0∨∃ b off,a=some ⟨b,off,none⟩∧b<w.heap.size∧∀ i e,es[i]? = some e→w.cell? ⟨b,off+i,none⟩=some e.v)∧∀ e∈es,RL w e.a e.c e.p
theorem RdE.below {w w':World} {a:Option Addr} {c:Nat} {es:List E} (h:RdE w a c es) (hb:Below w.heap.size w w'):RdE w' a c es:=
 ⟨h.1,h.2.1,h.2.2.1.imp id (fun ⟨b,off,e1,hlt,hc⟩=>⟨b,off,e1,Nat.lt_of_lt_of_le hlt hb.size,fun i e he=>(hb.cell (p:=⟨b,off+i,none⟩) hlt).trans (hc i e he)⟩),fun e he=>Rd.below (h.2.2.2 e he) hb⟩
theorem RowE.rd {lo:Nat} {w:World} {tv:Value} {es:List E} (h:RowE lo w tv es) (hn:es.length≤100):∃ a c,tv=.slice a es.length c∧RdE w a c es:=by
 rcases h.row.2 with ⟨hv,h0⟩ | ⟨b,cap,cur,hv,hlo,hg,hnc,_⟩
 ·exact ⟨none,0,by rw [hv,h0],by omega,hn,.inl h0,fun e he=>(h.el e he).1⟩
 ·have hr:=h.row
  rw [hv] at hr
  refine ⟨some ⟨b,0,none⟩,cap,hv,hnc,hn,.inr ⟨b,0,rfl,(hr.lt b rfl).2,fun i e he=>?_⟩,fun e he=>(h.el e he).1⟩
  have hi:i<es.length:=(List.getElem?_eq_some_iff.1 he).1
  rw [Nat.zero_add,hr.cellAt i (by omega),List.getElem?_map,he]
  rfl
theorem getE {es:List E} {i:Nat} (h:i<es.length):es[i]? = some (es.getD i E0)∧es.getD i E0∈es:=by
 rw [List.getD_eq_getElem?_getD,List.getElem?_eq_getElem h]
 exact ⟨rfl,List.getElem_mem h⟩
theorem lof_map (es:List E) (i:Nat):Lof (es.map E.p) i=(es.getD i E0).p:=by
 show (es.map E.p).getD i []=_
 rw [List.getD_eq_getElem?_getD,List.getD_eq_getElem?_getD,List.getElem?_map]
 cases es[i]? <;> rfl
theorem RdE.rds {w:World} {a:Option Addr} {c:Nat} {es:List E} (h:RdE w a c es):RdS w a es.length c (fun i=>(es.getD i E0).a) (lN (Lof (es.map E.p))) (fun i=>(es.getD i E0).c) (fN (Lof (es.map E.p))):=by
 refine ⟨h.1,by have:=h.2.1;omega,?_,fun i hi=>?_⟩
 ·rcases h.2.2.1 with h0 | ⟨b,off,e1,hlt,hc⟩
  ·exact .inl h0
  ·refine .inr ⟨b,off,e1,hlt,fun i hi=>?_⟩
   rw [hc i _ (getE hi).1]
   show some (Value.slice (es.getD i E0).a (es.getD i E0).p.length (es.getD i E0).c)=some (.slice (es.getD i E0).a (Lof (es.map E.p) i).length (es.getD i E0).c)
   rw [lof_map]
 ·have:=h.2.2.2 _ (getE hi).2
  show Rd w (es.getD i E0).a (Lof (es.map E.p) i).length (es.getD i E0).c (lf (Lof (es.map E.p) i))
  rw [lof_map]
  exact this
def esOf (ad:Nat→Option Addr) (cp:Nat→Nat) (L:Nat→List T) (i:Nat):E:=⟨ad i,cp i,L i⟩
theorem RdS.el {w:World} {a:Option Addr} {n c:Nat} {ad:Nat→Option Addr} {cp:Nat→Nat} {L:Nat→List T} (h:RdS w a n c ad (lN L) cp (fN L)) {i:Nat} (hi:i<n):RL w (esOf ad cp L i).a (esOf ad cp L i).c (esOf ad cp L i).p:=h.2.2.2 i hi
theorem RdE.newsTo {w:World} {b off c:Nat} {es:List E} (h:RdE w (some ⟨b,off,none⟩) c es) (k:Nat):∀ j u,((es.take k).map E.v)[j]? = some u→w.cell? ((⟨b,off,none⟩:Addr).add j)=some u:=by
 intro j u hu
 rw [List.getElem?_map] at hu
 cases he:(es.take k)[j]? with
 | none=>rw [he] at hu;cases hu
 | some e=>
  rw [he] at hu
  cases hu
  have hjk:=(List.getElem?_eq_some_iff.1 he).1
  rw [List.length_take] at hjk
  have he':es[j]? = some e:=by rw [List.getElem?_take_of_lt (by omega)] at he;exact he
  rcases h.2.2.1 with h0 | ⟨b',off',e1,hlt,hc⟩
  ·omega
  ·cases e1
   have e2:(⟨b,off,none⟩:Addr).add j=⟨b,off+j,none⟩:=by unfold Addr.add;split <;> simp_all
   rw [e2]
   exact hc j e he'
theorem infoGl:(Tryz.prog.info? 45).map (fun i=>(i.zero,i.size,i.bytes))=some (some (.slice none 0 0),1,24):=by kernel_rfl
end Go.Proofs.YtdidlcjhodejjaaGreat
namespace Go.Proofs.YtdidlcjhodejjaaGreat
open Go.RowKit Go.Deep Go.Joins
set_option linter.unusedVariables false
def needTo (k:Nat→M) (i j:Nat):Bool:=decide (∀ t,t<j→¬ (t≠i∧M.dvd (k t) (k i)=true∧(meqB (k t) (k i)=false∨t<i)))
theorem needTo_no {k:Nat→M} {n i j:Nat} (hj:j<n) (h:j≠i∧M.dvd (k j) (k i)=true∧(meqB (k j) (k i)=false∨j<i)):need k n i=false:=decide_eq_false (fun hh=>hh j hj h)
set_option maxRecDepth 100000 in
set_option maxHeartbeats 4000000 in
theorem idlNeededI (w:World) (a:Option Addr) (n cap:Nat) (f:Nat→T) (i:Nat) (h:Rd w a n cap f) (hi:i<n) :
  Calls Tryz.prog 46 #[.slice a n cap,.int .i64 (i:Int)] w fun r w'=>r=.returned (.bool (need (fun j=>(f j).m) n i))∧Below w.heap.size w w':=by
 obtain ⟨h1,h2,h3⟩:=h
 have hn:(n:Int)≤140737488351232:=by omega
 have hin:(i:Int)<(n:Int):=by omega
 rcases h3 with h0 | ⟨b,off,rfl,hblt,hcl⟩
 ·omega
 obtain ⟨c0,c1,c2,c3,c4⟩:=hcl i hi
 obtain ⟨m,hm⟩:∃ m,(f i).m=m:=⟨_,rfl⟩
 rw [hm] at c1 c2 c3 c4
 have HM:=Hid.mk' hm
 have HC:=Hid.mk' hcl
 obtain ⟨R,hR⟩:∃ R,need (fun j=>(f j).m) n i=R:=⟨_,rfl⟩
 rw [hR]
 have HR:=Hid.mk' hR
 clear hcl hm hR
 go_enter Tryz.func46,Tryz.ntmps46
 go_wp2
 have HO:=Hid.mk' (M4.box w 40 m.x m.y m.d m.e)
 have HB1:=Hid.mk' (bel_one w (.cells #[.int .i64 m.x,.int .i64 m.y,.int .i64 m.d,.int .i64 m.e] 40))
 have hsz1:w.heap.size<(w.alloc (.cells #[.int .i64 m.x,.int .i64 m.y,.int .i64 m.d,.int .i64 m.e] 40)).heap.size:=by simp
 clear c0 c1 c2 c3 c4
 generalize (w.alloc (.cells #[.int .i64 m.x,.int .i64 m.y,.int .i64 m.d,.int .i64 m.e] 40))=w1 at HO HB1 hsz1 ⊢
 go_loopw [15] (fun v wr=>∃ j:Nat,j≤n∧v=.int .i64 (j:Int)∧Below w1.heap.size w1 wr∧Hid (∀ t,t<j→¬ (t≠i∧M.dvd (f t).m m=true∧(meqB (f t).m m=false∨t<i)))) (fun v _=>n - (intOf v).toNat)
 case atStart=>exact ⟨0,Nat.zero_le _,rfl,Below.refl _ _,fun t ht=>absurd ht (Nat.not_lt_zero _)⟩
 case round=>
  obtain ⟨j,hj,rfl,hB,HJ⟩:=hrel
  by_cases hlt:j<n
  ·have hjn:(j:Int)<(n:Int):=by omega
   obtain ⟨g0,g1,g2,g3,g4⟩:=(HC.out j hlt).below (bel_next HB1.out hB) hblt
   obtain ⟨t,ht⟩:∃ t,f j=t:=⟨_,rfl⟩
   rw [ht] at g0 g1 g2 g3 g4
   obtain ⟨y0,y1,y2,y3,y4⟩:=C5.box wr 42 t
   have HOr:=HO.out.below hB
   have HO2:=HOr.below (bel_one wr (.cells #[.int .i64 t.c,.int .i64 t.m.x,.int .i64 t.m.y,.int .i64 t.m.d,.int .i64 t.m.e] 42))
   obtain ⟨x0,x1,x2,x3⟩:=HO2
   have HBT:=Hid.mk' (bel_next hB (bel_one wr (.cells #[.int .i64 t.c,.int .i64 t.m.x,.int .i64 t.m.y,.int .i64 t.m.d,.int .i64 t.m.e] 42)))
   have HBX:=Hid.mk' (C5.box wr 42 t)
   have HOX:=Hid.mk' (HOr.below (bel_one wr (.cells #[.int .i64 t.c,.int .i64 t.m.x,.int .i64 t.m.y,.int .i64 t.m.d,.int .i64 t.m.e] 42)))
   have HT:=Hid.mk' ht
   have hwr:w1.heap.size≤wr.heap.size:=hB.size
   have hbad:(j≠i∧M.dvd t.m m=true∧(meqB t.m m=false∨j<i))→R=false:=fun hh=>by
    rw [← HR.out]
    exact needTo_no (k:=fun j=>(f j).m) hlt (by show j≠i∧M.dvd (f j).m (f i).m=true∧(meqB (f j).m (f i).m=false∨j<i);rw [HT.out,HM.out];exact hh)
   have hgood:¬ (j≠i∧M.dvd t.m m=true∧(meqB t.m m=false∨j<i))→∀ t',t'<j+1→¬ (t'≠i∧M.dvd (f t').m m=true∧(meqB (f t').m m=false∨t'<i)):=fun hh t' ht'=>by
    by_cases e:t'=j
    ·rw [e,HT.out];exact hh
    ·exact HJ.out t' (by omega)
   have HBAD:=Hid.mk' hbad
   have HGOOD:=Hid.mk' hgood
   have hdv:=monDividesI_of (x:=t.m.x) (y:=t.m.y) (d:=t.m.d) (e:=t.m.e) (x':=m.x) (y':=m.y) (d':=m.d) (e':=m.e) rfl
   obtain ⟨dv,hdd⟩:∃ dv,M.dvd t.m m=dv:=⟨_,rfl⟩
   rw [show M.dvd ⟨t.m.x,t.m.y,t.m.d,t.m.e⟩ ⟨m.x,m.y,m.d,m.e⟩=dv from hdd] at hdv
   have HDV:=Hid.mk' hdv
   have HDD:=Hid.mk' hdd
   clear hB ht hbad hgood hdv hdd HOr
   cases dv
   ·have HG:=Hid.mk' (HGOOD.out (fun hh=>by rw [HDD.out] at hh;exact absurd hh.2.1 (by simp)))
    go_wp2_with fail
    refine (HDV.out _).mono ?_
    rintro r w3 ⟨rfl,hb3⟩
    have HB3:=Hid.mk' (bel_next HBT.out hb3)
    clear hb3
    go_wp2
    go_roundw
    case rel=>exact ⟨j+1,by omega,by go_num,HB3.out,HG.out⟩
    case measure=>simp [intOf];omega
   ·by_cases hji:j<i
    ·have hR0:=HBAD.out ⟨by omega,HDD.out,.inr hji⟩
     subst hR0
     have hjiI:(j:Int)<(i:Int):=by omega
     go_wp2_with fail
     refine (HDV.out _).mono ?_
     rintro r w3 ⟨rfl,hb3⟩
     have HB3:=Hid.mk' (bel_next HBT.out hb3)
     clear hb3
     go_wp2
     go_ret
     exact ⟨rfl,bel_next HB1.out HB3.out⟩
    ·have hjiI:¬ (j:Int)<(i:Int):=by omega
     go_wp2_with fail
     refine (HDV.out _).mono ?_
     rintro r w3 ⟨rfl,hb3⟩
     have HB3:=Hid.mk' (bel_next HBT.out hb3)
     obtain ⟨z0,z1,z2,z3,z4⟩:=HBX.out.below hb3
     obtain ⟨v0,v1,v2,v3⟩:=HOX.out.below hb3
     clear hb3 y0 y1 y2 y3 y4 x0 x1 x2 x3
     by_cases hx:t.m.x=m.x
     ·by_cases hy:t.m.y=m.y
      ·by_cases hd:t.m.d=m.d
       ·by_cases he:t.m.e=m.e
        ·have HG:=Hid.mk' (HGOOD.out (fun hh=>by
          rcases hh.2.2 with q | q
          ·have:meqB t.m m=true:=decide_eq_true ⟨hx,hy,hd,he⟩
           rw [this] at q;cases q
          ·omega))
         go_wp2
         go_roundw
         case rel=>exact ⟨j+1,by omega,by go_num,HB3.out,HG.out⟩
         case measure=>simp [intOf];omega
        ·have hR0:=HBAD.out ⟨by intro e;rw [e] at HT;exact he (by rw [← HT.out,HM.out]),HDD.out,.inl (decide_eq_false (fun q=>he q.2.2.2))⟩
         subst hR0
         go_wp2
         go_ret
         exact ⟨rfl,bel_next HB1.out HB3.out⟩
       ·have hR0:=HBAD.out ⟨by intro e;rw [e] at HT;exact hd (by rw [← HT.out,HM.out]),HDD.out,.inl (decide_eq_false (fun q=>hd q.2.2.1))⟩
        subst hR0
        go_wp2
        go_ret
        exact ⟨rfl,bel_next HB1.out HB3.out⟩
      ·have hR0:=HBAD.out ⟨by intro e;rw [e] at HT;exact hy (by rw [← HT.out,HM.out]),HDD.out,.inl (decide_eq_false (fun q=>hy q.2.1))⟩
       subst hR0
       go_wp2
       go_ret
       exact ⟨rfl,bel_next HB1.out HB3.out⟩
     ·have hR0:=HBAD.out ⟨by intro e;rw [e] at HT;exact hx (by rw [← HT.out,HM.out]),HDD.out,.inl (decide_eq_false (fun q=>hx q.1))⟩
      subst hR0
      go_wp2
      go_ret
      exact ⟨rfl,bel_next HB1.out HB3.out⟩
  ·have hjn:¬ (j:Int)<(n:Int):=by omega
   have hje:j=n:=by omega
   subst hje
   have hR0:R=true:=by
    rw [← HR.out]
    refine decide_eq_true (fun t ht=>?_)
    show ¬ (t≠i∧M.dvd (f t).m (f i).m=true∧(meqB (f t).m (f i).m=false∨t<i))
    rw [HM.out]
    exact HJ.out t ht
   subst hR0
   have HB2:=Hid.mk' hB
   clear hB
   go_wp2
   go_ret
   exact ⟨rfl,bel_next HB1.out HB2.out⟩
set_option maxRecDepth 100000 in
set_option maxHeartbeats 4000000 in
theorem idlCmpI (w:World) (o:Int) (a b:Option Addr) (ca cb:Nat) (A B:List T) (ha:RL w a ca A) (hb:RL w b cb B) (ho:1≤o∧o≤3) (oA:okL A=true∧A.length≠0) (oB:okL B=true∧B.length≠0) :
  Calls Tryz.prog 48 #[.int .i64 o,.slice a A.length ca,.slice b B.length cb] w fun r w'=>r=.returned (.int .i64 (M.ord o (ldL o A).m (ldL o B).m))∧Below w.heap.size w w':=by
 have hl:=polLeadI
 have e1:leadOk o A.length (lf A)=true:=ldB_iff.2 ⟨ho,oA.1,fun e=>oA.2 (by rw [e];rfl)⟩
 have e2:leadOk o B.length (lf B)=true:=ldB_iff.2 ⟨ho,oB.1,fun e=>oB.2 (by rw [e];rfl)⟩
 have t1:leadT o A.length (lf A)=ldL o A:=leadT_yes e1
 have t2:leadT o B.length (lf B)=ldL o B:=leadT_yes e2
 have k1:=(ldL_good (o:=o) (okL_falls oA.1).2 oA.2).1
 have k2:=(ldL_good (o:=o) (okL_falls oB.1).2 oB.2).1
 have hc:M.cmp o (ldL o A).m (ldL o B).m=M.ord o (ldL o A).m (ldL o B).m:=if_pos ⟨ho,k1,k2⟩
 obtain ⟨s,hs⟩:∃ s,ldL o A=s:=⟨_,rfl⟩
 obtain ⟨t,ht⟩:∃ t,ldL o B=t:=⟨_,rfl⟩
 obtain ⟨q,hq⟩:∃ q,M.ord o (ldL o A).m (ldL o B).m=q:=⟨_,rfl⟩
 rw [hq] at hc ⊢
 rw [hs] at t1 hc
 rw [ht] at t2 hc
 have HA:=Hid.mk' ha
 have HB:=Hid.mk' hb
 have HLA:Hid (∀ W,RL W a ca A→Calls Tryz.prog 23 #[.int .i64 o,.slice a A.length ca] W fun r w'=>r=.returned (.tuple #[.agg #[.int .i64 s.c,.int .i64 s.m.x,.int .i64 s.m.y,.int .i64 s.m.d,.int .i64 s.m.e],.bool true])∧Below W.heap.size W w'):=fun W hW=>by
  have:=polLeadI W o a A.length ca (lf A) hW
  rw [t1,e1] at this
  exact this
 have HLB:Hid (∀ W,RL W b cb B→Calls Tryz.prog 23 #[.int .i64 o,.slice b B.length cb] W fun r w'=>r=.returned (.tuple #[.agg #[.int .i64 t.c,.int .i64 t.m.x,.int .i64 t.m.y,.int .i64 t.m.d,.int .i64 t.m.e],.bool true])∧Below W.heap.size W w'):=fun W hW=>by
  have:=polLeadI W o b B.length cb (lf B) hW
  rw [t2,e2] at this
  exact this
 have HCM:Hid (∀ W:World,Calls Tryz.prog 36 #[.int .i64 o,.agg #[.int .i64 s.m.x,.int .i64 s.m.y,.int .i64 s.m.d,.int .i64 s.m.e],.agg #[.int .i64 t.m.x,.int .i64 t.m.y,.int .i64 t.m.d,.int .i64 t.m.e]] W fun r w'=>r=.returned (.int .i64 q)∧Below W.heap.size W w'):=fun W=>by
  have:=monCmpI o s.m.x s.m.y s.m.d s.m.e t.m.x t.m.y t.m.d t.m.e W
  rw [show M.cmp o ⟨s.m.x,s.m.y,s.m.d,s.m.e⟩ ⟨t.m.x,t.m.y,t.m.d,t.m.e⟩=q from hc] at this
  exact this
 clear hl e1 e2 t1 t2 k1 k2 hc hs ht hq ha hb oA oB
 go_enter Tryz.func48,Tryz.ntmps48
 go_wp2_with fail
 refine (HLA.out w HA.out).mono ?_
 rintro r w1 ⟨rfl,hb1⟩
 have HB1:=Hid.mk' (bel_next hb1 (bel_one w1 (.cells #[.int .i64 s.c,.int .i64 s.m.x,.int .i64 s.m.y,.int .i64 s.m.d,.int .i64 s.m.e] 42)))
 have HX1:=Hid.mk' (C5.box w1 42 s)
 have HS1:w1.heap.size<(w1.alloc (.cells #[.int .i64 s.c,.int .i64 s.m.x,.int .i64 s.m.y,.int .i64 s.m.d,.int .i64 s.m.e] 42)).heap.size:=by simp
 have HRB:=Hid.mk' (Rd.below HB.out HB1.out)
 clear hb1
 go_wp2_with fail
 generalize (w1.alloc (.cells #[.int .i64 s.c,.int .i64 s.m.x,.int .i64 s.m.y,.int .i64 s.m.d,.int .i64 s.m.e] 42))=w2 at HB1 HX1 HS1 HRB ⊢
 refine (HLB.out w2 HRB.out).mono ?_
 rintro r w3 ⟨rfl,hb3⟩
 have bx:=bel_one w3 (.cells #[.int .i64 t.c,.int .i64 t.m.x,.int .i64 t.m.y,.int .i64 t.m.d,.int .i64 t.m.e] 42)
 have HB3:=Hid.mk' (bel_next (bel_next HB1.out hb3) bx)
 obtain ⟨y0,y1,y2,y3,y4⟩:=(HX1.out.below hb3).below bx
 obtain ⟨z0,z1,z2,z3,z4⟩:=C5.box w3 42 t
 have hs3:w1.heap.size<w3.heap.size:=by have:=hb3.size;omega
 clear hb3 bx
 go_wp2_with fail
 refine (HCM.out _).mono ?_
 rintro r w4 ⟨rfl,hb4⟩
 have HB4:=Hid.mk' (bel_next HB3.out hb4)
 clear hb4
 go_wp2
 go_ret
 exact ⟨rfl,HB4.out⟩
end Go.Proofs.YtdidlcjhodejjaaGreat
namespace Go.Proofs.YtdidlcjhodejjaaGreat
open Go.RowKit Go.Deep Go.Joins
set_option linter.unusedVariables false
structure RwE (g:Nat) (w:World) (n:Nat) (F:Nat→E):Prop where
 row:∃ N,n≤N∧∃ V:Nat→Value,w.rowIs g 45 N V∧∀ j,j<n→V j=(F j).v
 el:∀ j,j<n→ElE w (some g) (F j)
theorem RwE.lt {g:Nat} {w:World} {n:Nat} {F:Nat→E} (h:RwE g w n F):g<w.heap.size:=by
 obtain ⟨N,hN,V,h1,h2⟩:=h.row
 exact h1.lt
theorem RwE.cell {g:Nat} {w:World} {n:Nat} {F:Nat→E} (h:RwE g w n F) {j:Nat} (hj:j<n):w.cell? ⟨g,j,none⟩=some (F j).v:=by
 obtain ⟨N,hN,V,h1,h2⟩:=h.row
 rw [h1.cell (by omega),h2 j hj]
theorem RwE.frozen {g:Nat} {w:World} {n:Nat} {F:Nat→E} (h:RwE g w n F) (j:Nat):w.frozen? ⟨g,j,none⟩=false:=by
 obtain ⟨N,hN,V,h1,h2⟩:=h.row
 exact h1.frozen j
theorem RwE.below {g:Nat} {w w':World} {n:Nat} {F:Nat→E} (h:RwE g w n F) (hb:Below w.heap.size w w'):RwE g w' n F where
 row:=by
  obtain ⟨N,hN,V,h1,h2⟩:=h.row
  exact ⟨N,hN,V,h1.of_block (hb.block g h1.lt),h2⟩
 el:=fun j hj=>(h.el j hj).below hb
theorem RwE.set {g:Nat} {w:World} {n:Nat} {F:Nat→E} (h:RwE g w n F) {i:Nat} {e:E} (he:ElE w (some g) e):RwE g (w.setCell ⟨g,i,none⟩ e.v) n (fun j=>if j=i then e else F j) where
 row:=by
  obtain ⟨N,hN,V,h1,h2⟩:=h.row
  refine ⟨N,hN,fun j=>if j=i then e.v else V j,h1.set _ _,fun j hj=>?_⟩
  by_cases q:j=i
  ·simp [q]
  ·simp [q,h2 j hj]
 el:=fun j hj=>by
  have hg:w.grownBy (w.setCell ⟨g,i,none⟩ e.v) (some g):=⟨rfl,rfl,rfl,by simp,fun k hk hne=>Below.heap_setCell _ _ _ _ (fun q=>hne (by rw [q]))⟩
  by_cases q:j=i
  ·simp only [if_pos q];exact he.grown hg
  ·simp only [if_neg q];exact (h.el j hj).grown hg
theorem RwE.congr {g:Nat} {w:World} {n:Nat} {F G:Nat→E} (h:RwE g w n F) (e:∀ j,j<n→F j=G j):RwE g w n G where
 row:=by
  obtain ⟨N,hN,V,h1,h2⟩:=h.row
  exact ⟨N,hN,V,h1,fun j hj=>by rw [h2 j hj,e j hj]⟩
 el:=fun j hj=>by rw [← e j hj];exact h.el j hj
def swpE (F:Nat→E) (j:Nat) (t:Nat):E:=if t=j then F (j+1) else if t=j+1 then F j else F t
theorem RwE.swp {g:Nat} {w:World} {n:Nat} {F:Nat→E} (h:RwE g w n F) {j:Nat} (hj:j+1<n):RwE g ((w.setCell ⟨g,j+1,none⟩ (F j).v).setCell ⟨g,j,none⟩ (F (j+1)).v) n (swpE F j):=by
 have h1:=h.set (i:=j+1) (h.el j (by omega))
 have hg:w.grownBy (w.setCell ⟨g,j+1,none⟩ (F j).v) (some g):=⟨rfl,rfl,rfl,by simp,fun k hk hne=>Below.heap_setCell _ _ _ _ (fun q=>hne (by rw [q]))⟩
 have h2:=h1.set (i:=j) (e:=F (j+1)) ((h.el (j+1) hj).grown hg)
 refine h2.congr fun t ht=>?_
 unfold swpE
 by_cases e1:t=j
 ·simp [e1]
 ·by_cases e2:t=j+1
  ·simp [e2]
  ·simp [e1,e2]
def dwnE (lt:E→E→Bool):Nat→(Nat→E)→(Nat→E)
 | 0,F=>F
 | j+1,F=>if lt (F (j+1)) (F j)=true then dwnE lt j (swpE F j) else F
def sndE (lt:E→E→Bool):Nat→Nat→(Nat→E)→(Nat→E)
 | 0,_,F=>F
 | u+1,i,F=>sndE lt u (i+1) (dwnE lt i F)
theorem dwn_go {lt:E→E→Bool} {j:Nat} {F:Nat→E} (h:lt (F (j+1)) (F j)=true):dwnE lt (j+1) F=dwnE lt j (swpE F j):=if_pos h
theorem dwn_no {lt:E→E→Bool} {j:Nat} {F:Nat→E} (h:lt (F (j+1)) (F j)=false):dwnE lt (j+1) F=F:=if_neg (by rw [h];simp)
def CmpE (o:Int) (e e':E):Int:=M.ord o (ldL o e.p).m (ldL o e'.p).m
def ltE (o:Int) (e e':E):Bool:=ltO o e.p e'.p
theorem eg_cmp:∀ args w,(callFunc 48 args).run Tryz.prog w=.ok (.enter 48 args) w:=enters_of Tryz.func48 (by kernel_rfl) rfl
set_option maxRecDepth 100000 in
set_option maxHeartbeats 8000000 in
theorem insI (w:World) (o:Int) (g n cap:Nat) (F:Nat→E) (ho:1≤o∧o≤3) (h:RwE g w n F) (hn:n≤12) (hok:∀ j,j<n→okL (F j).p=true∧(F j).p.length≠0) :
  Calls Tryz.prog 132 #[.slice (some ⟨g,0,none⟩) n cap,.int .i64 0,.int .i64 (n:Int),.func (.func 48) #[.int .i64 o] #[]] w fun r w'=>r=.returned (.tuple #[])∧w.grownBy w' (some g)∧RwE g w' n (sndE (ltE o) (n - 1) 1 F):=by
 have hnI:(n:Int)≤12:=by omega
 have HH:=Hid.mk' h
 have HOK:=Hid.mk' hok
 have hgl:=h.lt
 clear h hok
 go_enter Tryz.func132,Tryz.ntmps132
 go_wp2
 go_loopw [8] (fun vi wr=>∃ (i:Nat) (G:Nat→E),1≤i∧(i≤n∨i=1)∧vi=.int .i64 (i:Int)∧w.grownBy wr (some g)∧RwE g wr n G∧Hid (sndE (ltE o) (n - i) i G=sndE (ltE o) (n - 1) 1 F)∧Hid (∀ j,j<n→okL (G j).p=true∧(G j).p.length≠0)) (fun vi _=>n - (intOf vi).toNat)
 case atStart=>exact ⟨1,F,Nat.le_refl _,.inr rfl,rfl,⟨rfl,rfl,rfl,Nat.le_refl _,fun _ _ _=>rfl⟩,HH.out,rfl,HOK.out⟩
 case round=>
  obtain ⟨i,G,hi1,hin,rfl,hg,hG,HS,HGO⟩:=hrel
  by_cases hlt:i<n
  ·have hil:(i:Int)<(n:Int):=by omega
   have HG1:=Hid.mk' hg
   have HG2:=Hid.mk' hG
   obtain ⟨wo,hwo⟩:∃ x,x=wr:=⟨_,rfl⟩
   subst hwo
   clear hg hG
   go_wp2
   go_loopw [9] (fun vj w'=>∃ (j:Nat) (K:Nat→E),j≤i∧vj=.int .i64 (j:Int)∧w.grownBy w' (some g)∧RwE g w' n K∧Hid (dwnE (ltE o) j K=dwnE (ltE o) i G)∧Hid (∀ j,j<n→okL (K j).p=true∧(K j).p.length≠0)) (fun vj _=>(intOf vj).toNat)
   case atStart=>exact ⟨i,G,Nat.le_refl _,rfl,HG1.out,HG2.out,rfl,HGO⟩
   case round=>
    obtain ⟨j,K,hji,rfl,hgw,hK,HD,HKO⟩:=hrel
    have HGW:=Hid.mk' hgw
    have HK:=Hid.mk' hK
    have hgr:g<wr.heap.size:=hK.lt
    have hout:dwnE (ltE o) j K=K→Hid (sndE (ltE o) (n - (i+1)) (i+1) K=sndE (ltE o) (n - 1) 1 F):=fun q=>by
     show _=_
     rw [← HS.out,show n - i=(n - (i+1))+1 by omega]
     show sndE (ltE o) (n - (i+1)) (i+1) K=sndE (ltE o) (n - (i+1)) (i+1) (dwnE (ltE o) i G)
     rw [← HD.out,q]
    have HOUT:=Hid.mk' hout
    clear hgw hK hout
    by_cases hj0:0<j
    ·obtain ⟨p,rfl⟩:∃ p,j=p+1:=⟨j - 1,by omega⟩
     have hp0:(0:Int)<(p:Int)+1:=by omega
     have hp1:(p:Int)+1<(n:Int):=by omega
     have hp2:(p:Int)<(n:Int):=by omega
     have hp3:(0:Int)≤(p:Int)+1:=by omega
     have hwp:IntKind.i64.wrap (p:Int)=(p:Int):=by rw [IntKind.wrap_i64];omega
     have e0:((p:Int)+1).toNat=p+1:=by omega
     have hpn:p+1<n:=by omega
     have ne:=Ext.there wr
     obtain ⟨x,hx⟩:∃ x,K (p+1)=x:=⟨_,rfl⟩
     obtain ⟨y,hy⟩:∃ y,K p=y:=⟨_,rfl⟩
     have c1:=HK.out.cell hpn
     have c2:=HK.out.cell (show p<n by omega)
     rw [hx] at c1
     rw [hy] at c2
     have s1:∀ u:Ext wr,u.1.cell? ⟨g,p+1,none⟩=some (.slice x.a x.p.length x.c):=fun u=>(u.cell hgr).trans c1
     have s2:∀ u:Ext wr,u.1.cell? ⟨g,p,none⟩=some (.slice y.a y.p.length y.c):=fun u=>(u.cell hgr).trans c2
     obtain ⟨q,hq⟩:∃ q,CmpE o x y=q:=⟨_,rfl⟩
     have hqi:q<0 ↔ rkW o (ldL o x.p).m<rkW o (ldL o y.p).m:=by
      rw [← hq,← hx,← hy]
      exact ord_lt ho (ldL_ok (HKO.out _ hpn)) (ldL_ok (HKO.out _ (by omega)))
     have HQI:=Hid.mk' hqi
     clear hqi
     have hcall:∀ u:Ext wr,Calls Tryz.prog 48 #[.int .i64 o,.slice x.a x.p.length x.c,.slice y.a y.p.length y.c] u.1 fun r w'=>r=.returned (.int .i64 q)∧Below u.1.heap.size u.1 w':=fun u=>by
      have r1:=(HK.out.el (p+1) hpn).1
      have r2:=(HK.out.el p (by omega)).1
      have o1:=HKO.out (p+1) hpn
      have o2:=HKO.out p (by omega)
      rw [hx] at r1 o1
      rw [hy] at r2 o2
      have:=idlCmpI u.1 o x.a y.a x.c y.c x.p y.p (Rd.below r1 u.2) (Rd.below r2 u.2) ho o1 o2
      rw [show M.ord o (ldL o x.p).m (ldL o y.p).m=q from hq] at this
      exact this
     have eg:=eg_cmp
     have HQ:=Hid.mk' hq
     have HX:=Hid.mk' hx
     have HY:=Hid.mk' hy
     clear c1 c2 hq hx hy
     by_cases hlq:q<0
     ·have HLT:Hid (ltE o (K (p+1)) (K p)=true):=by show _=_;rw [HX.out,HY.out];exact decide_eq_true (HQI.out.1 hlq)
      have hdq:decide (q<0)=true:=decide_eq_true hlq
      go_wp2_with fail
      refine wp_region_ext (by kernel_rfl) (by kernel_rfl) ?_
      repeat (go_big_quiet_step (first | (go_at_fn 48;exact ext_grows (hcall _)) | fail))
      refine wpQuiet_nil ?_
      rintro _ ⟨v,rfl⟩
      have HKV:=Hid.mk' (HK.out.below v.2)
      have HGV:=Hid.mk' (HGW.out.trans (belowG v.2 (some g)))
      obtain ⟨u,hu⟩:∃ u,v.1=u:=⟨_,rfl⟩
      rw [hu] at HKV HGV ⊢
      clear hu s1 s2 ne hcall v
      have d1:=HKV.out.cell hpn
      have d2:=HKV.out.cell (show p<n by omega)
      rw [HX.out] at d1
      rw [HY.out] at d2
      have f1:u.frozen? ⟨g,p+1,none⟩=false:=HKV.out.frozen _
      have f2:u.frozen? ⟨g,p,none⟩=false:=HKV.out.frozen _
      have z1:u.cell? ⟨g,p+1,none⟩=some (.slice x.a x.p.length x.c):=d1
      have z2:u.cell? ⟨g,p,none⟩=some (.slice y.a y.p.length y.c):=d2
      have HSW:=Hid.mk' ((HKV.out.below (Below.refl _ _).drew).swp hpn)
      rw [HX.out,HY.out] at HSW
      have HNX:Hid (dwnE (ltE o) p (swpE K p)=dwnE (ltE o) i G):=by show _=_;rw [← HD.out,dwn_go HLT.out]
      have HKO2:Hid (∀ j,j<n→okL (swpE K p j).p=true∧(swpE K p j).p.length≠0):=fun j hj=>by
       unfold swpE
       split
       ·exact HKO.out _ hpn
       ·split
        ·exact HKO.out _ (by omega)
        ·exact HKO.out _ hj
      have HG3:Hid (w.grownBy ((u.drew.setCell ⟨g,p+1,none⟩ y.v).setCell ⟨g,p,none⟩ x.v) (some g)):=⟨HGV.out.os,HGV.out.tape,HGV.out.output,by have:=HGV.out.size;simpa using this,fun k hk hne=>by
       rw [Below.heap_setCell _ _ _ _ (fun q=>hne (by rw [q])),Below.heap_setCell _ _ _ _ (fun q=>hne (by rw [q]))]
       exact HGV.out.block k hk hne⟩
      clear d1 d2
      go_wp2_with fail
      obtain ⟨j1,hj1⟩:∃ j1,j1=p+1:=⟨_,rfl⟩
      rw [← hj1] at z1 f1 e0 HG3 HSW
      have hj1n:(j1:Int)<(n:Int):=by omega
      have J1:=Hid.mk' hj1
      clear hj1
      have mixed:Tryz.prog.follows Departure.mixedOrders=true:=by kernel_rfl
      go_big_region_o
      all_goals go_wp2
      go_roundw
      case rel=>exact ⟨p,swpE K p,by omega,by first | rfl | go_num | (congr 1;omega),HG3.out,HSW.out,HNX,HKO2⟩
      case measure=>first | (simp [intOf];done) | (simp [intOf];omega)
     ·have HLT:Hid (ltE o (K (p+1)) (K p)=false):=by show _=_;rw [HX.out,HY.out];exact decide_eq_false (fun q'=>hlq (HQI.out.2 q'))
      have hdq:decide (q<0)=false:=decide_eq_false hlq
      have HF:=Hid.mk' (HOUT.out (dwn_no HLT.out))
      go_wp2_with fail
      refine wp_region_ext (by kernel_rfl) (by kernel_rfl) ?_
      repeat (go_big_quiet_step (first | (go_at_fn 48;exact ext_grows (hcall _)) | fail))
      refine wpQuiet_nil ?_
      rintro _ ⟨v,rfl⟩
      have HKV:=Hid.mk' (HK.out.below v.2)
      have HGV:=Hid.mk' (HGW.out.trans (belowG v.2 (some g)))
      obtain ⟨u,hu⟩:∃ u,v.1=u:=⟨_,rfl⟩
      rw [hu] at HKV HGV ⊢
      clear hu s1 s2 ne hcall v
      go_wp2
      go_roundw
      case rel=>exact ⟨i+1,K,by omega,.inl (by omega),by go_num,HGV.out,HKV.out,HF.out,HKO⟩
      case measure=>simp [intOf];omega
    ·have hj00:j=0:=by omega
     subst hj00
     have HF:=Hid.mk' (HOUT.out rfl)
     have ne:=Ext.there wr
     go_wp2_with fail
     refine wp_region_ext (by kernel_rfl) (by kernel_rfl) ?_
     repeat (go_big_quiet_step (fail))
     refine wpQuiet_nil ?_
     rintro _ ⟨v,rfl⟩
     have HKV:=Hid.mk' (HK.out.below v.2)
     have HGV:=Hid.mk' (HGW.out.trans (belowG v.2 (some g)))
     obtain ⟨u,hu⟩:∃ u,v.1=u:=⟨_,rfl⟩
     rw [hu] at HKV HGV ⊢
     clear hu ne v
     go_wp2
     go_roundw
     case rel=>exact ⟨i+1,K,by omega,.inl (by omega),by go_num,HGV.out,HKV.out,HF.out,HKO⟩
     case measure=>simp [intOf];omega
  ·have hil:¬ (i:Int)<(n:Int):=by omega
   have HE:Hid (G=sndE (ltE o) (n - 1) 1 F):=by show _=_;rw [← HS.out,show n - i=0 by omega];rfl
   have HG1:=Hid.mk' hg
   have HG2:=Hid.mk' hG
   clear hg hG
   go_wp2
   go_end0
   rw [← HE.out]
   exact ⟨rfl,HG1.out,HG2.out⟩
set_option maxRecDepth 100000 in
set_option maxHeartbeats 4000000 in
theorem stableI (w:World) (o:Int) (g n cap:Nat) (F:Nat→E) (ho:1≤o∧o≤3) (h:RwE g w n F) (hn:n≤12) (hok:∀ j,j<n→okL (F j).p=true∧(F j).p.length≠0) :
  Calls Tryz.prog 92 #[.slice (some ⟨g,0,none⟩) n cap,.int .i64 (n:Int),.func (.func 48) #[.int .i64 o] #[]] w fun r w'=>r=.returned (.tuple #[])∧w.grownBy w' (some g)∧RwE g w' n (sndE (ltE o) (n - 1) 1 F):=by
 have hnI:(n:Int)≤12:=by omega
 have HC:=Hid.mk' (insI w o g n cap F ho h hn hok)
 have h20:¬ (20:Int)≤(n:Int):=by omega
 have h21:¬ (20:Int)<(n:Int):=by omega
 clear h hok
 go_enter Tryz.func92,Tryz.ntmps92
 go_wp2
 go_loopw [7,8] (fun v v' wr=>v=.int .i64 0∧v'=.int .i64 20∧wr=w) (fun _ _ _=>0)
 case atStart=>exact ⟨rfl,rfl,rfl⟩
 case round=>
  obtain ⟨rfl,rfl,rfl⟩:=hrel
  go_wp2_with fail
  refine HC.out.mono ?_
  rintro r w1 ⟨rfl,hg,hr⟩
  have HG:=Hid.mk' hg
  have HR:=Hid.mk' hr
  clear hg hr HC
  go_wp2
  go_loopw [6] (fun v w'=>v=.int .i64 20∧w'=w1) (fun _ _=>0)
  case atStart=>exact ⟨rfl,rfl⟩
  case round=>
   obtain ⟨rfl,rfl⟩:=hrel
   go_wp2
   go_end0
   exact ⟨rfl,HG.out,HR.out⟩
set_option maxRecDepth 100000 in
set_option maxHeartbeats 4000000 in
theorem sortStI (w:World) (o:Int) (g n cap:Nat) (F:Nat→E) (ho:1≤o∧o≤3) (h:RwE g w n F) (hn:n≤12) (hok:∀ j,j<n→okL (F j).p=true∧(F j).p.length≠0) :
  Calls Tryz.prog 47 #[.slice (some ⟨g,0,none⟩) n cap,.func (.func 48) #[.int .i64 o] #[]] w fun r w'=>r=.returned (.tuple #[])∧w.grownBy w' (some g)∧RwE g w' n (sndE (ltE o) (n - 1) 1 F):=by
 have HC:=Hid.mk' (stableI w o g n cap F ho h hn hok)
 clear h hok
 go_enter Tryz.func47,Tryz.ntmps47
 go_wp2_with fail
 refine HC.out.mono ?_
 rintro r w1 ⟨rfl,hg,hr⟩
 have HG:=Hid.mk' hg
 have HR:=Hid.mk' hr
 clear hg hr HC
 go_wp2
 go_end0
 exact ⟨rfl,HG.out,HR.out⟩
set_option maxRecDepth 100000 in
set_option maxHeartbeats 4000000 in
theorem stableI0 (w:World) (o:Int) (fv:Value):Calls Tryz.prog 92 #[.slice none 0 0,.int .i64 0,fv] w fun r w'=>r=.returned (.tuple #[])∧w'=w:=by
 have h1:Calls Tryz.prog 132 #[.slice none 0 0,.int .i64 0,.int .i64 0,fv] w fun r w'=>r=.returned (.tuple #[])∧w'=w:=by
  go_enter Tryz.func132,Tryz.ntmps132
  go_wp2
  go_loopw [8] (fun v wr=>v=.int .i64 1∧wr=w) (fun _ _=>0)
  case atStart=>exact ⟨rfl,rfl⟩
  case round=>
   obtain ⟨rfl,rfl⟩:=hrel
   go_wp2
   go_end0
   exact ⟨rfl,rfl⟩
 have HC:=Hid.mk' h1
 clear h1
 go_enter Tryz.func92,Tryz.ntmps92
 go_wp2
 go_loopw [7,8] (fun v v' wr=>v=.int .i64 0∧v'=.int .i64 20∧wr=w) (fun _ _ _=>0)
 case atStart=>exact ⟨rfl,rfl,rfl⟩
 case round=>
  obtain ⟨rfl,rfl,rfl⟩:=hrel
  go_wp2_with fail
  refine HC.out.mono ?_
  rintro r w1 ⟨rfl,hw1⟩
  obtain rfl:=hw1.symm
  clear hw1
  go_wp2
  obtain ⟨W0,hW0⟩:∃ x,x=wr:=⟨_,rfl⟩
  go_loopw [6] (fun v w'=>v=.int .i64 20∧w'=W0) (fun _ _=>0)
  case atStart=>exact ⟨rfl,hW0.symm⟩
  case round=>
   obtain ⟨rfl,rfl⟩:=hrel
   go_wp2
   go_end0
   exact ⟨rfl,by first | rfl | exact hW0 | exact hW0.symm⟩
set_option maxRecDepth 100000 in
theorem sortStI0 (w:World) (o:Int) (fv:Value):Calls Tryz.prog 47 #[.slice none 0 0,fv] w fun r w'=>r=.returned (.tuple #[])∧w'=w:=by
 have HC:=Hid.mk' (stableI0 w o fv)
 go_enter Tryz.func47,Tryz.ntmps47
 go_wp2_with fail
 refine HC.out.mono ?_
 rintro r w1 ⟨rfl,hw1⟩
 obtain rfl:=hw1.symm
 clear hw1
 go_wp2
 go_end0
 exact ⟨rfl,rfl⟩
theorem insN_snoc {α:Type} {lt:α→α→Bool} {x y:α}:∀ {l:List α},(∀ z∈l,lt x z=true→lt x y=true)→insN lt x (l ++ [y])=if lt x y=true then insN lt x l ++ [y] else l ++ [y,x]
 | [],_=>by
  show (if lt x y=true then [x,y] else [y,x])=_
  rfl
 | z :: r,h=>by
  have ih:=insN_snoc (lt:=lt) (x:=x) (y:=y) (l:=r) (fun z hz=>h z (List.mem_cons_of_mem _ hz))
  show (if lt x z=true then x :: z :: (r ++ [y]) else z :: insN lt x (r ++ [y]))=if lt x y=true then (if lt x z=true then x :: z :: r else z :: insN lt x r) ++ [y] else z :: (r ++ [y,x])
  by_cases e1:lt x z=true
  ·rw [if_pos e1,if_pos (h z (List.mem_cons_self ..) e1),if_pos e1];rfl
  ·rw [if_neg e1,if_neg e1,ih]
   by_cases e2:lt x y=true
   ·rw [if_pos e2,if_pos e2];rfl
   ·rw [if_neg e2,if_neg e2]
end Go.Proofs.YtdidlcjhodejjaaGreat
namespace Go.Proofs.YtdidlcjhodejjaaGreat
open Go.RowKit Go.Deep Go.Joins
set_option linter.unusedVariables false
def preE (F:Nat→E) (n:Nat):List E:=(List.range n).map F
theorem preE_len (F:Nat→E) (n:Nat):(preE F n).length=n:=by simp [preE]
theorem preE_snoc (F:Nat→E) (n:Nat):preE F (n+1)=preE F n ++ [F n]:=by simp [preE,List.range_succ]
theorem preE_congr {F G:Nat→E} {n:Nat} (h:∀ i,i<n→F i=G i):preE F n=preE G n:=List.map_congr_left fun i hi=>h i (by simpa using hi)
theorem preE_at (F:Nat→E) {n i:Nat} (h:i<n):(preE F n).getD i E0=F i:=by
 rw [List.getD_eq_getElem?_getD]
 simp [preE,h]
def Rise (o:Int) (l:List E):Prop:=l.Pairwise (fun a b=>ltE o b a=false)
theorem ltE_iff {o:Int} {a b:E}:ltE o a b=true ↔ rkW o (ldL o a.p).m<rkW o (ldL o b.p).m:=by unfold ltE ltO;exact decide_eq_true_iff
theorem ltE_not {o:Int} {a b:E}:ltE o a b=false ↔ rkW o (ldL o b.p).m≤rkW o (ldL o a.p).m:=by
 unfold ltE ltO
 rw [decide_eq_false_iff_not]
 omega
theorem insN_rise {o:Int} {x:E}:∀ {l:List E},Rise o l→Rise o (insN (ltE o) x l)
 | [],_=>List.pairwise_singleton _ _
 | y :: r,h=>by
  obtain ⟨h1,h2⟩:=List.pairwise_cons.1 h
  show Rise o (if ltE o x y=true then x :: y :: r else y :: insN (ltE o) x r)
  by_cases e:ltE o x y=true
  ·rw [if_pos e]
   refine List.pairwise_cons.2 ⟨fun z hz=>?_,h⟩
   have e':=ltE_iff.1 e
   rcases List.mem_cons.1 hz with rfl | hz
   ·exact ltE_not.2 (by omega)
   ·have:=ltE_not.1 (h1 z hz)
    exact ltE_not.2 (by omega)
  ·rw [if_neg e]
   refine List.pairwise_cons.2 ⟨fun z hz=>?_,insN_rise h2⟩
   rcases insN_mem.1 hz with rfl | hz
   ·cases q:ltE o z y
    ·rfl
    ·exact absurd q e
   ·exact h1 z hz
theorem dwn_keep {o:Int}:∀ {j:Nat} {F:Nat→E} {t:Nat},j<t→dwnE (ltE o) j F t=F t
 | 0,F,t,h=>rfl
 | j+1,F,t,h=>by
  cases e:ltE o (F (j+1)) (F j)
  ·rw [dwn_no e]
  ·rw [dwn_go e,dwn_keep (by omega)]
   unfold swpE
   rw [if_neg (by omega),if_neg (by omega)]
theorem dwn_ins {o:Int}:∀ {j:Nat} {F:Nat→E},Rise o (preE F j)→preE (dwnE (ltE o) j F) (j+1)=insN (ltE o) (F j) (preE F j)
 | 0,F,h=>rfl
 | j+1,F,h=>by
  have hs:=preE_snoc F j
  rw [hs] at h ⊢
  obtain ⟨h1,_,h3⟩:=List.pairwise_append.1 h
  have key:∀ z∈preE F j,ltE o (F (j+1)) z=true→ltE o (F (j+1)) (F j)=true:=fun z hz q=>by
   have q1:=ltE_iff.1 q
   have q2:=ltE_not.1 (h3 z hz (F j) (List.mem_singleton.2 rfl))
   exact ltE_iff.2 (by omega)
  rw [insN_snoc key]
  cases e:ltE o (F (j+1)) (F j)
  ·rw [dwn_no e,preE_snoc,preE_snoc]
   simp
  ·rw [dwn_go e,preE_snoc,dwn_ins (F:=swpE F j) (by rw [preE_congr (G:=F) (fun i hi=>by unfold swpE;rw [if_neg (by omega),if_neg (by omega)])];exact h1),dwn_keep (by omega)]
   rw [if_pos rfl,preE_congr (F:=swpE F j) (G:=F) (fun i hi=>by unfold swpE;rw [if_neg (by omega),if_neg (by omega)])]
   have e1:swpE F j j=F (j+1):=by unfold swpE;rw [if_pos rfl]
   have e2:swpE F j (j+1)=F j:=by unfold swpE;rw [if_neg (by omega),if_pos rfl]
   rw [e1,e2]
theorem snd_srt {o:Int}:∀ {u i:Nat} {F:Nat→E},Rise o (preE F i)→preE (sndE (ltE o) u i F) (i+u)=srtN (ltE o) (preE F i) ((List.range u).map (fun t=>F (i+t)))
 | 0,i,F,h=>rfl
 | u+1,i,F,h=>by
  have h1:=dwn_ins h
  have h2:Rise o (preE (dwnE (ltE o) i F) (i+1)):=by rw [h1];exact insN_rise h
  have ih:=snd_srt (u:=u) (i:=i+1) (F:=dwnE (ltE o) i F) h2
  show preE (sndE (ltE o) u (i+1) (dwnE (ltE o) i F)) (i+(u+1))=_
  rw [show i+(u+1)=i+1+u by omega,ih,h1,List.range_succ_eq_map,List.map_cons,List.map_map]
  show _=srtN (ltE o) (insN (ltE o) (F i) (preE F i)) _
  congr 1
  refine List.map_congr_left fun t _=>?_
  show dwnE (ltE o) i F (i+1+t)=F (i+(t+1))
  rw [dwn_keep (by omega),show i+1+t=i+(t+1) by omega]
theorem snd_all (o:Int) (n:Nat) (F:Nat→E):preE (sndE (ltE o) (n - 1) 1 F) n=srtN (ltE o) [] (preE F n):=by
 cases n with
 | zero=>rfl
 | succ n=>
  have h:=snd_srt (o:=o) (u:=n) (i:=1) (F:=F) (by rw [show preE F 1=[F 0] from rfl];exact List.pairwise_singleton _ _)
  rw [show n+1 - 1=n from rfl,show n+1=1+n by omega,h]
  show srtN (ltE o) [F 0] _=srtN (ltE o) [] (preE F (1+n))
  unfold preE
  rw [show 1+n=n+1 by omega,List.range_succ_eq_map,List.map_cons,List.map_map]
  show _=srtN (ltE o) [F 0] _
  congr 1
  refine List.map_congr_left fun t _=>?_
  show F (1+t)=F (t+1)
  rw [Nat.add_comm]
end Go.Proofs.YtdidlcjhodejjaaGreat
