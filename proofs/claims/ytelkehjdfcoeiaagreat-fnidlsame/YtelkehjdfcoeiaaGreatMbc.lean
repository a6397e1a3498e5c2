/-
  The program's least basis: operators are put in order where they stand (slices.SortStableFunc of at most twelve).
-/
import Derived.Test.YtelkehjdfcoeiaaGreatMbb
import Derived.Shelf.RegionOpenPlain
import Derived.Lib.AppendZeros
set_option maxHeartbeats 8000000
set_option maxRecDepth 100000
namespace Go.Proofs.YtelkehjdfcoeiaaGreat
open Go.RowKit Go.Deep Go.Joins
set_option linter.unusedVariables false
structure uL (g:Nat) (w:World) (n:Nat) (F:Nat→E):Prop where
 row:∃N,n≤N∧∃V:Nat→Value,w.rowIs g 41 N V∧∀j,j<n→V j=(F j).v
 el:∀j,j<n→lW w (some g) (F j)
theorem uL.lt {g:Nat} {w:World} {n:Nat} {F:Nat→E} (h:uL g w n F):g<w.heap.size:=by obtain⟨N,hN,V,h1,h2⟩:=h.row;exact h1.lt
theorem uL.cell {g:Nat} {w:World} {n:Nat} {F:Nat→E} (h:uL g w n F) {j:Nat} (hj:j<n):w.cell? ⟨g,j,none⟩=some (F j).v:=by obtain⟨N,hN,V,h1,h2⟩:=h.row;rw[h1.cell (by omega),h2 j hj]
theorem uL.frozen {g:Nat} {w:World} {n:Nat} {F:Nat→E} (h:uL g w n F) (j:Nat):w.frozen? ⟨g,j,none⟩=false:=by obtain⟨N,hN,V,h1,h2⟩:=h.row;exact h1.frozen j
theorem uL.below {g:Nat} {w w':World} {n:Nat} {F:Nat→E} (h:uL g w n F) (hb:Below w.heap.size w w'):uL g w' n F where
 row:=by obtain⟨N,hN,V,h1,h2⟩:=h.row;exact⟨N,hN,V,h1.of_block (hb.block g h1.lt),h2⟩
 el:=fun j hj=>(h.el j hj).below hb
theorem uL.set {g:Nat} {w:World} {n:Nat} {F:Nat→E} (h:uL g w n F) {i:Nat} {e:E} (he:lW w (some g) e):uL g (w.setCell ⟨g,i,none⟩ e.v) n (fun j=>if j=i then e else F j) where
 row:=by
  obtain⟨N,hN,V,h1,h2⟩:=h.row;refine⟨N,hN,fun j=>if j=i then e.v else V j,h1.set _ _,fun j hj=>?_⟩;by_cases q:j=i
  ·simp[q]
  ·simp[q,h2 j hj]
 el:=fun j hj=>by
  have hg:w.grownBy (w.setCell ⟨g,i,none⟩ e.v) (some g):=⟨rfl,rfl,rfl,by simp,fun k hk hne=>Below.heap_setCell _ _ _ _ (fun q=>hne (by rw[q]))⟩
  by_cases q:j=i
  ·simp only[if_pos q];exact he.grown hg
  ·simp only[if_neg q];exact(h.el j hj).grown hg
theorem uL.congr {g:Nat} {w:World} {n:Nat} {F G:Nat→E} (h:uL g w n F) (e:∀j,j<n→F j=G j):uL g w n G where
 row:=by obtain⟨N,hN,V,h1,h2⟩:=h.row;exact⟨N,hN,V,h1,fun j hj=>by rw[h2 j hj,e j hj]⟩
 el:=fun j hj=>by rw[←e j hj];exact h.el j hj
def qV (F:Nat→E) (j:Nat) (t:Nat):E:=if t=j then F (j+1)else if t=j+1 then F j else F t
theorem uL.swp {g:Nat} {w:World} {n:Nat} {F:Nat→E} (h:uL g w n F) {j:Nat} (hj:j+1<n):uL g ((w.setCell ⟨g,j+1,none⟩ (F j).v).setCell ⟨g,j,none⟩ (F (j+1)).v) n (qV F j):=by
 have h1:=h.set (i:=j+1) (h.el j (by omega));have hg:w.grownBy (w.setCell ⟨g,j+1,none⟩ (F j).v) (some g):=⟨rfl,rfl,rfl,by simp,fun k hk hne=>Below.heap_setCell _ _ _ _ (fun q=>hne (by rw[q]))⟩
 have h2:=h1.set (i:=j) (e:=F (j+1)) ((h.el (j+1) hj).grown hg);refine h2.congr fun t ht=>?_;unfold qV;by_cases e1:t=j
 ·simp[e1]
 ·by_cases e2:t=j+1
  ·simp[e2]
  ·simp[e1,e2]
def rG (lt:E→E→Bool):Nat→(Nat→E)→(Nat→E)
 |0,F=>F
 |j+1,F=>if lt (F (j+1)) (F j)=true then rG lt j (qV F j)else F
def sZ (lt:E→E→Bool):Nat→Nat→(Nat→E)→(Nat→E)
 |0,_,F=>F
 |u+1,i,F=>sZ lt u (i+1) (rG lt i F)
theorem OJ {lt:E→E→Bool} {j:Nat} {F:Nat→E} (h:lt (F (j+1)) (F j)=true):rG lt (j+1) F=rG lt j (qV F j):=if_pos h
theorem OK {lt:E→E→Bool} {j:Nat} {F:Nat→E} (h:lt (F (j+1)) (F j)=false):rG lt (j+1) F=F:=if_neg (by rw[h];simp)
def Nw (o:Int) (e e':E):Int:=M.ord o (aU o e.p).m (aU o e'.p).m
def jC (o:Int) (e e':E):Bool:=RE o e.p e'.p
theorem Iz:∀args w,(callFunc 86 args).run Tryz.prog w= .ok (.enter 86 args) w:=enters_of Tryz.func86 (by kernel_rfl) rfl
theorem Of (w:World) (o:Int) (g n cap:Nat) (F:Nat→E) (ho:1≤o∧o≤3) (h:uL g w n F) (hn:n≤12) (hok:∀j,j<n→cF (F j).p=true∧(F j).p.length≠0):Calls Tryz.prog 161 #[.slice (some ⟨g,0,none⟩) n cap,.int .i64 0,.int .i64 (n:Int),.func (.func 86) #[.int .i64 o] #[]] w fun r w'=>r= .returned (.tuple #[])∧w.grownBy w' (some g)∧uL g w' n (sZ (jC o) (n-1) 1 F):=by
 have hnI:(n:Int)≤12:=by omega
 have HH:=aA h;have HOK:=aA hok
 have hgl:=h.lt;clear h hok;go_enter Tryz.func161,Tryz.ntmps161;go_wp2;go_loopw [8] (fun vi wr=>∃(i:Nat) (G:Nat→E),1≤i∧(i≤n∨i=1)∧vi= .int .i64 (i:Int)∧w.grownBy wr (some g)∧uL g wr n G∧Hid (sZ (jC o) (n-i) i G=sZ (jC o) (n-1) 1 F)∧Hid (∀j,j<n→cF (G j).p=true∧(G j).p.length≠0)) (fun vi _=>n-(intOf vi).toNat);case atStart=>exact⟨1,F,Nat.le_refl _,.inr rfl,rfl,⟨rfl,rfl,rfl,Nat.le_refl _,fun _ _ _=>rfl⟩,HH.out,rfl,HOK.out⟩
 case round=>
  obtain⟨i,G,hi1,hin,rfl,hg,hG,HS,HGO⟩:=hrel;by_cases hlt:i<n
  ·have hil:(i:Int)<(n:Int):=by omega
   have HG1:=aA hg;have HG2:=aA hG
   obtain⟨wo,hwo⟩:∃x,x=wr:=⟨_,rfl⟩
   subst hwo;clear hg hG;go_wp2;go_loopw [9] (fun vj w'=>∃(j:Nat) (K:Nat→E),j≤i∧vj= .int .i64 (j:Int)∧w.grownBy w' (some g)∧uL g w' n K∧Hid (rG (jC o) j K=rG (jC o) i G)∧Hid (∀j,j<n→cF (K j).p=true∧(K j).p.length≠0)) (fun vj _=>(intOf vj).toNat);case atStart=>exact⟨i,G,Nat.le_refl _,rfl,HG1.out,HG2.out,rfl,HGO⟩
   case round=>
    obtain⟨j,K,hji,rfl,hgw,hK,HD,HKO⟩:=hrel;have HGW:=aA hgw
    have HK:=aA hK;have hgr:g<wr.heap.size:=hK.lt
    have hout:rG (jC o) j K=K→Hid (sZ (jC o) (n-(i+1)) (i+1) K=sZ (jC o) (n-1) 1 F):=fun q=>by
     show _=_;rw[←HS.out,show n-i=(n-(i+1))+1 by omega];show sZ (jC o) (n-(i+1)) (i+1) K=sZ (jC o) (n-(i+1)) (i+1) (rG (jC o) i G)
     rw[←HD.out,q]
    have HOUT:=aA hout;clear hgw hK hout;by_cases hj0:0<j
    ·obtain⟨p,rfl⟩:∃p,j=p+1:=⟨j-1,by omega⟩
     have hp0:(0:Int)<(p:Int)+1:=by omega
     have hp1:(p:Int)+1<(n:Int):=by omega
     have hp2:(p:Int)<(n:Int):=by omega
     have hp3:(0:Int)≤(p:Int)+1:=by omega
     have hwp:IntKind.i64.wrap (p:Int)=(p:Int):=by rw[IntKind.wrap_i64];omega
     have e0:((p:Int)+1).toNat=p+1:=by omega
     have hpn:p+1<n:=by omega
     have ne:=bZ.there wr;obtain⟨x,hx⟩:∃x,K (p+1)=x:=⟨_,rfl⟩
     obtain⟨y,hy⟩:∃y,K p=y:=⟨_,rfl⟩
     have c1:=HK.out.cell hpn;have c2:=HK.out.cell (show p<n by omega)
     rw[hx]at c1;rw[hy]at c2;have s1:∀u:bZ wr,u.1.cell? ⟨g,p+1,none⟩=some (.slice x.a x.p.length x.c):=fun u=>(u.cell hgr).trans c1
     have s2:∀u:bZ wr,u.1.cell? ⟨g,p,none⟩=some (.slice y.a y.p.length y.c):=fun u=>(u.cell hgr).trans c2;obtain⟨q,hq⟩:∃q,Nw o x y=q:=⟨_,rfl⟩
     have hqi:q<0↔eO o (aU o x.p).m<eO o (aU o y.p).m:=by rw[←hq,←hx,←hy];exact Ad ho (kS (HKO.out _ hpn)) (kS (HKO.out _ (by omega)))
     have HQI:=aA hqi;clear hqi;have hcall:∀u:bZ wr,Calls Tryz.prog 86 #[.int .i64 o,.slice x.a x.p.length x.c,.slice y.a y.p.length y.c] u.1 fun r w'=>r= .returned (.int .i64 q)∧Below u.1.heap.size u.1 w':=fun u=>by
      have r1:=(HK.out.el (p+1) hpn).1;have r2:=(HK.out.el p (by omega)).1
      have o1:=HKO.out (p+1) hpn;have o2:=HKO.out p (by omega)
      rw[hx]at r1 o1;rw[hy]at r2 o2;have:=Fa u.1 o x.a y.a x.c y.c x.p y.p (Rd.below r1 u.2) (Rd.below r2 u.2) ho o1 o2
      rw[show M.ord o (aU o x.p).m (aU o y.p).m=q from hq]at this;exact this
     have eg:=Iz;have HQ:=aA hq
     have HX:=aA hx;have HY:=aA hy
     clear c1 c2 hq hx hy;by_cases hlq:q<0
     ·have HLT:Hid (jC o (K (p+1)) (K p)=true):=by show _=_;rw[HX.out,HY.out];exact decide_eq_true (HQI.out.1 hlq)
      have hdq:decide (q<0)=true:=decide_eq_true hlq;go_wp2_with fail;refine aG (by kernel_rfl) (by kernel_rfl) ?_;repeat(go_big_quiet_step (first|(go_at_fn 86;exact aJ (hcall _))|fail))
      refine wpQuiet_nil ?_;rintro _ ⟨v,rfl⟩;have HKV:=aA (HK.out.below v.2)
      have HGV:=aA (HGW.out.trans (AF v.2 (some g)));obtain⟨u,hu⟩:∃u,v.1=u:=⟨_,rfl⟩
      rw[hu]at HKV HGV⊢;clear hu s1 s2 ne hcall v;have d1:=HKV.out.cell hpn
      have d2:=HKV.out.cell (show p<n by omega);rw[HX.out]at d1;rw[HY.out]at d2;have f1:u.frozen? ⟨g,p+1,none⟩=false:=HKV.out.frozen _
      have f2:u.frozen? ⟨g,p,none⟩=false:=HKV.out.frozen _;have z1:u.cell? ⟨g,p+1,none⟩=some (.slice x.a x.p.length x.c):=d1
      have z2:u.cell? ⟨g,p,none⟩=some (.slice y.a y.p.length y.c):=d2;have HSW:=aA ((HKV.out.below (bG _ _).drew).swp hpn)
      rw[HX.out,HY.out]at HSW;have HNX:Hid (rG (jC o) p (qV K p)=rG (jC o) i G):=by show _=_;rw[←HD.out,OJ HLT.out]
      have HKO2:Hid (∀j,j<n→cF (qV K p j).p=true∧(qV K p j).p.length≠0):=fun j hj=>by
       unfold qV;split
       ·exact HKO.out _ hpn
       ·split
        ·exact HKO.out _ (by omega)
        ·exact HKO.out _ hj
      have HG3:Hid (w.grownBy ((u.drew.setCell ⟨g,p+1,none⟩ y.v).setCell ⟨g,p,none⟩ x.v) (some g)):=⟨HGV.out.os,HGV.out.tape,HGV.out.output,by have:=HGV.out.size;simpa using this,fun k hk hne=>by
       rw[Below.heap_setCell _ _ _ _ (fun q=>hne (by rw[q])),Below.heap_setCell _ _ _ _ (fun q=>hne (by rw[q]))]
       exact HGV.out.block k hk hne⟩
      clear d1 d2;go_wp2_with fail;obtain⟨j1,hj1⟩:∃j1,j1=p+1:=⟨_,rfl⟩
      rw[←hj1]at z1 f1 e0 HG3 HSW;have hj1n:(j1:Int)<(n:Int):=by omega
      have J1:=aA hj1;clear hj1;have mixed:Tryz.prog.follows Departure.mixedOrders=true:=by kernel_rfl
      go_big_region_o
      all_goals go_wp2
      go_roundw;case rel=>exact⟨p,qV K p,by omega,by first|rfl|go_num|(congr 1;omega),HG3.out,HSW.out,HNX,HKO2⟩
      case measure=>first|(simp[intOf];done)|(simp[intOf];omega)
     ·have HLT:Hid (jC o (K (p+1)) (K p)=false):=by show _=_;rw[HX.out,HY.out];exact decide_eq_false (fun q'=>hlq (HQI.out.2 q'))
      have hdq:decide (q<0)=false:=decide_eq_false hlq;have HF:=aA (HOUT.out (OK HLT.out))
      go_wp2_with fail;refine aG (by kernel_rfl) (by kernel_rfl) ?_;repeat(go_big_quiet_step (first|(go_at_fn 86;exact aJ (hcall _))|fail))
      refine wpQuiet_nil ?_;rintro _ ⟨v,rfl⟩;have HKV:=aA (HK.out.below v.2)
      have HGV:=aA (HGW.out.trans (AF v.2 (some g)));obtain⟨u,hu⟩:∃u,v.1=u:=⟨_,rfl⟩
      rw[hu]at HKV HGV⊢;clear hu s1 s2 ne hcall v;go_wp2;go_roundw;case rel=>exact⟨i+1,K,by omega,.inl (by omega),by go_num,HGV.out,HKV.out,HF.out,HKO⟩
      case measure=>simp[intOf];omega
    ·have hj00:j=0:=by omega
     subst hj00;have HF:=aA (HOUT.out rfl)
     have ne:=bZ.there wr;go_wp2_with fail;refine aG (by kernel_rfl) (by kernel_rfl) ?_;repeat(go_big_quiet_step (fail))
     refine wpQuiet_nil ?_;rintro _ ⟨v,rfl⟩;have HKV:=aA (HK.out.below v.2)
     have HGV:=aA (HGW.out.trans (AF v.2 (some g)));obtain⟨u,hu⟩:∃u,v.1=u:=⟨_,rfl⟩
     rw[hu]at HKV HGV⊢;clear hu ne v;go_wp2;go_roundw;case rel=>exact⟨i+1,K,by omega,.inl (by omega),by go_num,HGV.out,HKV.out,HF.out,HKO⟩
     case measure=>simp[intOf];omega
  ·have hil:¬(i:Int)<(n:Int):=by omega
   have HE:Hid (G=sZ (jC o) (n-1) 1 F):=by show _=_;rw[←HS.out,show n-i=0 by omega];rfl
   have HG1:=aA hg;have HG2:=aA hG
   clear hg hG;go_wp2
   go_end0
   rw[←HE.out];exact⟨rfl,HG1.out,HG2.out⟩
theorem Hi (w:World) (o:Int) (g n cap:Nat) (F:Nat→E) (ho:1≤o∧o≤3) (h:uL g w n F) (hn:n≤12) (hok:∀j,j<n→cF (F j).p=true∧(F j).p.length≠0):Calls Tryz.prog 129 #[.slice (some ⟨g,0,none⟩) n cap,.int .i64 (n:Int),.func (.func 86) #[.int .i64 o] #[]] w fun r w'=>r= .returned (.tuple #[])∧w.grownBy w' (some g)∧uL g w' n (sZ (jC o) (n-1) 1 F):=by
 have hnI:(n:Int)≤12:=by omega
 have HC:=aA (Of w o g n cap F ho h hn hok);have h20:¬(20:Int)≤(n:Int):=by omega
 have h21:¬(20:Int)<(n:Int):=by omega
 clear h hok;go_enter Tryz.func129,Tryz.ntmps129;go_wp2;go_loopw [7,8] (fun v v' wr=>v= .int .i64 0∧v'= .int .i64 20∧wr=w) (fun _ _ _=>0);case atStart=>exact⟨rfl,rfl,rfl⟩
 case round=>
  obtain⟨rfl,rfl,rfl⟩:=hrel;go_wp2_with fail;refine HC.out.mono ?_;rintro r w1 ⟨rfl,hg,hr⟩;have HG:=aA hg
  have HR:=aA hr;clear hg hr HC;go_wp2;go_loopw [6] (fun v w'=>v= .int .i64 20∧w'=w1) (fun _ _=>0);case atStart=>exact⟨rfl,rfl⟩
  case round=>
   obtain⟨rfl,rfl⟩:=hrel;go_wp2
   go_end0
   exact⟨rfl,HG.out,HR.out⟩
theorem Hd (w:World) (o:Int) (g n cap:Nat) (F:Nat→E) (ho:1≤o∧o≤3) (h:uL g w n F) (hn:n≤12) (hok:∀j,j<n→cF (F j).p=true∧(F j).p.length≠0):Calls Tryz.prog 85 #[.slice (some ⟨g,0,none⟩) n cap,.func (.func 86) #[.int .i64 o] #[]] w fun r w'=>r= .returned (.tuple #[])∧w.grownBy w' (some g)∧uL g w' n (sZ (jC o) (n-1) 1 F):=by
 have HC:=aA (Hi w o g n cap F ho h hn hok);clear h hok;go_enter Tryz.func85,Tryz.ntmps85;go_wp2_with fail;refine HC.out.mono ?_;rintro r w1 ⟨rfl,hg,hr⟩;have HG:=aA hg
 have HR:=aA hr;clear hg hr HC;go_wp2
 go_end0
 exact⟨rfl,HG.out,HR.out⟩
theorem Cy (w:World) (o:Int) (fv:Value):Calls Tryz.prog 129 #[.slice none 0 0,.int .i64 0,fv] w fun r w'=>r= .returned (.tuple #[])∧w'=w:=by
 have h1:Calls Tryz.prog 161 #[.slice none 0 0,.int .i64 0,.int .i64 0,fv] w fun r w'=>r= .returned (.tuple #[])∧w'=w:=by
  go_enter Tryz.func161,Tryz.ntmps161;go_wp2;go_loopw [8] (fun v wr=>v= .int .i64 1∧wr=w) (fun _ _=>0);case atStart=>exact⟨rfl,rfl⟩
  case round=>
   obtain⟨rfl,rfl⟩:=hrel;go_wp2
   go_end0
   exact⟨rfl,rfl⟩
 have HC:=aA h1;clear h1;go_enter Tryz.func129,Tryz.ntmps129;go_wp2;go_loopw [7,8] (fun v v' wr=>v= .int .i64 0∧v'= .int .i64 20∧wr=w) (fun _ _ _=>0);case atStart=>exact⟨rfl,rfl,rfl⟩
 case round=>
  obtain⟨rfl,rfl,rfl⟩:=hrel;go_wp2_with fail;refine HC.out.mono ?_;rintro r w1 ⟨rfl,hw1⟩;obtain rfl:=hw1.symm;clear hw1;go_wp2;obtain⟨W0,hW0⟩:∃x,x=wr:=⟨_,rfl⟩
  go_loopw [6] (fun v w'=>v= .int .i64 20∧w'=W0) (fun _ _=>0);case atStart=>exact⟨rfl,hW0.symm⟩
  case round=>
   obtain⟨rfl,rfl⟩:=hrel;go_wp2
   go_end0
   exact⟨rfl,by first|rfl|exact hW0|exact hW0.symm⟩
theorem Cq (w:World) (o:Int) (fv:Value):Calls Tryz.prog 85 #[.slice none 0 0,fv] w fun r w'=>r= .returned (.tuple #[])∧w'=w:=by
 have HC:=aA (Cy w o fv);go_enter Tryz.func85,Tryz.ntmps85;go_wp2_with fail;refine HC.out.mono ?_;rintro r w1 ⟨rfl,hw1⟩;obtain rfl:=hw1.symm;clear hw1;go_wp2
 go_end0
 exact⟨rfl,rfl⟩
theorem EM {α:Type} {lt:α→α→Bool} {x y:α}:∀{l:List α},(∀z∈l,lt x z=true→lt x y=true)→fJ lt x (l++[y])=if lt x y=true then fJ lt x l++[y]else l++[y,x]
 |[],_=>by show(if lt x y=true then[x,y]else[y,x])=_;rfl
 |z::r,h=>by
  have ih:=EM (lt:=lt) (x:=x) (y:=y) (l:=r) (fun z hz=>h z (List.mem_cons_of_mem _ hz));show(if lt x z=true then x::z::(r++[y])else z::fJ lt x (r++[y]))=if lt x y=true then(if lt x z=true then x::z::r else z::fJ lt x r)++[y]else z::(r++[y,x])
  by_cases e1:lt x z=true
  ·rw[if_pos e1,if_pos (h z (List.mem_cons_self ..) e1),if_pos e1];rfl
  ·rw[if_neg e1,if_neg e1,ih];by_cases e2:lt x y=true
   ·rw[if_pos e2,if_pos e2];rfl
   ·rw[if_neg e2,if_neg e2]
def eI (F:Nat→E) (n:Nat):List E:=(List.range n).map F
theorem cE (F:Nat→E) (n:Nat):(eI F n).length=n:=by simp[eI]
theorem sO (F:Nat→E) (n:Nat):eI F (n+1)=eI F n++[F n]:=by simp[eI,List.range_succ]
theorem CA {F G:Nat→E} {n:Nat} (h:∀i,i<n→F i=G i):eI F n=eI G n:=List.map_congr_left fun i hi=>h i (by simpa using hi)
theorem sN (F:Nat→E) {n i:Nat} (h:i<n):(eI F n).getD i E0=F i:=by rw[List.getD_eq_getElem?_getD];simp[eI,h]
def TP (o:Int) (l:List E):Prop:=l.Pairwise (fun a b=>jC o b a=false)
theorem GQ {o:Int} {a b:E}:jC o a b=true↔eO o (aU o a.p).m<eO o (aU o b.p).m:=by unfold jC RE;exact decide_eq_true_iff
theorem zG {o:Int} {a b:E}:jC o a b=false↔eO o (aU o b.p).m≤eO o (aU o a.p).m:=by unfold jC RE;rw[decide_eq_false_iff_not];omega
theorem EL {o:Int} {x:E}:∀{l:List E},TP o l→TP o (fJ (jC o) x l)
 |[],_=>List.pairwise_singleton _ _
 |y::r,h=>by
  obtain⟨h1,h2⟩:=List.pairwise_cons.1 h;show TP o (if jC o x y=true then x::y::r else y::fJ (jC o) x r)
  by_cases e:jC o x y=true
  ·rw[if_pos e];refine List.pairwise_cons.2 ⟨fun z hz=>?_,h⟩;have e':=GQ.1 e
   rcases List.mem_cons.1 hz with rfl|hz
   ·exact zG.2 (by omega)
   ·have:=zG.1 (h1 z hz);exact zG.2 (by omega)
  ·rw[if_neg e];refine List.pairwise_cons.2 ⟨fun z hz=>?_,EL h2⟩;rcases vO.1 hz with rfl|hz
   ·cases q:jC o z y
    ·rfl
    ·exact absurd q e
   ·exact h1 z hz
theorem AL {o:Int}:∀{j:Nat} {F:Nat→E} {t:Nat},j<t→rG (jC o) j F t=F t
 |0,F,t,h=>rfl
 |j+1,F,t,h=>by
  cases e:jC o (F (j+1)) (F j)
  ·rw[OK e]
  ·rw[OJ e,AL (by omega)];unfold qV;rw[if_neg (by omega),if_neg (by omega)]
theorem QI {o:Int}:∀{j:Nat} {F:Nat→E},TP o (eI F j)→eI (rG (jC o) j F) (j+1)=fJ (jC o) (F j) (eI F j)
 |0,F,h=>rfl
 |j+1,F,h=>by
  have hs:=sO F j;rw[hs]at h⊢;obtain⟨h1,_,h3⟩:=List.pairwise_append.1 h;have key:∀z∈eI F j,jC o (F (j+1)) z=true→jC o (F (j+1)) (F j)=true:=fun z hz q=>by
   have q1:=GQ.1 q;have q2:=zG.1 (h3 z hz (F j) (List.mem_singleton.2 rfl))
   exact GQ.2 (by omega)
  rw[EM key];cases e:jC o (F (j+1)) (F j)
  ·rw[OK e,sO,sO];simp
  ·rw[OJ e,sO,QI (F:=qV F j) (by rw[CA (G:=F) (fun i hi=>by unfold qV;rw[if_neg (by omega),if_neg (by omega)])];exact h1),AL (by omega)];rw[if_pos rfl,CA (F:=qV F j) (G:=F) (fun i hi=>by unfold qV;rw[if_neg (by omega),if_neg (by omega)])];have e1:qV F j j=F (j+1):=by unfold qV;rw[if_pos rfl]
   have e2:qV F j (j+1)=F j:=by unfold qV;rw[if_neg (by omega),if_pos rfl]
   rw[e1,e2]
theorem ST {o:Int}:∀{u i:Nat} {F:Nat→E},TP o (eI F i)→eI (sZ (jC o) u i F) (i+u)=jA (jC o) (eI F i) ((List.range u).map (fun t=>F (i+t)))
 |0,i,F,h=>rfl
 |u+1,i,F,h=>by
  have h1:=QI h;have h2:TP o (eI (rG (jC o) i F) (i+1)):=by rw[h1];exact EL h
  have ih:=ST (u:=u) (i:=i+1) (F:=rG (jC o) i F) h2;show eI (sZ (jC o) u (i+1) (rG (jC o) i F)) (i+(u+1))=_
  rw[show i+(u+1)=i+1+u by omega,ih,h1,List.range_succ_eq_map,List.map_cons,List.map_map];show _=jA (jC o) (fJ (jC o) (F i) (eI F i)) _
  congr 1;refine List.map_congr_left fun t _=>?_;show rG (jC o) i F (i+1+t)=F (i+(t+1))
  rw[AL (by omega),show i+1+t=i+(t+1) by omega]
theorem Hc (o:Int) (n:Nat) (F:Nat→E):eI (sZ (jC o) (n-1) 1 F) n=jA (jC o) [] (eI F n):=by
 cases n with
 |zero=>rfl
 |succ n=>
  have h:=ST (o:=o) (u:=n) (i:=1) (F:=F) (by rw[show eI F 1=[F 0]from rfl];exact List.pairwise_singleton _ _);rw[show n+1-1=n from rfl,show n+1=1+n by omega,h];show jA (jC o) [F 0] _=jA (jC o) [] (eI F (1+n))
  unfold eI;rw[show 1+n=n+1 by omega,List.range_succ_eq_map,List.map_cons,List.map_map];show _=jA (jC o) [F 0] _
  congr 1;refine List.map_congr_left fun t _=>?_;show F (1+t)=F (t+1)
  rw[Nat.add_comm]
def GJ (o:Int):Option Dv→Option (List T)
 |some S=>if S.r.length=0 then none else some (qU o S.r)
 |none=>none
theorem ZA (o:Int) (p:List T) (oth:List (List T)):pI o p oth=GJ o (aY o p oth.length (lN (bY oth)) (fN (bY oth))):=by unfold pI GJ;cases aY o p oth.length (lN (bY oth)) (fN (bY oth))<;>rfl
theorem YL (w:World) (o:Int) (pa:Option Addr) (pc:Nat) (p:List T) (a:Option Addr) (n cap:Nat) (ad:Nat→Option Addr) (cp:Nat→Nat) (L:Nat→List T) (ho:1≤o∧o≤3) (hp:RL w pa pc p) (h:eQ w a n cap ad (lN L) cp (fN L)) {R:Option Dv} (hR:aY o p n (lN L) (fN L)=R):Calls Tryz.prog 88 #[.int .i64 o,.slice pa p.length pc,.slice a n cap] w fun r w'=>Below w.heap.size w w'∧((∃Y a' c',GJ o R=some Y∧r= .returned (.tuple #[.slice a' Y.length c',.bool true])∧jG w.heap.size w' a' c' Y)∨(GJ o R=none∧r= .returned (.tuple #[.slice none 0 0,.bool false]))):=by
 have HC:=aA (wD w o pa pc p a n cap ad (lN L) cp (fN L) hp h hR);have HL0:Hid (∀(W:World) (la:Option Addr) (lc:Nat),RL W la lc []→Calls Tryz.prog 74 #[.int .i64 o,.slice la 0 lc] W fun r w'=>r= .returned (.tuple #[.agg #[.int .i64 0,.int .i64 0,.int .i64 0,.int .i64 0,.int .i64 0],.bool false])∧Below W.heap.size W w'):=fun W la lc hW=>by
  have e1:bF o 0 (lf [])=false:=by simp[bF]
  have:=kJ W o la 0 lc (lf []) hW;rw[vU e1,e1]at this;exact this
 have hok:∀S,R=some S→cF S.r=true:=fun S e=>(jX (hR.trans e)).1;have HOK:=aA hok
 have hbd:=(Bz (o:=o) (p:=p) (n:=n) (ln:=lN L) (f:=fN L)).2.2;rw[hR]at hbd;clear hp h hR hok;have hnone:∀r:List T,wE R=r→r.length=0→GJ o R=none→Calls Tryz.prog 88 #[.int .i64 o,.slice pa p.length pc,.slice a n cap] w fun r w'=>Below w.heap.size w w'∧((∃Y a' c',GJ o R=some Y∧r= .returned (.tuple #[.slice a' Y.length c',.bool true])∧jG w.heap.size w' a' c' Y)∨(GJ o R=none∧r= .returned (.tuple #[.slice none 0 0,.bool false]))):=fun r er h0 hn=>by
  have e0:wE R=[]:=by rw[er];exact List.length_eq_zero_iff.1 h0
  have HN:=aA hn;have HE:=aA e0
  clear er h0 hn e0;go_enter Tryz.func88,Tryz.ntmps88;go_wp2_with fail;refine HC.out.mono ?_;rintro r w1 ⟨qa,qc,ad',cp',Rb,B,la,lc,mid,rfl,hb,_,hO,_⟩;have HB:=aA hb
  have hO1:=hO.1;rw[HE.out]at hO1⊢;have HO:=aA hO1
  clear hb hO hO1 HC;simp only[List.length_nil];go_wp2_with fail;refine(HL0.out w1 la lc HO.out).mono ?_;rintro r w2 ⟨rfl,hb2⟩;have HB2:=aA (aB (aB HB.out hb2) (aC w2 (.cells #[.int .i64 0,.int .i64 0,.int .i64 0,.int .i64 0,.int .i64 0] 86)))
  clear hb2;go_wp2;refine cD (results_tmp2 rfl _ _ _) rfl ?_;exact⟨HB2.out,.inr ⟨HN.out,rfl⟩⟩
 cases R with
 |none=>exact hnone [] rfl rfl rfl
 |some S=>
  by_cases h0:S.r.length=0
  ·exact hnone S.r rfl h0 (if_pos h0)
  ·have hY:GJ o (some S)=some (qU o S.r):=if_neg h0;have hS:=HOK.out S rfl
   have e1:bF o S.r.length (lf S.r)=true:=iQ.2 ⟨ho,hS,fun e=>h0 (by rw[e];rfl)⟩;have t1:bN o S.r.length (lf S.r)=aU o S.r:=eK e1
   have hm:qU o S.r=fG (kE (aU o S.r).c) (lf S.r) S.r.length:=rfl;obtain⟨Y,hYe⟩:∃Y,qU o S.r=Y:=⟨_,rfl⟩
   obtain⟨t,ht⟩:∃t,aU o S.r=t:=⟨_,rfl⟩
   have hYl:Y.length≤400:=by rw[←hYe,hm];exact GY _ _ _
   rw[ht]at t1 hm;rw[hYe]at hY hm;obtain⟨k,hk⟩:∃k,kE t.c=k:=⟨_,rfl⟩
   rw[hk]at hm;have HLD:Hid (∀(W:World) (la:Option Addr) (lc:Nat),RL W la lc S.r→Calls Tryz.prog 74 #[.int .i64 o,.slice la S.r.length lc] W fun r w'=>r= .returned (.tuple #[.agg #[.int .i64 t.c,.int .i64 t.m.x,.int .i64 t.m.y,.int .i64 t.m.d,.int .i64 t.m.e],.bool true])∧Below W.heap.size W w'):=fun W la lc hW=>by have:=kJ W o la S.r.length lc (lf S.r) hW;rw[t1,e1]at this;exact this
   have HSC:Hid (∀(W:World) (la:Option Addr) (lc:Nat),RL W la lc S.r→Calls Tryz.prog 21 #[.int .i64 k,.slice la S.r.length lc] W fun r w'=>∃a' c',r= .returned (.slice a' Y.length c')∧Below W.heap.size W w'∧jG W.heap.size w' a' c' Y):=fun W la lc hW=>by refine(EY W k la S.r.length lc (lf S.r) hW).mono ?_;rintro r w' ⟨v,rfl,hb,hown⟩;rw[←hm]at hown;obtain⟨a',c',rfl,hO⟩:=aI hown (by omega);exact⟨a',c',rfl,hb,hO⟩
   have hinv:=Lz t.c;rw[hk]at hinv;have HIV:=aA hinv
   have HYY:=aA hY;clear hS e1 t1 hm hYe ht hk hinv hnone hY hbd;go_enter Tryz.func88,Tryz.ntmps88;go_wp2_with fail;refine HC.out.mono ?_;rintro r w1 ⟨qa,qc,ad',cp',Rb,B,la,lc,mid,rfl,hb,_,hO,_⟩;have HB:=aA hb
   have HO:Hid (RL w1 la lc S.r):=hO.1;clear hb hO HC;simp only[wE];go_wp2_with fail;refine(HLD.out w1 la lc HO.out).mono ?_;rintro r w2 ⟨rfl,hb2⟩;have bx:=aC w2 (.cells #[.int .i64 t.c,.int .i64 t.m.x,.int .i64 t.m.y,.int .i64 t.m.d,.int .i64 t.m.e] 86)
   have HB2:=aA (aB (aB HB.out hb2) bx);have HO2:=aA (Rd.below (Rd.below HO.out hb2) bx)
   obtain⟨y0,y1,y2,y3,y4⟩:=C5.box w2 86 t;have hsz:w.heap.size≤w2.heap.size:=by have:=HB2.out.size;have:=HB.out.size;have:=hb2.size;omega
   clear hb2 bx HO HB;go_wp2_with fail;refine(HIV.out _).mono ?_;rintro r w3 ⟨rfl,hw3⟩;obtain rfl:=hw3.symm;clear hw3;go_wp2_with fail;generalize(w2.alloc (.cells #[.int .i64 t.c,.int .i64 t.m.x,.int .i64 t.m.y,.int .i64 t.m.d,.int .i64 t.m.e] 86))=w3 at HB2 HO2⊢;refine(HSC.out w3 la lc HO2.out).mono ?_;rintro r w4 ⟨a',c',rfl,hb4,hO4⟩;have HB4:=aA (aB HB2.out hb4)
   have HO4:Hid (jG w.heap.size w4 a' c' Y):=⟨hO4.1,hO4.2.1,hO4.2.2.imp id (fun⟨g,off,e,hg⟩=>⟨g,off,e,by have:=HB2.out.size;omega⟩)⟩
   clear hb4 hO4 y0 y1 y2 y3 y4;go_wp2;refine cD (results_tmp2 rfl _ _ _) rfl ?_;exact⟨HB4.out,.inl ⟨Y,a',c',HYY.out,rfl,HO4.out⟩⟩
theorem rJ:∃i:TypeInfo,Tryz.prog.info? 41=some i∧i.zero=some (.slice none 0 0)∧i.size=1∧i.bytes=24:=info_parts Je
theorem Lv (w:World) (k:Nat) (hk:k≤100):Calls Tryz.prog 131 #[.slice none 0 0,.int .i64 (k:Int)] w fun r w'=>∃tv,r= .returned tv∧Below w.heap.size w w'∧w'.ownsRow w.heap.size 41 1 tv 0 []:=by
 obtain⟨i0,hi0,hz0,hz1,hz2⟩:=rJ;have hkI:(k:Int)≤100:=by omega
 have hk0:¬(k:Int)<0:=by omega
 by_cases h0:k=0
 ·subst h0;go_enter Tryz.func131,Tryz.ntmps131;go_wp2;go_ret;exact⟨_,rfl,bG _ _,⟨rfl,.inl ⟨rfl,rfl⟩⟩⟩
 ·have hpos:(0:Int)<(k:Int):=by omega
  have hrun:=fun ty=>Lib.run_append_nil_zeros (P:=Tryz.prog) w 24 3 ty 41 i0 _ .i64 .i64 Tryz.underlying24 Tryz.underlying3 hi0 hz0 k (by omega) (by omega) (by omega) (by rw[hz2];omega);have hge:=grownCap_ge w k 0 41
  have hle:=grownCap_le_maxLen w k 0 41 (by unfold maxLen;omega);obtain⟨C,hC⟩:∃C,grownCap w k 0 41=C:=⟨_,rfl⟩
  rw[hC]at hge hle;simp only[hC]at hrun;obtain⟨cur,hcur⟩:∃cur,Builtin.zeroCells (Value.slice none 0 0).cells k++Builtin.zeroCells (Value.slice none 0 0).cells (C-k)=cur:=⟨_,rfl⟩
  have hsz:cur.size=C*1:=by rw[←hcur];simp[Builtin.zeroCells,Value.cells];omega
  simp only[hcur]at hrun;have HOW:=aA (World.ownsRow_made (base:=w.heap.size) (e:=41) (size:=1) w.drew cur C (Nat.le_refl _) hle hsz)
  have HBL:=aA ((bG w.heap.size w).drew.alloc (Nat.le_refl _) (.cells cur 41));clear hC hcur hsz hz0 hz1 hz2 hi0 hge;go_enter Tryz.func131,Tryz.ntmps131;go_wp2_with (at_builtin;refine Lib.wpList_append_run _ rfl _ _ _ _ rfl _ _ rfl rfl _ _ (hrun _) ?_;clear hrun);go_ret;exact⟨_,rfl,HBL.out,HOW.out⟩
theorem mA.news {w:World} {b off c:Nat} {es:List E} (h:mA w (some ⟨b,off,none⟩) c es):∀j u,(es.map E.v)[j]? =some u→w.cell? ((⟨b,off,none⟩:Addr).add j)=some u:=by
 have:=h.newsTo es.length
 rwa[List.take_length]at this
theorem mA.takeE {w:World} {a:Option Addr} {c:Nat} {es:List E} (h:mA w a c es) {k:Nat} (hk:k≤es.length):mA w a c (es.take k):=by
 have hl:(es.take k).length=k:=by rw[List.length_take];omega
 refine⟨by rw[hl];have:=h.1;omega,by rw[hl];have:=h.2.1;omega,?_,fun e he=>h.2.2.2 e (List.mem_of_mem_take he)⟩;rcases h.2.2.1 with h0|⟨b,off,e1,hlt,hc⟩
 ·exact .inl (by omega)
 ·refine .inr ⟨b,off,e1,hlt,fun i e he=>hc i e ?_⟩;have hi:=(List.getElem?_eq_some_iff.1 he).1
  rw[List.getElem?_take_of_lt (by omega)]at he;exact he
theorem mA.dropE {w:World} {b off c:Nat} {es:List E} (h:mA w (some ⟨b,off,none⟩) c es) {k:Nat} (hk:k≤es.length):mA w (some ⟨b,off+k,none⟩) (c-k) (es.drop k):=by
 have hl:(es.drop k).length=es.length-k:=List.length_drop ..;refine⟨by rw[hl];have:=h.1;omega,by rw[hl];have:=h.2.1;omega,?_,fun e he=>h.2.2.2 e (List.mem_of_mem_drop he)⟩;rcases h.2.2.1 with h0|⟨b',off',e1,hlt,hc⟩
 ·exact .inl (by omega)
 ·cases e1;refine .inr ⟨b,off+k,rfl,hlt,fun i e he=>?_⟩;rw[List.getElem?_drop]at he;have:=hc (k+i) e he
  rw[←Nat.add_assoc]at this;exact this
theorem lW.far {w wr:World} {tv:Value} {e:E} (h:RL w e.a e.c e.p) (hb:Below w.heap.size w wr) (hk:∀k,tv.ownBlock=some k→w.heap.size≤k):lW wr tv.ownBlock e:=by
 refine⟨Rd.below h hb,?_⟩;rcases h.2.2 with h0|⟨b,off,e1,hlt,_⟩
 ·exact .inl h0
 ·refine .inr fun b' off' e2 e3=>?_;rw[e1]at e2;cases e2;have:=hk b e3
  omega
theorem FD {P:Program} {w:World} (base:Nat) (t ty e:TypeId) (i:TypeInfo) (size:Nat) (ht:P.underlying t=some (.slice e)) (hi:P.info? e=some i) (v:Value) (n:Nat) (xs:List Value) (hown:w.ownsRow base e size v n xs) (pa:Option Addr) (pc:Nat):(Builtin.append_ #[t,t] ty #[v,.slice pa 0 pc]).run P w= .ok v w:=by
 rcases hown.2 with⟨rfl,rfl⟩|⟨g,cap,cur,rfl,_,_,hnc,_⟩
 ·cases pa<;>simp[Builtin.append_,run_underlying ht,sizeOf,typeInfo,hi,Builtin.lenOf,Builtin.firstCells,loadCells,loadCellsFrom]
 ·cases pa<;>simp[Builtin.append_,run_underlying ht,sizeOf,typeInfo,hi,Builtin.lenOf,Builtin.firstCells,hnc,storeCells,loadCells,loadCellsFrom]
theorem wP {P:Program} {w:World} {ops:Array Oper} {rest:List Oper} {o:Oper} {a:Act} {Q:Exit→Act→World→Prop} (hgd:o.guard=none) (s x:Operand) (t:TypeId) (ho:o.op= .call {callee:=.builtin .append,args:=#[s,x],argTypes:=#[t,t]}) (base:Nat) (e:TypeId) (i:TypeInfo) (size:Nat) (ht:P.underlying t=some (.slice e)) (hi:P.info? e=some i) (v:Value) (n:Nat) (xs:List Value) (hs:a.eval s=v) (hown:w.ownsRow base e size v n xs) (pa:Option Addr) (pc:Nat) (hx:a.eval x= .slice pa 0 pc) (h:wpList P ops Q rest (a.put o.dst v) w):wpList P ops Q (o::rest) a w:=by
 refine wpList_plain hgd fun K hK=>?_;have hrun:=FD (P:=P) (w:=w) base t o.type e i size ht hi v n xs hown pa pc
 unfold Oper.wp;simp[execOp,ho,resolve,invoke,builtin,hs,hx,hrun,Result.andThen];exact hK _ _ h
theorem Ei (w:World) (v0:Nat) (a1:Option Addr) (c1:Nat) (es1:List E) (a2:Option Addr) (c2:Nat) (es2:List E) (k1:w.cell? ⟨v0,0,none⟩=some (.slice a1 es1.length c1)) (k2:w.cell? ⟨v0,1,none⟩=some (.slice a2 es2.length c2)) (h1:mA w a1 c1 es1) (h2:mA w a2 c2 es2) (hn:es1.length+es2.length≤12):Calls Tryz.prog 87 #[.slice (some ⟨v0,0,none⟩) 2 2] w fun r w'=>∃tv,r= .returned tv∧Below w.heap.size w w'∧cT w.heap.size w' tv (es1++es2):=by
 obtain⟨i0,hi0,hz0,hz1,hz2⟩:=rJ;have hv0:v0<w.heap.size:=dD w _ k1
 obtain⟨n1,hn1⟩:∃n1,es1.length=n1:=⟨_,rfl⟩
 obtain⟨n2,hn2⟩:∃n2,es2.length=n2:=⟨_,rfl⟩
 rw[hn1]at k1 hn;rw[hn2]at k2 hn;have hI1:(n1:Int)≤12:=by omega
 have hI2:(n2:Int)≤12:=by omega
 have HN1:=aA hn1;have HN2:=aA hn2
 have H1:=aA h1;have H2:=aA h2
 have HK1:=aA k1;have HK2:=aA k2
 clear h1 h2 hn1 hn2;go_enter Tryz.func87,Tryz.ntmps87;go_wp2;go_loopw [3,11] (fun sv jv wr=>wr=w∧((jv= .int .i64 0∧sv= .int .i64 0)∨(jv= .int .i64 1∧sv= .int .i64 (n1:Int))∨(jv= .int .i64 2∧sv= .int .i64 ((n1+n2:Nat):Int)))) (fun _ jv _=>2-(intOf jv).toNat);case atStart=>exact⟨rfl,.inl ⟨rfl,rfl⟩⟩
 case round=>
  obtain⟨rfl,hh⟩:=hrel;rcases hh with⟨rfl,rfl⟩|⟨rfl,rfl⟩|⟨rfl,rfl⟩
  ·go_wp2;go_roundw;case rel=>exact⟨by first|trivial|rfl,.inr (.inl ⟨by first|rfl|go_num,by first|rfl|go_num⟩)⟩
   case measure=>first|(simp[intOf];done)|(simp[intOf];omega)
  ·go_wp2;go_roundw;case rel=>exact⟨by first|trivial|rfl,.inr (.inr ⟨by first|rfl|go_num,by first|rfl|go_num|(congr 1;omega)⟩)⟩
   case measure=>first|(simp[intOf];done)|(simp[intOf];omega)
  ·obtain⟨N,hN⟩:∃N,n1+n2=N:=⟨_,rfl⟩
   rw[hN];have hN12:N≤100:=by omega
   clear hN k1 k2;obtain⟨wq,hwq⟩:∃x,x=wr:=⟨_,rfl⟩
   subst hwq;go_wp2_with fail;refine(Lv wq N hN12).mono ?_;rintro r w2 ⟨tv0,rfl,hb2,hown2⟩;have HB2:=aA hb2
   have HR2:Hid (cT wq.heap.size w2 tv0 []):=⟨hown2,fun e he=>by cases he⟩
   clear hb2 hown2;go_wp2;go_loopw [6,27] (fun tv jv w'=>Below wq.heap.size wq w'∧((jv= .int .i64 0∧cT wq.heap.size w' tv [])∨(jv= .int .i64 1∧cT wq.heap.size w' tv es1)∨(jv= .int .i64 2∧cT wq.heap.size w' tv (es1++es2)))) (fun _ jv _=>2-(intOf jv).toNat);case atStart=>exact⟨HB2.out,.inl ⟨rfl,HR2.out⟩⟩
   case round=>
    obtain⟨hB,hh⟩:=hrel;have HB:=aA hB
    rcases hh with⟨rfl,hR⟩|⟨rfl,hR⟩|⟨rfl,hR⟩
    ·have g1:wr.cell? ⟨v0,0,none⟩=some (.slice a1 n1 c1):=(hB.cell (p:=⟨v0,0,none⟩) hv0).trans HK1.out;have hrd:=H1.out.below hB
     have HR:=aA hR;have hlo:wq.heap.size≤wr.heap.size:=hB.size
     have HEL:Hid (∀e∈es1,lW wr u6.ownBlock e):=fun e he=>lW.far (H1.out.2.2.2 e he) HB.out (fun k hk=>(HR.out.row.lt k hk).1);have hrow:=hR.row
     by_cases h0:n1=0
     ·subst h0;have e0:es1=[]:=List.length_eq_zero_iff.1 HN1.out
      have HX:Hid (cT wq.heap.size wr u6 es1):=by rw[e0];exact hR
      clear hB hR hrd e0;go_wp2_with (at_builtin;refine wP rfl (.tmp 31) (.tmp 32) 24 rfl wq.heap.size 41 i0 1 Tryz.underlying24 hi0 _ 0 [] rfl hrow a1 c1 rfl ?_);go_roundw;case rel=>exact⟨HB.out,.inr (.inl ⟨by first|rfl|go_num,HX.out⟩)⟩
      case measure=>first|(simp[intOf];done)|(simp[intOf];omega)
     ·obtain⟨b,off,rfl,hb,_⟩:=hrd.2.2.1.resolve_left (by rw[HN1.out];exact h0);have hnews:=hrd.news
      have hone:=Ke es1;have hlen:(es1.map E.v).length=n1*1:=by rw[List.length_map,HN1.out,Nat.mul_one]
      have HRND:Hid (∀(g0 cap0:Nat) (w5:World),w5.ownsRow wq.heap.size 41 1 (.slice (some ⟨g0,0,none⟩) (0+n1) cap0) (0+n1) ([]++es1.map E.v)→wr.grownBy w5 u6.ownBlock→(u6.ownBlock=some g0∨g0=wr.heap.size)→cT wq.heap.size w5 (.slice (some ⟨g0,0,none⟩) n1 cap0) es1):=fun g0 cap0 w5 q1 q2 q3=>by have:=HR.out.app (es':=es1) HEL.out (g0:=g0) (cap0:=cap0) q2 (by rw[HN1.out];exact q1) q3;rw[HN1.out]at this;simp only[List.length_nil,Nat.zero_add]at this⊢;exact this
      clear hB hR hrd;go_wp2_with (at_builtin;refine wpList_append_lies _ rfl (.tmp 31) (.tmp 32) 24 rfl wq.heap.size 41 i0 _ 1 24 Tryz.underlying24 hi0 hz0 hz1 hz2 rfl (by omega) _ 0 [] rfl hrow ⟨b,off,none⟩ n1 c1 (es1.map E.v) rfl hlen hnews hone (by omega) (by unfold maxLen;omega) (by omega) hlo _ rfl ?_;intro g0 cap0 w5 hown1 hgrow hat hlt1;have HX:=aA (HRND.out g0 cap0 w5 hown1 hgrow hat);have HB5:=aA (HB.out.grown hgrow hlo (fun k e=>(HR.out.row.lt k e).1));clear hown1 hgrow hat hlt1 hnews hone hlen hrow);go_roundw;case rel=>exact⟨HB5.out,.inr (.inl ⟨by first|rfl|go_num,HX.out⟩)⟩
      case measure=>first|(simp[intOf];done)|(simp[intOf];omega)
    ·have g1:wr.cell? ⟨v0,1,none⟩=some (.slice a2 n2 c2):=(hB.cell (p:=⟨v0,1,none⟩) hv0).trans HK2.out;have hrd:=H2.out.below hB
     have HR:=aA hR;have hlo:wq.heap.size≤wr.heap.size:=hB.size
     have HEL:Hid (∀e∈es2,lW wr u6.ownBlock e):=fun e he=>lW.far (H2.out.2.2.2 e he) HB.out (fun k hk=>(HR.out.row.lt k hk).1);have hrow:=hR.row
     rw[HN1.out]at hrow;by_cases h0:n2=0
     ·subst h0;have e0:es2=[]:=List.length_eq_zero_iff.1 HN2.out
      have HX:Hid (cT wq.heap.size wr u6 (es1++es2)):=by rw[e0,List.append_nil];exact hR
      clear hB hR hrd e0;go_wp2_with (at_builtin;refine wP rfl (.tmp 31) (.tmp 32) 24 rfl wq.heap.size 41 i0 1 Tryz.underlying24 hi0 _ n1 (es1.map E.v) rfl hrow a2 c2 rfl ?_);go_roundw;case rel=>exact⟨HB.out,.inr (.inr ⟨by first|rfl|go_num,HX.out⟩)⟩
      case measure=>first|(simp[intOf];done)|(simp[intOf];omega)
     ·obtain⟨b,off,rfl,hb,_⟩:=hrd.2.2.1.resolve_left (by rw[HN2.out];exact h0);have hnews:=hrd.news
      have hone:=Ke es2;have hlen:(es2.map E.v).length=n2*1:=by rw[List.length_map,HN2.out,Nat.mul_one]
      have HRND:Hid (∀(g0 cap0:Nat) (w5:World),w5.ownsRow wq.heap.size 41 1 (.slice (some ⟨g0,0,none⟩) (n1+n2) cap0) (n1+n2) (es1.map E.v++es2.map E.v)→wr.grownBy w5 u6.ownBlock→(u6.ownBlock=some g0∨g0=wr.heap.size)→cT wq.heap.size w5 (.slice (some ⟨g0,0,none⟩) (n1+n2) cap0) (es1++es2)):=fun g0 cap0 w5 q1 q2 q3=>by have:=HR.out.app (es':=es2) HEL.out (g0:=g0) (cap0:=cap0) q2 (by rw[HN1.out,HN2.out];exact q1) q3;rw[HN1.out,HN2.out]at this;exact this
      clear hB hR hrd;go_wp2_with (at_builtin;refine wpList_append_lies _ rfl (.tmp 31) (.tmp 32) 24 rfl wq.heap.size 41 i0 _ 1 24 Tryz.underlying24 hi0 hz0 hz1 hz2 rfl (by omega) _ n1 (es1.map E.v) rfl hrow ⟨b,off,none⟩ n2 c2 (es2.map E.v) rfl hlen hnews hone (by omega) (by unfold maxLen;omega) (by omega) hlo _ rfl ?_;intro g0 cap0 w5 hown1 hgrow hat hlt1;have HX:=aA (HRND.out g0 cap0 w5 hown1 hgrow hat);have HB5:=aA (HB.out.grown hgrow hlo (fun k e=>(HR.out.row.lt k e).1));clear hown1 hgrow hat hlt1 hnews hone hlen hrow);go_roundw;case rel=>exact⟨HB5.out,.inr (.inr ⟨by first|rfl|go_num,HX.out⟩)⟩
      case measure=>first|(simp[intOf];done)|(simp[intOf];omega)
    ·have HR:=aA hR;clear hB hR;go_wp2;refine cD (results_tmp rfl _ _ _) rfl ?_;exact⟨u6,rfl,HB.out,HR.out⟩
end Go.Proofs.YtelkehjdfcoeiaaGreat
