/-
  More behind a row; the model's sorted operators (spec.l10Sorted).
-/
import Derived.Test.YtelkehjdfcoeiaaGreatMbe
import Derived.Test.YtelkehjdfcoeiaaGreatMbd
set_option maxHeartbeats 16000000
set_option maxRecDepth 100000
namespace Go.Proofs.YtelkehjdfcoeiaaGreat
open Go.RowKit Go.Deep Go.Joins
set_option linter.unusedVariables false
set_option linter.unusedSimpArgs false
theorem NR {o:Oper} {a:Act} {K:Act→World→Prop} {Q:Exit→Act→World→Prop} (s x:Operand) (ho:o.op= .call {callee:=.builtin .append,args:=#[s,x],argTypes:=#[24,24]}) {lo:Nat} {W:World} {tv:Value} {es:List E} (hR:cT lo W tv es) (hs:a.eval s=tv) {pa:Option Addr} {pc m:Nat} {es':List E} (hm:es'.length=m) (hx:a.eval x= .slice pa m pc) (hrd:mA W pa pc es') (hel:∀e∈es',lW W tv.ownBlock e) (hlo:lo≤W.heap.size) (hn:es.length+m≤100) (h:∀tv' w',cT lo w' tv' (es++es')→(∀N w0,Below N w0 W→N≤lo→Below N w0 w')→W.heap.size≤w'.heap.size→K (a.put o.dst tv') w'):Oper.wp Tryz.prog o a W K Q:=by
 obtain⟨i0,hi0,hz0,hz1,hz2⟩:=rJ;by_cases h0:m=0
 ·have hrun:=FD (P:=Tryz.prog) (w:=W) lo 24 o.type 41 i0 1 Tryz.underlying24 hi0 tv es.length (es.map E.v) hR.row pa pc;have e0:es'=[]:=List.length_eq_zero_iff.1 (by omega)
  subst h0;unfold Oper.wp;simp[execOp,ho,resolve,invoke,builtin,hs,hx,hrun,Result.andThen];exact h tv W (by rw[e0,List.append_nil];exact hR) (fun N w0 hb _=>hb) (Nat.le_refl _)
 ·obtain⟨b,off,e1,hb,hc⟩:=hrd.2.2.1.resolve_left (by omega);subst e1;refine wp_append_lies W s x 24 ho lo 41 i0 _ 1 24 Tryz.underlying24 hi0 hz0 hz1 hz2 rfl (by omega) tv es.length (es.map E.v) hs hR.row ⟨b,off,none⟩ m pc (es'.map E.v) hx (by rw[List.length_map];omega) hrd.news (Ke es') (by omega) (by unfold maxLen;omega) (by omega) hlo _ rfl ?_;intro g cap w' hown hgrow hat hlt;refine h _ _ ?_ (fun N w0 hb0 hN=>hb0.grown hgrow (by omega) (fun k e=>jQ hN (hR.row.lt k e).1)) ((bG 0 W).grown hgrow (Nat.zero_le _) (fun _ _=>Nat.zero_le _)).size;have:=hR.app (es':=es') hel (g0:=g) (cap0:=cap) hgrow (by rw[hm];exact hown) hat
  rw[hm]at this;exact this
theorem dR {ops:Array Oper} {rest:List Oper} {o:Oper} {a:Act} {Q:Exit→Act→World→Prop} (hgd:o.guard=none) (s x:Operand) (ho:o.op= .call {callee:=.builtin .append,args:=#[s,x],argTypes:=#[24,24]}) {lo:Nat} {W:World} {tv:Value} {es:List E} (hR:cT lo W tv es) (hs:a.eval s=tv) {pa:Option Addr} {pc m:Nat} {es':List E} (hm:es'.length=m) (hx:a.eval x= .slice pa m pc) (hrd:mA W pa pc es') (hel:∀e∈es',lW W tv.ownBlock e) (hlo:lo≤W.heap.size) (hn:es.length+m≤100) (h:∀tv' w',cT lo w' tv' (es++es')→(∀N w0,Below N w0 W→N≤lo→Below N w0 w')→W.heap.size≤w'.heap.size→wpList Tryz.prog ops Q rest (a.put o.dst tv') w'):wpList Tryz.prog ops Q (o::rest) a W:=
 wpList_plain hgd fun _ hK=>NR s x ho hR hs hm hx hrd hel hlo hn fun tv' w' h1 h2 h3=>hK _ _ (h tv' w' h1 h2 h3)
theorem uJ {ops:Array Oper} {o:Oper} {a:Act} {K:Act→World→Prop} {Q:Exit→Act→World→Prop} {G:Prop} (hgd:o.guard=none) (s x:Operand) (ho:o.op= .call {callee:=.builtin .append,args:=#[s,x],argTypes:=#[24,24]}) {lo:Nat} {W:World} {tv:Value} {es:List E} (hR:cT lo W tv es) (hs:a.eval s=tv) {pa:Option Addr} {pc m:Nat} {es':List E} (hm:es'.length=m) (hx:a.eval x= .slice pa m pc) (hrd:mA W pa pc es') (hel:∀e∈es',lW W tv.ownBlock e) (hlo:lo≤W.heap.size) (hn:es.length+m≤100) (h:∀tv' w',cT lo w' tv' (es++es')→(∀N w0,Below N w0 W→N≤lo→Below N w0 w')→W.heap.size≤w'.heap.size→K (a.put o.dst tv') w'):if Region.wanted o (yielded ops a.tmps)=true then Oper.wp Tryz.prog o a W K Q else G:=by
 have hw:Region.wanted o (yielded ops a.tmps)=true:=by simp[Region.wanted,hgd]
 rw[if_pos hw];exact NR s x ho hR hs hm hx hrd hel hlo hn h
theorem mA.box {W:World} {e:E} (h:RL W e.a e.c e.p):mA (W.alloc (.cells #[e.v] 41)) (some ⟨W.heap.size,0,none⟩) 1 [e]:=by
 refine⟨Nat.le_refl _,by show 1≤100;omega,.inr ⟨W.heap.size,0,rfl,by simp,fun i e' he=>?_⟩,fun e' he=>?_⟩
 ·have hi:i<1:=(List.getElem?_eq_some_iff.1 he).1;have:i=0:=by omega
  subst this;have:e=e':=by simpa using he
  subst this;rw[World.cell?_alloc_at _ _ _ _ rfl];rfl
 ·rw[List.mem_singleton.1 he];exact Rd.below h (aC _ _)
theorem cT.weak {lo lo':Nat} {w:World} {tv:Value} {es:List E} (h:cT lo w tv es) (hl:lo'≤lo):cT lo' w tv es:=by refine⟨?_,h.el⟩;obtain⟨h1,h2⟩:=h.row;refine⟨h1,h2.imp id ?_⟩;rintro⟨g,cap,cur,e1,e2,r⟩;exact⟨g,cap,cur,e1,by omega,r⟩
theorem YR {α:Type} {lt:α→α→Bool} {y z:α}:∀{l:List α},l.any (lt y)=true→fJ lt y (l++[z])=fJ lt y l++[z]
 |[],h=>by cases h
 |x::r,h=>by
  show(if lt y x=true then y::x::(r++[z])else x::fJ lt y (r++[z]))=(if lt y x=true then y::x::r else x::fJ lt y r)++[z];by_cases e:lt y x=true
  ·rw[if_pos e,if_pos e];rfl
  ·rw[if_neg e,if_neg e,YR (l:=r) (by
    rw[List.any_cons]at h;have e':lt y x=false:=by cases q:lt y x;rfl;exact absurd q e
    rw[e',Bool.false_or]at h
    exact h)]
   rfl
theorem YS {α:Type} {lt:α→α→Bool} {y:α}:∀{l:List α},l.any (lt y)=false→fJ lt y l=l++[y]
 |[],_=>rfl
 |x::r,h=>by
  rw[List.any_cons]at h;obtain⟨h1,h2⟩:=Bool.or_eq_false_iff.1 h;show(if lt y x=true then y::x::r else x::fJ lt y r)=_
  rw[if_neg (by rw[h1];simp),YS h2];rfl
theorem QQ {α:Type} {lt:α→α→Bool} {y z:α} (hz:lt y z=true):∀{l:List α},l.any (lt y)=false→fJ lt y (l++[z])=l++[y]++[z]
 |[],_=>by show(if lt y z=true then[y,z]else z::fJ lt y [])=_;rw[if_pos hz];rfl
 |x::r,h=>by
  rw[List.any_cons]at h;obtain⟨h1,h2⟩:=Bool.or_eq_false_iff.1 h;show(if lt y x=true then y::x::(r++[z])else x::fJ lt y (r++[z]))=_
  rw[if_neg (by rw[h1];simp),QQ hz h2];rfl
structure qS {α:Type} (lt:α→α→Bool) (y:α) (l:List α) (dn:Bool) (X:List α):Prop where
 any:l.any (lt y)=dn
 eq:X=if dn=true then fJ lt y l else l
theorem qS.nil {α:Type} (lt:α→α→Bool) (y:α):qS lt y [] false []:=⟨rfl,rfl⟩
theorem qS.go {α:Type} {lt:α→α→Bool} {y:α} {l X:List α} (h:qS lt y l true X) (z:α):qS lt y (l++[z]) true (X++[z]):=by have e:X=fJ lt y l:=h.eq;refine⟨by rw[List.any_append,h.any,Bool.true_or],?_⟩;rw[if_pos rfl,YR h.any,e]
theorem qS.hit {α:Type} {lt:α→α→Bool} {y z:α} {l X:List α} (h:qS lt y l false X) (hz:lt y z=true):qS lt y (l++[z]) true (X++[y]++[z]):=by have e:X=l:=h.eq;refine⟨by rw[List.any_append,h.any,Bool.false_or,List.any_cons,hz];rfl,?_⟩;rw[if_pos rfl,QQ hz h.any,e]
theorem qS.miss {α:Type} {lt:α→α→Bool} {y z:α} {l X:List α} (h:qS lt y l false X) (hz:lt y z=false):qS lt y (l++[z]) false (X++[z]):=by have e:X=l:=h.eq;refine⟨by rw[List.any_append,h.any,Bool.false_or,List.any_cons,hz];rfl,?_⟩;rw[if_neg (by simp),e]
theorem qS.done {α:Type} {lt:α→α→Bool} {y:α} {l X:List α} (h:qS lt y l true X):X=fJ lt y l:=h.eq
theorem qS.last {α:Type} {lt:α→α→Bool} {y:α} {l X:List α} (h:qS lt y l false X):X++[y]=fJ lt y l:=by have e:X=l:=h.eq;rw[YS h.any,e]
theorem CY {es:List E} {k:Nat} (h:k<es.length):es.take (k+1)=es.take k++[es.getD k E0]:=by rw[List.take_add_one,(yV h).1];rfl
theorem Cx (o:Int) {es:List E} {k:Nat} (h:k<es.length):jA (jC o) [] (es.take (k+1))=fJ (jC o) (es.getD k E0) (jA (jC o) [] (es.take k)):=by rw[CY h,FG]
theorem Fz {o:Int} {y z:E} (ho:1≤o∧o≤3) (hy:cF y.p=true∧y.p.length≠0) (hz:cF z.p=true∧z.p.length≠0):jC o y z=decide (M.ord o (aU o y.p).m (aU o z.p).m<0):=by show decide (eO o (aU o y.p).m<eO o (aU o z.p).m)=_;exact decide_eq_decide.2 (Ad ho (kS hy) (kS hz)).symm
theorem OS (w:World) (o:Int) (a:Option Addr) (c:Nat) (es:List E) (h:mA w a c es) (ho:1≤o∧o≤3) (n12:es.length≤12) (hok:∀e∈es,cF e.p=true∧e.p.length≠0):Calls Tryz.prog 89 #[.int .i64 o,.slice a es.length c] w fun r w'=>∃tv,r= .returned tv∧Below w.heap.size w w'∧cT w.heap.size w' tv (jA (jC o) [] es):=by
 have HH:=aA h;have HOK:=aA hok
 obtain⟨n,hn⟩:∃n,es.length=n:=⟨_,rfl⟩
 rw[hn];have hnl:(n:Int)≤12:=by omega
 have HN:=aA hn;have HC1:Hid (∀i,i<n→∃b1 off1,a=some ⟨b1,off1,none⟩∧∀W,Below w.heap.size w W→W.cell? ⟨b1,off1+i,none⟩=some (es.getD i E0).v):=fun i hi=>by obtain⟨b1,off1,ea,hb1,hc1⟩:=h.2.2.1.resolve_left (by omega);exact⟨b1,off1,ea,fun W hW=>(hW.cell (p:=⟨b1,off1+i,none⟩) hb1).trans (hc1 i _ (yV (by omega)).1)⟩
 have HLD:Hid (∀(e:E) (k:Int) (m:M),e∈es→(aU o e.p).c=k→(aU o e.p).m=m→∀W,Below w.heap.size w W→Calls Tryz.prog 113 #[.int .i64 o,.slice e.a e.p.length e.c] W fun r w'=>r= .returned (.agg #[.int .i64 k,.int .i64 m.x,.int .i64 m.y,.int .i64 m.d,.int .i64 m.e])∧Below W.heap.size W w'):=fun e k m he hk hm W hW=>GI (Rd.below (h.2.2.2 e he) hW) (hok e he).1 (hok e he).2 hk hm;have HS0:=aA (cT.start (w:=w) (Nat.le_refl _))
 clear h hok hn n12;go_enter Tryz.func89,Tryz.ntmps89;go_wp2;go_loopw [5,6] (fun tv ii wr=>∃(j:Nat),j≤n∧ii= .int .i64 (j:Int)∧Below w.heap.size w wr∧cT w.heap.size wr tv (jA (jC o) [] (es.take j))) (fun _ ii _=>n-(intOf ii).toNat);case atStart=>exact⟨0,Nat.zero_le _,rfl,aC _ _,HS0.out⟩
 case round=>
  obtain⟨j,hj,rfl,hB,hA⟩:=hrel;have HB:=aA hB
  by_cases hlt:j<n
  ·have hjn:(j:Int)<(n:Int):=by omega
   obtain⟨b1,off1,rfl,hc1⟩:=HC1.out j hlt;have hmem:∀e∈jA (jC o) [] (es.take j),e∈es:=fun e he=>by
    rcases rV.1 he with q|q
    ·cases q
    ·exact List.mem_of_mem_take q
   have hAl:(jA (jC o) [] (es.take j)).length=j:=by rw[rU,List.length_take,HN.out];simp;omega
   have HNX:=aA (Cx o (es:=es) (k:=j) (by rw[HN.out];exact hlt));obtain⟨A,hAe⟩:∃A,jA (jC o) [] (es.take j)=A:=⟨_,rfl⟩
   rw[hAe]at hA hmem hAl;have HAE:=aA hAe
   have hym:es.getD j E0∈es:=(yV (by rw[HN.out];exact hlt)).2;obtain⟨y,hy⟩:∃y,es.getD j E0=y:=⟨_,rfl⟩
   rw[hy]at hym;have HY:=aA hy
   obtain⟨yl,hyl⟩:∃yl,y.p.length=yl:=⟨_,rfl⟩
   have HYL:=aA hyl;have HYC:Hid (∀W,Below w.heap.size w W→W.cell? ⟨b1,off1+j,none⟩=some (.slice y.a yl y.c)):=fun W hW=>by rw[hc1 W hW,hy,←hyl];rfl
   obtain⟨oa,oc,htv,hrd⟩:=hA.rd (by omega);rw[hAl]at htv;subst htv;have HRD:=aA hrd
   have HMEM:=aA hmem;have HYM:=aA hym
   have HAL:=aA hAl;obtain⟨yk,hyk⟩:∃k,(aU o y.p).c=k:=⟨_,rfl⟩
   obtain⟨ym,hymm⟩:∃m,(aU o y.p).m=m:=⟨_,rfl⟩
   have HLY:Hid (∀W,Below w.heap.size w W→Calls Tryz.prog 113 #[.int .i64 o,.slice y.a yl y.c] W fun r w'=>r= .returned (.agg #[.int .i64 yk,.int .i64 ym.x,.int .i64 ym.y,.int .i64 ym.d,.int .i64 ym.e])∧Below W.heap.size W w'):=fun W hW=>by have:=HLD.out y yk ym hym hyk hymm W hW;rw[hyl]at this;exact this
   have HYE:Hid ((aU o y.p).m=ym):=hymm;have hfy:∀W:World,(Instr.field 86 (Value.agg #[.int .i64 yk,.int .i64 ym.x,.int .i64 ym.y,.int .i64 ym.d,.int .i64 ym.e]) 1).run Tryz.prog W= .ok (Value.agg #[.int .i64 ym.x,.int .i64 ym.y,.int .i64 ym.d,.int .i64 ym.e]) W:=fun W=>by kernel_rfl
   obtain⟨w1,hw1⟩:∃x,x=wr:=⟨_,rfl⟩
   subst hw1;have HX0:=aA (cT.start (w:=w1) (Nat.le_refl _))
   have hlo1:w.heap.size≤w1.heap.size:=hB.size;clear hB hA hrd hmem hAl hAe hy hyl hyk hymm hc1 hym;go_wp2;go_loopw [7,8,9] (fun xv dv ki wr=>∃(k:Nat) (dn:Bool) (X:List E),k≤j∧X.length≤k+1∧ki= .int .i64 (k:Int)∧dv= .bool dn∧Below w1.heap.size w1 wr∧cT w1.heap.size wr xv X∧qS (jC o) y (A.take k) dn X∧(∀e∈X,e∈es)) (fun _ _ ki _=>j-(intOf ki).toNat);case atStart=>exact⟨0,false,[],Nat.zero_le _,Nat.zero_le _,rfl,rfl,aC _ _,HX0.out,qS.nil _ _,fun e he=>by cases he⟩
   case round=>
    obtain⟨k,dn,X,hk,hXl,rfl,rfl,hB2,hX,hI,hXm⟩:=hrel;have HB2:=aA hB2
    have HX:=aA hX;have HI:=aA hI
    have HXM:=aA hXm;have hXl50:X.length≤14:=by omega
    have hX1:X.length+1≤100:=by omega
    by_cases hkt:k<j
    ·have hkj:(k:Int)<(j:Int):=by omega
     obtain⟨b2,off2,ea,hb2,hc2⟩:=HRD.out.2.2.1.resolve_left (by rw[HAL.out];omega);cases ea;obtain⟨z,hz⟩:∃z,A.getD k E0=z:=⟨_,rfl⟩
     have hzm:z∈es:=by rw[←hz];exact HMEM.out _ (yV (by rw[HAL.out];exact hkt)).2
     have HTK:Hid (A.take (k+1)=A.take k++[z]):=by show _=_;rw[CY (by rw[HAL.out];exact hkt),hz]
     obtain⟨zl,hzl⟩:∃zl,z.p.length=zl:=⟨_,rfl⟩
     have HZL:=aA hzl;have HZM:=aA hzm
     have HZC:Hid (∀W,Below w1.heap.size w1 W→W.cell? ⟨b2,off2+k,none⟩=some (.slice z.a zl z.c)):=fun W hW=>by rw[hW.cell (p:=⟨b2,off2+k,none⟩) hb2,hc2 k _ (yV (by rw[HAL.out];exact hkt)).1,hz,←hzl];rfl
     obtain⟨zk,hzk⟩:∃k,(aU o z.p).c=k:=⟨_,rfl⟩
     obtain⟨zm,hzmm⟩:∃m,(aU o z.p).m=m:=⟨_,rfl⟩
     have HLZ:Hid (∀W,Below w.heap.size w W→Calls Tryz.prog 113 #[.int .i64 o,.slice z.a zl z.c] W fun r w'=>r= .returned (.agg #[.int .i64 zk,.int .i64 zm.x,.int .i64 zm.y,.int .i64 zm.d,.int .i64 zm.e])∧Below W.heap.size W w'):=fun W hW=>by have:=HLD.out z zk zm hzm hzk hzmm W hW;rw[hzl]at this;exact this
     have hfz:∀W:World,(Instr.field 86 (Value.agg #[.int .i64 zk,.int .i64 zm.x,.int .i64 zm.y,.int .i64 zm.d,.int .i64 zm.e]) 1).run Tryz.prog W= .ok (Value.agg #[.int .i64 zm.x,.int .i64 zm.y,.int .i64 zm.d,.int .i64 zm.e]) W:=fun W=>by kernel_rfl
     have HPUT:Hid (∀(W:World) (xv:Value) (Y:List E),Below w1.heap.size w1 W→cT w1.heap.size W xv Y→(∀e∈Y,e∈es)→cT w1.heap.size (W.alloc (.cells #[.slice z.a zl z.c] 41)) xv Y∧mA (W.alloc (.cells #[.slice z.a zl z.c] 41)) (some ⟨W.heap.size,0,none⟩) 1 [z]∧(∀e∈[z],lW (W.alloc (.cells #[.slice z.a zl z.c] 41)) xv.ownBlock e)∧w1.heap.size≤(W.alloc (.cells #[.slice z.a zl z.c] 41)).heap.size∧Below w1.heap.size w1 (W.alloc (.cells #[.slice z.a zl z.c] 41))∧(∀e∈Y++[z],e∈es)):=fun W xv Y hW hR hm=>by
      have hWw:=aB HB.out hW;have hbx:=aC W (.cells #[.slice z.a zl z.c] 41)
      refine⟨hR.below hbx,?_,fun e he=>?_,(aB hW hbx).size,aB hW hbx,fun e he=>?_⟩
      ·have:=mA.box (W:=W) (e:=z) (Rd.below (HH.out.2.2.2 z HZM.out) hWw);rw[show z.v= .slice z.a zl z.c by rw[←HZL.out];rfl]at this;exact this
      ·rw[List.mem_singleton.1 he];refine lW.far (w:=w) (HH.out.2.2.2 z HZM.out) (aB hWw hbx) (fun q hq=>?_);have:=((hR.below hbx).row.lt q hq).1
       have:=HB.out.size;omega
      ·rcases List.mem_append.1 he with q|q
       ·exact hm e q
       ·rw[List.mem_singleton.1 q];exact HZM.out
     have HPUTY:Hid (∀(W:World) (xv:Value) (Y:List E),Below w1.heap.size w1 W→cT w1.heap.size W xv Y→(∀e∈Y,e∈es)→cT w1.heap.size (W.alloc (.cells #[.slice y.a yl y.c] 41)) xv Y∧mA (W.alloc (.cells #[.slice y.a yl y.c] 41)) (some ⟨W.heap.size,0,none⟩) 1 [y]∧(∀e∈[y],lW (W.alloc (.cells #[.slice y.a yl y.c] 41)) xv.ownBlock e)∧w1.heap.size≤(W.alloc (.cells #[.slice y.a yl y.c] 41)).heap.size∧Below w1.heap.size w1 (W.alloc (.cells #[.slice y.a yl y.c] 41))∧(∀e∈Y++[y],e∈es)):=fun W xv Y hW hR hm=>by
      have hWw:=aB HB.out hW;have hbx:=aC W (.cells #[.slice y.a yl y.c] 41)
      refine⟨hR.below hbx,?_,fun e he=>?_,(aB hW hbx).size,aB hW hbx,fun e he=>?_⟩
      ·have:=mA.box (W:=W) (e:=y) (Rd.below (HH.out.2.2.2 y HYM.out) hWw);rw[show y.v= .slice y.a yl y.c by rw[←HYL.out];rfl]at this;exact this
      ·rw[List.mem_singleton.1 he];refine lW.far (w:=w) (HH.out.2.2.2 y HYM.out) (aB hWw hbx) (fun q hq=>?_);have:=((hR.below hbx).row.lt q hq).1
       have:=HB.out.size;omega
      ·rcases List.mem_append.1 he with q|q
       ·exact hm e q
       ·rw[List.mem_singleton.1 q];exact HYM.out
     obtain⟨lv,hlv⟩:∃lv,jC o y z=lv:=⟨_,rfl⟩
     have HOR:Hid (decide (M.ord o ym zm<0)=lv):=by show _=lv;rw[←hlv,Fz ho (HOK.out y HYM.out) (HOK.out z hzm),HYE.out,hzmm]
     have HLV:=aA hlv;have hoy:ym.ok=true:=by rw[←HYE.out];exact kS (HOK.out y HYM.out)
     have hoz:zm.ok=true:=by rw[←hzmm];exact kS (HOK.out z hzm)
     have HOC:Hid (∀W:World,Calls Tryz.prog 111 #[.int .i64 o,.agg #[.int .i64 ym.x,.int .i64 ym.y,.int .i64 ym.d,.int .i64 ym.e],.agg #[.int .i64 zm.x,.int .i64 zm.y,.int .i64 zm.d,.int .i64 zm.e]] W fun r w'=>r= .returned (.int .i64 (M.ord o ym zm))∧Below W.heap.size W w'):=fun W=>Kf o ym.x ym.y ym.d ym.e zm.x zm.y zm.d zm.e W (fun _=>⟨hoy,hoz⟩);have kz:=HZC.out wr hB2
     clear hB2 hX hI hXm hz hzl hzk hzmm hc2 hlv hoy hoz hzm;cases dn
     ·have ky:=HYC.out wr (aB HB.out HB2.out);have hly:=HLY.out wr.drew (aB HB.out HB2.out).drew
      have hlz:∀W,Below wr.drew.heap.size wr.drew W→Calls Tryz.prog 113 #[.int .i64 o,.slice z.a zl z.c] W fun r w'=>r= .returned (.agg #[.int .i64 zk,.int .i64 zm.x,.int .i64 zm.y,.int .i64 zm.d,.int .i64 zm.e])∧Below W.heap.size W w':=fun W hW=>HLZ.out W (aB (aB HB.out HB2.out).drew hW);have HLYH:=aA hly
      have HLZH:=aA hlz;have hS:wr.drew.cell? ⟨b1,off1+j,none⟩=some (.slice y.a yl y.c)∧wr.drew.cell? ⟨b2,off2+k,none⟩=some (.slice z.a zl z.c):=⟨ky,kz⟩
      have HKEEP:Hid (∀W,Below wr.drew.heap.size wr.drew W→W.cell? ⟨b1,off1+j,none⟩=some (.slice y.a yl y.c)∧W.cell? ⟨b2,off2+k,none⟩=some (.slice z.a zl z.c)):=fun W hW=>⟨HYC.out W (aB (aB HB.out HB2.out).drew hW),HZC.out W (aB HB2.out.drew hW)⟩
      clear hly hlz;go_wp2_with fail
      go_region_held3 (fun u=>u.cell? ⟨b1,off1+j,none⟩=some (.slice y.a yl y.c)∧u.cell? ⟨b2,off2+k,none⟩=some (.slice z.a zl z.c)) (first|with_reducible exact hS|with_reducible exact HKEEP.out _ bb1|with_reducible exact HKEEP.out _ (aB bb1 bb2)|with_reducible exact HKEEP.out _ (aB (aB bb1 bb2) bb3)) (first|(go_at_call 113;(with_reducible refine HLYH.out.mono ?_);rintro e v1 ⟨rfl,bb1⟩)|(go_at_call 113;(with_reducible refine(HLZH.out v1 bb1).mono ?_);rintro e v2 ⟨rfl,bb2⟩)|(go_at_call 111;(with_reducible refine(HOC.out _).mono ?_);rintro e v3 ⟨rfl,bb3⟩))
      have HB3:=aA (aB (aB (aB HB2.out.drew bb1) bb2) bb3);have HX3:=aA (((HX.out.below (bG _ wr).drew).below bb1).below (bb2.trans (bb3.mono bb2.size)))
      clear bb1 bb2 bb3 hS HKEEP HLYH HLZH ky kz;cases lv
      ·have hor:¬(M.ord o ym zm<0):=of_decide_eq_false HOR.out;have HI4:=aA (HI.out.miss HLV.out)
       obtain⟨p1,p2,p3,p4,p5,p6⟩:=HPUT.out v3 u7 X HB3.out HX3.out HXM.out;have kz3:=HZC.out v3 HB3.out
       have P1:=aA p1;have P2:=aA p2
       have P3:=aA p3;have P5:=aA p5
       have P6:=aA p6;clear p1 p2 p3 p5 p6;go_wp2_with (at_builtin;refine dR rfl (.tmp 52) (.tmp 57) rfl P1.out rfl rfl rfl P2.out P3.out p4 hX1 ?_;intro tv' w9 q1 q2 q3;have Q1:=aA q1;have Q2:=aA (q2 _ _ P5.out (Nat.le_refl _));clear q1 q2 q3);go_roundw;case rel=>exact⟨k+1,false,X++[z],by omega,by rw[List.length_append];simp;omega,by go_num,rfl,Q2.out,Q1.out,by rw[HTK.out];exact HI4.out,P6.out⟩
       case measure=>simp[intOf];omega
      ·have hor:M.ord o ym zm<0:=of_decide_eq_true HOR.out;have HI4:=aA (HI.out.hit HLV.out)
       obtain⟨p1,p2,p3,p4,p5,p6⟩:=HPUTY.out v3 u7 X HB3.out HX3.out HXM.out;have ky3:=HYC.out v3 (aB HB.out HB3.out)
       have P1:=aA p1;have P2:=aA p2
       have P3:=aA p3;have P5:=aA p5
       have P6:=aA p6;clear p1 p2 p3 p5 p6;have HX2:Hid ((X++[y]).length+1≤100):=by
        have e:X=A.take k:=HI.out.eq;have e2:X.length≤k:=by rw[e,List.length_take];omega
        show(X++[y]).length+1≤100;simp only[List.length_append,List.length_cons,List.length_nil];omega
       go_wp2_with (first|(at_builtin;refine dR rfl (.tmp 45) (.tmp 50) rfl P1.out rfl rfl rfl P2.out P3.out p4 hX1 ?_;intro tv' w9 q1 q2 q3;have Q1:=aA q1;have Q2:=aA (q2 _ _ P5.out (Nat.le_refl _));have kz9:=HZC.out w9 Q2.out;obtain⟨r1,r2,r3,r4,r5,r6⟩:=HPUT.out w9 tv' (X++[y]) Q2.out Q1.out P6.out;have R1:=aA r1;have R2:=aA r2;have R3:=aA r3;have R5:=aA r5;have R6:=aA r6;have R7:=HX2.out;clear q1 q2 q3 r1 r2 r3 r5 r6)|(at_builtin;refine dR rfl (.tmp 52) (.tmp 57) rfl R1.out rfl rfl rfl R2.out R3.out r4 R7 ?_;intro tv'' w10 q1 q2 q3;have Q3:=aA q1;have Q4:=aA (q2 _ _ R5.out (Nat.le_refl _));clear q1 q2 q3));go_roundw;case rel=>exact⟨k+1,true,X++[y]++[z],by omega,by have e:X=A.take k:=HI.out.eq;have e2:X.length≤k:=(by rw[e,List.length_take];omega);rw[List.length_append,List.length_append];simp;omega,by go_num,rfl,Q4.out,Q3.out,by rw[HTK.out];exact HI4.out,R6.out⟩
       case measure=>simp[intOf];omega
     ·have HI4:=aA (HI.out.go z);clear kz;have ne:=bZ.there wr
      go_wp2_with fail;refine aG (by kernel_rfl) (by kernel_rfl) ?_;repeat(go_big_quiet_step (fail))
      refine wpQuiet_nil ?_;rintro _ ⟨v,rfl⟩;have hv:Below wr.heap.size wr v.1:=v.2
      generalize v.1=V at hv⊢;clear v ne;obtain⟨p1,p2,p3,p4,p5,p6⟩:=HPUT.out V u7 X (aB HB2.out hv) (HX.out.below hv) HXM.out;have kzd:=HZC.out V (aB HB2.out hv)
      have P1:=aA p1;have P2:=aA p2
      have P3:=aA p3;have P5:=aA p5
      have P6:=aA p6;clear p1 p2 p3 p5 p6 hv;go_wp2_with (at_builtin;refine dR rfl (.tmp 52) (.tmp 57) rfl P1.out rfl rfl rfl P2.out P3.out p4 hX1 ?_;intro tv' w9 q1 q2 q3;have Q1:=aA q1;have Q2:=aA (q2 _ _ P5.out (Nat.le_refl _));clear q1 q2 q3);go_roundw;case rel=>exact⟨k+1,true,X++[z],by omega,by rw[List.length_append];simp;omega,by go_num,rfl,Q2.out,Q1.out,by rw[HTK.out];exact HI4.out,P6.out⟩
      case measure=>simp[intOf];omega
    ·have hkj:¬(k:Int)<(j:Int):=by omega
     have hke:k=j:=by omega
     have HIA:Hid (qS (jC o) y A dn X):=by have:=HI.out;rw[hke,List.take_of_length_le (by rw[HAL.out];omega)]at this;exact this
     have HFIN:Hid (∀(W:World) (xv:Value) (Y:List E),Y=fJ (jC o) y A→Below w1.heap.size w1 W→cT w1.heap.size W xv Y→Below w.heap.size w W∧cT w.heap.size W xv (jA (jC o) [] (es.take (j+1)))):=fun W xv Y e hW hR=>by refine⟨aB HB.out hW,?_⟩;rw[HNX.out,HAE.out,HY.out,←e];exact hR.weak HB.out.size
     subst hke;obtain⟨wo,hwo⟩:∃x,x=wr:=⟨_,rfl⟩
     subst hwo;clear hB2 hX hI hXm;cases dn
     ·have ky:=HYC.out wo (aB HB.out HB2.out);have hbx:=aC wo (.cells #[.slice y.a yl y.c] 41)
      have P1:=aA (HX.out.below hbx);have P2:Hid (mA (wo.alloc (.cells #[.slice y.a yl y.c] 41)) (some ⟨wo.heap.size,0,none⟩) 1 [y]):=by have:=mA.box (W:=wo) (e:=y) (Rd.below (HH.out.2.2.2 y HYM.out) (aB HB.out HB2.out));rw[show y.v= .slice y.a yl y.c by rw[←HYL.out];rfl]at this;exact this
      have P3:Hid (∀e∈[y],lW (wo.alloc (.cells #[.slice y.a yl y.c] 41)) u7.ownBlock e):=fun e he=>by
       rw[List.mem_singleton.1 he];refine lW.far (w:=w) (HH.out.2.2.2 y HYM.out) (aB (aB HB.out HB2.out) hbx) (fun q hq=>?_);have:=(P1.out.row.lt q hq).1
       omega
      have P5:=aA (aB HB2.out hbx);have p4:w1.heap.size≤(wo.alloc (.cells #[.slice y.a yl y.c] 41)).heap.size:=(aB HB2.out hbx).size
      have HL:=aA HIA.out.last;clear hbx;go_wp2_with (at_builtin;refine dR rfl (.tmp 61) (.tmp 66) rfl P1.out rfl rfl rfl P2.out P3.out p4 hX1 ?_;intro tv' w9 q1 q2 q3;have Q1:=aA (HFIN.out w9 tv' _ HL.out (q2 _ _ P5.out (Nat.le_refl _)) q1);clear q1 q2 q3);go_roundw;case rel=>exact⟨k+1,by omega,by go_num,Q1.out.1,Q1.out.2⟩
      case measure=>simp[intOf];omega
     ·have Q1:=aA (HFIN.out wo u7 X HIA.out.done HB2.out HX.out);go_wp2;go_roundw;case rel=>exact⟨k+1,by omega,by go_num,Q1.out.1,Q1.out.2⟩
      case measure=>simp[intOf];omega
  ·have hjn:¬(j:Int)<(n:Int):=by omega
   have hje:j=n:=by omega
   have HF:Hid (cT w.heap.size wr u5 (jA (jC o) [] es)):=by have:=hA;rw[hje,List.take_of_length_le (by rw[HN.out];omega)]at this;exact this
   subst hje;clear hB hA;go_wp2;go_ret;exact⟨_,rfl,HB.out,HF.out⟩
end Go.Proofs.YtelkehjdfcoeiaaGreat
