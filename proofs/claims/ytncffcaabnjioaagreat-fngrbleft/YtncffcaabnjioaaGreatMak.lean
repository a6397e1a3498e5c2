/-
  A sum told as an operator.
  A sum told as an operator.
  What slices.SortFunc does to monomials that are ok.
-/
import Derived.Test.YtncffcaabnjioaaGreatMaj
import Derived.Maps.OwnIn
import Derived.Shelf.SlSortCmp.WholeK
import Derived.Shelf.SlSortCmp.NoneTotal
set_option maxHeartbeats 8000000
set_option maxRecDepth 100000
namespace Go.Proofs.YtncffcaabnjioaaGreat
open Go.RowKit Go.Maps Go.Sort Go.Shelf
set_option linter.unusedVariables false
attribute [local go_sem] Oper.semAt_some
def SQ (c:M→Int) (x:BA):T:=⟨c x.2.1,x.2.1⟩
theorem qB {w W:World} {P:Program} {k:TypeId} {R:Value→Option (DataW Unit×List MemPlace)} {b n:Nat} {D:DataW Unit} (h:w.ownsMap P k R b n D) (hb:W.heap[b]? =w.heap[b]?):W.ownsMap P k R b n D:=by obtain⟨es,clock,h1,r⟩:=h;exact⟨es,clock,hb.trans h1,r⟩
theorem ZH:(Tryz.prog.info? 47).map (fun i=>(i.zero,i.size,i.bytes))=some (some (.agg #[.int .i64 0,.int .i64 0,.int .i64 0,.int .i64 0,.int .i64 0]),5,40):=by kernel_rfl
theorem uH (c:M→Int) (m:M):∀ms:List M,m∈ms→aL (ms.map fun x=>(⟨c x,x⟩:T)) m=c m
 |[],h=>by cases h
 |x::r,h=>by
  simp only[List.map_cons,aL];by_cases hx:x=m
  ·rw[if_pos (bT.2 hx),hx]
  ·rw[if_neg (fun e=>hx (bT.1 e))];exact uH c m r ((List.mem_cons.1 h).resolve_left (fun e=>hx e.symm))
theorem rK (c:M→Int) (m:M):∀ms:List M,m∉ms→aL (ms.map fun x=>(⟨c x,x⟩:T)) m=0
 |[],_=>rfl
 |x::r,h=>by simp only[List.map_cons,aL];rw[if_neg (fun e=>h (by rw[←bT.1 e];exact List.mem_cons_self ..))];exact rK c m r (fun e=>h (List.mem_cons_of_mem _ e))
theorem OV {α:Type} (key:M→α) (hinj:∀a b:M,a.ok=true→b.ok=true→key a=key b→a=b) {K:List T} (hK:aK K) (ks:List α) (h:∀t∈K,key t.m∈ks):K.length≤ks.length:=by
 letI:DecidableEq α:=fun a b=>Classical.propDecidable (a=b)
 have hnd:(K.map fun t=>key t.m).Nodup:=by
  rw[List.Nodup,List.pairwise_map];refine hK.1.imp_of_mem (S:=fun a b=>key a.m≠key b.m) ?_;intro a b ha hb h e;have:=hinj _ _ (hK.2 a ha).1 (hK.2 b hb).1 e
  rw[this]at h;omega
 have:=qO (K.map fun t=>key t.m) ks hnd (fun x hx=>by
  obtain⟨t,ht,rfl⟩:=List.mem_map.1 hx
  exact h t ht)
 simpa using this
theorem jA {m:M}:∀{L:List T},aL L m≠0→m∈L.map (·.m)
 |[],h=>absurd rfl h
 |t::r,h=>by
  rw[aL]at h;by_cases ht:gB t.m m=true
  ·simp[bT.1 ht]
  ·rw[if_neg ht]at h;simpa using Or.inr (by simpa using jA h)
theorem CM {L:List T} (hL:aK L) {t:T} (ht:t∈L):aL L t.m=t.c:=by
 induction L with
 |nil=>cases ht
 |cons s r ih=>
  rcases List.mem_cons.1 ht with rfl|h
  ·exact bC _ _
  ·have h1:=hL.head t h;rw[gF (fun e=>by rw[e]at h1;omega)];exact ih hL.tail h
theorem BE {w:World} {b n:Nat} {D:DataW Unit} {c:M→Int} (hown:w.ownsMap Tryz.prog 45 (plainElem Tryz.prog 81) b n D) (hat:∀m:M,m.ok=true→D.atKey (dK m) (.lit (.int .i64 0))= .lit (.int .i64 (c m))∧(Maps.has D (dK m)=true↔c m≠0)) (hks:∀kl,Maps.has D kl=true→∃m:M,m.ok=true∧kl=dK m) {K:List T} (hK:aK K) (hKc:∀m,m.ok=true→aL K m=c m):Maps.size D=K.length:=by
 have h1:Maps.size D≤K.length:=by
  have:=BF hown (K.map (·.m)) (fun kl hkl=>by
   obtain⟨m,hm,rfl⟩:=hks kl hkl;refine⟨m,jA ?_,rfl⟩;rw[hKc m hm]
   exact(hat m hm).2.1 hkl)
  simpa using this
 have h2:K.length≤Maps.size D:=by
  obtain⟨es,he,hp⟩:=hown.tidy jZ
  have:=OV dK (fun a b ha hb e=>rZ ha hb e) hK (es.map (·.1)) (fun t ht=>by
   have hto:=hK.2 t ht;have hh:Maps.has D (dK t.m)=true:=(hat t.m hto.1).2.2 (by rw[←hKc t.m hto.1,CM hK ht];omega)
   rw[he,has_eq,List.any_eq_true]at hh;obtain⟨p,hpe,hs⟩:=hh;rw[←WideAt.sameKey_eq hs]
   exact List.mem_map_of_mem hpe)
  rw[he,size_eq];simpa using this
 omega
theorem XN {c:M→Int} (hc:∀m,0≤c m∧c m≤100) {dO:List OM} (hs:dO.Pairwise (fun a b=>dY a.1<dY b.1)) (hm:∀m:M,m.ok=true→(m∈dO.map (·.1)↔c m≠0)) {K:List T} (hK:aK K) (hKc:∀m,m.ok=true→aL K m=c m):(gZ dO 0).map (SQ c)=K:=by
 have hcl:∀x∈gZ dO 0,x.2∈dO:=fun x hx=>by
  unfold gZ at hx;obtain⟨j,hj,rfl⟩:=List.mem_map.1 hx;rw[List.mem_range]at hj;have hi:dO.length-1-j<dO.length:=by omega
  show dO.getD (dO.length-1-j) default∈dO;rw[List.getD_eq_getElem?_getD,List.getElem?_eq_getElem hi];exact List.getElem_mem hi
 have hcl2:∀o∈dO,o.1∈(gZ dO 0).map (fun x=>x.2.1):=fun o ho=>by
  obtain⟨i,hi,rfl⟩:=List.getElem_of_mem ho;refine List.mem_map.2 ⟨kU dO i,?_,?_⟩
  ·unfold gZ;refine List.mem_map.2 ⟨dO.length-1-i,List.mem_range.2 (by omega),?_⟩;rw[show dO.length-1-(dO.length-1-i)=i by omega]
  ·simp[kU,hi]
 have e1:(gZ dO 0).map (SQ c)=((gZ dO 0).map (fun x=>x.2.1)).map (fun x=>(⟨c x,x⟩:T)):=by rw[List.map_map];rfl
 refine mH ⟨?_,?_⟩ hK (fun m hmo=>?_)
 ·rw[List.pairwise_map];unfold gZ;rw[List.pairwise_map];refine(List.pairwise_lt_range (n:=dO.length-0)).imp_of_mem ?_;intro j i hj hi hji;rw[List.mem_range]at hj hi;have:=(List.pairwise_iff_getElem.1 hs) (dO.length-1-i) (dO.length-1-j) (by omega) (by omega) (by omega)
  have g1:(kU dO (dO.length-1-i)).2=dO[dO.length-1-i]'(by omega):=by simp[kU,show dO.length-1-i<dO.length by omega]
  have g2:(kU dO (dO.length-1-j)).2=dO[dO.length-1-j]'(by omega):=by simp[kU,show dO.length-1-j<dO.length by omega]
  show dY (kU dO (dO.length-1-i)).2.1<dY (kU dO (dO.length-1-j)).2.1;rw[g1,g2];exact this
 ·intro t ht;obtain⟨x,hx,rfl⟩:=List.mem_map.1 ht;have h1:=(hm x.2.1 x.2.2).1 (List.mem_map_of_mem (hcl x hx))
  have h2:=hc x.2.1;exact⟨x.2.2,by show 1≤c x.2.1;omega,by show c x.2.1≤100;omega⟩
 ·rw[e1,hKc m hmo];by_cases hn:m∈(gZ dO 0).map (fun x=>x.2.1)
  ·exact uH c m _ hn
  ·rw[rK c m _ hn];have:¬c m≠0:=fun h=>by obtain⟨o,ho,he⟩:=List.mem_map.1 ((hm m hmo).2 h);exact hn (he▸hcl2 o ho)
   omega
end Go.Proofs.YtncffcaabnjioaaGreat
namespace Go.Proofs.YtncffcaabnjioaaGreat
open Go.RowKit Go.Maps Go.Sort Go.Shelf
set_option linter.unusedVariables false
attribute [local go_sem] Oper.semAt_some
theorem VO (hsort:vO) (w:World) (b n:Nat) (c:M→Int) (h:bD w b n c) (hn:n≤1000000) {K:List T} (hK:aK K) (hKc:∀m,m.ok=true→aL K m=c m) (h400:¬K.length≤400):Calls Tryz.prog 55 #[.map (some b)] w fun e w'=>e= .returned (.tuple #[.slice none 0 0,.bool false])∧Below w.heap.size w w':=by
 obtain⟨D,hown,hc,hat,hks⟩:=h;have hsz:=BE hown hat hks hK hKc
 have hblt:=hown.lt;refine(callsIn_wide (n:=9)).1 ?_;refine callsIn_of_wp_marks Tryz.func55 rfl trivial ?_ rfl;simp only[Tryz.ntmps55,List.size_toArray,List.length_cons,List.length_nil,Nat.reduceAdd,Nat.reduceSub,Array.replicate_succ,Array.replicate_zero,List.push_toArray,List.append_toArray,List.nil_append,List.cons_append];have hlen:=(hown.alloc (.cells #[.map (some b)] 77)).len Tryz.underlying77 3
 have HO2:=aA ((hown.alloc (.cells #[.map (some b)] 77)).alloc (.cells #[.slice none 0 0] 24));have HKS:=aA hks
 have HAT:=aA hat;have HOW:=aA hown
 clear hks hat hown;have h4:(400:Int)<(Maps.size D:Int):=by omega
 gi_wp2_with gi_in
 exact⟨_,results_tmp2 rfl _ _ _,rfl,(cE _ w).alloc (Nat.le_refl _) _⟩
def yC (W:World) (Bx:Nat) (m:M):Prop:=W.heap[Bx]? =some (.cells #[.int .i64 m.x,.int .i64 m.y,.int .i64 m.d,.int .i64 m.e] 45 (0,0))
theorem yC.cells {W:World} {Bx:Nat} {m:M} (h:yC W Bx m):W.cell? ⟨Bx,0,none⟩=some (.int .i64 m.x)∧W.cell? ⟨Bx,1,none⟩=some (.int .i64 m.y)∧W.cell? ⟨Bx,2,none⟩=some (.int .i64 m.d)∧W.cell? ⟨Bx,3,none⟩=some (.int .i64 m.e):=by unfold yC at h;refine⟨?_,?_,?_,?_⟩<;>(unfold World.cell?;simp only[h];rfl)
theorem gE {W:World} {base base':Nat} {e:TypeId} {size:Nat} {v:Value} {n:Nat} {xs:List Value} (h:W.ownsRow base e size v n xs) (hb:base'≤base):W.ownsRow base' e size v n xs:=
 ⟨h.1,h.2.imp id (fun⟨g,cap,cur,a,b,r⟩=>⟨g,cap,cur,a,jW hb b,r⟩)⟩
theorem CJ (c:M→Int) (pre:List BA) (x:BA):aF ((pre++[x]).map (SQ c))=aF (pre.map (SQ c))++aF [SQ c x]:=by rw[List.map_append,bF];rfl
theorem VP      (hsort:vO    ) (w:World) (b n:Nat) (c:M→Int) (h:bD   w b n c) (hn:n≤1000000) {K:List T} (hK:aK    K) (hKc:∀m,m.ok=true→aL   K m=c m) (h400:K.length≤400):Calls Tryz.prog 55 #[.map (some b)] w fun e w'=>∃v,e= .returned (.tuple #[v,.bool true])∧Below w.heap.size w w'∧w'.ownsRow w.heap.size 47 5 v K.length (aF     K):=by
 obtain⟨D,hown,hc,hat,hks⟩:=h;have hsz:=BE     hown hat hks hK hKc
 have hblt:=hown.lt;refine(callsIn_wide (n:=9)).1 ?_;refine callsIn_of_wp_marks Tryz.func55 rfl trivial ?_ rfl;simp only[Tryz.ntmps55,List.size_toArray,List.length_cons,List.length_nil,Nat.reduceAdd,Nat.reduceSub,Array.replicate_succ,Array.replicate_zero,List.push_toArray,List.append_toArray,List.nil_append,List.cons_append];have hlen:=(hown.alloc (.cells #[.map (some b)] 77)).len Tryz.underlying77 3
 have HO2:=aA      ((hown.alloc (.cells #[.map (some b)] 77)).alloc (.cells #[.slice none 0 0] 24));have HKS:=aA      hks
 have HAT:=aA      hat;have HOW:=aA      hown
 clear hks hat hown;have h4:(Maps.size D:Int)≤400:=by omega
 gi_wp2_with (first
  |(refine⟨trivial,?_⟩;gi_at_call 102;refine(callsIn_wide.2 (UC      hsort _ b n D HO2.out HKS.out hn)).mono ?_;rintro e W3 ⟨p,cap,dO,rfl,hs3,hm3,hl3,hv3,hp3,hb3⟩)
  |(refine⟨trivial,?_⟩;gi_at_call 101;refine(YZ    (F:=Fence.wide) trivial rfl _ _ _ _).mono ?_;rintro e w' ⟨rfl,rfl⟩)
  |gi_in)
 have hd:dO.length=K.length:=by omega
 obtain⟨Wb,hWb⟩:∃Wb,(w.alloc (.cells #[.map (some b)] 77)).alloc (.cells #[.slice none 0 0] 24)=Wb:=⟨_,rfl⟩
 rw[hWb]at hb3 hp3;have hsb:Wb.heap.size=w.heap.size+2:=by rw[←hWb];simp
 have hBb:Below w.heap.size w Wb:=by rw[←hWb];exact((cE         _ w).alloc (Nat.le_refl _) _).alloc (by simp) _
 have bs0:Boxed Wb w.heap.size 77 (.map (some b)):=by rw[←hWb];exact(Boxed.new w _ _).alloc _
 have bp0:Boxed Wb (w.heap.size+1) 24 (.slice none 0 0):=by rw[←hWb];have:=Boxed.new (w.alloc (.cells #[.map (some b)] 77)) 24 (.slice none 0 0);rwa[World.size_alloc]at this
 have hs3':=hb3.size;obtain⟨W0,hW0⟩:∃W0,W3.alloc (.cells #[.slice p K.length cap] 140)=W0:=⟨_,rfl⟩
 rw[hW0];have hsz0:W0.heap.size=W3.heap.size+1:=by rw[←hW0];simp
 have hold:∀k,k<W3.heap.size→W0.heap[k]? =W3.heap[k]? :=fun k hk=>by rw[←hW0];exact Below.heap_alloc _ _ k hk
 have hB0:Below w.heap.size w W0:=by rw[←hW0];exact(hBb.trans (hb3.mono (by omega))).alloc (by omega) _
 have bs:Boxed W0 w.heap.size 77 (.map (some b)):=(hold _ (by omega)).trans ((hb3.block _ (by omega)).trans bs0);have bp:Boxed W0 (w.heap.size+1) 24 (.slice none 0 0):=(hold _ (by omega)).trans ((hb3.block _ (by omega)).trans bp0)
 have bm:Boxed W0 W3.heap.size 140 (.slice p dO.length cap):=by rw[←hW0,hd];exact Boxed.new W3 _ _
 have hrow0:xX   W0 p (dO.map (·.1)):=hv3.keep (by omega) (fun g e=>hold g (hp3 g e).2);have hpl:∀k,p=some ⟨k,0,none⟩→k<W0.heap.size:=fun k e=>by have:=(hp3 k e).2;omega
 have HL:=aA      (XN     hc hs3 (fun m hm=>(hm3 m hm).trans (HAT.out m hm).2) hK hKc);have HP3:=aA      hp3
 have HSEQ:=aA      (KM        (n:=8) (by omega) W3.heap.size cap p dO (by omega) W0 (by omega) bm.cell hrow0 hpl);clear hW0 hWb hb3 hs3 hm3 hv3 hrow0 hl3 hsz h4 hlen HO2 HKS hold bs0 bp0 hp3
 refine wpIn_rangeFunc_ownH (w0:=W0) rfl (by decide) (gf:=141) (lb:=#[.pointer (some ⟨W3.heap.size,0,none⟩)]) rfl trivial (enters_of Tryz.func141 (by kernel_rfl) rfl) HSEQ.out UB      (UA      (by omega) hpl) (cE         _ _) (fun _=>rfl)
  (fun(pre:List BA) W=>(Boxed W w.heap.size 77 (.map (some b))∧∃v,Boxed W (w.heap.size+1) 24 v∧W.ownsRow W0.heap.size 47 5 v pre.length (aF     (pre.map (SQ  c)))∧True)∧(Below w.heap.size w W∧W0.heap.size≤W.heap.size))
  (fun _ _ _=>False)
  (OwnFrom.and (OwnFrom.and (Own.from (boxed_own _ _ (fun _=>Value.map (some b))) _) (Own.from (holdsRow_own W0.heap.size (w.heap.size+1) 24 47 5 (fun(pre:List BA)=>pre.length) (fun pre=>aF     (pre.map (SQ  c))) (fun _ _=>True)) _)) (OwnFrom.and (ownFrom_below (Nat.le_refl _) (by omega)) (fun _ _ _ _ hs hg _=>jW           hs hg.size)))
  (fun _ _ _ _ _ hs _ _=>hs)
  ⟨⟨bs,_,bp,⟨rfl,.inl ⟨rfl,rfl⟩⟩,trivial⟩,hB0,Nat.le_refl _⟩
  (fun x a' W=>∃Bx,W0.heap.size≤Bx∧yC    W Bx x.2.1∧a'=({tmps:=#[Value.map (some b),Value.pointer (some ⟨w.heap.size,0,none⟩),Value.slice none 0 0,Value.bool false,Value.pointer (some ⟨w.heap.size+1,0,none⟩),undef,Value.pointer (some ⟨Bx,0,none⟩),Value.map (some b),Value.int IntKind.i64 (K.length:Int),Value.bool (decide (400<(K.length:Int))),Value.map (some b),Value.slice p K.length cap,Value.func (Fn.func 141) #[] #[Value.pointer (some ⟨W3.heap.size,0,none⟩)],Value.int IntKind.i64 (x.1:Int),Value.agg #[Value.int IntKind.i64 x.2.1.x,Value.int IntKind.i64 x.2.1.y,Value.int IntKind.i64 x.2.1.d,Value.int IntKind.i64 x.2.1.e],undef,undef,undef,undef,undef,undef,undef,undef,undef],defers:=[]}:Act))
  (fun x a' _ X Y row hs hg hr=>by
   obtain⟨Bx,h1,h2,h3⟩:=hs;refine⟨Bx,h1,(hg.block Bx (Array.getElem?_eq_some_iff.1 h2).1 (fun e=>?_)).trans h2,h3⟩;obtain⟨_,o,ho,hoc⟩:=hr Bx e.symm
   rw[h2]at ho;cases ho;cases hoc)
  ?assign ?body ?done ?stop
 case assign=>
  rintro l pre x W K' ⟨⟨bS,v,bP,hrow,_⟩,hB,hWs⟩ hK';obtain⟨i,m,hm⟩:=x;dsimp only[TM  ]at hK'⊢;have hsB:=hB.size
  gi_wp2
  refine hK' _ _ ((KeepsOthers.alloc _ _).from _) ⟨by simp,fun k hk=>Below.heap_alloc _ _ k ?_⟩ ⟨⟨bS.alloc _,v,bP.alloc _,hrow.alloc _,trivial⟩,hB.alloc hB.size _,by simp;omega⟩ ⟨W.heap.size,?_,World.alloc_heap_new W _,rfl⟩
  ·rcases hk with rfl|hk
   ·omega
   ·have:=hpl k hk;omega
  ·exact hWs
 case body=>
  rintro l pre x a' W hl ⟨r,hr⟩ ⟨⟨bS,v,bP,hrow,_⟩,hB,hWs⟩ ⟨Bx,hBx,hX,rfl⟩ hlt;obtain⟨i,m,hm⟩:=x;dsimp only at hX⊢;obtain⟨i0,hi0,hz0,hz1,hz2⟩:=info_parts ZH   ;have hBxl:Bx<W.heap.size:=(Array.getElem?_eq_some_iff.1 hX).1
  have HROW:=aA      hrow;have HOWN:=aA      (qB            HOW.out (hB.block b hblt))
  have hlt':pre.length<400:=by omega
  have hsB:=hB.size;clear hr hrow
  gi_wp2_with fail
  refine MH        (fun vs:Nat→Value=>({tmps:=#[Value.map (some b),Value.pointer (some ⟨w.heap.size,0,none⟩),Value.slice none 0 0,Value.bool false,Value.pointer (some ⟨w.heap.size+1,0,none⟩),undef,Value.pointer (some ⟨Bx,0,none⟩),Value.map (some b),Value.int IntKind.i64 (K.length:Int),Value.bool (decide (400<(K.length:Int))),Value.map (some b),Value.slice p K.length cap,Value.func (Fn.func 141) #[] #[Value.pointer (some ⟨W3.heap.size,0,none⟩)],Value.int IntKind.i64 (i:Int),Value.agg #[Value.int IntKind.i64 m.x,Value.int IntKind.i64 m.y,Value.int IntKind.i64 m.d,Value.int IntKind.i64 m.e],vs 0,vs 1,vs 2,vs 3,vs 4,vs 5,vs 6,vs 7,undef],defers:=[]}:Act))
   (fun k u z=>match k with
    |0=>z=v
    |1=>z=Value.map (some b)
    |2=>z=Value.agg #[Value.int IntKind.i64 m.x,Value.int IntKind.i64 m.y,Value.int IntKind.i64 m.d,Value.int IntKind.i64 m.e]
    |3=>z=Value.int IntKind.i64 (c m)
    |4=>z=Value.agg #[Value.int IntKind.i64 m.x,Value.int IntKind.i64 m.y,Value.int IntKind.i64 m.d,Value.int IntKind.i64 m.e]
    |5=>z=Value.agg #[Value.int IntKind.i64 (c m),Value.int IntKind.i64 m.x,Value.int IntKind.i64 m.y,Value.int IntKind.i64 m.d,Value.int IntKind.i64 m.e]
    |6=>∃bb,z=Value.slice (some ⟨bb,0,none⟩) 1 1∧bb<u.heap.size∧u.heap[bb]? =some (.cells #[Value.int IntKind.i64 (c m),Value.int IntKind.i64 m.x,Value.int IntKind.i64 m.y,Value.int IntKind.i64 m.d,Value.int IntKind.i64 m.e] 47 (0,0))
    |_=>True) 9 7 W
   (fun u z=>∃g0 cap0,z=Value.slice (some ⟨g0,0,none⟩) (pre.length+1) cap0∧u.ownsRow W0.heap.size 47 5 z (pre.length+1) (aF     (pre.map (SQ  c))++aF     [(⟨c m,m⟩:T)])∧Below W0.heap.size W u∧KeepsOthers W u)
   (fun u=>KeepsFrom W0.heap.size W u∧wJ    W3.heap.size p W u∧(Boxed u w.heap.size 77 (.map (some b))∧∃v,Boxed u (w.heap.size+1) 24 v∧u.ownsRow W0.heap.size 47 5 v (pre.length+1) (aF     (pre.map (SQ  c))++aF     [(⟨c m,m⟩:T)])∧True)∧(Below w.heap.size w u∧W0.heap.size≤u.heap.size))
   (by kernel_rfl) (by kernel_rfl) (fun⟨_,_,hq⟩=>hq) ?_ ?_ ?_
  ·exact RS.start (fun _=>undef) rfl
  ·intro l' b0 u hI i' hi;obtain⟨vs,rfl,hsz',hcl,hf,hy,hz⟩:=hI
   have hPm:∀k u u' z,(fun(k:Nat) (u:World) (z:Value)=>match k with
    |0=>z=v
    |1=>z=Value.map (some b)
    |2=>z=Value.agg #[Value.int IntKind.i64 m.x,Value.int IntKind.i64 m.y,Value.int IntKind.i64 m.d,Value.int IntKind.i64 m.e]
    |3=>z=Value.int IntKind.i64 (c m)
    |4=>z=Value.agg #[Value.int IntKind.i64 m.x,Value.int IntKind.i64 m.y,Value.int IntKind.i64 m.d,Value.int IntKind.i64 m.e]
    |5=>z=Value.agg #[Value.int IntKind.i64 (c m),Value.int IntKind.i64 m.x,Value.int IntKind.i64 m.y,Value.int IntKind.i64 m.d,Value.int IntKind.i64 m.e]
    |6=>∃bb,z=Value.slice (some ⟨bb,0,none⟩) 1 1∧bb<u.heap.size∧u.heap[bb]? =some (.cells #[Value.int IntKind.i64 (c m),Value.int IntKind.i64 m.x,Value.int IntKind.i64 m.y,Value.int IntKind.i64 m.d,Value.int IntKind.i64 m.e] 47 (0,0))
    |_=>True) k u z→Below u.heap.size u u'→(fun(k:Nat) (u:World) (z:Value)=>match k with
    |0=>z=v
    |1=>z=Value.map (some b)
    |2=>z=Value.agg #[Value.int IntKind.i64 m.x,Value.int IntKind.i64 m.y,Value.int IntKind.i64 m.d,Value.int IntKind.i64 m.e]
    |3=>z=Value.int IntKind.i64 (c m)
    |4=>z=Value.agg #[Value.int IntKind.i64 m.x,Value.int IntKind.i64 m.y,Value.int IntKind.i64 m.d,Value.int IntKind.i64 m.e]
    |5=>z=Value.agg #[Value.int IntKind.i64 (c m),Value.int IntKind.i64 m.x,Value.int IntKind.i64 m.y,Value.int IntKind.i64 m.d,Value.int IntKind.i64 m.e]
    |6=>∃bb,z=Value.slice (some ⟨bb,0,none⟩) 1 1∧bb<u.heap.size∧u.heap[bb]? =some (.cells #[Value.int IntKind.i64 (c m),Value.int IntKind.i64 m.x,Value.int IntKind.i64 m.y,Value.int IntKind.i64 m.d,Value.int IntKind.i64 m.e] 47 (0,0))
    |_=>True) k u' z:=by
    intro k u u' z hp hbl;match k with
    |0|1|2|3|4|5=>exact hp
    |6=>obtain⟨bb,h1,h2,h3⟩:=hp;exact⟨bb,h1,lG                 h2 hbl.size,(hbl.block bb h2).trans h3⟩
    |_+7=>trivial
   have hl0:=(mem_ready.1 hi).1;have hi9:i'<9:=by obtain⟨_,o,ho,_⟩:=mem_ready.1 hi;exact(Array.getElem?_eq_some_iff.1 ho).1
   rcases(show i'=0∨i'=1∨i'=2∨i'=3∨i'=4∨i'=5∨i'=6∨i'=7∨i'=8 from by omega)with rfl|rfl|rfl|rfl|rfl|rfl|rfl|rfl|rfl
   ·have hA:l'.getD 7 false=false:=by
     cases hx:l'.getD 7 false
     ·rfl
     ·have hx0:=hcl.dep (i:=7) rfl hx 0 (by kernel_rfl);exact(dI        hl0 hx0).elim
    have hA1:l'.getD (7+1) false=false:=by
     cases hx:l'.getD (7+1) false
     ·rfl
     ·have hx0:=hcl.dep (i:=8) rfl hx 7 (by kernel_rfl);rw[hA]at hx0;cases hx0
    have hbu:=(hf hA).1;have p0:u.cell? ⟨w.heap.size+1,0,none⟩=some v:=(lH                   (w:=W) (a:=⟨w.heap.size+1,0,none⟩) (hbu.block (w.heap.size+1) (by omega))).trans bP.cell
    refine wpOp_step rfl (fun K' hK'=>?_);go_simp;refine hK' _ _ ?_;exact RS.step 0 (v) hPm hi rfl hA hA1 (by decide) hsz' hcl hf (cE         _ u) rfl rfl
   ·have hA:l'.getD 7 false=false:=by
     cases hx:l'.getD 7 false
     ·rfl
     ·have hx6:=hcl.dep (i:=7) rfl hx 6 (by kernel_rfl);have hx5:=hcl.dep (i:=6) rfl hx6 5 (by kernel_rfl)
      have hx3:=hcl.dep (i:=5) rfl hx5 3 (by kernel_rfl);have hx1:=hcl.dep (i:=3) rfl hx3 1 (by kernel_rfl)
      exact(dI        hl0 hx1).elim
    have hA1:l'.getD (7+1) false=false:=by
     cases hx:l'.getD (7+1) false
     ·rfl
     ·have hx0:=hcl.dep (i:=8) rfl hx 7 (by kernel_rfl);rw[hA]at hx0;cases hx0
    have hbu:=(hf hA).1;have p1:u.cell? ⟨w.heap.size,0,none⟩=some (.map (some b)):=(lH                   (w:=W) (a:=⟨w.heap.size,0,none⟩) (hbu.block w.heap.size (by omega))).trans bS.cell
    refine wpOp_step rfl (fun K' hK'=>?_);go_simp;refine hK' _ _ ?_;exact RS.step 1 (Value.map (some b)) hPm hi rfl hA hA1 (by decide) hsz' hcl hf (cE         _ u) rfl rfl
   ·have hA:l'.getD 7 false=false:=by
     cases hx:l'.getD 7 false
     ·rfl
     ·have hx6:=hcl.dep (i:=7) rfl hx 6 (by kernel_rfl);have hx5:=hcl.dep (i:=6) rfl hx6 5 (by kernel_rfl)
      have hx3:=hcl.dep (i:=5) rfl hx5 3 (by kernel_rfl);have hx2:=hcl.dep (i:=3) rfl hx3 2 (by kernel_rfl)
      exact(dI        hl0 hx2).elim
    have hA1:l'.getD (7+1) false=false:=by
     cases hx:l'.getD (7+1) false
     ·rfl
     ·have hx0:=hcl.dep (i:=8) rfl hx 7 (by kernel_rfl);rw[hA]at hx0;cases hx0
    have hbu:=(hf hA).1;have hXu:yC    u Bx m:=(hbu.block Bx hBxl).trans hX
    obtain⟨x0,x1,x2,x3⟩:=hXu.cells;refine wpOp_step rfl (fun K' hK'=>?_);go_simp;refine hK' _ _ ?_;exact RS.step 2 (Value.agg #[Value.int IntKind.i64 m.x,Value.int IntKind.i64 m.y,Value.int IntKind.i64 m.d,Value.int IntKind.i64 m.e]) hPm hi rfl hA hA1 (by decide) hsz' hcl hf (cE         _ u) rfl rfl
   ·have hA:l'.getD 7 false=false:=by
     cases hx:l'.getD 7 false
     ·rfl
     ·have hx6:=hcl.dep (i:=7) rfl hx 6 (by kernel_rfl);have hx5:=hcl.dep (i:=6) rfl hx6 5 (by kernel_rfl)
      have hx3:=hcl.dep (i:=5) rfl hx5 3 (by kernel_rfl);exact(dI        hl0 hx3).elim
    have hA1:l'.getD (7+1) false=false:=by
     cases hx:l'.getD (7+1) false
     ·rfl
     ·have hx0:=hcl.dep (i:=8) rfl hx 7 (by kernel_rfl);rw[hA]at hx0;cases hx0
    have hbu:=(hf hA).1;have e1:vs 1=Value.map (some b):=(hf hA).2 1 (bU         hi rfl 1 (by kernel_rfl))
    have e2:vs 2=Value.agg #[Value.int IntKind.i64 m.x,Value.int IntKind.i64 m.y,Value.int IntKind.i64 m.d,Value.int IntKind.i64 m.e]:=(hf hA).2 2 (bU         hi rfl 2 (by kernel_rfl));have hownu:u.ownsMap Tryz.prog 45 (plainElem Tryz.prog 81) b n D:=qB            HOWN.out (hbu.block b (by omega))
    refine wpOp_step rfl (fun K' hK'=>?_);refine EK          rfl (.tmp 16) (.tmp 17) 77 rfl 45 81 .i64 jZ   Tryz.underlying77 Tryz.underlying81 (SM    _) b n D e1 hownu _ _ e2 (lU     hm) ?_;intro c1 hat1;obtain rfl:c1=c m:=by rw[(HAT.out m hm).1]at hat1;simpa using hat1.symm
    refine hK' _ _ ?_;exact RS.step 3 (Value.int IntKind.i64 (c m)) hPm hi rfl hA hA1 (by decide) hsz' hcl hf (cE         _ u) rfl rfl
   ·have hA:l'.getD 7 false=false:=by
     cases hx:l'.getD 7 false
     ·rfl
     ·have hx6:=hcl.dep (i:=7) rfl hx 6 (by kernel_rfl);have hx5:=hcl.dep (i:=6) rfl hx6 5 (by kernel_rfl)
      have hx4:=hcl.dep (i:=5) rfl hx5 4 (by kernel_rfl);exact(dI        hl0 hx4).elim
    have hA1:l'.getD (7+1) false=false:=by
     cases hx:l'.getD (7+1) false
     ·rfl
     ·have hx0:=hcl.dep (i:=8) rfl hx 7 (by kernel_rfl);rw[hA]at hx0;cases hx0
    have hbu:=(hf hA).1;have hXu:yC    u Bx m:=(hbu.block Bx hBxl).trans hX
    obtain⟨x0,x1,x2,x3⟩:=hXu.cells;refine wpOp_step rfl (fun K' hK'=>?_);go_simp;refine hK' _ _ ?_;exact RS.step 4 (Value.agg #[Value.int IntKind.i64 m.x,Value.int IntKind.i64 m.y,Value.int IntKind.i64 m.d,Value.int IntKind.i64 m.e]) hPm hi rfl hA hA1 (by decide) hsz' hcl hf (cE         _ u) rfl rfl
   ·have hA:l'.getD 7 false=false:=by
     cases hx:l'.getD 7 false
     ·rfl
     ·have hx6:=hcl.dep (i:=7) rfl hx 6 (by kernel_rfl);have hx5:=hcl.dep (i:=6) rfl hx6 5 (by kernel_rfl)
      exact(dI        hl0 hx5).elim
    have hA1:l'.getD (7+1) false=false:=by
     cases hx:l'.getD (7+1) false
     ·rfl
     ·have hx0:=hcl.dep (i:=8) rfl hx 7 (by kernel_rfl);rw[hA]at hx0;cases hx0
    have hbu:=(hf hA).1;have e3:vs 3=Value.int IntKind.i64 (c m):=(hf hA).2 3 (bU         hi rfl 3 (by kernel_rfl))
    have e4:vs 4=Value.agg #[Value.int IntKind.i64 m.x,Value.int IntKind.i64 m.y,Value.int IntKind.i64 m.d,Value.int IntKind.i64 m.e]:=(hf hA).2 4 (bU         hi rfl 4 (by kernel_rfl));refine wpOp_step rfl (fun K' hK'=>?_);go_simp;refine hK' _ _ ?_;exact RS.step 5 (Value.agg #[Value.int IntKind.i64 (c m),Value.int IntKind.i64 m.x,Value.int IntKind.i64 m.y,Value.int IntKind.i64 m.d,Value.int IntKind.i64 m.e]) hPm hi rfl hA hA1 (by decide) hsz' hcl hf (cE         _ u) rfl (by first|(rw[←e3,←e4];done)|(rw[←e3,←e4];rfl))
   ·have hA:l'.getD 7 false=false:=by
     cases hx:l'.getD 7 false
     ·rfl
     ·have hx6:=hcl.dep (i:=7) rfl hx 6 (by kernel_rfl);exact(dI        hl0 hx6).elim
    have hA1:l'.getD (7+1) false=false:=by
     cases hx:l'.getD (7+1) false
     ·rfl
     ·have hx0:=hcl.dep (i:=8) rfl hx 7 (by kernel_rfl);rw[hA]at hx0;cases hx0
    have hbu:=(hf hA).1;have e5:vs 5=Value.agg #[Value.int IntKind.i64 (c m),Value.int IntKind.i64 m.x,Value.int IntKind.i64 m.y,Value.int IntKind.i64 m.d,Value.int IntKind.i64 m.e]:=(hf hA).2 5 (bU         hi rfl 5 (by kernel_rfl))
    refine wpOp_step rfl (fun K' hK'=>?_);go_simp;refine hK' _ _ ?_;exact RS.step 6 (Value.slice (some ⟨u.heap.size,0,none⟩) 1 1) hPm hi rfl hA hA1 (by decide) hsz' hcl hf (aC      u _) ⟨u.heap.size,rfl,by simp,heap_alloc_new u _⟩ (by first|(rw[←e5];done)|(rw[←e5];rfl))
   ·have hA:l'.getD 7 false=false:=by rw[Array.getD_eq_getD_getElem?,bA         hl0];rfl
    have hA1:l'.getD (7+1) false=false:=by
     cases hx:l'.getD (7+1) false
     ·rfl
     ·have hx0:=hcl.dep (i:=8) rfl hx 7 (by kernel_rfl);rw[hA]at hx0;cases hx0
    have hbu:=(hf hA).1;have e0:vs 0=v:=(hf hA).2 0 (bU         hi rfl 0 (by kernel_rfl))
    obtain⟨bb,e1,hbl,hbc⟩:=(hf hA).2 6 (bU         hi rfl 6 (by kernel_rfl));have hsu:=hbu.size
    have HOX:=dW         HROW.out hbu;refine wpOp_step rfl (fun K' hK'=>?_);refine step_append_lies _ rfl (.tmp 15) (.tmp 21) 24 rfl W0.heap.size 47 i0 _ 5 40 Tryz.underlying24 hi0 hz0 hz1 hz2 rfl (by omega) _ pre.length (aF     (pre.map (SQ  c))) e0 HOX ⟨bb,0,none⟩ 1 1 (aF     [(⟨c m,m⟩:T)]) e1 (by rw[aU           ];rfl) (by rw[dG        ];exact World.news_of_block hbc) (dN        _) (by omega) (by unfold maxLen;omega) (by omega) (by omega) _ rfl ?_;intro g0 cap0 w9 hown1 hgrow hat1 hlt1;refine hK' _ _ ?_;have hrw:∀k,v.ownBlock=some k→W0.heap.size≤k:=fun k hk=>(HOX.lt k hk).1
    refine RS.last (.slice (some ⟨g0,0,none⟩) (pre.length+1) cap0) hi rfl (by decide) hA1 hsz' hcl ⟨g0,cap0,rfl,hown1,?_,?_⟩ rfl
    ·exact(hbu.mono hWs).grown hgrow (by omega) (fun k hk=>hrw k hk)
    ·refine(KeepsOthers.mk hbu.size (fun k o hk ho=>(hbu.block k (Array.getElem?_eq_some_iff.1 hk).1).trans hk)).trans (KeepsOthers.of_grownBy hgrow fun j o ej hj=>?_);rcases HOX.2 with⟨rfl,_⟩|⟨g,cap1,cur,rfl,_,hgb,_⟩
     ·simp[Value.ownBlock]at ej
     ·obtain rfl:g=j:=by simpa[Value.ownBlock]using ej
      rw[hgb]at hj;cases hj;rfl
   ·have hAt:l'.getD 7 false=true:=bU         hi rfl 7 (by kernel_rfl);have hA1:l'.getD (7+1) false=false:=by rw[Array.getD_eq_getD_getElem?,bA         hl0];rfl
    obtain⟨g0,cap0,e7,hown1,hbW,hkW⟩:=hy hAt hA1;have bPu:Boxed u (w.heap.size+1) 24 v:=(hbW.block _ (by omega)).trans bP
    have bSu:Boxed u w.heap.size 77 (.map (some b)):=(hbW.block _ (by omega)).trans bS;have p0:=bPu.cell
    have q0:=bPu.frozen;have hsu:=hbW.size
    rw[e7]at hown1;refine wpOp_step rfl (fun K' hK'=>?_);go_simp;refine hK' _ _ ?_;refine RS.put hi rfl hAt (by decide) hsz' hcl ⟨(hkW.trans (KeepsOthers.setCell _ _ _)).from _,⟨?_,fun k hk=>?_⟩,⟨bSu.other (by omega) _,_,bPu.set _,hown1.kept (grownBy_setCell' u _ _) (.inr (bPu.not_row (by decide) hown1).symm),trivial⟩,((hB.trans (hbW.mono (by omega))).setCell (p:=⟨w.heap.size+1,0,none⟩) (by simp) _),?_⟩ (by first|(rw[←e7];done)|(rw[←e7];rfl)|rfl)
    ·exact jW           hsu (grownBy_setCell' u _ _).size
    ·have hkl:k<W0.heap.size∧k≠w.heap.size+1:=by
      rcases hk with rfl|hk
      ·omega
      ·have h1:=hpl k hk;have h2:=(HP3.out k hk).1
       omega
     rw[Below.heap_setCell _ _ _ k hkl.2];exact hbW.block k hkl.1
    ·exact jW           (jW           hWs hsu) (grownBy_setCell' u _ _).size
  ·intro l' b0 u hI hr;obtain⟨vs,rfl,hsz',hcl,hf,hy,hz⟩:=hI;have hall:=yD        (by kernel_rfl) hr hsz'
   obtain⟨z1,z2,⟨z3,v',z4,z5,_⟩,z6,z7⟩:=hz (hall 8 (by decide));exact⟨z1,z2,⟨z3,v',z4,by rw[CJ         ,List.length_append];exact z5,trivial⟩,z6,z7⟩
 case done=>
  rintro D' xs W hD rfl ⟨⟨bS,v,bP,hrow,_⟩,hB,hWs⟩ hKd;have cP:=bP.cell
  gi_wp2
  refine⟨by simp,.inl ⟨_,_,rfl,run_takeDeferred hKd,?_⟩⟩;refine⟨_,results_tmp2 rfl _ _ _,v,rfl,hB.trans (belowK_b (w:=w) (Nat.le_refl _) W D' _ _ (by omega) hKd rfl rfl),?_⟩;have:=ownsRow_putObj hrow (.deferred none) hKd rfl
  rw[HL.out,rM          ,Nat.sub_zero,hd]at this;exact gE          this (by omega)
 case stop=>
  rintro D' c' pre W _ _ h _;exact h.elim
end Go.Proofs.YtncffcaabnjioaaGreat
namespace Go.Proofs.YtncffcaabnjioaaGreat
open Go.RowKit Go.Maps Go.Sort Go.Shelf Go.Lib
set_option linter.unusedVariables false
theorem RK:vO:=by
 have eg:∀args w,(callFunc 144 args).run Tryz.prog w= .ok (.enter 144 args) w:=enters_of Tryz.func144 (by kernel_rfl) rfl;refine⟨fun Br W gb cap d hB hne hr hH hgb hsz=>?_,fun p cap fv W=>?_⟩
 ·have hcon:=AnyQ.slices_SortFunc sortM 4 (fun w=>Tryz.isAgg45 w) (fun w=>Tryz.sizeOf45 w) dZ (fun _=>rfl) (fun x v hv=>by simp[dZ]at hv;rcases hv with rfl|rfl|rfl|rfl<;>rfl) (fun x y=>c3 (dY x.1) (dY y.1)) Bu 144 #[.pointer (some ⟨Br,0,none⟩)] gb 0 cap d W eg (NW Br gb 0 d.size W hB hne hr) hH hgb hsz;exact hcon
 ·exact AnyF.slices_SortFunc_none {sortM with} p cap fv W
end Go.Proofs.YtncffcaabnjioaaGreat
