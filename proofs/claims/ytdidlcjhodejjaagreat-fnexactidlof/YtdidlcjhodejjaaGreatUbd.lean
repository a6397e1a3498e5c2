/-
  The program's least basis: what is left of one; rows put together (slices.Grow, slices.Concat).
-/
import Derived.Test.YtdidlcjhodejjaaGreatUbc
import Derived.Lib.AppendZeros
import Derived.Shelf.RegionOpenPlain
namespace Go.Proofs.YtdidlcjhodejjaaGreat
open Go.RowKit Go.Deep Go.Joins
set_option linter.unusedVariables false
def lftR (o:Int):Option Dv→Option (List T)
 | some S=>if S.r.length=0 then none else some (monL o S.r)
 | none=>none
theorem lftL_R (o:Int) (p:List T) (oth:List (List T)):lftL o p oth=lftR o (redAll o p oth.length (lN (Lof oth)) (fN (Lof oth))):=by
 unfold lftL lftR
 cases redAll o p oth.length (lN (Lof oth)) (fN (Lof oth)) <;> rfl
set_option maxRecDepth 100000 in
set_option maxHeartbeats 4000000 in
theorem idlLeftI (w:World) (o:Int) (pa:Option Addr) (pc:Nat) (p:List T) (a:Option Addr) (n cap:Nat) (ad:Nat→Option Addr) (cp:Nat→Nat) (L:Nat→List T) (ho:1≤o∧o≤3) (hp:RL w pa pc p) (h:RdS w a n cap ad (lN L) cp (fN L)) {R:Option Dv} (hR:redAll o p n (lN L) (fN L)=R) :
  Calls Tryz.prog 50 #[.int .i64 o,.slice pa p.length pc,.slice a n cap] w fun r w'=>Below w.heap.size w w'∧((∃ Y a' c',lftR o R=some Y∧r=.returned (.tuple #[.slice a' Y.length c',.bool true])∧Out w.heap.size w' a' c' Y)∨(lftR o R=none∧r=.returned (.tuple #[.slice none 0 0,.bool false]))):=by
 have HC:=Hid.mk' (redAllI' w o pa pc p a n cap ad (lN L) cp (fN L) hp h hR)
 have HL0:Hid (∀ (W:World) (la:Option Addr) (lc:Nat),RL W la lc []→Calls Tryz.prog 23 #[.int .i64 o,.slice la 0 lc] W fun r w'=>r=.returned (.tuple #[.agg #[.int .i64 0,.int .i64 0,.int .i64 0,.int .i64 0,.int .i64 0],.bool false])∧Below W.heap.size W w'):=fun W la lc hW=>by
  have e1:leadOk o 0 (lf [])=false:=by simp [leadOk]
  have:=polLeadI W o la 0 lc (lf []) hW
  rw [leadT_no e1,e1] at this
  exact this
 have hok:∀ S,R=some S→okL S.r=true:=fun S e=>(redAll_rest (hR.trans e)).1
 have HOK:=Hid.mk' hok
 have hbd:=(res_bd (o:=o) (p:=p) (n:=n) (ln:=lN L) (f:=fN L)).2.2
 rw [hR] at hbd
 clear hp h hR hok
 have hnone:∀ r:List T,resL R=r→r.length=0→lftR o R=none→Calls Tryz.prog 50 #[.int .i64 o,.slice pa p.length pc,.slice a n cap] w fun r w'=>Below w.heap.size w w'∧((∃ Y a' c',lftR o R=some Y∧r=.returned (.tuple #[.slice a' Y.length c',.bool true])∧Out w.heap.size w' a' c' Y)∨(lftR o R=none∧r=.returned (.tuple #[.slice none 0 0,.bool false]))):=fun r er h0 hn=>by
  have e0:resL R=[]:=by rw [er];exact List.length_eq_zero_iff.1 h0
  have HN:=Hid.mk' hn
  have HE:=Hid.mk' e0
  clear er h0 hn e0
  go_enter Tryz.func50,Tryz.ntmps50
  go_wp2_with fail
  refine HC.out.mono ?_
  rintro r w1 ⟨qa,qc,ad',cp',Rb,B,la,lc,mid,rfl,hb,_,hO,_⟩
  have HB:=Hid.mk' hb
  have hO1:=hO.1
  rw [HE.out] at hO1 ⊢
  have HO:=Hid.mk' hO1
  clear hb hO hO1 HC
  simp only [List.length_nil]
  go_wp2_with fail
  refine (HL0.out w1 la lc HO.out).mono ?_
  rintro r w2 ⟨rfl,hb2⟩
  have HB2:=Hid.mk' (bel_next (bel_next HB.out hb2) (bel_one w2 (.cells #[.int .i64 0,.int .i64 0,.int .i64 0,.int .i64 0,.int .i64 0] 42)))
  clear hb2
  go_wp2
  refine bodyPost_ret (results_tmp2 rfl _ _ _) rfl ?_
  exact ⟨HB2.out,.inr ⟨HN.out,rfl⟩⟩
 cases R with
 | none=>exact hnone [] rfl rfl rfl
 | some S=>
  by_cases h0:S.r.length=0
  ·exact hnone S.r rfl h0 (if_pos h0)
  ·have hY:lftR o (some S)=some (monL o S.r):=if_neg h0
   have hS:=HOK.out S rfl
   have e1:leadOk o S.r.length (lf S.r)=true:=ldB_iff.2 ⟨ho,hS,fun e=>h0 (by rw [e];rfl)⟩
   have t1:leadT o S.r.length (lf S.r)=ldL o S.r:=leadT_yes e1
   have hm:monL o S.r=polScale (fInv (ldL o S.r).c) (lf S.r) S.r.length:=rfl
   obtain ⟨Y,hYe⟩:∃ Y,monL o S.r=Y:=⟨_,rfl⟩
   obtain ⟨t,ht⟩:∃ t,ldL o S.r=t:=⟨_,rfl⟩
   have hYl:Y.length≤400:=by rw [← hYe,hm];exact polScale_len _ _ _
   rw [ht] at t1 hm
   rw [hYe] at hY hm
   obtain ⟨k,hk⟩:∃ k,fInv t.c=k:=⟨_,rfl⟩
   rw [hk] at hm
   have HLD:Hid (∀ (W:World) (la:Option Addr) (lc:Nat),RL W la lc S.r→Calls Tryz.prog 23 #[.int .i64 o,.slice la S.r.length lc] W fun r w'=>r=.returned (.tuple #[.agg #[.int .i64 t.c,.int .i64 t.m.x,.int .i64 t.m.y,.int .i64 t.m.d,.int .i64 t.m.e],.bool true])∧Below W.heap.size W w'):=fun W la lc hW=>by
    have:=polLeadI W o la S.r.length lc (lf S.r) hW
    rw [t1,e1] at this
    exact this
   have HSC:Hid (∀ (W:World) (la:Option Addr) (lc:Nat),RL W la lc S.r→Calls Tryz.prog 30 #[.int .i64 k,.slice la S.r.length lc] W fun r w'=>∃ a' c',r=.returned (.slice a' Y.length c')∧Below W.heap.size W w'∧Out W.heap.size w' a' c' Y):=fun W la lc hW=>by
    refine (polScaleI W k la S.r.length lc (lf S.r) hW).mono ?_
    rintro r w' ⟨v,rfl,hb,hown⟩
    rw [← hm] at hown
    obtain ⟨a',c',rfl,hO⟩:=out_of_owns hown (by omega)
    exact ⟨a',c',rfl,hb,hO⟩
   have hinv:=invI t.c
   rw [hk] at hinv
   have HIV:=Hid.mk' hinv
   have HYY:=Hid.mk' hY
   clear hS e1 t1 hm hYe ht hk hinv hnone hY hbd
   go_enter Tryz.func50,Tryz.ntmps50
   go_wp2_with fail
   refine HC.out.mono ?_
   rintro r w1 ⟨qa,qc,ad',cp',Rb,B,la,lc,mid,rfl,hb,_,hO,_⟩
   have HB:=Hid.mk' hb
   have HO:Hid (RL w1 la lc S.r):=hO.1
   clear hb hO HC
   simp only [resL]
   go_wp2_with fail
   refine (HLD.out w1 la lc HO.out).mono ?_
   rintro r w2 ⟨rfl,hb2⟩
   have bx:=bel_one w2 (.cells #[.int .i64 t.c,.int .i64 t.m.x,.int .i64 t.m.y,.int .i64 t.m.d,.int .i64 t.m.e] 42)
   have HB2:=Hid.mk' (bel_next (bel_next HB.out hb2) bx)
   have HO2:=Hid.mk' (Rd.below (Rd.below HO.out hb2) bx)
   obtain ⟨y0,y1,y2,y3,y4⟩:=C5.box w2 42 t
   have hsz:w.heap.size≤w2.heap.size:=by have:=HB2.out.size;have:=HB.out.size;have:=hb2.size;omega
   clear hb2 bx HO HB
   go_wp2_with fail
   refine (HIV.out _).mono ?_
   rintro r w3 ⟨rfl,hw3⟩
   obtain rfl:=hw3.symm
   clear hw3
   go_wp2_with fail
   generalize (w2.alloc (.cells #[.int .i64 t.c,.int .i64 t.m.x,.int .i64 t.m.y,.int .i64 t.m.d,.int .i64 t.m.e] 42))=w3 at HB2 HO2 ⊢
   refine (HSC.out w3 la lc HO2.out).mono ?_
   rintro r w4 ⟨a',c',rfl,hb4,hO4⟩
   have HB4:=Hid.mk' (bel_next HB2.out hb4)
   have HO4:Hid (Out w.heap.size w4 a' c' Y):=⟨hO4.1,hO4.2.1,hO4.2.2.imp id (fun ⟨g,off,e,hg⟩=>⟨g,off,e,by have:=HB2.out.size;omega⟩)⟩
   clear hb4 hO4 y0 y1 y2 y3 y4
   go_wp2
   refine bodyPost_ret (results_tmp2 rfl _ _ _) rfl ?_
   exact ⟨HB4.out,.inl ⟨Y,a',c',HYY.out,rfl,HO4.out⟩⟩
theorem info_glP:∃ i:TypeInfo,Tryz.prog.info? 45=some i∧i.zero=some (.slice none 0 0)∧i.size=1∧i.bytes=24:=info_parts infoGl
set_option maxRecDepth 100000 in
set_option maxHeartbeats 4000000 in
theorem growI (w:World) (k:Nat) (hk:k≤100) :
  Calls Tryz.prog 93 #[.slice none 0 0,.int .i64 (k:Int)] w fun r w'=>∃ tv,r=.returned tv∧Below w.heap.size w w'∧w'.ownsRow w.heap.size 45 1 tv 0 []:=by
 obtain ⟨i0,hi0,hz0,hz1,hz2⟩:=info_glP
 have hkI:(k:Int)≤100:=by omega
 have hk0:¬ (k:Int)<0:=by omega
 by_cases h0:k=0
 ·subst h0
  go_enter Tryz.func93,Tryz.ntmps93
  go_wp2
  go_ret
  exact ⟨_,rfl,Below.refl _ _,⟨rfl,.inl ⟨rfl,rfl⟩⟩⟩
 ·have hpos:(0:Int)<(k:Int):=by omega
  have hrun:=fun ty=>Lib.run_append_nil_zeros (P:=Tryz.prog) w 24 3 ty 45 i0 _ .i64 .i64 Tryz.underlying24 Tryz.underlying3 hi0 hz0 k (by omega) (by omega) (by omega) (by rw [hz2];omega)
  have hge:=grownCap_ge w k 0 45
  have hle:=grownCap_le_maxLen w k 0 45 (by unfold maxLen;omega)
  obtain ⟨C,hC⟩:∃ C,grownCap w k 0 45=C:=⟨_,rfl⟩
  rw [hC] at hge hle
  simp only [hC] at hrun
  obtain ⟨cur,hcur⟩:∃ cur,Builtin.zeroCells (Value.slice none 0 0).cells k ++ Builtin.zeroCells (Value.slice none 0 0).cells (C - k)=cur:=⟨_,rfl⟩
  have hsz:cur.size=C * 1:=by
   rw [← hcur]
   simp [Builtin.zeroCells,Value.cells]
   omega
  simp only [hcur] at hrun
  have HOW:=Hid.mk' (World.ownsRow_made (base:=w.heap.size) (e:=45) (size:=1) w.drew cur C (Nat.le_refl _) hle hsz)
  have HBL:=Hid.mk' ((Below.refl w.heap.size w).drew.alloc (Nat.le_refl _) (.cells cur 45))
  clear hC hcur hsz hz0 hz1 hz2 hi0 hge
  go_enter Tryz.func93,Tryz.ntmps93
  go_wp2_with (at_builtin;refine Lib.wpList_append_run _ rfl _ _ _ _ rfl _ _ rfl rfl _ _ (hrun _) ?_;clear hrun)
  go_ret
  exact ⟨_,rfl,HBL.out,HOW.out⟩
end Go.Proofs.YtdidlcjhodejjaaGreat
namespace Go.Proofs.YtdidlcjhodejjaaGreat
open Go.RowKit Go.Deep Go.Joins
set_option linter.unusedVariables false
theorem RdE.news {w:World} {b off c:Nat} {es:List E} (h:RdE w (some ⟨b,off,none⟩) c es):∀ j u,(es.map E.v)[j]? = some u→w.cell? ((⟨b,off,none⟩:Addr).add j)=some u:=by
 have:=h.newsTo es.length
 rwa [List.take_length] at this
theorem RdE.takeE {w:World} {a:Option Addr} {c:Nat} {es:List E} (h:RdE w a c es) {k:Nat} (hk:k≤es.length):RdE w a c (es.take k):=by
 have hl:(es.take k).length=k:=by rw [List.length_take];omega
 refine ⟨by rw [hl];have:=h.1;omega,by rw [hl];have:=h.2.1;omega,?_,fun e he=>h.2.2.2 e (List.mem_of_mem_take he)⟩
 rcases h.2.2.1 with h0 | ⟨b,off,e1,hlt,hc⟩
 ·exact .inl (by omega)
 ·refine .inr ⟨b,off,e1,hlt,fun i e he=>hc i e ?_⟩
  have hi:=(List.getElem?_eq_some_iff.1 he).1
  rw [List.getElem?_take_of_lt (by omega)] at he
  exact he
theorem RdE.dropE {w:World} {b off c:Nat} {es:List E} (h:RdE w (some ⟨b,off,none⟩) c es) {k:Nat} (hk:k≤es.length):RdE w (some ⟨b,off+k,none⟩) (c - k) (es.drop k):=by
 have hl:(es.drop k).length=es.length - k:=List.length_drop ..
 refine ⟨by rw [hl];have:=h.1;omega,by rw [hl];have:=h.2.1;omega,?_,fun e he=>h.2.2.2 e (List.mem_of_mem_drop he)⟩
 rcases h.2.2.1 with h0 | ⟨b',off',e1,hlt,hc⟩
 ·exact .inl (by omega)
 ·cases e1
  refine .inr ⟨b,off+k,rfl,hlt,fun i e he=>?_⟩
  rw [List.getElem?_drop] at he
  have:=hc (k+i) e he
  rw [← Nat.add_assoc] at this
  exact this
theorem ElE.far {w wr:World} {tv:Value} {e:E} (h:RL w e.a e.c e.p) (hb:Below w.heap.size w wr) (hk:∀ k,tv.ownBlock=some k→w.heap.size≤k):ElE wr tv.ownBlock e:=by
 refine ⟨Rd.below h hb,?_⟩
 rcases h.2.2 with h0 | ⟨b,off,e1,hlt,_⟩
 ·exact .inl h0
 ·refine .inr fun b' off' e2 e3=>?_
  rw [e1] at e2;cases e2
  have:=hk b e3
  omega
theorem run_app0g {P:Program} {w:World} (base:Nat) (t ty e:TypeId) (i:TypeInfo) (size:Nat) (ht:P.underlying t=some (.slice e)) (hi:P.info? e=some i)
  (v:Value) (n:Nat) (xs:List Value) (hown:w.ownsRow base e size v n xs) (pa:Option Addr) (pc:Nat) :
  (Builtin.append_ #[t,t] ty #[v,.slice pa 0 pc]).run P w=.ok v w:=by
 rcases hown.2 with ⟨rfl,rfl⟩ | ⟨g,cap,cur,rfl,_,_,hnc,_⟩
 ·cases pa <;> simp [Builtin.append_,run_underlying ht,sizeOf,typeInfo,hi,Builtin.lenOf,Builtin.firstCells,loadCells,loadCellsFrom]
 ·cases pa <;> simp [Builtin.append_,run_underlying ht,sizeOf,typeInfo,hi,Builtin.lenOf,Builtin.firstCells,hnc,storeCells,loadCells,loadCellsFrom]
theorem wpList_app0g {P:Program} {w:World} {ops:Array Oper} {rest:List Oper} {o:Oper} {a:Act} {Q:Exit→Act→World→Prop} (hgd:o.guard=none) (s x:Operand) (t:TypeId)
  (ho:o.op=.call { callee:=.builtin .append,args:=#[s,x],argTypes:=#[t,t] })
  (base:Nat) (e:TypeId) (i:TypeInfo) (size:Nat) (ht:P.underlying t=some (.slice e)) (hi:P.info? e=some i)
  (v:Value) (n:Nat) (xs:List Value) (hs:a.eval s=v) (hown:w.ownsRow base e size v n xs) (pa:Option Addr) (pc:Nat) (hx:a.eval x=.slice pa 0 pc)
  (h:wpList P ops Q rest (a.put o.dst v) w):wpList P ops Q (o :: rest) a w:=by
 refine wpList_plain hgd fun K hK=>?_
 have hrun:=run_app0g (P:=P) (w:=w) base t o.type e i size ht hi v n xs hown pa pc
 unfold Oper.wp
 simp [execOp,ho,resolve,invoke,builtin,hs,hx,hrun,Result.andThen]
 exact hK _ _ h
set_option maxRecDepth 100000 in
set_option maxHeartbeats 4000000 in
theorem concatI (w:World) (v0:Nat) (a1:Option Addr) (c1:Nat) (es1:List E) (a2:Option Addr) (c2:Nat) (es2:List E) (k1:w.cell? ⟨v0,0,none⟩=some (.slice a1 es1.length c1)) (k2:w.cell? ⟨v0,1,none⟩=some (.slice a2 es2.length c2)) (h1:RdE w a1 c1 es1) (h2:RdE w a2 c2 es2) (hn:es1.length+es2.length≤12) :
  Calls Tryz.prog 49 #[.slice (some ⟨v0,0,none⟩) 2 2] w fun r w'=>∃ tv,r=.returned tv∧Below w.heap.size w w'∧RowE w.heap.size w' tv (es1 ++ es2):=by
 obtain ⟨i0,hi0,hz0,hz1,hz2⟩:=info_glP
 have hv0:v0<w.heap.size:=World.block_lt_of_cell? w _ k1
 obtain ⟨n1,hn1⟩:∃ n1,es1.length=n1:=⟨_,rfl⟩
 obtain ⟨n2,hn2⟩:∃ n2,es2.length=n2:=⟨_,rfl⟩
 rw [hn1] at k1 hn
 rw [hn2] at k2 hn
 have hI1:(n1:Int)≤12:=by omega
 have hI2:(n2:Int)≤12:=by omega
 have HN1:=Hid.mk' hn1
 have HN2:=Hid.mk' hn2
 have H1:=Hid.mk' h1
 have H2:=Hid.mk' h2
 have HK1:=Hid.mk' k1
 have HK2:=Hid.mk' k2
 clear h1 h2 hn1 hn2
 go_enter Tryz.func49,Tryz.ntmps49
 go_wp2
 go_loopw [3,11] (fun sv jv wr=>wr=w∧((jv=.int .i64 0∧sv=.int .i64 0)∨(jv=.int .i64 1∧sv=.int .i64 (n1:Int))∨(jv=.int .i64 2∧sv=.int .i64 ((n1+n2:Nat):Int)))) (fun _ jv _=>2 - (intOf jv).toNat)
 case atStart=>exact ⟨rfl,.inl ⟨rfl,rfl⟩⟩
 case round=>
  obtain ⟨rfl,hh⟩:=hrel
  rcases hh with ⟨rfl,rfl⟩ | ⟨rfl,rfl⟩ | ⟨rfl,rfl⟩
  ·go_wp2
   go_roundw
   case rel=>exact ⟨by first | trivial | rfl,.inr (.inl ⟨by first | rfl | go_num,by first | rfl | go_num⟩)⟩
   case measure=>first | (simp [intOf];done) | (simp [intOf];omega)
  ·go_wp2
   go_roundw
   case rel=>exact ⟨by first | trivial | rfl,.inr (.inr ⟨by first | rfl | go_num,by first | rfl | go_num | (congr 1;omega)⟩)⟩
   case measure=>first | (simp [intOf];done) | (simp [intOf];omega)
  ·obtain ⟨N,hN⟩:∃ N,n1+n2=N:=⟨_,rfl⟩
   rw [hN]
   have hN12:N≤100:=by omega
   clear hN k1 k2
   obtain ⟨wq,hwq⟩:∃ x,x=wr:=⟨_,rfl⟩
   subst hwq
   go_wp2_with fail
   refine (growI wq N hN12).mono ?_
   rintro r w2 ⟨tv0,rfl,hb2,hown2⟩
   have HB2:=Hid.mk' hb2
   have HR2:Hid (RowE wq.heap.size w2 tv0 []):=⟨hown2,fun e he=>by cases he⟩
   clear hb2 hown2
   go_wp2
   go_loopw [6,27] (fun tv jv w'=>Below wq.heap.size wq w'∧((jv=.int .i64 0∧RowE wq.heap.size w' tv [])∨(jv=.int .i64 1∧RowE wq.heap.size w' tv es1)∨(jv=.int .i64 2∧RowE wq.heap.size w' tv (es1 ++ es2)))) (fun _ jv _=>2 - (intOf jv).toNat)
   case atStart=>exact ⟨HB2.out,.inl ⟨rfl,HR2.out⟩⟩
   case round=>
    obtain ⟨hB,hh⟩:=hrel
    have HB:=Hid.mk' hB
    rcases hh with ⟨rfl,hR⟩ | ⟨rfl,hR⟩ | ⟨rfl,hR⟩
    ·have g1:wr.cell? ⟨v0,0,none⟩=some (.slice a1 n1 c1):=(hB.cell (p:=⟨v0,0,none⟩) hv0).trans HK1.out
     have hrd:=H1.out.below hB
     have HR:=Hid.mk' hR
     have hlo:wq.heap.size≤wr.heap.size:=hB.size
     have HEL:Hid (∀ e∈es1,ElE wr u6.ownBlock e):=fun e he=>ElE.far (H1.out.2.2.2 e he) HB.out (fun k hk=>(HR.out.row.lt k hk).1)
     have hrow:=hR.row
     by_cases h0:n1=0
     ·subst h0
      have e0:es1=[]:=List.length_eq_zero_iff.1 HN1.out
      have HX:Hid (RowE wq.heap.size wr u6 es1):=by rw [e0];exact hR
      clear hB hR hrd e0
      go_wp2_with (at_builtin;refine wpList_app0g rfl (.tmp 31) (.tmp 32) 24 rfl wq.heap.size 45 i0 1 Tryz.underlying24 hi0 _ 0 [] rfl hrow a1 c1 rfl ?_)
      go_roundw
      case rel=>exact ⟨HB.out,.inr (.inl ⟨by first | rfl | go_num,HX.out⟩)⟩
      case measure=>first | (simp [intOf];done) | (simp [intOf];omega)
     ·obtain ⟨b,off,rfl,hb,_⟩:=hrd.2.2.1.resolve_left (by rw [HN1.out];exact h0)
      have hnews:=hrd.news
      have hone:=oneE es1
      have hlen:(es1.map E.v).length=n1 * 1:=by rw [List.length_map,HN1.out,Nat.mul_one]
      have HRND:Hid (∀ (g0 cap0:Nat) (w5:World),w5.ownsRow wq.heap.size 45 1 (.slice (some ⟨g0,0,none⟩) (0+n1) cap0) (0+n1) ([] ++ es1.map E.v)→wr.grownBy w5 u6.ownBlock→(u6.ownBlock=some g0∨g0=wr.heap.size)→RowE wq.heap.size w5 (.slice (some ⟨g0,0,none⟩) n1 cap0) es1):=fun g0 cap0 w5 q1 q2 q3=>by
       have:=HR.out.app (es':=es1) HEL.out (g0:=g0) (cap0:=cap0) q2 (by rw [HN1.out];exact q1) q3
       rw [HN1.out] at this
       simp only [List.length_nil,Nat.zero_add] at this ⊢
       exact this
      clear hB hR hrd
      go_wp2_with (at_builtin;refine wpList_append_lies _ rfl (.tmp 31) (.tmp 32) 24 rfl wq.heap.size 45 i0 _ 1 24 Tryz.underlying24 hi0 hz0 hz1 hz2 rfl (by omega) _ 0 [] rfl hrow ⟨b,off,none⟩ n1 c1 (es1.map E.v) rfl hlen hnews hone (by omega) (by unfold maxLen;omega) (by omega) hlo _ rfl ?_;intro g0 cap0 w5 hown1 hgrow hat hlt1;have HX:=Hid.mk' (HRND.out g0 cap0 w5 hown1 hgrow hat);have HB5:=Hid.mk' (HB.out.grown hgrow hlo (fun k e=>(HR.out.row.lt k e).1));clear hown1 hgrow hat hlt1 hnews hone hlen hrow)
      go_roundw
      case rel=>exact ⟨HB5.out,.inr (.inl ⟨by first | rfl | go_num,HX.out⟩)⟩
      case measure=>first | (simp [intOf];done) | (simp [intOf];omega)
    ·have g1:wr.cell? ⟨v0,1,none⟩=some (.slice a2 n2 c2):=(hB.cell (p:=⟨v0,1,none⟩) hv0).trans HK2.out
     have hrd:=H2.out.below hB
     have HR:=Hid.mk' hR
     have hlo:wq.heap.size≤wr.heap.size:=hB.size
     have HEL:Hid (∀ e∈es2,ElE wr u6.ownBlock e):=fun e he=>ElE.far (H2.out.2.2.2 e he) HB.out (fun k hk=>(HR.out.row.lt k hk).1)
     have hrow:=hR.row
     rw [HN1.out] at hrow
     by_cases h0:n2=0
     ·subst h0
      have e0:es2=[]:=List.length_eq_zero_iff.1 HN2.out
      have HX:Hid (RowE wq.heap.size wr u6 (es1 ++ es2)):=by rw [e0,List.append_nil];exact hR
      clear hB hR hrd e0
      go_wp2_with (at_builtin;refine wpList_app0g rfl (.tmp 31) (.tmp 32) 24 rfl wq.heap.size 45 i0 1 Tryz.underlying24 hi0 _ n1 (es1.map E.v) rfl hrow a2 c2 rfl ?_)
      go_roundw
      case rel=>exact ⟨HB.out,.inr (.inr ⟨by first | rfl | go_num,HX.out⟩)⟩
      case measure=>first | (simp [intOf];done) | (simp [intOf];omega)
     ·obtain ⟨b,off,rfl,hb,_⟩:=hrd.2.2.1.resolve_left (by rw [HN2.out];exact h0)
      have hnews:=hrd.news
      have hone:=oneE es2
      have hlen:(es2.map E.v).length=n2 * 1:=by rw [List.length_map,HN2.out,Nat.mul_one]
      have HRND:Hid (∀ (g0 cap0:Nat) (w5:World),w5.ownsRow wq.heap.size 45 1 (.slice (some ⟨g0,0,none⟩) (n1+n2) cap0) (n1+n2) (es1.map E.v ++ es2.map E.v)→wr.grownBy w5 u6.ownBlock→(u6.ownBlock=some g0∨g0=wr.heap.size)→RowE wq.heap.size w5 (.slice (some ⟨g0,0,none⟩) (n1+n2) cap0) (es1 ++ es2)):=fun g0 cap0 w5 q1 q2 q3=>by
       have:=HR.out.app (es':=es2) HEL.out (g0:=g0) (cap0:=cap0) q2 (by rw [HN1.out,HN2.out];exact q1) q3
       rw [HN1.out,HN2.out] at this
       exact this
      clear hB hR hrd
      go_wp2_with (at_builtin;refine wpList_append_lies _ rfl (.tmp 31) (.tmp 32) 24 rfl wq.heap.size 45 i0 _ 1 24 Tryz.underlying24 hi0 hz0 hz1 hz2 rfl (by omega) _ n1 (es1.map E.v) rfl hrow ⟨b,off,none⟩ n2 c2 (es2.map E.v) rfl hlen hnews hone (by omega) (by unfold maxLen;omega) (by omega) hlo _ rfl ?_;intro g0 cap0 w5 hown1 hgrow hat hlt1;have HX:=Hid.mk' (HRND.out g0 cap0 w5 hown1 hgrow hat);have HB5:=Hid.mk' (HB.out.grown hgrow hlo (fun k e=>(HR.out.row.lt k e).1));clear hown1 hgrow hat hlt1 hnews hone hlen hrow)
      go_roundw
      case rel=>exact ⟨HB5.out,.inr (.inr ⟨by first | rfl | go_num,HX.out⟩)⟩
      case measure=>first | (simp [intOf];done) | (simp [intOf];omega)
    ·have HR:=Hid.mk' hR
     clear hB hR
     go_wp2
     refine bodyPost_ret (results_tmp rfl _ _ _) rfl ?_
     exact ⟨u6,rfl,HB.out,HR.out⟩
end Go.Proofs.YtdidlcjhodejjaaGreat
namespace Go.Proofs.YtdidlcjhodejjaaGreat
open Go.RowKit Go.Deep Go.Joins
set_option linter.unusedVariables false
theorem need_congr {k k':Nat→M} {n i:Nat} (h:∀ j,j<n→k j=k' j) (hi:i<n):need k n i=need k' n i:=by
 rw [Bool.eq_iff_iff]
 simp only [need,decide_eq_true_eq]
 constructor
 ·intro hh j hj;rw [← h j hj,← h i hi];exact hh j hj
 ·intro hh j hj;rw [h j hj,h i hi];exact hh j hj
theorem RowE.rw {lo:Nat} {w:World} {g cap:Nat} {es:List E} (h:RowE lo w (.slice (some ⟨g,0,none⟩) es.length cap) es):RwE g w es.length (fun i=>es.getD i E0) where
 row:=by
  rcases h.row.2 with ⟨hv,h0⟩ | ⟨g',cap',cur,hv,hlo,hg,hn,hm,hs,ht⟩
  ·cases hv
  ·cases hv
   refine ⟨cap * 1,by omega,fun j=>cur.getD j undef,⟨cur,hg,hs,fun j hj=>?_⟩,fun j hj=>?_⟩
   ·have hjs:j<cur.size:=by omega
    show cur[j]? = some (cur.getD j undef)
    rw [Array.getD_eq_getD_getElem?,Array.getElem?_eq_getElem hjs]
    rfl
   ·have e:(cur.toList.take (es.length * 1))[j]? = (es.map E.v)[j]?:=by rw [ht]
    rw [List.getElem?_take_of_lt (by omega),List.getElem?_map,(getE hj).1] at e
    show cur.getD j undef=(es.getD j E0).v
    rw [Array.getD_eq_getD_getElem?]
    have e2:cur[j]? = some (es.getD j E0).v:=by simpa using e
    rw [e2]
    rfl
 el:=fun j hj=>h.el _ (getE hj).2
theorem preE_self (es:List E):preE (fun i=>es.getD i E0) es.length=es:=by
 refine List.ext_getElem (preE_len _ _) (fun i h1 h2=>?_)
 have:=preE_at (fun i=>es.getD i E0) (n:=es.length) (i:=i) h2
 rw [List.getD_eq_getElem?_getD,List.getElem?_eq_getElem h1] at this
 rw [List.getD_eq_getElem?_getD,List.getElem?_eq_getElem h2] at this
 exact this
theorem RwE.rd {g:Nat} {w:World} {n cap:Nat} {F:Nat→E} (h:RwE g w n F) (hn:n≤100) (hc:n≤cap):RdE w (some ⟨g,0,none⟩) cap (preE F n):=by
 refine ⟨by rw [preE_len];exact hc,by rw [preE_len];exact hn,.inr ⟨g,0,rfl,h.lt,fun i e he=>?_⟩,fun e he=>?_⟩
 ·have hi:i<n:=by have:=(List.getElem?_eq_some_iff.1 he).1;rwa [preE_len] at this
  have:=preE_at F hi
  rw [List.getD_eq_getElem?_getD,he] at this
  rw [Nat.zero_add,h.cell hi,← this]
  rfl
 ·obtain ⟨i,hi,rfl⟩:=List.mem_map.1 he
  exact (h.el i (by simpa using hi)).1
structure LsW (lo g:Nat) (w:World) (N j:Nat) (G:Nat→E) (B:Nat→Nat):Prop where
 rw:RwE g w N G
 nw:∀ i,i<j→Wr w (G i).a (G i).p.length (lf (G i).p)∧∃ off,(G i).a=some ⟨B i,off,none⟩∧lo≤B i∧B i<w.heap.size∧B i≠g
 ap:∀ i k,i<k→k<j→B i<B k
theorem LsW.below {lo g:Nat} {w w':World} {N j:Nat} {G:Nat→E} {B:Nat→Nat} (h:LsW lo g w N j G B) (hb:Below w.heap.size w w'):LsW lo g w' N j G B where
 rw:=h.rw.below hb
 nw:=fun i hi=>⟨(h.nw i hi).1.below hb,(h.nw i hi).2.imp fun off ⟨e1,e2,e3,e4⟩=>⟨e1,e2,Nat.lt_of_lt_of_le e3 hb.size,e4⟩⟩
 ap:=h.ap
theorem LsW.put {lo g:Nat} {w:World} {N j:Nat} {G:Nat→E} {B:Nat→Nat} {m:Nat} (h:LsW lo g w N j G B) (hj:j<N) (hm:∀ i,i<j→B i<m) (hgm:g<m) (hlm:lo≤m) {a:Option Addr} {c:Nat} {Y:List T} (hO:Out m w a c Y) (h0:Y.length≠0) :
  ∃ B',LsW lo g (w.setCell ⟨g,j,none⟩ (.slice a Y.length c)) N (j+1) (fun i=>if i=j then ⟨a,c,Y⟩ else G i) B':=by
 obtain ⟨b,off,e,hb⟩:=hO.2.2.resolve_left h0
 have hbl:b<w.heap.size:=(hO.1.under.resolve_left h0) b off e
 have hg:w.grownBy (w.setCell ⟨g,j,none⟩ (.slice a Y.length c)) (some g):=⟨rfl,rfl,rfl,by simp,fun k hk hne=>Below.heap_setCell _ _ _ _ (fun q=>hne (by rw [q]))⟩
 have hE:ElE w (some g) ⟨a,c,Y⟩:=⟨hO.1,.inr fun b' off' e1 e2=>by
  have e1':a=some ⟨b',off',none⟩:=e1
  rw [e] at e1';cases e1'
  have:g=b:=by simpa using e2
  omega⟩
 refine ⟨fun i=>if i=j then b else B i,⟨h.rw.set hE,fun i hi=>?_,fun i k hik hk=>?_⟩⟩
 ·by_cases q:i=j
  ·simp only [if_pos q]
   refine ⟨hO.2.1.grown hg (.inr fun b' off' e1 e2=>?_),off,e,by omega,by simpa using hbl,by omega⟩
   rw [e] at e1;cases e1
   have:b=g:=by simpa using e2
   omega
  ·simp only [if_neg q]
   obtain ⟨w1,off1,e1,e2,e3,e4⟩:=h.nw i (by omega)
   refine ⟨w1.grown hg (.inr fun b' off' q1 q2=>?_),off1,e1,e2,by simpa using e3,e4⟩
   rw [e1] at q1;cases q1
   exact e4 (by simpa using q2)
 ·show (if i=j then b else B i)<(if k=j then b else B k)
  rw [if_neg (show ¬ i=j by omega)]
  by_cases q:k=j
  ·rw [if_pos q]
   have:=hm i (by omega)
   omega
  ·rw [if_neg q]
   exact h.ap i k hik (by omega)
theorem LsW.out {lo g:Nat} {w:World} {N cap:Nat} {G:Nat→E} {B:Nat→Nat} (h:LsW lo g w N N G B) (hN:N≤100) (hc:N≤cap) (hlo:lo≤g) {l:List (List T)} (hl:(preE G N).map E.p=l):l.length=N∧OutS lo w (some ⟨g,0,none⟩) N cap (fun i=>(G i).a) (lN (Lof l)) (fun i=>(G i).c) (fN (Lof l)) g B:=by
 have hle:l.length=N:=by rw [← hl,List.length_map,preE_len]
 have hof:∀ i,i<N→Lof l i=(G i).p:=fun i hi=>by rw [← hl,lof_map,preE_at G hi]
 refine ⟨hle,⟨⟨hc,by omega,.inr ⟨g,0,rfl,h.rw.lt,fun i hi=>?_⟩,fun i hi=>?_⟩,.inr ⟨0,rfl,hlo⟩,fun i hi=>?_,fun i hi=>?_,fun i k hik hk _ _=>?_⟩⟩
 ·rw [Nat.zero_add,h.rw.cell hi]
  show some (Value.slice (G i).a (G i).p.length (G i).c)=some (.slice (G i).a (Lof l i).length (G i).c)
  rw [hof i hi]
 ·show Rd w (G i).a (Lof l i).length (G i).c (lf (Lof l i))
  rw [hof i hi]
  exact (h.rw.el i hi).1
 ·show Wr w (G i).a (Lof l i).length (lf (Lof l i))
  rw [hof i hi]
  exact (h.nw i hi).1
 ·obtain ⟨_,off,e1,e2,_,e4⟩:=h.nw i hi
  exact .inr ⟨off,e1,e2,e4⟩
 ·have:=h.ap i k hik hk
  omega
theorem preE_put (G:Nat→E) {N j:Nat} (e:E) (hj:j<N):preE (fun i=>if i=j then e else G i) N=putL (preE G N) j e:=by
 rw [putL_set (by rw [preE_len];exact hj)]
 refine List.ext_getElem (by rw [List.length_set,preE_len,preE_len]) (fun i h1 h2=>?_)
 rw [List.getElem_set]
 simp only [preE,List.getElem_map,List.getElem_range]
 by_cases q:i=j
 ·simp [q]
 ·rw [if_neg q,if_neg (fun q'=>q q'.symm)]
def LeastO (w:World) (R:Option (List (List T))) (r:Ending) (w':World):Prop:=Below w.heap.size w w'∧((∃ l qa qc ad cp Rb B,R=some l∧r=.returned (.tuple #[.slice qa l.length qc,.bool true])∧OutS w.heap.size w' qa l.length qc ad (lN (Lof l)) cp (fN (Lof l)) Rb B)∨(R=none∧r=.returned (.tuple #[.slice none 0 0,.bool false])))
end Go.Proofs.YtdidlcjhodejjaaGreat
namespace Go.Proofs.YtdidlcjhodejjaaGreat
open Go.RowKit Go.Deep Go.Joins
set_option linter.unusedVariables false
set_option maxRecDepth 100000 in
set_option maxHeartbeats 8000000 in
theorem grbLeastI (w:World) (o:Int) (a:Option Addr) (n cap:Nat) (ad:Nat→Option Addr) (cp:Nat→Nat) (L:Nat→List T) (h:RdS w a n cap ad (lN L) cp (fN L)) :
  Calls Tryz.prog 12 #[.int .i64 o,.slice a n cap] w (LeastO w (grbLeast o n L)):=by
 have HH:=Hid.mk' h
 have q1:(n:Int)≤140737488351232:=by have:=h.2.1;omega
 clear h
 by_cases ho:1≤o∧o≤3
 rotate_left
 ·have e:grbLeast o n L=none:=if_neg (fun q=>ho q.1)
  rw [e]
  go_enter Tryz.func12,Tryz.ntmps12
  go_wp2_with fail
  refine (redLeadsI_out _ o _ _ _ (by omega)).mono ?_
  rintro r w1 ⟨rfl,hb1⟩
  have HB1:=Hid.mk' hb1
  clear hb1
  go_wp2
  refine bodyPost_ret (results_tmp2 rfl _ _ _) rfl ?_
  exact ⟨HB1.out,.inr ⟨rfl,rfl⟩⟩
 cases hl:lstOk n (lN L) (fN L)
 ·have e:grbLeast o n L=none:=if_neg (fun q=>by rw [hl] at q;exact absurd q.2 (by simp))
  rw [e]
  go_enter Tryz.func12,Tryz.ntmps12
  go_wp2_with fail
  refine (redLeadsI_no _ o _ _ _ _ _ _ _ HH.out ho.1 ho.2 hl).mono ?_
  rintro r w1 ⟨rfl,hb1⟩
  have HB1:=Hid.mk' hb1
  clear hb1
  go_wp2
  refine bodyPost_ret (results_tmp2 rfl _ _ _) rfl ?_
  exact ⟨HB1.out,.inr ⟨rfl,rfl⟩⟩
 obtain ⟨i0,hi0,hz0,hz1,hz2⟩:=info_glP
 have n12:=(lstOk_all hl).1
 have hnl:(n:Int)≤12:=by omega
 have hR0:grbLeast o n L=lstRun o (leastL o n L).length 0 (leastL o n L):=if_pos ⟨ho,hl⟩
 obtain ⟨R0,hR0e⟩:∃ R0,grbLeast o n L=R0:=⟨_,rfl⟩
 rw [hR0e] at hR0 ⊢
 have HR0:=Hid.mk' hR0
 obtain ⟨hlk,hl12⟩:=leastL_ok (o:=o) hl
 have HLK:=Hid.mk' hlk
 obtain ⟨nd,hnd⟩:∃ nd,need (fun i=>(ldL o (L i)).m) n=nd:=⟨_,rfl⟩
 have HND:=Hid.mk' hnd
 have HL0:Hid (∀ es:List E,es=selN nd (esOf ad cp L) n→(srtN (ltE o) [] es).map E.p=leastL o n L∧es.length≤12∧(leastL o n L).length=es.length∧∀ e∈es,okL e.p=true∧e.p.length≠0):=fun es he=>by
  have h1:es.map E.p=selN nd L n:=by rw [he,selN_map];rfl
  refine ⟨?_,?_,?_,fun e hee=>?_⟩
  ·show (srtN (fun a b=>ltO o a.p b.p) [] es).map E.p=_
   rw [srtN_map E.p (ltO o),h1,← hnd];rfl
  ·have:=selN_len nd (esOf ad cp L) n
   rw [he];omega
  ·unfold leastL
   rw [srtN_len,hnd,← h1,List.length_map,List.length_nil,Nat.zero_add]
  ·have:e.p∈selN nd L n:=by rw [← h1];exact List.mem_map_of_mem hee
   exact lst_okA hl e.p this
 clear hR0 hR0e hlk hnd
 go_enter Tryz.func12,Tryz.ntmps12
 go_wp2_with fail
 refine (redLeadsI _ o _ _ _ _ _ _ _ HH.out ho.1 ho.2 hl).mono ?_
 rintro r w1 ⟨v,rfl,hb1,ho1⟩
 obtain ⟨la,lc,rfl,hout⟩:=out_of_owns ho1 (by rw [ldsL_len];omega)
 have hld:=hout.1
 rw [ldsL_len] at hld
 rw [ldsL_len]
 have HLD:=Hid.mk' hld
 have HB1:=Hid.mk' hb1
 have hf:∀ i,i<n→lf (ldsL o (lN L) (fN L) n) i=ldL o (L i):=fun i hi=>ldsL_at o (lN L) (fN L) n i hi
 have HNEED:Hid (∀ j,j<n→need (fun i=>(lf (ldsL o (lN L) (fN L) n) i).m) n j=nd j):=fun j hj=>by
  rw [← HND.out]
  exact need_congr (fun i hi=>by show (lf (ldsL o (lN L) (fN L) n) i).m=(ldL o (L i)).m;rw [hf i hi]) hj
 have hsw:w.heap.size≤w1.heap.size:=hb1.size
 clear hb1 ho1 hout hld hf
 go_wp2
 go_loopw [8,24] (fun tv ii wr=>∃ (j:Nat),j≤n∧ii=.int .i64 (j:Int)∧Below w1.heap.size w1 wr∧RowE w1.heap.size wr tv (selN nd (esOf ad cp L) j)) (fun _ ii _=>n - (intOf ii).toNat)
 case atStart=>exact ⟨0,Nat.zero_le _,rfl,Below.refl _ _,RowE.nil _ _⟩
 case round=>
  obtain ⟨j,hj,rfl,hB,hA⟩:=hrel
  have HB:=Hid.mk' hB
  have HA:=Hid.mk' hA
  have hjl:=selN_len nd (esOf ad cp L) j
  by_cases hlt:j<n
  ·have hjn:(j:Int)<(n:Int):=by omega
   obtain ⟨b1,off1,ea,hb1,hc1⟩:=HH.out.2.2.1.resolve_left (by omega)
   obtain ⟨l,hlen⟩:∃ l,(L j).length=l:=⟨_,rfl⟩
   have kc:wr.cell? ⟨b1,off1+j,none⟩=some (.slice (ad j) l (cp j)):=((bel_next HB1.out hB).cell (p:=⟨b1,off1+j,none⟩) hb1).trans (by rw [← hlen];exact hc1 j hlt)
   have hcall:=idlNeededI wr la n lc (lf (ldsL o (lN L) (fN L) n)) j (HLD.out.below hB) hlt
   rw [HNEED.out j hlt] at hcall
   have HCL:=Hid.mk' hcall
   have HLEN:=Hid.mk' hlen
   have HEJ:=Hid.mk' (RdS.el (HH.out.below (bel_next HB1.out hB)) hlt)
   have hskip:nd j=false→selN nd (esOf ad cp L) (j+1)=selN nd (esOf ad cp L) j:=fun hg=>if_neg (by rw [hg];simp)
   have htake:nd j=true→selN nd (esOf ad cp L) (j+1)=selN nd (esOf ad cp L) j ++ [esOf ad cp L j]:=fun hg=>if_pos hg
   have HSK:=Hid.mk' hskip
   have HTK:=Hid.mk' htake
   subst ea
   clear hB hA hc1 hcall hlen hskip htake
   cases hg:nd j
   ·have HS:=Hid.mk' (HSK.out hg)
    go_wp2_with fail
    refine HCL.out.mono ?_
    rw [hg]
    rintro r w2 ⟨rfl,hb2⟩
    have HB2:=Hid.mk' (bel_next HB.out hb2)
    have HA2:=Hid.mk' (HA.out.below hb2)
    clear hb2 kc hg
    go_wp2
    go_roundw
    case rel=>exact ⟨j+1,by omega,by go_num,HB2.out,by rw [HS.out];exact HA2.out⟩
    case measure=>simp [intOf];omega
   ·have HT:=Hid.mk' (HTK.out hg)
    go_wp2_with fail
    refine HCL.out.mono ?_
    rw [hg]
    rintro r w2 ⟨rfl,hb2⟩
    have bx:=bel_one w2 (.cells #[.slice (ad j) l (cp j)] 45)
    have HB2:=Hid.mk' (bel_next (bel_next HB.out hb2) bx)
    have HA2:=Hid.mk' ((HA.out.below hb2).below bx)
    have hrow:=HA2.out.row
    obtain ⟨m,hm⟩:∃ m,(selN nd (esOf ad cp L) j).length=m:=⟨_,rfl⟩
    rw [hm] at hrow hjl
    have hnews:∀ jj u,[Value.slice (ad j) l (cp j)][jj]? = some u→(w2.alloc (.cells #[.slice (ad j) l (cp j)] 45)).cell? ((⟨w2.heap.size,0,none⟩:Addr).add jj)=some u:=World.news_of_block (heap_alloc_new w2 _)
    have hone:∀ u∈[Value.slice (ad j) l (cp j)],u.oneCell'=true:=fun u hu=>by
     have:u=.slice (ad j) l (cp j):=by simpa using hu
     subst this;rfl
    have hbase:w1.heap.size≤(w2.alloc (.cells #[.slice (ad j) l (cp j)] 45)).heap.size:=HB2.out.size
    have HEL:Hid (ElE (w2.alloc (.cells #[.slice (ad j) l (cp j)] 45)) u8.ownBlock (esOf ad cp L j)):=by
     refine ElE.far (w:=w) (HH.out.el hlt) (bel_next HB1.out HB2.out) (fun k hk=>?_)
     have:=(HA2.out.row.lt k hk).1
     omega
    have HRND:Hid (∀ (g0 cap0:Nat) (w5:World),w5.ownsRow w1.heap.size 45 1 (.slice (some ⟨g0,0,none⟩) (m+1) cap0) (m+1) ((selN nd (esOf ad cp L) j).map E.v ++ [.slice (ad j) l (cp j)])→(w2.alloc (.cells #[.slice (ad j) l (cp j)] 45)).grownBy w5 u8.ownBlock→(u8.ownBlock=some g0∨g0=(w2.alloc (.cells #[.slice (ad j) l (cp j)] 45)).heap.size)→RowE w1.heap.size w5 (.slice (some ⟨g0,0,none⟩) (m+1) cap0) (selN nd (esOf ad cp L) (j+1))):=fun g0 cap0 w5 p1 p2 p3=>by
     have:=HA2.out.app (es':=[esOf ad cp L j]) (fun e he=>by rw [List.mem_singleton.1 he];exact HEL.out) (g0:=g0) (cap0:=cap0) p2 (by rw [hm];show w5.ownsRow _ _ _ _ (m+1) (_ ++ [Value.slice (ad j) (L j).length (cp j)]);rw [HLEN.out];exact p1) p3
     rw [hm] at this
     rw [HT.out]
     exact this
    clear hb2 bx kc hg hm
    go_wp2_with (at_builtin;refine wpList_append_lies _ rfl (.tmp 32) (.tmp 34) 24 rfl w1.heap.size 45 i0 _ 1 24 Tryz.underlying24 hi0 hz0 hz1 hz2 rfl (by omega) _ m ((selN nd (esOf ad cp L) j).map E.v) rfl hrow ⟨w2.heap.size,0,none⟩ 1 1 [.slice (ad j) l (cp j)] rfl rfl hnews hone (by omega) (by unfold maxLen;omega) (by omega) hbase _ rfl ?_;intro g0 cap0 w5 hown1 hgrow hat hlt1;have HX:=Hid.mk' (HRND.out g0 cap0 w5 hown1 hgrow hat);have HB5:=Hid.mk' (HB2.out.grown hgrow hbase (fun k e=>(HA2.out.row.lt k e).1));clear hown1 hgrow hat hlt1 hnews hone hrow hbase)
    go_roundw
    case rel=>exact ⟨j+1,by omega,by go_num,HB5.out,HX.out⟩
    case measure=>simp [intOf];omega
  ·have hjn:¬ (j:Int)<(n:Int):=by omega
   have hje:j=n:=by omega
   subst hje
   obtain ⟨es,hes⟩:∃ es,selN nd (esOf ad cp L) j=es:=⟨_,rfl⟩
   rw [hes] at hA hjl
   obtain ⟨e1,e2,e3,e4⟩:=HL0.out es hes.symm
   have HE1:=Hid.mk' e1
   have HE4:=Hid.mk' e4
   have hRs:lstRun o es.length 0 (leastL o j L)=R0:=by rw [HR0.out,e3]
   have HRS:=Hid.mk' hRs
   clear hB hes e1 e3 e4 hRs HA HL0 HNEED HND HLD HR0
   obtain ⟨W0,hW0⟩:∃ x,x=wr:=⟨_,rfl⟩
   subst hW0
   rcases hA.row.2 with ⟨hv,h0⟩ | ⟨g,capg,cur,hv,hlo,hg,hnc,_⟩
   ·subst hv
    have e0:es=[]:=List.length_eq_zero_iff.1 h0
    subst e0
    have hR:R0=some []:=by rw [← HRS.out,← HE1.out];rfl
    subst hR
    clear hA
    go_wp2_with fail
    refine (sortStI0 _ o _).mono ?_
    rintro r w3 ⟨rfl,hw3⟩
    obtain rfl:=hw3.symm
    clear hw3
    go_wp2
    go_loopw [43] (fun v w'=>v=.int .i64 0∧w'=W0) (fun _ _=>0)
    case atStart=>exact ⟨rfl,rfl⟩
    case round=>
     obtain ⟨rfl,rfl⟩:=hrel
     go_wp2
     refine bodyPost_ret (results_tmp2 rfl _ _ _) rfl ?_
     exact ⟨bel_next HB1.out HB.out,.inl ⟨[],none,0,fun _=>none,fun _=>0,0,fun _=>0,rfl,rfl,⟨⟨Nat.le_refl _,Nat.zero_le _,.inl rfl,fun i hi=>absurd hi (Nat.not_lt_zero _)⟩,.inl rfl,fun i hi=>absurd hi (Nat.not_lt_zero _),fun i hi=>absurd hi (Nat.not_lt_zero _),fun i j _ hj=>absurd hj (Nat.not_lt_zero _)⟩⟩⟩
   ·subst hv
    obtain ⟨N,hN⟩:∃ N,es.length=N:=⟨_,rfl⟩
    have hrw:=hA.rw
    rw [hN] at hrw e2 hnc hjl HRS ⊢
    have hgw:w.heap.size≤g:=by omega
    have hNI:(N:Int)≤12:=by omega
    have hNc:(N:Int)≤(capg:Int):=by omega
    have hgl:=hrw.lt
    have hsrt:=sortStI W0 o g N capg (fun i=>es.getD i E0) ho hrw e2 (fun j hj=>HE4.out _ (getE (by omega)).2)
    have hpre:(preE (sndE (ltE o) (N - 1) 1 (fun i=>es.getD i E0)) N)=srtN (ltE o) [] es:=by rw [snd_all,← hN,preE_self]
    obtain ⟨G0,hG0⟩:∃ G0,sndE (ltE o) (N - 1) 1 (fun i=>es.getD i E0)=G0:=⟨_,rfl⟩
    rw [hG0] at hsrt hpre
    have HP0:Hid ((preE G0 N).map E.p=leastL o j L):=by show _=_;rw [hpre,HE1.out]
    have HSRT:=Hid.mk' hsrt
    clear hsrt hpre hG0 hA hrw hg hN HE1 HE4
    go_wp2_with fail
    refine HSRT.out.mono ?_
    rintro r w3 ⟨rfl,hg3,hr3⟩
    have HB3:=Hid.mk' ((bel_next HB1.out HB.out).grown hg3 (bel_next HB1.out HB.out).size (fun k e=>by cases e;exact hgw))
    have HR3:=Hid.mk' hr3
    clear hg3 hr3 HSRT
    go_wp2
    go_loopw [43] (fun ii wr=>∃ (i:Nat) (G:Nat→E) (B:Nat→Nat) (l:List (List T)),i≤N∧ii=.int .i64 (i:Int)∧Below w.heap.size w wr∧LsW w.heap.size g wr N i G B∧Hid ((preE G N).map E.p=l)∧Hid (okA l)∧Hid (lstRun o (N - i) i l=R0)) (fun ii _=>N - (intOf ii).toNat)
    case atStart=>exact ⟨0,G0,fun _=>0,leastL o j L,Nat.zero_le _,rfl,HB3.out,⟨HR3.out,fun i hi=>absurd hi (Nat.not_lt_zero _),fun i k _ hk=>absurd hk (Nat.not_lt_zero _)⟩,HP0,HLK,HRS⟩
    case round=>
     obtain ⟨i,G,B,l,hi,rfl,hBr,hW,HP,HO,HR⟩:=hrel
     by_cases hit:i<N
     ·have hiI:(i:Int)<(N:Int):=by omega
      obtain ⟨x,hx⟩:∃ x,G i=x:=⟨_,rfl⟩
      have kc:=hW.rw.cell hit
      rw [hx] at kc
      have kc':wr.cell? ⟨g,i,none⟩=some (.slice x.a x.p.length x.c):=kc
      have hi1:(i:Int)+1≤(N:Int):=by omega
      have hic:(i:Int)≤(capg:Int):=by omega
      have hgr:=hW.rw.lt
      have hwi:IntKind.i64.wrap ((i:Int)+1)=(i:Int)+1:=by rw [IntKind.wrap_i64];omega
      have ei:((i:Int)+1).toNat=i+1:=by omega
      have hi0':¬ ((i:Int)+1<0):=by omega
      have hi2:i+1≤N:=by omega
      have hi3:N≤capg:=hnc
      have HX:=Hid.mk' hx
      have hlen1:((preE G N).take i).length=i:=by rw [List.length_take,preE_len];omega
      have hlen2:((preE G N).drop (i+1)).length=N - (i+1):=by rw [List.length_drop,preE_len]
      have hrdw:=hW.rw.rd (cap:=capg) (by omega) hnc
      have HCC:Hid (∀ (A2:Option Addr) (C2:Nat),RdE wr A2 C2 ((preE G N).drop (i+1))→Calls Tryz.prog 49 #[.slice (some ⟨wr.heap.size,0,none⟩) 2 2] (wr.alloc (.cells #[.slice (some ⟨g,0,none⟩) i capg,.slice A2 (N - (i+1)) C2] 24)).drew fun r w'=>∃ oa oc,r=.returned (.slice oa (N - 1) oc)∧Below w.heap.size w w'∧RdE w' oa oc (othL (preE G N) i)∧LsW w.heap.size g w' N i G B∧wr.heap.size≤w'.heap.size):=fun A2 C2 hA2=>by
       have bx:Below wr.heap.size wr (wr.alloc (.cells #[.slice (some ⟨g,0,none⟩) i capg,.slice A2 (N - (i+1)) C2] 24)).drew:=(bel_one wr _).drew
       refine (concatI _ wr.heap.size (some ⟨g,0,none⟩) capg ((preE G N).take i) A2 C2 ((preE G N).drop (i+1)) ?_ ?_ ((hrdw.takeE (by rw [preE_len];omega)).below bx) (hA2.below bx) (by rw [hlen1,hlen2];omega)).mono ?_
       ·rw [hlen1]
        show (wr.alloc _).cell? _=_
        rw [World.cell?_alloc_at _ _ _ _ rfl];rfl
       ·rw [hlen2]
        show (wr.alloc _).cell? _=_
        rw [World.cell?_alloc_at _ _ _ _ rfl];rfl
       ·rintro r w' ⟨tv,rfl,hb,hR⟩
        have hl:(othL (preE G N) i).length=N - 1:=by rw [othL_len (by rw [preE_len];exact hit),preE_len]
        obtain ⟨oa,oc,etv,hrd⟩:=RowE.rd (es:=othL (preE G N) i) hR (by rw [hl];omega)
        rw [hl] at etv
        subst etv
        exact ⟨oa,oc,rfl,bel_next (bel_next hBr bx) hb,hrd,(hW.below bx).below hb,Nat.le_trans bx.size hb.size⟩
      have hlx:Lof l i=x.p:=by rw [← HP.out,lof_map,preE_at G hit,hx]
      have hot:(othL (preE G N) i).map E.p=othL l i:=by rw [othL_map,HP.out]
      have hol:(othL (preE G N) i).length=N - 1:=by rw [othL_len (by rw [preE_len];exact hit),preE_len]
      have HLF:Hid (∀ (W:World) (oa:Option Addr) (oc:Nat),RL W x.a x.c x.p→RdE W oa oc (othL (preE G N) i)→Calls Tryz.prog 50 #[.int .i64 o,.slice x.a x.p.length x.c,.slice oa (N - 1) oc] W fun r w'=>Below W.heap.size W w'∧((∃ Y a' c',lftL o (Lof l i) (othL l i)=some Y∧r=.returned (.tuple #[.slice a' Y.length c',.bool true])∧Out W.heap.size w' a' c' Y)∨(lftL o (Lof l i) (othL l i)=none∧r=.returned (.tuple #[.slice none 0 0,.bool false])))):=fun W oa oc h1 h2=>by
       have h3:=h2.rds
       rw [hot,hol] at h3
       have:=idlLeftI W o x.a x.c x.p oa (N - 1) oc _ _ (Lof (othL l i)) ho h1 h3 rfl
       rw [lftL_R,hlx,← hot,List.length_map,hol,hot]
       exact this
      clear kc hBr hW hlen1 hlen2 hlx hot hol hx
      by_cases hce:capg=i+1
      ·subst hce
       have hNi:N=i+1:=by omega
       have HRX:Hid (RdE wr (some ⟨g,0,none⟩) 0 ((preE G N).drop (i+1))):=by
        have:(preE G N).drop (i+1)=[]:=List.drop_eq_nil_of_le (by rw [preE_len];omega)
        rw [this]
        exact ⟨Nat.le_refl _,Nat.zero_le _,.inl rfl,fun e he=>by cases he⟩
       clear hrdw hNi
       go_wp2_with fail
       have HC5:=Hid.mk' (HCC.out (some ⟨g,0,none⟩) 0 HRX.out)
       rw [show N - (i+1)=0 by omega] at HC5
       go_region_with (go_at_call 49;refine HC5.out.mono ?_;rintro r w5 ⟨oa,oc,rfl,hB5,hrd5,hW5,hs5⟩;have HB5:=Hid.mk' hB5;have HW5:=Hid.mk' hW5;have HRD5:=Hid.mk' hrd5;clear hB5 hW5 hrd5)
       all_goals
        have hx5:RL w5 x.a x.c x.p:=by
         have:=(HW5.out.rw.el i hit).1
         rw [HX.out] at this
         exact this
        have HC6:=Hid.mk' (HLF.out w5 oa oc hx5 HRD5.out)
        clear hx5 HC5 kc'
        go_wp2_with fail
        refine HC6.out.mono ?_
        rintro r w6 ⟨hb6,hh⟩
        have HB6:=Hid.mk' (bel_next HB5.out hb6)
        have HW6:=Hid.mk' (HW5.out.below hb6)
        have k6:=HW6.out.rw.cell hit
        rw [HX.out] at k6
        have c6:w6.cell? ⟨g,i,none⟩=some (.slice x.a x.p.length x.c):=k6
        have f6:w6.frozen? ⟨g,i,none⟩=false:=HW6.out.rw.frozen i
        have hs6:w5.heap.size≤w6.heap.size:=hb6.size
        rcases hh with ⟨Y,ya,yc,hY,rfl,hO⟩ | ⟨hY,rfl⟩
        ·have hY0:=lftL_ok hY
         obtain ⟨B',hW7⟩:=HW6.out.put (m:=w5.heap.size) hit (fun k hk=>by obtain ⟨_,_,_,_,e3,_⟩:=HW5.out.nw k hk;exact e3) HW5.out.rw.lt HB5.out.size hO hY0.2
         have HW7:=Hid.mk' hW7
         have HB7:=Hid.mk' (HB6.out.setCell (p:=⟨g,i,none⟩) hgw (.slice ya Y.length yc))
         have HP7:Hid ((preE (fun k=>if k=i then ⟨ya,yc,Y⟩ else G k) N).map E.p=putL l i Y):=by
          show _=_
          rw [preE_put G _ hit,putL_map,HP.out]
         have HO7:Hid (okA (putL l i Y)):=putL_ok HO.out hY0
         have HR7:Hid (lstRun o (N - (i+1)) (i+1) (putL l i Y)=R0):=by
          show _=_
          rw [← HR.out,show N - i=(N - (i+1))+1 by omega,lstRun_yes hY]
         clear hW7 hO hY hb6 k6 hY0
         go_wp2
         go_roundw
         case rel=>exact ⟨i+1,_,B',putL l i Y,by omega,by go_num,HB7.out,HW7.out,HP7,HO7,HR7⟩
         case measure=>simp [intOf];omega
        ·have HB7:=Hid.mk' (HB6.out.setCell (p:=⟨g,i,none⟩) hgw (.slice none 0 0))
         have hR7:R0=none:=by rw [← HR.out,show N - i=(N - (i+1))+1 by omega,lstRun_no hY]
         subst hR7
         clear hY hb6 k6
         go_wp2
         refine bodyPost_ret (results_tmp2 rfl _ _ _) rfl ?_
         exact ⟨HB7.out,.inr ⟨rfl,rfl⟩⟩
      ·have HRX:Hid (RdE wr (some ⟨g,i+1,none⟩) (capg - (i+1)) ((preE G N).drop (i+1))):=by
        have:=hrdw.dropE (k:=i+1) (by rw [preE_len];omega)
        rw [Nat.zero_add] at this
        exact this
       clear hrdw
       go_wp2_with fail
       have HC5:=Hid.mk' (HCC.out (some ⟨g,i+1,none⟩) (capg - (i+1)) HRX.out)
       go_region_with (go_at_call 49;refine HC5.out.mono ?_;rintro r w5 ⟨oa,oc,rfl,hB5,hrd5,hW5,hs5⟩;have HB5:=Hid.mk' hB5;have HW5:=Hid.mk' hW5;have HRD5:=Hid.mk' hrd5;clear hB5 hW5 hrd5)
       all_goals
        have hx5:RL w5 x.a x.c x.p:=by
         have:=(HW5.out.rw.el i hit).1
         rw [HX.out] at this
         exact this
        have HC6:=Hid.mk' (HLF.out w5 oa oc hx5 HRD5.out)
        clear hx5 HC5 kc'
        go_wp2_with fail
        refine HC6.out.mono ?_
        rintro r w6 ⟨hb6,hh⟩
        have HB6:=Hid.mk' (bel_next HB5.out hb6)
        have HW6:=Hid.mk' (HW5.out.below hb6)
        have k6:=HW6.out.rw.cell hit
        rw [HX.out] at k6
        have c6:w6.cell? ⟨g,i,none⟩=some (.slice x.a x.p.length x.c):=k6
        have f6:w6.frozen? ⟨g,i,none⟩=false:=HW6.out.rw.frozen i
        have hs6:w5.heap.size≤w6.heap.size:=hb6.size
        rcases hh with ⟨Y,ya,yc,hY,rfl,hO⟩ | ⟨hY,rfl⟩
        ·have hY0:=lftL_ok hY
         obtain ⟨B',hW7⟩:=HW6.out.put (m:=w5.heap.size) hit (fun k hk=>by obtain ⟨_,_,_,_,e3,_⟩:=HW5.out.nw k hk;exact e3) HW5.out.rw.lt HB5.out.size hO hY0.2
         have HW7:=Hid.mk' hW7
         have HB7:=Hid.mk' (HB6.out.setCell (p:=⟨g,i,none⟩) hgw (.slice ya Y.length yc))
         have HP7:Hid ((preE (fun k=>if k=i then ⟨ya,yc,Y⟩ else G k) N).map E.p=putL l i Y):=by
          show _=_
          rw [preE_put G _ hit,putL_map,HP.out]
         have HO7:Hid (okA (putL l i Y)):=putL_ok HO.out hY0
         have HR7:Hid (lstRun o (N - (i+1)) (i+1) (putL l i Y)=R0):=by
          show _=_
          rw [← HR.out,show N - i=(N - (i+1))+1 by omega,lstRun_yes hY]
         clear hW7 hO hY hb6 k6 hY0
         go_wp2
         go_roundw
         case rel=>exact ⟨i+1,_,B',putL l i Y,by omega,by go_num,HB7.out,HW7.out,HP7,HO7,HR7⟩
         case measure=>simp [intOf];omega
        ·have HB7:=Hid.mk' (HB6.out.setCell (p:=⟨g,i,none⟩) hgw (.slice none 0 0))
         have hR7:R0=none:=by rw [← HR.out,show N - i=(N - (i+1))+1 by omega,lstRun_no hY]
         subst hR7
         clear hY hb6 k6
         go_wp2
         refine bodyPost_ret (results_tmp2 rfl _ _ _) rfl ?_
         exact ⟨HB7.out,.inr ⟨rfl,rfl⟩⟩
     ·have hiI:¬ (i:Int)<(N:Int):=by omega
      have hie:i=N:=by omega
      subst hie
      have hRl:R0=some l:=by rw [← HR.out,Nat.sub_self];rfl
      subst hRl
      obtain ⟨hll,hOS⟩:=hW.out (cap:=capg) (by omega) hnc hgw HP.out
      have HF:Hid (∃ l' qa qc ad cp Rb B,some l=some l'∧Ending.returned (.tuple #[.slice (some ⟨g,0,none⟩) i capg,.bool true])=.returned (.tuple #[.slice qa l'.length qc,.bool true])∧OutS w.heap.size wr qa l'.length qc ad (lN (Lof l')) cp (fN (Lof l')) Rb B):=⟨l,some ⟨g,0,none⟩,capg,_,_,g,B,rfl,by rw [hll],by rw [hll];exact hOS⟩
      have HBR:=Hid.mk' hBr
      clear hBr hW hll hOS
      go_wp2
      refine bodyPost_ret (results_tmp2 rfl _ _ _) rfl ?_
      exact ⟨HBR.out,.inl HF.out⟩
end Go.Proofs.YtdidlcjhodejjaaGreat
