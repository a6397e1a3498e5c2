/-
  A division's step.
-/
import Derived.Test.YtdidlcjhodejjaaGreatUay
import Derived.Deep.AppendLies
import Derived.Test.YtdidlcjhodejjaaGreatUaf
namespace Go.Proofs.YtdidlcjhodejjaaGreat
open Go.RowKit Go.Deep Go.Joins Go.Maps
set_option linter.unusedVariables false
abbrev E5 (A g:Nat) (v:Value) (m:M) (u:World):Prop:=u.cell? ⟨A,2,none⟩=some v∧u.cell? ⟨g,1,none⟩=some (.int .i64 m.x)∧u.cell? ⟨g,2,none⟩=some (.int .i64 m.y)∧u.cell? ⟨g,3,none⟩=some (.int .i64 m.d)∧u.cell? ⟨g,4,none⟩=some (.int .i64 m.e)
theorem E5.below {A g:Nat} {v:Value} {m:M} {u u':World} (h:E5 A g v m u) (hb:Below u.heap.size u u'):E5 A g v m u':=
 ⟨(hb.cell (p:=⟨A,2,none⟩) (World.block_lt_of_cell? u _ h.1)).trans h.1,(hb.cell (p:=⟨g,1,none⟩) (World.block_lt_of_cell? u _ h.2.1)).trans h.2.1,(hb.cell (p:=⟨g,2,none⟩) (World.block_lt_of_cell? u _ h.2.2.1)).trans h.2.2.1,(hb.cell (p:=⟨g,3,none⟩) (World.block_lt_of_cell? u _ h.2.2.2.1)).trans h.2.2.2.1,(hb.cell (p:=⟨g,4,none⟩) (World.block_lt_of_cell? u _ h.2.2.2.2)).trans h.2.2.2.2⟩
theorem idxF_congr {p:T→Bool} {f g:Nat→T}:∀ {n:Nat},(∀ i,i<n→f i=g i)→idxF p f n=idxF p g n
 | 0,_=>rfl
 | n+1,h=>by
  have ih:=idxF_congr (p:=p) (f:=f) (g:=g) (n:=n) (fun i hi=>h i (by omega))
  unfold idxF
  rw [ih,h n (by omega)]
theorem DvW.moreN {X:DvP} {w:World} {fu u N N':Nat} {S:Dv} (h:DvW X w fu u N S) (hn:N≤N'):DvW X w fu u N' S:=
 { h with rs:=h.rs.more hn }
set_option maxRecDepth 100000 in
set_option maxHeartbeats 8000000 in
theorem stepNo (X:DvP) (w:World) (u N:Nat) (S:Dv) (h:DvW X w 0 u N S) :
  Calls Tryz.prog 115 #[.pointer (some ⟨X.Bd,0,none⟩)] w fun r w'=>r=.panicked [{ v:=tooMuch,recovered:=false }]∧w'=w:=by
 have k6:=h.c6
 have hz:((0:Nat):Int)=0:=rfl
 rw [hz] at k6
 clear h hz
 go_enter Tryz.func115,Tryz.ntmps115
 go_wp2
 exact ⟨rfl,rfl,rfl⟩
set_option maxRecDepth 100000 in
set_option maxHeartbeats 8000000 in
theorem stepI (X:DvP) (w:World) (fu u N:Nat) (hN:N≤400+400 * u) (S:Dv) (h:DvW X w (fu+1) u N S) (hrk:X.rk=rkF X.o) (ho:1≤X.o∧X.o≤3) (hok:DvOk u S) (hu:u<300) (hl:lstOk X.n X.ln X.f=true) (h0:S.p.length≠0) (hfu:fu<300) :
  Calls Tryz.prog 115 #[.pointer (some ⟨X.Bd,0,none⟩)] w fun r w'=>Turn X w w'∧((∃ S',dvStep X.o X.n X.ln X.f S=some S'∧r=.returned (.tuple #[])∧DvW X w' fu (u+1) (N+400) S')∨(dvStep X.o X.n X.ln X.f S=none∧r=.panicked [{ v:=tooMuch,recovered:=false }])):=by
 obtain ⟨t,ht⟩:∃ t,ldL X.o S.p=t:=⟨_,rfl⟩
 have k6:=h.c6
 have kz:=h.fz
 have hf1:(((fu+1:Nat):Int) == 0)=false:=by simp;omega
 have hf2:((fu+1:Nat):Int) - 1=(fu:Int):=by omega
 have hff:((fu+1:Nat):Int)≤1000:=by omega
 have hff0:0≤((fu+1:Nat):Int):=by omega
 generalize hx:((fu+1:Nat):Int)=x at k6 hf1 hf2 hff hff0
 have HB:=Hid.mk' h.burn
 have hs0:=h.s0
 have hB0:Turn X w (w.setCell ⟨X.Bd,6,none⟩ (.int .i64 (fu:Int))):=Turn.fuel (grownSet _ _ _ _)
 have HB0:=Hid.mk' hB0
 have HOK:=Hid.mk' hok
 clear h hok hx hB0
 go_enter Tryz.func115,Tryz.ntmps115
 go_wp2_with fail
 generalize (w.setCell ⟨X.Bd,6,none⟩ (.int .i64 (fu:Int)))=w1 at HB HB0 ⊢
 have HWD:=Hid.mk' (HB.out.below (Below.refl _ w1).drew)
 have k0:=HB.out.c0
 have k3:=HB.out.c3
 have hbd:X.Bd<w1.heap.size:=World.block_lt_of_cell? w1 _ k0
 have hgr:∀ W:World,DvW X W fu u N S→Calls Tryz.prog 148 #[.map (some X.br),.func (.func X.rk) #[] #[]] W fun r w'=>r=.returned (.agg #[.int .i64 t.c,.int .i64 t.m.x,.int .i64 t.m.y,.int .i64 t.m.d,.int .i64 t.m.e])∧Below W.heap.size W w':=fun W hW=>by
  rw [hrk]
  exact greatestI X.o ho W X.br N S.p hW.rs HOK.out.p h0 t ht
 have HGR:=Hid.mk' hgr
 have HDA:=Hid.mk' ((HB.out.below (bel_one w1 (.cells #[.int .i64 0,.int .i64 0,.int .i64 0,.int .i64 0,.int .i64 0] 42))).below (Below.refl _ _).drew)
 have HZA:Hid (∀ v:World,Below (w1.alloc (.cells #[.int .i64 0,.int .i64 0,.int .i64 0,.int .i64 0,.int .i64 0] 42)).drew.heap.size (w1.alloc (.cells #[.int .i64 0,.int .i64 0,.int .i64 0,.int .i64 0,.int .i64 0] 42)).drew v→Own5 v w1.heap.size ⟨0,⟨0,0,0,0⟩⟩):=fun v hv=>((Own5.box w1 42 ⟨0,⟨0,0,0,0⟩⟩).below (Below.refl _ _).drew).below hv
 clear hgr k6 kz hf1 hf2 hrk
 refine Code.wp_mono (Q:=NoPanic fun e a v=>e=Exit.normal∧∃ g:Nat,a={ tmps:=#[.pointer (some ⟨X.Bd,0,none⟩),undef,.pointer (some ⟨g,0,none⟩),undef,.pointer (some ⟨X.Bd,0,none⟩),.pointer (some ⟨X.Bd,0,none⟩),.pointer (some ⟨X.Bd,6,none⟩),.int .i64 x,.bool false,undef,undef,.pointer (some ⟨X.Bd,0,none⟩),.pointer (some ⟨X.Bd,0,none⟩),.pointer (some ⟨X.Bd,6,none⟩),.int .i64 x,.int .i64 (fu:Int),.pointer (some ⟨X.Bd,0,none⟩),.pointer (some ⟨X.Bd,6,none⟩),.pointer (some ⟨X.Bd,0,none⟩),.pointer (some ⟨X.Bd,0,none⟩),.pointer (some ⟨X.Bd,3,none⟩),.map (some X.br),.pointer (some ⟨X.Bd,0,none⟩),.pointer (some ⟨X.Bd,0,none⟩),.pointer (some ⟨X.Bd,0,none⟩),.func (.func X.rk) #[] #[],.agg #[.int .i64 t.c,.int .i64 t.m.x,.int .i64 t.m.y,.int .i64 t.m.d,.int .i64 t.m.e],undef,undef,undef,undef,undef,undef,undef,undef,undef,undef,undef,undef,undef,undef,undef,undef],defers:=[] }∧C5 v g t∧DvW X v fu u N S∧Turn X w v) ?_ ?_
 rotate_left
 ·go_region_with (go_at_call 148;refine (HGR.out _ ?_).mono ?_;(first | with_reducible exact HWD.out | with_reducible exact HDA.out);rintro r w4 ⟨rfl,hb4⟩;(try (have hz4:=HZA.out _ hb4;obtain ⟨⟨z0,z1,z2,z3,z4⟩,zf⟩:=hz4));(have HB4:Hid (Below w1.heap.size w1 w4):=by first | exact bel_next (Below.refl _ w1).drew hb4 | exact bel_next (bel_one w1 (.cells #[.int .i64 0,.int .i64 0,.int .i64 0,.int .i64 0,.int .i64 0] 42)).drew hb4);clear hb4)
  all_goals
   first
   | exact NoPanic.normal ⟨rfl,_,rfl,⟨by go_simp,by go_simp,by go_simp,by go_simp,by go_simp⟩,HB.out.below (bel_s5 HB4.out (Nat.le_refl _) _ _ _ _ _),HB0.out.trans (Turn.of (bel_s5 HB4.out (Nat.le_refl _) _ _ _ _ _))⟩
   | exact NoPanic.normal ⟨rfl,_,rfl,C5.box w4 42 t,HB.out.below (HB4.out.alloc HB4.out.size _),HB0.out.trans (Turn.of (HB4.out.alloc HB4.out.size _))⟩
 ·intro e5 a5 w5 hq5
  obtain ⟨rfl,g,rfl,hc5,hW5,hB5⟩:=NoPanic.imp _ _ _ hq5
  have HW5:=Hid.mk' hW5
  have HB5:=Hid.mk' hB5
  have HC5:=Hid.mk' hc5
  have hgl:=hc5.lt
  have HWD5:=Hid.mk' (hW5.below (Below.refl _ w5).drew)
  have hS5:E5 X.Bd g (.slice X.al X.n X.cl) t.m w5.drew:=⟨hW5.c2,hc5.2.1,hc5.2.2.1,hc5.2.2.2.1,hc5.2.2.2.2⟩
  have hfst:Calls Tryz.prog 75 #[.slice X.al X.n X.cl,.agg #[.int .i64 t.m.x,.int .i64 t.m.y,.int .i64 t.m.d,.int .i64 t.m.e]] w5.drew fun r w'=>r=.returned (.int .i64 (dvK X.o X.n X.ln X.f t.m))∧Below w5.drew.heap.size w5.drew w':=by
   have:=redFirstI w5.drew X.al X.n X.cl (lf (ldsL X.o X.ln X.f X.n)) t.m HWD5.out.ld
   rw [show idxF (fun s=>M.dvd s.m t.m) (lf (ldsL X.o X.ln X.f X.n)) X.n=dvK X.o X.n X.ln X.f t.m from idxF_congr (fun i hi=>ldsL_at X.o X.ln X.f X.n i hi)] at this
   exact this
  have HFST:=Hid.mk' hfst
  obtain ⟨z,hz⟩:∃ z,dvK X.o X.n X.ln X.f t.m=z:=⟨_,rfl⟩
  rw [hz] at HFST
  have HZ:=Hid.mk' hz
  have HGO:=Hid.mk' (ldL_good (o:=X.o) (okL_falls HOK.out.p).2 h0)
  clear hW5 hB5 hc5 hfst hz k0 k3 hbd HWD HDA HZA HGR HB HB0 hq5
  go_wp2_with fail
  go_region_held3 (fun u=>u.cell? ⟨X.Bd,2,none⟩=some (.slice X.al X.n X.cl)∧u.cell? ⟨g,1,none⟩=some (.int .i64 t.m.x)∧u.cell? ⟨g,2,none⟩=some (.int .i64 t.m.y)∧u.cell? ⟨g,3,none⟩=some (.int .i64 t.m.d)∧u.cell? ⟨g,4,none⟩=some (.int .i64 t.m.e)) (first | with_reducible exact hS5 | with_reducible exact E5.below hS5 b6) (first | (go_at_call 75;refine HFST.out.mono ?_;rintro r w6 ⟨rfl,b6⟩))
  have HW6:=Hid.mk' (HWD5.out.below b6)
  have HB6:=Hid.mk' (HB5.out.drew.trans (Turn.of b6))
  obtain ⟨y0,y1,y2,y3,y4⟩:=(HC5.out.below (Below.refl _ w5).drew).below b6
  clear hS5 HFST b6 HWD5 HW5 HB5 HC5
  by_cases hzz:0≤z
  ·obtain ⟨k,hk⟩:∃ k:Nat,z=(k:Int):=⟨z.toNat,by omega⟩
   subst hk
   have hfk:(dvK X.o X.n X.ln X.f t.m).toNat=k:=by rw [HZ.out];simp
   have hd:=dvK_facts (o:=X.o) (n:=X.n) (ln:=X.ln) (f:=X.f) (m:=t.m) (by rw [HZ.out];exact hzz)
   rw [hfk] at hd
   have HST:Hid (dvStep X.o X.n X.ln X.f S=dvTake X.o X.ln X.f S k):=by
    show dvStep X.o X.n X.ln X.f S=_
    unfold dvStep
    rw [ht,if_pos (by rw [HZ.out];exact hzz),hfk]
   have HTK:=Hid.mk' (takeI X w6 fu u N hN S t k HW6.out HOK.out hu hl h0 ht hd.1 hd.2)
   have hk1:(k:Int)≤1000:=by have:=hd.1;have:=(lstOk_all hl).1;omega
   clear hfk hd
   go_wp2_with fail
   refine HTK.out.mono ?_
   rintro r w7 ⟨hb7,hh⟩
   have HB7:=Hid.mk' (HB6.out.trans hb7)
   rcases hh with ⟨S',e1,rfl,hW7⟩ | ⟨e1,rfl⟩
   ·have HW7:=Hid.mk' hW7
    have HE1:=Hid.mk' e1
    clear hW7 e1 hb7 HTK
    go_wp2
    go_end0
    rw [HST.out]
    exact ⟨HB7.out,.inl ⟨S',HE1.out,rfl,HW7.out⟩⟩
   ·have HE1:=Hid.mk' e1
    clear e1 hb7 HTK
    go_wp2
    rw [HST.out]
    exact ⟨rfl,HB7.out,.inr ⟨HE1.out,rfl⟩⟩
  ·have hzl:z<0:=by omega
   have HST:Hid (dvStep X.o X.n X.ln X.f S=some (dvLeave X.o S)):=by
    show dvStep X.o X.n X.ln X.f S=_
    unfold dvStep
    rw [ht,if_neg (by rw [HZ.out];exact hzz)]
   have HLV:=Hid.mk' (leaveI X w6 fu u N S t HW6.out HOK.out hu h0 ht)
   go_wp2_with fail
   refine HLV.out.mono ?_
   rintro r w7 ⟨rfl,hW7,hb7⟩
   have HB7:=Hid.mk' (HB6.out.trans hb7)
   have HW7:=Hid.mk' (hW7.moreN (N':=N+400) (by omega))
   clear hW7 hb7 HLV
   go_wp2
   go_end0
   rw [HST.out]
   exact ⟨HB7.out,.inl ⟨_,rfl,rfl,HW7.out⟩⟩
end Go.Proofs.YtdidlcjhodejjaaGreat
namespace Go.Proofs.YtdidlcjhodejjaaGreat
open Go.RowKit Go.Deep Go.Joins Go.Maps
set_option linter.unusedVariables false
theorem SumR.ne_row {w:World} {b n:Nat} {c:M→Int} (h:SumR w b n c) {base size k:Nat} {e:TypeId} {v:Value} {xs:List Value} (ho:w.ownsRow base e size v k xs):some b≠v.ownBlock:=by
 rcases ho.2 with ⟨rfl,_⟩ | ⟨g,cap,cur,rfl,_,hg,_⟩
 ·simp [Value.ownBlock]
 ·intro e
  obtain rfl:b=g:=by simpa [Value.ownBlock] using e
  obtain ⟨D,⟨es,clock,h1,_⟩,_⟩:=h
  rw [h1] at hg
  cases hg
def mapL (bk:Nat→Nat) (j:Nat):List Value:=(List.range j).map fun i=>.map (some (bk i))
theorem mapL_len (bk:Nat→Nat) (j:Nat):(mapL bk j).length=j:=by simp [mapL]
theorem mapL_at {bk:Nat→Nat} {j i:Nat} (h:i<j):(mapL bk j)[i]? = some (.map (some (bk i))):=by simp [mapL,h]
theorem mapL_next {bk:Nat→Nat} {j m:Nat}:mapL (fun i=>if i=j then m else bk i) (j+1)=mapL bk j ++ [.map (some m)]:=by
 unfold mapL
 rw [List.range_succ,List.map_append]
 congr 1
 ·refine List.map_congr_left fun i hi=>?_
  have:i<j:=by simpa using hi
  dsimp only
  rw [if_neg (by omega)]
 ·simp
structure BgW (w wr:World) (B rk:Nat) (a al:Option Addr) (n cap cl:Nat) (ad:Nat→Option Addr) (ln cp:Nat→Nat) (f:Nat→Nat→T) (o:Int) (p:List T) (j:Nat) (tv:Value) (bk:Nat→Nat):Prop where
 c0:wr.cell? ⟨B+2,0,none⟩=some (.func (.func rk) #[] #[])
 c1:wr.cell? ⟨B+2,1,none⟩=some (.slice a n cap)
 c2:wr.cell? ⟨B+2,2,none⟩=some (.slice al n cl)
 c3:wr.cell? ⟨B+2,3,none⟩=some (.map (some B))
 c4:wr.cell? ⟨B+2,4,none⟩=some tv
 c5:wr.cell? ⟨B+2,5,none⟩=some (.map (some (B+1)))
 c6:wr.cell? ⟨B+2,6,none⟩=some (.int .i64 300)
 fz:∀ i,wr.frozen? ⟨B+2,i,none⟩=false
 ls:RdS wr a n cap ad ln cp f
 ld:Rd wr al n cl (lf (ldsL o ln f n))
 sp:n=0∨((∀ b off,a=some ⟨b,off,none⟩→b<B)∧(∀ i,i<n→ln i=0∨∀ b off,ad i=some ⟨b,off,none⟩→b<B)∧∀ b off,al=some ⟨b,off,none⟩→b<B)
 rs:SumR wr B 400 (coef p)
 le:SumR wr (B+1) 0 (fun _=>0)
 row:wr.ownsRow (B+3) 170 1 tv j (mapL bk j)
 tq:∀ i,i<j→B+2<bk i∧SumR wr (bk i) 0 (fun _=>0)
 up:∀ i k,i<k→k<j→bk i<bk k
 bel:Below w.heap.size w wr
 hB:w.heap.size≤B
theorem BgW.round {w wr:World} {B rk:Nat} {a al:Option Addr} {n cap cl:Nat} {ad:Nat→Option Addr} {ln cp:Nat→Nat} {f:Nat→Nat→T} {o:Int} {p:List T} {j:Nat} {tv:Value} {bk:Nat→Nat} (h:BgW w wr B rk a al n cap cl ad ln cp f o p j tv bk)
  {w5:World} {g0 cap0:Nat} (hgrow:((wr.alloc (.map #[] 0)).alloc (.cells #[.map (some wr.heap.size)] 170)).grownBy w5 tv.ownBlock)
  (hown:w5.ownsRow (B+3) 170 1 (.slice (some ⟨g0,0,none⟩) (j+1) cap0) (j+1) (mapL bk j ++ [.map (some wr.heap.size)])) (hat:tv.ownBlock=some g0∨g0=wr.heap.size+2) :
  BgW w (w5.setCell ⟨B+2,4,none⟩ (.slice (some ⟨g0,0,none⟩) (j+1) cap0)) B rk a al n cap cl ad ln cp f o p (j+1) (.slice (some ⟨g0,0,none⟩) (j+1) cap0) (fun i=>if i=j then wr.heap.size else bk i):=by
 have hBd:B+2<wr.heap.size:=World.block_lt_of_cell? wr _ h.c0
 have hb2:Below wr.heap.size wr ((wr.alloc (.map #[] 0)).alloc (.cells #[.map (some wr.heap.size)] 170)):=bel_two _ _ _
 have hrow2:((wr.alloc (.map #[] 0)).alloc (.cells #[.map (some wr.heap.size)] 170)).ownsRow (B+3) 170 1 tv j (mapL bk j):=(h.row.alloc _).alloc _
 have hlt:∀ k,tv.ownBlock=some k→B+3≤k∧k<wr.heap.size:=fun k hk=>h.row.lt k hk
 have hg0:B+3≤g0:=by
  rcases hat with e | e
  ·exact (hlt g0 e).1
  ·omega
 have hsz5:wr.heap.size+2≤w5.heap.size:=by have:=hgrow.size;simpa using this
 have hcell5:∀ {b i:Nat} {v:Value},wr.cell? ⟨b,i,none⟩=some v→b<B+3→w5.cell? ⟨b,i,none⟩=some v:=fun {b i v} hc hb=>by
  have hl:=World.block_lt_of_cell? wr _ hc
  have h1:=(hb2.cell (p:=⟨b,i,none⟩) hl).trans hc
  exact (World.cell?_of_block (a:=⟨b,i,none⟩) (hgrow.block b (by simp;exact Nat.lt_succ_of_lt (Nat.lt_succ_of_lt hl)) (fun e=>by have:=(hlt b e.symm).1;omega))).trans h1
 have hcell:∀ {b i:Nat} {v:Value},wr.cell? ⟨b,i,none⟩=some v→b<B+3→(b≠B+2∨i≠4)→(w5.setCell ⟨B+2,4,none⟩ (.slice (some ⟨g0,0,none⟩) (j+1) cap0)).cell? ⟨b,i,none⟩=some v:=fun {b i v} hc hb hne=>by
  rw [World.cell?_setCell_other _ _ _ _ (by intro e;cases e;rcases hne with h | h <;> exact h rfl)]
  exact hcell5 hc hb
 have hfz:∀ i,(w5.setCell ⟨B+2,4,none⟩ (.slice (some ⟨g0,0,none⟩) (j+1) cap0)).frozen? ⟨B+2,i,none⟩=false:=fun i=>by
  have h1:w5.frozen? ⟨B+2,i,none⟩=false:=(World.frozen?_of_block (a:=⟨B+2,i,none⟩) (hgrow.block (B+2) (by simp;omega) (fun e=>by have:=(hlt (B+2) e.symm).1;omega))).trans ((hb2.frozen (p:=⟨B+2,i,none⟩) hBd).trans (h.fz i))
  simp [go_sem,h1]
 have hs:w5.grownBy (w5.setCell ⟨B+2,4,none⟩ (.slice (some ⟨g0,0,none⟩) (j+1) cap0)) (some (B+2)):=grownSet _ _ _ _
 have hmap:∀ {b N:Nat} {c:M→Int},SumR ((wr.alloc (.map #[] 0)).alloc (.cells #[.map (some wr.heap.size)] 170)) b N c→b≠B+2→SumR (w5.setCell ⟨B+2,4,none⟩ (.slice (some ⟨g0,0,none⟩) (j+1) cap0)) b N c:=fun {b N c} hh hne=>(hh.grown hgrow (hh.ne_row hrow2)).grown hs (by simpa using hne)
 have hrd:∀ {x:Option Addr} {k cp:Nat} {f:Nat→T},Rd wr x k cp f→(k=0∨∀ b off,x=some ⟨b,off,none⟩→b<B)→Rd (w5.setCell ⟨B+2,4,none⟩ (.slice (some ⟨g0,0,none⟩) (j+1) cap0)) x k cp f:=fun {x k cp f} hr hn=>
  ((hr.below hb2).grown hgrow (hn.imp id (fun hh b off e e'=>by have:=hh b off e;have:=(hlt b e'.symm).1;omega))).grown hs (hn.imp id (fun hh b off e e'=>by have h1:=hh b off e;have e2:b=B+2:=(by simpa using e');omega))
 have hnew:SumR ((wr.alloc (.map #[] 0)).alloc (.cells #[.map (some wr.heap.size)] 170)) wr.heap.size 0 (fun _=>0):=(sumNew wr).below (bel_one _ _)
 exact {
  c0:=hcell h.c0 (by omega) (.inr (by decide))
  c1:=hcell h.c1 (by omega) (.inr (by decide))
  c2:=hcell h.c2 (by omega) (.inr (by decide))
  c3:=hcell h.c3 (by omega) (.inr (by decide))
  c4:=by simp [go_sem,hcell5 h.c4 (by omega)]
  c5:=hcell h.c5 (by omega) (.inr (by decide))
  c6:=hcell h.c6 (by omega) (.inr (by decide))
  fz:=hfz
  ls:=by
   refine ⟨h.ls.1,h.ls.2.1,?_,fun i hi=>hrd (h.ls.2.2.2 i hi) (h.sp.elim (fun h0=>absurd hi (by omega)) (fun hh=>hh.2.1 i hi))⟩
   rcases h.ls.2.2.1 with h0 | ⟨b,off,e,hlt1,hc⟩
   ·exact .inl h0
   ·by_cases hn0:n=0
    ·exact .inl hn0
    ·have hbB:=(h.sp.resolve_left hn0).1 b off e
     refine .inr ⟨b,off,e,?_,fun i hi=>hcell (hc i hi) (by omega) (.inl (by omega))⟩
     have:=hs.size
     omega
  ld:=hrd h.ld (h.sp.imp id (·.2.2))
  sp:=h.sp
  rs:=hmap (h.rs.below hb2) (by omega)
  le:=hmap (h.le.below hb2) (by omega)
  row:=by
   rw [mapL_next]
   exact hown.kept hs (.inr (by simp [Value.ownBlock];omega))
  tq:=fun i hi=>by
   by_cases e:i=j
   ·rw [if_pos e]
    exact ⟨hBd,hmap hnew (by omega)⟩
   ·rw [if_neg e]
    have h1:=h.tq i (by omega)
    exact ⟨h1.1,hmap (h1.2.below hb2) (by omega)⟩
  up:=fun i k hik hk=>by
   rw [if_neg (show ¬ i=j by omega)]
   by_cases e:k=j
   ·rw [if_pos e]
    exact (h.tq i (by omega)).2.lt
   ·rw [if_neg e]
    exact h.up i k hik (by omega)
  bel:=by
   have h1:Below w.heap.size w ((wr.alloc (.map #[] 0)).alloc (.cells #[.map (some wr.heap.size)] 170)):=bel_next h.bel hb2
   have h2:Below w.heap.size w w5:=h1.grown hgrow h1.size (fun k e=>by have:=(hlt k e).1;have:=h.hB;omega)
   exact h2.setCell (p:=⟨B+2,4,none⟩) (by have:=h.hB;show w.heap.size≤B+2;omega) _
  hB:=h.hB }
theorem BgW.cell4 {w wr:World} {B rk:Nat} {a al:Option Addr} {n cap cl:Nat} {ad:Nat→Option Addr} {ln cp:Nat→Nat} {f:Nat→Nat→T} {o:Int} {p:List T} {j:Nat} {tv:Value} {bk:Nat→Nat} (h:BgW w wr B rk a al n cap cl ad ln cp f o p j tv bk)
  {w5:World} (hgrow:((wr.alloc (.map #[] 0)).alloc (.cells #[.map (some wr.heap.size)] 170)).grownBy w5 tv.ownBlock):w5.cell? ⟨B+2,4,none⟩=some tv∧w5.frozen? ⟨B+2,4,none⟩=false:=by
 have hBd:B+2<wr.heap.size:=World.block_lt_of_cell? wr _ h.c0
 have hb2:Below wr.heap.size wr ((wr.alloc (.map #[] 0)).alloc (.cells #[.map (some wr.heap.size)] 170)):=bel_two _ _ _
 have hb:=hgrow.block (B+2) (by simp;omega) (fun e=>by have:=(h.row.lt (B+2) e.symm).1;omega)
 exact ⟨(World.cell?_of_block (a:=⟨B+2,4,none⟩) hb).trans ((hb2.cell (p:=⟨B+2,4,none⟩) hBd).trans h.c4),(World.frozen?_of_block (a:=⟨B+2,4,none⟩) hb).trans ((hb2.frozen (p:=⟨B+2,4,none⟩) hBd).trans (h.fz 4))⟩
theorem BgW.done {w wr:World} {B rk:Nat} {a al:Option Addr} {n cap cl:Nat} {ad:Nat→Option Addr} {ln cp:Nat→Nat} {f:Nat→Nat→T} {o:Int} {p:List T} {tv:Value} {bk:Nat→Nat} (h:BgW w wr B rk a al n cap cl ad ln cp f o p n tv bk) :
  ∃ X:DvP,X.Bd=B+2∧X.n=n∧X.ln=ln∧X.f=f∧X.o=o∧X.rk=rk∧X.s0=w.heap.size∧DvW X wr 300 0 400 (dvOf p):=by
 obtain ⟨ta,tc,etv,htc,htk⟩:∃ ta tc,tv=.slice ta n tc∧n≤tc∧((n=0∧ta=none)∨∃ bt,B+3≤bt∧ta=some ⟨bt,0,none⟩∧∀ i,i<n→wr.cell? ⟨bt,0+i,none⟩=some (.map (some (bk i)))):=by
  rcases h.row.2 with ⟨e,h0⟩ | ⟨g,cap',cur,e,hlo,hg,hn,_⟩
  ·exact ⟨none,0,by rw [e,h0],by omega,.inl ⟨h0,rfl⟩⟩
  ·refine ⟨some ⟨g,0,none⟩,cap',e,hn,.inr ⟨g,hlo,rfl,fun i hi=>?_⟩⟩
   have hr:=h.row
   rw [e] at hr
   rw [Nat.zero_add,hr.cellAt i (by omega),mapL_at hi]
 subst etv
 have hB:=h.hB
 refine ⟨⟨w.heap.size,B+2,rk,a,al,ta,n,cap,cl,tc,ad,ln,cp,f,o,B,B+1,bk⟩,rfl,rfl,rfl,rfl,rfl,rfl,rfl,?_⟩
 exact {
  c0:=h.c0
  c1:=h.c1
  c2:=h.c2
  c3:=h.c3
  c4:=h.c4
  c5:=h.c5
  c6:=h.c6
  fz:=h.fz 6
  ls:=h.ls
  ld:=h.ld
  tk:=⟨htc,htk.imp (·.1) (fun ⟨bt,_,e,hc⟩=>⟨bt,0,e,hc⟩)⟩
  rs:=h.rs
  lf:=h.le
  tq:=fun i hi=>(h.tq i hi).2
  ne:=⟨by show B≠B+1;omega,fun i hi=>⟨by have:=(h.tq i hi).1;show bk i≠B;omega,by have:=(h.tq i hi).1;show bk i≠B+1;omega,fun j hj hij=>by
   rcases Nat.lt_or_ge i j with h1 | h1
   ·have:=h.up i j h1 hj;show bk i≠bk j;omega
   ·have:=h.up j i (by omega) hi;show bk i≠bk j;omega⟩⟩
  lo:=⟨by show w.heap.size≤B+2;omega,hB,by show w.heap.size≤B+1;omega,fun i hi=>by have:=(h.tq i hi).1;show w.heap.size≤bk i;omega⟩
  sp:=h.sp.imp id fun hh=>⟨fun b off e=>by have:=hh.1 b off e;show b≠B+2;omega,fun i hi=>(hh.2.1 i hi).imp id (fun h2 b off e=>by have:=h2 b off e;show b≠B+2;omega),fun b off e=>by have:=hh.2.2 b off e;show b≠B+2;omega,fun b off e=>by
    show b≠B+2
    rcases htk with ⟨_,e'⟩ | ⟨bt,hbt,e',_⟩
    ·have e:ta=some ⟨b,off,none⟩:=e
     rw [e'] at e;cases e
    ·have e:ta=some ⟨b,off,none⟩:=e
     rw [e'] at e;cases e;omega⟩ }
set_option linter.unusedSimpArgs false in
theorem makeNone (w:World):(Instr.makeMap 170 none).run Tryz.prog w=.ok (.map (some w.heap.size)) (w.alloc (.map #[] 0)):=by
 have hu:=run_underlying (P:=Tryz.prog) Tryz.underlying170
 unfold Instr.makeMap
 simp [hu,asInt,go_sem,Sem.run_bind,Result.andThen]
theorem infoPS:(Tryz.prog.info? 170).map (fun i=>(i.zero,i.size,i.bytes))=some (some (.map none),1,8):=by kernel_rfl
theorem all_coef {p:List T} (hp:Falls p) (m:M):timesC 1 (lf p) (fun _=>0) p.length m=coef p m:=by
 rw [timesC_is (fl_lf hp) (fun _=>⟨Int.le_refl _,by show (0:Int)≤100;decide⟩) _ (Nat.le_refl _),fromC_lf]
 have:=coef_range hp m
 omega
abbrev begC (rk:Nat) (a al:Option Addr) (n cap cl B:Nat):Obj:=.cells #[.func (.func rk) #[] #[],.slice a n cap,.slice al n cl,.map (some B),.slice none 0 0,.map (some (B+1)),.int .i64 300] 173
theorem BgW.start {w w3 w5:World} {rk:Nat} {a al:Option Addr} {n cap cl:Nat} {ad:Nat→Option Addr} {ln cp:Nat→Nat} {f:Nat→Nat→T} {o:Int} {p:List T} (hp:okL p=true) (hb:Below w.heap.size w w3) (ls:RdS w3 a n cap ad ln cp f) (ld:Rd w3 al n cl (lf (ldsL o ln f n)))
  (hS:SumR w5 w3.heap.size (0+p.length) (timesC 1 (lf p) (fun _=>0) p.length)) (hg:(((w3.alloc (.map #[] 0)).alloc (.map #[] 0)).alloc (begC rk a al n cap cl w3.heap.size)).grownBy w5 (some w3.heap.size)) :
  BgW w w5 w3.heap.size rk a al n cap cl ad ln cp f o p 0 (.slice none 0 0) (fun _=>0):=by
 obtain ⟨pl,pf⟩:=okL_falls hp
 have hb3:Below w3.heap.size w3 (((w3.alloc (.map #[] 0)).alloc (.map #[] 0)).alloc (begC rk a al n cap cl w3.heap.size)):=bel_three _ _ _ _
 have hm:SumR (((w3.alloc (.map #[] 0)).alloc (.map #[] 0)).alloc (begC rk a al n cap cl w3.heap.size)) w3.heap.size 0 (fun _=>0):=((sumNew w3).below (bel_one _ _)).below (bel_one _ _)
 have hm1:SumR (((w3.alloc (.map #[] 0)).alloc (.map #[] 0)).alloc (begC rk a al n cap cl w3.heap.size)) (w3.heap.size+1) 0 (fun _=>0):=by
  have:=(sumNew (w3.alloc (.map #[] 0))).below (bel_one _ (begC rk a al n cap cl w3.heap.size))
  rw [World.size_alloc] at this
  exact this
 have hcell:∀ i v,#[Value.func (.func rk) #[] #[],.slice a n cap,.slice al n cl,.map (some w3.heap.size),.slice none 0 0,.map (some (w3.heap.size+1)),.int .i64 300][i]? = some v→w5.cell? ⟨w3.heap.size+2,i,none⟩=some v:=fun i v hv=>by
  refine cell_grownMap hm ?_ hg
  have hz:((w3.alloc (.map #[] 0)).alloc (.map #[] 0)).heap.size=w3.heap.size+2:=by simp
  rw [← hz,World.cell?_alloc_at _ _ _ _ rfl]
  exact hv
 have hfz:∀ i,w5.frozen? ⟨w3.heap.size+2,i,none⟩=false:=fun i=>by
  have hz:((w3.alloc (.map #[] 0)).alloc (.map #[] 0)).heap.size=w3.heap.size+2:=by simp
  refine (World.frozen?_of_block (a:=⟨w3.heap.size+2,i,none⟩) (hg.block (w3.heap.size+2) (by simp) (by simp))).trans ?_
  rw [← hz,World.frozen?_alloc_at _ _ _ _ rfl]
 exact {
  c0:=hcell 0 _ rfl
  c1:=hcell 1 _ rfl
  c2:=hcell 2 _ rfl
  c3:=hcell 3 _ rfl
  c4:=hcell 4 _ rfl
  c5:=hcell 5 _ rfl
  c6:=hcell 6 _ rfl
  fz:=hfz
  ls:=(ls.below hb3).grownMap hm hg
  ld:=(ld.below hb3).grownMap hm hg
  sp:=by
   by_cases hn:n=0
   ·exact .inl hn
   ·refine .inr ⟨fun b off e=>?_,fun i hi=>(ls.2.2.2 i hi).under,fun b off e=>?_⟩
    ·rcases ls.2.2.1 with h0 | ⟨b',off',e',hlt,_⟩
     ·exact absurd h0 hn
     ·rw [e] at e';cases e';exact hlt
    ·exact (ld.under.resolve_left hn) b off e
  rs:=(hS.congr (fun m _=>all_coef pf m) (fun m=>coef_range pf m)).more (by omega)
  le:=hm1.grown hg (by simp)
  row:=⟨rfl,.inl ⟨rfl,rfl⟩⟩
  tq:=fun i hi=>by omega
  up:=fun i k _ hk=>by omega
  bel:=(bel_next hb hb3).grown hg (bel_next hb hb3).size (fun k e=>by cases e;exact hb.size)
  hB:=hb.size }
set_option maxRecDepth 100000 in
set_option maxHeartbeats 8000000 in
theorem redBeginI (w:World) (o:Int) (pa:Option Addr) (pc:Nat) (p:List T) (a:Option Addr) (n cap:Nat) (ad:Nat→Option Addr) (ln cp:Nat→Nat) (f:Nat→Nat→T) (hp:RL w pa pc p) (h:RdS w a n cap ad ln cp f) (o1:1≤o) (o2:o≤3) (hpo:okL p=true) (hl:lstOk n ln f=true) :
  Calls Tryz.prog 112 #[.int .i64 o,.slice pa p.length pc,.slice a n cap] w fun r w'=>∃ X:DvP,r=.returned (.tuple #[.pointer (some ⟨X.Bd,0,none⟩),.bool true])∧X.n=n∧X.ln=ln∧X.f=f∧X.o=o∧X.rk=rkF o∧X.s0=w.heap.size∧DvW X w' 300 0 400 (dvOf p)∧Below w.heap.size w w':=by
 obtain ⟨i0,hi0,hz0,hz1,hz2⟩:=info_parts infoPS
 obtain ⟨pl,pf⟩:=okL_falls hpo
 have n12:=(lstOk_all hl).1
 have hnl:(n:Int)≤12:=by omega
 have hpl:(p.length:Int)≤400:=by omega
 have HP:=Hid.mk' hp
 have HH:=Hid.mk' h
 have HF:=Hid.mk' pf
 obtain ⟨rk,hrk⟩:∃ rk,rkF o=rk:=⟨_,rfl⟩
 have hord:=fun W:World=>ordRankV o W o1 o2
 rw [hrk] at hord ⊢
 have HORD:=Hid.mk' hord
 clear hp h pf hord hrk
 go_enter Tryz.func112,Tryz.ntmps112
 go_wp2_with fail
 refine (HORD.out _).mono ?_
 rintro r w1 ⟨rfl,hb1⟩
 have HB1:=Hid.mk' hb1
 clear hb1
 go_wp2_with fail
 refine (redLeadsI _ o _ _ _ _ _ _ _ (HH.out.below HB1.out) o1 o2 hl).mono ?_
 rintro r w2 ⟨v,rfl,hb2,ho2⟩
 obtain ⟨al,cl,rfl,hout⟩:=out_of_owns ho2 (by rw [ldsL_len];omega)
 have hld:=hout.1
 rw [ldsL_len] at hld
 rw [ldsL_len]
 have HLD:=Hid.mk' hld
 have HB2:=Hid.mk' (bel_next HB1.out hb2)
 clear hb2 ho2 hout hld
 go_wp2_with fail
 refine (polOkI _ _ _ _ (lf p) (HP.out.below HB2.out)).mono ?_
 rw [show polOk p.length (lf p)=true from hpo]
 rintro r w3 ⟨rfl,hb3⟩
 have HB3:=Hid.mk' (bel_next HB2.out hb3)
 have HLD3:=Hid.mk' (HLD.out.below hb3)
 have hmk:=makeNone
 have HT:=Hid.mk' (sumTimes (((w3.alloc (.map #[] 0)).alloc (.map #[] 0)).alloc (begC rk a al n cap cl w3.heap.size)) w3.heap.size 0 (fun _=>0) 1 pa p.length pc (lf p) (((sumNew w3).below (bel_one _ _)).below (bel_one _ _)) (((HP.out.below HB3.out).below (bel_three _ _ _ _))) ((HP.out.below HB3.out).apart (Nat.le_refl _)) (fun i hi=>(HF.out.2 _ (lf_mem hi)).1) (fun i hi=>by have:=HF.out.2 _ (lf_mem hi);omega) (by omega) (by omega) (by omega) (by simp;omega))
 clear hb3 HLD HB1 HB2
 go_wp2_with fail
 refine HT.out.mono ?_
 rintro r w5 ⟨rfl,hS5,hg5⟩
 have HST:=Hid.mk' (BgW.start (o:=o) (ad:=ad) (ln:=ln) (cp:=cp) (f:=f) hpo HB3.out (HH.out.below HB3.out) HLD3.out hS5 hg5)
 clear hS5 hg5 HT HLD3
 go_wp2
 rw [show w3.heap.size+1+1=w3.heap.size+2 from rfl]
 go_loopw [46] (fun ii wr=>∃ (j:Nat) (tv:Value) (bk:Nat→Nat),j≤n∧ii=.int .i64 (j:Int)∧BgW w wr w3.heap.size rk a al n cap cl ad ln cp f o p j tv bk) (fun ii _=>n - (intOf ii).toNat)
 case atStart=>exact ⟨0,_,_,Nat.zero_le _,rfl,HST.out⟩
 case round=>
  obtain ⟨j,tv,bk,hj,rfl,hW⟩:=hrel
  have HW:=Hid.mk' hW
  by_cases hlt:j<n
  ·have hjn:(j:Int)<(n:Int):=by omega
   have k4:=hW.c4
   have kz:=hW.fz 4
   have hBd:w3.heap.size+2<wr.heap.size:=World.block_lt_of_cell? wr _ hW.c0
   have hnew:=heap_alloc_new (wr.alloc (.map #[] 0)) (.cells #[.map (some wr.heap.size)] 170)
   rw [World.size_alloc] at hnew
   have HN:=Hid.mk' hnew
   have hrow:=(hW.row.alloc (.map #[] 0)).alloc (.cells #[.map (some wr.heap.size)] 170)
   have hnews:∀ jj u,[Value.map (some wr.heap.size)][jj]? = some u→((wr.alloc (.map #[] 0)).alloc (.cells #[.map (some wr.heap.size)] 170)).cell? ((⟨wr.heap.size+1,0,none⟩:Addr).add jj)=some u:=World.news_of_block HN.out
   have hone:∀ u∈[Value.map (some wr.heap.size)],u.oneCell'=true:=fun u hu=>by
    have:u=.map (some wr.heap.size):=by simpa using hu
    subst this;rfl
   have hbase:w3.heap.size+3≤((wr.alloc (.map #[] 0)).alloc (.cells #[.map (some wr.heap.size)] 170)).heap.size:=by simp;omega
   have hmax:j+1≤maxLen:=by unfold maxLen;omega
   have hlen:=mapL_len bk j
   clear hW hnew
   go_wp2_with (at_builtin;refine wpList_append_lies _ rfl (.tmp 52) (.tmp 54) 171 rfl (w3.heap.size+3) 170 i0 _ 1 8 Tryz.underlying171 hi0 hz0 hz1 hz2 rfl (by omega) _ j (mapL bk j) rfl hrow ⟨wr.heap.size+1,0,none⟩ 1 1 [.map (some wr.heap.size)] rfl rfl hnews hone (by omega) hmax (by omega) hbase _ rfl ?_;intro g0 cap0 w6 hown1 hgrow hat hlt1;have HR:=Hid.mk' (HW.out.round hgrow hown1 (hat.imp id (fun e=>e.trans (by simp))));obtain ⟨k5,kz5⟩:=HW.out.cell4 hgrow;clear hown1 hgrow hat hlt1 hrow)
   go_roundw
   case rel=>exact ⟨j+1,_,_,by omega,by go_num,HR.out⟩
   case measure=>simp [intOf];omega
  ·have hjn:¬ (j:Int)<(n:Int):=by omega
   have hje:j=n:=by omega
   subst hje
   obtain ⟨X,e0,e1,e2,e3,e4,e5,e6,hD⟩:=HW.out.done
   have HD:=Hid.mk' hD
   clear hW hD
   go_wp2
   refine bodyPost_ret (results_tmp2 rfl _ _ _) rfl ?_
   exact ⟨X,by rw [e0];rfl,e1,e2,e3,e4,e5,e6,HD.out,HW.out.bel⟩
end Go.Proofs.YtdidlcjhodejjaaGreat
namespace Go.Proofs.YtdidlcjhodejjaaGreat
open Go.RowKit Go.Deep Go.Joins
set_option linter.unusedVariables false
set_option maxHeartbeats 4000000 in
theorem toLists2 (w:World) (a:Option Addr) (n cap:Nat) (ad:Nat→Option Addr) (ln cp:Nat→Nat) (f:Nat→Nat→T) (h:RdS w a n cap ad ln cp f) :
  Calls Tryz.prog 11 #[.slice a n cap] w fun r w'=>∃ B:Nat→Nat,r=.returned (.slice (some ⟨w.heap.size,0,none⟩) n n)∧Below w.heap.size w w'∧w'.rowIs w.heap.size 45 n (partS B ln n)∧(∀ i,i<n→w.heap.size<B i∧Own w' (B i) (ln i) (f i))∧∀ i j,i<j→j<n→B i<B j:=by
 have hn:(n:Int)≤140737488351232:=by have:=h.2.1;omega
 have h2:=h.2.1
 have HH:=Hid.mk' h
 clear h
 go_enter Tryz.func11,Tryz.ntmps11
 go_wp2_with (at_make;refine make_lists _ rfl _ _ rfl n rfl rfl (by omega) ?_;intro hrow)
 go_loopw [4] (fun i wr=>∃ (k:Nat) (B:Nat→Nat),k≤n∧i=.int .i64 k∧Below w.heap.size w wr∧wr.rowIs w.heap.size 45 n (partS B ln k)∧(∀ i,i<k→w.heap.size<B i∧Own wr (B i) (ln i) (f i))∧∀ i j,i<j→j<k→B i<B j) (fun i _=>n - (intOf i).toNat)
 case atStart=>exact ⟨0,fun _=>0,Nat.zero_le _,rfl,(Below.refl _ _).alloc (Nat.le_refl _) _,hrow.congr fun j _=>by simp [partS],fun i hi=>by omega,fun i j _ hj=>by omega⟩
 case round=>
  obtain ⟨k,B,hk,rfl,hB,hR,hO,hD⟩:=hrel
  have HD:=Hid.mk' hD
  clear hD
  by_cases hlt:k<n
  ·rcases HH.out.2.2.1 with h0 | ⟨b,off,rfl,hblt,hcl⟩
   ·omega
   have hkn:(k:Int)<(n:Int):=by omega
   have g0:wr.cell? ⟨b,off+k,none⟩=some (.slice (ad k) (ln k) (cp k)):=(hB.cell (p:=⟨b,off+k,none⟩) hblt).trans (hcl k hlt)
   have HR:=Hid.mk' hR
   have HO:=Hid.mk' hO
   have HB:=Hid.mk' hB
   have HK:=Hid.mk' ((HH.out.2.2.2 k hlt).below hB)
   clear hR hcl hO
   go_wp2_with fail
   refine (toTerms _ _ _ _ (f k) HK.out).mono ?_
   rintro r w1 ⟨rfl,hb,ho⟩
   have hR1:=HR.out.of_block (hb.block w.heap.size (HR.out.lt))
   have hB1:=HB.out.trans (hb.mono HB.out.size)
   have hsz:w.heap.size<wr.heap.size:=HR.out.lt
   have q0:=hR1.cell (i:=k) hlt
   have fz:=fun i=>hR1.frozen i
   obtain ⟨V,hV⟩:∃ V,wr.heap.size=V:=⟨_,rfl⟩
   rw [hV] at ho ⊢
   have HN:=Hid.mk' (partS_next (v:=V) hR1)
   have HO2:Hid (∀ i,i<k+1→w.heap.size<(if i=k then V else B i)∧Own w1 (if i=k then V else B i) (ln i) (f i)):=fun i hi=>by
    by_cases e:i=k
    ·rw [if_pos e,e]
     exact ⟨by omega,ho⟩
    ·rw [if_neg e]
     have:=HO.out i (by omega)
     exact ⟨this.1,this.2.below hb this.2.lt⟩
   have HD2:Hid (∀ i j,i<j→j<k+1→(if i=k then V else B i)<(if j=k then V else B j)):=fun i j hij hj=>by
    rw [if_neg (show ¬ i=k by omega)]
    by_cases e:j=k
    ·rw [if_pos e,← hV]
     exact (HO.out i (by omega)).2.lt
    ·rw [if_neg e]
     exact HD.out i j hij (by omega)
   have HB1:=Hid.mk' hB1
   clear hR1 HR hb ho HO hB1 hB
   go_wp2
   go_roundw
   case rel=>
    refine ⟨k+1,_,by omega,by go_num,HB1.out.setCell (Nat.le_refl _) _,HN.out,fun i hi=>?_,HD2.out⟩
    have:=HO2.out i hi
    refine ⟨this.1,this.2.of_block ?_⟩
    exact Below.heap_setCell _ _ _ _ (Nat.ne_of_gt this.1)
   case measure=>simp [intOf];omega
  ·have hkn:k=n:=by omega
   subst hkn
   have HR:=Hid.mk' hR
   have HO:=Hid.mk' hO
   clear hR hO
   go_wp2
   go_ret
   exact ⟨B,rfl,hB,HR.out,HO.out,HD.out⟩
structure Apart (lo hi:Nat) (w w':World):Prop where
 os:w'.os=w.os
 tape:w'.tape=w.tape
 output:w'.output=w.output
 size:w'.heap.size=w.heap.size
 block:∀ k,k<w.heap.size→k<lo∨hi≤k→w'.heap[k]? = w.heap[k]?
theorem Apart.refl (lo hi:Nat) (w:World):Apart lo hi w w:=⟨rfl,rfl,rfl,rfl,fun _ _ _=>rfl⟩
theorem Apart.grown {lo hi:Nat} {w w' w'':World} {g:Nat} (h:Apart lo hi w w') (hg:w'.grownBy w'' (some g)) (hs:w''.heap.size=w'.heap.size) (h1:lo≤g) (h2:g<hi):Apart lo hi w w'':=
 ⟨hg.os.trans h.os,hg.tape.trans h.tape,hg.output.trans h.output,hs.trans h.size,fun k hk hc=>(hg.block k (by rw [h.size];exact hk) (fun e=>by cases e;omega)).trans (h.block k hk hc)⟩
set_option maxRecDepth 100000 in
set_option maxHeartbeats 4000000 in
theorem markLists (w:World) (g n hi:Nat) (B ln:Nat→Nat) (f:Nat→Nat→T) (k:Int) (hR:w.rowIs g 45 n (partS B ln n)) (hO:∀ i,i<n→g<B i∧B i<hi∧Own w (B i) (ln i) (f i)) (hD:∀ i j,i<j→j<n→B i<B j) (hn:n≤1048576) (hl:∀ i,i<n→ln i≤1048576) (hk0:0≤k) (hk1:k≤10000000000000) :
  Calls Tryz.prog 14 #[.slice (some ⟨g,0,none⟩) n n,.int .i64 k] w fun r w'=>∃ z:Int,r=.returned (.int .i64 z)∧0≤z∧z≤k+5242880 * n∧Apart (g+1) hi w w':=by
 have hn':(n:Int)≤1048576:=by omega
 have HR:=Hid.mk' hR
 have HO:=Hid.mk' hO
 have HD:=Hid.mk' hD
 have HL:=Hid.mk' hl
 clear hR hO hD hl
 go_enter Tryz.func14,Tryz.ntmps14
 go_wp2
 go_loopw [1,5] (fun kk ii wr=>∃ (i:Nat) (z:Int),i≤n∧ii=.int .i64 (i:Int)∧kk=.int .i64 z∧0≤z∧z≤k+5242880 * i∧Apart (g+1) hi w wr∧∀ j,i≤j→j<n→Own wr (B j) (ln j) (f j)) (fun _ ii _=>n - (intOf ii).toNat)
 case atStart=>exact ⟨0,k,Nat.zero_le _,rfl,rfl,hk0,by omega,Apart.refl _ _ _,fun j _ hj=>(HO.out j hj).2.2⟩
 case round=>
  obtain ⟨i,z,hi,rfl,rfl,z0,z1,hA,hW⟩:=hrel
  have HA:=Hid.mk' hA
  have HW:=Hid.mk' hW
  clear hW
  by_cases hlt:i<n
  ·have hil:(i:Int)<(n:Int):=by omega
   have hgl:g<w.heap.size:=HR.out.lt
   have hrow:=HR.out.of_block (hA.block g hgl (.inl (Nat.lt_succ_self _)))
   have g0:=hrow.cell (i:=i) hlt
   have e0:partS B ln n i=.slice (some ⟨B i,0,none⟩) (ln i) (ln i):=by simp [partS,hlt]
   rw [e0] at g0
   have hli:=HL.out i hlt
   have hw:=HW.out i (Nat.le_refl _) hlt
   have HM:=Hid.mk' (markTerms wr (some ⟨B i,0,none⟩) (ln i) (ln i) (f i) z hw.wr (by omega) z0 (by omega))
   clear hrow hA hw e0
   go_wp2_with fail
   refine HM.out.mono ?_
   rintro r w1 ⟨rfl,hg,hz,_,_⟩
   have HA1:=Hid.mk' (HA.out.grown (show wr.grownBy w1 (some (B i)) from hg) hz (HO.out i hlt).1 (HO.out i hlt).2.1)
   have HW1:Hid (∀ j,i+1≤j→j<n→Own w1 (B j) (ln j) (f j)):=fun j h1 h2=>(HW.out j (by omega) h2).of_block (hg.block (B j) (HW.out j (by omega) h2).lt (fun e=>by
    have:=HD.out i j (by omega) h2
    have e':B j=B i:=by simpa using e
    omega))
   clear hg hz HM g0
   go_wp2
   go_roundw
   case rel=>exact ⟨i+1,z+5 * (ln i),by omega,by go_num,rfl,by omega,by omega,HA1.out,HW1.out⟩
   case measure=>simp [intOf];omega
  ·have hnl:¬ (i:Int)<(n:Int):=by omega
   have hie:i=n:=by omega
   subst hie
   go_wp2
   go_ret
   exact ⟨z,rfl,z0,z1,HA.out⟩
end Go.Proofs.YtdidlcjhodejjaaGreat
namespace Go.Proofs.YtdidlcjhodejjaaGreat
open Go.RowKit Go.Deep Go.Joins
set_option linter.unusedVariables false
structure OutS (lo:Nat) (w:World) (a:Option Addr) (n cap:Nat) (ad:Nat→Option Addr) (ln cp:Nat→Nat) (f:Nat→Nat→T) (R:Nat) (B:Nat→Nat):Prop where
 rd:RdS w a n cap ad ln cp f
 row:n=0∨∃ off,a=some ⟨R,off,none⟩∧lo≤R
 wr:∀ i,i<n→Wr w (ad i) (ln i) (f i)
 el:∀ i,i<n→ln i=0∨∃ off,ad i=some ⟨B i,off,none⟩∧lo≤B i∧B i≠R
 ap:∀ i j,i<j→j<n→ln i≠0→ln j≠0→B i≠B j
structure Only (P:Nat→Prop) (w w':World):Prop where
 os:w'.os=w.os
 tape:w'.tape=w.tape
 output:w'.output=w.output
 size:w'.heap.size=w.heap.size
 block:∀ k,k<w.heap.size→¬ P k→w'.heap[k]? = w.heap[k]?
theorem Only.refl (P:Nat→Prop) (w:World):Only P w w:=⟨rfl,rfl,rfl,rfl,fun _ _ _=>rfl⟩
theorem Only.grown {P:Nat→Prop} {w w' w'':World} {g:Nat} (h:Only P w w') (hg:w'.grownBy w'' (some g)) (hs:w''.heap.size=w'.heap.size) (h1:P g):Only P w w'':=
 ⟨hg.os.trans h.os,hg.tape.trans h.tape,hg.output.trans h.output,hs.trans h.size,fun k hk hc=>(hg.block k (by rw [h.size];exact hk) (fun e=>by cases e;exact hc h1)).trans (h.block k hk hc)⟩
theorem Only.cell {P:Nat→Prop} {w w':World} (h:Only P w w') {b o:Nat} (hb:b<w.heap.size) (hp:¬ P b):w'.cell? ⟨b,o,none⟩=w.cell? ⟨b,o,none⟩:=
 World.cell?_of_block (w:=w) (a:=⟨b,o,none⟩) (h.block b hb hp)
theorem Only.rd {P:Nat→Prop} {w w':World} (h:Only P w w') {a:Option Addr} {n cap:Nat} {f:Nat→T} (hr:Rd w a n cap f) (hp:n=0∨∀ b off,a=some ⟨b,off,none⟩→¬ P b):Rd w' a n cap f:=by
 obtain ⟨h1,h2,h3⟩:=hr
 refine ⟨h1,h2,?_⟩
 rcases h3 with h0 | ⟨b,off,he,hlt,hc⟩
 ·exact .inl h0
 ·rcases hp with h0 | hp
  ·exact .inl h0
  ·refine .inr ⟨b,off,he,by rw [h.size];exact hlt,fun i hi=>?_⟩
   have hn:=hp b off he
   obtain ⟨c0,c1,c2,c3,c4⟩:=hc i hi
   exact ⟨(h.cell hlt hn).trans c0,(h.cell hlt hn).trans c1,(h.cell hlt hn).trans c2,(h.cell hlt hn).trans c3,(h.cell hlt hn).trans c4⟩
theorem Only.wr {P:Nat→Prop} {w w':World} (h:Only P w w') {a:Option Addr} {n:Nat} {f:Nat→T} (hr:Wr w a n f) (hp:n=0∨∀ b off,a=some ⟨b,off,none⟩→¬ P b):Wr w' a n f:=by
 rcases hr with h0 | ⟨g,off,N,F,he,hrow,hle,hF⟩
 ·exact .inl h0
 ·rcases hp with h0 | hp
  ·exact .inl h0
  ·exact .inr ⟨g,off,N,F,he,hrow.of_block (h.block g hrow.lt (hp g off he)),hle,hF⟩
theorem Only.below {P:Nat→Prop} {lo:Nat} {u w w':World} (hb:Below lo u w) (h:Only P w w') (hp:∀ k,P k→lo≤k) (hlo:lo≤u.heap.size):Below lo u w':=
 ⟨h.os.trans hb.os,h.tape.trans hb.tape,h.output.trans hb.output,by rw [h.size];exact hb.size,fun k hk=>(h.block k (Nat.lt_of_lt_of_le hk (Nat.le_trans hlo hb.size)) (fun e=>by have:=hp k e;omega)).trans (hb.block k hk)⟩
def ksum (k:Int) (ln:Nat→Nat):Nat→Int
 | 0=>k
 | i+1=>ksum k ln i+5 * (ln i)
theorem ksum_bd {k:Int} {ln:Nat→Nat} {n:Nat} (hl:∀ i,i<n→ln i≤1048576):∀ i,i≤n→k≤ksum k ln i∧ksum k ln i≤k+5242880 * i
 | 0,_=>⟨Int.le_refl _,by show k≤k+5242880 * ((0:Nat):Int);omega⟩
 | i+1,h=>by
  have h1:=ksum_bd (k:=k) hl i (by omega)
  have h2:=hl i (by omega)
  show k≤ksum k ln i+5 * (ln i)∧ksum k ln i+5 * (ln i)≤k+5242880 * ((i+1:Nat):Int)
  omega
set_option maxRecDepth 100000 in
set_option maxHeartbeats 4000000 in
theorem markListsO (lo:Nat) (w:World) (a:Option Addr) (n cap:Nat) (ad:Nat→Option Addr) (ln cp:Nat→Nat) (f:Nat→Nat→T) (R:Nat) (B:Nat→Nat) (k:Int) (h:OutS lo w a n cap ad ln cp f R B) (hn:n≤1048576) (hl:∀ i,i<n→ln i≤1048576) (hk0:0≤k) (hk1:k≤10000000000000) :
  Calls Tryz.prog 14 #[.slice a n cap,.int .i64 k] w fun r w'=>r=.returned (.int .i64 (ksum k ln n))∧Only (fun b=>∃ i,i<n∧ln i≠0∧B i=b) w w'∧RdS w' a n cap ad ln cp (fun i=>mk (ksum k ln i)):=by
 have hn':(n:Int)≤1048576:=by omega
 have HH:=Hid.mk' h
 have HL:=Hid.mk' hl
 have HK:=Hid.mk' (ksum_bd (k:=k) hl)
 clear h hl
 go_enter Tryz.func14,Tryz.ntmps14
 go_wp2
 go_loopw [1,5] (fun kk ii wr=>∃ i:Nat,i≤n∧ii=.int .i64 (i:Int)∧kk=.int .i64 (ksum k ln i)∧Only (fun b=>∃ i,i<n∧ln i≠0∧B i=b) w wr∧(∀ j,i≤j→j<n→Wr wr (ad j) (ln j) (f j))∧(∀ j,j<i→Rd wr (ad j) (ln j) (cp j) (mk (ksum k ln j)))) (fun _ ii _=>n - (intOf ii).toNat)
 case atStart=>exact ⟨0,Nat.zero_le _,rfl,rfl,Only.refl _ _,fun j _ hj=>HH.out.wr j hj,fun j hj=>by omega⟩
 case round=>
  obtain ⟨i,hi,rfl,rfl,hA,hW,hM⟩:=hrel
  have HA:=Hid.mk' hA
  have HW:=Hid.mk' hW
  have HM:=Hid.mk' hM
  clear hW hM
  obtain ⟨z0,z1⟩:=HK.out i hi
  by_cases hlt:i<n
  ·have hil:(i:Int)<(n:Int):=by omega
   rcases HH.out.rd.2.2.1 with h0 | ⟨b,off,rfl,hblt,hcl⟩
   ·omega
   have hbR:b=R:=by
    rcases HH.out.row with h0 | ⟨off',e,_⟩
    ·omega
    ·simpa using congrArg (fun x:Option Addr=>x.map (·.block)) e
   have hnp:¬ (fun b=>∃ i,i<n∧ln i≠0∧B i=b) b:=fun ⟨j,hj,h0,e⟩=>by
    rcases HH.out.el j hj with h1 | ⟨_,_,_,h2⟩
    ·exact h0 h1
    ·exact h2 (e.trans hbR)
   have g0:wr.cell? ⟨b,off+i,none⟩=some (.slice (ad i) (ln i) (cp i)):=(hA.cell hblt hnp).trans (hcl i hlt)
   have hli:=HL.out i hlt
   obtain ⟨y,hy⟩:∃ y,ksum k ln i=y:=⟨_,rfl⟩
   rw [hy] at z0 z1
   have hr0:=HH.out.rd.2.2.2 i hlt
   have HMK:=Hid.mk' (markTerms wr (ad i) (ln i) (cp i) (f i) y (HW.out i (Nat.le_refl _) hlt) (by omega) (by omega) (by omega))
   have hks:ksum k ln (i+1)=y+5 * (ln i):=by show ksum k ln i+5 * (ln i)=_;rw [hy]
   have HKS:=Hid.mk' hks
   have HR0:=Hid.mk' (And.intro hr0.1 hr0.2.1)
   have HY:=Hid.mk' hy
   clear hcl hA hr0 hks hy hbR hnp
   rw [HY.out]
   go_wp2_with fail
   refine HMK.out.mono ?_
   rintro r w1 ⟨rfl,hg,hz,hw,hsame⟩
   have HA1:Hid (Only (fun b=>∃ i,i<n∧ln i≠0∧B i=b) w w1):=by
    by_cases h0:ln i=0
    ·rw [hsame h0];exact HA.out
    ·rcases HH.out.el i hlt with h1 | ⟨o1,e1,_,_⟩
     ·exact absurd h1 h0
     ·rw [e1] at hg
      exact HA.out.grown hg hz ⟨i,hlt,h0,rfl⟩
   have HW1:Hid (∀ j,i+1≤j→j<n→Wr w1 (ad j) (ln j) (f j)):=fun j h1 h2=>by
    by_cases h0:ln i=0
    ·rw [hsame h0];exact HW.out j (by omega) h2
    ·have hwj:=HW.out j (by omega) h2
     by_cases hj0:ln j=0
     ·exact .inl hj0
     ·rcases hwj with h3 | ⟨g,off2,N,F,he,hrow,hle,hF⟩
      ·exact absurd h3 hj0
      ·refine .inr ⟨g,off2,N,F,he,hrow.of_block (hg.block g hrow.lt ?_),hle,hF⟩
       rcases HH.out.el i hlt with h4 | ⟨o1,e1,_,_⟩
       ·exact absurd h4 h0
       ·rcases HH.out.el j h2 with h5 | ⟨o2,e2,_,_⟩
        ·exact absurd h5 hj0
        ·rw [he] at e2
         have e3:g=B j:=by simpa using congrArg (fun x:Option Addr=>x.map (·.block)) e2
         rw [e1]
         intro e4
         have e5:g=B i:=by simpa using e4
         exact HH.out.ap i j (by omega) h2 h0 hj0 (e5.symm.trans e3)
   have HM1:Hid (∀ j,j<i+1→Rd w1 (ad j) (ln j) (cp j) (mk (ksum k ln j))):=fun j h1=>by
    by_cases e:j=i
    ·subst e
     rw [HY.out]
     by_cases h0:ln j=0
     ·exact ⟨HR0.out.1,HR0.out.2,.inl h0⟩
     ·exact hw.rd HR0.out.1 HR0.out.2
    ·have hr:=HM.out j (by omega)
     by_cases h0:ln i=0
     ·rw [hsame h0];exact hr
     ·refine hr.grown hg ?_
      by_cases hj0:ln j=0
      ·exact .inl hj0
      ·refine .inr fun b' off' eb=>?_
       rcases HH.out.el i hlt with h4 | ⟨o1,e1,_,_⟩
       ·exact absurd h4 h0
       ·rcases HH.out.el j (by omega) with h5 | ⟨o2,e2,_,_⟩
        ·exact absurd h5 hj0
        ·rw [eb] at e2
         have e3:b'=B j:=by simpa using congrArg (fun x:Option Addr=>x.map (·.block)) e2
         rw [e1]
         intro e4
         have e5:b'=B i:=by simpa using e4
         exact HH.out.ap j i (by omega) hlt hj0 h0 (e3.symm.trans e5)
   clear hg hz hw hsame HMK g0
   go_wp2
   go_roundw
   case rel=>exact ⟨i+1,by omega,by go_num,by rw [HKS.out],HA1.out,HW1.out,HM1.out⟩
   case measure=>simp [intOf];omega
  ·have hnl:¬ (i:Int)<(n:Int):=by omega
   have hie:i=n:=by omega
   subst hie
   have HRR:Hid (RdS wr a i cap ad ln cp (fun i=>mk (ksum k ln i))):=by
    refine ⟨HH.out.rd.1,HH.out.rd.2.1,?_,fun j hj=>HM.out j hj⟩
    rcases HH.out.rd.2.2.1 with h0 | ⟨b,off,e,hblt,hcl⟩
    ·exact .inl h0
    ·refine .inr ⟨b,off,e,by rw [HA.out.size];exact hblt,fun j hj=>(HA.out.cell hblt ?_).trans (hcl j hj)⟩
     rintro ⟨j',hj',h0,e'⟩
     rcases HH.out.row with h1 | ⟨off',e2,_⟩
     ·omega
     ·rw [e] at e2
      have hbR:b=R:=by simpa using congrArg (fun x:Option Addr=>x.map (·.block)) e2
      rcases HH.out.el j' hj' with h1 | ⟨_,_,_,h2⟩
      ·exact h0 h1
      ·exact h2 (e'.trans hbR)
   go_wp2
   go_ret
   exact ⟨rfl,HA.out,HRR.out⟩
set_option maxRecDepth 100000 in
set_option maxHeartbeats 4000000 in
theorem heldLists (w:World) (a:Option Addr) (n cap:Nat) (ad:Nat→Option Addr) (ln cp:Nat→Nat) (k:Int) (h:RdS w a n cap ad ln cp (fun i=>mk (ksum k ln i))) (hn:n≤1048576) (hl:∀ i,i<n→ln i≤1048576) (hk0:0≤k) (hk1:k≤10000000000000) :
  Calls Tryz.prog 15 #[.slice a n cap,.int .i64 k] w fun r w'=>r=.returned (.int .i64 (ksum k ln n))∧w'=w:=by
 have hn':(n:Int)≤1048576:=by omega
 have HH:=Hid.mk' h
 have HL:=Hid.mk' hl
 have HK:=Hid.mk' (ksum_bd (k:=k) hl)
 clear h hl
 go_enter Tryz.func15,Tryz.ntmps15
 go_wp2
 go_loopw [1,5] (fun kk ii wr=>∃ i:Nat,i≤n∧ii=.int .i64 (i:Int)∧kk=.int .i64 (ksum k ln i)∧wr=w) (fun _ ii _=>n - (intOf ii).toNat)
 case atStart=>exact ⟨0,Nat.zero_le _,rfl,rfl,rfl⟩
 case round=>
  obtain ⟨i,hi,rfl,rfl,rfl⟩:=hrel
  obtain ⟨z0,z1⟩:=HK.out i hi
  by_cases hlt:i<n
  ·have hil:(i:Int)<(n:Int):=by omega
   rcases HH.out.2.2.1 with h0 | ⟨b,off,rfl,hblt,hcl⟩
   ·omega
   have g0:=hcl i hlt
   have hli:=HL.out i hlt
   obtain ⟨y,hy⟩:∃ y,ksum k ln i=y:=⟨_,rfl⟩
   rw [hy] at z0 z1
   have hr0:=HH.out.2.2.2 i hlt
   rw [show (fun i=>mk (ksum k ln i)) i=mk y by rw [← hy]] at hr0
   have HMK:=Hid.mk' (heldTerms _ (ad i) (ln i) (cp i) y hr0 (by omega) (by omega))
   have hks:ksum k ln (i+1)=y+5 * (ln i):=by show ksum k ln i+5 * (ln i)=_;rw [hy]
   have HKS:=Hid.mk' hks
   have hng:¬ (y+5 * (ln i:Int))<0:=by omega
   have hng':decide ((y+5 * (ln i:Int))<0)=false:=decide_eq_false hng
   have HY:=Hid.mk' hy
   clear hcl hr0 hks hy
   rw [HY.out]
   go_wp2_with fail
   refine HMK.out.mono ?_
   rintro r w1 ⟨rfl,hw⟩
   obtain rfl:=hw.symm
   clear hw HMK g0
   go_wp2
   go_roundw
   case rel=>exact ⟨i+1,by omega,by go_num,by rw [HKS.out],by first | rfl | trivial⟩
   case measure=>simp [intOf];omega
  ·have hnl:¬ (i:Int)<(n:Int):=by omega
   have hie:i=n:=by omega
   subst hie
   go_wp2
   go_ret
   exact ⟨rfl,rfl⟩
end Go.Proofs.YtdidlcjhodejjaaGreat
