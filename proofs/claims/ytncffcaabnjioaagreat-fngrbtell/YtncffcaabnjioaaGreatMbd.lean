/-
  A division's step.
  A division ahead of its first step.
  An answer that is a list of operators: its memory is its own; it is marked, and the marks are held.
-/
import Derived.Test.YtncffcaabnjioaaGreatMbc
set_option maxHeartbeats 8000000
set_option maxRecDepth 100000
namespace Go.Proofs.YtncffcaabnjioaaGreat
open Go.RowKit Go.Deep Go.Joins Go.Maps
set_option linter.unusedVariables false
abbrev E5 (A g:Nat) (v:Value) (m:M) (u:World):Prop:=u.cell? ⟨A,2,none⟩=some v∧u.cell? ⟨g,1,none⟩=some (.int .i64 m.x)∧u.cell? ⟨g,2,none⟩=some (.int .i64 m.y)∧u.cell? ⟨g,3,none⟩=some (.int .i64 m.d)∧u.cell? ⟨g,4,none⟩=some (.int .i64 m.e)
theorem E5.below {A g:Nat} {v:Value} {m:M} {u u':World} (h:E5 A g v m u) (hb:Below u.heap.size u u'):E5 A g v m u':=
 ⟨(hb.cell (p:=⟨A,2,none⟩) (cU u _ h.1)).trans h.1,(hb.cell (p:=⟨g,1,none⟩) (cU u _ h.2.1)).trans h.2.1,(hb.cell (p:=⟨g,2,none⟩) (cU u _ h.2.2.1)).trans h.2.2.1,(hb.cell (p:=⟨g,3,none⟩) (cU u _ h.2.2.2.1)).trans h.2.2.2.1,(hb.cell (p:=⟨g,4,none⟩) (cU u _ h.2.2.2.2)).trans h.2.2.2.2⟩
theorem wI {p:T→Bool} {f g:Nat→T}:∀{n:Nat},(∀i,i<n→f i=g i)→mZ p f n=mZ p g n
 |0,_=>rfl
 |n+1,h=>by have ih:=wI (p:=p) (f:=f) (g:=g) (n:=n) (fun i hi=>h i (by omega));unfold mZ;rw[ih,h n (by omega)]
theorem lJ.moreN {X:sR} {w:World} {fu u N N':Nat} {S:Dv} (h:lJ X w fu u N S) (hn:N≤N'):lJ X w fu u N' S:=
 {h with rs:=h.rs.more hn}
theorem YE (X:sR) (w:World) (u N:Nat) (S:Dv) (h:lJ X w 0 u N S):Calls Tryz.prog 45 #[.pointer (some ⟨X.Bd,0,none⟩)] w fun r w'=>r= .panicked [{v:=gW,recovered:=false}]∧w'=w:=by
 have k6:=h.c6;have hz:((0:Nat):Int)=0:=rfl
 rw[hz]at k6;clear h hz;go_enter Tryz.func45,Tryz.ntmps45;go_wp2;exact⟨rfl,rfl,rfl⟩
theorem Af (X:sR) (w:World) (fu u N:Nat) (hN:N≤400+400*u) (S:Dv) (h:lJ X w (fu+1) u N S) (hrk:X.rk=YQ X.o) (ho:1≤X.o∧X.o≤3) (hok:iK u S) (hu:u<300) (hl:aW X.n X.ln X.f=true) (h0:S.p.length≠0) (hfu:fu<300):Calls Tryz.prog 45 #[.pointer (some ⟨X.Bd,0,none⟩)] w fun r w'=>eQ X w w'∧((∃S',dB X.o X.n X.ln X.f S=some S'∧r= .returned (.tuple #[])∧lJ X w' fu (u+1) (N+400) S')∨(dB X.o X.n X.ln X.f S=none∧r= .panicked [{v:=gW,recovered:=false}])):=by
 obtain⟨t,ht⟩:∃t,dQ X.o S.p=t:=⟨_,rfl⟩
 have k6:=h.c6;have kz:=h.fz
 have hf1:(((fu+1:Nat):Int)==0)=false:=by simp;omega
 have hf2:((fu+1:Nat):Int)-1=(fu:Int):=by omega
 have hff:((fu+1:Nat):Int)≤1000:=by omega
 have hff0:0≤((fu+1:Nat):Int):=by omega
 generalize hx:((fu+1:Nat):Int)=x at k6 hf1 hf2 hff hff0;have HB:=aA h.burn
 have hs0:=h.s0;have hB0:eQ X w (w.setCell ⟨X.Bd,6,none⟩ (.int .i64 (fu:Int))):=eQ.fuel (gN _ _ _ _)
 have HB0:=aA hB0;have HOK:=aA hok
 clear h hok hx hB0;go_enter Tryz.func45,Tryz.ntmps45;go_wp2_with fail;generalize(w.setCell ⟨X.Bd,6,none⟩ (.int .i64 (fu:Int)))=w1 at HB HB0⊢;have HWD:=aA (HB.out.below (cE _ w1).drew)
 have k0:=HB.out.c0;have k3:=HB.out.c3
 have hbd:X.Bd<w1.heap.size:=cU w1 _ k0;have hgr:∀W:World,lJ X W fu u N S→Calls Tryz.prog 89 #[.map (some X.br),.func (.func X.rk) #[] #[]] W fun r w'=>r= .returned (.agg #[.int .i64 t.c,.int .i64 t.m.x,.int .i64 t.m.y,.int .i64 t.m.d,.int .i64 t.m.e])∧Below W.heap.size W w':=fun W hW=>by rw[hrk];exact LG X.o ho W X.br N S.p hW.rs HOK.out.p h0 t ht
 have HGR:=aA hgr;have HDA:=aA ((HB.out.below (aC w1 (.cells #[.int .i64 0,.int .i64 0,.int .i64 0,.int .i64 0,.int .i64 0] 47))).below (cE _ _).drew)
 have HZA:Hid (∀v:World,Below (w1.alloc (.cells #[.int .i64 0,.int .i64 0,.int .i64 0,.int .i64 0,.int .i64 0] 47)).drew.heap.size (w1.alloc (.cells #[.int .i64 0,.int .i64 0,.int .i64 0,.int .i64 0,.int .i64 0] 47)).drew v→bL v w1.heap.size ⟨0,⟨0,0,0,0⟩⟩):=fun v hv=>((bL.box w1 47 ⟨0,⟨0,0,0,0⟩⟩).below (cE _ _).drew).below hv;clear hgr k6 kz hf1 hf2 hrk;refine Code.wp_mono (Q:=NoPanic fun e a v=>e=Exit.normal∧∃g:Nat,a={tmps:=#[.pointer (some ⟨X.Bd,0,none⟩),undef,.pointer (some ⟨g,0,none⟩),undef,.pointer (some ⟨X.Bd,0,none⟩),.pointer (some ⟨X.Bd,0,none⟩),.pointer (some ⟨X.Bd,6,none⟩),.int .i64 x,.bool false,undef,undef,.pointer (some ⟨X.Bd,0,none⟩),.pointer (some ⟨X.Bd,0,none⟩),.pointer (some ⟨X.Bd,6,none⟩),.int .i64 x,.int .i64 (fu:Int),.pointer (some ⟨X.Bd,0,none⟩),.pointer (some ⟨X.Bd,6,none⟩),.pointer (some ⟨X.Bd,0,none⟩),.pointer (some ⟨X.Bd,0,none⟩),.pointer (some ⟨X.Bd,3,none⟩),.map (some X.br),.pointer (some ⟨X.Bd,0,none⟩),.pointer (some ⟨X.Bd,0,none⟩),.pointer (some ⟨X.Bd,0,none⟩),.func (.func X.rk) #[] #[],.agg #[.int .i64 t.c,.int .i64 t.m.x,.int .i64 t.m.y,.int .i64 t.m.d,.int .i64 t.m.e],undef,undef,undef,undef,undef,undef,undef,undef,undef,undef,undef,undef,undef,undef,undef,undef],defers:=[]}∧C5 v g t∧lJ X v fu u N S∧eQ X w v) ?_ ?_;rotate_left
 ·go_region_with (go_at_call 89;refine(HGR.out _ ?_).mono ?_;(first|with_reducible exact HWD.out|with_reducible exact HDA.out);rintro r w4 ⟨rfl,hb4⟩;(try(have hz4:=HZA.out _ hb4;obtain⟨⟨z0,z1,z2,z3,z4⟩,zf⟩:=hz4));(have HB4:Hid (Below w1.heap.size w1 w4):=by first|exact aB (cE _ w1).drew hb4|exact aB (aC w1 (.cells #[.int .i64 0,.int .i64 0,.int .i64 0,.int .i64 0,.int .i64 0] 47)).drew hb4);clear hb4)
  all_goals
   first
   |exact NoPanic.normal ⟨rfl,_,rfl,⟨by go_simp,by go_simp,by go_simp,by go_simp,by go_simp⟩,HB.out.below (bQ HB4.out (Nat.le_refl _) _ _ _ _ _),HB0.out.trans (eQ.of (bQ HB4.out (Nat.le_refl _) _ _ _ _ _))⟩
   |exact NoPanic.normal ⟨rfl,_,rfl,C5.box w4 47 t,HB.out.below (HB4.out.alloc HB4.out.size _),HB0.out.trans (eQ.of (HB4.out.alloc HB4.out.size _))⟩
 ·intro e5 a5 w5 hq5;obtain⟨rfl,g,rfl,hc5,hW5,hB5⟩:=NoPanic.imp _ _ _ hq5;have HW5:=aA hW5
  have HB5:=aA hB5;have HC5:=aA hc5
  have hgl:=hc5.lt;have HWD5:=aA (hW5.below (cE _ w5).drew)
  have hS5:E5 X.Bd g (.slice X.al X.n X.cl) t.m w5.drew:=⟨hW5.c2,hc5.2.1,hc5.2.2.1,hc5.2.2.2.1,hc5.2.2.2.2⟩
  have hfst:Calls Tryz.prog 70 #[.slice X.al X.n X.cl,.agg #[.int .i64 t.m.x,.int .i64 t.m.y,.int .i64 t.m.d,.int .i64 t.m.e]] w5.drew fun r w'=>r= .returned (.int .i64 (vX X.o X.n X.ln X.f t.m))∧Below w5.drew.heap.size w5.drew w':=by have:=MG w5.drew X.al X.n X.cl (lf (oC X.o X.ln X.f X.n)) t.m HWD5.out.ld;rw[show mZ (fun s=>M.dvd s.m t.m) (lf (oC X.o X.ln X.f X.n)) X.n=vX X.o X.n X.ln X.f t.m from wI (fun i hi=>vC X.o X.ln X.f X.n i hi)]at this;exact this
  have HFST:=aA hfst;obtain⟨z,hz⟩:∃z,vX X.o X.n X.ln X.f t.m=z:=⟨_,rfl⟩
  rw[hz]at HFST;have HZ:=aA hz
  have HGO:=aA (iF (o:=X.o) (aE HOK.out.p).2 h0);clear hW5 hB5 hc5 hfst hz k0 k3 hbd HWD HDA HZA HGR HB HB0 hq5;go_wp2_with fail
  go_region_held3 (fun u=>u.cell? ⟨X.Bd,2,none⟩=some (.slice X.al X.n X.cl)∧u.cell? ⟨g,1,none⟩=some (.int .i64 t.m.x)∧u.cell? ⟨g,2,none⟩=some (.int .i64 t.m.y)∧u.cell? ⟨g,3,none⟩=some (.int .i64 t.m.d)∧u.cell? ⟨g,4,none⟩=some (.int .i64 t.m.e)) (first|with_reducible exact hS5|with_reducible exact E5.below hS5 b6) (first|(go_at_call 70;refine HFST.out.mono ?_;rintro r w6 ⟨rfl,b6⟩))
  have HW6:=aA (HWD5.out.below b6);have HB6:=aA (HB5.out.drew.trans (eQ.of b6))
  obtain⟨y0,y1,y2,y3,y4⟩:=(HC5.out.below (cE _ w5).drew).below b6;clear hS5 HFST b6 HWD5 HW5 HB5 HC5;by_cases hzz:0≤z
  ·obtain⟨k,hk⟩:∃k:Nat,z=(k:Int):=⟨z.toNat,by omega⟩
   subst hk;have hfk:(vX X.o X.n X.ln X.f t.m).toNat=k:=by rw[HZ.out];simp
   have hd:=kJ (o:=X.o) (n:=X.n) (ln:=X.ln) (f:=X.f) (m:=t.m) (by rw[HZ.out];exact hzz);rw[hfk]at hd;have HST:Hid (dB X.o X.n X.ln X.f S=gI X.o X.ln X.f S k):=by show dB X.o X.n X.ln X.f S=_;unfold dB;rw[ht,if_pos (by rw[HZ.out];exact hzz),hfk]
   have HTK:=aA (Ah X w6 fu u N hN S t k HW6.out HOK.out hu hl h0 ht hd.1 hd.2);have hk1:(k:Int)≤1000:=by have:=hd.1;have:=(aT hl).1;omega
   clear hfk hd;go_wp2_with fail;refine HTK.out.mono ?_;rintro r w7 ⟨hb7,hh⟩;have HB7:=aA (HB6.out.trans hb7)
   rcases hh with⟨S',e1,rfl,hW7⟩|⟨e1,rfl⟩
   ·have HW7:=aA hW7;have HE1:=aA e1
    clear hW7 e1 hb7 HTK;go_wp2
    go_end0
    rw[HST.out];exact⟨HB7.out,.inl ⟨S',HE1.out,rfl,HW7.out⟩⟩
   ·have HE1:=aA e1;clear e1 hb7 HTK;go_wp2;rw[HST.out];exact⟨rfl,HB7.out,.inr ⟨HE1.out,rfl⟩⟩
  ·have hzl:z<0:=by omega
   have HST:Hid (dB X.o X.n X.ln X.f S=some (gS X.o S)):=by show dB X.o X.n X.ln X.f S=_;unfold dB;rw[ht,if_neg (by rw[HZ.out];exact hzz)]
   have HLV:=aA (XK X w6 fu u N S t HW6.out HOK.out hu h0 ht);go_wp2_with fail;refine HLV.out.mono ?_;rintro r w7 ⟨rfl,hW7,hb7⟩;have HB7:=aA (HB6.out.trans hb7)
   have HW7:=aA (hW7.moreN (N':=N+400) (by omega));clear hW7 hb7 HLV;go_wp2
   go_end0
   rw[HST.out];exact⟨HB7.out,.inl ⟨_,rfl,rfl,HW7.out⟩⟩
theorem bD.ne_row {w:World} {b n:Nat} {c:M→Int} (h:bD w b n c) {base size k:Nat} {e:TypeId} {v:Value} {xs:List Value} (ho:w.ownsRow base e size v k xs):some b≠v.ownBlock:=by
 rcases ho.2 with⟨rfl,_⟩|⟨g,cap,cur,rfl,_,hg,_⟩
 ·simp[Value.ownBlock]
 ·intro e;obtain rfl:b=g:=by simpa[Value.ownBlock]using e
  obtain⟨D,⟨es,clock,h1,_⟩,_⟩:=h;rw[h1]at hg;cases hg
def wQ (bk:Nat→Nat) (j:Nat):List Value:=(List.range j).map fun i=>.map (some (bk i))
theorem PF (bk:Nat→Nat) (j:Nat):(wQ bk j).length=j:=by simp[wQ]
theorem UQ {bk:Nat→Nat} {j i:Nat} (h:i<j):(wQ bk j)[i]? =some (.map (some (bk i))):=by simp[wQ,h]
theorem LR {bk:Nat→Nat} {j m:Nat}:wQ (fun i=>if i=j then m else bk i) (j+1)=wQ bk j++[.map (some m)]:=by
 unfold wQ;rw[List.range_succ,List.map_append];congr 1
 ·refine List.map_congr_left fun i hi=>?_;have:i<j:=by simpa using hi
  dsimp only;rw[if_neg (by omega)]
 ·simp
structure NA (w wr:World) (B rk:Nat) (a al:Option Addr) (n cap cl:Nat) (ad:Nat→Option Addr) (ln cp:Nat→Nat) (f:Nat→Nat→T) (o:Int) (p:List T) (j:Nat) (tv:Value) (bk:Nat→Nat):Prop where
 c0:wr.cell? ⟨B+2,0,none⟩=some (.func (.func rk) #[] #[])
 c1:wr.cell? ⟨B+2,1,none⟩=some (.slice a n cap)
 c2:wr.cell? ⟨B+2,2,none⟩=some (.slice al n cl)
 c3:wr.cell? ⟨B+2,3,none⟩=some (.map (some B))
 c4:wr.cell? ⟨B+2,4,none⟩=some tv
 c5:wr.cell? ⟨B+2,5,none⟩=some (.map (some (B+1)))
 c6:wr.cell? ⟨B+2,6,none⟩=some (.int .i64 300)
 fz:∀i,wr.frozen? ⟨B+2,i,none⟩=false
 ls:fZ wr a n cap ad ln cp f
 ld:Rd wr al n cl (lf (oC o ln f n))
 sp:n=0∨((∀b off,a=some ⟨b,off,none⟩→b<B)∧(∀i,i<n→ln i=0∨∀b off,ad i=some ⟨b,off,none⟩→b<B)∧∀b off,al=some ⟨b,off,none⟩→b<B)
 rs:bD wr B 400 (aL p)
 le:bD wr (B+1) 0 (fun _=>0)
 row:wr.ownsRow (B+3) 77 1 tv j (wQ bk j)
 tq:∀i,i<j→B+2<bk i∧bD wr (bk i) 0 (fun _=>0)
 up:∀i k,i<k→k<j→bk i<bk k
 bel:Below w.heap.size w wr
 hB:w.heap.size≤B
theorem NA.round {w wr:World} {B rk:Nat} {a al:Option Addr} {n cap cl:Nat} {ad:Nat→Option Addr} {ln cp:Nat→Nat} {f:Nat→Nat→T} {o:Int} {p:List T} {j:Nat} {tv:Value} {bk:Nat→Nat} (h:NA w wr B rk a al n cap cl ad ln cp f o p j tv bk) {w5:World} {g0 cap0:Nat} (hgrow:((wr.alloc (.map #[] 0)).alloc (.cells #[.map (some wr.heap.size)] 77)).grownBy w5 tv.ownBlock) (hown:w5.ownsRow (B+3) 77 1 (.slice (some ⟨g0,0,none⟩) (j+1) cap0) (j+1) (wQ bk j++[.map (some wr.heap.size)])) (hat:tv.ownBlock=some g0∨g0=wr.heap.size+2):NA w (w5.setCell ⟨B+2,4,none⟩ (.slice (some ⟨g0,0,none⟩) (j+1) cap0)) B rk a al n cap cl ad ln cp f o p (j+1) (.slice (some ⟨g0,0,none⟩) (j+1) cap0) (fun i=>if i=j then wr.heap.size else bk i):=by
 have hBd:B+2<wr.heap.size:=cU wr _ h.c0;have hb2:Below wr.heap.size wr ((wr.alloc (.map #[] 0)).alloc (.cells #[.map (some wr.heap.size)] 77)):=aQ _ _ _
 have hrow2:((wr.alloc (.map #[] 0)).alloc (.cells #[.map (some wr.heap.size)] 77)).ownsRow (B+3) 77 1 tv j (wQ bk j):=(h.row.alloc _).alloc _;have hlt:∀k,tv.ownBlock=some k→B+3≤k∧k<wr.heap.size:=fun k hk=>h.row.lt k hk
 have hg0:B+3≤g0:=by
  rcases hat with e|e
  ·exact(hlt g0 e).1
  ·omega
 have hsz5:wr.heap.size+2≤w5.heap.size:=by have:=hgrow.size;simpa using this
 have hcell5:∀{b i:Nat} {v:Value},wr.cell? ⟨b,i,none⟩=some v→b<B+3→w5.cell? ⟨b,i,none⟩=some v:=fun{b i v} hc hb=>by
  have hl:=cU wr _ hc;have h1:=(hb2.cell (p:=⟨b,i,none⟩) hl).trans hc
  exact(lH (a:=⟨b,i,none⟩) (hgrow.block b (by simp;exact Nat.lt_succ_of_lt (Nat.lt_succ_of_lt hl)) (fun e=>by have:=(hlt b e.symm).1;omega))).trans h1
 have hcell:∀{b i:Nat} {v:Value},wr.cell? ⟨b,i,none⟩=some v→b<B+3→(b≠B+2∨i≠4)→(w5.setCell ⟨B+2,4,none⟩ (.slice (some ⟨g0,0,none⟩) (j+1) cap0)).cell? ⟨b,i,none⟩=some v:=fun{b i v} hc hb hne=>by rw[World.cell?_setCell_other _ _ _ _ (by intro e;cases e;rcases hne with h|h<;>exact h rfl)];exact hcell5 hc hb
 have hfz:∀i,(w5.setCell ⟨B+2,4,none⟩ (.slice (some ⟨g0,0,none⟩) (j+1) cap0)).frozen? ⟨B+2,i,none⟩=false:=fun i=>by have h1:w5.frozen? ⟨B+2,i,none⟩=false:=(World.frozen?_of_block (a:=⟨B+2,i,none⟩) (hgrow.block (B+2) (by simp;omega) (fun e=>by have:=(hlt (B+2) e.symm).1;omega))).trans ((hb2.frozen (p:=⟨B+2,i,none⟩) hBd).trans (h.fz i));simp[go_sem,h1]
 have hs:w5.grownBy (w5.setCell ⟨B+2,4,none⟩ (.slice (some ⟨g0,0,none⟩) (j+1) cap0)) (some (B+2)):=gN _ _ _ _;have hmap:∀{b N:Nat} {c:M→Int},bD ((wr.alloc (.map #[] 0)).alloc (.cells #[.map (some wr.heap.size)] 77)) b N c→b≠B+2→bD (w5.setCell ⟨B+2,4,none⟩ (.slice (some ⟨g0,0,none⟩) (j+1) cap0)) b N c:=fun{b N c} hh hne=>(hh.grown hgrow (hh.ne_row hrow2)).grown hs (by simpa using hne)
 have hrd:∀{x:Option Addr} {k cp:Nat} {f:Nat→T},Rd wr x k cp f→(k=0∨∀b off,x=some ⟨b,off,none⟩→b<B)→Rd (w5.setCell ⟨B+2,4,none⟩ (.slice (some ⟨g0,0,none⟩) (j+1) cap0)) x k cp f:=fun{x k cp f} hr hn=>
  ((hr.below hb2).grown hgrow (hn.imp id (fun hh b off e e'=>by have:=hh b off e;have:=(hlt b e'.symm).1;omega))).grown hs (hn.imp id (fun hh b off e e'=>by have h1:=hh b off e;have e2:b=B+2:=(by simpa using e');omega))
 have hnew:bD ((wr.alloc (.map #[] 0)).alloc (.cells #[.map (some wr.heap.size)] 77)) wr.heap.size 0 (fun _=>0):=(uB wr).below (aC _ _)
 exact{
  c0:=hcell h.c0 (by omega) (.inr (by decide))
  c1:=hcell h.c1 (by omega) (.inr (by decide))
  c2:=hcell h.c2 (by omega) (.inr (by decide))
  c3:=hcell h.c3 (by omega) (.inr (by decide))
  c4:=by simp[go_sem,hcell5 h.c4 (by omega)]
  c5:=hcell h.c5 (by omega) (.inr (by decide))
  c6:=hcell h.c6 (by omega) (.inr (by decide))
  fz:=hfz
  ls:=by
   refine⟨h.ls.1,h.ls.2.1,?_,fun i hi=>hrd (h.ls.2.2.2 i hi) (h.sp.elim (fun h0=>absurd hi (by omega)) (fun hh=>hh.2.1 i hi))⟩;rcases h.ls.2.2.1 with h0|⟨b,off,e,hlt1,hc⟩
   ·exact .inl h0
   ·by_cases hn0:n=0
    ·exact .inl hn0
    ·have hbB:=(h.sp.resolve_left hn0).1 b off e;refine .inr ⟨b,off,e,?_,fun i hi=>hcell (hc i hi) (by omega) (.inl (by omega))⟩;have:=hs.size
     omega
  ld:=hrd h.ld (h.sp.imp id (·.2.2))
  sp:=h.sp
  rs:=hmap (h.rs.below hb2) (by omega)
  le:=hmap (h.le.below hb2) (by omega)
  row:=by rw[LR];exact hown.kept hs (.inr (by simp[Value.ownBlock];omega))
  tq:=fun i hi=>by
   by_cases e:i=j
   ·rw[if_pos e];exact⟨hBd,hmap hnew (by omega)⟩
   ·rw[if_neg e];have h1:=h.tq i (by omega)
    exact⟨h1.1,hmap (h1.2.below hb2) (by omega)⟩
  up:=fun i k hik hk=>by
   rw[if_neg (show ¬i=j by omega)];by_cases e:k=j
   ·rw[if_pos e];exact(h.tq i (by omega)).2.lt
   ·rw[if_neg e];exact h.up i k hik (by omega)
  bel:=by
   have h1:Below w.heap.size w ((wr.alloc (.map #[] 0)).alloc (.cells #[.map (some wr.heap.size)] 77)):=aB h.bel hb2;have h2:Below w.heap.size w w5:=h1.grown hgrow h1.size (fun k e=>by have:=(hlt k e).1;have:=h.hB;omega)
   exact h2.setCell (p:=⟨B+2,4,none⟩) (by have:=h.hB;show w.heap.size≤B+2;omega) _
  hB:=h.hB}
theorem NA.cell4 {w wr:World} {B rk:Nat} {a al:Option Addr} {n cap cl:Nat} {ad:Nat→Option Addr} {ln cp:Nat→Nat} {f:Nat→Nat→T} {o:Int} {p:List T} {j:Nat} {tv:Value} {bk:Nat→Nat} (h:NA w wr B rk a al n cap cl ad ln cp f o p j tv bk) {w5:World} (hgrow:((wr.alloc (.map #[] 0)).alloc (.cells #[.map (some wr.heap.size)] 77)).grownBy w5 tv.ownBlock):w5.cell? ⟨B+2,4,none⟩=some tv∧w5.frozen? ⟨B+2,4,none⟩=false:=by
 have hBd:B+2<wr.heap.size:=cU wr _ h.c0;have hb2:Below wr.heap.size wr ((wr.alloc (.map #[] 0)).alloc (.cells #[.map (some wr.heap.size)] 77)):=aQ _ _ _
 have hb:=hgrow.block (B+2) (by simp;omega) (fun e=>by have:=(h.row.lt (B+2) e.symm).1;omega);exact⟨(lH (a:=⟨B+2,4,none⟩) hb).trans ((hb2.cell (p:=⟨B+2,4,none⟩) hBd).trans h.c4),(World.frozen?_of_block (a:=⟨B+2,4,none⟩) hb).trans ((hb2.frozen (p:=⟨B+2,4,none⟩) hBd).trans (h.fz 4))⟩
theorem NA.done {w wr:World} {B rk:Nat} {a al:Option Addr} {n cap cl:Nat} {ad:Nat→Option Addr} {ln cp:Nat→Nat} {f:Nat→Nat→T} {o:Int} {p:List T} {tv:Value} {bk:Nat→Nat} (h:NA w wr B rk a al n cap cl ad ln cp f o p n tv bk):∃X:sR,X.Bd=B+2∧X.n=n∧X.ln=ln∧X.f=f∧X.o=o∧X.rk=rk∧X.s0=w.heap.size∧lJ X wr 300 0 400 (jO p):=by
 obtain⟨ta,tc,etv,htc,htk⟩:∃ta tc,tv= .slice ta n tc∧n≤tc∧((n=0∧ta=none)∨∃bt,B+3≤bt∧ta=some ⟨bt,0,none⟩∧∀i,i<n→wr.cell? ⟨bt,0+i,none⟩=some (.map (some (bk i)))):=by
  rcases h.row.2 with⟨e,h0⟩|⟨g,cap',cur,e,hlo,hg,hn,_⟩
  ·exact⟨none,0,by rw[e,h0],by omega,.inl ⟨h0,rfl⟩⟩
  ·refine⟨some ⟨g,0,none⟩,cap',e,hn,.inr ⟨g,hlo,rfl,fun i hi=>?_⟩⟩;have hr:=h.row
   rw[e]at hr;rw[Nat.zero_add,hr.cellAt i (by omega),UQ hi]
 subst etv;have hB:=h.hB
 refine⟨⟨w.heap.size,B+2,rk,a,al,ta,n,cap,cl,tc,ad,ln,cp,f,o,B,B+1,bk⟩,rfl,rfl,rfl,rfl,rfl,rfl,rfl,?_⟩
 exact{
  c0:=h.c0
  c1:=h.c1
  c2:=h.c2
  c3:=h.c3
  c4:=h.c4
  c5:=h.c5
  c6:=h.c6
  fz:=h.fz 6
  ls:=h.ls
  ld:=h.ld
  tk:=⟨htc,htk.imp (·.1) (fun⟨bt,_,e,hc⟩=>⟨bt,0,e,hc⟩)⟩
  rs:=h.rs
  lf:=h.le
  tq:=fun i hi=>(h.tq i hi).2
  ne:=⟨by show B≠B+1;omega,fun i hi=>⟨by have:=(h.tq i hi).1;show bk i≠B;omega,by have:=(h.tq i hi).1;show bk i≠B+1;omega,fun j hj hij=>by
   rcases Nat.lt_or_ge i j with h1|h1
   ·have:=h.up i j h1 hj;show bk i≠bk j;omega
   ·have:=h.up j i (by omega) hi;show bk i≠bk j;omega⟩⟩
  lo:=⟨by show w.heap.size≤B+2;omega,hB,by show w.heap.size≤B+1;omega,fun i hi=>by have:=(h.tq i hi).1;show w.heap.size≤bk i;omega⟩
  sp:=h.sp.imp id fun hh=>⟨fun b off e=>by have:=hh.1 b off e;show b≠B+2;omega,fun i hi=>(hh.2.1 i hi).imp id (fun h2 b off e=>by have:=h2 b off e;show b≠B+2;omega),fun b off e=>by have:=hh.2.2 b off e;show b≠B+2;omega,fun b off e=>by
   show b≠B+2;rcases htk with⟨_,e'⟩|⟨bt,hbt,e',_⟩
   ·have e:ta=some ⟨b,off,none⟩:=e;rw[e']at e;cases e
   ·have e:ta=some ⟨b,off,none⟩:=e
    rw[e']at e;cases e;omega⟩}
set_option linter.unusedSimpArgs false in
theorem PE (w:World):(Instr.makeMap 77 none).run Tryz.prog w= .ok (.map (some w.heap.size)) (w.alloc (.map #[] 0)):=by have hu:=run_underlying (P:=Tryz.prog) Tryz.underlying77;unfold Instr.makeMap;simp[hu,asInt,go_sem,Sem.run_bind,Result.andThen]
theorem XC:(Tryz.prog.info? 77).map (fun i=>(i.zero,i.size,i.bytes))=some (some (.map none),1,8):=by kernel_rfl
theorem NR {p:List T} (hp:aK p) (m:M):fE 1 (lf p) (fun _=>0) p.length m=aL p m:=by
 rw[kN (uK hp) (fun _=>⟨Int.le_refl _,by show(0:Int)≤100;decide⟩) _ (Nat.le_refl _),kT];have:=bR hp m
 omega
abbrev KQ (rk:Nat) (a al:Option Addr) (n cap cl B:Nat):Obj:=.cells #[.func (.func rk) #[] #[],.slice a n cap,.slice al n cl,.map (some B),.slice none 0 0,.map (some (B+1)),.int .i64 300] 114
theorem NA.start {w w3 w5:World} {rk:Nat} {a al:Option Addr} {n cap cl:Nat} {ad:Nat→Option Addr} {ln cp:Nat→Nat} {f:Nat→Nat→T} {o:Int} {p:List T} (hp:cT p=true) (hb:Below w.heap.size w w3) (ls:fZ w3 a n cap ad ln cp f) (ld:Rd w3 al n cl (lf (oC o ln f n))) (hS:bD w5 w3.heap.size (0+p.length) (fE 1 (lf p) (fun _=>0) p.length)) (hg:(((w3.alloc (.map #[] 0)).alloc (.map #[] 0)).alloc (KQ rk a al n cap cl w3.heap.size)).grownBy w5 (some w3.heap.size)):NA w w5 w3.heap.size rk a al n cap cl ad ln cp f o p 0 (.slice none 0 0) (fun _=>0):=by
 obtain⟨pl,pf⟩:=aE hp;have hb3:Below w3.heap.size w3 (((w3.alloc (.map #[] 0)).alloc (.map #[] 0)).alloc (KQ rk a al n cap cl w3.heap.size)):=aR _ _ _ _
 have hm:bD (((w3.alloc (.map #[] 0)).alloc (.map #[] 0)).alloc (KQ rk a al n cap cl w3.heap.size)) w3.heap.size 0 (fun _=>0):=((uB w3).below (aC _ _)).below (aC _ _);have hm1:bD (((w3.alloc (.map #[] 0)).alloc (.map #[] 0)).alloc (KQ rk a al n cap cl w3.heap.size)) (w3.heap.size+1) 0 (fun _=>0):=by have:=(uB (w3.alloc (.map #[] 0))).below (aC _ (KQ rk a al n cap cl w3.heap.size));rw[World.size_alloc]at this;exact this
 have hcell:∀i v,#[Value.func (.func rk) #[] #[],.slice a n cap,.slice al n cl,.map (some w3.heap.size),.slice none 0 0,.map (some (w3.heap.size+1)),.int .i64 300][i]? =some v→w5.cell? ⟨w3.heap.size+2,i,none⟩=some v:=fun i v hv=>by
  refine aS hm ?_ hg;have hz:((w3.alloc (.map #[] 0)).alloc (.map #[] 0)).heap.size=w3.heap.size+2:=by simp
  rw[←hz,World.cell?_alloc_at _ _ _ _ rfl];exact hv
 have hfz:∀i,w5.frozen? ⟨w3.heap.size+2,i,none⟩=false:=fun i=>by
  have hz:((w3.alloc (.map #[] 0)).alloc (.map #[] 0)).heap.size=w3.heap.size+2:=by simp
  refine(World.frozen?_of_block (a:=⟨w3.heap.size+2,i,none⟩) (hg.block (w3.heap.size+2) (by simp) (by simp))).trans ?_;rw[←hz,World.frozen?_alloc_at _ _ _ _ rfl]
 exact{
  c0:=hcell 0 _ rfl
  c1:=hcell 1 _ rfl
  c2:=hcell 2 _ rfl
  c3:=hcell 3 _ rfl
  c4:=hcell 4 _ rfl
  c5:=hcell 5 _ rfl
  c6:=hcell 6 _ rfl
  fz:=hfz
  ls:=(ls.below hb3).grownMap hm hg
  ld:=(ld.below hb3).grownMap hm hg
  sp:=by
   by_cases hn:n=0
   ·exact .inl hn
   ·refine .inr ⟨fun b off e=>?_,fun i hi=>(ls.2.2.2 i hi).under,fun b off e=>?_⟩
    ·rcases ls.2.2.1 with h0|⟨b',off',e',hlt,_⟩
     ·exact absurd h0 hn
     ·rw[e]at e';cases e';exact hlt
    ·exact(ld.under.resolve_left hn) b off e
  rs:=(hS.congr (fun m _=>NR pf m) (fun m=>bR pf m)).more (by omega)
  le:=hm1.grown hg (by simp)
  row:=⟨rfl,.inl ⟨rfl,rfl⟩⟩
  tq:=fun i hi=>by omega
  up:=fun i k _ hk=>by omega
  bel:=(aB hb hb3).grown hg (aB hb hb3).size (fun k e=>by cases e;exact hb.size)
  hB:=hb.size}
theorem MF (w:World) (o:Int) (pa:Option Addr) (pc:Nat) (p:List T) (a:Option Addr) (n cap:Nat) (ad:Nat→Option Addr) (ln cp:Nat→Nat) (f:Nat→Nat→T) (hp:RL w pa pc p) (h:fZ w a n cap ad ln cp f) (o1:1≤o) (o2:o≤3) (hpo:cT p=true) (hl:aW n ln f=true):Calls Tryz.prog 41 #[.int .i64 o,.slice pa p.length pc,.slice a n cap] w fun r w'=>∃X:sR,r= .returned (.tuple #[.pointer (some ⟨X.Bd,0,none⟩),.bool true])∧X.n=n∧X.ln=ln∧X.f=f∧X.o=o∧X.rk=YQ o∧X.s0=w.heap.size∧lJ X w' 300 0 400 (jO p)∧Below w.heap.size w w':=by
 obtain⟨i0,hi0,hz0,hz1,hz2⟩:=info_parts XC;obtain⟨pl,pf⟩:=aE hpo;have n12:=(aT hl).1
 have hnl:(n:Int)≤12:=by omega
 have hpl:(p.length:Int)≤400:=by omega
 have HP:=aA hp;have HH:=aA h
 have HF:=aA pf;obtain⟨rk,hrk⟩:∃rk,YQ o=rk:=⟨_,rfl⟩
 have hord:=fun W:World=>PT o W o1 o2;rw[hrk]at hord⊢;have HORD:=aA hord
 clear hp h pf hord hrk;go_enter Tryz.func41,Tryz.ntmps41;go_wp2_with fail;refine(HORD.out _).mono ?_;rintro r w1 ⟨rfl,hb1⟩;have HB1:=aA hb1
 clear hb1;go_wp2_with fail;refine(tP _ o _ _ _ _ _ _ _ (HH.out.below HB1.out) o1 o2 hl).mono ?_;rintro r w2 ⟨v,rfl,hb2,ho2⟩;obtain⟨al,cl,rfl,hout⟩:=aH ho2 (by rw[kW];omega);have hld:=hout.1
 rw[kW]at hld;rw[kW];have HLD:=aA hld
 have HB2:=aA (aB HB1.out hb2);clear hb2 ho2 hout hld;go_wp2_with fail;refine(eD _ _ _ _ (lf p) (HP.out.below HB2.out)).mono ?_;rw[show aN p.length (lf p)=true from hpo];rintro r w3 ⟨rfl,hb3⟩;have HB3:=aA (aB HB2.out hb3)
 have HLD3:=aA (HLD.out.below hb3);have hmk:=PE
 have HT:=aA (oZ (((w3.alloc (.map #[] 0)).alloc (.map #[] 0)).alloc (KQ rk a al n cap cl w3.heap.size)) w3.heap.size 0 (fun _=>0) 1 pa p.length pc (lf p) (((uB w3).below (aC _ _)).below (aC _ _)) (((HP.out.below HB3.out).below (aR _ _ _ _))) ((HP.out.below HB3.out).apart (Nat.le_refl _)) (fun i hi=>(HF.out.2 _ (lV hi)).1) (fun i hi=>by have:=HF.out.2 _ (lV hi);omega) (by omega) (by omega) (by omega) (by simp;omega));clear hb3 HLD HB1 HB2;go_wp2_with fail;refine HT.out.mono ?_;rintro r w5 ⟨rfl,hS5,hg5⟩;have HST:=aA (NA.start (o:=o) (ad:=ad) (ln:=ln) (cp:=cp) (f:=f) hpo HB3.out (HH.out.below HB3.out) HLD3.out hS5 hg5)
 clear hS5 hg5 HT HLD3;go_wp2;rw[show w3.heap.size+1+1=w3.heap.size+2 from rfl];go_loopw [46] (fun ii wr=>∃(j:Nat) (tv:Value) (bk:Nat→Nat),j≤n∧ii= .int .i64 (j:Int)∧NA w wr w3.heap.size rk a al n cap cl ad ln cp f o p j tv bk) (fun ii _=>n-(intOf ii).toNat);case atStart=>exact⟨0,_,_,gL _,rfl,HST.out⟩
 case round=>
  obtain⟨j,tv,bk,hj,rfl,hW⟩:=hrel;have HW:=aA hW
  by_cases hlt:j<n
  ·have hjn:(j:Int)<(n:Int):=by omega
   have k4:=hW.c4;have kz:=hW.fz 4
   have hBd:w3.heap.size+2<wr.heap.size:=cU wr _ hW.c0;have hnew:=heap_alloc_new (wr.alloc (.map #[] 0)) (.cells #[.map (some wr.heap.size)] 77)
   rw[World.size_alloc]at hnew;have HN:=aA hnew
   have hrow:=(hW.row.alloc (.map #[] 0)).alloc (.cells #[.map (some wr.heap.size)] 77);have hnews:∀jj u,[Value.map (some wr.heap.size)][jj]? =some u→((wr.alloc (.map #[] 0)).alloc (.cells #[.map (some wr.heap.size)] 77)).cell? ((⟨wr.heap.size+1,0,none⟩:Addr).add jj)=some u:=World.news_of_block HN.out
   have hone:∀u∈[Value.map (some wr.heap.size)],u.oneCell'=true:=fun u hu=>by
    have:u= .map (some wr.heap.size):=by simpa using hu
    subst this;rfl
   have hbase:w3.heap.size+3≤((wr.alloc (.map #[] 0)).alloc (.cells #[.map (some wr.heap.size)] 77)).heap.size:=by simp;omega
   have hmax:j+1≤maxLen:=by unfold maxLen;omega
   have hlen:=PF bk j;clear hW hnew;go_wp2_with (at_builtin;refine wpList_append_lies _ rfl (.tmp 52) (.tmp 54) 112 rfl (w3.heap.size+3) 77 i0 _ 1 8 Tryz.underlying112 hi0 hz0 hz1 hz2 rfl (by omega) _ j (wQ bk j) rfl hrow ⟨wr.heap.size+1,0,none⟩ 1 1 [.map (some wr.heap.size)] rfl rfl hnews hone (by omega) hmax (by omega) hbase _ rfl ?_;intro g0 cap0 w6 hown1 hgrow hat hlt1;have HR:=aA (HW.out.round hgrow hown1 (hat.imp id (fun e=>e.trans (by simp))));obtain⟨k5,kz5⟩:=HW.out.cell4 hgrow;clear hown1 hgrow hat hlt1 hrow);go_roundw;case rel=>exact⟨j+1,_,_,by omega,by go_num,HR.out⟩
   case measure=>simp[intOf];omega
  ·have hjn:¬(j:Int)<(n:Int):=by omega
   have hje:j=n:=by omega
   subst hje;obtain⟨X,e0,e1,e2,e3,e4,e5,e6,hD⟩:=HW.out.done;have HD:=aA hD
   clear hW hD;go_wp2;refine cB (results_tmp2 rfl _ _ _) rfl ?_;exact⟨X,by rw[e0];rfl,e1,e2,e3,e4,e5,e6,HD.out,HW.out.bel⟩
end Go.Proofs.YtncffcaabnjioaaGreat
namespace Go.Proofs.YtncffcaabnjioaaGreat
open Go.RowKit Go.Deep Go.Joins
set_option linter.unusedVariables false
structure jK (lo:Nat) (w:World) (a:Option Addr) (n cap:Nat) (ad:Nat→Option Addr) (ln cp:Nat→Nat) (f:Nat→Nat→T) (R:Nat) (B:Nat→Nat):Prop where
 rd:fZ w a n cap ad ln cp f
 row:n=0∨∃off,a=some ⟨R,off,none⟩∧lo≤R
 wr:∀i,i<n→Wr w (ad i) (ln i) (f i)
 el:∀i,i<n→ln i=0∨∃off,ad i=some ⟨B i,off,none⟩∧lo≤B i∧B i≠R
 ap:∀i j,i<j→j<n→ln i≠0→ln j≠0→B i≠B j
end Go.Proofs.YtncffcaabnjioaaGreat
