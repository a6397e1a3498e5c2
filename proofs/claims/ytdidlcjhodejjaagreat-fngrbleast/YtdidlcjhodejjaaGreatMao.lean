/-
  A division ahead of its first step.
-/
import Derived.Test.YtdidlcjhodejjaaGreatMan
set_option maxHeartbeats 8000000
set_option maxRecDepth 100000
namespace Go.Proofs.YtdidlcjhodejjaaGreat
open Go.RowKit Go.Deep Go.Joins Go.Maps
set_option linter.unusedVariables false
theorem bZ.ne_row {w:World} {b n:Nat} {c:M→Int} (h:bZ w b n c) {base size k:Nat} {e:TypeId} {v:Value} {xs:List Value} (ho:w.ownsRow base e size v k xs):some b≠v.ownBlock:=by
 rcases ho.2 with⟨rfl,_⟩|⟨g,cap,cur,rfl,_,hg,_⟩
 ·simp[Value.ownBlock]
 ·intro e;obtain rfl:b=g:=by simpa[Value.ownBlock]using e
  obtain⟨D,⟨es,clock,h1,_⟩,_⟩:=h;rw[h1]at hg;cases hg
def CU (bk:Nat→Nat) (j:Nat):List Value:=(List.range j).map fun i=>.map (some (bk i))
theorem Dk (bk:Nat→Nat) (j:Nat):(CU bk j).length=j:=by simp[CU]
theorem Jg {bk:Nat→Nat} {j i:Nat} (h:i<j):(CU bk j)[i]? =some (.map (some (bk i))):=by simp[CU,h]
theorem YI {bk:Nat→Nat} {j m:Nat}:CU (fun i=>if i=j then m else bk i) (j+1)=CU bk j++[.map (some m)]:=by
 unfold CU;rw[List.range_succ,List.map_append];congr 1
 ·refine List.map_congr_left fun i hi=>?_;have:i<j:=by simpa using hi
  dsimp only;rw[if_neg (by omega)]
 ·simp
structure ZT (w wr:World) (B rk:Nat) (a al:Option Addr) (n cap cl:Nat) (ad:Nat→Option Addr) (ln cp:Nat→Nat) (f:Nat→Nat→T) (o:Int) (p:List T) (j:Nat) (tv:Value) (bk:Nat→Nat):Prop where
 c0:wr.cell? ⟨B+2,0,none⟩=some (.func (.func rk) #[] #[])
 c1:wr.cell? ⟨B+2,1,none⟩=some (.slice a n cap)
 c2:wr.cell? ⟨B+2,2,none⟩=some (.slice al n cl)
 c3:wr.cell? ⟨B+2,3,none⟩=some (.map (some B))
 c4:wr.cell? ⟨B+2,4,none⟩=some tv
 c5:wr.cell? ⟨B+2,5,none⟩=some (.map (some (B+1)))
 c6:wr.cell? ⟨B+2,6,none⟩=some (.int .i64 300)
 fz:∀i,wr.frozen? ⟨B+2,i,none⟩=false
 ls:cZ wr a n cap ad ln cp f
 ld:Rd wr al n cl (lf (kD o ln f n))
 sp:n=0∨((∀b off,a=some ⟨b,off,none⟩→b<B)∧(∀i,i<n→ln i=0∨∀b off,ad i=some ⟨b,off,none⟩→b<B)∧∀b off,al=some ⟨b,off,none⟩→b<B)
 rs:bZ wr B 400 (aM p)
 le:bZ wr (B+1) 0 (fun _=>0)
 row:wr.ownsRow (B+3) 170 1 tv j (CU bk j)
 tq:∀i,i<j→B+2<bk i∧bZ wr (bk i) 0 (fun _=>0)
 up:∀i k,i<k→k<j→bk i<bk k
 bel:Below w.heap.size w wr
 hB:w.heap.size≤B
theorem ZT.round {w wr:World} {B rk:Nat} {a al:Option Addr} {n cap cl:Nat} {ad:Nat→Option Addr} {ln cp:Nat→Nat} {f:Nat→Nat→T} {o:Int} {p:List T} {j:Nat} {tv:Value} {bk:Nat→Nat} (h:ZT w wr B rk a al n cap cl ad ln cp f o p j tv bk) {w5:World} {g0 cap0:Nat} (hgrow:((wr.alloc (.map #[] 0)).alloc (.cells #[.map (some wr.heap.size)] 170)).grownBy w5 tv.ownBlock) (hown:w5.ownsRow (B+3) 170 1 (.slice (some ⟨g0,0,none⟩) (j+1) cap0) (j+1) (CU bk j++[.map (some wr.heap.size)])) (hat:tv.ownBlock=some g0∨g0=wr.heap.size+2):ZT w (w5.setCell ⟨B+2,4,none⟩ (.slice (some ⟨g0,0,none⟩) (j+1) cap0)) B rk a al n cap cl ad ln cp f o p (j+1) (.slice (some ⟨g0,0,none⟩) (j+1) cap0) (fun i=>if i=j then wr.heap.size else bk i):=by
 have hBd:B+2<wr.heap.size:=cX wr _ h.c0;have hb2:Below wr.heap.size wr ((wr.alloc (.map #[] 0)).alloc (.cells #[.map (some wr.heap.size)] 170)):=aR _ _ _
 have hrow2:((wr.alloc (.map #[] 0)).alloc (.cells #[.map (some wr.heap.size)] 170)).ownsRow (B+3) 170 1 tv j (CU bk j):=(h.row.alloc _).alloc _;have hlt:∀k,tv.ownBlock=some k→B+3≤k∧k<wr.heap.size:=fun k hk=>h.row.lt k hk
 have hg0:B+3≤g0:=by
  rcases hat with e|e
  ·exact(hlt g0 e).1
  ·omega
 have hsz5:wr.heap.size+2≤w5.heap.size:=by have:=hgrow.size;simpa using this
 have hcell5:∀{b i:Nat} {v:Value},wr.cell? ⟨b,i,none⟩=some v→b<B+3→w5.cell? ⟨b,i,none⟩=some v:=fun{b i v} hc hb=>by
  have hl:=cX wr _ hc;have h1:=(hb2.cell (p:=⟨b,i,none⟩) hl).trans hc
  exact(mB (a:=⟨b,i,none⟩) (hgrow.block b (by simp;exact Nat.lt_succ_of_lt (Nat.lt_succ_of_lt hl)) (fun e=>by have:=(hlt b e.symm).1;omega))).trans h1
 have hcell:∀{b i:Nat} {v:Value},wr.cell? ⟨b,i,none⟩=some v→b<B+3→(b≠B+2∨i≠4)→(w5.setCell ⟨B+2,4,none⟩ (.slice (some ⟨g0,0,none⟩) (j+1) cap0)).cell? ⟨b,i,none⟩=some v:=fun{b i v} hc hb hne=>by rw[World.cell?_setCell_other _ _ _ _ (by intro e;cases e;rcases hne with h|h<;>exact h rfl)];exact hcell5 hc hb
 have hfz:∀i,(w5.setCell ⟨B+2,4,none⟩ (.slice (some ⟨g0,0,none⟩) (j+1) cap0)).frozen? ⟨B+2,i,none⟩=false:=fun i=>by have h1:w5.frozen? ⟨B+2,i,none⟩=false:=(World.frozen?_of_block (a:=⟨B+2,i,none⟩) (hgrow.block (B+2) (by simp;omega) (fun e=>by have:=(hlt (B+2) e.symm).1;omega))).trans ((hb2.frozen (p:=⟨B+2,i,none⟩) hBd).trans (h.fz i));simp[go_sem,h1]
 have hs:w5.grownBy (w5.setCell ⟨B+2,4,none⟩ (.slice (some ⟨g0,0,none⟩) (j+1) cap0)) (some (B+2)):=jR _ _ _ _;have hmap:∀{b N:Nat} {c:M→Int},bZ ((wr.alloc (.map #[] 0)).alloc (.cells #[.map (some wr.heap.size)] 170)) b N c→b≠B+2→bZ (w5.setCell ⟨B+2,4,none⟩ (.slice (some ⟨g0,0,none⟩) (j+1) cap0)) b N c:=fun{b N c} hh hne=>(hh.grown hgrow (hh.ne_row hrow2)).grown hs (by simpa using hne)
 have hrd:∀{x:Option Addr} {k cp:Nat} {f:Nat→T},Rd wr x k cp f→(k=0∨∀b off,x=some ⟨b,off,none⟩→b<B)→Rd (w5.setCell ⟨B+2,4,none⟩ (.slice (some ⟨g0,0,none⟩) (j+1) cap0)) x k cp f:=fun{x k cp f} hr hn=>
  ((hr.below hb2).grown hgrow (hn.imp id (fun hh b off e e'=>by have:=hh b off e;have:=(hlt b e'.symm).1;omega))).grown hs (hn.imp id (fun hh b off e e'=>by have h1:=hh b off e;have e2:b=B+2:=(by simpa using e');omega))
 have hnew:bZ ((wr.alloc (.map #[] 0)).alloc (.cells #[.map (some wr.heap.size)] 170)) wr.heap.size 0 (fun _=>0):=(yZ wr).below (aC _ _)
 exact{
  c0:=hcell h.c0 (by omega) (.inr (by decide))
  c1:=hcell h.c1 (by omega) (.inr (by decide))
  c2:=hcell h.c2 (by omega) (.inr (by decide))
  c3:=hcell h.c3 (by omega) (.inr (by decide))
  c4:=by simp[go_sem,hcell5 h.c4 (by omega)]
  c5:=hcell h.c5 (by omega) (.inr (by decide))
  c6:=hcell h.c6 (by omega) (.inr (by decide))
  fz:=hfz
  ls:=by
   refine⟨h.ls.1,h.ls.2.1,?_,fun i hi=>hrd (h.ls.2.2.2 i hi) (h.sp.elim (fun h0=>absurd hi (by omega)) (fun hh=>hh.2.1 i hi))⟩;rcases h.ls.2.2.1 with h0|⟨b,off,e,hlt1,hc⟩
   ·exact .inl h0
   ·by_cases hn0:n=0
    ·exact .inl hn0
    ·have hbB:=(h.sp.resolve_left hn0).1 b off e;refine .inr ⟨b,off,e,?_,fun i hi=>hcell (hc i hi) (by omega) (.inl (by omega))⟩;have:=hs.size
     omega
  ld:=hrd h.ld (h.sp.imp id (·.2.2))
  sp:=h.sp
  rs:=hmap (h.rs.below hb2) (by omega)
  le:=hmap (h.le.below hb2) (by omega)
  row:=by rw[YI];exact hown.kept hs (.inr (by simp[Value.ownBlock];omega))
  tq:=fun i hi=>by
   by_cases e:i=j
   ·rw[if_pos e];exact⟨hBd,hmap hnew (by omega)⟩
   ·rw[if_neg e];have h1:=h.tq i (by omega)
    exact⟨h1.1,hmap (h1.2.below hb2) (by omega)⟩
  up:=fun i k hik hk=>by
   rw[if_neg (show ¬i=j by omega)];by_cases e:k=j
   ·rw[if_pos e];exact(h.tq i (by omega)).2.lt
   ·rw[if_neg e];exact h.up i k hik (by omega)
  bel:=by
   have h1:Below w.heap.size w ((wr.alloc (.map #[] 0)).alloc (.cells #[.map (some wr.heap.size)] 170)):=aB h.bel hb2;have h2:Below w.heap.size w w5:=h1.grown hgrow h1.size (fun k e=>by have:=(hlt k e).1;have:=h.hB;omega)
   exact h2.setCell (p:=⟨B+2,4,none⟩) (by have:=h.hB;show w.heap.size≤B+2;omega) _
  hB:=h.hB}
theorem ZT.cell4 {w wr:World} {B rk:Nat} {a al:Option Addr} {n cap cl:Nat} {ad:Nat→Option Addr} {ln cp:Nat→Nat} {f:Nat→Nat→T} {o:Int} {p:List T} {j:Nat} {tv:Value} {bk:Nat→Nat} (h:ZT w wr B rk a al n cap cl ad ln cp f o p j tv bk) {w5:World} (hgrow:((wr.alloc (.map #[] 0)).alloc (.cells #[.map (some wr.heap.size)] 170)).grownBy w5 tv.ownBlock):w5.cell? ⟨B+2,4,none⟩=some tv∧w5.frozen? ⟨B+2,4,none⟩=false:=by
 have hBd:B+2<wr.heap.size:=cX wr _ h.c0;have hb2:Below wr.heap.size wr ((wr.alloc (.map #[] 0)).alloc (.cells #[.map (some wr.heap.size)] 170)):=aR _ _ _
 have hb:=hgrow.block (B+2) (by simp;omega) (fun e=>by have:=(h.row.lt (B+2) e.symm).1;omega);exact⟨(mB (a:=⟨B+2,4,none⟩) hb).trans ((hb2.cell (p:=⟨B+2,4,none⟩) hBd).trans h.c4),(World.frozen?_of_block (a:=⟨B+2,4,none⟩) hb).trans ((hb2.frozen (p:=⟨B+2,4,none⟩) hBd).trans (h.fz 4))⟩
theorem ZT.done {w wr:World} {B rk:Nat} {a al:Option Addr} {n cap cl:Nat} {ad:Nat→Option Addr} {ln cp:Nat→Nat} {f:Nat→Nat→T} {o:Int} {p:List T} {tv:Value} {bk:Nat→Nat} (h:ZT w wr B rk a al n cap cl ad ln cp f o p n tv bk):∃X:xQ,X.Bd=B+2∧X.n=n∧X.ln=ln∧X.f=f∧X.o=o∧X.rk=rk∧X.s0=w.heap.size∧oO X wr 300 0 400 (lB p):=by
 obtain⟨ta,tc,etv,htc,htk⟩:∃ta tc,tv= .slice ta n tc∧n≤tc∧((n=0∧ta=none)∨∃bt,B+3≤bt∧ta=some ⟨bt,0,none⟩∧∀i,i<n→wr.cell? ⟨bt,0+i,none⟩=some (.map (some (bk i)))):=by
  rcases h.row.2 with⟨e,h0⟩|⟨g,cap',cur,e,hlo,hg,hn,_⟩
  ·exact⟨none,0,by rw[e,h0],by omega,.inl ⟨h0,rfl⟩⟩
  ·refine⟨some ⟨g,0,none⟩,cap',e,hn,.inr ⟨g,hlo,rfl,fun i hi=>?_⟩⟩;have hr:=h.row
   rw[e]at hr;rw[Nat.zero_add,hr.cellAt i (by omega),Jg hi]
 subst etv;have hB:=h.hB
 refine⟨⟨w.heap.size,B+2,rk,a,al,ta,n,cap,cl,tc,ad,ln,cp,f,o,B,B+1,bk⟩,rfl,rfl,rfl,rfl,rfl,rfl,rfl,?_⟩
 exact{
  c0:=h.c0
  c1:=h.c1
  c2:=h.c2
  c3:=h.c3
  c4:=h.c4
  c5:=h.c5
  c6:=h.c6
  fz:=h.fz 6
  ls:=h.ls
  ld:=h.ld
  tk:=⟨htc,htk.imp (·.1) (fun⟨bt,_,e,hc⟩=>⟨bt,0,e,hc⟩)⟩
  rs:=h.rs
  lf:=h.le
  tq:=fun i hi=>(h.tq i hi).2
  ne:=⟨by show B≠B+1;omega,fun i hi=>⟨by have:=(h.tq i hi).1;show bk i≠B;omega,by have:=(h.tq i hi).1;show bk i≠B+1;omega,fun j hj hij=>by
   rcases Nat.lt_or_ge i j with h1|h1
   ·have:=h.up i j h1 hj;show bk i≠bk j;omega
   ·have:=h.up j i (by omega) hi;show bk i≠bk j;omega⟩⟩
  lo:=⟨by show w.heap.size≤B+2;omega,hB,by show w.heap.size≤B+1;omega,fun i hi=>by have:=(h.tq i hi).1;show w.heap.size≤bk i;omega⟩
  sp:=h.sp.imp id fun hh=>⟨fun b off e=>by have:=hh.1 b off e;show b≠B+2;omega,fun i hi=>(hh.2.1 i hi).imp id (fun h2 b off e=>by have:=h2 b off e;show b≠B+2;omega),fun b off e=>by have:=hh.2.2 b off e;show b≠B+2;omega,fun b off e=>by
   show b≠B+2;rcases htk with⟨_,e'⟩|⟨bt,hbt,e',_⟩
   ·have e:ta=some ⟨b,off,none⟩:=e;rw[e']at e;cases e
   ·have e:ta=some ⟨b,off,none⟩:=e
    rw[e']at e;cases e;omega⟩}
set_option linter.unusedSimpArgs false in
theorem Dj (w:World):(Instr.makeMap 170 none).run Tryz.prog w= .ok (.map (some w.heap.size)) (w.alloc (.map #[] 0)):=by have hu:=run_underlying (P:=Tryz.prog) Tryz.underlying170;unfold Instr.makeMap;simp[hu,asInt,go_sem,Sem.run_bind,Result.andThen]
theorem Ng:(Tryz.prog.info? 170).map (fun i=>(i.zero,i.size,i.bytes))=some (some (.map none),1,8):=by kernel_rfl
theorem Ar {p:List T} (hp:aK p) (m:M):iV 1 (lf p) (fun _=>0) p.length m=aM p m:=by
 rw[nT (zL hp) (fun _=>⟨Int.le_refl _,by show(0:Int)≤100;decide⟩) _ (Nat.le_refl _),oD];have:=bM hp m
 omega
abbrev WW (rk:Nat) (a al:Option Addr) (n cap cl B:Nat):Obj:=.cells #[.func (.func rk) #[] #[],.slice a n cap,.slice al n cl,.map (some B),.slice none 0 0,.map (some (B+1)),.int .i64 300] 173
theorem ZT.start {w w3 w5:World} {rk:Nat} {a al:Option Addr} {n cap cl:Nat} {ad:Nat→Option Addr} {ln cp:Nat→Nat} {f:Nat→Nat→T} {o:Int} {p:List T} (hp:cG p=true) (hb:Below w.heap.size w w3) (ls:cZ w3 a n cap ad ln cp f) (ld:Rd w3 al n cl (lf (kD o ln f n))) (hS:bZ w5 w3.heap.size (0+p.length) (iV 1 (lf p) (fun _=>0) p.length)) (hg:(((w3.alloc (.map #[] 0)).alloc (.map #[] 0)).alloc (WW rk a al n cap cl w3.heap.size)).grownBy w5 (some w3.heap.size)):ZT w w5 w3.heap.size rk a al n cap cl ad ln cp f o p 0 (.slice none 0 0) (fun _=>0):=by
 obtain⟨pl,pf⟩:=aD hp;have hb3:Below w3.heap.size w3 (((w3.alloc (.map #[] 0)).alloc (.map #[] 0)).alloc (WW rk a al n cap cl w3.heap.size)):=aY _ _ _ _
 have hm:bZ (((w3.alloc (.map #[] 0)).alloc (.map #[] 0)).alloc (WW rk a al n cap cl w3.heap.size)) w3.heap.size 0 (fun _=>0):=((yZ w3).below (aC _ _)).below (aC _ _);have hm1:bZ (((w3.alloc (.map #[] 0)).alloc (.map #[] 0)).alloc (WW rk a al n cap cl w3.heap.size)) (w3.heap.size+1) 0 (fun _=>0):=by have:=(yZ (w3.alloc (.map #[] 0))).below (aC _ (WW rk a al n cap cl w3.heap.size));rw[World.size_alloc]at this;exact this
 have hcell:∀i v,#[Value.func (.func rk) #[] #[],.slice a n cap,.slice al n cl,.map (some w3.heap.size),.slice none 0 0,.map (some (w3.heap.size+1)),.int .i64 300][i]? =some v→w5.cell? ⟨w3.heap.size+2,i,none⟩=some v:=fun i v hv=>by
  refine bG hm ?_ hg;have hz:((w3.alloc (.map #[] 0)).alloc (.map #[] 0)).heap.size=w3.heap.size+2:=by simp
  rw[←hz,World.cell?_alloc_at _ _ _ _ rfl];exact hv
 have hfz:∀i,w5.frozen? ⟨w3.heap.size+2,i,none⟩=false:=fun i=>by
  have hz:((w3.alloc (.map #[] 0)).alloc (.map #[] 0)).heap.size=w3.heap.size+2:=by simp
  refine(World.frozen?_of_block (a:=⟨w3.heap.size+2,i,none⟩) (hg.block (w3.heap.size+2) (by simp) (by simp))).trans ?_;rw[←hz,World.frozen?_alloc_at _ _ _ _ rfl]
 exact{
  c0:=hcell 0 _ rfl
  c1:=hcell 1 _ rfl
  c2:=hcell 2 _ rfl
  c3:=hcell 3 _ rfl
  c4:=hcell 4 _ rfl
  c5:=hcell 5 _ rfl
  c6:=hcell 6 _ rfl
  fz:=hfz
  ls:=(ls.below hb3).grownMap hm hg
  ld:=(ld.below hb3).grownMap hm hg
  sp:=by
   by_cases hn:n=0
   ·exact .inl hn
   ·refine .inr ⟨fun b off e=>?_,fun i hi=>(ls.2.2.2 i hi).under,fun b off e=>?_⟩
    ·rcases ls.2.2.1 with h0|⟨b',off',e',hlt,_⟩
     ·exact absurd h0 hn
     ·rw[e]at e';cases e';exact hlt
    ·exact(ld.under.resolve_left hn) b off e
  rs:=(hS.congr (fun m _=>Ar pf m) (fun m=>bM pf m)).more (by omega)
  le:=hm1.grown hg (by simp)
  row:=⟨rfl,.inl ⟨rfl,rfl⟩⟩
  tq:=fun i hi=>by omega
  up:=fun i k _ hk=>by omega
  bel:=(aB hb hb3).grown hg (aB hb hb3).size (fun k e=>by cases e;exact hb.size)
  hB:=hb.size}
theorem ZC (w:World) (o:Int) (pa:Option Addr) (pc:Nat) (p:List T) (a:Option Addr) (n cap:Nat) (ad:Nat→Option Addr) (ln cp:Nat→Nat) (f:Nat→Nat→T) (hp:RL w pa pc p) (h:cZ w a n cap ad ln cp f) (o1:1≤o) (o2:o≤3) (hpo:cG p=true) (hl:aT n ln f=true):Calls Tryz.prog 112 #[.int .i64 o,.slice pa p.length pc,.slice a n cap] w fun r w'=>∃X:xQ,r= .returned (.tuple #[.pointer (some ⟨X.Bd,0,none⟩),.bool true])∧X.n=n∧X.ln=ln∧X.f=f∧X.o=o∧X.rk=Oy o∧X.s0=w.heap.size∧oO X w' 300 0 400 (lB p)∧Below w.heap.size w w':=by
 obtain⟨i0,hi0,hz0,hz1,hz2⟩:=info_parts Ng;obtain⟨pl,pf⟩:=aD hpo;have n12:=(aL hl).1
 have hnl:(n:Int)≤12:=by omega
 have hpl:(p.length:Int)≤400:=by omega
 have HP:=aA hp;have HH:=aA h
 have HF:=aA pf;obtain⟨rk,hrk⟩:∃rk,Oy o=rk:=⟨_,rfl⟩
 have hord:=fun W:World=>Eb o W o1 o2;rw[hrk]at hord⊢;have HORD:=aA hord
 clear hp h pf hord hrk;go_enter Tryz.func112,Tryz.ntmps112;go_wp2_with fail;refine(HORD.out _).mono ?_;rintro r w1 ⟨rfl,hb1⟩;have HB1:=aA hb1
 clear hb1;go_wp2_with fail;refine(kM _ o _ _ _ _ _ _ _ (HH.out.below HB1.out) o1 o2 hl).mono ?_;rintro r w2 ⟨v,rfl,hb2,ho2⟩;obtain⟨al,cl,rfl,hout⟩:=aH ho2 (by rw[fU];omega);have hld:=hout.1
 rw[fU]at hld;rw[fU];have HLD:=aA hld
 have HB2:=aA (aB HB1.out hb2);clear hb2 ho2 hout hld;go_wp2_with fail;refine(eO _ _ _ _ (lf p) (HP.out.below HB2.out)).mono ?_;rw[show aN p.length (lf p)=true from hpo];rintro r w3 ⟨rfl,hb3⟩;have HB3:=aA (aB HB2.out hb3)
 have HLD3:=aA (HLD.out.below hb3);have hmk:=Dj
 have HT:=aA (sQ (((w3.alloc (.map #[] 0)).alloc (.map #[] 0)).alloc (WW rk a al n cap cl w3.heap.size)) w3.heap.size 0 (fun _=>0) 1 pa p.length pc (lf p) (((yZ w3).below (aC _ _)).below (aC _ _)) (((HP.out.below HB3.out).below (aY _ _ _ _))) ((HP.out.below HB3.out).apart (Nat.le_refl _)) (fun i hi=>(HF.out.2 _ (lK hi)).1) (fun i hi=>by have:=HF.out.2 _ (lK hi);omega) (by omega) (by omega) (by omega) (by simp;omega));clear hb3 HLD HB1 HB2;go_wp2_with fail;refine HT.out.mono ?_;rintro r w5 ⟨rfl,hS5,hg5⟩;have HST:=aA (ZT.start (o:=o) (ad:=ad) (ln:=ln) (cp:=cp) (f:=f) hpo HB3.out (HH.out.below HB3.out) HLD3.out hS5 hg5)
 clear hS5 hg5 HT HLD3;go_wp2;rw[show w3.heap.size+1+1=w3.heap.size+2 from rfl];go_loopw [46] (fun ii wr=>∃(j:Nat) (tv:Value) (bk:Nat→Nat),j≤n∧ii= .int .i64 (j:Int)∧ZT w wr w3.heap.size rk a al n cap cl ad ln cp f o p j tv bk) (fun ii _=>n-(intOf ii).toNat);case atStart=>exact⟨0,_,_,Nat.zero_le _,rfl,HST.out⟩
 case round=>
  obtain⟨j,tv,bk,hj,rfl,hW⟩:=hrel;have HW:=aA hW
  by_cases hlt:j<n
  ·have hjn:(j:Int)<(n:Int):=by omega
   have k4:=hW.c4;have kz:=hW.fz 4
   have hBd:w3.heap.size+2<wr.heap.size:=cX wr _ hW.c0;have hnew:=heap_alloc_new (wr.alloc (.map #[] 0)) (.cells #[.map (some wr.heap.size)] 170)
   rw[World.size_alloc]at hnew;have HN:=aA hnew
   have hrow:=(hW.row.alloc (.map #[] 0)).alloc (.cells #[.map (some wr.heap.size)] 170);have hnews:∀jj u,[Value.map (some wr.heap.size)][jj]? =some u→((wr.alloc (.map #[] 0)).alloc (.cells #[.map (some wr.heap.size)] 170)).cell? ((⟨wr.heap.size+1,0,none⟩:Addr).add jj)=some u:=World.news_of_block HN.out
   have hone:∀u∈[Value.map (some wr.heap.size)],u.oneCell'=true:=fun u hu=>by
    have:u= .map (some wr.heap.size):=by simpa using hu
    subst this;rfl
   have hbase:w3.heap.size+3≤((wr.alloc (.map #[] 0)).alloc (.cells #[.map (some wr.heap.size)] 170)).heap.size:=by simp;omega
   have hmax:j+1≤maxLen:=by unfold maxLen;omega
   have hlen:=Dk bk j;clear hW hnew;go_wp2_with (at_builtin;refine wpList_append_lies _ rfl (.tmp 52) (.tmp 54) 171 rfl (w3.heap.size+3) 170 i0 _ 1 8 Tryz.underlying171 hi0 hz0 hz1 hz2 rfl (by omega) _ j (CU bk j) rfl hrow ⟨wr.heap.size+1,0,none⟩ 1 1 [.map (some wr.heap.size)] rfl rfl hnews hone (by omega) hmax (by omega) hbase _ rfl ?_;intro g0 cap0 w6 hown1 hgrow hat hlt1;have HR:=aA (HW.out.round hgrow hown1 (hat.imp id (fun e=>e.trans (by simp))));obtain⟨k5,kz5⟩:=HW.out.cell4 hgrow;clear hown1 hgrow hat hlt1 hrow);go_roundw;case rel=>exact⟨j+1,_,_,by omega,by go_num,HR.out⟩
   case measure=>simp[intOf];omega
  ·have hjn:¬(j:Int)<(n:Int):=by omega
   have hje:j=n:=by omega
   subst hje;obtain⟨X,e0,e1,e2,e3,e4,e5,e6,hD⟩:=HW.out.done;have HD:=aA hD
   clear hW hD;go_wp2;refine bY (results_tmp2 rfl _ _ _) rfl ?_;exact⟨X,by rw[e0];rfl,e1,e2,e3,e4,e5,e6,HD.out,HW.out.bel⟩
end Go.Proofs.YtdidlcjhodejjaaGreat
namespace Go.Proofs.YtdidlcjhodejjaaGreat
open Go.RowKit Go.Deep Go.Joins
set_option linter.unusedVariables false
structure iL (lo:Nat) (w:World) (a:Option Addr) (n cap:Nat) (ad:Nat→Option Addr) (ln cp:Nat→Nat) (f:Nat→Nat→T) (R:Nat) (B:Nat→Nat):Prop where
 rd:cZ w a n cap ad ln cp f
 row:n=0∨∃off,a=some ⟨R,off,none⟩∧lo≤R
 wr:∀i,i<n→Wr w (ad i) (ln i) (f i)
 el:∀i,i<n→ln i=0∨∃off,ad i=some ⟨B i,off,none⟩∧lo≤B i∧B i≠R
 ap:∀i j,i<j→j<n→ln i≠0→ln j≠0→B i≠B j
open Go.RowKit Go.Deep Go.Joins Go.Maps
theorem BK {w w':World} (h:Below w.heap.size w w') (row:Option Nat):w.grownBy w' row:=⟨h.os,h.tape,h.output,h.size,fun k hk _=>h.block k hk⟩
def FC (ad:Nat→Option Addr) (ln cp:Nat→Nat) (j:Nat):List Value:=(List.range j).map fun i=>.slice (ad i) (ln i) (cp i)
theorem Fw {ad:Nat→Option Addr} {ln cp:Nat→Nat} {j i:Nat} (h:i<j):(FC ad ln cp j)[i]? =some (.slice (ad i) (ln i) (cp i)):=by simp[FC,h]
theorem Fx {ad:Nat→Option Addr} {ln cp:Nat→Nat} {j:Nat} {a:Option Addr} {c:Nat}:FC (fun i=>if i=j then a else ad i) ln (fun i=>if i=j then c else cp i) (j+1)=FC ad ln cp j++[.slice a (ln j) c]:=by
 unfold FC;rw[List.range_succ,List.map_append];congr 1
 ·refine List.map_congr_left fun i hi=>?_;have:i<j:=by simpa using hi
  dsimp only;rw[if_neg (by omega),if_neg (by omega)]
 ·simp
structure pD (lo:Nat) (wr:World) (q:Nat→List T) (j:Nat) (tv:Value) (ad:Nat→Option Addr) (cp B:Nat→Nat):Prop where
 row:wr.ownsRow lo 45 1 tv j (FC ad (fun i=>(q i).length) cp j)
 el:∀i,i<j→Rd wr (ad i) (q i).length (cp i) (lf (q i))∧Wr wr (ad i) (q i).length (lf (q i))∧((q i).length=0∨∃off,ad i=some ⟨B i,off,none⟩∧lo≤B i∧B i<wr.heap.size∧some (B i)≠tv.ownBlock)
 ap:∀i k,i<k→k<j→(q i).length≠0→(q k).length≠0→B i<B k
 lo:lo≤wr.heap.size
theorem pD.start {lo:Nat} {wr:World} (h:lo≤wr.heap.size) (q:Nat→List T):pD lo wr q 0 (.slice none 0 0) (fun _=>none) (fun _=>0) (fun _=>0):=
 ⟨⟨rfl,.inl ⟨rfl,rfl⟩⟩,fun i hi=>by omega,fun i k _ hk=>by omega,h⟩
theorem pD.below {lo:Nat} {w w':World} {q:Nat→List T} {j:Nat} {tv:Value} {ad:Nat→Option Addr} {cp B:Nat→Nat} (h:pD lo w q j tv ad cp B) (hb:Below w.heap.size w w'):pD lo w' q j tv ad cp B where
 row:=h.row.kept (BK hb none) (by
  cases e:tv.ownBlock with
  |none=>exact .inl rfl
  |some k=>exact .inr (by simp))
 el:=fun i hi=>⟨(h.el i hi).1.below hb,(h.el i hi).2.1.below hb,(h.el i hi).2.2.imp id (fun⟨off,e1,e2,e3,e4⟩=>⟨off,e1,e2,jY e3 hb.size,e4⟩)⟩
 ap:=h.ap
 lo:=jZ h.lo hb.size
theorem pD.round {lo:Nat} {w1 w5:World} {q:Nat→List T} {j:Nat} {tv:Value} {ad:Nat→Option Addr} {cp B:Nat→Nat} {m:Nat} (h:pD lo w1 q j tv ad cp B) (hm:∀i,i<j→(q i).length≠0→B i<m) (hmr:∀k,tv.ownBlock=some k→k<m) (hlm:lo≤m) {a:Option Addr} {c:Nat} (ho:jN m w1 a c (q j)) {g0 cap0:Nat} (hgrow:(w1.alloc (.cells #[.slice a (q j).length c] 45)).grownBy w5 tv.ownBlock) (hown:w5.ownsRow lo 45 1 (.slice (some ⟨g0,0,none⟩) (j+1) cap0) (j+1) (FC ad (fun i=>(q i).length) cp j++[.slice a (q j).length c])) (hat:tv.ownBlock=some g0∨g0=w1.heap.size+1) (hlt:g0<w5.heap.size):pD lo w5 q (j+1) (.slice (some ⟨g0,0,none⟩) (j+1) cap0) (fun i=>if i=j then a else ad i) (fun i=>if i=j then c else cp i) (fun i=>if i=j then(match a with|some x=>x.block|none=>0)else B i):=by
 have hb1:=aC w1 (.cells #[.slice a (q j).length c] 45);have hs5:w1.heap.size+1≤w5.heap.size:=by have:=hgrow.size;simpa using this
 have hnew:(q j).length=0∨∃g off,a=some ⟨g,off,none⟩∧m≤g∧g<w1.heap.size:=by
  rcases ho.2.2 with h0|⟨g,off,e,hg⟩
  ·exact .inl h0
  ·by_cases hz:(q j).length=0
   ·exact .inl hz
   ·exact .inr ⟨g,off,e,hg,(ho.1.under.resolve_left hz) g off e⟩
 refine⟨?_,fun i hi=>?_,fun i k hik hk hi0 hk0=>?_,by have:=h.lo;omega⟩
 ·rw[Fx (ln:=fun i=>(q i).length)];exact hown
 ·by_cases e:i=j
  ·subst e;simp only[if_pos];refine⟨(ho.1.below hb1).grown hgrow ?_,(ho.2.1.below hb1).grown hgrow ?_,?_⟩
   ·rcases hnew with h0|⟨g,off,e,hg,hgl⟩
    ·exact .inl h0
    ·refine .inr fun b off' e' e2=>?_;rw[e]at e';cases e';have:=hmr g e2.symm
     omega
   ·rcases hnew with h0|⟨g,off,e,hg,hgl⟩
    ·exact .inl h0
    ·refine .inr fun b off' e' e2=>?_;rw[e]at e';cases e';have:=hmr g e2.symm
     omega
   ·rcases hnew with h0|⟨g,off,e,hg,hgl⟩
    ·exact .inl h0
    ·subst e;refine .inr ⟨off,rfl,by show lo≤g;omega,by show g<w5.heap.size;omega,?_⟩;show some g≠some g0
     intro e2;obtain rfl:g=g0:=by simpa using e2
     rcases hat with e3|e3
     ·have:=hmr g e3;omega
     ·omega
  ·simp only[if_neg e];obtain⟨r1,r2,r3⟩:=h.el i (by omega);have hne:(q i).length=0∨∀b off,ad i=some ⟨b,off,none⟩→some b≠tv.ownBlock:=r3.imp id (fun⟨off,e1,_,_,e4⟩ b off' e'=>by rw[e1]at e';cases e';exact e4)
   refine⟨(r1.below hb1).grown hgrow hne,(r2.below hb1).grown hgrow hne,?_⟩;rcases r3 with h0|⟨off,e1,e2,e3,e4⟩
   ·exact .inl h0
   ·refine .inr ⟨off,e1,e2,by omega,?_⟩;show some (B i)≠some g0
    intro e5;obtain e6:B i=g0:=by simpa using e5
    rcases hat with e7|e7
    ·exact e4 (by rw[e6,e7])
    ·omega
 ·show(if i=j then _ else B i)<(if k=j then _ else B k);rw[if_neg (show ¬i=j by omega)];by_cases e:k=j
  ·subst e;rw[if_pos rfl];rcases hnew with h0|⟨g,off,e,hg,hgl⟩
   ·exact absurd h0 hk0
   ·subst e;have:=hm i (by omega) hi0
    show B i<g;omega
  ·rw[if_neg e];exact h.ap i k hik (by omega) hi0 hk0
theorem pD.out {lo:Nat} {w:World} {q:Nat→List T} {n:Nat} {tv:Value} {ad:Nat→Option Addr} {cp B:Nat→Nat} (h:pD lo w q n tv ad cp B) (hn:n*40≤140737488351232):∃qa qc R,tv= .slice qa n qc∧iL lo w qa n qc ad (fun i=>(q i).length) cp (fun i=>lf (q i)) R B:=by
 rcases h.row.2 with⟨e,h0⟩|⟨g,cap,cur,e,hlo,hg,hnc,_⟩
 ·subst h0;exact⟨none,0,0,e,⟨⟨Nat.le_refl _,hn,.inl rfl,fun i hi=>by omega⟩,.inl rfl,fun i hi=>by omega,fun i hi=>by omega,fun i j _ hj=>by omega⟩⟩
 ·have hr:=h.row;rw[e]at hr;have hgl:g<w.heap.size:=(hr.lt g rfl).2
  refine⟨some ⟨g,0,none⟩,cap,g,e,⟨⟨hnc,hn,.inr ⟨g,0,rfl,hgl,fun i hi=>?_⟩,fun i hi=>(h.el i hi).1⟩,.inr ⟨0,rfl,hlo⟩,fun i hi=>(h.el i hi).2.1,fun i hi=>?_,fun i j hij hj hi0 hj0=>?_⟩⟩
  ·rw[Nat.zero_add,hr.cellAt i (by omega),Fw hi]
  ·refine(h.el i hi).2.2.imp id (fun⟨off,e1,e2,_,e4⟩=>⟨off,e1,e2,fun e5=>e4 ?_⟩);rw[e,e5];rfl
  ·have:=h.ap i j hij hj hi0 hj0;omega
theorem Nh:(Tryz.prog.info? 45).map (fun i=>(i.zero,i.size,i.bytes))=some (some (.slice none 0 0),1,24):=by kernel_rfl
theorem Gh (w:World) (b n:Nat) (K:List T) (h:bZ w b n (aM K)) (hn:n≤1000000) (hK:aK K) (hl:K.length≤300):Calls Tryz.prog 151 #[.map (some b)] w fun e w'=>∃a c,e= .returned (.tuple #[.slice a K.length c,.bool true])∧Below w.heap.size w w'∧jN w.heap.size w' a c K:=by
 refine(TD w b n (aM K) h hn hK (fun _ _=>rfl)).mono ?_;have e:FF K=(K,true):=if_pos (by omega)
 rw[e];rintro r w' ⟨v,rfl,hb,ho⟩;obtain⟨a,c,rfl,hout⟩:=aH ho (by show K.length*40≤_;omega);exact⟨a,c,rfl,hb,hout⟩
theorem Hi (X:xQ) (w:World) (fu u N:Nat) (S:Dv) (h:oO X w fu u N S) (hok:lA u S) (hu:u≤300) (hn:X.n≤12):Calls Tryz.prog 116 #[.pointer (some ⟨X.Bd,0,none⟩)] w fun r w'=>∃qa qc ad cp R B la lc mid,r= .returned (.tuple #[.slice qa X.n qc,.slice la S.r.length lc])∧Below w.heap.size w w'∧iL w.heap.size w' qa X.n qc ad (fun i=>(S.q i).length) cp (fun i=>lf (S.q i)) R B∧jN mid w' la lc S.r∧(X.n=0∨R<mid)∧(∀i,i<X.n→(S.q i).length≠0→B i<mid)∧w.heap.size≤mid:=by
 obtain⟨i0,hi0,hz0,hz1,hz2⟩:=info_parts Nh;have hnl:(X.n:Int)≤12:=by omega
 have k4:=h.c4;have HH:=aA h
 have HOK:=aA hok;clear h hok;go_enter Tryz.func116,Tryz.ntmps116;go_wp2;clear k4;go_loopw [4,12] (fun tv ii wr=>∃(j:Nat) (ad:Nat→Option Addr) (cp B:Nat→Nat),j≤X.n∧ii= .int .i64 (j:Int)∧Below w.heap.size w wr∧pD w.heap.size wr S.q j tv ad cp B) (fun _ ii _=>X.n-(intOf ii).toNat);case atStart=>exact⟨0,_,_,_,Nat.zero_le _,rfl,bL _ _,pD.start (Nat.le_refl _) S.q⟩
 case round=>
  obtain⟨j,ad,cp,B,hj,rfl,hB,hA⟩:=hrel;have HB:=aA hB
  have HA:=aA hA;have HW:=aA (HH.out.below hB)
  clear hB hA;by_cases hlt:j<X.n
  ·have hjn:(j:Int)<(X.n:Int):=by omega
   obtain⟨bt,offt,et,hct⟩:=HW.out.tk.2.resolve_left (by omega);have kt:=hct j hlt
   have HOPR:=aA (Gh wr (X.bk j) u (S.q j) (HW.out.tq j hlt) (by omega) (HOK.out.q j).1 (by have:=(HOK.out.q j).2;omega));clear hct;rw[et];go_wp2_with fail;refine HOPR.out.mono ?_;rintro r w1 ⟨va,vc,rfl,hb1,ho1⟩;have HB1:=aA (aB HB.out hb1)
   have HA1:=aA (HA.out.below hb1);have HO1:=aA ho1
   have hsz0:w.heap.size≤wr.heap.size:=HB.out.size;have hsz1:wr.heap.size≤w1.heap.size:=hb1.size
   have HM:Hid (∀i,i<j→(S.q i).length≠0→B i<wr.heap.size):=fun i hi h0=>by
    rcases(HA.out.el i hi).2.2 with hz|⟨_,_,_,h3,_⟩
    ·exact absurd hz h0
    ·exact h3
   have HMR:Hid (∀k,u4.ownBlock=some k→k<wr.heap.size):=fun k hk=>(HA.out.row.lt k hk).2;have hnew:=heap_alloc_new w1 (.cells #[.slice va (S.q j).length vc] 45)
   have HN:=aA hnew;have hrow:=HA1.out.row.alloc (.cells #[.slice va (S.q j).length vc] 45)
   have hnews:∀jj u,[Value.slice va (S.q j).length vc][jj]? =some u→(w1.alloc (.cells #[.slice va (S.q j).length vc] 45)).cell? ((⟨w1.heap.size,0,none⟩:Addr).add jj)=some u:=World.news_of_block HN.out
   have hone:∀u∈[Value.slice va (S.q j).length vc],u.oneCell'=true:=fun u hu=>by
    have:u= .slice va (S.q j).length vc:=by simpa using hu
    subst this;rfl
   have hbase:w.heap.size≤(w1.alloc (.cells #[.slice va (S.q j).length vc] 45)).heap.size:=by simp;omega
   have hmax:j+1≤maxLen:=by unfold maxLen;omega
   clear hb1 ho1 hnew kt HOPR
   go_wp2_with (first
    |(go_at_call 124;refine(iE _ _).mono ?_;rintro e wn ⟨rfl,hwn⟩;obtain rfl:=hwn.symm;clear hwn)
    |(at_builtin;refine wpList_append_lies _ rfl (.tmp 16) (.tmp 22) 24 rfl w.heap.size 45 i0 _ 1 24 Tryz.underlying24 hi0 hz0 hz1 hz2 rfl (by omega) _ j (FC ad (fun i=>(S.q i).length) cp j) rfl hrow ⟨w1.heap.size,0,none⟩ 1 1 [.slice va (S.q j).length vc] rfl rfl hnews hone (by omega) hmax (by omega) hbase _ rfl ?_;intro g0 cap0 w5 hown1 hgrow hat hlt1;have HR:=aA (HA1.out.round (m:=wr.heap.size) HM.out HMR.out hsz0 HO1.out hgrow hown1 (hat.imp id (fun e=>e.trans (by simp))) hlt1);have HB5:=aA ((HB1.out.alloc HB1.out.size _).grown hgrow hbase (fun k e=>(HA1.out.row.lt k e).1));clear hown1 hgrow hat hlt1 hrow))
   go_roundw;case rel=>exact⟨j+1,_,_,_,by omega,by go_num,HB5.out,HR.out⟩
   case measure=>simp[intOf];omega
  ·have hjn:¬(j:Int)<(X.n:Int):=by omega
   have hje:j=X.n:=by omega
   subst hje;have k5:=HW.out.c5
   have HOPR:=aA (Gh wr X.bl u S.r HW.out.lf (by omega) HOK.out.r.1 (by have:=HOK.out.r.2;omega));go_wp2_with fail;refine HOPR.out.mono ?_;rintro r w1 ⟨la,lc,rfl,hb1,ho1⟩;have HB1:=aA (aB HB.out hb1)
   obtain⟨qa,qc,R,etv,hO⟩:=(HA.out.below hb1).out (by omega);subst etv;have HOS:=aA hO
   have HO1:=aA ho1;have HRM:Hid (X.n=0∨R<wr.heap.size):=by
    rcases hO.row with h0|⟨off,e,_⟩
    ·exact .inl h0
    ·refine .inr (HA.out.row.lt R ?_).2;rw[e];rfl
   have HM:Hid (∀i,i<X.n→(S.q i).length≠0→B i<wr.heap.size):=fun i hi h0=>by
    rcases(HA.out.el i hi).2.2 with hz|⟨_,_,_,h3,_⟩
    ·exact absurd hz h0
    ·exact h3
   clear hb1 ho1 hO k5 HOPR;go_wp2_with (go_at_call 124;refine(iE _ _).mono ?_;rintro e wn ⟨rfl,hwn⟩;obtain rfl:=hwn.symm;clear hwn);refine bY (results_tmp2 rfl _ _ _) rfl ?_;exact⟨qa,qc,ad,cp,R,B,la,lc,wr.heap.size,rfl,HB1.out,HOS.out,HO1.out,HRM.out,HM.out,HB.out.size⟩
set_option linter.unusedSimpArgs false
theorem Lu (X:xQ) (w:World) (fu u N:Nat) (S:Dv) (h:oO X w fu u N S) (hp:aK S.p) (b:Bool) (hb:((S.p.length:Int)==0)=b):Calls Tryz.prog 114 #[.pointer (some ⟨X.Bd,0,none⟩)] w fun r w'=>r= .returned (.bool b)∧w'=w:=by
 have hlen:=h.rs.len hp 3;have k3:=h.c3
 clear h;go_enter Tryz.func114,Tryz.ntmps114;go_wp2;go_ret;exact⟨rfl,rfl⟩
theorem gC.cell {X:xQ} {w w':World} (h:gC X w w') {fu u N:Nat} {S:Dv} (hd:oO X w fu u N S) {b o:Nat} {v:Value} (hc:w.cell? ⟨b,o,none⟩=some v) (hne:b≠X.Bd):w'.cell? ⟨b,o,none⟩=some v:=
 (mB (a:=⟨b,o,none⟩) (h.block b (cX w _ hc) hne (hd.rs.ne_cell hc) (hd.lf.ne_cell hc) (fun i hi=>(hd.tq i hi).ne_cell hc))).trans hc
theorem gC.frozen {X:xQ} {w w':World} (h:gC X w w') {fu u N:Nat} {S:Dv} (hd:oO X w fu u N S) {b o:Nat} {v:Value} (hc:w.cell? ⟨b,o,none⟩=some v) (hne:b≠X.Bd) {z:Bool} (hz:w.frozen? ⟨b,o,none⟩=z):w'.frozen? ⟨b,o,none⟩=z:=
 (World.frozen?_of_block (a:=⟨b,o,none⟩) (h.block b (cX w _ hc) hne (hd.rs.ne_cell hc) (hd.lf.ne_cell hc) (fun i hi=>(hd.tq i hi).ne_cell hc))).trans hz
def uS (b:Nat) (w:World):Nat:=match w.cell? ⟨b,6,none⟩with
 |some (.int .i64 z)=>z.toNat
 |_=>0
theorem oO.fuel {X:xQ} {w:World} {fu u N:Nat} {S:Dv} (h:oO X w fu u N S):uS X.Bd w=fu:=by unfold uS;rw[h.c6];simp
theorem iL.far {lo:Nat} {w w':World} {a:Option Addr} {n cap:Nat} {ad:Nat→Option Addr} {ln cp:Nat→Nat} {f:Nat→Nat→T} {R:Nat} {B:Nat→Nat} (h:iL lo w a n cap ad ln cp f R B) {b:Nat} (hg:w.grownBy w' (some b)) (hb:b<lo):iL lo w' a n cap ad ln cp f R B:=by
 have hne:∀i,i<n→ln i=0∨∀b' off,ad i=some ⟨b',off,none⟩→some b'≠some b:=fun i hi=>(h.el i hi).imp id (fun⟨off,e,h1,_⟩ b' off' e' e2=>by
  rw[e]at e';cases e';have:B i=b:=by simpa using e2
  omega)
 refine⟨⟨h.rd.1,h.rd.2.1,?_,fun i hi=>(h.rd.2.2.2 i hi).grown hg (hne i hi)⟩,h.row,fun i hi=>(h.wr i hi).grown hg (hne i hi),h.el,h.ap⟩;rcases h.rd.2.2.1 with h0|⟨b',off,e,hlt,hc⟩
 ·exact .inl h0
 ·rcases h.row with h0|⟨off',e',hlo⟩
  ·exact .inl h0
  ·rw[e']at e;obtain⟨rfl,rfl⟩:R=b'∧off'=off:=by simpa using e
   exact .inr ⟨R,off',e',jY hlt hg.size,fun i hi=>(mB (a:=⟨R,off'+i,none⟩) (hg.block R hlt (fun e2=>by
    have:R=b:=by simpa using e2
    omega))).trans (hc i hi)⟩
theorem iL.low {lo lo':Nat} {w:World} {a:Option Addr} {n cap:Nat} {ad:Nat→Option Addr} {ln cp:Nat→Nat} {f:Nat→Nat→T} {R:Nat} {B:Nat→Nat} (h:iL lo w a n cap ad ln cp f R B) (hl:lo'≤lo):iL lo' w a n cap ad ln cp f R B:=
 ⟨h.rd,h.row.imp id (fun⟨off,e,h1⟩=>⟨off,e,jZ hl h1⟩),h.wr,fun i hi=>(h.el i hi).imp id (fun⟨off,e,h1,h2⟩=>⟨off,e,jZ hl h1,h2⟩),h.ap⟩
theorem iL.below {lo:Nat} {w w':World} {a:Option Addr} {n cap:Nat} {ad:Nat→Option Addr} {ln cp:Nat→Nat} {f:Nat→Nat→T} {R:Nat} {B:Nat→Nat} (h:iL lo w a n cap ad ln cp f R B) (hb:Below w.heap.size w w'):iL lo w' a n cap ad ln cp f R B:=
 ⟨h.rd.below hb,h.row,fun i hi=>(h.wr i hi).below hb,h.el,h.ap⟩
theorem jN.far {lo:Nat} {w w':World} {a:Option Addr} {c:Nat} {L:List T} (h:jN lo w a c L) {b:Nat} (hg:w.grownBy w' (some b)) (hb:b<lo):jN lo w' a c L:=by
 have hne:L.length=0∨∀b' off,a=some ⟨b',off,none⟩→some b'≠some b:=h.2.2.imp id (fun⟨g,off,e,h1⟩ b' off' e' e2=>by
  rw[e]at e';cases e';have:b'=b:=by simpa using e2
  omega)
 exact⟨h.1.grown hg hne,h.2.1.grown hg hne,h.2.2⟩
def TG (s0:Nat) (W:World) (Bt Bl n:Nat) (R:Option Dv) (r:Ending) (w':World):Prop:=
 Below s0 W w'∧((∃S qa qc ad cp Rb B la lc mid,R=some S∧r= .returned (.tuple #[])∧w'.cell? ⟨Bt,0,none⟩=some (.slice qa n qc)∧w'.cell? ⟨Bl,0,none⟩=some (.slice la S.r.length lc)∧iL W.heap.size w' qa n qc ad (fun i=>(S.q i).length) cp (fun i=>lf (S.q i)) Rb B∧jN mid w' la lc S.r∧(n=0∨Rb<mid)∧(∀i,i<n→(S.q i).length≠0→B i<mid)∧W.heap.size≤mid)∨(R=none∧r= .panicked [{v:=fG,recovered:=false}]∧w'.cell? ⟨Bt,0,none⟩=some (.slice none 0 0)∧w'.cell? ⟨Bl,0,none⟩=some (.slice none 0 0)))
theorem Pp (X:xQ) (W:World) (p:List T) (h:oO X W 300 0 400 (lB p)) (hp:cG p=true) (hrk:X.rk=Oy X.o) (ho:1≤X.o∧X.o≤3) (hl:aT X.n X.ln X.f=true) (Bv Bt Bl:Nat) (hv:W.cell? ⟨Bv,0,none⟩=some (.pointer (some ⟨X.Bd,0,none⟩))) (ht:W.cell? ⟨Bt,0,none⟩=some (.slice none 0 0)) (hz:W.frozen? ⟨Bt,0,none⟩=false) (hc:W.cell? ⟨Bl,0,none⟩=some (.slice none 0 0)) (hy:W.frozen? ⟨Bl,0,none⟩=false) (n1:Bv≠X.Bd) (n2:Bt≠X.Bd) (n3:Bl≠X.Bd) (n4:Bt≠Bl) (l2:X.s0≤Bt) (l3:X.s0≤Bl):Calls Tryz.prog 113 #[.pointer (some ⟨Bv,0,none⟩),.pointer (some ⟨Bt,0,none⟩),.pointer (some ⟨Bl,0,none⟩)] W fun r w'=>TG X.s0 W Bt Bl X.n (eR X.o X.n X.ln X.f 300 (lB p)) r w':=by
 have HH:=aA h;have HV:=aA hv
 have HT:=aA (And.intro ht hz);have HC:=aA (And.intro hc hy)
 have n12:=(aL hl).1;clear h hv ht hz hc hy;go_enter Tryz.func113,Tryz.ntmps113;go_wp2;go_loopw [3] (fun _ wr=>∃(fu u N:Nat) (S:Dv),fu+u=300∧N≤400+400*u∧lA u S∧oO X wr fu u N S∧gC X W wr∧eR X.o X.n X.ln X.f fu S=eR X.o X.n X.ln X.f 300 (lB p)) (fun _ wr=>uS X.Bd wr);case atStart=>exact⟨300,0,400,lB p,rfl,by omega,lA.start hp,HH.out,gC.of (bL _ _),rfl⟩
 case round=>
  obtain⟨fu,u,N,S,hfu,hN,hok,hW,hT,hR⟩:=hrel;have HOK:=aA hok
  have HW:=aA hW;have HTR:=aA hT
  have HR:=aA hR;have kv:=hT.cell HH.out HV.out n1
  clear hok hW hT hR;by_cases h0:S.p.length=0
  ·have hb:((S.p.length:Int)==0)=true:=by simpa using h0
   have HDN:=aA (Lu X wr fu u N S HW.out (aD HOK.out.p).2 true hb);have HE:=aA (HR.out.symm.trans (lG h0))
   have HAN:=aA (Hi X wr fu u N S HW.out HOK.out (by omega) n12);obtain⟨kt,kz⟩:=And.intro (HTR.out.cell HH.out HT.out.1 n2) (HTR.out.frozen HH.out HT.out.1 n2 HT.out.2);obtain⟨kl,ky⟩:=And.intro (HTR.out.cell HH.out HC.out.1 n3) (HTR.out.frozen HH.out HC.out.1 n3 HC.out.2);have HK:=aA (And.intro (And.intro kt kz) (And.intro kl ky))
   clear kt kz kl ky hb;go_wp2_with fail;refine HDN.out.mono ?_;rintro r w' ⟨rfl,hw'⟩;obtain rfl:=hw'.symm;clear hw' HDN;go_wp2_with fail;refine HAN.out.mono ?_;rintro r w1 ⟨qa,qc,ad,cp,Rb,B,la,lc,mid,rfl,hb1,hO,hL,hm1,hm2,hm3⟩;have ltt:Bt<wr.heap.size:=cX wr _ HK.out.1.1
   have ltl:Bl<wr.heap.size:=cX wr _ HK.out.2.1;have kt:w1.cell? ⟨Bt,0,none⟩=some (.slice none 0 0):=(hb1.cell (p:=⟨Bt,0,none⟩) ltt).trans HK.out.1.1
   have kz:w1.frozen? ⟨Bt,0,none⟩=false:=(hb1.frozen (p:=⟨Bt,0,none⟩) ltt).trans HK.out.1.2;have kl:w1.cell? ⟨Bl,0,none⟩=some (.slice none 0 0):=(hb1.cell (p:=⟨Bl,0,none⟩) ltl).trans HK.out.2.1
   have ky:w1.frozen? ⟨Bl,0,none⟩=false:=(hb1.frozen (p:=⟨Bl,0,none⟩) ltl).trans HK.out.2.2;have HFIN:Hid (TG X.s0 W Bt Bl X.n (some S) (.returned (.tuple #[])) ((w1.setCell ⟨Bt,0,none⟩ (.slice qa X.n qc)).setCell ⟨Bl,0,none⟩ (.slice la S.r.length lc))):=by
    have hs:=HH.out.s0;have hsw:W.heap.size≤wr.heap.size:=HTR.out.size
    have g1:=jR w1 Bt 0 (.slice qa X.n qc);have g2:=jR (w1.setCell ⟨Bt,0,none⟩ (.slice qa X.n qc)) Bl 0 (.slice la S.r.length lc)
    have hbw:Below X.s0 W w1:=(HTR.out.below HH.out).trans (hb1.mono HW.out.s0);refine⟨(hbw.setCell (p:=⟨Bt,0,none⟩) l2 _).setCell (p:=⟨Bl,0,none⟩) l3 _,.inl ⟨S,qa,qc,ad,cp,Rb,B,la,lc,mid,rfl,rfl,?_,?_,?_,?_,hm1,hm2,by omega⟩⟩
    ·simp[go_sem,kt,n4,n4.symm]
    ·simp[go_sem,kl,n4,n4.symm]
    ·exact((hO.far g1 ltt).far g2 ltl).low hsw
    ·exact(hL.far g1 (by omega)).far g2 (by omega)
   clear hb1 hO hL hm1 hm2 hm3 HAN;have hnl:¬Bl=Bt:=fun e=>n4 e.symm
   go_wp2
   go_end0
   rw[HE.out];exact HFIN.out
  ·have hb:((S.p.length:Int)==0)=false:=by simpa using h0
   have HDN:=aA (Lu X wr fu u N S HW.out (aD HOK.out.p).2 false hb);clear hb;cases fu with
   |zero=>
    have HE:=aA (HR.out.symm.trans (FR h0));have HS:=aA (Ok X wr u N S HW.out)
    go_wp2_with fail;refine HDN.out.mono ?_;rintro r w' ⟨rfl,hw'⟩;obtain rfl:=hw'.symm;clear hw' HDN;go_wp2_with fail;refine HS.out.mono ?_;rintro r w' ⟨rfl,hw'⟩;obtain rfl:=hw'.symm;clear hw' HS;go_wp2;rw[HE.out];exact⟨rfl,HTR.out.below HH.out,.inr ⟨rfl,rfl,HTR.out.cell HH.out HT.out.1 n2,HTR.out.cell HH.out HC.out.1 n3⟩⟩
   |succ fu=>
    have HS:=aA (Rv X wr fu u N hN S HW.out hrk ho HOK.out (by omega) hl h0 (by omega));go_wp2_with fail;refine HDN.out.mono ?_;rintro r w' ⟨rfl,hw'⟩;obtain rfl:=hw'.symm;clear hw' HDN;go_wp2_with fail;refine HS.out.mono ?_;rintro r w1 ⟨ht1,hh⟩;rcases hh with⟨S',e1,rfl,hW1⟩|⟨e1,rfl⟩
    ·have HT1:=aA (HTR.out.trans ht1);have HW1:=aA hW1
     have HO1:=aA (pQ hl HOK.out h0 e1);have HE1:=aA ((lH h0 e1).symm.trans HR.out)
     have HF:Hid (uS X.Bd w1<uS X.Bd wr):=by show uS X.Bd w1<uS X.Bd wr;rw[hW1.fuel,HW.out.fuel];omega
     clear ht1 hW1 e1 HS;go_wp2;go_roundw;case rel=>exact⟨fu,u+1,N+400,S',by omega,by omega,HO1.out,HW1.out,HT1.out,HE1.out⟩
     case measure=>exact HF.out
    ·have HE:=aA (HR.out.symm.trans (vY h0 e1));have HT1:=aA (HTR.out.trans ht1)
     clear ht1 e1 HS;go_wp2;rw[HE.out];exact⟨rfl,HT1.out.below HH.out,.inr ⟨rfl,rfl,HT1.out.cell HH.out HT.out.1 n2,HT1.out.cell HH.out HC.out.1 n3⟩⟩
theorem WU {o:Int} {p:List T} {n:Nat} {ln:Nat→Nat} {f:Nat→Nat→T} (h:¬((1≤o∧o≤3)∧cG p=true∧aT n ln f=true)):(o<1∨3<o)∨((1≤o∧o≤3)∧aT n ln f=false)∨((1≤o∧o≤3)∧aT n ln f=true∧cG p=false):=by
 by_cases ho:1≤o∧o≤3
 ·cases hl:aT n ln f
  ·exact .inr (.inl ⟨ho,rfl⟩)
  ·cases hp:cG p
   ·exact .inr (.inr ⟨ho,rfl,rfl⟩)
   ·exact absurd ⟨ho,hp,hl⟩ h
 ·exact .inl (by omega)
theorem SU (w:World) (o:Int) (pa:Option Addr) (pc:Nat) (p:List T) (a:Option Addr) (n cap:Nat) (ad:Nat→Option Addr) (ln cp:Nat→Nat) (f:Nat→Nat→T) (hp:RL w pa pc p) (h:cZ w a n cap ad ln cp f) (hno:¬((1≤o∧o≤3)∧cG p=true∧aT n ln f=true)):Calls Tryz.prog 112 #[.int .i64 o,.slice pa p.length pc,.slice a n cap] w fun r w'=>r= .returned (.tuple #[.pointer none,.bool false])∧Below w.heap.size w w':=by
 have HP:=aA hp;have HH:=aA h
 have q1:(n:Int)≤140737488351232:=by have:=h.2.1;omega
 have q2:(p.length:Int)≤140737488351232:=by have:=hp.2.1;omega
 clear hp h;rcases WU hno with ho|⟨ho,hl⟩|⟨ho,hl,hk⟩
 ·clear hno;go_enter Tryz.func112,Tryz.ntmps112;go_wp2_with fail;refine(nC _ _ ho).mono ?_;rintro r w1 ⟨rfl,hb1⟩;have HB1:=aA hb1
  clear hb1;go_wp2_with fail;refine(iS _ _ _ _ _ ho).mono ?_;rintro r w2 ⟨rfl,hb2⟩;have HB2:=aA (aB HB1.out hb2)
  clear hb2;go_wp2;refine bY (results_tmp2 rfl _ _ _) rfl ?_;exact⟨rfl,HB2.out⟩
 ·clear hno;go_enter Tryz.func112,Tryz.ntmps112;go_wp2_with fail;refine(iA _ _ ho.1 ho.2).mono ?_;rintro r w1 ⟨fv,rfl,hb1⟩;have HB1:=aA hb1
  clear hb1;go_wp2_with fail;refine(jM _ _ _ _ _ _ _ _ _ (HH.out.below HB1.out) ho.1 ho.2 hl).mono ?_;rintro r w2 ⟨rfl,hb2⟩;have HB2:=aA (aB HB1.out hb2)
  clear hb2;go_wp2;refine bY (results_tmp2 rfl _ _ _) rfl ?_;exact⟨rfl,HB2.out⟩
 ·clear hno;go_enter Tryz.func112,Tryz.ntmps112;go_wp2_with fail;refine(iA _ _ ho.1 ho.2).mono ?_;rintro r w1 ⟨fv,rfl,hb1⟩;have HB1:=aA hb1
  clear hb1;go_wp2_with fail;refine(kM _ _ _ _ _ _ _ _ _ (HH.out.below HB1.out) ho.1 ho.2 hl).mono ?_;rintro r w2 ⟨v,rfl,hb2,ho2⟩;have HB2:=aA (aB HB1.out hb2)
  clear hb2 ho2;go_wp2_with fail;refine(eO _ _ _ _ (lf p) (HP.out.below HB2.out)).mono ?_;rw[show aN p.length (lf p)=false from hk];rintro r w3 ⟨rfl,hb3⟩;have HB3:=aA (aB HB2.out hb3)
  clear hb3;go_wp2;refine bY (results_tmp2 rfl _ _ _) rfl ?_;exact⟨rfl,HB3.out⟩
def IU (w:World) (n:Nat) (R:Option Dv) (r:Ending) (w':World):Prop:=
 Below w.heap.size w w'∧((∃S qa qc ad cp Rb B la lc mid,R=some S∧r= .returned (.tuple #[.slice qa n qc,.slice la S.r.length lc,.bool true])∧iL w.heap.size w' qa n qc ad (fun i=>(S.q i).length) cp (fun i=>lf (S.q i)) Rb B∧jN mid w' la lc S.r∧(n=0∨Rb<mid)∧(∀i,i<n→(S.q i).length≠0→B i<mid)∧w.heap.size≤mid)∨(R=none∧r= .returned (.tuple #[.slice none 0 0,.slice none 0 0,.bool false])))
theorem Jw (w:World) (o:Int) (pa:Option Addr) (pc:Nat) (p:List T) (a:Option Addr) (n cap:Nat) (ad:Nat→Option Addr) (ln cp:Nat→Nat) (f:Nat→Nat→T) (hp:RL w pa pc p) (h:cZ w a n cap ad ln cp f):Calls Tryz.prog 69 #[.int .i64 o,.slice pa p.length pc,.slice a n cap] w fun r w'=>IU w n (aW o p n ln f) r w':=by
 by_cases hok:(1≤o∧o≤3)∧cG p=true∧aT n ln f=true
 ·have HE:Hid (aW o p n ln f=eR o n ln f 300 (lB p)):=if_pos hok;rw[HE.out];have HBG:=aA (ZC w o pa pc p a n cap ad ln cp f hp h hok.1.1 hok.1.2 hok.2.1 hok.2.2)
  clear HE hp h;go_enter Tryz.func69,Tryz.ntmps69;go_wp2_with fail;refine HBG.out.mono ?_;rintro r w1 ⟨X,rfl,e1,e2,e3,e4,e5,e6,hD,hb1⟩;subst e1 e2 e3;have hbd:X.Bd<w1.heap.size:=cX w1 _ hD.c0
  have hs1:w.heap.size≤w1.heap.size:=hb1.size;have HB0:=aA (aB hb1 (aY w1 (.cells #[.pointer (some ⟨X.Bd,0,none⟩)] 134) (.cells #[.slice none 0 0] 24) (.cells #[.slice none 0 0] 45)))
  have hsz:(((w1.alloc (.cells #[.pointer (some ⟨X.Bd,0,none⟩)] 134)).alloc (.cells #[.slice none 0 0] 24)).alloc (.cells #[.slice none 0 0] 45)).heap.size=w1.heap.size+3:=by simp
  have HSZ:=aA hsz
  have HA:=aA (Pp X (((w1.alloc (.cells #[.pointer (some ⟨X.Bd,0,none⟩)] 134)).alloc (.cells #[.slice none 0 0] 24)).alloc (.cells #[.slice none 0 0] 45)) p (hD.below (aY _ _ _ _)) hok.2.1 (by rw[e5,e4]) (by rw[e4];exact hok.1) hok.2.2 w1.heap.size (w1.heap.size+1) (w1.heap.size+2)
   (by simp[go_sem]) (by simp[go_sem]) (by simp[go_sem]) (by simp[go_sem]) (by simp[go_sem]) (by omega) (by omega) (by omega) (by omega) (by rw[e6];omega) (by rw[e6];omega))
  rw[e4,e6]at HA;clear hb1 hD hsz;go_wp2_with fail;rw[show w1.heap.size+1+1=w1.heap.size+2 from rfl];cases hR:eR o X.n X.ln X.f 300 (lB p)with
  |some S=>
   have HC:=aA (sM 113 #[.pointer (some ⟨w1.heap.size,0,none⟩),.pointer (some ⟨w1.heap.size+1,0,none⟩),.pointer (some ⟨w1.heap.size+2,0,none⟩)] (((w1.alloc (.cells #[.pointer (some ⟨X.Bd,0,none⟩)] 134)).alloc (.cells #[.slice none 0 0] 24)).alloc (.cells #[.slice none 0 0] 45)) (fun w'=>Below w.heap.size (((w1.alloc (.cells #[.pointer (some ⟨X.Bd,0,none⟩)] 134)).alloc (.cells #[.slice none 0 0] 24)).alloc (.cells #[.slice none 0 0] 45)) w'∧∃qa qc ad cp Rb B la lc mid,w'.cell? ⟨w1.heap.size+1,0,none⟩=some (.slice qa X.n qc)∧w'.cell? ⟨w1.heap.size+2,0,none⟩=some (.slice la S.r.length lc)∧iL (w1.heap.size+3) w' qa X.n qc ad (fun i=>(S.q i).length) cp (fun i=>lf (S.q i)) Rb B∧jN mid w' la lc S.r∧(X.n=0∨Rb<mid)∧(∀i,i<X.n→(S.q i).length≠0→B i<mid)∧w1.heap.size+3≤mid) (enters_of Tryz.func113 (by kernel_rfl) rfl) (HA.out.mono fun r w' h=>by
    rw[hR]at h;rcases h.2 with⟨S',qa,qc,ad,cp,Rb,B,la,lc,mid,hS,hr,r1,r2,r3,r4,r5,r6,r7⟩|⟨hno,_⟩
    ·cases hS;rw[HSZ.out]at r3 r7;exact⟨hr,h.1,qa,qc,ad,cp,Rb,B,la,lc,mid,r1,r2,r3,r4,r5,r6,r7⟩
    ·cases hno))
   have HRR:=aA hR;clear HA hR;refine HC.out.mono ?_;rintro r w3 ⟨rfl,w2,⟨hb2,qa,qc,ad',cp',Rb,B,la,lc,mid,k1,k2,hO,hL,m1,m2,m3⟩,rfl⟩;have g1:(w2.alloc (.cells #[] 149)).cell? ⟨w1.heap.size+1,0,none⟩=some (.slice qa X.n qc):=((aC w2 _).cell (p:=⟨w1.heap.size+1,0,none⟩) (cX w2 _ k1)).trans k1
   have g2:(w2.alloc (.cells #[] 149)).cell? ⟨w1.heap.size+2,0,none⟩=some (.slice la S.r.length lc):=((aC w2 _).cell (p:=⟨w1.heap.size+2,0,none⟩) (cX w2 _ k2)).trans k2;have hbw:Below w.heap.size w w2:=HB0.out.trans hb2
   have HFIN:Hid (IU w X.n (some S) (.returned (.tuple #[.slice qa X.n qc,.slice la S.r.length lc,.bool true])) (w2.alloc (.cells #[] 149)).drew):=
    ⟨(hbw.alloc hbw.size _).drew,.inl ⟨S,qa,qc,ad',cp',Rb,B,la,lc,mid,rfl,rfl,((hO.low (by omega)).below (aC w2 _)).below (bL _ _).drew,(hL.below (aC w2 _)).below (bL _ _).drew,m1,m2,by omega⟩⟩
   clear hb2 k1 k2 hO hL m1 m2 m3 HC hbw;go_wp2_with fail
   go_region_with fail
   all_goals
    go_wp2;refine bY (results_tmp3 rfl _ _ _) rfl ?_;rw[HRR.out];exact HFIN.out
  |none=>
   have HC:=aA (DO 113 #[.pointer (some ⟨w1.heap.size,0,none⟩),.pointer (some ⟨w1.heap.size+1,0,none⟩),.pointer (some ⟨w1.heap.size+2,0,none⟩)] (((w1.alloc (.cells #[.pointer (some ⟨X.Bd,0,none⟩)] 134)).alloc (.cells #[.slice none 0 0] 24)).alloc (.cells #[.slice none 0 0] 45)) (fun w'=>Below w.heap.size (((w1.alloc (.cells #[.pointer (some ⟨X.Bd,0,none⟩)] 134)).alloc (.cells #[.slice none 0 0] 24)).alloc (.cells #[.slice none 0 0] 45)) w'∧w'.cell? ⟨w1.heap.size+1,0,none⟩=some (.slice none 0 0)∧w'.cell? ⟨w1.heap.size+2,0,none⟩=some (.slice none 0 0)) (enters_of Tryz.func113 (by kernel_rfl) rfl) (HA.out.mono fun r w' h=>by
    rw[hR]at h;rcases h.2 with⟨S',qa,qc,ad,cp,Rb,B,la,lc,mid,hS,_⟩|⟨_,hr,r1,r2⟩
    ·cases hS
    ·exact⟨hr,h.1,r1,r2⟩))
   have HRR:=aA hR;clear HA hR;refine HC.out.mono ?_;rintro r w3 ⟨rfl,w2,⟨hb2,k1,k2⟩,rfl⟩;have g1:(w2.alloc (.cells #[] 149)).cell? ⟨w1.heap.size+1,0,none⟩=some (.slice none 0 0):=((aC w2 _).cell (p:=⟨w1.heap.size+1,0,none⟩) (cX w2 _ k1)).trans k1
   have g2:(w2.alloc (.cells #[] 149)).cell? ⟨w1.heap.size+2,0,none⟩=some (.slice none 0 0):=((aC w2 _).cell (p:=⟨w1.heap.size+2,0,none⟩) (cX w2 _ k2)).trans k2;have hbw:Below w.heap.size w w2:=HB0.out.trans hb2
   have HFIN:Hid (IU w X.n none (.returned (.tuple #[.slice none 0 0,.slice none 0 0,.bool false])) (w2.alloc (.cells #[] 149)).drew):=⟨(hbw.alloc hbw.size _).drew,.inr ⟨rfl,rfl⟩⟩
   clear hb2 k1 k2 HC hbw;go_wp2_with fail
   go_region_with fail
   all_goals
    go_wp2;refine bY (results_tmp3 rfl _ _ _) rfl ?_;rw[HRR.out];exact HFIN.out
 ·have HE:Hid (aW o p n ln f=none):=if_neg hok;rw[HE.out];have HBG:=aA (SU w o pa pc p a n cap ad ln cp f hp h hok)
  clear hok HE hp h;go_enter Tryz.func69,Tryz.ntmps69;go_wp2_with fail;refine HBG.out.mono ?_;rintro r w1 ⟨rfl,hb1⟩;have HB1:=aA hb1
  clear hb1 HBG;go_wp2;refine bY (results_tmp3 rfl _ _ _) rfl ?_;exact⟨HB1.out.alloc HB1.out.size _,.inr ⟨rfl,rfl⟩⟩
end Go.Proofs.YtdidlcjhodejjaaGreat
