/-
  A division ahead of its first step.
-/
import Derived.Test.YtelkehjdfcoeiaaGreatNaz
set_option maxHeartbeats 8000000
set_option maxRecDepth 100000
namespace Go.Proofs.YtelkehjdfcoeiaaGreat
open Go.RowKit Go.Deep Go.Joins Go.Maps
set_option linter.unusedVariables false
theorem aV.ne_row {w:World} {b n:Nat} {c:M→Int} (h:aV w b n c) {base size k:Nat} {e:TypeId} {v:Value} {xs:List Value} (ho:w.ownsRow base e size v k xs):some b≠v.ownBlock:=by
 rcases ho.2 with⟨rfl,_⟩|⟨g,cap,cur,rfl,_,hg,_⟩
 ·simp[Value.ownBlock]
 ·intro e;obtain rfl:b=g:=by simpa[Value.ownBlock]using e
  obtain⟨D,⟨es,clock,h1,_⟩,_⟩:=h;rw[h1]at hg;cases hg
def vQ (bk:Nat→Nat) (j:Nat):List Value:=(List.range j).map fun i=>.map (some (bk i))
theorem PB (bk:Nat→Nat) (j:Nat):(vQ bk j).length=j:=by simp[vQ]
theorem UQ {bk:Nat→Nat} {j i:Nat} (h:i<j):(vQ bk j)[i]? =some (.map (some (bk i))):=by simp[vQ,h]
theorem LO {bk:Nat→Nat} {j m:Nat}:vQ (fun i=>if i=j then m else bk i) (j+1)=vQ bk j++[.map (some m)]:=by
 unfold vQ;rw[List.range_succ,List.map_append];congr 1
 ·refine List.map_congr_left fun i hi=>?_;have:i<j:=by simpa using hi
  dsimp only;rw[if_neg (by omega)]
 ·simp
structure MZ (w wr:World) (B rk:Nat) (a al:Option Addr) (n cap cl:Nat) (ad:Nat→Option Addr) (ln cp:Nat→Nat) (f:Nat→Nat→T) (o:Int) (p:List T) (j:Nat) (tv:Value) (bk:Nat→Nat):Prop where
 c0:wr.cell? ⟨B+2,0,none⟩=some (.func (.func rk) #[] #[])
 c1:wr.cell? ⟨B+2,1,none⟩=some (.slice a n cap)
 c2:wr.cell? ⟨B+2,2,none⟩=some (.slice al n cl)
 c3:wr.cell? ⟨B+2,3,none⟩=some (.map (some B))
 c4:wr.cell? ⟨B+2,4,none⟩=some tv
 c5:wr.cell? ⟨B+2,5,none⟩=some (.map (some (B+1)))
 c6:wr.cell? ⟨B+2,6,none⟩=some (.int .i64 300)
 fz:∀i,wr.frozen? ⟨B+2,i,none⟩=false
 ls:eH wr a n cap ad ln cp f
 ld:Rd wr al n cl (lf (nH o ln f n))
 sp:n=0∨((∀b off,a=some ⟨b,off,none⟩→b<B)∧(∀i,i<n→ln i=0∨∀b off,ad i=some ⟨b,off,none⟩→b<B)∧∀b off,al=some ⟨b,off,none⟩→b<B)
 rs:aV wr B 400 (aI p)
 le:aV wr (B+1) 0 (fun _=>0)
 row:wr.ownsRow (B+3) 95 1 tv j (vQ bk j)
 tq:∀i,i<j→B+2<bk i∧aV wr (bk i) 0 (fun _=>0)
 up:∀i k,i<k→k<j→bk i<bk k
 bel:Below w.heap.size w wr
 hB:w.heap.size≤B
theorem MZ.round {w wr:World} {B rk:Nat} {a al:Option Addr} {n cap cl:Nat} {ad:Nat→Option Addr} {ln cp:Nat→Nat} {f:Nat→Nat→T} {o:Int} {p:List T} {j:Nat} {tv:Value} {bk:Nat→Nat} (h:MZ w wr B rk a al n cap cl ad ln cp f o p j tv bk) {w5:World} {g0 cap0:Nat} (hgrow:((wr.alloc (.map #[] 0)).alloc (.cells #[.map (some wr.heap.size)] 95)).grownBy w5 tv.ownBlock) (hown:w5.ownsRow (B+3) 95 1 (.slice (some ⟨g0,0,none⟩) (j+1) cap0) (j+1) (vQ bk j++[.map (some wr.heap.size)])) (hat:tv.ownBlock=some g0∨g0=wr.heap.size+2):MZ w (w5.setCell ⟨B+2,4,none⟩ (.slice (some ⟨g0,0,none⟩) (j+1) cap0)) B rk a al n cap cl ad ln cp f o p (j+1) (.slice (some ⟨g0,0,none⟩) (j+1) cap0) (fun i=>if i=j then wr.heap.size else bk i):=by
 have hBd:B+2<wr.heap.size:=cQ wr _ h.c0;have hb2:Below wr.heap.size wr ((wr.alloc (.map #[] 0)).alloc (.cells #[.map (some wr.heap.size)] 95)):=aN _ _ _
 have hrow2:((wr.alloc (.map #[] 0)).alloc (.cells #[.map (some wr.heap.size)] 95)).ownsRow (B+3) 95 1 tv j (vQ bk j):=(h.row.alloc _).alloc _;have hlt:∀k,tv.ownBlock=some k→B+3≤k∧k<wr.heap.size:=fun k hk=>h.row.lt k hk
 have hg0:B+3≤g0:=by
  rcases hat with e|e
  ·exact(hlt g0 e).1
  ·omega
 have hsz5:wr.heap.size+2≤w5.heap.size:=by have:=hgrow.size;simpa using this
 have hcell5:∀{b i:Nat} {v:Value},wr.cell? ⟨b,i,none⟩=some v→b<B+3→w5.cell? ⟨b,i,none⟩=some v:=fun{b i v} hc hb=>by
  have hl:=cQ wr _ hc;have h1:=(hb2.cell (p:=⟨b,i,none⟩) hl).trans hc
  exact(nC (a:=⟨b,i,none⟩) (hgrow.block b (by simp;exact Nat.lt_succ_of_lt (Nat.lt_succ_of_lt hl)) (fun e=>by have:=(hlt b e.symm).1;omega))).trans h1
 have hcell:∀{b i:Nat} {v:Value},wr.cell? ⟨b,i,none⟩=some v→b<B+3→(b≠B+2∨i≠4)→(w5.setCell ⟨B+2,4,none⟩ (.slice (some ⟨g0,0,none⟩) (j+1) cap0)).cell? ⟨b,i,none⟩=some v:=fun{b i v} hc hb hne=>by rw[World.cell?_setCell_other _ _ _ _ (by intro e;cases e;rcases hne with h|h<;>exact h rfl)];exact hcell5 hc hb
 have hfz:∀i,(w5.setCell ⟨B+2,4,none⟩ (.slice (some ⟨g0,0,none⟩) (j+1) cap0)).frozen? ⟨B+2,i,none⟩=false:=fun i=>by have h1:w5.frozen? ⟨B+2,i,none⟩=false:=(World.frozen?_of_block (a:=⟨B+2,i,none⟩) (hgrow.block (B+2) (by simp;omega) (fun e=>by have:=(hlt (B+2) e.symm).1;omega))).trans ((hb2.frozen (p:=⟨B+2,i,none⟩) hBd).trans (h.fz i));simp[go_sem,h1]
 have hs:w5.grownBy (w5.setCell ⟨B+2,4,none⟩ (.slice (some ⟨g0,0,none⟩) (j+1) cap0)) (some (B+2)):=gJ _ _ _ _;have hmap:∀{b N:Nat} {c:M→Int},aV ((wr.alloc (.map #[] 0)).alloc (.cells #[.map (some wr.heap.size)] 95)) b N c→b≠B+2→aV (w5.setCell ⟨B+2,4,none⟩ (.slice (some ⟨g0,0,none⟩) (j+1) cap0)) b N c:=fun{b N c} hh hne=>(hh.grown hgrow (hh.ne_row hrow2)).grown hs (by simpa using hne)
 have hrd:∀{x:Option Addr} {k cp:Nat} {f:Nat→T},Rd wr x k cp f→(k=0∨∀b off,x=some ⟨b,off,none⟩→b<B)→Rd (w5.setCell ⟨B+2,4,none⟩ (.slice (some ⟨g0,0,none⟩) (j+1) cap0)) x k cp f:=fun{x k cp f} hr hn=>
  ((hr.below hb2).grown hgrow (hn.imp id (fun hh b off e e'=>by have:=hh b off e;have:=(hlt b e'.symm).1;omega))).grown hs (hn.imp id (fun hh b off e e'=>by have h1:=hh b off e;have e2:b=B+2:=(by simpa using e');omega))
 have hnew:aV ((wr.alloc (.map #[] 0)).alloc (.cells #[.map (some wr.heap.size)] 95)) wr.heap.size 0 (fun _=>0):=(tM wr).below (aC _ _)
 exact{
  c0:=hcell h.c0 (by omega) (.inr (by decide))
  c1:=hcell h.c1 (by omega) (.inr (by decide))
  c2:=hcell h.c2 (by omega) (.inr (by decide))
  c3:=hcell h.c3 (by omega) (.inr (by decide))
  c4:=by simp[go_sem,hcell5 h.c4 (by omega)]
  c5:=hcell h.c5 (by omega) (.inr (by decide))
  c6:=hcell h.c6 (by omega) (.inr (by decide))
  fz:=hfz
  ls:=by
   refine⟨h.ls.1,h.ls.2.1,?_,fun i hi=>hrd (h.ls.2.2.2 i hi) (h.sp.elim (fun h0=>absurd hi (by omega)) (fun hh=>hh.2.1 i hi))⟩;rcases h.ls.2.2.1 with h0|⟨b,off,e,hlt1,hc⟩
   ·exact .inl h0
   ·by_cases hn0:n=0
    ·exact .inl hn0
    ·have hbB:=(h.sp.resolve_left hn0).1 b off e;refine .inr ⟨b,off,e,?_,fun i hi=>hcell (hc i hi) (by omega) (.inl (by omega))⟩;have:=hs.size
     omega
  ld:=hrd h.ld (h.sp.imp id (·.2.2))
  sp:=h.sp
  rs:=hmap (h.rs.below hb2) (by omega)
  le:=hmap (h.le.below hb2) (by omega)
  row:=by rw[LO];exact hown.kept hs (.inr (by simp[Value.ownBlock];omega))
  tq:=fun i hi=>by
   by_cases e:i=j
   ·rw[if_pos e];exact⟨hBd,hmap hnew (by omega)⟩
   ·rw[if_neg e];have h1:=h.tq i (by omega)
    exact⟨h1.1,hmap (h1.2.below hb2) (by omega)⟩
  up:=fun i k hik hk=>by
   rw[if_neg (show ¬i=j by omega)];by_cases e:k=j
   ·rw[if_pos e];exact(h.tq i (by omega)).2.lt
   ·rw[if_neg e];exact h.up i k hik (by omega)
  bel:=by
   have h1:Below w.heap.size w ((wr.alloc (.map #[] 0)).alloc (.cells #[.map (some wr.heap.size)] 95)):=aB h.bel hb2;have h2:Below w.heap.size w w5:=h1.grown hgrow h1.size (fun k e=>by have:=(hlt k e).1;have:=h.hB;omega)
   exact h2.setCell (p:=⟨B+2,4,none⟩) (by have:=h.hB;show w.heap.size≤B+2;omega) _
  hB:=h.hB}
theorem MZ.cell4 {w wr:World} {B rk:Nat} {a al:Option Addr} {n cap cl:Nat} {ad:Nat→Option Addr} {ln cp:Nat→Nat} {f:Nat→Nat→T} {o:Int} {p:List T} {j:Nat} {tv:Value} {bk:Nat→Nat} (h:MZ w wr B rk a al n cap cl ad ln cp f o p j tv bk) {w5:World} (hgrow:((wr.alloc (.map #[] 0)).alloc (.cells #[.map (some wr.heap.size)] 95)).grownBy w5 tv.ownBlock):w5.cell? ⟨B+2,4,none⟩=some tv∧w5.frozen? ⟨B+2,4,none⟩=false:=by
 have hBd:B+2<wr.heap.size:=cQ wr _ h.c0;have hb2:Below wr.heap.size wr ((wr.alloc (.map #[] 0)).alloc (.cells #[.map (some wr.heap.size)] 95)):=aN _ _ _
 have hb:=hgrow.block (B+2) (by simp;omega) (fun e=>by have:=(h.row.lt (B+2) e.symm).1;omega);exact⟨(nC (a:=⟨B+2,4,none⟩) hb).trans ((hb2.cell (p:=⟨B+2,4,none⟩) hBd).trans h.c4),(World.frozen?_of_block (a:=⟨B+2,4,none⟩) hb).trans ((hb2.frozen (p:=⟨B+2,4,none⟩) hBd).trans (h.fz 4))⟩
theorem MZ.done {w wr:World} {B rk:Nat} {a al:Option Addr} {n cap cl:Nat} {ad:Nat→Option Addr} {ln cp:Nat→Nat} {f:Nat→Nat→T} {o:Int} {p:List T} {tv:Value} {bk:Nat→Nat} (h:MZ w wr B rk a al n cap cl ad ln cp f o p n tv bk):∃X:sE,X.Bd=B+2∧X.n=n∧X.ln=ln∧X.f=f∧X.o=o∧X.rk=rk∧X.s0=w.heap.size∧kU X wr 300 0 400 (kP p):=by
 obtain⟨ta,tc,etv,htc,htk⟩:∃ta tc,tv= .slice ta n tc∧n≤tc∧((n=0∧ta=none)∨∃bt,B+3≤bt∧ta=some ⟨bt,0,none⟩∧∀i,i<n→wr.cell? ⟨bt,0+i,none⟩=some (.map (some (bk i)))):=by
  rcases h.row.2 with⟨e,h0⟩|⟨g,cap',cur,e,hlo,hg,hn,_⟩
  ·exact⟨none,0,by rw[e,h0],by omega,.inl ⟨h0,rfl⟩⟩
  ·refine⟨some ⟨g,0,none⟩,cap',e,hn,.inr ⟨g,hlo,rfl,fun i hi=>?_⟩⟩;have hr:=h.row
   rw[e]at hr;rw[Nat.zero_add,hr.cellAt i (by omega),UQ hi]
 subst etv;have hB:=h.hB
 refine⟨⟨w.heap.size,B+2,rk,a,al,ta,n,cap,cl,tc,ad,ln,cp,f,o,B,B+1,bk⟩,rfl,rfl,rfl,rfl,rfl,rfl,rfl,?_⟩
 exact{
  c0:=h.c0
  c1:=h.c1
  c2:=h.c2
  c3:=h.c3
  c4:=h.c4
  c5:=h.c5
  c6:=h.c6
  fz:=h.fz 6
  ls:=h.ls
  ld:=h.ld
  tk:=⟨htc,htk.imp (·.1) (fun⟨bt,_,e,hc⟩=>⟨bt,0,e,hc⟩)⟩
  rs:=h.rs
  lf:=h.le
  tq:=fun i hi=>(h.tq i hi).2
  ne:=⟨by show B≠B+1;omega,fun i hi=>⟨by have:=(h.tq i hi).1;show bk i≠B;omega,by have:=(h.tq i hi).1;show bk i≠B+1;omega,fun j hj hij=>by
   rcases Nat.lt_or_ge i j with h1|h1
   ·have:=h.up i j h1 hj;show bk i≠bk j;omega
   ·have:=h.up j i (by omega) hi;show bk i≠bk j;omega⟩⟩
  lo:=⟨by show w.heap.size≤B+2;omega,hB,by show w.heap.size≤B+1;omega,fun i hi=>by have:=(h.tq i hi).1;show w.heap.size≤bk i;omega⟩
  sp:=h.sp.imp id fun hh=>⟨fun b off e=>by have:=hh.1 b off e;show b≠B+2;omega,fun i hi=>(hh.2.1 i hi).imp id (fun h2 b off e=>by have:=h2 b off e;show b≠B+2;omega),fun b off e=>by have:=hh.2.2 b off e;show b≠B+2;omega,fun b off e=>by
   show b≠B+2;rcases htk with⟨_,e'⟩|⟨bt,hbt,e',_⟩
   ·have e:ta=some ⟨b,off,none⟩:=e;rw[e']at e;cases e
   ·have e:ta=some ⟨b,off,none⟩:=e
    rw[e']at e;cases e;omega⟩}
set_option linter.unusedSimpArgs false in
theorem PA (w:World):(Instr.makeMap 95 none).run Tryz.prog w= .ok (.map (some w.heap.size)) (w.alloc (.map #[] 0)):=by have hu:=run_underlying (P:=Tryz.prog) Tryz.underlying95;unfold Instr.makeMap;simp[hu,asInt,go_sem,Sem.run_bind,Result.andThen]
theorem XN:(Tryz.prog.info? 95).map (fun i=>(i.zero,i.size,i.bytes))=some (some (.map none),1,8):=by kernel_rfl
theorem NR {p:List T} (hp:aH p) (m:M):fT 1 (lf p) (fun _=>0) p.length m=aI p m:=by
 rw[jY (tT hp) (fun _=>⟨Int.le_refl _,by show(0:Int)≤100;decide⟩) _ (Nat.le_refl _),kG];have:=bD hp m
 omega
abbrev KO (rk:Nat) (a al:Option Addr) (n cap cl B:Nat):Obj:=.cells #[.func (.func rk) #[] #[],.slice a n cap,.slice al n cl,.map (some B),.slice none 0 0,.map (some (B+1)),.int .i64 300] 175
theorem MZ.start {w w3 w5:World} {rk:Nat} {a al:Option Addr} {n cap cl:Nat} {ad:Nat→Option Addr} {ln cp:Nat→Nat} {f:Nat→Nat→T} {o:Int} {p:List T} (hp:cJ p=true) (hb:Below w.heap.size w w3) (ls:eH w3 a n cap ad ln cp f) (ld:Rd w3 al n cl (lf (nH o ln f n))) (hS:aV w5 w3.heap.size (0+p.length) (fT 1 (lf p) (fun _=>0) p.length)) (hg:(((w3.alloc (.map #[] 0)).alloc (.map #[] 0)).alloc (KO rk a al n cap cl w3.heap.size)).grownBy w5 (some w3.heap.size)):MZ w w5 w3.heap.size rk a al n cap cl ad ln cp f o p 0 (.slice none 0 0) (fun _=>0):=by
 obtain⟨pl,pf⟩:=aD hp;have hb3:Below w3.heap.size w3 (((w3.alloc (.map #[] 0)).alloc (.map #[] 0)).alloc (KO rk a al n cap cl w3.heap.size)):=aP _ _ _ _
 have hm:aV (((w3.alloc (.map #[] 0)).alloc (.map #[] 0)).alloc (KO rk a al n cap cl w3.heap.size)) w3.heap.size 0 (fun _=>0):=((tM w3).below (aC _ _)).below (aC _ _);have hm1:aV (((w3.alloc (.map #[] 0)).alloc (.map #[] 0)).alloc (KO rk a al n cap cl w3.heap.size)) (w3.heap.size+1) 0 (fun _=>0):=by have:=(tM (w3.alloc (.map #[] 0))).below (aC _ (KO rk a al n cap cl w3.heap.size));rw[World.size_alloc]at this;exact this
 have hcell:∀i v,#[Value.func (.func rk) #[] #[],.slice a n cap,.slice al n cl,.map (some w3.heap.size),.slice none 0 0,.map (some (w3.heap.size+1)),.int .i64 300][i]? =some v→w5.cell? ⟨w3.heap.size+2,i,none⟩=some v:=fun i v hv=>by
  refine aQ hm ?_ hg;have hz:((w3.alloc (.map #[] 0)).alloc (.map #[] 0)).heap.size=w3.heap.size+2:=by simp
  rw[←hz,World.cell?_alloc_at _ _ _ _ rfl];exact hv
 have hfz:∀i,w5.frozen? ⟨w3.heap.size+2,i,none⟩=false:=fun i=>by
  have hz:((w3.alloc (.map #[] 0)).alloc (.map #[] 0)).heap.size=w3.heap.size+2:=by simp
  refine(World.frozen?_of_block (a:=⟨w3.heap.size+2,i,none⟩) (hg.block (w3.heap.size+2) (by simp) (by simp))).trans ?_;rw[←hz,World.frozen?_alloc_at _ _ _ _ rfl]
 exact{
  c0:=hcell 0 _ rfl
  c1:=hcell 1 _ rfl
  c2:=hcell 2 _ rfl
  c3:=hcell 3 _ rfl
  c4:=hcell 4 _ rfl
  c5:=hcell 5 _ rfl
  c6:=hcell 6 _ rfl
  fz:=hfz
  ls:=(ls.below hb3).grownMap hm hg
  ld:=(ld.below hb3).grownMap hm hg
  sp:=by
   by_cases hn:n=0
   ·exact .inl hn
   ·refine .inr ⟨fun b off e=>?_,fun i hi=>(ls.2.2.2 i hi).under,fun b off e=>?_⟩
    ·rcases ls.2.2.1 with h0|⟨b',off',e',hlt,_⟩
     ·exact absurd h0 hn
     ·rw[e]at e';cases e';exact hlt
    ·exact(ld.under.resolve_left hn) b off e
  rs:=(hS.congr (fun m _=>NR pf m) (fun m=>bD pf m)).more (by omega)
  le:=hm1.grown hg (by simp)
  row:=⟨rfl,.inl ⟨rfl,rfl⟩⟩
  tq:=fun i hi=>by omega
  up:=fun i k _ hk=>by omega
  bel:=(aB hb hb3).grown hg (aB hb hb3).size (fun k e=>by cases e;exact hb.size)
  hB:=hb.size}
theorem MI (w:World) (o:Int) (pa:Option Addr) (pc:Nat) (p:List T) (a:Option Addr) (n cap:Nat) (ad:Nat→Option Addr) (ln cp:Nat→Nat) (f:Nat→Nat→T) (hp:RL w pa pc p) (h:eH w a n cap ad ln cp f) (o1:1≤o) (o2:o≤3) (hpo:cJ p=true) (hl:aW n ln f=true):Calls Tryz.prog 95 #[.int .i64 o,.slice pa p.length pc,.slice a n cap] w fun r w'=>∃X:sE,r= .returned (.tuple #[.pointer (some ⟨X.Bd,0,none⟩),.bool true])∧X.n=n∧X.ln=ln∧X.f=f∧X.o=o∧X.rk=ZC o∧X.s0=w.heap.size∧kU X w' 300 0 400 (kP p)∧Below w.heap.size w w':=by
 obtain⟨i0,hi0,hz0,hz1,hz2⟩:=info_parts XN;obtain⟨pl,pf⟩:=aD hpo;have n12:=(aU hl).1
 have hnl:(n:Int)≤12:=by omega
 have hpl:(p.length:Int)≤400:=by omega
 have HP:=aA hp;have HH:=aA h
 have HF:=aA pf;obtain⟨rk,hrk⟩:∃rk,ZC o=rk:=⟨_,rfl⟩
 have hord:=fun W:World=>PR o W o1 o2;rw[hrk]at hord⊢;have HORD:=aA hord
 clear hp h pf hord hrk;go_enter Tryz.func95,Tryz.ntmps95;go_wp2_with fail;refine(HORD.out _).mono ?_;rintro r w1 ⟨rfl,hb1⟩;have HB1:=aA hb1
 clear hb1;go_wp2_with fail;refine(oU _ o _ _ _ _ _ _ _ (HH.out.below HB1.out) o1 o2 hl).mono ?_;rintro r w2 ⟨v,rfl,hb2,ho2⟩;obtain⟨al,cl,rfl,hout⟩:=aM ho2 (by rw[mA];omega);have hld:=hout.1
 rw[mA]at hld;rw[mA];have HLD:=aA hld
 have HB2:=aA (aB HB1.out hb2);clear hb2 ho2 hout hld;go_wp2_with fail;refine(dZ _ _ _ _ (lf p) (HP.out.below HB2.out)).mono ?_;rw[show aK p.length (lf p)=true from hpo];rintro r w3 ⟨rfl,hb3⟩;have HB3:=aA (aB HB2.out hb3)
 have HLD3:=aA (HLD.out.below hb3);have hmk:=PA
 have HT:=aA (oE (((w3.alloc (.map #[] 0)).alloc (.map #[] 0)).alloc (KO rk a al n cap cl w3.heap.size)) w3.heap.size 0 (fun _=>0) 1 pa p.length pc (lf p) (((tM w3).below (aC _ _)).below (aC _ _)) (((HP.out.below HB3.out).below (aP _ _ _ _))) ((HP.out.below HB3.out).apart (Nat.le_refl _)) (fun i hi=>(HF.out.2 _ (lK hi)).1) (fun i hi=>by have:=HF.out.2 _ (lK hi);omega) (by omega) (by omega) (by omega) (by simp;omega));clear hb3 HLD HB1 HB2;go_wp2_with fail;refine HT.out.mono ?_;rintro r w5 ⟨rfl,hS5,hg5⟩;have HST:=aA (MZ.start (o:=o) (ad:=ad) (ln:=ln) (cp:=cp) (f:=f) hpo HB3.out (HH.out.below HB3.out) HLD3.out hS5 hg5)
 clear hS5 hg5 HT HLD3;go_wp2;rw[show w3.heap.size+1+1=w3.heap.size+2 from rfl];go_loopw [46] (fun ii wr=>∃(j:Nat) (tv:Value) (bk:Nat→Nat),j≤n∧ii= .int .i64 (j:Int)∧MZ w wr w3.heap.size rk a al n cap cl ad ln cp f o p j tv bk) (fun ii _=>n-(intOf ii).toNat);case atStart=>exact⟨0,_,_,Nat.zero_le _,rfl,HST.out⟩
 case round=>
  obtain⟨j,tv,bk,hj,rfl,hW⟩:=hrel;have HW:=aA hW
  by_cases hlt:j<n
  ·have hjn:(j:Int)<(n:Int):=by omega
   have k4:=hW.c4;have kz:=hW.fz 4
   have hBd:w3.heap.size+2<wr.heap.size:=cQ wr _ hW.c0;have hnew:=heap_alloc_new (wr.alloc (.map #[] 0)) (.cells #[.map (some wr.heap.size)] 95)
   rw[World.size_alloc]at hnew;have HN:=aA hnew
   have hrow:=(hW.row.alloc (.map #[] 0)).alloc (.cells #[.map (some wr.heap.size)] 95);have hnews:∀jj u,[Value.map (some wr.heap.size)][jj]? =some u→((wr.alloc (.map #[] 0)).alloc (.cells #[.map (some wr.heap.size)] 95)).cell? ((⟨wr.heap.size+1,0,none⟩:Addr).add jj)=some u:=World.news_of_block HN.out
   have hone:∀u∈[Value.map (some wr.heap.size)],u.oneCell'=true:=fun u hu=>by
    have:u= .map (some wr.heap.size):=by simpa using hu
    subst this;rfl
   have hbase:w3.heap.size+3≤((wr.alloc (.map #[] 0)).alloc (.cells #[.map (some wr.heap.size)] 95)).heap.size:=by simp;omega
   have hmax:j+1≤maxLen:=by unfold maxLen;omega
   have hlen:=PB bk j;clear hW hnew;go_wp2_with (at_builtin;refine wpList_append_lies _ rfl (.tmp 52) (.tmp 54) 173 rfl (w3.heap.size+3) 95 i0 _ 1 8 Tryz.underlying173 hi0 hz0 hz1 hz2 rfl (by omega) _ j (vQ bk j) rfl hrow ⟨wr.heap.size+1,0,none⟩ 1 1 [.map (some wr.heap.size)] rfl rfl hnews hone (by omega) hmax (by omega) hbase _ rfl ?_;intro g0 cap0 w6 hown1 hgrow hat hlt1;have HR:=aA (HW.out.round hgrow hown1 (hat.imp id (fun e=>e.trans (by simp))));obtain⟨k5,kz5⟩:=HW.out.cell4 hgrow;clear hown1 hgrow hat hlt1 hrow);go_roundw;case rel=>exact⟨j+1,_,_,by omega,by go_num,HR.out⟩
   case measure=>simp[intOf];omega
  ·have hjn:¬(j:Int)<(n:Int):=by omega
   have hje:j=n:=by omega
   subst hje;obtain⟨X,e0,e1,e2,e3,e4,e5,e6,hD⟩:=HW.out.done;have HD:=aA hD
   clear hW hD;go_wp2;refine cV (results_tmp2 rfl _ _ _) rfl ?_;exact⟨X,by rw[e0];rfl,e1,e2,e3,e4,e5,e6,HD.out,HW.out.bel⟩
end Go.Proofs.YtelkehjdfcoeiaaGreat
namespace Go.Proofs.YtelkehjdfcoeiaaGreat
open Go.RowKit Go.Deep Go.Joins
set_option linter.unusedVariables false
theorem SF (w:World) (a:Option Addr) (n cap:Nat) (ad:Nat→Option Addr) (ln cp:Nat→Nat) (f:Nat→Nat→T) (h:eH w a n cap ad ln cp f):Calls Tryz.prog 9 #[.slice a n cap] w fun r w'=>∃B:Nat→Nat,r= .returned (.slice (some ⟨w.heap.size,0,none⟩) n n)∧Below w.heap.size w w'∧w'.rowIs w.heap.size 41 n (jF B ln n)∧(∀i,i<n→w.heap.size<B i∧Own w' (B i) (ln i) (f i))∧∀i j,i<j→j<n→B i<B j:=by
 have hn:(n:Int)≤140737488351232:=by have:=h.2.1;omega
 have h2:=h.2.1;have HH:=aA h
 clear h;go_enter Tryz.func9,Tryz.ntmps9;go_wp2_with (at_make;refine vO _ rfl _ _ rfl n rfl rfl (by omega) ?_;intro hrow);go_loopw [4] (fun i wr=>∃(k:Nat) (B:Nat→Nat),k≤n∧i= .int .i64 k∧Below w.heap.size w wr∧wr.rowIs w.heap.size 41 n (jF B ln k)∧(∀i,i<k→w.heap.size<B i∧Own wr (B i) (ln i) (f i))∧∀i j,i<j→j<k→B i<B j) (fun i _=>n-(intOf i).toNat);case atStart=>exact⟨0,fun _=>0,Nat.zero_le _,rfl,(bQ _ _).alloc (Nat.le_refl _) _,hrow.congr fun j _=>by simp[jF],fun i hi=>by omega,fun i j _ hj=>by omega⟩
 case round=>
  obtain⟨k,B,hk,rfl,hB,hR,hO,hD⟩:=hrel;have HD:=aA hD
  clear hD;by_cases hlt:k<n
  ·rcases HH.out.2.2.1 with h0|⟨b,off,rfl,hblt,hcl⟩
   ·omega
   have hkn:(k:Int)<(n:Int):=by omega
   have g0:wr.cell? ⟨b,off+k,none⟩=some (.slice (ad k) (ln k) (cp k)):=(hB.cell (p:=⟨b,off+k,none⟩) hblt).trans (hcl k hlt);have HR:=aA hR
   have HO:=aA hO;have HB:=aA hB
   have HK:=aA ((HH.out.2.2.2 k hlt).below hB);clear hR hcl hO;go_wp2_with fail;refine(JU _ _ _ _ (f k) HK.out).mono ?_;rintro r w1 ⟨rfl,hb,ho⟩;have hR1:=HR.out.of_block (hb.block w.heap.size (HR.out.lt))
   have hB1:=HB.out.trans (hb.mono HB.out.size);have hsz:w.heap.size<wr.heap.size:=HR.out.lt
   have q0:=hR1.cell (i:=k) hlt;have fz:=fun i=>hR1.frozen i
   obtain⟨V,hV⟩:∃V,wr.heap.size=V:=⟨_,rfl⟩
   rw[hV]at ho⊢;have HN:=aA (vW (v:=V) hR1)
   have HO2:Hid (∀i,i<k+1→w.heap.size<(if i=k then V else B i)∧Own w1 (if i=k then V else B i) (ln i) (f i)):=fun i hi=>by
    by_cases e:i=k
    ·rw[if_pos e,e];exact⟨by omega,ho⟩
    ·rw[if_neg e];have:=HO.out i (by omega)
     exact⟨this.1,this.2.below hb this.2.lt⟩
   have HD2:Hid (∀i j,i<j→j<k+1→(if i=k then V else B i)<(if j=k then V else B j)):=fun i j hij hj=>by
    rw[if_neg (show ¬i=k by omega)];by_cases e:j=k
    ·rw[if_pos e,←hV];exact(HO.out i (by omega)).2.lt
    ·rw[if_neg e];exact HD.out i j hij (by omega)
   have HB1:=aA hB1;clear hR1 HR hb ho HO hB1 hB;go_wp2;go_roundw
   case rel=>
    refine⟨k+1,_,by omega,by go_num,HB1.out.setCell (Nat.le_refl _) _,HN.out,fun i hi=>?_,HD2.out⟩;have:=HO2.out i hi
    refine⟨this.1,this.2.of_block ?_⟩;exact Below.heap_setCell _ _ _ _ (Nat.ne_of_gt this.1)
   case measure=>simp[intOf];omega
  ·have hkn:k=n:=by omega
   subst hkn;have HR:=aA hR
   have HO:=aA hO;clear hR hO;go_wp2;go_ret;exact⟨B,rfl,hB,HR.out,HO.out,HD.out⟩
structure nI (lo hi:Nat) (w w':World):Prop where
 os:w'.os=w.os
 tape:w'.tape=w.tape
 output:w'.output=w.output
 size:w'.heap.size=w.heap.size
 block:∀k,k<w.heap.size→k<lo∨hi≤k→w'.heap[k]? =w.heap[k]?
theorem nI.refl (lo hi:Nat) (w:World):nI lo hi w w:=⟨rfl,rfl,rfl,rfl,fun _ _ _=>rfl⟩
theorem nI.grown {lo hi:Nat} {w w' w'':World} {g:Nat} (h:nI lo hi w w') (hg:w'.grownBy w'' (some g)) (hs:w''.heap.size=w'.heap.size) (h1:lo≤g) (h2:g<hi):nI lo hi w w'':=
 ⟨hg.os.trans h.os,hg.tape.trans h.tape,hg.output.trans h.output,hs.trans h.size,fun k hk hc=>(hg.block k (by rw[h.size];exact hk) (fun e=>by cases e;omega)).trans (h.block k hk hc)⟩
theorem LP (w:World) (g n hi:Nat) (B ln:Nat→Nat) (f:Nat→Nat→T) (k:Int) (hR:w.rowIs g 41 n (jF B ln n)) (hO:∀i,i<n→g<B i∧B i<hi∧Own w (B i) (ln i) (f i)) (hD:∀i j,i<j→j<n→B i<B j) (hn:n≤1048576) (hl:∀i,i<n→ln i≤1048576) (hk0:0≤k) (hk1:k≤10000000000000):Calls Tryz.prog 13 #[.slice (some ⟨g,0,none⟩) n n,.int .i64 k] w fun r w'=>∃z:Int,r= .returned (.int .i64 z)∧0≤z∧z≤k+5242880*n∧nI (g+1) hi w w':=by
 have hn':(n:Int)≤1048576:=by omega
 have HR:=aA hR;have HO:=aA hO
 have HD:=aA hD;have HL:=aA hl
 clear hR hO hD hl;go_enter Tryz.func13,Tryz.ntmps13;go_wp2;go_loopw [1,5] (fun kk ii wr=>∃(i:Nat) (z:Int),i≤n∧ii= .int .i64 (i:Int)∧kk= .int .i64 z∧0≤z∧z≤k+5242880*i∧nI (g+1) hi w wr∧∀j,i≤j→j<n→Own wr (B j) (ln j) (f j)) (fun _ ii _=>n-(intOf ii).toNat);case atStart=>exact⟨0,k,Nat.zero_le _,rfl,rfl,hk0,by omega,nI.refl _ _ _,fun j _ hj=>(HO.out j hj).2.2⟩
 case round=>
  obtain⟨i,z,hi,rfl,rfl,z0,z1,hA,hW⟩:=hrel;have HA:=aA hA
  have HW:=aA hW;clear hW;by_cases hlt:i<n
  ·have hil:(i:Int)<(n:Int):=by omega
   have hgl:g<w.heap.size:=HR.out.lt;have hrow:=HR.out.of_block (hA.block g hgl (.inl (Nat.lt_succ_self _)))
   have g0:=hrow.cell (i:=i) hlt;have e0:jF B ln n i= .slice (some ⟨B i,0,none⟩) (ln i) (ln i):=by simp[jF,hlt]
   rw[e0]at g0;have hli:=HL.out i hlt
   have hw:=HW.out i (Nat.le_refl _) hlt;have HM:=aA (yK wr (some ⟨B i,0,none⟩) (ln i) (ln i) (f i) z hw.wr (by omega) z0 (by omega))
   clear hrow hA hw e0;go_wp2_with fail;refine HM.out.mono ?_;rintro r w1 ⟨rfl,hg,hz,_,_⟩;have HA1:=aA (HA.out.grown (show wr.grownBy w1 (some (B i))from hg) hz (HO.out i hlt).1 (HO.out i hlt).2.1)
   have HW1:Hid (∀j,i+1≤j→j<n→Own w1 (B j) (ln j) (f j)):=fun j h1 h2=>(HW.out j (by omega) h2).of_block (hg.block (B j) (HW.out j (by omega) h2).lt (fun e=>by
    have:=HD.out i j (by omega) h2;have e':B j=B i:=by simpa using e
    omega))
   clear hg hz HM g0;go_wp2;go_roundw;case rel=>exact⟨i+1,z+5*(ln i),by omega,by go_num,rfl,by omega,by omega,HA1.out,HW1.out⟩
   case measure=>simp[intOf];omega
  ·have hnl:¬(i:Int)<(n:Int):=by omega
   have hie:i=n:=by omega
   subst hie;go_wp2;go_ret;exact⟨z,rfl,z0,z1,HA.out⟩
end Go.Proofs.YtelkehjdfcoeiaaGreat
