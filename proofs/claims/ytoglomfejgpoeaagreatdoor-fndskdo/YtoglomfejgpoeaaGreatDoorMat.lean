/-
  The laws' own look whether operators are the same.
-/
import Derived.Test.YtoglomfejgpoeaaGreatDoorMan
namespace Go.Proofs.YtoglomfejgpoeaaGreatDoor
open Go.RowKit
set_option linter.unusedVariables false
theorem aH.set {B b o:Nat} {a w:World} {v:Value} (h:aH B a w) (hb:a.heap.size≤b):aH B a (w.setCell ⟨b,o,none⟩ v):=
 ⟨h.os,h.tape,h.output,by simpa[World.setCell]using h.size,fun k hk hn=>(Below.heap_setCell _ _ _ _ (by show k≠b;omega)).trans (h.block k hk hn)⟩
theorem aH.drew {B:Nat} {a w:World} (h:aH B a w):aH B a w.drew:=h.drewN 1
def A5 (v:Value):Prop:=∃c x y d e,v= .agg #[.int .i64 c,.int .i64 x,.int .i64 y,.int .i64 d,.int .i64 e]
theorem aH.grown {B:Nat} {a w w':World} {row:Option Nat} (h:aH B a w) (hg:w.grownBy w' row) (hr:∀k,row=some k→a.heap.size≤k):aH B a w':=
 ⟨hg.os.trans h.os,hg.tape.trans h.tape,hg.output.trans h.output,gU h.size hg.size,fun k hk hn=>(hg.block k (dR hk h.size) (fun e=>by have:=hr k e.symm;omega)).trans (h.block k hk hn)⟩
theorem yV (b o j:Nat):(⟨b,o,none⟩:Addr).add j=⟨b,o+j,none⟩:=by unfold Addr.add;split<;>simp_all
theorem pM (L:List T):∀u∈aF L,u.oneCell'=true:=by
 induction L with
 |nil=>intro u hu;simp[aF]at hu
 |cons t L ih=>
  intro u hu;rw[show t::L=[t]++L from rfl,bV]at hu;rcases List.mem_append.1 hu with h|h
  ·exact dF t u h
  ·exact ih u h
theorem Rd.news {w:World} {b off cap:Nat} {L:List T} (h:Rd w (some ⟨b,off,none⟩) L.length cap (lf L)):∀j u,(aF L)[j]? =some u→w.cell? ((⟨b,off,none⟩:Addr).add j)=some u:=by
 intro j u hu;have hj:j<L.length*5:=by rw[←aZ];exact(List.getElem?_eq_some_iff.1 hu).1
 rw[pT L j hj]at hu;cases hu;rw[yV];rcases h.2.2 with h0|⟨b',off',he,_,hc⟩
 ·omega
 ·cases he;obtain⟨c0,c1,c2,c3,c4⟩:=hc (j / 5) (by omega);have h5:j%5=0∨j%5=1∨j%5=2∨j%5=3∨j%5=4:=by omega
  rcases h5 with h|h|h|h|h
  ·rw[show j=j / 5*5 by omega,EU];exact c0
  ·rw[show j=j / 5*5+1 by omega,CK,←Nat.add_assoc];exact c1
  ·rw[show j=j / 5*5+2 by omega,CL,←Nat.add_assoc];exact c2
  ·rw[show j=j / 5*5+3 by omega,FQ,←Nat.add_assoc];exact c3
  ·rw[show j=j / 5*5+4 by omega,FR,←Nat.add_assoc];exact c4
end Go.Proofs.YtoglomfejgpoeaaGreatDoor
