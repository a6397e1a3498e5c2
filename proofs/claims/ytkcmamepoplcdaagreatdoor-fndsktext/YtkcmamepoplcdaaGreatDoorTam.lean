/-
  The draw of an operator, one in so many with something wrong, also where much has been drawn before.
-/
import Derived.Test.YtkcmamepoplcdaaGreatDoorTal
import Derived.Test.YtkcmamepoplcdaaGreatDoorTae
import Derived.Test.YtkcmamepoplcdaaGreatDoorTag
set_option maxHeartbeats 8000000
set_option maxRecDepth 100000
namespace Go.Proofs.YtkcmamepoplcdaaGreatDoor
open Go.RowKit
set_option linter.unusedVariables false
theorem dU (w:World) (B p:Nat) (n:Int) (h:dL w B p) (hn:1≤n) (hn':n≤1000) (hp:p≤5000):
 Calls Tryz.prog 59 #[.pointer (some ⟨B,0,none⟩),.int .i64 n] w fun r w'=>∃(a:Option Addr) (m cap:Nat) (f:Nat→T) (q:Nat),r= .returned (.slice a m cap)∧Rd w' a m cap f∧m≤5∧(m=0∨∃g off,a=some ⟨g,off,none⟩∧w.heap.size≤g)∧q≤p+700∧dL w' B q∧aH B w w':=uC w B p n h hn hn' hp
theorem Rd.setOther {w:World} {a:Option Addr} {n cap g o:Nat} {f:Nat→T} {v:Value} (h:Rd w a n cap f) (hne:n=0∨∀b off,a=some ⟨b,off,none⟩→b≠g):Rd (w.setCell ⟨g,o,none⟩ v) a n cap f:=
 h.grown (row:=some g) ⟨rfl,rfl,rfl,by simp[World.setCell],fun k _ hk=>Below.heap_setCell _ _ _ _ (fun e=>hk (by rw[e]))⟩ (hne.imp id (fun k b off he hb=>k b off he (by cases hb;rfl)))
theorem Rd.beside {w w':World} {a:Option Addr} {n cap B:Nat} {f:Nat→T} (h:Rd w a n cap f) (hb:aH B w w') (hne:n=0∨∀b off,a=some ⟨b,off,none⟩→b≠B):Rd w' a n cap f:=
 h.grown (gI hb) (hne.imp id (fun k b off he hb=>k b off he (by cases hb;rfl)))
open Go.RowKit Go.Deep Go.Joins Go.WideShapes Go.ChangeShapes
set_option linter.unusedSimpArgs false
theorem rO {W:World} {b:Nat} {c0 c1 c2 c3 c4:Value} {t:TypeId} (h:W.heap[b]? =some (.cells #[c0,c1,c2,c3,c4] t (0,0))):(W.cell? ⟨b,0,none⟩=some c0∧W.cell? ⟨b,1,none⟩=some c1∧W.cell? ⟨b,2,none⟩=some c2∧W.cell? ⟨b,3,none⟩=some c3∧W.cell? ⟨b,4,none⟩=some c4)∧∀j,W.frozen? ⟨b,j,none⟩=false:=
 ⟨⟨cell_of_row W b 0 _ _ _ h,cell_of_row W b 1 _ _ _ h,cell_of_row W b 2 _ _ _ h,cell_of_row W b 3 _ _ _ h,cell_of_row W b 4 _ _ _ h⟩,fun j=>by simp[World.frozen?,h]⟩
end Go.Proofs.YtkcmamepoplcdaaGreatDoor
