/-
  Two lists of operators are drawn (spec.DrawRedSum).
  A sum of products of two lists: the mathematics, and the model's RedSum.
  A sum of products of two lists: the program.
-/
import Derived.Test.YtncffcaabnjioaaGreatMaz
namespace Go.Proofs.YtncffcaabnjioaaGreat
open Go.RowKit Go.Deep Go.Joins
set_option linter.unusedVariables false
theorem Wr.set {w:World} {a:Option Addr} {n:Nat} {f:Nat→T} {lo B o:Nat} {v:Value} (h:Wr w a n f) (hf:n=0∨∃g off,a=some ⟨g,off,none⟩∧lo≤g) (hB:B<lo):Wr (w.setCell ⟨B,o,none⟩ v) a n f:=by
 rcases h with h0|⟨g,off,N,F,rfl,hR,hN,hF⟩
 ·exact .inl h0
 ·rcases hf with h0|⟨g',off',he,hlo⟩
  ·exact .inl h0
  ·cases he;have hne:g≠B:=by omega
   exact .inr ⟨g,off,N,F,rfl,hR.of_block (Below.heap_setCell _ _ _ _ hne),hN,hF⟩
theorem DX {w:World} {a:Option Addr} {n cap g o:Nat} {f:Nat→T} {v:Value} (h:Rd w a n cap f) (hne:n=0∨∀b off,a=some ⟨b,off,none⟩→b≠g):Rd (w.setCell ⟨g,o,none⟩ v) a n cap f:=
 h.grown (row:=some g) ⟨rfl,rfl,rfl,by simp[World.setCell],fun k _ hk=>Below.heap_setCell _ _ _ _ (fun e=>hk (by rw[e]))⟩ (hne.imp id (fun k b off he hb=>k b off he (by cases hb;rfl)))
theorem lI.set {lo:Nat} {w:World} {a:Option Addr} {cap:Nat} {L:List T} {B o:Nat} {v:Value} (h:lI lo w a cap L) (hB:B<lo):lI lo (w.setCell ⟨B,o,none⟩ v) a cap L:=
 ⟨DX h.1 (h.2.2.imp id (fun⟨g,off,he,hlo⟩ b off' hb=>by rw[he]at hb;cases hb;omega)),h.2.1.set h.2.2 hB,h.2.2⟩
theorem lI.nil (lo:Nat) (w:World):lI lo w none 0 []:=⟨⟨Nat.le_refl _,by simp,.inl rfl⟩,.inl rfl,.inl rfl⟩
theorem lI.low {lo lo':Nat} {w:World} {a:Option Addr} {cap:Nat} {L:List T} (h:lI lo w a cap L) (hl:lo'≤lo):lI lo' w a cap L:=⟨h.1,h.2.1,h.2.2.imp id (fun⟨g,off,he,hlo⟩=>⟨g,off,he,jW hl hlo⟩)⟩
end Go.Proofs.YtncffcaabnjioaaGreat
