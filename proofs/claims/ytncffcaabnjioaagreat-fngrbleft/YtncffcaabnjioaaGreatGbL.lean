/-
  What is true of a list of whose pairs nothing is left: what is made of it, what is left by it.
-/
import Derived.Test.YtncffcaabnjioaaGreatGbt
import Derived.Test.YtncffcaabnjioaaGreatGbp
import Derived.Test.YtncffcaabnjioaaGreatGbm
namespace Go.Proofs.YtncffcaabnjioaaGreat
open Go.RowKit Go.Deep Go.Joins
set_option linter.unusedVariables false

theorem prK_two {o : Int} {n : Nat} {L : Nat → List T} {i k : Nat} (h : prK o n L i k = 2) : ∃ s S, sprPoly o (lf (L i)) (L i).length (lf (L k)) (L k).length = (s, true) ∧ redAll o s n (lN L) (fN L) = some S ∧ S.r = [] := by
  unfold prK at h
  split at h
  · rename_i s hs
    split at h
    · rename_i S hS
      split at h
      · rename_i h0
        exact ⟨s, S, hs, hS, List.length_eq_zero_iff.1 h0⟩
      · omega
    · omega
  · omega
theorem bas_ok {o : Int} {n : Nat} {L : Nat → List T} (h : grbOk o n L = true) : Bas o n L ∧ (1 ≤ o ∧ o ≤ 3) ∧ lstOk n (lN L) (fN L) = true := by
  obtain ⟨ho, hl, hp⟩ := of_decide_eq_true h
  have hL := lds_of ho hl
  refine ⟨bas_of hL fun i k hi hk => ?_, ho, hl⟩
  obtain ⟨s, S, h1, h2, h3⟩ := prK_two (hp k hk i hi)
  exact pair_done hL (by omega) hk h1 h2 h3
theorem wm_parts {A B P : List T} (h : wmV A B = (P, true)) : okL A = true ∧ okL B = true := by
  unfold wmV wylMul at h
  split at h
  · assumption
  · cases h
theorem add_parts {A B P : List T} (h : addV A B = (P, true)) : okL A = true ∧ okL B = true ∧ P = addL A B := by
  rcases addV_case A B with e | ⟨h1, h2, _, e⟩
  · rw [e] at h; cases h
  · rw [e] at h; cases h; exact ⟨h1, h2, rfl⟩
theorem sub_parts {A B P : List T} (h : subV A B = (P, true)) : okL A = true ∧ okL B = true ∧ P = subL A B := by
  rcases subV_case A B with e | ⟨h1, h2, _, e⟩
  · rw [e] at h; cases h
  · rw [e] at h; cases h; exact ⟨h1, h2, rfl⟩
theorem prod_idl {n : Nat} {L : Nat → List T} {q P : List T} {B : List T} (hB : Idl n L (Rp regG B)) (h : wmV q B = (P, true)) : Idl n L (Rp regG P) := by
  rw [Rp_mul regG h]
  exact hB.mulRp q (falls_nn (okL_falls (wm_parts h).1).2)
theorem gin_nil {S : Dv} (h : S.r = []) : gin (some S) = true := by
  show (true && decide (S.r.length = 0)) = true
  rw [h]; rfl
theorem gin_not {S : Dv} (h : S.r ≠ []) : gin (some S) = false := by
  show (true && decide (S.r.length = 0)) = false
  rw [decide_eq_false (fun e => h (List.length_eq_zero_iff.1 e))]; rfl
theorem gin_is {S : Dv} (h : gin (some S) = true) : S.r = [] := by
  by_cases e : S.r = []
  · exact e
  · rw [gin_not e] at h; cases h
/-- of products with operators of a basis, and of their sum, nothing is left. -/
theorem law_in {o : Int} {n : Nat} {L : Nat → List T} (hB : Bas o n L) {k m : Nat} (hk : k < n) (hm : m < n) {q p X Y S : List T} (h1 : wmV q (L k) = (X, true)) (h2 : wmV p (L m) = (Y, true)) (h3 : addV X Y = (S, true)) {D : Dv} (hD : redAll o S n (lN L) (fN L) = some D) : gin (some D) = true := by
  refine gin_nil (hB.left hD ?_)
  obtain ⟨oX, oY, rfl⟩ := add_parts h3
  rw [Rp_add regG (okL_falls oX).2 (okL_falls oY).2]
  exact (prod_idl (Idl.gen hk) h1).sum (prod_idl (Idl.gen hm) h2)
theorem law_left {o : Int} {n : Nat} {L : Nat → List T} (hB : Bas o n L) {q p X : List T} {S D : Dv} (hS : redAll o p n (lN L) (fN L) = some S) (h0 : S.r = []) (h1 : wmV q p = (X, true)) (hD : redAll o X n (lN L) (fN L) = some D) : gin (some D) = true := gin_nil (hB.left hD (prod_idl (left_made hS h0) h1))
theorem law_tell {o : Int} {n : Nat} {L : Nat → List T} (hB : Bas o n L) {p q d : List T} {S S' D : Dv} (hS : redAll o p n (lN L) (fN L) = some S) (hS' : redAll o q n (lN L) (fN L) = some S') (hd : subV p q = (d, true)) (hD : redAll o d n (lN L) (fN L) = some D) : gin (some D) = sq S.r S'.r := by
  obtain ⟨_, _, rfl⟩ := sub_parts hd
  by_cases e : S.r = S'.r
  · rw [e, sq_same]
    exact gin_nil (hB.left hD (Bas.tell' hS hS' e))
  · rw [show sq S.r S'.r = false by cases h : sq S.r S'.r; rfl; exact absurd (sq_iff.1 h) e]
    exact gin_not fun h0 => e (hB.tell hS hS' (left_made hD h0))
end Go.Proofs.YtncffcaabnjioaaGreat
