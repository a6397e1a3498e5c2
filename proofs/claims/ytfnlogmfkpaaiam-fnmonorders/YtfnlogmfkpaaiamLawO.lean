/-
  The orders as ranks: one number a monomial, which adds up under products.
-/
import Derived.Test.YtfnlogmfkpaaiamLawM
import Derived.Test.YtfnlogmfkpaaiamDrawCmp
namespace Go.Proofs.Ytfnlogmfkpaaiam
open Go.RowKit
set_option linter.unusedVariables false

def rk (o : Int) (m : M) : Int := if o = 1 then rkD m else if o = 3 then rkO m else rkL m
theorem cmp_rk {o : Int} {a b : M} (ho : 1 ≤ o ∧ o ≤ 3) (ha : a.ok = true) (hb : b.ok = true) : M.cmp o a b = c3 (rk o a) (rk o b) := by
  rw [M.cmp, if_pos ⟨ho, ha, hb⟩]
  obtain ⟨h1, h2⟩ := ho
  have h : o = 1 ∨ o = 2 ∨ o = 3 := by omega
  rcases h with rfl | rfl | rfl
  · simp only [rk, if_pos, ← rk_deg ha hb]
  · rw [← rk_two ha hb]; simp [rk]
  · rw [← rk_out ha hb]; simp [rk]
theorem cmp_out {o : Int} {a b : M} (h : ¬ ((1 ≤ o ∧ o ≤ 3) ∧ a.ok = true ∧ b.ok = true)) : M.cmp o a b = 0 := by rw [M.cmp, if_neg h]
theorem c3_bd (a b : Int) : -1 ≤ c3 a b ∧ c3 a b ≤ 1 := by unfold c3; split <;> (try split) <;> omega
theorem c3_neg (a b : Int) : c3 b a = - c3 a b := by unfold c3; split <;> split <;> (try split) <;> omega
theorem c3_up {a b : Int} : 0 < c3 a b ↔ b < a := by unfold c3; split <;> (try split) <;> omega
theorem c3_nul {a b : Int} : c3 a b = 0 ↔ a = b := by unfold c3; split <;> (try split) <;> omega
theorem c3_nn {a b : Int} : 0 ≤ c3 a b ↔ b ≤ a := by unfold c3; split <;> (try split) <;> omega
theorem c3_add (a b c : Int) : c3 (a + c) (b + c) = c3 a b := by unfold c3; simp only [Int.add_lt_add_iff_right]
theorem cmp_bd (o : Int) (a b : M) : -1 ≤ M.cmp o a b ∧ M.cmp o a b ≤ 1 := by
  by_cases h : (1 ≤ o ∧ o ≤ 3) ∧ a.ok = true ∧ b.ok = true
  · rw [cmp_rk h.1 h.2.1 h.2.2]; exact c3_bd _ _
  · rw [cmp_out h]; omega
theorem cmp_neg (o : Int) (a b : M) : M.cmp o b a = - M.cmp o a b := by
  by_cases h : (1 ≤ o ∧ o ≤ 3) ∧ a.ok = true ∧ b.ok = true
  · rw [cmp_rk h.1 h.2.1 h.2.2, cmp_rk h.1 h.2.2 h.2.1]; exact c3_neg _ _
  · rw [cmp_out h, cmp_out (fun k => h ⟨k.1, k.2.2, k.2.1⟩)]; rfl
theorem rk_nn (o : Int) {m : M} (h : m.ok = true) : 0 ≤ rk o m := by
  have := M.ok_iff.1 h
  unfold rk rkD rkO rkL
  split
  · omega
  · split <;> omega
theorem rk_sum (o : Int) (a b : M) : rk o (M.sum a b) = rk o a + rk o b := by
  unfold rk rkD rkO rkL M.sum
  split
  · dsimp only; omega
  · split <;> dsimp only <;> omega
theorem dig16 {p q y z : Int} (hy : 0 ≤ y ∧ y ≤ 15) (hz : 0 ≤ z ∧ z ≤ 15) (h : p * 16 + y = q * 16 + z) : p = q ∧ y = z := by omega
theorem dig64 {p q y z : Int} (hy : 0 ≤ y ∧ y ≤ 65535) (hz : 0 ≤ z ∧ z ≤ 65535) (h : p * 65536 + y = q * 65536 + z) : y = z := by omega
theorem rkL_bd {m : M} (h : m.ok = true) : 0 ≤ rkL m ∧ rkL m ≤ 65535 := by
  have := M.ok_iff.1 h
  unfold rkL; omega
theorem rkL_inj {a b : M} (ha : a.ok = true) (hb : b.ok = true) (h : rkL a = rkL b) : a.x = b.x ∧ a.y = b.y ∧ a.d = b.d ∧ a.e = b.e := by
  have ka := M.ok_iff.1 ha
  have kb := M.ok_iff.1 hb
  unfold rkL at h
  obtain ⟨h, h1⟩ := dig16 ⟨ka.2.2.1, ka.2.2.2.1⟩ ⟨kb.2.2.1, kb.2.2.2.1⟩ h
  obtain ⟨h, h2⟩ := dig16 ⟨ka.1, ka.2.1⟩ ⟨kb.1, kb.2.1⟩ h
  obtain ⟨h, h3⟩ := dig16 ⟨ka.2.2.2.2.2.2.1, ka.2.2.2.2.2.2.2⟩ ⟨kb.2.2.2.2.2.2.1, kb.2.2.2.2.2.2.2⟩ h
  exact ⟨h2, h1, h, h3⟩
theorem rk_inj (o : Int) {a b : M} (ha : a.ok = true) (hb : b.ok = true) (h : rk o a = rk o b) : a.x = b.x ∧ a.y = b.y ∧ a.d = b.d ∧ a.e = b.e := by
  unfold rk at h
  split at h
  · exact rkL_inj ha hb (dig64 (rkL_bd ha) (rkL_bd hb) h)
  · split at h
    · exact rkL_inj ha hb (dig64 (rkL_bd ha) (rkL_bd hb) h)
    · exact rkL_inj ha hb h
theorem cmp_zero {o : Int} {a b : M} (ho : 1 ≤ o ∧ o ≤ 3) (ha : a.ok = true) (hb : b.ok = true) : M.cmp o a b = 0 ↔ (a.x = b.x ∧ a.y = b.y ∧ a.d = b.d ∧ a.e = b.e) := by
  rw [cmp_rk ho ha hb, c3_nul]
  constructor
  · exact rk_inj o ha hb
  · rintro ⟨h1, h2, h3, h4⟩
    cases a; cases b
    simp only at h1 h2 h3 h4
    subst h1 h2 h3 h4
    rfl
theorem cmp_trans {o : Int} {a b c : M} (h1 : 0 < M.cmp o a b) (h2 : 0 < M.cmp o b c) : 0 < M.cmp o a c := by
  by_cases k1 : (1 ≤ o ∧ o ≤ 3) ∧ a.ok = true ∧ b.ok = true
  · by_cases k2 : (1 ≤ o ∧ o ≤ 3) ∧ b.ok = true ∧ c.ok = true
    · rw [cmp_rk k1.1 k1.2.1 k1.2.2, c3_up] at h1
      rw [cmp_rk k1.1 k1.2.2 k2.2.2, c3_up] at h2
      rw [cmp_rk k1.1 k1.2.1 k2.2.2, c3_up]
      omega
    · rw [cmp_out k2] at h2; omega
  · rw [cmp_out k1] at h1; omega
theorem cmp_least {o : Int} {a : M} (ho : 1 ≤ o ∧ o ≤ 3) (ha : a.ok = true) : 0 ≤ M.cmp o a ⟨0, 0, 0, 0⟩ := by
  rw [cmp_rk ho ha (by decide), c3_nn]
  have : rk o ⟨0, 0, 0, 0⟩ = 0 := by simp [rk, rkD, rkO, rkL]
  rw [this]; exact rk_nn o ha
theorem cmp_one {o : Int} (ho : 1 ≤ o ∧ o ≤ 3) : M.cmp o ⟨1, 0, 0, 0⟩ ⟨0, 0, 0, 0⟩ = 1 := by
  have h : o = 1 ∨ o = 2 ∨ o = 3 := by omega
  rcases h with rfl | rfl | rfl <;> decide
theorem cmp_keeps {o : Int} {a b c : M} (ho : 1 ≤ o ∧ o ≤ 3) (ha : a.ok = true) (hb : b.ok = true) (h1 : (M.sum a c).ok = true) (h2 : (M.sum b c).ok = true) : M.cmp o (M.sum a c) (M.sum b c) = M.cmp o a b := by
  rw [cmp_rk ho h1 h2, cmp_rk ho ha hb, rk_sum, rk_sum, c3_add]
theorem cmp_more {o : Int} {a c : M} (ho : 1 ≤ o ∧ o ≤ 3) (ha : a.ok = true) (hc : c.ok = true) (h1 : (M.sum a c).ok = true) : 0 ≤ M.cmp o (M.sum a c) a := by
  rw [cmp_rk ho h1 ha, c3_nn, rk_sum]
  have := rk_nn o hc
  omega
theorem cmp_first1 {a b : M} (ha : a.ok = true) (hb : b.ok = true) (h : b.deg < a.deg) : M.cmp 1 a b = 1 := by
  rw [M.cmp, if_pos ⟨by omega, ha, hb⟩, M.ord, if_pos ⟨rfl, by omega⟩, c3, if_neg (by omega), if_pos h]
theorem cmp_first2 {a b : M} (ha : a.ok = true) (hb : b.ok = true) (h : b.d < a.d) : M.cmp 2 a b = 1 := by
  rw [M.cmp, if_pos ⟨by omega, ha, hb⟩, M.ord, if_neg (by omega), if_neg (by omega), M.lex, if_pos (by omega), c3, if_neg (by omega), if_pos h]
theorem cmp_first3 {a b : M} (ha : a.ok = true) (hb : b.ok = true) (h : b.d + b.x < a.d + a.x) : M.cmp 3 a b = 1 := by
  rw [M.cmp, if_pos ⟨by omega, ha, hb⟩, M.ord, if_neg (by omega), if_pos ⟨rfl, by omega⟩, c3, if_neg (by omega), if_pos h]
end Go.Proofs.Ytfnlogmfkpaaiam
