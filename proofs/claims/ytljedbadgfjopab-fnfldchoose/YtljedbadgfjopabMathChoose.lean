/-
  Choices by 101: they are those of Pascal's triangle.
-/
import Derived.Test.YtljedbadgfjopabMath
namespace Go.Proofs.Ytljedbadgfjopab

/-- in how many ways k of n can be chosen. -/
def ch : Nat → Nat → Int
  | _, 0 => 1
  | 0, _ + 1 => 0
  | n + 1, k + 1 => ch n k + ch n (k + 1)
theorem ch_gt (n : Nat) : ∀ k, n < k → ch n k = 0 := by
  induction n with
  | zero => intro k h; cases k with
    | zero => omega
    | succ k => rfl
  | succ n ih => intro k h; cases k with
    | zero => omega
    | succ k => simp only [ch]; rw [ih k (by omega), ih (k + 1) (by omega)]; rfl
theorem ch_self (n : Nat) : ch n n = 1 := by
  induction n with
  | zero => rfl
  | succ n ih => simp only [ch]; rw [ih, ch_gt n (n + 1) (by omega)]; rfl
theorem ch_symm (n : Nat) : ∀ k, k ≤ n → ch n (n - k) = ch n k := by
  induction n with
  | zero => intro k h; rw [show k = 0 by omega]
  | succ n ih =>
    intro k h
    by_cases h0 : k = 0
    · subst h0; rw [Nat.sub_zero, ch_self]; rfl
    · by_cases h1 : k = n + 1
      · subst h1; rw [Nat.sub_self, ch_self]; rfl
      · obtain ⟨j, rfl⟩ : ∃ j, k = j + 1 := ⟨k - 1, by omega⟩
        rw [show n + 1 - (j + 1) = (n - (j + 1)) + 1 by omega]
        simp only [ch]
        rw [show n - (j + 1) + 1 = n - j by omega, ih (j + 1) (by omega), ih j (by omega), Int.add_comm]
/-- one falling product more. -/
theorem fl_up (n : Nat) (k : Nat) : fl ((n + 1 : Nat) : Int) (k + 1) = (fl (n : Int) (k + 1) + ((k : Int) + 1) * fl (n : Int) k) % 101 := by
  rw [fl_down, show (((n + 1 : Nat) : Int) - 1) = (n : Int) by omega, mod_mul]
  have e : fl (n : Int) (k + 1) = fl (n : Int) k * (((n : Int) - (k : Int)) % 101) % 101 := rfl
  rw [e, mul_mod]
  generalize fl (n : Int) k = v
  rw [show ((n + 1 : Nat) : Int) * v = v * ((n : Int) - (k : Int)) + ((k : Int) + 1) * v by
    rw [Int.mul_comm v, ← Int.add_mul]; congr 1; omega]
  omega
/-- choices, times the orders of the chosen, are the falling products. -/
theorem ch_fl (n : Nat) : ∀ k : Nat, ch n k * fl (k : Int) k % 101 = fl (n : Int) k := by
  induction n with
  | zero =>
    intro k
    cases k with
    | zero => rfl
    | succ k => rw [show ch 0 (k + 1) = 0 from rfl, fl_zero ((0 : Nat) : Int) 0 (k + 1) rfl (by omega)]; simp
  | succ n ih =>
    intro k
    cases k with
    | zero => rfl
    | succ k =>
      have a := ih k
      have b := ih (k + 1)
      have d : fl ((k + 1 : Nat) : Int) (k + 1) = (((k : Int) + 1) % 101) * fl (k : Int) k % 101 := by
        rw [fl_down, show (((k + 1 : Nat) : Int) - 1) = (k : Int) by omega]; rfl
      rw [fl_up n k, ← a, ← b, show ch (n + 1) (k + 1) = ch n k + ch n (k + 1) from rfl]
      generalize fl ((k + 1 : Nat) : Int) (k + 1) = G at d
      generalize fl (k : Int) k = F at d
      generalize ch n k = X
      generalize ch n (k + 1) = Y
      have key : X * G % 101 = ((k : Int) + 1) * (X * F % 101) % 101 := by
        rw [d, mul_mod, mul_mod, ← Int.mul_assoc, Int.mul_comm X, Int.mul_assoc, mod_mul]
      rw [Int.add_mul]
      generalize X * G = p at key
      generalize ((k : Int) + 1) * (X * F % 101) = r at key
      generalize Y * G = q
      omega
theorem fChoose_ch {n k : Int} (h1 : 0 ≤ n) (h2 : n ≤ 60) (h3 : 0 ≤ k) (h4 : k ≤ n) : fChoose n k = ch n.toNat k.toNat % 101 := by
  obtain ⟨x, rfl⟩ := Int.eq_ofNat_of_zero_le h1
  obtain ⟨y, rfl⟩ := Int.eq_ofNat_of_zero_le h3
  rw [fChoose_in h1 h2 h3 h4]
  simp only [Int.toNat_natCast]
  have b := fl_bd (y : Int) y
  have hne := fl_ne (y : Int) y (by omega) (by omega)
  have hi := iv_mul b hne
  rw [← ch_fl x y, mod_mul, Int.mul_assoc, Int.mul_comm (fl (y : Int) y), ← mul_mod, hi, Int.mul_one]
theorem fChoose_bd (n k : Int) : 0 ≤ fChoose n k ∧ fChoose n k ≤ 100 := by unfold fChoose; split <;> omega
theorem fChoose_pascal {n k : Int} (h1 : 0 < n) (h2 : n ≤ 60) (h3 : 0 < k) (h4 : k ≤ n) : fAdd (fChoose (n - 1) k) (fChoose (n - 1) (k - 1)) = fChoose n k := by
  have b1 := fChoose_bd (n - 1) k
  have b2 := fChoose_bd (n - 1) (k - 1)
  rw [fAdd_in b1.1 b1.2 b2.1 b2.2, fChoose_ch (by omega) h2 (by omega) h4, fChoose_ch (n := n - 1) (k := k - 1) (by omega) (by omega) (by omega) (by omega)]
  have e : fChoose (n - 1) k = ch (n - 1).toNat k.toNat % 101 := by
    by_cases h : k ≤ n - 1
    · exact fChoose_ch (by omega) (by omega) (by omega) h
    · rw [fChoose_out (by omega), ch_gt _ _ (by omega)]; rfl
  rw [e]
  obtain ⟨x, rfl⟩ : ∃ x : Nat, n = x + 1 := ⟨(n - 1).toNat, by omega⟩
  obtain ⟨y, rfl⟩ : ∃ y : Nat, k = y + 1 := ⟨(k - 1).toNat, by omega⟩
  rw [show ((x : Int) + 1 - 1).toNat = x by omega, show ((y : Int) + 1 - 1).toNat = y by omega, show ((x : Int) + 1).toNat = x + 1 by omega, show ((y : Int) + 1).toNat = y + 1 by omega]
  simp only [ch]
  rw [← Int.add_emod, Int.add_comm]
theorem fChoose_symm {n k : Int} (h1 : 0 ≤ n) (h2 : n ≤ 60) (h3 : 0 ≤ k) (h4 : k ≤ n) : fChoose n (n - k) = fChoose n k := by
  rw [fChoose_ch h1 h2 (by omega) (by omega), fChoose_ch h1 h2 h3 h4, show (n - k).toNat = n.toNat - k.toNat by omega, ch_symm _ _ (by omega)]
theorem fChoose_none {n : Int} (h1 : 0 ≤ n) (h2 : n ≤ 60) : fChoose n 0 = 1 := by
  rw [fChoose_ch h1 h2 (by omega) h1]
  cases n.toNat <;> rfl
theorem fChoose_six : fChoose 6 2 = 15 := by decide +kernel
end Go.Proofs.Ytljedbadgfjopab
