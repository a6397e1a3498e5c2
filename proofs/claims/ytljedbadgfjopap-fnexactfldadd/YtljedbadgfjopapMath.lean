/-
  The plain numbers of chapter 1, with no program in sight: the residues by 101, their powers and their falling products, and what is true of them.
-/
import Derived.WalkKit
namespace Go.Proofs.Ytljedbadgfjopap

/-- a is a number of the field. -/
def okB (a : Int) : Bool := decide (0 ≤ a ∧ a ≤ 100)
def fAdd (a b : Int) : Int := if 0 ≤ a ∧ a ≤ 100 ∧ 0 ≤ b ∧ b ≤ 100 then (a + b) % 101 else 0
def fNeg (a : Int) : Int := if 0 ≤ a ∧ a ≤ 100 then (101 - a) % 101 else 0
def fMul (a b : Int) : Int := if 0 ≤ a ∧ a ≤ 100 ∧ 0 ≤ b ∧ b ≤ 100 then a * b % 101 else 0
def fSub (a b : Int) : Int := if 0 ≤ a ∧ a ≤ 100 ∧ 0 ≤ b ∧ b ≤ 100 then (a - b + 101) % 101 else 0
/-- a to the n-th, by 101. -/
def pw (a : Int) : Nat → Int
  | 0 => 1
  | n + 1 => pw a n * a % 101
def fPow (a n : Int) : Int := if 0 ≤ a ∧ a ≤ 100 ∧ 0 ≤ n ∧ n ≤ 1000 then pw a n.toNat else 0
/-- the inverse in the field. -/
def iv (a : Int) : Int := pw a 99
def fInv (a : Int) : Int := if 0 ≤ a ∧ a ≤ 100 then iv a else 0
/-- i falling factors from n. -/
def fl (n : Int) : Nat → Int
  | 0 => 1
  | i + 1 => fl n i * ((n - i) % 101) % 101
def fFall (n k : Int) : Int := if 0 ≤ n ∧ n ≤ 60 ∧ 0 ≤ k ∧ k ≤ 60 then fl n k.toNat else 0
def fChoose (n k : Int) : Int := if 0 ≤ n ∧ n ≤ 60 ∧ 0 ≤ k ∧ k ≤ n then fl n k.toNat * iv (fl k k.toNat) % 101 else 0
def fDiv (a b : Int) : Int := if 0 ≤ a ∧ a ≤ 100 ∧ 0 ≤ b ∧ b ≤ 100 then a * iv b % 101 else 0

theorem pw_bd (a : Int) (n : Nat) : 0 ≤ pw a n ∧ pw a n ≤ 100 := by
  cases n with
  | zero => simp [pw]
  | succ n => simp only [pw]; omega
theorem iv_bd (a : Int) : 0 ≤ iv a ∧ iv a ≤ 100 := pw_bd a 99
theorem fl_bd (n : Int) (i : Nat) : 0 ≤ fl n i ∧ fl n i ≤ 100 := by
  cases i with
  | zero => simp [fl]
  | succ i => simp only [fl]; omega
theorem mul_bd {a b : Int} (ha : 0 ≤ a) (ha' : a ≤ 100) (hb : 0 ≤ b) (hb' : b ≤ 100) : 0 ≤ a * b ∧ a * b ≤ 10000 := by
  refine ⟨Int.mul_nonneg ha hb, ?_⟩
  calc a * b ≤ 100 * 100 := Int.mul_le_mul ha' hb' hb (by omega)
    _ = 10000 := by omega

theorem pw_eq (a : Int) (n : Nat) : pw a n = a ^ n % 101 := by
  induction n with
  | zero => simp [pw]
  | succ n ih => simp only [pw, ih, Int.pow_succ]; rw [Int.mul_emod, Int.emod_emod_of_dvd _ (Int.dvd_refl 101), ← Int.mul_emod]

theorem mod_pow (a : Int) (n : Nat) : (a % 101) ^ n % 101 = a ^ n % 101 := by
  induction n with
  | zero => simp
  | succ n ih =>
    rw [Int.pow_succ, Int.pow_succ, Int.mul_emod, ih, Int.emod_emod_of_dvd _ (Int.dvd_refl 101), ← Int.mul_emod]

/-- what the quick power keeps: the result, times the base so many times as are left. -/
def PwInv (a : Int) (n : Nat) (b m x : Int) : Prop := x * b ^ m.toNat % 101 = a ^ n % 101

theorem pwInv_start (a : Int) (n : Int) : PwInv a n.toNat a n 1 := by unfold PwInv; rw [Int.one_mul]
theorem pwInv_end {a : Int} {n : Nat} {b x : Int} (h : PwInv a n b 0 x) (h0 : 0 ≤ x) (h1 : x ≤ 100) : x = pw a n := by
  unfold PwInv at h
  rw [pw_eq, ← h]
  simp
  omega
theorem sq_pow (b : Int) (m : Nat) : (b * b) ^ m = b ^ (2 * m) := by
  rw [Int.pow_mul, Int.pow_succ, Int.pow_succ, Int.pow_zero, Int.one_mul]
theorem pwInv_even {a : Int} {n : Nat} {b m x : Int} (h : PwInv a n b m x) (hm : 0 < m) (he : m % 2 = 0) : PwInv a n (b * b % 101) (m / 2) x := by
  unfold PwInv at *
  rw [← h]
  have e : m.toNat = 2 * (m / 2).toNat := by omega
  rw [e, ← sq_pow, Int.mul_emod, mod_pow, ← Int.mul_emod]
theorem pwInv_odd {a : Int} {n : Nat} {b m x : Int} (h : PwInv a n b m x) (hm : 0 < m) (he : m % 2 = 1) : PwInv a n (b * b % 101) (m / 2) (x * b % 101) := by
  unfold PwInv at *
  rw [← h]
  have e : m.toNat = 2 * (m / 2).toNat + 1 := by omega
  rw [e, Int.pow_succ, ← sq_pow, Int.mul_emod, mod_pow, Int.emod_emod_of_dvd _ (Int.dvd_refl 101), ← Int.mul_emod]
  congr 1
  rw [Int.mul_assoc, Int.mul_comm b]

theorem fl_zero (n : Int) (j i : Nat) (hn : n = j) (h : j < i) : fl n i = 0 := by
  induction i with
  | zero => omega
  | succ i ih =>
    simp only [fl]
    by_cases e : j = i
    · subst e; subst hn
      have : ((j : Int) - j) % 101 = 0 := by omega
      rw [this]; simp
    · rw [ih (by omega)]; simp
theorem fl_step (n : Int) (j : Nat) (h : (j : Int) ≤ n) (hn : n ≤ 60) : fl n (j + 1) = fl n j * (n - j) % 101 := by
  simp only [fl]
  have : (n - (j : Int)) % 101 = n - j := by omega
  rw [this]
theorem ret_int {k : IntKind} {a b : Int} (h : a = b) : Ending.returned (.int k a) = .returned (.int k b) := by rw [h]

theorem fAdd_in {a b : Int} (h1 : 0 ≤ a) (h2 : a ≤ 100) (h3 : 0 ≤ b) (h4 : b ≤ 100) : fAdd a b = (a + b) % 101 := if_pos ⟨h1, h2, h3, h4⟩
theorem fSub_in {a b : Int} (h1 : 0 ≤ a) (h2 : a ≤ 100) (h3 : 0 ≤ b) (h4 : b ≤ 100) : fSub a b = (a - b + 101) % 101 := if_pos ⟨h1, h2, h3, h4⟩
theorem fMul_in {a b : Int} (h1 : 0 ≤ a) (h2 : a ≤ 100) (h3 : 0 ≤ b) (h4 : b ≤ 100) : fMul a b = a * b % 101 := if_pos ⟨h1, h2, h3, h4⟩
theorem fDiv_in {a b : Int} (h1 : 0 ≤ a) (h2 : a ≤ 100) (h3 : 0 ≤ b) (h4 : b ≤ 100) : fDiv a b = a * iv b % 101 := if_pos ⟨h1, h2, h3, h4⟩
theorem fNeg_in {a : Int} (h1 : 0 ≤ a) (h2 : a ≤ 100) : fNeg a = (101 - a) % 101 := if_pos ⟨h1, h2⟩
theorem fInv_in {a : Int} (h1 : 0 ≤ a) (h2 : a ≤ 100) : fInv a = iv a := if_pos ⟨h1, h2⟩
theorem fPow_in {a n : Int} (h1 : 0 ≤ a) (h2 : a ≤ 100) (h3 : 0 ≤ n) (h4 : n ≤ 1000) : fPow a n = pw a n.toNat := if_pos ⟨h1, h2, h3, h4⟩
theorem fFall_in {n k : Int} (h1 : 0 ≤ n) (h2 : n ≤ 60) (h3 : 0 ≤ k) (h4 : k ≤ 60) : fFall n k = fl n k.toNat := if_pos ⟨h1, h2, h3, h4⟩
theorem fChoose_in {n k : Int} (h1 : 0 ≤ n) (h2 : n ≤ 60) (h3 : 0 ≤ k) (h4 : k ≤ n) : fChoose n k = fl n k.toNat * iv (fl k k.toNat) % 101 := if_pos ⟨h1, h2, h3, h4⟩
theorem fAdd_out {a b : Int} (h : ¬ (0 ≤ a ∧ a ≤ 100 ∧ 0 ≤ b ∧ b ≤ 100)) : fAdd a b = 0 := if_neg h
theorem fSub_out {a b : Int} (h : ¬ (0 ≤ a ∧ a ≤ 100 ∧ 0 ≤ b ∧ b ≤ 100)) : fSub a b = 0 := if_neg h
theorem fMul_out {a b : Int} (h : ¬ (0 ≤ a ∧ a ≤ 100 ∧ 0 ≤ b ∧ b ≤ 100)) : fMul a b = 0 := if_neg h
theorem fDiv_out {a b : Int} (h : ¬ (0 ≤ a ∧ a ≤ 100 ∧ 0 ≤ b ∧ b ≤ 100)) : fDiv a b = 0 := if_neg h
theorem fNeg_out {a : Int} (h : ¬ (0 ≤ a ∧ a ≤ 100)) : fNeg a = 0 := if_neg h
theorem fInv_out {a : Int} (h : ¬ (0 ≤ a ∧ a ≤ 100)) : fInv a = 0 := if_neg h
theorem fPow_out {a n : Int} (h : ¬ (0 ≤ a ∧ a ≤ 100 ∧ 0 ≤ n ∧ n ≤ 1000)) : fPow a n = 0 := if_neg h
theorem fFall_out {n k : Int} (h : ¬ (0 ≤ n ∧ n ≤ 60 ∧ 0 ≤ k ∧ k ≤ 60)) : fFall n k = 0 := if_neg h
theorem fChoose_out {n k : Int} (h : ¬ (0 ≤ n ∧ n ≤ 60 ∧ 0 ≤ k ∧ k ≤ n)) : fChoose n k = 0 := if_neg h
theorem of_eq_false_beq {a b : Int} (h : (a == b) = false) : a ≠ b := by simpa using h
theorem fPow_iv (a : Int) : fPow a 99 = fInv a := by
  by_cases h : 0 ≤ a ∧ a ≤ 100
  · rw [fPow_in h.1 h.2 (by omega) (by omega), fInv_in h.1 h.2]; rfl
  · rw [fPow_out (by omega), fInv_out h]
theorem fMul_fInv (a b : Int) : fMul a (fInv b) = fDiv a b := by
  by_cases hb : 0 ≤ b ∧ b ≤ 100
  · obtain ⟨i1, i2⟩ := iv_bd b
    rw [fInv_in hb.1 hb.2]
    by_cases h : 0 ≤ a ∧ a ≤ 100
    · rw [fMul_in h.1 h.2 i1 i2, fDiv_in h.1 h.2 hb.1 hb.2]
    · rw [fMul_out (by omega), fDiv_out (by omega)]
  · rw [fInv_out hb, fDiv_out (by omega)]
    by_cases h : 0 ≤ a ∧ a ≤ 100
    · rw [fMul_in h.1 h.2 (by omega) (by omega)]; simp
    · rw [fMul_out (by omega)]
theorem fChoose_mul {n k : Int} (h1 : 0 ≤ n) (h2 : n ≤ 60) (h3 : 0 ≤ k) (h4 : k ≤ n) : fMul (fFall n k) (fInv (fFall k k)) = fChoose n k := by
  have b1 := fl_bd n k.toNat
  have b2 := fl_bd k k.toNat
  have b3 := iv_bd (fl k k.toNat)
  rw [fChoose_in h1 h2 h3 h4, fFall_in h1 h2 h3 (by omega), fFall_in h3 (by omega) h3 (by omega), fInv_in b2.1 b2.2, fMul_in b1.1 b1.2 b3.1 b3.2]
end Go.Proofs.Ytljedbadgfjopap
