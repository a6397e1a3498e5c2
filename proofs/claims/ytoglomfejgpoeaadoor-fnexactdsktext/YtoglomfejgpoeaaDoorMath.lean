/-
  The plain numbers of chapter 1, with no program in sight: the residues by 101, their powers and their falling products, and what is true of them.
-/
import Derived.WalkKit
namespace Go.Proofs.YtoglomfejgpoeaaDoor

/-- a is a number of the field. -/
def okB (a : Int) : Bool := decide (0 ≤ a ∧ a ≤ 100)
def fAdd (a b : Int) : Int := if 0 ≤ a ∧ a ≤ 100 ∧ 0 ≤ b ∧ b ≤ 100 then (a + b) % 101 else 0
def fNeg (a : Int) : Int := if 0 ≤ a ∧ a ≤ 100 then (101 - a) % 101 else 0
def fMul (a b : Int) : Int := if 0 ≤ a ∧ a ≤ 100 ∧ 0 ≤ b ∧ b ≤ 100 then a * b % 101 else 0
def fSub (a b : Int) : Int := if 0 ≤ a ∧ a ≤ 100 ∧ 0 ≤ b ∧ b ≤ 100 then (a - b + 101) % 101 else 0
/-- a to the n-th, by 101. -/
def pw (a : Int) : Nat → Int
  | 0 => 1
  | n + 1 => pw a n * a % 101
def fPow (a n : Int) : Int := if 0 ≤ a ∧ a ≤ 100 ∧ 0 ≤ n ∧ n ≤ 1000 then pw a n.toNat else 0
/-- the inverse in the field. -/
def iv (a : Int) : Int := pw a 99
def fInv (a : Int) : Int := if 0 ≤ a ∧ a ≤ 100 then iv a else 0
/-- i falling factors from n. -/
def fl (n : Int) : Nat → Int
  | 0 => 1
  | i + 1 => fl n i * ((n - i) % 101) % 101
def fFall (n k : Int) : Int := if 0 ≤ n ∧ n ≤ 60 ∧ 0 ≤ k ∧ k ≤ 60 then fl n k.toNat else 0
def fChoose (n k : Int) : Int := if 0 ≤ n ∧ n ≤ 60 ∧ 0 ≤ k ∧ k ≤ n then fl n k.toNat * iv (fl k k.toNat) % 101 else 0
def fDiv (a b : Int) : Int := if 0 ≤ a ∧ a ≤ 100 ∧ 0 ≤ b ∧ b ≤ 100 then a * iv b % 101 else 0

theorem pw_bd (a : Int) (n : Nat) : 0 ≤ pw a n ∧ pw a n ≤ 100 := by
  cases n with
  | zero => simp [pw]
  | succ n => simp only [pw]; omega
theorem iv_bd (a : Int) : 0 ≤ iv a ∧ iv a ≤ 100 := pw_bd a 99
theorem fl_bd (n : Int) (i : Nat) : 0 ≤ fl n i ∧ fl n i ≤ 100 := by
  cases i with
  | zero => simp [fl]
  | succ i => simp only [fl]; omega
theorem mul_bd {a b : Int} (ha : 0 ≤ a) (ha' : a ≤ 100) (hb : 0 ≤ b) (hb' : b ≤ 100) : 0 ≤ a * b ∧ a * b ≤ 10000 := by
  refine ⟨Int.mul_nonneg ha hb, ?_⟩
  calc a * b ≤ 100 * 100 := Int.mul_le_mul ha' hb' hb (by omega)
    _ = 10000 := by omega

theorem pw_eq (a : Int) (n : Nat) : pw a n = a ^ n % 101 := by
  induction n with
  | zero => simp [pw]
  | succ n ih => simp only [pw, ih, Int.pow_succ]; rw [Int.mul_emod, Int.emod_emod_of_dvd _ (Int.dvd_refl 101), ← Int.mul_emod]

theorem mod_pow (a : Int) (n : Nat) : (a % 101) ^ n % 101 = a ^ n % 101 := by
  induction n with
  | zero => simp
  | succ n ih =>
    rw [Int.pow_succ, Int.pow_succ, Int.mul_emod, ih, Int.emod_emod_of_dvd _ (Int.dvd_refl 101), ← Int.mul_emod]

/-- what the quick power keeps: the result, times the base so many times as are left. -/
def PwInv (a : Int) (n : Nat) (b m x : Int) : Prop := x * b ^ m.toNat % 101 = a ^ n % 101

theorem pwInv_start (a : Int) (n : Int) : PwInv a n.toNat a n 1 := by unfold PwInv; rw [Int.one_mul]
theorem pwInv_end {a : Int} {n : Nat} {b x : Int} (h : PwInv a n b 0 x) (h0 : 0 ≤ x) (h1 : x ≤ 100) : x = pw a n := by
  unfold PwInv at h
  rw [pw_eq, ← h]
  simp
  omega
theorem sq_pow (b : Int) (m : Nat) : (b * b) ^ m = b ^ (2 * m) := by
  rw [Int.pow_mul, Int.pow_succ, Int.pow_succ, Int.pow_zero, Int.one_mul]
theorem pwInv_even {a : Int} {n : Nat} {b m x : Int} (h : PwInv a n b m x) (hm : 0 < m) (he : m % 2 = 0) : PwInv a n (b * b % 101) (m / 2) x := by
  unfold PwInv at *
  rw [← h]
  have e : m.toNat = 2 * (m / 2).toNat := by omega
  rw [e, ← sq_pow, Int.mul_emod, mod_pow, ← Int.mul_emod]
theorem pwInv_odd {a : Int} {n : Nat} {b m x : Int} (h : PwInv a n b m x) (hm : 0 < m) (he : m % 2 = 1) : PwInv a n (b * b % 101) (m / 2) (x * b % 101) := by
  unfold PwInv at *
  rw [← h]
  have e : m.toNat = 2 * (m / 2).toNat + 1 := by omega
  rw [e, Int.pow_succ, ← sq_pow, Int.mul_emod, mod_pow, Int.emod_emod_of_dvd _ (Int.dvd_refl 101), ← Int.mul_emod]
  congr 1
  rw [Int.mul_assoc, Int.mul_comm b]

theorem fl_zero (n : Int) (j i : Nat) (hn : n = j) (h : j < i) : fl n i = 0 := by
  induction i with
  | zero => omega
  | succ i ih =>
    simp only [fl]
    by_cases e : j = i
    · subst e; subst hn
      have : ((j : Int) - j) % 101 = 0 := by omega
      rw [this]; simp
    · rw [ih (by omega)]; simp
theorem fl_step (n : Int) (j : Nat) (h : (j : Int) ≤ n) (hn : n ≤ 60) : fl n (j + 1) = fl n j * (n - j) % 101 := by
  simp only [fl]
  have : (n - (j : Int)) % 101 = n - j := by omega
  rw [this]
theorem ret_int {k : IntKind} {a b : Int} (h : a = b) : Ending.returned (.int k a) = .returned (.int k b) := by rw [h]

theorem fAdd_in {a b : Int} (h1 : 0 ≤ a) (h2 : a ≤ 100) (h3 : 0 ≤ b) (h4 : b ≤ 100) : fAdd a b = (a + b) % 101 := if_pos ⟨h1, h2, h3, h4⟩
theorem fSub_in {a b : Int} (h1 : 0 ≤ a) (h2 : a ≤ 100) (h3 : 0 ≤ b) (h4 : b ≤ 100) : fSub a b = (a - b + 101) % 101 := if_pos ⟨h1, h2, h3, h4⟩
theorem fMul_in {a b : Int} (h1 : 0 ≤ a) (h2 : a ≤ 100) (h3 : 0 ≤ b) (h4 : b ≤ 100) : fMul a b = a * b % 101 := if_pos ⟨h1, h2, h3, h4⟩
theorem fDiv_in {a b : Int} (h1 : 0 ≤ a) (h2 : a ≤ 100) (h3 : 0 ≤ b) (h4 : b ≤ 100) : fDiv a b = a * iv b % 101 := if_pos ⟨h1, h2, h3, h4⟩
theorem fNeg_in {a : Int} (h1 : 0 ≤ a) (h2 : a ≤ 100) : fNeg a = (101 - a) % 101 := if_pos ⟨h1, h2⟩
theorem fInv_in {a : Int} (h1 : 0 ≤ a) (h2 : a ≤ 100) : fInv a = iv a := if_pos ⟨h1, h2⟩
theorem fPow_in {a n : Int} (h1 : 0 ≤ a) (h2 : a ≤ 100) (h3 : 0 ≤ n) (h4 : n ≤ 1000) : fPow a n = pw a n.toNat := if_pos ⟨h1, h2, h3, h4⟩
theorem fFall_in {n k : Int} (h1 : 0 ≤ n) (h2 : n ≤ 60) (h3 : 0 ≤ k) (h4 : k ≤ 60) : fFall n k = fl n k.toNat := if_pos ⟨h1, h2, h3, h4⟩
theorem fChoose_in {n k : Int} (h1 : 0 ≤ n) (h2 : n ≤ 60) (h3 : 0 ≤ k) (h4 : k ≤ n) : fChoose n k = fl n k.toNat * iv (fl k k.toNat) % 101 := if_pos ⟨h1, h2, h3, h4⟩
theorem fAdd_out {a b : Int} (h : ¬ (0 ≤ a ∧ a ≤ 100 ∧ 0 ≤ b ∧ b ≤ 100)) : fAdd a b = 0 := if_neg h
theorem fSub_out {a b : Int} (h : ¬ (0 ≤ a ∧ a ≤ 100 ∧ 0 ≤ b ∧ b ≤ 100)) : fSub a b = 0 := if_neg h
theorem fMul_out {a b : Int} (h : ¬ (0 ≤ a ∧ a ≤ 100 ∧ 0 ≤ b ∧ b ≤ 100)) : fMul a b = 0 := if_neg h
theorem fDiv_out {a b : Int} (h : ¬ (0 ≤ a ∧ a ≤ 100 ∧ 0 ≤ b ∧ b ≤ 100)) : fDiv a b = 0 := if_neg h
theorem fNeg_out {a : Int} (h : ¬ (0 ≤ a ∧ a ≤ 100)) : fNeg a = 0 := if_neg h
theorem fInv_out {a : Int} (h : ¬ (0 ≤ a ∧ a ≤ 100)) : fInv a = 0 := if_neg h
theorem fPow_out {a n : Int} (h : ¬ (0 ≤ a ∧ a ≤ 100 ∧ 0 ≤ n ∧ n ≤ 1000)) : fPow a n = 0 := if_neg h
theorem fFall_out {n k : Int} (h : ¬ (0 ≤ n ∧ n ≤ 60 ∧ 0 ≤ k ∧ k ≤ 60)) : fFall n k = 0 := if_neg h
theorem fChoose_out {n k : Int} (h : ¬ (0 ≤ n ∧ n ≤ 60 ∧ 0 ≤ k ∧ k ≤ n)) : fChoose n k = 0 := if_neg h
theorem of_eq_false_beq {a b : Int} (h : (a == b) = false) : a ≠ b := by simpa using h
theorem fPow_iv (a : Int) : fPow a 99 = fInv a := by
  by_cases h : 0 ≤ a ∧ a ≤ 100
  · rw [fPow_in h.1 h.2 (by omega) (by omega), fInv_in h.1 h.2]; rfl
  · rw [fPow_out (by omega), fInv_out h]
theorem fMul_fInv (a b : Int) : fMul a (fInv b) = fDiv a b := by
  by_cases hb : 0 ≤ b ∧ b ≤ 100
  · obtain ⟨i1, i2⟩ := iv_bd b
    rw [fInv_in hb.1 hb.2]
    by_cases h : 0 ≤ a ∧ a ≤ 100
    · rw [fMul_in h.1 h.2 i1 i2, fDiv_in h.1 h.2 hb.1 hb.2]
    · rw [fMul_out (by omega), fDiv_out (by omega)]
  · rw [fInv_out hb, fDiv_out (by omega)]
    by_cases h : 0 ≤ a ∧ a ≤ 100
    · rw [fMul_in h.1 h.2 (by omega) (by omega)]; simp
    · rw [fMul_out (by omega)]
theorem fChoose_mul {n k : Int} (h1 : 0 ≤ n) (h2 : n ≤ 60) (h3 : 0 ≤ k) (h4 : k ≤ n) : fMul (fFall n k) (fInv (fFall k k)) = fChoose n k := by
  have b1 := fl_bd n k.toNat
  have b2 := fl_bd k k.toNat
  have b3 := iv_bd (fl k k.toNat)
  rw [fChoose_in h1 h2 h3 h4, fFall_in h1 h2 h3 (by omega), fFall_in h3 (by omega) h3 (by omega), fInv_in b2.1 b2.2, fMul_in b1.1 b1.2 b3.1 b3.2]

theorem okB_in {a : Int} (h : okB a = true) : 0 ≤ a ∧ a ≤ 100 := by simpa [okB] using h
theorem okB_out {a : Int} (h : okB a = false) : ¬ (0 ≤ a ∧ a ≤ 100) := by simpa [okB] using h
theorem okB_mk {a : Int} (h : 0 ≤ a ∧ a ≤ 100) : okB a = true := by simpa [okB] using h
theorem okB_no {a : Int} (h : ¬ (0 ≤ a ∧ a ≤ 100)) : okB a = false := by simpa [okB] using h
theorem okB_one : okB 1 = true := rfl
theorem fAdd_comm (a b : Int) : fAdd b a = fAdd a b := by
  by_cases h : 0 ≤ a ∧ a ≤ 100 ∧ 0 ≤ b ∧ b ≤ 100
  · rw [fAdd_in h.1 h.2.1 h.2.2.1 h.2.2.2, fAdd_in h.2.2.1 h.2.2.2 h.1 h.2.1, Int.add_comm]
  · rw [fAdd_out h, fAdd_out (by omega)]
theorem fMul_comm (a b : Int) : fMul b a = fMul a b := by
  by_cases h : 0 ≤ a ∧ a ≤ 100 ∧ 0 ≤ b ∧ b ≤ 100
  · rw [fMul_in h.1 h.2.1 h.2.2.1 h.2.2.2, fMul_in h.2.2.1 h.2.2.2 h.1 h.2.1, Int.mul_comm]
  · rw [fMul_out h, fMul_out (by omega)]
theorem fAdd_bd (a b : Int) : 0 ≤ fAdd a b ∧ fAdd a b ≤ 100 := by unfold fAdd; split <;> omega
theorem fNeg_bd (a : Int) : 0 ≤ fNeg a ∧ fNeg a ≤ 100 := by unfold fNeg; split <;> omega
theorem fMul_bd (a b : Int) : 0 ≤ fMul a b ∧ fMul a b ≤ 100 := by unfold fMul; split <;> omega
theorem fSub_bd (a b : Int) : 0 ≤ fSub a b ∧ fSub a b ≤ 100 := by unfold fSub; split <;> omega
theorem fDiv_bd (a b : Int) : 0 ≤ fDiv a b ∧ fDiv a b ≤ 100 := by unfold fDiv; split <;> omega
theorem fInv_bd (a : Int) : 0 ≤ fInv a ∧ fInv a ≤ 100 := by
  have := iv_bd a
  unfold fInv; split <;> omega
theorem fAdd_assoc {a b c : Int} (ha : 0 ≤ a ∧ a ≤ 100) (hb : 0 ≤ b ∧ b ≤ 100) (hc : 0 ≤ c ∧ c ≤ 100) : fAdd a (fAdd b c) = fAdd (fAdd a b) c := by
  have h1 := fAdd_bd a b
  have h2 := fAdd_bd b c
  rw [fAdd_in ha.1 ha.2 h2.1 h2.2, fAdd_in h1.1 h1.2 hc.1 hc.2, fAdd_in ha.1 ha.2 hb.1 hb.2, fAdd_in hb.1 hb.2 hc.1 hc.2]
  omega
theorem fAdd_zero {a : Int} (ha : 0 ≤ a ∧ a ≤ 100) : fAdd a 0 = a := by
  rw [fAdd_in ha.1 ha.2 (by omega) (by omega)]; omega
theorem fAdd_neg {a : Int} (ha : 0 ≤ a ∧ a ≤ 100) : fAdd a (fNeg a) = 0 := by
  have h := fNeg_bd a
  rw [fAdd_in ha.1 ha.2 h.1 h.2, fNeg_in ha.1 ha.2]; omega
theorem mod_mul (a b : Int) : (a % 101) * b % 101 = a * b % 101 := by
  rw [Int.mul_emod, Int.emod_emod_of_dvd _ (Int.dvd_refl 101), ← Int.mul_emod]
theorem mul_mod (a b : Int) : a * (b % 101) % 101 = a * b % 101 := by
  rw [Int.mul_comm, mod_mul, Int.mul_comm]
theorem fMul_assoc {a b c : Int} (ha : 0 ≤ a ∧ a ≤ 100) (hb : 0 ≤ b ∧ b ≤ 100) (hc : 0 ≤ c ∧ c ≤ 100) : fMul a (fMul b c) = fMul (fMul a b) c := by
  have h1 := fMul_bd a b
  have h2 := fMul_bd b c
  rw [fMul_in ha.1 ha.2 h2.1 h2.2, fMul_in h1.1 h1.2 hc.1 hc.2, fMul_in ha.1 ha.2 hb.1 hb.2, fMul_in hb.1 hb.2 hc.1 hc.2, mul_mod, mod_mul, Int.mul_assoc]
theorem fMul_one {a : Int} (ha : 0 ≤ a ∧ a ≤ 100) : fMul a 1 = a := by
  rw [fMul_in ha.1 ha.2 (by omega) (by omega)]; omega
theorem fMul_spread {a b c : Int} (ha : 0 ≤ a ∧ a ≤ 100) (hb : 0 ≤ b ∧ b ≤ 100) (hc : 0 ≤ c ∧ c ≤ 100) : fMul a (fAdd b c) = fAdd (fMul a b) (fMul a c) := by
  have h1 := fMul_bd a b
  have h2 := fMul_bd a c
  have h3 := fAdd_bd b c
  rw [fMul_in ha.1 ha.2 h3.1 h3.2, fAdd_in h1.1 h1.2 h2.1 h2.2, fMul_in ha.1 ha.2 hb.1 hb.2, fMul_in ha.1 ha.2 hc.1 hc.2, fAdd_in hb.1 hb.2 hc.1 hc.2, mul_mod, Int.mul_add, ← Int.add_emod]
theorem prime_nat : ∀ a : Fin 101, ∀ b : Fin 101, a.val * b.val % 101 = 0 → a.val = 0 ∨ b.val = 0 := by decide +kernel
theorem mul_zero_iff {a b : Int} (ha : 0 ≤ a ∧ a ≤ 100) (hb : 0 ≤ b ∧ b ≤ 100) (h : a * b % 101 = 0) : a = 0 ∨ b = 0 := by
  obtain ⟨x, rfl⟩ := Int.eq_ofNat_of_zero_le ha.1
  obtain ⟨y, rfl⟩ := Int.eq_ofNat_of_zero_le hb.1
  have := prime_nat ⟨x, by omega⟩ ⟨y, by omega⟩ (by simp only; omega)
  simp only at this
  omega
theorem fMul_ne {a b : Int} (ha : 0 ≤ a ∧ a ≤ 100) (hb : 0 ≤ b ∧ b ≤ 100) (h1 : a ≠ 0) (h2 : b ≠ 0) : fMul a b ≠ 0 := by
  rw [fMul_in ha.1 ha.2 hb.1 hb.2]
  intro h
  have := mul_zero_iff ha hb h
  omega
theorem fMul_zl (b : Int) : fMul 0 b = 0 := by unfold fMul; split <;> simp
theorem fMul_zr (a : Int) : fMul a 0 = 0 := by unfold fMul; split <;> simp
theorem fAdd_sub {a b : Int} (ha : 0 ≤ a ∧ a ≤ 100) (hb : 0 ≤ b ∧ b ≤ 100) : fAdd (fSub a b) b = a := by
  have h := fSub_bd a b
  rw [fAdd_in h.1 h.2 hb.1 hb.2, fSub_in ha.1 ha.2 hb.1 hb.2]; omega
theorem fSub_neg {a b : Int} (ha : 0 ≤ a ∧ a ≤ 100) (hb : 0 ≤ b ∧ b ≤ 100) : fAdd a (fNeg b) = fSub a b := by
  have h := fNeg_bd b
  rw [fAdd_in ha.1 ha.2 h.1 h.2, fSub_in ha.1 ha.2 hb.1 hb.2, fNeg_in hb.1 hb.2]; omega
theorem fSub_zero {b : Int} (hb : 0 ≤ b ∧ b ≤ 100) : fSub 0 b = fNeg b := by
  rw [fSub_in (by omega) (by omega) hb.1 hb.2, fNeg_in hb.1 hb.2]; omega
theorem inv_nat : ∀ a : Fin 101, a.val ≠ 0 → pw (a.val : Int) 99 * (a.val : Int) % 101 = 1 := by decide +kernel
theorem iv_mul {b : Int} (hb : 0 ≤ b ∧ b ≤ 100) (h0 : b ≠ 0) : iv b * b % 101 = 1 := by
  obtain ⟨x, rfl⟩ := Int.eq_ofNat_of_zero_le hb.1
  exact inv_nat ⟨x, by omega⟩ (by simp only; omega)
theorem invinv_nat : ∀ a : Fin 101, pw (pw (a.val : Int) 99) 99 = (a.val : Int) := by decide +kernel
theorem iv_iv {b : Int} (hb : 0 ≤ b ∧ b ≤ 100) : iv (iv b) = b := by
  obtain ⟨x, rfl⟩ := Int.eq_ofNat_of_zero_le hb.1
  exact invinv_nat ⟨x, by omega⟩
theorem fInv_fInv {b : Int} (hb : 0 ≤ b ∧ b ≤ 100) : fInv (fInv b) = b := by
  rw [fInv_in hb.1 hb.2, fInv_in (iv_bd b).1 (iv_bd b).2, iv_iv hb]
theorem fMul_inv {b : Int} (hb : 0 ≤ b ∧ b ≤ 100) (h0 : b ≠ 0) : fMul (fInv b) b = 1 := by
  rw [fInv_in hb.1 hb.2, fMul_in (iv_bd b).1 (iv_bd b).2 hb.1 hb.2, iv_mul hb h0]
theorem fMul_div {a b : Int} (ha : 0 ≤ a ∧ a ≤ 100) (hb : 0 ≤ b ∧ b ≤ 100) (h0 : b ≠ 0) : fMul (fDiv a b) b = a := by
  have h := fDiv_bd a b
  rw [fMul_in h.1 h.2 hb.1 hb.2, fDiv_in ha.1 ha.2 hb.1 hb.2, mod_mul, Int.mul_assoc, ← mul_mod, iv_mul hb h0]
  omega
theorem fDiv_zero (a : Int) : fDiv a 0 = 0 := by
  have e : iv 0 = 0 := by decide +kernel
  unfold fDiv; split <;> simp [e]
theorem fDiv_half : fDiv 1 2 = 51 := by decide +kernel
theorem fPow_zero {a : Int} (ha : 0 ≤ a ∧ a ≤ 100) : fPow a 0 = 1 := by rw [fPow_in ha.1 ha.2 (by omega) (by omega)]; rfl
theorem fPow_one {a : Int} (ha : 0 ≤ a ∧ a ≤ 100) : fPow a 1 = a := by
  rw [fPow_in ha.1 ha.2 (by omega) (by omega)]
  show 1 * a % 101 = a
  omega
theorem pw_add (a : Int) (n m : Nat) : pw a n * pw a m % 101 = pw a (n + m) := by
  rw [pw_eq, pw_eq, pw_eq, ← Int.mul_emod, ← Int.pow_add]
theorem fPow_add {a n m : Int} (ha : 0 ≤ a ∧ a ≤ 100) (hn : 0 ≤ n) (hm : 0 ≤ m) (h : n + m ≤ 1000) : fMul (fPow a n) (fPow a m) = fPow a (n + m) := by
  rw [fPow_in ha.1 ha.2 hn (by omega), fPow_in ha.1 ha.2 hm (by omega), fPow_in ha.1 ha.2 (by omega) h, fMul_in (pw_bd _ _).1 (pw_bd _ _).2 (pw_bd _ _).1 (pw_bd _ _).2, pw_add, show (n + m).toNat = n.toNat + m.toNat by omega]
theorem fermat_nat : ∀ a : Fin 101, a.val ≠ 0 → pw (a.val : Int) 100 = 1 := by decide +kernel
theorem fPow_fermat {a : Int} (ha : 0 ≤ a ∧ a ≤ 100) (h0 : a ≠ 0) : fPow a 100 = 1 := by
  rw [fPow_in ha.1 ha.2 (by omega) (by omega)]
  obtain ⟨x, rfl⟩ := Int.eq_ofNat_of_zero_le ha.1
  exact fermat_nat ⟨x, by omega⟩ (by simp only; omega)
theorem fl_down (n : Int) (i : Nat) : fl n (i + 1) = (n % 101) * fl (n - 1) i % 101 := by
  induction i with
  | zero => simp only [fl]; simp
  | succ i ih =>
    have e : n - ((i + 1 : Nat) : Int) = n - 1 - (i : Int) := by omega
    have l : fl n (i + 1 + 1) = fl n (i + 1) * ((n - ((i + 1 : Nat) : Int)) % 101) % 101 := rfl
    have r : fl (n - 1) (i + 1) = fl (n - 1) i * ((n - 1 - (i : Int)) % 101) % 101 := rfl
    rw [l, ih, e, r]
    generalize (n - 1 - (i : Int)) % 101 = u
    generalize fl (n - 1) i = v
    generalize n % 101 = x
    rw [mod_mul (x * v) u, mul_mod x (v * u), Int.mul_assoc]
theorem fFall_down {n k : Int} (hn : 0 < n) (hn' : n ≤ 60) (hk : 0 < k) (hk' : k ≤ 60) : fMul n (fFall (n - 1) (k - 1)) = fFall n k := by
  rw [fFall_in (by omega) (by omega) (by omega) (by omega), fFall_in (by omega) hn' (by omega) hk', fMul_in (by omega) (by omega) (fl_bd _ _).1 (fl_bd _ _).2]
  obtain ⟨j, rfl⟩ : ∃ j : Nat, k = j + 1 := ⟨(k - 1).toNat, by omega⟩
  rw [show ((j : Int) + 1).toNat = j + 1 by omega, show ((j : Int) + 1 - 1).toNat = j by omega, fl_down, show n % 101 = n by omega]
theorem fl_ne (n : Int) (i : Nat) (h : (i : Int) ≤ n) (hn : n ≤ 60) : fl n i ≠ 0 := by
  induction i with
  | zero => simp [fl]
  | succ i ih =>
    rw [fl_step n i (by omega) hn]
    intro e
    have := mul_zero_iff (fl_bd n i) (show 0 ≤ n - (i : Int) ∧ n - (i : Int) ≤ 100 by omega) e
    have := ih (by omega)
    omega
theorem fFall_lt {n k : Int} (hn : 0 ≤ n) (hn' : n ≤ 60) (hk' : k ≤ 60) (h : n < k) : fFall n k = 0 := by
  rw [fFall_in hn hn' (by omega) hk']
  obtain ⟨x, rfl⟩ := Int.eq_ofNat_of_zero_le hn
  exact fl_zero _ x _ rfl (by omega)
theorem fFall_ge {n k : Int} (hn' : n ≤ 60) (hk : 0 ≤ k) (h : k ≤ n) : fFall n k ≠ 0 := by
  rw [fFall_in (by omega) hn' hk (by omega)]
  exact fl_ne n _ (by omega) hn'
theorem fFall_none {n : Int} (hn : 0 ≤ n) (hn' : n ≤ 60) : fFall n 0 = 1 := by rw [fFall_in hn hn' (by omega) (by omega)]; rfl
theorem fFall_five : fFall 5 2 = 20 := by decide +kernel
end Go.Proofs.YtoglomfejgpoeaaDoor
