/-
  The plain numbers of chapter 1, with no program in sight: the residues by 101, their powers and their falling products, and what is true of them.
  What each function of chapter 1, of the program and of its model, returns: the plain numbers of the text Math; none changes the world.
  What the functions of chapter 2's model return: monomials as four numbers.
-/
import Derived.WalkKit
import Derived.Test.YtkcmamepoplcdaaGreatDoorRows
import Derived.Deep.RegionHeld3
import Derived.Deep.Light
namespace Go.Proofs.YtkcmamepoplcdaaGreatDoor

/-- a is a number of the field. -/
def okB (a : Int) : Bool := decide (0 ≤ a ∧ a ≤ 100)
def fAdd (a b : Int) : Int := if 0 ≤ a ∧ a ≤ 100 ∧ 0 ≤ b ∧ b ≤ 100 then (a + b) % 101 else 0
def fNeg (a : Int) : Int := if 0 ≤ a ∧ a ≤ 100 then (101 - a) % 101 else 0
def fMul (a b : Int) : Int := if 0 ≤ a ∧ a ≤ 100 ∧ 0 ≤ b ∧ b ≤ 100 then a * b % 101 else 0
def fSub (a b : Int) : Int := if 0 ≤ a ∧ a ≤ 100 ∧ 0 ≤ b ∧ b ≤ 100 then (a - b + 101) % 101 else 0
/-- a to the n-th, by 101. -/
def pw (a : Int) : Nat → Int
  | 0 => 1
  | n + 1 => pw a n * a % 101
def fPow (a n : Int) : Int := if 0 ≤ a ∧ a ≤ 100 ∧ 0 ≤ n ∧ n ≤ 1000 then pw a n.toNat else 0
/-- the inverse in the field. -/
def iv (a : Int) : Int := pw a 99
def fInv (a : Int) : Int := if 0 ≤ a ∧ a ≤ 100 then iv a else 0
/-- i falling factors from n. -/
def fl (n : Int) : Nat → Int
  | 0 => 1
  | i + 1 => fl n i * ((n - i) % 101) % 101
def fFall (n k : Int) : Int := if 0 ≤ n ∧ n ≤ 60 ∧ 0 ≤ k ∧ k ≤ 60 then fl n k.toNat else 0
def fChoose (n k : Int) : Int := if 0 ≤ n ∧ n ≤ 60 ∧ 0 ≤ k ∧ k ≤ n then fl n k.toNat * iv (fl k k.toNat) % 101 else 0
def fDiv (a b : Int) : Int := if 0 ≤ a ∧ a ≤ 100 ∧ 0 ≤ b ∧ b ≤ 100 then a * iv b % 101 else 0

theorem pw_bd (a : Int) (n : Nat) : 0 ≤ pw a n ∧ pw a n ≤ 100 := by
  cases n with
  | zero => simp [pw]
  | succ n => simp only [pw]; omega
theorem iv_bd (a : Int) : 0 ≤ iv a ∧ iv a ≤ 100 := pw_bd a 99
theorem fl_bd (n : Int) (i : Nat) : 0 ≤ fl n i ∧ fl n i ≤ 100 := by
  cases i with
  | zero => simp [fl]
  | succ i => simp only [fl]; omega
theorem mul_bd {a b : Int} (ha : 0 ≤ a) (ha' : a ≤ 100) (hb : 0 ≤ b) (hb' : b ≤ 100) : 0 ≤ a * b ∧ a * b ≤ 10000 := by
  refine ⟨Int.mul_nonneg ha hb, ?_⟩
  calc a * b ≤ 100 * 100 := Int.mul_le_mul ha' hb' hb (by omega)
    _ = 10000 := by omega

theorem pw_eq (a : Int) (n : Nat) : pw a n = a ^ n % 101 := by
  induction n with
  | zero => simp [pw]
  | succ n ih => simp only [pw, ih, Int.pow_succ]; rw [Int.mul_emod, Int.emod_emod_of_dvd _ (Int.dvd_refl 101), ← Int.mul_emod]

theorem mod_pow (a : Int) (n : Nat) : (a % 101) ^ n % 101 = a ^ n % 101 := by
  induction n with
  | zero => simp
  | succ n ih =>
    rw [Int.pow_succ, Int.pow_succ, Int.mul_emod, ih, Int.emod_emod_of_dvd _ (Int.dvd_refl 101), ← Int.mul_emod]

/-- what the quick power keeps: the result, times the base so many times as are left. -/
def PwInv (a : Int) (n : Nat) (b m x : Int) : Prop := x * b ^ m.toNat % 101 = a ^ n % 101

theorem pwInv_start (a : Int) (n : Int) : PwInv a n.toNat a n 1 := by unfold PwInv; rw [Int.one_mul]
theorem pwInv_end {a : Int} {n : Nat} {b x : Int} (h : PwInv a n b 0 x) (h0 : 0 ≤ x) (h1 : x ≤ 100) : x = pw a n := by
  unfold PwInv at h
  rw [pw_eq, ← h]
  simp
  omega
theorem sq_pow (b : Int) (m : Nat) : (b * b) ^ m = b ^ (2 * m) := by
  rw [Int.pow_mul, Int.pow_succ, Int.pow_succ, Int.pow_zero, Int.one_mul]
theorem pwInv_even {a : Int} {n : Nat} {b m x : Int} (h : PwInv a n b m x) (hm : 0 < m) (he : m % 2 = 0) : PwInv a n (b * b % 101) (m / 2) x := by
  unfold PwInv at *
  rw [← h]
  have e : m.toNat = 2 * (m / 2).toNat := by omega
  rw [e, ← sq_pow, Int.mul_emod, mod_pow, ← Int.mul_emod]
theorem pwInv_odd {a : Int} {n : Nat} {b m x : Int} (h : PwInv a n b m x) (hm : 0 < m) (he : m % 2 = 1) : PwInv a n (b * b % 101) (m / 2) (x * b % 101) := by
  unfold PwInv at *
  rw [← h]
  have e : m.toNat = 2 * (m / 2).toNat + 1 := by omega
  rw [e, Int.pow_succ, ← sq_pow, Int.mul_emod, mod_pow, Int.emod_emod_of_dvd _ (Int.dvd_refl 101), ← Int.mul_emod]
  congr 1
  rw [Int.mul_assoc, Int.mul_comm b]

theorem fl_zero (n : Int) (j i : Nat) (hn : n = j) (h : j < i) : fl n i = 0 := by
  induction i with
  | zero => omega
  | succ i ih =>
    simp only [fl]
    by_cases e : j = i
    · subst e; subst hn
      have : ((j : Int) - j) % 101 = 0 := by omega
      rw [this]; simp
    · rw [ih (by omega)]; simp
theorem fl_step (n : Int) (j : Nat) (h : (j : Int) ≤ n) (hn : n ≤ 60) : fl n (j + 1) = fl n j * (n - j) % 101 := by
  simp only [fl]
  have : (n - (j : Int)) % 101 = n - j := by omega
  rw [this]
theorem ret_int {k : IntKind} {a b : Int} (h : a = b) : Ending.returned (.int k a) = .returned (.int k b) := by rw [h]

theorem fAdd_in {a b : Int} (h1 : 0 ≤ a) (h2 : a ≤ 100) (h3 : 0 ≤ b) (h4 : b ≤ 100) : fAdd a b = (a + b) % 101 := if_pos ⟨h1, h2, h3, h4⟩
theorem fSub_in {a b : Int} (h1 : 0 ≤ a) (h2 : a ≤ 100) (h3 : 0 ≤ b) (h4 : b ≤ 100) : fSub a b = (a - b + 101) % 101 := if_pos ⟨h1, h2, h3, h4⟩
theorem fMul_in {a b : Int} (h1 : 0 ≤ a) (h2 : a ≤ 100) (h3 : 0 ≤ b) (h4 : b ≤ 100) : fMul a b = a * b % 101 := if_pos ⟨h1, h2, h3, h4⟩
theorem fDiv_in {a b : Int} (h1 : 0 ≤ a) (h2 : a ≤ 100) (h3 : 0 ≤ b) (h4 : b ≤ 100) : fDiv a b = a * iv b % 101 := if_pos ⟨h1, h2, h3, h4⟩
theorem fNeg_in {a : Int} (h1 : 0 ≤ a) (h2 : a ≤ 100) : fNeg a = (101 - a) % 101 := if_pos ⟨h1, h2⟩
theorem fInv_in {a : Int} (h1 : 0 ≤ a) (h2 : a ≤ 100) : fInv a = iv a := if_pos ⟨h1, h2⟩
theorem fPow_in {a n : Int} (h1 : 0 ≤ a) (h2 : a ≤ 100) (h3 : 0 ≤ n) (h4 : n ≤ 1000) : fPow a n = pw a n.toNat := if_pos ⟨h1, h2, h3, h4⟩
theorem fFall_in {n k : Int} (h1 : 0 ≤ n) (h2 : n ≤ 60) (h3 : 0 ≤ k) (h4 : k ≤ 60) : fFall n k = fl n k.toNat := if_pos ⟨h1, h2, h3, h4⟩
theorem fChoose_in {n k : Int} (h1 : 0 ≤ n) (h2 : n ≤ 60) (h3 : 0 ≤ k) (h4 : k ≤ n) : fChoose n k = fl n k.toNat * iv (fl k k.toNat) % 101 := if_pos ⟨h1, h2, h3, h4⟩
theorem fAdd_out {a b : Int} (h : ¬ (0 ≤ a ∧ a ≤ 100 ∧ 0 ≤ b ∧ b ≤ 100)) : fAdd a b = 0 := if_neg h
theorem fSub_out {a b : Int} (h : ¬ (0 ≤ a ∧ a ≤ 100 ∧ 0 ≤ b ∧ b ≤ 100)) : fSub a b = 0 := if_neg h
theorem fMul_out {a b : Int} (h : ¬ (0 ≤ a ∧ a ≤ 100 ∧ 0 ≤ b ∧ b ≤ 100)) : fMul a b = 0 := if_neg h
theorem fDiv_out {a b : Int} (h : ¬ (0 ≤ a ∧ a ≤ 100 ∧ 0 ≤ b ∧ b ≤ 100)) : fDiv a b = 0 := if_neg h
theorem fNeg_out {a : Int} (h : ¬ (0 ≤ a ∧ a ≤ 100)) : fNeg a = 0 := if_neg h
theorem fInv_out {a : Int} (h : ¬ (0 ≤ a ∧ a ≤ 100)) : fInv a = 0 := if_neg h
theorem fPow_out {a n : Int} (h : ¬ (0 ≤ a ∧ a ≤ 100 ∧ 0 ≤ n ∧ n ≤ 1000)) : fPow a n = 0 := if_neg h
theorem fFall_out {n k : Int} (h : ¬ (0 ≤ n ∧ n ≤ 60 ∧ 0 ≤ k ∧ k ≤ 60)) : fFall n k = 0 := if_neg h
theorem fChoose_out {n k : Int} (h : ¬ (0 ≤ n ∧ n ≤ 60 ∧ 0 ≤ k ∧ k ≤ n)) : fChoose n k = 0 := if_neg h
theorem of_eq_false_beq {a b : Int} (h : (a == b) = false) : a ≠ b := by simpa using h
theorem fPow_iv (a : Int) : fPow a 99 = fInv a := by
  by_cases h : 0 ≤ a ∧ a ≤ 100
  · rw [fPow_in h.1 h.2 (by omega) (by omega), fInv_in h.1 h.2]; rfl
  · rw [fPow_out (by omega), fInv_out h]
theorem fMul_fInv (a b : Int) : fMul a (fInv b) = fDiv a b := by
  by_cases hb : 0 ≤ b ∧ b ≤ 100
  · obtain ⟨i1, i2⟩ := iv_bd b
    rw [fInv_in hb.1 hb.2]
    by_cases h : 0 ≤ a ∧ a ≤ 100
    · rw [fMul_in h.1 h.2 i1 i2, fDiv_in h.1 h.2 hb.1 hb.2]
    · rw [fMul_out (by omega), fDiv_out (by omega)]
  · rw [fInv_out hb, fDiv_out (by omega)]
    by_cases h : 0 ≤ a ∧ a ≤ 100
    · rw [fMul_in h.1 h.2 (by omega) (by omega)]; simp
    · rw [fMul_out (by omega)]
theorem fChoose_mul {n k : Int} (h1 : 0 ≤ n) (h2 : n ≤ 60) (h3 : 0 ≤ k) (h4 : k ≤ n) : fMul (fFall n k) (fInv (fFall k k)) = fChoose n k := by
  have b1 := fl_bd n k.toNat
  have b2 := fl_bd k k.toNat
  have b3 := iv_bd (fl k k.toNat)
  rw [fChoose_in h1 h2 h3 h4, fFall_in h1 h2 h3 (by omega), fFall_in h3 (by omega) h3 (by omega), fInv_in b2.1 b2.2, fMul_in b1.1 b1.2 b3.1 b3.2]

theorem okB_in {a : Int} (h : okB a = true) : 0 ≤ a ∧ a ≤ 100 := by simpa [okB] using h
theorem okB_out {a : Int} (h : okB a = false) : ¬ (0 ≤ a ∧ a ≤ 100) := by simpa [okB] using h
theorem okB_mk {a : Int} (h : 0 ≤ a ∧ a ≤ 100) : okB a = true := by simpa [okB] using h
theorem okB_no {a : Int} (h : ¬ (0 ≤ a ∧ a ≤ 100)) : okB a = false := by simpa [okB] using h
theorem okB_one : okB 1 = true := rfl
theorem fAdd_comm (a b : Int) : fAdd b a = fAdd a b := by
  by_cases h : 0 ≤ a ∧ a ≤ 100 ∧ 0 ≤ b ∧ b ≤ 100
  · rw [fAdd_in h.1 h.2.1 h.2.2.1 h.2.2.2, fAdd_in h.2.2.1 h.2.2.2 h.1 h.2.1, Int.add_comm]
  · rw [fAdd_out h, fAdd_out (by omega)]
theorem fMul_comm (a b : Int) : fMul b a = fMul a b := by
  by_cases h : 0 ≤ a ∧ a ≤ 100 ∧ 0 ≤ b ∧ b ≤ 100
  · rw [fMul_in h.1 h.2.1 h.2.2.1 h.2.2.2, fMul_in h.2.2.1 h.2.2.2 h.1 h.2.1, Int.mul_comm]
  · rw [fMul_out h, fMul_out (by omega)]
theorem fAdd_bd (a b : Int) : 0 ≤ fAdd a b ∧ fAdd a b ≤ 100 := by unfold fAdd; split <;> omega
theorem fNeg_bd (a : Int) : 0 ≤ fNeg a ∧ fNeg a ≤ 100 := by unfold fNeg; split <;> omega
theorem fMul_bd (a b : Int) : 0 ≤ fMul a b ∧ fMul a b ≤ 100 := by unfold fMul; split <;> omega
theorem fSub_bd (a b : Int) : 0 ≤ fSub a b ∧ fSub a b ≤ 100 := by unfold fSub; split <;> omega
theorem fDiv_bd (a b : Int) : 0 ≤ fDiv a b ∧ fDiv a b ≤ 100 := by unfold fDiv; split <;> omega
theorem fInv_bd (a : Int) : 0 ≤ fInv a ∧ fInv a ≤ 100 := by
  have := iv_bd a
  unfold fInv; split <;> omega
theorem fAdd_assoc {a b c : Int} (ha : 0 ≤ a ∧ a ≤ 100) (hb : 0 ≤ b ∧ b ≤ 100) (hc : 0 ≤ c ∧ c ≤ 100) : fAdd a (fAdd b c) = fAdd (fAdd a b) c := by
  have h1 := fAdd_bd a b
  have h2 := fAdd_bd b c
  rw [fAdd_in ha.1 ha.2 h2.1 h2.2, fAdd_in h1.1 h1.2 hc.1 hc.2, fAdd_in ha.1 ha.2 hb.1 hb.2, fAdd_in hb.1 hb.2 hc.1 hc.2]
  omega
theorem fAdd_zero {a : Int} (ha : 0 ≤ a ∧ a ≤ 100) : fAdd a 0 = a := by
  rw [fAdd_in ha.1 ha.2 (by omega) (by omega)]; omega
theorem fAdd_neg {a : Int} (ha : 0 ≤ a ∧ a ≤ 100) : fAdd a (fNeg a) = 0 := by
  have h := fNeg_bd a
  rw [fAdd_in ha.1 ha.2 h.1 h.2, fNeg_in ha.1 ha.2]; omega
theorem mod_mul (a b : Int) : (a % 101) * b % 101 = a * b % 101 := by
  rw [Int.mul_emod, Int.emod_emod_of_dvd _ (Int.dvd_refl 101), ← Int.mul_emod]
theorem mul_mod (a b : Int) : a * (b % 101) % 101 = a * b % 101 := by
  rw [Int.mul_comm, mod_mul, Int.mul_comm]
theorem fMul_assoc {a b c : Int} (ha : 0 ≤ a ∧ a ≤ 100) (hb : 0 ≤ b ∧ b ≤ 100) (hc : 0 ≤ c ∧ c ≤ 100) : fMul a (fMul b c) = fMul (fMul a b) c := by
  have h1 := fMul_bd a b
  have h2 := fMul_bd b c
  rw [fMul_in ha.1 ha.2 h2.1 h2.2, fMul_in h1.1 h1.2 hc.1 hc.2, fMul_in ha.1 ha.2 hb.1 hb.2, fMul_in hb.1 hb.2 hc.1 hc.2, mul_mod, mod_mul, Int.mul_assoc]
theorem fMul_one {a : Int} (ha : 0 ≤ a ∧ a ≤ 100) : fMul a 1 = a := by
  rw [fMul_in ha.1 ha.2 (by omega) (by omega)]; omega
theorem fMul_spread {a b c : Int} (ha : 0 ≤ a ∧ a ≤ 100) (hb : 0 ≤ b ∧ b ≤ 100) (hc : 0 ≤ c ∧ c ≤ 100) : fMul a (fAdd b c) = fAdd (fMul a b) (fMul a c) := by
  have h1 := fMul_bd a b
  have h2 := fMul_bd a c
  have h3 := fAdd_bd b c
  rw [fMul_in ha.1 ha.2 h3.1 h3.2, fAdd_in h1.1 h1.2 h2.1 h2.2, fMul_in ha.1 ha.2 hb.1 hb.2, fMul_in ha.1 ha.2 hc.1 hc.2, fAdd_in hb.1 hb.2 hc.1 hc.2, mul_mod, Int.mul_add, ← Int.add_emod]
theorem prime_nat : ∀ a : Fin 101, ∀ b : Fin 101, a.val * b.val % 101 = 0 → a.val = 0 ∨ b.val = 0 := by decide +kernel
theorem mul_zero_iff {a b : Int} (ha : 0 ≤ a ∧ a ≤ 100) (hb : 0 ≤ b ∧ b ≤ 100) (h : a * b % 101 = 0) : a = 0 ∨ b = 0 := by
  obtain ⟨x, rfl⟩ := Int.eq_ofNat_of_zero_le ha.1
  obtain ⟨y, rfl⟩ := Int.eq_ofNat_of_zero_le hb.1
  have := prime_nat ⟨x, by omega⟩ ⟨y, by omega⟩ (by simp only; omega)
  simp only at this
  omega
theorem fMul_ne {a b : Int} (ha : 0 ≤ a ∧ a ≤ 100) (hb : 0 ≤ b ∧ b ≤ 100) (h1 : a ≠ 0) (h2 : b ≠ 0) : fMul a b ≠ 0 := by
  rw [fMul_in ha.1 ha.2 hb.1 hb.2]
  intro h
  have := mul_zero_iff ha hb h
  omega
theorem fMul_zl (b : Int) : fMul 0 b = 0 := by unfold fMul; split <;> simp
theorem fMul_zr (a : Int) : fMul a 0 = 0 := by unfold fMul; split <;> simp
theorem fAdd_sub {a b : Int} (ha : 0 ≤ a ∧ a ≤ 100) (hb : 0 ≤ b ∧ b ≤ 100) : fAdd (fSub a b) b = a := by
  have h := fSub_bd a b
  rw [fAdd_in h.1 h.2 hb.1 hb.2, fSub_in ha.1 ha.2 hb.1 hb.2]; omega
theorem fSub_neg {a b : Int} (ha : 0 ≤ a ∧ a ≤ 100) (hb : 0 ≤ b ∧ b ≤ 100) : fAdd a (fNeg b) = fSub a b := by
  have h := fNeg_bd b
  rw [fAdd_in ha.1 ha.2 h.1 h.2, fSub_in ha.1 ha.2 hb.1 hb.2, fNeg_in hb.1 hb.2]; omega
theorem fSub_zero {b : Int} (hb : 0 ≤ b ∧ b ≤ 100) : fSub 0 b = fNeg b := by
  rw [fSub_in (by omega) (by omega) hb.1 hb.2, fNeg_in hb.1 hb.2]; omega
theorem inv_nat : ∀ a : Fin 101, a.val ≠ 0 → pw (a.val : Int) 99 * (a.val : Int) % 101 = 1 := by decide +kernel
theorem iv_mul {b : Int} (hb : 0 ≤ b ∧ b ≤ 100) (h0 : b ≠ 0) : iv b * b % 101 = 1 := by
  obtain ⟨x, rfl⟩ := Int.eq_ofNat_of_zero_le hb.1
  exact inv_nat ⟨x, by omega⟩ (by simp only; omega)
theorem invinv_nat : ∀ a : Fin 101, pw (pw (a.val : Int) 99) 99 = (a.val : Int) := by decide +kernel
theorem iv_iv {b : Int} (hb : 0 ≤ b ∧ b ≤ 100) : iv (iv b) = b := by
  obtain ⟨x, rfl⟩ := Int.eq_ofNat_of_zero_le hb.1
  exact invinv_nat ⟨x, by omega⟩
theorem fInv_fInv {b : Int} (hb : 0 ≤ b ∧ b ≤ 100) : fInv (fInv b) = b := by
  rw [fInv_in hb.1 hb.2, fInv_in (iv_bd b).1 (iv_bd b).2, iv_iv hb]
theorem fMul_inv {b : Int} (hb : 0 ≤ b ∧ b ≤ 100) (h0 : b ≠ 0) : fMul (fInv b) b = 1 := by
  rw [fInv_in hb.1 hb.2, fMul_in (iv_bd b).1 (iv_bd b).2 hb.1 hb.2, iv_mul hb h0]
theorem fMul_div {a b : Int} (ha : 0 ≤ a ∧ a ≤ 100) (hb : 0 ≤ b ∧ b ≤ 100) (h0 : b ≠ 0) : fMul (fDiv a b) b = a := by
  have h := fDiv_bd a b
  rw [fMul_in h.1 h.2 hb.1 hb.2, fDiv_in ha.1 ha.2 hb.1 hb.2, mod_mul, Int.mul_assoc, ← mul_mod, iv_mul hb h0]
  omega
theorem fDiv_zero (a : Int) : fDiv a 0 = 0 := by
  have e : iv 0 = 0 := by decide +kernel
  unfold fDiv; split <;> simp [e]
theorem fDiv_half : fDiv 1 2 = 51 := by decide +kernel
theorem fPow_zero {a : Int} (ha : 0 ≤ a ∧ a ≤ 100) : fPow a 0 = 1 := by rw [fPow_in ha.1 ha.2 (by omega) (by omega)]; rfl
theorem fPow_one {a : Int} (ha : 0 ≤ a ∧ a ≤ 100) : fPow a 1 = a := by
  rw [fPow_in ha.1 ha.2 (by omega) (by omega)]
  show 1 * a % 101 = a
  omega
theorem pw_add (a : Int) (n m : Nat) : pw a n * pw a m % 101 = pw a (n + m) := by
  rw [pw_eq, pw_eq, pw_eq, ← Int.mul_emod, ← Int.pow_add]
theorem fPow_add {a n m : Int} (ha : 0 ≤ a ∧ a ≤ 100) (hn : 0 ≤ n) (hm : 0 ≤ m) (h : n + m ≤ 1000) : fMul (fPow a n) (fPow a m) = fPow a (n + m) := by
  rw [fPow_in ha.1 ha.2 hn (by omega), fPow_in ha.1 ha.2 hm (by omega), fPow_in ha.1 ha.2 (by omega) h, fMul_in (pw_bd _ _).1 (pw_bd _ _).2 (pw_bd _ _).1 (pw_bd _ _).2, pw_add, show (n + m).toNat = n.toNat + m.toNat by omega]
theorem fermat_nat : ∀ a : Fin 101, a.val ≠ 0 → pw (a.val : Int) 100 = 1 := by decide +kernel
theorem fPow_fermat {a : Int} (ha : 0 ≤ a ∧ a ≤ 100) (h0 : a ≠ 0) : fPow a 100 = 1 := by
  rw [fPow_in ha.1 ha.2 (by omega) (by omega)]
  obtain ⟨x, rfl⟩ := Int.eq_ofNat_of_zero_le ha.1
  exact fermat_nat ⟨x, by omega⟩ (by simp only; omega)
theorem fl_down (n : Int) (i : Nat) : fl n (i + 1) = (n % 101) * fl (n - 1) i % 101 := by
  induction i with
  | zero => simp only [fl]; simp
  | succ i ih =>
    have e : n - ((i + 1 : Nat) : Int) = n - 1 - (i : Int) := by omega
    have l : fl n (i + 1 + 1) = fl n (i + 1) * ((n - ((i + 1 : Nat) : Int)) % 101) % 101 := rfl
    have r : fl (n - 1) (i + 1) = fl (n - 1) i * ((n - 1 - (i : Int)) % 101) % 101 := rfl
    rw [l, ih, e, r]
    generalize (n - 1 - (i : Int)) % 101 = u
    generalize fl (n - 1) i = v
    generalize n % 101 = x
    rw [mod_mul (x * v) u, mul_mod x (v * u), Int.mul_assoc]
theorem fFall_down {n k : Int} (hn : 0 < n) (hn' : n ≤ 60) (hk : 0 < k) (hk' : k ≤ 60) : fMul n (fFall (n - 1) (k - 1)) = fFall n k := by
  rw [fFall_in (by omega) (by omega) (by omega) (by omega), fFall_in (by omega) hn' (by omega) hk', fMul_in (by omega) (by omega) (fl_bd _ _).1 (fl_bd _ _).2]
  obtain ⟨j, rfl⟩ : ∃ j : Nat, k = j + 1 := ⟨(k - 1).toNat, by omega⟩
  rw [show ((j : Int) + 1).toNat = j + 1 by omega, show ((j : Int) + 1 - 1).toNat = j by omega, fl_down, show n % 101 = n by omega]
theorem fl_ne (n : Int) (i : Nat) (h : (i : Int) ≤ n) (hn : n ≤ 60) : fl n i ≠ 0 := by
  induction i with
  | zero => simp [fl]
  | succ i ih =>
    rw [fl_step n i (by omega) hn]
    intro e
    have := mul_zero_iff (fl_bd n i) (show 0 ≤ n - (i : Int) ∧ n - (i : Int) ≤ 100 by omega) e
    have := ih (by omega)
    omega
theorem fFall_lt {n k : Int} (hn : 0 ≤ n) (hn' : n ≤ 60) (hk' : k ≤ 60) (h : n < k) : fFall n k = 0 := by
  rw [fFall_in hn hn' (by omega) hk']
  obtain ⟨x, rfl⟩ := Int.eq_ofNat_of_zero_le hn
  exact fl_zero _ x _ rfl (by omega)
theorem fFall_ge {n k : Int} (hn' : n ≤ 60) (hk : 0 ≤ k) (h : k ≤ n) : fFall n k ≠ 0 := by
  rw [fFall_in (by omega) hn' hk (by omega)]
  exact fl_ne n _ (by omega) hn'
theorem fFall_none {n : Int} (hn : 0 ≤ n) (hn' : n ≤ 60) : fFall n 0 = 1 := by rw [fFall_in hn hn' (by omega) (by omega)]; rfl
theorem fFall_five : fFall 5 2 = 20 := by decide +kernel
end Go.Proofs.YtkcmamepoplcdaaGreatDoor
namespace Go.Proofs.YtkcmamepoplcdaaGreatDoor
open Go.RowKit
set_option linter.unusedVariables false

theorem okI_in (a : Int) (w : World) (h1 : 0 ≤ a) (h2 : a ≤ 100) :
    Calls Tryz.prog 124 #[.int .i64 a] w fun e w' => e = .returned (.bool true) ∧ w' = w := by
  have d1 : decide (a < 101) = true := decide_eq_true (by omega)
  go_enter Tryz.func124, Tryz.ntmps124
  go_wp2
  go_ret
  exact ⟨rfl, rfl⟩
theorem okI_out (a : Int) (w : World) (h : a < 0 ∨ 100 < a) :
    Calls Tryz.prog 124 #[.int .i64 a] w fun e w' => e = .returned (.bool false) ∧ w' = w := by
  rcases h with h | h
  · go_enter Tryz.func124, Tryz.ntmps124
    go_wp2
    go_ret
    exact ⟨rfl, rfl⟩
  · have d1 : decide (a < 101) = false := decide_eq_false (by omega)
    go_enter Tryz.func124, Tryz.ntmps124
    go_wp2
    go_ret
    exact ⟨rfl, rfl⟩
theorem inS_in (n l h : Int) (w : World) (h1 : l ≤ n) (h2 : n ≤ h) :
    Calls Tryz.prog 54 #[.int .i64 n, .int .i64 l, .int .i64 h] w fun e w' => e = .returned (.bool true) ∧ w' = w := by
  have d1 : decide (n ≤ h) = true := decide_eq_true h2
  go_enter Tryz.func54, Tryz.ntmps54
  go_wp2
  go_ret
  exact ⟨rfl, rfl⟩
theorem inS_out (n l h : Int) (w : World) (hh : n < l ∨ (l ≤ n ∧ h < n)) :
    Calls Tryz.prog 54 #[.int .i64 n, .int .i64 l, .int .i64 h] w fun e w' => e = .returned (.bool false) ∧ w' = w := by
  rcases hh with h1 | ⟨h1, h2⟩
  · go_enter Tryz.func54, Tryz.ntmps54
    go_wp2
    go_ret
    exact ⟨rfl, rfl⟩
  · have d1 : decide (n ≤ h) = false := decide_eq_false (by omega)
    go_enter Tryz.func54, Tryz.ntmps54
    go_wp2
    go_ret
    exact ⟨rfl, rfl⟩
theorem okS_in (a : Int) (w : World) (h1 : 0 ≤ a) (h2 : a ≤ 100) :
    Calls Tryz.prog 215 #[.int .i64 a] w fun e w' => e = .returned (.bool true) ∧ w' = w := by
  go_enter Tryz.func215, Tryz.ntmps215
  go_wp2_with (first | (go_at_call 54; first | (refine (inS_in _ _ _ _ (by omega) (by omega)).mono ?_; rintro e w' ⟨rfl, rfl⟩) | (refine (inS_out _ _ _ _ (by omega)).mono ?_; rintro e w' ⟨rfl, rfl⟩)))
  go_ret
  exact ⟨rfl, rfl⟩
theorem okS_out (a : Int) (w : World) (h : a < 0 ∨ 100 < a) :
    Calls Tryz.prog 215 #[.int .i64 a] w fun e w' => e = .returned (.bool false) ∧ w' = w := by
  rcases h with h | h
  · go_enter Tryz.func215, Tryz.ntmps215
    go_wp2_with (first | (go_at_call 54; first | (refine (inS_in _ _ _ _ (by omega) (by omega)).mono ?_; rintro e w' ⟨rfl, rfl⟩) | (refine (inS_out _ _ _ _ (by omega)).mono ?_; rintro e w' ⟨rfl, rfl⟩)))
    go_ret
    exact ⟨rfl, rfl⟩
  · go_enter Tryz.func215, Tryz.ntmps215
    go_wp2_with (first | (go_at_call 54; first | (refine (inS_in _ _ _ _ (by omega) (by omega)).mono ?_; rintro e w' ⟨rfl, rfl⟩) | (refine (inS_out _ _ _ _ (by omega)).mono ?_; rintro e w' ⟨rfl, rfl⟩)))
    go_ret
    exact ⟨rfl, rfl⟩
theorem times (a b : Int) (w : World) (h1 : 0 ≤ a) (h2 : a ≤ 100) (h3 : 0 ≤ b) (h4 : b ≤ 100) :
    Calls Tryz.prog 151 #[.int .i64 a, .int .i64 b] w fun e w' => e = .returned (.int .i64 (a * b % 101)) ∧ w' = w := by
  obtain ⟨hm1, hm2⟩ := mul_bd h1 h2 h3 h4
  go_enter Tryz.func151, Tryz.ntmps151
  go_wp2
  go_ret
  exact ⟨rfl, rfl⟩
theorem plus (a b : Int) (w : World) (h1 : 0 ≤ a) (h2 : a ≤ 100) (h3 : 0 ≤ b) (h4 : b ≤ 100) :
    Calls Tryz.prog 150 #[.int .i64 a, .int .i64 b] w fun e w' => e = .returned (.int .i64 ((a + b) % 101)) ∧ w' = w := by
  go_enter Tryz.func150, Tryz.ntmps150
  go_wp2
  go_ret
  exact ⟨rfl, rfl⟩
theorem okI (a : Int) (w : World) :
    Calls Tryz.prog 124 #[.int .i64 a] w fun e w' => e = .returned (.bool (okB a)) ∧ w' = w := by
  by_cases h : 0 ≤ a ∧ a ≤ 100
  · rw [okB_mk h]; exact okI_in a w h.1 h.2
  · rw [okB_no h]; exact okI_out a w (by omega)
theorem okS (a : Int) (w : World) :
    Calls Tryz.prog 215 #[.int .i64 a] w fun e w' => e = .returned (.bool (okB a)) ∧ w' = w := by
  by_cases h : 0 ≤ a ∧ a ≤ 100
  · rw [okB_mk h]; exact okS_in a w h.1 h.2
  · rw [okB_no h]; exact okS_out a w (by omega)
theorem mulI (a b : Int) (w : World) :
    Calls Tryz.prog 177 #[.int .i64 a, .int .i64 b] w fun e w' => e = .returned (.int .i64 (fMul a b)) ∧ w' = w := by
  by_cases h : 0 ≤ a ∧ a ≤ 100 ∧ 0 ≤ b ∧ b ≤ 100
  · rw [fMul_in h.1 h.2.1 h.2.2.1 h.2.2.2]
    obtain ⟨h1, h2, h3, h4⟩ := h
    obtain ⟨hm1, hm2⟩ := mul_bd h1 h2 h3 h4
    go_enter Tryz.func177, Tryz.ntmps177
    go_wp2_with (first | (go_at_call 124; first | (refine (okI_in _ _ (by omega) (by omega)).mono ?_; rintro e w' ⟨rfl, rfl⟩) | (refine (okI_out _ _ (by omega)).mono ?_; rintro e w' ⟨rfl, rfl⟩)) | (go_at_call 151; refine (times _ _ _ (by omega) (by omega) (by omega) (by omega)).mono ?_; rintro e w' ⟨rfl, rfl⟩))
    go_ret
    exact ⟨rfl, rfl⟩
  · rw [fMul_out h]
    have h' : a < 0 ∨ 100 < a ∨ (0 ≤ a ∧ a ≤ 100 ∧ b < 0) ∨ (0 ≤ a ∧ a ≤ 100 ∧ 100 < b) := by omega
    clear h
    rcases h' with h | h | ⟨h1, h2, h3⟩ | ⟨h1, h2, h3⟩
    all_goals
      go_enter Tryz.func177, Tryz.ntmps177
      go_wp2_with (first | (go_at_call 124; first | (refine (okI_in _ _ (by omega) (by omega)).mono ?_; rintro e w' ⟨rfl, rfl⟩) | (refine (okI_out _ _ (by omega)).mono ?_; rintro e w' ⟨rfl, rfl⟩)) | (go_at_call 151; refine (times _ _ _ (by omega) (by omega) (by omega) (by omega)).mono ?_; rintro e w' ⟨rfl, rfl⟩))
      go_ret
      exact ⟨rfl, rfl⟩
theorem mulS (a b : Int) (w : World) :
    Calls Tryz.prog 205 #[.int .i64 a, .int .i64 b] w fun e w' => e = .returned (.int .i64 (fMul a b)) ∧ w' = w := by
  by_cases h : 0 ≤ a ∧ a ≤ 100 ∧ 0 ≤ b ∧ b ≤ 100
  · rw [fMul_in h.1 h.2.1 h.2.2.1 h.2.2.2]
    obtain ⟨h1, h2, h3, h4⟩ := h
    obtain ⟨hm1, hm2⟩ := mul_bd h1 h2 h3 h4
    go_enter Tryz.func205, Tryz.ntmps205
    go_wp2_with (first | (go_at_call 215; first | (refine (okS_in _ _ (by omega) (by omega)).mono ?_; rintro e w' ⟨rfl, rfl⟩) | (refine (okS_out _ _ (by omega)).mono ?_; rintro e w' ⟨rfl, rfl⟩)))
    go_ret
    exact ⟨rfl, rfl⟩
  · rw [fMul_out h]
    have h' : a < 0 ∨ 100 < a ∨ (0 ≤ a ∧ a ≤ 100 ∧ b < 0) ∨ (0 ≤ a ∧ a ≤ 100 ∧ 100 < b) := by omega
    clear h
    rcases h' with h | h | ⟨h1, h2, h3⟩ | ⟨h1, h2, h3⟩
    all_goals
      go_enter Tryz.func205, Tryz.ntmps205
      go_wp2_with (first | (go_at_call 215; first | (refine (okS_in _ _ (by omega) (by omega)).mono ?_; rintro e w' ⟨rfl, rfl⟩) | (refine (okS_out _ _ (by omega)).mono ?_; rintro e w' ⟨rfl, rfl⟩)))
      go_ret
      exact ⟨rfl, rfl⟩
set_option maxHeartbeats 400000 in
theorem power (a n : Int) (w : World) (h1 : 0 ≤ a) (h2 : a ≤ 100) (h3 : 0 ≤ n) (h4 : n ≤ 1000) :
    Calls Tryz.prog 152 #[.int .i64 a, .int .i64 n] w fun e w' => e = .returned (.int .i64 (pw a n.toNat)) ∧ w' = w := by
  go_enter Tryz.func152, Tryz.ntmps152
  go_wp2
  go_loop [0, 1, 5] (fun a' n' r => ∃ b m x : Int, a' = .int .i64 b ∧ n' = .int .i64 m ∧ r = .int .i64 x ∧ 0 ≤ b ∧ b ≤ 100 ∧ 0 ≤ m ∧ m ≤ 1000 ∧ 0 ≤ x ∧ x ≤ 100 ∧ PwInv a n.toNat b m x) (fun _ n' _ => (intOf n').toNat)
  case atStart => exact ⟨a, n, 1, rfl, rfl, rfl, h1, h2, h3, h4, by omega, by omega, pwInv_start a n⟩
  case round =>
    obtain ⟨b, m, x, rfl, rfl, rfl, b1, b2, m1, m2, x1, x2, hI⟩ := hrel
    by_cases hm : 0 < m
    · obtain ⟨s1, s2⟩ := mul_bd b1 b2 b1 b2
      by_cases ho : m % 2 = 1
      · obtain ⟨t1, t2⟩ := mul_bd x1 x2 b1 b2
        have hI' := pwInv_odd hI hm ho
        clear hI
        have hb : (m % 2 == 1) = true := by simp [ho]
        clear ho
        go_wp2
        go_round
        case rel => exact ⟨_, _, _, rfl, rfl, rfl, by omega, by omega, by omega, by omega, by omega, by omega, hI'⟩
        case measure => simp [intOf]; omega
      · have hI' := pwInv_even hI hm (by omega)
        clear hI
        have hb : (m % 2 == 1) = false := by simp [ho]
        clear ho
        go_wp2
        go_round
        case rel => exact ⟨_, _, _, rfl, rfl, rfl, by omega, by omega, by omega, by omega, by omega, by omega, hI'⟩
        case measure => simp [intOf]; omega
    · have e : m = 0 := by omega
      subst e
      go_wp2
      go_ret
      exact ⟨ret_int (pwInv_end hI x1 x2), rfl⟩
set_option maxHeartbeats 400000 in
theorem powS (a n : Int) (w : World) :
    Calls Tryz.prog 216 #[.int .i64 a, .int .i64 n] w fun e w' => e = .returned (.int .i64 (fPow a n)) ∧ w' = w := by
  by_cases h : 0 ≤ a ∧ a ≤ 100 ∧ 0 ≤ n ∧ n ≤ 1000
  · rw [fPow_in h.1 h.2.1 h.2.2.1 h.2.2.2]
    obtain ⟨h1, h2, h3, h4⟩ := h
    go_enter Tryz.func216, Tryz.ntmps216
    go_wp2_with (first | (go_at_call 215; first | (refine (okS_in _ _ (by omega) (by omega)).mono ?_; rintro e w' ⟨rfl, rfl⟩) | (refine (okS_out _ _ (by omega)).mono ?_; rintro e w' ⟨rfl, rfl⟩)) | (go_at_call 54; first | (refine (inS_in _ _ _ _ (by omega) (by omega)).mono ?_; rintro e w' ⟨rfl, rfl⟩) | (refine (inS_out _ _ _ _ (by omega)).mono ?_; rintro e w' ⟨rfl, rfl⟩)))
    go_loop [5, 6] (fun x i => ∃ k : Nat, (k : Int) ≤ n ∧ i = .int .i64 k ∧ x = .int .i64 (pw a k)) (fun _ i => (n - intOf i).toNat)
    case atStart => exact ⟨0, by omega, rfl, rfl⟩
    case round =>
      obtain ⟨k, hk, rfl, rfl⟩ := hrel
      obtain ⟨p1, p2⟩ := pw_bd a k
      by_cases hlt : (k : Int) < n
      · obtain ⟨t1, t2⟩ := mul_bd p1 p2 h1 h2
        go_wp2
        go_round
        case rel => exact ⟨k + 1, by omega, by go_num, rfl⟩
        case measure => simp [intOf]; omega
      · go_wp2
        go_ret
        exact ⟨ret_int (by rw [show n.toNat = k by omega]), rfl⟩
  · rw [fPow_out h]
    have h' : a < 0 ∨ 100 < a ∨ (0 ≤ a ∧ a ≤ 100 ∧ n < 0) ∨ (0 ≤ a ∧ a ≤ 100 ∧ 1000 < n) := by omega
    clear h
    rcases h' with h | h | ⟨h1, h2, h3⟩ | ⟨h1, h2, h3⟩
    all_goals
      go_enter Tryz.func216, Tryz.ntmps216
      go_wp2_with (first | (go_at_call 215; first | (refine (okS_in _ _ (by omega) (by omega)).mono ?_; rintro e w' ⟨rfl, rfl⟩) | (refine (okS_out _ _ (by omega)).mono ?_; rintro e w' ⟨rfl, rfl⟩)) | (go_at_call 54; first | (refine (inS_in _ _ _ _ (by omega) (by omega)).mono ?_; rintro e w' ⟨rfl, rfl⟩) | (refine (inS_out _ _ _ _ (by omega)).mono ?_; rintro e w' ⟨rfl, rfl⟩)))
      go_ret
      exact ⟨rfl, rfl⟩
theorem inverse (a : Int) (w : World) (h1 : 0 ≤ a) (h2 : a ≤ 100) :
    Calls Tryz.prog 207 #[.int .i64 a] w fun e w' => e = .returned (.int .i64 (iv a)) ∧ w' = w := by
  go_enter Tryz.func207, Tryz.ntmps207
  go_wp2_with (first | (go_at_call 152; refine (power _ _ _ (by omega) (by omega) (by omega) (by omega)).mono ?_; rintro e w' ⟨rfl, rfl⟩))
  go_ret
  exact ⟨rfl, rfl⟩
theorem invS (a : Int) (w : World) :
    Calls Tryz.prog 206 #[.int .i64 a] w fun e w' => e = .returned (.int .i64 (fInv a)) ∧ w' = w := by
  go_enter Tryz.func206, Tryz.ntmps206
  go_wp2_with (first | (go_at_call 216; refine (powS _ _ _).mono ?_; rintro e w' ⟨rfl, rfl⟩))
  go_ret
  exact ⟨ret_int (fPow_iv a), rfl⟩
theorem countI_in (a : Int) (w : World) (h1 : 0 ≤ a) (h2 : a ≤ 60) :
    Calls Tryz.prog 195 #[.int .i64 a] w fun e w' => e = .returned (.bool true) ∧ w' = w := by
  have d1 : decide (a ≤ 60) = true := decide_eq_true h2
  go_enter Tryz.func195, Tryz.ntmps195
  go_wp2
  go_ret
  exact ⟨rfl, rfl⟩
theorem countI_out (a : Int) (w : World) (h : a < 0 ∨ 60 < a) :
    Calls Tryz.prog 195 #[.int .i64 a] w fun e w' => e = .returned (.bool false) ∧ w' = w := by
  rcases h with h | h
  · go_enter Tryz.func195, Tryz.ntmps195
    go_wp2
    go_ret
    exact ⟨rfl, rfl⟩
  · have d1 : decide (a ≤ 60) = false := decide_eq_false (by omega)
    go_enter Tryz.func195, Tryz.ntmps195
    go_wp2
    go_ret
    exact ⟨rfl, rfl⟩
set_option maxHeartbeats 400000 in
theorem fall (n k : Int) (w : World) (h1 : 0 ≤ n) (h2 : n ≤ 60) (h3 : 0 ≤ k) (h4 : k ≤ 60) :
    Calls Tryz.prog 196 #[.int .i64 n, .int .i64 k] w fun e w' => e = .returned (.int .i64 (fl n k.toNat)) ∧ w' = w := by
  go_enter Tryz.func196, Tryz.ntmps196
  go_wp2
  go_loop [0, 5, 7] (fun a' r i => ∃ j : Nat, (j : Int) ≤ k ∧ (j : Int) ≤ n ∧ a' = .int .i64 (n - j) ∧ r = .int .i64 (fl n j) ∧ i = .int .i64 j) (fun _ _ i => (k - intOf i).toNat)
  case atStart => exact ⟨0, by omega, by omega, by simp, rfl, rfl⟩
  case round =>
    obtain ⟨j, hj, hjn, rfl, rfl, rfl⟩ := hrel
    obtain ⟨p1, p2⟩ := fl_bd n j
    by_cases hlt : (j : Int) < k
    · by_cases hz : n - (j : Int) = 0
      · have hb : (n - (j : Int) == 0) = true := by simp [hz]
        have hf : Hid (fl n k.toNat = 0) := fl_zero n j k.toNat (by omega) (by omega)
        clear hz
        go_wp2
        go_ret
        exact ⟨ret_int hf.out.symm, rfl⟩
      · have hb : (n - (j : Int) == 0) = false := by simp [hz]
        clear hz
        have hp : 0 < n - (j : Int) := by have := of_eq_false_beq hb; omega
        obtain ⟨t1, t2⟩ := mul_bd p1 p2 (show (0 : Int) ≤ n - j by omega) (show n - (j : Int) ≤ 100 by omega)
        have hs : Hid (fl n (j + 1) = fl n j * (n - j) % 101) := fl_step n j hjn h2
        go_wp2
        go_round
        case rel => exact ⟨j + 1, by omega, by omega, congrArg (Value.int .i64) (by omega), by rw [hs.out]; rfl, by go_num⟩
        case measure => simp [intOf]; omega
    · go_wp2
      go_ret
      exact ⟨ret_int (by rw [show k.toNat = j by omega]), rfl⟩
set_option maxHeartbeats 400000 in
theorem fallS (n k : Int) (w : World) :
    Calls Tryz.prog 104 #[.int .i64 n, .int .i64 k] w fun e w' => e = .returned (.int .i64 (fFall n k)) ∧ w' = w := by
  by_cases h : 0 ≤ n ∧ n ≤ 60 ∧ 0 ≤ k ∧ k ≤ 60
  · rw [fFall_in h.1 h.2.1 h.2.2.1 h.2.2.2]
    obtain ⟨h1, h2, h3, h4⟩ := h
    go_enter Tryz.func104, Tryz.ntmps104
    go_wp2_with (first | (go_at_call 54; first | (refine (inS_in _ _ _ _ (by omega) (by omega)).mono ?_; rintro e w' ⟨rfl, rfl⟩) | (refine (inS_out _ _ _ _ (by omega)).mono ?_; rintro e w' ⟨rfl, rfl⟩)))
    go_loop [5, 6] (fun x i => ∃ j : Nat, (j : Int) ≤ k ∧ i = .int .i64 j ∧ x = .int .i64 (fl n j)) (fun _ i => (k - intOf i).toNat)
    case atStart => exact ⟨0, by omega, rfl, rfl⟩
    case round =>
      obtain ⟨j, hj, rfl, rfl⟩ := hrel
      obtain ⟨p1, p2⟩ := fl_bd n j
      by_cases hlt : (j : Int) < k
      · obtain ⟨t1, t2⟩ := mul_bd p1 p2 (show (0 : Int) ≤ (n - j) % 101 by omega) (show (n - (j : Int)) % 101 ≤ 100 by omega)
        go_wp2
        go_round
        case rel => exact ⟨j + 1, by omega, by go_num, rfl⟩
        case measure => simp [intOf]; omega
      · go_wp2
        go_ret
        exact ⟨ret_int (by rw [show k.toNat = j by omega]), rfl⟩
  · rw [fFall_out h]
    have h' : n < 0 ∨ 60 < n ∨ (0 ≤ n ∧ n ≤ 60 ∧ k < 0) ∨ (0 ≤ n ∧ n ≤ 60 ∧ 60 < k) := by omega
    clear h
    rcases h' with h | h | ⟨h1, h2, h3⟩ | ⟨h1, h2, h3⟩
    all_goals
      go_enter Tryz.func104, Tryz.ntmps104
      go_wp2_with (first | (go_at_call 54; first | (refine (inS_in _ _ _ _ (by omega) (by omega)).mono ?_; rintro e w' ⟨rfl, rfl⟩) | (refine (inS_out _ _ _ _ (by omega)).mono ?_; rintro e w' ⟨rfl, rfl⟩)))
      go_ret
      exact ⟨rfl, rfl⟩
theorem fallI (n k : Int) (w : World) :
    Calls Tryz.prog 178 #[.int .i64 n, .int .i64 k] w fun e w' => e = .returned (.int .i64 (fFall n k)) ∧ w' = w := by
  by_cases h : 0 ≤ n ∧ n ≤ 60 ∧ 0 ≤ k ∧ k ≤ 60
  · rw [fFall_in h.1 h.2.1 h.2.2.1 h.2.2.2]
    obtain ⟨h1, h2, h3, h4⟩ := h
    go_enter Tryz.func178, Tryz.ntmps178
    go_wp2_with (first | (go_at_call 195; first | (refine (countI_in _ _ (by omega) (by omega)).mono ?_; rintro e w' ⟨rfl, rfl⟩) | (refine (countI_out _ _ (by omega)).mono ?_; rintro e w' ⟨rfl, rfl⟩)) | (go_at_call 196; refine (fall _ _ _ (by omega) (by omega) (by omega) (by omega)).mono ?_; rintro e w' ⟨rfl, rfl⟩))
    go_ret
    exact ⟨rfl, rfl⟩
  · rw [fFall_out h]
    have h' : n < 0 ∨ 60 < n ∨ (0 ≤ n ∧ n ≤ 60 ∧ k < 0) ∨ (0 ≤ n ∧ n ≤ 60 ∧ 60 < k) := by omega
    clear h
    rcases h' with h | h | ⟨h1, h2, h3⟩ | ⟨h1, h2, h3⟩
    all_goals
      go_enter Tryz.func178, Tryz.ntmps178
      go_wp2_with (first | (go_at_call 195; first | (refine (countI_in _ _ (by omega) (by omega)).mono ?_; rintro e w' ⟨rfl, rfl⟩) | (refine (countI_out _ _ (by omega)).mono ?_; rintro e w' ⟨rfl, rfl⟩)) | (go_at_call 196; refine (fall _ _ _ (by omega) (by omega) (by omega) (by omega)).mono ?_; rintro e w' ⟨rfl, rfl⟩))
      go_ret
      exact ⟨rfl, rfl⟩
set_option maxRecDepth 100000 in
theorem chooseI (n k : Int) (w : World) :
    Calls Tryz.prog 190 #[.int .i64 n, .int .i64 k] w fun e w' => e = .returned (.int .i64 (fChoose n k)) ∧ w' = w := by
  by_cases h : 0 ≤ n ∧ n ≤ 60 ∧ 0 ≤ k ∧ k ≤ n
  · rw [fChoose_in h.1 h.2.1 h.2.2.1 h.2.2.2]
    obtain ⟨h1, h2, h3, h4⟩ := h
    obtain ⟨p1, p2⟩ := fl_bd n k.toNat
    obtain ⟨q1, q2⟩ := fl_bd k k.toNat
    obtain ⟨r1, r2⟩ := iv_bd (fl k k.toNat)
    have d1 : decide (n < k) = false := decide_eq_false (by omega)
    go_enter Tryz.func190, Tryz.ntmps190
    go_wp2_with (first | (go_at_call 195; first | (refine (countI_in _ _ (by omega) (by omega)).mono ?_; rintro e w' ⟨rfl, rfl⟩) | (refine (countI_out _ _ (by omega)).mono ?_; rintro e w' ⟨rfl, rfl⟩)) | (go_at_call 196; refine (fall _ _ _ (by omega) (by omega) (by omega) (by omega)).mono ?_; rintro e w' ⟨rfl, rfl⟩) | (go_at_call 207; refine (inverse _ _ (by omega) (by omega)).mono ?_; rintro e w' ⟨rfl, rfl⟩) | (go_at_call 151; refine (times _ _ _ (by omega) (by omega) (by omega) (by omega)).mono ?_; rintro e w' ⟨rfl, rfl⟩))
    go_ret
    exact ⟨rfl, rfl⟩
  · rw [fChoose_out h]
    have h' : n < 0 ∨ 60 < n ∨ (0 ≤ n ∧ n ≤ 60 ∧ k < 0) ∨ (0 ≤ n ∧ n ≤ 60 ∧ 0 ≤ k ∧ n < k) := by omega
    clear h
    rcases h' with h | h | ⟨h1, h2, h3⟩ | ⟨h1, h2, h3, h4⟩
    all_goals
      go_enter Tryz.func190, Tryz.ntmps190
      go_wp2_with (first | (go_at_call 195; first | (refine (countI_in _ _ (by omega) (by omega)).mono ?_; rintro e w' ⟨rfl, rfl⟩) | (refine (countI_out _ _ (by omega)).mono ?_; rintro e w' ⟨rfl, rfl⟩)) | (go_at_call 196; refine (fall _ _ _ (by omega) (by omega) (by omega) (by omega)).mono ?_; rintro e w' ⟨rfl, rfl⟩))
      go_ret
      exact ⟨rfl, rfl⟩
theorem chooseS (n k : Int) (w : World) :
    Calls Tryz.prog 186 #[.int .i64 n, .int .i64 k] w fun e w' => e = .returned (.int .i64 (fChoose n k)) ∧ w' = w := by
  by_cases h : 0 ≤ n ∧ n ≤ 60 ∧ 0 ≤ k ∧ k ≤ n
  · rw [← fChoose_mul h.1 h.2.1 h.2.2.1 h.2.2.2]
    obtain ⟨h1, h2, h3, h4⟩ := h
    go_enter Tryz.func186, Tryz.ntmps186
    go_wp2_with (first | (go_at_call 54; first | (refine (inS_in _ _ _ _ (by omega) (by omega)).mono ?_; rintro e w' ⟨rfl, rfl⟩) | (refine (inS_out _ _ _ _ (by omega)).mono ?_; rintro e w' ⟨rfl, rfl⟩)) | (go_at_call 104; refine (fallS _ _ _).mono ?_; rintro e w' ⟨rfl, rfl⟩) | (go_at_call 206; refine (invS _ _).mono ?_; rintro e w' ⟨rfl, rfl⟩) | (go_at_call 205; refine (mulS _ _ _).mono ?_; rintro e w' ⟨rfl, rfl⟩))
    go_ret
    exact ⟨rfl, rfl⟩
  · rw [fChoose_out h]
    have h' : n < 0 ∨ 60 < n ∨ (0 ≤ n ∧ n ≤ 60 ∧ k < 0) ∨ (0 ≤ n ∧ n ≤ 60 ∧ 0 ≤ k ∧ n < k) := by omega
    clear h
    rcases h' with h | h | ⟨h1, h2, h3⟩ | ⟨h1, h2, h3, h4⟩
    all_goals
      go_enter Tryz.func186, Tryz.ntmps186
      go_wp2_with (first | (go_at_call 54; first | (refine (inS_in _ _ _ _ (by omega) (by omega)).mono ?_; rintro e w' ⟨rfl, rfl⟩) | (refine (inS_out _ _ _ _ (by omega)).mono ?_; rintro e w' ⟨rfl, rfl⟩)))
      go_ret
      exact ⟨rfl, rfl⟩
end Go.Proofs.YtkcmamepoplcdaaGreatDoor
namespace Go.Proofs.YtkcmamepoplcdaaGreatDoor
open Go.RowKit
set_option linter.unusedVariables false

/-- a monomial: how often each factor stands in it. -/
structure M where
  x : Int
  y : Int
  d : Int
  e : Int
def M.ok (m : M) : Bool := decide (0 ≤ m.x ∧ m.x ≤ 15 ∧ 0 ≤ m.y ∧ m.y ≤ 15 ∧ 0 ≤ m.d ∧ m.d ≤ 15 ∧ 0 ≤ m.e ∧ m.e ≤ 15)
theorem M.ok_iff {m : M} : m.ok = true ↔ 0 ≤ m.x ∧ m.x ≤ 15 ∧ 0 ≤ m.y ∧ m.y ≤ 15 ∧ 0 ≤ m.d ∧ m.d ≤ 15 ∧ 0 ≤ m.e ∧ m.e ≤ 15 := by simp [M.ok]
theorem M.ok_not {m : M} : m.ok = false ↔ ¬ (0 ≤ m.x ∧ m.x ≤ 15 ∧ 0 ≤ m.y ∧ m.y ≤ 15 ∧ 0 ≤ m.d ∧ m.d ≤ 15 ∧ 0 ≤ m.e ∧ m.e ≤ 15) := by
  rw [← M.ok_iff]; simp
def M.deg (m : M) : Int := if m.ok then m.x + m.y + m.d + m.e else 0
/-- less, the same, more. -/
def c3 (a b : Int) : Int := if a < b then -1 else if b < a then 1 else 0
def M.lex (a b : M) : Int := if a.d ≠ b.d then c3 a.d b.d else if a.e ≠ b.e then c3 a.e b.e else if a.x ≠ b.x then c3 a.x b.x else c3 a.y b.y
def M.ord (o : Int) (a b : M) : Int :=
  if o = 1 ∧ a.deg ≠ b.deg then c3 a.deg b.deg else if o = 3 ∧ a.d + a.x ≠ b.d + b.x then c3 (a.d + a.x) (b.d + b.x) else M.lex a b
def M.cmp (o : Int) (a b : M) : Int := if (1 ≤ o ∧ o ≤ 3) ∧ a.ok = true ∧ b.ok = true then M.ord o a b else 0
def M.zero : M := ⟨0, 0, 0, 0⟩
def M.sum (a b : M) : M := ⟨a.x + b.x, a.y + b.y, a.d + b.d, a.e + b.e⟩
def M.mul (a b : M) : M × Bool := if a.ok = true ∧ b.ok = true ∧ (a.sum b).ok = true then (a.sum b, true) else (M.zero, false)
def M.dvd (a b : M) : Bool := a.ok && b.ok && decide (a.x ≤ b.x ∧ a.y ≤ b.y ∧ a.d ≤ b.d ∧ a.e ≤ b.e)
def M.diff (b a : M) : M := ⟨b.x - a.x, b.y - a.y, b.d - a.d, b.e - a.e⟩
def M.over (b a : M) : M × Bool := if a.dvd b = true then (b.diff a, true) else (M.zero, false)
def mx (a b : Int) : Int := if b < a then a else b
def M.both (a b : M) : M := if a.ok = true ∧ b.ok = true then ⟨mx a.x b.x, mx a.y b.y, mx a.d b.d, mx a.e b.e⟩ else M.zero
theorem Hid.mk' {p : Prop} (h : p) : Hid p := h
theorem bcell {W w1 : World} (hb : Below W.heap.size W w1) : (∀ b o, b < W.heap.size → w1.cell? ⟨b, o, none⟩ = W.cell? ⟨b, o, none⟩) ∧ (∀ b o, b < W.heap.size → w1.frozen? ⟨b, o, none⟩ = W.frozen? ⟨b, o, none⟩) :=
  ⟨fun b o h => hb.cell (p := ⟨b, o, none⟩) h, fun b o h => hb.frozen (p := ⟨b, o, none⟩) h⟩

set_option maxHeartbeats 400000 in
theorem monOkS (x y d e : Int) (w : World) :
    Calls Tryz.prog 60 #[.agg #[.int .i64 x, .int .i64 y, .int .i64 d, .int .i64 e]] w fun r w' => r = .returned (.bool (M.ok ⟨x, y, d, e⟩)) ∧ Below w.heap.size w w' := by
  by_cases hx : 0 ≤ x ∧ x ≤ 15
  · by_cases hy : 0 ≤ y ∧ y ≤ 15
    · by_cases hd : 0 ≤ d ∧ d ≤ 15
      · by_cases he : 0 ≤ e ∧ e ≤ 15
        · rw [M.ok_iff.2 ⟨hx.1, hx.2, hy.1, hy.2, hd.1, hd.2, he.1, he.2⟩]
          obtain ⟨x1, x2⟩ := hx
          obtain ⟨y1, y2⟩ := hy
          obtain ⟨d1, d2⟩ := hd
          obtain ⟨e1, e2⟩ := he
          go_enter Tryz.func60, Tryz.ntmps60
          go_wp2_with (first | (go_at_call 54; first | (refine (inS_in _ _ _ _ (by omega) (by omega)).mono ?_; rintro e w' ⟨rfl, rfl⟩) | (refine (inS_out _ _ _ _ (by omega)).mono ?_; rintro e w' ⟨rfl, rfl⟩)))
          go_ret
          exact ⟨rfl, (Below.refl _ _).alloc (Nat.le_refl _) _⟩
        · rw [M.ok_not.2 (fun h => he ⟨h.2.2.2.2.2.2.1, h.2.2.2.2.2.2.2⟩)]
          go_enter Tryz.func60, Tryz.ntmps60
          go_wp2_with (first | (go_at_call 54; first | (refine (inS_in _ _ _ _ (by omega) (by omega)).mono ?_; rintro e w' ⟨rfl, rfl⟩) | (refine (inS_out _ _ _ _ (by omega)).mono ?_; rintro e w' ⟨rfl, rfl⟩)))
          go_ret
          exact ⟨rfl, (Below.refl _ _).alloc (Nat.le_refl _) _⟩
      · rw [M.ok_not.2 (fun h => hd ⟨h.2.2.2.2.1, h.2.2.2.2.2.1⟩)]
        go_enter Tryz.func60, Tryz.ntmps60
        go_wp2_with (first | (go_at_call 54; first | (refine (inS_in _ _ _ _ (by omega) (by omega)).mono ?_; rintro e w' ⟨rfl, rfl⟩) | (refine (inS_out _ _ _ _ (by omega)).mono ?_; rintro e w' ⟨rfl, rfl⟩)))
        go_ret
        exact ⟨rfl, (Below.refl _ _).alloc (Nat.le_refl _) _⟩
    · rw [M.ok_not.2 (fun h => hy ⟨h.2.2.1, h.2.2.2.1⟩)]
      go_enter Tryz.func60, Tryz.ntmps60
      go_wp2_with (first | (go_at_call 54; first | (refine (inS_in _ _ _ _ (by omega) (by omega)).mono ?_; rintro e w' ⟨rfl, rfl⟩) | (refine (inS_out _ _ _ _ (by omega)).mono ?_; rintro e w' ⟨rfl, rfl⟩)))
      go_ret
      exact ⟨rfl, (Below.refl _ _).alloc (Nat.le_refl _) _⟩
  · rw [M.ok_not.2 (fun h => hx ⟨h.1, h.2.1⟩)]
    go_enter Tryz.func60, Tryz.ntmps60
    go_wp2_with (first | (go_at_call 54; first | (refine (inS_in _ _ _ _ (by omega) (by omega)).mono ?_; rintro e w' ⟨rfl, rfl⟩) | (refine (inS_out _ _ _ _ (by omega)).mono ?_; rintro e w' ⟨rfl, rfl⟩)))
    go_ret
    exact ⟨rfl, (Below.refl _ _).alloc (Nat.le_refl _) _⟩
theorem monOkS_of {x y d e : Int} {b : Bool} (h : M.ok ⟨x, y, d, e⟩ = b) (w : World) :
    Calls Tryz.prog 60 #[.agg #[.int .i64 x, .int .i64 y, .int .i64 d, .int .i64 e]] w fun r w' => r = .returned (.bool b) ∧ Below w.heap.size w w' := by
  rw [← h]; exact monOkS x y d e w
theorem monDegS (x y d e : Int) (w : World) :
    Calls Tryz.prog 90 #[.agg #[.int .i64 x, .int .i64 y, .int .i64 d, .int .i64 e]] w fun r w' => r = .returned (.int .i64 (M.deg ⟨x, y, d, e⟩)) ∧ Below w.heap.size w w' := by
  cases h : M.ok ⟨x, y, d, e⟩
  · have hd : M.deg ⟨x, y, d, e⟩ = 0 := by simp [M.deg, h]
    rw [hd]
    go_enter Tryz.func90, Tryz.ntmps90
    go_wp2_with fail
    refine (monOkS _ _ _ _ _).mono ?_
    rw [h]
    rintro r w1 ⟨rfl, hb⟩
    go_wp2
    go_ret
    exact ⟨rfl, (Below.refl _ _).trans (((Below.refl _ _).alloc (Nat.le_refl _) _).trans (hb.mono (by simp)))⟩
  · have hd : M.deg ⟨x, y, d, e⟩ = x + y + d + e := by simp [M.deg, h]
    rw [hd]
    obtain ⟨x1, x2, y1, y2, d1, d2, e1, e2⟩ := M.ok_iff.1 h
    simp only at x1 x2 y1 y2 d1 d2 e1 e2
    go_enter Tryz.func90, Tryz.ntmps90
    go_wp2_with fail
    refine (monOkS _ _ _ _ _).mono ?_
    rw [h]
    rintro r w1 ⟨rfl, hb⟩
    obtain ⟨hc, hf⟩ := bcell hb
    go_wp2
    go_ret
    exact ⟨rfl, ((Below.refl _ _).alloc (Nat.le_refl _) _).trans (hb.mono (by simp))⟩
theorem cmpS (a b : Int) (w : World) :
    Calls Tryz.prog 91 #[.int .i64 a, .int .i64 b] w fun r w' => r = .returned (.int .i64 (c3 a b)) ∧ w' = w := by
  by_cases h1 : a < b
  · have e1 : c3 a b = -1 := by simp [c3, h1]
    rw [e1]
    go_enter Tryz.func91, Tryz.ntmps91
    go_wp2
    go_ret
    exact ⟨rfl, rfl⟩
  · by_cases h2 : b < a
    · have e1 : c3 a b = 1 := by simp [c3, h1, h2]
      rw [e1]
      go_enter Tryz.func91, Tryz.ntmps91
      go_wp2
      go_ret
      exact ⟨rfl, rfl⟩
    · have e1 : c3 a b = 0 := by simp [c3, h1, h2]
      rw [e1]
      go_enter Tryz.func91, Tryz.ntmps91
      go_wp2
      go_ret
      exact ⟨rfl, rfl⟩
set_option maxHeartbeats 400000 in
theorem lexS (x y d e x' y' d' e' : Int) (w : World) :
    Calls Tryz.prog 92 #[.agg #[.int .i64 x, .int .i64 y, .int .i64 d, .int .i64 e], .agg #[.int .i64 x', .int .i64 y', .int .i64 d', .int .i64 e']] w fun r w' => r = .returned (.int .i64 (M.lex ⟨x, y, d, e⟩ ⟨x', y', d', e'⟩)) ∧ Below w.heap.size w w' := by
  by_cases hd : d = d'
  · by_cases he : e = e'
    · by_cases hx : x = x'
      · have e1 : M.lex ⟨x, y, d, e⟩ ⟨x', y', d', e'⟩ = c3 y y' := by simp [M.lex, hd, he, hx]
        rw [e1]
        have b1 : (d != d') = false := by simp [hd]
        have b2 : (e != e') = false := by simp [he]
        have b3 : (x != x') = false := by simp [hx]
        clear hd he hx e1
        go_enter Tryz.func92, Tryz.ntmps92
        go_wp2_with (first | (go_at_call 91; refine (cmpS _ _ _).mono ?_; rintro r w' ⟨rfl, rfl⟩))
        go_ret
        exact ⟨rfl, ((Below.refl _ _).alloc (Nat.le_refl _) _).alloc (by simp) _⟩
      · have e1 : M.lex ⟨x, y, d, e⟩ ⟨x', y', d', e'⟩ = c3 x x' := by simp [M.lex, hd, he, hx]
        rw [e1]
        have b1 : (d != d') = false := by simp [hd]
        have b2 : (e != e') = false := by simp [he]
        have b3 : (x != x') = true := by simp [hx]
        clear hd he hx e1
        go_enter Tryz.func92, Tryz.ntmps92
        go_wp2_with (first | (go_at_call 91; refine (cmpS _ _ _).mono ?_; rintro r w' ⟨rfl, rfl⟩))
        go_ret
        exact ⟨rfl, ((Below.refl _ _).alloc (Nat.le_refl _) _).alloc (by simp) _⟩
    · have e1 : M.lex ⟨x, y, d, e⟩ ⟨x', y', d', e'⟩ = c3 e e' := by simp [M.lex, hd, he]
      rw [e1]
      have b1 : (d != d') = false := by simp [hd]
      have b2 : (e != e') = true := by simp [he]
      clear hd he e1
      go_enter Tryz.func92, Tryz.ntmps92
      go_wp2_with (first | (go_at_call 91; refine (cmpS _ _ _).mono ?_; rintro r w' ⟨rfl, rfl⟩))
      go_ret
      exact ⟨rfl, ((Below.refl _ _).alloc (Nat.le_refl _) _).alloc (by simp) _⟩
  · have e1 : M.lex ⟨x, y, d, e⟩ ⟨x', y', d', e'⟩ = c3 d d' := by simp [M.lex, hd]
    rw [e1]
    have b1 : (d != d') = true := by simp [hd]
    clear hd e1
    go_enter Tryz.func92, Tryz.ntmps92
    go_wp2_with (first | (go_at_call 91; refine (cmpS _ _ _).mono ?_; rintro r w' ⟨rfl, rfl⟩))
    go_ret
    exact ⟨rfl, ((Below.refl _ _).alloc (Nat.le_refl _) _).alloc (by simp) _⟩
theorem bel_next {w W W' : World} (a : Below w.heap.size w W) (h : Below W.heap.size W W') : Below w.heap.size w W' := a.trans (h.mono a.size)
theorem bel_two (w : World) (A B : Obj) : Below w.heap.size w ((w.alloc A).alloc B) := ((Below.refl _ _).alloc (Nat.le_refl _) _).alloc (by simp) _
theorem bel_three (w : World) (A B C : Obj) : Below w.heap.size w (((w.alloc A).alloc B).alloc C) := (bel_two w A B).alloc (bel_two w A B).size _
theorem bel_set4 {n B : Nat} {a w : World} (h : Below n a w) (hB : n ≤ B) (u0 u1 u2 u3 : Value) : Below n a ((((w.setCell ⟨B, 0, none⟩ u0).setCell ⟨B, 1, none⟩ u1).setCell ⟨B, 2, none⟩ u2).setCell ⟨B, 3, none⟩ u3) :=
  (((h.setCell hB u0).setCell hB u1).setCell hB u2).setCell hB u3
set_option maxHeartbeats 1000000 in
theorem ordS1 (x y d e x' y' d' e' : Int) (w : World) :
    Calls Tryz.prog 61 #[.int .i64 1, .agg #[.int .i64 x, .int .i64 y, .int .i64 d, .int .i64 e], .agg #[.int .i64 x', .int .i64 y', .int .i64 d', .int .i64 e']] w fun r w' => r = .returned (.int .i64 (M.ord 1 ⟨x, y, d, e⟩ ⟨x', y', d', e'⟩)) ∧ Below w.heap.size w w' := by
  by_cases hd : M.deg ⟨x, y, d, e⟩ = M.deg ⟨x', y', d', e'⟩
  · have e1 : M.ord 1 ⟨x, y, d, e⟩ ⟨x', y', d', e'⟩ = M.lex ⟨x, y, d, e⟩ ⟨x', y', d', e'⟩ := by simp [M.ord, hd]
    rw [e1]
    have b1 : (M.deg ⟨x, y, d, e⟩ != M.deg ⟨x', y', d', e'⟩) = false := by simp [hd]
    clear hd e1
    go_enter Tryz.func61, Tryz.ntmps61
    go_wp2_with fail
    go_region_held3 (fun u => u.cell? ⟨w.heap.size, 0, none⟩ = some (.int .i64 x) ∧ u.cell? ⟨w.heap.size, 1, none⟩ = some (.int .i64 y) ∧ u.cell? ⟨w.heap.size, 2, none⟩ = some (.int .i64 d) ∧ u.cell? ⟨w.heap.size, 3, none⟩ = some (.int .i64 e) ∧ u.cell? ⟨w.heap.size + 1, 0, none⟩ = some (.int .i64 x') ∧ u.cell? ⟨w.heap.size + 1, 1, none⟩ = some (.int .i64 y') ∧ u.cell? ⟨w.heap.size + 1, 2, none⟩ = some (.int .i64 d') ∧ u.cell? ⟨w.heap.size + 1, 3, none⟩ = some (.int .i64 e')) ((go_light; first | (refine ⟨?_, ?_, ?_, ?_, ?_, ?_, ?_, ?_⟩ <;> (simp only [(bcell hb4).1 _ _ hz3, (bcell hb4).1 _ _ hy3, *]; done)) | (refine ⟨?_, ?_, ?_, ?_, ?_, ?_, ?_, ?_⟩ <;> (simp only [(bcell hb3).1 _ _ hz2, (bcell hb3).1 _ _ hy2, *]; done)) | (refine ⟨?_, ?_, ?_, ?_, ?_, ?_, ?_, ?_⟩ <;> (simp only [(bcell hb2).1 _ _ hz1, (bcell hb2).1 _ _ hy1, *]; done)) | (have hc := (bcell hb1).1; refine ⟨?_, ?_, ?_, ?_, ?_, ?_, ?_, ?_⟩ <;> go_simp <;> done) | (refine ⟨?_, ?_, ?_, ?_, ?_, ?_, ?_, ?_⟩ <;> go_simp <;> done))) (first | (go_at_call_of 90 (Value.int IntKind.i64 x); refine (monDegS x y d e _).mono ?_; rintro r w1 ⟨rfl, hb1⟩; have hz1 : w.heap.size < w1.heap.size := (by have := hb1.size; first | omega | (simp at this; omega)); have hy1 : w.heap.size + 1 < w1.heap.size := (by have := hb1.size; first | omega | (simp at this; omega))) | (go_at_call_of 90 (Value.int IntKind.i64 x'); refine (monDegS x' y' d' e' _).mono ?_; rintro r w2 ⟨rfl, hb2⟩; have hz2 : w.heap.size < w2.heap.size := (by have := hb2.size; first | omega | (simp at this; omega)); have hy2 : w.heap.size + 1 < w2.heap.size := (by have := hb2.size; first | omega | (simp at this; omega))))
    go_wp2_with (first | (go_at_call 92; refine (lexS x y d e x' y' d' e' _).mono ?_; rintro r w5 ⟨rfl, hb5⟩))
    go_ret
    exact ⟨rfl, bel_next (bel_next (bel_next (bel_two w _ _).drew hb1) hb2) hb5⟩
  · have e1 : M.ord 1 ⟨x, y, d, e⟩ ⟨x', y', d', e'⟩ = c3 (M.deg ⟨x, y, d, e⟩) (M.deg ⟨x', y', d', e'⟩) := by simp [M.ord, hd]
    rw [e1]
    have b1 : (M.deg ⟨x, y, d, e⟩ != M.deg ⟨x', y', d', e'⟩) = true := by simp [hd]
    clear hd e1
    go_enter Tryz.func61, Tryz.ntmps61
    go_wp2_with fail
    go_region_held3 (fun u => u.cell? ⟨w.heap.size, 0, none⟩ = some (.int .i64 x) ∧ u.cell? ⟨w.heap.size, 1, none⟩ = some (.int .i64 y) ∧ u.cell? ⟨w.heap.size, 2, none⟩ = some (.int .i64 d) ∧ u.cell? ⟨w.heap.size, 3, none⟩ = some (.int .i64 e) ∧ u.cell? ⟨w.heap.size + 1, 0, none⟩ = some (.int .i64 x') ∧ u.cell? ⟨w.heap.size + 1, 1, none⟩ = some (.int .i64 y') ∧ u.cell? ⟨w.heap.size + 1, 2, none⟩ = some (.int .i64 d') ∧ u.cell? ⟨w.heap.size + 1, 3, none⟩ = some (.int .i64 e')) ((go_light; first | (refine ⟨?_, ?_, ?_, ?_, ?_, ?_, ?_, ?_⟩ <;> (simp only [(bcell hb4).1 _ _ hz3, (bcell hb4).1 _ _ hy3, *]; done)) | (refine ⟨?_, ?_, ?_, ?_, ?_, ?_, ?_, ?_⟩ <;> (simp only [(bcell hb3).1 _ _ hz2, (bcell hb3).1 _ _ hy2, *]; done)) | (refine ⟨?_, ?_, ?_, ?_, ?_, ?_, ?_, ?_⟩ <;> (simp only [(bcell hb2).1 _ _ hz1, (bcell hb2).1 _ _ hy1, *]; done)) | (have hc := (bcell hb1).1; refine ⟨?_, ?_, ?_, ?_, ?_, ?_, ?_, ?_⟩ <;> go_simp <;> done) | (refine ⟨?_, ?_, ?_, ?_, ?_, ?_, ?_, ?_⟩ <;> go_simp <;> done))) (first | (go_at_call_of 90 (Value.int IntKind.i64 x); refine (monDegS x y d e _).mono ?_; rintro r w1 ⟨rfl, hb1⟩; have hz1 : w.heap.size < w1.heap.size := (by have := hb1.size; first | omega | (simp at this; omega)); have hy1 : w.heap.size + 1 < w1.heap.size := (by have := hb1.size; first | omega | (simp at this; omega))) | (go_at_call_of 90 (Value.int IntKind.i64 x'); refine (monDegS x' y' d' e' _).mono ?_; rintro r w2 ⟨rfl, hb2⟩; have hz2 : w.heap.size < w2.heap.size := (by have := hb2.size; first | omega | (simp at this; omega)); have hy2 : w.heap.size + 1 < w2.heap.size := (by have := hb2.size; first | omega | (simp at this; omega))))
    go_wp2_with fail
    go_region_held3 (fun u => u.cell? ⟨w.heap.size, 0, none⟩ = some (.int .i64 x) ∧ u.cell? ⟨w.heap.size, 1, none⟩ = some (.int .i64 y) ∧ u.cell? ⟨w.heap.size, 2, none⟩ = some (.int .i64 d) ∧ u.cell? ⟨w.heap.size, 3, none⟩ = some (.int .i64 e) ∧ u.cell? ⟨w.heap.size + 1, 0, none⟩ = some (.int .i64 x') ∧ u.cell? ⟨w.heap.size + 1, 1, none⟩ = some (.int .i64 y') ∧ u.cell? ⟨w.heap.size + 1, 2, none⟩ = some (.int .i64 d') ∧ u.cell? ⟨w.heap.size + 1, 3, none⟩ = some (.int .i64 e')) ((go_light; first | (refine ⟨?_, ?_, ?_, ?_, ?_, ?_, ?_, ?_⟩ <;> (simp only [(bcell hb4).1 _ _ hz3, (bcell hb4).1 _ _ hy3, *]; done)) | (refine ⟨?_, ?_, ?_, ?_, ?_, ?_, ?_, ?_⟩ <;> (simp only [(bcell hb3).1 _ _ hz2, (bcell hb3).1 _ _ hy2, *]; done)) | (refine ⟨?_, ?_, ?_, ?_, ?_, ?_, ?_, ?_⟩ <;> (simp only [(bcell hb2).1 _ _ hz1, (bcell hb2).1 _ _ hy1, *]; done)) | (have hc := (bcell hb1).1; refine ⟨?_, ?_, ?_, ?_, ?_, ?_, ?_, ?_⟩ <;> go_simp <;> done) | (refine ⟨?_, ?_, ?_, ?_, ?_, ?_, ?_, ?_⟩ <;> go_simp <;> done))) (first | (go_at_call_of 90 (Value.int IntKind.i64 x); refine (monDegS x y d e _).mono ?_; rintro r w3 ⟨rfl, hb3⟩; have hz3 : w.heap.size < w3.heap.size := (by have := hb3.size; first | omega | (simp at this; omega)); have hy3 : w.heap.size + 1 < w3.heap.size := (by have := hb3.size; first | omega | (simp at this; omega))) | (go_at_call_of 90 (Value.int IntKind.i64 x'); refine (monDegS x' y' d' e' _).mono ?_; rintro r w4 ⟨rfl, hb4⟩; have hz4 : w.heap.size < w4.heap.size := (by have := hb4.size; first | omega | (simp at this; omega)); have hy4 : w.heap.size + 1 < w4.heap.size := (by have := hb4.size; first | omega | (simp at this; omega))) | (go_at_call 91; refine (cmpS _ _ _).mono ?_; rintro r w' ⟨rfl, rfl⟩))
    go_wp2
    go_ret
    exact ⟨rfl, bel_next (bel_next (bel_next (bel_next (bel_two w _ _).drew hb1) hb2).drew hb3) hb4⟩
set_option maxHeartbeats 1000000 in
theorem ordS2 (o : Int) (x y d e x' y' d' e' : Int) (w : World) (h1 : o ≠ 1) (h3 : o ≠ 3) :
    Calls Tryz.prog 61 #[.int .i64 o, .agg #[.int .i64 x, .int .i64 y, .int .i64 d, .int .i64 e], .agg #[.int .i64 x', .int .i64 y', .int .i64 d', .int .i64 e']] w fun r w' => r = .returned (.int .i64 (M.ord o ⟨x, y, d, e⟩ ⟨x', y', d', e'⟩)) ∧ Below w.heap.size w w' := by
  have e1 : M.ord o ⟨x, y, d, e⟩ ⟨x', y', d', e'⟩ = M.lex ⟨x, y, d, e⟩ ⟨x', y', d', e'⟩ := by simp [M.ord, h1, h3]
  rw [e1]
  have b1 : (o == 1) = false := by simp [h1]
  have b3 : (o == 3) = false := by simp [h3]
  clear e1 h1 h3
  go_enter Tryz.func61, Tryz.ntmps61
  go_wp2_with fail
  go_region
  all_goals
    go_wp2_with (first | (go_at_call 92; refine (lexS x y d e x' y' d' e' _).mono ?_; rintro r w5 ⟨rfl, hb5⟩))
    go_ret
    exact ⟨rfl, bel_next (bel_two w _ _).drew hb5⟩
set_option maxHeartbeats 1000000 in
theorem ordS3 (x y d e x' y' d' e' : Int) (w : World) (ha : M.ok ⟨x, y, d, e⟩ = true) (hb : M.ok ⟨x', y', d', e'⟩ = true) :
    Calls Tryz.prog 61 #[.int .i64 3, .agg #[.int .i64 x, .int .i64 y, .int .i64 d, .int .i64 e], .agg #[.int .i64 x', .int .i64 y', .int .i64 d', .int .i64 e']] w fun r w' => r = .returned (.int .i64 (M.ord 3 ⟨x, y, d, e⟩ ⟨x', y', d', e'⟩)) ∧ Below w.heap.size w w' := by
  obtain ⟨x1, x2, y1, y2, d1, d2, e1, e2⟩ := M.ok_iff.1 ha
  obtain ⟨x3, x4, y3, y4, d3, d4, e3, e4⟩ := M.ok_iff.1 hb
  simp only at x1 x2 y1 y2 d1 d2 e1 e2 x3 x4 y3 y4 d3 d4 e3 e4
  clear ha hb
  by_cases hs : d + x = d' + x'
  · have r1 : M.ord 3 ⟨x, y, d, e⟩ ⟨x', y', d', e'⟩ = M.lex ⟨x, y, d, e⟩ ⟨x', y', d', e'⟩ := by simp [M.ord, hs]
    rw [r1]
    have b1 : (d + x != d' + x') = false := by simp [hs]
    clear hs r1
    go_enter Tryz.func61, Tryz.ntmps61
    go_wp2_with fail
    go_region
    all_goals
      go_wp2_with (first | (go_at_call 92; refine (lexS x y d e x' y' d' e' _).mono ?_; rintro r w5 ⟨rfl, hb5⟩) | (go_at_call 91; refine (cmpS _ _ _).mono ?_; rintro r w' ⟨rfl, rfl⟩))
      go_ret
      exact ⟨rfl, bel_next (bel_two w _ _).drew hb5⟩
  · have r1 : M.ord 3 ⟨x, y, d, e⟩ ⟨x', y', d', e'⟩ = c3 (d + x) (d' + x') := by simp [M.ord, hs]
    rw [r1]
    have b1 : (d + x != d' + x') = true := by simp [hs]
    clear hs r1
    go_enter Tryz.func61, Tryz.ntmps61
    go_wp2_with fail
    go_region
    all_goals
      go_wp2_with (first | (go_at_call 92; refine (lexS x y d e x' y' d' e' _).mono ?_; rintro r w5 ⟨rfl, hb5⟩) | (go_at_call 91; refine (cmpS _ _ _).mono ?_; rintro r w' ⟨rfl, rfl⟩))
      go_ret
      exact ⟨rfl, (bel_two w _ _).drew⟩
theorem ordS (o : Int) (x y d e x' y' d' e' : Int) (w : World) (h : o = 3 → M.ok ⟨x, y, d, e⟩ = true ∧ M.ok ⟨x', y', d', e'⟩ = true) :
    Calls Tryz.prog 61 #[.int .i64 o, .agg #[.int .i64 x, .int .i64 y, .int .i64 d, .int .i64 e], .agg #[.int .i64 x', .int .i64 y', .int .i64 d', .int .i64 e']] w fun r w' => r = .returned (.int .i64 (M.ord o ⟨x, y, d, e⟩ ⟨x', y', d', e'⟩)) ∧ Below w.heap.size w w' := by
  by_cases h1 : o = 1
  · subst h1; exact ordS1 x y d e x' y' d' e' w
  · by_cases h3 : o = 3
    · subst h3; exact ordS3 x y d e x' y' d' e' w (h rfl).1 (h rfl).2
    · exact ordS2 o x y d e x' y' d' e' w h1 h3
set_option maxHeartbeats 1000000 in
theorem monMulS (x y d e x' y' d' e' : Int) (w : World) :
    Calls Tryz.prog 163 #[.agg #[.int .i64 x, .int .i64 y, .int .i64 d, .int .i64 e], .agg #[.int .i64 x', .int .i64 y', .int .i64 d', .int .i64 e']] w fun r w' => r = .returned (.tuple #[.agg #[.int .i64 (M.mul ⟨x, y, d, e⟩ ⟨x', y', d', e'⟩).1.x, .int .i64 (M.mul ⟨x, y, d, e⟩ ⟨x', y', d', e'⟩).1.y, .int .i64 (M.mul ⟨x, y, d, e⟩ ⟨x', y', d', e'⟩).1.d, .int .i64 (M.mul ⟨x, y, d, e⟩ ⟨x', y', d', e'⟩).1.e], .bool (M.mul ⟨x, y, d, e⟩ ⟨x', y', d', e'⟩).2]) ∧ Below w.heap.size w w' := by
  cases ha : M.ok ⟨x, y, d, e⟩
  · have r1 : M.mul ⟨x, y, d, e⟩ ⟨x', y', d', e'⟩ = (M.zero, false) := by simp [M.mul, ha]
    rw [r1]
    simp only [M.zero]
    go_enter Tryz.func163, Tryz.ntmps163
    go_wp2_with fail
    refine (monOkS _ _ _ _ _).mono ?_
    rw [ha]
    rintro r w1 ⟨rfl, hb1⟩
    obtain ⟨hc1, hf1⟩ := bcell hb1
    have hz1 : w.heap.size + 1 + 1 < w1.heap.size := by have := hb1.size; simp at this; omega
    go_wp2
    refine bodyPost_ret (v := .tuple #[.agg #[.int .i64 0, .int .i64 0, .int .i64 0, .int .i64 0], .bool false]) (by simp [results, Tryz.results163, go_sem, *]) rfl ⟨rfl, ?_⟩
    exact bel_set4 (bel_next (bel_three w _ _ _) hb1) (by omega) _ _ _ _
  · cases hb : M.ok ⟨x', y', d', e'⟩
    · have r1 : M.mul ⟨x, y, d, e⟩ ⟨x', y', d', e'⟩ = (M.zero, false) := by simp [M.mul, hb]
      rw [r1]
      simp only [M.zero]
      clear r1
      go_enter Tryz.func163, Tryz.ntmps163
      go_wp2_with fail
      refine (monOkS _ _ _ _ _).mono ?_
      rw [ha]
      rintro r w1 ⟨rfl, hb1⟩
      obtain ⟨hc1, hf1⟩ := bcell hb1
      have hz1 : w.heap.size + 1 + 1 < w1.heap.size := by have := hb1.size; simp at this; omega
      go_wp2_with fail
      refine (monOkS _ _ _ _ _).mono ?_
      rw [hb]
      rintro r w2 ⟨rfl, hb2⟩
      obtain ⟨hc2, hf2⟩ := bcell hb2
      have hz2 : w.heap.size + 1 + 1 < w2.heap.size := by have := hb2.size; omega
      go_wp2
      refine bodyPost_ret (v := .tuple #[.agg #[.int .i64 0, .int .i64 0, .int .i64 0, .int .i64 0], .bool false]) (by simp [results, Tryz.results163, go_sem, *]) rfl ⟨rfl, ?_⟩
      exact bel_set4 (bel_next (bel_next (bel_three w _ _ _) hb1) hb2) (by omega) _ _ _ _
    · obtain ⟨x1, x2, y1, y2, d1, d2, e1, e2⟩ := M.ok_iff.1 ha
      obtain ⟨x3, x4, y3, y4, d3, d4, e3, e4⟩ := M.ok_iff.1 hb
      simp only at x1 x2 y1 y2 d1 d2 e1 e2 x3 x4 y3 y4 d3 d4 e3 e4
      cases hs : M.ok ⟨x + x', y + y', d + d', e + e'⟩
      · have r1 : M.mul ⟨x, y, d, e⟩ ⟨x', y', d', e'⟩ = (M.zero, false) := by simp [M.mul, M.sum, hs]
        rw [r1]
        simp only [M.zero]
        clear r1
        go_enter Tryz.func163, Tryz.ntmps163
        go_wp2_with fail
        refine (monOkS _ _ _ _ _).mono ?_
        rw [ha]
        rintro r w1 ⟨rfl, hb1⟩
        obtain ⟨hc1, hf1⟩ := bcell hb1
        have hz1 : w.heap.size + 1 + 1 < w1.heap.size := by have := hb1.size; simp at this; omega
        have hz0 : w.heap.size + 1 < w1.heap.size := by omega
        have hzz : w.heap.size < w1.heap.size := by omega
        go_wp2_with fail
        refine (monOkS _ _ _ _ _).mono ?_
        rw [hb]
        rintro r w2 ⟨rfl, hb2⟩
        obtain ⟨hc2, hf2⟩ := bcell hb2
        have hz2 : w.heap.size + 1 + 1 < w2.heap.size := by have := hb2.size; omega
        go_wp2_with fail
        refine (monOkS _ _ _ _ _).mono ?_
        rw [hs]
        rintro r w3 ⟨rfl, hb3⟩
        obtain ⟨hc3, hf3⟩ := bcell (bel_next ((Below.refl w2.heap.size w2).alloc (Nat.le_refl _) _) hb3)
        have ht : ∀ i, w3.cell? ⟨w2.heap.size, i, none⟩ = #[Value.int .i64 (x + x'), .int .i64 (y + y'), .int .i64 (d + d'), .int .i64 (e + e')][i]? := fun i => by
          rw [hb3.cell (p := ⟨w2.heap.size, i, none⟩) (by simp), World.cell?_alloc_at _ _ _ _ rfl]
        have hB := bel_next ((bel_next (bel_next (bel_three w _ _ _) hb1) hb2).alloc (bel_next (bel_next (bel_three w _ _ _) hb1) hb2).size _) hb3
        go_wp2
        refine bodyPost_ret (v := .tuple #[.agg #[.int .i64 0, .int .i64 0, .int .i64 0, .int .i64 0], .bool false]) (by simp [results, Tryz.results163, go_sem, *]) rfl ⟨rfl, ?_⟩
        exact bel_set4 hB (by omega) _ _ _ _
      · have r1 : M.mul ⟨x, y, d, e⟩ ⟨x', y', d', e'⟩ = (⟨x + x', y + y', d + d', e + e'⟩, true) := by simp [M.mul, M.sum, hs, ha, hb]
        rw [r1]
        clear r1
        go_enter Tryz.func163, Tryz.ntmps163
        go_wp2_with fail
        refine (monOkS _ _ _ _ _).mono ?_
        rw [ha]
        rintro r w1 ⟨rfl, hb1⟩
        obtain ⟨hc1, hf1⟩ := bcell hb1
        have hz1 : w.heap.size + 1 + 1 < w1.heap.size := by have := hb1.size; simp at this; omega
        have hz0 : w.heap.size + 1 < w1.heap.size := by omega
        have hzz : w.heap.size < w1.heap.size := by omega
        go_wp2_with fail
        refine (monOkS _ _ _ _ _).mono ?_
        rw [hb]
        rintro r w2 ⟨rfl, hb2⟩
        obtain ⟨hc2, hf2⟩ := bcell hb2
        have hz2 : w.heap.size + 1 + 1 < w2.heap.size := by have := hb2.size; omega
        go_wp2_with fail
        refine (monOkS _ _ _ _ _).mono ?_
        rw [hs]
        rintro r w3 ⟨rfl, hb3⟩
        obtain ⟨hc3, hf3⟩ := bcell (bel_next ((Below.refl w2.heap.size w2).alloc (Nat.le_refl _) _) hb3)
        have ht : ∀ i, w3.cell? ⟨w2.heap.size, i, none⟩ = #[Value.int .i64 (x + x'), .int .i64 (y + y'), .int .i64 (d + d'), .int .i64 (e + e')][i]? := fun i => by
          rw [hb3.cell (p := ⟨w2.heap.size, i, none⟩) (by simp), World.cell?_alloc_at _ _ _ _ rfl]
        have hB := bel_next ((bel_next (bel_next (bel_three w _ _ _) hb1) hb2).alloc (bel_next (bel_next (bel_three w _ _ _) hb1) hb2).size _) hb3
        go_wp2
        refine bodyPost_ret (v := .tuple #[.agg #[.int .i64 (x + x'), .int .i64 (y + y'), .int .i64 (d + d'), .int .i64 (e + e')], .bool true]) (by simp [results, Tryz.results163, go_sem, *]) rfl ⟨rfl, ?_⟩
        exact bel_set4 hB (by omega) _ _ _ _
end Go.Proofs.YtkcmamepoplcdaaGreatDoor
