/-
  Texts of monomials and numbers, as lists of bytes.
-/
import Derived.Test.YtoglomfejgpoeaaDoorMonoI
import Derived.Lib.ItoaNum
import Derived.Lib.UnsafeStr
namespace Go.Proofs.YtoglomfejgpoeaaDoor
open Go.RowKit
set_option linter.unusedVariables false

/-- a factor. -/
def fpw (c : UInt8) (n : Int) : List UInt8 := if n ≤ 0 then [] else if n = 1 then [c] else c :: Lib.decDigits n.toNat
def ltr : Nat → UInt8
  | 0 => 120
  | 1 => 121
  | 2 => 100
  | _ => 101
/-- the first factors. -/
def txTo (m : M) : Nat → List UInt8
  | 0 => []
  | k + 1 => txTo m k ++ fpw (ltr k) (cnt m.x m.y m.d m.e k)
def monS (m : M) : List UInt8 := txTo m 4
def monT (m : M) : List UInt8 := if M.ok m = true then (if monS m = [] then [49] else monS m) else []
theorem monS_is (m : M) : monS m = fpw 120 m.x ++ fpw 121 m.y ++ fpw 100 m.d ++ fpw 101 m.e := by
  unfold monS txTo txTo txTo txTo txTo
  simp [ltr, cnt]
theorem dec_one {n : Nat} (h : n < 10) : Lib.decDigits n = [UInt8.ofNat (48 + n)] := by
  rw [Lib.decDigits, dif_pos h]
theorem dec_more {n : Nat} (h : ¬ n < 10) : Lib.decDigits n = Lib.decDigits (n / 10) ++ [UInt8.ofNat (48 + n % 10)] := by
  rw [Lib.decDigits, dif_neg h]
theorem dec_len2 {n : Nat} (h : n < 100) : (Lib.decDigits n).length ≤ 2 := by
  by_cases h1 : n < 10
  · rw [dec_one h1]; simp
  · rw [dec_more h1, dec_one (by omega)]; simp
theorem dec_len4 {n : Nat} (h : n < 10000) : (Lib.decDigits n).length ≤ 4 := by
  by_cases h1 : n < 10
  · rw [dec_one h1]; simp
  · rw [dec_more h1]
    by_cases h2 : n / 10 < 10
    · rw [dec_one h2]; simp
    · rw [dec_more h2]
      have := dec_len2 (n := n / 10 / 10) (by omega)
      simp
      omega
theorem dec_ne (n : Nat) : Lib.decDigits n ≠ [] := by
  by_cases h1 : n < 10
  · rw [dec_one h1]; simp
  · rw [dec_more h1]; simp
theorem fpw_len {c : UInt8} {n : Int} (h : n ≤ 15) : (fpw c n).length ≤ 3 := by
  unfold fpw
  split
  · simp
  · split
    · simp
    · have := dec_len2 (n := n.toNat) (by omega)
      simp
      omega
theorem fpw_zero (c : UInt8) : fpw c 0 = [] := rfl
theorem fpw_one (c : UInt8) : fpw c 1 = [c] := rfl
theorem fpw_more {c : UInt8} {n : Nat} (h : 2 ≤ n) : fpw c (n : Int) = c :: Lib.decDigits n := by
  unfold fpw
  rw [if_neg (by omega), if_neg (by omega), Int.toNat_natCast]
theorem txTo_len {m : M} (h : M.ok m = true) : ∀ k, (txTo m k).length ≤ 3 * k
  | 0 => by simp [txTo]
  | k + 1 => by
    have h1 := txTo_len h k
    have h2 : (fpw (ltr k) (cnt m.x m.y m.d m.e k)).length ≤ 3 := fpw_len (by
      obtain ⟨x1, x2, y1, y2, d1, d2, e1, e2⟩ := M.ok_iff.1 h
      unfold cnt
      split <;> assumption)
    unfold txTo
    simp
    omega
theorem monT_no {m : M} (h : M.ok m = false) : monT m = [] := by unfold monT; rw [if_neg (by rw [h]; simp)]
theorem monT_one {m : M} (h : M.ok m = true) (h0 : monS m = []) : monT m = [49] := by unfold monT; rw [if_pos h, if_pos h0]
theorem monT_is {m : M} (h : M.ok m = true) (h0 : monS m ≠ []) : monT m = monS m := by unfold monT; rw [if_pos h, if_neg h0]
/-- digits that are written from behind. -/
def dcat (k : Nat) (out : List UInt8) : List UInt8 := (if k = 0 then [] else Lib.decDigits k) ++ out
theorem dcat_step {k : Nat} (h : 0 < k) (out : List UInt8) : dcat (k / 10) (UInt8.ofNat (48 + k % 10) :: out) = dcat k out := by
  unfold dcat
  rw [if_neg (show k ≠ 0 by omega)]
  by_cases h1 : k < 10
  · rw [if_pos (by omega), dec_one h1, show k % 10 = k by omega]; rfl
  · rw [if_neg (by omega), dec_more h1]; simp
theorem dcat_zero (out : List UInt8) : dcat 0 out = out := by unfold dcat; simp
theorem dcat_len (k : Nat) (out : List UInt8) : out.length ≤ (dcat k out).length := by unfold dcat; simp
theorem dcat_start {k : Nat} (h : 0 < k) : dcat k [] = Lib.decDigits k := by unfold dcat; rw [if_neg (by omega)]; simp
end Go.Proofs.YtoglomfejgpoeaaDoor
