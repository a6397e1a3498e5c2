/-
  How the rows' readings of lists of operators are opened.
  Whether an operator is free of others: the program.
  Operators without bounds: a choice of times and slopes in which every operator is told by what it does; the numbers of its monomials; products of monomials and what stands below them.
-/
import Derived.Test.YtdidlcjhodejjaaGreatSba
import Derived.ProofKit
import Derived.Deep.Slices
import Derived.Lib.SmallJoins
import Derived.Test.YtdidlcjhodejjaaGreatSbc
import Derived.Test.YtdidlcjhodejjaaGreatSaz
import Derived.Test.YtdidlcjhodejjaaGreatSbe
namespace Go.Proofs.YtdidlcjhodejjaaGreat
open Go.RowKit Go.Deep Go.Joins
set_option linter.unusedVariables false

end Go.Proofs.YtdidlcjhodejjaaGreat
namespace Go.Proofs.YtdidlcjhodejjaaGreat
open Go.RowKit Go.Deep Go.Joins
set_option linter.unusedVariables false

end Go.Proofs.YtdidlcjhodejjaaGreat
namespace Go.Proofs.YtdidlcjhodejjaaGreat
open Go.RowKit
set_option linter.unusedVariables false

/-! pairs of numbers as one -/
def prN : Nat → Nat → Nat
  | 0, c => 2 * c
  | a + 1, c => 2 * prN a c + 1
def unN (n : Nat) : Nat × Nat := if h : n % 2 = 0 then (0, n / 2) else ((unN (n / 2)).1 + 1, (unN (n / 2)).2)
termination_by n
decreasing_by all_goals omega
theorem un_pr : ∀ a c, unN (prN a c) = (a, c)
  | 0, c => by unfold unN prN; rw [dif_pos (by omega), show 2 * c / 2 = c by omega]
  | a + 1, c => by
    have ih := un_pr a c
    unfold unN prN
    rw [dif_neg (by omega), show (2 * prN a c + 1) / 2 = prN a c by omega, ih]
theorem pr_un (n : Nat) : prN (unN n).1 (unN n).2 = n := by
  induction n using Nat.strongRecOn with
  | ind n ih =>
    unfold unN
    by_cases h : n % 2 = 0
    · rw [dif_pos h]; show 2 * (n / 2) = n; omega
    · rw [dif_neg h]
      have := ih (n / 2) (by omega)
      show 2 * prN (unN (n / 2)).1 (unN (n / 2)).2 + 1 = n
      rw [this]; omega
def lfN (n : Nat) : Nat := (unN n).1
def rtN (n : Nat) : Nat := (unN n).2
theorem lf_pr (a c : Nat) : lfN (prN a c) = a := by unfold lfN; rw [un_pr]
theorem rt_pr (a c : Nat) : rtN (prN a c) = c := by unfold rtN; rw [un_pr]
theorem pr_lr (n : Nat) : prN (lfN n) (rtN n) = n := pr_un n
def rX : Lq := ⟨fun u n k => u (prN (lfN n + 1) (rtN n)) k, fun _ _ => rfl, fun _ _ => rfl⟩
def rY : Lq := ⟨fun u n k => u n (prN (lfN k + 1) (rtN k)), fun _ _ => rfl, fun _ _ => rfl⟩
def rD : Lq := ⟨fun u n k => u (prN (lfN n) (rtN n + 1)) k + nf (lfN n) * u (prN (lfN n - 1) (rtN n)) k, fun u v => by funext n k; simp only [va]; grind, fun c u => by funext n k; simp only [vs]; grind⟩
def rE : Lq := ⟨fun u n k => u n (prN (lfN k) (rtN k + 1)) + nf (lfN k) * u n (prN (lfN k - 1) (rtN k)), fun u v => by funext n k; simp only [va]; grind, fun c u => by funext n k; simp only [vs]; grind⟩
def regG : Gen where
  x := rX
  y := rY
  d := rD
  e := rE
  wx := Lq.ext fun u n k => by
    show u (prN (lfN (prN (lfN n + 1) (rtN n))) (rtN (prN (lfN n + 1) (rtN n)) + 1)) k + nf (lfN (prN (lfN n + 1) (rtN n))) * u (prN (lfN (prN (lfN n + 1) (rtN n)) - 1) (rtN (prN (lfN n + 1) (rtN n)))) k = u (prN (lfN (prN (lfN n) (rtN n + 1)) + 1) (rtN (prN (lfN n) (rtN n + 1)))) k + nf (lfN n) * u (prN (lfN (prN (lfN n - 1) (rtN n)) + 1) (rtN (prN (lfN n - 1) (rtN n)))) k + u n k
    simp only [lf_pr, rt_pr]
    rw [show lfN n + 1 - 1 = lfN n by omega, pr_lr, nf_add, nf_one]
    cases h : lfN n with
    | zero => rw [nf_zero]; grind
    | succ m => rw [show m + 1 - 1 + 1 = m + 1 by omega, ← h, pr_lr]; grind
  wy := Lq.ext fun u n k => by
    show u n (prN (lfN (prN (lfN k + 1) (rtN k))) (rtN (prN (lfN k + 1) (rtN k)) + 1)) + nf (lfN (prN (lfN k + 1) (rtN k))) * u n (prN (lfN (prN (lfN k + 1) (rtN k)) - 1) (rtN (prN (lfN k + 1) (rtN k)))) = u n (prN (lfN (prN (lfN k) (rtN k + 1)) + 1) (rtN (prN (lfN k) (rtN k + 1)))) + nf (lfN k) * u n (prN (lfN (prN (lfN k - 1) (rtN k)) + 1) (rtN (prN (lfN k - 1) (rtN k)))) + u n k
    simp only [lf_pr, rt_pr]
    rw [show lfN k + 1 - 1 = lfN k by omega, pr_lr, nf_add, nf_one]
    cases h : lfN k with
    | zero => rw [nf_zero]; grind
    | succ m => rw [show m + 1 - 1 + 1 = m + 1 by omega, ← h, pr_lr]; grind
  xy := rfl
  xe := rfl
  dy := rfl
  de := Lq.ext fun u n k => by
    show (_ + nf _ * _) + nf (lfN k) * (_ + nf _ * _) = (_ + nf _ * _) + nf (lfN n) * (_ + nf _ * _)
    grind
/-- monomials with no number below 0. -/
def M.nn (m : M) : Prop := 0 ≤ m.x ∧ 0 ≤ m.y ∧ 0 ≤ m.d ∧ 0 ≤ m.e
theorem M.nn_ok {m : M} (h : m.ok = true) : m.nn := by
  obtain ⟨x1, x2, y1, y2, d1, d2, e1, e2⟩ := M.ok_iff.1 h
  exact ⟨x1, y1, d1, e1⟩
/-! products of monomials -/
/-- the order of monomials, without bounds. -/
def kf (o : Int) (a : M) : Int := if o = 1 then a.x + a.y + a.d + a.e else if o = 3 then a.d + a.x else 0
def klt (o : Int) (a b : M) : Prop := kf o a < kf o b ∨ (kf o a = kf o b ∧ (a.d < b.d ∨ (a.d = b.d ∧ (a.e < b.e ∨ (a.e = b.e ∧ (a.x < b.x ∨ (a.x = b.x ∧ a.y < b.y)))))))
theorem kf1 (a : M) : kf 1 a = a.x + a.y + a.d + a.e := if_pos rfl
theorem kf2 (a : M) : kf 2 a = 0 := (if_neg (by decide)).trans (if_neg (by decide))
theorem kf3 (a : M) : kf 3 a = a.d + a.x := (if_neg (by decide)).trans (if_pos rfl)
theorem rkK1 (a : M) : rkW 1 a = rkD a := if_pos rfl
theorem rkK2 (a : M) : rkW 2 a = rkL a := (if_neg (by decide)).trans (if_neg (by decide))
theorem rkK3 (a : M) : rkW 3 a = rkO a := (if_neg (by decide)).trans (if_pos rfl)
theorem M.eta4 {a b : M} (h1 : a.x = b.x) (h2 : a.y = b.y) (h3 : a.d = b.d) (h4 : a.e = b.e) : a = b := by
  cases a; cases b
  simp only at h1 h2 h3 h4
  rw [h1, h2, h3, h4]
theorem rkW_klt {o : Int} (ho : 1 ≤ o ∧ o ≤ 3) {a b : M} (ha : a.ok = true) (hb : b.ok = true) (h : rkW o a < rkW o b) : klt o a b := by
  obtain ⟨x1, x2, y1, y2, d1, d2, e1, e2⟩ := M.ok_iff.1 ha
  obtain ⟨x3, x4, y3, y4, d3, d4, e3, e4⟩ := M.ok_iff.1 hb
  have h3 : o = 1 ∨ o = 2 ∨ o = 3 := by omega
  unfold klt
  rcases h3 with rfl | rfl | rfl
  · rw [rkK1, rkK1] at h; rw [kf1, kf1]; unfold rkD rkL at h; omega
  · rw [rkK2, rkK2] at h; rw [kf2, kf2]; unfold rkL at h; omega
  · rw [rkK3, rkK3] at h; rw [kf3, kf3]; unfold rkO rkL at h; omega
end Go.Proofs.YtdidlcjhodejjaaGreat
