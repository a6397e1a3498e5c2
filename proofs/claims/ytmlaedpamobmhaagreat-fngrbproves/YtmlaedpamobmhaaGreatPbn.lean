/-
  Whether an operator is free of others: the program.
  Operators without bounds: a choice of times and slopes in which every operator is told by what it does; the numbers of its monomials; products of monomials and what stands below them.
  A list of operators of whose pairs nothing is left by smaller ones is a basis: whatever is made of it, and is not 0, has a monomial that a greatest one of the list divides.
-/
import Derived.Test.YtmlaedpamobmhaaGreatPbc
import Derived.Test.YtmlaedpamobmhaaGreatPaz
import Derived.Test.YtmlaedpamobmhaaGreatPbe
import Derived.Test.YtmlaedpamobmhaaGreatPbh
namespace Go.Proofs.YtmlaedpamobmhaaGreat
open Go.RowKit Go.Deep Go.Joins
set_option linter.unusedVariables false

end Go.Proofs.YtmlaedpamobmhaaGreat
namespace Go.Proofs.YtmlaedpamobmhaaGreat
open Go.RowKit
set_option linter.unusedVariables false

/-! pairs of numbers as one -/
def prN : Nat → Nat → Nat
  | 0, c => 2 * c
  | a + 1, c => 2 * prN a c + 1
def unN (n : Nat) : Nat × Nat := if h : n % 2 = 0 then (0, n / 2) else ((unN (n / 2)).1 + 1, (unN (n / 2)).2)
termination_by n
decreasing_by all_goals omega
theorem un_pr : ∀ a c, unN (prN a c) = (a, c)
  | 0, c => by unfold unN prN; rw [dif_pos (by omega), show 2 * c / 2 = c by omega]
  | a + 1, c => by
    have ih := un_pr a c
    unfold unN prN
    rw [dif_neg (by omega), show (2 * prN a c + 1) / 2 = prN a c by omega, ih]
theorem pr_un (n : Nat) : prN (unN n).1 (unN n).2 = n := by
  induction n using Nat.strongRecOn with
  | ind n ih =>
    unfold unN
    by_cases h : n % 2 = 0
    · rw [dif_pos h]; show 2 * (n / 2) = n; omega
    · rw [dif_neg h]
      have := ih (n / 2) (by omega)
      show 2 * prN (unN (n / 2)).1 (unN (n / 2)).2 + 1 = n
      rw [this]; omega
def lfN (n : Nat) : Nat := (unN n).1
def rtN (n : Nat) : Nat := (unN n).2
theorem lf_pr (a c : Nat) : lfN (prN a c) = a := by unfold lfN; rw [un_pr]
theorem rt_pr (a c : Nat) : rtN (prN a c) = c := by unfold rtN; rw [un_pr]
theorem pr_lr (n : Nat) : prN (lfN n) (rtN n) = n := pr_un n
def rX : Lq := ⟨fun u n k => u (prN (lfN n + 1) (rtN n)) k, fun _ _ => rfl, fun _ _ => rfl⟩
def rY : Lq := ⟨fun u n k => u n (prN (lfN k + 1) (rtN k)), fun _ _ => rfl, fun _ _ => rfl⟩
def rD : Lq := ⟨fun u n k => u (prN (lfN n) (rtN n + 1)) k + nf (lfN n) * u (prN (lfN n - 1) (rtN n)) k, fun u v => by funext n k; simp only [va]; grind, fun c u => by funext n k; simp only [vs]; grind⟩
def rE : Lq := ⟨fun u n k => u n (prN (lfN k) (rtN k + 1)) + nf (lfN k) * u n (prN (lfN k - 1) (rtN k)), fun u v => by funext n k; simp only [va]; grind, fun c u => by funext n k; simp only [vs]; grind⟩
def regG : Gen where
  x := rX
  y := rY
  d := rD
  e := rE
  wx := Lq.ext fun u n k => by
    show u (prN (lfN (prN (lfN n + 1) (rtN n))) (rtN (prN (lfN n + 1) (rtN n)) + 1)) k + nf (lfN (prN (lfN n + 1) (rtN n))) * u (prN (lfN (prN (lfN n + 1) (rtN n)) - 1) (rtN (prN (lfN n + 1) (rtN n)))) k = u (prN (lfN (prN (lfN n) (rtN n + 1)) + 1) (rtN (prN (lfN n) (rtN n + 1)))) k + nf (lfN n) * u (prN (lfN (prN (lfN n - 1) (rtN n)) + 1) (rtN (prN (lfN n - 1) (rtN n)))) k + u n k
    simp only [lf_pr, rt_pr]
    rw [show lfN n + 1 - 1 = lfN n by omega, pr_lr, nf_add, nf_one]
    cases h : lfN n with
    | zero => rw [nf_zero]; grind
    | succ m => rw [show m + 1 - 1 + 1 = m + 1 by omega, ← h, pr_lr]; grind
  wy := Lq.ext fun u n k => by
    show u n (prN (lfN (prN (lfN k + 1) (rtN k))) (rtN (prN (lfN k + 1) (rtN k)) + 1)) + nf (lfN (prN (lfN k + 1) (rtN k))) * u n (prN (lfN (prN (lfN k + 1) (rtN k)) - 1) (rtN (prN (lfN k + 1) (rtN k)))) = u n (prN (lfN (prN (lfN k) (rtN k + 1)) + 1) (rtN (prN (lfN k) (rtN k + 1)))) + nf (lfN k) * u n (prN (lfN (prN (lfN k - 1) (rtN k)) + 1) (rtN (prN (lfN k - 1) (rtN k)))) + u n k
    simp only [lf_pr, rt_pr]
    rw [show lfN k + 1 - 1 = lfN k by omega, pr_lr, nf_add, nf_one]
    cases h : lfN k with
    | zero => rw [nf_zero]; grind
    | succ m => rw [show m + 1 - 1 + 1 = m + 1 by omega, ← h, pr_lr]; grind
  xy := rfl
  xe := rfl
  dy := rfl
  de := Lq.ext fun u n k => by
    show (_ + nf _ * _) + nf (lfN k) * (_ + nf _ * _) = (_ + nf _ * _) + nf (lfN n) * (_ + nf _ * _)
    grind
theorem pow_rX (u : Vq) (c k : Nat) : ∀ j i, (Lq.pow rX j).f u (prN i c) k = u (prN (i + j) c) k
  | 0, i => rfl
  | j + 1, i => by
    rw [Lq.pow_succ']
    show (Lq.pow rX j).f (rX.f u) (prN i c) k = _
    rw [pow_rX (rX.f u) c k j i]
    show u (prN (lfN (prN (i + j) c) + 1) (rtN (prN (i + j) c))) k = _
    rw [lf_pr, rt_pr]; rfl
theorem pow_rY (u : Vq) (n c : Nat) : ∀ j i, (Lq.pow rY j).f u n (prN i c) = u n (prN (i + j) c)
  | 0, i => rfl
  | j + 1, i => by
    rw [Lq.pow_succ']
    show (Lq.pow rY j).f (rY.f u) n (prN i c) = _
    rw [pow_rY (rY.f u) n c j i]
    show u n (prN (lfN (prN (i + j) c) + 1) (rtN (prN (i + j) c))) = _
    rw [lf_pr, rt_pr]; rfl
theorem pow_rD (u : Vq) (k : Nat) : ∀ j i, (Lq.pow rD j).f u (prN 0 i) k = u (prN 0 (i + j)) k
  | 0, i => rfl
  | j + 1, i => by
    rw [Lq.pow_succ']
    show (Lq.pow rD j).f (rD.f u) (prN 0 i) k = _
    rw [pow_rD (rD.f u) k j i]
    show u (prN (lfN (prN 0 (i + j))) (rtN (prN 0 (i + j)) + 1)) k + nf (lfN (prN 0 (i + j))) * _ = _
    rw [lf_pr, rt_pr, nf_zero]
    show u (prN 0 (i + (j + 1))) k + 0 * _ = _
    grind
theorem pow_rE (u : Vq) (n : Nat) : ∀ j i, (Lq.pow rE j).f u n (prN 0 i) = u n (prN 0 (i + j))
  | 0, i => rfl
  | j + 1, i => by
    rw [Lq.pow_succ']
    show (Lq.pow rE j).f (rE.f u) n (prN 0 i) = _
    rw [pow_rE (rE.f u) n j i]
    show u n (prN (lfN (prN 0 (i + j))) (rtN (prN 0 (i + j)) + 1)) + nf (lfN (prN 0 (i + j))) * _ = _
    rw [lf_pr, rt_pr, nf_zero]
    show u n (prN 0 (i + (j + 1))) + 0 * _ = _
    grind
/-- what a monomial makes of 1. -/
theorem mo_reg (m : M) (u : Vq) : (mo regG m).f u 0 0 = u (prN m.x.toNat m.d.toNat) (prN m.y.toNat m.e.toNat) := by
  have e0 : (0 : Nat) = prN 0 0 := rfl
  show (Lq.pow rE m.e.toNat).f ((Lq.pow rD m.d.toNat).f ((Lq.pow rY m.y.toNat).f ((Lq.pow rX m.x.toNat).f u))) 0 0 = _
  rw [show (Lq.pow rE m.e.toNat).f ((Lq.pow rD m.d.toNat).f ((Lq.pow rY m.y.toNat).f ((Lq.pow rX m.x.toNat).f u))) 0 0 = (Lq.pow rE m.e.toNat).f ((Lq.pow rD m.d.toNat).f ((Lq.pow rY m.y.toNat).f ((Lq.pow rX m.x.toNat).f u))) 0 (prN 0 0) from rfl, pow_rE]
  rw [show (Lq.pow rD m.d.toNat).f ((Lq.pow rY m.y.toNat).f ((Lq.pow rX m.x.toNat).f u)) 0 (prN 0 (0 + m.e.toNat)) = (Lq.pow rD m.d.toNat).f ((Lq.pow rY m.y.toNat).f ((Lq.pow rX m.x.toNat).f u)) (prN 0 0) (prN 0 (0 + m.e.toNat)) from rfl, pow_rD, pow_rY, pow_rX]
  simp only [Nat.zero_add]
/-- monomials with no number below 0. -/
def M.nn (m : M) : Prop := 0 ≤ m.x ∧ 0 ≤ m.y ∧ 0 ≤ m.d ∧ 0 ≤ m.e
theorem M.nn_ok {m : M} (h : m.ok = true) : m.nn := by
  obtain ⟨x1, x2, y1, y2, d1, d2, e1, e2⟩ := M.ok_iff.1 h
  exact ⟨x1, y1, d1, e1⟩
theorem M.nn_sum {a b : M} (ha : a.nn) (hb : b.nn) : (a.sum b).nn := by
  obtain ⟨a1, a2, a3, a4⟩ := ha
  obtain ⟨b1, b2, b3, b4⟩ := hb
  exact ⟨Int.add_nonneg a1 b1, Int.add_nonneg a2 b2, Int.add_nonneg a3 b3, Int.add_nonneg a4 b4⟩
def dlu (m : M) : Vq := fun n k => if n = prN m.x.toNat m.d.toNat ∧ k = prN m.y.toNat m.e.toNat then 1 else 0
/-- the number of a monomial in an operator that is a map. -/
def cfR (A : Lq) (m : M) : Fq := A.f (dlu m) 0 0
theorem cf_mo {a m : M} (ha : a.nn) (hm : m.nn) : cfR (mo regG a) m = dl m a := by
  unfold cfR dl
  rw [mo_reg]
  unfold dlu
  by_cases e : a = m
  · rw [if_pos (meqB_eq.2 e.symm), if_pos (by rw [e]; exact ⟨rfl, rfl⟩)]
  · rw [if_neg (fun h => e (meqB_eq.1 h).symm), if_neg]
    rintro ⟨h1, h2⟩
    have i1 := un_pr a.x.toNat a.d.toNat
    rw [h1, un_pr] at i1
    have i2 := un_pr a.y.toNat a.e.toNat
    rw [h2, un_pr] at i2
    simp only [Prod.mk.injEq] at i1 i2
    obtain ⟨a1, a2, a3, a4⟩ := ha
    obtain ⟨b1, b2, b3, b4⟩ := hm
    refine e ?_
    have j1 : a.x = m.x := by omega
    have j2 : a.y = m.y := by omega
    have j3 : a.d = m.d := by omega
    have j4 : a.e = m.e := by omega
    cases a; cases m
    simp only at j1 j2 j3 j4
    rw [j1, j2, j3, j4]
theorem cf_sum (A B : Lq) (m : M) : cfR (Lq.sum A B) m = cfR A m + cfR B m := rfl
theorem cf_sc (c : Fq) (A : Lq) (m : M) : cfR (Lq.sc c A) m = c * cfR A m := rfl
theorem cf_nil (m : M) : cfR Lq.nil m = 0 := rfl
/-- the number of a monomial in a list of terms, however they stand. -/
theorem cf_Rp (L : List T) (hL : ∀ t ∈ L, t.m.nn) {m : M} (hm : m.nn) : cfR (Rp regG L) m = lin (dl m) L := by
  show su L (fun t => zz t.c * (mo regG t.m).f (dlu m) 0 0) = su L (fun t => zz t.c * dl m t.m)
  refine su_congr (fun t ht => ?_)
  have := cf_mo (hL t ht) hm
  unfold cfR at this
  rw [this]
theorem cf_coef {L : List T} (hL : Falls L) {m : M} (hm : m.ok = true) : cfR (Rp regG L) m = zz (coef L m) := by
  rw [← lin_dl hL hm]
  exact cf_Rp L (fun t ht => M.nn_ok (hL.2 t ht).1) (M.nn_ok hm)
/-- an operator that is not 0 has a number that is not. -/
theorem cf_zero {L : List T} (hL : Falls L) (h : Rp regG L = Lq.nil) : L = [] := by
  cases L with
  | nil => rfl
  | cons t r =>
    have ht := hL.2 t (List.mem_cons_self ..)
    have h1 := cf_coef hL ht.1
    rw [h, cf_nil, coef_cons_same] at h1
    exact absurd h1.symm (zz_ne ht.2.1 ht.2.2)
/-! products of monomials -/
/-- the order of monomials, without bounds. -/
def kf (o : Int) (a : M) : Int := if o = 1 then a.x + a.y + a.d + a.e else if o = 3 then a.d + a.x else 0
def klt (o : Int) (a b : M) : Prop := kf o a < kf o b ∨ (kf o a = kf o b ∧ (a.d < b.d ∨ (a.d = b.d ∧ (a.e < b.e ∨ (a.e = b.e ∧ (a.x < b.x ∨ (a.x = b.x ∧ a.y < b.y)))))))
theorem kf1 (a : M) : kf 1 a = a.x + a.y + a.d + a.e := if_pos rfl
theorem kf2 (a : M) : kf 2 a = 0 := (if_neg (by decide)).trans (if_neg (by decide))
theorem kf3 (a : M) : kf 3 a = a.d + a.x := (if_neg (by decide)).trans (if_pos rfl)
theorem rkK1 (a : M) : rkW 1 a = rkD a := if_pos rfl
theorem rkK2 (a : M) : rkW 2 a = rkL a := (if_neg (by decide)).trans (if_neg (by decide))
theorem rkK3 (a : M) : rkW 3 a = rkO a := (if_neg (by decide)).trans (if_pos rfl)
theorem kf_sum (o : Int) (a b : M) : kf o (a.sum b) = kf o a + kf o b := by
  unfold kf M.sum
  split
  · simp only; omega
  · split
    · simp only; omega
    · rfl
theorem klt_trans {o : Int} {a b c : M} (h1 : klt o a b) (h2 : klt o b c) : klt o a c := by
  unfold klt at *
  generalize kf o a = p at *
  generalize kf o b = q at *
  generalize kf o c = r at *
  omega
theorem klt_irr {o : Int} {a : M} (h : klt o a a) : False := by
  unfold klt at h
  omega
theorem M.eta4 {a b : M} (h1 : a.x = b.x) (h2 : a.y = b.y) (h3 : a.d = b.d) (h4 : a.e = b.e) : a = b := by
  cases a; cases b
  simp only at h1 h2 h3 h4
  rw [h1, h2, h3, h4]
theorem klt_tri (o : Int) (a b : M) : klt o a b ∨ a = b ∨ klt o b a := by
  by_cases e : a.x = b.x ∧ a.y = b.y ∧ a.d = b.d ∧ a.e = b.e
  · exact .inr (.inl (M.eta4 e.1 e.2.1 e.2.2.1 e.2.2.2))
  · unfold klt
    generalize kf o a = p
    generalize kf o b = q
    omega
theorem klt_add {o : Int} {a b : M} (c : M) (h : klt o a b) : klt o (a.sum c) (b.sum c) := by
  unfold klt at *
  rw [kf_sum, kf_sum]
  unfold M.sum
  simp only
  generalize kf o a = p at *
  generalize kf o b = q at *
  omega
theorem klt_add' {o : Int} {a b : M} (c : M) (h : klt o a b) : klt o (c.sum a) (c.sum b) := by
  unfold klt at *
  rw [kf_sum, kf_sum]
  unfold M.sum
  simp only
  generalize kf o a = p at *
  generalize kf o b = q at *
  omega
/-- what is lower than the whole product. -/
theorem klt_low {o : Int} (ho : 1 ≤ o ∧ o ≤ 3) (a b : M) {i k : Int} (hi : 0 ≤ i) (hk : 0 ≤ k) (h : 0 < i + k) : klt o ⟨a.x + b.x - i, a.y + b.y - k, a.d + b.d - i, a.e + b.e - k⟩ (a.sum b) := by
  have h3 : o = 1 ∨ o = 2 ∨ o = 3 := by omega
  unfold klt
  rcases h3 with rfl | rfl | rfl
  · rw [kf1, kf1]; unfold M.sum; simp only; omega
  · rw [kf2, kf2]
    unfold M.sum
    simp only
    by_cases hi0 : i = 0
    · exact .inr ⟨trivial, .inr ⟨by omega, .inl (by omega)⟩⟩
    · exact .inr ⟨trivial, .inl (by omega)⟩
  · rw [kf3, kf3]
    unfold M.sum
    simp only
    by_cases hi0 : i = 0
    · exact .inr ⟨by omega, .inr ⟨by omega, .inl (by omega)⟩⟩
    · exact .inl (by omega)
theorem rkW_klt {o : Int} (ho : 1 ≤ o ∧ o ≤ 3) {a b : M} (ha : a.ok = true) (hb : b.ok = true) (h : rkW o a < rkW o b) : klt o a b := by
  obtain ⟨x1, x2, y1, y2, d1, d2, e1, e2⟩ := M.ok_iff.1 ha
  obtain ⟨x3, x4, y3, y4, d3, d4, e3, e4⟩ := M.ok_iff.1 hb
  have h3 : o = 1 ∨ o = 2 ∨ o = 3 := by omega
  unfold klt
  rcases h3 with rfl | rfl | rfl
  · rw [rkK1, rkK1] at h; rw [kf1, kf1]; unfold rkD rkL at h; omega
  · rw [rkK2, rkK2] at h; rw [kf2, kf2]; unfold rkL at h; omega
  · rw [rkK3, rkK3] at h; rw [kf3, kf3]; unfold rkO rkL at h; omega
end Go.Proofs.YtmlaedpamobmhaaGreat
namespace Go.Proofs.YtmlaedpamobmhaaGreat
open Go.RowKit
set_option linter.unusedVariables false

/-! products of monomials without bounds -/
def lmM (a b : M) (i k : Nat) : M := ⟨a.x + b.x - (i : Int), a.y + b.y - (k : Int), a.d + b.d - (i : Int), a.e + b.e - (k : Int)⟩
theorem lmM_zero (a b : M) : lmM a b 0 0 = a.sum b := by
  unfold lmM M.sum
  simp
theorem moN_mul (g : Gen) (a b : M) (ha : a.nn) (hb : b.nn) : Lq.mul (mo g a) (mo g b) = Lq.sumN (fun i => Lq.sumN (fun k => Lq.sc (nf (wN a.d.toNat b.x.toNat i) * nf (wN a.e.toNat b.y.toNat k)) (mo g (lmM a b i k))) (min a.e.toNat b.y.toNat + 1)) (min a.d.toNat b.x.toNat + 1) := by
  obtain ⟨ax0, ay0, ad0, ae0⟩ := ha
  obtain ⟨bx0, by0, bd0, be0⟩ := hb
  have e1 : Lq.mul (mo g a) (mo g b) = Lq.mul (Lq.mul (Lq.pow g.x a.x.toNat) (Lq.pow g.y a.y.toNat)) (Lq.mul (Lq.mul (Lq.pow g.d a.d.toNat) (Lq.pow g.x b.x.toNat)) (Lq.mul (Lq.mul (Lq.pow g.e a.e.toNat) (Lq.pow g.y b.y.toNat)) (Lq.mul (Lq.pow g.d b.d.toNat) (Lq.pow g.e b.e.toNat)))) := by
    have h := g.xe.symm.pows a.e.toNat b.x.toNat
    calc _ = Lq.mul (Lq.mul (Lq.pow g.x a.x.toNat) (Lq.pow g.y a.y.toNat)) (Lq.mul (Lq.pow g.d a.d.toNat) (Lq.mul (Lq.mul (Lq.pow g.e a.e.toNat) (Lq.pow g.x b.x.toNat)) (Lq.mul (Lq.pow g.y b.y.toNat) (Lq.mul (Lq.pow g.d b.d.toNat) (Lq.pow g.e b.e.toNat))))) := rfl
      _ = Lq.mul (Lq.mul (Lq.pow g.x a.x.toNat) (Lq.pow g.y a.y.toNat)) (Lq.mul (Lq.pow g.d a.d.toNat) (Lq.mul (Lq.mul (Lq.pow g.x b.x.toNat) (Lq.pow g.e a.e.toNat)) (Lq.mul (Lq.pow g.y b.y.toNat) (Lq.mul (Lq.pow g.d b.d.toNat) (Lq.pow g.e b.e.toNat))))) := by rw [h]
      _ = _ := rfl
  rw [e1, order_cut g.wx, order_cut g.wy, Lq.sumN_mul, Lq.mul_sumN]
  refine Lq.sumN_congr (fun i hi => ?_)
  rw [Lq.sc_mul, Lq.mul_sc, Lq.sumN_mul, Lq.mul_sumN, Lq.mul_sumN, Lq.sc_sumN]
  refine Lq.sumN_congr (fun k hk => ?_)
  rw [Lq.sc_mul, Lq.mul_sc, Lq.mul_sc, Lq.sc_sc, shuffle (g.xy.symm.pows _ _) (g.dy.pows _ _) (g.de.symm.pows _ _), ← Lq.pow_add, ← Lq.pow_add, ← Lq.pow_add, ← Lq.pow_add]
  unfold mo lmM
  simp only
  rw [show a.x.toNat + (b.x.toNat - i) = (a.x + b.x - (i : Int)).toNat by omega, show a.y.toNat + (b.y.toNat - k) = (a.y + b.y - (k : Int)).toNat by omega, show a.d.toNat - i + b.d.toNat = (a.d + b.d - (i : Int)).toNat by omega, show a.e.toNat - k + b.e.toNat = (a.e + b.e - (k : Int)).toNat by omega]
theorem wN_zero (b c : Nat) : wN b c 0 = 1 := by unfold wN; rw [chN_zero]; rfl
/-- Lq's below a sum: all that stands in it is lower. -/
inductive Lw (g : Gen) (o : Int) (μ : M) : Lq → Prop
  | nil : Lw g o μ Lq.nil
  | cons {A : Lq} (c : Fq) (m : M) : m.nn → klt o m μ → Lw g o μ A → Lw g o μ (Lq.sum (Lq.sc c (mo g m)) A)
theorem Lw.sum {g : Gen} {o : Int} {μ : M} {A B : Lq} (h : Lw g o μ A) (h' : Lw g o μ B) : Lw g o μ (Lq.sum A B) := by
  induction h with
  | nil => rw [Lq.sum_comm, Lq.sum_nil]; exact h'
  | cons c m h1 h2 h3 ih => rw [Lq.sum_assoc]; exact Lw.cons c m h1 h2 ih
theorem Lw.one {g : Gen} {o : Int} {μ : M} (c : Fq) {m : M} (h1 : m.nn) (h2 : klt o m μ) : Lw g o μ (Lq.sc c (mo g m)) := by
  have := Lw.cons (g := g) c m h1 h2 Lw.nil
  rwa [Lq.sum_nil] at this
theorem Lw.sumN {g : Gen} {o : Int} {μ : M} {f : Nat → Lq} : ∀ n, (∀ i, i < n → Lw g o μ (f i)) → Lw g o μ (Lq.sumN f n)
  | 0, _ => Lw.nil
  | n + 1, h => by rw [Lq.sumN]; exact (Lw.sumN n (fun i hi => h i (by omega))).sum (h n (by omega))
/-- a product of monomials is both together, and what is lower. -/
theorem mo_low (g : Gen) {o : Int} (ho : 1 ≤ o ∧ o ≤ 3) {a b : M} (ha : a.nn) (hb : b.nn) : ∃ A, Lw g o (a.sum b) A ∧ Lq.mul (mo g a) (mo g b) = Lq.sum (mo g (a.sum b)) A := by
  have hnn : ∀ i k : Nat, i < min a.d.toNat b.x.toNat + 1 → k < min a.e.toNat b.y.toNat + 1 → (lmM a b i k).nn := fun i k hi hk => by
    obtain ⟨ax0, ay0, ad0, ae0⟩ := ha
    obtain ⟨bx0, by0, bd0, be0⟩ := hb
    refine ⟨?_, ?_, ?_, ?_⟩ <;> (unfold lmM; simp only; omega)
  have hlt : ∀ i k : Nat, 0 < i + k → klt o (lmM a b i k) (a.sum b) := fun i k h => klt_low ho a b (by omega) (by omega) (by omega)
  rw [moN_mul g a b ha hb, Lq.sumN_head, Lq.sumN_head]
  refine ⟨Lq.sum (Lq.sumN (fun i => Lq.sc (nf (wN a.d.toNat b.x.toNat 0) * nf (wN a.e.toNat b.y.toNat (i + 1))) (mo g (lmM a b 0 (i + 1)))) (min a.e.toNat b.y.toNat)) (Lq.sumN (fun i => Lq.sumN (fun k => Lq.sc (nf (wN a.d.toNat b.x.toNat (i + 1)) * nf (wN a.e.toNat b.y.toNat k)) (mo g (lmM a b (i + 1) k))) (min a.e.toNat b.y.toNat + 1)) (min a.d.toNat b.x.toNat)), ?_, ?_⟩
  · refine Lw.sum (Lw.sumN _ (fun i hi => Lw.one _ (hnn _ _ (by omega) (by omega)) (hlt _ _ (by omega)))) (Lw.sumN _ (fun i hi => Lw.sumN _ (fun k hk => Lw.one _ (hnn _ _ (by omega) (by omega)) (hlt _ _ (by omega)))))
  · rw [Lq.sum_assoc, wN_zero, wN_zero, nf_one, lmM_zero, show (1 : Fq) * 1 = 1 from rfl, Lq.sc_one]
theorem Lw.cf {o : Int} {μ m : M} {A : Lq} (h : Lw regG o μ A) (hm : m.nn) (hl : ¬ klt o m μ) : cfR A m = 0 := by
  induction h with
  | nil => exact cf_nil m
  | cons c a h1 h2 h3 ih =>
    rw [cf_sum, cf_sc, ih, cf_mo h1 hm]
    unfold dl
    rw [if_neg]
    · grind
    · intro e
      rw [meqB_eq.1 e] at hl
      exact hl h2
/-! the list, and what is made of it -/
variable (o : Int) (n : Nat) (L : Nat → List T)
def lmL (j : Nat) : M := (ldL o (L j)).m
/-- a list with greatest terms. -/
structure Lds : Prop where
  ho : 1 ≤ o ∧ o ≤ 3
  fl : ∀ j, j < n → okL (L j) = true ∧ (L j).length ≠ 0
variable {o n L}
theorem Lds.mem (h : Lds o n L) {j : Nat} (hj : j < n) : ldL o (L j) ∈ L j := ldL_mem (h.fl j hj).2
theorem Lds.falls (h : Lds o n L) {j : Nat} (hj : j < n) : Falls (L j) := (okL_falls (h.fl j hj).1).2
theorem Lds.good (h : Lds o n L) {j : Nat} (hj : j < n) : (ldL o (L j)).m.ok = true ∧ 1 ≤ (ldL o (L j)).c ∧ (ldL o (L j)).c ≤ 100 := (h.falls hj).2 _ (h.mem hj)
theorem Lds.nn (h : Lds o n L) {j : Nat} (hj : j < n) : (lmL o L j).nn := M.nn_ok (h.good hj).1
theorem Lds.top (h : Lds o n L) {j : Nat} (hj : j < n) {t : T} (ht : t ∈ L j) (hne : t.m ≠ lmL o L j) : klt o t.m (lmL o L j) := by
  have h1 := ldL_top h.ho (h.fl j hj).1 (h.fl j hj).2 t ht
  have h2 := ((h.falls hj).2 t ht).1
  have h3 := (h.good hj).1
  refine rkW_klt h.ho h2 h3 ?_
  rcases Int.lt_or_eq_of_le h1 with h4 | h4
  · exact h4
  · exact absurd (rkW_inj _ _ h2 h3 h4) hne
theorem cf_mulRp (A : Lq) (m : M) : ∀ K : List T, cfR (Lq.mul A (Rp regG K)) m = su K (fun t => zz t.c * cfR (Lq.mul A (mo regG t.m)) m)
  | [] => rfl
  | t :: r => by
    rw [su, ← cf_mulRp A m r]
    rfl
/-- the number of both greatest monomials together; and beyond it none. -/
theorem Lds.cf_top (h : Lds o n L) {j : Nat} (hj : j < n) {m : M} (hm : m.nn) : cfR (Lq.mul (mo regG m) (Rp regG (L j))) (m.sum (lmL o L j)) = zz (ldL o (L j)).c := by
  have hδ := M.nn_sum hm (h.nn hj)
  rw [cf_mulRp, su_falls (h.falls hj) (h.mem hj) (fun t ht hne => ?_)]
  · obtain ⟨A, h1, h2⟩ := mo_low regG h.ho hm (h.nn hj)
    have e : cfR (Lq.mul (mo regG m) (mo regG (lmL o L j))) (m.sum (lmL o L j)) = 1 := by
      rw [h2, cf_sum, h1.cf hδ klt_irr, cf_mo hδ hδ]
      unfold dl
      rw [if_pos (meqB_eq.2 rfl)]
      decide
    have e' : cfR (Lq.mul (mo regG m) (mo regG (ldL o (L j)).m)) (m.sum (lmL o L j)) = 1 := e
    rw [e']
    grind
  · have h4 := M.nn_ok ((h.falls hj).2 t ht).1
    obtain ⟨A, h1, h2⟩ := mo_low regG h.ho hm h4
    have h3 := klt_add' m (h.top hj ht hne)
    have e : cfR (Lq.mul (mo regG m) (mo regG t.m)) (m.sum (lmL o L j)) = 0 := by
      rw [h2, cf_sum, h1.cf hδ (fun q => klt_irr (klt_trans q h3)), cf_mo (M.nn_sum hm h4) hδ]
      unfold dl
      rw [if_neg]
      · decide
      · intro q
        rw [meqB_eq.1 q] at h3
        exact klt_irr h3
    rw [e]
    grind
theorem Lds.cf_off (h : Lds o n L) {j : Nat} (hj : j < n) {m δ : M} (hm : m.nn) (hδ : δ.nn) (hl : klt o (m.sum (lmL o L j)) δ) : cfR (Lq.mul (mo regG m) (Rp regG (L j))) δ = 0 := by
  rw [cf_mulRp]
  refine su_zero _ _ (fun t ht => ?_)
  have h4 := M.nn_ok ((h.falls hj).2 t ht).1
  obtain ⟨A, h1, h2⟩ := mo_low regG h.ho hm h4
  have h3 : klt o (m.sum t.m) δ := by
    by_cases e : t.m = lmL o L j
    · rw [e]; exact hl
    · exact klt_trans (klt_add' m (h.top hj ht e)) hl
  rw [h2, cf_sum, h1.cf hδ (fun q => klt_irr (klt_trans q h3)), cf_mo (M.nn_sum hm h4) hδ]
  unfold dl
  rw [if_neg]
  · grind
  · intro q
    rw [meqB_eq.1 q] at h3
    exact klt_irr h3
/-- what is made of the list with nothing as great as δ. -/
inductive Lo (o : Int) (n : Nat) (L : Nat → List T) (δ : M) : Lq → Prop
  | nil : Lo o n L δ Lq.nil
  | cons {A : Lq} (c : Fq) (m : M) (j : Nat) : j < n → m.nn → klt o (m.sum (lmL o L j)) δ → Lo o n L δ A → Lo o n L δ (Lq.sum (Lq.sc c (Lq.mul (mo regG m) (Rp regG (L j)))) A)
theorem Lo.sum {δ : M} {A B : Lq} (h : Lo o n L δ A) (h' : Lo o n L δ B) : Lo o n L δ (Lq.sum A B) := by
  induction h with
  | nil => rw [Lq.sum_comm, Lq.sum_nil]; exact h'
  | cons c m j h1 h2 h3 h4 ih => rw [Lq.sum_assoc]; exact Lo.cons c m j h1 h2 h3 ih
theorem Lo.sc {δ : M} {A : Lq} (d : Fq) (h : Lo o n L δ A) : Lo o n L δ (Lq.sc d A) := by
  induction h with
  | nil =>
    rw [show Lq.sc d Lq.nil = Lq.nil from Lq.ext fun u n k => by show d * (0 : Fq) = 0; grind]
    exact Lo.nil
  | cons c m j h1 h2 h3 h4 ih => rw [Lq.sc_sum, Lq.sc_sc]; exact Lo.cons _ m j h1 h2 h3 ih
theorem Lo.mono {δ δ' : M} {A : Lq} (h : Lo o n L δ A) (hd : klt o δ δ' ∨ δ = δ') : Lo o n L δ' A := by
  induction h with
  | nil => exact Lo.nil
  | cons c m j h1 h2 h3 h4 ih =>
    refine Lo.cons c m j h1 h2 ?_ ih
    rcases hd with hd | hd
    · exact klt_trans h3 hd
    · rw [← hd]; exact h3
theorem Lo.one {δ : M} (c : Fq) {m : M} {j : Nat} (h1 : j < n) (h2 : m.nn) (h3 : klt o (m.sum (lmL o L j)) δ) : Lo o n L δ (Lq.sc c (Lq.mul (mo regG m) (Rp regG (L j)))) := by
  have := Lo.cons c m j h1 h2 h3 (Lo.nil (o := o) (n := n) (L := L) (δ := δ))
  rwa [Lq.sum_nil] at this
/-- what is lower, times one of the list. -/
theorem Lw.lo {μ δ : M} {A : Lq} {j : Nat} (hj : j < n) (h : Lw regG o μ A) (hd : klt o (μ.sum (lmL o L j)) δ ∨ μ.sum (lmL o L j) = δ) : Lo o n L δ (Lq.mul A (Rp regG (L j))) := by
  induction h with
  | nil => rw [Lq.nil_mul]; exact Lo.nil
  | cons c m h1 h2 h3 ih =>
    rw [Lq.sum_mul, Lq.sc_mul]
    refine Lo.cons c m j hj h1 ?_ ih
    rcases hd with hd | hd
    · exact klt_trans (klt_add _ h2) hd
    · rw [← hd]; exact klt_add _ h2
/-- a monomial, times what is made of the list. -/
theorem Lo.mul (hL : Lds o n L) {δ s : M} {A : Lq} (hs : s.nn) (h : Lo o n L δ A) : Lo o n L (s.sum δ) (Lq.mul (mo regG s) A) := by
  induction h with
  | nil => rw [Lq.mul_nil]; exact Lo.nil
  | cons c m j h1 h2 h3 h4 ih =>
    rw [Lq.mul_sum, Lq.mul_sc, ← Lq.mul_assoc]
    obtain ⟨B, hB, e⟩ := mo_low regG hL.ho hs h2
    rw [e, Lq.sum_mul]
    have has : (s.sum m).sum (lmL o L j) = s.sum (m.sum (lmL o L j)) := by
      unfold M.sum
      refine M.eta4 ?_ ?_ ?_ ?_ <;> (simp only; omega)
    have h5 : klt o ((s.sum m).sum (lmL o L j)) (s.sum δ) := by rw [has]; exact klt_add' s h3
    refine Lo.sum (Lo.sc c (Lo.sum ?_ (hB.lo h1 (.inl h5)))) ih
    have := Lo.one (o := o) (n := n) (L := L) (δ := s.sum δ) 1 h1 (M.nn_sum hs h2) h5
    rwa [Lq.sc_one] at this
/-- who divides whom, without bounds. -/
def M.le (a b : M) : Prop := a.x ≤ b.x ∧ a.y ≤ b.y ∧ a.d ≤ b.d ∧ a.e ≤ b.e
def M.sub (b a : M) : M := ⟨b.x - a.x, b.y - a.y, b.d - a.d, b.e - a.e⟩
theorem M.sub_sum {a b : M} : (M.sub b a).sum a = b := by
  unfold M.sub M.sum
  refine M.eta4 ?_ ?_ ?_ ?_ <;> (simp only; omega)
theorem M.sub_nn {a b : M} (h : M.le a b) : (M.sub b a).nn := by
  obtain ⟨h1, h2, h3, h4⟩ := h
  unfold M.sub
  exact ⟨by simp only; omega, by simp only; omega, by simp only; omega, by simp only; omega⟩
/-- terms as great as δ. -/
def tv (o : Int) (L : Nat → List T) (δ : M) : List (Fq × Nat) → Lq
  | [] => Lq.nil
  | (c, j) :: r => Lq.sum (Lq.sc c (Lq.mul (mo regG (M.sub δ (lmL o L j))) (Rp regG (L j)))) (tv o L δ r)
def Tp (o : Int) (n : Nat) (L : Nat → List T) (δ : M) (tp : List (Fq × Nat)) : Prop := ∀ q ∈ tp, q.2 < n ∧ M.le (lmL o L q.2) δ
theorem tv_lo {δ δ' : M} {tp : List (Fq × Nat)} (h : Tp o n L δ tp) (hd : klt o δ δ') : Lo o n L δ' (tv o L δ tp) := by
  induction tp with
  | nil => exact Lo.nil
  | cons q r ih =>
    obtain ⟨h1, h2⟩ := h q (List.mem_cons_self ..)
    exact Lo.cons q.1 _ q.2 h1 (M.sub_nn h2) (by rw [M.sub_sum]; exact hd) (ih (fun s hs => h s (List.mem_cons_of_mem _ hs)))
def Le (o : Int) (n : Nat) (L : Nat → List T) (δ : M) (A : Lq) : Prop := ∃ tp B, Tp o n L δ tp ∧ Lo o n L δ B ∧ A = Lq.sum (tv o L δ tp) B
theorem Le.lo {δ δ' : M} {A : Lq} (h : Le o n L δ A) (hd : klt o δ δ') : Lo o n L δ' A := by
  obtain ⟨tp, B, h1, h2, rfl⟩ := h
  exact (tv_lo h1 hd).sum (h2.mono (.inl hd))
/-- the greatest of what is made of the list. -/
theorem Lo.max (hL : Lds o n L) {δ : M} {A : Lq} (h : Lo o n L δ A) : A = Lq.nil ∨ ∃ δ', δ'.nn ∧ klt o δ' δ ∧ Le o n L δ' A := by
  induction h with
  | nil => exact .inl rfl
  | cons c m j h1 h2 h3 h4 ih =>
    have hμ := M.nn_sum h2 (hL.nn h1)
    have hle : M.le (lmL o L j) (m.sum (lmL o L j)) := by
      obtain ⟨a1, a2, a3, a4⟩ := h2
      unfold M.sum
      exact ⟨by simp only; omega, by simp only; omega, by simp only; omega, by simp only; omega⟩
    have esub : M.sub (m.sum (lmL o L j)) (lmL o L j) = m := by
      unfold M.sub M.sum
      refine M.eta4 ?_ ?_ ?_ ?_ <;> (simp only; omega)
    right
    rcases ih with e | ⟨δ', d1, d2, d3⟩
    · refine ⟨_, hμ, h3, [(c, j)], Lq.nil, fun q hq => ?_, Lo.nil, ?_⟩
      · rw [List.mem_singleton.1 hq]; exact ⟨h1, hle⟩
      · rw [e]
        show _ = Lq.sum (Lq.sum (Lq.sc c (Lq.mul (mo regG (M.sub (m.sum (lmL o L j)) (lmL o L j))) (Rp regG (L j)))) Lq.nil) Lq.nil
        rw [esub, Lq.sum_nil, Lq.sum_nil]
    · rcases klt_tri o (m.sum (lmL o L j)) δ' with q | q | q
      · obtain ⟨tp, B, e1, e2, rfl⟩ := d3
        refine ⟨δ', d1, d2, tp, Lq.sum (Lq.sc c (Lq.mul (mo regG m) (Rp regG (L j)))) B, e1, Lo.cons c m j h1 h2 q e2, ?_⟩
        rw [← Lq.sum_assoc, Lq.sum_comm _ (tv o L δ' tp), Lq.sum_assoc]
      · obtain ⟨tp, B, e1, e2, rfl⟩ := d3
        refine ⟨δ', d1, d2, (c, j) :: tp, B, fun z hz => ?_, e2, ?_⟩
        · rcases List.mem_cons.1 hz with rfl | hz
          · exact ⟨h1, by rw [← q]; exact hle⟩
          · exact e1 z hz
        · show _ = Lq.sum (Lq.sum (Lq.sc c (Lq.mul (mo regG (M.sub δ' (lmL o L j))) (Rp regG (L j)))) (tv o L δ' tp)) B
          rw [← q, esub, Lq.sum_assoc]
      · refine ⟨_, hμ, h3, [(c, j)], _, fun z hz => ?_, d3.lo q, ?_⟩
        · rw [List.mem_singleton.1 hz]; exact ⟨h1, hle⟩
        · show _ = Lq.sum (Lq.sum (Lq.sc c (Lq.mul (mo regG (M.sub (m.sum (lmL o L j)) (lmL o L j))) (Rp regG (L j)))) Lq.nil) _
          rw [esub, Lq.sum_nil]
theorem Lo.cf0 (hL : Lds o n L) {δ : M} {A : Lq} (hδ : δ.nn) (h : Lo o n L δ A) : cfR A δ = 0 := by
  induction h with
  | nil => exact cf_nil δ
  | cons c m j h1 h2 h3 h4 ih => rw [cf_sum, cf_sc, hL.cf_off h1 h2 hδ h3, ih]; grind
/-- what both divide. -/
def M.lcm (a b : M) : M := ⟨if a.x ≤ b.x then b.x else a.x, if a.y ≤ b.y then b.y else a.y, if a.d ≤ b.d then b.d else a.d, if a.e ≤ b.e then b.e else a.e⟩
theorem M.le_lcm (a b : M) : M.le a (M.lcm a b) ∧ M.le b (M.lcm a b) := by
  unfold M.le M.lcm
  simp only
  refine ⟨⟨?_, ?_, ?_, ?_⟩, ?_, ?_, ?_, ?_⟩ <;> (split <;> omega)
theorem M.lcm_le {a b c : M} (h1 : M.le a c) (h2 : M.le b c) : M.le (M.lcm a b) c := by
  obtain ⟨a1, a2, a3, a4⟩ := h1
  obtain ⟨b1, b2, b3, b4⟩ := h2
  unfold M.le M.lcm
  simp only
  refine ⟨?_, ?_, ?_, ?_⟩ <;> (split <;> omega)
/-- nothing is left of a pair but what is smaller. -/
def Pair (o : Int) (n : Nat) (L : Nat → List T) (i k : Nat) : Prop := ∀ u v : Fq, u * zz (ldL o (L i)).c = 1 → v * zz (ldL o (L k)).c = 1 → Lo o n L (M.lcm (lmL o L i) (lmL o L k)) (Lq.sum (Lq.sc u (Lq.mul (mo regG (M.sub (M.lcm (lmL o L i) (lmL o L k)) (lmL o L i))) (Rp regG (L i)))) (Lq.sc (-v) (Lq.mul (mo regG (M.sub (M.lcm (lmL o L i) (lmL o L k)) (lmL o L k))) (Rp regG (L k)))))
theorem M.sub_sub {a b c : M} : (M.sub c b).sum (M.sub b a) = M.sub c a := by
  unfold M.sub M.sum
  refine M.eta4 ?_ ?_ ?_ ?_ <;> (simp only; omega)
/-- a pair, as great as δ. -/
theorem Pair.up (hL : Lds o n L) {i k : Nat} (hi : i < n) (hk : k < n) (h : Pair o n L i k) {δ : M} (hδi : M.le (lmL o L i) δ) (hδk : M.le (lmL o L k) δ) {u v : Fq} (hu : u * zz (ldL o (L i)).c = 1) (hv : v * zz (ldL o (L k)).c = 1) : Lo o n L δ (Lq.sum (Lq.sc u (Lq.mul (mo regG (M.sub δ (lmL o L i))) (Rp regG (L i)))) (Lq.sc (-v) (Lq.mul (mo regG (M.sub δ (lmL o L k))) (Rp regG (L k))))) := by
  have hb := M.lcm_le hδi hδk
  have hs := M.sub_nn hb
  obtain ⟨l1, l2⟩ := M.le_lcm (lmL o L i) (lmL o L k)
  obtain ⟨A, a1, a2⟩ := mo_low regG hL.ho hs (M.sub_nn l1)
  obtain ⟨B, b1, b2⟩ := mo_low regG hL.ho hs (M.sub_nn l2)
  rw [M.sub_sub] at a1 a2 b1 b2
  have key := (h u v hu hv).mul hL hs
  rw [M.sub_sum] at key
  have la := (a1.lo hi (.inr (M.sub_sum))).sc (-u)
  have lb := (b1.lo hk (.inr (M.sub_sum))).sc v
  have tot := (key.sum la).sum lb
  have e : Lq.sum (Lq.sum (Lq.mul (mo regG (M.sub δ (M.lcm (lmL o L i) (lmL o L k)))) (Lq.sum (Lq.sc u (Lq.mul (mo regG (M.sub (M.lcm (lmL o L i) (lmL o L k)) (lmL o L i))) (Rp regG (L i)))) (Lq.sc (-v) (Lq.mul (mo regG (M.sub (M.lcm (lmL o L i) (lmL o L k)) (lmL o L k))) (Rp regG (L k)))))) (Lq.sc (-u) (Lq.mul A (Rp regG (L i))))) (Lq.sc v (Lq.mul B (Rp regG (L k)))) = Lq.sum (Lq.sc u (Lq.mul (mo regG (M.sub δ (lmL o L i))) (Rp regG (L i)))) (Lq.sc (-v) (Lq.mul (mo regG (M.sub δ (lmL o L k))) (Rp regG (L k)))) := by
    rw [Lq.mul_sum, Lq.mul_sc, Lq.mul_sc, ← Lq.mul_assoc, ← Lq.mul_assoc, a2, b2, Lq.sum_mul, Lq.sum_mul]
    refine Lq.ext fun w p q => ?_
    simp only [sum_f, sc_f]
    grind
  rw [e] at tot
  exact tot
theorem inv_ex (c : Fq) (h : c ≠ 0) : ∃ u : Fq, u * c = 1 := by
  have key : ∀ c : Fq, c ≠ 0 → ∃ u : Fq, u * c = 1 := by decide +kernel
  exact key c h
/-! the order goes down but so often -/
def keyN (o : Int) (m : M) : Nat × Nat × Nat × Nat × Nat := ((kf o m).toNat, m.d.toNat, m.e.toNat, m.x.toNat, m.y.toNat)
theorem kf_nn {o : Int} {m : M} (h : m.nn) : 0 ≤ kf o m := by
  obtain ⟨h1, h2, h3, h4⟩ := h
  unfold kf
  split
  · omega
  · split <;> omega
theorem lt_rel {a b : Nat} (h : a < b) : WellFoundedRelation.rel a b := h
theorem klt_ind {P : M → Prop} (h : ∀ δ : M, δ.nn → (∀ δ' : M, δ'.nn → klt o δ' δ → P δ') → P δ) : ∀ δ : M, δ.nn → P δ := by
  have wf := (inferInstance : WellFoundedRelation (Nat × Nat × Nat × Nat × Nat)).wf
  have key : ∀ k : Nat × Nat × Nat × Nat × Nat, ∀ δ : M, δ.nn → keyN o δ = k → P δ := fun k => by
    induction k using wf.induction with
    | _ k ih =>
      intro δ hδ hk
      refine h δ hδ (fun δ' hn hlt => ih (keyN o δ') ?_ δ' hn rfl)
      rw [← hk]
      have p1 := kf_nn (o := o) hδ
      have p2 := kf_nn (o := o) hn
      obtain ⟨q1, q2, q3, q4⟩ := hδ
      obtain ⟨r1, r2, r3, r4⟩ := hn
      unfold klt at hlt
      show Prod.Lex _ _ _ _
      unfold keyN
      rcases hlt with hlt | ⟨e1, hlt⟩
      · exact Prod.Lex.left _ _ (lt_rel (by omega))
      · rw [e1]
        refine Prod.Lex.right _ ?_
        show Prod.Lex _ _ _ _
        rcases hlt with hlt | ⟨e2, hlt⟩
        · exact Prod.Lex.left _ _ (lt_rel (by omega))
        · rw [e2]
          refine Prod.Lex.right _ ?_
          show Prod.Lex _ _ _ _
          rcases hlt with hlt | ⟨e3, hlt⟩
          · exact Prod.Lex.left _ _ (lt_rel (by omega))
          · rw [e3]
            refine Prod.Lex.right _ ?_
            show Prod.Lex _ _ _ _
            rcases hlt with hlt | ⟨e4, hlt⟩
            · exact Prod.Lex.left _ _ (lt_rel (by omega))
            · rw [e4]
              refine Prod.Lex.right _ ?_
              exact lt_rel (by omega)
  exact fun δ hδ => key _ δ hδ rfl
/-- WHATEVER IS MADE OF A BASIS has a monomial that a greatest one divides. -/
theorem basis_top (hL : Lds o n L) (hP : ∀ i k, i < k → k < n → Pair o n L i k) : ∀ δ : M, δ.nn → ∀ A, Le o n L δ A → A ≠ Lq.nil → ∃ m j, m.nn ∧ j < n ∧ M.le (lmL o L j) m ∧ cfR A m ≠ 0 := by
  refine klt_ind (o := o) (P := fun δ => ∀ A, Le o n L δ A → A ≠ Lq.nil → ∃ m j, m.nn ∧ j < n ∧ M.le (lmL o L j) m ∧ cfR A m ≠ 0) (fun δ hδ ih A hA hne => ?_)
  obtain ⟨tp, B, h1, h2, e⟩ := hA
  have low : ∀ A, Lo o n L δ A → A ≠ Lq.nil → ∃ m j, m.nn ∧ j < n ∧ M.le (lmL o L j) m ∧ cfR A m ≠ 0 := fun A hA hne => by
    rcases hA.max hL with q | ⟨δ', d1, d2, d3⟩
    · exact absurd q hne
    · exact ih δ' d1 d2 A d3 hne
  have pair' : ∀ i k, i < n → k < n → i ≠ k → M.le (lmL o L i) δ → M.le (lmL o L k) δ → ∀ c : Fq, ∃ d : Fq, Lo o n L δ (Lq.sum (Lq.sc c (Lq.mul (mo regG (M.sub δ (lmL o L i))) (Rp regG (L i)))) (Lq.sc d (Lq.mul (mo regG (M.sub δ (lmL o L k))) (Rp regG (L k))))) := fun i k hi hk hik di dk c => by
    obtain ⟨u, hu⟩ := inv_ex (zz (ldL o (L i)).c) (zz_ne (hL.good hi).2.1 (hL.good hi).2.2)
    obtain ⟨v, hv⟩ := inv_ex (zz (ldL o (L k)).c) (zz_ne (hL.good hk).2.1 (hL.good hk).2.2)
    rcases Nat.lt_or_gt_of_ne hik with q | q
    · have := ((hP i k q hk).up hL hi hk di dk hu hv).sc (c * zz (ldL o (L i)).c)
      refine ⟨c * zz (ldL o (L i)).c * -v, ?_⟩
      rw [Lq.sc_sum, Lq.sc_sc, Lq.sc_sc] at this
      rwa [show c * zz (ldL o (L i)).c * u = c from by grind] at this
    · have := ((hP k i q hi).up hL hk hi dk di hv hu).sc (-(c * zz (ldL o (L i)).c))
      refine ⟨-(c * zz (ldL o (L i)).c) * v, ?_⟩
      rw [Lq.sc_sum, Lq.sc_sc, Lq.sc_sc, Lq.sum_comm] at this
      rwa [show -(c * zz (ldL o (L i)).c) * -u = c from by grind] at this
  revert A B
  induction htp : tp.length generalizing tp with
  | zero =>
    intro A hne B h2 e
    rw [List.length_eq_zero_iff.1 htp] at e
    have : A = B := by rw [e]; show Lq.sum Lq.nil B = B; rw [Lq.sum_comm, Lq.sum_nil]
    subst this
    exact low A h2 hne
  | succ N iN =>
    intro A hne B h2 e
    match tp, htp, h1, e with
    | [(c, j)], _, h1, e =>
      obtain ⟨j1, j2⟩ := h1 (c, j) (List.mem_singleton.2 rfl)
      by_cases hc : c = 0
      · refine iN [] (fun q hq => by cases hq) (by have := ‹[(c, j)].length = N + 1›; simp at this ⊢; omega) A hne B h2 ?_
        rw [e, hc]
        show Lq.sum (Lq.sum (Lq.sc 0 _) Lq.nil) B = Lq.sum Lq.nil B
        rw [Lq.sc_zero, Lq.sum_nil]
      · refine ⟨δ, j, hδ, j1, j2, ?_⟩
        rw [e]
        show cfR (Lq.sum (Lq.sum (Lq.sc c (Lq.mul (mo regG (M.sub δ (lmL o L j))) (Rp regG (L j)))) Lq.nil) B) δ ≠ 0
        rw [Lq.sum_nil, cf_sum, cf_sc, h2.cf0 hL hδ]
        have h5 := hL.cf_top j1 (M.sub_nn j2)
        rw [M.sub_sum] at h5
        rw [h5]
        intro q
        have q' : c * zz (ldL o (L j)).c = 0 := by grind
        rcases fq_mul _ _ q' with q | q
        · exact hc q
        · exact zz_ne (hL.good j1).2.1 (hL.good j1).2.2 q
    | (c, j) :: (d, k) :: r, hlen, h1, e =>
      obtain ⟨j1, j2⟩ := h1 (c, j) (List.mem_cons_self ..)
      obtain ⟨k1, k2⟩ := h1 (d, k) (List.mem_cons_of_mem _ (List.mem_cons_self ..))
      by_cases hjk : j = k
      · subst hjk
        refine iN ((c + d, j) :: r) (fun q hq => ?_) (by simpa using hlen) A hne B h2 ?_
        · rcases List.mem_cons.1 hq with rfl | hq
          · exact ⟨j1, j2⟩
          · exact h1 q (List.mem_cons_of_mem _ (List.mem_cons_of_mem _ hq))
        · rw [e]
          show Lq.sum (Lq.sum (Lq.sc c _) (Lq.sum (Lq.sc d _) (tv o L δ r))) B = Lq.sum (Lq.sum (Lq.sc (c + d) _) (tv o L δ r)) B
          rw [Lq.sc_add]
          simp only [Lq.sum_assoc]
      · obtain ⟨d', hd'⟩ := pair' j k j1 k1 hjk j2 k2 c
        refine iN ((d - d', k) :: r) (fun q hq => ?_) (by simpa using hlen) A hne (Lq.sum (Lq.sum (Lq.sc c (Lq.mul (mo regG (M.sub δ (lmL o L j))) (Rp regG (L j)))) (Lq.sc d' (Lq.mul (mo regG (M.sub δ (lmL o L k))) (Rp regG (L k))))) B) (hd'.sum h2) ?_
        · rcases List.mem_cons.1 hq with rfl | hq
          · exact ⟨k1, k2⟩
          · exact h1 q (List.mem_cons_of_mem _ (List.mem_cons_of_mem _ hq))
        · rw [e]
          refine Lq.ext fun w p q => ?_
          simp only [tv, sum_f, sc_f]
          grind
end Go.Proofs.YtmlaedpamobmhaaGreat
