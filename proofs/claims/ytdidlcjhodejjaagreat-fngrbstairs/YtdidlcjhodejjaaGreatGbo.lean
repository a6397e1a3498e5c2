/-
  A list of operators of whose pairs nothing is left by smaller ones is a basis: whatever is made of it, and is not 0, has a monomial that a greatest one of the list divides.
  What is true of a division: what is taken and what is left is all; nothing is greater; what is left is free, and is left again; so many times an operator.
  Lists of operators as lists; whether two are the same (laws.heList).
-/
import Derived.Test.YtdidlcjhodejjaaGreatGbn
import Derived.Test.YtdidlcjhodejjaaGreatGbh
import Derived.Test.YtdidlcjhodejjaaGreatGaz
import Derived.Test.YtdidlcjhodejjaaGreatGbg
import Derived.Test.YtdidlcjhodejjaaGreatGaq
namespace Go.Proofs.YtdidlcjhodejjaaGreat
open Go.RowKit
set_option linter.unusedVariables false

/-! products of monomials without bounds -/
def lmM (a b : M) (i k : Nat) : M := ⟨a.x + b.x - (i : Int), a.y + b.y - (k : Int), a.d + b.d - (i : Int), a.e + b.e - (k : Int)⟩
theorem lmM_zero (a b : M) : lmM a b 0 0 = a.sum b := by
  unfold lmM M.sum
  simp
theorem moN_mul (g : Gen) (a b : M) (ha : a.nn) (hb : b.nn) : Lq.mul (mo g a) (mo g b) = Lq.sumN (fun i => Lq.sumN (fun k => Lq.sc (nf (wN a.d.toNat b.x.toNat i) * nf (wN a.e.toNat b.y.toNat k)) (mo g (lmM a b i k))) (min a.e.toNat b.y.toNat + 1)) (min a.d.toNat b.x.toNat + 1) := by
  obtain ⟨ax0, ay0, ad0, ae0⟩ := ha
  obtain ⟨bx0, by0, bd0, be0⟩ := hb
  have e1 : Lq.mul (mo g a) (mo g b) = Lq.mul (Lq.mul (Lq.pow g.x a.x.toNat) (Lq.pow g.y a.y.toNat)) (Lq.mul (Lq.mul (Lq.pow g.d a.d.toNat) (Lq.pow g.x b.x.toNat)) (Lq.mul (Lq.mul (Lq.pow g.e a.e.toNat) (Lq.pow g.y b.y.toNat)) (Lq.mul (Lq.pow g.d b.d.toNat) (Lq.pow g.e b.e.toNat)))) := by
    have h := g.xe.symm.pows a.e.toNat b.x.toNat
    calc _ = Lq.mul (Lq.mul (Lq.pow g.x a.x.toNat) (Lq.pow g.y a.y.toNat)) (Lq.mul (Lq.pow g.d a.d.toNat) (Lq.mul (Lq.mul (Lq.pow g.e a.e.toNat) (Lq.pow g.x b.x.toNat)) (Lq.mul (Lq.pow g.y b.y.toNat) (Lq.mul (Lq.pow g.d b.d.toNat) (Lq.pow g.e b.e.toNat))))) := rfl
      _ = Lq.mul (Lq.mul (Lq.pow g.x a.x.toNat) (Lq.pow g.y a.y.toNat)) (Lq.mul (Lq.pow g.d a.d.toNat) (Lq.mul (Lq.mul (Lq.pow g.x b.x.toNat) (Lq.pow g.e a.e.toNat)) (Lq.mul (Lq.pow g.y b.y.toNat) (Lq.mul (Lq.pow g.d b.d.toNat) (Lq.pow g.e b.e.toNat))))) := by rw [h]
      _ = _ := rfl
  rw [e1, order_cut g.wx, order_cut g.wy, Lq.sumN_mul, Lq.mul_sumN]
  refine Lq.sumN_congr (fun i hi => ?_)
  rw [Lq.sc_mul, Lq.mul_sc, Lq.sumN_mul, Lq.mul_sumN, Lq.mul_sumN, Lq.sc_sumN]
  refine Lq.sumN_congr (fun k hk => ?_)
  rw [Lq.sc_mul, Lq.mul_sc, Lq.mul_sc, Lq.sc_sc, shuffle (g.xy.symm.pows _ _) (g.dy.pows _ _) (g.de.symm.pows _ _), ← Lq.pow_add, ← Lq.pow_add, ← Lq.pow_add, ← Lq.pow_add]
  unfold mo lmM
  simp only
  rw [show a.x.toNat + (b.x.toNat - i) = (a.x + b.x - (i : Int)).toNat by omega, show a.y.toNat + (b.y.toNat - k) = (a.y + b.y - (k : Int)).toNat by omega, show a.d.toNat - i + b.d.toNat = (a.d + b.d - (i : Int)).toNat by omega, show a.e.toNat - k + b.e.toNat = (a.e + b.e - (k : Int)).toNat by omega]
theorem wN_zero (b c : Nat) : wN b c 0 = 1 := by unfold wN; rw [chN_zero]; rfl
/-- Lq's below a sum: all that stands in it is lower. -/
inductive Lw (g : Gen) (o : Int) (μ : M) : Lq → Prop
  | nil : Lw g o μ Lq.nil
  | cons {A : Lq} (c : Fq) (m : M) : m.nn → klt o m μ → Lw g o μ A → Lw g o μ (Lq.sum (Lq.sc c (mo g m)) A)
theorem Lw.sum {g : Gen} {o : Int} {μ : M} {A B : Lq} (h : Lw g o μ A) (h' : Lw g o μ B) : Lw g o μ (Lq.sum A B) := by
  induction h with
  | nil => rw [Lq.sum_comm, Lq.sum_nil]; exact h'
  | cons c m h1 h2 h3 ih => rw [Lq.sum_assoc]; exact Lw.cons c m h1 h2 ih
theorem Lw.one {g : Gen} {o : Int} {μ : M} (c : Fq) {m : M} (h1 : m.nn) (h2 : klt o m μ) : Lw g o μ (Lq.sc c (mo g m)) := by
  have := Lw.cons (g := g) c m h1 h2 Lw.nil
  rwa [Lq.sum_nil] at this
theorem Lw.sumN {g : Gen} {o : Int} {μ : M} {f : Nat → Lq} : ∀ n, (∀ i, i < n → Lw g o μ (f i)) → Lw g o μ (Lq.sumN f n)
  | 0, _ => Lw.nil
  | n + 1, h => by rw [Lq.sumN]; exact (Lw.sumN n (fun i hi => h i (by omega))).sum (h n (by omega))
/-- a product of monomials is both together, and what is lower. -/
theorem mo_low (g : Gen) {o : Int} (ho : 1 ≤ o ∧ o ≤ 3) {a b : M} (ha : a.nn) (hb : b.nn) : ∃ A, Lw g o (a.sum b) A ∧ Lq.mul (mo g a) (mo g b) = Lq.sum (mo g (a.sum b)) A := by
  have hnn : ∀ i k : Nat, i < min a.d.toNat b.x.toNat + 1 → k < min a.e.toNat b.y.toNat + 1 → (lmM a b i k).nn := fun i k hi hk => by
    obtain ⟨ax0, ay0, ad0, ae0⟩ := ha
    obtain ⟨bx0, by0, bd0, be0⟩ := hb
    refine ⟨?_, ?_, ?_, ?_⟩ <;> (unfold lmM; simp only; omega)
  have hlt : ∀ i k : Nat, 0 < i + k → klt o (lmM a b i k) (a.sum b) := fun i k h => klt_low ho a b (by omega) (by omega) (by omega)
  rw [moN_mul g a b ha hb, Lq.sumN_head, Lq.sumN_head]
  refine ⟨Lq.sum (Lq.sumN (fun i => Lq.sc (nf (wN a.d.toNat b.x.toNat 0) * nf (wN a.e.toNat b.y.toNat (i + 1))) (mo g (lmM a b 0 (i + 1)))) (min a.e.toNat b.y.toNat)) (Lq.sumN (fun i => Lq.sumN (fun k => Lq.sc (nf (wN a.d.toNat b.x.toNat (i + 1)) * nf (wN a.e.toNat b.y.toNat k)) (mo g (lmM a b (i + 1) k))) (min a.e.toNat b.y.toNat + 1)) (min a.d.toNat b.x.toNat)), ?_, ?_⟩
  · refine Lw.sum (Lw.sumN _ (fun i hi => Lw.one _ (hnn _ _ (by omega) (by omega)) (hlt _ _ (by omega)))) (Lw.sumN _ (fun i hi => Lw.sumN _ (fun k hk => Lw.one _ (hnn _ _ (by omega) (by omega)) (hlt _ _ (by omega)))))
  · rw [Lq.sum_assoc, wN_zero, wN_zero, nf_one, lmM_zero, show (1 : Fq) * 1 = 1 from rfl, Lq.sc_one]
theorem Lw.cf {o : Int} {μ m : M} {A : Lq} (h : Lw regG o μ A) (hm : m.nn) (hl : ¬ klt o m μ) : cfR A m = 0 := by
  induction h with
  | nil => exact cf_nil m
  | cons c a h1 h2 h3 ih =>
    rw [cf_sum, cf_sc, ih, cf_mo h1 hm]
    unfold dl
    rw [if_neg]
    · grind
    · intro e
      rw [meqB_eq.1 e] at hl
      exact hl h2
/-! the list, and what is made of it -/
variable (o : Int) (n : Nat) (L : Nat → List T)
def lmL (j : Nat) : M := (ldL o (L j)).m
/-- a list with greatest terms. -/
structure Lds : Prop where
  ho : 1 ≤ o ∧ o ≤ 3
  fl : ∀ j, j < n → okL (L j) = true ∧ (L j).length ≠ 0
variable {o n L}
theorem Lds.mem (h : Lds o n L) {j : Nat} (hj : j < n) : ldL o (L j) ∈ L j := ldL_mem (h.fl j hj).2
theorem Lds.falls (h : Lds o n L) {j : Nat} (hj : j < n) : Falls (L j) := (okL_falls (h.fl j hj).1).2
theorem Lds.good (h : Lds o n L) {j : Nat} (hj : j < n) : (ldL o (L j)).m.ok = true ∧ 1 ≤ (ldL o (L j)).c ∧ (ldL o (L j)).c ≤ 100 := (h.falls hj).2 _ (h.mem hj)
theorem Lds.nn (h : Lds o n L) {j : Nat} (hj : j < n) : (lmL o L j).nn := M.nn_ok (h.good hj).1
theorem Lds.top (h : Lds o n L) {j : Nat} (hj : j < n) {t : T} (ht : t ∈ L j) (hne : t.m ≠ lmL o L j) : klt o t.m (lmL o L j) := by
  have h1 := ldL_top h.ho (h.fl j hj).1 (h.fl j hj).2 t ht
  have h2 := ((h.falls hj).2 t ht).1
  have h3 := (h.good hj).1
  refine rkW_klt h.ho h2 h3 ?_
  rcases Int.lt_or_eq_of_le h1 with h4 | h4
  · exact h4
  · exact absurd (rkW_inj _ _ h2 h3 h4) hne
theorem mul_Rp (A : Lq) (g : Gen) : ∀ K : List T, Lq.mul A (Rp g K) = K.foldr (fun t B => Lq.sum (Lq.sc (zz t.c) (Lq.mul A (mo g t.m))) B) Lq.nil
  | [] => rfl
  | t :: r => by
    rw [List.foldr_cons, ← mul_Rp A g r]
    rfl
theorem cf_mulRp (A : Lq) (m : M) : ∀ K : List T, cfR (Lq.mul A (Rp regG K)) m = su K (fun t => zz t.c * cfR (Lq.mul A (mo regG t.m)) m)
  | [] => rfl
  | t :: r => by
    rw [su, ← cf_mulRp A m r]
    rfl
/-- the number of both greatest monomials together; and beyond it none. -/
theorem Lds.cf_top (h : Lds o n L) {j : Nat} (hj : j < n) {m : M} (hm : m.nn) : cfR (Lq.mul (mo regG m) (Rp regG (L j))) (m.sum (lmL o L j)) = zz (ldL o (L j)).c := by
  have hδ := M.nn_sum hm (h.nn hj)
  rw [cf_mulRp, su_falls (h.falls hj) (h.mem hj) (fun t ht hne => ?_)]
  · obtain ⟨A, h1, h2⟩ := mo_low regG h.ho hm (h.nn hj)
    have e : cfR (Lq.mul (mo regG m) (mo regG (lmL o L j))) (m.sum (lmL o L j)) = 1 := by
      rw [h2, cf_sum, h1.cf hδ klt_irr, cf_mo hδ hδ]
      unfold dl
      rw [if_pos (meqB_eq.2 rfl)]
      decide
    have e' : cfR (Lq.mul (mo regG m) (mo regG (ldL o (L j)).m)) (m.sum (lmL o L j)) = 1 := e
    rw [e']
    grind
  · have h4 := M.nn_ok ((h.falls hj).2 t ht).1
    obtain ⟨A, h1, h2⟩ := mo_low regG h.ho hm h4
    have h3 := klt_add' m (h.top hj ht hne)
    have e : cfR (Lq.mul (mo regG m) (mo regG t.m)) (m.sum (lmL o L j)) = 0 := by
      rw [h2, cf_sum, h1.cf hδ (fun q => klt_irr (klt_trans q h3)), cf_mo (M.nn_sum hm h4) hδ]
      unfold dl
      rw [if_neg]
      · decide
      · intro q
        rw [meqB_eq.1 q] at h3
        exact klt_irr h3
    rw [e]
    grind
theorem Lds.cf_off (h : Lds o n L) {j : Nat} (hj : j < n) {m δ : M} (hm : m.nn) (hδ : δ.nn) (hl : klt o (m.sum (lmL o L j)) δ) : cfR (Lq.mul (mo regG m) (Rp regG (L j))) δ = 0 := by
  rw [cf_mulRp]
  refine su_zero _ _ (fun t ht => ?_)
  have h4 := M.nn_ok ((h.falls hj).2 t ht).1
  obtain ⟨A, h1, h2⟩ := mo_low regG h.ho hm h4
  have h3 : klt o (m.sum t.m) δ := by
    by_cases e : t.m = lmL o L j
    · rw [e]; exact hl
    · exact klt_trans (klt_add' m (h.top hj ht e)) hl
  rw [h2, cf_sum, h1.cf hδ (fun q => klt_irr (klt_trans q h3)), cf_mo (M.nn_sum hm h4) hδ]
  unfold dl
  rw [if_neg]
  · grind
  · intro q
    rw [meqB_eq.1 q] at h3
    exact klt_irr h3
/-- what is made of the list with nothing as great as δ. -/
inductive Lo (o : Int) (n : Nat) (L : Nat → List T) (δ : M) : Lq → Prop
  | nil : Lo o n L δ Lq.nil
  | cons {A : Lq} (c : Fq) (m : M) (j : Nat) : j < n → m.nn → klt o (m.sum (lmL o L j)) δ → Lo o n L δ A → Lo o n L δ (Lq.sum (Lq.sc c (Lq.mul (mo regG m) (Rp regG (L j)))) A)
theorem Lo.sum {δ : M} {A B : Lq} (h : Lo o n L δ A) (h' : Lo o n L δ B) : Lo o n L δ (Lq.sum A B) := by
  induction h with
  | nil => rw [Lq.sum_comm, Lq.sum_nil]; exact h'
  | cons c m j h1 h2 h3 h4 ih => rw [Lq.sum_assoc]; exact Lo.cons c m j h1 h2 h3 ih
theorem Lo.sc {δ : M} {A : Lq} (d : Fq) (h : Lo o n L δ A) : Lo o n L δ (Lq.sc d A) := by
  induction h with
  | nil =>
    rw [show Lq.sc d Lq.nil = Lq.nil from Lq.ext fun u n k => by show d * (0 : Fq) = 0; grind]
    exact Lo.nil
  | cons c m j h1 h2 h3 h4 ih => rw [Lq.sc_sum, Lq.sc_sc]; exact Lo.cons _ m j h1 h2 h3 ih
theorem Lo.mono {δ δ' : M} {A : Lq} (h : Lo o n L δ A) (hd : klt o δ δ' ∨ δ = δ') : Lo o n L δ' A := by
  induction h with
  | nil => exact Lo.nil
  | cons c m j h1 h2 h3 h4 ih =>
    refine Lo.cons c m j h1 h2 ?_ ih
    rcases hd with hd | hd
    · exact klt_trans h3 hd
    · rw [← hd]; exact h3
theorem Lo.one {δ : M} (c : Fq) {m : M} {j : Nat} (h1 : j < n) (h2 : m.nn) (h3 : klt o (m.sum (lmL o L j)) δ) : Lo o n L δ (Lq.sc c (Lq.mul (mo regG m) (Rp regG (L j)))) := by
  have := Lo.cons c m j h1 h2 h3 (Lo.nil (o := o) (n := n) (L := L) (δ := δ))
  rwa [Lq.sum_nil] at this
/-- what is lower, times one of the list. -/
theorem Lw.lo {μ δ : M} {A : Lq} {j : Nat} (hj : j < n) (h : Lw regG o μ A) (hd : klt o (μ.sum (lmL o L j)) δ ∨ μ.sum (lmL o L j) = δ) : Lo o n L δ (Lq.mul A (Rp regG (L j))) := by
  induction h with
  | nil => rw [Lq.nil_mul]; exact Lo.nil
  | cons c m h1 h2 h3 ih =>
    rw [Lq.sum_mul, Lq.sc_mul]
    refine Lo.cons c m j hj h1 ?_ ih
    rcases hd with hd | hd
    · exact klt_trans (klt_add _ h2) hd
    · rw [← hd]; exact klt_add _ h2
/-- a monomial, times what is made of the list. -/
theorem Lo.mul (hL : Lds o n L) {δ s : M} {A : Lq} (hs : s.nn) (h : Lo o n L δ A) : Lo o n L (s.sum δ) (Lq.mul (mo regG s) A) := by
  induction h with
  | nil => rw [Lq.mul_nil]; exact Lo.nil
  | cons c m j h1 h2 h3 h4 ih =>
    rw [Lq.mul_sum, Lq.mul_sc, ← Lq.mul_assoc]
    obtain ⟨B, hB, e⟩ := mo_low regG hL.ho hs h2
    rw [e, Lq.sum_mul]
    have has : (s.sum m).sum (lmL o L j) = s.sum (m.sum (lmL o L j)) := by
      unfold M.sum
      refine M.eta4 ?_ ?_ ?_ ?_ <;> (simp only; omega)
    have h5 : klt o ((s.sum m).sum (lmL o L j)) (s.sum δ) := by rw [has]; exact klt_add' s h3
    refine Lo.sum (Lo.sc c (Lo.sum ?_ (hB.lo h1 (.inl h5)))) ih
    have := Lo.one (o := o) (n := n) (L := L) (δ := s.sum δ) 1 h1 (M.nn_sum hs h2) h5
    rwa [Lq.sc_one] at this
/-- who divides whom, without bounds. -/
def M.le (a b : M) : Prop := a.x ≤ b.x ∧ a.y ≤ b.y ∧ a.d ≤ b.d ∧ a.e ≤ b.e
def M.sub (b a : M) : M := ⟨b.x - a.x, b.y - a.y, b.d - a.d, b.e - a.e⟩
theorem M.sub_sum {a b : M} : (M.sub b a).sum a = b := by
  unfold M.sub M.sum
  refine M.eta4 ?_ ?_ ?_ ?_ <;> (simp only; omega)
theorem M.sub_nn {a b : M} (h : M.le a b) : (M.sub b a).nn := by
  obtain ⟨h1, h2, h3, h4⟩ := h
  unfold M.sub
  exact ⟨by simp only; omega, by simp only; omega, by simp only; omega, by simp only; omega⟩
/-- terms as great as δ. -/
def tv (o : Int) (L : Nat → List T) (δ : M) : List (Fq × Nat) → Lq
  | [] => Lq.nil
  | (c, j) :: r => Lq.sum (Lq.sc c (Lq.mul (mo regG (M.sub δ (lmL o L j))) (Rp regG (L j)))) (tv o L δ r)
def Tp (o : Int) (n : Nat) (L : Nat → List T) (δ : M) (tp : List (Fq × Nat)) : Prop := ∀ q ∈ tp, q.2 < n ∧ M.le (lmL o L q.2) δ
theorem tv_lo {δ δ' : M} {tp : List (Fq × Nat)} (h : Tp o n L δ tp) (hd : klt o δ δ') : Lo o n L δ' (tv o L δ tp) := by
  induction tp with
  | nil => exact Lo.nil
  | cons q r ih =>
    obtain ⟨h1, h2⟩ := h q (List.mem_cons_self ..)
    exact Lo.cons q.1 _ q.2 h1 (M.sub_nn h2) (by rw [M.sub_sum]; exact hd) (ih (fun s hs => h s (List.mem_cons_of_mem _ hs)))
def Le (o : Int) (n : Nat) (L : Nat → List T) (δ : M) (A : Lq) : Prop := ∃ tp B, Tp o n L δ tp ∧ Lo o n L δ B ∧ A = Lq.sum (tv o L δ tp) B
theorem Le.lo {δ δ' : M} {A : Lq} (h : Le o n L δ A) (hd : klt o δ δ') : Lo o n L δ' A := by
  obtain ⟨tp, B, h1, h2, rfl⟩ := h
  exact (tv_lo h1 hd).sum (h2.mono (.inl hd))
/-- the greatest of what is made of the list. -/
theorem Lo.max (hL : Lds o n L) {δ : M} {A : Lq} (h : Lo o n L δ A) : A = Lq.nil ∨ ∃ δ', δ'.nn ∧ klt o δ' δ ∧ Le o n L δ' A := by
  induction h with
  | nil => exact .inl rfl
  | cons c m j h1 h2 h3 h4 ih =>
    have hμ := M.nn_sum h2 (hL.nn h1)
    have hle : M.le (lmL o L j) (m.sum (lmL o L j)) := by
      obtain ⟨a1, a2, a3, a4⟩ := h2
      unfold M.sum
      exact ⟨by simp only; omega, by simp only; omega, by simp only; omega, by simp only; omega⟩
    have esub : M.sub (m.sum (lmL o L j)) (lmL o L j) = m := by
      unfold M.sub M.sum
      refine M.eta4 ?_ ?_ ?_ ?_ <;> (simp only; omega)
    right
    rcases ih with e | ⟨δ', d1, d2, d3⟩
    · refine ⟨_, hμ, h3, [(c, j)], Lq.nil, fun q hq => ?_, Lo.nil, ?_⟩
      · rw [List.mem_singleton.1 hq]; exact ⟨h1, hle⟩
      · rw [e]
        show _ = Lq.sum (Lq.sum (Lq.sc c (Lq.mul (mo regG (M.sub (m.sum (lmL o L j)) (lmL o L j))) (Rp regG (L j)))) Lq.nil) Lq.nil
        rw [esub, Lq.sum_nil, Lq.sum_nil]
    · rcases klt_tri o (m.sum (lmL o L j)) δ' with q | q | q
      · obtain ⟨tp, B, e1, e2, rfl⟩ := d3
        refine ⟨δ', d1, d2, tp, Lq.sum (Lq.sc c (Lq.mul (mo regG m) (Rp regG (L j)))) B, e1, Lo.cons c m j h1 h2 q e2, ?_⟩
        rw [← Lq.sum_assoc, Lq.sum_comm _ (tv o L δ' tp), Lq.sum_assoc]
      · obtain ⟨tp, B, e1, e2, rfl⟩ := d3
        refine ⟨δ', d1, d2, (c, j) :: tp, B, fun z hz => ?_, e2, ?_⟩
        · rcases List.mem_cons.1 hz with rfl | hz
          · exact ⟨h1, by rw [← q]; exact hle⟩
          · exact e1 z hz
        · show _ = Lq.sum (Lq.sum (Lq.sc c (Lq.mul (mo regG (M.sub δ' (lmL o L j))) (Rp regG (L j)))) (tv o L δ' tp)) B
          rw [← q, esub, Lq.sum_assoc]
      · refine ⟨_, hμ, h3, [(c, j)], _, fun z hz => ?_, d3.lo q, ?_⟩
        · rw [List.mem_singleton.1 hz]; exact ⟨h1, hle⟩
        · show _ = Lq.sum (Lq.sum (Lq.sc c (Lq.mul (mo regG (M.sub (m.sum (lmL o L j)) (lmL o L j))) (Rp regG (L j)))) Lq.nil) _
          rw [esub, Lq.sum_nil]
theorem Lo.cf0 (hL : Lds o n L) {δ : M} {A : Lq} (hδ : δ.nn) (h : Lo o n L δ A) : cfR A δ = 0 := by
  induction h with
  | nil => exact cf_nil δ
  | cons c m j h1 h2 h3 h4 ih => rw [cf_sum, cf_sc, hL.cf_off h1 h2 hδ h3, ih]; grind
/-- what both divide. -/
def M.lcm (a b : M) : M := ⟨if a.x ≤ b.x then b.x else a.x, if a.y ≤ b.y then b.y else a.y, if a.d ≤ b.d then b.d else a.d, if a.e ≤ b.e then b.e else a.e⟩
theorem M.le_lcm (a b : M) : M.le a (M.lcm a b) ∧ M.le b (M.lcm a b) := by
  unfold M.le M.lcm
  simp only
  refine ⟨⟨?_, ?_, ?_, ?_⟩, ?_, ?_, ?_, ?_⟩ <;> (split <;> omega)
theorem M.lcm_le {a b c : M} (h1 : M.le a c) (h2 : M.le b c) : M.le (M.lcm a b) c := by
  obtain ⟨a1, a2, a3, a4⟩ := h1
  obtain ⟨b1, b2, b3, b4⟩ := h2
  unfold M.le M.lcm
  simp only
  refine ⟨?_, ?_, ?_, ?_⟩ <;> (split <;> omega)
/-- nothing is left of a pair but what is smaller. -/
def Pair (o : Int) (n : Nat) (L : Nat → List T) (i k : Nat) : Prop := ∀ u v : Fq, u * zz (ldL o (L i)).c = 1 → v * zz (ldL o (L k)).c = 1 → Lo o n L (M.lcm (lmL o L i) (lmL o L k)) (Lq.sum (Lq.sc u (Lq.mul (mo regG (M.sub (M.lcm (lmL o L i) (lmL o L k)) (lmL o L i))) (Rp regG (L i)))) (Lq.sc (-v) (Lq.mul (mo regG (M.sub (M.lcm (lmL o L i) (lmL o L k)) (lmL o L k))) (Rp regG (L k)))))
theorem M.sub_sub {a b c : M} : (M.sub c b).sum (M.sub b a) = M.sub c a := by
  unfold M.sub M.sum
  refine M.eta4 ?_ ?_ ?_ ?_ <;> (simp only; omega)
/-- a pair, as great as δ. -/
theorem Pair.up (hL : Lds o n L) {i k : Nat} (hi : i < n) (hk : k < n) (h : Pair o n L i k) {δ : M} (hδi : M.le (lmL o L i) δ) (hδk : M.le (lmL o L k) δ) {u v : Fq} (hu : u * zz (ldL o (L i)).c = 1) (hv : v * zz (ldL o (L k)).c = 1) : Lo o n L δ (Lq.sum (Lq.sc u (Lq.mul (mo regG (M.sub δ (lmL o L i))) (Rp regG (L i)))) (Lq.sc (-v) (Lq.mul (mo regG (M.sub δ (lmL o L k))) (Rp regG (L k))))) := by
  have hb := M.lcm_le hδi hδk
  have hs := M.sub_nn hb
  obtain ⟨l1, l2⟩ := M.le_lcm (lmL o L i) (lmL o L k)
  obtain ⟨A, a1, a2⟩ := mo_low regG hL.ho hs (M.sub_nn l1)
  obtain ⟨B, b1, b2⟩ := mo_low regG hL.ho hs (M.sub_nn l2)
  rw [M.sub_sub] at a1 a2 b1 b2
  have key := (h u v hu hv).mul hL hs
  rw [M.sub_sum] at key
  have la := (a1.lo hi (.inr (M.sub_sum))).sc (-u)
  have lb := (b1.lo hk (.inr (M.sub_sum))).sc v
  have tot := (key.sum la).sum lb
  have e : Lq.sum (Lq.sum (Lq.mul (mo regG (M.sub δ (M.lcm (lmL o L i) (lmL o L k)))) (Lq.sum (Lq.sc u (Lq.mul (mo regG (M.sub (M.lcm (lmL o L i) (lmL o L k)) (lmL o L i))) (Rp regG (L i)))) (Lq.sc (-v) (Lq.mul (mo regG (M.sub (M.lcm (lmL o L i) (lmL o L k)) (lmL o L k))) (Rp regG (L k)))))) (Lq.sc (-u) (Lq.mul A (Rp regG (L i))))) (Lq.sc v (Lq.mul B (Rp regG (L k)))) = Lq.sum (Lq.sc u (Lq.mul (mo regG (M.sub δ (lmL o L i))) (Rp regG (L i)))) (Lq.sc (-v) (Lq.mul (mo regG (M.sub δ (lmL o L k))) (Rp regG (L k)))) := by
    rw [Lq.mul_sum, Lq.mul_sc, Lq.mul_sc, ← Lq.mul_assoc, ← Lq.mul_assoc, a2, b2, Lq.sum_mul, Lq.sum_mul]
    refine Lq.ext fun w p q => ?_
    simp only [sum_f, sc_f]
    grind
  rw [e] at tot
  exact tot
theorem inv_ex (c : Fq) (h : c ≠ 0) : ∃ u : Fq, u * c = 1 := by
  have key : ∀ c : Fq, c ≠ 0 → ∃ u : Fq, u * c = 1 := by decide +kernel
  exact key c h
/-! the order goes down but so often -/
def keyN (o : Int) (m : M) : Nat × Nat × Nat × Nat × Nat := ((kf o m).toNat, m.d.toNat, m.e.toNat, m.x.toNat, m.y.toNat)
theorem kf_nn {o : Int} {m : M} (h : m.nn) : 0 ≤ kf o m := by
  obtain ⟨h1, h2, h3, h4⟩ := h
  unfold kf
  split
  · omega
  · split <;> omega
theorem lt_rel {a b : Nat} (h : a < b) : WellFoundedRelation.rel a b := h
theorem klt_ind {P : M → Prop} (h : ∀ δ : M, δ.nn → (∀ δ' : M, δ'.nn → klt o δ' δ → P δ') → P δ) : ∀ δ : M, δ.nn → P δ := by
  have wf := (inferInstance : WellFoundedRelation (Nat × Nat × Nat × Nat × Nat)).wf
  have key : ∀ k : Nat × Nat × Nat × Nat × Nat, ∀ δ : M, δ.nn → keyN o δ = k → P δ := fun k => by
    induction k using wf.induction with
    | _ k ih =>
      intro δ hδ hk
      refine h δ hδ (fun δ' hn hlt => ih (keyN o δ') ?_ δ' hn rfl)
      rw [← hk]
      have p1 := kf_nn (o := o) hδ
      have p2 := kf_nn (o := o) hn
      obtain ⟨q1, q2, q3, q4⟩ := hδ
      obtain ⟨r1, r2, r3, r4⟩ := hn
      unfold klt at hlt
      show Prod.Lex _ _ _ _
      unfold keyN
      rcases hlt with hlt | ⟨e1, hlt⟩
      · exact Prod.Lex.left _ _ (lt_rel (by omega))
      · rw [e1]
        refine Prod.Lex.right _ ?_
        show Prod.Lex _ _ _ _
        rcases hlt with hlt | ⟨e2, hlt⟩
        · exact Prod.Lex.left _ _ (lt_rel (by omega))
        · rw [e2]
          refine Prod.Lex.right _ ?_
          show Prod.Lex _ _ _ _
          rcases hlt with hlt | ⟨e3, hlt⟩
          · exact Prod.Lex.left _ _ (lt_rel (by omega))
          · rw [e3]
            refine Prod.Lex.right _ ?_
            show Prod.Lex _ _ _ _
            rcases hlt with hlt | ⟨e4, hlt⟩
            · exact Prod.Lex.left _ _ (lt_rel (by omega))
            · rw [e4]
              refine Prod.Lex.right _ ?_
              exact lt_rel (by omega)
  exact fun δ hδ => key _ δ hδ rfl
/-- WHATEVER IS MADE OF A BASIS has a monomial that a greatest one divides. -/
theorem basis_top (hL : Lds o n L) (hP : ∀ i k, i < k → k < n → Pair o n L i k) : ∀ δ : M, δ.nn → ∀ A, Le o n L δ A → A ≠ Lq.nil → ∃ m j, m.nn ∧ j < n ∧ M.le (lmL o L j) m ∧ cfR A m ≠ 0 := by
  refine klt_ind (o := o) (P := fun δ => ∀ A, Le o n L δ A → A ≠ Lq.nil → ∃ m j, m.nn ∧ j < n ∧ M.le (lmL o L j) m ∧ cfR A m ≠ 0) (fun δ hδ ih A hA hne => ?_)
  obtain ⟨tp, B, h1, h2, e⟩ := hA
  have low : ∀ A, Lo o n L δ A → A ≠ Lq.nil → ∃ m j, m.nn ∧ j < n ∧ M.le (lmL o L j) m ∧ cfR A m ≠ 0 := fun A hA hne => by
    rcases hA.max hL with q | ⟨δ', d1, d2, d3⟩
    · exact absurd q hne
    · exact ih δ' d1 d2 A d3 hne
  have pair' : ∀ i k, i < n → k < n → i ≠ k → M.le (lmL o L i) δ → M.le (lmL o L k) δ → ∀ c : Fq, ∃ d : Fq, Lo o n L δ (Lq.sum (Lq.sc c (Lq.mul (mo regG (M.sub δ (lmL o L i))) (Rp regG (L i)))) (Lq.sc d (Lq.mul (mo regG (M.sub δ (lmL o L k))) (Rp regG (L k))))) := fun i k hi hk hik di dk c => by
    obtain ⟨u, hu⟩ := inv_ex (zz (ldL o (L i)).c) (zz_ne (hL.good hi).2.1 (hL.good hi).2.2)
    obtain ⟨v, hv⟩ := inv_ex (zz (ldL o (L k)).c) (zz_ne (hL.good hk).2.1 (hL.good hk).2.2)
    rcases Nat.lt_or_gt_of_ne hik with q | q
    · have := ((hP i k q hk).up hL hi hk di dk hu hv).sc (c * zz (ldL o (L i)).c)
      refine ⟨c * zz (ldL o (L i)).c * -v, ?_⟩
      rw [Lq.sc_sum, Lq.sc_sc, Lq.sc_sc] at this
      rwa [show c * zz (ldL o (L i)).c * u = c from by grind] at this
    · have := ((hP k i q hi).up hL hk hi dk di hv hu).sc (-(c * zz (ldL o (L i)).c))
      refine ⟨-(c * zz (ldL o (L i)).c) * v, ?_⟩
      rw [Lq.sc_sum, Lq.sc_sc, Lq.sc_sc, Lq.sum_comm] at this
      rwa [show -(c * zz (ldL o (L i)).c) * -u = c from by grind] at this
  revert A B
  induction htp : tp.length generalizing tp with
  | zero =>
    intro A hne B h2 e
    rw [List.length_eq_zero_iff.1 htp] at e
    have : A = B := by rw [e]; show Lq.sum Lq.nil B = B; rw [Lq.sum_comm, Lq.sum_nil]
    subst this
    exact low A h2 hne
  | succ N iN =>
    intro A hne B h2 e
    match tp, htp, h1, e with
    | [(c, j)], _, h1, e =>
      obtain ⟨j1, j2⟩ := h1 (c, j) (List.mem_singleton.2 rfl)
      by_cases hc : c = 0
      · refine iN [] (fun q hq => by cases hq) (by have := ‹[(c, j)].length = N + 1›; simp at this ⊢; omega) A hne B h2 ?_
        rw [e, hc]
        show Lq.sum (Lq.sum (Lq.sc 0 _) Lq.nil) B = Lq.sum Lq.nil B
        rw [Lq.sc_zero, Lq.sum_nil]
      · refine ⟨δ, j, hδ, j1, j2, ?_⟩
        rw [e]
        show cfR (Lq.sum (Lq.sum (Lq.sc c (Lq.mul (mo regG (M.sub δ (lmL o L j))) (Rp regG (L j)))) Lq.nil) B) δ ≠ 0
        rw [Lq.sum_nil, cf_sum, cf_sc, h2.cf0 hL hδ]
        have h5 := hL.cf_top j1 (M.sub_nn j2)
        rw [M.sub_sum] at h5
        rw [h5]
        intro q
        have q' : c * zz (ldL o (L j)).c = 0 := by grind
        rcases fq_mul _ _ q' with q | q
        · exact hc q
        · exact zz_ne (hL.good j1).2.1 (hL.good j1).2.2 q
    | (c, j) :: (d, k) :: r, hlen, h1, e =>
      obtain ⟨j1, j2⟩ := h1 (c, j) (List.mem_cons_self ..)
      obtain ⟨k1, k2⟩ := h1 (d, k) (List.mem_cons_of_mem _ (List.mem_cons_self ..))
      by_cases hjk : j = k
      · subst hjk
        refine iN ((c + d, j) :: r) (fun q hq => ?_) (by simpa using hlen) A hne B h2 ?_
        · rcases List.mem_cons.1 hq with rfl | hq
          · exact ⟨j1, j2⟩
          · exact h1 q (List.mem_cons_of_mem _ (List.mem_cons_of_mem _ hq))
        · rw [e]
          show Lq.sum (Lq.sum (Lq.sc c _) (Lq.sum (Lq.sc d _) (tv o L δ r))) B = Lq.sum (Lq.sum (Lq.sc (c + d) _) (tv o L δ r)) B
          rw [Lq.sc_add]
          simp only [Lq.sum_assoc]
      · obtain ⟨d', hd'⟩ := pair' j k j1 k1 hjk j2 k2 c
        refine iN ((d - d', k) :: r) (fun q hq => ?_) (by simpa using hlen) A hne (Lq.sum (Lq.sum (Lq.sc c (Lq.mul (mo regG (M.sub δ (lmL o L j))) (Rp regG (L j)))) (Lq.sc d' (Lq.mul (mo regG (M.sub δ (lmL o L k))) (Rp regG (L k))))) B) (hd'.sum h2) ?_
        · rcases List.mem_cons.1 hq with rfl | hq
          · exact ⟨k1, k2⟩
          · exact h1 q (List.mem_cons_of_mem _ (List.mem_cons_of_mem _ hq))
        · rw [e]
          refine Lq.ext fun w p q => ?_
          simp only [tv, sum_f, sc_f]
          grind
end Go.Proofs.YtdidlcjhodejjaaGreat
namespace Go.Proofs.YtdidlcjhodejjaaGreat
open Go.RowKit Go.Deep Go.Joins
set_option linter.unusedVariables false

/-- lists of operators, by their places. -/
abbrev fN (L : Nat → List T) : Nat → Nat → T := fun i => lf (L i)
abbrev lN (L : Nat → List T) : Nat → Nat := fun i => (L i).length
theorem ldAt_L (o : Int) (L : Nat → List T) (i : Nat) : ldAt o (lN L) (fN L) i = ldL o (L i) := rfl
theorem mulM1_wm {t : T} {B Y : List T} (ht : okL [t] = true) (hB : okL B = true) (h : mulM (lf [t]) (lf B) B.length 1 = some Y) : wmV [t] B = (Y, true) := by
  unfold wmV wylMul
  rw [if_pos ⟨ht, hB⟩]
  show mulO (mulM (lf [t]) (lf B) B.length 1) = _
  rw [h]; rfl
/-- what stands in a sum. -/
theorem mem_add {A B : List T} (hA : Falls A) (hB : Falls B) {s : T} (hs : s ∈ addL A B) : (∃ a ∈ A, a.m = s.m) ∨ (∃ b ∈ B, b.m = s.m) := by
  obtain ⟨hf, hc⟩ := addL_facts hA hB
  have h1 := (mem_coefV hf hs).2
  rw [hc] at h1
  by_cases ha : coef A s.m = 0
  · by_cases hb : coef B s.m = 0
    · rw [ha, hb] at h1; exact absurd rfl h1
    · obtain ⟨b, h2, h3⟩ := List.mem_map.1 (coef_mem hb)
      exact .inr ⟨b, h2, h3⟩
  · obtain ⟨a, h2, h3⟩ := List.mem_map.1 (coef_mem ha)
    exact .inl ⟨a, h2, h3⟩
theorem mem_sc {c : Int} {A : List T} {s : T} (hs : s ∈ scL c A) : ∃ a ∈ A, a.m = s.m := by
  rw [scL_map] at hs
  obtain ⟨a, h1, rfl⟩ := List.mem_map.1 hs
  exact ⟨a, h1, rfl⟩
theorem mem_sub {A B : List T} (hA : Falls A) (hB : Falls B) {s : T} (hs : s ∈ subL A B) : (∃ a ∈ A, a.m = s.m) ∨ (∃ b ∈ B, b.m = s.m) := by
  rcases mem_add hA (scL_falls (by omega) (by omega) hB) hs with h | ⟨b, h1, h2⟩
  · exact .inl h
  · obtain ⟨a, h3, h4⟩ := mem_sc h1
    exact .inr ⟨a, h3, h4.trans h2⟩
/-- how a step goes. -/
theorem dvStep_cases {o : Int} {n : Nat} {L : Nat → List T} (hl : lstOk n (lN L) (fN L) = true) {S S' : Dv} (hp : okL S.p = true) (h0 : S.p.length ≠ 0) (hs : dvStep o n (lN L) (fN L) S = some S') :
    (∃ k Y, k < n ∧ M.dvd (ldL o (L k)).m (ldL o S.p).m = true ∧ okL [overT (ldL o S.p) (ldL o (L k))] = true ∧ wmV [overT (ldL o S.p) (ldL o (L k))] (L k) = (Y, true) ∧ (subL S.p Y).length ≤ 400 ∧ S' = ⟨subL S.p Y, updQ S.q k (addL (S.q k) [overT (ldL o S.p) (ldL o (L k))]), S.r⟩) ∨
    ((∀ i, i < n → M.dvd (ldL o (L i)).m (ldL o S.p).m = false) ∧ S' = dvLeave o S) := by
  unfold dvStep at hs
  split at hs
  · rename_i hk
    have hf := dvK_facts hk
    have hg := dvT_good hl hp h0 hk
    generalize (dvK o n (lN L) (fN L) (ldL o S.p).m).toNat = k at hs hf hg
    unfold dvTake at hs
    split at hs
    · cases hs
    · rename_i Y hY
      split at hs
      · rename_i hle
        cases hs
        have ho := one_ok hg
        exact .inl ⟨k, Y, hf.1, hf.2, ho, mulM1_wm ho ((lstOk_all hl).2 k hf.1).2 hY, hle, rfl⟩
      · cases hs
  · rename_i hk
    cases hs
    refine .inr ⟨fun i hi => ?_, rfl⟩
    cases hd : M.dvd (ldL o (L i)).m (ldL o S.p).m
    · rfl
    · exact absurd (idx_iff.2 ⟨i, hi, hd⟩) hk
/-- whatever a step keeps, a division keeps. -/
theorem dvRun_keeps {o : Int} {n : Nat} {L : Nat → List T} (hl : lstOk n (lN L) (fN L) = true) (I : Dv → Prop) (hI : ∀ u S S', DvOk u S → S.p.length ≠ 0 → I S → dvStep o n (lN L) (fN L) S = some S' → I S') :
    ∀ {v u : Nat} {S S' : Dv}, DvOk u S → I S → dvRun o n (lN L) (fN L) v S = some S' → I S'
  | 0, u, S, S', h, hi, hr => by
    unfold dvRun at hr
    split at hr
    · cases hr; exact hi
    · cases hr
  | v + 1, u, S, S', h, hi, hr => by
    by_cases h0 : S.p.length = 0
    · rw [dvRun_done h0] at hr
      cases hr
      exact hi
    · cases hs : dvStep o n (lN L) (fN L) S with
      | none => rw [dvRun_no h0 hs] at hr; cases hr
      | some S1 =>
        rw [dvRun_step h0 hs] at hr
        exact dvRun_keeps hl I hI (dvStep_ok hl h h0 hs) (hI u S S1 h h0 hi hs) hr
theorem redAll_some {o : Int} {p : List T} {n : Nat} {L : Nat → List T} {S : Dv} (h : redAll o p n (lN L) (fN L) = some S) : (1 ≤ o ∧ o ≤ 3) ∧ okL p = true ∧ lstOk n (lN L) (fN L) = true ∧ dvRun o n (lN L) (fN L) 300 (dvOf p) = some S := by
  unfold redAll at h
  split at h
  · rename_i hh
    exact ⟨hh.1, hh.2.1, hh.2.2, h⟩
  · cases h
theorem redAll_keeps {o : Int} {p : List T} {n : Nat} {L : Nat → List T} {S : Dv} (h : redAll o p n (lN L) (fN L) = some S) (I : Dv → Prop) (h0 : I (dvOf p)) (hI : ∀ u S S', DvOk u S → S.p.length ≠ 0 → I S → dvStep o n (lN L) (fN L) S = some S' → I S') : I S := by
  obtain ⟨_, h2, h3, h4⟩ := redAll_some h
  exact dvRun_keeps h3 I hI (DvOk.start h2) h0 h4
theorem redAll_ok {o : Int} {p : List T} {n : Nat} {L : Nat → List T} {S : Dv} (h : redAll o p n (lN L) (fN L) = some S) : DvOk 300 S ∧ S.p = [] := by
  obtain ⟨_, h2, h3, h4⟩ := redAll_some h
  have := dvRun_ok h3 (DvOk.start h2) h4
  exact ⟨by simpa using this.1, this.2⟩
/-! all that is taken, and what is left -/
theorem sumN_upd (F : Nat → Lq) (X : Lq) (k : Nat) : ∀ n, k < n → Lq.sumN (fun i => if i = k then Lq.sum (F i) X else F i) n = Lq.sum (Lq.sumN F n) X
  | 0, h => by omega
  | n + 1, h => by
    rw [Lq.sumN, Lq.sumN]
    by_cases e : k = n
    · subst e
      rw [if_pos rfl, Lq.sumN_congr (g := F) (fun i hi => if_neg (by omega)), Lq.sum_assoc]
    · rw [sumN_upd F X k n (by omega), if_neg (fun h => e h.symm), Lq.sum_assoc, Lq.sum_assoc, Lq.sum_comm X]
def qsum (g : Gen) (n : Nat) (L : Nat → List T) (q : Nat → List T) : Lq := Lq.sumN (fun i => Lq.mul (Rp g (q i)) (Rp g (L i))) n
theorem sumN_nils : ∀ n, Lq.sumN (fun _ => Lq.nil) n = Lq.nil
  | 0 => rfl
  | n + 1 => by rw [Lq.sumN, sumN_nils n, Lq.sum_nil]
theorem qsum_nil (g : Gen) (n : Nat) (L : Nat → List T) : qsum g n L (fun _ => []) = Lq.nil := by
  unfold qsum
  rw [Lq.sumN_congr (g := fun _ => Lq.nil) (fun i _ => by rw [Rp_nil, Lq.nil_mul]), sumN_nils]
theorem qsum_upd (g : Gen) {n : Nat} {L q : Nat → List T} {k : Nat} {t : T} (hk : k < n) (hq : Falls (q k)) (ht : okL [t] = true) : qsum g n L (updQ q k (addL (q k) [t])) = Lq.sum (qsum g n L q) (Lq.mul (Rp g [t]) (Rp g (L k))) := by
  unfold qsum
  rw [← sumN_upd _ _ k n hk]
  refine Lq.sumN_congr (fun i _ => ?_)
  unfold updQ
  split
  · rename_i e
    subst e
    rw [Rp_add g hq (okL_falls ht).2, Lq.sum_mul]
  · rfl
theorem redAll_all (g : Gen) {o : Int} {p : List T} {n : Nat} {L : Nat → List T} {S : Dv} (h : redAll o p n (lN L) (fN L) = some S) : Lq.sum (qsum g n L S.q) (Rp g S.r) = Rp g p := by
  obtain ⟨_, h2, h3, h4⟩ := redAll_some h
  have key := redAll_keeps h (fun S => Lq.sum (qsum g n L S.q) (Lq.sum (Rp g S.r) (Rp g S.p)) = Rp g p) (by
    show Lq.sum (qsum g n L (fun _ => [])) (Lq.sum (Rp g []) (Rp g p)) = _
    rw [qsum_nil, Rp_nil]
    exact Lq.ext fun u i j => by show (0 : Fq) + (0 + _) = _; grind) (fun u S S' hok h0 hI hs => by
    rw [← hI]
    rcases dvStep_cases h3 hok.p h0 hs with ⟨k, Y, hk, _, ho, hY, _, rfl⟩ | ⟨_, rfl⟩
    · show Lq.sum (qsum g n L (updQ S.q k _)) (Lq.sum (Rp g S.r) (Rp g (subL S.p Y))) = _
      rw [qsum_upd g hk (hok.q k).1 ho, Rp_sub g (okL_falls hok.p).2 (wm_falls hY), Rp_mul g hY]
      exact Lq.ext fun u i j => by
        show _ + _ + (_ + (_ + zz 100 * _)) = _ + (_ + _)
        have e : zz 100 = 100 := rfl
        rw [e]
        grind
    · show Lq.sum (qsum g n L S.q) (Lq.sum (Rp g (addL S.r [ldL o S.p])) (Rp g (subL S.p [ldL o S.p]))) = _
      have f1 := fallsOne (ldL_good (o := o) (okL_falls hok.p).2 h0)
      rw [Rp_add g hok.r.1 f1, Rp_sub g (okL_falls hok.p).2 f1]
      exact Lq.ext fun u i j => by
        show _ + (_ + _ + (_ + zz 100 * _)) = _ + (_ + _)
        have e : zz 100 = 100 := rfl
        rw [e]
        grind)
  have hp := (redAll_ok h).2
  rw [hp, Rp_nil, Lq.sum_nil] at key
  exact key
/-- a sum of products, as one map. -/
theorem sumPr_Rp (g : Gen) {L q : Nat → List T} : ∀ n K, sumPr (lN q) (fN q) (lN L) (fN L) n = some K → Rp g K = qsum g n L q ∧ okL K = true
  | 0, K, h => by cases h; exact ⟨rfl, okL_nil⟩
  | n + 1, K, h => by
    cases hs : sumPr (lN q) (fN q) (lN L) (fN L) n with
    | none => have := sumPr_none hs 1; rw [this] at h; cases h
    | some K1 =>
      rw [sumPr_step hs] at h
      obtain ⟨h1, h2⟩ := sumPr_Rp g n K1 hs
      rcases step_cases h2 (lf (q n)) (q n).length (lf (L n)) (L n).length with ⟨_, _, e⟩ | ⟨_, _, _, _, e⟩ | ⟨P, _, _, _, _, _, _, _, e⟩ | ⟨P, _, _, hm, hw, hP, hl, _, e, ho⟩
      · rw [e] at h; cases h
      · rw [e] at h; cases h
      · rw [e] at h; cases h
      · rw [e] at h
        cases h
        refine ⟨?_, ho⟩
        rw [Rp_add g (okL_falls h2).2 (okL_falls hP).2, h1, Rp_mul g (show wmV (q n) (L n) = (P, true) from hw)]
        rfl
theorem redSum_Rp (g : Gen) {L q : Nat → List T} {n : Nat} {K : List T} (h : redSum n (lN q) (fN q) n (lN L) (fN L) = (K, true)) : Rp g K = qsum g n L q ∧ okL K = true := by
  unfold redSum at h
  split at h
  · cases hs : sumPr (lN q) (fN q) (lN L) (fN L) n with
    | none => rw [hs] at h; cases h
    | some K1 =>
      rw [hs] at h
      have : K1 = K := by simpa [mulO] using h
      subst this
      exact sumPr_Rp g n K1 hs
  · cases h
/-- WHAT IS TAKEN, AND WHAT IS LEFT, IS ALL. -/
theorem red_all {o : Int} {p : List T} {n : Nat} {L : Nat → List T} {S : Dv} (h : redAll o p n (lN L) (fN L) = some S) {K A : List T} (hK : redSum n (lN S.q) (fN S.q) n (lN L) (fN L) = (K, true)) (hA : addV K S.r = (A, true)) : A = p := by
  obtain ⟨_, h2, _, _⟩ := redAll_some h
  obtain ⟨e1, ok1⟩ := redSum_Rp stdG hK
  rcases addV_case K S.r with e | ⟨_, oR, hle, e⟩
  · rw [e] at hA; cases hA
  · rw [e] at hA
    cases hA
    refine eq_of_Rp (addL_facts (okL_falls ok1).2 (okL_falls oR).2).1 (okL_falls h2).2 ?_
    rw [Rp_add stdG (okL_falls ok1).2 (okL_falls oR).2, e1, redAll_all stdG h]
/-! what is left is free -/
theorem red_free {o : Int} {p : List T} {n : Nat} {L : Nat → List T} {S : Dv} (h : redAll o p n (lN L) (fN L) = some S) : ∀ t ∈ S.r, ∀ i, i < n → M.dvd (ldL o (L i)).m t.m = false := by
  obtain ⟨_, h2, h3, h4⟩ := redAll_some h
  refine redAll_keeps h (fun S => ∀ t ∈ S.r, ∀ i, i < n → M.dvd (ldL o (L i)).m t.m = false) (fun t ht => by cases ht) (fun u S S' hok h0 hI hs => ?_)
  rcases dvStep_cases h3 hok.p h0 hs with ⟨k, Y, _, _, _, _, _, rfl⟩ | ⟨hno, rfl⟩
  · exact hI
  · intro t ht i hi
    rcases mem_add hok.r.1 (fallsOne (ldL_good (o := o) (okL_falls hok.p).2 h0)) ht with ⟨a, ha, e⟩ | ⟨b, hb, e⟩
    · rw [← e]; exact hI a ha i hi
    · rw [← e, List.mem_singleton.1 hb]; exact hno i hi
theorem redFree_left {o : Int} {p : List T} {n : Nat} {L : Nat → List T} {S : Dv} (h : redAll o p n (lN L) (fN L) = some S) : redFree o S.r.length (lf S.r) n (lN L) (fN L) = true := by
  obtain ⟨h1, h2, h3, h4⟩ := redAll_some h
  obtain ⟨hd, _⟩ := redAll_ok h
  unfold redFree
  refine decide_eq_true ⟨h1, okL_of (by have := hd.r.2; omega) hd.r.1, h3, fun k hk i hi => ?_⟩
  exact red_free h _ (lf_mem hk) i hi
/-! nothing is greater -/
theorem over_sum {t l : T} (hd : M.dvd l.m t.m = true) : (overT t l).m.sum l.m = t.m := by
  have h := sum_over hd
  unfold M.mul at h
  split at h
  · exact congrArg Prod.fst h
  · exact absurd (congrArg Prod.snd h) (by simp)
theorem prod_top {o : Int} (ho : 1 ≤ o ∧ o ≤ 3) {t : T} {B Y : List T} (hB : okL B = true) (hB0 : B.length ≠ 0) (h : wmV [t] B = (Y, true)) : ∀ s ∈ Y, rkW o s.m ≤ rkW o t.m + rkW o (ldL o B).m := fun s hs => by
  have := (lead_prod (rkW_wt o) rkW_inj h (List.mem_singleton.2 rfl) (ldL_mem (o := o) hB0) (fun a ha => by rw [List.mem_singleton.1 ha]; exact Int.le_refl _) (ldL_top ho hB hB0)).2 s hs
  rw [(rkW_wt o t.m (ldL o B).m 0 0).2] at this
  exact this
theorem red_lead {o : Int} {p : List T} {n : Nat} {L : Nat → List T} {S : Dv} (h : redAll o p n (lN L) (fN L) = some S) {N : Int} (hN : ∀ t ∈ p, rkW o t.m ≤ N) : (∀ t ∈ S.r, rkW o t.m ≤ N) ∧ ∀ i, i < n → ∀ s ∈ S.q i, (s.m.sum (ldL o (L i)).m).ok = true ∧ rkW o (s.m.sum (ldL o (L i)).m) ≤ N := by
  obtain ⟨h1, h2, h3, h4⟩ := redAll_some h
  have key := redAll_keeps h (fun S => (∀ t ∈ S.p, rkW o t.m ≤ N) ∧ (∀ t ∈ S.r, rkW o t.m ≤ N) ∧ ∀ i, i < n → ∀ s ∈ S.q i, (s.m.sum (ldL o (L i)).m).ok = true ∧ rkW o (s.m.sum (ldL o (L i)).m) ≤ N) ⟨hN, ⟨fun t ht => absurd ht (List.not_mem_nil), fun i _ s hs => absurd hs (List.not_mem_nil)⟩⟩ (fun u S S' hok h0 hI hs => by
    obtain ⟨i1, i2, i3⟩ := hI
    have hl := ldL_mem (o := o) h0
    have hg := ldL_good (o := o) (okL_falls hok.p).2 h0
    rcases dvStep_cases h3 hok.p h0 hs with ⟨k, Y, hk, hd, ho, hY, _, rfl⟩ | ⟨hno, rfl⟩
    · have hk2 := (lstOk_all h3).2 k hk
      have htop := prod_top h1 hk2.2 hk2.1 hY
      have hsum := over_sum hd
      have hw := (rkW_wt o (overT (ldL o S.p) (ldL o (L k))).m (ldL o (L k)).m 0 0).2
      rw [hsum] at hw
      refine ⟨fun t ht => ?_, i2, fun i hi s hs => ?_⟩
      · rcases mem_sub (okL_falls hok.p).2 (wm_falls hY) ht with ⟨a, ha, e⟩ | ⟨b, hb, e⟩
        · rw [← e]; exact i1 a ha
        · rw [← e]
          have := htop b hb
          have := i1 _ hl
          omega
      · change s ∈ updQ S.q k _ i at hs
        unfold updQ at hs
        split at hs
        · rename_i e
          subst e
          rcases mem_add (hok.q i).1 (okL_falls ho).2 hs with ⟨a, ha, e⟩ | ⟨b, hb, e⟩
          · rw [← e]; exact i3 i hi a ha
          · rw [← e, List.mem_singleton.1 hb, hsum]
            exact ⟨hg.1, i1 _ hl⟩
        · exact i3 i hi s hs
    · refine ⟨fun t ht => ?_, fun t ht => ?_, i3⟩
      · rcases mem_sub (okL_falls hok.p).2 (fallsOne hg) ht with ⟨a, ha, e⟩ | ⟨b, hb, e⟩
        · rw [← e]; exact i1 a ha
        · rw [← e, List.mem_singleton.1 hb]; exact i1 _ hl
      · rcases mem_add hok.r.1 (fallsOne hg) ht with ⟨a, ha, e⟩ | ⟨b, hb, e⟩
        · rw [← e]; exact i2 a ha
        · rw [← e, List.mem_singleton.1 hb]; exact i1 _ hl)
  exact ⟨key.2.1, key.2.2⟩
/-! who is free is left -/
theorem run_free {o : Int} {n : Nat} {L : Nat → List T} : ∀ (v : Nat) (S : Dv), okL S.p = true → Falls S.r → S.p.length ≤ v → (∀ t ∈ S.p, ∀ i, i < n → M.dvd (ldL o (L i)).m t.m = false) → ∃ r, dvRun o n (lN L) (fN L) v S = some ⟨[], S.q, r⟩ ∧ Falls r ∧ ∀ m, coef r m = (coef S.r m + coef S.p m) % 101
  | 0, S, hp, hr, hv, hf => by
    have h0 : S.p.length = 0 := by omega
    have e : S.p = [] := List.length_eq_zero_iff.1 h0
    refine ⟨S.r, ?_, hr, fun m => ?_⟩
    · rw [dvRun_done h0]; cases S; cases e; rfl
    · rw [e, coef_nil]; have := coef_range hr m; omega
  | v + 1, S, hp, hr, hv, hf => by
    by_cases h0 : S.p.length = 0
    · have e : S.p = [] := List.length_eq_zero_iff.1 h0
      refine ⟨S.r, ?_, hr, fun m => ?_⟩
      · rw [dvRun_done h0]; cases S; cases e; rfl
      · rw [e, coef_nil]; have := coef_range hr m; omega
    · have hl := ldL_mem (o := o) h0
      have hg := ldL_good (o := o) (okL_falls hp).2 h0
      have hst : dvStep o n (lN L) (fN L) S = some (dvLeave o S) := by
        unfold dvStep
        rw [if_neg]
        intro hk
        obtain ⟨i, hi, h1⟩ := idx_iff.1 hk
        exact absurd ((hf _ hl i hi).symm.trans h1) (by simp)
      have hlt := sub_one_len (okL_falls hp).2 hl
      have fs := subL_facts (okL_falls hp).2 (fallsOne hg)
      have fr := addL_facts hr (fallsOne hg)
      have h4 := (okL_falls hp).1
      obtain ⟨r, e1, e2, e3⟩ := run_free v (dvLeave o S) (okL_of (show (subL S.p [ldL o S.p]).length ≤ 400 by omega) fs.1) fr.1 (show (subL S.p [ldL o S.p]).length ≤ v by omega) (fun t ht i hi => by
        rcases mem_sub (okL_falls hp).2 (fallsOne hg) (show t ∈ subL S.p [ldL o S.p] from ht) with ⟨a, ha, e⟩ | ⟨b, hb, e⟩
        · rw [← e]; exact hf a ha i hi
        · rw [← e, List.mem_singleton.1 hb]; exact hf _ hl i hi)
      refine ⟨r, by rw [dvRun_step h0 hst]; exact e1, e2, fun m => ?_⟩
      rw [e3]
      show (coef (addL S.r [ldL o S.p]) m + coef (subL S.p [ldL o S.p]) m) % 101 = _
      rw [fr.2, fs.2]
      omega
theorem redAll_free {o : Int} {p : List T} {n : Nat} {L : Nat → List T} (ho : 1 ≤ o ∧ o ≤ 3) (hp : okL p = true) (hl : lstOk n (lN L) (fN L) = true) (hv : p.length ≤ 300) (hf : ∀ t ∈ p, ∀ i, i < n → M.dvd (ldL o (L i)).m t.m = false) : redAll o p n (lN L) (fN L) = some ⟨[], fun _ => [], p⟩ := by
  unfold redAll
  rw [if_pos ⟨ho, hp, hl⟩]
  obtain ⟨r, e1, e2, e3⟩ := run_free (o := o) (n := n) (L := L) 300 (dvOf p) hp falls_nil hv hf
  rw [e1]
  have : r = p := falls_one e2 (okL_falls hp).2 (fun m _ => by
    rw [e3]
    show (coef [] m + coef p m) % 101 = _
    rw [coef_nil]
    have := coef_range (okL_falls hp).2 m
    omega)
  rw [this]; rfl
theorem redAll_again {o : Int} {p : List T} {n : Nat} {L : Nat → List T} {S : Dv} (h : redAll o p n (lN L) (fN L) = some S) : redAll o S.r n (lN L) (fN L) = some ⟨[], fun _ => [], S.r⟩ := by
  obtain ⟨h1, h2, h3, h4⟩ := redAll_some h
  obtain ⟨hd, _⟩ := redAll_ok h
  exact redAll_free h1 (okL_of (by have := hd.r.2; omega) hd.r.1) h3 (by have := hd.r.2; omega) (red_free h)
/-! so many times an operator -/
def scD (c : Int) (S : Dv) : Dv := ⟨scL c S.p, fun i => scL c (S.q i), scL c S.r⟩
theorem lf_sc (c : Int) (L : List T) {i : Nat} (h : i < L.length) : lf (scL c L) i = scT1 c (lf L i) := by
  have h2 : i < (scL c L).length := by rw [scL_len]; exact h
  rw [lf_eq h2, lf_eq h]
  simp only [scL_map, List.getElem_map]
  rfl
theorem leadFrom_sc (o : Int) (f g : Nat → T) : ∀ (u i k n : Nat), i + u ≤ n → k < n → (∀ j, j < n → (f j).m = (g j).m) → leadFrom o f u i k = leadFrom o g u i k
  | 0, i, k, n, _, _, _ => rfl
  | u + 1, i, k, n, hi, hk, h => by
    simp only [leadFrom]
    rw [h i (by omega), h k hk]
    split
    · exact leadFrom_sc o f g u (i + 1) i n (by omega) (by omega) h
    · exact leadFrom_sc o f g u (i + 1) k n (by omega) hk h
theorem ldL_sc (o c : Int) {L : List T} (h0 : L.length ≠ 0) : ldL o (scL c L) = scT1 c (ldL o L) := by
  have e : leadAt o (lf (scL c L)) (scL c L).length = leadAt o (lf L) L.length := by
    rw [scL_len]
    exact leadFrom_sc o _ _ (L.length - 1) 1 0 L.length (by omega) (by omega) (fun j hj => by rw [lf_sc c L hj]; rfl)
  unfold ldL
  rw [e, lf_sc c L (leadAt_lt (by omega))]
theorem scL_one (c : Int) (t : T) : scL c [t] = [scT1 c t] := by rw [scL_map]; rfl
theorem subL_sc {c : Int} (c1 : 1 ≤ c) (c2 : c ≤ 100) {K X : List T} (hK : Falls K) (hX : Falls X) : subL (scL c K) (scL c X) = scL c (subL K X) := by
  refine falls_one (subL_facts (scL_falls c1 c2 hK) (scL_falls c1 c2 hX)).1 (scL_falls c1 c2 (subL_facts hK hX).1) (fun m _ => ?_)
  rw [(subL_facts (scL_falls c1 c2 hK) (scL_falls c1 c2 hX)).2, scL_coef, scL_coef, scL_coef, (subL_facts hK hX).2]
  have h1 : (c * ((coef K m + 100 * coef X m % 101) % 101)) % 101 = (c * coef K m + 100 * (c * coef X m)) % 101 := by
    rw [Int.mul_emod, Int.emod_emod_of_dvd _ (Int.dvd_refl 101), ← Int.mul_emod, Int.mul_add, Int.add_emod, Int.mul_emod c (100 * coef X m % 101), Int.emod_emod_of_dvd _ (Int.dvd_refl 101), ← Int.mul_emod c (100 * coef X m), ← Int.add_emod, Int.mul_left_comm]
  rw [h1]
  omega
theorem overT_sc (c : Int) (t l : T) : overT (scT1 c t) l = scT1 c (overT t l) := by
  unfold overT scT1
  simp only [T.mk.injEq, and_true]
  rw [Int.mul_emod (c * t.c % 101), Int.emod_emod_of_dvd _ (Int.dvd_refl 101), ← Int.mul_emod (c * t.c), Int.mul_emod c (t.c * fInv l.c % 101), Int.emod_emod_of_dvd _ (Int.dvd_refl 101), ← Int.mul_emod c, Int.mul_assoc]
theorem dvStep_sc {o : Int} {n : Nat} {L : Nat → List T} (hl : lstOk n (lN L) (fN L) = true) {c : Int} (c1 : 1 ≤ c) (c2 : c ≤ 100) {u : Nat} {S : Dv} (hok : DvOk u S) (h0 : S.p.length ≠ 0) : dvStep o n (lN L) (fN L) (scD c S) = (dvStep o n (lN L) (fN L) S).map (scD c) := by
  have e1 : ldL o (scD c S).p = scT1 c (ldL o S.p) := ldL_sc o c h0
  have hg := ldL_good (o := o) (okL_falls hok.p).2 h0
  unfold dvStep
  rw [e1, show (scT1 c (ldL o S.p)).m = (ldL o S.p).m from rfl]
  split
  · rename_i hk
    have hf := dvK_facts hk
    have hgt := dvT_good hl hok.p h0 hk
    generalize (dvK o n (lN L) (fN L) (ldL o S.p).m).toNat = k at hf hgt
    have e2 : dvT o (lN L) (fN L) (scD c S) k = scT1 c (dvT o (lN L) (fN L) S k) := by
      unfold dvT
      rw [e1, overT_sc]
    have hB := ((lstOk_all hl).2 k hf.1).2
    have hm := mulM_sc (f := lf [dvT o (lN L) (fN L) S k]) (f2 := lf [scT1 c (dvT o (lN L) (fN L) S k)]) c1 c2 (good_ok (show polOk 1 (lf [dvT o (lN L) (fN L) S k]) = true from one_ok hgt)).2 (good_ok hB).2 (fun i hi => by
      have : i = 0 := by omega
      subst this; rfl) 1 (Nat.le_refl _)
    unfold dvTake
    rw [e2, hm]
    cases hY : mulM (lf [dvT o (lN L) (fN L) S k]) (fN L k) (lN L k) 1 with
    | none => rfl
    | some Y =>
      have fY := okL_falls (mul1_falls hgt hB hY)
      have fp := (okL_falls hok.p).2
      show (if (subL (scL c S.p) (scL c Y)).length ≤ 400 then some _ else none) = Option.map (scD c) (if (subL S.p Y).length ≤ 400 then some _ else none)
      rw [subL_sc c1 c2 fp fY.2, scL_len]
      split
      · show some _ = some _
        congr 1
        unfold scD
        simp only [Dv.mk.injEq, and_true]
        refine ⟨subL_sc c1 c2 fp fY.2, ?_⟩
        funext i
        unfold updQ
        split
        · rename_i e
          subst e
          show addL (scL c (S.q i)) [scT1 c _] = _
          rw [← scL_one, addL_sc c1 c2 (hok.q i).1 (fallsOne hgt)]
        · rfl
      · rfl
  · show some (dvLeave o (scD c S)) = some (scD c (dvLeave o S))
    congr 1
    unfold dvLeave
    rw [e1]
    show Dv.mk (subL (scL c S.p) [scT1 c (ldL o S.p)]) (fun i => scL c (S.q i)) (addL (scL c S.r) [scT1 c (ldL o S.p)]) = Dv.mk (scL c (subL S.p [ldL o S.p])) (fun i => scL c (S.q i)) (scL c (addL S.r [ldL o S.p]))
    rw [← scL_one, subL_sc c1 c2 (okL_falls hok.p).2 (fallsOne hg), addL_sc c1 c2 hok.r.1 (fallsOne hg)]
theorem dvRun_sc {o : Int} {n : Nat} {L : Nat → List T} (hl : lstOk n (lN L) (fN L) = true) {c : Int} (c1 : 1 ≤ c) (c2 : c ≤ 100) : ∀ (v u : Nat) (S : Dv), DvOk u S → dvRun o n (lN L) (fN L) v (scD c S) = (dvRun o n (lN L) (fN L) v S).map (scD c)
  | 0, u, S, hok => by
    unfold dvRun
    rw [show (scD c S).p.length = S.p.length from scL_len c S.p]
    split <;> rfl
  | v + 1, u, S, hok => by
    by_cases h0 : S.p.length = 0
    · rw [dvRun_done h0, dvRun_done (show (scD c S).p.length = 0 by rw [show (scD c S).p.length = S.p.length from scL_len c S.p]; exact h0)]; rfl
    · have h1 : (scD c S).p.length ≠ 0 := by rw [show (scD c S).p.length = S.p.length from scL_len c S.p]; exact h0
      have hsc := dvStep_sc (o := o) hl c1 c2 hok h0
      cases hs : dvStep o n (lN L) (fN L) S with
      | none =>
        rw [hs] at hsc
        rw [dvRun_no h0 hs, dvRun_no h1 hsc]; rfl
      | some S1 =>
        rw [hs] at hsc
        rw [dvRun_step h0 hs, dvRun_step h1 hsc]
        exact dvRun_sc hl c1 c2 v (u + 1) S1 (dvStep_ok hl hok h0 hs)
theorem redAll_sc {o : Int} {p : List T} {n : Nat} {L : Nat → List T} {c : Int} (c1 : 1 ≤ c) (c2 : c ≤ 100) (hp : okL p = true) : redAll o (scL c p) n (lN L) (fN L) = (redAll o p n (lN L) (fN L)).map (scD c) := by
  have hp2 : okL (scL c p) = true := okL_of (by rw [scL_len]; exact (okL_falls hp).1) (scL_falls c1 c2 (okL_falls hp).2)
  unfold redAll
  rw [hp, hp2]
  split
  · rename_i h
    exact dvRun_sc h.2.2 c1 c2 300 0 (dvOf p) (DvOk.start hp)
  · rfl
end Go.Proofs.YtdidlcjhodejjaaGreat
namespace Go.Proofs.YtdidlcjhodejjaaGreat
open Go.RowKit Go.Deep Go.Joins
set_option linter.unusedVariables false

theorem rds_lists {w : World} {a : Option Addr} {n c : Nat} {ad : Nat → Option Addr} {ln cp : Nat → Nat} {f : Nat → Nat → T} (h : RdS w a n c ad ln cp f) : ∃ L : Nat → List T, ln = lN L ∧ RdS w a n c ad (lN L) cp (fN L) := by
  have e : ln = lN (fun i => (List.range (ln i)).map (f i)) := funext fun i => by simp
  refine ⟨fun i => (List.range (ln i)).map (f i), e, ?_⟩
  rw [← e]
  refine ⟨h.1, h.2.1, h.2.2.1, fun i hi => rd_congr (h.2.2.2 i hi) (fun j hj => ?_)⟩
  show f i j = lf ((List.range (ln i)).map (f i)) j
  rw [lf_eq (by simpa using hj)]
  simp
def lsq (n : Nat) (L : Nat → List T) (n' : Nat) (L' : Nat → List T) : Bool := decide (n = n' ∧ ∀ i, i < n → sq (L i) (L' i) = true)
theorem lsq_same (n : Nat) (L : Nat → List T) : lsq n L n L = true := decide_eq_true ⟨rfl, fun i _ => sq_same (L i)⟩
theorem lsq_iff {n : Nat} {L : Nat → List T} {n' : Nat} {L' : Nat → List T} : lsq n L n' L' = true ↔ n = n' ∧ ∀ i, i < n → L i = L' i := by
  unfold lsq
  rw [decide_eq_true_iff]
  exact ⟨fun h => ⟨h.1, fun i hi => sq_iff.1 (h.2 i hi)⟩, fun h => ⟨h.1, fun i hi => sq_iff.2 (h.2 i hi)⟩⟩
theorem lsq_no {n : Nat} {L : Nat → List T} {n' : Nat} {L' : Nat → List T} (h : ¬ (n = n' ∧ ∀ i, i < n → L i = L' i)) : lsq n L n' L' = false := by
  cases e : lsq n L n' L'
  · rfl
  · exact absurd (lsq_iff.1 e) h
set_option maxRecDepth 100000 in
set_option maxHeartbeats 4000000 in
theorem heListT (w : World) (a a' : Option Addr) (n cap n' cap' : Nat) (ad ad' : Nat → Option Addr) (cp cp' : Nat → Nat) (L L' : Nat → List T) (h : RdS w a n cap ad (lN L) cp (fN L)) (h' : RdS w a' n' cap' ad' (lN L') cp' (fN L')) :
    Calls Tryz.prog 34 #[.slice a n cap, .slice a' n' cap'] w (Val w (.bool (lsq n L n' L'))) := by
  have hn : (n : Int) ≤ 140737488351232 := by have := h.2.1; omega
  have hn' : (n' : Int) ≤ 140737488351232 := by have := h'.2.1; omega
  obtain ⟨r, hr⟩ : ∃ r, lsq n L n' L' = r := ⟨_, rfl⟩
  rw [hr]
  have HR := Hid.mk' hr
  have HH := Hid.mk' h
  have HH' := Hid.mk' h'
  clear h h' hr
  unfold Val
  by_cases hnn : n = n'
  · subst hnn
    have hne : ((n : Int) != (n : Int)) = false := by simp
    go_enter Tryz.func34, Tryz.ntmps34
    go_wp2
    go_loopw [5] (fun v wr => ∃ i : Nat, i ≤ n ∧ v = .int .i64 (i : Int) ∧ Below w.heap.size w wr ∧ ∀ j, j < i → L j = L' j) (fun v _ => n - (intOf v).toNat)
    case atStart => exact ⟨0, Nat.zero_le _, rfl, Below.refl _ _, fun j hj => by omega⟩
    case round =>
      obtain ⟨i, hi, rfl, hB, hJ⟩ := hrel
      have HJ := Hid.mk' hJ
      clear hJ
      by_cases hlt : i < n
      · rcases HH.out.2.2.1 with h0 | ⟨b, off, rfl, hblt, hcl⟩
        · omega
        rcases HH'.out.2.2.1 with h0 | ⟨b', off', rfl, hblt', hcl'⟩
        · omega
        have hil : (i : Int) < (n : Int) := by omega
        have hbr : b < wr.heap.size := Nat.lt_of_lt_of_le hblt hB.size
        have hbr' : b' < wr.heap.size := Nat.lt_of_lt_of_le hblt' hB.size
        have ne := Ext.there wr
        obtain ⟨l, hl⟩ : ∃ l, (L i).length = l := ⟨_, rfl⟩
        obtain ⟨l', hl'⟩ : ∃ l', (L' i).length = l' := ⟨_, rfl⟩
        have g0 : wr.cell? ⟨b, off + i, none⟩ = some (.slice (ad i) l (cp i)) := (hB.cell (p := ⟨b, off + i, none⟩) hblt).trans (by rw [← hl]; exact hcl i hlt)
        have g1 : wr.cell? ⟨b', off' + i, none⟩ = some (.slice (ad' i) l' (cp' i)) := (hB.cell (p := ⟨b', off' + i, none⟩) hblt').trans (by rw [← hl']; exact hcl' i hlt)
        have s0 : ∀ u : Ext wr, u.1.cell? ⟨b, off + i, none⟩ = some (.slice (ad i) l (cp i)) := fun u => (u.cell hbr).trans g0
        have s1 : ∀ u : Ext wr, u.1.cell? ⟨b', off' + i, none⟩ = some (.slice (ad' i) l' (cp' i)) := fun u => (u.cell hbr').trans g1
        have HK := Hid.mk' ((HH.out.2.2.2 i hlt).below hB)
        have HK' := Hid.mk' ((HH'.out.2.2.2 i hlt).below hB)
        have HB := Hid.mk' hB
        obtain ⟨q, hq⟩ : ∃ q, sq (L i) (L' i) = q := ⟨_, rfl⟩
        have HQ := Hid.mk' hq
        have hcall : ∀ u : Ext wr, Calls Tryz.prog 32 #[.slice (ad i) l (cp i), .slice (ad' i) l' (cp' i)] u.1 fun r w' => r = .returned (.bool q) ∧ Below u.1.heap.size u.1 w' := fun u => by
          have := he_L (w := u.1) (a := ad i) (ca := cp i) (L := L i) (b := ad' i) (cb := cp' i) (K := L' i) (HK.out.below u.2) (HK'.out.below u.2)
          rw [hq, hl, hl'] at this
          exact this
        clear hcl hcl' hB g0 g1 hq hl hl'
        go_wp2_with fail
        refine wp_region_ext (by kernel_rfl) (by kernel_rfl) ?_
        repeat (go_big_quiet_step (first | (go_at_call 32; exact ext_grows (hcall _)) | fail))
        refine wpQuiet_nil ?_
        rintro _ ⟨v, rfl⟩
        have HV := Hid.mk' v.2
        clear s0 s1 ne hcall
        cases q
        · have hr : r = false := by
            rw [← HR.out]
            refine lsq_no (fun hh => ?_)
            have h1 := HQ.out
            rw [hh.2 i hlt, sq_same] at h1
            cases h1
          subst hr
          go_wp2
          go_ret
          exact ⟨rfl, bel_next HB.out HV.out⟩
        · have he := sq_iff.1 HQ.out
          have HE := Hid.mk' he
          clear he
          go_wp2
          go_roundw
          case rel => exact ⟨i + 1, by omega, by go_num, bel_next HB.out HV.out, fun j hj => by
            by_cases e : j = i
            · rw [e]; exact HE.out
            · exact HJ.out j (by omega)⟩
          case measure => simp [intOf]; omega
      · have hnl : ¬ (i : Int) < (n : Int) := by omega
        have hr : r = true := by
          rw [← HR.out]
          exact lsq_iff.2 ⟨rfl, fun j hj => HJ.out j (by omega)⟩
        subst hr
        go_wp2
        go_ret
        exact ⟨rfl, hB⟩
  · have hne : ((n : Int) != (n' : Int)) = true := by simp; omega
    have hr : r = false := by
      rw [← HR.out]
      exact lsq_no (fun hh => hnn hh.1)
    subst hr
    go_enter Tryz.func34, Tryz.ntmps34
    go_wp2
    go_ret
    exact ⟨rfl, Below.refl _ _⟩
end Go.Proofs.YtdidlcjhodejjaaGreat
