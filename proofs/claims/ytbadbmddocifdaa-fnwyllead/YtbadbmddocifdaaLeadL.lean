/-
  The greatest term of a product in each order, as it is told.
-/
import Derived.Test.YtbadbmddocifdaaRepT
import Derived.Test.YtbadbmddocifdaaLeadI
namespace Go.Proofs.Ytbadbmddocifdaa
open Go.RowKit
set_option linter.unusedVariables false

def rkW (o : Int) (m : M) : Int := if o = 1 then rkD m else if o = 3 then rkO m else rkL m
theorem rkW_ord {o : Int} {a b : M} (ho : 1 ≤ o ∧ o ≤ 3) (ha : a.ok = true) (hb : b.ok = true) : M.ord o a b = c3 (rkW o a) (rkW o b) := by
  obtain ⟨h1, h2⟩ := ho
  have h : o = 1 ∨ o = 2 ∨ o = 3 := by omega
  rcases h with rfl | rfl | rfl
  · rw [← rk_deg ha hb]; simp [rkW]
  · rw [← rk_two ha hb]; simp [rkW]
  · rw [← rk_out ha hb]; simp [rkW]
theorem rkW_wt (o : Int) : Wt (rkW o) := fun a b i k => by
  unfold rkW rkD rkO rkL M.sum
  split
  · simp only; omega
  · split
    · simp only; omega
    · simp only; omega
theorem dig16 {a b c d : Int} (hb : 0 ≤ b ∧ b ≤ 15) (hd : 0 ≤ d ∧ d ≤ 15) (h : a * 16 + b = c * 16 + d) : a = c ∧ b = d := by omega
theorem dig65 {a b c d : Int} (hb : 0 ≤ b ∧ b ≤ 65535) (hd : 0 ≤ d ∧ d ≤ 65535) (h : a * 65536 + b = c * 65536 + d) : b = d := by omega
theorem rkL_bdW {a : M} (ha : a.ok = true) : 0 ≤ rkL a ∧ rkL a ≤ 65535 := by
  obtain ⟨x1, x2, y1, y2, d1, d2, e1, e2⟩ := M.ok_iff.1 ha
  unfold rkL
  omega
theorem rkL_injW {a b : M} (ha : a.ok = true) (hb : b.ok = true) (h : rkL a = rkL b) : a = b := by
  obtain ⟨x1, x2, y1, y2, d1, d2, e1, e2⟩ := M.ok_iff.1 ha
  obtain ⟨x3, x4, y3, y4, d3, d4, e3, e4⟩ := M.ok_iff.1 hb
  unfold rkL at h
  have k1 := dig16 ⟨y1, y2⟩ ⟨y3, y4⟩ h
  have k2 := dig16 ⟨x1, x2⟩ ⟨x3, x4⟩ k1.1
  have k3 := dig16 ⟨e1, e2⟩ ⟨e3, e4⟩ k2.1
  have q1 := k1.2
  have q2 := k2.2
  have q3 := k3.2
  have q4 := k3.1
  revert q1 q2 q3 q4
  cases a; cases b
  intro q1 q2 q3 q4
  simp only at q1 q2 q3 q4
  rw [q1, q2, q3, q4]
theorem rkW_inj {o : Int} (a b : M) (ha : a.ok = true) (hb : b.ok = true) (h : rkW o a = rkW o b) : a = b := by
  refine rkL_injW ha hb ?_
  have ba := rkL_bdW ha
  have bb := rkL_bdW hb
  unfold rkW at h
  split at h
  · exact dig65 ba bb h
  · split at h
    · exact dig65 ba bb h
    · exact h
theorem c3_gtW {a b : Int} : 0 < c3 a b ↔ b < a := by unfold c3; split <;> (try split) <;> omega
theorem lead_topW {o : Int} {f : Nat → T} {n : Nat} (ho : 1 ≤ o ∧ o ≤ 3) (hm : ∀ i, i < n → (f i).m.ok = true) : ∀ (u i k : Nat), i + u ≤ n → k < n → leadFrom o f u i k < n ∧ rkW o (f k).m ≤ rkW o (f (leadFrom o f u i k)).m ∧ ∀ j, i ≤ j → j < i + u → rkW o (f j).m ≤ rkW o (f (leadFrom o f u i k)).m
  | 0, i, k, _, hk => ⟨hk, Int.le_refl _, fun j h1 h2 => by omega⟩
  | u + 1, i, k, hi, hk => by
    have hc := c3_gtW (a := rkW o (f i).m) (b := rkW o (f k).m)
    rw [← rkW_ord ho (hm i (by omega)) (hm k hk)] at hc
    simp only [leadFrom]
    split
    · rename_i h
      obtain ⟨h1, h2, h3⟩ := lead_topW ho hm u (i + 1) i (by omega) (by omega)
      have h4 := hc.1 h
      refine ⟨h1, by omega, fun j hj1 hj2 => ?_⟩
      by_cases hji : j = i
      · rw [hji]; exact h2
      · exact h3 j (by omega) (by omega)
    · rename_i h
      obtain ⟨h1, h2, h3⟩ := lead_topW ho hm u (i + 1) k (by omega) hk
      have h4 : ¬ rkW o (f k).m < rkW o (f i).m := fun q => h (hc.2 q)
      refine ⟨h1, h2, fun j hj1 hj2 => ?_⟩
      by_cases hji : j = i
      · rw [hji]; omega
      · exact h3 j (by omega) (by omega)
def ldT (o : Int) (L : List T) : T := leadT o L.length (lf L)
def ldB (o : Int) (L : List T) : Bool := leadOk o L.length (lf L)
theorem ldB_iff {o : Int} {L : List T} : ldB o L = true ↔ (1 ≤ o ∧ o ≤ 3) ∧ okL L = true ∧ L ≠ [] := by
  unfold ldB leadOk
  rw [Bool.and_eq_true, Bool.and_eq_true, decide_eq_true_eq, decide_eq_true_eq]
  constructor
  · rintro ⟨⟨h1, h2⟩, h3⟩
    exact ⟨h1, h2, fun e => by rw [e] at h3; simp at h3⟩
  · rintro ⟨h1, h2, h3⟩
    exact ⟨⟨h1, h2⟩, List.length_pos_iff.2 h3⟩
/-- the greatest term stands in it, and none is greater. -/
theorem ld_top {o : Int} {L : List T} (h : ldB o L = true) : ldT o L ∈ L ∧ ∀ t ∈ L, rkW o t.m ≤ rkW o (ldT o L).m := by
  obtain ⟨ho, oL, hne⟩ := ldB_iff.1 h
  have hpos := List.length_pos_iff.2 hne
  have fl := fl_of_ok (show polOk L.length (lf L) = true from oL)
  have e : ldT o L = lf L (leadAt o (lf L) L.length) := leadT_yes h
  have hm : ∀ i, i < L.length → (lf L i).m.ok = true := fun i hi => (fl.2 i hi).1
  have key := lead_topW (o := o) (f := lf L) (n := L.length) ho hm (L.length - 1) 1 0 (by omega) hpos
  have e2 : leadAt o (lf L) L.length = leadFrom o (lf L) (L.length - 1) 1 0 := rfl
  rw [e, e2]
  refine ⟨?_, fun t ht => ?_⟩
  · rw [lf_eq key.1]; exact List.getElem_mem _
  · obtain ⟨i, hi, rfl⟩ := List.mem_iff_getElem.1 ht
    by_cases h0 : i = 0
    · subst h0
      have := key.2.1
      rwa [lf_eq hpos] at this
    · have := key.2.2 i (by omega) (by omega)
      rwa [lf_eq hi] at this
theorem wm_nil_l {B P : List T} (h : wmV [] B = (P, true)) : P = [] := by
  have h1 := Rp_mul stdG h
  rw [Rp_nil, Lq.nil_mul] at h1
  exact nil_of_Rp (wm_falls h) h1
theorem wm_nil_r {A P : List T} (h : wmV A [] = (P, true)) : P = [] := by
  have h1 := Rp_mul stdG h
  rw [Rp_nil, Lq.mul_nil] at h1
  exact nil_of_Rp (wm_falls h) h1
theorem ld_nil (o : Int) : ldB o [] = false := by
  cases h : ldB o []
  · rfl
  · exact absurd rfl (ldB_iff.1 h).2.2
theorem ld_prod {o : Int} (ho : 1 ≤ o ∧ o ≤ 3) {A B P : List T} (h : wmV A B = (P, true)) : ldB o P = (ldB o A && ldB o B) ∧ (ldB o A = true → ldB o B = true → M.mul ⟨(ldT o A).m.x, (ldT o A).m.y, (ldT o A).m.d, (ldT o A).m.e⟩ ⟨(ldT o B).m.x, (ldT o B).m.y, (ldT o B).m.d, (ldT o B).m.e⟩ = ((ldT o P).m, true) ∧ fMul (ldT o A).c (ldT o B).c = (ldT o P).c) := by
  obtain ⟨oA, oB⟩ := wm_args h
  cases hA : ldB o A
  · have eA : A = [] := by
      by_cases e : A = []
      · exact e
      · rw [ldB_iff.2 ⟨ho, oA, e⟩] at hA; cases hA
    subst eA
    rw [wm_nil_l h, ld_nil]
    exact ⟨rfl, fun q => by cases q⟩
  · cases hB : ldB o B
    · have eB : B = [] := by
        by_cases e : B = []
        · exact e
        · rw [ldB_iff.2 ⟨ho, oB, e⟩] at hB; cases hB
      subst eB
      rw [wm_nil_r h, ld_nil]
      exact ⟨rfl, fun _ q => by cases q⟩
    · obtain ⟨a1, a2⟩ := ld_top hA
      obtain ⟨b1, b2⟩ := ld_top hB
      have hp := lead_prod (rkW_wt o) rkW_inj h a1 b1 a2 b2
      have hne : P ≠ [] := fun e => by rw [e] at hp; cases hp.1
      have hP : ldB o P = true := ldB_iff.2 ⟨ho, wm_ok h, hne⟩
      refine ⟨hP, fun _ _ => ?_⟩
      obtain ⟨p1, p2⟩ := ld_top hP
      have fP := wm_falls h
      have r1 := fP.2 _ p1
      have hs := (wm_lin h).2 _ a1 _ b1
      have l1 := hp.2 _ p1
      have l2 := p2 _ hp.1
      dsimp only at l2
      have em : (ldT o P).m = (ldT o A).m.sum (ldT o B).m := by
        refine rkW_inj (o := o) _ _ r1.1 hs ?_
        exact Int.le_antisymm l1 l2
      have ra := (okL_falls oA).2.2 _ a1
      have rb := (okL_falls oB).2.2 _ b1
      have ec : (ldT o P).c = (ldT o A).c * (ldT o B).c % 101 := by
        have h1 : ∀ X : List T, Falls X → ∀ t ∈ X, ∀ s ∈ X, t.m = s.m → t = s := fun X hX => by
          induction X with
          | nil => intro t ht; cases ht
          | cons z r ih =>
            intro t ht s hs e
            have hp := (List.pairwise_cons.1 hX.1).1
            rcases List.mem_cons.1 ht with rfl | ht'
            · rcases List.mem_cons.1 hs with rfl | hs'
              · rfl
              · have := hp s hs'; rw [e] at this; omega
            · rcases List.mem_cons.1 hs with rfl | hs'
              · have := hp t ht'; rw [e] at this; omega
              · exact ih hX.tail t ht' s hs' e
        rw [h1 P fP _ p1 _ hp.1 em]
      refine ⟨?_, ?_⟩
      · rw [em]
        have e3 : ∀ m : M, (⟨m.x, m.y, m.d, m.e⟩ : M) = m := fun m => by cases m; rfl
        rw [e3, e3]
        unfold M.mul
        simp [ra.1, rb.1, hs]
      · rw [ec, fMul_in (by omega) ra.2.2 (by omega) rb.2.2]
theorem ldI_L (o : Int) {w : World} {a : Option Addr} {ca : Nat} {L : List T} (ha : RL w a ca L) : Calls Try.prog 24 #[.int .i64 o, .slice a L.length ca] w fun r w' => r = .returned (.tuple #[.agg #[.int .i64 (ldT o L).c, .int .i64 (ldT o L).m.x, .int .i64 (ldT o L).m.y, .int .i64 (ldT o L).m.d, .int .i64 (ldT o L).m.e], .bool (ldB o L)]) ∧ Below w.heap.size w w' := polLeadI w o a L.length ca (lf L) ha
end Go.Proofs.Ytbadbmddocifdaa
