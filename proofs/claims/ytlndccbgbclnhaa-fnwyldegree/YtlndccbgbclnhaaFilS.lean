/-
  Tops: the model.
-/
import Derived.Test.YtlndccbgbclnhaaFil
namespace Go.Proofs.Ytlndccbgbclnhaa
open Go.RowKit
set_option linter.unusedVariables false

theorem mx_if (a b : Int) : mx a b = if a < b then b else a := by unfold mx; split <;> split <;> omega
theorem mostL_succ (q : M → Int) (f : Nat → T) (k : Nat) : mostL q f (k + 1) = mx (mostL q f k) (q (f k).m) := by rw [mx_if]; rfl
theorem ord_deg {a b : M} (h : 0 < M.ord 1 a b) : b.deg ≤ a.deg := by
  unfold M.ord at h
  by_cases he : a.deg = b.deg
  · omega
  · rw [if_pos ⟨rfl, he⟩] at h
    unfold c3 at h
    split at h
    · omega
    · omega
theorem deg_ok {m : M} (h : m.ok = true) : m.deg = dgr m := by simp [M.deg, dgr, h]
theorem most_deg {n : Nat} {f : Nat → T} (hp : polOk n f = true) : ∀ i, i < n → mostL dgr f (i + 1) = dgr (f 0).m ∧ dgr (f i).m ≤ dgr (f 0).m
  | 0, h => by
    have hm := M.ok_iff.1 (polOk_m hp 0 h)
    refine ⟨?_, Int.le_refl _⟩
    show (if (-1 : Int) < dgr (f 0).m then dgr (f 0).m else -1) = _
    rw [if_pos (by unfold dgr; omega)]
  | i + 1, h => by
    obtain ⟨h1, h2⟩ := most_deg hp i (by omega)
    have hm := polOk_m hp
    have ho : okAt f (i + 1) = true := by have hh := hp; simp only [polOk, decide_eq_true_eq] at hh; exact hh.2 (i + 1) h
    simp only [okAt, Bool.and_eq_true, Bool.or_eq_true, decide_eq_true_eq, Nat.add_sub_cancel] at ho
    have h3 := ord_deg (ho.2.resolve_left (by omega))
    rw [deg_ok (hm _ h), deg_ok (hm i (by omega))] at h3
    have h4 : dgr (f (i + 1)).m ≤ dgr (f 0).m := by omega
    refine ⟨?_, h4⟩
    rw [mostL, h1, if_neg (by omega)]
set_option maxHeartbeats 2000000 in
theorem filDegreeS (w : World) (a : Option Addr) (n cap : Nat) (f : Nat → T) (h : Rd w a n cap f) :
    Calls Try.prog 25 #[.slice a n cap] w fun r w' => r = .returned (.int .i64 (filDegree n f)) ∧ Below w.heap.size w w' := by
  have HA := Hid.mk' h
  have hn : (n : Int) ≤ 140737488351232 := by have := h.2.1; omega
  clear h
  cases hp : polOk n f
  · have e1 : filDegree n f = -1 := by simp [filDegree, filMost, hp]
    rw [e1]
    go_enter Try.func25, Try.ntmps25
    go_wp2_with (go_at_call 36; refine (polOkS _ _ _ _ f HA.out).mono ?_; rw [hp]; rintro r w1 ⟨rfl, hb1⟩; have HB1 := Hid.mk' hb1; clear hb1)
    go_ret
    exact ⟨rfl, HB1.out⟩
  · by_cases h0 : n = 0
    · subst h0
      have e1 : filDegree 0 f = -1 := by simp [filDegree, filMost, hp, mostL]
      rw [e1]
      go_enter Try.func25, Try.ntmps25
      go_wp2_with (go_at_call 36; refine (polOkS _ _ _ _ f HA.out).mono ?_; rw [hp]; rintro r w1 ⟨rfl, hb1⟩; have HB1 := Hid.mk' hb1; clear hb1)
      go_ret
      exact ⟨rfl, HB1.out⟩
    · have hm0 := polOk_m hp 0 (by omega)
      have e1 : filDegree n f = M.deg ⟨(f 0).m.x, (f 0).m.y, (f 0).m.d, (f 0).m.e⟩ := by
        have h1 := (most_deg hp (n - 1) (by omega)).1
        rw [show n - 1 + 1 = n by omega] at h1
        simp only [filDegree, filMost, hp, if_true]
        rw [h1]
        exact (deg_ok hm0).symm
      rw [e1]
      clear e1
      have hpos : (0 : Int) < (n : Int) := by omega
      have hne : ((n : Int) == 0) = false := by simp; omega
      go_enter Try.func25, Try.ntmps25
      go_wp2_with (first
        | (go_at_call 36; refine (polOkS _ _ _ _ f HA.out).mono ?_; rw [hp]; rintro r w1 ⟨rfl, hb1⟩; have HB1 := Hid.mk' hb1; have hc1 := ((HA.out.below hb1).2.2.resolve_left h0); obtain ⟨b, off, hpe, hblt, hcl⟩ := hc1; have hg := hcl 0 (by omega); rw [show off + 0 * 5 = off by omega] at hg; obtain ⟨g0, g1, g2, g3, g4⟩ := hg; subst hpe; clear hb1 hcl)
        | (go_at_call 65; refine (monDegS _ _ _ _ _).mono ?_; rintro r w2 ⟨rfl, hb2⟩))
      go_ret
      exact ⟨rfl, bel_next HB1.out hb2⟩
end Go.Proofs.Ytlndccbgbclnhaa
