/-
  Tops: the model.
-/
import Derived.Test.YtnfimnfaejjagaaFil
namespace Go.Proofs.Ytnfimnfaejjagaa
open Go.RowKit
set_option linter.unusedVariables false

theorem mx_if (a b : Int) : mx a b = if a < b then b else a := by unfold mx; split <;> split <;> omega
theorem mostL_succ (q : M → Int) (f : Nat → T) (k : Nat) : mostL q f (k + 1) = mx (mostL q f k) (q (f k).m) := by rw [mx_if]; rfl
theorem ord_deg {a b : M} (h : 0 < M.ord 1 a b) : b.deg ≤ a.deg := by
  unfold M.ord at h
  by_cases he : a.deg = b.deg
  · omega
  · rw [if_pos ⟨rfl, he⟩] at h
    unfold c3 at h
    split at h
    · omega
    · omega
theorem deg_ok {m : M} (h : m.ok = true) : m.deg = dgr m := by simp [M.deg, dgr, h]
theorem most_deg {n : Nat} {f : Nat → T} (hp : polOk n f = true) : ∀ i, i < n → mostL dgr f (i + 1) = dgr (f 0).m ∧ dgr (f i).m ≤ dgr (f 0).m
  | 0, h => by
    have hm := M.ok_iff.1 (polOk_m hp 0 h)
    refine ⟨?_, Int.le_refl _⟩
    show (if (-1 : Int) < dgr (f 0).m then dgr (f 0).m else -1) = _
    rw [if_pos (by unfold dgr; omega)]
  | i + 1, h => by
    obtain ⟨h1, h2⟩ := most_deg hp i (by omega)
    have hm := polOk_m hp
    have ho : okAt f (i + 1) = true := by have hh := hp; simp only [polOk, decide_eq_true_eq] at hh; exact hh.2 (i + 1) h
    simp only [okAt, Bool.and_eq_true, Bool.or_eq_true, decide_eq_true_eq, Nat.add_sub_cancel] at ho
    have h3 := ord_deg (ho.2.resolve_left (by omega))
    rw [deg_ok (hm _ h), deg_ok (hm i (by omega))] at h3
    have h4 : dgr (f (i + 1)).m ≤ dgr (f 0).m := by omega
    refine ⟨?_, h4⟩
    rw [mostL, h1, if_neg (by omega)]
end Go.Proofs.Ytnfimnfaejjagaa
