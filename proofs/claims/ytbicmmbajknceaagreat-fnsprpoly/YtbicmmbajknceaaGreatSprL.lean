/-
  The two terms of a pair of operators: what is true of them.
-/
import Derived.Test.YtbicmmbajknceaaGreatSprS
import Derived.Test.YtbicmmbajknceaaGreatGaf
namespace Go.Proofs.YtbicmmbajknceaaGreat
open Go.RowKit Go.Deep Go.Joins
set_option linter.unusedVariables false

theorem leadFrom_lt {o : Int} {f : Nat → T} : ∀ u i k n, k < n → i + u ≤ n → leadFrom o f u i k < n
  | 0, _, _, _, h, _ => h
  | u + 1, i, k, n, h, h2 => by
    unfold leadFrom
    split
    · exact leadFrom_lt u (i + 1) i n (by omega) (by omega)
    · exact leadFrom_lt u (i + 1) k n h (by omega)
theorem leadAt_lt {o : Int} {f : Nat → T} {n : Nat} (h : 0 < n) : leadAt o f n < n := leadFrom_lt (n - 1) 1 0 n h (by omega)
theorem leadOk_parts {o : Int} {n : Nat} {f : Nat → T} (h : leadOk o n f = true) : (1 ≤ o ∧ o ≤ 3) ∧ polOk n f = true ∧ 0 < n := by
  unfold leadOk at h
  simp only [Bool.and_eq_true, decide_eq_true_eq] at h
  exact ⟨h.1.1, h.1.2, h.2⟩
theorem lead_good {o : Int} {n : Nat} {f : Nat → T} (h : leadOk o n f = true) : (leadT o n f).m.ok = true ∧ 1 ≤ (leadT o n f).c ∧ (leadT o n f).c ≤ 100 := by
  obtain ⟨ho, hp, hn⟩ := leadOk_parts h
  rw [leadT_yes h]
  exact (fl_of_ok hp).2 _ (leadAt_lt hn)
theorem fInv_pos {c : Int} (h1 : 1 ≤ c) (h2 : c ≤ 100) : 1 ≤ fInv c := by
  have hb := fInv_bd c
  rcases Int.lt_or_le 0 (fInv c) with h | h
  · omega
  · have h0 : fInv c = 0 := by omega
    have := fMul_inv (b := c) ⟨by omega, h2⟩ (by omega)
    rw [h0, fMul_in (by omega) (by omega) (by omega) h2] at this
    omega
theorem sprT_good {l : T} {b : M} (h : l.m.ok = true ∧ 1 ≤ l.c ∧ l.c ≤ 100) (hd : l.m.dvd b = true) : (sprT l b).m.ok = true ∧ 1 ≤ (sprT l b).c ∧ (sprT l b).c ≤ 100 := by
  refine ⟨?_, fInv_pos h.2.1 h.2.2, (fInv_bd _).2⟩
  show ((M.over b l.m).1).ok = true
  rw [M.over, if_pos hd]
  obtain ⟨h1, h2, h3⟩ := M.dvd_iff hd
  have k1 := M.ok_iff.1 h1
  have k2 := M.ok_iff.1 h2
  refine M.ok_iff.2 ?_
  simp only [M.diff]
  omega
theorem spr_good {o : Int} {n : Nat} {f : Nat → T} {m : Nat} {g : Nat → T} (h : sprOk o n f m g = true) :
    ((sprU o n f m g).m.ok = true ∧ 1 ≤ (sprU o n f m g).c ∧ (sprU o n f m g).c ≤ 100) ∧ ((sprV o n f m g).m.ok = true ∧ 1 ≤ (sprV o n f m g).c ∧ (sprV o n f m g).c ≤ 100) := by
  have h' := h
  unfold sprOk at h'
  rw [Bool.and_eq_true] at h'
  have ga := lead_good h'.1
  have gb := lead_good h'.2
  obtain ⟨d1, d2, _⟩ := M.both_facts ga.1 gb.1 (rfl : M.both (leadT o n f).m (leadT o m g).m = sprB o n f m g)
  unfold sprU sprV
  rw [if_pos h, if_pos h]
  exact ⟨sprT_good ga d1, sprT_good gb d2⟩
theorem sum_over {l b : M} (hd : l.dvd b = true) : M.mul (M.over b l).1 l = (b, true) := by
  rw [M.over, if_pos hd]
  obtain ⟨h1, h2, h3⟩ := M.dvd_iff hd
  have k1 := M.ok_iff.1 h1
  have k2 := M.ok_iff.1 h2
  have hok : (b.diff l).ok = true := by
    refine M.ok_iff.2 ?_
    simp only [M.diff]
    omega
  have hs : (b.diff l).sum l = b := by
    cases b; cases l
    simp only [M.diff, M.sum, M.mk.injEq]
    omega
  unfold M.mul
  rw [hs, if_pos ⟨hok, h1, h2⟩]
theorem mx_two (a b : Int) : mx a b - a = 0 ∨ mx a b - b = 0 := by unfold mx; split <;> omega
/-- what is true of the two terms of a pair. -/
theorem spr_law {o : Int} {n : Nat} {f : Nat → T} {m : Nat} {g : Nat → T} (h : sprOk o n f m g = true) :
    M.mul (sprU o n f m g).m (leadT o n f).m = (sprB o n f m g, true) ∧ M.mul (sprV o n f m g).m (leadT o m g).m = (sprB o n f m g, true) ∧ fMul (sprU o n f m g).c (leadT o n f).c = 1 ∧ fMul (sprV o n f m g).c (leadT o m g).c = 1 ∧
    ((sprU o n f m g).m.x = 0 ∨ (sprV o n f m g).m.x = 0) ∧ ((sprU o n f m g).m.y = 0 ∨ (sprV o n f m g).m.y = 0) ∧ ((sprU o n f m g).m.d = 0 ∨ (sprV o n f m g).m.d = 0) ∧ ((sprU o n f m g).m.e = 0 ∨ (sprV o n f m g).m.e = 0) := by
  have h' := h
  unfold sprOk at h'
  rw [Bool.and_eq_true] at h'
  have ga := lead_good h'.1
  have gb := lead_good h'.2
  obtain ⟨d1, d2, _⟩ := M.both_facts ga.1 gb.1 (rfl : M.both (leadT o n f).m (leadT o m g).m = sprB o n f m g)
  have d1 : (leadT o n f).m.dvd (sprB o n f m g) = true := d1
  have d2 : (leadT o m g).m.dvd (sprB o n f m g) = true := d2
  unfold sprU sprV
  rw [if_pos h, if_pos h]
  refine ⟨sum_over d1, sum_over d2, fMul_inv ⟨by omega, ga.2.2⟩ (by omega), fMul_inv ⟨by omega, gb.2.2⟩ (by omega), ?_⟩
  have e1 : (sprT (leadT o n f) (sprB o n f m g)).m = (sprB o n f m g).diff (leadT o n f).m := by show (M.over _ _).1 = _; rw [M.over, if_pos d1]
  have e2 : (sprT (leadT o m g) (sprB o n f m g)).m = (sprB o n f m g).diff (leadT o m g).m := by show (M.over _ _).1 = _; rw [M.over, if_pos d2]
  rw [e1, e2]
  unfold sprB
  rw [M.both, if_pos ⟨ga.1, gb.1⟩]
  exact ⟨mx_two _ _, mx_two _ _, mx_two _ _, mx_two _ _⟩
end Go.Proofs.YtbicmmbajknceaaGreat
