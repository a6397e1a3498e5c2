/-
  Both times, each times its slope, count factors.
-/
import Derived.Test.YtnfimnfaejjagaaAtL
import Derived.Test.YtnfimnfaejjagaaDrawFil
namespace Go.Proofs.Ytnfimnfaejjagaa
open Go.RowKit
set_option linter.unusedVariables false

def eul : List T := [⟨1, ⟨1, 0, 1, 0⟩⟩, ⟨1, ⟨0, 1, 0, 1⟩⟩]
theorem eul_sq : (sq (addV [⟨1, ⟨1, 0, 1, 0⟩⟩] [⟨1, ⟨0, 1, 0, 1⟩⟩]).1 eul && (addV [⟨1, ⟨1, 0, 1, 0⟩⟩] [⟨1, ⟨0, 1, 0, 1⟩⟩]).2) = true := by decide +kernel
theorem eul_add : addV [⟨1, ⟨1, 0, 1, 0⟩⟩] [⟨1, ⟨0, 1, 0, 1⟩⟩] = (eul, true) := by
  have h := eul_sq
  rw [Bool.and_eq_true] at h
  have h1 := sq_iff.1 h.1
  exact Prod.ext h1 h.2
theorem eul_ok : okL eul = true := by decide
theorem eul_Rp (u : Vq) (n k : Nat) : (Rp stdG eul).f u n k = nf (n + k) * u n k := by
  show zz 1 * (mo stdG ⟨1, 0, 1, 0⟩).f u n k + (zz 1 * (mo stdG ⟨0, 1, 0, 1⟩).f u n k + 0) = _
  rw [mo_std, mo_std]
  show zz 1 * (nf (1 * (n - 0)) * nf 1 * u (n - 1 + 1) (k - 0 + 0)) + (zz 1 * (nf 1 * nf (1 * (k - 0)) * u (n - 0 + 0) (k - 1 + 1)) + 0) = _
  rw [zz_one, nf_one, Nat.one_mul, Nat.one_mul, Nat.sub_zero, Nat.sub_zero, Nat.add_zero, Nat.add_zero, nf_add]
  cases n with
  | zero =>
    cases k with
    | zero => rw [nf_zero]; grind
    | succ k => rw [nf_zero, show k + 1 - 1 + 1 = k + 1 by omega]; grind
  | succ n =>
    cases k with
    | zero => rw [nf_zero, show n + 1 - 1 + 1 = n + 1 by omega]; grind
    | succ k => rw [show n + 1 - 1 + 1 = n + 1 by omega, show k + 1 - 1 + 1 = k + 1 by omega]; grind
theorem eul_dok {L : List T} (h : freeL L = true) : DoOk eul L := fun a ha b hb => by
  obtain ⟨oL, gL⟩ := frm_iff.1 h
  obtain ⟨x1, x2, y1, y2, d1, d2, e1, e2⟩ := M.ok_iff.1 ((okL_falls oL).2.2 b hb).1
  rcases List.mem_cons.1 ha with rfl | ha
  · by_cases hx : b.m.x < 1
    · exact .inl hx
    · refine .inr (.inr (M.ok_iff.2 ?_))
      show 0 ≤ b.m.x - 1 + 1 ∧ b.m.x - 1 + 1 ≤ 15 ∧ 0 ≤ b.m.y - 0 + 0 ∧ b.m.y - 0 + 0 ≤ 15 ∧ (0 : Int) ≤ 0 ∧ (0 : Int) ≤ 15 ∧ (0 : Int) ≤ 0 ∧ (0 : Int) ≤ 15
      omega
  · obtain rfl := List.mem_singleton.1 ha
    by_cases hy : b.m.y < 1
    · exact .inr (.inl hy)
    · refine .inr (.inr (M.ok_iff.2 ?_))
      show 0 ≤ b.m.x - 0 + 0 ∧ b.m.x - 0 + 0 ≤ 15 ∧ 0 ≤ b.m.y - 1 + 1 ∧ b.m.y - 1 + 1 ≤ 15 ∧ (0 : Int) ≤ 0 ∧ (0 : Int) ≤ 15 ∧ (0 : Int) ≤ 0 ∧ (0 : Int) ≤ 15
      omega
theorem eul_no {L : List T} (h : freeL L = false) : wdV eul L = ([], false) := if_neg (fun hh => by rw [show polFree L.length (lf L) = false from h] at hh; cases hh.2)
theorem eul_yes {L : List T} (h : freeL L = true) : ∃ X, wdV eul L = (X, true) := wd_of eul_ok h (eul_dok h)
theorem part_free {L : List T} (h : freeL L = true) (n : Int) : freeL (partV n L) = true ∧ ∀ t ∈ partV n L, t ∈ L ∧ dgr t.m = n := by
  obtain ⟨oL, gL⟩ := frm_iff.1 h
  have f := okL_falls oL
  rw [partV_ok oL]
  refine ⟨frm_iff.2 ⟨okL_of (Nat.le_trans (List.length_filter_le _ _) f.1) ⟨f.2.1.sublist (List.filter_sublist), fun t ht => f.2.2 t (List.mem_filter.1 ht).1⟩, fun t ht => gL t (List.mem_filter.1 ht).1⟩, fun t ht => ?_⟩
  have := List.mem_filter.1 ht
  exact ⟨this.1, beq_iff_eq.1 this.2⟩
/-- of the part with n factors they make n times it. -/
theorem eul_part {L : List T} (h : freeL L = true) {n : Int} (n0 : 0 ≤ n) (n1 : n ≤ 11) : wdV eul (partV n L) = (scV n (partV n L), true) := by
  obtain ⟨fp, hp⟩ := part_free h n
  obtain ⟨op, gp⟩ := frm_iff.1 fp
  have sf := scV_facts (c := n) n0 (by omega) op
  obtain ⟨X, hX⟩ := eul_yes fp
  have ss : freeL (scV n (partV n L)) = true := by
    refine frm_iff.2 ⟨okL_of (by have := (okL_falls op).1; omega) sf.1, fun t ht => ?_⟩
    by_cases hz : n = 0
    · rw [hz, scV_zero] at ht; cases ht
    · rw [scV_is (by omega) (by omega) op, scL_map] at ht
      obtain ⟨s, hs, rfl⟩ := List.mem_map.1 ht
      exact gp s hs
  have e : X = scV n (partV n L) := wd_eq hX ss (fun u => by
    have e1 : pf u (scV n (partV n L)) = zz n * pf u (partV n L) := by
      by_cases hz : n = 0
      · rw [hz, scV_zero, zz_zero]
        show (0 : Fq) = 0 * _
        grind
      · rw [scV_is (by omega) (by omega) op, pf_sc]
    rw [e1]
    unfold pf lin
    rw [← su_mul]
    refine su_congr (fun t ht => ?_)
    show zz t.c * (Rp stdG eul).f u t.m.x.toNat t.m.y.toNat = zz n * (zz t.c * u t.m.x.toNat t.m.y.toNat)
    rw [eul_Rp]
    obtain ⟨x1, x2, y1, y2, d1, d2, e1, e2⟩ := M.ok_iff.1 ((okL_falls op).2.2 t ht).1
    have hd := (hp t ht).2
    have hg := gp t ht
    unfold dgr at hd
    rw [← zz_nat, show ((t.m.x.toNat + t.m.y.toNat : Nat) : Int) = n by omega]
    grind)
  rw [hX, e]
end Go.Proofs.Ytnfimnfaejjagaa
