/-
  A sum of products of two lists: the program's RedSum.
-/
import Derived.Test.YtllfgoepfeoclabRedSI
namespace Go.Proofs.Ytllfgoepfeoclab
open Go.RowKit Go.Deep Go.Joins
set_option linter.unusedVariables false

theorem RdS.below2 {w w' : World} {a : Option Addr} {n cap : Nat} {ad : Nat → Option Addr} {ln cp : Nat → Nat} {f : Nat → Nat → T} (h : RdS w a n cap ad ln cp f) (hb : Below w.heap.size w w') : RdS w' a n cap ad ln cp f := h.below hb
set_option maxRecDepth 100000 in
set_option maxHeartbeats 8000000 in
theorem redSumI (w : World) (a1 : Option Addr) (n1 c1 : Nat) (ad1 : Nat → Option Addr) (ln1 cp1 : Nat → Nat) (f1 : Nat → Nat → T) (h1 : RdS w a1 n1 c1 ad1 ln1 cp1 f1) (a2 : Option Addr) (n2 c2 : Nat) (ad2 : Nat → Option Addr) (ln2 cp2 : Nat → Nat) (f2 : Nat → Nat → T) (h2 : RdS w a2 n2 c2 ad2 ln2 cp2 f2) :
    Calls Try.prog 6 #[.slice a1 n1 c1, .slice a2 n2 c2] w fun r w' => ∃ a c, r = .returned (.tuple #[.slice a (redSum n1 ln1 f1 n2 ln2 f2).1.length c, .bool (redSum n1 ln1 f1 n2 ln2 f2).2]) ∧ Below w.heap.size w w' ∧ Out w.heap.size w' a c (redSum n1 ln1 f1 n2 ln2 f2).1 := by
  have q1 : (n1 : Int) ≤ 140737488351232 := by have := h1.2.1; omega
  have q2 : (n2 : Int) ≤ 140737488351232 := by have := h2.2.1; omega
  have HB0 := Hid.mk' (bel_two w (.cells #[.slice a1 n1 c1] 23) (.cells #[.slice a2 n2 c2] 23))
  have H1 := Hid.mk' (h1.below HB0.out)
  have H2 := Hid.mk' (h2.below HB0.out)
  clear h1 h2
  by_cases hn : n1 = n2 ∧ n2 ≤ 12
  · obtain ⟨hn1, hn2⟩ := hn
    have HE : Hid (redSum n1 ln1 f1 n2 ln2 f2 = mulO (sumPr ln1 f1 ln2 f2 n2)) := if_pos ⟨hn1, hn2⟩
    subst hn1
    have hne : ((n1 : Int) != (n1 : Int)) = false := by simp
    have hng : ¬ (12 : Int) < (n1 : Int) := by omega
    have hsz : ((w.alloc (.cells #[.slice a1 n1 c1] 23)).alloc (.cells #[.slice a2 n1 c2] 23)).heap.size = w.heap.size + 2 := by simp
    have k0 : ((w.alloc (.cells #[.slice a1 n1 c1] 23)).alloc (.cells #[.slice a2 n1 c2] 23)).cell? ⟨w.heap.size, 0, none⟩ = some (.slice a1 n1 c1) := by simp [go_sem]
    have k1 : ((w.alloc (.cells #[.slice a1 n1 c1] 23)).alloc (.cells #[.slice a2 n1 c2] 23)).cell? ⟨w.heap.size + 1, 0, none⟩ = some (.slice a2 n1 c2) := by
      simp [go_sem]
    obtain ⟨w0, hw0⟩ : ∃ w0, ((w.alloc (.cells #[.slice a1 n1 c1] 23)).alloc (.cells #[.slice a2 n1 c2] 23)) = w0 := ⟨_, rfl⟩
    have HS1 : Hid (Calls Try.prog 24 #[.pointer (some ⟨w.heap.size, 0, none⟩), .pointer (some ⟨w.heap.size + 2, 0, none⟩), .pointer (some ⟨w.heap.size + 1, 0, none⟩)] (((w.alloc (.cells #[.slice a1 n1 c1] 23)).alloc (.cells #[.slice a2 n1 c2] 23)).alloc (.cells #[.slice none 0 0] 26)) fun r w' => SumPost w0 (sumPr ln1 f1 ln2 f2 n1) r w') := by
      have := sum1I ((w.alloc (.cells #[.slice a1 n1 c1] 23)).alloc (.cells #[.slice a2 n1 c2] 23)) (((w.alloc (.cells #[.slice a1 n1 c1] 23)).alloc (.cells #[.slice a2 n1 c2] 23)).alloc (.cells #[.slice none 0 0] 26)) w.heap.size (w.heap.size + 1) n1 a1 c1 ad1 ln1 cp1 f1 H1.out a2 c2 ad2 ln2 cp2 f2 H2.out k0 k1 (bel_one _ _) (by rw [World.cell?_alloc_at _ _ _ _ rfl]; rfl) (by rw [World.frozen?_alloc_at _ _ _ _ rfl])
      rw [hsz, hw0] at this
      rw [hw0]
      exact this
    have hsz0 : w0.heap.size = w.heap.size + 2 := by rw [← hw0]; exact hsz
    have hBw : Below w.heap.size w w0 := by rw [← hw0]; exact HB0.out
    have HBW := Hid.mk' hBw
    clear hBw k0 k1
    cases hS : sumPr ln1 f1 ln2 f2 n1 with
    | some K =>
      have e2 : redSum n1 ln1 f1 n1 ln2 f2 = (K, true) := by rw [HE.out, hS]; rfl
      rw [e2]
      have HC := Hid.mk' (redEnds_yes 24 #[.pointer (some ⟨w.heap.size, 0, none⟩), .pointer (some ⟨w.heap.size + 2, 0, none⟩), .pointer (some ⟨w.heap.size + 1, 0, none⟩)] (((w.alloc (.cells #[.slice a1 n1 c1] 23)).alloc (.cells #[.slice a2 n1 c2] 23)).alloc (.cells #[.slice none 0 0] 26)) (fun w' => Below w0.heap.size w0 w' ∧ ∃ a c, w'.cell? ⟨w.heap.size + 2, 0, none⟩ = some (.slice a K.length c) ∧ Out (w.heap.size + 3) w' a c K) (enters_of Try.func24 (by kernel_rfl) rfl) (HS1.out.mono fun r w' h => by
        rw [hS] at h
        rcases h.2 with ⟨K', a, c, hK, _, hr, hcl, ho⟩ | ⟨hno, _⟩
        · cases hK
          rw [hsz0] at hcl ho
          exact ⟨hr, h.1, a, c, hcl, ho⟩
        · cases hno))
      clear HS1 e2 hS hw0 hsz
      go_enter Try.func6, Try.ntmps6
      go_wp2_with fail
      refine HC.out.mono ?_
      rintro r w3 ⟨rfl, w1, ⟨hb, a, c, hcl, hout⟩, rfl⟩
      have g1 : (w1.alloc (.cells #[] 82)).cell? ⟨w.heap.size + 2, 0, none⟩ = some (.slice a K.length c) := ((bel_one w1 _).cell (p := ⟨w.heap.size + 2, 0, none⟩) (World.block_lt_of_cell? w1 _ hcl)).trans hcl
      have HB3 := Hid.mk' (bel_next (bel_next HBW.out hb) (bel_one w1 (.cells #[] 82)))
      have HO3 := Hid.mk' ((hout.below (bel_one w1 (.cells #[] 82))).low (lo' := w.heap.size) (by omega))
      clear hb hcl hout HC
      go_wp2
      refine bodyPost_ret (results_tmp2 rfl _ _ _) rfl ?_
      exact ⟨a, c, rfl, HB3.out, HO3.out⟩
    | none =>
      have e2 : redSum n1 ln1 f1 n1 ln2 f2 = ([], false) := by rw [HE.out, hS]; rfl
      rw [e2]
      have HC := Hid.mk' (redEnds_no 24 #[.pointer (some ⟨w.heap.size, 0, none⟩), .pointer (some ⟨w.heap.size + 2, 0, none⟩), .pointer (some ⟨w.heap.size + 1, 0, none⟩)] (((w.alloc (.cells #[.slice a1 n1 c1] 23)).alloc (.cells #[.slice a2 n1 c2] 23)).alloc (.cells #[.slice none 0 0] 26)) (fun w' => Below w0.heap.size w0 w') (enters_of Try.func24 (by kernel_rfl) rfl) (HS1.out.mono fun r w' h => by
        rw [hS] at h
        rcases h.2 with ⟨K', a, c, hK, _⟩ | ⟨_, hr⟩
        · cases hK
        · exact ⟨hr, h.1⟩))
      clear HS1 e2 hS hw0 hsz
      go_enter Try.func6, Try.ntmps6
      go_wp2_with fail
      refine HC.out.mono ?_
      rintro r w3 ⟨rfl, w1, hb, rfl⟩
      have HB3 := Hid.mk' (bel_next (bel_next HBW.out hb) (bel_one w1 (.cells #[] 82)))
      clear hb HC
      go_wp2
      refine bodyPost_ret (results_tmp2 rfl _ _ _) rfl ?_
      exact ⟨none, 0, rfl, HB3.out, Out.nil _ _⟩
  · have HE : Hid (redSum n1 ln1 f1 n2 ln2 f2 = ([], false)) := if_neg hn
    by_cases he : n1 = n2
    · subst he
      have hne : ((n1 : Int) != (n1 : Int)) = false := by simp
      have hng : (12 : Int) < (n1 : Int) := by omega
      go_enter Try.func6, Try.ntmps6
      go_wp2
      refine bodyPost_ret (results_tmp2 rfl _ _ _) rfl ?_
      rw [HE.out]
      exact ⟨none, 0, rfl, HB0.out, Out.nil _ _⟩
    · have hne : ((n1 : Int) != (n2 : Int)) = true := by simp; omega
      go_enter Try.func6, Try.ntmps6
      go_wp2
      refine bodyPost_ret (results_tmp2 rfl _ _ _) rfl ?_
      rw [HE.out]
      exact ⟨none, 0, rfl, HB0.out, Out.nil _ _⟩
end Go.Proofs.Ytllfgoepfeoclab
