/-
  The program counts within a side (IdlFlat), all of it.
  Counting within a side: fewer operators leave more; none leaves all; 1 leaves nothing.
-/
import Derived.Test.YtbkighpmkadmmaaGbv
import Derived.Deep.RegionHeld3
import Derived.Test.YtbkighpmkadmmaaGbu
namespace Go.Proofs.Ytbkighpmkadmmaa
open Go.RowKit Go.Deep Go.Joins
set_option linter.unusedVariables false
set_option linter.unusedSimpArgs false
set_option maxRecDepth 100000 in
set_option maxHeartbeats 4000000 in
theorem idlFlatI_no (w : World) (o : Int) (a : Option Addr) (n cap : Nat) (side : Int) (HL : Hid (Calls Try.prog 44 #[.int .i64 o, .slice a n cap] (w.alloc (.cells #[.int .i64 side] 3)) fun r w' => r = .returned (.tuple #[.slice none 0 0, .bool false]) ∧ Below (w.alloc (.cells #[.int .i64 side] 3)).heap.size (w.alloc (.cells #[.int .i64 side] 3)) w')) :
    Calls Try.prog 17 #[.int .i64 o, .slice a n cap, .int .i64 side] w fun r w' => r = .returned (.tuple #[.int .i64 0, .bool false]) ∧ Below w.heap.size w w' := by
  have HB0 := Hid.mk' (bel_one w (.cells #[.int .i64 side] 3))
  obtain ⟨w0, hw0⟩ : ∃ w0, w.alloc (.cells #[.int .i64 side] 3) = w0 := ⟨_, rfl⟩
  rw [hw0] at HL HB0
  refine (callsIn_wide (n := 9)).1 ?_
  refine callsIn_of_wp Try.func17 rfl trivial ?_ rfl
  simp only [Try.ntmps17, List.size_toArray, List.length_cons, List.length_nil, Nat.reduceAdd, Nat.reduceSub, Array.replicate_succ, Array.replicate_zero, List.push_toArray, List.append_toArray, List.nil_append, List.cons_append]
  gi_wp2_with (first
    | (refine ⟨trivial, ?_⟩; gi_at_call 44; refine (callsIn_wide.2 HL.out).mono ?_; rintro e w1 ⟨rfl, hb1⟩; have HB1 := Hid.mk' hb1; clear hb1)
    | gi_in)
  exact bodyPost_ret (results_tmp2 rfl _ _ _) rfl ⟨rfl, bel_next (bel_next HB0.out HB1.out) (bel_one _ _)⟩
set_option maxRecDepth 100000 in
set_option maxHeartbeats 4000000 in
theorem idlFlatI_s (w : World) (o : Int) (a : Option Addr) (n cap : Nat) (ad : Nat → Option Addr) (ln cp : Nat → Nat) (f : Nat → Nat → T) (side : Int) (h : RdS w a n cap ad ln cp f) (o1 : 1 ≤ o) (o2 : o ≤ 3) (hl : lstOk n ln f = true) (hs : side < 0 ∨ (0 ≤ side ∧ 6 < side)) :
    Calls Try.prog 17 #[.int .i64 o, .slice a n cap, .int .i64 side] w fun r w' => r = .returned (.tuple #[.int .i64 0, .bool false]) ∧ Below w.heap.size w w' := by
  have HL := Hid.mk' (redLeadsI (w.alloc (.cells #[.int .i64 side] 3)) o a n cap ad ln cp f (h.below (bel_one w _)) o1 o2 hl)
  have hn := (lstOk_all hl).1
  have hb0 := Boxed.new w 3 (.int .i64 side)
  have HB0 := Hid.mk' hb0
  obtain ⟨w0, hw0⟩ : ∃ w0, w.alloc (.cells #[.int .i64 side] 3) = w0 := ⟨_, rfl⟩
  have HW0 : Hid (Below w.heap.size w w0) := by rw [← hw0]; exact Hid.mk' (bel_one w _)
  have hz0 : w0.heap.size = w.heap.size + 1 := by rw [← hw0]; simp
  rw [hw0] at HL HB0
  clear hb0 h
  refine (callsIn_wide (n := 9)).1 ?_
  refine callsIn_of_wp Try.func17 rfl trivial ?_ rfl
  simp only [Try.ntmps17, List.size_toArray, List.length_cons, List.length_nil, Nat.reduceAdd, Nat.reduceSub, Array.replicate_succ, Array.replicate_zero, List.push_toArray, List.append_toArray, List.nil_append, List.cons_append]
  rcases hs with hs | ⟨hs1, hs2⟩
  all_goals
    gi_wp2_with (first
      | (refine ⟨trivial, ?_⟩; gi_at_call 44; refine (callsIn_wide.2 HL.out).mono ?_; rintro e w1 ⟨v, rfl, hb1, hown1⟩; obtain ⟨a5, c5, hv5, hout⟩ := out_of_owns hown1 (by rw [ldsL_len]; omega); rw [ldsL_len] at hv5; subst hv5; have HB1 := Hid.mk' hb1; have hbx : Boxed w1 w.heap.size 3 (.int .i64 side) := (hb1.block _ (by omega)).trans HB0.out; have hlx := hbx.lt; have hbx2 := hbx.alloc (.cells #[.slice a5 n c5] 29); have c1 := hbx2.cell; clear hb1 hown1 hout hbx hbx2)
      | gi_in)
  · exact bodyPost_ret (results_tmp2 rfl _ _ _) rfl ⟨rfl, bel_next (bel_next HW0.out HB1.out) (bel_one _ _)⟩
  · exact bodyPost_ret (results_tmp2 rfl _ _ _) rfl ⟨rfl, bel_next (bel_next HW0.out HB1.out) (bel_one _ _)⟩
theorem idlFlatI (w : World) (o : Int) (a : Option Addr) (n cap : Nat) (ad : Nat → Option Addr) (ln cp : Nat → Nat) (f : Nat → Nat → T) (side : Int) (h : RdS w a n cap ad ln cp f) :
    Calls Try.prog 17 #[.int .i64 o, .slice a n cap, .int .i64 side] w fun r w' => r = .returned (.tuple #[.int .i64 (idlFlat o n ln f side).1, .bool (idlFlat o n ln f side).2]) ∧ Below w.heap.size w w' := by
  by_cases ho : 1 ≤ o ∧ o ≤ 3
  · by_cases hl : lstOk n ln f = true
    · by_cases hs : 0 ≤ side ∧ side ≤ 6
      · obtain ⟨s, rfl⟩ : ∃ s : Nat, side = (s : Int) := ⟨side.toNat, by omega⟩
        have e : idlFlat o n ln f (s : Int) = ((flatN o n ln f s : Int), decide (flatE o n ln f s = 0)) := by
          unfold idlFlat
          rw [if_pos ⟨ho, hl, hs⟩]
          rfl
        rw [e]
        exact idlFlatI_ok w o a n cap ad ln cp f s h ho.1 ho.2 hl (by omega)
      · have e : idlFlat o n ln f side = (0, false) := if_neg (fun c => hs c.2.2)
        rw [e]
        exact idlFlatI_s w o a n cap ad ln cp f side h ho.1 ho.2 hl (by omega)
    · have e : idlFlat o n ln f side = (0, false) := if_neg (fun c => hl c.2.1)
      rw [e]
      exact idlFlatI_no w o a n cap side (Hid.mk' (redLeadsI_no _ o a n cap ad ln cp f (h.below (bel_one w _)) ho.1 ho.2 (by simpa using hl)))
  · have e : idlFlat o n ln f side = (0, false) := if_neg (fun c => ho c.1)
    rw [e]
    exact idlFlatI_no w o a n cap side (Hid.mk' (redLeadsI_out _ o a n cap (by omega)))
end Go.Proofs.Ytbkighpmkadmmaa
namespace Go.Proofs.Ytbkighpmkadmmaa
open Go.RowKit
set_option linter.unusedVariables false
theorem fsumN_mono {φ ψ : Nat → Nat} : ∀ {n : Nat}, (∀ i, i < n → φ i ≤ ψ i) → fsumN φ n ≤ fsumN ψ n
  | 0, _ => Nat.le_refl _
  | n + 1, h => Nat.add_le_add (fsumN_mono (fun i hi => h i (by omega))) (h n (by omega))
theorem fsumN_const (c : Nat) : ∀ n, fsumN (fun _ => c) n = n * c
  | 0 => by rw [Nat.zero_mul]; rfl
  | n + 1 => by show fsumN (fun _ => c) n + c = (n + 1) * c; rw [fsumN_const c n, Nat.succ_mul]
theorem idxF_neg {p : T → Bool} {f : Nat → T} : ∀ {n : Nat}, idxF p f n < 0 ↔ ∀ i, i < n → p (f i) = false
  | 0 => ⟨fun _ i h => by omega, fun _ => by show (-1 : Int) < 0; omega⟩
  | n + 1 => by
    have ih := idxF_neg (p := p) (f := f) (n := n)
    unfold idxF
    split
    · rename_i h0
      constructor
      · intro h; omega
      · intro h
        have := ih.2 (fun i hi => h i (by omega))
        omega
    · rename_i h0
      split
      · rename_i h1
        constructor
        · intro h; omega
        · intro h
          have := h n (by omega)
          rw [h1] at this
          cases this
      · rename_i h1
        constructor
        · intro _ i hi
          by_cases e : i = n
          · subst e; simpa using h1
          · exact ih.1 (by omega) i (by omega)
        · intro _; omega
theorem fGood_less {o : Int} {n k : Nat} {ln : Nat → Nat} {f : Nat → Nat → T} {m : M} (hk : k ≤ n) (h : fGood o n ln f m = true) : fGood o k ln f m = true :=
  decide_eq_true (idxF_neg.2 (fun i hi => idxF_neg.1 (of_decide_eq_true h) i (by omega)))
theorem flatN_less (o : Int) {n k : Nat} (ln : Nat → Nat) (f : Nat → Nat → T) (s : Nat) (hk : k ≤ n) : flatN o n ln f s ≤ flatN o k ln f s :=
  fsumN_mono fun x _ => fsumN_mono fun y _ => fsumN_mono fun d _ => fsumN_mono fun e _ => by
    show (if fGood o n ln f (fm x y d e) = true then 1 else 0) ≤ (if fGood o k ln f (fm x y d e) = true then 1 else 0)
    by_cases h : fGood o n ln f (fm x y d e) = true
    · rw [if_pos h, if_pos (fGood_less hk h)]; exact Nat.le_refl _
    · rw [if_neg h]; exact Nat.zero_le _
theorem flatN_none (o : Int) (ln : Nat → Nat) (f : Nat → Nat → T) (s : Nat) : flatN o 0 ln f s = (s + 1) * ((s + 1) * ((s + 1) * (s + 1))) := by
  unfold flatN
  have h : ∀ m, (if fGood o 0 ln f m = true then 1 else 0) = (1 : Nat) := fun m => if_pos (decide_eq_true (idxF_neg.2 (fun i hi => by omega)))
  simp only [h, fsumN_const, Nat.mul_one]
theorem flat_nil {o : Int} {n : Nat} {ln : Nat → Nat} {f : Nat → Nat → T} {s : Nat} (h : ∀ x y d e, x ≤ s → y ≤ s → d ≤ s → e ≤ s → fGood o n ln f (fm x y d e) = false) : flatN o n ln f s = 0 ∧ flatE o n ln f s = 0 := by
  constructor
  · refine Eq.trans (fsumN_congr fun x hx => Eq.trans (fsumN_congr fun y hy => Eq.trans (fsumN_congr fun d hd => Eq.trans (fsumN_congr fun e he => ?_) (fsumN_zero _)) (fsumN_zero _)) (fsumN_zero _)) (fsumN_zero _)
    exact if_neg (by rw [h x y d e (by omega) (by omega) (by omega) (by omega)]; simp)
  · refine Eq.trans (fsumN_congr fun x hx => Eq.trans (fsumN_congr fun y hy => Eq.trans (fsumN_congr fun d hd => Eq.trans (fsumN_congr fun e he => ?_) (fsumN_zero _)) (fsumN_zero _)) (fsumN_zero _)) (fsumN_zero _)
    exact if_neg (by rw [h x y d e (by omega) (by omega) (by omega) (by omega)]; simp)
/-- 1 divides all. -/
theorem flat_one {o : Int} {ln : Nat → Nat} {f : Nat → Nat → T} {s : Nat} (h1 : ln 0 = 1) (hf : (f 0 0).m = M.zero) (hs : s ≤ 6) : flatN o 1 ln f s = 0 ∧ flatE o 1 ln f s = 0 :=
  flat_nil fun x y d e hx hy hd he => by
    have hl : (ldAt o ln f 0).m = M.zero := by
      unfold ldAt leadAt
      rw [h1]
      exact hf
    have hok : M.ok (fm x y d e) = true := M.ok_iff.2 ⟨Int.natCast_nonneg _, show (x : Int) ≤ 15 by omega, Int.natCast_nonneg _, show (y : Int) ≤ 15 by omega, Int.natCast_nonneg _, show (d : Int) ≤ 15 by omega, Int.natCast_nonneg _, show (e : Int) ≤ 15 by omega⟩
    have hd : M.dvd (ldAt o ln f 0).m (fm x y d e) = true := by
      rw [hl]
      unfold M.dvd
      rw [hok, show M.zero.ok = true from rfl, decide_eq_true (show M.zero.x ≤ (fm x y d e).x ∧ M.zero.y ≤ (fm x y d e).y ∧ M.zero.d ≤ (fm x y d e).d ∧ M.zero.e ≤ (fm x y d e).e from ⟨Int.natCast_nonneg _, Int.natCast_nonneg _, Int.natCast_nonneg _, Int.natCast_nonneg _⟩)]
      rfl
    refine decide_eq_false fun h => ?_
    have := idxF_neg.1 h 0 (by omega)
    rw [hd] at this
    cases this
end Go.Proofs.Ytbkighpmkadmmaa
