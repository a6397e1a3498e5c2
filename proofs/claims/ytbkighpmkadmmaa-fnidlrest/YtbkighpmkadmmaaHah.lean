/-
  The least monomial that two divide: the model's and the program's function.
  Slices of slices of terms: how they are read, copied, counted and held against each other.
  Lists of operators: which are ok, and which are the same.
-/
import Derived.Test.YtbkighpmkadmmaaHac
import Derived.Test.YtbkighpmkadmmaaHad
import Derived.Deep.RegionHeld3
import Derived.Deep.Light
import Derived.Test.YtbkighpmkadmmaaHae
import Derived.Test.YtbkighpmkadmmaaHaf
namespace Go.Proofs.Ytbkighpmkadmmaa
open Go.RowKit
set_option linter.unusedVariables false

def S8 (u : World) (n : Nat) (x0 y0 z0 u0 x1 y1 z1 u1 : Int) : Prop := u.cell? ⟨n, 0, none⟩ = some (.int .i64 x0) ∧ u.cell? ⟨n, 1, none⟩ = some (.int .i64 y0) ∧ u.cell? ⟨n, 2, none⟩ = some (.int .i64 z0) ∧ u.cell? ⟨n, 3, none⟩ = some (.int .i64 u0) ∧ u.cell? ⟨n + 1, 0, none⟩ = some (.int .i64 x1) ∧ u.cell? ⟨n + 1, 1, none⟩ = some (.int .i64 y1) ∧ u.cell? ⟨n + 1, 2, none⟩ = some (.int .i64 z1) ∧ u.cell? ⟨n + 1, 3, none⟩ = some (.int .i64 u1)
theorem S8.mk {u : World} {n : Nat} {x0 y0 z0 u0 x1 y1 z1 u1 : Int} (ha : M4 u n x0 y0 z0 u0) (hb : M4 u (n + 1) x1 y1 z1 u1) : S8 u n x0 y0 z0 u0 x1 y1 z1 u1 :=
  ⟨ha.1, ha.2.1, ha.2.2.1, ha.2.2.2, hb.1, hb.2.1, hb.2.2.1, hb.2.2.2⟩
theorem S8.a {u : World} {n : Nat} {x0 y0 z0 u0 x1 y1 z1 u1 : Int} (h : S8 u n x0 y0 z0 u0 x1 y1 z1 u1) : M4 u n x0 y0 z0 u0 := ⟨h.1, h.2.1, h.2.2.1, h.2.2.2.1⟩
theorem S8.b {u : World} {n : Nat} {x0 y0 z0 u0 x1 y1 z1 u1 : Int} (h : S8 u n x0 y0 z0 u0 x1 y1 z1 u1) : M4 u (n + 1) x1 y1 z1 u1 := ⟨h.2.2.2.2.1, h.2.2.2.2.2.1, h.2.2.2.2.2.2.1, h.2.2.2.2.2.2.2⟩
theorem s8_drew {u : World} {n : Nat} {x0 y0 z0 u0 x1 y1 z1 u1 : Int} (h : S8 u n x0 y0 z0 u0 x1 y1 z1 u1) : S8 u.drew n x0 y0 z0 u0 x1 y1 z1 u1 := .mk h.a.drew' h.b.drew'
theorem m4_far {u : World} {B b : Nat} {v0 v1 v2 v3 : Value} {x y d e : Int} (m : M4 u b x y d e) (h : b ≠ B) : M4 ((((u.setCell ⟨B, 0, none⟩ v0).setCell ⟨B, 1, none⟩ v1).setCell ⟨B, 2, none⟩ v2).setCell ⟨B, 3, none⟩ v3) b x y d e :=
  ⟨(far4 h).trans m.1, (far4 h).trans m.2.1, (far4 h).trans m.2.2.1, (far4 h).trans m.2.2.2⟩
theorem s8_set {u : World} {n B : Nat} {v0 v1 v2 v3 : Value} {x0 y0 z0 u0 x1 y1 z1 u1 : Int} (h : S8 u n x0 y0 z0 u0 x1 y1 z1 u1) (hB : n + 1 < B) : S8 ((((u.setCell ⟨B, 0, none⟩ v0).setCell ⟨B, 1, none⟩ v1).setCell ⟨B, 2, none⟩ v2).setCell ⟨B, 3, none⟩ v3) n x0 y0 z0 u0 x1 y1 z1 u1 :=
  .mk (m4_far h.a (by omega)) (m4_far h.b (by omega))
set_option maxHeartbeats 4000000 in
theorem monBothS (x y d e x' y' d' e' : Int) (w : World) :
    Calls Try.prog 71 #[.agg #[.int .i64 x, .int .i64 y, .int .i64 d, .int .i64 e], .agg #[.int .i64 x', .int .i64 y', .int .i64 d', .int .i64 e']] w fun r w' => r = .returned (.agg #[.int .i64 (M.both ⟨x, y, d, e⟩ ⟨x', y', d', e'⟩).x, .int .i64 (M.both ⟨x, y, d, e⟩ ⟨x', y', d', e'⟩).y, .int .i64 (M.both ⟨x, y, d, e⟩ ⟨x', y', d', e'⟩).d, .int .i64 (M.both ⟨x, y, d, e⟩ ⟨x', y', d', e'⟩).e]) ∧ Below w.heap.size w w' := by
  cases ha : M.ok ⟨x, y, d, e⟩
  · have r1 : M.both ⟨x, y, d, e⟩ ⟨x', y', d', e'⟩ = M.zero := by simp [M.both, ha]
    rw [r1]
    simp only [M.zero]
    clear r1
    go_enter Try.func71, Try.ntmps71
    go_wp2_with fail
    refine (monOkS_of ha _).mono ?_
    rintro r w1 ⟨rfl, hb1⟩
    obtain ⟨hc1, hf1⟩ := bcell hb1
    have hz1 : w.heap.size + 1 + 1 < w1.heap.size := by have := hb1.size; simp at this; omega
    go_wp2
    refine bodyPost_ret (v := .agg #[.int .i64 0, .int .i64 0, .int .i64 0, .int .i64 0]) (by simp [results, Try.results71, go_sem, *]) rfl ⟨rfl, ?_⟩
    exact bel_set4 (bel_next (bel_three w _ _ _) hb1) (by omega) _ _ _ _
  · cases hb : M.ok ⟨x', y', d', e'⟩
    · have r1 : M.both ⟨x, y, d, e⟩ ⟨x', y', d', e'⟩ = M.zero := by simp [M.both, hb]
      rw [r1]
      simp only [M.zero]
      clear r1
      go_enter Try.func71, Try.ntmps71
      go_wp2_with fail
      refine (monOkS_of ha _).mono ?_
      rintro r w1 ⟨rfl, hb1⟩
      obtain ⟨hc1, hf1⟩ := bcell hb1
      have hz1 : w.heap.size + 1 + 1 < w1.heap.size := by have := hb1.size; simp at this; omega
      go_wp2_with fail
      refine (monOkS_of hb _).mono ?_
      rintro r w2 ⟨rfl, hb2⟩
      obtain ⟨hc2, hf2⟩ := bcell hb2
      have hz2 : w.heap.size + 1 + 1 < w2.heap.size := by have := hb2.size; omega
      go_wp2
      refine bodyPost_ret (v := .agg #[.int .i64 0, .int .i64 0, .int .i64 0, .int .i64 0]) (by simp [results, Try.results71, go_sem, *]) rfl ⟨rfl, ?_⟩
      exact bel_set4 (bel_next (bel_next (bel_three w _ _ _) hb1) hb2) (by omega) _ _ _ _
    · have r1 : M.both ⟨x, y, d, e⟩ ⟨x', y', d', e'⟩ = ⟨mx x x', mx y y', mx d d', mx e e'⟩ := by simp [M.both, ha, hb]
      rw [r1]
      clear r1
      go_enter Try.func71, Try.ntmps71
      go_wp2_with fail
      refine (monOkS_of ha _).mono ?_
      rintro r w1 ⟨rfl, hb1⟩
      obtain ⟨hc1, hf1⟩ := bcell hb1
      have hz1 : w.heap.size + 1 + 1 < w1.heap.size := by have := hb1.size; simp at this; omega
      have hz0 : w.heap.size + 1 < w1.heap.size := by omega
      have hzz : w.heap.size < w1.heap.size := by omega
      go_wp2_with fail
      refine (monOkS_of hb _).mono ?_
      rintro r w2 ⟨rfl, hb2⟩
      obtain ⟨hc2, hf2⟩ := bcell hb2
      have hz2 : w.heap.size + 1 + 1 < w2.heap.size := by have := hb2.size; omega
      have q0 : w2.cell? ⟨w.heap.size, 0, none⟩ = some (.int .i64 x) := by go_simp
      have q1 : w2.cell? ⟨w.heap.size, 1, none⟩ = some (.int .i64 y) := by go_simp
      have q2 : w2.cell? ⟨w.heap.size, 2, none⟩ = some (.int .i64 d) := by go_simp
      have q3 : w2.cell? ⟨w.heap.size, 3, none⟩ = some (.int .i64 e) := by go_simp
      have p0 : w2.cell? ⟨w.heap.size + 1, 0, none⟩ = some (.int .i64 x') := by go_simp
      have p1 : w2.cell? ⟨w.heap.size + 1, 1, none⟩ = some (.int .i64 y') := by go_simp
      have p2 : w2.cell? ⟨w.heap.size + 1, 2, none⟩ = some (.int .i64 d') := by go_simp
      have p3 : w2.cell? ⟨w.heap.size + 1, 3, none⟩ = some (.int .i64 e') := by go_simp
      have t0 : w2.cell? ⟨w.heap.size + 1 + 1, 0, none⟩ = some (.int .i64 0) := by go_simp
      have t1 : w2.cell? ⟨w.heap.size + 1 + 1, 1, none⟩ = some (.int .i64 0) := by go_simp
      have t2 : w2.cell? ⟨w.heap.size + 1 + 1, 2, none⟩ = some (.int .i64 0) := by go_simp
      have t3 : w2.cell? ⟨w.heap.size + 1 + 1, 3, none⟩ = some (.int .i64 0) := by go_simp
      have z0 : ∀ i, w2.frozen? ⟨w.heap.size + 1 + 1, i, none⟩ = false := fun i => by go_simp
      have HB := Hid.mk' (bel_next (bel_next (bel_three w _ _ _) hb1) hb2)
      clear hc1 hf1 hc2 hf2 hb1 hb2
      go_wp2_with fail
      have hS0 : S8 w2 w.heap.size x y d e x' y' d' e' := ⟨q0, q1, q2, q3, p0, p1, p2, p3⟩
      go_region_held3 (fun u => u.cell? ⟨w.heap.size, 0, none⟩ = some (.int .i64 x) ∧ u.cell? ⟨w.heap.size, 1, none⟩ = some (.int .i64 y) ∧ u.cell? ⟨w.heap.size, 2, none⟩ = some (.int .i64 d) ∧ u.cell? ⟨w.heap.size, 3, none⟩ = some (.int .i64 e) ∧ u.cell? ⟨w.heap.size + 1, 0, none⟩ = some (.int .i64 x') ∧ u.cell? ⟨w.heap.size + 1, 1, none⟩ = some (.int .i64 y') ∧ u.cell? ⟨w.heap.size + 1, 2, none⟩ = some (.int .i64 d') ∧ u.cell? ⟨w.heap.size + 1, 3, none⟩ = some (.int .i64 e')) (first | exact s8_drew hS0 | exact s8_set (by assumption) (by omega)) (first | (go_at_call 101; refine (maxS _ _ _).mono ?_; rintro r w7 ⟨rfl, hw7⟩; obtain rfl := hw7.symm; clear hw7))
      go_wp2
      refine bodyPost_ret (v := .agg #[.int .i64 (mx x x'), .int .i64 (mx y y'), .int .i64 (mx d d'), .int .i64 (mx e e')]) (by simp [results, Try.results71, go_sem, *]) rfl ⟨rfl, ?_⟩
      exact bel_set4 HB.out.drew (by omega) _ _ _ _
end Go.Proofs.Ytbkighpmkadmmaa
namespace Go.Proofs.Ytbkighpmkadmmaa
open Go.RowKit Go.Deep Go.Joins
set_option linter.unusedVariables false

/-- a slice of slices of terms that can be read. -/
def RdS (w : World) (a : Option Addr) (n cap : Nat) (ad : Nat → Option Addr) (ln cp : Nat → Nat) (f : Nat → Nat → T) : Prop :=
  n ≤ cap ∧ n * 40 ≤ 140737488351232 ∧ (n = 0 ∨ ∃ b off, a = some ⟨b, off, none⟩ ∧ b < w.heap.size ∧ ∀ i, i < n → w.cell? ⟨b, off + i, none⟩ = some (.slice (ad i) (ln i) (cp i))) ∧ ∀ i, i < n → Rd w (ad i) (ln i) (cp i) (f i)
theorem RdS.below {w w' : World} {a : Option Addr} {n cap : Nat} {ad : Nat → Option Addr} {ln cp : Nat → Nat} {f : Nat → Nat → T} (h : RdS w a n cap ad ln cp f) (hb : Below w.heap.size w w') : RdS w' a n cap ad ln cp f := by
  refine ⟨h.1, h.2.1, ?_, fun i hi => (h.2.2.2 i hi).below hb⟩
  rcases h.2.2.1 with h0 | ⟨b, off, he, hlt, hc⟩
  · exact .inl h0
  · exact .inr ⟨b, off, he, Nat.lt_of_lt_of_le hlt hb.size, fun i hi => (hb.cell (p := ⟨b, off + i, none⟩) hlt).trans (hc i hi)⟩
end Go.Proofs.Ytbkighpmkadmmaa
namespace Go.Proofs.Ytbkighpmkadmmaa
open Go.RowKit Go.Deep Go.Joins
set_option linter.unusedVariables false

/-- a list of operators is ok one by one. -/
def lstOk (n : Nat) (ln : Nat → Nat) (f : Nat → Nat → T) : Bool := decide (n ≤ 12 ∧ ∀ i, i < n → ln i ≠ 0 ∧ polOk (ln i) (f i) = true)
set_option maxHeartbeats 4000000 in
theorem lstOkI (w : World) (a : Option Addr) (n cap : Nat) (ad : Nat → Option Addr) (ln cp : Nat → Nat) (f : Nat → Nat → T) (h : RdS w a n cap ad ln cp f) :
    Calls Try.prog 82 #[.slice a n cap] w fun r w' => r = .returned (.bool (lstOk n ln f)) ∧ Below w.heap.size w w' := by
  have hn : (n : Int) ≤ 140737488351232 := by have := h.2.1; omega
  have HH := Hid.mk' h
  clear h
  by_cases hbig : 12 < n
  · have e : lstOk n ln f = false := decide_eq_false (fun hh => by omega)
    have hb : (12 : Int) < (n : Int) := by omega
    rw [e]
    go_enter Try.func82, Try.ntmps82
    go_wp2
    go_ret
    exact ⟨rfl, Below.refl _ _⟩
  · have hnb : ¬ (12 : Int) < (n : Int) := by omega
    go_enter Try.func82, Try.ntmps82
    go_wp2
    go_loopw [10] (fun v wr => ∃ i : Nat, i ≤ n ∧ v = .int .i64 (i : Int) ∧ Below w.heap.size w wr ∧ ∀ j, j < i → ln j ≠ 0 ∧ polOk (ln j) (f j) = true) (fun v _ => n - (intOf v).toNat)
    case atStart => exact ⟨0, Nat.zero_le _, rfl, Below.refl _ _, fun j hj => by omega⟩
    case round =>
      obtain ⟨i, hi, rfl, hB, hJ⟩ := hrel
      by_cases hlt : i < n
      · rcases HH.out.2.2.1 with h0 | ⟨b, off, rfl, hblt, hcl⟩
        · omega
        have hil : (i : Int) < (n : Int) := by omega
        have g0 : wr.cell? ⟨b, off + i, none⟩ = some (.slice (ad i) (ln i) (cp i)) := (hB.cell (p := ⟨b, off + i, none⟩) hblt).trans (hcl i hlt)
        have HK := Hid.mk' ((HH.out.2.2.2 i hlt).below hB)
        have HB := Hid.mk' hB
        have HJ := Hid.mk' hJ
        clear hcl hB hJ
        by_cases h0 : ln i = 0
        · have HE : Hid (lstOk n ln f = false) := decide_eq_false (fun hh => (hh.2 i hlt).1 h0)
          have hz : ((ln i : Int) == 0) = true := by rw [h0]; rfl
          clear h0
          go_wp2
          go_ret
          exact ⟨congrArg (fun z => Ending.returned (Value.bool z)) HE.out.symm, HB.out⟩
        · have hz : ((ln i : Int) == 0) = false := by rw [beq_eq_false_iff_ne]; omega
          have HZ := Hid.mk' h0
          clear h0
          cases hp : polOk (ln i) (f i)
          · have HE : Hid (lstOk n ln f = false) := decide_eq_false (fun hh => by have := (hh.2 i hlt).2; rw [hp] at this; cases this)
            go_wp2_with fail
            refine (polOkI _ _ _ _ (f i) HK.out).mono ?_
            rw [hp]
            rintro r w1 ⟨rfl, hb⟩
            have HB1 := Hid.mk' (bel_next HB.out hb)
            clear hb
            go_wp2
            go_ret
            exact ⟨congrArg (fun z => Ending.returned (Value.bool z)) HE.out.symm, HB1.out⟩
          · go_wp2_with fail
            refine (polOkI _ _ _ _ (f i) HK.out).mono ?_
            rw [hp]
            rintro r w1 ⟨rfl, hb⟩
            have HB1 := Hid.mk' (bel_next HB.out hb)
            clear hb
            go_wp2
            go_roundw
            case rel => exact ⟨i + 1, by omega, by go_num, HB1.out, fun j hj => by
              by_cases e : j = i
              · rw [e]; exact ⟨HZ.out, hp⟩
              · exact HJ.out j (by omega)⟩
            case measure => simp [intOf]; omega
      · have hnl : ¬ (i : Int) < (n : Int) := by omega
        have hie : i = n := by omega
        subst hie
        have HE : Hid (lstOk i ln f = true) := decide_eq_true ⟨by omega, hJ⟩
        have HB := Hid.mk' hB
        clear hB hJ
        go_wp2
        go_ret
        exact ⟨congrArg (fun z => Ending.returned (Value.bool z)) HE.out.symm, HB.out⟩
set_option maxHeartbeats 4000000 in
theorem lstOkS (w : World) (a : Option Addr) (n cap : Nat) (ad : Nat → Option Addr) (ln cp : Nat → Nat) (f : Nat → Nat → T) (h : RdS w a n cap ad ln cp f) :
    Calls Try.prog 13 #[.slice a n cap] w fun r w' => r = .returned (.bool (lstOk n ln f)) ∧ Below w.heap.size w w' := by
  have hn : (n : Int) ≤ 140737488351232 := by have := h.2.1; omega
  have HH := Hid.mk' h
  clear h
  by_cases hbig : 12 < n
  · have e : lstOk n ln f = false := decide_eq_false (fun hh => by omega)
    have hb : (12 : Int) < (n : Int) := by omega
    rw [e]
    go_enter Try.func13, Try.ntmps13
    go_wp2
    go_ret
    exact ⟨rfl, Below.refl _ _⟩
  · have hnb : ¬ (12 : Int) < (n : Int) := by omega
    go_enter Try.func13, Try.ntmps13
    go_wp2
    go_loopw [3] (fun v wr => ∃ i : Nat, i ≤ n ∧ v = .int .i64 (i : Int) ∧ Below w.heap.size w wr ∧ ∀ j, j < i → ln j ≠ 0 ∧ polOk (ln j) (f j) = true) (fun v _ => n - (intOf v).toNat)
    case atStart => exact ⟨0, Nat.zero_le _, rfl, Below.refl _ _, fun j hj => by omega⟩
    case round =>
      obtain ⟨i, hi, rfl, hB, hJ⟩ := hrel
      by_cases hlt : i < n
      · rcases HH.out.2.2.1 with h0 | ⟨b, off, rfl, hblt, hcl⟩
        · omega
        have hil : (i : Int) < (n : Int) := by omega
        have g0 : wr.cell? ⟨b, off + i, none⟩ = some (.slice (ad i) (ln i) (cp i)) := (hB.cell (p := ⟨b, off + i, none⟩) hblt).trans (hcl i hlt)
        have HG : Hid (∀ w', Below wr.heap.size wr w' → w'.cell? ⟨b, off + i, none⟩ = some (.slice (ad i) (ln i) (cp i))) := fun w' hb => (hb.cell (p := ⟨b, off + i, none⟩) (Nat.lt_of_lt_of_le hblt hB.size)).trans g0
        have HK := Hid.mk' ((HH.out.2.2.2 i hlt).below hB)
        have HB := Hid.mk' hB
        have HJ := Hid.mk' hJ
        clear hcl hB hJ
        cases hp : polOk (ln i) (f i)
        · have HE : Hid (lstOk n ln f = false) := decide_eq_false (fun hh => by have := (hh.2 i hlt).2; rw [hp] at this; cases this)
          go_wp2_with fail
          refine (polOkS _ _ _ _ (f i) HK.out).mono ?_
          rw [hp]
          rintro r w1 ⟨rfl, hb⟩
          have HB1 := Hid.mk' (bel_next HB.out hb)
          clear hb
          go_wp2
          go_ret
          exact ⟨congrArg (fun z => Ending.returned (Value.bool z)) HE.out.symm, HB1.out⟩
        · go_wp2_with fail
          refine (polOkS _ _ _ _ (f i) HK.out).mono ?_
          rw [hp]
          rintro r w1 ⟨rfl, hb⟩
          have HB1 := Hid.mk' (bel_next HB.out hb)
          have g1 := HG.out w1 hb
          clear hb g0
          by_cases h0 : ln i = 0
          · have HE : Hid (lstOk n ln f = false) := decide_eq_false (fun hh => (hh.2 i hlt).1 h0)
            have hz : ((ln i : Int) == 0) = true := by rw [h0]; rfl
            clear h0
            go_wp2
            go_ret
            exact ⟨congrArg (fun z => Ending.returned (Value.bool z)) HE.out.symm, HB1.out⟩
          · have hz : ((ln i : Int) == 0) = false := by rw [beq_eq_false_iff_ne]; omega
            have HZ := Hid.mk' h0
            clear h0
            go_wp2
            go_roundw
            case rel => exact ⟨i + 1, by omega, by go_num, HB1.out, fun j hj => by
              by_cases e : j = i
              · rw [e]; exact ⟨HZ.out, hp⟩
              · exact HJ.out j (by omega)⟩
            case measure => simp [intOf]; omega
      · have hnl : ¬ (i : Int) < (n : Int) := by omega
        have hie : i = n := by omega
        subst hie
        have HE : Hid (lstOk i ln f = true) := decide_eq_true ⟨by omega, hJ⟩
        have HB := Hid.mk' hB
        clear hB hJ
        go_wp2
        go_ret
        exact ⟨congrArg (fun z => Ending.returned (Value.bool z)) HE.out.symm, HB.out⟩
end Go.Proofs.Ytbkighpmkadmmaa
