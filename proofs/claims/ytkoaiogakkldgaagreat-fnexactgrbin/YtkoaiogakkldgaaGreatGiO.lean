/-
  GrbIn: the program and the model.
-/
import Derived.Test.YtkoaiogakkldgaaGreatRaO
namespace Go.Proofs.YtkoaiogakkldgaaGreat
open Go.RowKit Go.Deep Go.Joins Go.Maps
set_option linter.unusedVariables false

/-- whether nothing is left. -/
def gin (R : Option Dv) : Bool := R.isSome && decide ((resL R).length = 0)
set_option maxRecDepth 100000 in
set_option maxHeartbeats 4000000 in
theorem grbInI (w : World) (o : Int) (pa : Option Addr) (pc : Nat) (p : List T) (a : Option Addr) (n cap : Nat) (ad : Nat → Option Addr) (ln cp : Nat → Nat) (f : Nat → Nat → T) (hp : RL w pa pc p) (h : RdS w a n cap ad ln cp f) {R : Option Dv} (hR : redAll o p n ln f = R) :
    Calls Tryz.prog 18 #[.int .i64 o, .slice a n cap, .slice pa p.length pc] w fun r w' => r = .returned (.tuple #[.bool (gin R), .bool R.isSome]) ∧ Below w.heap.size w w' := by
  have HC := Hid.mk' (redAllI' w o pa pc p a n cap ad ln cp f hp h hR)
  have hbd := (res_bd (o := o) (p := p) (n := n) (ln := ln) (f := f)).2.2
  rw [hR] at hbd
  clear hp h hR
  cases R with
  | none =>
    go_enter Tryz.func18, Tryz.ntmps18
    go_wp2_with fail
    refine HC.out.mono ?_
    rintro r w1 ⟨qa, qc, ad', cp', Rb, B, la, lc, mid, rfl, hb, _⟩
    have HB := Hid.mk' hb
    simp only [Option.isSome]
    clear hb HC
    go_wp2
    refine bodyPost_ret (results_tmp2 rfl _ _ _) rfl ?_
    exact ⟨rfl, HB.out⟩
  | some S =>
    have hl : (S.r.length : Int) ≤ 300 := by have : S.r.length ≤ 300 := hbd; omega
    by_cases h0 : S.r.length = 0
    · have hi : ((S.r.length : Int) == 0) = true := by simpa using h0
      have HG : Hid (gin (some S) = true) := by show gin (some S) = true; simp [gin, resL, h0]
      clear h0
      go_enter Tryz.func18, Tryz.ntmps18
      go_wp2_with fail
      refine HC.out.mono ?_
      rintro r w1 ⟨qa, qc, ad', cp', Rb, B, la, lc, mid, rfl, hb, _⟩
      have HB := Hid.mk' hb
      simp only [Option.isSome, resL]
      clear hb HC
      go_wp2
      refine bodyPost_ret (results_tmp2 rfl _ _ _) rfl ?_
      rw [HG.out]
      exact ⟨rfl, HB.out⟩
    · have hi : ((S.r.length : Int) == 0) = false := by simpa using h0
      have HG : Hid (gin (some S) = false) := by show gin (some S) = false; simp [gin, resL, h0]
      clear h0
      go_enter Tryz.func18, Tryz.ntmps18
      go_wp2_with fail
      refine HC.out.mono ?_
      rintro r w1 ⟨qa, qc, ad', cp', Rb, B, la, lc, mid, rfl, hb, _⟩
      have HB := Hid.mk' hb
      simp only [Option.isSome, resL]
      clear hb HC
      go_wp2
      refine bodyPost_ret (results_tmp2 rfl _ _ _) rfl ?_
      rw [HG.out]
      exact ⟨rfl, HB.out⟩
set_option maxRecDepth 100000 in
set_option maxHeartbeats 4000000 in
theorem grbInS (w : World) (o : Int) (pa : Option Addr) (pc : Nat) (p : List T) (a : Option Addr) (n cap : Nat) (ad : Nat → Option Addr) (ln cp : Nat → Nat) (f : Nat → Nat → T) (hp : RL w pa pc p) (h : RdS w a n cap ad ln cp f) {R : Option Dv} (hR : redAll o p n ln f = R) :
    Calls Tryz.prog 17 #[.int .i64 o, .slice a n cap, .slice pa p.length pc] w fun r w' => r = .returned (.tuple #[.bool (gin R), .bool R.isSome]) ∧ Below w.heap.size w w' := by
  have HC := Hid.mk' (redAllS w o pa pc p a n cap ad ln cp f hp h hR)
  have hbd := (res_bd (o := o) (p := p) (n := n) (ln := ln) (f := f)).2.2
  rw [hR] at hbd
  clear hp h hR
  cases R with
  | none =>
    go_enter Tryz.func17, Tryz.ntmps17
    go_wp2_with fail
    refine HC.out.mono ?_
    rintro r w1 ⟨qa, qc, ad', cp', ra, rc, rfl, hb, _⟩
    have HB := Hid.mk' hb
    simp only [Option.isSome]
    clear hb HC
    go_wp2
    refine bodyPost_ret (results_tmp2 rfl _ _ _) rfl ?_
    exact ⟨rfl, HB.out⟩
  | some S =>
    have hl : (S.r.length : Int) ≤ 300 := by have : S.r.length ≤ 300 := hbd; omega
    by_cases h0 : S.r.length = 0
    · have hi : ((S.r.length : Int) == 0) = true := by simpa using h0
      have HG : Hid (gin (some S) = true) := by show gin (some S) = true; simp [gin, resL, h0]
      clear h0
      go_enter Tryz.func17, Tryz.ntmps17
      go_wp2_with fail
      refine HC.out.mono ?_
      rintro r w1 ⟨qa, qc, ad', cp', ra, rc, rfl, hb, _⟩
      have HB := Hid.mk' hb
      simp only [Option.isSome, resL]
      clear hb HC
      go_wp2
      refine bodyPost_ret (results_tmp2 rfl _ _ _) rfl ?_
      rw [HG.out]
      exact ⟨rfl, HB.out⟩
    · have hi : ((S.r.length : Int) == 0) = false := by simpa using h0
      have HG : Hid (gin (some S) = false) := by show gin (some S) = false; simp [gin, resL, h0]
      clear h0
      go_enter Tryz.func17, Tryz.ntmps17
      go_wp2_with fail
      refine HC.out.mono ?_
      rintro r w1 ⟨qa, qc, ad', cp', ra, rc, rfl, hb, _⟩
      have HB := Hid.mk' hb
      simp only [Option.isSome, resL]
      clear hb HC
      go_wp2
      refine bodyPost_ret (results_tmp2 rfl _ _ _) rfl ?_
      rw [HG.out]
      exact ⟨rfl, HB.out⟩
end Go.Proofs.YtkoaiogakkldgaaGreat
