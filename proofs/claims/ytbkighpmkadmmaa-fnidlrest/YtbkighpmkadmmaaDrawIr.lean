/-
  Operators are drawn: a basis by the third order, or those of which it should be made (spec.DrawIdlRest); an order, operators and a side (spec.DrawIdlFlat).
-/
import Derived.Test.YtbkighpmkadmmaaHbt
namespace Go.Proofs.Ytbkighpmkadmmaa
open Go.RowKit Go.Deep Go.Joins
set_option linter.unusedVariables false

def IrD (w : World) (e : Ending) (w' : World) : Prop := ∃ (a : Option Addr) (n c : Nat) (ad : Nat → Option Addr) (cp : Nat → Nat) (L : Nat → List T), e = .returned (.slice a n c) ∧ RdS w' a n c ad (lN L) cp (fN L) ∧ n ≤ 12 ∧ Below w.heap.size w w'
set_option maxRecDepth 100000 in
set_option maxHeartbeats 4000000 in
theorem drawIdlRest (w : World) (a : Option Addr) (len cap : Nat) (h : Src w a len cap) :
    Calls Try.prog 9 #[.slice a len cap] w (IrD w) := by
  go_enter Try.func9, Try.ntmps9
  go_wp2_with fail
  refine (open_any _ _ _ _ h).mono ?_
  rintro e w1 ⟨rfl, hR1, b1⟩
  have hl1 := hR1.lt
  clear h
  go_wp2_with fail
  refine (list_any w1 _ _ 2 16 hR1 (by omega) (by omega) (by omega) (by omega) (by omega)).mono ?_
  rintro e w4 ⟨v, LS, q', rfl, ho, hlen, hE, hq', hR4, s4⟩
  obtain ⟨aa, ca, ada, cpa, L, rfl, hra⟩ := rso_list (B := w.heap.size) ho hE (by omega) (by omega) (by omega)
  have hs4 := s4.size
  have HB4 := Hid.mk' (s4.below b1 (Nat.le_refl _) (by omega))
  have HRA := Hid.mk' hra
  clear hR1 hR4 s4 hra ho hE b1
  go_wp2_with fail
  refine (grbMakeS w4 3 aa LS.length ca ada cpa L HRA.out.1 60).mono ?_
  have hm12 := grbMake_m (o := 3) (n := LS.length) (L := L) (fuel := 60)
  obtain ⟨X, d, hX⟩ : ∃ X d, grbMake 3 LS.length L 60 = (X, d) := ⟨_, _, rfl⟩
  rw [hX] at hm12 ⊢
  rintro e w5 ⟨tvL, tvP, LS5, PS5, rfl, hb5, hk5⟩
  have hm12' : X.m ≤ 12 := hm12
  obtain ⟨la, lc, lad, lcp, rfl, hrl⟩ := hk5.readL (show X.m ≤ 100 by omega)
  obtain ⟨pa, pc, pA, pC, pAD, pCP, rfl, _⟩ := hk5.readP (show X.m ≤ 100 by omega)
  have bx := bel_one w5 (.cells #[.slice la X.m lc, .slice pa X.m pc, .bool d] 71)
  have HRA6 := Hid.mk' ((HRA.out.1.below hb5).below bx)
  have HRL6 := Hid.mk' (hrl.below bx)
  have HB6 := Hid.mk' (bel_next (bel_next HB4.out hb5) bx)
  have HX6 := Hid.mk' (Own3.box w5 71 (.slice la X.m lc) (.slice pa X.m pc) (.bool d))
  clear HRA hb5 hk5 hrl hX hm12 bx HB4
  cases d
  · go_wp2
    refine bodyPost_ret (results_tmp rfl _ _ _) rfl ?_
    exact ⟨aa, LS.length, ca, ada, cpa, L, rfl, HRA6.out, by omega, HB6.out⟩
  · go_wp2
    refine bodyPost_ret (results_tmp rfl _ _ _) rfl ?_
    exact ⟨la, X.m, lc, lad, lcp, X.L, rfl, HRL6.out, hm12', HB6.out⟩
end Go.Proofs.Ytbkighpmkadmmaa
