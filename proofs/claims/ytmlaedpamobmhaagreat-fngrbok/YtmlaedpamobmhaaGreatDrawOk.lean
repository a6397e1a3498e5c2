/-
  An order and a basis, or but some operators, are drawn (spec.DrawGrbOk and the like).
-/
import Derived.Test.YtmlaedpamobmhaaGreatDrawBs
namespace Go.Proofs.YtmlaedpamobmhaaGreat
open Go.RowKit Go.Deep Go.Joins
set_option linter.unusedVariables false

def GokD (w : World) (e : Ending) (w' : World) : Prop := ∃ (o : Int) (a : Option Addr) (n c : Nat) (ad : Nat → Option Addr) (cp : Nat → Nat) (L : Nat → List T), e = .returned (.tuple #[.int .i64 o, .slice a n c]) ∧ RdS w' a n c ad (lN L) cp (fN L) ∧ n ≤ 12 ∧ Below w.heap.size w w'
set_option maxRecDepth 100000 in
set_option maxHeartbeats 4000000 in
theorem drawGrbOk (w : World) (a : Option Addr) (len cap : Nat) (h : Src w a len cap) :
    Calls Tryz.prog 18 #[.slice a len cap] w (GokD w) := by
  go_enter Tryz.func18, Tryz.ntmps18
  go_wp2_with fail
  refine (open_any _ _ _ _ h).mono ?_
  rintro e w1 ⟨rfl, hR1, b1⟩
  have hl1 := hR1.lt
  clear h
  go_wp2_with fail
  refine (base_any w1 _ _ hR1 (by omega)).mono ?_
  rintro e w2 ⟨o, la, n, lc, lad, lcp, L, q2, rfl, hr2, hn12, hq2, hR2, s2⟩
  have b2 := s2.below b1 (Nat.le_refl _) (by omega)
  have HL2 := Hid.mk' hr2
  have HB2 := Hid.mk' b2
  clear hR1 s2 b1 hr2 b2 hR2
  go_wp2
  refine bodyPost_ret (v := .tuple #[.int .i64 o, .slice la n lc]) (by simp [results, Tryz.results18, go_sem, *]) rfl ?_
  exact ⟨o, la, n, lc, lad, lcp, L, rfl, HL2.out.1, hn12, HB2.out⟩
end Go.Proofs.YtmlaedpamobmhaaGreat
