/-
  An order, operators and a side (spec.DrawIdlFlat).
-/
import Derived.Test.YtbkighpmkadmmaaGbt
namespace Go.Proofs.Ytbkighpmkadmmaa
open Go.RowKit Go.Deep Go.Joins
set_option linter.unusedVariables false

def IfD (w : World) (e : Ending) (w' : World) : Prop := ∃ (o : Int) (a : Option Addr) (n c : Nat) (ad : Nat → Option Addr) (cp : Nat → Nat) (L : Nat → List T) (s : Int), e = .returned (.tuple #[.int .i64 o, .slice a n c, .int .i64 s]) ∧ RdS w' a n c ad (lN L) cp (fN L) ∧ n ≤ 12 ∧ (-1 ≤ s ∧ s ≤ 7) ∧ Below w.heap.size w w'
theorem lst6 (u : Int) (u0 : 0 ≤ u) (u1 : u < 6) : ∃ x : Int, #[Value.int .i64 2, .int .i64 3, .int .i64 4, .int .i64 0, .int .i64 7, .int .i64 (-1)][u.toNat]? = some (.int .i64 x) ∧ -1 ≤ x ∧ x ≤ 7 := by
  have hu : u = 0 ∨ u = 1 ∨ u = 2 ∨ u = 3 ∨ u = 4 ∨ u = 5 := by omega
  rcases hu with rfl | rfl | rfl | rfl | rfl | rfl <;> exact ⟨_, rfl, by omega, by omega⟩
set_option maxRecDepth 100000 in
set_option maxHeartbeats 4000000 in
theorem drawIdlFlat (w : World) (a : Option Addr) (len cap : Nat) (h : Src w a len cap) :
    Calls Try.prog 16 #[.slice a len cap] w (IfD w) := by
  go_enter Try.func16, Try.ntmps16
  go_wp2_with fail
  refine (open_any _ _ _ _ h).mono ?_
  rintro e w1 ⟨rfl, hR1, b1⟩
  have hl1 := hR1.lt
  clear h
  go_wp2_with fail
  refine (base_any w1 _ _ hR1 (by omega)).mono ?_
  rintro e w2 ⟨o, la, n, lc, lad, lcp, L, q2, rfl, hr2, hn12, hq2, hR2, s2⟩
  have b2 := s2.below b1 (Nat.le_refl _) (by omega)
  have hs2 := s2.size
  have HL2 := Hid.mk' hr2
  have HR2 := Hid.mk' hR2
  have HB2 := Hid.mk' b2
  clear hR1 s2 b1 hr2 hR2 b2
  go_wp2_with fail
  go_region_with (first
    | (go_at_call 48; refine (pick_any _ _ _ _ (HR2.out.drewN 1) (by omega) (by omega) (by omega)).mono ?_; rintro e w3 ⟨u, rfl, u0, u1, k3⟩; have HL3 := Hid.mk' ((HL2.out.below (Below.refl _ _).drew).beside k3.beside); have HB3 := Hid.mk' (k3.beside.below HB2.out.drew (Nat.le_refl _) (show w.heap.size ≤ w2.heap.size by omega)); obtain ⟨x, hx, x1, x2⟩ := lst6 u u0 u1; have hw3 : w3.heap.size = w3.heap.size := rfl; have hcx : (w3.alloc (.cells #[.int .i64 2, .int .i64 3, .int .i64 4, .int .i64 0, .int .i64 7, .int .i64 (-1)] 3)).cell? ⟨w3.heap.size, u.toNat, none⟩ = some (.int .i64 x) := (by rw [World.cell?_alloc_at _ _ _ _ rfl]; exact hx); clear k3 hx hw3)
    | (go_at_call 48; refine (pick_any _ _ _ _ ((HR2.out.alloc _).drewN 1) (by omega) (by omega) (by omega)).mono ?_; rintro e w3 ⟨u, rfl, u0, u1, k3⟩; have HL3 := Hid.mk' (((HL2.out.below (bel_one _ _)).below (Below.refl _ _).drew).beside k3.beside); have HB3 := Hid.mk' (k3.beside.below (HB2.out.alloc HB2.out.size _).drew (Nat.le_refl _) (HB2.out.alloc HB2.out.size _).size); obtain ⟨x, hx, x1, x2⟩ := lst6 u u0 u1; have hcx : w3.cell? ⟨w2.heap.size, u.toNat, none⟩ = some (.int .i64 x) := (by rw [k3.beside.cell (by simp [World.drewN]) (by omega)]; show (w2.alloc _).cell? _ = _; rw [World.cell?_alloc_at _ _ _ _ rfl]; exact hx); clear k3 hx))
  all_goals
    go_wp2
    refine bodyPost_ret (v := .tuple #[.int .i64 o, .slice la n lc, .int .i64 x]) (by simp [results, Try.results16, go_sem, *]) rfl ?_
    first
      | exact ⟨o, la, n, lc, lad, lcp, L, x, rfl, HL3.out.1, hn12, ⟨x1, x2⟩, HB3.out⟩
      | exact ⟨o, la, n, lc, lad, lcp, L, x, rfl, (HL3.out.below (bel_one _ _)).1, hn12, ⟨x1, x2⟩, HB3.out.alloc HB3.out.size _⟩
end Go.Proofs.Ytbkighpmkadmmaa
