/-
  The draw of a number and a monomial.
-/
import Derived.Test.YtfnlogmfkpaaiacDrawMon2
namespace Go.Proofs.Ytfnlogmfkpaaiac
open Go.RowKit
set_option linter.unusedVariables false

set_option maxRecDepth 100000 in
set_option maxHeartbeats 1000000 in
theorem drawPolOf (w : World) (a : Option Addr) (len cap : Nat) (h : Src w a len cap) :
    Calls Try.prog 20 #[.slice a len cap] w fun e w' => ∃ c x y d z, e = .returned (.tuple #[.int .i64 c, .agg #[.int .i64 x, .int .i64 y, .int .i64 d, .int .i64 z]]) ∧ Below w.heap.size w w' := by
  have hb0 : Below w.heap.size w (w.alloc (.cells #[.int .i64 0, .int .i64 0, .int .i64 0, .int .i64 0] 24)) := (Below.refl _ _).alloc (Nat.le_refl _) _
  have hsz0 : (w.alloc (.cells #[.int .i64 0, .int .i64 0, .int .i64 0, .int .i64 0] 24)).heap.size > w.heap.size := by simp
  have wa := w4_new w 24
  have s0 := h.below hb0
  go_enter Try.func20, Try.ntmps20
  go_wp2_with fail
  generalize (w.alloc (.cells #[.int .i64 0, .int .i64 0, .int .i64 0, .int .i64 0] 24)) = W at hb0 hsz0 wa s0 ⊢
  refine (open_any _ _ _ _ s0).mono ?_
  rintro e w1 ⟨rfl, hR1, b1⟩
  have wa1 := wa.below b1 (by omega)
  have bz1 := hb0.trans (b1.mono hb0.size)
  have hl1 := hR1.lt
  have nB : w.heap.size ≠ W.heap.size := by omega
  clear h wa s0 b1 hb0
  go_wp2_with fail
  refine (num_any w1 _ _ 6 hR1 (by omega) (by omega) (by omega)).mono ?_
  rintro e w2 ⟨c, q, rfl, hq, r2, s2⟩
  have wa2 := wa1.move s2 nB
  have bz2 := s2.below bz1 (by omega) (by omega)
  have hs2 := s2.size
  clear hR1 wa1 bz1 s2
  go_wp2_with fail
  refine (mon_any w2 _ _ 6 r2 (by omega) (by omega) (by omega)).mono ?_
  rintro e w3 ⟨x, y, d, z, q', rfl, hq', r3, s3⟩
  obtain ⟨⟨a0, a1, a2, a3, c0, c1, c2, c3⟩, f0, f1, f2, f3⟩ := wa2.move s3 nB
  have bz3 := s3.below bz2 (by omega) (by omega)
  clear r2 r3 s3 wa2 bz2
  go_wp2
  try simp only [Exit.inBlock, Exit.then]
  refine bodyPost_ret (v := .tuple #[.int .i64 c, .agg #[.int .i64 x, .int .i64 y, .int .i64 d, .int .i64 z]]) (by simp [results, Try.results20, go_sem, *]) rfl ?_
  exact ⟨_, _, _, _, _, rfl, (((bz3.setCell (by simp) _).setCell (by simp) _).setCell (by simp) _).setCell (by simp) _⟩
end Go.Proofs.Ytfnlogmfkpaaiac
