/-
  An order, and an order with two operators, are drawn.
-/
import Derived.Test.YtbicmmbajknceaaGreatGax
import Derived.Test.YtbicmmbajknceaaGreatGbb
namespace Go.Proofs.YtbicmmbajknceaaGreat
open Go.RowKit
set_option linter.unusedVariables false

theorem lst11 (u : Int) (u0 : 0 ≤ u) (u1 : u < 11) : ∃ x, #[Value.int .i64 1, .int .i64 2, .int .i64 3, .int .i64 1, .int .i64 2, .int .i64 3, .int .i64 1, .int .i64 2, .int .i64 3, .int .i64 0, .int .i64 4][u.toNat]? = some (.int .i64 x) := by
  have hu : u = 0 ∨ u = 1 ∨ u = 2 ∨ u = 3 ∨ u = 4 ∨ u = 5 ∨ u = 6 ∨ u = 7 ∨ u = 8 ∨ u = 9 ∨ u = 10 := by omega
  rcases hu with rfl | rfl | rfl | rfl | rfl | rfl | rfl | rfl | rfl | rfl | rfl <;> exact ⟨_, rfl⟩
theorem order_any (w : World) (B p : Nat) (h : Rdr w B p) (hp : p ≤ 90000) :
    Calls Tryz.prog 77 #[.pointer (some ⟨B, 0, none⟩)] w fun e w' => ∃ x, e = .returned (.int .i64 x) ∧ Rdr w' B (p + 1) ∧ Beside B w w' := by
  have hB := h.lt
  go_enter Tryz.func77, Tryz.ntmps77
  go_wp2_with fail
  refine (pick_any _ B p 11 (h.alloc _) (by omega) (by omega) (by omega)).mono ?_
  rintro e w1 ⟨j, rfl, j0, j1, hk⟩
  obtain ⟨x, hx⟩ := lst11 j j0 j1
  have hc : w1.cell? ⟨w.heap.size, j.toNat, none⟩ = some (.int .i64 x) := by
    rw [hk.beside.cell (by simp) (by omega), World.cell?_alloc_at _ _ _ _ rfl]; exact hx
  have hr := hk.rdr (h.alloc _)
  have hb := (bes_alloc B w _).trans hk.beside
  clear hk hx h
  go_wp2
  go_ret
  exact ⟨_, rfl, hr, hb⟩
theorem off_of1 {pa : Option Addr} {m B N : Nat} (hblk : m = 0 ∨ ∃ g off, pa = some ⟨g, off, none⟩ ∧ N ≤ g) (hB : B < N) : m = 0 ∨ ∀ b off, pa = some ⟨b, off, none⟩ → b ≠ B := hblk.imp id (fun ⟨g, off, he, hg⟩ b off' hb => by rw [he] at hb; cases hb; omega)
set_option maxRecDepth 100000 in
set_option maxHeartbeats 4000000 in
theorem drawSprTerms (w : World) (a : Option Addr) (len cap : Nat) (h : Src w a len cap) :
    Calls Tryz.prog 33 #[.slice a len cap] w fun e w' => ∃ (o : Int) (a : Option Addr) (n ca : Nat) (f : Nat → T) (b : Option Addr) (m cb : Nat) (g : Nat → T), e = .returned (.tuple #[.int .i64 o, .slice a n ca, .slice b m cb]) ∧ Rd w' a n ca f ∧ Rd w' b m cb g ∧ n ≤ 5 ∧ m ≤ 5 ∧ Below w.heap.size w w' := by
  go_enter Tryz.func33, Tryz.ntmps33
  go_wp2_with fail
  refine (open_any _ _ _ _ h).mono ?_
  rintro e w1 ⟨rfl, hR1, b1⟩
  have hl1 := hR1.lt
  clear h
  go_wp2_with fail
  refine (order_any w1 _ _ hR1 (by omega)).mono ?_
  rintro e w2 ⟨o, rfl, hR2, s2⟩
  have b2 := s2.below b1 (Nat.le_refl _) (by omega)
  have hs2 := s2.size
  clear hR1 s2 b1
  go_wp2_with fail
  refine (any_any w2 _ _ 16 hR2 (by omega) (by omega) (by omega)).mono ?_
  rintro e w3 ⟨pa, n, pc, f, q, rfl, hrd, hm, hblk, hq, hR3, s3⟩
  have b3 := s3.below b2 (Nat.le_refl _) (by omega)
  have hne := off_of1 hblk (show w.heap.size < w2.heap.size by omega)
  have hs3 := s3.size
  clear hR2 s3 b2 hblk
  go_wp2_with fail
  refine (any_any w3 _ _ 16 hR3 (by omega) (by omega) (by omega)).mono ?_
  rintro e w4 ⟨pb, m, qc, g, q', rfl, hrd', hm', hblk', hq', hR4, s4⟩
  have b4 := s4.below b3 (Nat.le_refl _) (by omega)
  have hrd4 := hrd.beside s4 hne
  clear hR3 hR4 s4 b3 hrd hblk'
  go_wp2
  refine bodyPost_ret (v := .tuple #[.int .i64 o, .slice pa n pc, .slice pb m qc]) (by simp [results, Tryz.results33, go_sem, *]) rfl ?_
  exact ⟨o, pa, n, pc, f, pb, m, qc, g, rfl, hrd4, hrd', hm, hm', b4⟩
end Go.Proofs.YtbicmmbajknceaaGreat
