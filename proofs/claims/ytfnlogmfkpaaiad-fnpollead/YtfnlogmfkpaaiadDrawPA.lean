/-
  The draw of an operator and a monomial.
-/
import Derived.Test.YtfnlogmfkpaaiadAnys
import Derived.Deep.RegionWith
namespace Go.Proofs.Ytfnlogmfkpaaiad
open Go.RowKit
set_option linter.unusedVariables false

theorem Rd.setOther {w : World} {a : Option Addr} {n cap g o : Nat} {f : Nat → T} {v : Value} (h : Rd w a n cap f) (hne : n = 0 ∨ ∀ b off, a = some ⟨b, off, none⟩ → b ≠ g) : Rd (w.setCell ⟨g, o, none⟩ v) a n cap f :=
  h.grown (row := some g) ⟨rfl, rfl, rfl, by simp [World.setCell], fun k _ hk => Below.heap_setCell _ _ _ _ (fun e => hk (by rw [e]))⟩ (hne.imp id (fun k b off he hb => k b off he (by cases hb; rfl)))
theorem Rd.beside {w w' : World} {a : Option Addr} {n cap B : Nat} {f : Nat → T} (h : Rd w a n cap f) (hb : Beside B w w') (hne : n = 0 ∨ ∀ b off, a = some ⟨b, off, none⟩ → b ≠ B) : Rd w' a n cap f :=
  h.grown (beside_grown hb) (hne.imp id (fun k b off he hb => k b off he (by cases hb; rfl)))
set_option maxRecDepth 100000 in
set_option maxHeartbeats 4000000 in
theorem drawPolAt (w : World) (a : Option Addr) (len cap : Nat) (h : Src w a len cap) :
    Calls Try.prog 22 #[.slice a len cap] w fun e w' => ∃ (a : Option Addr) (m cap : Nat) (f : Nat → T) (x y d z : Int), e = .returned (.tuple #[.slice a m cap, .agg #[.int .i64 x, .int .i64 y, .int .i64 d, .int .i64 z]]) ∧ Rd w' a m cap f ∧ m ≤ 5 ∧ Below w.heap.size w w' := by
  have hb0 : Below w.heap.size w (w.alloc (.cells #[.int .i64 0, .int .i64 0, .int .i64 0, .int .i64 0] 36)) := (Below.refl _ _).alloc (Nat.le_refl _) _
  have hsz0 : (w.alloc (.cells #[.int .i64 0, .int .i64 0, .int .i64 0, .int .i64 0] 36)).heap.size > w.heap.size := by simp
  have wa := w4_new w 36
  have s0 := h.below hb0
  go_enter Try.func22, Try.ntmps22
  go_wp2_with fail
  generalize (w.alloc (.cells #[.int .i64 0, .int .i64 0, .int .i64 0, .int .i64 0] 36)) = W at hb0 hsz0 wa s0 ⊢
  refine (open_any _ _ _ _ s0).mono ?_
  rintro e w1 ⟨rfl, hR1, b1⟩
  have wa1 := wa.below b1 (by omega)
  have bz1 := hb0.trans (b1.mono hb0.size)
  have hl1 := hR1.lt
  have nB : w.heap.size ≠ W.heap.size := by omega
  clear h wa s0 b1 hb0
  go_wp2_with fail
  refine (any_any w1 _ 0 12 hR1 (by omega) (by omega) (by omega)).mono ?_
  rintro e w2 ⟨pa, m, pc, f, q2, rfl, hrd2, hm, hblk, hq2, hR2, s2⟩
  have hneB : m = 0 ∨ ∀ b off, pa = some ⟨b, off, none⟩ → b ≠ W.heap.size := hblk.imp id (fun ⟨g, off, he, hg⟩ b off' hb => by rw [he] at hb; cases hb; omega)
  have hneG : m = 0 ∨ ∀ b off, pa = some ⟨b, off, none⟩ → b ≠ w.heap.size := hblk.imp id (fun ⟨g, off, he, hg⟩ b off' hb => by rw [he] at hb; cases hb; omega)
  have HW2 := Hid.mk' (wa1.move s2 nB)
  have HB2 := Hid.mk' (s2.below bz1 (by omega) (by omega))
  have HRd2 := Hid.mk' hrd2
  have HR2 := Hid.mk' hR2
  have HNB := Hid.mk' hneB
  have HNG := Hid.mk' hneG
  have hs2 := s2.size
  have hm5 : (m : Int) ≤ 5 := by omega
  clear hrd2 hR2 hneB hneG s2 wa1 bz1 hblk hR1
  by_cases hm0 : m = 0
  · have hmb : ¬ (0 : Int) < (m : Int) := by omega
    have HM := Hid.mk' hm0
    clear hm0
    go_wp2_with fail
    refine (mon_any w2 _ _ 12 HR2.out (by omega) (by omega) (by omega)).mono ?_
    rintro e w3 ⟨x, y, d, z, q3, rfl, hq3, r3, s3⟩
    obtain ⟨⟨a0, a1, a2, a3, c0, c1, c2, c3⟩, f0, f1, f2, f3⟩ := HW2.out.move s3 nB
    have HB3 := Hid.mk' (s3.below HB2.out (by omega) (by omega))
    have HRd3 := Hid.mk' (HRd2.out.beside s3 HNB.out)
    clear r3 s3 HR2 HW2 HB2 HRd2
    go_wp2
    try simp only [Exit.inBlock, Exit.then]
    refine bodyPost_ret (v := .tuple #[.slice pa m pc, .agg #[.int .i64 x, .int .i64 y, .int .i64 d, .int .i64 z]]) (by simp [results, Try.results22, go_sem, *]) rfl ?_
    exact ⟨_, _, _, f, _, _, _, _, rfl, (((HRd3.out.setOther HNG.out).setOther HNG.out).setOther HNG.out).setOther HNG.out, hm, (((HB3.out.setCell (by simp) _).setCell (by simp) _).setCell (by simp) _).setCell (by simp) _⟩
  · have hmb : (0 : Int) < (m : Int) := by omega
    go_wp2_with fail
    refine (pick_any w2 _ _ 2 HR2.out (by omega) (by omega) (by omega)).mono ?_
    rintro e w3 ⟨v, rfl, v0, v1, hk⟩
    have HR3 := Hid.mk' (hk.rdr HR2.out)
    have HW3 := Hid.mk' (HW2.out.move hk.beside nB)
    have HB3 := Hid.mk' (hk.beside.below HB2.out (by omega) (by omega))
    have HRd3 := Hid.mk' (HRd2.out.beside hk.beside HNB.out)
    have hs3 := hk.beside.size
    clear hk HR2 HW2 HB2 HRd2
    by_cases hv : v = 0
    · subst hv
      rcases HRd3.out.2.2 with h0 | ⟨b, off, rfl, hblt, hcl⟩
      · exact absurd h0 hm0
      have hbB : b ≠ W.heap.size := (HNB.out.resolve_left hm0) b off rfl
      have hbG : b ≠ w.heap.size := (HNG.out.resolve_left hm0) b off rfl
      have HCL := Hid.mk' hcl
      clear hcl
      go_wp2_with fail
      go_region_with (go_at_call 46; refine (pick_any _ _ _ (m : Int) (by first | exact HR3.out | exact HR3.out.drewN 1) (by omega) (by omega) (by omega)).mono ?_; rintro e w4 ⟨x, rfl, x0, x1, hk⟩; obtain ⟨j, rfl⟩ := Int.eq_ofNat_of_zero_le x0; have s4 : Beside W.heap.size w3 w4 := ((Beside.refl _ _).drewN 1).trans hk.beside; obtain ⟨⟨a0, a1, a2, a3, c0, c1, c2, c3⟩, f0, f1, f2, f3⟩ := HW3.out.move s4 nB; have HB4 := Hid.mk' (s4.below HB3.out (by omega) (by omega)); have HRd4 := Hid.mk' (HRd3.out.beside s4 HNB.out); obtain ⟨g0, g1, g2, g3, g4⟩ := (HCL.out j (by omega)).same (s4.block b hblt hbB); clear s4 hk)
      all_goals
        go_wp2
        try simp only [Exit.inBlock, Exit.then]
        refine bodyPost_ret (v := .tuple #[.slice (some ⟨b, off, none⟩) m pc, .agg #[.int .i64 (f j).m.x, .int .i64 (f j).m.y, .int .i64 (f j).m.d, .int .i64 (f j).m.e]]) (by simp [results, Try.results22, go_sem, *]) rfl ?_
        exact ⟨_, _, _, f, _, _, _, _, rfl, (((HRd4.out.setOther HNG.out).setOther HNG.out).setOther HNG.out).setOther HNG.out, hm, (((HB4.out.setCell (by simp) _).setCell (by simp) _).setCell (by simp) _).setCell (by simp) _⟩
    · have hvb : (v == 0) = false := by simp [hv]
      go_wp2_with fail
      refine (mon_any w3 _ _ 12 HR3.out (by omega) (by omega) (by omega)).mono ?_
      rintro e w4 ⟨x, y, d, z, q3, rfl, hq3, r3, s3⟩
      obtain ⟨⟨a0, a1, a2, a3, c0, c1, c2, c3⟩, f0, f1, f2, f3⟩ := HW3.out.move s3 nB
      have HB4 := Hid.mk' (s3.below HB3.out (by omega) (by omega))
      have HRd4 := Hid.mk' (HRd3.out.beside s3 HNB.out)
      clear r3 s3 HR3 HW3 HB3 HRd3
      go_wp2
      try simp only [Exit.inBlock, Exit.then]
      refine bodyPost_ret (v := .tuple #[.slice pa m pc, .agg #[.int .i64 x, .int .i64 y, .int .i64 d, .int .i64 z]]) (by simp [results, Try.results22, go_sem, *]) rfl ?_
      exact ⟨_, _, _, f, _, _, _, _, rfl, (((HRd4.out.setOther HNG.out).setOther HNG.out).setOther HNG.out).setOther HNG.out, hm, (((HB4.out.setCell (by simp) _).setCell (by simp) _).setCell (by simp) _).setCell (by simp) _⟩
end Go.Proofs.Ytfnlogmfkpaaiad
