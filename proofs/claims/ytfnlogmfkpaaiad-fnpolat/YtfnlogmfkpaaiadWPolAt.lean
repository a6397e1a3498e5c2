/-
  The walk of FnPolAt: whatever the code, it comes out true, and nothing that was there is turned.
-/
import Derived.Test.YtfnlogmfkpaaiadDrawPA
import Derived.Test.YtfnlogmfkpaaiadPolI2
import Derived.Test.YtfnlogmfkpaaiadLawM
namespace Go.Proofs.Ytfnlogmfkpaaiad
open Go.RowKit
set_option linter.unusedVariables false

def hasT (f : Nat → T) (m : M) : Nat → Bool
  | 0 => false
  | k + 1 => hasT f m k || (f k).m.eqB m
theorem hasT_no {f : Nat → T} {m : M} : ∀ {n : Nat}, hasT f m n = false → ∀ j, j < n → (f j).m.eqB m = false
  | 0, _, j, hj => absurd hj (Nat.not_lt_zero _)
  | n + 1, h, j, hj => by
    simp only [hasT, Bool.or_eq_false_iff] at h
    by_cases hjn : j = n
    · rw [hjn]; exact h.2
    · exact hasT_no h.1 j (by omega)
theorem hasT_yes {f : Nat → T} {m : M} : ∀ {n : Nat}, hasT f m n = true → ∃ j, j < n ∧ (f j).m.eqB m = true
  | 0, h => by simp [hasT] at h
  | n + 1, h => by
    simp only [hasT, Bool.or_eq_true] at h
    rcases h with h | h
    · obtain ⟨j, hj, he⟩ := hasT_yes h
      exact ⟨j, by omega, he⟩
    · exact ⟨n, by omega, h⟩
theorem at_none {f : Nat → T} {m : M} : ∀ (u k : Nat), (∀ j, k ≤ j → j < k + u → (f j).m.eqB m = false) → atFrom f m u k = 0
  | 0, _, _ => rfl
  | u + 1, k, h => by
    rw [atFrom, if_neg (by rw [h k (Nat.le_refl _) (by omega)]; simp)]
    exact at_none u (k + 1) (fun j h1 h2 => h j (by omega) (by omega))
theorem at_found {f : Nat → T} {m : M} : ∀ (u k : Nat), (∃ j, k ≤ j ∧ j < k + u ∧ (f j).m.eqB m = true) → ∃ j, j < k + u ∧ atFrom f m u k = (f j).c
  | 0, k, ⟨j, h1, h2, _⟩ => by omega
  | u + 1, k, ⟨j, h1, h2, h3⟩ => by
    rw [atFrom]
    split
    · exact ⟨k, by omega, rfl⟩
    · rename_i hne
      have : j ≠ k := fun e => by rw [e] at h3; exact hne h3
      obtain ⟨i, hi, he⟩ := at_found u (k + 1) ⟨j, by omega, by omega, h3⟩
      exact ⟨i, by omega, he⟩
theorem polAt_no {f : Nat → T} {n : Nat} {m : M} (h : hasT f m n = false) : polAt f n m = 0 := at_none n 0 (fun j _ hj => hasT_no h j (by omega))
theorem polAt_yes {f : Nat → T} {n : Nat} {m : M} (h : hasT f m n = true) (ho : polOk n f = true) : polAt f n m ≠ 0 := by
  obtain ⟨j, hj, he⟩ := hasT_yes h
  obtain ⟨i, hi, h2⟩ := at_found (f := f) (m := m) n 0 ⟨j, by omega, by omega, he⟩
  rw [polAt, h2]
  simp only [polOk, decide_eq_true_eq] at ho
  have := ho.2 i (by omega)
  simp only [okAt, Bool.and_eq_true, decide_eq_true_eq] at this
  omega
set_option maxRecDepth 100000 in
set_option maxHeartbeats 8000000 in
theorem walk_FnPolAt (w : World) (a0 : Option Addr) (len0 cap0 : Nat) (s0 : Src w a0 len0 cap0) :
    Calls Try.prog 5 #[.slice a0 len0 cap0] w fun e w' => e = .returned (.bool true) ∧ Below w.heap.size w w' := by
  by_cases c0 : (1048576 : Int) < (len0 : Int)
  · go_enter Try.func5, Try.ntmps5
    go_wp2
    go_ret
    exact ⟨rfl, Below.refl _ _⟩
  go_enter Try.func5, Try.ntmps5
  go_wp2_with fail
  refine (drawPolAt _ _ _ _ s0).mono ?_
  rintro e w1 ⟨pa, n, pc, f, x, y, d, z, rfl, hrd, hn, b1⟩
  have HR1 := Hid.mk' hrd
  have HB1 := Hid.mk' b1
  clear s0 hrd b1
  go_wp2_with fail
  have HR2 := Hid.mk' (HR1.out.below (bel_one w1 (.cells #[.int .i64 x, .int .i64 y, .int .i64 d, .int .i64 z] 36)))
  have HB2 := Hid.mk' (bel_next HB1.out (bel_one w1 (.cells #[.int .i64 x, .int .i64 y, .int .i64 d, .int .i64 z] 36)))
  have HM2 := Hid.mk' (M4.box w1 36 x y d z)
  clear HR1 HB1
  generalize (w1.alloc (.cells #[.int .i64 x, .int .i64 y, .int .i64 d, .int .i64 z] 36)) = w2 at HR2 HB2 HM2 ⊢
  obtain ⟨c, hc⟩ : ∃ c, polAt f n ⟨x, y, d, z⟩ = c := ⟨_, rfl⟩
  refine (polAtI _ _ _ _ f _ _ _ _ HR2.out).mono ?_
  rw [hc]
  rintro e w3 ⟨rfl, b3⟩
  have HR3 := Hid.mk' (HR2.out.below b3)
  have HB3 := Hid.mk' (bel_next HB2.out b3)
  have HM3 := Hid.mk' (HM2.out.below b3)
  clear b3 HR2 HB2 HM2
  obtain ⟨k0, k1, k2, k3⟩ := HM3.out
  go_wp2_with fail
  clear k0 k1 k2 k3
  refine (polAtS _ _ _ _ f _ _ _ _ HR3.out).mono ?_
  rw [hc]
  rintro e w4 ⟨rfl, b4⟩
  have HR4 := Hid.mk' (HR3.out.below b4)
  have HB4 := Hid.mk' (bel_next HB3.out b4)
  have HM4 := Hid.mk' (HM3.out.below b4)
  have HCC := Hid.mk' hc
  have hcc : (c != c) = false := by simp
  clear b4 HR3 HB3 HM3 hc
  have hn5 : (n : Int) ≤ 5 := by omega
  go_wp2
  go_loopw [6, 7] (fun hv i wr => ∃ k : Nat, k ≤ n ∧ i = .int .i64 k ∧ hv = .bool (hasT f ⟨x, y, d, z⟩ k) ∧ Below w.heap.size w wr ∧ M4 wr w1.heap.size x y d z ∧ Rd wr pa n pc f) (fun _ i _ => n - (intOf i).toNat)
  case atStart => exact ⟨0, Nat.zero_le _, rfl, rfl, HB4.out, HM4.out, HR4.out⟩
  case round =>
    obtain ⟨k, hk, rfl, rfl, hB, hM, hR⟩ := hrel
    have HM := Hid.mk' hM
    have HR := Hid.mk' hR
    by_cases hlt : k < n
    · have hkn : (k : Int) < (n : Int) := by omega
      rcases hR.2.2 with h0 | ⟨b, off, rfl, hblt, hcl⟩
      · omega
      obtain ⟨g0, g1, g2, g3, g4⟩ := hcl k hlt
      obtain ⟨k0, k1, k2, k3⟩ := hM
      clear hcl hR
      cases hh : hasT f ⟨x, y, d, z⟩ k
      · skip
        by_cases hx : (f k).m.x = x
        · skip
          by_cases hy : (f k).m.y = y
          · skip
            by_cases hd : (f k).m.d = d
            · skip
              by_cases hz : (f k).m.e = z
              · skip
                have HN : Hid (hasT f ⟨x, y, d, z⟩ (k + 1) = true) := by show _ = _; simp [hasT, M.eqB, hx, hy, hd, hz]
                clear hh
                go_wp2_with fail
                go_quiet (fail)
                go_wp2
                go_roundw
                case rel => exact ⟨k + 1, by omega, by go_num, by rw [HN.out], below_drewN hB _, HM.out.below (below_drewN (Below.refl _ _) _), HR.out.below (below_drewN (Below.refl _ _) _)⟩
                case measure => simp [intOf]; omega
              · skip
                have HN : Hid (hasT f ⟨x, y, d, z⟩ (k + 1) = false) := by show _ = _; simp [hasT, hh, M.eqB, hz]
                clear hh
                go_wp2_with fail
                go_quiet (fail)
                go_wp2
                go_roundw
                case rel => exact ⟨k + 1, by omega, by go_num, by rw [HN.out], below_drewN hB _, HM.out.below (below_drewN (Below.refl _ _) _), HR.out.below (below_drewN (Below.refl _ _) _)⟩
                case measure => simp [intOf]; omega
            · skip
              have HN : Hid (hasT f ⟨x, y, d, z⟩ (k + 1) = false) := by show _ = _; simp [hasT, hh, M.eqB, hd]
              clear hh
              go_wp2_with fail
              go_quiet (fail)
              go_wp2
              go_roundw
              case rel => exact ⟨k + 1, by omega, by go_num, by rw [HN.out], below_drewN hB _, HM.out.below (below_drewN (Below.refl _ _) _), HR.out.below (below_drewN (Below.refl _ _) _)⟩
              case measure => simp [intOf]; omega
          · skip
            have HN : Hid (hasT f ⟨x, y, d, z⟩ (k + 1) = false) := by show _ = _; simp [hasT, hh, M.eqB, hy]
            clear hh
            go_wp2_with fail
            go_quiet (fail)
            go_wp2
            go_roundw
            case rel => exact ⟨k + 1, by omega, by go_num, by rw [HN.out], below_drewN hB _, HM.out.below (below_drewN (Below.refl _ _) _), HR.out.below (below_drewN (Below.refl _ _) _)⟩
            case measure => simp [intOf]; omega
        · skip
          have HN : Hid (hasT f ⟨x, y, d, z⟩ (k + 1) = false) := by show _ = _; simp [hasT, hh, M.eqB, hx]
          clear hh
          go_wp2_with fail
          go_quiet (fail)
          go_wp2
          go_roundw
          case rel => exact ⟨k + 1, by omega, by go_num, by rw [HN.out], below_drewN hB _, HM.out.below (below_drewN (Below.refl _ _) _), HR.out.below (below_drewN (Below.refl _ _) _)⟩
          case measure => simp [intOf]; omega
      · have HN : Hid (hasT f ⟨x, y, d, z⟩ (k + 1) = true) := by show _ = _; simp [hasT, hh]
        clear hh
        go_wp2_with fail
        go_quiet (fail)
        go_wp2
        go_roundw
        case rel => exact ⟨k + 1, by omega, by go_num, by rw [HN.out], below_drewN hB _, HM.out.below (below_drewN (Below.refl _ _) _), HR.out.below (below_drewN (Below.refl _ _) _)⟩
        case measure => simp [intOf]; omega
    · obtain rfl : k = n := by omega
      clear hM hR
      have hfin : polAt (fun _ => ⟨1, 0, 0, 0, 0⟩) 1 ⟨0, 0, 0, 0⟩ = 1 := by decide
      cases hh : hasT f ⟨x, y, d, z⟩ k
      · have hz0 : c = 0 := by rw [← HCC.out]; exact polAt_no hh
        subst hz0
        cases hp : polOk k f
        all_goals
          go_wp2_with fail
          refine (polOkS _ _ _ _ f HR.out).mono ?_
          rw [hp]
          rintro e w5 ⟨rfl, b5⟩
          have HB5 := Hid.mk' (bel_next hB b5)
          clear b5
          go_wp2_with fail
          refine (heOneT _).mono ?_
          rintro e w6 ⟨rfl, rfl⟩
          have HB6 := Hid.mk' (bel_next HB5.out (bel_one w5 (.cells #[.int .i64 1, .int .i64 0, .int .i64 0, .int .i64 0, .int .i64 0] 38)))
          have hro := rd_one w5 ⟨1, ⟨0, 0, 0, 0⟩⟩
          generalize (w5.alloc (.cells #[.int .i64 1, .int .i64 0, .int .i64 0, .int .i64 0, .int .i64 0] 38)) = w6 at HB6 hro ⊢
          go_wp2_with fail
          refine (polAtI _ _ _ _ _ _ _ _ _ hro).mono ?_
          rw [hfin]
          rintro e w7 ⟨rfl, b7⟩
          have HB7 := Hid.mk' (bel_next HB6.out b7)
          clear b7 hro
          go_wp2
          go_ret
          exact ⟨rfl, HB7.out⟩
      · cases hp : polOk k f
        · go_wp2_with fail
          refine (polOkS _ _ _ _ f HR.out).mono ?_
          rw [hp]
          rintro e w5 ⟨rfl, b5⟩
          have HB5 := Hid.mk' (bel_next hB b5)
          clear b5
          go_wp2_with fail
          refine (heOneT _).mono ?_
          rintro e w6 ⟨rfl, rfl⟩
          have HB6 := Hid.mk' (bel_next HB5.out (bel_one w5 (.cells #[.int .i64 1, .int .i64 0, .int .i64 0, .int .i64 0, .int .i64 0] 38)))
          have hro := rd_one w5 ⟨1, ⟨0, 0, 0, 0⟩⟩
          generalize (w5.alloc (.cells #[.int .i64 1, .int .i64 0, .int .i64 0, .int .i64 0, .int .i64 0] 38)) = w6 at HB6 hro ⊢
          go_wp2_with fail
          refine (polAtI _ _ _ _ _ _ _ _ _ hro).mono ?_
          rw [hfin]
          rintro e w7 ⟨rfl, b7⟩
          have HB7 := Hid.mk' (bel_next HB6.out b7)
          clear b7 hro
          go_wp2
          go_ret
          exact ⟨rfl, HB7.out⟩
        · have hcn : (c != 0) = true := by have := polAt_yes hh hp; rw [HCC.out] at this; simpa using this
          go_wp2_with fail
          refine (polOkS _ _ _ _ f HR.out).mono ?_
          rw [hp]
          rintro e w5 ⟨rfl, b5⟩
          have HB5 := Hid.mk' (bel_next hB b5)
          clear b5
          go_wp2_with fail
          refine (heOneT _).mono ?_
          rintro e w6 ⟨rfl, rfl⟩
          have HB6 := Hid.mk' (bel_next HB5.out (bel_one w5 (.cells #[.int .i64 1, .int .i64 0, .int .i64 0, .int .i64 0, .int .i64 0] 38)))
          have hro := rd_one w5 ⟨1, ⟨0, 0, 0, 0⟩⟩
          generalize (w5.alloc (.cells #[.int .i64 1, .int .i64 0, .int .i64 0, .int .i64 0, .int .i64 0] 38)) = w6 at HB6 hro ⊢
          go_wp2_with fail
          refine (polAtI _ _ _ _ _ _ _ _ _ hro).mono ?_
          rw [hfin]
          rintro e w7 ⟨rfl, b7⟩
          have HB7 := Hid.mk' (bel_next HB6.out b7)
          clear b7 hro
          go_wp2
          go_ret
          exact ⟨rfl, HB7.out⟩
end Go.Proofs.Ytfnlogmfkpaaiad
