/-
  More of the program's chapter 3: the number of a monomial, whether operators are the same, whether one has no slopes, so many times an operator.
-/
import Derived.Test.YtfnlogmfkpaaiadPolI
import Derived.Test.YtfnlogmfkpaaiadOpenM
namespace Go.Proofs.Ytfnlogmfkpaaiad
open Go.RowKit
set_option linter.unusedVariables false

theorem s4c_below {w w' : World} {b : Nat} {x y d e : Int} (hb : Below w.heap.size w w') (h : w.cell? ⟨b, 0, none⟩ = some (.int .i64 x) ∧ w.cell? ⟨b, 1, none⟩ = some (.int .i64 y) ∧ w.cell? ⟨b, 2, none⟩ = some (.int .i64 d) ∧ w.cell? ⟨b, 3, none⟩ = some (.int .i64 e)) :
    w'.cell? ⟨b, 0, none⟩ = some (.int .i64 x) ∧ w'.cell? ⟨b, 1, none⟩ = some (.int .i64 y) ∧ w'.cell? ⟨b, 2, none⟩ = some (.int .i64 d) ∧ w'.cell? ⟨b, 3, none⟩ = some (.int .i64 e) := M4.below h hb
theorem polOf_len (c : Int) (m : M) : (polOf c m).length ≤ 400 := by
  unfold polOf; split <;> simp
theorem polScale_len (c : Int) (f : Nat → T) (n : Nat) : (polScale c f n).length ≤ 400 := by
  unfold polScale; split
  · rename_i h; rw [scT_len]; exact (polOk_c h.2.1).1
  · simp
set_option maxRecDepth 100000 in
set_option maxHeartbeats 4000000 in
theorem polAtI (w : World) (a : Option Addr) (n cap : Nat) (f : Nat → T) (x y d e : Int) (h : Rd w a n cap f) :
    Calls Try.prog 21 #[.slice a n cap, .agg #[.int .i64 x, .int .i64 y, .int .i64 d, .int .i64 e]] w fun r w' => r = .returned (.int .i64 (polAt f n ⟨x, y, d, e⟩)) ∧ Below w.heap.size w w' := by
  obtain ⟨h1, h2, h3⟩ := h
  have hn : (n : Int) ≤ 140737488351232 := by omega
  go_enter Try.func21, Try.ntmps21
  go_wp2
  go_loopw [9] (fun i wr => ∃ (k : Nat), k ≤ n ∧ i = .int .i64 k ∧ Below w.heap.size w wr ∧ M4 wr w.heap.size x y d e ∧ Hid (polAt f n ⟨x, y, d, e⟩ = atFrom f ⟨x, y, d, e⟩ (n - k) k)) (fun i _ => n - (intOf i).toNat)
  case atStart => exact ⟨0, Nat.zero_le _, rfl, bel_one w _, M4.box w _ x y d e, rfl⟩
  case round =>
    obtain ⟨k, hk, rfl, hB, hM, HL⟩ := hrel
    by_cases hlt : k < n
    · rcases h3 with h0 | ⟨b, off, rfl, hblt, hcl⟩
      · omega
      have hkn : (k : Int) < (n : Int) := by omega
      have hbr : b < wr.heap.size := Nat.lt_of_lt_of_le hblt hB.size
      have hwr : w.heap.size < wr.heap.size := hM.lt
      obtain ⟨g0, g1, g2, g3, g4⟩ := (hcl k hlt).below hB hblt
      obtain ⟨m0, m1, m2, m3⟩ := hM
      have HBW : Hid (∀ (o : Obj), Below w.heap.size w (wr.alloc o)) := fun o => hB.alloc hB.size o
      have HMW : Hid (∀ (o : Obj), M4 (wr.alloc o) w.heap.size x y d e) := fun o => (M4.below (w := wr) ⟨m0, m1, m2, m3⟩ ((Below.refl _ _).alloc (Nat.le_refl _) o))
      clear hcl
      by_cases hx : (f k).m.x = x
      · skip
        by_cases hy : (f k).m.y = y
        · skip
          by_cases hd : (f k).m.d = d
          · skip
            by_cases he : (f k).m.e = e
            · skip
              have hq : (f k).m.eqB ⟨x, y, d, e⟩ = true := by simp [M.eqB, hx, hy, hd, he]
              have HN : Hid (polAt f n ⟨x, y, d, e⟩ = (f k).c) := by
                show _ = _
                rw [HL.out, show n - k = (n - (k + 1)) + 1 by omega, atFrom, hq]; rfl
              clear hq HL
              go_wp2
              go_ret
              exact ⟨ret_int HN.out.symm, HBW.out _⟩
            · skip
              have hq : (f k).m.eqB ⟨x, y, d, e⟩ = false := by simp [M.eqB, he]
              have HN : Hid (polAt f n ⟨x, y, d, e⟩ = atFrom f ⟨x, y, d, e⟩ (n - (k + 1)) (k + 1)) := by
                show _ = _
                rw [HL.out, show n - k = (n - (k + 1)) + 1 by omega, atFrom, hq]; rfl
              clear hq HL
              go_wp2
              go_roundw
              case rel => exact ⟨k + 1, by omega, by go_num, HBW.out _, HMW.out _, HN⟩
              case measure => simp [intOf]; omega
          · skip
            have hq : (f k).m.eqB ⟨x, y, d, e⟩ = false := by simp [M.eqB, hd]
            have HN : Hid (polAt f n ⟨x, y, d, e⟩ = atFrom f ⟨x, y, d, e⟩ (n - (k + 1)) (k + 1)) := by
              show _ = _
              rw [HL.out, show n - k = (n - (k + 1)) + 1 by omega, atFrom, hq]; rfl
            clear hq HL
            go_wp2
            go_roundw
            case rel => exact ⟨k + 1, by omega, by go_num, HBW.out _, HMW.out _, HN⟩
            case measure => simp [intOf]; omega
        · skip
          have hq : (f k).m.eqB ⟨x, y, d, e⟩ = false := by simp [M.eqB, hy]
          have HN : Hid (polAt f n ⟨x, y, d, e⟩ = atFrom f ⟨x, y, d, e⟩ (n - (k + 1)) (k + 1)) := by
            show _ = _
            rw [HL.out, show n - k = (n - (k + 1)) + 1 by omega, atFrom, hq]; rfl
          clear hq HL
          go_wp2
          go_roundw
          case rel => exact ⟨k + 1, by omega, by go_num, HBW.out _, HMW.out _, HN⟩
          case measure => simp [intOf]; omega
      · skip
        have hq : (f k).m.eqB ⟨x, y, d, e⟩ = false := by simp [M.eqB, hx]
        have HN : Hid (polAt f n ⟨x, y, d, e⟩ = atFrom f ⟨x, y, d, e⟩ (n - (k + 1)) (k + 1)) := by
          show _ = _
          rw [HL.out, show n - k = (n - (k + 1)) + 1 by omega, atFrom, hq]; rfl
        clear hq HL
        go_wp2
        go_roundw
        case rel => exact ⟨k + 1, by omega, by go_num, HBW.out _, HMW.out _, HN⟩
        case measure => simp [intOf]; omega
    · go_wp2
      go_ret
      refine ⟨ret_int ?_, hB⟩
      rw [HL.out, show n - k = 0 by omega]; rfl
set_option maxRecDepth 100000 in
set_option maxHeartbeats 4000000 in
theorem polSameS (w : World) (a a' : Option Addr) (n cap n' cap' : Nat) (f f' : Nat → T) (h : Rd w a n cap f) (h' : Rd w a' n' cap' f') :
    Calls Try.prog 27 #[.slice a n cap, .slice a' n' cap'] w fun r w' => r = .returned (.bool (termsEq n f n' f')) ∧ Below w.heap.size w w' := by
  obtain ⟨h1, h2, h3⟩ := h
  obtain ⟨h1', h2', h3'⟩ := h'
  have hn : (n : Int) ≤ 140737488351232 := by omega
  have hn' : (n' : Int) ≤ 140737488351232 := by omega
  by_cases hnn : n = n'
  · subst hnn
    go_enter Try.func27, Try.ntmps27
    go_wp2
    go_loopw [5] (fun i wr => ∃ (k : Nat), k ≤ n ∧ i = .int .i64 k ∧ Below w.heap.size w wr ∧ Hid (∀ j, j < k → (f j).eqB (f' j) = true)) (fun i _ => n - (intOf i).toNat)
    case atStart => exact ⟨0, Nat.zero_le _, rfl, Below.refl _ _, fun j hj => absurd hj (Nat.not_lt_zero _)⟩
    case round =>
      obtain ⟨k, hk, rfl, hB, hok⟩ := hrel
      by_cases hlt : k < n
      · rcases h3 with h0 | ⟨b, off, rfl, hblt, hcl⟩
        · omega
        rcases h3' with h0 | ⟨b', off', rfl, hblt', hcl'⟩
        · omega
        have hkn : (k : Int) < (n : Int) := by omega
        obtain ⟨g0, g1, g2, g3, g4⟩ := (hcl k hlt).below hB hblt
        obtain ⟨p0, p1, p2, p3, p4⟩ := (hcl' k hlt).below hB hblt'
        clear hcl hcl'
        by_cases hc : (f k).c = (f' k).c
        · skip
          by_cases hx : (f k).m.x = (f' k).m.x
          · skip
            by_cases hy : (f k).m.y = (f' k).m.y
            · skip
              by_cases hd : (f k).m.d = (f' k).m.d
              · skip
                by_cases he : (f k).m.e = (f' k).m.e
                · skip
                  have HN : Hid (∀ j, j < k + 1 → (f j).eqB (f' j) = true) := fun j hj => by
                    by_cases hjk : j = k
                    · rw [hjk]; simp [T.eqB, M.eqB, hc, hx, hy, hd, he]
                    · exact hok.out j (by omega)
                  clear hok
                  go_wp2_with fail
                  go_quiet (fail)
                  go_wp2
                  go_roundw
                  case rel => exact ⟨k + 1, by omega, by go_num, below_drewN hB _, HN⟩
                  case measure => simp [intOf]; omega
                · skip
                  have HN : Hid (termsEq n f n f' = false) := by
                    show _ = _
                    simp only [termsEq, decide_eq_false_iff_not]
                    intro hh
                    have := hh.2 k hlt
                    simp [T.eqB, M.eqB, he] at this
                  clear hok
                  go_wp2_with fail
                  go_quiet (fail)
                  go_wp2
                  go_ret
                  exact ⟨by rw [HN.out]; rfl, below_drewN hB _⟩
              · skip
                have HN : Hid (termsEq n f n f' = false) := by
                  show _ = _
                  simp only [termsEq, decide_eq_false_iff_not]
                  intro hh
                  have := hh.2 k hlt
                  simp [T.eqB, M.eqB, hd] at this
                clear hok
                go_wp2_with fail
                go_quiet (fail)
                go_wp2
                go_ret
                exact ⟨by rw [HN.out]; rfl, below_drewN hB _⟩
            · skip
              have HN : Hid (termsEq n f n f' = false) := by
                show _ = _
                simp only [termsEq, decide_eq_false_iff_not]
                intro hh
                have := hh.2 k hlt
                simp [T.eqB, M.eqB, hy] at this
              clear hok
              go_wp2_with fail
              go_quiet (fail)
              go_wp2
              go_ret
              exact ⟨by rw [HN.out]; rfl, below_drewN hB _⟩
          · skip
            have HN : Hid (termsEq n f n f' = false) := by
              show _ = _
              simp only [termsEq, decide_eq_false_iff_not]
              intro hh
              have := hh.2 k hlt
              simp [T.eqB, M.eqB, hx] at this
            clear hok
            go_wp2_with fail
            go_quiet (fail)
            go_wp2
            go_ret
            exact ⟨by rw [HN.out]; rfl, below_drewN hB _⟩
        · skip
          have HN : Hid (termsEq n f n f' = false) := by
            show _ = _
            simp only [termsEq, decide_eq_false_iff_not]
            intro hh
            have := hh.2 k hlt
            simp [T.eqB, M.eqB, hc] at this
          clear hok
          go_wp2_with fail
          go_quiet (fail)
          go_wp2
          go_ret
          exact ⟨by rw [HN.out]; rfl, below_drewN hB _⟩
      · have HP : Hid (termsEq n f n f' = true) := by
          show _ = _
          simp only [termsEq, decide_eq_true_eq]
          exact ⟨trivial, fun i hi => hok.out i (by omega)⟩
        clear hok
        go_wp2
        go_ret
        exact ⟨by rw [HP.out]; rfl, hB⟩
  · have hp : termsEq n f n' f' = false := by
      simp only [termsEq, decide_eq_false_iff_not]
      exact fun h => hnn h.1
    rw [hp]
    have hb : ((n : Int) != (n' : Int)) = true := by simp; omega
    clear hp
    go_enter Try.func27, Try.ntmps27
    go_wp2
    go_ret
    exact ⟨rfl, Below.refl _ _⟩
set_option maxRecDepth 100000 in
set_option maxHeartbeats 4000000 in
theorem slicesEqual (w : World) (a a' : Option Addr) (n cap n' cap' : Nat) (f f' : Nat → T) (h : Rd w a n cap f) (h' : Rd w a' n' cap' f') :
    Calls Try.prog 48 #[.slice a n cap, .slice a' n' cap'] w fun r w' => r = .returned (.bool (termsEq n f n' f')) ∧ Below w.heap.size w w' := by
  obtain ⟨h1, h2, h3⟩ := h
  obtain ⟨h1', h2', h3'⟩ := h'
  have hn : (n : Int) ≤ 140737488351232 := by omega
  have hn' : (n' : Int) ≤ 140737488351232 := by omega
  by_cases hnn : n = n'
  · subst hnn
    go_enter Try.func48, Try.ntmps48
    go_wp2
    go_loopw [13] (fun i wr => ∃ (k : Nat), k ≤ n ∧ i = .int .i64 k ∧ Below w.heap.size w wr ∧ Hid (∀ j, j < k → (f j).eqB (f' j) = true)) (fun i _ => n - (intOf i).toNat)
    case atStart => exact ⟨0, Nat.zero_le _, rfl, Below.refl _ _, fun j hj => absurd hj (Nat.not_lt_zero _)⟩
    case round =>
      obtain ⟨k, hk, rfl, hB, hok⟩ := hrel
      by_cases hlt : k < n
      · rcases h3 with h0 | ⟨b, off, rfl, hblt, hcl⟩
        · omega
        rcases h3' with h0 | ⟨b', off', rfl, hblt', hcl'⟩
        · omega
        have hkn : (k : Int) < (n : Int) := by omega
        obtain ⟨g0, g1, g2, g3, g4⟩ := (hcl k hlt).below hB hblt
        obtain ⟨p0, p1, p2, p3, p4⟩ := (hcl' k hlt).below hB hblt'
        clear hcl hcl'
        by_cases hc : (f k).c = (f' k).c
        · skip
          by_cases hx : (f k).m.x = (f' k).m.x
          · skip
            by_cases hy : (f k).m.y = (f' k).m.y
            · skip
              by_cases hd : (f k).m.d = (f' k).m.d
              · skip
                by_cases he : (f k).m.e = (f' k).m.e
                · skip
                  have HN : Hid (∀ j, j < k + 1 → (f j).eqB (f' j) = true) := fun j hj => by
                    by_cases hjk : j = k
                    · rw [hjk]; simp [T.eqB, M.eqB, hc, hx, hy, hd, he]
                    · exact hok.out j (by omega)
                  clear hok
                  go_wp2_with fail
                  go_quiet (fail)
                  go_wp2
                  go_roundw
                  case rel => exact ⟨k + 1, by omega, by go_num, below_drewN hB _, HN⟩
                  case measure => simp [intOf]; omega
                · skip
                  have HN : Hid (termsEq n f n f' = false) := by
                    show _ = _
                    simp only [termsEq, decide_eq_false_iff_not]
                    intro hh
                    have := hh.2 k hlt
                    simp [T.eqB, M.eqB, he] at this
                  clear hok
                  go_wp2_with fail
                  go_quiet (fail)
                  go_wp2
                  go_ret
                  exact ⟨by rw [HN.out]; rfl, below_drewN hB _⟩
              · skip
                have HN : Hid (termsEq n f n f' = false) := by
                  show _ = _
                  simp only [termsEq, decide_eq_false_iff_not]
                  intro hh
                  have := hh.2 k hlt
                  simp [T.eqB, M.eqB, hd] at this
                clear hok
                go_wp2_with fail
                go_quiet (fail)
                go_wp2
                go_ret
                exact ⟨by rw [HN.out]; rfl, below_drewN hB _⟩
            · skip
              have HN : Hid (termsEq n f n f' = false) := by
                show _ = _
                simp only [termsEq, decide_eq_false_iff_not]
                intro hh
                have := hh.2 k hlt
                simp [T.eqB, M.eqB, hy] at this
              clear hok
              go_wp2_with fail
              go_quiet (fail)
              go_wp2
              go_ret
              exact ⟨by rw [HN.out]; rfl, below_drewN hB _⟩
          · skip
            have HN : Hid (termsEq n f n f' = false) := by
              show _ = _
              simp only [termsEq, decide_eq_false_iff_not]
              intro hh
              have := hh.2 k hlt
              simp [T.eqB, M.eqB, hx] at this
            clear hok
            go_wp2_with fail
            go_quiet (fail)
            go_wp2
            go_ret
            exact ⟨by rw [HN.out]; rfl, below_drewN hB _⟩
        · skip
          have HN : Hid (termsEq n f n f' = false) := by
            show _ = _
            simp only [termsEq, decide_eq_false_iff_not]
            intro hh
            have := hh.2 k hlt
            simp [T.eqB, M.eqB, hc] at this
          clear hok
          go_wp2_with fail
          go_quiet (fail)
          go_wp2
          go_ret
          exact ⟨by rw [HN.out]; rfl, below_drewN hB _⟩
      · have HP : Hid (termsEq n f n f' = true) := by
          show _ = _
          simp only [termsEq, decide_eq_true_eq]
          exact ⟨trivial, fun i hi => hok.out i (by omega)⟩
        clear hok
        go_wp2
        go_ret
        exact ⟨by rw [HP.out]; rfl, hB⟩
  · have hp : termsEq n f n' f' = false := by
      simp only [termsEq, decide_eq_false_iff_not]
      exact fun h => hnn h.1
    rw [hp]
    have hb : ((n : Int) != (n' : Int)) = true := by simp; omega
    clear hp
    go_enter Try.func48, Try.ntmps48
    go_wp2
    go_ret
    exact ⟨rfl, Below.refl _ _⟩
theorem polSameI (w : World) (a a' : Option Addr) (n cap n' cap' : Nat) (f f' : Nat → T) (h : Rd w a n cap f) (h' : Rd w a' n' cap' f') :
    Calls Try.prog 26 #[.slice a n cap, .slice a' n' cap'] w fun r w' => r = .returned (.bool (termsEq n f n' f')) ∧ Below w.heap.size w w' := by
  have H := Hid.mk' h
  have H' := Hid.mk' h'
  clear h h'
  go_enter Try.func26, Try.ntmps26
  go_wp2_with fail
  refine (slicesEqual _ _ _ _ _ _ _ f f' H.out H'.out).mono ?_
  rintro r w1 ⟨rfl, hb⟩
  go_wp2
  go_ret
  exact ⟨rfl, hb⟩
end Go.Proofs.Ytfnlogmfkpaaiad
