/-
  More of the program's chapter 3: the number of a monomial, whether operators are the same, whether one has no slopes, so many times an operator.
  More of the program's chapter 3: whether an operator has no slopes, so many times an operator.
  The laws' own look whether operators are the same.
-/
import Derived.Test.YtddfpjjeoojlmaaGar
import Derived.Test.YtddfpjjeoojlmaaGac
import Derived.Deep.RegionHeld3
namespace Go.Proofs.Ytddfpjjeoojlmaa
open Go.RowKit
set_option linter.unusedVariables false

theorem s4c_below {w w' : World} {b : Nat} {x y d e : Int} (hb : Below w.heap.size w w') (h : w.cell? ⟨b, 0, none⟩ = some (.int .i64 x) ∧ w.cell? ⟨b, 1, none⟩ = some (.int .i64 y) ∧ w.cell? ⟨b, 2, none⟩ = some (.int .i64 d) ∧ w.cell? ⟨b, 3, none⟩ = some (.int .i64 e)) :
    w'.cell? ⟨b, 0, none⟩ = some (.int .i64 x) ∧ w'.cell? ⟨b, 1, none⟩ = some (.int .i64 y) ∧ w'.cell? ⟨b, 2, none⟩ = some (.int .i64 d) ∧ w'.cell? ⟨b, 3, none⟩ = some (.int .i64 e) := M4.below h hb
theorem polOf_len (c : Int) (m : M) : (polOf c m).length ≤ 400 := by
  unfold polOf; split <;> simp
theorem polScale_len (c : Int) (f : Nat → T) (n : Nat) : (polScale c f n).length ≤ 400 := by
  unfold polScale; split
  · rename_i h; rw [scT_len]; exact (polOk_c h.2.1).1
  · simp
set_option maxRecDepth 100000 in
set_option maxHeartbeats 4000000 in
theorem polAtI (w : World) (a : Option Addr) (n cap : Nat) (f : Nat → T) (x y d e : Int) (h : Rd w a n cap f) :
    Calls Try.prog 15 #[.slice a n cap, .agg #[.int .i64 x, .int .i64 y, .int .i64 d, .int .i64 e]] w fun r w' => r = .returned (.int .i64 (polAt f n ⟨x, y, d, e⟩)) ∧ Below w.heap.size w w' := by
  obtain ⟨h1, h2, h3⟩ := h
  have hn : (n : Int) ≤ 140737488351232 := by omega
  go_enter Try.func15, Try.ntmps15
  go_wp2
  go_loopw [9] (fun i wr => ∃ (k : Nat), k ≤ n ∧ i = .int .i64 k ∧ Below w.heap.size w wr ∧ M4 wr w.heap.size x y d e ∧ Hid (polAt f n ⟨x, y, d, e⟩ = atFrom f ⟨x, y, d, e⟩ (n - k) k)) (fun i _ => n - (intOf i).toNat)
  case atStart => exact ⟨0, Nat.zero_le _, rfl, bel_one w _, M4.box w _ x y d e, rfl⟩
  case round =>
    obtain ⟨k, hk, rfl, hB, hM, HL⟩ := hrel
    by_cases hlt : k < n
    · rcases h3 with h0 | ⟨b, off, rfl, hblt, hcl⟩
      · omega
      have hkn : (k : Int) < (n : Int) := by omega
      have hbr : b < wr.heap.size := Nat.lt_of_lt_of_le hblt hB.size
      have hwr : w.heap.size < wr.heap.size := hM.lt
      obtain ⟨g0, g1, g2, g3, g4⟩ := (hcl k hlt).below hB hblt
      obtain ⟨m0, m1, m2, m3⟩ := hM
      have HBW : Hid (∀ (o : Obj), Below w.heap.size w (wr.alloc o)) := fun o => hB.alloc hB.size o
      have HMW : Hid (∀ (o : Obj), M4 (wr.alloc o) w.heap.size x y d e) := fun o => (M4.below (w := wr) ⟨m0, m1, m2, m3⟩ ((Below.refl _ _).alloc (Nat.le_refl _) o))
      clear hcl
      by_cases hx : (f k).m.x = x
      · skip
        by_cases hy : (f k).m.y = y
        · skip
          by_cases hd : (f k).m.d = d
          · skip
            by_cases he : (f k).m.e = e
            · skip
              have hq : (f k).m.eqB ⟨x, y, d, e⟩ = true := by simp [M.eqB, hx, hy, hd, he]
              have HN : Hid (polAt f n ⟨x, y, d, e⟩ = (f k).c) := by
                show _ = _
                rw [HL.out, show n - k = (n - (k + 1)) + 1 by omega, atFrom, hq]; rfl
              clear hq HL
              go_wp2
              go_ret
              exact ⟨ret_int HN.out.symm, HBW.out _⟩
            · skip
              have hq : (f k).m.eqB ⟨x, y, d, e⟩ = false := by simp [M.eqB, he]
              have HN : Hid (polAt f n ⟨x, y, d, e⟩ = atFrom f ⟨x, y, d, e⟩ (n - (k + 1)) (k + 1)) := by
                show _ = _
                rw [HL.out, show n - k = (n - (k + 1)) + 1 by omega, atFrom, hq]; rfl
              clear hq HL
              go_wp2
              go_roundw
              case rel => exact ⟨k + 1, by omega, by go_num, HBW.out _, HMW.out _, HN⟩
              case measure => simp [intOf]; omega
          · skip
            have hq : (f k).m.eqB ⟨x, y, d, e⟩ = false := by simp [M.eqB, hd]
            have HN : Hid (polAt f n ⟨x, y, d, e⟩ = atFrom f ⟨x, y, d, e⟩ (n - (k + 1)) (k + 1)) := by
              show _ = _
              rw [HL.out, show n - k = (n - (k + 1)) + 1 by omega, atFrom, hq]; rfl
            clear hq HL
            go_wp2
            go_roundw
            case rel => exact ⟨k + 1, by omega, by go_num, HBW.out _, HMW.out _, HN⟩
            case measure => simp [intOf]; omega
        · skip
          have hq : (f k).m.eqB ⟨x, y, d, e⟩ = false := by simp [M.eqB, hy]
          have HN : Hid (polAt f n ⟨x, y, d, e⟩ = atFrom f ⟨x, y, d, e⟩ (n - (k + 1)) (k + 1)) := by
            show _ = _
            rw [HL.out, show n - k = (n - (k + 1)) + 1 by omega, atFrom, hq]; rfl
          clear hq HL
          go_wp2
          go_roundw
          case rel => exact ⟨k + 1, by omega, by go_num, HBW.out _, HMW.out _, HN⟩
          case measure => simp [intOf]; omega
      · skip
        have hq : (f k).m.eqB ⟨x, y, d, e⟩ = false := by simp [M.eqB, hx]
        have HN : Hid (polAt f n ⟨x, y, d, e⟩ = atFrom f ⟨x, y, d, e⟩ (n - (k + 1)) (k + 1)) := by
          show _ = _
          rw [HL.out, show n - k = (n - (k + 1)) + 1 by omega, atFrom, hq]; rfl
        clear hq HL
        go_wp2
        go_roundw
        case rel => exact ⟨k + 1, by omega, by go_num, HBW.out _, HMW.out _, HN⟩
        case measure => simp [intOf]; omega
    · go_wp2
      go_ret
      refine ⟨ret_int ?_, hB⟩
      rw [HL.out, show n - k = 0 by omega]; rfl
set_option maxRecDepth 100000 in
set_option maxHeartbeats 4000000 in
theorem polSameS (w : World) (a a' : Option Addr) (n cap n' cap' : Nat) (f f' : Nat → T) (h : Rd w a n cap f) (h' : Rd w a' n' cap' f') :
    Calls Try.prog 28 #[.slice a n cap, .slice a' n' cap'] w fun r w' => r = .returned (.bool (termsEq n f n' f')) ∧ Below w.heap.size w w' := by
  obtain ⟨h1, h2, h3⟩ := h
  obtain ⟨h1', h2', h3'⟩ := h'
  have hn : (n : Int) ≤ 140737488351232 := by omega
  have hn' : (n' : Int) ≤ 140737488351232 := by omega
  by_cases hnn : n = n'
  · subst hnn
    go_enter Try.func28, Try.ntmps28
    go_wp2
    go_loopw [5] (fun i wr => ∃ (k : Nat), k ≤ n ∧ i = .int .i64 k ∧ Below w.heap.size w wr ∧ Hid (∀ j, j < k → (f j).eqB (f' j) = true)) (fun i _ => n - (intOf i).toNat)
    case atStart => exact ⟨0, Nat.zero_le _, rfl, Below.refl _ _, fun j hj => absurd hj (Nat.not_lt_zero _)⟩
    case round =>
      obtain ⟨k, hk, rfl, hB, hok⟩ := hrel
      by_cases hlt : k < n
      · rcases h3 with h0 | ⟨b, off, rfl, hblt, hcl⟩
        · omega
        rcases h3' with h0 | ⟨b', off', rfl, hblt', hcl'⟩
        · omega
        have hkn : (k : Int) < (n : Int) := by omega
        obtain ⟨g0, g1, g2, g3, g4⟩ := (hcl k hlt).below hB hblt
        obtain ⟨p0, p1, p2, p3, p4⟩ := (hcl' k hlt).below hB hblt'
        clear hcl hcl'
        by_cases hc : (f k).c = (f' k).c
        · skip
          by_cases hx : (f k).m.x = (f' k).m.x
          · skip
            by_cases hy : (f k).m.y = (f' k).m.y
            · skip
              by_cases hd : (f k).m.d = (f' k).m.d
              · skip
                by_cases he : (f k).m.e = (f' k).m.e
                · skip
                  have HN : Hid (∀ j, j < k + 1 → (f j).eqB (f' j) = true) := fun j hj => by
                    by_cases hjk : j = k
                    · rw [hjk]; simp [T.eqB, M.eqB, hc, hx, hy, hd, he]
                    · exact hok.out j (by omega)
                  clear hok
                  go_wp2_with fail
                  go_quiet (fail)
                  go_wp2
                  go_roundw
                  case rel => exact ⟨k + 1, by omega, by go_num, below_drewN hB _, HN⟩
                  case measure => simp [intOf]; omega
                · skip
                  have HN : Hid (termsEq n f n f' = false) := by
                    show _ = _
                    simp only [termsEq, decide_eq_false_iff_not]
                    intro hh
                    have := hh.2 k hlt
                    simp [T.eqB, M.eqB, he] at this
                  clear hok
                  go_wp2_with fail
                  go_quiet (fail)
                  go_wp2
                  go_ret
                  exact ⟨by rw [HN.out]; rfl, below_drewN hB _⟩
              · skip
                have HN : Hid (termsEq n f n f' = false) := by
                  show _ = _
                  simp only [termsEq, decide_eq_false_iff_not]
                  intro hh
                  have := hh.2 k hlt
                  simp [T.eqB, M.eqB, hd] at this
                clear hok
                go_wp2_with fail
                go_quiet (fail)
                go_wp2
                go_ret
                exact ⟨by rw [HN.out]; rfl, below_drewN hB _⟩
            · skip
              have HN : Hid (termsEq n f n f' = false) := by
                show _ = _
                simp only [termsEq, decide_eq_false_iff_not]
                intro hh
                have := hh.2 k hlt
                simp [T.eqB, M.eqB, hy] at this
              clear hok
              go_wp2_with fail
              go_quiet (fail)
              go_wp2
              go_ret
              exact ⟨by rw [HN.out]; rfl, below_drewN hB _⟩
          · skip
            have HN : Hid (termsEq n f n f' = false) := by
              show _ = _
              simp only [termsEq, decide_eq_false_iff_not]
              intro hh
              have := hh.2 k hlt
              simp [T.eqB, M.eqB, hx] at this
            clear hok
            go_wp2_with fail
            go_quiet (fail)
            go_wp2
            go_ret
            exact ⟨by rw [HN.out]; rfl, below_drewN hB _⟩
        · skip
          have HN : Hid (termsEq n f n f' = false) := by
            show _ = _
            simp only [termsEq, decide_eq_false_iff_not]
            intro hh
            have := hh.2 k hlt
            simp [T.eqB, M.eqB, hc] at this
          clear hok
          go_wp2_with fail
          go_quiet (fail)
          go_wp2
          go_ret
          exact ⟨by rw [HN.out]; rfl, below_drewN hB _⟩
      · have HP : Hid (termsEq n f n f' = true) := by
          show _ = _
          simp only [termsEq, decide_eq_true_eq]
          exact ⟨trivial, fun i hi => hok.out i (by omega)⟩
        clear hok
        go_wp2
        go_ret
        exact ⟨by rw [HP.out]; rfl, hB⟩
  · have hp : termsEq n f n' f' = false := by
      simp only [termsEq, decide_eq_false_iff_not]
      exact fun h => hnn h.1
    rw [hp]
    have hb : ((n : Int) != (n' : Int)) = true := by simp; omega
    clear hp
    go_enter Try.func28, Try.ntmps28
    go_wp2
    go_ret
    exact ⟨rfl, Below.refl _ _⟩
set_option maxRecDepth 100000 in
set_option maxHeartbeats 4000000 in
theorem slicesEqual (w : World) (a a' : Option Addr) (n cap n' cap' : Nat) (f f' : Nat → T) (h : Rd w a n cap f) (h' : Rd w a' n' cap' f') :
    Calls Try.prog 51 #[.slice a n cap, .slice a' n' cap'] w fun r w' => r = .returned (.bool (termsEq n f n' f')) ∧ Below w.heap.size w w' := by
  obtain ⟨h1, h2, h3⟩ := h
  obtain ⟨h1', h2', h3'⟩ := h'
  have hn : (n : Int) ≤ 140737488351232 := by omega
  have hn' : (n' : Int) ≤ 140737488351232 := by omega
  by_cases hnn : n = n'
  · subst hnn
    go_enter Try.func51, Try.ntmps51
    go_wp2
    go_loopw [13] (fun i wr => ∃ (k : Nat), k ≤ n ∧ i = .int .i64 k ∧ Below w.heap.size w wr ∧ Hid (∀ j, j < k → (f j).eqB (f' j) = true)) (fun i _ => n - (intOf i).toNat)
    case atStart => exact ⟨0, Nat.zero_le _, rfl, Below.refl _ _, fun j hj => absurd hj (Nat.not_lt_zero _)⟩
    case round =>
      obtain ⟨k, hk, rfl, hB, hok⟩ := hrel
      by_cases hlt : k < n
      · rcases h3 with h0 | ⟨b, off, rfl, hblt, hcl⟩
        · omega
        rcases h3' with h0 | ⟨b', off', rfl, hblt', hcl'⟩
        · omega
        have hkn : (k : Int) < (n : Int) := by omega
        obtain ⟨g0, g1, g2, g3, g4⟩ := (hcl k hlt).below hB hblt
        obtain ⟨p0, p1, p2, p3, p4⟩ := (hcl' k hlt).below hB hblt'
        clear hcl hcl'
        by_cases hc : (f k).c = (f' k).c
        · skip
          by_cases hx : (f k).m.x = (f' k).m.x
          · skip
            by_cases hy : (f k).m.y = (f' k).m.y
            · skip
              by_cases hd : (f k).m.d = (f' k).m.d
              · skip
                by_cases he : (f k).m.e = (f' k).m.e
                · skip
                  have HN : Hid (∀ j, j < k + 1 → (f j).eqB (f' j) = true) := fun j hj => by
                    by_cases hjk : j = k
                    · rw [hjk]; simp [T.eqB, M.eqB, hc, hx, hy, hd, he]
                    · exact hok.out j (by omega)
                  clear hok
                  go_wp2_with fail
                  go_quiet (fail)
                  go_wp2
                  go_roundw
                  case rel => exact ⟨k + 1, by omega, by go_num, below_drewN hB _, HN⟩
                  case measure => simp [intOf]; omega
                · skip
                  have HN : Hid (termsEq n f n f' = false) := by
                    show _ = _
                    simp only [termsEq, decide_eq_false_iff_not]
                    intro hh
                    have := hh.2 k hlt
                    simp [T.eqB, M.eqB, he] at this
                  clear hok
                  go_wp2_with fail
                  go_quiet (fail)
                  go_wp2
                  go_ret
                  exact ⟨by rw [HN.out]; rfl, below_drewN hB _⟩
              · skip
                have HN : Hid (termsEq n f n f' = false) := by
                  show _ = _
                  simp only [termsEq, decide_eq_false_iff_not]
                  intro hh
                  have := hh.2 k hlt
                  simp [T.eqB, M.eqB, hd] at this
                clear hok
                go_wp2_with fail
                go_quiet (fail)
                go_wp2
                go_ret
                exact ⟨by rw [HN.out]; rfl, below_drewN hB _⟩
            · skip
              have HN : Hid (termsEq n f n f' = false) := by
                show _ = _
                simp only [termsEq, decide_eq_false_iff_not]
                intro hh
                have := hh.2 k hlt
                simp [T.eqB, M.eqB, hy] at this
              clear hok
              go_wp2_with fail
              go_quiet (fail)
              go_wp2
              go_ret
              exact ⟨by rw [HN.out]; rfl, below_drewN hB _⟩
          · skip
            have HN : Hid (termsEq n f n f' = false) := by
              show _ = _
              simp only [termsEq, decide_eq_false_iff_not]
              intro hh
              have := hh.2 k hlt
              simp [T.eqB, M.eqB, hx] at this
            clear hok
            go_wp2_with fail
            go_quiet (fail)
            go_wp2
            go_ret
            exact ⟨by rw [HN.out]; rfl, below_drewN hB _⟩
        · skip
          have HN : Hid (termsEq n f n f' = false) := by
            show _ = _
            simp only [termsEq, decide_eq_false_iff_not]
            intro hh
            have := hh.2 k hlt
            simp [T.eqB, M.eqB, hc] at this
          clear hok
          go_wp2_with fail
          go_quiet (fail)
          go_wp2
          go_ret
          exact ⟨by rw [HN.out]; rfl, below_drewN hB _⟩
      · have HP : Hid (termsEq n f n f' = true) := by
          show _ = _
          simp only [termsEq, decide_eq_true_eq]
          exact ⟨trivial, fun i hi => hok.out i (by omega)⟩
        clear hok
        go_wp2
        go_ret
        exact ⟨by rw [HP.out]; rfl, hB⟩
  · have hp : termsEq n f n' f' = false := by
      simp only [termsEq, decide_eq_false_iff_not]
      exact fun h => hnn h.1
    rw [hp]
    have hb : ((n : Int) != (n' : Int)) = true := by simp; omega
    clear hp
    go_enter Try.func51, Try.ntmps51
    go_wp2
    go_ret
    exact ⟨rfl, Below.refl _ _⟩
theorem polSameI (w : World) (a a' : Option Addr) (n cap n' cap' : Nat) (f f' : Nat → T) (h : Rd w a n cap f) (h' : Rd w a' n' cap' f') :
    Calls Try.prog 27 #[.slice a n cap, .slice a' n' cap'] w fun r w' => r = .returned (.bool (termsEq n f n' f')) ∧ Below w.heap.size w w' := by
  have H := Hid.mk' h
  have H' := Hid.mk' h'
  clear h h'
  go_enter Try.func27, Try.ntmps27
  go_wp2_with fail
  refine (slicesEqual _ _ _ _ _ _ _ f f' H.out H'.out).mono ?_
  rintro r w1 ⟨rfl, hb⟩
  go_wp2
  go_ret
  exact ⟨rfl, hb⟩
end Go.Proofs.Ytddfpjjeoojlmaa
namespace Go.Proofs.Ytddfpjjeoojlmaa
open Go.RowKit
set_option linter.unusedVariables false

theorem ownsT_nil (w : World) (lo : Nat) : w.ownsRow lo 35 5 (.slice none 0 0) 0 (cellsL []) := ⟨rfl, .inl ⟨rfl, rfl⟩⟩
theorem s5_below {w w' : World} {b : Nat} {v0 v1 v2 v3 v4 : Value} (hb : Below w.heap.size w w') (h : w.cell? ⟨b, 0, none⟩ = some v0 ∧ w.cell? ⟨b, 1, none⟩ = some v1 ∧ w.cell? ⟨b, 2, none⟩ = some v2 ∧ w.cell? ⟨b, 3, none⟩ = some v3 ∧ w.cell? ⟨b, 4, none⟩ = some v4) : w'.cell? ⟨b, 0, none⟩ = some v0 ∧ w'.cell? ⟨b, 1, none⟩ = some v1 ∧ w'.cell? ⟨b, 2, none⟩ = some v2 ∧ w'.cell? ⟨b, 3, none⟩ = some v3 ∧ w'.cell? ⟨b, 4, none⟩ = some v4 := by
  have hl : b < w.heap.size := World.block_lt_of_cell? w _ h.1
  exact ⟨(hb.cell (p := ⟨b, 0, none⟩) hl).trans h.1, (hb.cell (p := ⟨b, 1, none⟩) hl).trans h.2.1, (hb.cell (p := ⟨b, 2, none⟩) hl).trans h.2.2.1, (hb.cell (p := ⟨b, 3, none⟩) hl).trans h.2.2.2.1, (hb.cell (p := ⟨b, 4, none⟩) hl).trans h.2.2.2.2⟩
theorem s5_alloc {w : World} {o : Obj} {b : Nat} {v0 v1 v2 v3 v4 : Value} (h : w.cell? ⟨b, 0, none⟩ = some v0 ∧ w.cell? ⟨b, 1, none⟩ = some v1 ∧ w.cell? ⟨b, 2, none⟩ = some v2 ∧ w.cell? ⟨b, 3, none⟩ = some v3 ∧ w.cell? ⟨b, 4, none⟩ = some v4) : (w.alloc o).cell? ⟨b, 0, none⟩ = some v0 ∧ (w.alloc o).cell? ⟨b, 1, none⟩ = some v1 ∧ (w.alloc o).cell? ⟨b, 2, none⟩ = some v2 ∧ (w.alloc o).cell? ⟨b, 3, none⟩ = some v3 ∧ (w.alloc o).cell? ⟨b, 4, none⟩ = some v4 := s5_below ((Below.refl _ _).alloc (Nat.le_refl _) o) h
theorem s5_drew {w : World} {b : Nat} {v0 v1 v2 v3 v4 : Value} (h : w.cell? ⟨b, 0, none⟩ = some v0 ∧ w.cell? ⟨b, 1, none⟩ = some v1 ∧ w.cell? ⟨b, 2, none⟩ = some v2 ∧ w.cell? ⟨b, 3, none⟩ = some v3 ∧ w.cell? ⟨b, 4, none⟩ = some v4) : w.drew.cell? ⟨b, 0, none⟩ = some v0 ∧ w.drew.cell? ⟨b, 1, none⟩ = some v1 ∧ w.drew.cell? ⟨b, 2, none⟩ = some v2 ∧ w.drew.cell? ⟨b, 3, none⟩ = some v3 ∧ w.drew.cell? ⟨b, 4, none⟩ = some v4 := s5_below (Below.refl _ _).drew h
theorem s5_grown {w w' : World} {row : Option Nat} {b : Nat} {v0 v1 v2 v3 v4 : Value} (hg : w.grownBy w' row) (hne : some b ≠ row) (h : w.cell? ⟨b, 0, none⟩ = some v0 ∧ w.cell? ⟨b, 1, none⟩ = some v1 ∧ w.cell? ⟨b, 2, none⟩ = some v2 ∧ w.cell? ⟨b, 3, none⟩ = some v3 ∧ w.cell? ⟨b, 4, none⟩ = some v4) : w'.cell? ⟨b, 0, none⟩ = some v0 ∧ w'.cell? ⟨b, 1, none⟩ = some v1 ∧ w'.cell? ⟨b, 2, none⟩ = some v2 ∧ w'.cell? ⟨b, 3, none⟩ = some v3 ∧ w'.cell? ⟨b, 4, none⟩ = some v4 := by
  have he := hg.block b (World.block_lt_of_cell? w _ h.1) hne
  exact ⟨(World.cell?_of_block (w := w) (a := ⟨b, 0, none⟩) he).trans h.1, (World.cell?_of_block (w := w) (a := ⟨b, 1, none⟩) he).trans h.2.1, (World.cell?_of_block (w := w) (a := ⟨b, 2, none⟩) he).trans h.2.2.1, (World.cell?_of_block (w := w) (a := ⟨b, 3, none⟩) he).trans h.2.2.2.1, (World.cell?_of_block (w := w) (a := ⟨b, 4, none⟩) he).trans h.2.2.2.2⟩
set_option maxRecDepth 100000 in
set_option maxHeartbeats 4000000 in
theorem polFreeI (w : World) (a : Option Addr) (n cap : Nat) (f : Nat → T) (h : Rd w a n cap f) :
    Calls Try.prog 30 #[.slice a n cap] w fun r w' => r = .returned (.bool (polFree n f)) ∧ Below w.heap.size w w' := by
  have HR := Hid.mk' h
  obtain ⟨h1, h2, h3⟩ := h
  have hn : (n : Int) ≤ 140737488351232 := by omega
  have hno : Hid (∀ k, k < n → ((f k).m.d ≠ 0 ∨ (f k).m.e ≠ 0) → polFree n f = false) := fun k hk hd => by
    cases hp : polFree n f
    · rfl
    · exfalso
      simp only [polFree, Bool.and_eq_true, decide_eq_true_eq] at hp
      have h1 := hp.2 k hk
      have h2 := hp.1
      simp only [polOk, decide_eq_true_eq] at h2
      have h3 := h2.2 k hk
      simp only [okAt, Bool.and_eq_true] at h3
      have h4 := M.ok_iff.1 h3.1.2
      omega
  go_enter Try.func30, Try.ntmps30
  go_wp2
  go_loopw [7] (fun i wr => ∃ k : Nat, k ≤ n ∧ i = .int .i64 k ∧ Below w.heap.size w wr ∧ Hid (∀ j, j < k → (f j).m.d = 0 ∧ (f j).m.e = 0)) (fun i _ => n - (intOf i).toNat)
  case atStart => exact ⟨0, Nat.zero_le _, rfl, Below.refl _ _, fun j hj => absurd hj (Nat.not_lt_zero _)⟩
  case round =>
    obtain ⟨k, hk, rfl, hB, hok⟩ := hrel
    by_cases hlt : k < n
    · rcases h3 with h0 | ⟨b, off, rfl, hblt, hcl⟩
      · omega
      have hkn : (k : Int) < (n : Int) := by omega
      obtain ⟨g0, g1, g2, g3, g4⟩ := (hcl k hlt).below hB hblt
      have HB : Hid (∀ o : Obj, Below w.heap.size w (wr.alloc o)) := fun o => hB.alloc hB.size o
      clear hcl
      by_cases hd : (f k).m.d = 0
      · have hdb : ((f k).m.d != 0) = false := by simp [hd]
        by_cases he : (f k).m.e = 0
        · have heb : ((f k).m.e != 0) = false := by simp [he]
          have hok' : Hid (∀ j, j < k + 1 → (f j).m.d = 0 ∧ (f j).m.e = 0) := fun j hj => by
            by_cases hjk : j = k
            · rw [hjk]; exact ⟨hd, he⟩
            · exact hok.out j (by omega)
          clear hok hd he
          go_wp2
          go_roundw
          case rel => exact ⟨k + 1, by omega, by go_num, HB.out _, hok'⟩
          case measure => simp [intOf]; omega
        · have heb : ((f k).m.e != 0) = true := by simp [he]
          have HF : Hid (polFree n f = false) := hno.out k hlt (.inr he)
          clear hok hd he hno
          go_wp2
          go_ret
          exact ⟨by rw [HF.out]; rfl, HB.out _⟩
      · have hdb : ((f k).m.d != 0) = true := by simp [hd]
        have HF : Hid (polFree n f = false) := hno.out k hlt (.inl hd)
        clear hok hd hno
        go_wp2
        go_ret
        exact ⟨by rw [HF.out]; rfl, HB.out _⟩
    · have HE : Hid (polFree n f = polOk n f) := by
        show _ = _
        have : (∀ i, i < n → (f i).m.d + (f i).m.e ≤ 0) := fun i hi => by
          have := hok.out i (by omega)
          omega
        rw [polFree, decide_eq_true this, Bool.and_true]
      clear hok hno
      go_wp2_with fail
      refine (polOkI _ _ _ _ f (HR.out.below hB)).mono ?_
      rintro r w1 ⟨rfl, hb⟩
      have HB1 := Hid.mk' (bel_next hB hb)
      clear hb
      go_wp2
      go_ret
      exact ⟨by rw [HE.out]; rfl, HB1.out⟩
set_option maxRecDepth 100000 in
set_option maxHeartbeats 8000000 in
theorem polScaleI (w : World) (c : Int) (a : Option Addr) (n cap : Nat) (f : Nat → T) (h : Rd w a n cap f) :
    Calls Try.prog 21 #[.int .i64 c, .slice a n cap] w fun r w' => ∃ v, r = .returned v ∧ Below w.heap.size w w' ∧ w'.ownsRow w.heap.size 35 5 v (polScale c f n).length (cellsL (polScale c f n)) := by
  obtain ⟨i0, hi0, hz0, hz1, hz2⟩ := info_parts infoT
  have HR := Hid.mk' h
  by_cases hz : c = 0
  · have e1 : polScale c f n = [] := by simp [polScale, hz]
    rw [e1]
    subst hz
    clear h e1
    go_enter Try.func21, Try.ntmps21
    go_wp2
    go_ret
    exact ⟨_, rfl, Below.refl _ _, ownsT_nil w _⟩
  · have hcb : (c == 0) = false := by simp [hz]
    by_cases hc : 0 ≤ c ∧ c ≤ 100
    · obtain ⟨c0, c1⟩ := hc
      cases hp : polOk n f
      · have e1 : polScale c f n = [] := by simp [polScale, hp]
        rw [e1]
        clear h e1 hz
        go_enter Try.func21, Try.ntmps21
        go_wp2_with (go_at_call 45; refine (okI_in _ _ c0 c1).mono ?_; rintro r w' ⟨rfl, hw'⟩; obtain rfl := hw'.symm; clear hw')
        refine (polOkI _ _ _ _ f HR.out).mono ?_
        rw [hp]
        rintro r w1 ⟨rfl, hb⟩
        go_wp2
        go_ret
        exact ⟨_, rfl, hb, ownsT_nil w1 _⟩
      · obtain ⟨l1, c2⟩ := polOk_c hp
        have HC := Hid.mk' c2
        have e1 : polScale c f n = scT c f n := by simp [polScale, hp, c0, c1, hz]
        rw [e1, scT_len]
        obtain ⟨h1, h2, h3⟩ := h
        have hn : (n : Int) ≤ 400 := by omega
        clear e1 hz c2
        go_enter Try.func21, Try.ntmps21
        go_wp2_with (go_at_call 45; refine (okI_in _ _ c0 c1).mono ?_; rintro r w' ⟨rfl, hw'⟩; obtain rfl := hw'.symm; clear hw')
        refine (polOkI _ _ _ _ f HR.out).mono ?_
        rw [hp]
        rintro r w1 ⟨rfl, hb1⟩
        have HB1 := Hid.mk' hb1
        clear hb1
        go_wp2
        go_loopw [5, 22] (fun v i wr => ∃ k : Nat, k ≤ n ∧ i = .int .i64 k ∧ Below w.heap.size w wr ∧ wr.ownsRow w.heap.size 35 5 v k (cellsL (scT c f k))) (fun _ i _ => n - (intOf i).toNat)
        case atStart => exact ⟨0, Nat.zero_le _, rfl, HB1.out, ownsT_nil w1 _⟩
        case round =>
          obtain ⟨k, hk, rfl, hB, hown⟩ := hrel
          by_cases hlt : k < n
          · rcases h3 with h0 | ⟨b, off, rfl, hblt, hcl⟩
            · omega
            have hkn : (k : Int) < (n : Int) := by omega
            obtain ⟨g0, g1, g2, g3, g4⟩ := (hcl k hlt).below hB hblt
            obtain ⟨cf1, cf2⟩ := HC.out k hlt
            obtain ⟨mb1, mb2⟩ := mul_bd c0 c1 cf1 cf2
            have HO := Hid.mk' hown
            clear hcl hown
            go_wp2_with fail
            have HOQ := Hid.mk' (HO.out.alloc (.cells #[.int .i64 (f k).c, .int .i64 (f k).m.x, .int .i64 (f k).m.y, .int .i64 (f k).m.d, .int .i64 (f k).m.e] 35))
            have HBQ := Hid.mk' (hB.alloc hB.size (.cells #[.int .i64 (f k).c, .int .i64 (f k).m.x, .int .i64 (f k).m.y, .int .i64 (f k).m.d, .int .i64 (f k).m.e] 35))
            have q : ∀ i v, #[Value.int .i64 (f k).c, .int .i64 (f k).m.x, .int .i64 (f k).m.y, .int .i64 (f k).m.d, .int .i64 (f k).m.e][i]? = some v → (wr.alloc (.cells #[.int .i64 (f k).c, .int .i64 (f k).m.x, .int .i64 (f k).m.y, .int .i64 (f k).m.d, .int .i64 (f k).m.e] 35)).cell? ⟨wr.heap.size, i, none⟩ = some v := fun i v hv => by
              rw [World.cell?_alloc_at _ _ _ _ rfl]; exact hv
            have hsz : (wr.alloc (.cells #[.int .i64 (f k).c, .int .i64 (f k).m.x, .int .i64 (f k).m.y, .int .i64 (f k).m.d, .int .i64 (f k).m.e] 35)).heap.size = wr.heap.size + 1 := by simp
            generalize (wr.alloc (.cells #[.int .i64 (f k).c, .int .i64 (f k).m.x, .int .i64 (f k).m.y, .int .i64 (f k).m.d, .int .i64 (f k).m.e] 35)) = wq at HOQ HBQ q hsz ⊢
            have q0 := q 0 _ rfl
            have q1 := q 1 _ rfl
            have q2 := q 2 _ rfl
            have q3 := q 3 _ rfl
            have q4 := q 4 _ rfl
            have hws : w.heap.size ≤ wr.heap.size := hB.size
            have HSZ := Hid.mk' hsz
            clear g0 g1 g2 g3 g4 q hsz
            go_region_held3 (fun u => u.cell? ⟨wr.heap.size, 0, none⟩ = some (.int .i64 (f k).c) ∧ u.cell? ⟨wr.heap.size, 1, none⟩ = some (.int .i64 (f k).m.x) ∧ u.cell? ⟨wr.heap.size, 2, none⟩ = some (.int .i64 (f k).m.y) ∧ u.cell? ⟨wr.heap.size, 3, none⟩ = some (.int .i64 (f k).m.d) ∧ u.cell? ⟨wr.heap.size, 4, none⟩ = some (.int .i64 (f k).m.e)) (first | exact s5_grown hgrow (fun hh => absurd (HO.out.lt _ hh.symm).2 (Nat.lt_irrefl _)) (by assumption) | exact s5_alloc (by assumption) | exact s5_drew (by assumption) | exact ⟨q0, q1, q2, q3, q4⟩) (first | (refine step_append_lies _ (by rfl) (.tmp 26) (.tmp 34) 23 (by rfl) w.heap.size 35 i0 _ 5 40 Try.underlying23 hi0 hz0 hz1 hz2 rfl (by omega) _ k (cellsL (scT c f k)) (by rfl) (by first | exact HOQ.out.alloc _ | exact (owns_below HOQ.out (Below.refl _ _).drew).alloc _) ⟨wq.heap.size, 0, none⟩ 1 1 (cellsL [⟨c * (f k).c % 101, (f k).m⟩]) (by rfl) (by rw [cellsL_length]; rfl) (by rw [cellsL_one]; exact World.news_of_block (heap_alloc_new wq _)) (one_cells _) (by omega) (by unfold maxLen; omega) (by omega) (by have := HBQ.out.size; simp; omega) _ (by rfl) ?_; intro g0 cap0 w1 hown1 hgrow hat hlt1) | (go_at_call 25; refine (mulI _ _ _).mono ?_; rw [fMul_in c0 c1 cf1 cf2]; rintro r w2 ⟨rfl, hw2⟩; obtain rfl := hw2.symm; clear hw2))
            have HB := Hid.mk' (((HBQ.out.alloc HBQ.out.size _).drew).grown hgrow (Nat.le_trans HBQ.out.size (by simp)) (fun j hj => (HOQ.out.lt j hj).1))
            have HP := Hid.mk' hown1
            clear hown1 hgrow hat hlt1 HOQ HO
            go_wp2
            go_roundw
            case rel => exact ⟨k + 1, by omega, by go_num, HB.out, by rw [scT_succ, cellsL_append]; exact HP.out⟩
            case measure => simp [intOf]; omega
          · have hkn : k = n := by omega
            subst hkn
            have HO := Hid.mk' hown
            clear hown
            go_wp2
            go_ret
            exact ⟨_, rfl, hB, HO.out⟩
    · have e1 : polScale c f n = [] := by simp [polScale, hc]
      rw [e1]
      have hc' : c < 0 ∨ 100 < c := by omega
      clear hc e1 hz h
      go_enter Try.func21, Try.ntmps21
      go_wp2_with (go_at_call 45; refine (okI_out _ _ hc').mono ?_; rintro r w' ⟨rfl, rfl⟩)
      go_ret
      exact ⟨_, rfl, Below.refl _ _, ownsT_nil _ _⟩
end Go.Proofs.Ytddfpjjeoojlmaa
namespace Go.Proofs.Ytddfpjjeoojlmaa
open Go.RowKit
set_option linter.unusedVariables false

set_option maxRecDepth 100000 in
set_option maxHeartbeats 4000000 in
theorem heSameT (w : World) (a a' : Option Addr) (n cap n' cap' : Nat) (f f' : Nat → T) (h : Rd w a n cap f) (h' : Rd w a' n' cap' f') :
    Calls Try.prog 12 #[.slice a n cap, .slice a' n' cap'] w fun r w' => r = .returned (.bool (termsEq n f n' f')) ∧ Below w.heap.size w w' := by
  obtain ⟨h1, h2, h3⟩ := h
  obtain ⟨h1', h2', h3'⟩ := h'
  have hn : (n : Int) ≤ 140737488351232 := by omega
  have hn' : (n' : Int) ≤ 140737488351232 := by omega
  by_cases hnn : n = n'
  · subst hnn
    go_enter Try.func12, Try.ntmps12
    go_wp2
    go_loopw [5] (fun i wr => ∃ (k : Nat), k ≤ n ∧ i = .int .i64 k ∧ Below w.heap.size w wr ∧ Hid (∀ j, j < k → (f j).eqB (f' j) = true)) (fun i _ => n - (intOf i).toNat)
    case atStart => exact ⟨0, Nat.zero_le _, rfl, Below.refl _ _, fun j hj => absurd hj (Nat.not_lt_zero _)⟩
    case round =>
      obtain ⟨k, hk, rfl, hB, hok⟩ := hrel
      by_cases hlt : k < n
      · rcases h3 with h0 | ⟨b, off, rfl, hblt, hcl⟩
        · omega
        rcases h3' with h0 | ⟨b', off', rfl, hblt', hcl'⟩
        · omega
        have hkn : (k : Int) < (n : Int) := by omega
        obtain ⟨g0, g1, g2, g3, g4⟩ := (hcl k hlt).below hB hblt
        obtain ⟨p0, p1, p2, p3, p4⟩ := (hcl' k hlt).below hB hblt'
        clear hcl hcl'
        by_cases hc : (f k).c = (f' k).c
        · skip
          by_cases hx : (f k).m.x = (f' k).m.x
          · skip
            by_cases hy : (f k).m.y = (f' k).m.y
            · skip
              by_cases hd : (f k).m.d = (f' k).m.d
              · skip
                by_cases he : (f k).m.e = (f' k).m.e
                · skip
                  have HN : Hid (∀ j, j < k + 1 → (f j).eqB (f' j) = true) := fun j hj => by
                    by_cases hjk : j = k
                    · rw [hjk]; simp [T.eqB, M.eqB, hc, hx, hy, hd, he]
                    · exact hok.out j (by omega)
                  clear hok
                  go_wp2_with fail
                  go_quiet (fail)
                  go_wp2
                  go_roundw
                  case rel => exact ⟨k + 1, by omega, by go_num, below_drewN hB _, HN⟩
                  case measure => simp [intOf]; omega
                · skip
                  have HN : Hid (termsEq n f n f' = false) := by
                    show _ = _
                    simp only [termsEq, decide_eq_false_iff_not]
                    intro hh
                    have := hh.2 k hlt
                    simp [T.eqB, M.eqB, he] at this
                  clear hok
                  go_wp2_with fail
                  go_quiet (fail)
                  go_wp2
                  go_ret
                  exact ⟨by rw [HN.out]; rfl, below_drewN hB _⟩
              · skip
                have HN : Hid (termsEq n f n f' = false) := by
                  show _ = _
                  simp only [termsEq, decide_eq_false_iff_not]
                  intro hh
                  have := hh.2 k hlt
                  simp [T.eqB, M.eqB, hd] at this
                clear hok
                go_wp2_with fail
                go_quiet (fail)
                go_wp2
                go_ret
                exact ⟨by rw [HN.out]; rfl, below_drewN hB _⟩
            · skip
              have HN : Hid (termsEq n f n f' = false) := by
                show _ = _
                simp only [termsEq, decide_eq_false_iff_not]
                intro hh
                have := hh.2 k hlt
                simp [T.eqB, M.eqB, hy] at this
              clear hok
              go_wp2_with fail
              go_quiet (fail)
              go_wp2
              go_ret
              exact ⟨by rw [HN.out]; rfl, below_drewN hB _⟩
          · skip
            have HN : Hid (termsEq n f n f' = false) := by
              show _ = _
              simp only [termsEq, decide_eq_false_iff_not]
              intro hh
              have := hh.2 k hlt
              simp [T.eqB, M.eqB, hx] at this
            clear hok
            go_wp2_with fail
            go_quiet (fail)
            go_wp2
            go_ret
            exact ⟨by rw [HN.out]; rfl, below_drewN hB _⟩
        · skip
          have HN : Hid (termsEq n f n f' = false) := by
            show _ = _
            simp only [termsEq, decide_eq_false_iff_not]
            intro hh
            have := hh.2 k hlt
            simp [T.eqB, M.eqB, hc] at this
          clear hok
          go_wp2_with fail
          go_quiet (fail)
          go_wp2
          go_ret
          exact ⟨by rw [HN.out]; rfl, below_drewN hB _⟩
      · have HP : Hid (termsEq n f n f' = true) := by
          show _ = _
          simp only [termsEq, decide_eq_true_eq]
          exact ⟨trivial, fun i hi => hok.out i (by omega)⟩
        clear hok
        go_wp2
        go_ret
        exact ⟨by rw [HP.out]; rfl, hB⟩
  · have hp : termsEq n f n' f' = false := by
      simp only [termsEq, decide_eq_false_iff_not]
      exact fun h => hnn h.1
    rw [hp]
    have hb : ((n : Int) != (n' : Int)) = true := by simp; omega
    clear hp
    go_enter Try.func12, Try.ntmps12
    go_wp2
    go_ret
    exact ⟨rfl, Below.refl _ _⟩
end Go.Proofs.Ytddfpjjeoojlmaa
