/-
  More of the program's chapter 3: the number of a monomial, whether operators are the same, whether one has no slopes, so many times an operator.
-/
import Derived.Test.YtfnlogmfkpaaiacPolI
import Derived.Test.YtfnlogmfkpaaiacOpenM
namespace Go.Proofs.Ytfnlogmfkpaaiac
open Go.RowKit
set_option linter.unusedVariables false

theorem s4c_below {w w' : World} {b : Nat} {x y d e : Int} (hb : Below w.heap.size w w') (h : w.cell? ⟨b, 0, none⟩ = some (.int .i64 x) ∧ w.cell? ⟨b, 1, none⟩ = some (.int .i64 y) ∧ w.cell? ⟨b, 2, none⟩ = some (.int .i64 d) ∧ w.cell? ⟨b, 3, none⟩ = some (.int .i64 e)) :
    w'.cell? ⟨b, 0, none⟩ = some (.int .i64 x) ∧ w'.cell? ⟨b, 1, none⟩ = some (.int .i64 y) ∧ w'.cell? ⟨b, 2, none⟩ = some (.int .i64 d) ∧ w'.cell? ⟨b, 3, none⟩ = some (.int .i64 e) := M4.below h hb
theorem polOf_len (c : Int) (m : M) : (polOf c m).length ≤ 400 := by
  unfold polOf; split <;> simp
theorem polScale_len (c : Int) (f : Nat → T) (n : Nat) : (polScale c f n).length ≤ 400 := by
  unfold polScale; split
  · rename_i h; rw [scT_len]; exact (polOk_c h.2.1).1
  · simp
set_option maxRecDepth 100000 in
set_option maxHeartbeats 4000000 in
theorem polAtI (w : World) (a : Option Addr) (n cap : Nat) (f : Nat → T) (x y d e : Int) (h : Rd w a n cap f) :
    Calls Try.prog 23 #[.slice a n cap, .agg #[.int .i64 x, .int .i64 y, .int .i64 d, .int .i64 e]] w fun r w' => r = .returned (.int .i64 (polAt f n ⟨x, y, d, e⟩)) ∧ Below w.heap.size w w' := by
  obtain ⟨h1, h2, h3⟩ := h
  have hn : (n : Int) ≤ 140737488351232 := by omega
  go_enter Try.func23, Try.ntmps23
  go_wp2
  go_loopw [9] (fun i wr => ∃ (k : Nat), k ≤ n ∧ i = .int .i64 k ∧ Below w.heap.size w wr ∧ M4 wr w.heap.size x y d e ∧ Hid (polAt f n ⟨x, y, d, e⟩ = atFrom f ⟨x, y, d, e⟩ (n - k) k)) (fun i _ => n - (intOf i).toNat)
  case atStart => exact ⟨0, Nat.zero_le _, rfl, bel_one w _, M4.box w _ x y d e, rfl⟩
  case round =>
    obtain ⟨k, hk, rfl, hB, hM, HL⟩ := hrel
    by_cases hlt : k < n
    · rcases h3 with h0 | ⟨b, off, rfl, hblt, hcl⟩
      · omega
      have hkn : (k : Int) < (n : Int) := by omega
      have hbr : b < wr.heap.size := Nat.lt_of_lt_of_le hblt hB.size
      have hwr : w.heap.size < wr.heap.size := hM.lt
      obtain ⟨g0, g1, g2, g3, g4⟩ := (hcl k hlt).below hB hblt
      obtain ⟨m0, m1, m2, m3⟩ := hM
      have HBW : Hid (∀ (o : Obj), Below w.heap.size w (wr.alloc o)) := fun o => hB.alloc hB.size o
      have HMW : Hid (∀ (o : Obj), M4 (wr.alloc o) w.heap.size x y d e) := fun o => (M4.below (w := wr) ⟨m0, m1, m2, m3⟩ ((Below.refl _ _).alloc (Nat.le_refl _) o))
      clear hcl
      by_cases hx : (f k).m.x = x
      · skip
        by_cases hy : (f k).m.y = y
        · skip
          by_cases hd : (f k).m.d = d
          · skip
            by_cases he : (f k).m.e = e
            · skip
              have hq : (f k).m.eqB ⟨x, y, d, e⟩ = true := by simp [M.eqB, hx, hy, hd, he]
              have HN : Hid (polAt f n ⟨x, y, d, e⟩ = (f k).c) := by
                show _ = _
                rw [HL.out, show n - k = (n - (k + 1)) + 1 by omega, atFrom, hq]; rfl
              clear hq HL
              go_wp2
              go_ret
              exact ⟨ret_int HN.out.symm, HBW.out _⟩
            · skip
              have hq : (f k).m.eqB ⟨x, y, d, e⟩ = false := by simp [M.eqB, he]
              have HN : Hid (polAt f n ⟨x, y, d, e⟩ = atFrom f ⟨x, y, d, e⟩ (n - (k + 1)) (k + 1)) := by
                show _ = _
                rw [HL.out, show n - k = (n - (k + 1)) + 1 by omega, atFrom, hq]; rfl
              clear hq HL
              go_wp2
              go_roundw
              case rel => exact ⟨k + 1, by omega, by go_num, HBW.out _, HMW.out _, HN⟩
              case measure => simp [intOf]; omega
          · skip
            have hq : (f k).m.eqB ⟨x, y, d, e⟩ = false := by simp [M.eqB, hd]
            have HN : Hid (polAt f n ⟨x, y, d, e⟩ = atFrom f ⟨x, y, d, e⟩ (n - (k + 1)) (k + 1)) := by
              show _ = _
              rw [HL.out, show n - k = (n - (k + 1)) + 1 by omega, atFrom, hq]; rfl
            clear hq HL
            go_wp2
            go_roundw
            case rel => exact ⟨k + 1, by omega, by go_num, HBW.out _, HMW.out _, HN⟩
            case measure => simp [intOf]; omega
        · skip
          have hq : (f k).m.eqB ⟨x, y, d, e⟩ = false := by simp [M.eqB, hy]
          have HN : Hid (polAt f n ⟨x, y, d, e⟩ = atFrom f ⟨x, y, d, e⟩ (n - (k + 1)) (k + 1)) := by
            show _ = _
            rw [HL.out, show n - k = (n - (k + 1)) + 1 by omega, atFrom, hq]; rfl
          clear hq HL
          go_wp2
          go_roundw
          case rel => exact ⟨k + 1, by omega, by go_num, HBW.out _, HMW.out _, HN⟩
          case measure => simp [intOf]; omega
      · skip
        have hq : (f k).m.eqB ⟨x, y, d, e⟩ = false := by simp [M.eqB, hx]
        have HN : Hid (polAt f n ⟨x, y, d, e⟩ = atFrom f ⟨x, y, d, e⟩ (n - (k + 1)) (k + 1)) := by
          show _ = _
          rw [HL.out, show n - k = (n - (k + 1)) + 1 by omega, atFrom, hq]; rfl
        clear hq HL
        go_wp2
        go_roundw
        case rel => exact ⟨k + 1, by omega, by go_num, HBW.out _, HMW.out _, HN⟩
        case measure => simp [intOf]; omega
    · go_wp2
      go_ret
      refine ⟨ret_int ?_, hB⟩
      rw [HL.out, show n - k = 0 by omega]; rfl
end Go.Proofs.Ytfnlogmfkpaaiac
