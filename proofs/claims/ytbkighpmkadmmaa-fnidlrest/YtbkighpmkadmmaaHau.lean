/-
  Sums and differences of two operators.
  The laws' own look whether operators are the same.
  What the functions over operators hand back, as lists.
-/
import Derived.Test.YtbkighpmkadmmaaHas
import Derived.Test.YtbkighpmkadmmaaHat
import Derived.Test.YtbkighpmkadmmaaHaf
import Derived.Test.YtbkighpmkadmmaaHan
import Derived.Test.YtbkighpmkadmmaaHag
namespace Go.Proofs.Ytbkighpmkadmmaa
open Go.RowKit Go.Maps Go.Sort Go.Shelf
set_option linter.unusedVariables false

theorem Rd.apart {w : World} {a : Option Addr} {n cap : Nat} {f : Nat → T} (h : Rd w a n cap f) {b : Nat} (hb : w.heap.size ≤ b) : n = 0 ∨ ∀ b' off, a = some ⟨b', off, none⟩ → some b' ≠ some b := by
  rcases h.2.2 with h0 | ⟨pb, off, rfl, hlt, _⟩
  · exact .inl h0
  · exact .inr (fun b' off' e e' => by cases e; cases e'; omega)
end Go.Proofs.Ytbkighpmkadmmaa
namespace Go.Proofs.Ytbkighpmkadmmaa
open Go.RowKit
set_option linter.unusedVariables false

set_option maxRecDepth 100000 in
set_option maxHeartbeats 4000000 in
theorem heSameT (w : World) (a a' : Option Addr) (n cap n' cap' : Nat) (f f' : Nat → T) (h : Rd w a n cap f) (h' : Rd w a' n' cap' f') :
    Calls Try.prog 15 #[.slice a n cap, .slice a' n' cap'] w fun r w' => r = .returned (.bool (termsEq n f n' f')) ∧ Below w.heap.size w w' := by
  obtain ⟨h1, h2, h3⟩ := h
  obtain ⟨h1', h2', h3'⟩ := h'
  have hn : (n : Int) ≤ 140737488351232 := by omega
  have hn' : (n' : Int) ≤ 140737488351232 := by omega
  by_cases hnn : n = n'
  · subst hnn
    go_enter Try.func15, Try.ntmps15
    go_wp2
    go_loopw [5] (fun i wr => ∃ (k : Nat), k ≤ n ∧ i = .int .i64 k ∧ Below w.heap.size w wr ∧ Hid (∀ j, j < k → (f j).eqB (f' j) = true)) (fun i _ => n - (intOf i).toNat)
    case atStart => exact ⟨0, Nat.zero_le _, rfl, Below.refl _ _, fun j hj => absurd hj (Nat.not_lt_zero _)⟩
    case round =>
      obtain ⟨k, hk, rfl, hB, hok⟩ := hrel
      by_cases hlt : k < n
      · rcases h3 with h0 | ⟨b, off, rfl, hblt, hcl⟩
        · omega
        rcases h3' with h0 | ⟨b', off', rfl, hblt', hcl'⟩
        · omega
        have hkn : (k : Int) < (n : Int) := by omega
        obtain ⟨g0, g1, g2, g3, g4⟩ := (hcl k hlt).below hB hblt
        obtain ⟨p0, p1, p2, p3, p4⟩ := (hcl' k hlt).below hB hblt'
        clear hcl hcl'
        by_cases hc : (f k).c = (f' k).c
        · skip
          by_cases hx : (f k).m.x = (f' k).m.x
          · skip
            by_cases hy : (f k).m.y = (f' k).m.y
            · skip
              by_cases hd : (f k).m.d = (f' k).m.d
              · skip
                by_cases he : (f k).m.e = (f' k).m.e
                · skip
                  have HN : Hid (∀ j, j < k + 1 → (f j).eqB (f' j) = true) := fun j hj => by
                    by_cases hjk : j = k
                    · rw [hjk]; simp [T.eqB, M.eqB, hc, hx, hy, hd, he]
                    · exact hok.out j (by omega)
                  clear hok
                  go_wp2_with fail
                  go_quiet (fail)
                  go_wp2
                  go_roundw
                  case rel => exact ⟨k + 1, by omega, by go_num, below_drewN hB _, HN⟩
                  case measure => simp [intOf]; omega
                · skip
                  have HN : Hid (termsEq n f n f' = false) := by
                    show _ = _
                    simp only [termsEq, decide_eq_false_iff_not]
                    intro hh
                    have := hh.2 k hlt
                    simp [T.eqB, M.eqB, he] at this
                  clear hok
                  go_wp2_with fail
                  go_quiet (fail)
                  go_wp2
                  go_ret
                  exact ⟨by rw [HN.out]; rfl, below_drewN hB _⟩
              · skip
                have HN : Hid (termsEq n f n f' = false) := by
                  show _ = _
                  simp only [termsEq, decide_eq_false_iff_not]
                  intro hh
                  have := hh.2 k hlt
                  simp [T.eqB, M.eqB, hd] at this
                clear hok
                go_wp2_with fail
                go_quiet (fail)
                go_wp2
                go_ret
                exact ⟨by rw [HN.out]; rfl, below_drewN hB _⟩
            · skip
              have HN : Hid (termsEq n f n f' = false) := by
                show _ = _
                simp only [termsEq, decide_eq_false_iff_not]
                intro hh
                have := hh.2 k hlt
                simp [T.eqB, M.eqB, hy] at this
              clear hok
              go_wp2_with fail
              go_quiet (fail)
              go_wp2
              go_ret
              exact ⟨by rw [HN.out]; rfl, below_drewN hB _⟩
          · skip
            have HN : Hid (termsEq n f n f' = false) := by
              show _ = _
              simp only [termsEq, decide_eq_false_iff_not]
              intro hh
              have := hh.2 k hlt
              simp [T.eqB, M.eqB, hx] at this
            clear hok
            go_wp2_with fail
            go_quiet (fail)
            go_wp2
            go_ret
            exact ⟨by rw [HN.out]; rfl, below_drewN hB _⟩
        · skip
          have HN : Hid (termsEq n f n f' = false) := by
            show _ = _
            simp only [termsEq, decide_eq_false_iff_not]
            intro hh
            have := hh.2 k hlt
            simp [T.eqB, M.eqB, hc] at this
          clear hok
          go_wp2_with fail
          go_quiet (fail)
          go_wp2
          go_ret
          exact ⟨by rw [HN.out]; rfl, below_drewN hB _⟩
      · have HP : Hid (termsEq n f n f' = true) := by
          show _ = _
          simp only [termsEq, decide_eq_true_eq]
          exact ⟨trivial, fun i hi => hok.out i (by omega)⟩
        clear hok
        go_wp2
        go_ret
        exact ⟨by rw [HP.out]; rfl, hB⟩
  · have hp : termsEq n f n' f' = false := by
      simp only [termsEq, decide_eq_false_iff_not]
      exact fun h => hnn h.1
    rw [hp]
    have hb : ((n : Int) != (n' : Int)) = true := by simp; omega
    clear hp
    go_enter Try.func15, Try.ntmps15
    go_wp2
    go_ret
    exact ⟨rfl, Below.refl _ _⟩
end Go.Proofs.Ytbkighpmkadmmaa
namespace Go.Proofs.Ytbkighpmkadmmaa
open Go.RowKit
set_option linter.unusedVariables false

/-- an operator and a truth are handed back. -/
def Two2 (w : World) (X : List T × Bool) (e : Ending) (w' : World) : Prop := ∃ a' c', e = .returned (.tuple #[.slice a' X.1.length c', .bool X.2]) ∧ Below w.heap.size w w' ∧ RL w' a' c' X.1
def One1 (w : World) (X : List T) (e : Ending) (w' : World) : Prop := ∃ a' c', e = .returned (.slice a' X.length c') ∧ Below w.heap.size w w' ∧ RL w' a' c' X
def Val (w : World) (v : Value) (e : Ending) (w' : World) : Prop := e = .returned v ∧ Below w.heap.size w w'
theorem rd_congr {w : World} {a : Option Addr} {n cap : Nat} {f g : Nat → T} (h : Rd w a n cap f) (e : ∀ i, i < n → f i = g i) : Rd w a n cap g :=
  ⟨h.1, h.2.1, h.2.2.imp id (fun ⟨b, off, h1, h2, h3⟩ => ⟨b, off, h1, h2, fun i hi => by rw [← e i hi]; exact h3 i hi⟩)⟩
theorem one_RL (w : World) (t : T) : RL (w.alloc (.cells #[.int .i64 t.c, .int .i64 t.m.x, .int .i64 t.m.y, .int .i64 t.m.d, .int .i64 t.m.e] 33)) (some ⟨w.heap.size, 0, none⟩) 1 [t] :=
  rd_congr (n := 1) (g := lf [t]) (rd_one w t) (fun i hi => by
    have h0 : i = 0 := by omega
    subst h0
    rfl)
theorem two_owns {w : World} {X : List T × Bool} {e : Ending} {w' : World} (hl : X.1.length ≤ 400) (h : ∃ v, e = .returned (.tuple #[v, .bool X.2]) ∧ Below w.heap.size w w' ∧ w'.ownsRow w.heap.size 33 5 v X.1.length (cellsL X.1)) : Two2 w X e w' := by
  obtain ⟨v, h1, h2, h3⟩ := h
  obtain ⟨a', c', rfl, h4⟩ := out_of_owns h3 (by omega)
  exact ⟨a', c', h1, h2, h4.1⟩
theorem one_owns {w : World} {X : List T} {e : Ending} {w' : World} (hl : X.length ≤ 400) (h : ∃ v, e = .returned v ∧ Below w.heap.size w w' ∧ w'.ownsRow w.heap.size 33 5 v X.length (cellsL X)) : One1 w X e w' := by
  obtain ⟨v, h1, h2, h3⟩ := h
  obtain ⟨a', c', rfl, h4⟩ := out_of_owns h3 (by omega)
  exact ⟨a', c', h1, h2, h4.1⟩
variable {w : World} {a b : Option Addr} {ca cb : Nat} {L K : List T}
theorem okI_L (ha : RL w a ca L) : Calls Try.prog 40 #[.slice a L.length ca] w (Val w (.bool (okL L))) := polOkI w a L.length ca (lf L) ha
theorem he_L (ha : RL w a ca L) (hb : RL w b cb K) : Calls Try.prog 15 #[.slice a L.length ca, .slice b K.length cb] w (Val w (.bool (sq L K))) := heSameT w a b L.length ca K.length cb (lf L) (lf K) ha hb
set_option maxHeartbeats 1000000 in
theorem heOk_L (w : World) : Calls Try.prog 14 #[] w (Val w (.bool true)) := by
  have h1 : ∀ u : World, Calls Try.prog 19 #[] u fun e w' => e = .returned (.slice (some ⟨u.heap.size, 0, none⟩) 1 1) ∧ Below u.heap.size u w' ∧ RL w' (some ⟨u.heap.size, 0, none⟩) 1 [⟨1, ⟨0, 0, 0, 0⟩⟩] := fun u => by
    go_enter Try.func19, Try.ntmps19
    go_wp2
    go_ret
    exact ⟨rfl, bel_one u _, one_RL u ⟨1, ⟨0, 0, 0, 0⟩⟩⟩
  have h2 : okL [⟨1, ⟨0, 0, 0, 0⟩⟩] = true := by decide
  go_enter Try.func14, Try.ntmps14
  go_wp2_with fail
  refine (h1 _).mono ?_
  rintro e w1 ⟨rfl, hb1, hr1⟩
  have HR1 := Hid.mk' hr1
  have HB1 := Hid.mk' hb1
  clear hr1 hb1
  go_wp2_with fail
  refine (okI_L HR1.out).mono ?_
  rw [h2]
  rintro e w2 ⟨rfl, hb2⟩
  go_wp2
  go_ret
  exact ⟨rfl, bel_next HB1.out hb2⟩
end Go.Proofs.Ytbkighpmkadmmaa
