/-
  The program reads monomials (leadingDigits, monGuess, MonRead).
-/
import Derived.Test.YtnfgiplgkobnlaaDoorRdA
import Derived.Test.YtnfgiplgkobnlaaDoorTxI
import Derived.Shelf.Lay
import Derived.Shelf.Small.Wraps
import Derived.Shelf.Strconv.AtoiAll
import Derived.Shelf.Strconv.ErrVarAll
import Derived.Ground.NamesProg
namespace Go.Proofs.YtnfgiplgkobnlaaDoor
open Go.Shelf Go.RowKit
set_option linter.unusedVariables false
set_option linter.unusedSimpArgs false

theorem ba_size (l : List UInt8) : (⟨l.toArray⟩ : ByteArray).size = l.length := by simp [ByteArray.size]
theorem str_index {l : List UInt8} {k : Nat} {c : UInt8} (h : l[k]? = some c) (u : World) : (Instr.index 9 (.string ⟨l.toArray⟩) (.int .i64 (k : Int))).run Tryd.prog u = .ok (.int .u8 (c.toNat : Int)) u := by
  obtain ⟨hk, e⟩ := List.getElem?_eq_some_iff.1 h
  rw [run_index_string _ _ _ _ _ Tryd.underlying9, dif_pos ⟨by omega, by rw [ba_size]; omega⟩]
  subst e
  rfl
theorem str_to {l : List UInt8} {k : Nat} (h : k ≤ l.length) (u : World) : (Instr.slice 9 (.string ⟨l.toArray⟩) none (some (.int .i64 (k : Int))) none).run Tryd.prog u = .ok (.string ⟨(l.take k).toArray⟩) u := by
  rw [run_slice_string_to_if _ _ _ _ _ Tryd.underlying9, if_pos ⟨by omega, by rw [ba_size]; omega⟩]
  congr 2
  apply ByteArray.ext
  simp
theorem str_from {l : List UInt8} {k : Nat} (h : k ≤ l.length) (u : World) : (Instr.slice 9 (.string ⟨l.toArray⟩) (some (.int .i64 (k : Int))) none none).run Tryd.prog u = .ok (.string ⟨(l.drop k).toArray⟩) u := by
  rw [run_slice_string_from_if _ _ _ _ _ Tryd.underlying9, if_pos ⟨by omega, by rw [ba_size]; omega⟩]
  congr 2
  apply ByteArray.ext
  simp [ba_size]
  exact List.take_of_length_le (by simp)
theorem lead_take {l : List UInt8} {k : Nat} (h1 : ∀ j c, j < k → l[j]? = some c → isD c = true) (h2 : ∀ c, l[k]? = some c → isD c = false) (hk : k ≤ l.length) : l.take k = lead l := by
  have e : l = l.take k ++ l.drop k := (List.take_append_drop k l).symm
  have := lead_app (d := l.take k) (t := l.drop k) (fun c hc => by
    obtain ⟨j, hj, e⟩ := List.getElem_of_mem hc
    rw [List.length_take] at hj
    exact h1 j c (by omega) (by rw [← e, List.getElem_take]; exact List.getElem?_eq_getElem _)) (fun c r e => h2 c (by
      have : (l.drop k)[0]? = some c := by rw [e]; rfl
      rw [List.getElem?_drop] at this
      simpa using this))
  rw [← e] at this
  exact this.symm
set_option maxRecDepth 100000 in
set_option maxHeartbeats 2000000 in
theorem leadI (l : List UInt8) (hl : l.length ≤ 1000000) (w : World) :
    Calls Tryd.prog 52 #[.string ⟨l.toArray⟩] w fun r w' => r = .returned (.string ⟨(lead l).toArray⟩) ∧ w' = w := by
  go_enter Tryd.func52, Tryd.ntmps52
  go_wp2
  go_loop [3] (fun v => ∃ k : Nat, k ≤ l.length ∧ v = .int .i64 (k : Int) ∧ Hid (∀ j c, j < k → l[j]? = some c → isD c = true)) (fun v => l.length - (intOf v).toNat)
  case atStart => exact ⟨0, Nat.zero_le _, rfl, fun j c hj => by omega⟩
  case round =>
    obtain ⟨k, hk, rfl, HD⟩ := hrel
    have hlI : (l.length : Int) ≤ 1000000 := by omega
    by_cases hkl : k < l.length
    · have hkI : (k : Int) < (l.length : Int) := by omega
      obtain ⟨c, hc⟩ : ∃ c, l[k]? = some c := ⟨_, List.getElem?_eq_getElem hkl⟩
      have hix := str_index hc
      have HC := Hid.mk' hc
      clear hc
      obtain ⟨z, hz⟩ : ∃ z : Nat, c.toNat = z := ⟨_, rfl⟩
      have hdz : isD c = decide (48 ≤ z ∧ z ≤ 57) := by unfold isD; rw [hz]
      have HDZ := Hid.mk' hdz
      rw [hz] at hix
      clear hz hdz
      have fin : ¬ (48 ≤ z ∧ z ≤ 57) → Hid (l.take k = lead l) := fun hn => Hid.mk' (lead_take HD.out (fun c' hc' => by
        have e := HC.out.symm.trans hc'
        cases e
        rw [HDZ.out]; exact decide_eq_false hn) hk)
      have hto := fun u => str_to (l := l) (k := k) hk u
      by_cases h1 : 48 ≤ z
      · have h1I : (48 : Int) ≤ (z : Int) := by omega
        by_cases h2 : z ≤ 57
        · have h2I : (z : Int) ≤ 57 := by omega
          have HN : Hid (∀ j c, j < k + 1 → l[j]? = some c → isD c = true) := fun j c' hj hc' => by
            by_cases e : j = k
            · subst e
              have e := HC.out.symm.trans hc'
              cases e
              rw [HDZ.out]; exact decide_eq_true ⟨h1, h2⟩
            · exact HD.out j c' (by omega) hc'
          clear fin hto
          go_wp2
          go_round
          case rel => exact ⟨k + 1, by omega, by go_num, HN⟩
          case measure => simp [intOf]; omega
        · have h2I : ¬ (z : Int) ≤ 57 := by omega
          have HF := fin (fun q => h2 q.2)
          clear fin
          go_wp2
          go_ret
          exact ⟨by rw [← HF.out]; rfl, rfl⟩
      · have h1I : ¬ (48 : Int) ≤ (z : Int) := by omega
        have HF := fin (fun q => h1 q.1)
        clear fin
        go_wp2
        go_ret
        exact ⟨by rw [← HF.out]; rfl, rfl⟩
    · have hke : k = l.length := by omega
      have hnl : ¬ (k : Int) < (l.length : Int) := by omega
      have HF : Hid (l.take k = lead l) := Hid.mk' (lead_take HD.out (fun c hc => by
        have := (List.getElem?_eq_some_iff.1 hc).1
        omega) hk)
      have hto := fun u => str_to (l := l) (k := k) hk u
      clear hke
      go_wp2
      go_ret
      exact ⟨by rw [← HF.out]; rfl, rfl⟩
end Go.Proofs.YtnfgiplgkobnlaaDoor
