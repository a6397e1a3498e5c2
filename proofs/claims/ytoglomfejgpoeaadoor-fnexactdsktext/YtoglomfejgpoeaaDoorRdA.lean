/-
  Reading monomials: what the program guesses, as lists of bytes.
-/
import Derived.Test.YtoglomfejgpoeaaDoorPxA
import Derived.Lib.Strings
import Derived.Lib.AtoiAll
import Derived.Lib.AtoiTie
namespace Go.Proofs.YtoglomfejgpoeaaDoor
open Go.RowKit
set_option linter.unusedVariables false

def isD (c : UInt8) : Bool := decide (48 ≤ c.toNat ∧ c.toNat ≤ 57)
def lead (l : List UInt8) : List UInt8 := l.takeWhile isD
def valA (d : List UInt8) : Int := match Lib.atoiAll d with | .ok v => v | _ => 1
/-- one place of the guess: what is left, and the number. -/
def gst (k : Nat) (l : List UInt8) : List UInt8 × Int := if Lib.hasPrefix l [ltr k] = true then ((l.drop 1).drop (lead (l.drop 1)).length, valA (lead (l.drop 1))) else (l, 0)
def glS (s : List UInt8) : Nat → List UInt8
  | 0 => s
  | k + 1 => (gst k (glS s k)).1
def gcS (s : List UInt8) (k : Nat) : Int := (gst k (glS s k)).2
def guess (s : List UInt8) : M := ⟨gcS s 0, gcS s 1, gcS s 2, gcS s 3⟩
theorem lead_len (l : List UInt8) : (lead l).length ≤ l.length := (List.takeWhile_prefix _).length_le
theorem glS_len (s : List UInt8) : ∀ k, (glS s k).length ≤ s.length
  | 0 => Nat.le_refl _
  | k + 1 => by
    have h := glS_len s k
    show (gst k (glS s k)).1.length ≤ _
    unfold gst
    split
    · simp; omega
    · exact h
/-- no digit ahead. -/
def NoD (t : List UInt8) : Prop := ∀ c r, t = c :: r → isD c = false
theorem lead_app {d t : List UInt8} (hd : ∀ c ∈ d, isD c = true) (ht : NoD t) : lead (d ++ t) = d := by
  induction d with
  | nil =>
    cases t with
    | nil => rfl
    | cons c r => unfold lead; rw [List.nil_append, List.takeWhile_cons, ht c r rfl]; rfl
  | cons c d ih =>
    unfold lead at ih ⊢
    rw [List.cons_append, List.takeWhile_cons, hd c (by simp)]
    simp only [if_true]
    rw [ih (fun x hx => hd x (by simp [hx]))]
theorem dec_isD : ∀ n, n ≤ 100 → ∀ c ∈ Lib.decDigits n, isD c = true := fun n hn c hc => by
  have key : ∀ k, k < 10 → isD (UInt8.ofNat (48 + k)) = true := fun k hk => by
    rcases (show k = 0 ∨ k = 1 ∨ k = 2 ∨ k = 3 ∨ k = 4 ∨ k = 5 ∨ k = 6 ∨ k = 7 ∨ k = 8 ∨ k = 9 by omega) with rfl | rfl | rfl | rfl | rfl | rfl | rfl | rfl | rfl | rfl <;> decide
  by_cases h1 : n < 10
  · rw [dec_one h1] at hc
    rw [List.mem_singleton.1 hc]
    exact key n h1
  · rw [dec_more h1] at hc
    rcases List.mem_append.1 hc with h | h
    · by_cases h2 : n / 10 < 10
      · rw [dec_one h2] at h
        rw [List.mem_singleton.1 h]
        exact key _ h2
      · rw [dec_more h2, dec_one (by omega)] at h
        rcases List.mem_append.1 h with h | h
        · rw [List.mem_singleton.1 h]; exact key _ (by omega)
        · rw [List.mem_singleton.1 h]; exact key _ (by omega)
    · rw [List.mem_singleton.1 h]
      exact key _ (by omega)
theorem valA_dec {n : Nat} (h2 : 2 ≤ n) (hn : n ≤ 15) : valA (Lib.decDigits n) = (n : Int) := by
  rcases (show n = 2 ∨ n = 3 ∨ n = 4 ∨ n = 5 ∨ n = 6 ∨ n = 7 ∨ n = 8 ∨ n = 9 ∨ n = 10 ∨ n = 11 ∨ n = 12 ∨ n = 13 ∨ n = 14 ∨ n = 15 by omega) with rfl | rfl | rfl | rfl | rfl | rfl | rfl | rfl | rfl | rfl | rfl | rfl | rfl | rfl
  all_goals first
    | (rw [dec_one (by omega)]; rfl)
    | (rw [dec_more (by omega), dec_one (by omega)]; rfl)
theorem hasP_cons (c : UInt8) (r : List UInt8) : Lib.hasPrefix (c :: r) [c] = true := by simp [Lib.hasPrefix]
theorem hasP_ne {c x : UInt8} {r : List UInt8} (h : c ≠ x) : Lib.hasPrefix (c :: r) [x] = false := by
  unfold Lib.hasPrefix
  simp [List.isPrefixOf]
  exact fun e => h e.symm
theorem hasP_nil (x : UInt8) : Lib.hasPrefix [] [x] = false := rfl
/-- a rest that opens with none of these. -/
def NoH (x : UInt8) (t : List UInt8) : Prop := ∀ c r, t = c :: r → c ≠ x
theorem gst_fpw {k : Nat} {n : Int} (h0 : 0 ≤ n) (h1 : n ≤ 15) {t : List UInt8} (hD : NoD t) (hH : NoH (ltr k) t) : gst k (fpw (ltr k) n ++ t) = (t, n) := by
  by_cases hz : n = 0
  · subst hz
    rw [fpw_zero, List.nil_append]
    have : Lib.hasPrefix t [ltr k] = false := by
      cases t with
      | nil => rfl
      | cons c r => exact hasP_ne (hH c r rfl)
    unfold gst
    rw [if_neg (by rw [this]; simp)]
  · by_cases ho : n = 1
    · subst ho
      rw [fpw_one]
      unfold gst
      rw [List.singleton_append, if_pos (hasP_cons _ _)]
      have e : lead t = [] := lead_app (d := []) (fun _ h => by cases h) hD
      show ((t.drop (lead t).length), valA (lead t)) = _
      rw [e]
      rfl
    · obtain ⟨m, rfl⟩ : ∃ m : Nat, n = (m : Int) := ⟨n.toNat, by omega⟩
      rw [fpw_more (by omega)]
      unfold gst
      rw [List.cons_append, if_pos (hasP_cons _ _)]
      have e : lead (Lib.decDigits m ++ t) = Lib.decDigits m := lead_app (dec_isD m (by omega)) hD
      show (((Lib.decDigits m ++ t).drop (lead (Lib.decDigits m ++ t)).length), valA (lead (Lib.decDigits m ++ t))) = _
      rw [e, valA_dec (by omega) (by omega)]
      simp
theorem fpw_heads {x : UInt8} {n : Int} {t : List UInt8} {P : UInt8 → Prop} (hx : P x) (ht : ∀ c r, t = c :: r → P c) : ∀ c r, fpw x n ++ t = c :: r → P c := fun c r h => by
  by_cases h1 : 1 ≤ n
  · obtain ⟨q, hq⟩ := fpw_head (c := x) h1
    rw [hq, List.cons_append, List.cons.injEq] at h
    rw [← h.1]; exact hx
  · rw [fpw_nil (by omega), List.nil_append] at h
    exact ht c r h
theorem guess_S {m : M} (h : M.ok m = true) : guess (monS m) = m := by
  obtain ⟨x1, x2, y1, y2, d1, d2, e1, e2⟩ := M.ok_iff.1 h
  have a4 : ∀ (P : UInt8 → Prop), (∀ c r, ([] : List UInt8) = c :: r → P c) := fun P c r e => by cases e
  have t3 : ∀ (P : UInt8 → Prop), P 101 → ∀ c r, fpw 101 m.e ++ [] = c :: r → P c := fun P h1 => fpw_heads h1 (a4 P)
  have t2 : ∀ (P : UInt8 → Prop), P 101 → P 100 → ∀ c r, fpw 100 m.d ++ (fpw 101 m.e ++ []) = c :: r → P c := fun P h1 h2 => fpw_heads h2 (t3 P h1)
  have t1 : ∀ (P : UInt8 → Prop), P 101 → P 100 → P 121 → ∀ c r, fpw 121 m.y ++ (fpw 100 m.d ++ (fpw 101 m.e ++ [])) = c :: r → P c := fun P h1 h2 h3 => fpw_heads h3 (t2 P h1 h2)
  have e : monS m = fpw 120 m.x ++ (fpw 121 m.y ++ (fpw 100 m.d ++ (fpw 101 m.e ++ []))) := by rw [monS_is]; simp
  have g0 : gst 0 (monS m) = (fpw 121 m.y ++ (fpw 100 m.d ++ (fpw 101 m.e ++ [])), m.x) := by
    rw [e]
    exact gst_fpw (k := 0) x1 x2 (t1 (fun c => isD c = false) (by decide) (by decide) (by decide)) (t1 (fun c => c ≠ 120) (by decide) (by decide) (by decide))
  have g1 : gst 1 (fpw 121 m.y ++ (fpw 100 m.d ++ (fpw 101 m.e ++ []))) = (fpw 100 m.d ++ (fpw 101 m.e ++ []), m.y) := gst_fpw (k := 1) y1 y2 (t2 (fun c => isD c = false) (by decide) (by decide)) (t2 (fun c => c ≠ 121) (by decide) (by decide))
  have g2 : gst 2 (fpw 100 m.d ++ (fpw 101 m.e ++ [])) = (fpw 101 m.e ++ [], m.d) := gst_fpw (k := 2) d1 d2 (t3 (fun c => isD c = false) (by decide)) (t3 (fun c => c ≠ 100) (by decide))
  have g3 : gst 3 (fpw 101 m.e ++ []) = ([], m.e) := gst_fpw (k := 3) e1 e2 (a4 (fun c => isD c = false)) (a4 (fun c => c ≠ 101))
  have l1 : glS (monS m) 1 = fpw 121 m.y ++ (fpw 100 m.d ++ (fpw 101 m.e ++ [])) := by show (gst 0 (monS m)).1 = _; rw [g0]
  have l2 : glS (monS m) 2 = fpw 100 m.d ++ (fpw 101 m.e ++ []) := by show (gst 1 (glS (monS m) 1)).1 = _; rw [l1, g1]
  have l3 : glS (monS m) 3 = fpw 101 m.e ++ [] := by show (gst 2 (glS (monS m) 2)).1 = _; rw [l2, g2]
  unfold guess gcS
  rw [l1, l2, l3, g1, g2, g3]
  show (⟨(gst 0 (monS m)).2, _, _, _⟩ : M) = m
  rw [g0]
theorem guess_T {m : M} (h : M.ok m = true) : guess (monT m) = m := by
  by_cases h0 : monS m = []
  · rw [monT_one h h0]
    have e : m = ⟨0, 0, 0, 0⟩ := by
      by_cases hz : m.x = 0 ∧ m.y = 0 ∧ m.d = 0 ∧ m.e = 0
      · rcases m with ⟨x, y, d, e⟩
        obtain ⟨rfl, rfl, rfl, rfl⟩ := hz
        rfl
      · obtain ⟨c, r, e, _⟩ := monS_head h hz
        rw [e] at h0; cases h0
    rw [e]
    have e2 : guess [49] = ⟨0, 0, 0, 0⟩ := by kernel_rfl
    exact e2
  · rw [monT_is h h0]
    exact guess_S h
/-- what is read. -/
def monR (s : List UInt8) : M × Bool := if s.length ≤ 40 ∧ monT (guess s) = s then (guess s, true) else (⟨0, 0, 0, 0⟩, false)
theorem guess_ok {s : List UInt8} (h : monT (guess s) = s) : M.ok (guess s) = true := by
  cases hk : M.ok (guess s)
  · rw [monT_no hk] at h
    subst h
    exact absurd hk (by decide +kernel)
  · rfl
/-- whoever reads back finds it. -/
theorem monR_by {s : List UInt8} {g : M} (hg : ∀ m, M.ok m = true → monT m = s → g = m) : monR s = if s.length ≤ 40 ∧ (M.ok g = true ∧ monT g = s) then (g, true) else (⟨0, 0, 0, 0⟩, false) := by
  unfold monR
  by_cases h : monT (guess s) = s
  · have hk := guess_ok h
    have e : g = guess s := hg _ hk h
    subst e
    by_cases hl : s.length ≤ 40
    · rw [if_pos ⟨hl, h⟩, if_pos ⟨hl, hk, h⟩]
    · rw [if_neg (fun q => hl q.1), if_neg (fun q => hl q.1)]
  · rw [if_neg (fun q => h q.2), if_neg (fun q => h ?_)]
    rw [← q.2.2, guess_T q.2.1]
end Go.Proofs.YtoglomfejgpoeaaDoor
