/-
  Texts of operators, as lists of bytes; the library's table of powers of ten.
-/
import Derived.Test.YtnfgiplgkobnlabDoorTxA
import Derived.Test.YtnfgiplgkobnlabDoorPol
import Derived.Lib.Join
import Derived.Lib.LaidTab
import Derived.Lib.AppendIntMem
import Derived.Shelf.Lay
import Derived.Shelf.Strconv.Itoa3
import Derived.Shelf.Strings.OnBuilder
import Derived.Ground.NamesProg
namespace Go.Proofs.YtnfgiplgkobnlabDoor
open Go.Shelf Go.RowKit
set_option linter.unusedVariables false

def dcD (c : Int) : List UInt8 := Lib.decDigits c.toNat
/-- a term's text. -/
def trmT (t : T) : List UInt8 := if t.m.x = 0 ∧ t.m.y = 0 ∧ t.m.d = 0 ∧ t.m.e = 0 then dcD t.c else if t.c = 1 then monT t.m else dcD t.c ++ monT t.m
def jnT (f : Nat → T) : Nat → List UInt8
  | 0 => []
  | k + 1 => (if k = 0 then [] else jnT f k ++ [43]) ++ trmT (f k)
def polT (n : Nat) (f : Nat → T) : List UInt8 := if polOk n f = true then (if n = 0 then [48] else jnT f n) else []
theorem polT_no {n : Nat} {f : Nat → T} (h : polOk n f = false) : polT n f = [] := by unfold polT; rw [if_neg (by rw [h]; simp)]
theorem polT_zero {n : Nat} {f : Nat → T} (h : polOk n f = true) (h0 : n = 0) : polT n f = [48] := by unfold polT; rw [if_pos h, if_pos h0]
theorem polT_is {n : Nat} {f : Nat → T} (h : polOk n f = true) (h0 : n ≠ 0) : polT n f = jnT f n := by unfold polT; rw [if_pos h, if_neg h0]
theorem okAt_is {f : Nat → T} {i : Nat} (h : okAt f i = true) : (1 ≤ (f i).c ∧ (f i).c ≤ 100) ∧ (f i).m.ok = true := by
  unfold okAt at h
  simp only [Bool.and_eq_true, decide_eq_true_eq] at h
  exact h.1
theorem polOk_is {n : Nat} {f : Nat → T} (h : polOk n f = true) : n ≤ 400 ∧ ∀ i, i < n → (1 ≤ (f i).c ∧ (f i).c ≤ 100) ∧ (f i).m.ok = true := by
  have h' := of_decide_eq_true h
  exact ⟨h'.1, fun i hi => okAt_is (h'.2 i hi)⟩
theorem dcD_len {c : Int} (h : c ≤ 100) : (dcD c).length ≤ 4 := dec_len4 (by omega)
theorem monT_len {m : M} (h : M.ok m = true) : (monT m).length ≤ 12 := by
  unfold monT
  rw [if_pos h]
  split
  · simp
  · have := txTo_len h 4
    unfold monS
    omega
theorem trmT_len {t : T} (hc : t.c ≤ 100) (h : M.ok t.m = true) : (trmT t).length ≤ 16 := by
  have h1 := dcD_len hc
  have h2 := monT_len h
  unfold trmT
  split
  · omega
  · split
    · omega
    · rw [List.length_append]; omega
theorem jnT_len {f : Nat → T} : ∀ k, (∀ i, i < k → (1 ≤ (f i).c ∧ (f i).c ≤ 100) ∧ (f i).m.ok = true) → (jnT f k).length ≤ 17 * k
  | 0, _ => by simp [jnT]
  | k + 1, h => by
    have h1 := jnT_len k (fun i hi => h i (by omega))
    have h2 := trmT_len (h k (by omega)).1.2 (h k (by omega)).2
    unfold jnT
    rw [List.length_append]
    split
    · simp; omega
    · rw [List.length_append]; simp; omega
theorem fpw_head {c : UInt8} {n : Int} (h : 1 ≤ n) : ∃ r, fpw c n = c :: r := by
  unfold fpw
  rw [if_neg (by omega)]
  split
  · exact ⟨[], rfl⟩
  · exact ⟨_, rfl⟩
theorem fpw_nil {c : UInt8} {n : Int} (h : n ≤ 0) : fpw c n = [] := by unfold fpw; rw [if_pos h]
/-- a monomial but 1 has a text that opens with a letter. -/
theorem monS_head {m : M} (h : M.ok m = true) (h0 : ¬ (m.x = 0 ∧ m.y = 0 ∧ m.d = 0 ∧ m.e = 0)) : ∃ c r, monS m = c :: r ∧ (c = 120 ∨ c = 121 ∨ c = 100 ∨ c = 101) := by
  obtain ⟨x1, x2, y1, y2, d1, d2, e1, e2⟩ := M.ok_iff.1 h
  rw [monS_is]
  by_cases hx : 1 ≤ m.x
  · obtain ⟨r, hr⟩ := fpw_head (c := 120) hx
    exact ⟨120, _, by rw [hr]; rfl, .inl rfl⟩
  rw [fpw_nil (c := 120) (by omega), List.nil_append]
  by_cases hy : 1 ≤ m.y
  · obtain ⟨r, hr⟩ := fpw_head (c := 121) hy
    exact ⟨121, _, by rw [hr]; rfl, .inr (.inl rfl)⟩
  rw [fpw_nil (c := 121) (by omega), List.nil_append]
  by_cases hd : 1 ≤ m.d
  · obtain ⟨r, hr⟩ := fpw_head (c := 100) hd
    exact ⟨100, _, by rw [hr]; rfl, .inr (.inr (.inl rfl))⟩
  rw [fpw_nil (c := 100) (by omega), List.nil_append]
  by_cases he : 1 ≤ m.e
  · obtain ⟨r, hr⟩ := fpw_head (c := 101) he
    exact ⟨101, _, hr, .inr (.inr (.inr rfl))⟩
  · exact absurd ⟨by omega, by omega, by omega, by omega⟩ h0
theorem monT_not1 {m : M} (h : M.ok m = true) (h0 : ¬ (m.x = 0 ∧ m.y = 0 ∧ m.d = 0 ∧ m.e = 0)) : monT m ≠ [49] ∧ monT m ≠ [] := by
  obtain ⟨c, r, e, hc⟩ := monS_head h h0
  rw [monT_is h (by rw [e]; simp), e]
  refine ⟨fun q => ?_, by simp⟩
  rw [List.cons.injEq] at q
  rcases hc with rfl | rfl | rfl | rfl <;> exact absurd q.1 (by decide)
theorem monT_1 : monT ⟨0, 0, 0, 0⟩ = [49] := by decide +kernel
/-- joined texts. -/
theorem joinTail_snoc (sep : List UInt8) (r : List (List UInt8)) (y : List UInt8) : Lib.joinTail sep (r ++ [y]) = Lib.joinTail sep r ++ sep ++ y := by
  unfold Lib.joinTail
  simp
theorem join_snoc (sep : List UInt8) (l : List (List UInt8)) (y : List UInt8) : Lib.join (l ++ [y]) sep = (if l.length = 0 then [] else Lib.join l sep ++ sep) ++ y := by
  cases l with
  | nil => simp [Lib.join_one]
  | cons x r => rw [List.cons_append, Lib.join_cons, Lib.join_cons, joinTail_snoc, if_neg (by simp)]; simp
def txs (f : Nat → T) (k : Nat) : List (List UInt8) := (List.range k).map fun i => trmT (f i)
theorem txs_len (f : Nat → T) (k : Nat) : (txs f k).length = k := by simp [txs]
theorem txs_succ (f : Nat → T) (k : Nat) : txs f (k + 1) = txs f k ++ [trmT (f k)] := by simp [txs, List.range_succ]
theorem join_txs (f : Nat → T) : ∀ k, Lib.join (txs f k) [43] = jnT f k
  | 0 => by simp [txs, jnT, Lib.join_nil]
  | k + 1 => by
    rw [txs_succ, join_snoc, txs_len, join_txs f k]
    rfl
/-! the library's table -/
abbrev Tb (w : World) : Prop := Lib.TabIs Tryd.prog w "internal/strconv.uint64pow10" .u64 Lib.pow10Tab
theorem Tb.below {w w' : World} (h : Tb w) (hb : Below w.heap.size w w') : Tb w' := Lib.tabBelow_of_tabIs h w' hb
shelf_lay LaysM.n171 Nm 171 at Tryd as layM171
theorem itoaAll (n : Nat) (hn : n ≤ 100) (w : World) (h : Tb w) : Calls Tryd.prog 23 #[.int .i64 (n : Int)] w fun e w' => e = .returned (.string ⟨(Lib.decDigits n).toArray⟩) ∧ Below w.heap.size w w' := by
  refine (Any.strconv_Itoa layM171 (n : Int) (by omega) (by omega) w h).mono ?_
  rintro e w' ⟨rfl, k, os, rfl⟩
  refine ⟨?_, ?_⟩
  · unfold Lib.itoa
    rw [if_neg (by omega), Int.toNat_natCast]
  · exact Lib.below_grow _ _ (Nat.le_refl _) _ _
end Go.Proofs.YtnfgiplgkobnlabDoor
