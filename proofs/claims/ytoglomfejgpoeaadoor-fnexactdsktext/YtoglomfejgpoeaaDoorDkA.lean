/-
  Lines, as lists of bytes.
-/
import Derived.Test.YtoglomfejgpoeaaDoorPxA
import Derived.Test.YtoglomfejgpoeaaDoorStrL
namespace Go.Proofs.YtoglomfejgpoeaaDoor
open Go.RowKit
set_option linter.unusedVariables false
/-- how many slots a line of a kind names. -/
def nmd (k : Int) : Nat := if k = 2 ∨ k = 3 ∨ k = 4 ∨ k = 5 then 3 else if k = 6 ∨ k = 7 then 2 else if k = 1 ∨ k = 8 then 1 else 0
def nam (k : Int) : List UInt8 := if k = 1 then [115, 101, 116] else if k = 2 then [97, 100, 100] else if k = 3 then [109, 117, 108] else if k = 4 then [97, 112, 97, 114, 116] else if k = 5 then [100, 111] else if k = 6 then [114, 111, 117, 110, 100] else if k = 7 then [98, 97, 99, 107] else [115, 104, 111, 119]
def slB (x : Int) : UInt8 := UInt8.ofNat (65 + x).toNat
/-- a line has all that its kind has, and nothing else. -/
def whl (k to a b : Int) (n : Nat) (f : Nat → T) : Bool :=
  decide ((1 ≤ k ∧ k ≤ 8) ∧ (0 ≤ to ∧ to ≤ 5) ∧ (0 ≤ a ∧ a ≤ 5) ∧ (0 ≤ b ∧ b ≤ 5) ∧ polOk n f = true ∧ (2 ≤ nmd k ∨ a = 0) ∧ (3 ≤ nmd k ∨ b = 0) ∧ (k = 1 ∨ n = 0))
def slts (to a b : Int) : List (List UInt8) := [[slB to], [slB a], [slB b]]
def wdsL (k to a b : Int) (n : Nat) (f : Nat → T) : List (List UInt8) := nam k :: ((slts to a b).take (nmd k) ++ if k = 1 then [polT n f] else [])
def rawL (k to a b : Int) (n : Nat) (f : Nat → T) : List UInt8 := Lib.join (wdsL k to a b n f) [32]
def lnT (k to a b : Int) (n : Nat) (f : Nat → T) : List UInt8 := if whl k to a b n f = true ∧ (rawL k to a b n f).length ≤ 400 then rawL k to a b n f else []
theorem lnT_no {k to a b : Int} {n : Nat} {f : Nat → T} (h : whl k to a b n f = false) : lnT k to a b n f = [] := by unfold lnT; rw [if_neg (fun q => by rw [h] at q; cases q.1)]
theorem lnT_long {k to a b : Int} {n : Nat} {f : Nat → T} (h : ¬ (rawL k to a b n f).length ≤ 400) : lnT k to a b n f = [] := by unfold lnT; rw [if_neg (fun q => h q.2)]
theorem lnT_is {k to a b : Int} {n : Nat} {f : Nat → T} (h : whl k to a b n f = true) (hl : (rawL k to a b n f).length ≤ 400) : lnT k to a b n f = rawL k to a b n f := by unfold lnT; rw [if_pos ⟨h, hl⟩]
theorem whl_no {k to a b : Int} {n : Nat} {f : Nat → T} (h : ¬ ((1 ≤ k ∧ k ≤ 8) ∧ (0 ≤ to ∧ to ≤ 5) ∧ (0 ≤ a ∧ a ≤ 5) ∧ (0 ≤ b ∧ b ≤ 5) ∧ polOk n f = true ∧ (2 ≤ nmd k ∨ a = 0) ∧ (3 ≤ nmd k ∨ b = 0) ∧ (k = 1 ∨ n = 0))) : whl k to a b n f = false := decide_eq_false h
theorem sl_byte {x : Int} (h0 : 0 ≤ x) (h5 : x ≤ 5) : UInt8.ofNat ((65 + x) % 256).toNat = slB x := by
  unfold slB
  rw [show (65 + x) % 256 = 65 + x by omega]
theorem raw1 (to a b : Int) (n : Nat) (f : Nat → T) : rawL 1 to a b n f = [115, 101, 116] ++ [32] ++ [slB to] ++ [32] ++ polT n f := by
  show Lib.join [[115, 101, 116], [slB to], polT n f] [32] = _
  simp [Lib.join_cons, Lib.joinTail]
theorem raw8 (to a b : Int) (n : Nat) (f : Nat → T) : rawL 8 to a b n f = [115, 104, 111, 119] ++ [32] ++ [slB to] := by
  show Lib.join [[115, 104, 111, 119], [slB to]] [32] = _
  simp [Lib.join_cons, Lib.joinTail]
theorem raw6 (to a b : Int) (n : Nat) (f : Nat → T) : rawL 6 to a b n f = [114, 111, 117, 110, 100] ++ [32] ++ [slB to] ++ [32] ++ [slB a] := by
  show Lib.join [[114, 111, 117, 110, 100], [slB to], [slB a]] [32] = _
  simp [Lib.join_cons, Lib.joinTail]
theorem raw7 (to a b : Int) (n : Nat) (f : Nat → T) : rawL 7 to a b n f = [98, 97, 99, 107] ++ [32] ++ [slB to] ++ [32] ++ [slB a] := by
  show Lib.join [[98, 97, 99, 107], [slB to], [slB a]] [32] = _
  simp [Lib.join_cons, Lib.joinTail]
theorem raw2 (to a b : Int) (n : Nat) (f : Nat → T) : rawL 2 to a b n f = [97, 100, 100] ++ [32] ++ [slB to] ++ [32] ++ [slB a] ++ [32] ++ [slB b] := by
  show Lib.join [[97, 100, 100], [slB to], [slB a], [slB b]] [32] = _
  simp [Lib.join_cons, Lib.joinTail]
theorem raw3 (to a b : Int) (n : Nat) (f : Nat → T) : rawL 3 to a b n f = [109, 117, 108] ++ [32] ++ [slB to] ++ [32] ++ [slB a] ++ [32] ++ [slB b] := by
  show Lib.join [[109, 117, 108], [slB to], [slB a], [slB b]] [32] = _
  simp [Lib.join_cons, Lib.joinTail]
theorem raw4 (to a b : Int) (n : Nat) (f : Nat → T) : rawL 4 to a b n f = [97, 112, 97, 114, 116] ++ [32] ++ [slB to] ++ [32] ++ [slB a] ++ [32] ++ [slB b] := by
  show Lib.join [[97, 112, 97, 114, 116], [slB to], [slB a], [slB b]] [32] = _
  simp [Lib.join_cons, Lib.joinTail]
theorem raw5 (to a b : Int) (n : Nat) (f : Nat → T) : rawL 5 to a b n f = [100, 111] ++ [32] ++ [slB to] ++ [32] ++ [slB a] ++ [32] ++ [slB b] := by
  show Lib.join [[100, 111], [slB to], [slB a], [slB b]] [32] = _
  simp [Lib.join_cons, Lib.joinTail]
end Go.Proofs.YtoglomfejgpoeaaDoor
