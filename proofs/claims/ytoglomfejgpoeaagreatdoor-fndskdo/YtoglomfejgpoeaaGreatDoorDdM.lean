/-
  What a line does (DskDo), as lists.
-/
import Derived.Test.YtoglomfejgpoeaaGreatDoorGbj
import Derived.Test.YtoglomfejgpoeaaGreatDoorGac
import Derived.Test.YtoglomfejgpoeaaGreatDoorGak
import Derived.Test.YtoglomfejgpoeaaGreatDoorGbn
import Derived.Test.YtoglomfejgpoeaaGreatDoorGbd
import Derived.Test.YtoglomfejgpoeaaGreatDoorGbf
import Derived.Test.YtoglomfejgpoeaaGreatDoorGbg
import Derived.Test.YtoglomfejgpoeaaGreatDoorGax
import Derived.Test.YtoglomfejgpoeaaGreatDoorGbb
namespace Go.Proofs.YtoglomfejgpoeaaGreatDoor
open Go.RowKit
set_option linter.unusedVariables false
def noT : Nat → T := fun _ => ⟨0, ⟨0, 0, 0, 0⟩⟩
/-- what goes to a line's slot. -/
def dskDo (k to a b : Int) (p : List T) (m : Nat) (ln : Nat → Nat) (F : Nat → Nat → T) : List T × Bool :=
  if m = 6 ∧ lnT k to a b p.length (lf p) ≠ [] then
    if k = 1 then (p, true)
    else if k = 2 then polAdd (F a.toNat) (ln a.toNat) (F b.toNat) (ln b.toNat)
    else if k = 3 then wylMul (F a.toNat) (ln a.toNat) (F b.toNat) (ln b.toNat)
    else if k = 4 then wylApart (F a.toNat) (ln a.toNat) (F b.toNat) (ln b.toNat)
    else if k = 5 then wylDo (F a.toNat) (ln a.toNat) (F b.toNat) (ln b.toNat)
    else if k = 6 then mapRound (F a.toNat) (ln a.toNat)
    else if k = 7 then mapBack (F a.toNat) (ln a.toNat)
    else polAdd (F to.toNat) (ln to.toNat) noT 0
  else ([], false)
theorem dskDo_no {k to a b : Int} {p : List T} {m : Nat} {ln : Nat → Nat} {F : Nat → Nat → T} (h : ¬ (m = 6 ∧ lnT k to a b p.length (lf p) ≠ [])) : dskDo k to a b p m ln F = ([], false) := if_neg h
theorem lnT_whl {k to a b : Int} {n : Nat} {f : Nat → T} (h : lnT k to a b n f ≠ []) : whl k to a b n f = true := by
  cases e : whl k to a b n f
  · exact absurd (lnT_no e) h
  · rfl
theorem whl_facts {k to a b : Int} {n : Nat} {f : Nat → T} (h : lnT k to a b n f ≠ []) : (1 ≤ k ∧ k ≤ 8) ∧ (0 ≤ to ∧ to ≤ 5) ∧ (0 ≤ a ∧ a ≤ 5) ∧ (0 ≤ b ∧ b ≤ 5) ∧ polOk n f = true := by
  have := of_decide_eq_true (lnT_whl h)
  exact ⟨this.1, this.2.1, this.2.2.1, this.2.2.2.1, this.2.2.2.2.1⟩
theorem addT_rest (f : Nat → T) (la : Nat) (g : Nat → T) : ∀ u i, la - i = u → addT f la g 0 i 0 = (List.range' i u).map f
  | 0, i, h => by rw [addT_end (by omega) (by omega)]; rfl
  | u + 1, i, h => by
    rw [addT_gt (by omega) (.inl (by omega)), addT_rest f la g u (i + 1) (by omega)]
    rfl
theorem lf_all (p : List T) : (List.range' 0 p.length).map (lf p) = p := by
  refine List.ext_getElem (by simp) (fun i h1 h2 => ?_)
  simp [lf, List.getD_eq_getElem?_getD, List.getElem?_eq_getElem h2]
theorem polAdd_none {p : List T} {g : Nat → T} (h : polOk p.length (lf p) = true) : polAdd (lf p) p.length g 0 = (p, true) := by
  have e : addT (lf p) p.length g 0 0 0 = p := by rw [addT_rest (lf p) p.length g p.length 0 (by omega), lf_all]
  have hl : p.length ≤ 400 := (polOk_is h).1
  have h0 : polOk 0 g = true := by simp [polOk]
  unfold polAdd
  rw [e, if_pos ⟨h, h0, hl⟩]
theorem dskDo_len (k to a b : Int) (p : List T) (m : Nat) (ln : Nat → Nat) (F : Nat → Nat → T) : (dskDo k to a b p m ln F).1.length ≤ 400 := by
  unfold dskDo
  split
  · next h =>
    repeat' split
    · exact (polOk_is (whl_facts h.2).2.2.2.2).1
    · exact polAdd_len _ _ _ _
    · exact wylMul_len _ _ _ _
    · exact wylApart_len _ _ _ _
    · exact wylDo_len _ _ _ _
    · exact mapRound_len _ _
    · exact mapBack_len _ _
    · exact polAdd_len _ _ _ _
  · exact Nat.zero_le _
theorem rd_none (w : World) (g : Nat → T) : Rd w none 0 0 g := ⟨Nat.le_refl _, by omega, .inl rfl⟩
theorem rd_empty (w : World) (a : Option Addr) (g : Nat → T) : Rd w a 0 0 g := ⟨Nat.le_refl _, by omega, .inl rfl⟩
/-- the four cells that both operators of a line are found by. -/
abbrev Four (B sb : Nat) (x y : Int) (off A C : Nat) (u v : Value) (w : World) : Prop :=
  w.cell? ⟨B, 2, none⟩ = some (.int .i64 x) ∧ w.cell? ⟨B, 3, none⟩ = some (.int .i64 y) ∧ w.cell? ⟨sb, off + A, none⟩ = some u ∧ w.cell? ⟨sb, off + C, none⟩ = some v
end Go.Proofs.YtoglomfejgpoeaaGreatDoor
