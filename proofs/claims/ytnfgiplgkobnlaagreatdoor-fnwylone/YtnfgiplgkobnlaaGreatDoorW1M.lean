/-
  Products with 1 and with 0: as lists; two texts.
-/
import Derived.Test.YtnfgiplgkobnlaaGreatDoorGaz
import Derived.Test.YtnfgiplgkobnlaaGreatDoorGbb
import Derived.Test.YtnfgiplgkobnlaaGreatDoorGbd
namespace Go.Proofs.YtnfgiplgkobnlaaGreatDoor
open Go.RowKit
set_option linter.unusedVariables false

def uniT : T := ⟨1, ⟨0, 0, 0, 0⟩⟩
theorem wy_none {s t : Int} (hs : 0 ≤ s ∧ s ≤ 15) (ht : 0 ≤ t ∧ t ≤ 15) : wy s t 0 = 1 := by
  unfold wy fChoose fFall
  rw [if_pos ⟨hs.1, by omega, by omega, hs.1⟩, if_pos ⟨ht.1, by omega, by omega, by omega⟩]
  show fMul (1 * iv 1 % 101) 1 = 1
  decide +kernel
theorem put_one {t : T} (h : t.c ≠ 0) : putAll [t] [] = [t] := by
  show putT t.c t.m [] = [t]
  unfold putT
  rw [if_neg h]
  simp [addT, mrgI]
theorem emit_one {a b : T} (hx : limX a b = 0) (hy : limY a b = 0) : emitN a b (limX a b + 1) = [termN a b 0 0] := by
  rw [hx, emitN_succ, hy, rowN_succ]
  simp [emitN, rowN]
theorem pair_r {a : T} (h : a.m.ok = true ∧ 1 ≤ a.c ∧ a.c ≤ 100) : pairL a uniT = [a] := by
  obtain ⟨x1, x2, y1, y2, d1, d2, e1, e2⟩ := M.ok_iff.1 h.1
  have hx : limX a uniT = 0 := by unfold limX uniT; simp only; omega
  have hy : limY a uniT = 0 := by unfold limY uniT; simp only; omega
  unfold pairL
  rw [emit_one hx hy]
  have e : termN a uniT 0 0 = a := by
    unfold termN uniT
    simp only
    rw [show ((0 : Nat) : Int) = 0 from rfl, wy_none ⟨d1, d2⟩ (by omega), wy_none ⟨e1, e2⟩ (by omega)]
    rcases a with ⟨c, ⟨x, y, d, e⟩⟩
    simp only at *
    congr 1
    · omega
    · simp
  rw [e]
  exact put_one (by omega)
theorem pair_l {a : T} (h : a.m.ok = true ∧ 1 ≤ a.c ∧ a.c ≤ 100) : pairL uniT a = [a] := by
  obtain ⟨x1, x2, y1, y2, d1, d2, e1, e2⟩ := M.ok_iff.1 h.1
  have hx : limX uniT a = 0 := by unfold limX uniT; simp only; omega
  have hy : limY uniT a = 0 := by unfold limY uniT; simp only; omega
  unfold pairL
  rw [emit_one hx hy]
  have e : termN uniT a 0 0 = a := by
    unfold termN uniT
    simp only
    rw [show ((0 : Nat) : Int) = 0 from rfl, wy_none (by omega) ⟨x1, x2⟩, wy_none (by omega) ⟨y1, y2⟩]
    rcases a with ⟨c, ⟨x, y, d, e⟩⟩
    simp only at *
    congr 1
    · omega
    · simp
  rw [e]
  exact put_one (by omega)
theorem sum_zero (m : M) : m.sum ⟨0, 0, 0, 0⟩ = m := by unfold M.sum; rcases m with ⟨x, y, d, e⟩; simp
theorem zero_sumM (m : M) : M.sum ⟨0, 0, 0, 0⟩ m = m := by unfold M.sum; rcases m with ⟨x, y, d, e⟩; simp
theorem lf_at {A : List T} {i : Nat} (hi : i < A.length) : lf A i = A[i] := by
  unfold lf
  simp [List.getD, List.getElem?_eq_getElem hi]
theorem mul_r {A : List T} (hA : okL A = true) : ∀ k, k ≤ A.length → mulM (lf A) (lf [uniT]) 1 k = some (A.take k)
  | 0, _ => by simp [mulM]
  | k + 1, hk => by
    obtain ⟨l, fA⟩ := okL_falls hA
    have hk' : k < A.length := by omega
    have h0 := fA.2 _ (List.getElem_mem hk')
    rw [mulM, mul_r hA k (by omega), Option.bind_some, rowM, rowM, Option.bind_some]
    show stepM (A.take k) (lf A k) uniT = _
    rw [lf_at hk']
    unfold stepM
    rw [pair_r h0, take_step fA hk', if_pos ⟨by show (M.sum A[k].m ⟨0, 0, 0, 0⟩).ok = true; rw [sum_zero]; exact h0.1, by rw [List.length_take]; omega⟩]
theorem row_l {A : List T} (hA : okL A = true) : ∀ k, k ≤ A.length → rowM [] uniT (lf A) k = some (A.take k)
  | 0, _ => by simp [rowM]
  | k + 1, hk => by
    obtain ⟨l, fA⟩ := okL_falls hA
    have hk' : k < A.length := by omega
    have h0 := fA.2 _ (List.getElem_mem hk')
    rw [rowM, row_l hA k (by omega), Option.bind_some, lf_at hk']
    unfold stepM
    rw [pair_l h0, take_step fA hk', if_pos ⟨by show (M.sum ⟨0, 0, 0, 0⟩ A[k].m).ok = true; rw [zero_sumM]; exact h0.1, by rw [List.length_take]; omega⟩]
theorem ok_uni : okL [uniT] = true := by decide +kernel
theorem wm_r {A : List T} (hA : okL A = true) : wmV A [uniT] = (A, true) := by
  unfold wmV wylMul
  rw [if_pos ⟨hA, ok_uni⟩]
  show mulO (mulM (lf A) (lf [uniT]) 1 A.length) = _
  rw [mul_r hA _ (Nat.le_refl _), List.take_length]
  rfl
theorem wm_l {A : List T} (hA : okL A = true) : wmV [uniT] A = (A, true) := by
  unfold wmV wylMul
  rw [if_pos ⟨ok_uni, hA⟩]
  show mulO (mulM (lf [uniT]) (lf A) A.length 1) = _
  have e : mulM (lf [uniT]) (lf A) A.length 1 = rowM [] uniT (lf A) A.length := rfl
  rw [e, row_l hA _ (Nat.le_refl _), List.take_length]
  rfl
theorem mul_z (f g : Nat → T) : ∀ k, mulM f g 0 k = some []
  | 0 => rfl
  | k + 1 => by rw [mulM, mul_z f g k]; rfl
theorem wm_z {A : List T} (hA : okL A = true) : wmV A [] = ([], true) := by
  unfold wmV wylMul
  rw [if_pos ⟨hA, by decide⟩]
  show mulO (mulM (lf A) (lf []) 0 A.length) = _
  rw [mul_z]
  rfl
theorem wm_no {A : List T} (hA : okL A = false) (B : List T) : wmV A B = ([], false) := by
  unfold wmV wylMul
  rw [if_neg (fun h => by have := h.1; unfold okL at hA; rw [hA] at this; cases this)]
theorem wm_no2 {A : List T} (hA : okL A = false) (B : List T) : wmV B A = ([], false) := by
  unfold wmV wylMul
  rw [if_neg (fun h => by have := h.2; unfold okL at hA; rw [hA] at this; cases this)]
def dT : T := ⟨1, ⟨0, 0, 1, 0⟩⟩
def xT : T := ⟨1, ⟨1, 0, 0, 0⟩⟩
def yT : T := ⟨1, ⟨0, 1, 0, 0⟩⟩
theorem wm_dx : wmV [dT] [xT] = ([⟨1, ⟨1, 0, 1, 0⟩⟩, uniT], true) := by kernel_rfl
theorem wm_dy : wmV [dT] [yT] = ([⟨1, ⟨0, 1, 1, 0⟩⟩], true) := by kernel_rfl
theorem tx_dx : polT 2 (lf [⟨1, ⟨1, 0, 1, 0⟩⟩, uniT]) = [120, 100, 43, 49] := by
  rw [polT_is (by decide +kernel) (by omega)]
  have e1 : trmT ⟨1, ⟨1, 0, 1, 0⟩⟩ = [120, 100] := by
    unfold trmT
    rw [if_neg (by decide), if_pos rfl]
    decide +kernel
  have e2 : trmT uniT = [49] := by
    unfold trmT
    rw [if_pos (by decide)]
    show Lib.decDigits 1 = [49]
    rw [dec_one (by omega)]
    rfl
  show ((if (1 : Nat) = 0 then [] else ((if (0 : Nat) = 0 then [] else [] ++ [43]) ++ trmT ⟨1, ⟨1, 0, 1, 0⟩⟩) ++ [43]) ++ trmT uniT) = _
  rw [e1, e2]
  rfl
theorem tx_dy : polT 1 (lf [⟨1, ⟨0, 1, 1, 0⟩⟩]) = [121, 100] := by
  rw [polT_is (by decide +kernel) (by omega)]
  have e1 : trmT ⟨1, ⟨0, 1, 1, 0⟩⟩ = [121, 100] := by
    unfold trmT
    rw [if_neg (by decide), if_pos rfl]
    decide +kernel
  show ((if (0 : Nat) = 0 then [] else [] ++ [43]) ++ trmT ⟨1, ⟨0, 1, 1, 0⟩⟩) = _
  rw [e1]
  rfl
theorem txI_of {w : World} {a : Option Addr} {c : Nat} {L : List T} {S : List UInt8} (e : polT L.length (lf L) = S) (h : RL w a c L) (hT : Tb w) : Calls Tryz.prog 6 #[.slice a L.length c] w (Val w (.string ⟨S.toArray⟩)) := by
  rw [← e]; exact polTextI w a L.length c (lf L) h hT
theorem txI_L {w : World} {a : Option Addr} {c : Nat} {L : List T} (h : RL w a c L) (hT : Tb w) : Calls Tryz.prog 6 #[.slice a L.length c] w (Val w (.string ⟨(polT L.length (lf L)).toArray⟩)) := polTextI w a L.length c (lf L) h hT
theorem ofI_L (c x y d e : Int) (w : World) {L : List T} (h : polOf c ⟨x, y, d, e⟩ = L) (hl : L.length ≤ 400) : Calls Tryz.prog 18 #[.int .i64 c, .agg #[.int .i64 x, .int .i64 y, .int .i64 d, .int .i64 e]] w (One1 w L) := by
  subst h
  refine (polOfI c x y d e w).mono ?_
  rintro r w' ⟨v, rfl, hb, ho⟩
  obtain ⟨a, cp, rfl, hO⟩ := out_of_owns ho (by omega)
  exact ⟨a, cp, rfl, hb, hO.1⟩
theorem oneI_L (u : World) : Calls Tryz.prog 13 #[] u (One1 u [uniT]) := by
  go_enter Tryz.func13, Tryz.ntmps13
  go_wp2
  go_ret
  exact ⟨some ⟨u.heap.size, 0, none⟩, 1, rfl, bel_one _ _, one_RL u uniT⟩
end Go.Proofs.YtnfgiplgkobnlaaGreatDoor
