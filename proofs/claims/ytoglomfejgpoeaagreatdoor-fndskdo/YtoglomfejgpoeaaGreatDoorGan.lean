/-
  What the functions of the program's chapter 3 return: whether terms are an operator, an operator of one term, the number of a monomial.
  More of the program's chapter 3: the number of a monomial, whether operators are the same, whether one has no slopes, so many times an operator.
  The program's text of a term.
-/
import Derived.Test.YtoglomfejgpoeaaGreatDoorGam
import Derived.Test.YtoglomfejgpoeaaGreatDoorGak
import Derived.Test.YtoglomfejgpoeaaGreatDoorGaf
import Derived.Test.YtoglomfejgpoeaaGreatDoorGac
import Derived.Test.YtoglomfejgpoeaaGreatDoorGag
import Derived.Laws.MakeOwn
namespace Go.Proofs.YtoglomfejgpoeaaGreatDoor
open Go.RowKit
set_option linter.unusedVariables false

theorem owns_nil (w : World) (lo : Nat) : w.ownsRow lo 80 5 (.slice none 0 0) 0 (cellsL []) := ⟨rfl, .inl ⟨rfl, rfl⟩⟩
end Go.Proofs.YtoglomfejgpoeaaGreatDoor
namespace Go.Proofs.YtoglomfejgpoeaaGreatDoor
open Go.RowKit
set_option linter.unusedVariables false

theorem s4c_below {w w' : World} {b : Nat} {x y d e : Int} (hb : Below w.heap.size w w') (h : w.cell? ⟨b, 0, none⟩ = some (.int .i64 x) ∧ w.cell? ⟨b, 1, none⟩ = some (.int .i64 y) ∧ w.cell? ⟨b, 2, none⟩ = some (.int .i64 d) ∧ w.cell? ⟨b, 3, none⟩ = some (.int .i64 e)) :
    w'.cell? ⟨b, 0, none⟩ = some (.int .i64 x) ∧ w'.cell? ⟨b, 1, none⟩ = some (.int .i64 y) ∧ w'.cell? ⟨b, 2, none⟩ = some (.int .i64 d) ∧ w'.cell? ⟨b, 3, none⟩ = some (.int .i64 e) := M4.below h hb
theorem polOf_len (c : Int) (m : M) : (polOf c m).length ≤ 400 := by
  unfold polOf; split <;> simp
theorem polScale_len (c : Int) (f : Nat → T) (n : Nat) : (polScale c f n).length ≤ 400 := by
  unfold polScale; split
  · rename_i h; rw [scT_len]; exact (polOk_c h.2.1).1
  · simp
end Go.Proofs.YtoglomfejgpoeaaGreatDoor
namespace Go.Proofs.YtoglomfejgpoeaaGreatDoor
open Go.RowKit
set_option linter.unusedVariables false
set_option linter.unusedSimpArgs false
theorem mon_of {x y d e : Int} {p : List UInt8} (h : monT ⟨x, y, d, e⟩ = p) (w : World) : Calls Tryz.prog 142 #[.agg #[.int .i64 x, .int .i64 y, .int .i64 d, .int .i64 e]] w fun r w' => r = .returned (.string ⟨p.toArray⟩) ∧ Below w.heap.size w w' := by
  rw [← h]; exact monTextI x y d e w
theorem itoa_of {n : Nat} {p : List UInt8} (h : Lib.decDigits n = p) (hn : n ≤ 9223372036854775807) (w : World) (hT : Tb w) : Calls Tryz.prog 63 #[.int .i64 (n : Int)] w fun r w' => r = .returned (.string ⟨p.toArray⟩) ∧ Below w.heap.size w w' := by
  rw [← h]; exact itoaAll n hn w hT
set_option maxRecDepth 100000 in
set_option maxHeartbeats 4000000 in
theorem polTermTextI (C : Nat) (hC : C ≤ 9223372036854775807) (x y d e : Int) (hm : M.ok ⟨x, y, d, e⟩ = true) (w : World) (hT : Tb w) :
    Calls Tryz.prog 110 #[.agg #[.int .i64 (C : Int), .int .i64 x, .int .i64 y, .int .i64 d, .int .i64 e]] w fun r w' => r = .returned (.string ⟨(trmT ⟨(C : Int), ⟨x, y, d, e⟩⟩).toArray⟩) ∧ Below w.heap.size w w' := by
  obtain ⟨MT, hMT⟩ : ∃ MT, monT ⟨x, y, d, e⟩ = MT := ⟨_, rfl⟩
  have hml : MT.length ≤ 12 := by rw [← hMT]; exact monT_len hm
  obtain ⟨DT, hDT⟩ : ∃ DT, Lib.decDigits C = DT := ⟨_, rfl⟩
  have hdl : DT.length ≤ 20 := by rw [← hDT]; exact dec_len20 hC
  have htrm : trmT ⟨(C : Int), ⟨x, y, d, e⟩⟩ = if x = 0 ∧ y = 0 ∧ d = 0 ∧ e = 0 then DT else if (C : Int) = 1 then MT else DT ++ MT := by
    show (if x = 0 ∧ y = 0 ∧ d = 0 ∧ e = 0 then Lib.decDigits C else if (C : Int) = 1 then monT ⟨x, y, d, e⟩ else Lib.decDigits C ++ monT ⟨x, y, d, e⟩) = _
    rw [hMT, hDT]
  rw [htrm]
  have b0 := bel_one w (.cells #[.int .i64 (C : Int), .int .i64 x, .int .i64 y, .int .i64 d, .int .i64 e] 80)
  have HT0 := Hid.mk' (hT.below b0)
  have HB0 := Hid.mk' b0
  clear htrm hT b0
  by_cases hz : x = 0 ∧ y = 0 ∧ d = 0 ∧ e = 0
  · rw [if_pos hz]
    obtain ⟨rfl, rfl, rfl, rfl⟩ := hz
    have HC := Hid.mk' (itoa_of hDT hC _ HT0.out)
    clear hMT hDT
    go_enter Tryz.func110, Tryz.ntmps110
    go_wp2_with fail
    refine HC.out.mono ?_
    rintro r w1 ⟨rfl, hb⟩
    have HB1 := Hid.mk' (bel_next HB0.out hb)
    clear hb
    go_wp2
    go_ret
    exact ⟨rfl, HB1.out⟩
  · rw [if_neg hz]
    have key : ¬ x = 0 ∨ (x = 0 ∧ ¬ y = 0) ∨ (x = 0 ∧ y = 0 ∧ ¬ d = 0) ∨ (x = 0 ∧ y = 0 ∧ d = 0 ∧ ¬ e = 0) := by omega
    clear hz
    by_cases h1 : (C : Int) = 1
    · rw [if_pos h1]
      have HC := Hid.mk' (mon_of hMT (w.alloc (.cells #[.int .i64 1, .int .i64 x, .int .i64 y, .int .i64 d, .int .i64 e] 80)))
      rw [h1] at HB0 ⊢
      clear hMT hDT h1 HT0
      rcases key with k1 | ⟨rfl, k1⟩ | ⟨rfl, rfl, k1⟩ | ⟨rfl, rfl, rfl, k1⟩
      all_goals (
        go_enter Tryz.func110, Tryz.ntmps110
        go_wp2_with fail
        refine HC.out.mono ?_
        rintro r w1 ⟨rfl, hb⟩
        have HB1 := Hid.mk' (bel_next HB0.out hb)
        clear hb
        go_wp2
        go_ret
        exact ⟨rfl, HB1.out⟩)
    · rw [if_neg h1]
      have h1b : ((C : Int) == 1) = false := beq_eq_false_iff_ne.2 h1
      have hsz : ¬ (DT.length + MT.length > 9223372036854775807) := by omega
      have hsz2 : ¬ (9223372036854775807 < DT.length + MT.length) := by omega
      obtain ⟨W, hW⟩ : ∃ W, w.alloc (.cells #[.int .i64 (C : Int), .int .i64 x, .int .i64 y, .int .i64 d, .int .i64 e] 80) = W := ⟨_, rfl⟩
      have q0 : w.heap.size < W.heap.size := by rw [← hW]; simp
      have ne := Ext.there W
      have gg : ∀ j : Nat, W.cell? ⟨w.heap.size, j, none⟩ = #[Value.int .i64 (C : Int), .int .i64 x, .int .i64 y, .int .i64 d, .int .i64 e][j]? := fun j => by rw [← hW, World.cell?_alloc_at _ _ _ _ rfl]
      have s0 : ∀ u : Ext W, u.1.cell? ⟨w.heap.size, 0, none⟩ = some (.int .i64 (C : Int)) := fun u => (u.cell q0).trans (gg 0)
      have s1 : ∀ u : Ext W, u.1.cell? ⟨w.heap.size, 1, none⟩ = some (.int .i64 x) := fun u => (u.cell q0).trans (gg 1)
      have s2 : ∀ u : Ext W, u.1.cell? ⟨w.heap.size, 2, none⟩ = some (.int .i64 y) := fun u => (u.cell q0).trans (gg 2)
      have s3 : ∀ u : Ext W, u.1.cell? ⟨w.heap.size, 3, none⟩ = some (.int .i64 d) := fun u => (u.cell q0).trans (gg 3)
      have s4 : ∀ u : Ext W, u.1.cell? ⟨w.heap.size, 4, none⟩ = some (.int .i64 e) := fun u => (u.cell q0).trans (gg 4)
      rw [hW] at HT0 HB0
      have HT : ∀ u : Ext W, Tb u.1 := fun u => HT0.out.below u.2
      have HTT := Hid.mk' HT
      have HWW := Hid.mk' hW
      clear HT gg hW
      rcases key with k1 | ⟨rfl, k1⟩ | ⟨rfl, rfl, k1⟩ | ⟨rfl, rfl, rfl, k1⟩
      all_goals (
        go_enter Tryz.func110, Tryz.ntmps110
        go_wp2_with fail
        simp only [HWW.out]
        clear HWW
        refine wp_region_ext (by kernel_rfl) (by kernel_rfl) ?_
        repeat (go_big_quiet_step (first | (go_at_call 63; exact ext_grows (itoa_of (by with_reducible assumption) hC _ (HTT.out _))) | (go_at_call 142; exact ext_grows (mon_of (by with_reducible assumption) _)) | fail))
        refine wpQuiet_nil ?_
        rintro _ ⟨v, rfl⟩
        have HV := Hid.mk' (bel_next HB0.out v.2)
        clear s0 s1 s2 s3 s4 ne hMT hDT
        go_wp2
        go_ret
        exact ⟨by first | rfl | (congr 2; apply ByteArray.ext; simp [ByteArray.data_append]; done), HV.out⟩)
end Go.Proofs.YtoglomfejgpoeaaGreatDoor
