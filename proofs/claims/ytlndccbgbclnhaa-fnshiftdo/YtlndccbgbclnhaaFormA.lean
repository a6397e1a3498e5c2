/-
  A form of the times is drawn.
-/
import Derived.Test.YtlndccbgbclnhaaGay
namespace Go.Proofs.Ytlndccbgbclnhaa
open Go.RowKit
set_option linter.unusedVariables false

set_option maxRecDepth 100000 in
set_option maxHeartbeats 4000000 in
theorem form_any (w : World) (B p : Nat) (n : Int) (h : Rdr w B p) (hn0 : 0 ≤ n) (hn : n ≤ 50) (hp : p ≤ 10000) :
    Calls Try.prog 47 #[.pointer (some ⟨B, 0, none⟩), .int .i64 n] w fun r w' => ∃ (v : Value) (L : List T) (q : Nat), r = .returned v ∧ w'.ownsRow w.heap.size 52 5 v L.length (cellsL L) ∧ (L.length : Int) ≤ n ∧ (q : Int) ≤ p + 1 + 3 * n ∧ Rdr w' B q ∧ Beside B w w' := by
  have hB := h.lt
  have HO0 := Hid.mk' (owns_none w w.heap.size (Nat.le_refl _))
  have HR0 := Hid.mk' (h.alloc (.cells #[] 52))
  have HB0 := Hid.mk' ((Beside.refl B w).alloc (.cells #[] 52))
  clear h
  go_enter Try.func47, Try.ntmps47
  go_wp2_with fail
  generalize (w.alloc (.cells #[] 52)) = W at HO0 HR0 HB0 ⊢
  refine (pick_any _ B p (n + 1) HR0.out (by omega) (by omega) (by omega)).mono ?_
  rintro e w1 ⟨k, rfl, k0, k1, hk⟩
  have HR1 := Hid.mk' (hk.rdr HR0.out)
  have HB1 := Hid.mk' (HB0.out.trans hk.beside)
  have HO1 := Hid.mk' (owns_beside HO0.out hk.beside hB)
  clear hk HO0 HR0 HB0
  go_wp2
  go_loopw [5, 6] (fun v i wr => ∃ (j : Nat) (L : List T) (q : Nat), i = .int .i64 j ∧ wr.ownsRow w.heap.size 52 5 v L.length (cellsL L) ∧ (L.length : Int) + j ≤ n ∧ Hid (Cok L) ∧ (q : Int) + 3 * j ≤ p + 1 + 3 * n ∧ Rdr wr B q ∧ Beside B w wr) (fun _ i _ => (intOf i).toNat)
  case atStart => exact ⟨k.toNat, [], p + 1, by rw [Int.toNat_of_nonneg k0], HO1.out, by simp; omega, cok_nil, by omega, HR1.out, HB1.out⟩
  case round =>
    obtain ⟨j, L, q, rfl, ho, hl, hc, hq, hR, hb⟩ := hrel
    by_cases hj : 0 < j
    · obtain ⟨m, rfl⟩ : ∃ m, j = m + 1 := ⟨j - 1, by omega⟩
      have HO := Hid.mk' ho
      have HR := Hid.mk' hR
      have HB := Hid.mk' hb
      have hjb : (0 : Int) < ((m + 1 : Nat) : Int) := by omega
      clear ho hR hb
      go_wp2_with fail
      refine (pick_any wr B q 100 HR.out (by omega) (by omega) (by omega)).mono ?_
      rintro e w2 ⟨c, rfl, c0, c1, hk⟩
      have HR2 := Hid.mk' (hk.rdr HR.out)
      have HB2 := Hid.mk' (HB.out.trans hk.beside)
      have HO2 := Hid.mk' (owns_beside HO.out hk.beside hB)
      clear hk HR HB HO
      go_wp2_with fail
      refine (pick_any w2 B _ 6 HR2.out (by omega) (by omega) (by omega)).mono ?_
      rintro e w3 ⟨x, rfl, x0, x1, hk⟩
      have HR3 := Hid.mk' (hk.rdr HR2.out)
      have HB3 := Hid.mk' (HB2.out.trans hk.beside)
      have HO3 := Hid.mk' (owns_beside HO2.out hk.beside hB)
      clear hk HR2 HB2 HO2
      go_wp2_with fail
      refine (pick_any w3 B _ 5 HR3.out (by omega) (by omega) (by omega)).mono ?_
      rintro e w5 ⟨y, rfl, y0, y1, hk⟩
      have HR5 := Hid.mk' (hk.rdr HR3.out)
      have HB5 := Hid.mk' (HB3.out.trans hk.beside)
      have HO5 := Hid.mk' (owns_beside HO3.out hk.beside hB)
      clear hk HR3 HB3 HO3
      go_wp2_with fail
      refine (l4PutS _ w.heap.size _ L (1 + c) x y 0 0 HO5.out HB5.out.size (by omega) hc.out (by omega) (by omega)).mono ?_
      rintro e w4 ⟨v4, rfl, hb4, ho4⟩
      have HR4 := Hid.mk' (HR5.out.beside (beside_of_below hb4))
      have HB4 := Hid.mk' (HB5.out.trans (beside_of_below hb4))
      have HO4 := Hid.mk' ho4
      have HC4 := Hid.mk' (putT_c (c := 1 + c) (m := ⟨x, y, 0, 0⟩) hc.out (by omega) (by omega))
      have hl4 := putT_len (1 + c) ⟨x, y, 0, 0⟩ L
      clear hb4 ho4 HR5 HB5 HO5
      go_wp2
      go_roundw
      case rel => exact ⟨m, putT (1 + c) ⟨x, y, 0, 0⟩ L, _, by first | go_num | (congr 1; omega), HO4.out, by omega, HC4.out, by omega, HR4.out, HB4.out⟩
      case measure => simp [intOf]
    · obtain rfl : j = 0 := by omega
      have HO := Hid.mk' ho
      have HR := Hid.mk' hR
      have HB := Hid.mk' hb
      clear ho hR hb
      go_wp2
      go_ret
      exact ⟨_, L, q, rfl, HO.out, by omega, by omega, HR.out, HB.out⟩
end Go.Proofs.Ytlndccbgbclnhaa
