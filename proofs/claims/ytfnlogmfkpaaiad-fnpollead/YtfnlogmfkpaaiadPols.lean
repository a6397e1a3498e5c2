/-
  The draw of an operator that is ok: some terms of the field's numbers, in memory of its own.
-/
import Derived.Test.YtfnlogmfkpaaiadPut
namespace Go.Proofs.Ytfnlogmfkpaaiad
open Go.RowKit
set_option linter.unusedVariables false

set_option maxRecDepth 100000 in
set_option maxHeartbeats 4000000 in
theorem pol_any (w : World) (B p : Nat) (n : Int) (h : Rdr w B p) (hn0 : 0 ≤ n) (hn : n ≤ 50) (hp : p ≤ 10000) :
    Calls Try.prog 49 #[.pointer (some ⟨B, 0, none⟩), .int .i64 n] w fun r w' => ∃ (v : Value) (L : List T) (q : Nat), r = .returned v ∧ w'.ownsRow w.heap.size 38 5 v L.length (cellsL L) ∧ (L.length : Int) ≤ n ∧ Cok L ∧ (q : Int) ≤ p + 1 + 31 * n ∧ Rdr w' B q ∧ Beside B w w' := by
  have hB := h.lt
  have HO0 := Hid.mk' (owns_none w w.heap.size (Nat.le_refl _))
  have HR0 := Hid.mk' (h.alloc (.cells #[] 38))
  have HB0 := Hid.mk' ((Beside.refl B w).alloc (.cells #[] 38))
  clear h
  go_enter Try.func49, Try.ntmps49
  go_wp2_with fail
  generalize (w.alloc (.cells #[] 38)) = W at HO0 HR0 HB0 ⊢
  refine (pick_any _ B p (n + 1) HR0.out (by omega) (by omega) (by omega)).mono ?_
  rintro e w1 ⟨k, rfl, k0, k1, hk⟩
  have HR1 := Hid.mk' (hk.rdr HR0.out)
  have HB1 := Hid.mk' (HB0.out.trans hk.beside)
  have HO1 := Hid.mk' (owns_beside HO0.out hk.beside hB)
  clear hk HO0 HR0 HB0
  go_wp2
  go_loopw [5, 6] (fun v i wr => ∃ (j : Nat) (L : List T) (q : Nat), i = .int .i64 j ∧ wr.ownsRow w.heap.size 38 5 v L.length (cellsL L) ∧ (L.length : Int) + j ≤ n ∧ Hid (Cok L) ∧ (q : Int) + 31 * j ≤ p + 1 + 31 * n ∧ Rdr wr B q ∧ Beside B w wr) (fun _ i _ => (intOf i).toNat)
  case atStart => exact ⟨k.toNat, [], p + 1, by rw [Int.toNat_of_nonneg k0], HO1.out, by simp; omega, cok_nil, by omega, HR1.out, HB1.out⟩
  case round =>
    obtain ⟨j, L, q, rfl, ho, hl, hc, hq, hR, hb⟩ := hrel
    by_cases hj : 0 < j
    · obtain ⟨m, rfl⟩ : ∃ m, j = m + 1 := ⟨j - 1, by omega⟩
      have HO := Hid.mk' ho
      have HR := Hid.mk' hR
      have HB := Hid.mk' hb
      have hjb : (0 : Int) < ((m + 1 : Nat) : Int) := by omega
      clear ho hR hb
      go_wp2_with fail
      refine (pick_any wr B q 100 HR.out (by omega) (by omega) (by omega)).mono ?_
      rintro e w2 ⟨c, rfl, c0, c1, hk⟩
      have HR2 := Hid.mk' (hk.rdr HR.out)
      have HB2 := Hid.mk' (HB.out.trans hk.beside)
      have HO2 := Hid.mk' (owns_beside HO.out hk.beside hB)
      clear hk HR HB HO
      go_wp2_with fail
      refine (mon_any w2 B _ 99999 HR2.out (by omega) (by omega) (by omega)).mono ?_
      rintro e w3 ⟨x, y, d, z, q3, rfl, hq3, r3, s3⟩
      have HR3 := Hid.mk' r3
      have HB3 := Hid.mk' (HB2.out.trans s3)
      have HO3 := Hid.mk' (owns_beside HO2.out s3 hB)
      clear r3 s3 HR2 HB2 HO2
      go_wp2_with fail
      refine (l4PutS _ w.heap.size _ L (1 + c) x y d z HO3.out HB3.out.size (by omega) hc.out (by omega) (by omega)).mono ?_
      rintro e w4 ⟨v4, rfl, hb4, ho4⟩
      have HR4 := Hid.mk' (HR3.out.beside (beside_of_below hb4))
      have HB4 := Hid.mk' (HB3.out.trans (beside_of_below hb4))
      have HO4 := Hid.mk' ho4
      have HC4 := Hid.mk' (putT_c (c := 1 + c) (m := ⟨x, y, d, z⟩) hc.out (by omega) (by omega))
      have hl4 := putT_len (1 + c) ⟨x, y, d, z⟩ L
      clear hb4 ho4 HR3 HB3 HO3
      go_wp2
      go_roundw
      case rel => exact ⟨m, putT (1 + c) ⟨x, y, d, z⟩ L, q3, by first | go_num | (congr 1; omega), HO4.out, by omega, HC4.out, by omega, HR4.out, HB4.out⟩
      case measure => simp [intOf]
    · obtain rfl : j = 0 := by omega
      have HR := Hid.mk' hR
      obtain ⟨hc1, hf, a, len, cap, hc0, hl0, h0⟩ := hR
      clear hc1 hf h0
      have hlen : (len : Int) ≤ 2000 := by omega
      by_cases hz : len = 0
      · subst hz
        have HO := Hid.mk' (owns_none wr w.heap.size hb.size)
        have HB := Hid.mk' (hb.alloc (.cells #[] 38))
        have HR2 := Hid.mk' (HR.out.alloc (.cells #[] 38))
        clear ho hb
        go_wp2
        go_ret
        exact ⟨_, [], q, rfl, HO.out, by simpa using hn0, cok_nil, by omega, HR2.out, HB.out⟩
      · have hzb : ((len : Int) == 0) = false := by simp; omega
        have HO := Hid.mk' ho
        clear ho
        go_wp2
        go_ret
        exact ⟨_, L, q, rfl, HO.out, by omega, hc.out, by omega, HR.out, hb⟩
end Go.Proofs.Ytfnlogmfkpaaiad
