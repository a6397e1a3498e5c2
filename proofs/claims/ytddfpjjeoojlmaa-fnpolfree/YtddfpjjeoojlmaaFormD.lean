/-
  A draw of a form of the times.
-/
import Derived.Test.YtddfpjjeoojlmaaGar
import Derived.Test.YtddfpjjeoojlmaaGau
namespace Go.Proofs.Ytddfpjjeoojlmaa
open Go.RowKit
set_option linter.unusedVariables false

set_option maxRecDepth 100000 in
set_option maxHeartbeats 4000000 in
theorem form_any (w : World) (B p : Nat) (n : Int) (h : Rdr w B p) (hn0 : 0 ≤ n) (hn : n ≤ 50) (hp : p ≤ 10000) :
    Calls Try.prog 52 #[.pointer (some ⟨B, 0, none⟩), .int .i64 n] w fun r w' => ∃ (v : Value) (L : List T) (q : Nat), r = .returned v ∧ w'.ownsRow w.heap.size 35 5 v L.length (cellsL L) ∧ (L.length : Int) ≤ n ∧ (q : Int) ≤ p + 1 + 3 * n ∧ Rdr w' B q ∧ Beside B w w' := by
  have hB := h.lt
  have HO0 := Hid.mk' (owns_none w w.heap.size (Nat.le_refl _))
  have HR0 := Hid.mk' (h.alloc (.cells #[] 35))
  have HB0 := Hid.mk' ((Beside.refl B w).alloc (.cells #[] 35))
  clear h
  go_enter Try.func52, Try.ntmps52
  go_wp2_with fail
  generalize (w.alloc (.cells #[] 35)) = W at HO0 HR0 HB0 ⊢
  refine (pick_any _ B p (n + 1) HR0.out (by omega) (by omega) (by omega)).mono ?_
  rintro e w1 ⟨k, rfl, k0, k1, hk⟩
  have HR1 := Hid.mk' (hk.rdr HR0.out)
  have HB1 := Hid.mk' (HB0.out.trans hk.beside)
  have HO1 := Hid.mk' (owns_beside HO0.out hk.beside hB)
  clear hk HO0 HR0 HB0
  go_wp2
  go_loopw [5, 6] (fun v i wr => ∃ (j : Nat) (L : List T) (q : Nat), i = .int .i64 j ∧ wr.ownsRow w.heap.size 35 5 v L.length (cellsL L) ∧ (L.length : Int) + j ≤ n ∧ Hid (Cok L) ∧ (q : Int) + 3 * j ≤ p + 1 + 3 * n ∧ Rdr wr B q ∧ Beside B w wr) (fun _ i _ => (intOf i).toNat)
  case atStart => exact ⟨k.toNat, [], p + 1, by rw [Int.toNat_of_nonneg k0], HO1.out, by simp; omega, cok_nil, by omega, HR1.out, HB1.out⟩
  case round =>
    obtain ⟨j, L, q, rfl, ho, hl, hc, hq, hR, hb⟩ := hrel
    by_cases hj : 0 < j
    · obtain ⟨m, rfl⟩ : ∃ m, j = m + 1 := ⟨j - 1, by omega⟩
      have HO := Hid.mk' ho
      have HR := Hid.mk' hR
      have HB := Hid.mk' hb
      have hjb : (0 : Int) < ((m + 1 : Nat) : Int) := by omega
      clear ho hR hb
      go_wp2_with fail
      refine (pick_any wr B q 100 HR.out (by omega) (by omega) (by omega)).mono ?_
      rintro e w2 ⟨c, rfl, c0, c1, hk⟩
      have HR2 := Hid.mk' (hk.rdr HR.out)
      have HB2 := Hid.mk' (HB.out.trans hk.beside)
      have HO2 := Hid.mk' (owns_beside HO.out hk.beside hB)
      clear hk HR HB HO
      go_wp2_with fail
      refine (pick_any w2 B _ 6 HR2.out (by omega) (by omega) (by omega)).mono ?_
      rintro e w3 ⟨x, rfl, x0, x1, hk⟩
      have HR3 := Hid.mk' (hk.rdr HR2.out)
      have HB3 := Hid.mk' (HB2.out.trans hk.beside)
      have HO3 := Hid.mk' (owns_beside HO2.out hk.beside hB)
      clear hk HR2 HB2 HO2
      go_wp2_with fail
      refine (pick_any w3 B _ 5 HR3.out (by omega) (by omega) (by omega)).mono ?_
      rintro e w5 ⟨y, rfl, y0, y1, hk⟩
      have HR5 := Hid.mk' (hk.rdr HR3.out)
      have HB5 := Hid.mk' (HB3.out.trans hk.beside)
      have HO5 := Hid.mk' (owns_beside HO3.out hk.beside hB)
      clear hk HR3 HB3 HO3
      go_wp2_with fail
      refine (l4PutS _ w.heap.size _ L (1 + c) x y 0 0 HO5.out HB5.out.size (by omega) hc.out (by omega) (by omega)).mono ?_
      rintro e w4 ⟨v4, rfl, hb4, ho4⟩
      have HR4 := Hid.mk' (HR5.out.beside (beside_of_below hb4))
      have HB4 := Hid.mk' (HB5.out.trans (beside_of_below hb4))
      have HO4 := Hid.mk' ho4
      have HC4 := Hid.mk' (putT_c (c := 1 + c) (m := ⟨x, y, 0, 0⟩) hc.out (by omega) (by omega))
      have hl4 := putT_len (1 + c) ⟨x, y, 0, 0⟩ L
      clear hb4 ho4 HR5 HB5 HO5
      go_wp2
      go_roundw
      case rel => exact ⟨m, putT (1 + c) ⟨x, y, 0, 0⟩ L, _, by first | go_num | (congr 1; omega), HO4.out, by omega, HC4.out, by omega, HR4.out, HB4.out⟩
      case measure => simp [intOf]
    · obtain rfl : j = 0 := by omega
      have HO := Hid.mk' ho
      have HR := Hid.mk' hR
      have HB := Hid.mk' hb
      clear ho hR hb
      go_wp2
      go_ret
      exact ⟨_, L, q, rfl, HO.out, by omega, by omega, HR.out, HB.out⟩
set_option maxHeartbeats 2000000 in
theorem drawPolFree (w : World) (a : Option Addr) (len cap : Nat) (h : Src w a len cap) :
    Calls Try.prog 29 #[.slice a len cap] w fun e w' => ∃ (a1 : Option Addr) (c1 : Nat) (A : List T), e = .returned (.slice a1 A.length c1) ∧ RL w' a1 c1 A ∧ A.length ≤ 5 ∧ Below w.heap.size w w' := by
  go_enter Try.func29, Try.ntmps29
  go_wp2_with fail
  refine (open_any _ _ _ _ h).mono ?_
  rintro e w1 ⟨rfl, hR1, b1⟩
  have hl1 := hR1.lt
  clear h
  go_wp2_with fail
  refine (pick_any w1 _ _ 2 hR1 (by omega) (by omega) (by omega)).mono ?_
  rintro e w2 ⟨j, rfl, j0, j1, hk⟩
  have hR2 := hk.rdr hR1
  have b2 := hk.beside.below b1 (Nat.le_refl _) (by omega)
  have hs2 := hk.beside.size
  clear hk hR1 b1
  by_cases hj : j = 0
  · subst hj
    go_wp2_with fail
    refine (form_any w2 _ _ 3 hR2 (by omega) (by omega) (by omega)).mono ?_
    rintro e w3 ⟨v, L, q, rfl, ho, hl, hq, hR3, s3⟩
    have b3 := s3.below b2 (Nat.le_refl _) (by omega)
    obtain ⟨a3, c3, hv, hout⟩ := out_of_owns ho (by omega)
    subst hv
    have H := Hid.mk' (And.intro hout.1 b3)
    clear hout ho b3 hR2 hR3 s3 b2
    go_wp2
    go_ret
    exact ⟨_, _, L, rfl, H.out.1, by omega, H.out.2⟩
  · have hjb : (j == 0) = false := by simp [hj]
    go_wp2_with fail
    refine (any_any w2 _ _ 6 hR2 (by omega) (by omega) (by omega)).mono ?_
    rintro e w3 ⟨pa, m, pc, f, q, rfl, hrd, hm, hblk, hq, hR3, s3⟩
    have b3 := s3.below b2 (Nat.le_refl _) (by omega)
    obtain ⟨A, hA0, hA⟩ := list_of hrd
    subst hA0
    have H := Hid.mk' (And.intro hA b3)
    clear hrd hA b3 hR2 hR3 s3 b2
    go_wp2
    go_ret
    exact ⟨_, _, A, rfl, H.out.1, hm, H.out.2⟩
theorem ordS_L {w : World} {a : Option Addr} {ca : Nat} {L : List T} (ha : RL w a ca L) : Calls Try.prog 33 #[.slice a L.length ca] w (Val w (.int .i64 (moL slp L))) := filOrderS w a L.length ca (lf L) ha
theorem free_iff {L : List T} (h : okL L = true) : freeL L = true ↔ moL slp L < 1 := by
  have hF := (okL_falls h).2
  constructor
  · intro hf
    rcases moL_at (q := slp) h with h1 | ⟨t, ht, h1⟩
    · omega
    · obtain ⟨i, hi, rfl⟩ := List.mem_iff_getElem.1 ht
      simp only [freeL, polFree, Bool.and_eq_true, decide_eq_true_eq] at hf
      have := hf.2 i hi
      rw [lf_eq hi] at this
      rw [h1]
      show (L[i]).m.d + (L[i]).m.e < 1
      omega
  · intro hm
    simp only [freeL, polFree, Bool.and_eq_true, decide_eq_true_eq]
    refine ⟨h, fun i hi => ?_⟩
    have := moL_ge (q := slp) h (List.getElem_mem hi)
    rw [lf_eq hi]
    have h2 : (L[i]).m.d + (L[i]).m.e ≤ moL slp L := this
    omega
theorem free_sum {L K : List T} (hL : okL L = true) (hK : okL K = true) (hs : (addL L K).length ≤ 400) (h1 : freeL L = true) (h2 : freeL K = true) : freeL (addL L K) = true := by
  have hX : okL (addL L K) = true := okL_of hs (addL_facts (okL_falls hL).2 (okL_falls hK).2).1
  have := mo_sum_le (q := slp) hL hK hs
  have a := (free_iff hL).1 h1
  have b := (free_iff hK).1 h2
  exact (free_iff hX).2 (by omega)
theorem free_ok {L : List T} (h : okL L = false) : freeL L = false := by
  unfold freeL polFree
  rw [show polOk L.length (lf L) = false from h]
  rfl
end Go.Proofs.Ytddfpjjeoojlmaa
