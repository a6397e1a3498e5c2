/-
  A form of the times is drawn.
  What operators do, as lists: the contracts, and the draw of an operator and a form.
  The least monomial that two divide: the model's and the program's function.
-/
import Derived.Test.YtnfimnfaejjagaaGay
import Derived.Test.YtnfimnfaejjagaaGaz
import Derived.Test.YtnfimnfaejjagaaGba
import Derived.Test.YtnfimnfaejjagaaGac
import Derived.Test.YtnfimnfaejjagaaGad
import Derived.Deep.RegionHeld3
import Derived.Deep.Light
namespace Go.Proofs.Ytnfimnfaejjagaa
open Go.RowKit
set_option linter.unusedVariables false

set_option maxRecDepth 100000 in
set_option maxHeartbeats 4000000 in
theorem form_any (w : World) (B p : Nat) (n : Int) (h : Rdr w B p) (hn0 : 0 ≤ n) (hn : n ≤ 50) (hp : p ≤ 10000) :
    Calls Try.prog 37 #[.pointer (some ⟨B, 0, none⟩), .int .i64 n] w fun r w' => ∃ (v : Value) (L : List T) (q : Nat), r = .returned v ∧ w'.ownsRow w.heap.size 36 5 v L.length (cellsL L) ∧ (L.length : Int) ≤ n ∧ (q : Int) ≤ p + 1 + 3 * n ∧ Rdr w' B q ∧ Beside B w w' := by
  have hB := h.lt
  have HO0 := Hid.mk' (owns_none w w.heap.size (Nat.le_refl _))
  have HR0 := Hid.mk' (h.alloc (.cells #[] 36))
  have HB0 := Hid.mk' ((Beside.refl B w).alloc (.cells #[] 36))
  clear h
  go_enter Try.func37, Try.ntmps37
  go_wp2_with fail
  generalize (w.alloc (.cells #[] 36)) = W at HO0 HR0 HB0 ⊢
  refine (pick_any _ B p (n + 1) HR0.out (by omega) (by omega) (by omega)).mono ?_
  rintro e w1 ⟨k, rfl, k0, k1, hk⟩
  have HR1 := Hid.mk' (hk.rdr HR0.out)
  have HB1 := Hid.mk' (HB0.out.trans hk.beside)
  have HO1 := Hid.mk' (owns_beside HO0.out hk.beside hB)
  clear hk HO0 HR0 HB0
  go_wp2
  go_loopw [5, 6] (fun v i wr => ∃ (j : Nat) (L : List T) (q : Nat), i = .int .i64 j ∧ wr.ownsRow w.heap.size 36 5 v L.length (cellsL L) ∧ (L.length : Int) + j ≤ n ∧ Hid (Cok L) ∧ (q : Int) + 3 * j ≤ p + 1 + 3 * n ∧ Rdr wr B q ∧ Beside B w wr) (fun _ i _ => (intOf i).toNat)
  case atStart => exact ⟨k.toNat, [], p + 1, by rw [Int.toNat_of_nonneg k0], HO1.out, by simp; omega, cok_nil, by omega, HR1.out, HB1.out⟩
  case round =>
    obtain ⟨j, L, q, rfl, ho, hl, hc, hq, hR, hb⟩ := hrel
    by_cases hj : 0 < j
    · obtain ⟨m, rfl⟩ : ∃ m, j = m + 1 := ⟨j - 1, by omega⟩
      have HO := Hid.mk' ho
      have HR := Hid.mk' hR
      have HB := Hid.mk' hb
      have hjb : (0 : Int) < ((m + 1 : Nat) : Int) := by omega
      clear ho hR hb
      go_wp2_with fail
      refine (pick_any wr B q 100 HR.out (by omega) (by omega) (by omega)).mono ?_
      rintro e w2 ⟨c, rfl, c0, c1, hk⟩
      have HR2 := Hid.mk' (hk.rdr HR.out)
      have HB2 := Hid.mk' (HB.out.trans hk.beside)
      have HO2 := Hid.mk' (owns_beside HO.out hk.beside hB)
      clear hk HR HB HO
      go_wp2_with fail
      refine (pick_any w2 B _ 6 HR2.out (by omega) (by omega) (by omega)).mono ?_
      rintro e w3 ⟨x, rfl, x0, x1, hk⟩
      have HR3 := Hid.mk' (hk.rdr HR2.out)
      have HB3 := Hid.mk' (HB2.out.trans hk.beside)
      have HO3 := Hid.mk' (owns_beside HO2.out hk.beside hB)
      clear hk HR2 HB2 HO2
      go_wp2_with fail
      refine (pick_any w3 B _ 5 HR3.out (by omega) (by omega) (by omega)).mono ?_
      rintro e w5 ⟨y, rfl, y0, y1, hk⟩
      have HR5 := Hid.mk' (hk.rdr HR3.out)
      have HB5 := Hid.mk' (HB3.out.trans hk.beside)
      have HO5 := Hid.mk' (owns_beside HO3.out hk.beside hB)
      clear hk HR3 HB3 HO3
      go_wp2_with fail
      refine (l4PutS _ w.heap.size _ L (1 + c) x y 0 0 HO5.out HB5.out.size (by omega) hc.out (by omega) (by omega)).mono ?_
      rintro e w4 ⟨v4, rfl, hb4, ho4⟩
      have HR4 := Hid.mk' (HR5.out.beside (beside_of_below hb4))
      have HB4 := Hid.mk' (HB5.out.trans (beside_of_below hb4))
      have HO4 := Hid.mk' ho4
      have HC4 := Hid.mk' (putT_c (c := 1 + c) (m := ⟨x, y, 0, 0⟩) hc.out (by omega) (by omega))
      have hl4 := putT_len (1 + c) ⟨x, y, 0, 0⟩ L
      clear hb4 ho4 HR5 HB5 HO5
      go_wp2
      go_roundw
      case rel => exact ⟨m, putT (1 + c) ⟨x, y, 0, 0⟩ L, _, by first | go_num | (congr 1; omega), HO4.out, by omega, HC4.out, by omega, HR4.out, HB4.out⟩
      case measure => simp [intOf]
    · obtain rfl : j = 0 := by omega
      have HO := Hid.mk' ho
      have HR := Hid.mk' hR
      have HB := Hid.mk' hb
      clear ho hR hb
      go_wp2
      go_ret
      exact ⟨_, L, q, rfl, HO.out, by omega, by omega, HR.out, HB.out⟩
end Go.Proofs.Ytnfimnfaejjagaa
namespace Go.Proofs.Ytnfimnfaejjagaa
open Go.RowKit
set_option linter.unusedVariables false

section
variable {w : World} {a b : Option Addr} {ca cb : Nat} {L K : List T}
theorem wdI_L (ha : RL w a ca L) (hb : RL w b cb K) : Calls Try.prog 10 #[.slice a L.length ca, .slice b K.length cb] w (Two2 w (wdV L K)) :=
  (wylDoI w a b L.length ca K.length cb (lf L) (lf K) ha hb).mono fun _ _ h => two_out h
theorem wdS_L (ha : RL w a ca L) (hb : RL w b cb K) : Calls Try.prog 11 #[.slice a L.length ca, .slice b K.length cb] w (Two2 w (wdV L K)) :=
  (wylDoS w a b L.length ca K.length cb (lf L) (lf K) ha hb).mono fun _ _ h => two_owns (wylDo_len _ _ _ _) h
end
theorem heOne_L (u : World) : Calls Try.prog 17 #[] u (One1 u oneL) := by
  go_enter Try.func17, Try.ntmps17
  go_wp2
  go_ret
  exact ⟨_, _, rfl, bel_one u _, one_RL u ⟨1, ⟨0, 0, 0, 0⟩⟩⟩
set_option maxRecDepth 100000 in
set_option maxHeartbeats 4000000 in
theorem drawWylDo (w : World) (a : Option Addr) (len cap : Nat) (h : Src w a len cap) :
    Calls Try.prog 9 #[.slice a len cap] w (Pair2 w 5 5) := by
  go_enter Try.func9, Try.ntmps9
  go_wp2_with fail
  refine (open_any _ _ _ _ h).mono ?_
  rintro e w1 ⟨rfl, hR1, b1⟩
  have hl1 := hR1.lt
  clear h
  go_wp2_with fail
  refine (pick_any w1 _ _ 12 hR1 (by omega) (by omega) (by omega)).mono ?_
  rintro e w2 ⟨j, rfl, j0, j1, hk⟩
  have hR2 := hk.rdr hR1
  have b2 := hk.beside.below b1 (Nat.le_refl _) (by omega)
  have hs2 := hk.beside.size
  clear hk hR1 b1
  by_cases hj : j = 0
  · subst hj
    go_wp2_with fail
    refine (any_any w2 _ _ 2 hR2 (by omega) (by omega) (by omega)).mono ?_
    rintro e w3 ⟨pa, m, pc, f, q, rfl, hrd, hm, hblk, hq, hR3, s3⟩
    have b3 := s3.below b2 (Nat.le_refl _) (by omega)
    have hne := off_of hblk (show w.heap.size < w2.heap.size by omega)
    have hs3 := s3.size
    clear hR2 s3 b2 hblk
    go_wp2_with fail
    refine (any_any w3 _ _ 2 hR3 (by omega) (by omega) (by omega)).mono ?_
    rintro e w4 ⟨pa', m', pc', g, q', rfl, hrd', hm', hblk', hq', hR4, s4⟩
    have HB := Hid.mk' (s4.below b3 (Nat.le_refl _) (by omega))
    have HA := Hid.mk' (hrd.beside s4 hne)
    have HG := Hid.mk' hrd'
    clear hR3 hR4 s4 b3 hblk' hrd hrd' hne hs2 hs3 hl1 hq hq'
    go_wp2
    refine bodyPost_ret (results_tmp2 rfl _ _ _) rfl ?_
    exact pair_mk HA.out HG.out hm hm' HB.out
  · have hjb : (j == 0) = false := by simp [hj]
    go_wp2_with fail
    refine (pol_any w2 _ _ 4 hR2 (by omega) (by omega) (by omega)).mono ?_
    rintro e w3 ⟨v3, L3, q3, rfl, ho3, hl3, hc3, hq3, hR3, s3⟩
    have b3 := s3.below b2 (Nat.le_refl _) (by omega)
    have hs3 := s3.size
    obtain ⟨a3, c3, hv3, hout3⟩ := out_of_owns ho3 (by omega)
    subst hv3
    clear hR2 s3 b2 hc3
    go_wp2_with fail
    refine (form_any w3 _ _ 4 hR3 (by omega) (by omega) (by omega)).mono ?_
    rintro e w4 ⟨v4, L4, q4, rfl, ho4, hl4, hq4, hR4, s4⟩
    obtain ⟨a4, c4, hv4, hout4⟩ := out_of_owns ho4 (by omega)
    subst hv4
    have HB := Hid.mk' (s4.below b3 (Nat.le_refl _) (by omega))
    have HG := Hid.mk' hout4.1
    have HA : Hid (RL w4 a3 c3 L3) := Rd.beside hout3.1 s4 (off_of hout3.2.2 (show w.heap.size < w2.heap.size by omega))
    clear hR3 hR4 s4 b3 ho3 ho4 hout3 hout4 hs2 hs3 hl1 hq3 hq4
    go_wp2
    refine bodyPost_ret (results_tmp2 rfl _ _ _) rfl ?_
    exact ⟨_, _, L3, _, _, L4, rfl, HA.out, HG.out, by omega, by omega, HB.out⟩
end Go.Proofs.Ytnfimnfaejjagaa
namespace Go.Proofs.Ytnfimnfaejjagaa
open Go.RowKit
set_option linter.unusedVariables false

def S8 (u : World) (n : Nat) (x0 y0 z0 u0 x1 y1 z1 u1 : Int) : Prop := u.cell? ⟨n, 0, none⟩ = some (.int .i64 x0) ∧ u.cell? ⟨n, 1, none⟩ = some (.int .i64 y0) ∧ u.cell? ⟨n, 2, none⟩ = some (.int .i64 z0) ∧ u.cell? ⟨n, 3, none⟩ = some (.int .i64 u0) ∧ u.cell? ⟨n + 1, 0, none⟩ = some (.int .i64 x1) ∧ u.cell? ⟨n + 1, 1, none⟩ = some (.int .i64 y1) ∧ u.cell? ⟨n + 1, 2, none⟩ = some (.int .i64 z1) ∧ u.cell? ⟨n + 1, 3, none⟩ = some (.int .i64 u1)
theorem S8.mk {u : World} {n : Nat} {x0 y0 z0 u0 x1 y1 z1 u1 : Int} (ha : M4 u n x0 y0 z0 u0) (hb : M4 u (n + 1) x1 y1 z1 u1) : S8 u n x0 y0 z0 u0 x1 y1 z1 u1 :=
  ⟨ha.1, ha.2.1, ha.2.2.1, ha.2.2.2, hb.1, hb.2.1, hb.2.2.1, hb.2.2.2⟩
theorem S8.a {u : World} {n : Nat} {x0 y0 z0 u0 x1 y1 z1 u1 : Int} (h : S8 u n x0 y0 z0 u0 x1 y1 z1 u1) : M4 u n x0 y0 z0 u0 := ⟨h.1, h.2.1, h.2.2.1, h.2.2.2.1⟩
theorem S8.b {u : World} {n : Nat} {x0 y0 z0 u0 x1 y1 z1 u1 : Int} (h : S8 u n x0 y0 z0 u0 x1 y1 z1 u1) : M4 u (n + 1) x1 y1 z1 u1 := ⟨h.2.2.2.2.1, h.2.2.2.2.2.1, h.2.2.2.2.2.2.1, h.2.2.2.2.2.2.2⟩
theorem s8_drew {u : World} {n : Nat} {x0 y0 z0 u0 x1 y1 z1 u1 : Int} (h : S8 u n x0 y0 z0 u0 x1 y1 z1 u1) : S8 u.drew n x0 y0 z0 u0 x1 y1 z1 u1 := .mk h.a.drew' h.b.drew'
theorem m4_far {u : World} {B b : Nat} {v0 v1 v2 v3 : Value} {x y d e : Int} (m : M4 u b x y d e) (h : b ≠ B) : M4 ((((u.setCell ⟨B, 0, none⟩ v0).setCell ⟨B, 1, none⟩ v1).setCell ⟨B, 2, none⟩ v2).setCell ⟨B, 3, none⟩ v3) b x y d e :=
  ⟨(far4 h).trans m.1, (far4 h).trans m.2.1, (far4 h).trans m.2.2.1, (far4 h).trans m.2.2.2⟩
theorem s8_set {u : World} {n B : Nat} {v0 v1 v2 v3 : Value} {x0 y0 z0 u0 x1 y1 z1 u1 : Int} (h : S8 u n x0 y0 z0 u0 x1 y1 z1 u1) (hB : n + 1 < B) : S8 ((((u.setCell ⟨B, 0, none⟩ v0).setCell ⟨B, 1, none⟩ v1).setCell ⟨B, 2, none⟩ v2).setCell ⟨B, 3, none⟩ v3) n x0 y0 z0 u0 x1 y1 z1 u1 :=
  .mk (m4_far h.a (by omega)) (m4_far h.b (by omega))
end Go.Proofs.Ytnfimnfaejjagaa
