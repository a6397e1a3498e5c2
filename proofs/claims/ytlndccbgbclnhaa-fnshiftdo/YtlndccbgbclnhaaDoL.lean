/-
  What operators do, as lists: the contracts, and the draw of an operator and a form.
-/
import Derived.Test.YtlndccbgbclnhaaRepD
import Derived.Test.YtlndccbgbclnhaaDoB
import Derived.Test.YtlndccbgbclnhaaDoS
import Derived.Test.YtlndccbgbclnhaaFormA
namespace Go.Proofs.Ytlndccbgbclnhaa
open Go.RowKit
set_option linter.unusedVariables false

section
variable {w : World} {a b : Option Addr} {ca cb : Nat} {L K : List T}
theorem wdI_L (ha : RL w a ca L) (hb : RL w b cb K) : Calls Try.prog 16 #[.slice a L.length ca, .slice b K.length cb] w (Two2 w (wdV L K)) :=
  (wylDoI w a b L.length ca K.length cb (lf L) (lf K) ha hb).mono fun _ _ h => two_out h
theorem wdS_L (ha : RL w a ca L) (hb : RL w b cb K) : Calls Try.prog 17 #[.slice a L.length ca, .slice b K.length cb] w (Two2 w (wdV L K)) :=
  (wylDoS w a b L.length ca K.length cb (lf L) (lf K) ha hb).mono fun _ _ h => two_owns (wylDo_len _ _ _ _) h
end
theorem heOne_L (u : World) : Calls Try.prog 40 #[] u (One1 u oneL) := by
  go_enter Try.func40, Try.ntmps40
  go_wp2
  go_ret
  exact ⟨_, _, rfl, bel_one u _, one_RL u ⟨1, ⟨0, 0, 0, 0⟩⟩⟩
set_option maxRecDepth 100000 in
set_option maxHeartbeats 4000000 in
theorem drawWylDo (w : World) (a : Option Addr) (len cap : Nat) (h : Src w a len cap) :
    Calls Try.prog 15 #[.slice a len cap] w (Pair2 w 5 5) := by
  go_enter Try.func15, Try.ntmps15
  go_wp2_with fail
  refine (open_any _ _ _ _ h).mono ?_
  rintro e w1 ⟨rfl, hR1, b1⟩
  have hl1 := hR1.lt
  clear h
  go_wp2_with fail
  refine (pick_any w1 _ _ 12 hR1 (by omega) (by omega) (by omega)).mono ?_
  rintro e w2 ⟨j, rfl, j0, j1, hk⟩
  have hR2 := hk.rdr hR1
  have b2 := hk.beside.below b1 (Nat.le_refl _) (by omega)
  have hs2 := hk.beside.size
  clear hk hR1 b1
  by_cases hj : j = 0
  · subst hj
    go_wp2_with fail
    refine (any_any w2 _ _ 2 hR2 (by omega) (by omega) (by omega)).mono ?_
    rintro e w3 ⟨pa, m, pc, f, q, rfl, hrd, hm, hblk, hq, hR3, s3⟩
    have b3 := s3.below b2 (Nat.le_refl _) (by omega)
    have hne := off_of hblk (show w.heap.size < w2.heap.size by omega)
    have hs3 := s3.size
    clear hR2 s3 b2 hblk
    go_wp2_with fail
    refine (any_any w3 _ _ 2 hR3 (by omega) (by omega) (by omega)).mono ?_
    rintro e w4 ⟨pa', m', pc', g, q', rfl, hrd', hm', hblk', hq', hR4, s4⟩
    have HB := Hid.mk' (s4.below b3 (Nat.le_refl _) (by omega))
    have HA := Hid.mk' (hrd.beside s4 hne)
    have HG := Hid.mk' hrd'
    clear hR3 hR4 s4 b3 hblk' hrd hrd' hne hs2 hs3 hl1 hq hq'
    go_wp2
    refine bodyPost_ret (results_tmp2 rfl _ _ _) rfl ?_
    exact pair_mk HA.out HG.out hm hm' HB.out
  · have hjb : (j == 0) = false := by simp [hj]
    go_wp2_with fail
    refine (pol_any w2 _ _ 4 hR2 (by omega) (by omega) (by omega)).mono ?_
    rintro e w3 ⟨v3, L3, q3, rfl, ho3, hl3, hc3, hq3, hR3, s3⟩
    have b3 := s3.below b2 (Nat.le_refl _) (by omega)
    have hs3 := s3.size
    obtain ⟨a3, c3, hv3, hout3⟩ := out_of_owns ho3 (by omega)
    subst hv3
    clear hR2 s3 b2 hc3
    go_wp2_with fail
    refine (form_any w3 _ _ 4 hR3 (by omega) (by omega) (by omega)).mono ?_
    rintro e w4 ⟨v4, L4, q4, rfl, ho4, hl4, hq4, hR4, s4⟩
    obtain ⟨a4, c4, hv4, hout4⟩ := out_of_owns ho4 (by omega)
    subst hv4
    have HB := Hid.mk' (s4.below b3 (Nat.le_refl _) (by omega))
    have HG := Hid.mk' hout4.1
    have HA : Hid (RL w4 a3 c3 L3) := Rd.beside hout3.1 s4 (off_of hout3.2.2 (show w.heap.size < w2.heap.size by omega))
    clear hR3 hR4 s4 b3 ho3 ho4 hout3 hout4 hs2 hs3 hl1 hq3 hq4
    go_wp2
    refine bodyPost_ret (results_tmp2 rfl _ _ _) rfl ?_
    exact ⟨_, _, L3, _, _, L4, rfl, HA.out, HG.out, by omega, by omega, HB.out⟩
end Go.Proofs.Ytlndccbgbclnhaa
