/-
  The draw of an operator and a monomial.
  Draws of operators: what a law gets is some lists of few terms.
  Products of operators as lists, and how far two are from commuting.
-/
import Derived.Test.YtbkighpmkadmmaaGba
import Derived.Deep.RegionWith
import Derived.Test.YtbkighpmkadmmaaGan
import Derived.Test.YtbkighpmkadmmaaGau
import Derived.Test.YtbkighpmkadmmaaGaz
namespace Go.Proofs.Ytbkighpmkadmmaa
open Go.RowKit
set_option linter.unusedVariables false

theorem Rd.setOther {w : World} {a : Option Addr} {n cap g o : Nat} {f : Nat → T} {v : Value} (h : Rd w a n cap f) (hne : n = 0 ∨ ∀ b off, a = some ⟨b, off, none⟩ → b ≠ g) : Rd (w.setCell ⟨g, o, none⟩ v) a n cap f :=
  h.grown (row := some g) ⟨rfl, rfl, rfl, by simp [World.setCell], fun k _ hk => Below.heap_setCell _ _ _ _ (fun e => hk (by rw [e]))⟩ (hne.imp id (fun k b off he hb => k b off he (by cases hb; rfl)))
theorem Rd.beside {w w' : World} {a : Option Addr} {n cap B : Nat} {f : Nat → T} (h : Rd w a n cap f) (hb : Beside B w w') (hne : n = 0 ∨ ∀ b off, a = some ⟨b, off, none⟩ → b ≠ B) : Rd w' a n cap f :=
  h.grown (beside_grown hb) (hne.imp id (fun k b off he hb => k b off he (by cases hb; rfl)))
end Go.Proofs.Ytbkighpmkadmmaa
namespace Go.Proofs.Ytbkighpmkadmmaa
open Go.RowKit
set_option linter.unusedVariables false

theorem off_of {pa : Option Addr} {m B N : Nat} (hblk : m = 0 ∨ ∃ g off, pa = some ⟨g, off, none⟩ ∧ N ≤ g) (hB : B < N) : m = 0 ∨ ∀ b off, pa = some ⟨b, off, none⟩ → b ≠ B := hblk.imp id (fun ⟨g, off, he, hg⟩ b off' hb => by rw [he] at hb; cases hb; omega)
/-- two operators are handed back. -/
def Pair2 (w : World) (n m : Nat) (e : Ending) (w' : World) : Prop := ∃ (a1 : Option Addr) (c1 : Nat) (A : List T) (b1 : Option Addr) (c2 : Nat) (B : List T), e = .returned (.tuple #[.slice a1 A.length c1, .slice b1 B.length c2]) ∧ RL w' a1 c1 A ∧ RL w' b1 c2 B ∧ A.length ≤ n ∧ B.length ≤ m ∧ Below w.heap.size w w'
theorem pair_mk {w w' : World} {a1 b1 : Option Addr} {n1 c1 n2 c2 n m : Nat} {f g : Nat → T} (h1 : Rd w' a1 n1 c1 f) (h2 : Rd w' b1 n2 c2 g) (l1 : n1 ≤ n) (l2 : n2 ≤ m) (hb : Below w.heap.size w w') : Pair2 w n m (.returned (.tuple #[.slice a1 n1 c1, .slice b1 n2 c2])) w' := by
  obtain ⟨A, rfl, hA⟩ := list_of h1
  obtain ⟨B, rfl, hB⟩ := list_of h2
  exact ⟨_, _, A, _, _, B, rfl, hA, hB, l1, l2, hb⟩
end Go.Proofs.Ytbkighpmkadmmaa
namespace Go.Proofs.Ytbkighpmkadmmaa
open Go.RowKit
set_option linter.unusedVariables false

def wmV (L K : List T) : List T × Bool := wylMul (lf L) L.length (lf K) K.length
theorem rowM_falls2 {K : List T} {a : T} {g : Nat → T} {lb : Nat} (hK : Falls K) (ha : a.m.ok = true ∧ 0 ≤ a.c ∧ a.c ≤ 100) (hg : Good g lb) : ∀ k K', k ≤ lb → rowM K a g k = some K' → Falls K'
  | 0, K', _, h => by cases h; exact hK
  | k + 1, K', hk, h => by
    rw [rowM] at h
    cases hr : rowM K a g k with
    | none => rw [hr] at h; cases h
    | some K1 =>
      rw [hr] at h
      change stepM K1 a (g k) = some K' at h
      have h1 := rowM_falls2 hK ha hg k K1 (by omega) hr
      unfold stepM at h
      split at h
      · rename_i hok
        cases h
        have h2 := hg k (by omega)
        exact (addL_facts h1 (pairL_facts ⟨ha.1, h2.1, hok.1, rfl, rfl, rfl, rfl, ha.2, h2.2⟩).1).1
      · cases h
theorem mulM_falls2 {f g : Nat → T} {la lb : Nat} (hf : Good f la) (hg : Good g lb) : ∀ i K, i ≤ la → mulM f g lb i = some K → Falls K
  | 0, K, _, h => by cases h; exact falls_nil
  | i + 1, K, hi, h => by
    rw [mulM] at h
    cases hr : mulM f g lb i with
    | none => rw [hr] at h; cases h
    | some K1 =>
      rw [hr] at h
      exact rowM_falls2 (mulM_falls2 hf hg i K1 (by omega) hr) (hf i (by omega)) hg lb K (Nat.le_refl _) h
theorem wmV_case (L K : List T) : wmV L K = ([], false) ∨ ∃ P, wmV L K = (P, true) ∧ okL P = true := by
  unfold wmV wylMul
  split
  · rename_i h
    obtain ⟨l1, g1⟩ := good_ok h.1
    obtain ⟨l2, g2⟩ := good_ok h.2
    cases hm : mulM (lf L) (lf K) K.length L.length with
    | none => exact .inl rfl
    | some P => exact .inr ⟨P, rfl, okL_of (mulM_len _ P hm) (mulM_falls2 g1 g2 _ P (Nat.le_refl _) hm)⟩
  · exact .inl rfl
theorem sub_swap {P Q : List T} (hP : Falls P) (hQ : Falls Q) : subL Q P = scL 100 (subL P Q) := by
  have h1 := subL_facts hP hQ
  have h2 := subL_facts hQ hP
  refine falls_one h2.1 (scL_falls (by omega) (by omega) h1.1) (fun m _ => ?_)
  have r1 := coef_range hP m
  have r2 := coef_range hQ m
  rw [h2.2, scL_coef, h1.2]
  omega
theorem add_sub {P Q : List T} (hP : Falls P) (hQ : Falls Q) : addL Q (subL P Q) = P := by
  rw [addL_comm hQ (subL_facts hP hQ).1]
  exact sub_back hP hQ
theorem add_neg {X : List T} (hX : Falls X) : addL X (scL 100 X) = [] := sub_self hX
variable {w : World} {a b : Option Addr} {ca cb : Nat} {L K : List T}
theorem wmI_L (ha : RL w a ca L) (hb : RL w b cb K) : Calls Try.prog 29 #[.slice a L.length ca, .slice b K.length cb] w (Two2 w (wmV L K)) :=
  (wylMulI w a b L.length ca K.length cb (lf L) (lf K) ha hb).mono fun _ _ h => two_out h
set_option maxRecDepth 100000 in
set_option maxHeartbeats 4000000 in
theorem drawWylMul (w : World) (a : Option Addr) (len cap : Nat) (h : Src w a len cap) :
    Calls Try.prog 38 #[.slice a len cap] w (Pair2 w 5 5) := by
  go_enter Try.func38, Try.ntmps38
  go_wp2_with fail
  refine (open_any _ _ _ _ h).mono ?_
  rintro e w1 ⟨rfl, hR1, b1⟩
  have hl1 := hR1.lt
  clear h
  go_wp2_with fail
  refine (any_any w1 _ _ 24 hR1 (by omega) (by omega) (by omega)).mono ?_
  rintro e w2 ⟨pa, m, pc, f, q, rfl, hrd, hm, hblk, hq, hR2, s2⟩
  have b2 := s2.below b1 (Nat.le_refl _) (by omega)
  have hne := off_of hblk hl1
  have hs2 := s2.size
  clear hR1 s2 b1 hblk
  go_wp2_with fail
  refine (any_any w2 _ _ 24 hR2 (by omega) (by omega) (by omega)).mono ?_
  rintro e w3 ⟨pa', m', pc', g, q', rfl, hrd', hm', hblk', hq', hR3, s3⟩
  have b3 := s3.below b2 (Nat.le_refl _) (by omega)
  have hne' := off_of hblk' (show w.heap.size < w2.heap.size by omega)
  have hrd3 := hrd.beside s3 hne
  have hs3 := s3.size
  clear hR2 s3 b2 hblk' hrd
  go_wp2_with fail
  refine (pick_any w3 _ _ 24 hR3 (by omega) (by omega) (by omega)).mono ?_
  rintro e w4 ⟨j, rfl, j0, j1, hk⟩
  have HB4 := Hid.mk' (hk.beside.below b3 (Nat.le_refl _) (by omega))
  have HA4 := Hid.mk' (hrd3.beside hk.beside hne)
  have HG4 := Hid.mk' (hrd'.beside hk.beside hne')
  clear hk hR3 b3 hrd3 hrd' hne hne' hs2 hs3 hl1 hq hq'
  by_cases hj : j = 0
  · subst hj
    go_wp2_with fail
    refine (polOfS 1 15 0 14 0 _).mono ?_
    rintro e w5 ⟨v5, rfl, hb5, ho5⟩
    have hl5 : (polOf 1 ⟨15, 0, 14, 0⟩).length ≤ 1 := by unfold polOf; split <;> simp
    obtain ⟨a5, c5, hv5, hout5⟩ := out_of_owns ho5 (by omega)
    subst hv5
    have HB5 := Hid.mk' (bel_next HB4.out hb5)
    have HA5 := Hid.mk' (HA4.out.below hb5)
    have HR5 := Hid.mk' hout5.1
    clear hb5 ho5 hout5
    go_wp2
    refine bodyPost_ret (results_tmp2 rfl _ _ _) rfl ?_
    exact pair_mk HA5.out HR5.out hm (by omega) HB5.out
  · have hjb : (j == 0) = false := by simp [hj]
    go_wp2
    refine bodyPost_ret (results_tmp2 rfl _ _ _) rfl ?_
    exact pair_mk HA4.out HG4.out hm hm' HB4.out
end Go.Proofs.Ytbkighpmkadmmaa
