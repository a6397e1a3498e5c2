/-
  How the rows' readings of lists of operators are opened.
  Whether an operator is free of others: the program.
  Operators without bounds: a choice of times and slopes in which every operator is told by what it does; the numbers of its monomials; products of monomials and what stands below them.
-/
import Derived.Test.YtdidlcjhodejjaaGreatGba
import Derived.ProofKit
import Derived.Deep.Slices
import Derived.Lib.SmallJoins
import Derived.Test.YtdidlcjhodejjaaGreatGbc
import Derived.Test.YtdidlcjhodejjaaGreatGaz
import Derived.Test.YtdidlcjhodejjaaGreatGbe
namespace Go.Proofs.YtdidlcjhodejjaaGreat
open Go.RowKit Go.Deep Go.Joins
set_option linter.unusedVariables false

/-- A slice of slices of terms that came in. -/
def IsLists (w : World) (a : Option Addr) (n cap : Nat) (ad : Nat → Option Addr) (ln cp : Nat → Nat) (f : Nat → Nat → T) : Prop :=
  n ≤ cap ∧ cap ≤ maxLen ∧ (n = 0 ∨ ∃ b off, a = some ⟨b, off, none⟩ ∧ b < w.heap.size ∧ ∀ i, i < n → w.cell? ⟨b, off + i, none⟩ = some (.slice (ad i) (ln i) (cp i))) ∧ ∀ i, i < n → IsTerms w (ad i) (ln i) (cp i) (f i)
theorem IsLists.rd {w : World} {a : Option Addr} {n cap : Nat} {ad : Nat → Option Addr} {ln cp : Nat → Nat} {f : Nat → Nat → T} (h : IsLists w a n cap ad ln cp f) (hn : n * 40 ≤ 140737488351232) (hl : ∀ i, i < n → ln i * 40 ≤ 140737488351232) : RdS w a n cap ad ln cp f :=
  ⟨h.1, hn, h.2.2.1, fun i hi => (h.2.2.2 i hi).rd (hl i hi)⟩
theorem cellsOfS : Tryz.prog.cellsOf 60 = 1 := by kernel_rfl
theorem slice_of_trod {H : Type} {enc : TypeId × Value → H} {w : World} {base : Nat} {spare : Nat → Bool} {held : Bool} {fuel : Nat} {v : Value} {x : DataW H × List MemPlace}
    (h : DataW.trod enc Tryz.prog w base spare held fuel 60 [v] = some x) : ∃ (t : Option Addr × Nat × Nat) (f : Nat → T), v = .slice t.1 t.2.1 t.2.2 ∧ IsTerms w t.1 t.2.1 t.2.2 f := by
  have h' := h
  rcases open_slice Tryz.underlying60 h with ⟨hc, _⟩ | ⟨ad, len, cp, m, k, D, Pl, hc, _⟩
  · simp at hc
    subst hc
    obtain ⟨f, hf⟩ := terms_open h'
    exact ⟨(none, 0, 0), f, rfl, hf⟩
  · simp at hc
    subst hc
    obtain ⟨f, hf⟩ := terms_open h'
    exact ⟨(some ad, len, cp), f, rfl, hf⟩
set_option maxRecDepth 100000 in
theorem lists_open {H : Type} {enc : TypeId × Value → H} {w : World} {base : Nat} {spare : Nat → Bool} {held : Bool} {fuel : Nat} {a : Option Addr} {n cap : Nat} {x : DataW H × List MemPlace}
    (h : DataW.trod enc Tryz.prog w base spare held fuel 22 [.slice a n cap] = some x) : ∃ ad ln cp f, IsLists w a n cap ad ln cp f := by
  rcases open_slice Tryz.underlying22 h with ⟨hc, _⟩ | ⟨ad, len, cp, m, k, D, Pl, hc, _, hl, hm, hmm, _, hx⟩
  · simp at hc
    obtain ⟨rfl, rfl, rfl⟩ := hc
    exact ⟨fun _ => none, fun _ => 0, fun _ => 0, fun _ _ => ⟨0, ⟨0, 0, 0, 0⟩⟩, Nat.le_refl _, Nat.zero_le _, .inl rfl, fun i hi => absurd hi (Nat.not_lt_zero _)⟩
  · simp at hc
    obtain ⟨rfl, rfl, rfl⟩ := hc
    by_cases h0 : n = 0
    · exact ⟨fun _ => none, fun _ => 0, fun _ => 0, fun _ _ => ⟨0, ⟨0, 0, 0, 0⟩⟩, hl, hm, .inl h0, fun i hi => by omega⟩
    have hnm : n ≤ m := by rw [hmm]; split <;> omega
    have each : ∀ i, i < n → ∃ t : (Option Addr × Nat × Nat) × (Nat → T), w.cell? (ad.add i) = some (.slice t.1.1 t.1.2.1 t.1.2.2) ∧ IsTerms w t.1.1 t.1.2.1 t.1.2.2 t.2 := by
      intro i hi
      obtain ⟨cs', h1, h2⟩ := hx i (by omega)
      rw [cellsOfS] at h1
      obtain ⟨_, hlen, hcell⟩ := World.cells?_some h1
      match cs', hlen with
      | [v0], _ =>
        obtain ⟨t, f, rfl, ht⟩ := slice_of_trod h2
        have c0 := hcell 0 (by omega)
        rw [add_add] at c0
        exact ⟨(t, f), by simpa using c0, ht⟩
    haveI : Inhabited ((Option Addr × Nat × Nat) × (Nat → T)) := ⟨((none, 0, 0), fun _ => ⟨0, ⟨0, 0, 0, 0⟩⟩)⟩
    obtain ⟨q, hq⟩ := choose_lt each
    obtain ⟨b, off, spot⟩ := ad
    have hs : spot = none := by
      have := World.cell?_spot (hq 0 (by omega)).1
      simpa [Addr.add] using this
    subst hs
    have hadd : ∀ j, (⟨b, off, none⟩ : Addr).add j = ⟨b, off + j, none⟩ := fun j => by unfold Addr.add; split <;> simp_all
    refine ⟨fun i => (q i).1.1, fun i => (q i).1.2.1, fun i => (q i).1.2.2, fun i => (q i).2, hl, hm, .inr ⟨b, off, rfl, ?_, fun i hi => ?_⟩, fun i hi => (hq i hi).2⟩
    · have := World.block_lt_of_cell? w _ (hq 0 (by omega)).1
      rw [hadd] at this
      exact this
    · have := (hq i hi).1
      rw [hadd] at this
      exact this
end Go.Proofs.YtdidlcjhodejjaaGreat
namespace Go.Proofs.YtdidlcjhodejjaaGreat
open Go.RowKit Go.Deep Go.Joins
set_option linter.unusedVariables false

theorem free_eq {o : Int} {np : Nat} {p : Nat → T} {n : Nat} {ln : Nat → Nat} {f : Nat → Nat → T} (o1 : 1 ≤ o) (o2 : o ≤ 3) (hop : polOk np p = true) (hls : lstOk n ln f = true) : redFree o np p n ln f = !decide (0 ≤ idxF (fun t => decide (0 ≤ idxF (fun s => M.dvd s.m t.m) (lf (ldsL o ln f n)) n)) p np) := by
  have key : 0 ≤ idxF (fun t => decide (0 ≤ idxF (fun s => M.dvd s.m t.m) (lf (ldsL o ln f n)) n)) p np ↔ ∃ k, k < np ∧ ∃ i, i < n ∧ M.dvd (ldAt o ln f i).m (p k).m = true := by
    rw [idx_iff]
    refine ⟨fun ⟨k, hk, hd⟩ => ?_, fun ⟨k, hk, i, hi, hd⟩ => ?_⟩
    · obtain ⟨i, hi, h⟩ := idx_iff.1 (of_decide_eq_true hd)
      refine ⟨k, hk, i, hi, ?_⟩
      rw [← ldsL_at o ln f n i hi]
      exact h
    · refine ⟨k, hk, decide_eq_true (idx_iff.2 ⟨i, hi, ?_⟩)⟩
      show M.dvd (lf (ldsL o ln f n) i).m (p k).m = true
      rw [ldsL_at o ln f n i hi]
      exact hd
  by_cases h : 0 ≤ idxF (fun t => decide (0 ≤ idxF (fun s => M.dvd s.m t.m) (lf (ldsL o ln f n)) n)) p np
  · rw [decide_eq_true h]
    obtain ⟨k, hk, i, hi, hd⟩ := key.1 h
    exact decide_eq_false (fun hh => by have := hh.2.2.2 k hk i hi; rw [hd] at this; cases this)
  · rw [decide_eq_false h]
    exact decide_eq_true ⟨⟨o1, o2⟩, hop, hls, fun k hk i hi => by
      cases hd : M.dvd (ldAt o ln f i).m (p k).m
      · rfl
      · exact absurd (key.2 ⟨k, hk, i, hi, hd⟩) h⟩
set_option maxRecDepth 100000 in
set_option maxHeartbeats 8000000 in
theorem redFreeI (w : World) (o : Int) (pa : Option Addr) (np pc : Nat) (p : Nat → T) (hp : Rd w pa np pc p) (a : Option Addr) (n cap : Nat) (ad : Nat → Option Addr) (ln cp : Nat → Nat) (f : Nat → Nat → T) (h : RdS w a n cap ad ln cp f) :
    Calls Tryz.prog 35 #[.int .i64 o, .slice pa np pc, .slice a n cap] w fun r w' => r = .returned (.bool (redFree o np p n ln f)) ∧ Below w.heap.size w w' := by
  have HP := Hid.mk' hp
  have HH := Hid.mk' h
  clear hp h
  by_cases ho : 1 ≤ o ∧ o ≤ 3
  · obtain ⟨o1, o2⟩ := ho
    cases hls : lstOk n ln f
    · have e : redFree o np p n ln f = false := decide_eq_false (fun hh => by have := hh.2.2.1; rw [hls] at this; cases this)
      rw [e]
      clear e
      go_enter Tryz.func35, Tryz.ntmps35
      go_wp2_with fail
      refine (redLeadsI_no _ _ _ _ _ _ _ _ _ HH.out o1 o2 hls).mono ?_
      rintro r w1 ⟨rfl, hb⟩
      have HB := Hid.mk' (bel_next hb (bel_one w1 (.cells #[.slice none 0 0] 45)))
      clear hb
      go_wp2
      go_ret
      exact ⟨rfl, HB.out⟩
    · have HL := Hid.mk' (redLeadsI w o a n cap ad ln cp f HH.out o1 o2 hls)
      have hn12 : n ≤ 12 := (lstOk_all hls).1
      have hlen := ldsL_len o ln f n
      cases hop : polOk np p
      · have e : redFree o np p n ln f = false := decide_eq_false (fun hh => by have := hh.2.1; rw [hop] at this; cases this)
        rw [e]
        clear e hlen
        go_enter Tryz.func35, Tryz.ntmps35
        go_wp2_with fail
        refine HL.out.mono ?_
        rintro r w1 ⟨v, rfl, hb, hown⟩
        have hl1 : v.oneCell' = true := by
          rcases hown.2 with ⟨hv, _⟩ | ⟨g, cap, cur, hv, _⟩ <;> (rw [hv]; rfl)
        obtain ⟨a1, c1, rfl, hout⟩ := out_of_owns hown (by rw [ldsL_len]; omega)
        have HB := Hid.mk' (bel_next hb (bel_one w1 (.cells #[.slice a1 (ldsL o ln f n).length c1] 45)))
        clear hb hown hout HL hl1
        go_wp2_with fail
        refine (polOkI _ _ _ _ p (HP.out.below HB.out)).mono ?_
        rw [hop]
        rintro r w2 ⟨rfl, hb2⟩
        have HB2 := Hid.mk' (bel_next HB.out hb2)
        clear hb2
        go_wp2
        go_ret
        exact ⟨rfl, HB2.out⟩
      · obtain ⟨bv, hbv⟩ : ∃ bv, decide (0 ≤ idxF (fun t => decide (0 ≤ idxF (fun s => M.dvd s.m t.m) (lf (ldsL o ln f n)) n)) p np) = bv := ⟨_, rfl⟩
        rw [free_eq o1 o2 hop hls, hbv]
        have HV := Hid.mk' hbv
        have HN := Hid.mk' hlen
        clear hbv hlen
        go_enter Tryz.func35, Tryz.ntmps35
        go_wp2_with fail
        refine HL.out.mono ?_
        rintro r w1 ⟨v, rfl, hb, hown⟩
        obtain ⟨a1, c1, rfl, hout⟩ := out_of_owns hown (by rw [ldsL_len]; omega)
        have hrd := hout.1
        rw [HN.out] at hrd ⊢
        have HB := Hid.mk' (bel_next hb (bel_one w1 (.cells #[.slice a1 n c1] 45)))
        have HRD := Hid.mk' (hrd.below (bel_one w1 (.cells #[.slice a1 n c1] 45)))
        have HCL : Hid ((w1.alloc (.cells #[.slice a1 n c1] 45)).cell? ⟨w1.heap.size, 0, none⟩ = some (.slice a1 n c1)) := by
          show _ = _
          rw [World.cell?_alloc_at _ _ _ _ rfl]; rfl
        have hsz : w1.heap.size < (w1.alloc (.cells #[.slice a1 n c1] 45)).heap.size := by simp
        have HSZ := Hid.mk' hsz
        clear hb hown hout HL hrd hsz
        go_wp2_with fail
        refine (polOkI _ _ _ _ p (HP.out.below HB.out)).mono ?_
        rw [hop]
        rintro r w2 ⟨rfl, hb2⟩
        have HB2 := Hid.mk' (bel_next HB.out hb2)
        have HRD2 := Hid.mk' (HRD.out.below hb2)
        have HCL2 := Hid.mk' ((hb2.cell (p := ⟨w1.heap.size, 0, none⟩) HSZ.out).trans HCL.out)
        have hsz2 : w1.heap.size < w2.heap.size := Nat.lt_of_lt_of_le HSZ.out hb2.size
        have HC := Hid.mk' (hasI w2 pa np pc p 74 #[.pointer (some ⟨w1.heap.size, 0, none⟩)] (fun t => decide (0 ≤ idxF (fun s => M.dvd s.m t.m) (lf (ldsL o ln f n)) n)) (fun W => Rd W a1 n c1 (lf (ldsL o ln f n)) ∧ W.cell? ⟨w1.heap.size, 0, none⟩ = some (.slice a1 n c1)) (enters_of Tryz.func74 (by kernel_rfl) rfl) (fun k W hk hQ => free1 (p k) a1 n c1 (lf (ldsL o ln f n)) _ W hQ.1 hQ.2) (fun W' hb => ⟨HRD2.out.below hb, (hb.cell (p := ⟨w1.heap.size, 0, none⟩) hsz2).trans HCL2.out⟩) (HP.out.below HB2.out))
        clear hb2 hsz2 HRD HCL HRD2 HCL2 HSZ HB
        go_wp2_with fail
        refine HC.out.mono ?_
        rw [HV.out]
        rintro r w3 ⟨rfl, hb3⟩
        have HB3 := Hid.mk' (bel_next HB2.out hb3)
        clear hb3 HC HV
        cases bv
        · go_wp2
          go_ret
          exact ⟨rfl, HB3.out⟩
        · go_wp2
          go_ret
          exact ⟨rfl, HB3.out⟩
  · have e : redFree o np p n ln f = false := decide_eq_false (fun hh => ho hh.1)
    have hout : o < 1 ∨ 3 < o := by omega
    rw [e]
    clear ho e
    go_enter Tryz.func35, Tryz.ntmps35
    go_wp2_with fail
    refine (redLeadsI_out _ _ _ _ _ hout).mono ?_
    rintro r w1 ⟨rfl, hb⟩
    have HB := Hid.mk' (bel_next hb (bel_one w1 (.cells #[.slice none 0 0] 45)))
    clear hb hout
    go_wp2
    go_ret
    exact ⟨rfl, HB.out⟩
end Go.Proofs.YtdidlcjhodejjaaGreat
namespace Go.Proofs.YtdidlcjhodejjaaGreat
open Go.RowKit
set_option linter.unusedVariables false

/-! pairs of numbers as one -/
def prN : Nat → Nat → Nat
  | 0, c => 2 * c
  | a + 1, c => 2 * prN a c + 1
def unN (n : Nat) : Nat × Nat := if h : n % 2 = 0 then (0, n / 2) else ((unN (n / 2)).1 + 1, (unN (n / 2)).2)
termination_by n
decreasing_by all_goals omega
theorem un_pr : ∀ a c, unN (prN a c) = (a, c)
  | 0, c => by unfold unN prN; rw [dif_pos (by omega), show 2 * c / 2 = c by omega]
  | a + 1, c => by
    have ih := un_pr a c
    unfold unN prN
    rw [dif_neg (by omega), show (2 * prN a c + 1) / 2 = prN a c by omega, ih]
theorem pr_un (n : Nat) : prN (unN n).1 (unN n).2 = n := by
  induction n using Nat.strongRecOn with
  | ind n ih =>
    unfold unN
    by_cases h : n % 2 = 0
    · rw [dif_pos h]; show 2 * (n / 2) = n; omega
    · rw [dif_neg h]
      have := ih (n / 2) (by omega)
      show 2 * prN (unN (n / 2)).1 (unN (n / 2)).2 + 1 = n
      rw [this]; omega
def lfN (n : Nat) : Nat := (unN n).1
def rtN (n : Nat) : Nat := (unN n).2
theorem lf_pr (a c : Nat) : lfN (prN a c) = a := by unfold lfN; rw [un_pr]
theorem rt_pr (a c : Nat) : rtN (prN a c) = c := by unfold rtN; rw [un_pr]
theorem pr_lr (n : Nat) : prN (lfN n) (rtN n) = n := pr_un n
def rX : Lq := ⟨fun u n k => u (prN (lfN n + 1) (rtN n)) k, fun _ _ => rfl, fun _ _ => rfl⟩
def rY : Lq := ⟨fun u n k => u n (prN (lfN k + 1) (rtN k)), fun _ _ => rfl, fun _ _ => rfl⟩
def rD : Lq := ⟨fun u n k => u (prN (lfN n) (rtN n + 1)) k + nf (lfN n) * u (prN (lfN n - 1) (rtN n)) k, fun u v => by funext n k; simp only [va]; grind, fun c u => by funext n k; simp only [vs]; grind⟩
def rE : Lq := ⟨fun u n k => u n (prN (lfN k) (rtN k + 1)) + nf (lfN k) * u n (prN (lfN k - 1) (rtN k)), fun u v => by funext n k; simp only [va]; grind, fun c u => by funext n k; simp only [vs]; grind⟩
def regG : Gen where
  x := rX
  y := rY
  d := rD
  e := rE
  wx := Lq.ext fun u n k => by
    show u (prN (lfN (prN (lfN n + 1) (rtN n))) (rtN (prN (lfN n + 1) (rtN n)) + 1)) k + nf (lfN (prN (lfN n + 1) (rtN n))) * u (prN (lfN (prN (lfN n + 1) (rtN n)) - 1) (rtN (prN (lfN n + 1) (rtN n)))) k = u (prN (lfN (prN (lfN n) (rtN n + 1)) + 1) (rtN (prN (lfN n) (rtN n + 1)))) k + nf (lfN n) * u (prN (lfN (prN (lfN n - 1) (rtN n)) + 1) (rtN (prN (lfN n - 1) (rtN n)))) k + u n k
    simp only [lf_pr, rt_pr]
    rw [show lfN n + 1 - 1 = lfN n by omega, pr_lr, nf_add, nf_one]
    cases h : lfN n with
    | zero => rw [nf_zero]; grind
    | succ m => rw [show m + 1 - 1 + 1 = m + 1 by omega, ← h, pr_lr]; grind
  wy := Lq.ext fun u n k => by
    show u n (prN (lfN (prN (lfN k + 1) (rtN k))) (rtN (prN (lfN k + 1) (rtN k)) + 1)) + nf (lfN (prN (lfN k + 1) (rtN k))) * u n (prN (lfN (prN (lfN k + 1) (rtN k)) - 1) (rtN (prN (lfN k + 1) (rtN k)))) = u n (prN (lfN (prN (lfN k) (rtN k + 1)) + 1) (rtN (prN (lfN k) (rtN k + 1)))) + nf (lfN k) * u n (prN (lfN (prN (lfN k - 1) (rtN k)) + 1) (rtN (prN (lfN k - 1) (rtN k)))) + u n k
    simp only [lf_pr, rt_pr]
    rw [show lfN k + 1 - 1 = lfN k by omega, pr_lr, nf_add, nf_one]
    cases h : lfN k with
    | zero => rw [nf_zero]; grind
    | succ m => rw [show m + 1 - 1 + 1 = m + 1 by omega, ← h, pr_lr]; grind
  xy := rfl
  xe := rfl
  dy := rfl
  de := Lq.ext fun u n k => by
    show (_ + nf _ * _) + nf (lfN k) * (_ + nf _ * _) = (_ + nf _ * _) + nf (lfN n) * (_ + nf _ * _)
    grind
theorem pow_rX (u : Vq) (c k : Nat) : ∀ j i, (Lq.pow rX j).f u (prN i c) k = u (prN (i + j) c) k
  | 0, i => rfl
  | j + 1, i => by
    rw [Lq.pow_succ']
    show (Lq.pow rX j).f (rX.f u) (prN i c) k = _
    rw [pow_rX (rX.f u) c k j i]
    show u (prN (lfN (prN (i + j) c) + 1) (rtN (prN (i + j) c))) k = _
    rw [lf_pr, rt_pr]; rfl
theorem pow_rY (u : Vq) (n c : Nat) : ∀ j i, (Lq.pow rY j).f u n (prN i c) = u n (prN (i + j) c)
  | 0, i => rfl
  | j + 1, i => by
    rw [Lq.pow_succ']
    show (Lq.pow rY j).f (rY.f u) n (prN i c) = _
    rw [pow_rY (rY.f u) n c j i]
    show u n (prN (lfN (prN (i + j) c) + 1) (rtN (prN (i + j) c))) = _
    rw [lf_pr, rt_pr]; rfl
theorem pow_rD (u : Vq) (k : Nat) : ∀ j i, (Lq.pow rD j).f u (prN 0 i) k = u (prN 0 (i + j)) k
  | 0, i => rfl
  | j + 1, i => by
    rw [Lq.pow_succ']
    show (Lq.pow rD j).f (rD.f u) (prN 0 i) k = _
    rw [pow_rD (rD.f u) k j i]
    show u (prN (lfN (prN 0 (i + j))) (rtN (prN 0 (i + j)) + 1)) k + nf (lfN (prN 0 (i + j))) * _ = _
    rw [lf_pr, rt_pr, nf_zero]
    show u (prN 0 (i + (j + 1))) k + 0 * _ = _
    grind
theorem pow_rE (u : Vq) (n : Nat) : ∀ j i, (Lq.pow rE j).f u n (prN 0 i) = u n (prN 0 (i + j))
  | 0, i => rfl
  | j + 1, i => by
    rw [Lq.pow_succ']
    show (Lq.pow rE j).f (rE.f u) n (prN 0 i) = _
    rw [pow_rE (rE.f u) n j i]
    show u n (prN (lfN (prN 0 (i + j))) (rtN (prN 0 (i + j)) + 1)) + nf (lfN (prN 0 (i + j))) * _ = _
    rw [lf_pr, rt_pr, nf_zero]
    show u n (prN 0 (i + (j + 1))) + 0 * _ = _
    grind
/-- what a monomial makes of 1. -/
theorem mo_reg (m : M) (u : Vq) : (mo regG m).f u 0 0 = u (prN m.x.toNat m.d.toNat) (prN m.y.toNat m.e.toNat) := by
  have e0 : (0 : Nat) = prN 0 0 := rfl
  show (Lq.pow rE m.e.toNat).f ((Lq.pow rD m.d.toNat).f ((Lq.pow rY m.y.toNat).f ((Lq.pow rX m.x.toNat).f u))) 0 0 = _
  rw [show (Lq.pow rE m.e.toNat).f ((Lq.pow rD m.d.toNat).f ((Lq.pow rY m.y.toNat).f ((Lq.pow rX m.x.toNat).f u))) 0 0 = (Lq.pow rE m.e.toNat).f ((Lq.pow rD m.d.toNat).f ((Lq.pow rY m.y.toNat).f ((Lq.pow rX m.x.toNat).f u))) 0 (prN 0 0) from rfl, pow_rE]
  rw [show (Lq.pow rD m.d.toNat).f ((Lq.pow rY m.y.toNat).f ((Lq.pow rX m.x.toNat).f u)) 0 (prN 0 (0 + m.e.toNat)) = (Lq.pow rD m.d.toNat).f ((Lq.pow rY m.y.toNat).f ((Lq.pow rX m.x.toNat).f u)) (prN 0 0) (prN 0 (0 + m.e.toNat)) from rfl, pow_rD, pow_rY, pow_rX]
  simp only [Nat.zero_add]
/-- monomials with no number below 0. -/
def M.nn (m : M) : Prop := 0 ≤ m.x ∧ 0 ≤ m.y ∧ 0 ≤ m.d ∧ 0 ≤ m.e
theorem M.nn_ok {m : M} (h : m.ok = true) : m.nn := by
  obtain ⟨x1, x2, y1, y2, d1, d2, e1, e2⟩ := M.ok_iff.1 h
  exact ⟨x1, y1, d1, e1⟩
theorem M.nn_sum {a b : M} (ha : a.nn) (hb : b.nn) : (a.sum b).nn := by
  obtain ⟨a1, a2, a3, a4⟩ := ha
  obtain ⟨b1, b2, b3, b4⟩ := hb
  exact ⟨Int.add_nonneg a1 b1, Int.add_nonneg a2 b2, Int.add_nonneg a3 b3, Int.add_nonneg a4 b4⟩
def dlu (m : M) : Vq := fun n k => if n = prN m.x.toNat m.d.toNat ∧ k = prN m.y.toNat m.e.toNat then 1 else 0
/-- the number of a monomial in an operator that is a map. -/
def cfR (A : Lq) (m : M) : Fq := A.f (dlu m) 0 0
theorem cf_mo {a m : M} (ha : a.nn) (hm : m.nn) : cfR (mo regG a) m = dl m a := by
  unfold cfR dl
  rw [mo_reg]
  unfold dlu
  by_cases e : a = m
  · rw [if_pos (meqB_eq.2 e.symm), if_pos (by rw [e]; exact ⟨rfl, rfl⟩)]
  · rw [if_neg (fun h => e (meqB_eq.1 h).symm), if_neg]
    rintro ⟨h1, h2⟩
    have i1 := un_pr a.x.toNat a.d.toNat
    rw [h1, un_pr] at i1
    have i2 := un_pr a.y.toNat a.e.toNat
    rw [h2, un_pr] at i2
    simp only [Prod.mk.injEq] at i1 i2
    obtain ⟨a1, a2, a3, a4⟩ := ha
    obtain ⟨b1, b2, b3, b4⟩ := hm
    refine e ?_
    have j1 : a.x = m.x := by omega
    have j2 : a.y = m.y := by omega
    have j3 : a.d = m.d := by omega
    have j4 : a.e = m.e := by omega
    cases a; cases m
    simp only at j1 j2 j3 j4
    rw [j1, j2, j3, j4]
theorem cf_sum (A B : Lq) (m : M) : cfR (Lq.sum A B) m = cfR A m + cfR B m := rfl
theorem cf_sc (c : Fq) (A : Lq) (m : M) : cfR (Lq.sc c A) m = c * cfR A m := rfl
theorem cf_nil (m : M) : cfR Lq.nil m = 0 := rfl
/-- the number of a monomial in a list of terms, however they stand. -/
theorem cf_Rp (L : List T) (hL : ∀ t ∈ L, t.m.nn) {m : M} (hm : m.nn) : cfR (Rp regG L) m = lin (dl m) L := by
  show su L (fun t => zz t.c * (mo regG t.m).f (dlu m) 0 0) = su L (fun t => zz t.c * dl m t.m)
  refine su_congr (fun t ht => ?_)
  have := cf_mo (hL t ht) hm
  unfold cfR at this
  rw [this]
theorem cf_coef {L : List T} (hL : Falls L) {m : M} (hm : m.ok = true) : cfR (Rp regG L) m = zz (coef L m) := by
  rw [← lin_dl hL hm]
  exact cf_Rp L (fun t ht => M.nn_ok (hL.2 t ht).1) (M.nn_ok hm)
/-- an operator that is not 0 has a number that is not. -/
theorem cf_zero {L : List T} (hL : Falls L) (h : Rp regG L = Lq.nil) : L = [] := by
  cases L with
  | nil => rfl
  | cons t r =>
    have ht := hL.2 t (List.mem_cons_self ..)
    have h1 := cf_coef hL ht.1
    rw [h, cf_nil, coef_cons_same] at h1
    exact absurd h1.symm (zz_ne ht.2.1 ht.2.2)
/-! products of monomials -/
/-- the order of monomials, without bounds. -/
def kf (o : Int) (a : M) : Int := if o = 1 then a.x + a.y + a.d + a.e else if o = 3 then a.d + a.x else 0
def klt (o : Int) (a b : M) : Prop := kf o a < kf o b ∨ (kf o a = kf o b ∧ (a.d < b.d ∨ (a.d = b.d ∧ (a.e < b.e ∨ (a.e = b.e ∧ (a.x < b.x ∨ (a.x = b.x ∧ a.y < b.y)))))))
theorem kf1 (a : M) : kf 1 a = a.x + a.y + a.d + a.e := if_pos rfl
theorem kf2 (a : M) : kf 2 a = 0 := (if_neg (by decide)).trans (if_neg (by decide))
theorem kf3 (a : M) : kf 3 a = a.d + a.x := (if_neg (by decide)).trans (if_pos rfl)
theorem rkK1 (a : M) : rkW 1 a = rkD a := if_pos rfl
theorem rkK2 (a : M) : rkW 2 a = rkL a := (if_neg (by decide)).trans (if_neg (by decide))
theorem rkK3 (a : M) : rkW 3 a = rkO a := (if_neg (by decide)).trans (if_pos rfl)
theorem kf_sum (o : Int) (a b : M) : kf o (a.sum b) = kf o a + kf o b := by
  unfold kf M.sum
  split
  · simp only; omega
  · split
    · simp only; omega
    · rfl
theorem klt_trans {o : Int} {a b c : M} (h1 : klt o a b) (h2 : klt o b c) : klt o a c := by
  unfold klt at *
  generalize kf o a = p at *
  generalize kf o b = q at *
  generalize kf o c = r at *
  omega
theorem klt_irr {o : Int} {a : M} (h : klt o a a) : False := by
  unfold klt at h
  omega
theorem M.eta4 {a b : M} (h1 : a.x = b.x) (h2 : a.y = b.y) (h3 : a.d = b.d) (h4 : a.e = b.e) : a = b := by
  cases a; cases b
  simp only at h1 h2 h3 h4
  rw [h1, h2, h3, h4]
theorem klt_tri (o : Int) (a b : M) : klt o a b ∨ a = b ∨ klt o b a := by
  by_cases e : a.x = b.x ∧ a.y = b.y ∧ a.d = b.d ∧ a.e = b.e
  · exact .inr (.inl (M.eta4 e.1 e.2.1 e.2.2.1 e.2.2.2))
  · unfold klt
    generalize kf o a = p
    generalize kf o b = q
    omega
theorem klt_add {o : Int} {a b : M} (c : M) (h : klt o a b) : klt o (a.sum c) (b.sum c) := by
  unfold klt at *
  rw [kf_sum, kf_sum]
  unfold M.sum
  simp only
  generalize kf o a = p at *
  generalize kf o b = q at *
  omega
theorem klt_add' {o : Int} {a b : M} (c : M) (h : klt o a b) : klt o (c.sum a) (c.sum b) := by
  unfold klt at *
  rw [kf_sum, kf_sum]
  unfold M.sum
  simp only
  generalize kf o a = p at *
  generalize kf o b = q at *
  omega
theorem klt_two {o : Int} {a b c d : M} (h1 : klt o a b) (h2 : klt o c d ∨ c = d) : klt o (a.sum c) (b.sum d) := by
  rcases h2 with h2 | h2
  · exact klt_trans (klt_add c h1) (klt_add' b h2)
  · rw [h2]; exact klt_add d h1
/-- what is lower than the whole product. -/
theorem klt_low {o : Int} (ho : 1 ≤ o ∧ o ≤ 3) (a b : M) {i k : Int} (hi : 0 ≤ i) (hk : 0 ≤ k) (h : 0 < i + k) : klt o ⟨a.x + b.x - i, a.y + b.y - k, a.d + b.d - i, a.e + b.e - k⟩ (a.sum b) := by
  have h3 : o = 1 ∨ o = 2 ∨ o = 3 := by omega
  unfold klt
  rcases h3 with rfl | rfl | rfl
  · rw [kf1, kf1]; unfold M.sum; simp only; omega
  · rw [kf2, kf2]
    unfold M.sum
    simp only
    by_cases hi0 : i = 0
    · exact .inr ⟨trivial, .inr ⟨by omega, .inl (by omega)⟩⟩
    · exact .inr ⟨trivial, .inl (by omega)⟩
  · rw [kf3, kf3]
    unfold M.sum
    simp only
    by_cases hi0 : i = 0
    · exact .inr ⟨by omega, .inr ⟨by omega, .inl (by omega)⟩⟩
    · exact .inl (by omega)
theorem rkW_klt {o : Int} (ho : 1 ≤ o ∧ o ≤ 3) {a b : M} (ha : a.ok = true) (hb : b.ok = true) (h : rkW o a < rkW o b) : klt o a b := by
  obtain ⟨x1, x2, y1, y2, d1, d2, e1, e2⟩ := M.ok_iff.1 ha
  obtain ⟨x3, x4, y3, y4, d3, d4, e3, e4⟩ := M.ok_iff.1 hb
  have h3 : o = 1 ∨ o = 2 ∨ o = 3 := by omega
  unfold klt
  rcases h3 with rfl | rfl | rfl
  · rw [rkK1, rkK1] at h; rw [kf1, kf1]; unfold rkD rkL at h; omega
  · rw [rkK2, rkK2] at h; rw [kf2, kf2]; unfold rkL at h; omega
  · rw [rkK3, rkK3] at h; rw [kf3, kf3]; unfold rkO rkL at h; omega
end Go.Proofs.YtdidlcjhodejjaaGreat
