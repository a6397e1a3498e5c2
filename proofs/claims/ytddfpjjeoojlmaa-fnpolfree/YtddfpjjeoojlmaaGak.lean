/-
  How the rows' readings of terms are opened: a slice of terms that came in is a row of numbers, five a term.
  What the exact laws lean on besides: terms in memory behind marks elsewhere.
  More of chapter 3's model: an operator of one term, the number of a monomial, so many times an operator.
-/
import Derived.Test.YtddfpjjeoojlmaaGac
import Derived.ProofKit
import Derived.Deep.Slices
import Derived.Lib.SmallJoins
import Derived.Deep.RegionHeld3
namespace Go.Proofs.Ytddfpjjeoojlmaa
open Go.RowKit Go.Deep Go.Joins
set_option linter.unusedVariables false

/-- A slice of terms that came in. -/
def IsTerms (w : World) (a : Option Addr) (n cap : Nat) (f : Nat → T) : Prop :=
  n ≤ cap ∧ cap ≤ maxLen ∧ (n = 0 ∨ ∃ b off, a = some ⟨b, off, none⟩ ∧ b < w.heap.size ∧ ∀ i, i < n → Cells w b (off + i * 5) (f i))
theorem IsTerms.rd {w : World} {a : Option Addr} {n cap : Nat} {f : Nat → T} (h : IsTerms w a n cap f) (hn : n * 40 ≤ 140737488351232) : Rd w a n cap f := ⟨h.1, hn, h.2.2⟩
end Go.Proofs.Ytddfpjjeoojlmaa
namespace Go.Proofs.Ytddfpjjeoojlmaa
open Go.RowKit
set_option linter.unusedVariables false

theorem termsEq_same (n : Nat) (f : Nat → T) : termsEq n f n f = true := by
  simp only [termsEq, decide_eq_true_eq]
  exact ⟨trivial, fun i _ => T.eqB_iff.2 rfl⟩
theorem Wr.grown {w w' : World} {a : Option Addr} {n : Nat} {f : Nat → T} {row : Option Nat} (h : Wr w a n f) (hg : w.grownBy w' row) (hne : n = 0 ∨ ∀ b off, a = some ⟨b, off, none⟩ → some b ≠ row) : Wr w' a n f := by
  rcases h with h0 | ⟨g, off, N, F, rfl, hR, hN, hF⟩
  · exact .inl h0
  · rcases hne with h0 | hne
    · exact .inl h0
    · exact .inr ⟨g, off, N, F, rfl, hR.of_block (hg.block g hR.lt (hne g off rfl)), hN, hF⟩
theorem Own.wr {w : World} {g n : Nat} {f : Nat → T} (h : Own w g n f) : Wr w (some ⟨g, 0, none⟩) n f :=
  .inr ⟨g, 0, n * 5, cf f, rfl, h, by omega, fun j hj => by rw [Nat.zero_add]⟩
theorem Wr.rd {w : World} {a : Option Addr} {n cap : Nat} {f : Nat → T} (h : Wr w a n f) (hc : n ≤ cap) (hn : n * 40 ≤ 140737488351232) : Rd w a n cap f := by
  refine ⟨hc, hn, ?_⟩
  rcases h with h0 | ⟨g, off, N, F, rfl, hR, hN, hF⟩
  · exact .inl h0
  · have hcell : ∀ j, j < n * 5 → w.cell? ⟨g, off + j, none⟩ = some (cf f j) := fun j hj => by rw [hR.cell (by omega), hF j hj]
    refine .inr ⟨g, off, rfl, hR.lt, fun i hi => ?_⟩
    have e1 : off + i * 5 + 1 = off + (i * 5 + 1) := by omega
    have e2 : off + i * 5 + 2 = off + (i * 5 + 2) := by omega
    have e3 : off + i * 5 + 3 = off + (i * 5 + 3) := by omega
    have e4 : off + i * 5 + 4 = off + (i * 5 + 4) := by omega
    exact ⟨by rw [hcell _ (by omega), cf0], by rw [e1, hcell _ (by omega), cf1], by rw [e2, hcell _ (by omega), cf2], by rw [e3, hcell _ (by omega), cf3], by rw [e4, hcell _ (by omega), cf4]⟩
theorem bel_grown {w w1 w2 : World} {row : Option Nat} (h : Below w.heap.size w w1) (hg : w1.grownBy w2 row) (hr : ∀ k, row = some k → w.heap.size ≤ k) : Below w.heap.size w w2 := h.grown hg h.size hr
/-- Where a slice of terms lies: below a block number. -/
def Under (a : Option Addr) (n B : Nat) : Prop := n = 0 ∨ ∀ b off, a = some ⟨b, off, none⟩ → b < B
/-- .. from a block number on. -/
def From (a : Option Addr) (n B : Nat) : Prop := n = 0 ∨ ∀ b off, a = some ⟨b, off, none⟩ → B ≤ b
theorem Rd.under {w : World} {a : Option Addr} {n cap : Nat} {f : Nat → T} (h : Rd w a n cap f) : Under a n w.heap.size := by
  rcases h.2.2 with h0 | ⟨b, off, rfl, hlt, _⟩
  · exact .inl h0
  · exact .inr fun b' off' e => by cases e; exact hlt
theorem Out.from {lo : Nat} {w : World} {a : Option Addr} {cap : Nat} {L : List T} (h : Out lo w a cap L) : From a L.length lo := by
  rcases h.2.2 with h0 | ⟨g, off, rfl, hlo⟩
  · exact .inl h0
  · exact .inr fun b' off' e => by cases e; exact hlo
theorem Under.off {a : Option Addr} {n B X : Nat} (h : Under a n B) (hX : B ≤ X) : n = 0 ∨ ∀ b off, a = some ⟨b, off, none⟩ → some b ≠ some X := by
  rcases h with h0 | h
  · exact .inl h0
  · exact .inr fun b off e => by have := h b off e; simp; omega
theorem From.off {a : Option Addr} {n B X : Nat} (h : From a n B) (hX : X < B) : n = 0 ∨ ∀ b off, a = some ⟨b, off, none⟩ → some b ≠ some X := by
  rcases h with h0 | h
  · exact .inl h0
  · exact .inr fun b off e => by have := h b off e; simp; omega
theorem Under.mono {a : Option Addr} {n B B' : Nat} (h : Under a n B) (hB : B ≤ B') : Under a n B' := by
  rcases h with h0 | h
  · exact .inl h0
  · exact .inr fun b off e => Nat.lt_of_lt_of_le (h b off e) hB
/-- Two slices that lie apart: a mark in one is none in the other. -/
theorem apart {a c : Option Addr} {n m B : Nat} (h : Under a n B) (k : From c m B) (hm : m ≠ 0) {w : World} {f : Nat → T} (hw : Wr w c m f) : n = 0 ∨ ∀ b off, a = some ⟨b, off, none⟩ → some b ≠ c.map (·.block) := by
  rcases h with h0 | h
  · exact .inl h0
  · rcases k with k0 | k
    · exact absurd k0 hm
    · rcases hw with w0 | ⟨g, off, N, F, rfl, _⟩
      · exact absurd w0 hm
      · exact .inr fun b off' e => by
          have h1 := h b off' e
          have h2 := k g off rfl
          simp
          omega
theorem polAdd_len (f : Nat → T) (la : Nat) (g : Nat → T) (lb : Nat) : (polAdd f la g lb).1.length ≤ 400 := by
  unfold polAdd
  split
  · rename_i h; exact h.2.2
  · simp
end Go.Proofs.Ytddfpjjeoojlmaa
namespace Go.Proofs.Ytddfpjjeoojlmaa
open Go.RowKit
set_option linter.unusedVariables false

/-- PolOf. -/
def polOf (c : Int) (m : M) : List T := if (1 ≤ c ∧ c ≤ 100) ∧ m.ok = true then [⟨c, m⟩] else []
/-- PolAt: the number of the first term with a monomial, from the k-th on. -/
def atFrom (f : Nat → T) (m : M) : Nat → Nat → Int
  | 0, _ => 0
  | u + 1, k => if (f k).m.eqB m = true then (f k).c else atFrom f m u (k + 1)
def polAt (f : Nat → T) (n : Nat) (m : M) : Int := atFrom f m n 0
/-- k terms, each c times. -/
def scT (c : Int) (f : Nat → T) (k : Nat) : List T := (List.range k).map fun i => ⟨c * (f i).c % 101, (f i).m⟩
theorem scT_len (c : Int) (f : Nat → T) (k : Nat) : (scT c f k).length = k := by simp [scT]
theorem scT_succ (c : Int) (f : Nat → T) (k : Nat) : scT c f (k + 1) = scT c f k ++ [⟨c * (f k).c % 101, (f k).m⟩] := by simp [scT, List.range_succ]
set_option maxRecDepth 100000 in
set_option maxHeartbeats 4000000 in
theorem l3ScaleS (w : World) (c : Int) (a : Option Addr) (n cap : Nat) (f : Nat → T) (h : Rd w a n cap f) (hc0 : 0 ≤ c) (hc1 : c ≤ 100) (hl : n ≤ 1000000) (hcf : ∀ i, i < n → 0 ≤ (f i).c ∧ (f i).c ≤ 100) :
    Calls Try.prog 39 #[.int .i64 c, .slice a n cap] w fun r w' => ∃ v, r = .returned v ∧ Below w.heap.size w w' ∧ w'.ownsRow w.heap.size 35 5 v (if c = 0 then 0 else n) (cellsL (scT c f (if c = 0 then 0 else n))) := by
  obtain ⟨i0, hi0, hz0, hz1, hz2⟩ := info_parts infoT
  obtain ⟨h1, h2, h3⟩ := h
  have hn : (n : Int) ≤ 1000000 := by omega
  by_cases hz : c = 0
  · rw [if_pos hz]
    subst hz
    go_enter Try.func39, Try.ntmps39
    go_wp2
    go_loopw [5, 6] (fun v i wr => v = .slice (some ⟨w.heap.size, 0, none⟩) 0 0 ∧ i = .int .i64 0 ∧ wr = w.alloc (.cells #[] 35)) (fun _ _ _ => 0)
    case atStart => exact ⟨rfl, rfl, rfl⟩
    case round =>
      obtain ⟨rfl, rfl, rfl⟩ := hrel
      by_cases hn0 : n = 0
      · subst hn0
        go_wp2
        go_ret
        exact ⟨_, rfl, (Below.refl _ _).alloc (Nat.le_refl _) _, owns_none w _ (Nat.le_refl _)⟩
      · have hnp : (0 : Int) < (n : Int) := by omega
        have dn : decide ((0 : Int) < (n : Int)) = true := decide_eq_true hnp
        go_wp2
        go_ret
        exact ⟨_, rfl, (Below.refl _ _).alloc (Nat.le_refl _) _, owns_none w _ (Nat.le_refl _)⟩
  · rw [if_neg hz]
    have hcb : (c != 0) = true := by simp [hz]
    clear hz
    go_enter Try.func39, Try.ntmps39
    go_wp2
    go_loopw [5, 6] (fun v i wr => ∃ k : Nat, k ≤ n ∧ i = .int .i64 k ∧ Below w.heap.size w wr ∧ wr.ownsRow w.heap.size 35 5 v k (cellsL (scT c f k))) (fun _ i _ => n - (intOf i).toNat)
    case atStart => exact ⟨0, Nat.zero_le _, rfl, (Below.refl _ _).alloc (Nat.le_refl _) _, owns_none w _ (Nat.le_refl _)⟩
    case round =>
      obtain ⟨k, hk, rfl, hB, hown⟩ := hrel
      by_cases hlt : k < n
      · rcases h3 with h0 | ⟨b, off, rfl, hblt, hcl⟩
        · omega
        have hkn : (k : Int) < (n : Int) := by omega
        have hbr : b < wr.heap.size := Nat.lt_of_lt_of_le hblt hB.size
        obtain ⟨g0, g1, g2, g3, g4⟩ := (hcl k hlt).below hB hblt
        obtain ⟨cf1, cf2⟩ := hcf k hlt
        obtain ⟨mb1, mb2⟩ := mul_bd hc0 hc1 cf1 cf2
        have HV : Hid ((IntKind.i64.wrap (c * (f k).c)).tmod 101 = c * (f k).c % 101) := by
          show _ = _
          rw [show IntKind.i64.wrap (c * (f k).c) = c * (f k).c by rw [IntKind.wrap_i64]; omega, Int.tmod_eq_emod_of_nonneg mb1]
        have HO := Hid.mk' hown
        clear hcl hcf hown
        go_wp2_with fail
        go_region_held3 (fun u => u.cell? ⟨b, off + k * 5, none⟩ = some (.int .i64 (f k).c) ∧ u.cell? ⟨b, off + k * 5 + 1, none⟩ = some (.int .i64 (f k).m.x) ∧ u.cell? ⟨b, off + k * 5 + 2, none⟩ = some (.int .i64 (f k).m.y) ∧ u.cell? ⟨b, off + k * 5 + 3, none⟩ = some (.int .i64 (f k).m.d) ∧ u.cell? ⟨b, off + k * 5 + 4, none⟩ = some (.int .i64 (f k).m.e)) (first | go_keep | (refine ⟨?_, ?_, ?_, ?_, ?_⟩ <;> (rw [hgrow.cell_far _ (by simp; omega) (by intro hh; exact absurd (HO.out.lt b hh.symm).1 (by omega))]; go_simp))) ((refine step_append_lies _ (by rfl) (.tmp 18) (.tmp 33) 23 (by rfl) w.heap.size 35 i0 _ 5 40 Try.underlying23 hi0 hz0 hz1 hz2 rfl (by omega) _ k (cellsL (scT c f k)) (by rfl) (by first | exact HO.out.alloc _ | exact (owns_below HO.out (Below.refl _ _).drew).alloc _) ⟨wr.heap.size, 0, none⟩ 1 1 (cellsL [⟨c * (f k).c % 101, (f k).m⟩]) (by rfl) (by rw [cellsL_length]; rfl) (by rw [cellsL_one]; simp only; rw [← HV.out]; exact World.news_of_block (heap_alloc_new wr _)) (one_cells _) (by omega) (by unfold maxLen; omega) (by omega) (by have := hB.size; simp; omega) _ (by rfl) ?_; intro g0 cap0 w1 hown1 hgrow hat hlt1))
        have HB := Hid.mk' (((hB.alloc hB.size _).drew).grown hgrow (Nat.le_trans hB.size (by simp)) (fun j hj => (HO.out.lt j hj).1))
        have HP := Hid.mk' hown1
        clear hown1 hgrow hat hlt1 HO
        go_wp2
        go_roundw
        case rel => exact ⟨k + 1, by omega, by go_num, HB.out, by rw [scT_succ, cellsL_append]; exact HP.out⟩
        case measure => simp [intOf]; omega
      · have hkn : k = n := by omega
        subst hkn
        have HO := Hid.mk' hown
        clear hown hcf
        go_wp2
        go_ret
        exact ⟨_, rfl, hB, HO.out⟩
/-- PolScale. -/
def polScale (c : Int) (f : Nat → T) (n : Nat) : List T := if (0 ≤ c ∧ c ≤ 100) ∧ polOk n f = true ∧ c ≠ 0 then scT c f n else []
set_option maxRecDepth 100000 in
set_option maxHeartbeats 4000000 in
theorem polScaleS (w : World) (c : Int) (a : Option Addr) (n cap : Nat) (f : Nat → T) (h : Rd w a n cap f) :
    Calls Try.prog 23 #[.int .i64 c, .slice a n cap] w fun r w' => ∃ v, r = .returned v ∧ Below w.heap.size w w' ∧ w'.ownsRow w.heap.size 35 5 v (polScale c f n).length (cellsL (polScale c f n)) := by
  have HR := Hid.mk' h
  clear h
  by_cases hc : 0 ≤ c ∧ c ≤ 100
  · cases hp : polOk n f
    · have e1 : polScale c f n = [] := by simp [polScale, hp]
      rw [e1]
      obtain ⟨c0, c1⟩ := hc
      clear e1
      go_enter Try.func23, Try.ntmps23
      go_wp2_with (go_at_call 24; refine (okS_in _ _ c0 c1).mono ?_; rintro r w' ⟨rfl, rfl⟩)
      refine (polOkS _ _ _ _ f HR.out).mono ?_
      rw [hp]
      rintro r w1 ⟨rfl, hb⟩
      go_wp2
      go_ret
      exact ⟨_, rfl, hb.alloc hb.size _, owns_none w1 _ hb.size⟩
    · obtain ⟨l1, c2⟩ := polOk_c hp
      have HC := Hid.mk' c2
      have e1 : polScale c f n = scT c f (if c = 0 then 0 else n) := by
        by_cases hz : c = 0
        · simp [polScale, hz, scT]
        · simp [polScale, hp, hc, hz]
      have e2 : (polScale c f n).length = if c = 0 then 0 else n := by rw [e1, scT_len]
      rw [e2, e1]
      obtain ⟨N, hN⟩ : ∃ N, (if c = 0 then 0 else n) = N := ⟨_, rfl⟩
      rw [hN]
      have EN := Hid.mk' hN
      obtain ⟨c0, c1⟩ := hc
      clear c2 e1 e2 hN
      go_enter Try.func23, Try.ntmps23
      go_wp2_with (go_at_call 24; refine (okS_in _ _ c0 c1).mono ?_; rintro r w' ⟨rfl, rfl⟩)
      refine (polOkS _ _ _ _ f HR.out).mono ?_
      rw [hp]
      rintro r w1 ⟨rfl, hb⟩
      have HB := Hid.mk' hb
      clear hb
      go_wp2_with fail
      refine (l3ScaleS _ _ _ _ _ f (HR.out.below HB.out) c0 c1 (by omega) HC.out).mono ?_
      rw [EN.out]
      rintro r w2 ⟨v, rfl, hb2, hown⟩
      have HB2 := Hid.mk' (bel_next HB.out hb2)
      have HO := Hid.mk' (owns_lower hown HB.out.size)
      clear hown hb2
      go_wp2
      go_ret
      exact ⟨_, rfl, HB2.out, HO.out⟩
  · have e1 : polScale c f n = [] := by simp [polScale, hc]
    rw [e1]
    have hc' : c < 0 ∨ 100 < c := by omega
    clear hc e1
    go_enter Try.func23, Try.ntmps23
    go_wp2_with (go_at_call 24; refine (okS_out _ _ hc').mono ?_; rintro r w' ⟨rfl, rfl⟩)
    go_ret
    exact ⟨_, rfl, (Below.refl _ _).alloc (Nat.le_refl _) _, owns_none _ _ (Nat.le_refl _)⟩
theorem lf_scT (c : Int) (f : Nat → T) (n i : Nat) (h : i < n) : lf (scT c f n) i = ⟨c * (f i).c % 101, (f i).m⟩ := by
  simp [lf, scT, List.getD, List.getElem?_map, List.getElem?_range h]
/-- what is added for a difference. -/
def negT (g : Nat → T) (lb : Nat) : Nat → T := lf (scT 100 g lb)
/-- PolSub. -/
def polSub (f : Nat → T) (la : Nat) (g : Nat → T) (lb : Nat) : List T × Bool :=
  if polOk la f = true ∧ polOk lb g = true ∧ (addT f la (negT g lb) lb 0 0).length ≤ 400 then (addT f la (negT g lb) lb 0 0, true) else ([], false)
theorem polSub_len (f : Nat → T) (la : Nat) (g : Nat → T) (lb : Nat) : (polSub f la g lb).1.length ≤ 400 := by
  unfold polSub
  split
  · rename_i h; exact h.2.2
  · simp
set_option maxRecDepth 100000 in
set_option maxHeartbeats 4000000 in
theorem polSubS (w : World) (a b : Option Addr) (la ca lb cb : Nat) (f g : Nat → T) (ha : Rd w a la ca f) (hb : Rd w b lb cb g) :
    Calls Try.prog 20 #[.slice a la ca, .slice b lb cb] w fun r w' => ∃ v, r = .returned (.tuple #[v, .bool (polSub f la g lb).2]) ∧ Below w.heap.size w w' ∧ w'.ownsRow w.heap.size 35 5 v (polSub f la g lb).1.length (cellsL (polSub f la g lb).1) := by
  have HA := Hid.mk' ha
  have HB := Hid.mk' hb
  clear ha hb
  cases hpa : polOk la f
  · have e1 : polSub f la g lb = ([], false) := by simp [polSub, hpa]
    rw [e1]
    clear e1
    go_enter Try.func20, Try.ntmps20
    go_wp2_with fail
    refine (polOkS _ _ _ _ f HA.out).mono ?_
    rw [hpa]
    rintro r w1 ⟨rfl, h1⟩
    go_wp2
    go_ret2
    exact ⟨_, rfl, h1.alloc h1.size _, owns_none w1 _ h1.size⟩
  · cases hpb : polOk lb g
    · have e1 : polSub f la g lb = ([], false) := by simp [polSub, hpb]
      rw [e1]
      clear e1
      go_enter Try.func20, Try.ntmps20
      go_wp2_with fail
      refine (polOkS _ _ _ _ f HA.out).mono ?_
      rw [hpa]
      rintro r w1 ⟨rfl, h1⟩
      go_wp2_with fail
      refine (polOkS _ _ _ _ g (HB.out.below h1)).mono ?_
      rw [hpb]
      rintro r w2 ⟨rfl, h2⟩
      have h12 := bel_next h1 h2
      go_wp2
      go_ret2
      exact ⟨_, rfl, h12.alloc h12.size _, owns_none w2 _ h12.size⟩
    · obtain ⟨l1, c1⟩ := polOk_c hpa
      obtain ⟨l2, c2⟩ := polOk_c hpb
      have HC1 := Hid.mk' c1
      have HC2 := Hid.mk' c2
      have HC3 : Hid (∀ i, i < lb → 0 ≤ (negT g lb i).c ∧ (negT g lb i).c ≤ 100) := fun i hi => by
        unfold negT
        rw [lf_scT _ _ _ _ hi]
        show 0 ≤ 100 * (g i).c % 101 ∧ 100 * (g i).c % 101 ≤ 100
        omega
      have hlen := addT_len f la (negT g lb) lb 0 0
      clear c1 c2
      go_enter Try.func20, Try.ntmps20
      go_wp2_with fail
      refine (polOkS _ _ _ _ f HA.out).mono ?_
      rw [hpa]
      rintro r w1 ⟨rfl, h1⟩
      go_wp2_with fail
      refine (polOkS _ _ _ _ g (HB.out.below h1)).mono ?_
      rw [hpb]
      rintro r w2 ⟨rfl, h2⟩
      have h12 := Hid.mk' (bel_next h1 h2)
      clear h1 h2
      go_wp2_with fail
      refine (l3ScaleS _ _ _ _ _ g (HB.out.below h12.out) (by omega) (by omega) (by omega) HC2.out).mono ?_
      rw [if_neg (by omega)]
      rintro r w3 ⟨v3, rfl, h3, hown3⟩
      have hown3' : w3.ownsRow w2.heap.size 35 5 v3 (scT 100 g lb).length (cellsL (scT 100 g lb)) := by rw [scT_len]; exact hown3
      obtain ⟨a3, cap3, rfl, hout3⟩ := out_of_owns hown3' (by rw [scT_len]; omega)
      have R3 : Hid (Rd w3 a3 lb cap3 (negT g lb)) := by
        have := hout3.1
        rw [scT_len] at this
        exact this
      have h123 := Hid.mk' (bel_next h12.out h3)
      clear hown3 hown3' hout3 h3 h12
      rw [scT_len]
      go_wp2_with fail
      refine (l3AddS _ _ _ _ _ _ _ f (negT g lb) (HA.out.below h123.out) R3.out (by omega) HC1.out HC3.out).mono ?_
      rintro r w4 ⟨v, rfl, h4, hown⟩
      have h4' := Hid.mk' (bel_next h123.out h4)
      have hlow := owns_lower hown h123.out.size
      obtain ⟨a', cap', rfl, hout⟩ := out_of_owns hlow (by omega)
      have HO := Hid.mk' hlow
      clear hown hlow hout h4
      by_cases hle : (addT f la (negT g lb) lb 0 0).length ≤ 400
      · have E1 := Hid.mk' (show polSub f la g lb = (addT f la (negT g lb) lb 0 0, true) by simp [polSub, hpa, hpb, hle])
        have hle' : ((addT f la (negT g lb) lb 0 0).length : Int) ≤ 400 := by omega
        go_wp2
        go_ret2
        rw [E1.out]
        exact ⟨_, rfl, h4'.out, HO.out⟩
      · have E1 := Hid.mk' (show polSub f la g lb = ([], false) by simp [polSub, hle])
        have hle' : (400 : Int) < ((addT f la (negT g lb) lb 0 0).length : Int) := by omega
        go_wp2
        go_ret2
        rw [E1.out]
        exact ⟨_, rfl, h4'.out.alloc h4'.out.size _, owns_none w4 _ h4'.out.size⟩
theorem polOk_m {n : Nat} {f : Nat → T} (h : polOk n f = true) : ∀ i, i < n → (f i).m.ok = true := by
  intro i hi
  simp only [polOk, decide_eq_true_eq] at h
  have := h.2 i hi
  simp only [okAt, Bool.and_eq_true, decide_eq_true_eq] at this
  exact this.1.2
/-- PolFree. -/
def polFree (n : Nat) (f : Nat → T) : Bool := polOk n f && decide (∀ i, i < n → (f i).m.d + (f i).m.e ≤ 0)
set_option maxHeartbeats 4000000 in
theorem polFreeS (w : World) (a : Option Addr) (n cap : Nat) (f : Nat → T) (h : Rd w a n cap f) :
    Calls Try.prog 31 #[.slice a n cap] w fun r w' => r = .returned (.bool (polFree n f)) ∧ Below w.heap.size w w' := by
  have HR := Hid.mk' h
  obtain ⟨h1, h2, h3⟩ := h
  have hn : (n : Int) ≤ 140737488351232 := by omega
  cases hp : polOk n f
  · have e1 : polFree n f = false := by simp [polFree, hp]
    rw [e1]
    clear e1 h3
    go_enter Try.func31, Try.ntmps31
    go_wp2_with fail
    refine (polOkS _ _ _ _ f HR.out).mono ?_
    rw [hp]
    rintro r w1 ⟨rfl, hb⟩
    go_wp2
    go_ret
    exact ⟨rfl, hb⟩
  · have HM := Hid.mk' (polOk_m hp)
    go_enter Try.func31, Try.ntmps31
    go_wp2_with fail
    refine (polOkS _ _ _ _ f HR.out).mono ?_
    rw [hp]
    rintro r w1 ⟨rfl, hb⟩
    have HB1 := Hid.mk' hb
    clear hb
    go_wp2
    go_loopw [3] (fun i wr => ∃ k : Nat, k ≤ n ∧ i = .int .i64 k ∧ Below w.heap.size w wr ∧ Hid (∀ j, j < k → (f j).m.d + (f j).m.e ≤ 0)) (fun i _ => n - (intOf i).toNat)
    case atStart => exact ⟨0, Nat.zero_le _, rfl, HB1.out, fun j hj => absurd hj (Nat.not_lt_zero _)⟩
    case round =>
      obtain ⟨k, hk, rfl, hB, hok⟩ := hrel
      by_cases hlt : k < n
      · rcases h3 with h0 | ⟨b, off, rfl, hblt, hcl⟩
        · omega
        have hkn : (k : Int) < (n : Int) := by omega
        have hbr : b < wr.heap.size := Nat.lt_of_lt_of_le hblt hB.size
        have ne := Ext.there wr
        have hck := (hcl k hlt).below hB hblt
        have s3 : ∀ u : Ext wr, u.1.cell? ⟨b, off + k * 5 + 3, none⟩ = some (.int .i64 (f k).m.d) := fun u => (u.cell hbr).trans hck.2.2.2.1
        have s4 : ∀ u : Ext wr, u.1.cell? ⟨b, off + k * 5 + 4, none⟩ = some (.int .i64 (f k).m.e) := fun u => (u.cell hbr).trans hck.2.2.2.2
        obtain ⟨_, _, _, _, d1, d2, e1, e2⟩ := M.ok_iff.1 (HM.out k hlt)
        clear hck hcl
        by_cases hq : 0 < (f k).m.d + (f k).m.e
        · have HF : Hid (polFree n f = false) := by
            show _ = _
            simp only [polFree, hp, Bool.true_and, decide_eq_false_iff_not]
            intro hh
            have := hh k hlt
            omega
          have dq : decide (0 < (f k).m.d + (f k).m.e) = true := decide_eq_true hq
          go_wp2_with fail
          refine wp_region_ext (by kernel_rfl) (by kernel_rfl) ?_
          repeat (go_big_quiet_step (fail))
          refine wpQuiet_nil ?_
          rintro _ ⟨u, rfl⟩
          go_wp2
          go_ret
          exact ⟨by rw [HF.out]; rfl, hB.trans (u.2.mono hB.size)⟩
        · have hok' : Hid (∀ j, j < k + 1 → (f j).m.d + (f j).m.e ≤ 0) := fun j hj => by
            by_cases hjk : j = k
            · rw [hjk]; omega
            · exact hok.out j (by omega)
          have dq : decide (0 < (f k).m.d + (f k).m.e) = false := decide_eq_false hq
          clear hok
          go_wp2_with fail
          refine wp_region_ext (by kernel_rfl) (by kernel_rfl) ?_
          repeat (go_big_quiet_step (fail))
          refine wpQuiet_nil ?_
          rintro _ ⟨u, rfl⟩
          go_wp2
          go_roundw
          case rel => exact ⟨k + 1, by omega, by go_num, hB.trans (u.2.mono hB.size), hok'⟩
          case measure => simp [intOf]; omega
      · have HF : Hid (polFree n f = true) := by
          show _ = _
          simp only [polFree, hp, Bool.true_and, decide_eq_true_eq]
          exact fun i hi => hok.out i (by omega)
        go_wp2
        go_ret
        exact ⟨by rw [HF.out]; rfl, hB⟩
/-- which term is the greatest, of those from the i-th on and the k-th. -/
def leadFrom (o : Int) (f : Nat → T) : Nat → Nat → Nat → Nat
  | 0, _, k => k
  | u + 1, i, k => if 0 < M.ord o (f i).m (f k).m then leadFrom o f u (i + 1) i else leadFrom o f u (i + 1) k
def leadAt (o : Int) (f : Nat → T) (n : Nat) : Nat := leadFrom o f (n - 1) 1 0
end Go.Proofs.Ytddfpjjeoojlmaa
