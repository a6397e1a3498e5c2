/-
  How the rows' readings of bases are opened.
-/
import Derived.Test.YtllfgoepfeoclaaGreatGpA
namespace Go.Proofs.YtllfgoepfeoclaaGreat
open Go.RowKit Go.Deep Go.Joins
set_option linter.unusedVariables false

theorem cellsOfSS : Tryz.prog.cellsOf 31 = 1 := by kernel_rfl
theorem lists_of_trod {H : Type} {enc : TypeId × Value → H} {w : World} {base : Nat} {spare : Nat → Bool} {held : Bool} {fuel : Nat} {v : Value} {x : DataW H × List MemPlace}
    (h : DataW.trod enc Tryz.prog w base spare held fuel 31 [v] = some x) : ∃ (t : Option Addr × Nat × Nat) (q : (Nat → Option Addr) × (Nat → Nat) × (Nat → Nat) × (Nat → Nat → T)), v = .slice t.1 t.2.1 t.2.2 ∧ IsLists w t.1 t.2.1 t.2.2 q.1 q.2.1 q.2.2.1 q.2.2.2 := by
  have h' := h
  rcases open_slice Tryz.underlying31 h with ⟨hc, _⟩ | ⟨ad, len, cp, m, k, D, Pl, hc, _⟩
  · simp at hc
    subst hc
    obtain ⟨q1, q2, q3, q4, hf⟩ := lists_open h'
    exact ⟨(none, 0, 0), (q1, q2, q3, q4), rfl, hf⟩
  · simp at hc
    subst hc
    obtain ⟨q1, q2, q3, q4, hf⟩ := lists_open h'
    exact ⟨(some ad, len, cp), (q1, q2, q3, q4), rfl, hf⟩
set_option maxRecDepth 100000 in
theorem lists3_open {H : Type} {enc : TypeId × Value → H} {w : World} {base : Nat} {spare : Nat → Bool} {held : Bool} {fuel : Nat} {a : Option Addr} {n cap : Nat} {x : DataW H × List MemPlace}
    (h : DataW.trod enc Tryz.prog w base spare held fuel 32 [.slice a n cap] = some x) : ∃ A C AD CP N L F, Is3 w a n cap A C AD CP N L F := by
  rcases open_slice Tryz.underlying32 h with ⟨hc, _⟩ | ⟨ad, len, cp, m, k, D, Pl, hc, _, hl, hm, hmm, _, hx⟩
  · simp at hc
    obtain ⟨rfl, rfl, rfl⟩ := hc
    exact ⟨fun _ => none, fun _ => 0, fun _ _ => none, fun _ _ => 0, fun _ => 0, fun _ _ => 0, fun _ _ _ => ⟨0, ⟨0, 0, 0, 0⟩⟩, Nat.le_refl _, Nat.zero_le _, .inl rfl, fun i hi => absurd hi (Nat.not_lt_zero _)⟩
  · simp at hc
    obtain ⟨rfl, rfl, rfl⟩ := hc
    by_cases h0 : n = 0
    · exact ⟨fun _ => none, fun _ => 0, fun _ _ => none, fun _ _ => 0, fun _ => 0, fun _ _ => 0, fun _ _ _ => ⟨0, ⟨0, 0, 0, 0⟩⟩, hl, hm, .inl h0, fun i hi => by omega⟩
    have hnm : n ≤ m := by rw [hmm]; split <;> omega
    have each : ∀ i, i < n → ∃ t : (Option Addr × Nat × Nat) × ((Nat → Option Addr) × (Nat → Nat) × (Nat → Nat) × (Nat → Nat → T)), w.cell? (ad.add i) = some (.slice t.1.1 t.1.2.1 t.1.2.2) ∧ IsLists w t.1.1 t.1.2.1 t.1.2.2 t.2.1 t.2.2.1 t.2.2.2.1 t.2.2.2.2 := by
      intro i hi
      obtain ⟨cs', h1, h2⟩ := hx i (by omega)
      rw [cellsOfSS] at h1
      obtain ⟨_, hlen, hcell⟩ := World.cells?_some h1
      match cs', hlen with
      | [v0], _ =>
        obtain ⟨t, q, rfl, ht⟩ := lists_of_trod h2
        have c0 := hcell 0 (by omega)
        rw [add_add] at c0
        exact ⟨(t, q), by simpa using c0, ht⟩
    haveI : Inhabited ((Option Addr × Nat × Nat) × ((Nat → Option Addr) × (Nat → Nat) × (Nat → Nat) × (Nat → Nat → T))) := ⟨((none, 0, 0), (fun _ => none, fun _ => 0, fun _ => 0, fun _ _ => ⟨0, ⟨0, 0, 0, 0⟩⟩))⟩
    obtain ⟨q, hq⟩ := choose_lt each
    obtain ⟨b, off, spot⟩ := ad
    have hs : spot = none := by
      have := World.cell?_spot (hq 0 (by omega)).1
      simpa [Addr.add] using this
    subst hs
    have hadd : ∀ j, (⟨b, off, none⟩ : Addr).add j = ⟨b, off + j, none⟩ := fun j => by unfold Addr.add; split <;> simp_all
    refine ⟨fun i => (q i).1.1, fun i => (q i).1.2.2, fun i => (q i).2.1, fun i => (q i).2.2.2.1, fun i => (q i).1.2.1, fun i => (q i).2.2.1, fun i => (q i).2.2.2.2, hl, hm, .inr ⟨b, off, rfl, ?_, fun i hi => ?_⟩, fun i hi => (hq i hi).2⟩
    · have := World.block_lt_of_cell? w _ (hq 0 (by omega)).1
      rw [hadd] at this
      exact this
    · have := (hq i hi).1
      rw [hadd] at this
      exact this
theorem lists3_of_trod {H : Type} {enc : TypeId × Value → H} {w : World} {base : Nat} {spare : Nat → Bool} {held : Bool} {fuel : Nat} {v : Value} {x : DataW H × List MemPlace}
    (h : DataW.trod enc Tryz.prog w base spare held fuel 32 [v] = some x) : ∃ a n c A C AD CP N L F, v = .slice a n c ∧ Is3 w a n c A C AD CP N L F := by
  have h' := h
  rcases open_slice Tryz.underlying32 h with ⟨hc, _⟩ | ⟨ad, len, cp, m, k, D, Pl, hc, _⟩
  · simp at hc
    subst hc
    obtain ⟨A, C, AD, CP, N, L, F, hf⟩ := lists3_open h'
    exact ⟨none, 0, 0, A, C, AD, CP, N, L, F, rfl, hf⟩
  · simp at hc
    subst hc
    obtain ⟨A, C, AD, CP, N, L, F, hf⟩ := lists3_open h'
    exact ⟨some ad, len, cp, A, C, AD, CP, N, L, F, rfl, hf⟩
set_option maxRecDepth 100000 in
theorem base_open {H : Type} {enc : TypeId × Value → H} {w : World} {base : Nat} {spare : Nat → Bool} {held : Bool} {r : Reach} {b0 : Nat} {v : Value} {d : DataW H} {p : List MemPlace}
    (hv : Value.okWide Tryz.prog w r b0 34 v) (h : DataW.Trod enc Tryz.prog w base spare held 34 v d p) :
    ∃ la nb lc ad ln cp f pa np pc A C AD CP N L F, ∃ dn : Bool, v = .agg #[.slice la nb lc, .slice pa np pc, .bool dn] ∧ IsLists w la nb lc ad ln cp f ∧ Is3 w pa np pc A C AD CP N L F := by
  obtain ⟨v0, v1, v2, y0, y1, y2, n, rfl, _, _, h0, h1, h2⟩ := open_agg3 Tryz.underlying34 (by kernel_rfl) (by kernel_rfl) hv h
  obtain ⟨t, q, rfl, hL⟩ := lists_of_trod h0
  obtain ⟨pa, np, pc, A, C, AD, CP, N, L, F, rfl, h3⟩ := lists3_of_trod h1
  obtain ⟨dn, e2, _⟩ := DataW.trod_bool Tryz.underlying4 h2
  simp at e2
  subst e2
  exact ⟨t.1, t.2.1, t.2.2, q.1, q.2.1, q.2.2.1, q.2.2.2, pa, np, pc, A, C, AD, CP, N, L, F, dn, rfl, hL, h3⟩
end Go.Proofs.YtllfgoepfeoclaaGreat
