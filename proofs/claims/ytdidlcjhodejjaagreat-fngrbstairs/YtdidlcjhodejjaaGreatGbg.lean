/-
  Two lists of operators are drawn (spec.DrawRedSum).
  A sum of products of two lists: the mathematics, and the model's RedSum.
  A sum of products of two lists: the program.
-/
import Derived.Test.YtdidlcjhodejjaaGreatGbf
import Derived.Test.YtdidlcjhodejjaaGreatGba
import Derived.Test.YtdidlcjhodejjaaGreatGay
namespace Go.Proofs.YtdidlcjhodejjaaGreat
open Go.RowKit Go.Deep Go.Joins
set_option linter.unusedVariables false

theorem rds_owns {w : World} {lo lo' : Nat} {g' : Option Nat} {v : Value} {LS : List Value} (h : w.ownsRow lo 45 1 v LS.length LS) (hE : ∀ e ∈ LS, El w lo' g' e) (hl : LS.length ≤ 100) : ∃ a c ad ln cp f, v = .slice a LS.length c ∧ RdS w a LS.length c ad ln cp f := by
  have each : ∀ i, i < LS.length → ∃ t : (Option Addr × Nat × Nat) × (Nat → T), LS[i]? = some (.slice t.1.1 t.1.2.1 t.1.2.2) ∧ Rd w t.1.1 t.1.2.1 t.1.2.2 t.2 := fun i hi => by
    obtain ⟨a, n, c, f, e, hr, _⟩ := hE LS[i] (List.getElem_mem hi)
    exact ⟨((a, n, c), f), by rw [List.getElem?_eq_getElem hi, e], hr⟩
  haveI : Inhabited ((Option Addr × Nat × Nat) × (Nat → T)) := ⟨((none, 0, 0), fun _ => ⟨0, ⟨0, 0, 0, 0⟩⟩)⟩
  obtain ⟨q, hq⟩ := choose_lt each
  rcases h.2 with ⟨hv, h0⟩ | ⟨g, cap, cur, hv, hlo, hg, hn, hm, hs, ht⟩
  · exact ⟨none, 0, fun i => (q i).1.1, fun i => (q i).1.2.1, fun i => (q i).1.2.2, fun i => (q i).2, by rw [hv, h0], by omega, by omega, .inl h0, fun i hi => (hq i hi).2⟩
  · have hat : ∀ j, j < LS.length * 1 → cur[j]? = LS[j]? := by
      intro j hj
      have e : (cur.toList.take (LS.length * 1))[j]? = LS[j]? := by rw [ht]
      rw [List.getElem?_take_of_lt hj] at e
      simpa using e
    have hrow : w.rowIs g 45 (cap * 1) (fun j => cur.getD j undef) := ⟨cur, hg, hs, fun j hj => by
      have hjs : j < cur.size := by omega
      show cur[j]? = some (cur.getD j undef)
      rw [Array.getD_eq_getD_getElem?, Array.getElem?_eq_getElem hjs]
      rfl⟩
    refine ⟨some ⟨g, 0, none⟩, cap, fun i => (q i).1.1, fun i => (q i).1.2.1, fun i => (q i).1.2.2, fun i => (q i).2, hv, hn, by omega, .inr ⟨g, 0, rfl, hrow.lt, fun i hi => ?_⟩, fun i hi => (hq i hi).2⟩
    rw [Nat.zero_add, hrow.cell (by omega), Array.getD_eq_getD_getElem?, hat i (by omega), (hq i hi).1]
    rfl
theorem owns_grown {w w' : World} {base : Nat} {e : TypeId} {size : Nat} {v : Value} {n : Nat} {xs : List Value} {row : Option Nat} (h : w.ownsRow base e size v n xs) (hg : w.grownBy w' row) (hne : ∀ kk, v.ownBlock = some kk → row = some kk → False) : w'.ownsRow base e size v n xs := by
  refine ⟨h.1, h.2.imp id ?_⟩
  rintro ⟨g, cap, cur, hv, hlo, hgg, hn, hm, hs, ht⟩
  refine ⟨g, cap, cur, hv, hlo, ?_, hn, hm, hs, ht⟩
  have hlt : g < w.heap.size := (Array.getElem?_eq_some_iff.1 hgg).1
  exact (hg.block g hlt (fun ee => hne g (by rw [hv]; rfl) ee.symm)).trans hgg
def ListD2 (w : World) (e : Ending) (w' : World) : Prop := ∃ (a1 : Option Addr) (n1 c1 : Nat) (ad1 : Nat → Option Addr) (ln1 cp1 : Nat → Nat) (f1 : Nat → Nat → T) (a2 : Option Addr) (n2 c2 : Nat) (ad2 : Nat → Option Addr) (ln2 cp2 : Nat → Nat) (f2 : Nat → Nat → T), e = .returned (.tuple #[.slice a1 n1 c1, .slice a2 n2 c2]) ∧ RdS w' a1 n1 c1 ad1 ln1 cp1 f1 ∧ RdS w' a2 n2 c2 ad2 ln2 cp2 f2 ∧ n1 ≤ 6 ∧ n2 ≤ 5 ∧ Below w.heap.size w w'
theorem ListD2.mk {w w' : World} {a1 : Option Addr} {n1 c1 : Nat} {ad1 : Nat → Option Addr} {ln1 cp1 : Nat → Nat} {f1 : Nat → Nat → T} {a2 : Option Addr} {n2 c2 : Nat} {ad2 : Nat → Option Addr} {ln2 cp2 : Nat → Nat} {f2 : Nat → Nat → T} (h1 : RdS w' a1 n1 c1 ad1 ln1 cp1 f1) (h2 : RdS w' a2 n2 c2 ad2 ln2 cp2 f2) (l1 : n1 ≤ 6) (l2 : n2 ≤ 5) (h3 : Below w.heap.size w w') : ListD2 w (.returned (.tuple #[.slice a1 n1 c1, .slice a2 n2 c2])) w' := ⟨a1, n1, c1, ad1, ln1, cp1, f1, a2, n2, c2, ad2, ln2, cp2, f2, rfl, h1, h2, l1, l2, h3⟩
end Go.Proofs.YtdidlcjhodejjaaGreat
namespace Go.Proofs.YtdidlcjhodejjaaGreat
open Go.RowKit Go.Deep Go.Joins
set_option linter.unusedVariables false

/-- a product more. -/
def stepS (K : List T) (q : Nat → T) (lq : Nat) (l : Nat → T) (ll : Nat) : Option (List T) :=
  if (wylMul q lq l ll).2 = true then (if (addV K (wylMul q lq l ll).1).2 = true then some (addV K (wylMul q lq l ll).1).1 else none) else none
/-- the first products' sum; none, if it is too much. -/
def sumPr (ln1 : Nat → Nat) (f1 : Nat → Nat → T) (ln2 : Nat → Nat) (f2 : Nat → Nat → T) : Nat → Option (List T)
  | 0 => some []
  | i + 1 => match sumPr ln1 f1 ln2 f2 i with
    | some K => stepS K (f1 i) (ln1 i) (f2 i) (ln2 i)
    | none => none
def redSum (n1 : Nat) (ln1 : Nat → Nat) (f1 : Nat → Nat → T) (n2 : Nat) (ln2 : Nat → Nat) (f2 : Nat → Nat → T) : List T × Bool := if n1 = n2 ∧ n2 ≤ 12 then mulO (sumPr ln1 f1 ln2 f2 n2) else ([], false)
theorem step_cases {K : List T} (hK : okL K = true) (q : Nat → T) (lq : Nat) (l : Nat → T) (ll : Nat) :
    ((polOk lq q = false ∨ (polOk lq q = true ∧ polOk ll l = false)) ∧ wylMul q lq l ll = ([], false) ∧ stepS K q lq l ll = none) ∨
    (polOk lq q = true ∧ polOk ll l = true ∧ mulM q l ll lq = none ∧ wylMul q lq l ll = ([], false) ∧ stepS K q lq l ll = none) ∨
    (∃ P, polOk lq q = true ∧ polOk ll l = true ∧ mulM q l ll lq = some P ∧ wylMul q lq l ll = (P, true) ∧ okL P = true ∧ 400 < (addL K P).length ∧ addV K P = ([], false) ∧ stepS K q lq l ll = none) ∨
    (∃ P, polOk lq q = true ∧ polOk ll l = true ∧ mulM q l ll lq = some P ∧ wylMul q lq l ll = (P, true) ∧ okL P = true ∧ (addL K P).length ≤ 400 ∧ addV K P = (addL K P, true) ∧ stepS K q lq l ll = some (addL K P) ∧ okL (addL K P) = true) := by
  cases h1 : polOk lq q
  · have e : wylMul q lq l ll = ([], false) := if_neg (fun hh => by rw [h1] at hh; simp at hh)
    exact .inl ⟨.inl rfl, e, by unfold stepS; rw [e]; rfl⟩
  · cases h2 : polOk ll l
    · have e : wylMul q lq l ll = ([], false) := if_neg (fun hh => by rw [h2] at hh; simp at hh)
      exact .inl ⟨.inr ⟨rfl, rfl⟩, e, by unfold stepS; rw [e]; rfl⟩
    · have e0 : wylMul q lq l ll = mulO (mulM q l ll lq) := if_pos ⟨h1, h2⟩
      cases hm : mulM q l ll lq with
      | none =>
        have e : wylMul q lq l ll = ([], false) := by rw [e0, hm]; rfl
        exact .inr (.inl ⟨rfl, rfl, rfl, e, by unfold stepS; rw [e]; rfl⟩)
      | some P =>
        have e : wylMul q lq l ll = (P, true) := by rw [e0, hm]; rfl
        have hP : okL P = true := okL_of (mulM_len _ P hm) (mulM_falls2 (good_ok h1).2 (good_ok h2).2 _ P (Nat.le_refl _) hm)
        by_cases h4 : (addL K P).length ≤ 400
        · have ea := addV_ok hK hP h4
          refine .inr (.inr (.inr ⟨P, rfl, rfl, rfl, e, hP, h4, ea, ?_, okL_of h4 (addL_facts (okL_falls hK).2 (okL_falls hP).2).1⟩))
          unfold stepS
          rw [e]
          show (if (true = true) then (if (addV K P).2 = true then some (addV K P).1 else none) else none) = _
          rw [ea]; rfl
        · have ea : addV K P = ([], false) := if_neg (fun hh => h4 hh.2.2)
          refine .inr (.inr (.inl ⟨P, rfl, rfl, rfl, e, hP, by omega, ea, ?_⟩))
          unfold stepS
          rw [e]
          show (if (true = true) then (if (addV K P).2 = true then some (addV K P).1 else none) else none) = _
          rw [ea]; rfl
theorem sumPr_none {ln1 : Nat → Nat} {f1 : Nat → Nat → T} {ln2 : Nat → Nat} {f2 : Nat → Nat → T} {i : Nat} (h : sumPr ln1 f1 ln2 f2 i = none) : ∀ d, sumPr ln1 f1 ln2 f2 (i + d) = none
  | 0 => h
  | d + 1 => by
    show (match sumPr ln1 f1 ln2 f2 (i + d) with | some K => stepS K (f1 (i + d)) (ln1 (i + d)) (f2 (i + d)) (ln2 (i + d)) | none => none) = none
    rw [sumPr_none h d]
theorem sumPr_step {ln1 : Nat → Nat} {f1 : Nat → Nat → T} {ln2 : Nat → Nat} {f2 : Nat → Nat → T} {i : Nat} {K : List T} (h : sumPr ln1 f1 ln2 f2 i = some K) : sumPr ln1 f1 ln2 f2 (i + 1) = stepS K (f1 i) (ln1 i) (f2 i) (ln2 i) := by
  show (match sumPr ln1 f1 ln2 f2 i with | some K => stepS K (f1 i) (ln1 i) (f2 i) (ln2 i) | none => none) = _
  rw [h]
theorem redSum_bad {n1 : Nat} {ln1 : Nat → Nat} {f1 : Nat → Nat → T} {n2 : Nat} {ln2 : Nat → Nat} {f2 : Nat → Nat → T} {i : Nat} {K : List T} (hi : i < n2) (h : sumPr ln1 f1 ln2 f2 i = some K) (hs : stepS K (f1 i) (ln1 i) (f2 i) (ln2 i) = none) : redSum n1 ln1 f1 n2 ln2 f2 = ([], false) := by
  unfold redSum
  split
  · have := sumPr_none ((sumPr_step h).trans hs) (n2 - (i + 1))
    rw [show i + 1 + (n2 - (i + 1)) = n2 by omega] at this
    rw [this]; rfl
  · rfl
abbrev C2 (b1 o1 : Nat) (v1 : Value) (b2 o2 : Nat) (v2 : Value) (u : World) : Prop := u.cell? ⟨b1, o1, none⟩ = some v1 ∧ u.cell? ⟨b2, o2, none⟩ = some v2
theorem C2.below {b1 o1 b2 o2 : Nat} {v1 v2 : Value} {u u' : World} (h : C2 b1 o1 v1 b2 o2 v2 u) (hb : Below u.heap.size u u') : C2 b1 o1 v1 b2 o2 v2 u' :=
  ⟨(hb.cell (p := ⟨b1, o1, none⟩) (World.block_lt_of_cell? u _ h.1)).trans h.1, (hb.cell (p := ⟨b2, o2, none⟩) (World.block_lt_of_cell? u _ h.2)).trans h.2⟩
end Go.Proofs.YtdidlcjhodejjaaGreat
namespace Go.Proofs.YtdidlcjhodejjaaGreat
open Go.RowKit Go.Deep Go.Joins
set_option linter.unusedVariables false

theorem Wr.set {w : World} {a : Option Addr} {n : Nat} {f : Nat → T} {lo B o : Nat} {v : Value} (h : Wr w a n f) (hf : n = 0 ∨ ∃ g off, a = some ⟨g, off, none⟩ ∧ lo ≤ g) (hB : B < lo) : Wr (w.setCell ⟨B, o, none⟩ v) a n f := by
  rcases h with h0 | ⟨g, off, N, F, rfl, hR, hN, hF⟩
  · exact .inl h0
  · rcases hf with h0 | ⟨g', off', he, hlo⟩
    · exact .inl h0
    · cases he
      have hne : g ≠ B := by omega
      exact .inr ⟨g, off, N, F, rfl, hR.of_block (Below.heap_setCell _ _ _ _ hne), hN, hF⟩
theorem rd_setOther {w : World} {a : Option Addr} {n cap g o : Nat} {f : Nat → T} {v : Value} (h : Rd w a n cap f) (hne : n = 0 ∨ ∀ b off, a = some ⟨b, off, none⟩ → b ≠ g) : Rd (w.setCell ⟨g, o, none⟩ v) a n cap f :=
  h.grown (row := some g) ⟨rfl, rfl, rfl, by simp [World.setCell], fun k _ hk => Below.heap_setCell _ _ _ _ (fun e => hk (by rw [e]))⟩ (hne.imp id (fun k b off he hb => k b off he (by cases hb; rfl)))
theorem Out.set {lo : Nat} {w : World} {a : Option Addr} {cap : Nat} {L : List T} {B o : Nat} {v : Value} (h : Out lo w a cap L) (hB : B < lo) : Out lo (w.setCell ⟨B, o, none⟩ v) a cap L :=
  ⟨rd_setOther h.1 (h.2.2.imp id (fun ⟨g, off, he, hlo⟩ b off' hb => by rw [he] at hb; cases hb; omega)), h.2.1.set h.2.2 hB, h.2.2⟩
theorem Out.nil (lo : Nat) (w : World) : Out lo w none 0 [] := ⟨⟨Nat.le_refl _, by simp, .inl rfl⟩, .inl rfl, .inl rfl⟩
theorem Out.low {lo lo' : Nat} {w : World} {a : Option Addr} {cap : Nat} {L : List T} (h : Out lo w a cap L) (hl : lo' ≤ lo) : Out lo' w a cap L := ⟨h.1, h.2.1, h.2.2.imp id (fun ⟨g, off, he, hlo⟩ => ⟨g, off, he, Nat.le_trans hl hlo⟩)⟩
/-- what holds in a round: the sum's cell, the list's cell, and its operator's. -/
abbrev C3 (bs : Nat) (vs : Value) (B1 : Nat) (v1 : Value) (b2 o2 : Nat) (v2 : Value) (u : World) : Prop := u.cell? ⟨bs, 0, none⟩ = some vs ∧ u.cell? ⟨B1, 0, none⟩ = some v1 ∧ u.cell? ⟨b2, o2, none⟩ = some v2
theorem C3.below {bs B1 b2 o2 : Nat} {vs v1 v2 : Value} {u u' : World} (h : C3 bs vs B1 v1 b2 o2 v2 u) (hb : Below u.heap.size u u') : C3 bs vs B1 v1 b2 o2 v2 u' :=
  ⟨(hb.cell (p := ⟨bs, 0, none⟩) (World.block_lt_of_cell? u _ h.1)).trans h.1, (hb.cell (p := ⟨B1, 0, none⟩) (World.block_lt_of_cell? u _ h.2.1)).trans h.2.1, (hb.cell (p := ⟨b2, o2, none⟩) (World.block_lt_of_cell? u _ h.2.2)).trans h.2.2⟩
theorem C2.set {b1 o1 b2 o2 : Nat} {v1 v2 : Value} {u : World} {B : Nat} {v : Value} (h : C2 b1 o1 v1 b2 o2 v2 u) (h1 : b1 ≠ B) (h2 : b2 ≠ B) : C2 b1 o1 v1 b2 o2 v2 (u.setCell ⟨B, 0, none⟩ v) :=
  ⟨(World.cell?_of_block (w := u) (a := ⟨b1, o1, none⟩) (Below.heap_setCell _ _ _ _ h1)).trans h.1, (World.cell?_of_block (w := u) (a := ⟨b2, o2, none⟩) (Below.heap_setCell _ _ _ _ h2)).trans h.2⟩
def SumPost (w0 : World) (S : Option (List T)) (r : Ending) (w' : World) : Prop :=
  Below w0.heap.size w0 w' ∧ ((∃ K a c, S = some K ∧ okL K = true ∧ r = .returned (.tuple #[]) ∧ w'.cell? ⟨w0.heap.size, 0, none⟩ = some (.slice a K.length c) ∧ Out (w0.heap.size + 1) w' a c K) ∨ (S = none ∧ r = .panicked [{ v := tooMuch, recovered := false }]))
theorem SumPost.no {w0 : World} {S : Option (List T)} {w' : World} (hb : Below w0.heap.size w0 w') (h : S = none) : SumPost w0 S (.panicked [{ v := tooMuch, recovered := false }]) w' := ⟨hb, .inr ⟨h, rfl⟩⟩
theorem SumPost.yes {w0 : World} {S : Option (List T)} {w' : World} {K : List T} {a : Option Addr} {c : Nat} (hb : Below w0.heap.size w0 w') (h : S = some K) (hk : okL K = true) (hc : w'.cell? ⟨w0.heap.size, 0, none⟩ = some (.slice a K.length c)) (ho : Out (w0.heap.size + 1) w' a c K) : SumPost w0 S (.returned (.tuple #[])) w' := ⟨hb, .inl ⟨K, a, c, h, hk, rfl, hc, ho⟩⟩
end Go.Proofs.YtdidlcjhodejjaaGreat
