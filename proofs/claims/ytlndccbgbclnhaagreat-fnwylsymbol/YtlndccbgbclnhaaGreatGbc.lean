/-
  Laws of lists: tops and parts; an operator is the sum of its terms.
  Draws for tops and parts; their functions as lists.
  The least monomial that two divide: the model's and the program's function.
-/
import Derived.Test.YtlndccbgbclnhaaGreatGbb
import Derived.Test.YtlndccbgbclnhaaGreatGay
import Derived.Test.YtlndccbgbclnhaaGreatGac
import Derived.Test.YtlndccbgbclnhaaGreatGad
import Derived.Deep.RegionHeld3
import Derived.Deep.Light
namespace Go.Proofs.YtlndccbgbclnhaaGreat
open Go.RowKit
set_option linter.unusedVariables false

theorem list_is (L : List T) : (List.range L.length).map (lf L) = L := by
  refine List.ext_getElem (by simp) (fun i h1 h2 => ?_)
  simp [lf_eq h2]
theorem wantL_filter (p : T → Bool) (f : Nat → T) : ∀ n, wantL p f n = ((List.range n).map f).filter p
  | 0 => rfl
  | n + 1 => by
    rw [wantL, wantL_filter p f n, List.range_succ, List.map_append, List.filter_append]
    by_cases h : p (f n) = true
    · simp [h]
    · simp [h]
theorem wantL_is (p : T → Bool) (L : List T) : wantL p (lf L) L.length = L.filter p := by rw [wantL_filter, list_is]
def partV (v : Int) (L : List T) : List T := filPart (lf L) L.length v
def symV (L : List T) : List T := filSymbol (lf L) L.length
theorem partV_ok {v : Int} {L : List T} (h : okL L = true) : partV v L = L.filter (fun t => dgr t.m == v) := by
  unfold partV filPart filWith
  rw [if_pos (show polOk L.length (lf L) = true from h), wantL_is]
theorem partV_bad {v : Int} {L : List T} (h : okL L = false) : partV v L = [] := by
  unfold partV filPart filWith
  rw [if_neg (by rw [show polOk L.length (lf L) = false from h]; simp)]
theorem symV_ok {L : List T} (h : okL L = true) : symV L = L.filter (fun t => slp t.m == moL slp L) := by
  unfold symV filSymbol filWith
  rw [if_pos (show polOk L.length (lf L) = true from h), wantL_is]
  rfl
theorem symV_bad {L : List T} (h : okL L = false) : symV L = [] := by
  unfold symV filSymbol filWith
  rw [if_neg (by rw [show polOk L.length (lf L) = false from h]; simp)]
theorem moL_bad {q : M → Int} {L : List T} (h : okL L = false) : moL q L = -1 := if_neg (by rw [show polOk L.length (lf L) = false from h]; simp)
theorem falls_sub {L K : List T} (h : K.Sublist L) (hL : Falls L) : Falls K := ⟨hL.1.sublist h, fun t ht => hL.2 t (h.subset ht)⟩
theorem coef_filter (P : M → Bool) (m : M) : ∀ L : List T, coef (L.filter (fun t => P t.m)) m = if P m = true then coef L m else 0
  | [] => by simp [coef]
  | t :: r => by
    have ih := coef_filter P m r
    by_cases hp : P t.m = true
    · rw [List.filter_cons_of_pos (by exact hp), coef, coef]
      by_cases he : t.m = m
      · rw [if_pos (meqB_iff.2 he), if_pos (meqB_iff.2 he), ← he, if_pos hp]
      · rw [if_neg (fun e => he (meqB_iff.1 e)), if_neg (fun e => he (meqB_iff.1 e)), ih]
    · rw [List.filter_cons_of_neg (by exact hp), coef, ih]
      by_cases he : t.m = m
      · rw [← he, if_neg hp, if_neg hp]
      · rw [if_neg (fun e => he (meqB_iff.1 e))]
/-- the parts below v, together. -/
def lowL (v : Int) (L : List T) : List T := L.filter (fun t => decide (dgr t.m < v))
theorem low_step {L : List T} (hL : Falls L) (v : Int) : addL (lowL v L) (L.filter (fun t => dgr t.m == v)) = lowL (v + 1) L := by
  have f1 : Falls (lowL v L) := falls_sub List.filter_sublist hL
  have f2 : Falls (L.filter (fun t => dgr t.m == v)) := falls_sub List.filter_sublist hL
  have f3 : Falls (lowL (v + 1) L) := falls_sub List.filter_sublist hL
  have a1 := addL_facts f1 f2
  refine falls_one a1.1 f3 (fun m _ => ?_)
  have r := coef_range hL m
  rw [a1.2]
  unfold lowL
  rw [coef_filter (fun m => decide (dgr m < v)), coef_filter (fun m => dgr m == v), coef_filter (fun m => decide (dgr m < v + 1))]
  simp only [decide_eq_true_eq, beq_iff_eq]
  by_cases h1 : dgr m < v
  · rw [if_pos h1, if_neg (by omega), if_pos (by omega)]
    omega
  · by_cases h2 : dgr m = v
    · rw [if_neg h1, if_pos h2, if_pos (by omega)]
      omega
    · rw [if_neg h1, if_neg h2, if_neg (by omega)]
      rfl
theorem low_len (v : Int) (L : List T) : (lowL v L).length ≤ L.length := List.length_filter_le _ _
theorem low_falls {L : List T} (h : Falls L) (v : Int) : Falls (lowL v L) := falls_sub List.filter_sublist h
theorem dgr_nn {m : M} (h : m.ok = true) : 0 ≤ dgr m := by have := M.ok_iff.1 h; unfold dgr; omega
theorem low_none {L : List T} (h : Falls L) : lowL 0 L = [] := by
  unfold lowL
  rw [List.filter_eq_nil_iff]
  intro t ht
  have := dgr_nn (h.2 t ht).1
  simp
  omega
theorem low_all {L : List T} (h : okL L = true) : lowL (moL dgr L + 1) L = L := by
  unfold lowL
  rw [List.filter_eq_self]
  intro t ht
  have := moL_ge (q := dgr) h ht
  simp
  omega
theorem part_none {L : List T} (h : okL L = true) {v : Int} (hv : moL dgr L < v ∨ v < 0) : L.filter (fun t => dgr t.m == v) = [] := by
  rw [List.filter_eq_nil_iff]
  intro t ht
  have h1 := moL_ge (q := dgr) h ht
  have h2 := dgr_nn ((okL_falls h).2.2 t ht).1
  simp
  omega
/-! an operator is the sum of its terms -/
theorem take_step {L : List T} (hL : Falls L) {i : Nat} (hi : i < L.length) : addL (L.take i) [L[i]] = L.take (i + 1) := by
  have f1 : Falls (L.take i) := falls_sub (List.take_sublist _ _) hL
  have f3 : Falls (L.take (i + 1)) := falls_sub (List.take_sublist _ _) hL
  have h0 := hL.2 _ (List.getElem_mem hi)
  have f2 : Falls [L[i]] := ⟨by simp, fun t ht => by rw [List.mem_singleton.1 ht]; exact h0⟩
  have a1 := addL_facts f1 f2
  have ht : L.take (i + 1) = L.take i ++ [L[i]] := (List.take_append_getElem hi).symm
  refine falls_one a1.1 f3 (fun m _ => ?_)
  rw [a1.2, ht]
  have key : ∀ K : List T, (∀ t ∈ K, t.m ≠ L[i].m) → coef (K ++ [L[i]]) m = (if meqB L[i].m m = true then L[i].c else coef K m) := fun K => by
    induction K with
    | nil =>
      intro _
      show (if meqB L[i].m m = true then L[i].c else 0) = _
      rfl
    | cons t r ih =>
      intro hk
      have ih := ih (fun s hs => hk s (List.mem_cons_of_mem _ hs))
      rw [List.cons_append, coef, coef, ih]
      by_cases h1 : meqB t.m m = true
      · have h2 : ¬ meqB L[i].m m = true := fun e => hk t (List.mem_cons_self ..) (by rw [meqB_iff.1 h1, meqB_iff.1 e])
        rw [if_pos h1, if_neg h2, if_pos h1]
      · rw [if_neg h1, if_neg h1]
  have hne : ∀ t ∈ L.take i, t.m ≠ L[i].m := fun t htk e => by
    obtain ⟨j, hj, rfl⟩ := List.mem_iff_getElem.1 htk
    rw [List.length_take] at hj
    rw [List.getElem_take] at e
    have := (List.pairwise_iff_getElem.1 hL.1) j i (by omega) hi (by omega)
    rw [e] at this
    omega
  rw [key _ hne]
  have r := coef_range f1 m
  show (coef (L.take i) m + (if meqB L[i].m m = true then L[i].c else 0)) % 101 = _
  by_cases h1 : meqB L[i].m m = true
  · have h2 : coef (L.take i) m = 0 := by
      by_cases hz : coef (L.take i) m = 0
      · exact hz
      · obtain ⟨t, ht2, e⟩ := coef_ne_mem hz
        exact absurd (e.trans (meqB_iff.1 h1).symm) (hne t ht2)
    rw [if_pos h1, if_pos h1, h2]
    omega
  · rw [if_neg h1, if_neg h1]
    omega
/-- the sum of the first terms, and whether all went well. -/
def xk (A : List T) : Nat → List T
  | 0 => []
  | i + 1 => (addV (xk A i) (polOf (lf A i).c (lf A i).m)).1
def okb (A : List T) : Nat → Bool
  | 0 => true
  | i + 1 => okb A i && decide ((polOf (lf A i).c (lf A i).m).length = 1)
theorem polOf_case (c : Int) (m : M) : polOf c m = [] ∨ (polOf c m = [⟨c, m⟩] ∧ m.ok = true ∧ 1 ≤ c ∧ c ≤ 100) := by
  unfold polOf
  split
  · rename_i h
    exact .inr ⟨rfl, by simp_all⟩
  · exact .inl rfl
theorem polOf_falls (c : Int) (m : M) : Falls (polOf c m) ∧ (polOf c m).length ≤ 1 := by
  rcases polOf_case c m with h | ⟨h, h1⟩
  · rw [h]; exact ⟨falls_nil, by simp⟩
  · rw [h]; exact ⟨⟨by simp, fun t ht => by rw [List.mem_singleton.1 ht]; exact h1⟩, by simp⟩
theorem xk_facts (A : List T) : ∀ i, i ≤ 300 → Falls (xk A i) ∧ (xk A i).length ≤ i ∧ (addV (xk A i) (polOf (lf A i).c (lf A i).m)) = (xk A (i + 1), true)
  | 0, _ => by
    have h1 := polOf_falls (lf A 0).c (lf A 0).m
    have h2 := addL_len [] (polOf (lf A 0).c (lf A 0).m)
    have e := addV_ok okL_nil (okL_of (by omega) h1.1) (by simp only [List.length_nil] at h2; omega)
    refine ⟨falls_nil, Nat.le_refl _, ?_⟩
    show addV [] _ = ((addV [] _).1, true)
    rw [e]
  | i + 1, hi => by
    obtain ⟨f1, l1, e1⟩ := xk_facts A i (by omega)
    have h0 := polOf_falls (lf A i).c (lf A i).m
    have h1 := polOf_falls (lf A (i + 1)).c (lf A (i + 1)).m
    have ek : xk A (i + 1) = addL (xk A i) (polOf (lf A i).c (lf A i).m) := by
      have e := addV_ok (okL_of (by omega) f1) (okL_of (by omega) h0.1) (by have := addL_len (xk A i) (polOf (lf A i).c (lf A i).m); omega)
      rw [e] at e1
      exact (congrArg Prod.fst e1).symm
    have f2 : Falls (xk A (i + 1)) := by rw [ek]; exact (addL_facts f1 h0.1).1
    have l2 : (xk A (i + 1)).length ≤ i + 1 := by rw [ek]; have := addL_len (xk A i) (polOf (lf A i).c (lf A i).m); omega
    have e := addV_ok (okL_of (by omega) f2) (okL_of (by omega) h1.1) (by have := addL_len (xk A (i + 1)) (polOf (lf A (i + 1)).c (lf A (i + 1)).m); omega)
    refine ⟨f2, l2, ?_⟩
    show addV (xk A (i + 1)) _ = ((addV (xk A (i + 1)) _).1, true)
    rw [e]
theorem xk_take {A : List T} (h : okL A = true) (hn : A.length ≤ 200) : ∀ i, i ≤ A.length → xk A i = A.take i ∧ okb A i = true
  | 0, _ => ⟨by simp [xk], rfl⟩
  | i + 1, hi => by
    obtain ⟨h1, h2⟩ := xk_take h hn i (by omega)
    have hl := okL_falls h
    have hil : i < A.length := by omega
    have hr := hl.2.2 _ (List.getElem_mem hil)
    have hp : polOf (lf A i).c (lf A i).m = [A[i]] := by
      rw [lf_eq hil]
      rcases polOf_case (A[i]).c (A[i]).m with h3 | ⟨h3, _⟩
      · exfalso
        unfold polOf at h3
        rw [if_pos (by simp_all)] at h3
        cases h3
      · exact h3
    have h4 := (xk_facts A i (by omega)).2.2
    have f1 : Falls (A.take i) := falls_sub (List.take_sublist _ _) hl.2
    have f2 : Falls [A[i]] := ⟨by simp, fun t ht => by rw [List.mem_singleton.1 ht]; exact hr⟩
    have h5 := take_step hl.2 hil
    have h6 : (A.take (i + 1)).length ≤ 400 := by rw [List.length_take]; omega
    rw [h1, hp, addV_ok (okL_of (by rw [List.length_take]; omega) f1) (okL_of (by simp) f2) (by rw [h5]; exact h6), h5] at h4
    refine ⟨(congrArg Prod.fst h4).symm, ?_⟩
    rw [okb, h2, hp]
    rfl
theorem polOk_law (A : List T) (hl : A.length ≤ 200) : (okL A == (okb A A.length && sq (xk A A.length) A)) = true := by
  cases h : okL A
  · cases h1 : okb A A.length && sq (xk A A.length) A
    · rfl
    · exfalso
      rw [Bool.and_eq_true] at h1
      have h2 := sq_iff.1 h1.2
      have h3 := xk_facts A A.length (by omega)
      rw [h2] at h3
      rw [okL_of (by omega) h3.1] at h
      cases h
  · obtain ⟨h1, h2⟩ := xk_take h hl A.length (Nat.le_refl _)
    rw [h1, h2, List.take_length, sq_same]
    rfl
end Go.Proofs.YtlndccbgbclnhaaGreat
namespace Go.Proofs.YtlndccbgbclnhaaGreat
open Go.RowKit
set_option linter.unusedVariables false

def One5 (w : World) (e : Ending) (w' : World) : Prop := ∃ (a1 : Option Addr) (c1 : Nat) (A : List T), e = .returned (.slice a1 A.length c1) ∧ RL w' a1 c1 A ∧ A.length ≤ 5 ∧ Below w.heap.size w w'
variable {w : World} {a : Option Addr} {ca : Nat} {L : List T}
theorem symI_L (ha : RL w a ca L) : Calls Tryz.prog 10 #[.slice a L.length ca] w (One1 w (symV L)) :=
  (filSymbolI w a L.length ca (lf L) ha).mono fun _ _ ⟨a', c', h1, h2, h3⟩ => ⟨a', c', h1, h2, h3.1⟩
theorem mo_high {L : List T} (h : okL L = true) : moL dgr L ≤ 60 := by
  rcases moL_at (q := dgr) h with h1 | ⟨t, ht, h1⟩
  · omega
  · have := M.ok_iff.1 ((okL_falls h).2.2 t ht).1
    rw [h1]
    unfold dgr
    omega
end Go.Proofs.YtlndccbgbclnhaaGreat
namespace Go.Proofs.YtlndccbgbclnhaaGreat
open Go.RowKit
set_option linter.unusedVariables false

def S8 (u : World) (n : Nat) (x0 y0 z0 u0 x1 y1 z1 u1 : Int) : Prop := u.cell? ⟨n, 0, none⟩ = some (.int .i64 x0) ∧ u.cell? ⟨n, 1, none⟩ = some (.int .i64 y0) ∧ u.cell? ⟨n, 2, none⟩ = some (.int .i64 z0) ∧ u.cell? ⟨n, 3, none⟩ = some (.int .i64 u0) ∧ u.cell? ⟨n + 1, 0, none⟩ = some (.int .i64 x1) ∧ u.cell? ⟨n + 1, 1, none⟩ = some (.int .i64 y1) ∧ u.cell? ⟨n + 1, 2, none⟩ = some (.int .i64 z1) ∧ u.cell? ⟨n + 1, 3, none⟩ = some (.int .i64 u1)
theorem S8.mk {u : World} {n : Nat} {x0 y0 z0 u0 x1 y1 z1 u1 : Int} (ha : M4 u n x0 y0 z0 u0) (hb : M4 u (n + 1) x1 y1 z1 u1) : S8 u n x0 y0 z0 u0 x1 y1 z1 u1 :=
  ⟨ha.1, ha.2.1, ha.2.2.1, ha.2.2.2, hb.1, hb.2.1, hb.2.2.1, hb.2.2.2⟩
theorem S8.a {u : World} {n : Nat} {x0 y0 z0 u0 x1 y1 z1 u1 : Int} (h : S8 u n x0 y0 z0 u0 x1 y1 z1 u1) : M4 u n x0 y0 z0 u0 := ⟨h.1, h.2.1, h.2.2.1, h.2.2.2.1⟩
theorem S8.b {u : World} {n : Nat} {x0 y0 z0 u0 x1 y1 z1 u1 : Int} (h : S8 u n x0 y0 z0 u0 x1 y1 z1 u1) : M4 u (n + 1) x1 y1 z1 u1 := ⟨h.2.2.2.2.1, h.2.2.2.2.2.1, h.2.2.2.2.2.2.1, h.2.2.2.2.2.2.2⟩
theorem s8_drew {u : World} {n : Nat} {x0 y0 z0 u0 x1 y1 z1 u1 : Int} (h : S8 u n x0 y0 z0 u0 x1 y1 z1 u1) : S8 u.drew n x0 y0 z0 u0 x1 y1 z1 u1 := .mk h.a.drew' h.b.drew'
theorem m4_far {u : World} {B b : Nat} {v0 v1 v2 v3 : Value} {x y d e : Int} (m : M4 u b x y d e) (h : b ≠ B) : M4 ((((u.setCell ⟨B, 0, none⟩ v0).setCell ⟨B, 1, none⟩ v1).setCell ⟨B, 2, none⟩ v2).setCell ⟨B, 3, none⟩ v3) b x y d e :=
  ⟨(far4 h).trans m.1, (far4 h).trans m.2.1, (far4 h).trans m.2.2.1, (far4 h).trans m.2.2.2⟩
theorem s8_set {u : World} {n B : Nat} {v0 v1 v2 v3 : Value} {x0 y0 z0 u0 x1 y1 z1 u1 : Int} (h : S8 u n x0 y0 z0 u0 x1 y1 z1 u1) (hB : n + 1 < B) : S8 ((((u.setCell ⟨B, 0, none⟩ v0).setCell ⟨B, 1, none⟩ v1).setCell ⟨B, 2, none⟩ v2).setCell ⟨B, 3, none⟩ v3) n x0 y0 z0 u0 x1 y1 z1 u1 :=
  .mk (m4_far h.a (by omega)) (m4_far h.b (by omega))
end Go.Proofs.YtlndccbgbclnhaaGreat
