/-
  What the model's sum of two rows of terms returns: they are merged, the greater term first.
-/
import Derived.Test.YtoglomfejgpoeaaDoorHelp
import Derived.Deep.AppendLies
namespace Go.Proofs.YtoglomfejgpoeaaDoor
open Go.RowKit
set_option linter.unusedVariables false

def T.cells (t : T) : List Value := [.int .i64 t.c, .int .i64 t.m.x, .int .i64 t.m.y, .int .i64 t.m.d, .int .i64 t.m.e]
def cellsL : List T → List Value
  | [] => []
  | t :: r => t.cells ++ cellsL r
theorem cellsL_append (a b : List T) : cellsL (a ++ b) = cellsL a ++ cellsL b := by
  induction a with
  | nil => rfl
  | cons t r ih => simp [cellsL, ih, List.append_assoc]
theorem cellsL_length (a : List T) : (cellsL a).length = a.length * 5 := by
  induction a with
  | nil => rfl
  | cons t r ih => simp [cellsL, T.cells, ih]; omega
theorem cellsL_one (t : T) : cellsL [t] = [.int .i64 t.c, .int .i64 t.m.x, .int .i64 t.m.y, .int .i64 t.m.d, .int .i64 t.m.e] := by simp [cellsL, T.cells]

/-- the sum of what is left from the i-th and the k-th term on. -/
def mrgI (f : Nat → T) (la : Nat) (g : Nat → T) (lb : Nat) : Nat → Nat → Nat → List T
  | 0, _, _ => []
  | u + 1, i, k =>
    if i < la ∧ k < lb then
      if 0 < M.ord 1 (f i).m (g k).m then f i :: mrgI f la g lb u (i + 1) k
      else if M.ord 1 (f i).m (g k).m < 0 then g k :: mrgI f la g lb u i (k + 1)
      else if ((f i).c + (g k).c) % 101 ≠ 0 then ⟨((f i).c + (g k).c) % 101, (f i).m⟩ :: mrgI f la g lb u (i + 1) (k + 1)
      else mrgI f la g lb u (i + 1) (k + 1)
    else if i < la then f i :: mrgI f la g lb u (i + 1) k
    else if k < lb then g k :: mrgI f la g lb u i (k + 1)
    else []
theorem addI_more (f : Nat → T) (la : Nat) (g : Nat → T) (lb : Nat) : ∀ (u v i k : Nat), la - i + (lb - k) ≤ u → la - i + (lb - k) ≤ v → mrgI f la g lb u i k = mrgI f la g lb v i k
  | 0, 0, _, _, _, _ => rfl
  | 0, v + 1, i, k, h, _ => by simp only [mrgI]; rw [if_neg (by omega), if_neg (by omega), if_neg (by omega)]
  | u + 1, 0, i, k, _, h => by simp only [mrgI]; rw [if_neg (by omega), if_neg (by omega), if_neg (by omega)]
  | u + 1, v + 1, i, k, h, h' => by
    simp only [mrgI]
    by_cases h1 : i < la ∧ k < lb
    · rw [if_pos h1, if_pos h1, addI_more f la g lb u v (i + 1) k (by omega) (by omega), addI_more f la g lb u v i (k + 1) (by omega) (by omega), addI_more f la g lb u v (i + 1) (k + 1) (by omega) (by omega)]
    · rw [if_neg h1, if_neg h1]
      by_cases h2 : i < la
      · rw [if_pos h2, if_pos h2, addI_more f la g lb u v (i + 1) k (by omega) (by omega)]
      · rw [if_neg h2, if_neg h2]
        by_cases h3 : k < lb
        · rw [if_pos h3, if_pos h3, addI_more f la g lb u v i (k + 1) (by omega) (by omega)]
        · rw [if_neg h3, if_neg h3]
def addT (f : Nat → T) (la : Nat) (g : Nat → T) (lb : Nat) (i k : Nat) : List T := mrgI f la g lb (la - i + (lb - k)) i k
theorem addT_gt {f : Nat → T} {la : Nat} {g : Nat → T} {lb i k : Nat} (hi : i < la) (h : ¬ k < lb ∨ 0 < M.ord 1 (f i).m (g k).m) : addT f la g lb i k = f i :: addT f la g lb (i + 1) k := by
  unfold addT
  rw [show la - i + (lb - k) = (la - (i + 1) + (lb - k)) + 1 by omega]
  simp only [mrgI]
  by_cases hk : k < lb
  · rw [if_pos ⟨hi, hk⟩, if_pos (h.resolve_left (fun h => h hk))]
  · rw [if_neg (fun h => hk h.2), if_pos hi]
theorem addT_lt {f : Nat → T} {la : Nat} {g : Nat → T} {lb i k : Nat} (hk : k < lb) (h : ¬ i < la ∨ M.ord 1 (f i).m (g k).m < 0) : addT f la g lb i k = g k :: addT f la g lb i (k + 1) := by
  unfold addT
  rw [show la - i + (lb - k) = (la - i + (lb - (k + 1))) + 1 by omega]
  simp only [mrgI]
  by_cases hi : i < la
  · have h' := h.resolve_left (fun h => h hi)
    rw [if_pos ⟨hi, hk⟩, if_neg (by omega), if_pos h']
  · rw [if_neg (fun h => hi h.1), if_neg hi, if_pos hk]
theorem addT_eq {f : Nat → T} {la : Nat} {g : Nat → T} {lb i k : Nat} (hi : i < la) (hk : k < lb) (h : M.ord 1 (f i).m (g k).m = 0) :
    addT f la g lb i k = (if ((f i).c + (g k).c) % 101 ≠ 0 then [⟨((f i).c + (g k).c) % 101, (f i).m⟩] else []) ++ addT f la g lb (i + 1) (k + 1) := by
  unfold addT
  rw [show la - i + (lb - k) = (la - i + (lb - k) - 1) + 1 by omega]
  simp only [mrgI]
  rw [if_pos ⟨hi, hk⟩, if_neg (by omega), if_neg (by omega), addI_more f la g lb (la - i + (lb - k) - 1) (la - (i + 1) + (lb - (k + 1))) (i + 1) (k + 1) (by omega) (by omega)]
  by_cases hc : ((f i).c + (g k).c) % 101 ≠ 0
  · rw [if_pos hc, if_pos hc]; rfl
  · rw [if_neg hc, if_neg hc]; rfl
theorem addT_end {f : Nat → T} {la : Nat} {g : Nat → T} {lb i k : Nat} (hi : ¬ i < la) (hk : ¬ k < lb) : addT f la g lb i k = [] := by
  unfold addT
  rw [show la - i + (lb - k) = 0 by omega]; rfl
theorem addI_len (f : Nat → T) (la : Nat) (g : Nat → T) (lb : Nat) : ∀ (u i k : Nat), (mrgI f la g lb u i k).length ≤ u
  | 0, _, _ => by simp [mrgI]
  | u + 1, i, k => by
    have a1 := addI_len f la g lb u (i + 1) k
    have a2 := addI_len f la g lb u i (k + 1)
    have a3 := addI_len f la g lb u (i + 1) (k + 1)
    simp only [mrgI]
    repeat' split
    all_goals simp
    all_goals omega
theorem addT_len (f : Nat → T) (la : Nat) (g : Nat → T) (lb i k : Nat) : (addT f la g lb i k).length ≤ la - i + (lb - k) := addI_len _ _ _ _ _ _ _
theorem one_cells (t : T) : ∀ u ∈ cellsL [t], u.oneCell' = true := by
  rw [cellsL_one]
  intro u hu
  simp only [List.mem_cons, List.not_mem_nil, or_false] at hu
  rcases hu with rfl | rfl | rfl | rfl | rfl <;> rfl
theorem grown_of_below {w w' : World} (h : Below w.heap.size w w') : w.grownBy w' none := ⟨h.os, h.tape, h.output, h.size, fun k hk _ => h.block k hk⟩
theorem owns_below {w w' : World} {base : Nat} {e : TypeId} {size : Nat} {v : Value} {n : Nat} {xs : List Value} (h : w.ownsRow base e size v n xs) (hb : Below w.heap.size w w') : w'.ownsRow base e size v n xs := by
  refine h.kept (grown_of_below hb) ?_
  cases hv : v.ownBlock with
  | none => exact .inl rfl
  | some k => exact .inr (by simp)

/-- the i-th term of a list. -/
def lf (L : List T) (i : Nat) : T := L.getD i ⟨0, ⟨0, 0, 0, 0⟩⟩
theorem cellsL_at (L : List T) : ∀ j, j < L.length * 5 → (cellsL L)[j]? = some (cf (lf L) j) := by
  induction L with
  | nil => intro j h; simp at h
  | cons t r ih =>
    intro j h
    have e : cellsL (t :: r) = t.cells ++ cellsL r := rfl
    rw [e]
    by_cases hj : j < 5
    · rw [List.getElem?_append_left (by simp [T.cells]; omega)]
      have h5 : j = 0 ∨ j = 1 ∨ j = 2 ∨ j = 3 ∨ j = 4 := by omega
      rcases h5 with rfl | rfl | rfl | rfl | rfl <;> rfl
    · rw [List.getElem?_append_right (by simp [T.cells]; omega), show T.cells t = [.int .i64 t.c, .int .i64 t.m.x, .int .i64 t.m.y, .int .i64 t.m.d, .int .i64 t.m.e] from rfl]
      simp only [List.length_cons, List.length_nil]
      rw [ih (j - 5) (by simp at h; omega)]
      obtain ⟨q, rfl⟩ : ∃ q, j = q + 5 := ⟨j - 5, by omega⟩
      simp only [Nat.add_sub_cancel]
      unfold cf
      rw [show (q + 5) % 5 = q % 5 by omega, show (q + 5) / 5 = q / 5 + 1 by omega]
      rfl
/-- What a function hands back: terms that can be read and written, in a block that was not there before lo. -/
def Out (lo : Nat) (w : World) (a : Option Addr) (cap : Nat) (L : List T) : Prop :=
  Rd w a L.length cap (lf L) ∧ Wr w a L.length (lf L) ∧ (L.length = 0 ∨ ∃ g off, a = some ⟨g, off, none⟩ ∧ lo ≤ g)
theorem out_of_owns {w : World} {lo : Nat} {v : Value} {L : List T} (h : w.ownsRow lo 54 5 v L.length (cellsL L)) (hl : L.length * 40 ≤ 140737488351232) : ∃ a cap, v = .slice a L.length cap ∧ Out lo w a cap L := by
  rcases h.2 with ⟨hv, h0⟩ | ⟨g, cap, cur, hv, hlo, hg, hn, hm, hs, ht⟩
  · refine ⟨none, 0, by rw [hv, h0], ⟨by omega, hl, .inl h0⟩, .inl h0, .inl h0⟩
  · have hat : ∀ j, j < L.length * 5 → cur[j]? = some (cf (lf L) j) := by
      intro j hj
      rw [← cellsL_at L j hj, ← ht, List.getElem?_take_of_lt hj]
      simp
    have hc5 : L.length * 5 ≤ cap * 5 := by omega
    have hrow : w.rowIs g 54 (cap * 5) (fun j => cur.getD j undef) := ⟨cur, hg, hs, fun j hj => by
      have hjs : j < cur.size := by omega
      show cur[j]? = some (cur.getD j undef)
      rw [Array.getD_eq_getD_getElem?, Array.getElem?_eq_getElem hjs]
      rfl⟩
    have hcell : ∀ j, j < L.length * 5 → w.cell? ⟨g, j, none⟩ = some (cf (lf L) j) := by
      intro j hj
      rw [hrow.cell (by omega), Array.getD_eq_getD_getElem?, hat j hj]; rfl
    refine ⟨some ⟨g, 0, none⟩, cap, hv, ⟨hn, hl, .inr ⟨g, 0, rfl, hrow.lt, fun i hi => ?_⟩⟩, .inr ⟨g, 0, cap * 5, _, rfl, hrow, by omega, fun j hj => ?_⟩, .inr ⟨g, 0, rfl, hlo⟩⟩
    · rw [Nat.zero_add]
      exact ⟨by rw [hcell _ (by omega), cf0], by rw [hcell _ (by omega), cf1], by rw [hcell _ (by omega), cf2], by rw [hcell _ (by omega), cf3], by rw [hcell _ (by omega), cf4]⟩
    · rw [Nat.zero_add, Array.getD_eq_getD_getElem?, hat j hj]; rfl
theorem Wr.below {w w' : World} {a : Option Addr} {n : Nat} {f : Nat → T} (h : Wr w a n f) (hb : Below w.heap.size w w') : Wr w' a n f := by
  rcases h with h0 | ⟨g, off, N, F, rfl, hR, hN, hF⟩
  · exact .inl h0
  · exact .inr ⟨g, off, N, F, rfl, hR.of_block (hb.block g hR.lt), hN, hF⟩
theorem Out.below {lo : Nat} {w w' : World} {a : Option Addr} {cap : Nat} {L : List T} (h : Out lo w a cap L) (hb : Below w.heap.size w w') : Out lo w' a cap L := ⟨h.1.below hb, h.2.1.below hb, h.2.2⟩
theorem Cells.same {w w' : World} {b o : Nat} {t : T} (h : Cells w b o t) (he : w'.heap[b]? = w.heap[b]?) : Cells w' b o t := by
  obtain ⟨h0, h1, h2, h3, h4⟩ := h
  exact ⟨(World.cell?_of_block (w := w) (a := ⟨b, o, none⟩) he).trans h0, (World.cell?_of_block (w := w) (a := ⟨b, o + 1, none⟩) he).trans h1, (World.cell?_of_block (w := w) (a := ⟨b, o + 2, none⟩) he).trans h2, (World.cell?_of_block (w := w) (a := ⟨b, o + 3, none⟩) he).trans h3, (World.cell?_of_block (w := w) (a := ⟨b, o + 4, none⟩) he).trans h4⟩
theorem Rd.grown {w w' : World} {a : Option Addr} {n cap : Nat} {f : Nat → T} {row : Option Nat} (h : Rd w a n cap f) (hg : w.grownBy w' row) (hne : n = 0 ∨ ∀ b off, a = some ⟨b, off, none⟩ → some b ≠ row) : Rd w' a n cap f := by
  obtain ⟨h1, h2, h3⟩ := h
  refine ⟨h1, h2, ?_⟩
  rcases h3 with h0 | ⟨b, off, rfl, hlt, hc⟩
  · exact .inl h0
  · rcases hne with h0 | hne
    · exact .inl h0
    · exact .inr ⟨b, off, rfl, Nat.lt_of_lt_of_le hlt hg.size, fun i hi => (hc i hi).same (hg.block b hlt (hne b off rfl))⟩
theorem owns_lower {w : World} {base base' : Nat} {e : TypeId} {size : Nat} {v : Value} {n : Nat} {xs : List Value} (h : w.ownsRow base e size v n xs) (hb : base' ≤ base) : w.ownsRow base' e size v n xs := by
  refine ⟨h.1, ?_⟩
  rcases h.2 with h0 | ⟨g, cap, cur, hv, hlo, hr⟩
  · exact .inl h0
  · exact .inr ⟨g, cap, cur, hv, Nat.le_trans hb hlo, hr⟩
theorem polOk_c {n : Nat} {f : Nat → T} (h : polOk n f = true) : n ≤ 400 ∧ ∀ i, i < n → 0 ≤ (f i).c ∧ (f i).c ≤ 100 := by
  simp only [polOk, decide_eq_true_eq] at h
  refine ⟨h.1, fun i hi => ?_⟩
  have := h.2 i hi
  simp only [okAt, Bool.and_eq_true, decide_eq_true_eq] at this
  omega
/-- PolAdd: the terms, and whether it is one. -/
def polAdd (f : Nat → T) (la : Nat) (g : Nat → T) (lb : Nat) : List T × Bool :=
  if polOk la f = true ∧ polOk lb g = true ∧ (addT f la g lb 0 0).length ≤ 400 then (addT f la g lb 0 0, true) else ([], false)
theorem owns_none (w : World) (lo : Nat) (h : lo ≤ w.heap.size) : (w.alloc (.cells #[] 54)).ownsRow lo 54 5 (.slice (some ⟨w.heap.size, 0, none⟩) 0 0) 0 (cellsL []) := World.ownsRow_lit _ _ _ h (Nat.zero_le _) rfl
end Go.Proofs.YtoglomfejgpoeaaDoor
