/-
  An answer of operators under way: each in memory of its own.
  A division's answer.
  A division to its end: the closure of the program's RedAll.
-/
import Derived.Test.YtmlaedpamobmhaaGreatPaf
import Derived.Test.YtmlaedpamobmhaaGreatPbj
namespace Go.Proofs.YtmlaedpamobmhaaGreat
open Go.RowKit Go.Deep Go.Joins Go.Maps
set_option linter.unusedVariables false

theorem belowG {w w' : World} (h : Below w.heap.size w w') (row : Option Nat) : w.grownBy w' row := ⟨h.os, h.tape, h.output, h.size, fun k hk _ => h.block k hk⟩
/-- operators, told as slices. -/
def slL (ad : Nat → Option Addr) (ln cp : Nat → Nat) (j : Nat) : List Value := (List.range j).map fun i => .slice (ad i) (ln i) (cp i)
theorem slL_at {ad : Nat → Option Addr} {ln cp : Nat → Nat} {j i : Nat} (h : i < j) : (slL ad ln cp j)[i]? = some (.slice (ad i) (ln i) (cp i)) := by simp [slL, h]
theorem slL_next {ad : Nat → Option Addr} {ln cp : Nat → Nat} {j : Nat} {a : Option Addr} {c : Nat} : slL (fun i => if i = j then a else ad i) ln (fun i => if i = j then c else cp i) (j + 1) = slL ad ln cp j ++ [.slice a (ln j) c] := by
  unfold slL
  rw [List.range_succ, List.map_append]
  congr 1
  · refine List.map_congr_left fun i hi => ?_
    have : i < j := by simpa using hi
    dsimp only
    rw [if_neg (by omega), if_neg (by omega)]
  · simp
/-- an answer of operators under way: its row, the operators in memory of their own. -/
structure AnW (lo : Nat) (wr : World) (q : Nat → List T) (j : Nat) (tv : Value) (ad : Nat → Option Addr) (cp B : Nat → Nat) : Prop where
  row : wr.ownsRow lo 35 1 tv j (slL ad (fun i => (q i).length) cp j)
  el : ∀ i, i < j → Rd wr (ad i) (q i).length (cp i) (lf (q i)) ∧ Wr wr (ad i) (q i).length (lf (q i)) ∧ ((q i).length = 0 ∨ ∃ off, ad i = some ⟨B i, off, none⟩ ∧ lo ≤ B i ∧ B i < wr.heap.size ∧ some (B i) ≠ tv.ownBlock)
  ap : ∀ i k, i < k → k < j → (q i).length ≠ 0 → (q k).length ≠ 0 → B i < B k
  lo : lo ≤ wr.heap.size
theorem AnW.start {lo : Nat} {wr : World} (h : lo ≤ wr.heap.size) (q : Nat → List T) : AnW lo wr q 0 (.slice none 0 0) (fun _ => none) (fun _ => 0) (fun _ => 0) :=
  ⟨⟨rfl, .inl ⟨rfl, rfl⟩⟩, fun i hi => by omega, fun i k _ hk => by omega, h⟩
theorem AnW.below {lo : Nat} {w w' : World} {q : Nat → List T} {j : Nat} {tv : Value} {ad : Nat → Option Addr} {cp B : Nat → Nat} (h : AnW lo w q j tv ad cp B) (hb : Below w.heap.size w w') : AnW lo w' q j tv ad cp B where
  row := h.row.kept (belowG hb none) (by
    cases e : tv.ownBlock with
    | none => exact .inl rfl
    | some k => exact .inr (by simp))
  el := fun i hi => ⟨(h.el i hi).1.below hb, (h.el i hi).2.1.below hb, (h.el i hi).2.2.imp id (fun ⟨off, e1, e2, e3, e4⟩ => ⟨off, e1, e2, Nat.lt_of_lt_of_le e3 hb.size, e4⟩)⟩
  ap := h.ap
  lo := Nat.le_trans h.lo hb.size
/-- one more operator is put behind. -/
theorem AnW.round {lo : Nat} {w1 w5 : World} {q : Nat → List T} {j : Nat} {tv : Value} {ad : Nat → Option Addr} {cp B : Nat → Nat} {m : Nat} (h : AnW lo w1 q j tv ad cp B) (hm : ∀ i, i < j → (q i).length ≠ 0 → B i < m) (hmr : ∀ k, tv.ownBlock = some k → k < m) (hlm : lo ≤ m)
    {a : Option Addr} {c : Nat} (ho : Out m w1 a c (q j)) {g0 cap0 : Nat} (hgrow : (w1.alloc (.cells #[.slice a (q j).length c] 35)).grownBy w5 tv.ownBlock)
    (hown : w5.ownsRow lo 35 1 (.slice (some ⟨g0, 0, none⟩) (j + 1) cap0) (j + 1) (slL ad (fun i => (q i).length) cp j ++ [.slice a (q j).length c])) (hat : tv.ownBlock = some g0 ∨ g0 = w1.heap.size + 1) (hlt : g0 < w5.heap.size) :
    AnW lo w5 q (j + 1) (.slice (some ⟨g0, 0, none⟩) (j + 1) cap0) (fun i => if i = j then a else ad i) (fun i => if i = j then c else cp i) (fun i => if i = j then (match a with | some x => x.block | none => 0) else B i) := by
  have hb1 := bel_one w1 (.cells #[.slice a (q j).length c] 35)
  have hs5 : w1.heap.size + 1 ≤ w5.heap.size := by have := hgrow.size; simpa using this
  have hnew : (q j).length = 0 ∨ ∃ g off, a = some ⟨g, off, none⟩ ∧ m ≤ g ∧ g < w1.heap.size := by
    rcases ho.2.2 with h0 | ⟨g, off, e, hg⟩
    · exact .inl h0
    · by_cases hz : (q j).length = 0
      · exact .inl hz
      · exact .inr ⟨g, off, e, hg, (ho.1.under.resolve_left hz) g off e⟩
  refine ⟨?_, fun i hi => ?_, fun i k hik hk hi0 hk0 => ?_, by have := h.lo; omega⟩
  · rw [slL_next (ln := fun i => (q i).length)]
    exact hown
  · by_cases e : i = j
    · subst e
      simp only [if_pos]
      refine ⟨(ho.1.below hb1).grown hgrow ?_, (ho.2.1.below hb1).grown hgrow ?_, ?_⟩
      · rcases hnew with h0 | ⟨g, off, e, hg, hgl⟩
        · exact .inl h0
        · refine .inr fun b off' e' e2 => ?_
          rw [e] at e'; cases e'
          have := hmr g e2.symm
          omega
      · rcases hnew with h0 | ⟨g, off, e, hg, hgl⟩
        · exact .inl h0
        · refine .inr fun b off' e' e2 => ?_
          rw [e] at e'; cases e'
          have := hmr g e2.symm
          omega
      · rcases hnew with h0 | ⟨g, off, e, hg, hgl⟩
        · exact .inl h0
        · subst e
          refine .inr ⟨off, rfl, by show lo ≤ g; omega, by show g < w5.heap.size; omega, ?_⟩
          show some g ≠ some g0
          intro e2
          obtain rfl : g = g0 := by simpa using e2
          rcases hat with e3 | e3
          · have := hmr g e3; omega
          · omega
    · simp only [if_neg e]
      obtain ⟨r1, r2, r3⟩ := h.el i (by omega)
      have hne : (q i).length = 0 ∨ ∀ b off, ad i = some ⟨b, off, none⟩ → some b ≠ tv.ownBlock := r3.imp id (fun ⟨off, e1, _, _, e4⟩ b off' e' => by rw [e1] at e'; cases e'; exact e4)
      refine ⟨(r1.below hb1).grown hgrow hne, (r2.below hb1).grown hgrow hne, ?_⟩
      rcases r3 with h0 | ⟨off, e1, e2, e3, e4⟩
      · exact .inl h0
      · refine .inr ⟨off, e1, e2, by omega, ?_⟩
        show some (B i) ≠ some g0
        intro e5
        obtain e6 : B i = g0 := by simpa using e5
        rcases hat with e7 | e7
        · exact e4 (by rw [e6, e7])
        · omega
  · show (if i = j then _ else B i) < (if k = j then _ else B k)
    rw [if_neg (show ¬ i = j by omega)]
    by_cases e : k = j
    · subst e
      rw [if_pos rfl]
      rcases hnew with h0 | ⟨g, off, e, hg, hgl⟩
      · exact absurd h0 hk0
      · subst e
        have := hm i (by omega) hi0
        show B i < g
        omega
    · rw [if_neg e]
      exact h.ap i k hik (by omega) hi0 hk0
/-- it is an answer. -/
theorem AnW.out {lo : Nat} {w : World} {q : Nat → List T} {n : Nat} {tv : Value} {ad : Nat → Option Addr} {cp B : Nat → Nat} (h : AnW lo w q n tv ad cp B) (hn : n * 40 ≤ 140737488351232) : ∃ qa qc R, tv = .slice qa n qc ∧ OutS lo w qa n qc ad (fun i => (q i).length) cp (fun i => lf (q i)) R B := by
  rcases h.row.2 with ⟨e, h0⟩ | ⟨g, cap, cur, e, hlo, hg, hnc, _⟩
  · subst h0
    exact ⟨none, 0, 0, e, ⟨⟨Nat.le_refl _, hn, .inl rfl, fun i hi => by omega⟩, .inl rfl, fun i hi => by omega, fun i hi => by omega, fun i j _ hj => by omega⟩⟩
  · have hr := h.row
    rw [e] at hr
    have hgl : g < w.heap.size := (hr.lt g rfl).2
    refine ⟨some ⟨g, 0, none⟩, cap, g, e, ⟨⟨hnc, hn, .inr ⟨g, 0, rfl, hgl, fun i hi => ?_⟩, fun i hi => (h.el i hi).1⟩, .inr ⟨0, rfl, hlo⟩, fun i hi => (h.el i hi).2.1, fun i hi => ?_, fun i j hij hj hi0 hj0 => ?_⟩⟩
    · rw [Nat.zero_add, hr.cellAt i (by omega), slL_at hi]
    · refine (h.el i hi).2.2.imp id (fun ⟨off, e1, e2, _, e4⟩ => ⟨off, e1, e2, fun e5 => e4 ?_⟩)
      rw [e, e5]; rfl
    · have := h.ap i j hij hj hi0 hj0
      omega
end Go.Proofs.YtmlaedpamobmhaaGreat
namespace Go.Proofs.YtmlaedpamobmhaaGreat
open Go.RowKit Go.Deep Go.Joins Go.Maps
set_option linter.unusedVariables false

end Go.Proofs.YtmlaedpamobmhaaGreat
namespace Go.Proofs.YtmlaedpamobmhaaGreat
open Go.RowKit Go.Deep Go.Joins Go.Maps
set_option linter.unusedVariables false
set_option linter.unusedSimpArgs false

theorem OutS.far {lo : Nat} {w w' : World} {a : Option Addr} {n cap : Nat} {ad : Nat → Option Addr} {ln cp : Nat → Nat} {f : Nat → Nat → T} {R : Nat} {B : Nat → Nat} (h : OutS lo w a n cap ad ln cp f R B) {b : Nat} (hg : w.grownBy w' (some b)) (hb : b < lo) : OutS lo w' a n cap ad ln cp f R B := by
  have hne : ∀ i, i < n → ln i = 0 ∨ ∀ b' off, ad i = some ⟨b', off, none⟩ → some b' ≠ some b := fun i hi => (h.el i hi).imp id (fun ⟨off, e, h1, _⟩ b' off' e' e2 => by
    rw [e] at e'; cases e'
    have : B i = b := by simpa using e2
    omega)
  refine ⟨⟨h.rd.1, h.rd.2.1, ?_, fun i hi => (h.rd.2.2.2 i hi).grown hg (hne i hi)⟩, h.row, fun i hi => (h.wr i hi).grown hg (hne i hi), h.el, h.ap⟩
  rcases h.rd.2.2.1 with h0 | ⟨b', off, e, hlt, hc⟩
  · exact .inl h0
  · rcases h.row with h0 | ⟨off', e', hlo⟩
    · exact .inl h0
    · rw [e'] at e
      obtain ⟨rfl, rfl⟩ : R = b' ∧ off' = off := by simpa using e
      exact .inr ⟨R, off', e', Nat.lt_of_lt_of_le hlt hg.size, fun i hi => (World.cell?_of_block (a := ⟨R, off' + i, none⟩) (hg.block R hlt (fun e2 => by
        have : R = b := by simpa using e2
        omega))).trans (hc i hi)⟩
theorem OutS.low {lo lo' : Nat} {w : World} {a : Option Addr} {n cap : Nat} {ad : Nat → Option Addr} {ln cp : Nat → Nat} {f : Nat → Nat → T} {R : Nat} {B : Nat → Nat} (h : OutS lo w a n cap ad ln cp f R B) (hl : lo' ≤ lo) : OutS lo' w a n cap ad ln cp f R B :=
  ⟨h.rd, h.row.imp id (fun ⟨off, e, h1⟩ => ⟨off, e, Nat.le_trans hl h1⟩), h.wr, fun i hi => (h.el i hi).imp id (fun ⟨off, e, h1, h2⟩ => ⟨off, e, Nat.le_trans hl h1, h2⟩), h.ap⟩
theorem OutS.below {lo : Nat} {w w' : World} {a : Option Addr} {n cap : Nat} {ad : Nat → Option Addr} {ln cp : Nat → Nat} {f : Nat → Nat → T} {R : Nat} {B : Nat → Nat} (h : OutS lo w a n cap ad ln cp f R B) (hb : Below w.heap.size w w') : OutS lo w' a n cap ad ln cp f R B :=
  ⟨h.rd.below hb, h.row, fun i hi => (h.wr i hi).below hb, h.el, h.ap⟩
theorem Out.far {lo : Nat} {w w' : World} {a : Option Addr} {c : Nat} {L : List T} (h : Out lo w a c L) {b : Nat} (hg : w.grownBy w' (some b)) (hb : b < lo) : Out lo w' a c L := by
  have hne : L.length = 0 ∨ ∀ b' off, a = some ⟨b', off, none⟩ → some b' ≠ some b := h.2.2.imp id (fun ⟨g, off, e, h1⟩ b' off' e' e2 => by
    rw [e] at e'; cases e'
    have : b' = b := by simpa using e2
    omega)
  exact ⟨h.1.grown hg hne, h.2.1.grown hg hne, h.2.2⟩
end Go.Proofs.YtmlaedpamobmhaaGreat
