/-
  The pairs that are to be looked at: a queue of pointers; one is put behind all, one is taken away.
  One more operator comes to the queue, with its pairs.
  A basis on its way, as lists: rows of proofs, a pair looked at, the run.
-/
import Derived.Test.YtdidlcjhodejjaaGreatSbm
import Derived.Test.YtdidlcjhodejjaaGreatSbc
import Derived.Deep.RegionHeld3
import Derived.Deep.RegionLaw
import Derived.Test.YtdidlcjhodejjaaGreatSbp
namespace Go.Proofs.YtdidlcjhodejjaaGreat
open Go.RowKit Go.Deep Go.Joins
set_option linter.unusedVariables false

/-! which memory has turned -/
structure Fr (P : Nat → Prop) (w w' : World) : Prop where
  os : w'.os = w.os
  tape : w'.tape = w.tape
  output : w'.output = w.output
  size : w.heap.size ≤ w'.heap.size
  block : ∀ k, k < w.heap.size → ¬ P k → w'.heap[k]? = w.heap[k]?
theorem Fr.refl (P : Nat → Prop) (w : World) : Fr P w w := ⟨rfl, rfl, rfl, Nat.le_refl _, fun _ _ _ => rfl⟩
theorem Fr.trans {P : Nat → Prop} {a b c : World} (h : Fr P a b) (k : Fr P b c) : Fr P a c :=
  ⟨k.os.trans h.os, k.tape.trans h.tape, k.output.trans h.output, Nat.le_trans h.size k.size, fun i hi hn => (k.block i (Nat.lt_of_lt_of_le hi h.size) hn).trans (h.block i hi hn)⟩
theorem Fr.mono {P P' : Nat → Prop} {w w' : World} (h : Fr P w w') (hp : ∀ k, k < w.heap.size → P k → P' k) : Fr P' w w' := ⟨h.os, h.tape, h.output, h.size, fun k hk hn => h.block k hk (fun e => hn (hp k hk e))⟩
theorem Fr.of_below {P : Nat → Prop} {w w' : World} (h : Below w.heap.size w w') : Fr P w w' := ⟨h.os, h.tape, h.output, h.size, fun k hk _ => h.block k hk⟩
theorem Fr.next {P : Nat → Prop} {a b c : World} (h : Fr P a b) (k : Below b.heap.size b c) : Fr P a c := h.trans (Fr.of_below k)
theorem Fr.set {P : Nat → Prop} {w w' : World} (h : Fr P w w') {b o : Nat} {v : Value} (hb : b < w.heap.size → P b) : Fr P w (w'.setCell ⟨b, o, none⟩ v) :=
  ⟨h.os, h.tape, h.output, by simpa [World.setCell] using h.size, fun k hk hn => (Below.heap_setCell _ _ _ _ (by show k ≠ b; intro e; subst e; exact hn (hb hk))).trans (h.block k hk hn)⟩
theorem Fr.grown {P : Nat → Prop} {w w' w'' : World} {row : Option Nat} (h : Fr P w w') (hg : w'.grownBy w'' row) (hr : ∀ g, row = some g → g < w.heap.size → P g) : Fr P w w'' :=
  ⟨hg.os.trans h.os, hg.tape.trans h.tape, hg.output.trans h.output, Nat.le_trans h.size hg.size, fun k hk hn => (hg.block k (Nat.lt_of_lt_of_le hk h.size) (fun e => hn (hr k e.symm hk))).trans (h.block k hk hn)⟩
theorem Fr.cell {P : Nat → Prop} {w w' : World} (h : Fr P w w') {b o : Nat} (hb : b < w.heap.size) (hp : ¬ P b) : w'.cell? ⟨b, o, none⟩ = w.cell? ⟨b, o, none⟩ :=
  World.cell?_of_block (w := w) (a := ⟨b, o, none⟩) (h.block b hb hp)
theorem Fr.frozen {P : Nat → Prop} {w w' : World} (h : Fr P w w') {b o : Nat} (hb : b < w.heap.size) (hp : ¬ P b) : w'.frozen? ⟨b, o, none⟩ = w.frozen? ⟨b, o, none⟩ :=
  World.frozen?_of_block (w := w) (a := ⟨b, o, none⟩) (h.block b hb hp)
theorem Fr.rd {P : Nat → Prop} {w w' : World} (h : Fr P w w') {a : Option Addr} {n cap : Nat} {f : Nat → T} (hr : Rd w a n cap f) (hp : n = 0 ∨ ∀ b off, a = some ⟨b, off, none⟩ → ¬ P b) : Rd w' a n cap f := by
  obtain ⟨h1, h2, h3⟩ := hr
  refine ⟨h1, h2, ?_⟩
  rcases h3 with h0 | ⟨b, off, he, hlt, hc⟩
  · exact .inl h0
  · rcases hp with h0 | hp
    · exact .inl h0
    · refine .inr ⟨b, off, he, Nat.lt_of_lt_of_le hlt h.size, fun i hi => ?_⟩
      have hn := hp b off he
      obtain ⟨c0, c1, c2, c3, c4⟩ := hc i hi
      exact ⟨(h.cell hlt hn).trans c0, (h.cell hlt hn).trans c1, (h.cell hlt hn).trans c2, (h.cell hlt hn).trans c3, (h.cell hlt hn).trans c4⟩
theorem Fr.below {P : Nat → Prop} {lo : Nat} {u w w' : World} (hb : Below lo u w) (h : Fr P w w') (hp : ∀ k, P k → lo ≤ k) (hlo : lo ≤ u.heap.size) : Below lo u w' :=
  ⟨h.os.trans hb.os, h.tape.trans hb.tape, h.output.trans hb.output, Nat.le_trans hb.size h.size, fun k hk => (h.block k (Nat.lt_of_lt_of_le hk (Nat.le_trans hlo hb.size)) (fun e => by have := hp k e; omega)).trans (hb.block k hk)⟩
theorem Fr.owns {P : Nat → Prop} {w w' : World} (h : Fr P w w') {lo : Nat} {e : TypeId} {size : Nat} {v : Value} {n : Nat} {xs : List Value} (ho : w.ownsRow lo e size v n xs) (hp : ∀ g, v.ownBlock = some g → ¬ P g) : w'.ownsRow lo e size v n xs := by
  refine ⟨ho.1, ho.2.imp id ?_⟩
  rintro ⟨g, cap, cur, hv, hlo, hgg, hn, hm, hs, ht⟩
  refine ⟨g, cap, cur, hv, hlo, ?_, hn, hm, hs, ht⟩
  have hlt : g < w.heap.size := (Array.getElem?_eq_some_iff.1 hgg).1
  exact (h.block g hlt (hp g (by rw [hv]; rfl))).trans hgg
theorem sc_same {w : World} {a : Addr} {v u : Value} (h : w.cell? a = some u) : (w.setCell a v).cell? a = some v := World.cell?_setCell_same (w := w) (a := a) (v := v) h
theorem sc_other {w : World} {a b : Addr} {v : Value} (h : a ≠ b) : (w.setCell a v).cell? b = w.cell? b := World.cell?_setCell_other (w := w) (a := a) (b := b) (v := v) h
/-! pairs, as they come -/
def nxP (q : Nat × Nat) : Nat × Nat := if q.1 + 1 < q.2 then (q.1 + 1, q.2) else (0, q.2 + 1)
def pq : Nat → Nat × Nat
  | 0 => (0, 1)
  | j + 1 => nxP (pq j)
def tri : Nat → Nat
  | 0 => 0
  | k + 1 => tri k + k
theorem pq_tri : ∀ k i, i < k → pq (tri k + i) = (i, k)
  | 0, i, h => by omega
  | 1, i, h => by
    obtain rfl : i = 0 := by omega
    rfl
  | k + 2, 0, _ => by
    have := pq_tri (k + 1) k (by omega)
    show pq (tri (k + 1) + (k + 1)) = (0, k + 2)
    rw [show tri (k + 1) + (k + 1) = (tri (k + 1) + k) + 1 by omega]
    show nxP (pq (tri (k + 1) + k)) = _
    rw [this]
    unfold nxP
    rw [if_neg (by simp)]
  | k + 2, i + 1, h => by
    have := pq_tri (k + 2) i (by omega)
    rw [show tri (k + 2) + (i + 1) = (tri (k + 2) + i) + 1 by omega]
    show nxP (pq (tri (k + 2) + i)) = _
    rw [this]
    unfold nxP
    rw [if_pos (by simpa using h)]
theorem tri_mono {a b : Nat} (h : a ≤ b) : tri a ≤ tri b := by
  induction b with
  | zero => obtain rfl : a = 0 := by omega
            exact Nat.le_refl _
  | succ b ih =>
    rcases Nat.lt_or_ge a (b + 1) with h' | h'
    · have := ih (by omega); show tri a ≤ tri b + b; omega
    · obtain rfl : a = b + 1 := by omega
      exact Nat.le_refl _
theorem tri_at : ∀ (m j : Nat), j < tri m → ∃ k i, k < m ∧ i < k ∧ j = tri k + i
  | 0, j, h => absurd h (Nat.not_lt_zero _)
  | m + 1, j, h => by
    rcases Nat.lt_or_ge j (tri m) with h' | h'
    · obtain ⟨k, i, h1, h2, h3⟩ := tri_at m j h'
      exact ⟨k, i, by omega, h2, h3⟩
    · have h : j < tri m + m := h
      exact ⟨m, j - tri m, by omega, by omega, by omega⟩
theorem neQ {Q z z' : Nat} (h : z ≠ z') : (⟨Q, z, none⟩ : Addr) ≠ ⟨Q, z', none⟩ := fun e => h (by injection e)
end Go.Proofs.YtdidlcjhodejjaaGreat
namespace Go.Proofs.YtdidlcjhodejjaaGreat
open Go.RowKit Go.Deep Go.Joins
set_option linter.unusedVariables false

end Go.Proofs.YtdidlcjhodejjaaGreat
namespace Go.Proofs.YtdidlcjhodejjaaGreat
open Go.RowKit Go.Deep Go.Joins
set_option linter.unusedVariables false

/-- one of a row, less an operator times another one. -/
def lessE (R q X : List T) : Option (List T) := match mulM (lf q) (lf X) X.length q.length with
  | some P => if (subL R P).length ≤ 400 then some (subL R P) else none
  | none => none
def updL (R : Nat → List T) (j : Nat) (Y : List T) (i : Nat) : List T := if i = j then Y else R i
/-- the first j of a row, less an operator times another row. -/
def lessR (row : Nat → List T) (q : List T) (oth : Nat → List T) : Nat → Option (Nat → List T)
  | 0 => some (fun _ => [])
  | j + 1 => match lessR row q oth j with
    | none => none
    | some R => match lessE (row j) q (oth j) with
      | none => none
      | some Y => some (updL R j Y)
theorem lessR_none {row : Nat → List T} {q : List T} {oth : Nat → List T} {j : Nat} (h : lessR row q oth j = none) : ∀ d, lessR row q oth (j + d) = none
  | 0 => h
  | d + 1 => by
    show (match lessR row q oth (j + d) with | none => none | some R => match lessE (row (j + d)) q (oth (j + d)) with | none => none | some Y => some (updL R (j + d) Y)) = none
    rw [lessR_none h d]
theorem lessR_bad {row : Nat → List T} {q : List T} {oth : Nat → List T} {j g : Nat} {R : Nat → List T} (hj : j < g) (h : lessR row q oth j = some R) (he : lessE (row j) q (oth j) = none) : lessR row q oth g = none := by
  have h1 : lessR row q oth (j + 1) = none := by
    show (match lessR row q oth j with | none => none | some R => match lessE (row j) q (oth j) with | none => none | some Y => some (updL R j Y)) = none
    rw [h]
    show (match lessE (row j) q (oth j) with | none => none | some Y => some (updL R j Y)) = none
    rw [he]
  have := lessR_none h1 (g - (j + 1))
  rwa [show j + 1 + (g - (j + 1)) = g by omega] at this
theorem lessR_step {row : Nat → List T} {q : List T} {oth : Nat → List T} {j : Nat} {R : Nat → List T} {Y : List T} (h : lessR row q oth j = some R) (he : lessE (row j) q (oth j) = some Y) : lessR row q oth (j + 1) = some (updL R j Y) := by
  show (match lessR row q oth j with | none => none | some R => match lessE (row j) q (oth j) with | none => none | some Y => some (updL R j Y)) = _
  rw [h]
  show (match lessE (row j) q (oth j) with | none => none | some Y => some (updL R j Y)) = _
  rw [he]
theorem lessE_ok {R q X Y : List T} (hR : okL R = true) (hq : okL q = true) (hX : okL X = true) (h : lessE R q X = some Y) : okL Y = true := by
  unfold lessE at h
  split at h
  · rename_i P hP
    split at h
    · rename_i hl
      cases h
      exact okL_of hl (subL_facts (okL_falls hR).2 (mulM_falls2 (good_ok hq).2 (good_ok hX).2 _ P (Nat.le_refl _) hP)).1
    · cases h
  · cases h
theorem lessR_ok {row : Nat → List T} {q : List T} {oth : Nat → List T} {g : Nat} (hrow : ∀ i, i < g → okL (row i) = true) (hq : okL q = true) (ho : ∀ i, i < g → okL (oth i) = true) : ∀ j R, j ≤ g → lessR row q oth j = some R → ∀ i, i < j → okL (R i) = true
  | 0, R, _, _, i, hi => by omega
  | j + 1, R, hj, h, i, hi => by
    cases hr : lessR row q oth j with
    | none => have := lessR_none hr 1; rw [this] at h; cases h
    | some R1 =>
      cases he : lessE (row j) q (oth j) with
      | none => have := lessR_bad (g := j + 1) (by omega) hr he; rw [this] at h; cases h
      | some Y =>
        rw [lessR_step hr he] at h
        cases h
        unfold updL
        split
        · exact lessE_ok (hrow j (by omega)) hq (ho j (by omega)) he
        · exact lessR_ok hrow hq ho j R1 (by omega) hr i (by omega)
/-- a row, less all that is taken, times the proofs. -/
def madeN (g : Nat) (P : Nat → Nat → List T) (qs : Nat → List T) (row : Option (Nat → List T)) : Nat → Option (Nat → List T)
  | 0 => row
  | t + 1 => match madeN g P qs row t with
    | none => none
    | some R => lessR R (qs t) (P t) g
def negT1 (u : T) : T := ⟨101 - u.c, u.m⟩
def made1 (g : Nat) (P : Nat → Nat → List T) (i k : Nat) (u v : T) : Option (Nat → List T) := match lessR (fun _ => []) [negT1 u] (P i) g with
  | none => none
  | some R => lessR R [v] (P k) g
def made (g : Nat) (P : Nat → Nat → List T) (i k : Nat) (u v : T) (nq : Nat) (qs : Nat → List T) : Option (Nat → List T) := madeN g P qs (made1 g P i k u v) nq
theorem madeN_none {g : Nat} {P : Nat → Nat → List T} {qs : Nat → List T} {row : Option (Nat → List T)} {t : Nat} (h : madeN g P qs row t = none) : ∀ d, madeN g P qs row (t + d) = none
  | 0 => h
  | d + 1 => by
    show (match madeN g P qs row (t + d) with | none => none | some R => lessR R (qs (t + d)) (P (t + d)) g) = none
    rw [madeN_none h d]
/-- a basis on its way. -/
structure Bs where
  m : Nat
  L : Nat → List T
  P : Nat → Nat → List T
def updP (P : Nat → Nat → List T) (m : Nat) (R : Nat → List T) (i : Nat) : Nat → List T := if i = m then R else P i
def addB (B : Bs) (r : List T) (R : Nat → List T) : Bs := ⟨B.m + 1, updL B.L B.m r, updP B.P B.m R⟩
abbrev spU (o : Int) (A C : List T) : T := sprU o A.length (lf A) C.length (lf C)
abbrev spV (o : Int) (A C : List T) : T := sprV o A.length (lf A) C.length (lf C)
abbrev spP (o : Int) (A C : List T) : List T × Bool := sprPoly o (lf A) A.length (lf C) C.length
/-- a pair is looked at; none: it is too much. -/
def stepB (o : Int) (g : Nat) (B : Bs) (i k : Nat) : Option Bs :=
  match spP o (B.L i) (B.L k) with
  | (s, true) => (match redAll o s B.m (lN B.L) (fN B.L) with
    | some S => if S.r.length = 0 then some B else if B.m = 12 then none else (match made g B.P i k (spU o (B.L i) (B.L k)) (spV o (B.L i) (B.L k)) B.m S.q with
      | some R => some (addB B S.r R)
      | none => none)
    | none => none)
  | (_, false) => none
def grun (o : Int) (g : Nat) : Nat → Bs → Nat → Bs × Bool
  | 0, B, j => (B, decide (tri B.m ≤ j))
  | f + 1, B, j => if j < tri B.m then (match stepB o g B (pq j).1 (pq j).2 with
      | none => (B, false)
      | some B' => grun o g f B' (j + 1)) else (B, true)
def oneP (k i : Nat) : List T := if i = k then [⟨1, ⟨0, 0, 0, 0⟩⟩] else []
def grb0 (n : Nat) (L : Nat → List T) : Bs := ⟨n, L, fun k => oneP k⟩
/-- what GrbMake answers. -/
def grbMake (o : Int) (n : Nat) (L : Nat → List T) (fuel : Int) : Bs × Bool :=
  if (1 ≤ o ∧ o ≤ 3) ∧ lstOk n (lN L) (fN L) = true ∧ (1 ≤ n ∧ n ≤ 3) ∧ (0 ≤ fuel ∧ fuel ≤ 60) then grun o n fuel.toNat (grb0 n L) 0 else (⟨0, fun _ => [], fun _ _ => []⟩, false)
/-- what is true of it all the time. -/
structure BsOk (o : Int) (g : Nat) (B : Bs) : Prop where
  ho : 1 ≤ o ∧ o ≤ 3
  l : lstOk B.m (lN B.L) (fN B.L) = true
  p : ∀ i, i < B.m → ∀ j, j < g → okL (B.P i j) = true
theorem one_okL : okL [(⟨1, ⟨0, 0, 0, 0⟩⟩ : T)] = true := by decide
theorem grb0_ok {o : Int} {n : Nat} {L : Nat → List T} (ho : 1 ≤ o ∧ o ≤ 3) (hl : lstOk n (lN L) (fN L) = true) : BsOk o n (grb0 n L) := ⟨ho, hl, fun i _ j _ => by
  show okL (oneP i j) = true
  unfold oneP
  split
  · exact one_okL
  · exact okL_nil⟩
theorem mod101 {a : Int} (h1 : 1 ≤ a) (h2 : a ≤ 100) : 1 ≤ 101 - a ∧ 101 - a ≤ 100 := by omega
theorem spUV_good {o : Int} {A C : List T} {s : List T} (h : spP o A C = (s, true)) : (okL [spU o A C] = true ∧ okL [negT1 (spU o A C)] = true ∧ okL [spV o A C] = true) ∧ ((spU o A C).m.ok = true ∧ 1 ≤ (spU o A C).c ∧ (spU o A C).c ≤ 100) ∧ ((spV o A C).m.ok = true ∧ 1 ≤ (spV o A C).c ∧ (spV o A C).c ≤ 100) := by
  have hs : sprOk o A.length (lf A) C.length (lf C) = true := by
    unfold spP sprPoly at h
    split at h
    · assumption
    · cases h
  obtain ⟨h1, h2⟩ := spr_good hs
  have g1 := mod101 h1.2.1 h1.2.2
  exact ⟨⟨one_ok h1, one_ok ⟨h1.1, g1.1, g1.2⟩, one_ok h2⟩, h1, h2⟩
theorem made_ok {g : Nat} {P : Nat → Nat → List T} {i k m : Nat} {u v : T} {qs : Nat → List T} (hi : i < m) (hk : k < m) (hP : ∀ i, i < m → ∀ j, j < g → okL (P i j) = true) (hu : okL [negT1 u] = true) (hv : okL [v] = true) (hq : ∀ t, t < m → okL (qs t) = true) : ∀ t R, t ≤ m → madeN g P qs (made1 g P i k u v) t = some R → ∀ j, j < g → okL (R j) = true
  | 0, R, _, h => by
    change made1 g P i k u v = some R at h
    unfold made1 at h
    split at h
    · cases h
    · rename_i R1 h1
      exact lessR_ok (lessR_ok (fun _ _ => okL_nil) hu (hP i hi) g R1 (Nat.le_refl _) h1) hv (hP k hk) g R (Nat.le_refl _) h
  | t + 1, R, ht, h => by
    cases hr : madeN g P qs (made1 g P i k u v) t with
    | none => have := madeN_none hr 1; rw [this] at h; cases h
    | some R1 =>
      have h' : lessR R1 (qs t) (P t) g = some R := by
        have : madeN g P qs (made1 g P i k u v) (t + 1) = lessR R1 (qs t) (P t) g := by
          show (match madeN g P qs (made1 g P i k u v) t with | none => none | some R => lessR R (qs t) (P t) g) = _
          rw [hr]
        rw [← this]; exact h
      exact lessR_ok (made_ok hi hk hP hu hv hq t R1 (by omega) hr) (hq t (by omega)) (hP t (by omega)) g R (Nat.le_refl _) h'
theorem lstOk_add {m : Nat} {L : Nat → List T} (hl : lstOk m (lN L) (fN L) = true) (hm : m ≠ 12) {r : List T} (hr : okL r = true) (h0 : r.length ≠ 0) : lstOk (m + 1) (lN (updL L m r)) (fN (updL L m r)) = true := by
  have h := lstOk_all hl
  refine decide_eq_true ⟨by omega, fun i hi => ?_⟩
  show (updL L m r i).length ≠ 0 ∧ okL (updL L m r i) = true
  unfold updL
  split
  · exact ⟨h0, hr⟩
  · exact h.2 i (by omega)
theorem stepB_ok {o : Int} {g : Nat} {B B' : Bs} {i k : Nat} (h : BsOk o g B) (hi : i < B.m) (hk : k < B.m) (hs : stepB o g B i k = some B') : BsOk o g B' := by
  unfold stepB at hs
  split at hs
  · rename_i s hsp
    split at hs
    · rename_i S hS
      split at hs
      · cases hs; exact h
      · rename_i h0
        split at hs
        · cases hs
        · rename_i h12
          split at hs
          · rename_i R hR
            cases hs
            obtain ⟨d1, d2⟩ := redAll_ok hS
            obtain ⟨⟨_, g2, g3⟩, _⟩ := spUV_good hsp
            refine ⟨h.ho, lstOk_add h.l h12 (okL_of (by have := d1.r.2; omega) d1.r.1) h0, fun a ha j hj => ?_⟩
            show okL (updP B.P B.m R a j) = true
            unfold updP
            split
            · exact made_ok hi hk h.p g2 g3 (fun t _ => okL_of (by have := (d1.q t).2; omega) (d1.q t).1) B.m R (Nat.le_refl _) hR j hj
            · have ha' : a < B.m + 1 := ha
              exact h.p a (by omega) j hj
          · cases hs
    · cases hs
  · cases hs
theorem stepB_m {o : Int} {g : Nat} {B B' : Bs} {i k : Nat} (hs : stepB o g B i k = some B') : B.m ≤ B'.m := by
  unfold stepB at hs
  split at hs
  · split at hs
    · split at hs
      · cases hs; exact Nat.le_refl _
      · split at hs
        · cases hs
        · split at hs
          · cases hs; exact Nat.le_succ _
          · cases hs
    · cases hs
  · cases hs
end Go.Proofs.YtdidlcjhodejjaaGreat
