/-
  The pairs that are to be looked at: a queue of pointers; one is put behind all, one is taken away.
  One more operator comes to the queue, with its pairs.
  A basis on its way, as lists: rows of proofs, a pair looked at, the run.
-/
import Derived.Test.YtdidlcjhodejjaaGreatGbm
import Derived.Test.YtdidlcjhodejjaaGreatGbc
import Derived.Deep.RegionHeld3
import Derived.Deep.RegionLaw
import Derived.Test.YtdidlcjhodejjaaGreatGbp
namespace Go.Proofs.YtdidlcjhodejjaaGreat
open Go.RowKit Go.Deep Go.Joins
set_option linter.unusedVariables false

/-! which memory has turned -/
structure Fr (P : Nat → Prop) (w w' : World) : Prop where
  os : w'.os = w.os
  tape : w'.tape = w.tape
  output : w'.output = w.output
  size : w.heap.size ≤ w'.heap.size
  block : ∀ k, k < w.heap.size → ¬ P k → w'.heap[k]? = w.heap[k]?
theorem Fr.refl (P : Nat → Prop) (w : World) : Fr P w w := ⟨rfl, rfl, rfl, Nat.le_refl _, fun _ _ _ => rfl⟩
theorem Fr.trans {P : Nat → Prop} {a b c : World} (h : Fr P a b) (k : Fr P b c) : Fr P a c :=
  ⟨k.os.trans h.os, k.tape.trans h.tape, k.output.trans h.output, Nat.le_trans h.size k.size, fun i hi hn => (k.block i (Nat.lt_of_lt_of_le hi h.size) hn).trans (h.block i hi hn)⟩
theorem Fr.mono {P P' : Nat → Prop} {w w' : World} (h : Fr P w w') (hp : ∀ k, k < w.heap.size → P k → P' k) : Fr P' w w' := ⟨h.os, h.tape, h.output, h.size, fun k hk hn => h.block k hk (fun e => hn (hp k hk e))⟩
theorem Fr.of_below {P : Nat → Prop} {w w' : World} (h : Below w.heap.size w w') : Fr P w w' := ⟨h.os, h.tape, h.output, h.size, fun k hk _ => h.block k hk⟩
theorem Fr.next {P : Nat → Prop} {a b c : World} (h : Fr P a b) (k : Below b.heap.size b c) : Fr P a c := h.trans (Fr.of_below k)
theorem Fr.set {P : Nat → Prop} {w w' : World} (h : Fr P w w') {b o : Nat} {v : Value} (hb : b < w.heap.size → P b) : Fr P w (w'.setCell ⟨b, o, none⟩ v) :=
  ⟨h.os, h.tape, h.output, by simpa [World.setCell] using h.size, fun k hk hn => (Below.heap_setCell _ _ _ _ (by show k ≠ b; intro e; subst e; exact hn (hb hk))).trans (h.block k hk hn)⟩
theorem Fr.grown {P : Nat → Prop} {w w' w'' : World} {row : Option Nat} (h : Fr P w w') (hg : w'.grownBy w'' row) (hr : ∀ g, row = some g → g < w.heap.size → P g) : Fr P w w'' :=
  ⟨hg.os.trans h.os, hg.tape.trans h.tape, hg.output.trans h.output, Nat.le_trans h.size hg.size, fun k hk hn => (hg.block k (Nat.lt_of_lt_of_le hk h.size) (fun e => hn (hr k e.symm hk))).trans (h.block k hk hn)⟩
theorem Fr.cell {P : Nat → Prop} {w w' : World} (h : Fr P w w') {b o : Nat} (hb : b < w.heap.size) (hp : ¬ P b) : w'.cell? ⟨b, o, none⟩ = w.cell? ⟨b, o, none⟩ :=
  World.cell?_of_block (w := w) (a := ⟨b, o, none⟩) (h.block b hb hp)
theorem Fr.frozen {P : Nat → Prop} {w w' : World} (h : Fr P w w') {b o : Nat} (hb : b < w.heap.size) (hp : ¬ P b) : w'.frozen? ⟨b, o, none⟩ = w.frozen? ⟨b, o, none⟩ :=
  World.frozen?_of_block (w := w) (a := ⟨b, o, none⟩) (h.block b hb hp)
theorem Fr.rd {P : Nat → Prop} {w w' : World} (h : Fr P w w') {a : Option Addr} {n cap : Nat} {f : Nat → T} (hr : Rd w a n cap f) (hp : n = 0 ∨ ∀ b off, a = some ⟨b, off, none⟩ → ¬ P b) : Rd w' a n cap f := by
  obtain ⟨h1, h2, h3⟩ := hr
  refine ⟨h1, h2, ?_⟩
  rcases h3 with h0 | ⟨b, off, he, hlt, hc⟩
  · exact .inl h0
  · rcases hp with h0 | hp
    · exact .inl h0
    · refine .inr ⟨b, off, he, Nat.lt_of_lt_of_le hlt h.size, fun i hi => ?_⟩
      have hn := hp b off he
      obtain ⟨c0, c1, c2, c3, c4⟩ := hc i hi
      exact ⟨(h.cell hlt hn).trans c0, (h.cell hlt hn).trans c1, (h.cell hlt hn).trans c2, (h.cell hlt hn).trans c3, (h.cell hlt hn).trans c4⟩
theorem Fr.c5 {P : Nat → Prop} {w w' : World} (h : Fr P w w') {b : Nat} {t : T} (hc : C5 w b t) (hp : ¬ P b) : C5 w' b t := by
  have hlt := hc.lt
  obtain ⟨c0, c1, c2, c3, c4⟩ := hc
  exact ⟨(h.cell hlt hp).trans c0, (h.cell hlt hp).trans c1, (h.cell hlt hp).trans c2, (h.cell hlt hp).trans c3, (h.cell hlt hp).trans c4⟩
theorem Fr.below {P : Nat → Prop} {lo : Nat} {u w w' : World} (hb : Below lo u w) (h : Fr P w w') (hp : ∀ k, P k → lo ≤ k) (hlo : lo ≤ u.heap.size) : Below lo u w' :=
  ⟨h.os.trans hb.os, h.tape.trans hb.tape, h.output.trans hb.output, Nat.le_trans hb.size h.size, fun k hk => (h.block k (Nat.lt_of_lt_of_le hk (Nat.le_trans hlo hb.size)) (fun e => by have := hp k e; omega)).trans (hb.block k hk)⟩
theorem Fr.owns {P : Nat → Prop} {w w' : World} (h : Fr P w w') {lo : Nat} {e : TypeId} {size : Nat} {v : Value} {n : Nat} {xs : List Value} (ho : w.ownsRow lo e size v n xs) (hp : ∀ g, v.ownBlock = some g → ¬ P g) : w'.ownsRow lo e size v n xs := by
  refine ⟨ho.1, ho.2.imp id ?_⟩
  rintro ⟨g, cap, cur, hv, hlo, hgg, hn, hm, hs, ht⟩
  refine ⟨g, cap, cur, hv, hlo, ?_, hn, hm, hs, ht⟩
  have hlt : g < w.heap.size := (Array.getElem?_eq_some_iff.1 hgg).1
  exact (h.block g hlt (hp g (by rw [hv]; rfl))).trans hgg
theorem sc_same {w : World} {a : Addr} {v u : Value} (h : w.cell? a = some u) : (w.setCell a v).cell? a = some v := World.cell?_setCell_same (w := w) (a := a) (v := v) h
theorem sc_other {w : World} {a b : Addr} {v : Value} (h : a ≠ b) : (w.setCell a v).cell? b = w.cell? b := World.cell?_setCell_other (w := w) (a := a) (b := b) (v := v) h
/-! pairs, as they come -/
def nxP (q : Nat × Nat) : Nat × Nat := if q.1 + 1 < q.2 then (q.1 + 1, q.2) else (0, q.2 + 1)
def pq : Nat → Nat × Nat
  | 0 => (0, 1)
  | j + 1 => nxP (pq j)
def tri : Nat → Nat
  | 0 => 0
  | k + 1 => tri k + k
theorem pq_tri : ∀ k i, i < k → pq (tri k + i) = (i, k)
  | 0, i, h => by omega
  | 1, i, h => by
    obtain rfl : i = 0 := by omega
    rfl
  | k + 2, 0, _ => by
    have := pq_tri (k + 1) k (by omega)
    show pq (tri (k + 1) + (k + 1)) = (0, k + 2)
    rw [show tri (k + 1) + (k + 1) = (tri (k + 1) + k) + 1 by omega]
    show nxP (pq (tri (k + 1) + k)) = _
    rw [this]
    unfold nxP
    rw [if_neg (by simp)]
  | k + 2, i + 1, h => by
    have := pq_tri (k + 2) i (by omega)
    rw [show tri (k + 2) + (i + 1) = (tri (k + 2) + i) + 1 by omega]
    show nxP (pq (tri (k + 2) + i)) = _
    rw [this]
    unfold nxP
    rw [if_pos (by simpa using h)]
theorem tri_mono {a b : Nat} (h : a ≤ b) : tri a ≤ tri b := by
  induction b with
  | zero => obtain rfl : a = 0 := by omega
            exact Nat.le_refl _
  | succ b ih =>
    rcases Nat.lt_or_ge a (b + 1) with h' | h'
    · have := ih (by omega); show tri a ≤ tri b + b; omega
    · obtain rfl : a = b + 1 := by omega
      exact Nat.le_refl _
theorem tri_at : ∀ (m j : Nat), j < tri m → ∃ k i, k < m ∧ i < k ∧ j = tri k + i
  | 0, j, h => absurd h (Nat.not_lt_zero _)
  | m + 1, j, h => by
    rcases Nat.lt_or_ge j (tri m) with h' | h'
    · obtain ⟨k, i, h1, h2, h3⟩ := tri_at m j h'
      exact ⟨k, i, by omega, h2, h3⟩
    · have h : j < tri m + m := h
      exact ⟨m, j - tri m, by omega, by omega, by omega⟩
theorem pq_lt {m j : Nat} (h : j < tri m) : (pq j).1 < (pq j).2 ∧ (pq j).2 < m := by
  obtain ⟨k, i, h1, h2, rfl⟩ := tri_at m j h
  rw [pq_tri k i h2]
  exact ⟨h2, h1⟩
structure Pr where
  t1 : T
  t2 : T
  i : Nat
  k : Nat
def prQ (kf : Nat → T) (j : Nat) : Pr := ⟨sprT (kf (pq j).1) (M.both (kf (pq j).1).m (kf (pq j).2).m), sprT (kf (pq j).2) (M.both (kf (pq j).1).m (kf (pq j).2).m), (pq j).1, (pq j).2⟩
theorem prQ_congr {kf kf' : Nat → T} {m j : Nat} (h : ∀ i, i < m → kf i = kf' i) (hj : j < tri m) : prQ kf j = prQ kf' j := by
  obtain ⟨h1, h2⟩ := pq_lt hj
  unfold prQ
  rw [h _ (Nat.lt_trans h1 h2), h _ h2]
abbrev vi (z : Int) : Value := .int .i64 z
abbrev prCells (p : Pr) (nx : Option Addr) : Array Value := #[vi p.t1.c, vi p.t1.m.x, vi p.t1.m.y, vi p.t1.m.d, vi p.t1.m.e, vi p.t2.c, vi p.t2.m.x, vi p.t2.m.y, vi p.t2.m.d, vi p.t2.m.e, vi (p.i : Int), vi (p.k : Int), .pointer nx]
structure PrAt (w : World) (b : Nat) (p : Pr) (nx : Option Addr) : Prop where
  a0 : w.cell? ⟨b, 0, none⟩ = some (.int .i64 p.t1.c)
  a1 : w.cell? ⟨b, 1, none⟩ = some (.int .i64 p.t1.m.x)
  a2 : w.cell? ⟨b, 2, none⟩ = some (.int .i64 p.t1.m.y)
  a3 : w.cell? ⟨b, 3, none⟩ = some (.int .i64 p.t1.m.d)
  a4 : w.cell? ⟨b, 4, none⟩ = some (.int .i64 p.t1.m.e)
  b0 : w.cell? ⟨b, 5, none⟩ = some (.int .i64 p.t2.c)
  b1 : w.cell? ⟨b, 6, none⟩ = some (.int .i64 p.t2.m.x)
  b2 : w.cell? ⟨b, 7, none⟩ = some (.int .i64 p.t2.m.y)
  b3 : w.cell? ⟨b, 8, none⟩ = some (.int .i64 p.t2.m.d)
  b4 : w.cell? ⟨b, 9, none⟩ = some (.int .i64 p.t2.m.e)
  ci : w.cell? ⟨b, 10, none⟩ = some (.int .i64 (p.i : Int))
  ck : w.cell? ⟨b, 11, none⟩ = some (.int .i64 (p.k : Int))
  nx : w.cell? ⟨b, 12, none⟩ = some (.pointer nx)
  fz : w.frozen? ⟨b, 12, none⟩ = false
theorem PrAt.lt {w : World} {b : Nat} {p : Pr} {nx : Option Addr} (h : PrAt w b p nx) : b < w.heap.size := World.block_lt_of_cell? w _ h.a0
theorem PrAt.fr {P : Nat → Prop} {w w' : World} {b : Nat} {p : Pr} {nx : Option Addr} (h : PrAt w b p nx) (hf : Fr P w w') (hp : ¬ P b) : PrAt w' b p nx :=
  have hl := h.lt
  ⟨(hf.cell hl hp).trans h.a0, (hf.cell hl hp).trans h.a1, (hf.cell hl hp).trans h.a2, (hf.cell hl hp).trans h.a3, (hf.cell hl hp).trans h.a4, (hf.cell hl hp).trans h.b0, (hf.cell hl hp).trans h.b1, (hf.cell hl hp).trans h.b2, (hf.cell hl hp).trans h.b3, (hf.cell hl hp).trans h.b4, (hf.cell hl hp).trans h.ci, (hf.cell hl hp).trans h.ck, (hf.cell hl hp).trans h.nx, (hf.frozen hl hp).trans h.fz⟩
theorem PrAt.below {w w' : World} {b : Nat} {p : Pr} {nx : Option Addr} (h : PrAt w b p nx) (hb : Below w.heap.size w w') : PrAt w' b p nx := h.fr (P := fun _ => False) (Fr.of_below hb) id
theorem PrAt.box (w : World) (y : TypeId) (p : Pr) (nx : Option Addr) : PrAt (w.alloc (.cells (prCells p nx) y)) w.heap.size p nx := by
  constructor <;> first | (rw [World.cell?_alloc_at _ _ _ _ rfl]; rfl) | (simp [go_sem])
theorem ne12 {b j : Nat} (h : j ≠ 12) : (⟨b, 12, none⟩ : Addr) ≠ ⟨b, j, none⟩ := fun e => h (by injection e with _ e2; exact e2.symm)
/-- another one stands behind it. -/
theorem PrAt.link {w : World} {b : Nat} {p : Pr} {nx : Option Addr} (h : PrAt w b p nx) (nx' : Option Addr) : PrAt (w.setCell ⟨b, 12, none⟩ (.pointer nx')) b p nx' where
  a0 := (sc_other (ne12 (by omega))).trans h.a0
  a1 := (sc_other (ne12 (by omega))).trans h.a1
  a2 := (sc_other (ne12 (by omega))).trans h.a2
  a3 := (sc_other (ne12 (by omega))).trans h.a3
  a4 := (sc_other (ne12 (by omega))).trans h.a4
  b0 := (sc_other (ne12 (by omega))).trans h.b0
  b1 := (sc_other (ne12 (by omega))).trans h.b1
  b2 := (sc_other (ne12 (by omega))).trans h.b2
  b3 := (sc_other (ne12 (by omega))).trans h.b3
  b4 := (sc_other (ne12 (by omega))).trans h.b4
  ci := (sc_other (ne12 (by omega))).trans h.ci
  ck := (sc_other (ne12 (by omega))).trans h.ck
  nx := sc_same h.nx
  fz := by rw [World.frozen?_setCell]; exact h.fz
def qF (B : Nat → Nat) (a e : Nat) : Option Addr := if a < e then some ⟨B a, 0, none⟩ else none
/-- the queue at ⟨Q, z⟩: the greatest terms that came, the pairs a .. e - 1. -/
structure Que (w : World) (lo Q z : Nat) (lv : Value) (m : Nat) (kf : Nat → T) (B : Nat → Nat) (a e : Nat) : Prop where
  cl : w.cell? ⟨Q, z, none⟩ = some lv
  cf : w.cell? ⟨Q, z + 1, none⟩ = some (.pointer (qF B a e))
  ct : ∃ v, w.cell? ⟨Q, z + 2, none⟩ = some v ∧ (a < e → v = .pointer (some ⟨B (e - 1), 0, none⟩))
  fz : w.frozen? ⟨Q, z, none⟩ = false ∧ w.frozen? ⟨Q, z + 1, none⟩ = false ∧ w.frozen? ⟨Q, z + 2, none⟩ = false
  own : w.ownsRow lo 42 5 lv ((List.range m).map kf).length (cellsL ((List.range m).map kf))
  ap : ∀ g, lv.ownBlock = some g → g ≠ Q
  pr : ∀ j, a ≤ j → j < e → PrAt w (B j) (prQ kf j) (if j + 1 < e then some ⟨B (j + 1), 0, none⟩ else none)
  bk : ∀ j, a ≤ j → j < e → lo ≤ B j ∧ B j ≠ Q ∧ lv.ownBlock ≠ some (B j)
  inj : ∀ i j, a ≤ i → i < j → j < e → B i ≠ B j
  hQ : lo ≤ Q
/-- the memory that may turn where one more comes. -/
def QS (Q : Nat) (lv : Value) (B : Nat → Nat) (a e k : Nat) : Prop := k = Q ∨ lv.ownBlock = some k ∨ (a < e ∧ k = B (e - 1))
theorem Que.lt {w : World} {lo Q z : Nat} {lv : Value} {m : Nat} {kf : Nat → T} {B : Nat → Nat} {a e : Nat} (h : Que w lo Q z lv m kf B a e) : Q < w.heap.size := World.block_lt_of_cell? w _ h.cl
theorem Que.fr {P : Nat → Prop} {w w' : World} {lo Q z : Nat} {lv : Value} {m : Nat} {kf : Nat → T} {B : Nat → Nat} {a e : Nat} (h : Que w lo Q z lv m kf B a e) (hf : Fr P w w') (h1 : ¬ P Q) (h2 : ∀ g, lv.ownBlock = some g → ¬ P g) (h3 : ∀ j, a ≤ j → j < e → ¬ P (B j)) : Que w' lo Q z lv m kf B a e where
  cl := (hf.cell h.lt h1).trans h.cl
  cf := (hf.cell h.lt h1).trans h.cf
  ct := h.ct.imp fun v ⟨c1, c2⟩ => ⟨(hf.cell h.lt h1).trans c1, c2⟩
  fz := ⟨(hf.frozen h.lt h1).trans h.fz.1, (hf.frozen h.lt h1).trans h.fz.2.1, (hf.frozen h.lt h1).trans h.fz.2.2⟩
  own := hf.owns h.own h2
  ap := h.ap
  pr := fun j i1 i2 => (h.pr j i1 i2).fr hf (h3 j i1 i2)
  bk := h.bk
  inj := h.inj
  hQ := h.hQ
theorem Que.below {w w' : World} {lo Q z : Nat} {lv : Value} {m : Nat} {kf : Nat → T} {B : Nat → Nat} {a e : Nat} (h : Que w lo Q z lv m kf B a e) (hb : Below w.heap.size w w') : Que w' lo Q z lv m kf B a e := h.fr (P := fun _ => False) (Fr.of_below hb) id (fun _ _ => id) (fun _ _ _ => id)
theorem neQ {Q z z' : Nat} (h : z ≠ z') : (⟨Q, z, none⟩ : Addr) ≠ ⟨Q, z', none⟩ := fun e => h (by injection e)
def updB (B : Nat → Nat) (e b j : Nat) : Nat := if j = e then b else B j
theorem qF_same {B B' : Nat → Nat} {a e e' : Nat} (h : a < e) (h' : a < e') (hB : B a = B' a) : qF B a e = qF B' a e' := by unfold qF; rw [if_pos h, if_pos h', hB]
/-- a pair behind all others. -/
theorem Que.push {w : World} {lo Q z : Nat} {lv : Value} {m : Nat} {kf : Nat → T} {B : Nat → Nat} {a e : Nat} (h : Que w lo Q z lv m kf B a e) (hae : a ≤ e) {b : Nat} (hb : PrAt w b (prQ kf e) none) (hlo : lo ≤ b) (hbQ : b ≠ Q) (hbl : lv.ownBlock ≠ some b) (hbB : ∀ j, a ≤ j → j < e → B j ≠ b) :
    Que (if a < e then (w.setCell ⟨B (e - 1), 12, none⟩ (.pointer (some ⟨b, 0, none⟩))).setCell ⟨Q, z + 2, none⟩ (.pointer (some ⟨b, 0, none⟩)) else (w.setCell ⟨Q, z + 1, none⟩ (.pointer (some ⟨b, 0, none⟩))).setCell ⟨Q, z + 2, none⟩ (.pointer (some ⟨b, 0, none⟩))) lo Q z lv m kf (updB B e b) a (e + 1) := by
  have hub : ∀ j, j < e → updB B e b j = B j := fun j hj => if_neg (by omega)
  have hue : updB B e b e = b := if_pos rfl
  obtain ⟨tv, ht, _⟩ := h.ct
  by_cases hlt : a < e
  · rw [if_pos hlt]
    have hl := h.bk (e - 1) (by omega) (by omega)
    have f1 : Fr (fun k => k = B (e - 1)) w (w.setCell ⟨B (e - 1), 12, none⟩ (.pointer (some ⟨b, 0, none⟩))) := (Fr.refl _ w).set (fun _ => rfl)
    have c1 : (w.setCell ⟨B (e - 1), 12, none⟩ (.pointer (some ⟨b, 0, none⟩))).cell? ⟨Q, z + 2, none⟩ = some tv := (f1.cell h.lt (fun q => hl.2.1 q.symm)).trans ht
    generalize hw1 : w.setCell ⟨B (e - 1), 12, none⟩ (.pointer (some ⟨b, 0, none⟩)) = w1 at f1 c1
    have hlnk : PrAt w1 (B (e - 1)) (prQ kf (e - 1)) (some ⟨b, 0, none⟩) := by rw [← hw1]; exact (h.pr (e - 1) (by omega) (by omega)).link _
    have f2 : Fr (fun k => k = Q) w1 (w1.setCell ⟨Q, z + 2, none⟩ (.pointer (some ⟨b, 0, none⟩))) := (Fr.refl _ w1).set (fun _ => rfl)
    have hlt1 : Q < w1.heap.size := Nat.lt_of_lt_of_le h.lt f1.size
    refine ⟨?_, ?_, ⟨_, sc_same c1, fun _ => by rw [show e + 1 - 1 = e by omega, hue]⟩, ?_, ?_, h.ap, ?_, ?_, ?_, h.hQ⟩
    · rw [sc_other (neQ (by omega))]; exact (f1.cell h.lt (fun q => hl.2.1 q.symm)).trans h.cl
    · rw [sc_other (neQ (by omega)), (f1.cell h.lt (fun q => hl.2.1 q.symm)).trans h.cf, qF_same (B' := updB B e b) (e' := e + 1) hlt (by omega) (hub a hlt).symm]
    · simp only [World.frozen?_setCell]
      exact ⟨(f1.frozen h.lt (fun q => hl.2.1 q.symm)).trans h.fz.1, (f1.frozen h.lt (fun q => hl.2.1 q.symm)).trans h.fz.2.1, (f1.frozen h.lt (fun q => hl.2.1 q.symm)).trans h.fz.2.2⟩
    · exact f2.owns (f1.owns h.own (fun g hg q => hl.2.2 (by rw [hg, q]))) (fun g hg q => h.ap g hg q)
    · intro j j1 j2
      by_cases e1 : j = e
      · subst e1
        rw [hue, if_neg (by omega)]
        exact (hb.fr f1 (fun q => hbB (j - 1) (by omega) (by omega) q.symm)).fr f2 hbQ
      · rw [hub j (by omega), if_pos (by omega)]
        by_cases e2 : j = e - 1
        · have e3 : j + 1 = e := by omega
          rw [e3, hue, e2]
          exact hlnk.fr f2 hl.2.1
        · rw [hub (j + 1) (by omega)]
          have := h.pr j j1 (by omega)
          rw [if_pos (by omega)] at this
          exact (this.fr f1 (h.inj j (e - 1) j1 (by omega) (by omega))).fr f2 (h.bk j j1 (by omega)).2.1
    · intro j j1 j2
      by_cases e1 : j = e
      · subst e1; rw [hue]; exact ⟨hlo, hbQ, hbl⟩
      · rw [hub j (by omega)]; exact h.bk j j1 (by omega)
    · intro i j i1 i2 i3
      rw [hub i (by omega)]
      by_cases e1 : j = e
      · subst e1; rw [hue]; exact hbB i i1 (by omega)
      · rw [hub j (by omega)]; exact h.inj i j i1 i2 (by omega)
  · rw [if_neg hlt]
    have hea : a = e := by omega
    subst hea
    have f1 : Fr (fun k => k = Q) w (w.setCell ⟨Q, z + 1, none⟩ (.pointer (some ⟨b, 0, none⟩))) := (Fr.refl _ w).set (fun _ => rfl)
    have f2 : Fr (fun k => k = Q) w ((w.setCell ⟨Q, z + 1, none⟩ (.pointer (some ⟨b, 0, none⟩))).setCell ⟨Q, z + 2, none⟩ (.pointer (some ⟨b, 0, none⟩))) := f1.set (fun _ => rfl)
    have c1 : (w.setCell ⟨Q, z + 1, none⟩ (.pointer (some ⟨b, 0, none⟩))).cell? ⟨Q, z + 2, none⟩ = some tv := (sc_other (neQ (by omega))).trans ht
    refine ⟨?_, ?_, ⟨_, sc_same c1, fun _ => by rw [show a + 1 - 1 = a by omega, hue]⟩, ?_, ?_, h.ap, ?_, ?_, ?_, h.hQ⟩
    · rw [sc_other (neQ (by omega)), sc_other (neQ (by omega))]; exact h.cl
    · rw [sc_other (neQ (by omega)), sc_same h.cf]
      unfold qF
      rw [if_pos (by omega), hue]
    · simp only [World.frozen?_setCell]; exact h.fz
    · exact f2.owns h.own (fun g hg q => h.ap g hg q)
    · intro j j1 j2
      obtain rfl : j = a := by omega
      rw [hue, if_neg (by omega)]
      exact hb.fr f2 hbQ
    · intro j j1 j2
      obtain rfl : j = a := by omega
      rw [hue]; exact ⟨hlo, hbQ, hbl⟩
    · intro i j i1 i2 i3; omega
/-- the first pair is taken away. -/
theorem Que.pop {w : World} {lo Q z : Nat} {lv : Value} {m : Nat} {kf : Nat → T} {B : Nat → Nat} {a e : Nat} (h : Que w lo Q z lv m kf B a e) (hlt : a < e) : Que (w.setCell ⟨Q, z + 1, none⟩ (.pointer (qF B (a + 1) e))) lo Q z lv m kf B (a + 1) e ∧ PrAt (w.setCell ⟨Q, z + 1, none⟩ (.pointer (qF B (a + 1) e))) (B a) (prQ kf a) (qF B (a + 1) e) := by
  have f1 : Fr (fun k => k = Q) w (w.setCell ⟨Q, z + 1, none⟩ (.pointer (qF B (a + 1) e))) := (Fr.refl _ w).set (fun _ => rfl)
  obtain ⟨tv, ht, ht2⟩ := h.ct
  refine ⟨⟨?_, sc_same h.cf, ⟨tv, (sc_other (neQ (by omega))).trans ht, fun q => ht2 hlt⟩, by simp only [World.frozen?_setCell]; exact h.fz, f1.owns h.own (fun g hg q => h.ap g hg q), h.ap, fun j j1 j2 => (h.pr j (by omega) j2).fr f1 (h.bk j (by omega) j2).2.1, fun j j1 j2 => h.bk j (by omega) j2, fun i j i1 i2 i3 => h.inj i j (by omega) i2 i3, h.hQ⟩, ?_⟩
  · rw [sc_other (neQ (by omega))]; exact h.cl
  · exact (h.pr a (Nat.le_refl _) hlt).fr f1 (h.bk a (Nat.le_refl _) hlt).2.1
set_option maxRecDepth 100000 in
set_option maxHeartbeats 4000000 in
theorem pushI (w : World) (lo Q z : Nat) (lv : Value) (m : Nat) (kf : Nat → T) (B : Nat → Nat) (a e : Nat) (h : Que w lo Q z lv m kf B a e) (hae : a ≤ e) (b : Nat) (hb : PrAt w b (prQ kf e) none) (hlo : lo ≤ b) (hbQ : b ≠ Q) (hbl : lv.ownBlock ≠ some b) (hbB : ∀ j, a ≤ j → j < e → B j ≠ b) :
    Calls Tryz.prog 121 #[.pointer (some ⟨Q, z, none⟩), .pointer (some ⟨b, 0, none⟩)] w fun r w' => r = .returned (.tuple #[]) ∧ Que w' lo Q z lv m kf (updB B e b) a (e + 1) ∧ Fr (fun k => k = Q ∨ (a < e ∧ k = B (e - 1))) w w' := by
  have HP := Hid.mk' (h.push hae hb hlo hbQ hbl hbB)
  obtain ⟨tv, ht, ht2⟩ := h.ct
  have c0 := h.cf
  have z1 := h.fz.2.1
  have z2 := h.fz.2.2
  by_cases hlt : a < e
  · obtain rfl := ht2 hlt
    have e0 : qF B a e = some ⟨B a, 0, none⟩ := if_pos hlt
    rw [e0] at c0
    have hp := h.pr (e - 1) (by omega) (by omega)
    have k1 := hp.nx
    have k2 := hp.fz
    have hne : B (e - 1) ≠ Q := (h.bk (e - 1) (by omega) (by omega)).2.1
    have HQ := HP.out
    rw [if_pos hlt] at HQ
    have HF : Hid (Fr (fun k => k = Q ∨ (a < e ∧ k = B (e - 1))) w ((w.setCell ⟨B (e - 1), 12, none⟩ (.pointer (some ⟨b, 0, none⟩))).setCell ⟨Q, z + 2, none⟩ (.pointer (some ⟨b, 0, none⟩)))) := ((Fr.refl _ w).set (fun _ => .inr ⟨hlt, rfl⟩)).set (fun _ => .inl rfl)
    have HQ2 := Hid.mk' HQ
    obtain ⟨L, hL⟩ : ∃ L, B (e - 1) = L := ⟨_, rfl⟩
    rw [hL] at ht k1 k2 hne
    have HL := Hid.mk' hL
    clear h hp HQ ht2 e0 HP hb hL hbB
    go_enter Tryz.func121, Tryz.ntmps121
    go_wp2
    go_end0
    refine ⟨rfl, ?_⟩
    have h1 := HQ2.out
    have h2 := HF.out
    rw [HL.out] at h1
    rw [← HL.out] at h1 ⊢
    exact ⟨h1, h2⟩
  · have e0 : qF B a e = none := if_neg hlt
    rw [e0] at c0
    have HQ := HP.out
    rw [if_neg hlt] at HQ
    have HF : Hid (Fr (fun k => k = Q ∨ (a < e ∧ k = B (e - 1))) w ((w.setCell ⟨Q, z + 1, none⟩ (.pointer (some ⟨b, 0, none⟩))).setCell ⟨Q, z + 2, none⟩ (.pointer (some ⟨b, 0, none⟩)))) := ((Fr.refl _ w).set (fun _ => .inl rfl)).set (fun _ => .inl rfl)
    have HQ2 := Hid.mk' HQ
    clear h HQ ht2 e0 HP hb hbB
    go_enter Tryz.func121, Tryz.ntmps121
    go_wp2
    go_end0
    exact ⟨rfl, HQ2.out, HF.out⟩
set_option maxRecDepth 100000 in
set_option maxHeartbeats 4000000 in
theorem popI (w : World) (lo Q z : Nat) (lv : Value) (m : Nat) (kf : Nat → T) (B : Nat → Nat) (a e : Nat) (h : Que w lo Q z lv m kf B a e) (hlt : a < e) :
    Calls Tryz.prog 80 #[.pointer (some ⟨Q, z, none⟩)] w fun r w' => r = .returned (.pointer (some ⟨B a, 0, none⟩)) ∧ Que w' lo Q z lv m kf B (a + 1) e ∧ PrAt w' (B a) (prQ kf a) (qF B (a + 1) e) ∧ Fr (fun k => k = Q) w w' := by
  have HP := Hid.mk' (h.pop hlt)
  have c0 := h.cf
  have z1 := h.fz.2.1
  have e0 : qF B a e = some ⟨B a, 0, none⟩ := if_pos hlt
  rw [e0] at c0
  have hp := h.pr a (Nat.le_refl _) hlt
  have k1 := hp.nx
  have k2 : (if a + 1 < e then some (⟨B (a + 1), 0, none⟩ : Addr) else none) = qF B (a + 1) e := rfl
  rw [k2] at k1
  have hne : B a ≠ Q := (h.bk a (Nat.le_refl _) hlt).2.1
  have HF : Hid (Fr (fun k => k = Q) w (w.setCell ⟨Q, z + 1, none⟩ (.pointer (qF B (a + 1) e)))) := (Fr.refl _ w).set (fun _ => rfl)
  clear h hp e0 k2
  go_enter Tryz.func80, Tryz.ntmps80
  go_wp2
  go_ret
  exact ⟨rfl, HP.out.1, HP.out.2, HF.out⟩
set_option maxRecDepth 100000 in
set_option maxHeartbeats 4000000 in
theorem popI_none (w : World) (lo Q z : Nat) (lv : Value) (m : Nat) (kf : Nat → T) (B : Nat → Nat) (a e : Nat) (h : Que w lo Q z lv m kf B a e) (hlt : ¬ a < e) :
    Calls Tryz.prog 80 #[.pointer (some ⟨Q, z, none⟩)] w fun r w' => r = .returned (.pointer none) ∧ w' = w := by
  have c0 := h.cf
  have e0 : qF B a e = none := if_neg hlt
  rw [e0] at c0
  clear h e0
  go_enter Tryz.func80, Tryz.ntmps80
  go_wp2
  go_ret
  exact ⟨rfl, rfl⟩
end Go.Proofs.YtdidlcjhodejjaaGreat
namespace Go.Proofs.YtdidlcjhodejjaaGreat
open Go.RowKit Go.Deep Go.Joins
set_option linter.unusedVariables false

theorem Fr.step {P P' : Nat → Prop} {a b c : World} (h : Fr P a b) (k : Fr P' b c) (hp : ∀ i, i < a.heap.size → P' i → P i) : Fr P a c :=
  ⟨k.os.trans h.os, k.tape.trans h.tape, k.output.trans h.output, Nat.le_trans h.size k.size, fun i hi hn => (k.block i (Nat.lt_of_lt_of_le hi h.size) (fun e => hn (hp i hi e))).trans (h.block i hi hn)⟩
abbrev S11 (u : World) (b1 b2 Q z : Nat) (t1 t2 : T) (lv : Value) : Prop :=
  u.cell? ⟨b1, 0, none⟩ = some (.int .i64 t1.c) ∧ u.cell? ⟨b1, 1, none⟩ = some (.int .i64 t1.m.x) ∧ u.cell? ⟨b1, 2, none⟩ = some (.int .i64 t1.m.y) ∧ u.cell? ⟨b1, 3, none⟩ = some (.int .i64 t1.m.d) ∧ u.cell? ⟨b1, 4, none⟩ = some (.int .i64 t1.m.e) ∧ u.cell? ⟨b2, 0, none⟩ = some (.int .i64 t2.c) ∧ u.cell? ⟨b2, 1, none⟩ = some (.int .i64 t2.m.x) ∧ u.cell? ⟨b2, 2, none⟩ = some (.int .i64 t2.m.y) ∧ u.cell? ⟨b2, 3, none⟩ = some (.int .i64 t2.m.d) ∧ u.cell? ⟨b2, 4, none⟩ = some (.int .i64 t2.m.e) ∧ u.cell? ⟨Q, z, none⟩ = some lv
theorem S11.mk {u : World} {b1 b2 Q z : Nat} {t1 t2 : T} {lv : Value} (h1 : C5 u b1 t1) (h2 : C5 u b2 t2) (h3 : u.cell? ⟨Q, z, none⟩ = some lv) : S11 u b1 b2 Q z t1 t2 lv := ⟨h1.1, h1.2.1, h1.2.2.1, h1.2.2.2.1, h1.2.2.2.2, h2.1, h2.2.1, h2.2.2.1, h2.2.2.2.1, h2.2.2.2.2, h3⟩
theorem S11.below {u u' : World} {b1 b2 Q z : Nat} {t1 t2 : T} {lv : Value} (h : S11 u b1 b2 Q z t1 t2 lv) (hb : Below u.heap.size u u') : S11 u' b1 b2 Q z t1 t2 lv := by
  obtain ⟨a0, a1, a2, a3, a4, c0, c1, c2, c3, c4, d0⟩ := h
  have l1 := World.block_lt_of_cell? u _ a0
  have l2 := World.block_lt_of_cell? u _ c0
  have l3 := World.block_lt_of_cell? u _ d0
  exact ⟨(hb.cell (p := ⟨b1, 0, none⟩) l1).trans a0, (hb.cell (p := ⟨b1, 1, none⟩) l1).trans a1, (hb.cell (p := ⟨b1, 2, none⟩) l1).trans a2, (hb.cell (p := ⟨b1, 3, none⟩) l1).trans a3, (hb.cell (p := ⟨b1, 4, none⟩) l1).trans a4, (hb.cell (p := ⟨b2, 0, none⟩) l2).trans c0, (hb.cell (p := ⟨b2, 1, none⟩) l2).trans c1, (hb.cell (p := ⟨b2, 2, none⟩) l2).trans c2, (hb.cell (p := ⟨b2, 3, none⟩) l2).trans c3, (hb.cell (p := ⟨b2, 4, none⟩) l2).trans c4, (hb.cell (p := ⟨Q, z, none⟩) l3).trans d0⟩
theorem S11.fr {P : Nat → Prop} {u u' : World} {b1 b2 Q z : Nat} {t1 t2 : T} {lv : Value} (h : S11 u b1 b2 Q z t1 t2 lv) (hf : Fr P u u') (h1 : ¬ P b1) (h2 : ¬ P b2) (h3 : u'.cell? ⟨Q, z, none⟩ = some lv) : S11 u' b1 b2 Q z t1 t2 lv := by
  obtain ⟨a0, a1, a2, a3, a4, c0, c1, c2, c3, c4, d0⟩ := h
  have l1 := World.block_lt_of_cell? u _ a0
  have l2 := World.block_lt_of_cell? u _ c0
  exact ⟨(hf.cell l1 h1).trans a0, (hf.cell l1 h1).trans a1, (hf.cell l1 h1).trans a2, (hf.cell l1 h1).trans a3, (hf.cell l1 h1).trans a4, (hf.cell l2 h2).trans c0, (hf.cell l2 h2).trans c1, (hf.cell l2 h2).trans c2, (hf.cell l2 h2).trans c3, (hf.cell l2 h2).trans c4, h3⟩
theorem S11.c5 {u : World} {b1 b2 Q z : Nat} {t1 t2 : T} {lv : Value} (h : S11 u b1 b2 Q z t1 t2 lv) : C5 u b2 t2 := ⟨h.2.2.2.2.2.1, h.2.2.2.2.2.2.1, h.2.2.2.2.2.2.2.1, h.2.2.2.2.2.2.2.2.1, h.2.2.2.2.2.2.2.2.2.1⟩
theorem gb_cell {w w' : World} {row : Option Nat} (hg : w.grownBy w' row) {b o : Nat} (hb : b < w.heap.size) (hne : ¬ row = some b) : w'.cell? ⟨b, o, none⟩ = w.cell? ⟨b, o, none⟩ := World.cell?_of_block (w := w) (a := ⟨b, o, none⟩) (hg.block b hb (fun e => hne e.symm))
theorem gb_frozen {w w' : World} {row : Option Nat} (hg : w.grownBy w' row) {b o : Nat} (hb : b < w.heap.size) (hne : ¬ row = some b) : w'.frozen? ⟨b, o, none⟩ = w.frozen? ⟨b, o, none⟩ := World.frozen?_of_block (w := w) (a := ⟨b, o, none⟩) (hg.block b hb (fun e => hne e.symm))
theorem rng_succ (kf : Nat → T) (m : Nat) : (List.range (m + 1)).map kf = (List.range m).map kf ++ [kf m] := by simp [List.range_succ]
theorem lf_rng (kf : Nat → T) {m i : Nat} (h : i < m) : lf ((List.range m).map kf) i = kf i := by
  rw [lf_eq (by simpa using h)]
  simp
/-- the greatest terms are one more. -/
theorem Que.lead {w w' : World} {lo Q z : Nat} {lv lv' : Value} {m : Nat} {kf : Nat → T} {B : Nat → Nat} {a e : Nat} (h : Que w lo Q z lv m kf B a e) {row : Option Nat} (hg : w.grownBy w' row) (hr : row = lv.ownBlock) (ho : w'.ownsRow lo 42 5 lv' ((List.range (m + 1)).map kf).length (cellsL ((List.range (m + 1)).map kf))) (hl : ∀ g, lv'.ownBlock = some g → lv.ownBlock = some g ∨ g = w.heap.size) : Que (w'.setCell ⟨Q, z, none⟩ lv') lo Q z lv' (m + 1) kf B a e := by
  have f1 : Fr (fun k => lv.ownBlock = some k) w w' := (Fr.refl _ w).grown hg (fun g e _ => by rw [hr] at e; exact e)
  have f2 : Fr (fun k => k = Q) w' (w'.setCell ⟨Q, z, none⟩ lv') := (Fr.refl _ w').set (fun _ => rfl)
  have nQ : ¬ lv.ownBlock = some Q := fun e => h.ap Q e rfl
  have hlt : Q < w.heap.size := h.lt
  have ap' : ∀ g, lv'.ownBlock = some g → g ≠ Q := fun g hg' => by
    rcases hl g hg' with q | q
    · exact h.ap g q
    · omega
  refine ⟨sc_same ((f1.cell h.lt nQ).trans h.cl), ?_, ?_, ?_, f2.owns ho (fun g hg' q => ap' g hg' q), ap', ?_, ?_, h.inj, h.hQ⟩
  · rw [sc_other (neQ (by omega))]; exact (f1.cell h.lt nQ).trans h.cf
  · obtain ⟨v, c1, c2⟩ := h.ct
    exact ⟨v, by rw [sc_other (neQ (by omega))]; exact (f1.cell h.lt nQ).trans c1, c2⟩
  · simp only [World.frozen?_setCell]
    exact ⟨(f1.frozen h.lt nQ).trans h.fz.1, (f1.frozen h.lt nQ).trans h.fz.2.1, (f1.frozen h.lt nQ).trans h.fz.2.2⟩
  · exact fun j j1 j2 => ((h.pr j j1 j2).fr f1 (h.bk j j1 j2).2.2).fr f2 (h.bk j j1 j2).2.1
  · intro j j1 j2
    refine ⟨(h.bk j j1 j2).1, (h.bk j j1 j2).2.1, fun q => ?_⟩
    rcases hl _ q with q' | q'
    · exact (h.bk j j1 j2).2.2 q'
    · have := (h.pr j j1 j2).lt; omega
set_option maxRecDepth 100000 in
set_option maxHeartbeats 8000000 in
theorem comeI (w : World) (lo Q z : Nat) (lv : Value) (m : Nat) (kf : Nat → T) (B : Nat → Nat) (a : Nat) (h : Que w lo Q z lv m kf B a (tri m)) (ha : a ≤ tri m) (hm : m ≤ 12) (hlo : lo ≤ w.heap.size) (t : T) (ht : kf m = t) :
    Calls Tryz.prog 77 #[.pointer (some ⟨Q, z, none⟩), .agg #[.int .i64 t.c, .int .i64 t.m.x, .int .i64 t.m.y, .int .i64 t.m.d, .int .i64 t.m.e]] w fun r w' => r = .returned (.tuple #[]) ∧ ∃ lv' B', Que w' lo Q z lv' (m + 1) kf B' a (tri (m + 1)) ∧ (∀ j, j < tri m → B' j = B j) ∧ (∀ j, tri m ≤ j → j < tri (m + 1) → w.heap.size ≤ B' j) ∧ (∀ g, lv'.ownBlock = some g → lv.ownBlock = some g ∨ w.heap.size ≤ g) ∧ Fr (QS Q lv B a (tri m)) w w' := by
  obtain ⟨i0, hi0, hz0, hz1, hz2⟩ := info_parts infoT
  have bo := bel_one w (.cells #[.int .i64 t.c, .int .i64 t.m.x, .int .i64 t.m.y, .int .i64 t.m.d, .int .i64 t.m.e] 42)
  have HQ0 := Hid.mk' (h.below bo)
  have HF0 : Hid (Fr (QS Q lv B a (tri m)) w (w.alloc (.cells #[.int .i64 t.c, .int .i64 t.m.x, .int .i64 t.m.y, .int .i64 t.m.d, .int .i64 t.m.e] 42))) := Fr.of_below bo
  have HL0 := Hid.mk' (C5.box w 42 t)
  have hQw : Q < w.heap.size := h.lt
  have hlen : ((List.range m).map kf).length = m := by simp
  obtain ⟨la, lc, hlv, hout⟩ := out_of_owns h.own (by rw [hlen]; omega)
  rw [hlen] at hlv
  subst hlv
  have hgw : ∀ g, (Value.slice la m lc).ownBlock = some g → g < w.heap.size := fun g hg => (h.own.lt g hg).2
  have hBw : ∀ j, a ≤ j → j < tri m → B j < w.heap.size := fun j j1 j2 => (h.pr j j1 j2).lt
  have HGW := Hid.mk' hgw
  have HBW := Hid.mk' hBw
  have hml : (m : Int) ≤ 12 := by omega
  have c0 := (h.below bo).cl
  clear h hout hgw hBw
  go_enter Tryz.func77, Tryz.ntmps77
  go_wp2
  clear c0 bo
  generalize hw0 : w.alloc (.cells #[.int .i64 t.c, .int .i64 t.m.x, .int .i64 t.m.y, .int .i64 t.m.d, .int .i64 t.m.e] 42) = w0 at *
  have hs0 : w.heap.size ≤ w0.heap.size := HF0.out.size
  clear hw0
  go_loopw [11] (fun v wr => ∃ (i : Nat) (Bi : Nat → Nat), i ≤ m ∧ v = .int .i64 (i : Int) ∧ Que wr lo Q z (.slice la m lc) m kf Bi a (tri m + i) ∧ (∀ j, j < tri m → Bi j = B j) ∧ (∀ j, tri m ≤ j → j < tri m + i → w.heap.size < Bi j) ∧ Fr (QS Q (.slice la m lc) B a (tri m)) w wr ∧ C5 wr w.heap.size t) (fun v _ => m - (intOf v).toNat)
  case atStart => exact ⟨0, B, Nat.zero_le _, rfl, HQ0.out, fun _ _ => rfl, fun j j1 j2 => by omega, HF0.out, HL0.out⟩
  case round =>
    obtain ⟨i, Bi, hi, rfl, hQ, hB1, hB2, hF, hL⟩ := hrel
    have HB1 := Hid.mk' hB1
    have HB2 := Hid.mk' hB2
    have HF := Hid.mk' hF
    have HQ := Hid.mk' hQ
    have HLD := Hid.mk' hL
    have hsr : w.heap.size ≤ wr.heap.size := hF.size
    clear hB1 hB2
    by_cases hlt : i < m
    · have hil : (i : Int) < (m : Int) := by omega
      obtain ⟨la2, lc2, hlv2, hout2⟩ := out_of_owns hQ.own (by rw [hlen]; omega)
      rw [hlen] at hlv2
      obtain ⟨rfl, rfl⟩ : la = la2 ∧ lc = lc2 := by
        injection hlv2 with e1 e2 e3
        exact ⟨e1, e3⟩
      rcases hout2.1.2.2 with h0 | ⟨bb, off, rfl, hblt, hcl⟩
      · omega
      obtain ⟨g0, g1, g2, g3, g4⟩ := hcl i (by rw [hlen]; exact hlt)
      rw [lf_rng kf hlt] at g0 g1 g2 g3 g4
      obtain ⟨t1, ht1⟩ : ∃ t1, kf i = t1 := ⟨_, rfl⟩
      rw [ht1] at g0 g1 g2 g3 g4
      have be := bel_one wr (.cells #[.int .i64 t1.c, .int .i64 t1.m.x, .int .i64 t1.m.y, .int .i64 t1.m.d, .int .i64 t1.m.e] 42)
      have HS0 := Hid.mk' ((S11.mk (C5.box wr 42 t1) (hL.below be) (hQ.below be).cl).below (Below.refl _ _).drew)
      have hpr : prQ kf (tri m + i) = ⟨sprT t1 (M.both t1.m t.m), sprT t (M.both t1.m t.m), i, m⟩ := by
        unfold prQ
        rw [pq_tri m i hlt, ht1, ht]
      have HPR := Hid.mk' hpr
      have HC := fun (W : World) => sprOfI W t1 t
      generalize sprT t1 (M.both t1.m t.m) = u at HC HPR
      generalize sprT t (M.both t1.m t.m) = v at HC HPR
      have HQd := Hid.mk' ((hQ.below be).below (Below.refl _ _).drew)
      have HFd := Hid.mk' ((hF.next be).next (Below.refl _ _).drew)
      have HLd := Hid.mk' ((hL.below be).below (Below.refl _ _).drew)
      have hsd : w.heap.size ≤ (wr.alloc (.cells #[.int .i64 t1.c, .int .i64 t1.m.x, .int .i64 t1.m.y, .int .i64 t1.m.d, .int .i64 t1.m.e] 42)).drew.heap.size := HFd.out.size
      have hBd : ∀ j, a ≤ j → j < tri m + i → Bi j < wr.heap.size := fun j j1 j2 => (hQ.pr j j1 j2).lt
      have HBD := Hid.mk' hBd
      have hlg : ∀ g, (Value.slice (some ⟨bb, off, none⟩) m lc).ownBlock = some g → g < wr.heap.size := fun g hg => (hQ.own.lt g hg).2
      have HLG := Hid.mk' hlg
      clear hcl hout2 hlv2 hQ hF hL be hpr hBd hlg
      go_wp2_with fail
      clear g0 g1 g2 g3 g4
      have hS := HS0.out
      go_region_held3 (fun u => S11 u wr.heap.size w.heap.size Q z t1 t (.slice (some ⟨bb, off, none⟩) m lc)) (first | with_reducible exact hS | with_reducible exact S11.below hS b5 | with_reducible exact S11.below (S11.below hS b5) (bel_one _ _) | with_reducible exact hS8) (first | (go_at_call 122; refine (HC _).mono ?_; rintro e w5 ⟨rfl, b5⟩) | (go_at_call 121; have hP : PrAt (w5.alloc (.cells #[.int .i64 u.c, .int .i64 u.m.x, .int .i64 u.m.y, .int .i64 u.m.d, .int .i64 u.m.e, .int .i64 v.c, .int .i64 v.m.x, .int .i64 v.m.y, .int .i64 v.m.d, .int .i64 v.m.e, .int .i64 (i : Int), .int .i64 (m : Int), .pointer none] 147)) w5.heap.size (prQ kf (tri m + i)) none := (by rw [HPR.out]; exact PrAt.box w5 147 ⟨u, v, i, m⟩ none); have hsz5 := b5.size; refine (pushI _ lo Q z _ m kf Bi a (tri m + i) ((HQd.out.below b5).below (bel_one _ _)) (by omega) _ hP (by simp at hsz5; omega) (by simp at hsz5; omega) (fun q => by have := HLG.out _ q; simp at hsz5; omega) (fun j j1 j2 => by have := HBD.out j j1 j2; simp at hsz5; omega)).mono ?_; rintro e w8 ⟨rfl, hq8, hf8⟩; have hS8 : S11 w8 wr.heap.size w.heap.size Q z t1 t (.slice (some ⟨bb, off, none⟩) m lc) := S11.fr (S11.below (S11.below hS b5) (bel_one _ _)) hf8 (fun q => by rcases q with q | ⟨q1, q2⟩; (· omega); (· have := HBD.out (tri m + i - 1) (by omega) (by omega); omega)) (fun q => by rcases q with q | ⟨q1, q2⟩; (· omega); (· rcases Nat.lt_or_ge (tri m + i - 1) (tri m) with k | k; (· have := HB1.out _ k; have := HBW.out (tri m + i - 1) (by omega) k; omega); (· have := HB2.out _ k (by omega); omega))) hq8.cl))
      have hL8 : C5 w8 w.heap.size t := hS8.c5
      have hF8 : Fr (QS Q (.slice (some ⟨bb, off, none⟩) m lc) B a (tri m)) w w8 := ((HFd.out.next b5).next (bel_one _ _)).step hf8 (fun k hk q => by
        rcases q with q | ⟨q1, q2⟩
        · exact .inl q
        · rcases Nat.lt_or_ge (tri m + i - 1) (tri m) with k' | k'
          · by_cases e0 : i = 0
            · subst e0
              exact .inr (.inr ⟨by omega, by rw [q2]; exact HB1.out _ k'⟩)
            · omega
          · have := HB2.out _ k' (by omega)
            omega)
      have hs5 : w.heap.size < w5.heap.size := by have := b5.size; simp at this; omega
      have HQ8 := Hid.mk' hq8
      have HL8 := Hid.mk' hL8
      have HF8 := Hid.mk' hF8
      clear hS hS8 hq8 hf8 hL8 hF8 b5 HC hP hsz5
      go_wp2
      go_roundw
      case rel => exact ⟨i + 1, updB Bi (tri m + i) w5.heap.size, by omega, by go_num, HQ8.out, fun j hj => by
          unfold updB
          rw [if_neg (by omega)]
          exact HB1.out j hj, fun j j1 j2 => by
          unfold updB
          split
          · exact hs5
          · exact HB2.out j j1 (by omega), HF8.out, HL8.out⟩
      case measure => simp [intOf]; omega
    · have hie : i = m := by omega
      subst hie
      have hnl : ¬ (i : Int) < (i : Int) := by omega
      have bd : Below wr.heap.size wr wr.drew := (Below.refl _ _).drew
      have ba := bel_one wr.drew (.cells #[.int .i64 t.c, .int .i64 t.m.x, .int .i64 t.m.y, .int .i64 t.m.d, .int .i64 t.m.e] 42)
      have hQa := (hQ.below bd).below ba
      have c0 := hQ.cl
      have z0 := hQ.fz.1
      obtain ⟨l0, l1, l2, l3, l4⟩ := hL
      have hOa : ((wr.drew).alloc (.cells #[.int .i64 t.c, .int .i64 t.m.x, .int .i64 t.m.y, .int .i64 t.m.d, .int .i64 t.m.e] 42)).ownsRow lo 42 5 (.slice la i lc) i (cellsL ((List.range i).map kf)) := by
        have := hQa.own
        rwa [hlen] at this
      have hnQ : ¬ (Value.slice la i lc).ownBlock = some Q := fun q => hQ.ap Q q rfl
      have hQr : Q < wr.heap.size := hQ.lt
      have hnew := heap_alloc_new wr.drew (.cells #[.int .i64 t.c, .int .i64 t.m.x, .int .i64 t.m.y, .int .i64 t.m.d, .int .i64 t.m.e] 42)
      have HQa := Hid.mk' hQa
      have HFa := Hid.mk' ((HF.out.next bd).next ba)
      have HOA := Hid.mk' hOa
      have HNE := Hid.mk' hnew
      have hlor : lo ≤ wr.heap.size := Nat.le_trans hlo hsr
      have cA := hQa.cl
      have zA := hQa.fz.1
      have HCA := Hid.mk' cA
      have HZA := Hid.mk' zA
      clear hQ hF hQa hOa hnew bd ba cA zA
      go_wp2_with fail
      go_region_law (refine step_append_lies _ (by rfl) (.tmp 34) (.tmp 36) 45 (by rfl) lo 42 i0 _ 5 40 Tryz.underlying45 hi0 hz0 hz1 hz2 rfl (by omega) _ i (cellsL ((List.range i).map kf)) (by rfl) HOA.out ⟨wr.heap.size, 0, none⟩ 1 1 (cellsL [t]) (by rfl) (by rw [cellsL_length]; rfl) (by rw [cellsL_one]; exact World.news_of_block HNE.out) (one_cells _) (by omega) (by unfold maxLen; omega) (by omega) (by simp; omega) _ rfl ?_; intro g0 cap0 w9 hown hgrow hat hlt9; have c9 := (gb_cell (b := Q) (o := z) hgrow (by simp; omega) hnQ).trans HCA.out; have z9 := (gb_frozen (b := Q) (o := z) hgrow (by simp; omega) hnQ).trans HZA.out)
      all_goals (
        clear c9 z9 l0 l1 l2 l3 l4 c0 z0
        have HOWN := Hid.mk' hown
        have HGR := Hid.mk' hgrow
        have HAT := Hid.mk' hat
        clear hown hgrow hat hlt9
        go_wp2
        go_end0
        have hl' : ∀ g, (Value.slice (some ⟨g0, 0, none⟩) (i + 1) cap0).ownBlock = some g → (Value.slice la i lc).ownBlock = some g ∨ g = wr.heap.size + 1 := fun g hg => by
          have e : g0 = g := by simpa [Value.ownBlock] using hg
          subst e
          exact HAT.out.imp id (fun q => by rw [q]; simp)
        have ho : w9.ownsRow lo 42 5 (.slice (some ⟨g0, 0, none⟩) (i + 1) cap0) ((List.range (i + 1)).map kf).length (cellsL ((List.range (i + 1)).map kf)) := by
          have h := HOWN.out
          rw [← ht, ← cellsL_append, ← rng_succ] at h
          rw [show ((List.range (i + 1)).map kf).length = i + 1 by simp]
          exact h
        refine ⟨rfl, .slice (some ⟨g0, 0, none⟩) (i + 1) cap0, Bi, HQa.out.lead HGR.out rfl ho (fun g hg => by simpa using hl' g hg), HB1.out, fun j j1 j2 => Nat.le_of_lt (HB2.out j j1 j2), fun g hg => (hl' g hg).imp id (fun q => by omega), ?_⟩
        exact (HFa.out.grown HGR.out (fun g e hk => .inr (.inl e))).set (fun _ => .inl rfl))
end Go.Proofs.YtdidlcjhodejjaaGreat
namespace Go.Proofs.YtdidlcjhodejjaaGreat
open Go.RowKit Go.Deep Go.Joins
set_option linter.unusedVariables false

/-- one of a row, less an operator times another one. -/
def lessE (R q X : List T) : Option (List T) := match mulM (lf q) (lf X) X.length q.length with
  | some P => if (subL R P).length ≤ 400 then some (subL R P) else none
  | none => none
def updL (R : Nat → List T) (j : Nat) (Y : List T) (i : Nat) : List T := if i = j then Y else R i
/-- the first j of a row, less an operator times another row. -/
def lessR (row : Nat → List T) (q : List T) (oth : Nat → List T) : Nat → Option (Nat → List T)
  | 0 => some (fun _ => [])
  | j + 1 => match lessR row q oth j with
    | none => none
    | some R => match lessE (row j) q (oth j) with
      | none => none
      | some Y => some (updL R j Y)
theorem lessR_none {row : Nat → List T} {q : List T} {oth : Nat → List T} {j : Nat} (h : lessR row q oth j = none) : ∀ d, lessR row q oth (j + d) = none
  | 0 => h
  | d + 1 => by
    show (match lessR row q oth (j + d) with | none => none | some R => match lessE (row (j + d)) q (oth (j + d)) with | none => none | some Y => some (updL R (j + d) Y)) = none
    rw [lessR_none h d]
theorem lessR_bad {row : Nat → List T} {q : List T} {oth : Nat → List T} {j g : Nat} {R : Nat → List T} (hj : j < g) (h : lessR row q oth j = some R) (he : lessE (row j) q (oth j) = none) : lessR row q oth g = none := by
  have h1 : lessR row q oth (j + 1) = none := by
    show (match lessR row q oth j with | none => none | some R => match lessE (row j) q (oth j) with | none => none | some Y => some (updL R j Y)) = none
    rw [h]
    show (match lessE (row j) q (oth j) with | none => none | some Y => some (updL R j Y)) = none
    rw [he]
  have := lessR_none h1 (g - (j + 1))
  rwa [show j + 1 + (g - (j + 1)) = g by omega] at this
theorem lessR_step {row : Nat → List T} {q : List T} {oth : Nat → List T} {j : Nat} {R : Nat → List T} {Y : List T} (h : lessR row q oth j = some R) (he : lessE (row j) q (oth j) = some Y) : lessR row q oth (j + 1) = some (updL R j Y) := by
  show (match lessR row q oth j with | none => none | some R => match lessE (row j) q (oth j) with | none => none | some Y => some (updL R j Y)) = _
  rw [h]
  show (match lessE (row j) q (oth j) with | none => none | some Y => some (updL R j Y)) = _
  rw [he]
theorem lessE_ok {R q X Y : List T} (hR : okL R = true) (hq : okL q = true) (hX : okL X = true) (h : lessE R q X = some Y) : okL Y = true := by
  unfold lessE at h
  split at h
  · rename_i P hP
    split at h
    · rename_i hl
      cases h
      exact okL_of hl (subL_facts (okL_falls hR).2 (mulM_falls2 (good_ok hq).2 (good_ok hX).2 _ P (Nat.le_refl _) hP)).1
    · cases h
  · cases h
theorem lessR_ok {row : Nat → List T} {q : List T} {oth : Nat → List T} {g : Nat} (hrow : ∀ i, i < g → okL (row i) = true) (hq : okL q = true) (ho : ∀ i, i < g → okL (oth i) = true) : ∀ j R, j ≤ g → lessR row q oth j = some R → ∀ i, i < j → okL (R i) = true
  | 0, R, _, _, i, hi => by omega
  | j + 1, R, hj, h, i, hi => by
    cases hr : lessR row q oth j with
    | none => have := lessR_none hr 1; rw [this] at h; cases h
    | some R1 =>
      cases he : lessE (row j) q (oth j) with
      | none => have := lessR_bad (g := j + 1) (by omega) hr he; rw [this] at h; cases h
      | some Y =>
        rw [lessR_step hr he] at h
        cases h
        unfold updL
        split
        · exact lessE_ok (hrow j (by omega)) hq (ho j (by omega)) he
        · exact lessR_ok hrow hq ho j R1 (by omega) hr i (by omega)
/-- a row, less all that is taken, times the proofs. -/
def madeN (g : Nat) (P : Nat → Nat → List T) (qs : Nat → List T) (row : Option (Nat → List T)) : Nat → Option (Nat → List T)
  | 0 => row
  | t + 1 => match madeN g P qs row t with
    | none => none
    | some R => lessR R (qs t) (P t) g
def negT1 (u : T) : T := ⟨101 - u.c, u.m⟩
def made1 (g : Nat) (P : Nat → Nat → List T) (i k : Nat) (u v : T) : Option (Nat → List T) := match lessR (fun _ => []) [negT1 u] (P i) g with
  | none => none
  | some R => lessR R [v] (P k) g
def made (g : Nat) (P : Nat → Nat → List T) (i k : Nat) (u v : T) (nq : Nat) (qs : Nat → List T) : Option (Nat → List T) := madeN g P qs (made1 g P i k u v) nq
theorem madeN_none {g : Nat} {P : Nat → Nat → List T} {qs : Nat → List T} {row : Option (Nat → List T)} {t : Nat} (h : madeN g P qs row t = none) : ∀ d, madeN g P qs row (t + d) = none
  | 0 => h
  | d + 1 => by
    show (match madeN g P qs row (t + d) with | none => none | some R => lessR R (qs (t + d)) (P (t + d)) g) = none
    rw [madeN_none h d]
/-- a basis on its way. -/
structure Bs where
  m : Nat
  L : Nat → List T
  P : Nat → Nat → List T
def updP (P : Nat → Nat → List T) (m : Nat) (R : Nat → List T) (i : Nat) : Nat → List T := if i = m then R else P i
def addB (B : Bs) (r : List T) (R : Nat → List T) : Bs := ⟨B.m + 1, updL B.L B.m r, updP B.P B.m R⟩
abbrev spU (o : Int) (A C : List T) : T := sprU o A.length (lf A) C.length (lf C)
abbrev spV (o : Int) (A C : List T) : T := sprV o A.length (lf A) C.length (lf C)
abbrev spP (o : Int) (A C : List T) : List T × Bool := sprPoly o (lf A) A.length (lf C) C.length
/-- a pair is looked at; none: it is too much. -/
def stepB (o : Int) (g : Nat) (B : Bs) (i k : Nat) : Option Bs :=
  match spP o (B.L i) (B.L k) with
  | (s, true) => (match redAll o s B.m (lN B.L) (fN B.L) with
    | some S => if S.r.length = 0 then some B else if B.m = 12 then none else (match made g B.P i k (spU o (B.L i) (B.L k)) (spV o (B.L i) (B.L k)) B.m S.q with
      | some R => some (addB B S.r R)
      | none => none)
    | none => none)
  | (_, false) => none
def grun (o : Int) (g : Nat) : Nat → Bs → Nat → Bs × Bool
  | 0, B, j => (B, decide (tri B.m ≤ j))
  | f + 1, B, j => if j < tri B.m then (match stepB o g B (pq j).1 (pq j).2 with
      | none => (B, false)
      | some B' => grun o g f B' (j + 1)) else (B, true)
def oneP (k i : Nat) : List T := if i = k then [⟨1, ⟨0, 0, 0, 0⟩⟩] else []
def grb0 (n : Nat) (L : Nat → List T) : Bs := ⟨n, L, fun k => oneP k⟩
/-- what GrbMake answers. -/
def grbMake (o : Int) (n : Nat) (L : Nat → List T) (fuel : Int) : Bs × Bool :=
  if (1 ≤ o ∧ o ≤ 3) ∧ lstOk n (lN L) (fN L) = true ∧ (1 ≤ n ∧ n ≤ 3) ∧ (0 ≤ fuel ∧ fuel ≤ 60) then grun o n fuel.toNat (grb0 n L) 0 else (⟨0, fun _ => [], fun _ _ => []⟩, false)
/-- what is true of it all the time. -/
structure BsOk (o : Int) (g : Nat) (B : Bs) : Prop where
  ho : 1 ≤ o ∧ o ≤ 3
  l : lstOk B.m (lN B.L) (fN B.L) = true
  p : ∀ i, i < B.m → ∀ j, j < g → okL (B.P i j) = true
theorem one_okL : okL [(⟨1, ⟨0, 0, 0, 0⟩⟩ : T)] = true := by decide
theorem grb0_ok {o : Int} {n : Nat} {L : Nat → List T} (ho : 1 ≤ o ∧ o ≤ 3) (hl : lstOk n (lN L) (fN L) = true) : BsOk o n (grb0 n L) := ⟨ho, hl, fun i _ j _ => by
  show okL (oneP i j) = true
  unfold oneP
  split
  · exact one_okL
  · exact okL_nil⟩
theorem mod101 {a : Int} (h1 : 1 ≤ a) (h2 : a ≤ 100) : 1 ≤ 101 - a ∧ 101 - a ≤ 100 := by omega
theorem spUV_good {o : Int} {A C : List T} {s : List T} (h : spP o A C = (s, true)) : (okL [spU o A C] = true ∧ okL [negT1 (spU o A C)] = true ∧ okL [spV o A C] = true) ∧ ((spU o A C).m.ok = true ∧ 1 ≤ (spU o A C).c ∧ (spU o A C).c ≤ 100) ∧ ((spV o A C).m.ok = true ∧ 1 ≤ (spV o A C).c ∧ (spV o A C).c ≤ 100) := by
  have hs : sprOk o A.length (lf A) C.length (lf C) = true := by
    unfold spP sprPoly at h
    split at h
    · assumption
    · cases h
  obtain ⟨h1, h2⟩ := spr_good hs
  have g1 := mod101 h1.2.1 h1.2.2
  exact ⟨⟨one_ok h1, one_ok ⟨h1.1, g1.1, g1.2⟩, one_ok h2⟩, h1, h2⟩
theorem made_ok {g : Nat} {P : Nat → Nat → List T} {i k m : Nat} {u v : T} {qs : Nat → List T} (hi : i < m) (hk : k < m) (hP : ∀ i, i < m → ∀ j, j < g → okL (P i j) = true) (hu : okL [negT1 u] = true) (hv : okL [v] = true) (hq : ∀ t, t < m → okL (qs t) = true) : ∀ t R, t ≤ m → madeN g P qs (made1 g P i k u v) t = some R → ∀ j, j < g → okL (R j) = true
  | 0, R, _, h => by
    change made1 g P i k u v = some R at h
    unfold made1 at h
    split at h
    · cases h
    · rename_i R1 h1
      exact lessR_ok (lessR_ok (fun _ _ => okL_nil) hu (hP i hi) g R1 (Nat.le_refl _) h1) hv (hP k hk) g R (Nat.le_refl _) h
  | t + 1, R, ht, h => by
    cases hr : madeN g P qs (made1 g P i k u v) t with
    | none => have := madeN_none hr 1; rw [this] at h; cases h
    | some R1 =>
      have h' : lessR R1 (qs t) (P t) g = some R := by
        have : madeN g P qs (made1 g P i k u v) (t + 1) = lessR R1 (qs t) (P t) g := by
          show (match madeN g P qs (made1 g P i k u v) t with | none => none | some R => lessR R (qs t) (P t) g) = _
          rw [hr]
        rw [← this]; exact h
      exact lessR_ok (made_ok hi hk hP hu hv hq t R1 (by omega) hr) (hq t (by omega)) (hP t (by omega)) g R (Nat.le_refl _) h'
theorem lstOk_add {m : Nat} {L : Nat → List T} (hl : lstOk m (lN L) (fN L) = true) (hm : m ≠ 12) {r : List T} (hr : okL r = true) (h0 : r.length ≠ 0) : lstOk (m + 1) (lN (updL L m r)) (fN (updL L m r)) = true := by
  have h := lstOk_all hl
  refine decide_eq_true ⟨by omega, fun i hi => ?_⟩
  show (updL L m r i).length ≠ 0 ∧ okL (updL L m r i) = true
  unfold updL
  split
  · exact ⟨h0, hr⟩
  · exact h.2 i (by omega)
theorem stepB_ok {o : Int} {g : Nat} {B B' : Bs} {i k : Nat} (h : BsOk o g B) (hi : i < B.m) (hk : k < B.m) (hs : stepB o g B i k = some B') : BsOk o g B' := by
  unfold stepB at hs
  split at hs
  · rename_i s hsp
    split at hs
    · rename_i S hS
      split at hs
      · cases hs; exact h
      · rename_i h0
        split at hs
        · cases hs
        · rename_i h12
          split at hs
          · rename_i R hR
            cases hs
            obtain ⟨d1, d2⟩ := redAll_ok hS
            obtain ⟨⟨_, g2, g3⟩, _⟩ := spUV_good hsp
            refine ⟨h.ho, lstOk_add h.l h12 (okL_of (by have := d1.r.2; omega) d1.r.1) h0, fun a ha j hj => ?_⟩
            show okL (updP B.P B.m R a j) = true
            unfold updP
            split
            · exact made_ok hi hk h.p g2 g3 (fun t _ => okL_of (by have := (d1.q t).2; omega) (d1.q t).1) B.m R (Nat.le_refl _) hR j hj
            · have ha' : a < B.m + 1 := ha
              exact h.p a (by omega) j hj
          · cases hs
    · cases hs
  · cases hs
theorem stepB_m {o : Int} {g : Nat} {B B' : Bs} {i k : Nat} (hs : stepB o g B i k = some B') : B.m ≤ B'.m := by
  unfold stepB at hs
  split at hs
  · split at hs
    · split at hs
      · cases hs; exact Nat.le_refl _
      · split at hs
        · cases hs
        · split at hs
          · cases hs; exact Nat.le_succ _
          · cases hs
    · cases hs
  · cases hs
end Go.Proofs.YtdidlcjhodejjaaGreat
