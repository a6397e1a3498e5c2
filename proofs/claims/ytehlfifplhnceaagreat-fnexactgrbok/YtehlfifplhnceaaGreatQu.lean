/-
  The pairs that are to be looked at: a queue of pointers; one is put behind all, one is taken away.
-/
import Derived.Test.YtehlfifplhnceaaGreatGbf
import Derived.Test.YtehlfifplhnceaaGreatGbc
import Derived.Deep.RegionHeld3
namespace Go.Proofs.YtehlfifplhnceaaGreat
open Go.RowKit Go.Deep Go.Joins
set_option linter.unusedVariables false

/-! which memory has turned -/
structure Fr (P : Nat → Prop) (w w' : World) : Prop where
  os : w'.os = w.os
  tape : w'.tape = w.tape
  output : w'.output = w.output
  size : w.heap.size ≤ w'.heap.size
  block : ∀ k, k < w.heap.size → ¬ P k → w'.heap[k]? = w.heap[k]?
theorem Fr.refl (P : Nat → Prop) (w : World) : Fr P w w := ⟨rfl, rfl, rfl, Nat.le_refl _, fun _ _ _ => rfl⟩
theorem Fr.trans {P : Nat → Prop} {a b c : World} (h : Fr P a b) (k : Fr P b c) : Fr P a c :=
  ⟨k.os.trans h.os, k.tape.trans h.tape, k.output.trans h.output, Nat.le_trans h.size k.size, fun i hi hn => (k.block i (Nat.lt_of_lt_of_le hi h.size) hn).trans (h.block i hi hn)⟩
theorem Fr.mono {P P' : Nat → Prop} {w w' : World} (h : Fr P w w') (hp : ∀ k, k < w.heap.size → P k → P' k) : Fr P' w w' := ⟨h.os, h.tape, h.output, h.size, fun k hk hn => h.block k hk (fun e => hn (hp k hk e))⟩
theorem Fr.of_below {P : Nat → Prop} {w w' : World} (h : Below w.heap.size w w') : Fr P w w' := ⟨h.os, h.tape, h.output, h.size, fun k hk _ => h.block k hk⟩
theorem Fr.next {P : Nat → Prop} {a b c : World} (h : Fr P a b) (k : Below b.heap.size b c) : Fr P a c := h.trans (Fr.of_below k)
theorem Fr.set {P : Nat → Prop} {w w' : World} (h : Fr P w w') {b o : Nat} {v : Value} (hb : b < w.heap.size → P b) : Fr P w (w'.setCell ⟨b, o, none⟩ v) :=
  ⟨h.os, h.tape, h.output, by simpa [World.setCell] using h.size, fun k hk hn => (Below.heap_setCell _ _ _ _ (by show k ≠ b; intro e; subst e; exact hn (hb hk))).trans (h.block k hk hn)⟩
theorem Fr.grown {P : Nat → Prop} {w w' w'' : World} {row : Option Nat} (h : Fr P w w') (hg : w'.grownBy w'' row) (hr : ∀ g, row = some g → g < w.heap.size → P g) : Fr P w w'' :=
  ⟨hg.os.trans h.os, hg.tape.trans h.tape, hg.output.trans h.output, Nat.le_trans h.size hg.size, fun k hk hn => (hg.block k (Nat.lt_of_lt_of_le hk h.size) (fun e => hn (hr k e.symm hk))).trans (h.block k hk hn)⟩
theorem Fr.cell {P : Nat → Prop} {w w' : World} (h : Fr P w w') {b o : Nat} (hb : b < w.heap.size) (hp : ¬ P b) : w'.cell? ⟨b, o, none⟩ = w.cell? ⟨b, o, none⟩ :=
  World.cell?_of_block (w := w) (a := ⟨b, o, none⟩) (h.block b hb hp)
theorem Fr.frozen {P : Nat → Prop} {w w' : World} (h : Fr P w w') {b o : Nat} (hb : b < w.heap.size) (hp : ¬ P b) : w'.frozen? ⟨b, o, none⟩ = w.frozen? ⟨b, o, none⟩ :=
  World.frozen?_of_block (w := w) (a := ⟨b, o, none⟩) (h.block b hb hp)
theorem Fr.rd {P : Nat → Prop} {w w' : World} (h : Fr P w w') {a : Option Addr} {n cap : Nat} {f : Nat → T} (hr : Rd w a n cap f) (hp : n = 0 ∨ ∀ b off, a = some ⟨b, off, none⟩ → ¬ P b) : Rd w' a n cap f := by
  obtain ⟨h1, h2, h3⟩ := hr
  refine ⟨h1, h2, ?_⟩
  rcases h3 with h0 | ⟨b, off, he, hlt, hc⟩
  · exact .inl h0
  · rcases hp with h0 | hp
    · exact .inl h0
    · refine .inr ⟨b, off, he, Nat.lt_of_lt_of_le hlt h.size, fun i hi => ?_⟩
      have hn := hp b off he
      obtain ⟨c0, c1, c2, c3, c4⟩ := hc i hi
      exact ⟨(h.cell hlt hn).trans c0, (h.cell hlt hn).trans c1, (h.cell hlt hn).trans c2, (h.cell hlt hn).trans c3, (h.cell hlt hn).trans c4⟩
theorem Fr.c5 {P : Nat → Prop} {w w' : World} (h : Fr P w w') {b : Nat} {t : T} (hc : C5 w b t) (hp : ¬ P b) : C5 w' b t := by
  have hlt := hc.lt
  obtain ⟨c0, c1, c2, c3, c4⟩ := hc
  exact ⟨(h.cell hlt hp).trans c0, (h.cell hlt hp).trans c1, (h.cell hlt hp).trans c2, (h.cell hlt hp).trans c3, (h.cell hlt hp).trans c4⟩
theorem Fr.below {P : Nat → Prop} {lo : Nat} {u w w' : World} (hb : Below lo u w) (h : Fr P w w') (hp : ∀ k, P k → lo ≤ k) (hlo : lo ≤ u.heap.size) : Below lo u w' :=
  ⟨h.os.trans hb.os, h.tape.trans hb.tape, h.output.trans hb.output, Nat.le_trans hb.size h.size, fun k hk => (h.block k (Nat.lt_of_lt_of_le hk (Nat.le_trans hlo hb.size)) (fun e => by have := hp k e; omega)).trans (hb.block k hk)⟩
theorem Fr.owns {P : Nat → Prop} {w w' : World} (h : Fr P w w') {lo : Nat} {e : TypeId} {size : Nat} {v : Value} {n : Nat} {xs : List Value} (ho : w.ownsRow lo e size v n xs) (hp : ∀ g, v.ownBlock = some g → ¬ P g) : w'.ownsRow lo e size v n xs := by
  refine ⟨ho.1, ho.2.imp id ?_⟩
  rintro ⟨g, cap, cur, hv, hlo, hgg, hn, hm, hs, ht⟩
  refine ⟨g, cap, cur, hv, hlo, ?_, hn, hm, hs, ht⟩
  have hlt : g < w.heap.size := (Array.getElem?_eq_some_iff.1 hgg).1
  exact (h.block g hlt (hp g (by rw [hv]; rfl))).trans hgg
theorem sc_same {w : World} {a : Addr} {v u : Value} (h : w.cell? a = some u) : (w.setCell a v).cell? a = some v := World.cell?_setCell_same (w := w) (a := a) (v := v) h
theorem sc_other {w : World} {a b : Addr} {v : Value} (h : a ≠ b) : (w.setCell a v).cell? b = w.cell? b := World.cell?_setCell_other (w := w) (a := a) (b := b) (v := v) h
/-! pairs, as they come -/
def nxP (q : Nat × Nat) : Nat × Nat := if q.1 + 1 < q.2 then (q.1 + 1, q.2) else (0, q.2 + 1)
def pq : Nat → Nat × Nat
  | 0 => (0, 1)
  | j + 1 => nxP (pq j)
def tri : Nat → Nat
  | 0 => 0
  | k + 1 => tri k + k
theorem pq_tri : ∀ k i, i < k → pq (tri k + i) = (i, k)
  | 0, i, h => by omega
  | 1, i, h => by
    obtain rfl : i = 0 := by omega
    rfl
  | k + 2, 0, _ => by
    have := pq_tri (k + 1) k (by omega)
    show pq (tri (k + 1) + (k + 1)) = (0, k + 2)
    rw [show tri (k + 1) + (k + 1) = (tri (k + 1) + k) + 1 by omega]
    show nxP (pq (tri (k + 1) + k)) = _
    rw [this]
    unfold nxP
    rw [if_neg (by simp)]
  | k + 2, i + 1, h => by
    have := pq_tri (k + 2) i (by omega)
    rw [show tri (k + 2) + (i + 1) = (tri (k + 2) + i) + 1 by omega]
    show nxP (pq (tri (k + 2) + i)) = _
    rw [this]
    unfold nxP
    rw [if_pos (by simpa using h)]
theorem tri_mono {a b : Nat} (h : a ≤ b) : tri a ≤ tri b := by
  induction b with
  | zero => obtain rfl : a = 0 := by omega
            exact Nat.le_refl _
  | succ b ih =>
    rcases Nat.lt_or_ge a (b + 1) with h' | h'
    · have := ih (by omega); show tri a ≤ tri b + b; omega
    · obtain rfl : a = b + 1 := by omega
      exact Nat.le_refl _
theorem tri_at : ∀ (m j : Nat), j < tri m → ∃ k i, k < m ∧ i < k ∧ j = tri k + i
  | 0, j, h => absurd h (Nat.not_lt_zero _)
  | m + 1, j, h => by
    rcases Nat.lt_or_ge j (tri m) with h' | h'
    · obtain ⟨k, i, h1, h2, h3⟩ := tri_at m j h'
      exact ⟨k, i, by omega, h2, h3⟩
    · have h : j < tri m + m := h
      exact ⟨m, j - tri m, by omega, by omega, by omega⟩
theorem pq_lt {m j : Nat} (h : j < tri m) : (pq j).1 < (pq j).2 ∧ (pq j).2 < m := by
  obtain ⟨k, i, h1, h2, rfl⟩ := tri_at m j h
  rw [pq_tri k i h2]
  exact ⟨h2, h1⟩
structure Pr where
  t1 : T
  t2 : T
  i : Nat
  k : Nat
def prQ (kf : Nat → T) (j : Nat) : Pr := ⟨sprT (kf (pq j).1) (M.both (kf (pq j).1).m (kf (pq j).2).m), sprT (kf (pq j).2) (M.both (kf (pq j).1).m (kf (pq j).2).m), (pq j).1, (pq j).2⟩
theorem prQ_congr {kf kf' : Nat → T} {m j : Nat} (h : ∀ i, i < m → kf i = kf' i) (hj : j < tri m) : prQ kf j = prQ kf' j := by
  obtain ⟨h1, h2⟩ := pq_lt hj
  unfold prQ
  rw [h _ (Nat.lt_trans h1 h2), h _ h2]
abbrev vi (z : Int) : Value := .int .i64 z
abbrev prCells (p : Pr) (nx : Option Addr) : Array Value := #[vi p.t1.c, vi p.t1.m.x, vi p.t1.m.y, vi p.t1.m.d, vi p.t1.m.e, vi p.t2.c, vi p.t2.m.x, vi p.t2.m.y, vi p.t2.m.d, vi p.t2.m.e, vi (p.i : Int), vi (p.k : Int), .pointer nx]
structure PrAt (w : World) (b : Nat) (p : Pr) (nx : Option Addr) : Prop where
  a0 : w.cell? ⟨b, 0, none⟩ = some (.int .i64 p.t1.c)
  a1 : w.cell? ⟨b, 1, none⟩ = some (.int .i64 p.t1.m.x)
  a2 : w.cell? ⟨b, 2, none⟩ = some (.int .i64 p.t1.m.y)
  a3 : w.cell? ⟨b, 3, none⟩ = some (.int .i64 p.t1.m.d)
  a4 : w.cell? ⟨b, 4, none⟩ = some (.int .i64 p.t1.m.e)
  b0 : w.cell? ⟨b, 5, none⟩ = some (.int .i64 p.t2.c)
  b1 : w.cell? ⟨b, 6, none⟩ = some (.int .i64 p.t2.m.x)
  b2 : w.cell? ⟨b, 7, none⟩ = some (.int .i64 p.t2.m.y)
  b3 : w.cell? ⟨b, 8, none⟩ = some (.int .i64 p.t2.m.d)
  b4 : w.cell? ⟨b, 9, none⟩ = some (.int .i64 p.t2.m.e)
  ci : w.cell? ⟨b, 10, none⟩ = some (.int .i64 (p.i : Int))
  ck : w.cell? ⟨b, 11, none⟩ = some (.int .i64 (p.k : Int))
  nx : w.cell? ⟨b, 12, none⟩ = some (.pointer nx)
  fz : w.frozen? ⟨b, 12, none⟩ = false
theorem PrAt.lt {w : World} {b : Nat} {p : Pr} {nx : Option Addr} (h : PrAt w b p nx) : b < w.heap.size := World.block_lt_of_cell? w _ h.a0
theorem PrAt.fr {P : Nat → Prop} {w w' : World} {b : Nat} {p : Pr} {nx : Option Addr} (h : PrAt w b p nx) (hf : Fr P w w') (hp : ¬ P b) : PrAt w' b p nx :=
  have hl := h.lt
  ⟨(hf.cell hl hp).trans h.a0, (hf.cell hl hp).trans h.a1, (hf.cell hl hp).trans h.a2, (hf.cell hl hp).trans h.a3, (hf.cell hl hp).trans h.a4, (hf.cell hl hp).trans h.b0, (hf.cell hl hp).trans h.b1, (hf.cell hl hp).trans h.b2, (hf.cell hl hp).trans h.b3, (hf.cell hl hp).trans h.b4, (hf.cell hl hp).trans h.ci, (hf.cell hl hp).trans h.ck, (hf.cell hl hp).trans h.nx, (hf.frozen hl hp).trans h.fz⟩
theorem PrAt.below {w w' : World} {b : Nat} {p : Pr} {nx : Option Addr} (h : PrAt w b p nx) (hb : Below w.heap.size w w') : PrAt w' b p nx := h.fr (P := fun _ => False) (Fr.of_below hb) id
theorem PrAt.box (w : World) (y : TypeId) (p : Pr) (nx : Option Addr) : PrAt (w.alloc (.cells (prCells p nx) y)) w.heap.size p nx := by
  constructor <;> first | (rw [World.cell?_alloc_at _ _ _ _ rfl]; rfl) | (simp [go_sem])
theorem ne12 {b j : Nat} (h : j ≠ 12) : (⟨b, 12, none⟩ : Addr) ≠ ⟨b, j, none⟩ := fun e => h (by injection e with _ e2; exact e2.symm)
/-- another one stands behind it. -/
theorem PrAt.link {w : World} {b : Nat} {p : Pr} {nx : Option Addr} (h : PrAt w b p nx) (nx' : Option Addr) : PrAt (w.setCell ⟨b, 12, none⟩ (.pointer nx')) b p nx' where
  a0 := (sc_other (ne12 (by omega))).trans h.a0
  a1 := (sc_other (ne12 (by omega))).trans h.a1
  a2 := (sc_other (ne12 (by omega))).trans h.a2
  a3 := (sc_other (ne12 (by omega))).trans h.a3
  a4 := (sc_other (ne12 (by omega))).trans h.a4
  b0 := (sc_other (ne12 (by omega))).trans h.b0
  b1 := (sc_other (ne12 (by omega))).trans h.b1
  b2 := (sc_other (ne12 (by omega))).trans h.b2
  b3 := (sc_other (ne12 (by omega))).trans h.b3
  b4 := (sc_other (ne12 (by omega))).trans h.b4
  ci := (sc_other (ne12 (by omega))).trans h.ci
  ck := (sc_other (ne12 (by omega))).trans h.ck
  nx := sc_same h.nx
  fz := by rw [World.frozen?_setCell]; exact h.fz
def qF (B : Nat → Nat) (a e : Nat) : Option Addr := if a < e then some ⟨B a, 0, none⟩ else none
/-- the queue at ⟨Q, z⟩: the greatest terms that came, the pairs a .. e - 1. -/
structure Que (w : World) (lo Q z : Nat) (lv : Value) (m : Nat) (kf : Nat → T) (B : Nat → Nat) (a e : Nat) : Prop where
  cl : w.cell? ⟨Q, z, none⟩ = some lv
  cf : w.cell? ⟨Q, z + 1, none⟩ = some (.pointer (qF B a e))
  ct : ∃ v, w.cell? ⟨Q, z + 2, none⟩ = some v ∧ (a < e → v = .pointer (some ⟨B (e - 1), 0, none⟩))
  fz : w.frozen? ⟨Q, z, none⟩ = false ∧ w.frozen? ⟨Q, z + 1, none⟩ = false ∧ w.frozen? ⟨Q, z + 2, none⟩ = false
  own : w.ownsRow lo 59 5 lv ((List.range m).map kf).length (cellsL ((List.range m).map kf))
  ap : ∀ g, lv.ownBlock = some g → g ≠ Q
  pr : ∀ j, a ≤ j → j < e → PrAt w (B j) (prQ kf j) (if j + 1 < e then some ⟨B (j + 1), 0, none⟩ else none)
  bk : ∀ j, a ≤ j → j < e → lo ≤ B j ∧ B j ≠ Q ∧ lv.ownBlock ≠ some (B j)
  inj : ∀ i j, a ≤ i → i < j → j < e → B i ≠ B j
  hQ : lo ≤ Q
/-- the memory that may turn where one more comes. -/
def QS (Q : Nat) (lv : Value) (B : Nat → Nat) (a e k : Nat) : Prop := k = Q ∨ lv.ownBlock = some k ∨ (a < e ∧ k = B (e - 1))
theorem Que.lt {w : World} {lo Q z : Nat} {lv : Value} {m : Nat} {kf : Nat → T} {B : Nat → Nat} {a e : Nat} (h : Que w lo Q z lv m kf B a e) : Q < w.heap.size := World.block_lt_of_cell? w _ h.cl
theorem Que.fr {P : Nat → Prop} {w w' : World} {lo Q z : Nat} {lv : Value} {m : Nat} {kf : Nat → T} {B : Nat → Nat} {a e : Nat} (h : Que w lo Q z lv m kf B a e) (hf : Fr P w w') (h1 : ¬ P Q) (h2 : ∀ g, lv.ownBlock = some g → ¬ P g) (h3 : ∀ j, a ≤ j → j < e → ¬ P (B j)) : Que w' lo Q z lv m kf B a e where
  cl := (hf.cell h.lt h1).trans h.cl
  cf := (hf.cell h.lt h1).trans h.cf
  ct := h.ct.imp fun v ⟨c1, c2⟩ => ⟨(hf.cell h.lt h1).trans c1, c2⟩
  fz := ⟨(hf.frozen h.lt h1).trans h.fz.1, (hf.frozen h.lt h1).trans h.fz.2.1, (hf.frozen h.lt h1).trans h.fz.2.2⟩
  own := hf.owns h.own h2
  ap := h.ap
  pr := fun j i1 i2 => (h.pr j i1 i2).fr hf (h3 j i1 i2)
  bk := h.bk
  inj := h.inj
  hQ := h.hQ
theorem Que.below {w w' : World} {lo Q z : Nat} {lv : Value} {m : Nat} {kf : Nat → T} {B : Nat → Nat} {a e : Nat} (h : Que w lo Q z lv m kf B a e) (hb : Below w.heap.size w w') : Que w' lo Q z lv m kf B a e := h.fr (P := fun _ => False) (Fr.of_below hb) id (fun _ _ => id) (fun _ _ _ => id)
theorem neQ {Q z z' : Nat} (h : z ≠ z') : (⟨Q, z, none⟩ : Addr) ≠ ⟨Q, z', none⟩ := fun e => h (by injection e)
def updB (B : Nat → Nat) (e b j : Nat) : Nat := if j = e then b else B j
theorem qF_same {B B' : Nat → Nat} {a e e' : Nat} (h : a < e) (h' : a < e') (hB : B a = B' a) : qF B a e = qF B' a e' := by unfold qF; rw [if_pos h, if_pos h', hB]
/-- a pair behind all others. -/
theorem Que.push {w : World} {lo Q z : Nat} {lv : Value} {m : Nat} {kf : Nat → T} {B : Nat → Nat} {a e : Nat} (h : Que w lo Q z lv m kf B a e) (hae : a ≤ e) {b : Nat} (hb : PrAt w b (prQ kf e) none) (hlo : lo ≤ b) (hbQ : b ≠ Q) (hbl : lv.ownBlock ≠ some b) (hbB : ∀ j, a ≤ j → j < e → B j ≠ b) :
    Que (if a < e then (w.setCell ⟨B (e - 1), 12, none⟩ (.pointer (some ⟨b, 0, none⟩))).setCell ⟨Q, z + 2, none⟩ (.pointer (some ⟨b, 0, none⟩)) else (w.setCell ⟨Q, z + 1, none⟩ (.pointer (some ⟨b, 0, none⟩))).setCell ⟨Q, z + 2, none⟩ (.pointer (some ⟨b, 0, none⟩))) lo Q z lv m kf (updB B e b) a (e + 1) := by
  have hub : ∀ j, j < e → updB B e b j = B j := fun j hj => if_neg (by omega)
  have hue : updB B e b e = b := if_pos rfl
  obtain ⟨tv, ht, _⟩ := h.ct
  by_cases hlt : a < e
  · rw [if_pos hlt]
    have hl := h.bk (e - 1) (by omega) (by omega)
    have f1 : Fr (fun k => k = B (e - 1)) w (w.setCell ⟨B (e - 1), 12, none⟩ (.pointer (some ⟨b, 0, none⟩))) := (Fr.refl _ w).set (fun _ => rfl)
    have c1 : (w.setCell ⟨B (e - 1), 12, none⟩ (.pointer (some ⟨b, 0, none⟩))).cell? ⟨Q, z + 2, none⟩ = some tv := (f1.cell h.lt (fun q => hl.2.1 q.symm)).trans ht
    generalize hw1 : w.setCell ⟨B (e - 1), 12, none⟩ (.pointer (some ⟨b, 0, none⟩)) = w1 at f1 c1
    have hlnk : PrAt w1 (B (e - 1)) (prQ kf (e - 1)) (some ⟨b, 0, none⟩) := by rw [← hw1]; exact (h.pr (e - 1) (by omega) (by omega)).link _
    have f2 : Fr (fun k => k = Q) w1 (w1.setCell ⟨Q, z + 2, none⟩ (.pointer (some ⟨b, 0, none⟩))) := (Fr.refl _ w1).set (fun _ => rfl)
    have hlt1 : Q < w1.heap.size := Nat.lt_of_lt_of_le h.lt f1.size
    refine ⟨?_, ?_, ⟨_, sc_same c1, fun _ => by rw [show e + 1 - 1 = e by omega, hue]⟩, ?_, ?_, h.ap, ?_, ?_, ?_, h.hQ⟩
    · rw [sc_other (neQ (by omega))]; exact (f1.cell h.lt (fun q => hl.2.1 q.symm)).trans h.cl
    · rw [sc_other (neQ (by omega)), (f1.cell h.lt (fun q => hl.2.1 q.symm)).trans h.cf, qF_same (B' := updB B e b) (e' := e + 1) hlt (by omega) (hub a hlt).symm]
    · simp only [World.frozen?_setCell]
      exact ⟨(f1.frozen h.lt (fun q => hl.2.1 q.symm)).trans h.fz.1, (f1.frozen h.lt (fun q => hl.2.1 q.symm)).trans h.fz.2.1, (f1.frozen h.lt (fun q => hl.2.1 q.symm)).trans h.fz.2.2⟩
    · exact f2.owns (f1.owns h.own (fun g hg q => hl.2.2 (by rw [hg, q]))) (fun g hg q => h.ap g hg q)
    · intro j j1 j2
      by_cases e1 : j = e
      · subst e1
        rw [hue, if_neg (by omega)]
        exact (hb.fr f1 (fun q => hbB (j - 1) (by omega) (by omega) q.symm)).fr f2 hbQ
      · rw [hub j (by omega), if_pos (by omega)]
        by_cases e2 : j = e - 1
        · have e3 : j + 1 = e := by omega
          rw [e3, hue, e2]
          exact hlnk.fr f2 hl.2.1
        · rw [hub (j + 1) (by omega)]
          have := h.pr j j1 (by omega)
          rw [if_pos (by omega)] at this
          exact (this.fr f1 (h.inj j (e - 1) j1 (by omega) (by omega))).fr f2 (h.bk j j1 (by omega)).2.1
    · intro j j1 j2
      by_cases e1 : j = e
      · subst e1; rw [hue]; exact ⟨hlo, hbQ, hbl⟩
      · rw [hub j (by omega)]; exact h.bk j j1 (by omega)
    · intro i j i1 i2 i3
      rw [hub i (by omega)]
      by_cases e1 : j = e
      · subst e1; rw [hue]; exact hbB i i1 (by omega)
      · rw [hub j (by omega)]; exact h.inj i j i1 i2 (by omega)
  · rw [if_neg hlt]
    have hea : a = e := by omega
    subst hea
    have f1 : Fr (fun k => k = Q) w (w.setCell ⟨Q, z + 1, none⟩ (.pointer (some ⟨b, 0, none⟩))) := (Fr.refl _ w).set (fun _ => rfl)
    have f2 : Fr (fun k => k = Q) w ((w.setCell ⟨Q, z + 1, none⟩ (.pointer (some ⟨b, 0, none⟩))).setCell ⟨Q, z + 2, none⟩ (.pointer (some ⟨b, 0, none⟩))) := f1.set (fun _ => rfl)
    have c1 : (w.setCell ⟨Q, z + 1, none⟩ (.pointer (some ⟨b, 0, none⟩))).cell? ⟨Q, z + 2, none⟩ = some tv := (sc_other (neQ (by omega))).trans ht
    refine ⟨?_, ?_, ⟨_, sc_same c1, fun _ => by rw [show a + 1 - 1 = a by omega, hue]⟩, ?_, ?_, h.ap, ?_, ?_, ?_, h.hQ⟩
    · rw [sc_other (neQ (by omega)), sc_other (neQ (by omega))]; exact h.cl
    · rw [sc_other (neQ (by omega)), sc_same h.cf]
      unfold qF
      rw [if_pos (by omega), hue]
    · simp only [World.frozen?_setCell]; exact h.fz
    · exact f2.owns h.own (fun g hg q => h.ap g hg q)
    · intro j j1 j2
      obtain rfl : j = a := by omega
      rw [hue, if_neg (by omega)]
      exact hb.fr f2 hbQ
    · intro j j1 j2
      obtain rfl : j = a := by omega
      rw [hue]; exact ⟨hlo, hbQ, hbl⟩
    · intro i j i1 i2 i3; omega
/-- the first pair is taken away. -/
theorem Que.pop {w : World} {lo Q z : Nat} {lv : Value} {m : Nat} {kf : Nat → T} {B : Nat → Nat} {a e : Nat} (h : Que w lo Q z lv m kf B a e) (hlt : a < e) : Que (w.setCell ⟨Q, z + 1, none⟩ (.pointer (qF B (a + 1) e))) lo Q z lv m kf B (a + 1) e ∧ PrAt (w.setCell ⟨Q, z + 1, none⟩ (.pointer (qF B (a + 1) e))) (B a) (prQ kf a) (qF B (a + 1) e) := by
  have f1 : Fr (fun k => k = Q) w (w.setCell ⟨Q, z + 1, none⟩ (.pointer (qF B (a + 1) e))) := (Fr.refl _ w).set (fun _ => rfl)
  obtain ⟨tv, ht, ht2⟩ := h.ct
  refine ⟨⟨?_, sc_same h.cf, ⟨tv, (sc_other (neQ (by omega))).trans ht, fun q => ht2 hlt⟩, by simp only [World.frozen?_setCell]; exact h.fz, f1.owns h.own (fun g hg q => h.ap g hg q), h.ap, fun j j1 j2 => (h.pr j (by omega) j2).fr f1 (h.bk j (by omega) j2).2.1, fun j j1 j2 => h.bk j (by omega) j2, fun i j i1 i2 i3 => h.inj i j (by omega) i2 i3, h.hQ⟩, ?_⟩
  · rw [sc_other (neQ (by omega))]; exact h.cl
  · exact (h.pr a (Nat.le_refl _) hlt).fr f1 (h.bk a (Nat.le_refl _) hlt).2.1
set_option maxRecDepth 100000 in
set_option maxHeartbeats 4000000 in
theorem pushI (w : World) (lo Q z : Nat) (lv : Value) (m : Nat) (kf : Nat → T) (B : Nat → Nat) (a e : Nat) (h : Que w lo Q z lv m kf B a e) (hae : a ≤ e) (b : Nat) (hb : PrAt w b (prQ kf e) none) (hlo : lo ≤ b) (hbQ : b ≠ Q) (hbl : lv.ownBlock ≠ some b) (hbB : ∀ j, a ≤ j → j < e → B j ≠ b) :
    Calls Tryz.prog 71 #[.pointer (some ⟨Q, z, none⟩), .pointer (some ⟨b, 0, none⟩)] w fun r w' => r = .returned (.tuple #[]) ∧ Que w' lo Q z lv m kf (updB B e b) a (e + 1) ∧ Fr (fun k => k = Q ∨ (a < e ∧ k = B (e - 1))) w w' := by
  have HP := Hid.mk' (h.push hae hb hlo hbQ hbl hbB)
  obtain ⟨tv, ht, ht2⟩ := h.ct
  have c0 := h.cf
  have z1 := h.fz.2.1
  have z2 := h.fz.2.2
  by_cases hlt : a < e
  · obtain rfl := ht2 hlt
    have e0 : qF B a e = some ⟨B a, 0, none⟩ := if_pos hlt
    rw [e0] at c0
    have hp := h.pr (e - 1) (by omega) (by omega)
    have k1 := hp.nx
    have k2 := hp.fz
    have hne : B (e - 1) ≠ Q := (h.bk (e - 1) (by omega) (by omega)).2.1
    have HQ := HP.out
    rw [if_pos hlt] at HQ
    have HF : Hid (Fr (fun k => k = Q ∨ (a < e ∧ k = B (e - 1))) w ((w.setCell ⟨B (e - 1), 12, none⟩ (.pointer (some ⟨b, 0, none⟩))).setCell ⟨Q, z + 2, none⟩ (.pointer (some ⟨b, 0, none⟩)))) := ((Fr.refl _ w).set (fun _ => .inr ⟨hlt, rfl⟩)).set (fun _ => .inl rfl)
    have HQ2 := Hid.mk' HQ
    obtain ⟨L, hL⟩ : ∃ L, B (e - 1) = L := ⟨_, rfl⟩
    rw [hL] at ht k1 k2 hne
    have HL := Hid.mk' hL
    clear h hp HQ ht2 e0 HP hb hL hbB
    go_enter Tryz.func71, Tryz.ntmps71
    go_wp2
    go_end0
    refine ⟨rfl, ?_⟩
    have h1 := HQ2.out
    have h2 := HF.out
    rw [HL.out] at h1
    rw [← HL.out] at h1 ⊢
    exact ⟨h1, h2⟩
  · have e0 : qF B a e = none := if_neg hlt
    rw [e0] at c0
    have HQ := HP.out
    rw [if_neg hlt] at HQ
    have HF : Hid (Fr (fun k => k = Q ∨ (a < e ∧ k = B (e - 1))) w ((w.setCell ⟨Q, z + 1, none⟩ (.pointer (some ⟨b, 0, none⟩))).setCell ⟨Q, z + 2, none⟩ (.pointer (some ⟨b, 0, none⟩)))) := ((Fr.refl _ w).set (fun _ => .inl rfl)).set (fun _ => .inl rfl)
    have HQ2 := Hid.mk' HQ
    clear h HQ ht2 e0 HP hb hbB
    go_enter Tryz.func71, Tryz.ntmps71
    go_wp2
    go_end0
    exact ⟨rfl, HQ2.out, HF.out⟩
set_option maxRecDepth 100000 in
set_option maxHeartbeats 4000000 in
theorem popI (w : World) (lo Q z : Nat) (lv : Value) (m : Nat) (kf : Nat → T) (B : Nat → Nat) (a e : Nat) (h : Que w lo Q z lv m kf B a e) (hlt : a < e) :
    Calls Tryz.prog 36 #[.pointer (some ⟨Q, z, none⟩)] w fun r w' => r = .returned (.pointer (some ⟨B a, 0, none⟩)) ∧ Que w' lo Q z lv m kf B (a + 1) e ∧ PrAt w' (B a) (prQ kf a) (qF B (a + 1) e) ∧ Fr (fun k => k = Q) w w' := by
  have HP := Hid.mk' (h.pop hlt)
  have c0 := h.cf
  have z1 := h.fz.2.1
  have e0 : qF B a e = some ⟨B a, 0, none⟩ := if_pos hlt
  rw [e0] at c0
  have hp := h.pr a (Nat.le_refl _) hlt
  have k1 := hp.nx
  have k2 : (if a + 1 < e then some (⟨B (a + 1), 0, none⟩ : Addr) else none) = qF B (a + 1) e := rfl
  rw [k2] at k1
  have hne : B a ≠ Q := (h.bk a (Nat.le_refl _) hlt).2.1
  have HF : Hid (Fr (fun k => k = Q) w (w.setCell ⟨Q, z + 1, none⟩ (.pointer (qF B (a + 1) e)))) := (Fr.refl _ w).set (fun _ => rfl)
  clear h hp e0 k2
  go_enter Tryz.func36, Tryz.ntmps36
  go_wp2
  go_ret
  exact ⟨rfl, HP.out.1, HP.out.2, HF.out⟩
set_option maxRecDepth 100000 in
set_option maxHeartbeats 4000000 in
theorem popI_none (w : World) (lo Q z : Nat) (lv : Value) (m : Nat) (kf : Nat → T) (B : Nat → Nat) (a e : Nat) (h : Que w lo Q z lv m kf B a e) (hlt : ¬ a < e) :
    Calls Tryz.prog 36 #[.pointer (some ⟨Q, z, none⟩)] w fun r w' => r = .returned (.pointer none) ∧ w' = w := by
  have c0 := h.cf
  have e0 : qF B a e = none := if_neg hlt
  rw [e0] at c0
  clear h e0
  go_enter Tryz.func36, Tryz.ntmps36
  go_wp2
  go_ret
  exact ⟨rfl, rfl⟩
end Go.Proofs.YtehlfifplhnceaaGreat
