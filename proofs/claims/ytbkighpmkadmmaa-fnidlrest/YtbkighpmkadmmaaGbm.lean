/-
  Whether operators are a basis: pair by pair; the model's GrbOk.
  The pairs that are to be looked at: a queue of pointers; one is put behind all, one is taken away.
  A basis on its way, as lists: rows of proofs, a pair looked at, the run.
-/
import Derived.Test.YtbkighpmkadmmaaGbd
import Derived.Test.YtbkighpmkadmmaaGbe
import Derived.Test.YtbkighpmkadmmaaGbk
import Derived.Test.YtbkighpmkadmmaaGbl
import Derived.Test.YtbkighpmkadmmaaGbf
import Derived.Deep.RegionHeld3
namespace Go.Proofs.Ytbkighpmkadmmaa
open Go.RowKit Go.Deep Go.Joins
set_option linter.unusedVariables false

/-- what is left of a pair: 0: too much; 1: something; 2: nothing. -/
def prK (o : Int) (n : Nat) (L : Nat → List T) (i k : Nat) : Nat :=
  match sprPoly o (lf (L i)) (L i).length (lf (L k)) (L k).length with
  | (s, true) => (match redAll o s n (lN L) (fN L) with
    | some S => if S.r.length = 0 then 2 else 1
    | none => 0)
  | (_, false) => 0
def grbOk (o : Int) (n : Nat) (L : Nat → List T) : Bool := decide ((1 ≤ o ∧ o ≤ 3) ∧ lstOk n (lN L) (fN L) = true ∧ ∀ k, k < n → ∀ i, i < k → prK o n L i k = 2)
theorem prK_no {o : Int} {n : Nat} {L : Nat → List T} {i k : Nat} {s : List T} (h : sprPoly o (lf (L i)) (L i).length (lf (L k)) (L k).length = (s, false)) : prK o n L i k = 0 := by unfold prK; rw [h]
theorem prK_none {o : Int} {n : Nat} {L : Nat → List T} {i k : Nat} {s : List T} (h : sprPoly o (lf (L i)) (L i).length (lf (L k)) (L k).length = (s, true)) (hr : redAll o s n (lN L) (fN L) = none) : prK o n L i k = 0 := by unfold prK; rw [h]; simp only [hr]
theorem prK_some {o : Int} {n : Nat} {L : Nat → List T} {i k : Nat} {s : List T} {S : Dv} (h : sprPoly o (lf (L i)) (L i).length (lf (L k)) (L k).length = (s, true)) (hr : redAll o s n (lN L) (fN L) = some S) : prK o n L i k = if S.r.length = 0 then 2 else 1 := by unfold prK; rw [h]; simp only [hr]
theorem redAll_is {o : Int} {p : List T} {n : Nat} {L : Nat → List T} (ho : 1 ≤ o ∧ o ≤ 3) (hp : okL p = true) (hl : lstOk n (lN L) (fN L) = true) : redAll o p n (lN L) (fN L) = dvRun o n (lN L) (fN L) 300 (dvOf p) := if_pos ⟨ho, hp, hl⟩
theorem grbOk_bad {o : Int} {n : Nat} {L : Nat → List T} {i k : Nat} (hk : k < n) (hi : i < k) (h : prK o n L i k ≠ 2) : grbOk o n L = false := decide_eq_false (fun hh => h (hh.2.2 k hk i hi))
theorem sprS_L2 {w : World} (o : Int) {a b : Option Addr} {ca cb : Nat} {A B : List T} (ha : RL w a ca A) (hb : RL w b cb B) : Calls Try.prog 107 #[.int .i64 o, .slice a A.length ca, .slice b B.length cb] w (Two2 w (sprPoly o (lf A) A.length (lf B) B.length)) :=
  (sprPolyS w o a b A.length ca B.length cb (lf A) (lf B) ha hb).mono fun _ _ h => two_owns (sprPoly_len _ _ _ _ _) h
abbrev C2g (p1 o1 p2 o2 : Nat) (v1 v2 : Value) (u : World) : Prop := u.cell? ⟨p1, o1, none⟩ = some v1 ∧ u.cell? ⟨p2, o2, none⟩ = some v2
theorem C2g.below {p1 o1 p2 o2 : Nat} {v1 v2 : Value} {u u' : World} (h : C2g p1 o1 p2 o2 v1 v2 u) (hb : Below u.heap.size u u') : C2g p1 o1 p2 o2 v1 v2 u' :=
  ⟨(hb.cell (p := ⟨p1, o1, none⟩) (World.block_lt_of_cell? u _ h.1)).trans h.1, (hb.cell (p := ⟨p2, o2, none⟩) (World.block_lt_of_cell? u _ h.2)).trans h.2⟩
end Go.Proofs.Ytbkighpmkadmmaa
namespace Go.Proofs.Ytbkighpmkadmmaa
open Go.RowKit Go.Deep Go.Joins
set_option linter.unusedVariables false

/-! which memory has turned -/
structure Fr (P : Nat → Prop) (w w' : World) : Prop where
  os : w'.os = w.os
  tape : w'.tape = w.tape
  output : w'.output = w.output
  size : w.heap.size ≤ w'.heap.size
  block : ∀ k, k < w.heap.size → ¬ P k → w'.heap[k]? = w.heap[k]?
theorem Fr.refl (P : Nat → Prop) (w : World) : Fr P w w := ⟨rfl, rfl, rfl, Nat.le_refl _, fun _ _ _ => rfl⟩
theorem Fr.trans {P : Nat → Prop} {a b c : World} (h : Fr P a b) (k : Fr P b c) : Fr P a c :=
  ⟨k.os.trans h.os, k.tape.trans h.tape, k.output.trans h.output, Nat.le_trans h.size k.size, fun i hi hn => (k.block i (Nat.lt_of_lt_of_le hi h.size) hn).trans (h.block i hi hn)⟩
theorem Fr.mono {P P' : Nat → Prop} {w w' : World} (h : Fr P w w') (hp : ∀ k, k < w.heap.size → P k → P' k) : Fr P' w w' := ⟨h.os, h.tape, h.output, h.size, fun k hk hn => h.block k hk (fun e => hn (hp k hk e))⟩
theorem Fr.of_below {P : Nat → Prop} {w w' : World} (h : Below w.heap.size w w') : Fr P w w' := ⟨h.os, h.tape, h.output, h.size, fun k hk _ => h.block k hk⟩
theorem Fr.next {P : Nat → Prop} {a b c : World} (h : Fr P a b) (k : Below b.heap.size b c) : Fr P a c := h.trans (Fr.of_below k)
theorem Fr.set {P : Nat → Prop} {w w' : World} (h : Fr P w w') {b o : Nat} {v : Value} (hb : b < w.heap.size → P b) : Fr P w (w'.setCell ⟨b, o, none⟩ v) :=
  ⟨h.os, h.tape, h.output, by simpa [World.setCell] using h.size, fun k hk hn => (Below.heap_setCell _ _ _ _ (by show k ≠ b; intro e; subst e; exact hn (hb hk))).trans (h.block k hk hn)⟩
theorem Fr.grown {P : Nat → Prop} {w w' w'' : World} {row : Option Nat} (h : Fr P w w') (hg : w'.grownBy w'' row) (hr : ∀ g, row = some g → g < w.heap.size → P g) : Fr P w w'' :=
  ⟨hg.os.trans h.os, hg.tape.trans h.tape, hg.output.trans h.output, Nat.le_trans h.size hg.size, fun k hk hn => (hg.block k (Nat.lt_of_lt_of_le hk h.size) (fun e => hn (hr k e.symm hk))).trans (h.block k hk hn)⟩
theorem Fr.cell {P : Nat → Prop} {w w' : World} (h : Fr P w w') {b o : Nat} (hb : b < w.heap.size) (hp : ¬ P b) : w'.cell? ⟨b, o, none⟩ = w.cell? ⟨b, o, none⟩ :=
  World.cell?_of_block (w := w) (a := ⟨b, o, none⟩) (h.block b hb hp)
theorem Fr.frozen {P : Nat → Prop} {w w' : World} (h : Fr P w w') {b o : Nat} (hb : b < w.heap.size) (hp : ¬ P b) : w'.frozen? ⟨b, o, none⟩ = w.frozen? ⟨b, o, none⟩ :=
  World.frozen?_of_block (w := w) (a := ⟨b, o, none⟩) (h.block b hb hp)
theorem Fr.rd {P : Nat → Prop} {w w' : World} (h : Fr P w w') {a : Option Addr} {n cap : Nat} {f : Nat → T} (hr : Rd w a n cap f) (hp : n = 0 ∨ ∀ b off, a = some ⟨b, off, none⟩ → ¬ P b) : Rd w' a n cap f := by
  obtain ⟨h1, h2, h3⟩ := hr
  refine ⟨h1, h2, ?_⟩
  rcases h3 with h0 | ⟨b, off, he, hlt, hc⟩
  · exact .inl h0
  · rcases hp with h0 | hp
    · exact .inl h0
    · refine .inr ⟨b, off, he, Nat.lt_of_lt_of_le hlt h.size, fun i hi => ?_⟩
      have hn := hp b off he
      obtain ⟨c0, c1, c2, c3, c4⟩ := hc i hi
      exact ⟨(h.cell hlt hn).trans c0, (h.cell hlt hn).trans c1, (h.cell hlt hn).trans c2, (h.cell hlt hn).trans c3, (h.cell hlt hn).trans c4⟩
theorem Fr.c5 {P : Nat → Prop} {w w' : World} (h : Fr P w w') {b : Nat} {t : T} (hc : C5 w b t) (hp : ¬ P b) : C5 w' b t := by
  have hlt := hc.lt
  obtain ⟨c0, c1, c2, c3, c4⟩ := hc
  exact ⟨(h.cell hlt hp).trans c0, (h.cell hlt hp).trans c1, (h.cell hlt hp).trans c2, (h.cell hlt hp).trans c3, (h.cell hlt hp).trans c4⟩
theorem Fr.below {P : Nat → Prop} {lo : Nat} {u w w' : World} (hb : Below lo u w) (h : Fr P w w') (hp : ∀ k, P k → lo ≤ k) (hlo : lo ≤ u.heap.size) : Below lo u w' :=
  ⟨h.os.trans hb.os, h.tape.trans hb.tape, h.output.trans hb.output, Nat.le_trans hb.size h.size, fun k hk => (h.block k (Nat.lt_of_lt_of_le hk (Nat.le_trans hlo hb.size)) (fun e => by have := hp k e; omega)).trans (hb.block k hk)⟩
theorem Fr.owns {P : Nat → Prop} {w w' : World} (h : Fr P w w') {lo : Nat} {e : TypeId} {size : Nat} {v : Value} {n : Nat} {xs : List Value} (ho : w.ownsRow lo e size v n xs) (hp : ∀ g, v.ownBlock = some g → ¬ P g) : w'.ownsRow lo e size v n xs := by
  refine ⟨ho.1, ho.2.imp id ?_⟩
  rintro ⟨g, cap, cur, hv, hlo, hgg, hn, hm, hs, ht⟩
  refine ⟨g, cap, cur, hv, hlo, ?_, hn, hm, hs, ht⟩
  have hlt : g < w.heap.size := (Array.getElem?_eq_some_iff.1 hgg).1
  exact (h.block g hlt (hp g (by rw [hv]; rfl))).trans hgg
theorem sc_same {w : World} {a : Addr} {v u : Value} (h : w.cell? a = some u) : (w.setCell a v).cell? a = some v := World.cell?_setCell_same (w := w) (a := a) (v := v) h
theorem sc_other {w : World} {a b : Addr} {v : Value} (h : a ≠ b) : (w.setCell a v).cell? b = w.cell? b := World.cell?_setCell_other (w := w) (a := a) (b := b) (v := v) h
/-! pairs, as they come -/
def nxP (q : Nat × Nat) : Nat × Nat := if q.1 + 1 < q.2 then (q.1 + 1, q.2) else (0, q.2 + 1)
def pq : Nat → Nat × Nat
  | 0 => (0, 1)
  | j + 1 => nxP (pq j)
def tri : Nat → Nat
  | 0 => 0
  | k + 1 => tri k + k
theorem pq_tri : ∀ k i, i < k → pq (tri k + i) = (i, k)
  | 0, i, h => by omega
  | 1, i, h => by
    obtain rfl : i = 0 := by omega
    rfl
  | k + 2, 0, _ => by
    have := pq_tri (k + 1) k (by omega)
    show pq (tri (k + 1) + (k + 1)) = (0, k + 2)
    rw [show tri (k + 1) + (k + 1) = (tri (k + 1) + k) + 1 by omega]
    show nxP (pq (tri (k + 1) + k)) = _
    rw [this]
    unfold nxP
    rw [if_neg (by simp)]
  | k + 2, i + 1, h => by
    have := pq_tri (k + 2) i (by omega)
    rw [show tri (k + 2) + (i + 1) = (tri (k + 2) + i) + 1 by omega]
    show nxP (pq (tri (k + 2) + i)) = _
    rw [this]
    unfold nxP
    rw [if_pos (by simpa using h)]
theorem tri_mono {a b : Nat} (h : a ≤ b) : tri a ≤ tri b := by
  induction b with
  | zero => obtain rfl : a = 0 := by omega
            exact Nat.le_refl _
  | succ b ih =>
    rcases Nat.lt_or_ge a (b + 1) with h' | h'
    · have := ih (by omega); show tri a ≤ tri b + b; omega
    · obtain rfl : a = b + 1 := by omega
      exact Nat.le_refl _
theorem tri_at : ∀ (m j : Nat), j < tri m → ∃ k i, k < m ∧ i < k ∧ j = tri k + i
  | 0, j, h => absurd h (Nat.not_lt_zero _)
  | m + 1, j, h => by
    rcases Nat.lt_or_ge j (tri m) with h' | h'
    · obtain ⟨k, i, h1, h2, h3⟩ := tri_at m j h'
      exact ⟨k, i, by omega, h2, h3⟩
    · have h : j < tri m + m := h
      exact ⟨m, j - tri m, by omega, by omega, by omega⟩
theorem pq_lt {m j : Nat} (h : j < tri m) : (pq j).1 < (pq j).2 ∧ (pq j).2 < m := by
  obtain ⟨k, i, h1, h2, rfl⟩ := tri_at m j h
  rw [pq_tri k i h2]
  exact ⟨h2, h1⟩
structure Pr where
  t1 : T
  t2 : T
  i : Nat
  k : Nat
def prQ (kf : Nat → T) (j : Nat) : Pr := ⟨sprT (kf (pq j).1) (M.both (kf (pq j).1).m (kf (pq j).2).m), sprT (kf (pq j).2) (M.both (kf (pq j).1).m (kf (pq j).2).m), (pq j).1, (pq j).2⟩
theorem prQ_congr {kf kf' : Nat → T} {m j : Nat} (h : ∀ i, i < m → kf i = kf' i) (hj : j < tri m) : prQ kf j = prQ kf' j := by
  obtain ⟨h1, h2⟩ := pq_lt hj
  unfold prQ
  rw [h _ (Nat.lt_trans h1 h2), h _ h2]
abbrev vi (z : Int) : Value := .int .i64 z
abbrev prCells (p : Pr) (nx : Option Addr) : Array Value := #[vi p.t1.c, vi p.t1.m.x, vi p.t1.m.y, vi p.t1.m.d, vi p.t1.m.e, vi p.t2.c, vi p.t2.m.x, vi p.t2.m.y, vi p.t2.m.d, vi p.t2.m.e, vi (p.i : Int), vi (p.k : Int), .pointer nx]
structure PrAt (w : World) (b : Nat) (p : Pr) (nx : Option Addr) : Prop where
  a0 : w.cell? ⟨b, 0, none⟩ = some (.int .i64 p.t1.c)
  a1 : w.cell? ⟨b, 1, none⟩ = some (.int .i64 p.t1.m.x)
  a2 : w.cell? ⟨b, 2, none⟩ = some (.int .i64 p.t1.m.y)
  a3 : w.cell? ⟨b, 3, none⟩ = some (.int .i64 p.t1.m.d)
  a4 : w.cell? ⟨b, 4, none⟩ = some (.int .i64 p.t1.m.e)
  b0 : w.cell? ⟨b, 5, none⟩ = some (.int .i64 p.t2.c)
  b1 : w.cell? ⟨b, 6, none⟩ = some (.int .i64 p.t2.m.x)
  b2 : w.cell? ⟨b, 7, none⟩ = some (.int .i64 p.t2.m.y)
  b3 : w.cell? ⟨b, 8, none⟩ = some (.int .i64 p.t2.m.d)
  b4 : w.cell? ⟨b, 9, none⟩ = some (.int .i64 p.t2.m.e)
  ci : w.cell? ⟨b, 10, none⟩ = some (.int .i64 (p.i : Int))
  ck : w.cell? ⟨b, 11, none⟩ = some (.int .i64 (p.k : Int))
  nx : w.cell? ⟨b, 12, none⟩ = some (.pointer nx)
  fz : w.frozen? ⟨b, 12, none⟩ = false
theorem PrAt.lt {w : World} {b : Nat} {p : Pr} {nx : Option Addr} (h : PrAt w b p nx) : b < w.heap.size := World.block_lt_of_cell? w _ h.a0
theorem PrAt.fr {P : Nat → Prop} {w w' : World} {b : Nat} {p : Pr} {nx : Option Addr} (h : PrAt w b p nx) (hf : Fr P w w') (hp : ¬ P b) : PrAt w' b p nx :=
  have hl := h.lt
  ⟨(hf.cell hl hp).trans h.a0, (hf.cell hl hp).trans h.a1, (hf.cell hl hp).trans h.a2, (hf.cell hl hp).trans h.a3, (hf.cell hl hp).trans h.a4, (hf.cell hl hp).trans h.b0, (hf.cell hl hp).trans h.b1, (hf.cell hl hp).trans h.b2, (hf.cell hl hp).trans h.b3, (hf.cell hl hp).trans h.b4, (hf.cell hl hp).trans h.ci, (hf.cell hl hp).trans h.ck, (hf.cell hl hp).trans h.nx, (hf.frozen hl hp).trans h.fz⟩
theorem PrAt.below {w w' : World} {b : Nat} {p : Pr} {nx : Option Addr} (h : PrAt w b p nx) (hb : Below w.heap.size w w') : PrAt w' b p nx := h.fr (P := fun _ => False) (Fr.of_below hb) id
theorem PrAt.box (w : World) (y : TypeId) (p : Pr) (nx : Option Addr) : PrAt (w.alloc (.cells (prCells p nx) y)) w.heap.size p nx := by
  constructor <;> first | (rw [World.cell?_alloc_at _ _ _ _ rfl]; rfl) | (simp [go_sem])
theorem ne12 {b j : Nat} (h : j ≠ 12) : (⟨b, 12, none⟩ : Addr) ≠ ⟨b, j, none⟩ := fun e => h (by injection e with _ e2; exact e2.symm)
/-- another one stands behind it. -/
theorem PrAt.link {w : World} {b : Nat} {p : Pr} {nx : Option Addr} (h : PrAt w b p nx) (nx' : Option Addr) : PrAt (w.setCell ⟨b, 12, none⟩ (.pointer nx')) b p nx' where
  a0 := (sc_other (ne12 (by omega))).trans h.a0
  a1 := (sc_other (ne12 (by omega))).trans h.a1
  a2 := (sc_other (ne12 (by omega))).trans h.a2
  a3 := (sc_other (ne12 (by omega))).trans h.a3
  a4 := (sc_other (ne12 (by omega))).trans h.a4
  b0 := (sc_other (ne12 (by omega))).trans h.b0
  b1 := (sc_other (ne12 (by omega))).trans h.b1
  b2 := (sc_other (ne12 (by omega))).trans h.b2
  b3 := (sc_other (ne12 (by omega))).trans h.b3
  b4 := (sc_other (ne12 (by omega))).trans h.b4
  ci := (sc_other (ne12 (by omega))).trans h.ci
  ck := (sc_other (ne12 (by omega))).trans h.ck
  nx := sc_same h.nx
  fz := by rw [World.frozen?_setCell]; exact h.fz
def qF (B : Nat → Nat) (a e : Nat) : Option Addr := if a < e then some ⟨B a, 0, none⟩ else none
/-- the queue at ⟨Q, z⟩: the greatest terms that came, the pairs a .. e - 1. -/
structure Que (w : World) (lo Q z : Nat) (lv : Value) (m : Nat) (kf : Nat → T) (B : Nat → Nat) (a e : Nat) : Prop where
  cl : w.cell? ⟨Q, z, none⟩ = some lv
  cf : w.cell? ⟨Q, z + 1, none⟩ = some (.pointer (qF B a e))
  ct : ∃ v, w.cell? ⟨Q, z + 2, none⟩ = some v ∧ (a < e → v = .pointer (some ⟨B (e - 1), 0, none⟩))
  fz : w.frozen? ⟨Q, z, none⟩ = false ∧ w.frozen? ⟨Q, z + 1, none⟩ = false ∧ w.frozen? ⟨Q, z + 2, none⟩ = false
  own : w.ownsRow lo 33 5 lv ((List.range m).map kf).length (cellsL ((List.range m).map kf))
  ap : ∀ g, lv.ownBlock = some g → g ≠ Q
  pr : ∀ j, a ≤ j → j < e → PrAt w (B j) (prQ kf j) (if j + 1 < e then some ⟨B (j + 1), 0, none⟩ else none)
  bk : ∀ j, a ≤ j → j < e → lo ≤ B j ∧ B j ≠ Q ∧ lv.ownBlock ≠ some (B j)
  inj : ∀ i j, a ≤ i → i < j → j < e → B i ≠ B j
  hQ : lo ≤ Q
/-- the memory that may turn where one more comes. -/
def QS (Q : Nat) (lv : Value) (B : Nat → Nat) (a e k : Nat) : Prop := k = Q ∨ lv.ownBlock = some k ∨ (a < e ∧ k = B (e - 1))
theorem Que.lt {w : World} {lo Q z : Nat} {lv : Value} {m : Nat} {kf : Nat → T} {B : Nat → Nat} {a e : Nat} (h : Que w lo Q z lv m kf B a e) : Q < w.heap.size := World.block_lt_of_cell? w _ h.cl
theorem Que.fr {P : Nat → Prop} {w w' : World} {lo Q z : Nat} {lv : Value} {m : Nat} {kf : Nat → T} {B : Nat → Nat} {a e : Nat} (h : Que w lo Q z lv m kf B a e) (hf : Fr P w w') (h1 : ¬ P Q) (h2 : ∀ g, lv.ownBlock = some g → ¬ P g) (h3 : ∀ j, a ≤ j → j < e → ¬ P (B j)) : Que w' lo Q z lv m kf B a e where
  cl := (hf.cell h.lt h1).trans h.cl
  cf := (hf.cell h.lt h1).trans h.cf
  ct := h.ct.imp fun v ⟨c1, c2⟩ => ⟨(hf.cell h.lt h1).trans c1, c2⟩
  fz := ⟨(hf.frozen h.lt h1).trans h.fz.1, (hf.frozen h.lt h1).trans h.fz.2.1, (hf.frozen h.lt h1).trans h.fz.2.2⟩
  own := hf.owns h.own h2
  ap := h.ap
  pr := fun j i1 i2 => (h.pr j i1 i2).fr hf (h3 j i1 i2)
  bk := h.bk
  inj := h.inj
  hQ := h.hQ
theorem Que.below {w w' : World} {lo Q z : Nat} {lv : Value} {m : Nat} {kf : Nat → T} {B : Nat → Nat} {a e : Nat} (h : Que w lo Q z lv m kf B a e) (hb : Below w.heap.size w w') : Que w' lo Q z lv m kf B a e := h.fr (P := fun _ => False) (Fr.of_below hb) id (fun _ _ => id) (fun _ _ _ => id)
theorem neQ {Q z z' : Nat} (h : z ≠ z') : (⟨Q, z, none⟩ : Addr) ≠ ⟨Q, z', none⟩ := fun e => h (by injection e)
def updB (B : Nat → Nat) (e b j : Nat) : Nat := if j = e then b else B j
theorem qF_same {B B' : Nat → Nat} {a e e' : Nat} (h : a < e) (h' : a < e') (hB : B a = B' a) : qF B a e = qF B' a e' := by unfold qF; rw [if_pos h, if_pos h', hB]
/-- a pair behind all others. -/
theorem Que.push {w : World} {lo Q z : Nat} {lv : Value} {m : Nat} {kf : Nat → T} {B : Nat → Nat} {a e : Nat} (h : Que w lo Q z lv m kf B a e) (hae : a ≤ e) {b : Nat} (hb : PrAt w b (prQ kf e) none) (hlo : lo ≤ b) (hbQ : b ≠ Q) (hbl : lv.ownBlock ≠ some b) (hbB : ∀ j, a ≤ j → j < e → B j ≠ b) :
    Que (if a < e then (w.setCell ⟨B (e - 1), 12, none⟩ (.pointer (some ⟨b, 0, none⟩))).setCell ⟨Q, z + 2, none⟩ (.pointer (some ⟨b, 0, none⟩)) else (w.setCell ⟨Q, z + 1, none⟩ (.pointer (some ⟨b, 0, none⟩))).setCell ⟨Q, z + 2, none⟩ (.pointer (some ⟨b, 0, none⟩))) lo Q z lv m kf (updB B e b) a (e + 1) := by
  have hub : ∀ j, j < e → updB B e b j = B j := fun j hj => if_neg (by omega)
  have hue : updB B e b e = b := if_pos rfl
  obtain ⟨tv, ht, _⟩ := h.ct
  by_cases hlt : a < e
  · rw [if_pos hlt]
    have hl := h.bk (e - 1) (by omega) (by omega)
    have f1 : Fr (fun k => k = B (e - 1)) w (w.setCell ⟨B (e - 1), 12, none⟩ (.pointer (some ⟨b, 0, none⟩))) := (Fr.refl _ w).set (fun _ => rfl)
    have c1 : (w.setCell ⟨B (e - 1), 12, none⟩ (.pointer (some ⟨b, 0, none⟩))).cell? ⟨Q, z + 2, none⟩ = some tv := (f1.cell h.lt (fun q => hl.2.1 q.symm)).trans ht
    generalize hw1 : w.setCell ⟨B (e - 1), 12, none⟩ (.pointer (some ⟨b, 0, none⟩)) = w1 at f1 c1
    have hlnk : PrAt w1 (B (e - 1)) (prQ kf (e - 1)) (some ⟨b, 0, none⟩) := by rw [← hw1]; exact (h.pr (e - 1) (by omega) (by omega)).link _
    have f2 : Fr (fun k => k = Q) w1 (w1.setCell ⟨Q, z + 2, none⟩ (.pointer (some ⟨b, 0, none⟩))) := (Fr.refl _ w1).set (fun _ => rfl)
    have hlt1 : Q < w1.heap.size := Nat.lt_of_lt_of_le h.lt f1.size
    refine ⟨?_, ?_, ⟨_, sc_same c1, fun _ => by rw [show e + 1 - 1 = e by omega, hue]⟩, ?_, ?_, h.ap, ?_, ?_, ?_, h.hQ⟩
    · rw [sc_other (neQ (by omega))]; exact (f1.cell h.lt (fun q => hl.2.1 q.symm)).trans h.cl
    · rw [sc_other (neQ (by omega)), (f1.cell h.lt (fun q => hl.2.1 q.symm)).trans h.cf, qF_same (B' := updB B e b) (e' := e + 1) hlt (by omega) (hub a hlt).symm]
    · simp only [World.frozen?_setCell]
      exact ⟨(f1.frozen h.lt (fun q => hl.2.1 q.symm)).trans h.fz.1, (f1.frozen h.lt (fun q => hl.2.1 q.symm)).trans h.fz.2.1, (f1.frozen h.lt (fun q => hl.2.1 q.symm)).trans h.fz.2.2⟩
    · exact f2.owns (f1.owns h.own (fun g hg q => hl.2.2 (by rw [hg, q]))) (fun g hg q => h.ap g hg q)
    · intro j j1 j2
      by_cases e1 : j = e
      · subst e1
        rw [hue, if_neg (by omega)]
        exact (hb.fr f1 (fun q => hbB (j - 1) (by omega) (by omega) q.symm)).fr f2 hbQ
      · rw [hub j (by omega), if_pos (by omega)]
        by_cases e2 : j = e - 1
        · have e3 : j + 1 = e := by omega
          rw [e3, hue, e2]
          exact hlnk.fr f2 hl.2.1
        · rw [hub (j + 1) (by omega)]
          have := h.pr j j1 (by omega)
          rw [if_pos (by omega)] at this
          exact (this.fr f1 (h.inj j (e - 1) j1 (by omega) (by omega))).fr f2 (h.bk j j1 (by omega)).2.1
    · intro j j1 j2
      by_cases e1 : j = e
      · subst e1; rw [hue]; exact ⟨hlo, hbQ, hbl⟩
      · rw [hub j (by omega)]; exact h.bk j j1 (by omega)
    · intro i j i1 i2 i3
      rw [hub i (by omega)]
      by_cases e1 : j = e
      · subst e1; rw [hue]; exact hbB i i1 (by omega)
      · rw [hub j (by omega)]; exact h.inj i j i1 i2 (by omega)
  · rw [if_neg hlt]
    have hea : a = e := by omega
    subst hea
    have f1 : Fr (fun k => k = Q) w (w.setCell ⟨Q, z + 1, none⟩ (.pointer (some ⟨b, 0, none⟩))) := (Fr.refl _ w).set (fun _ => rfl)
    have f2 : Fr (fun k => k = Q) w ((w.setCell ⟨Q, z + 1, none⟩ (.pointer (some ⟨b, 0, none⟩))).setCell ⟨Q, z + 2, none⟩ (.pointer (some ⟨b, 0, none⟩))) := f1.set (fun _ => rfl)
    have c1 : (w.setCell ⟨Q, z + 1, none⟩ (.pointer (some ⟨b, 0, none⟩))).cell? ⟨Q, z + 2, none⟩ = some tv := (sc_other (neQ (by omega))).trans ht
    refine ⟨?_, ?_, ⟨_, sc_same c1, fun _ => by rw [show a + 1 - 1 = a by omega, hue]⟩, ?_, ?_, h.ap, ?_, ?_, ?_, h.hQ⟩
    · rw [sc_other (neQ (by omega)), sc_other (neQ (by omega))]; exact h.cl
    · rw [sc_other (neQ (by omega)), sc_same h.cf]
      unfold qF
      rw [if_pos (by omega), hue]
    · simp only [World.frozen?_setCell]; exact h.fz
    · exact f2.owns h.own (fun g hg q => h.ap g hg q)
    · intro j j1 j2
      obtain rfl : j = a := by omega
      rw [hue, if_neg (by omega)]
      exact hb.fr f2 hbQ
    · intro j j1 j2
      obtain rfl : j = a := by omega
      rw [hue]; exact ⟨hlo, hbQ, hbl⟩
    · intro i j i1 i2 i3; omega
/-- the first pair is taken away. -/
theorem Que.pop {w : World} {lo Q z : Nat} {lv : Value} {m : Nat} {kf : Nat → T} {B : Nat → Nat} {a e : Nat} (h : Que w lo Q z lv m kf B a e) (hlt : a < e) : Que (w.setCell ⟨Q, z + 1, none⟩ (.pointer (qF B (a + 1) e))) lo Q z lv m kf B (a + 1) e ∧ PrAt (w.setCell ⟨Q, z + 1, none⟩ (.pointer (qF B (a + 1) e))) (B a) (prQ kf a) (qF B (a + 1) e) := by
  have f1 : Fr (fun k => k = Q) w (w.setCell ⟨Q, z + 1, none⟩ (.pointer (qF B (a + 1) e))) := (Fr.refl _ w).set (fun _ => rfl)
  obtain ⟨tv, ht, ht2⟩ := h.ct
  refine ⟨⟨?_, sc_same h.cf, ⟨tv, (sc_other (neQ (by omega))).trans ht, fun q => ht2 hlt⟩, by simp only [World.frozen?_setCell]; exact h.fz, f1.owns h.own (fun g hg q => h.ap g hg q), h.ap, fun j j1 j2 => (h.pr j (by omega) j2).fr f1 (h.bk j (by omega) j2).2.1, fun j j1 j2 => h.bk j (by omega) j2, fun i j i1 i2 i3 => h.inj i j (by omega) i2 i3, h.hQ⟩, ?_⟩
  · rw [sc_other (neQ (by omega))]; exact h.cl
  · exact (h.pr a (Nat.le_refl _) hlt).fr f1 (h.bk a (Nat.le_refl _) hlt).2.1
end Go.Proofs.Ytbkighpmkadmmaa
namespace Go.Proofs.Ytbkighpmkadmmaa
open Go.RowKit Go.Deep Go.Joins
set_option linter.unusedVariables false

/-- one of a row, less an operator times another one. -/
def lessE (R q X : List T) : Option (List T) := match mulM (lf q) (lf X) X.length q.length with
  | some P => if (subL R P).length ≤ 400 then some (subL R P) else none
  | none => none
def updL (R : Nat → List T) (j : Nat) (Y : List T) (i : Nat) : List T := if i = j then Y else R i
/-- the first j of a row, less an operator times another row. -/
def lessR (row : Nat → List T) (q : List T) (oth : Nat → List T) : Nat → Option (Nat → List T)
  | 0 => some (fun _ => [])
  | j + 1 => match lessR row q oth j with
    | none => none
    | some R => match lessE (row j) q (oth j) with
      | none => none
      | some Y => some (updL R j Y)
theorem lessR_none {row : Nat → List T} {q : List T} {oth : Nat → List T} {j : Nat} (h : lessR row q oth j = none) : ∀ d, lessR row q oth (j + d) = none
  | 0 => h
  | d + 1 => by
    show (match lessR row q oth (j + d) with | none => none | some R => match lessE (row (j + d)) q (oth (j + d)) with | none => none | some Y => some (updL R (j + d) Y)) = none
    rw [lessR_none h d]
theorem lessR_bad {row : Nat → List T} {q : List T} {oth : Nat → List T} {j g : Nat} {R : Nat → List T} (hj : j < g) (h : lessR row q oth j = some R) (he : lessE (row j) q (oth j) = none) : lessR row q oth g = none := by
  have h1 : lessR row q oth (j + 1) = none := by
    show (match lessR row q oth j with | none => none | some R => match lessE (row j) q (oth j) with | none => none | some Y => some (updL R j Y)) = none
    rw [h]
    show (match lessE (row j) q (oth j) with | none => none | some Y => some (updL R j Y)) = none
    rw [he]
  have := lessR_none h1 (g - (j + 1))
  rwa [show j + 1 + (g - (j + 1)) = g by omega] at this
theorem lessR_step {row : Nat → List T} {q : List T} {oth : Nat → List T} {j : Nat} {R : Nat → List T} {Y : List T} (h : lessR row q oth j = some R) (he : lessE (row j) q (oth j) = some Y) : lessR row q oth (j + 1) = some (updL R j Y) := by
  show (match lessR row q oth j with | none => none | some R => match lessE (row j) q (oth j) with | none => none | some Y => some (updL R j Y)) = _
  rw [h]
  show (match lessE (row j) q (oth j) with | none => none | some Y => some (updL R j Y)) = _
  rw [he]
theorem lessE_ok {R q X Y : List T} (hR : okL R = true) (hq : okL q = true) (hX : okL X = true) (h : lessE R q X = some Y) : okL Y = true := by
  unfold lessE at h
  split at h
  · rename_i P hP
    split at h
    · rename_i hl
      cases h
      exact okL_of hl (subL_facts (okL_falls hR).2 (mulM_falls2 (good_ok hq).2 (good_ok hX).2 _ P (Nat.le_refl _) hP)).1
    · cases h
  · cases h
theorem lessR_ok {row : Nat → List T} {q : List T} {oth : Nat → List T} {g : Nat} (hrow : ∀ i, i < g → okL (row i) = true) (hq : okL q = true) (ho : ∀ i, i < g → okL (oth i) = true) : ∀ j R, j ≤ g → lessR row q oth j = some R → ∀ i, i < j → okL (R i) = true
  | 0, R, _, _, i, hi => by omega
  | j + 1, R, hj, h, i, hi => by
    cases hr : lessR row q oth j with
    | none => have := lessR_none hr 1; rw [this] at h; cases h
    | some R1 =>
      cases he : lessE (row j) q (oth j) with
      | none => have := lessR_bad (g := j + 1) (by omega) hr he; rw [this] at h; cases h
      | some Y =>
        rw [lessR_step hr he] at h
        cases h
        unfold updL
        split
        · exact lessE_ok (hrow j (by omega)) hq (ho j (by omega)) he
        · exact lessR_ok hrow hq ho j R1 (by omega) hr i (by omega)
/-- a row, less all that is taken, times the proofs. -/
def madeN (g : Nat) (P : Nat → Nat → List T) (qs : Nat → List T) (row : Option (Nat → List T)) : Nat → Option (Nat → List T)
  | 0 => row
  | t + 1 => match madeN g P qs row t with
    | none => none
    | some R => lessR R (qs t) (P t) g
def negT1 (u : T) : T := ⟨101 - u.c, u.m⟩
def made1 (g : Nat) (P : Nat → Nat → List T) (i k : Nat) (u v : T) : Option (Nat → List T) := match lessR (fun _ => []) [negT1 u] (P i) g with
  | none => none
  | some R => lessR R [v] (P k) g
def made (g : Nat) (P : Nat → Nat → List T) (i k : Nat) (u v : T) (nq : Nat) (qs : Nat → List T) : Option (Nat → List T) := madeN g P qs (made1 g P i k u v) nq
theorem madeN_none {g : Nat} {P : Nat → Nat → List T} {qs : Nat → List T} {row : Option (Nat → List T)} {t : Nat} (h : madeN g P qs row t = none) : ∀ d, madeN g P qs row (t + d) = none
  | 0 => h
  | d + 1 => by
    show (match madeN g P qs row (t + d) with | none => none | some R => lessR R (qs (t + d)) (P (t + d)) g) = none
    rw [madeN_none h d]
/-- a basis on its way. -/
structure Bs where
  m : Nat
  L : Nat → List T
  P : Nat → Nat → List T
def updP (P : Nat → Nat → List T) (m : Nat) (R : Nat → List T) (i : Nat) : Nat → List T := if i = m then R else P i
def addB (B : Bs) (r : List T) (R : Nat → List T) : Bs := ⟨B.m + 1, updL B.L B.m r, updP B.P B.m R⟩
abbrev spU (o : Int) (A C : List T) : T := sprU o A.length (lf A) C.length (lf C)
abbrev spV (o : Int) (A C : List T) : T := sprV o A.length (lf A) C.length (lf C)
abbrev spP (o : Int) (A C : List T) : List T × Bool := sprPoly o (lf A) A.length (lf C) C.length
/-- a pair is looked at; none: it is too much. -/
def stepB (o : Int) (g : Nat) (B : Bs) (i k : Nat) : Option Bs :=
  match spP o (B.L i) (B.L k) with
  | (s, true) => (match redAll o s B.m (lN B.L) (fN B.L) with
    | some S => if S.r.length = 0 then some B else if B.m = 12 then none else (match made g B.P i k (spU o (B.L i) (B.L k)) (spV o (B.L i) (B.L k)) B.m S.q with
      | some R => some (addB B S.r R)
      | none => none)
    | none => none)
  | (_, false) => none
def grun (o : Int) (g : Nat) : Nat → Bs → Nat → Bs × Bool
  | 0, B, j => (B, decide (tri B.m ≤ j))
  | f + 1, B, j => if j < tri B.m then (match stepB o g B (pq j).1 (pq j).2 with
      | none => (B, false)
      | some B' => grun o g f B' (j + 1)) else (B, true)
def oneP (k i : Nat) : List T := if i = k then [⟨1, ⟨0, 0, 0, 0⟩⟩] else []
def grb0 (n : Nat) (L : Nat → List T) : Bs := ⟨n, L, fun k => oneP k⟩
/-- what GrbMake answers. -/
def grbMake (o : Int) (n : Nat) (L : Nat → List T) (fuel : Int) : Bs × Bool :=
  if (1 ≤ o ∧ o ≤ 3) ∧ lstOk n (lN L) (fN L) = true ∧ (1 ≤ n ∧ n ≤ 3) ∧ (0 ≤ fuel ∧ fuel ≤ 60) then grun o n fuel.toNat (grb0 n L) 0 else (⟨0, fun _ => [], fun _ _ => []⟩, false)
/-- what is true of it all the time. -/
structure BsOk (o : Int) (g : Nat) (B : Bs) : Prop where
  ho : 1 ≤ o ∧ o ≤ 3
  l : lstOk B.m (lN B.L) (fN B.L) = true
  p : ∀ i, i < B.m → ∀ j, j < g → okL (B.P i j) = true
theorem one_okL : okL [(⟨1, ⟨0, 0, 0, 0⟩⟩ : T)] = true := by decide
theorem grb0_ok {o : Int} {n : Nat} {L : Nat → List T} (ho : 1 ≤ o ∧ o ≤ 3) (hl : lstOk n (lN L) (fN L) = true) : BsOk o n (grb0 n L) := ⟨ho, hl, fun i _ j _ => by
  show okL (oneP i j) = true
  unfold oneP
  split
  · exact one_okL
  · exact okL_nil⟩
theorem mod101 {a : Int} (h1 : 1 ≤ a) (h2 : a ≤ 100) : 1 ≤ 101 - a ∧ 101 - a ≤ 100 := by omega
theorem spUV_good {o : Int} {A C : List T} {s : List T} (h : spP o A C = (s, true)) : (okL [spU o A C] = true ∧ okL [negT1 (spU o A C)] = true ∧ okL [spV o A C] = true) ∧ ((spU o A C).m.ok = true ∧ 1 ≤ (spU o A C).c ∧ (spU o A C).c ≤ 100) ∧ ((spV o A C).m.ok = true ∧ 1 ≤ (spV o A C).c ∧ (spV o A C).c ≤ 100) := by
  have hs : sprOk o A.length (lf A) C.length (lf C) = true := by
    unfold spP sprPoly at h
    split at h
    · assumption
    · cases h
  obtain ⟨h1, h2⟩ := spr_good hs
  have g1 := mod101 h1.2.1 h1.2.2
  exact ⟨⟨one_ok h1, one_ok ⟨h1.1, g1.1, g1.2⟩, one_ok h2⟩, h1, h2⟩
theorem made_ok {g : Nat} {P : Nat → Nat → List T} {i k m : Nat} {u v : T} {qs : Nat → List T} (hi : i < m) (hk : k < m) (hP : ∀ i, i < m → ∀ j, j < g → okL (P i j) = true) (hu : okL [negT1 u] = true) (hv : okL [v] = true) (hq : ∀ t, t < m → okL (qs t) = true) : ∀ t R, t ≤ m → madeN g P qs (made1 g P i k u v) t = some R → ∀ j, j < g → okL (R j) = true
  | 0, R, _, h => by
    change made1 g P i k u v = some R at h
    unfold made1 at h
    split at h
    · cases h
    · rename_i R1 h1
      exact lessR_ok (lessR_ok (fun _ _ => okL_nil) hu (hP i hi) g R1 (Nat.le_refl _) h1) hv (hP k hk) g R (Nat.le_refl _) h
  | t + 1, R, ht, h => by
    cases hr : madeN g P qs (made1 g P i k u v) t with
    | none => have := madeN_none hr 1; rw [this] at h; cases h
    | some R1 =>
      have h' : lessR R1 (qs t) (P t) g = some R := by
        have : madeN g P qs (made1 g P i k u v) (t + 1) = lessR R1 (qs t) (P t) g := by
          show (match madeN g P qs (made1 g P i k u v) t with | none => none | some R => lessR R (qs t) (P t) g) = _
          rw [hr]
        rw [← this]; exact h
      exact lessR_ok (made_ok hi hk hP hu hv hq t R1 (by omega) hr) (hq t (by omega)) (hP t (by omega)) g R (Nat.le_refl _) h'
theorem lstOk_add {m : Nat} {L : Nat → List T} (hl : lstOk m (lN L) (fN L) = true) (hm : m ≠ 12) {r : List T} (hr : okL r = true) (h0 : r.length ≠ 0) : lstOk (m + 1) (lN (updL L m r)) (fN (updL L m r)) = true := by
  have h := lstOk_all hl
  refine decide_eq_true ⟨by omega, fun i hi => ?_⟩
  show (updL L m r i).length ≠ 0 ∧ okL (updL L m r i) = true
  unfold updL
  split
  · exact ⟨h0, hr⟩
  · exact h.2 i (by omega)
theorem stepB_ok {o : Int} {g : Nat} {B B' : Bs} {i k : Nat} (h : BsOk o g B) (hi : i < B.m) (hk : k < B.m) (hs : stepB o g B i k = some B') : BsOk o g B' := by
  unfold stepB at hs
  split at hs
  · rename_i s hsp
    split at hs
    · rename_i S hS
      split at hs
      · cases hs; exact h
      · rename_i h0
        split at hs
        · cases hs
        · rename_i h12
          split at hs
          · rename_i R hR
            cases hs
            obtain ⟨d1, d2⟩ := redAll_ok hS
            obtain ⟨⟨_, g2, g3⟩, _⟩ := spUV_good hsp
            refine ⟨h.ho, lstOk_add h.l h12 (okL_of (by have := d1.r.2; omega) d1.r.1) h0, fun a ha j hj => ?_⟩
            show okL (updP B.P B.m R a j) = true
            unfold updP
            split
            · exact made_ok hi hk h.p g2 g3 (fun t _ => okL_of (by have := (d1.q t).2; omega) (d1.q t).1) B.m R (Nat.le_refl _) hR j hj
            · have ha' : a < B.m + 1 := ha
              exact h.p a (by omega) j hj
          · cases hs
    · cases hs
  · cases hs
theorem stepB_m {o : Int} {g : Nat} {B B' : Bs} {i k : Nat} (hs : stepB o g B i k = some B') : B.m ≤ B'.m := by
  unfold stepB at hs
  split at hs
  · split at hs
    · split at hs
      · cases hs; exact Nat.le_refl _
      · split at hs
        · cases hs
        · split at hs
          · cases hs; exact Nat.le_succ _
          · cases hs
    · cases hs
  · cases hs
end Go.Proofs.Ytbkighpmkadmmaa
