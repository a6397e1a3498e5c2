/-
  A sum gathers all terms that an iterator tells.
-/
import Derived.Test.YtioecpiogpjlaaaSeqL
import Derived.Test.YtioecpiogpjlaaaSumL
namespace Go.Proofs.Ytioecpiogpjlaaa
open Go.RowKit Go.Maps
set_option linter.unusedVariables false
attribute [local go_sem] Oper.semAt_some

theorem flat_len {α β : Type} (k : Nat) (f : α → List β) (h : ∀ x, (f x).length = k) : ∀ l : List α, (l.flatMap f).length = l.length * k
  | [] => by simp
  | x :: r => by rw [List.flatMap_cons, List.length_append, h, flat_len k f h r, List.length_cons, Nat.add_mul]; omega
/-- all monomials that are ok. -/
def allM : List M := (List.range 16).flatMap fun (x : Nat) => (List.range 16).flatMap fun (y : Nat) => (List.range 16).flatMap fun (d : Nat) => (List.range 16).map fun (e : Nat) => (⟨(x : Int), (y : Int), (d : Int), (e : Int)⟩ : M)
theorem allM_len : allM.length = 65536 := by
  unfold allM
  rw [flat_len (16 * (16 * 16)) _ (fun x => by rw [flat_len (16 * 16) _ (fun y => by rw [flat_len 16 _ (fun d => by simp)]; simp)]; simp)]
  simp
theorem allM_mem {m : M} (h : m.ok = true) : m ∈ allM := by
  obtain ⟨x1, x2, y1, y2, d1, d2, e1, e2⟩ := M.ok_iff.1 h
  unfold allM
  refine List.mem_flatMap.2 ⟨m.x.toNat, List.mem_range.2 (by omega), List.mem_flatMap.2 ⟨m.y.toNat, List.mem_range.2 (by omega), List.mem_flatMap.2 ⟨m.d.toNat, List.mem_range.2 (by omega), List.mem_map.2 ⟨m.e.toNat, List.mem_range.2 (by omega), ?_⟩⟩⟩⟩
  cases m
  simp only at x1 y1 d1 e1 ⊢
  rw [Int.toNat_of_nonneg x1, Int.toNat_of_nonneg y1, Int.toNat_of_nonneg d1, Int.toNat_of_nonneg e1]
theorem SumR.cap {w : World} {b n : Nat} {c : M → Int} (h : SumR w b n c) : SumR w b 65536 c := by
  obtain ⟨D, hown, hc, hat, hks⟩ := h
  have hs : Maps.size D ≤ 65536 := by
    rw [← allM_len]
    exact size_le hown allM (fun kl hkl => by obtain ⟨m, hm, rfl⟩ := hks kl hkl; exact ⟨m, allM_mem hm, rfl⟩)
  refine ⟨D, ?_, hc, hat, hks⟩
  obtain ⟨es, clock, h1, h2, h3, h4⟩ := hown
  subst h4
  rw [size_eq, length_read] at hs
  exact ⟨es, clock, h1, h2, hs, rfl⟩
theorem SumR.lt {w : World} {b n : Nat} {c : M → Int} (h : SumR w b n c) : b < w.heap.size := by obtain ⟨D, ho, _⟩ := h; exact ho.lt
theorem SumR.map {w : World} {b n : Nat} {c : M → Int} (h : SumR w b n c) : ∀ o, w.heap[b]? = some o → o.isCells = false := by
  obtain ⟨D, ⟨es, clock, h1, _⟩, _⟩ := h
  intro o ho
  rw [h1] at ho
  cases ho
  rfl
theorem grown_far {w W W' : World} {b : Nat} {row : Option Nat} (h : w.grownBy W (some b)) (hg : W.grownBy W' row) (hr : ∀ r, row = some r → w.heap.size ≤ r) : w.grownBy W' (some b) :=
  ⟨hg.os.trans h.os, hg.tape.trans h.tape, hg.output.trans h.output, Nat.le_trans h.size hg.size, fun k hk hne => (hg.block k (Nat.lt_of_lt_of_le hk h.size) (fun e => by have := hr k e.symm; omega)).trans (h.block k hk hne)⟩
/-- a term of numbers of the field and a monomial that is ok. -/
abbrev TO : Type := { t : T // t.m.ok = true ∧ 0 ≤ t.c ∧ t.c ≤ 100 }
def encT (x : TO) : Array Value := #[.agg #[.int .i64 x.1.c, .int .i64 x.1.m.x, .int .i64 x.1.m.y, .int .i64 x.1.m.d, .int .i64 x.1.m.e]]
def addAll (c : M → Int) (xs : List TO) : M → Int := xs.foldl (fun c t => updC c t.1.m t.1.c) c
theorem addAll_snoc (c : M → Int) (xs : List TO) (x : TO) : addAll c (xs ++ [x]) = updC (addAll c xs) x.1.m x.1.c := by simp [addAll]
/-- block Bx holds a term. -/
def TermAt (W : World) (Bx : Nat) (t : T) : Prop := W.heap[Bx]? = some (.cells #[.int .i64 t.c, .int .i64 t.m.x, .int .i64 t.m.y, .int .i64 t.m.d, .int .i64 t.m.e] 40 (0, 0))
theorem TermAt.cells {W : World} {Bx : Nat} {t : T} (h : TermAt W Bx t) : W.cell? ⟨Bx, 0, none⟩ = some (.int .i64 t.c) ∧ W.cell? ⟨Bx, 1, none⟩ = some (.int .i64 t.m.x) ∧ W.cell? ⟨Bx, 2, none⟩ = some (.int .i64 t.m.y) ∧ W.cell? ⟨Bx, 3, none⟩ = some (.int .i64 t.m.d) ∧ W.cell? ⟨Bx, 4, none⟩ = some (.int .i64 t.m.e) := by
  unfold TermAt at h
  refine ⟨?_, ?_, ?_, ?_, ?_⟩ <;> (unfold World.cell?; simp only [h]; rfl)
theorem own_block {B Bx : Nat} {o : Obj} (ho : o.isCells = true) {X Y : World} {row : Option Nat} (h : X.heap[Bx]? = some o) (hg : X.grownBy Y row) (hr : ∀ r, row = some r → B ≤ r ∧ ∃ o : Obj, X.heap[r]? = some o ∧ o.isCells = false) : Y.heap[Bx]? = some o :=
  (hg.block Bx (Array.getElem?_eq_some_iff.1 h).1 (fun e => by obtain ⟨_, o', ho', hc⟩ := hr Bx e.symm; rw [h] at ho'; cases ho'; rw [ho] at hc; cases hc)).trans h
end Go.Proofs.Ytioecpiogpjlaaa
