/-
  A sum gathers all terms that an iterator tells.
-/
import Derived.Test.YtahbekfhoidgjawSeqL
import Derived.Test.YtahbekfhoidgjawSumL
namespace Go.Proofs.Ytahbekfhoidgjaw
open Go.RowKit Go.Maps
set_option linter.unusedVariables false
attribute [local go_sem] Oper.semAt_some

theorem flat_len {α β : Type} (k : Nat) (f : α → List β) (h : ∀ x, (f x).length = k) : ∀ l : List α, (l.flatMap f).length = l.length * k
  | [] => by simp
  | x :: r => by rw [List.flatMap_cons, List.length_append, h, flat_len k f h r, List.length_cons, Nat.add_mul]; omega
/-- all monomials that are ok. -/
def allM : List M := (List.range 16).flatMap fun (x : Nat) => (List.range 16).flatMap fun (y : Nat) => (List.range 16).flatMap fun (d : Nat) => (List.range 16).map fun (e : Nat) => (⟨(x : Int), (y : Int), (d : Int), (e : Int)⟩ : M)
theorem allM_len : allM.length = 65536 := by
  unfold allM
  rw [flat_len (16 * (16 * 16)) _ (fun x => by rw [flat_len (16 * 16) _ (fun y => by rw [flat_len 16 _ (fun d => by simp)]; simp)]; simp)]
  simp
theorem allM_mem {m : M} (h : m.ok = true) : m ∈ allM := by
  obtain ⟨x1, x2, y1, y2, d1, d2, e1, e2⟩ := M.ok_iff.1 h
  unfold allM
  refine List.mem_flatMap.2 ⟨m.x.toNat, List.mem_range.2 (by omega), List.mem_flatMap.2 ⟨m.y.toNat, List.mem_range.2 (by omega), List.mem_flatMap.2 ⟨m.d.toNat, List.mem_range.2 (by omega), List.mem_map.2 ⟨m.e.toNat, List.mem_range.2 (by omega), ?_⟩⟩⟩⟩
  cases m
  simp only at x1 y1 d1 e1 ⊢
  rw [Int.toNat_of_nonneg x1, Int.toNat_of_nonneg y1, Int.toNat_of_nonneg d1, Int.toNat_of_nonneg e1]
theorem SumR.cap {w : World} {b n : Nat} {c : M → Int} (h : SumR w b n c) : SumR w b 65536 c := by
  obtain ⟨D, hown, hc, hat, hks⟩ := h
  have hs : Maps.size D ≤ 65536 := by
    rw [← allM_len]
    exact size_le hown allM (fun kl hkl => by obtain ⟨m, hm, rfl⟩ := hks kl hkl; exact ⟨m, allM_mem hm, rfl⟩)
  refine ⟨D, ?_, hc, hat, hks⟩
  obtain ⟨es, clock, h1, h2, h3, h4⟩ := hown
  subst h4
  rw [size_eq, length_read] at hs
  exact ⟨es, clock, h1, h2, hs, rfl⟩
theorem SumR.lt {w : World} {b n : Nat} {c : M → Int} (h : SumR w b n c) : b < w.heap.size := by obtain ⟨D, ho, _⟩ := h; exact ho.lt
theorem SumR.map {w : World} {b n : Nat} {c : M → Int} (h : SumR w b n c) : ∀ o, w.heap[b]? = some o → o.isCells = false := by
  obtain ⟨D, ⟨es, clock, h1, _⟩, _⟩ := h
  intro o ho
  rw [h1] at ho
  cases ho
  rfl
theorem grown_far {w W W' : World} {b : Nat} {row : Option Nat} (h : w.grownBy W (some b)) (hg : W.grownBy W' row) (hr : ∀ r, row = some r → w.heap.size ≤ r) : w.grownBy W' (some b) :=
  ⟨hg.os.trans h.os, hg.tape.trans h.tape, hg.output.trans h.output, Nat.le_trans h.size hg.size, fun k hk hne => (hg.block k (Nat.lt_of_lt_of_le hk h.size) (fun e => by have := hr k e.symm; omega)).trans (h.block k hk hne)⟩
/-- a term of numbers of the field and a monomial that is ok. -/
abbrev TO : Type := { t : T // t.m.ok = true ∧ 0 ≤ t.c ∧ t.c ≤ 100 }
def encT (x : TO) : Array Value := #[.agg #[.int .i64 x.1.c, .int .i64 x.1.m.x, .int .i64 x.1.m.y, .int .i64 x.1.m.d, .int .i64 x.1.m.e]]
def addAll (c : M → Int) (xs : List TO) : M → Int := xs.foldl (fun c t => updC c t.1.m t.1.c) c
theorem addAll_snoc (c : M → Int) (xs : List TO) (x : TO) : addAll c (xs ++ [x]) = updC (addAll c xs) x.1.m x.1.c := by simp [addAll]
/-- block Bx holds a term. -/
def TermAt (W : World) (Bx : Nat) (t : T) : Prop := W.heap[Bx]? = some (.cells #[.int .i64 t.c, .int .i64 t.m.x, .int .i64 t.m.y, .int .i64 t.m.d, .int .i64 t.m.e] 40 (0, 0))
theorem TermAt.cells {W : World} {Bx : Nat} {t : T} (h : TermAt W Bx t) : W.cell? ⟨Bx, 0, none⟩ = some (.int .i64 t.c) ∧ W.cell? ⟨Bx, 1, none⟩ = some (.int .i64 t.m.x) ∧ W.cell? ⟨Bx, 2, none⟩ = some (.int .i64 t.m.y) ∧ W.cell? ⟨Bx, 3, none⟩ = some (.int .i64 t.m.d) ∧ W.cell? ⟨Bx, 4, none⟩ = some (.int .i64 t.m.e) := by
  unfold TermAt at h
  refine ⟨?_, ?_, ?_, ?_, ?_⟩ <;> (unfold World.cell?; simp only [h]; rfl)
theorem own_block {B Bx : Nat} {o : Obj} (ho : o.isCells = true) {X Y : World} {row : Option Nat} (h : X.heap[Bx]? = some o) (hg : X.grownBy Y row) (hr : ∀ r, row = some r → B ≤ r ∧ ∃ o : Obj, X.heap[r]? = some o ∧ o.isCells = false) : Y.heap[Bx]? = some o :=
  (hg.block Bx (Array.getElem?_eq_some_iff.1 h).1 (fun e => by obtain ⟨_, o', ho', hc⟩ := hr Bx e.symm; rw [h] at ho'; cases ho'; rw [ho] at hc; cases hc)).trans h
set_option maxRecDepth 100000 in
set_option maxHeartbeats 4000000 in
theorem gatherI (w : World) (b : Nat) (c : M → Int) (h : SumR w b 65536 c) (g : Nat) (lb : Array Value) (eg : ∀ args w, (callFunc g args).run Try.prog w = .ok (.enter g args) w) (xs : List TO) (hseq : SeqL Try.prog g lb encT xs w) :
    Calls Try.prog 80 #[.map (some b), .func (.func g) #[] lb] w fun e w' => e = .returned (.tuple #[]) ∧ SumR w' b 65536 (addAll c xs) ∧ w.grownBy w' (some b) := by
  have hblt := h.lt
  have HS := Hid.mk' h
  have HQ := Hid.mk' hseq
  clear h hseq
  refine (callsIn_wide (n := 9)).1 ?_
  refine callsIn_of_wp_marks Try.func80 rfl trivial ?_ rfl
  simp only [Try.ntmps80, List.size_toArray, List.length_cons, List.length_nil, Nat.reduceAdd, Nat.reduceSub, Array.replicate_succ, Array.replicate_zero, List.push_toArray, List.append_toArray, List.nil_append, List.cons_append]
  gi_wp2
  have bs := Boxed.new w 50 (.map (some b))
  have hg0 := World.grownBy_alloc w (.cells #[.map (some b)] 50) (some b)
  have hS0 := HS.out.grown (World.grownBy_alloc w (.cells #[.map (some b)] 50) none) (by simp)
  have hbw : Below w.heap.size w (w.alloc (.cells #[.map (some b)] 50)) := (Below.refl _ w).alloc (Nat.le_refl _) _
  have hs0 : (w.alloc (.cells #[.map (some b)] 50)).heap.size = w.heap.size + 1 := by simp
  generalize w.alloc (.cells #[.map (some b)] 50) = W0 at *
  refine rangeL (by decide) (gf := g) (lb := lb) rfl eg HQ.out hbw (fun _ => rfl)
    (fun (pre : List TO) W => SumR W b 65536 (addAll c pre) ∧ (Boxed W w.heap.size 50 (.map (some b)) ∧ w.grownBy W (some b)))
    (OwnFrom.and (fun s X Y row hs hg hr => hs.grown hg (fun e => by have := (hr b e.symm).1; omega)) (OwnFrom.and (Own.from (boxed_own _ _ (fun _ => Value.map (some b))) _) (fun s X Y row hs hg hr => grown_far hs hg (fun r e => by have := (hr r e).1; omega))))
    ⟨hS0, bs, hg0⟩
    (fun x a' W => ∃ Bx, TermAt W Bx x.1 ∧ a' = ({ tmps := #[.map (some b), .func (.func g) #[] lb, .pointer (some ⟨w.heap.size, 0, none⟩), undef, .pointer (some ⟨Bx, 0, none⟩), .func (.func g) #[] lb, .agg #[.int .i64 x.1.c, .int .i64 x.1.m.x, .int .i64 x.1.m.y, .int .i64 x.1.m.d, .int .i64 x.1.m.e], undef, undef, undef, undef, undef, undef], defers := [] } : Act))
    (fun x a' _ X Y row hs hg hr => by obtain ⟨Bx, h2, h3⟩ := hs; exact ⟨Bx, own_block rfl h2 hg hr, h3⟩)
    ?assign ?body ?done
  case assign =>
    rintro l pre x W K' ⟨hS, bS, hgW⟩ hK'
    obtain ⟨t, ht⟩ := x
    dsimp only [encT] at hK' ⊢
    gi_wp2
    exact hK' _ _ ((KeepsOthers.alloc _ _).from _) (cellsK_alloc _ _) ⟨hS.grown (World.grownBy_alloc W _ none) (by simp), bS.alloc _, hgW.trans (World.grownBy_alloc W _ (some b))⟩ ⟨W.heap.size, World.alloc_heap_new W _, rfl⟩
  case body =>
    rintro l pre x a' W ⟨hS, bS, hgW⟩ ⟨Bx, hX, rfl⟩
    obtain ⟨t, hto, htc, htc'⟩ := x
    dsimp only at hX ⊢
    obtain ⟨x0, x1, x2, x3, x4⟩ := hX.cells
    have cS := bS.cell
    have HSS := Hid.mk' hS
    clear hS
    gi_wp2_with (first
      | (refine ⟨trivial, rfl, ?_⟩; gi_at_call 27; (refine (CallsIn.inRound l (callsIn_wide.2 (sumAddR b 65536 _ t.c t.m W hto HSS.out (by unfold maxLen; omega) htc htc'))).mono ?_; rintro e w' ⟨rfl, hs', hg'⟩))
      | gi_in)
    have hk : cellsK W w' := cellsK_grown hg' (fun k e o ho => by cases e; exact HSS.out.map o ho)
    refine ⟨KeepsFrom.of_grownBy hg' (fun j e => by cases e; omega), hk, ?_, boxed_cells bS hk, hgW.trans hg'⟩
    rw [addAll_snoc]
    exact hs'.cap
  case done =>
    rintro D W hD ⟨hS, bS, hgW⟩ hKd
    gi_wp2
    refine ⟨by simp, .inl ⟨_, _, rfl, run_takeDeferred hKd, ?_⟩⟩
    exact ⟨_, results_none rfl _ _ _, rfl, hS.grown (grownBy_putObj' W D (.deferred none)) (fun e => by cases e; omega), grown_far hgW (grownBy_putObj' W D (.deferred none)) (fun r e => by cases e; omega)⟩
end Go.Proofs.Ytahbekfhoidgjaw
