/-
  How many of some slopes may be taken of their times, and in how many ways: the iterator.
  A range over an iterator that itself ranges over iterators; its body always goes on.
  A sum gathers all terms that an iterator tells.
-/
import Derived.Test.YtbkighpmkadmmaaGaa
import Derived.Test.YtbkighpmkadmmaaGar
import Derived.RangeFuncNested
import Derived.RangeFuncLeaves
import Derived.Deep.RegionWith
import Derived.WalkKit
import Derived.OwnWalkIn
import Derived.TacticsInMore
import Derived.LoopNIn
import Derived.LoopIn
import Derived.Test.YtbkighpmkadmmaaGas
namespace Go.Proofs.Ytbkighpmkadmmaa
open Go.RowKit
set_option linter.unusedVariables false
attribute [local go_sem] Oper.semAt_some

/-- every block of cells lies as it lay. -/
def cellsK (W W' : World) : Prop := W.heap.size ≤ W'.heap.size ∧ ∀ (k : Nat) (o : Obj), W.heap[k]? = some o → o.isCells = true → W'.heap[k]? = some o
theorem cellsK_refl (W : World) : cellsK W W := ⟨Nat.le_refl _, fun _ _ h _ => h⟩
theorem cellsK_t {A B C : World} (h : cellsK A B) (k : cellsK B C) : cellsK A C := ⟨Nat.le_trans h.1 k.1, fun i o hi ho => k.2 i o (h.2 i o hi ho) ho⟩
theorem cellsK_b {w : World} (W : World) (l : Nat) (o o' : Obj) (_ : w.heap.size ≤ l) (h : W.heap[l]? = some o) (hc : o.isCells = false) (_ : o.isWalk = false) : cellsK W (W.putObj l o') :=
  ⟨by rw [World.putObj_size]; exact Nat.le_refl _, fun k o2 hk hc2 => (World.putObj_heap_other (fun e => by subst e; rw [h] at hk; cases hk; rw [hc] at hc2; cases hc2)).trans hk⟩
theorem cellsK_alloc (W : World) (o : Obj) : cellsK W (W.alloc o) := ⟨by simp, fun k o2 hk _ => (Below.heap_alloc W o k (Array.getElem?_eq_some_iff.1 hk).1).trans hk⟩
theorem cellsK_drew (W : World) : cellsK W W.drew := ⟨Nat.le_refl _, fun _ _ h _ => h⟩
theorem cellsK_grown {W W' : World} {row : Option Nat} (hg : W.grownBy W' row) (hr : ∀ k, row = some k → ∀ o, W.heap[k]? = some o → o.isCells = false) : cellsK W W' :=
  ⟨hg.size, fun k o hk hc => (hg.block k (Array.getElem?_eq_some_iff.1 hk).1 (fun e => by have := hr k e.symm o hk; rw [this] at hc; cases hc)).trans hk⟩
theorem boxed_cells {W W' : World} {B : Nat} {t : TypeId} {v : Value} (h : Boxed W B t v) (hk : cellsK W W') : Boxed W' B t v := hk.2 B _ h rfl
theorem drewG (w : World) : w.grownBy w.drew none := ⟨rfl, rfl, rfl, Nat.le_refl _, fun _ _ _ => rfl⟩
/-- how many are taken, and in how many ways. -/
abbrev TK (lim : Nat) : Type := { p : Int × Int // 0 ≤ p.1 ∧ p.1 ≤ (lim : Int) ∧ 0 ≤ p.2 ∧ p.2 ≤ 100 }
def encK {lim : Nat} (x : TK lim) : Array Value := #[.int .i64 x.1.1, .int .i64 x.1.2]
def wy (s t k : Int) : Int := fMul (fChoose s k) (fFall t k)
theorem fMul_range (a b : Int) : 0 ≤ fMul a b ∧ fMul a b ≤ 100 := by
  unfold fMul
  split <;> omega
def takeK (lim : Nat) (s t : Int) (k : Nat) : TK lim := ⟨((if k ≤ lim then (k : Int) else 0), wy s t k), by
  have := fMul_range (fChoose s k) (fFall t k)
  refine ⟨?_, ?_, this.1, this.2⟩
  · show 0 ≤ (if k ≤ lim then (k : Int) else 0)
    split <;> omega
  · show (if k ≤ lim then (k : Int) else 0) ≤ _
    split <;> omega⟩
def uptoK (lim : Nat) (s t : Int) (k : Nat) : List (TK lim) := (List.range k).map (takeK lim s t)
theorem uptoK_succ (lim : Nat) (s t : Int) (k : Nat) : uptoK lim s t k ++ [takeK lim s t k] = uptoK lim s t (k + 1) := by simp [uptoK, List.range_succ]
theorem uptoK_len (lim : Nat) (s t : Int) (k : Nat) : (uptoK lim s t k).length = k := by simp [uptoK]
set_option maxRecDepth 100000 in
set_option maxHeartbeats 4000000 in
theorem taken1 {n : Nat} (hn : 1 ≤ n) (l B1 B2 : Nat) (s t : Int) (lim : Nat) (s0 : 0 ≤ s) (s1 : s ≤ 15) (t0 : 0 ≤ t) (t1 : t ≤ 15) (hl : (lim : Int) = min s t) (J Jx : List (TK lim) → World → Prop) (hJd : ∀ pre W, J pre W → J pre W.drew)
    (hY : ∀ pre x W, J pre W → pre.length < lim + 1 → YieldAt Fence.wide (n - 1) Try.prog l (encK x) W fun e W' => (e = .returned (.bool true) ∧ J (pre ++ [x]) W' ∧ cellsK W W') ∨ (e = .returned (.bool false) ∧ Jx (pre ++ [x]) W'))
    (W : World) (hb1 : Boxed W B1 3 (.int .i64 s)) (hb2 : Boxed W B2 3 (.int .i64 t)) (h0 : J [] W) :
    CallsIn Fence.wide n Try.prog 128 #[.func (.yield l) #[] #[], .pointer (some ⟨B1, 0, none⟩), .pointer (some ⟨B2, 0, none⟩)] W fun e W' => (∃ v, e = .returned v) ∧ ((∃ xs, xs = uptoK lim s t (lim + 1) ∧ J xs W') ∨ (∃ pre, True ∧ Jx pre W')) := by
  refine callsIn_of_wp Try.func128 rfl trivial ?_ rfl
  simp only [Try.ntmps128, List.size_toArray, List.length_cons, List.length_nil, Nat.reduceAdd, Nat.reduceSub, Array.replicate_succ, Array.replicate_zero, List.push_toArray, List.append_toArray, List.nil_append, List.cons_append]
  have c1 := hb1.cell
  have c2 := hb2.cell
  gi_wp2
  all_goals
    gi_loopw [10] (fun v wr => ∃ k : Nat, k ≤ lim + 1 ∧ v = .int .i64 (k : Int) ∧ J (uptoK lim s t k) wr ∧ Boxed wr B1 3 (.int .i64 s) ∧ Boxed wr B2 3 (.int .i64 t)) (fun v _ => (lim + 1) - (RowKit.intOf v).toNat)
    case atStart =>
      exact ⟨0, Nat.zero_le _, rfl, h0, hb1, hb2⟩
    case round =>
      obtain ⟨k, hk, rfl, hJ, b1, b2⟩ := hrel
      have c1 := b1.cell
      have c2 := b2.cell
      by_cases hlt : k ≤ lim
      · have hk1 : (k : Int) ≤ s := by omega
        have hk2 : (k : Int) ≤ t := by omega
        have hYk := hY (uptoK lim s t k) (takeK lim s t k) _ (hJd _ _ hJ) (by rw [uptoK_len]; omega)
        rw [uptoK_succ] at hYk
        have ek : encK (takeK lim s t k) = #[.int .i64 (k : Int), .int .i64 (wy s t k)] := by simp [encK, takeK, hlt]
        rw [ek] at hYk
        have hw : fMul (fChoose s k) (fFall t k) = wy s t k := rfl
        obtain ⟨fn, tmps, assign, body, hy, hRd⟩ := hYk
        gi_wp2_with fail
        refine (wpIn_wide (n := n)).2 ?_
        go_region_with (first
          | (go_at_call 129; refine (chooseI _ _ _).mono ?_; rintro e w' ⟨rfl, hw'⟩; obtain rfl := hw'.symm; clear hw')
          | (go_at_call 130; refine (fallI _ _ _).mono ?_; rintro e w' ⟨rfl, hw'⟩; obtain rfl := hw'.symm; clear hw')
          | (go_at_call 37; refine (mulI _ _ _).mono ?_; rw [hw]; rintro e w' ⟨rfl, hw'⟩; obtain rfl := hw'.symm; clear hw'))
        all_goals
          gi_wp2
          refine hRd.mono ?_
          rintro e W3 (⟨rfl, hJ3, hk3⟩ | ⟨rfl, hJx3⟩)
          · gi_wp2
            go_roundw
            case rel => exact ⟨k + 1, by omega, by go_num, hJ3, boxed_cells (W := wr.drew) b1 hk3, boxed_cells (W := wr.drew) b2 hk3⟩
            case measure => simp [RowKit.intOf]; omega
          · gi_wp2
            refine bodyPost_ret (results_none rfl _ _ _) rfl ?_
            exact ⟨⟨_, rfl⟩, .inr ⟨_, trivial, hJx3⟩⟩
      · have hk3 : k = lim + 1 := by omega
        subst hk3
        gi_wp2
        go_end0
        exact ⟨⟨_, rfl⟩, .inl ⟨_, rfl, hJ⟩⟩
theorem takenStops {n : Nat} (hn : 1 ≤ n) (B1 B2 : Nat) (s t : Int) (lim : Nat) (s0 : 0 ≤ s) (s1 : s ≤ 15) (t0 : 0 ≤ t) (t1 : t ≤ 15) (hl : (lim : Int) = min s t) (w : World) (hb1 : Boxed w B1 3 (.int .i64 s)) (hb2 : Boxed w B2 3 (.int .i64 t)) :
    SeqStopsK Fence.wide n Try.prog 128 #[.pointer (some ⟨B1, 0, none⟩), .pointer (some ⟨B2, 0, none⟩)] encK cellsK (fun xs => xs = uptoK lim s t (lim + 1)) (fun _ => True) (lim + 1) w := fun l J Jx W hW hJ _ hY h0 =>
  taken1 hn l B1 B2 s t lim s0 s1 t0 t1 hl J Jx (fun pre W h => hJ pre W W.drew none h (drewG W) (fun r e => by cases e)) hY W ((hW.block B1 hb1.lt).trans hb1) ((hW.block B2 hb2.lt).trans hb2) h0
set_option maxHeartbeats 1000000 in
theorem takenV {F : Fence} {n : Nat} (h7 : F.fn 114) (hro : F.round = none) (s t : Int) (w : World) :
    CallsIn F n Try.prog 114 #[.int .i64 s, .int .i64 t] w fun e w' => e = .returned (.func (.func 128) #[] #[.pointer (some ⟨w.heap.size, 0, none⟩), .pointer (some ⟨w.heap.size + 1, 0, none⟩)]) ∧ w' = (w.alloc (.cells #[.int .i64 s] 3)).alloc (.cells #[.int .i64 t] 3) := by
  refine callsIn_of_wp Try.func114 rfl h7 ?_ hro
  simp only [Try.ntmps114, List.size_toArray, List.length_cons, List.length_nil, Nat.reduceAdd, Nat.reduceSub, Array.replicate_succ, Array.replicate_zero, List.push_toArray, List.append_toArray, List.nil_append, List.cons_append]
  gi_wp2
  go_ret
  exact ⟨rfl, rfl⟩
end Go.Proofs.Ytbkighpmkadmmaa
namespace Go.Proofs.Ytbkighpmkadmmaa
open Go.RowKit
set_option linter.unusedVariables false

theorem round_any {m m' : Nat} {P : Program} {l : Nat} {f : FuncId} {tmps : Array Value} {assign body : Code} {w : World} {R : Ending → World → Prop} (h : RoundIn Fence.wide m P l f tmps assign body w R) : RoundIn Fence.wide m' P l f tmps assign body w R := ⟨h.1, fun c cs _ => h.2 c cs (room_wide _)⟩
theorem yield_any {m : Nat} (m' : Nat) {P : Program} {l : Nat} {args : Array Value} {W : World} {R : Ending → World → Prop} (h : YieldAt Fence.wide m P l args W R) : YieldAt Fence.wide m' P l args W R := by
  obtain ⟨fn, tmps, assign, body, hy, hR⟩ := h
  exact ⟨fn, tmps, assign, body, hy, round_any hR⟩
theorem keeps_not_cells {W W' : World} {row : Option Nat} {B : Nat} (hg : W.grownBy W' row) (hr : ∀ r, row = some r → B ≤ r) {k : Nat} {o : Obj} (hk : W.heap[k]? = some o) (hkB : k < B) : W'.heap[k]? = some o :=
  (hg.block k (Array.getElem?_eq_some_iff.1 hk).1 (fun e => by have := hr k e.symm; omega)).trans hk
theorem kf_mono {B B' : Nat} {W W' : World} (h : KeepsFrom B W W') (hB : B ≤ B') : KeepsFrom B' W W' := ⟨h.size, fun k o hk => h.same k o (Nat.le_trans hB hk)⟩
/-- the iterator g, with lb captured, gives just xs, where every round goes on and keeps all cells. -/
def SeqL {α : Type} (P : Program) (g : Nat) (lb : Array Value) (encs : α → Array Value) (xs : List α) (w : World) : Prop :=
  ∀ (l : Nat) (J : List α → World → Prop) (W : World), Below w.heap.size w W → OwnFrom W.heap.size J →
    (∀ pre x W1, J pre W1 → YieldAt Fence.wide 0 P l (encs x) W1 fun e W' => e = .returned (.bool true) ∧ J (pre ++ [x]) W' ∧ cellsK W1 W' ∧ KeepsFrom W.heap.size W1 W') →
    J [] W → Calls P g (#[.func (.yield l) #[] #[]] ++ lb) W fun e W' => (∃ v, e = .returned v) ∧ J xs W'
set_option maxHeartbeats 1000000 in
theorem rangeL {α : Type} {P : Program} {n : Nat} {g : Operand} {ps : Array Tmp} {assign body : Code} {Q : Exit → Act → World → Prop} {a : Act} {w : World} (h1 : 1 ≤ n) {gf : Nat} {lb : Array Value} (hg : a.eval g = .func (.func gf) #[] lb)
    (eg : ∀ args w, (callFunc gf args).run P w = .ok (.enter gf args) w) {encs : α → Array Value} {xs : List α} {w0 : World} (hseq : SeqL P gf lb encs xs w0) (hb0 : Below w0.heap.size w0 w) (hps : ∀ x, (encs x).size = ps.size)
    (I : List α → World → Prop) (hI : OwnFrom w.heap.size I) (h0 : I [] w) (Ax : α → Act → World → Prop) (hAx : ∀ x a', OwnFrom w.heap.size (fun (_ : Unit) W => Ax x a' W))
    (hassign : ∀ (l : Nat) (pre : List α) (x : α) (W : World) (K : Act → World → Prop), I pre W → (∀ a' W', KeepsFrom w.heap.size W W' → cellsK W W' → I pre W' → Ax x a' W' → K a' W') →
      assign.wpIn (Fence.wide.inRound l) 0 P (Exit.then K (fun _ _ _ => False)) { tmps := (ps.zip (encs x)).foldl (fun t (p, v) => t.setIfInBounds p v) a.tmps, defers := [] } W)
    (hbody : ∀ (l : Nat) (pre : List α) (x : α) (a' : Act) (W : World), I pre W → Ax x a' W → body.wpIn (Fence.wide.inRound l) 0 P (fun e _ W' => e = .normal ∧ KeepsFrom w.heap.size W W' ∧ cellsK W W' ∧ I (pre ++ [x]) W') a' W)
    (hdone : ∀ (D : Nat) (W : World), w.heap.size ≤ D → I xs W → W.heap[D]? = some (.deferred (some [])) → Q .normal { a with defers := { target := .collected D, args := #[] } :: a.defers } W) :
    (Code.rangeFunc g ps assign body).wpIn Fence.wide n P Q a w := by
  refine wpIn_rangeFunc ?_
  intro fn hfn
  obtain ⟨rec, hrec⟩ : ∃ rec : LoopState → Option Code → Loop, rec = fun st pe => { state := st, pending := pe, fn, tmps := a.tmps, params := ps, assign, body, defers := w.heap.size } := ⟨_, rfl⟩
  obtain ⟨W1, hW1⟩ : ∃ W1, (w.alloc (.deferred (some []))).alloc (.loop (rec .ready none)) = W1 := ⟨_, rfl⟩
  have hs1 : W1.heap.size = w.heap.size + 2 := by rw [← hW1]; simp
  have hL1 : W1.heap[w.heap.size + 1]? = some (.loop (rec .ready none)) := by
    rw [← hW1]
    have := World.alloc_heap_new (w.alloc (.deferred (some []))) (.loop (rec .ready none))
    rwa [World.size_alloc] at this
  have hK1 : W1.heap[w.heap.size]? = some (.deferred (some [])) := by
    rw [← hW1]
    exact (Below.heap_alloc _ _ _ (by simp)).trans (World.alloc_heap_new w _)
  have hI1 : I [] W1 := by rw [← hW1]; exact hI.alloc _ (hI.alloc _ h0)
  have hb1 : Below w0.heap.size w0 W1 := by
    rw [← hW1]
    exact hb0.trans ((((Below.refl _ w).alloc (Nat.le_refl _) _).alloc (by simp) _).mono hb0.size)
  refine ⟨w.heap.size + 1, [{ target := .collected w.heap.size, args := #[] }], W1, { target := .fn (.func gf) lb, args := #[.func (.yield (w.heap.size + 1)) #[] #[]] }, W1, gf,
    #[.func (.yield (w.heap.size + 1)) #[] #[]] ++ lb, W1, ?_, ?_, ?_, ?_, fun _ => h1, ?_⟩
  · rw [← hW1, hrec]; exact run_enterLoop_outer _ _ _ _ _
  · simp only [resolve, hg]
    simp [go_sem]
  · intro f' _; exact trivial
  · simp [invoke, go_sem, eg]
  · refine callsIn_wide.2 ((hseq (w.heap.size + 1) (fun pre W => I pre W ∧ W.heap[w.heap.size + 1]? = some (.loop (rec .ready none)) ∧ W.heap[w.heap.size]? = some (.deferred (some []))) W1 hb1
      (fun s A B row hs hg' hr => ⟨hI s A B row hs.1 hg' (fun r e => ⟨by have := (hr r e).1; omega, (hr r e).2⟩), keeps_not_cells hg' (B := W1.heap.size) (fun r e => (hr r e).1) hs.2.1 (by omega), keeps_not_cells hg' (B := W1.heap.size) (fun r e => (hr r e).1) hs.2.2 (by omega)⟩)
      ?_ ⟨hI1, hL1, hK1⟩).mono ?_)
    · rintro pre x W ⟨hi, hl, hk⟩
      have hy := run_yield (P := P) (args := encs x) hl (by rw [hrec]; exact hps x)
      rw [hrec] at hy
      refine ⟨fn, _, assign, body, hy, roundIn_of_wpIn hfn (hassign _ pre x W _ hi ?_)⟩
      clear hy
      intro a' Wa hkfa hkpa hia hax
      have hla := hkfa.same _ _ (by omega) hl rfl
      have hka := hkfa.same _ _ (Nat.le_refl _) hk rfl
      have hlt : w.heap.size + 1 < Wa.heap.size := (Array.getElem?_eq_some_iff.1 hla).1
      refine ⟨_, run_beginRound hla (by rw [hrec]), ?_⟩
      have hl2 : (Wa.putObj (w.heap.size + 1) (.loop { rec .ready none with state := .busy })).heap[w.heap.size + 1]? = some (.loop { rec .ready none with state := .busy }) := World.putObj_heap_same hlt
      have hk2 : (Wa.putObj (w.heap.size + 1) (.loop { rec .ready none with state := .busy })).heap[w.heap.size]? = some (.deferred (some [])) := (World.putObj_heap_other (by omega)).trans hka
      have hw2 : cellsK Wa (Wa.putObj (w.heap.size + 1) (.loop { rec .ready none with state := .busy })) := cellsK_b (w := w) _ _ _ _ (by omega) hla rfl rfl
      refine wpIn_mono (hbody _ pre x a' _ (hI.putObj _ hia (by omega) hla rfl) ((hAx x a').putObj (s := ()) _ hax (by omega) hla rfl)) ?_
      rintro e a3 W3 ⟨rfl, hk3, hkp3, hi3⟩
      have hl3 := hk3.same _ _ (by omega) hl2 rfl
      have hr := run_endRound (P := P) none hl3
      refine ⟨_, _, hr, rfl, ⟨hI.putObj _ hi3 (by omega) hl3 rfl, ?_, (World.putObj_heap_other (by omega)).trans (hk3.same _ _ (Nat.le_refl _) hk2 rfl)⟩, cellsK_t hkpa (cellsK_t (cellsK_t hw2 hkp3) (cellsK_b (w := w) _ _ _ _ (by omega) hl3 rfl rfl)), (kf_mono hkfa (by omega)).trans ((KeepsFrom.of_grownBy (grownBy_putObj' Wa (w.heap.size + 1) (.loop { rec .ready none with state := .busy })) (fun j e => by cases e; omega)).trans ((kf_mono hk3 (by omega)).trans (KeepsFrom.of_grownBy (grownBy_putObj' W3 (w.heap.size + 1) _) (fun j e => by cases e; omega))))⟩
      rw [hrec]
      exact World.putObj_heap_same (Array.getElem?_eq_some_iff.1 hl3).1
    · rintro e W2 ⟨⟨v, rfl⟩, hi, hl, hk⟩
      refine ⟨none, _, by have := run_endLoop (P := P) hl (by rw [hrec]; simp); rw [hrec] at this; exact this, hdone _ _ (Nat.le_refl _) (hI.putObj _ hi (by omega) hl rfl) ((World.putObj_heap_other (by omega)).trans hk)⟩
end Go.Proofs.Ytbkighpmkadmmaa
namespace Go.Proofs.Ytbkighpmkadmmaa
open Go.RowKit Go.Maps
set_option linter.unusedVariables false
attribute [local go_sem] Oper.semAt_some

/-- a term of numbers of the field and a monomial that is ok. -/
abbrev TO : Type := { t : T // t.m.ok = true ∧ 0 ≤ t.c ∧ t.c ≤ 100 }
def encT (x : TO) : Array Value := #[.agg #[.int .i64 x.1.c, .int .i64 x.1.m.x, .int .i64 x.1.m.y, .int .i64 x.1.m.d, .int .i64 x.1.m.e]]
def addAll (c : M → Int) (xs : List TO) : M → Int := xs.foldl (fun c t => updC c t.1.m t.1.c) c
theorem addAll_snoc (c : M → Int) (xs : List TO) (x : TO) : addAll c (xs ++ [x]) = updC (addAll c xs) x.1.m x.1.c := by simp [addAll]
theorem flat_len {α β : Type} (k : Nat) (f : α → List β) (h : ∀ x, (f x).length = k) : ∀ l : List α, (l.flatMap f).length = l.length * k
  | [] => by simp
  | x :: r => by rw [List.flatMap_cons, List.length_append, h, flat_len k f h r, List.length_cons, Nat.add_mul]; omega
/-- block Bx holds a term. -/
def TermAt (W : World) (Bx : Nat) (t : T) : Prop := W.heap[Bx]? = some (.cells #[.int .i64 t.c, .int .i64 t.m.x, .int .i64 t.m.y, .int .i64 t.m.d, .int .i64 t.m.e] 33 (0, 0))
theorem TermAt.cells {W : World} {Bx : Nat} {t : T} (h : TermAt W Bx t) : W.cell? ⟨Bx, 0, none⟩ = some (.int .i64 t.c) ∧ W.cell? ⟨Bx, 1, none⟩ = some (.int .i64 t.m.x) ∧ W.cell? ⟨Bx, 2, none⟩ = some (.int .i64 t.m.y) ∧ W.cell? ⟨Bx, 3, none⟩ = some (.int .i64 t.m.d) ∧ W.cell? ⟨Bx, 4, none⟩ = some (.int .i64 t.m.e) := by
  unfold TermAt at h
  refine ⟨?_, ?_, ?_, ?_, ?_⟩ <;> (unfold World.cell?; simp only [h]; rfl)
theorem own_block {B Bx : Nat} {o : Obj} (ho : o.isCells = true) {X Y : World} {row : Option Nat} (h : X.heap[Bx]? = some o) (hg : X.grownBy Y row) (hr : ∀ r, row = some r → B ≤ r ∧ ∃ o : Obj, X.heap[r]? = some o ∧ o.isCells = false) : Y.heap[Bx]? = some o :=
  (hg.block Bx (Array.getElem?_eq_some_iff.1 h).1 (fun e => by obtain ⟨_, o', ho', hc⟩ := hr Bx e.symm; rw [h] at ho'; cases ho'; rw [ho] at hc; cases hc)).trans h
/-- all monomials that are ok. -/
def allM : List M := (List.range 16).flatMap fun (x : Nat) => (List.range 16).flatMap fun (y : Nat) => (List.range 16).flatMap fun (d : Nat) => (List.range 16).map fun (e : Nat) => (⟨(x : Int), (y : Int), (d : Int), (e : Int)⟩ : M)
theorem allM_len : allM.length = 65536 := by
  unfold allM
  rw [flat_len (16 * (16 * 16)) _ (fun x => by rw [flat_len (16 * 16) _ (fun y => by rw [flat_len 16 _ (fun d => by simp)]; simp)]; simp)]
  simp
theorem allM_mem {m : M} (h : m.ok = true) : m ∈ allM := by
  obtain ⟨x1, x2, y1, y2, d1, d2, e1, e2⟩ := M.ok_iff.1 h
  unfold allM
  refine List.mem_flatMap.2 ⟨m.x.toNat, List.mem_range.2 (by omega), List.mem_flatMap.2 ⟨m.y.toNat, List.mem_range.2 (by omega), List.mem_flatMap.2 ⟨m.d.toNat, List.mem_range.2 (by omega), List.mem_map.2 ⟨m.e.toNat, List.mem_range.2 (by omega), ?_⟩⟩⟩⟩
  cases m
  simp only at x1 y1 d1 e1 ⊢
  rw [Int.toNat_of_nonneg x1, Int.toNat_of_nonneg y1, Int.toNat_of_nonneg d1, Int.toNat_of_nonneg e1]
theorem SumR.cap {w : World} {b n : Nat} {c : M → Int} (h : SumR w b n c) : SumR w b 65536 c := by
  obtain ⟨D, hown, hc, hat, hks⟩ := h
  have hs : Maps.size D ≤ 65536 := by
    rw [← allM_len]
    exact size_le hown allM (fun kl hkl => by obtain ⟨m, hm, rfl⟩ := hks kl hkl; exact ⟨m, allM_mem hm, rfl⟩)
  refine ⟨D, ?_, hc, hat, hks⟩
  obtain ⟨es, clock, h1, h2, h3, h4⟩ := hown
  subst h4
  rw [size_eq, length_read] at hs
  exact ⟨es, clock, h1, h2, hs, rfl⟩
theorem SumR.lt {w : World} {b n : Nat} {c : M → Int} (h : SumR w b n c) : b < w.heap.size := by obtain ⟨D, ho, _⟩ := h; exact ho.lt
theorem SumR.map {w : World} {b n : Nat} {c : M → Int} (h : SumR w b n c) : ∀ o, w.heap[b]? = some o → o.isCells = false := by
  obtain ⟨D, ⟨es, clock, h1, _⟩, _⟩ := h
  intro o ho
  rw [h1] at ho
  cases ho
  rfl
theorem grown_far {w W W' : World} {b : Nat} {row : Option Nat} (h : w.grownBy W (some b)) (hg : W.grownBy W' row) (hr : ∀ r, row = some r → w.heap.size ≤ r) : w.grownBy W' (some b) :=
  ⟨hg.os.trans h.os, hg.tape.trans h.tape, hg.output.trans h.output, Nat.le_trans h.size hg.size, fun k hk hne => (hg.block k (Nat.lt_of_lt_of_le hk h.size) (fun e => by have := hr k e.symm; omega)).trans (h.block k hk hne)⟩
set_option maxRecDepth 100000 in
set_option maxHeartbeats 4000000 in
theorem gatherI (w : World) (b : Nat) (c : M → Int) (h : SumR w b 65536 c) (g : Nat) (lb : Array Value) (eg : ∀ args w, (callFunc g args).run Try.prog w = .ok (.enter g args) w) (xs : List TO) (hseq : SeqL Try.prog g lb encT xs w) :
    Calls Try.prog 95 #[.map (some b), .func (.func g) #[] lb] w fun e w' => e = .returned (.tuple #[]) ∧ SumR w' b 65536 (addAll c xs) ∧ w.grownBy w' (some b) := by
  have hblt := h.lt
  have HS := Hid.mk' h
  have HQ := Hid.mk' hseq
  clear h hseq
  refine (callsIn_wide (n := 9)).1 ?_
  refine callsIn_of_wp_marks Try.func95 rfl trivial ?_ rfl
  simp only [Try.ntmps95, List.size_toArray, List.length_cons, List.length_nil, Nat.reduceAdd, Nat.reduceSub, Array.replicate_succ, Array.replicate_zero, List.push_toArray, List.append_toArray, List.nil_append, List.cons_append]
  gi_wp2
  have bs := Boxed.new w 98 (.map (some b))
  have hg0 := World.grownBy_alloc w (.cells #[.map (some b)] 98) (some b)
  have hS0 := HS.out.grown (World.grownBy_alloc w (.cells #[.map (some b)] 98) none) (by simp)
  have hbw : Below w.heap.size w (w.alloc (.cells #[.map (some b)] 98)) := (Below.refl _ w).alloc (Nat.le_refl _) _
  have hs0 : (w.alloc (.cells #[.map (some b)] 98)).heap.size = w.heap.size + 1 := by simp
  generalize w.alloc (.cells #[.map (some b)] 98) = W0 at *
  refine rangeL (by decide) (gf := g) (lb := lb) rfl eg HQ.out hbw (fun _ => rfl)
    (fun (pre : List TO) W => SumR W b 65536 (addAll c pre) ∧ (Boxed W w.heap.size 98 (.map (some b)) ∧ w.grownBy W (some b)))
    (OwnFrom.and (fun s X Y row hs hg hr => hs.grown hg (fun e => by have := (hr b e.symm).1; omega)) (OwnFrom.and (Own.from (boxed_own _ _ (fun _ => Value.map (some b))) _) (fun s X Y row hs hg hr => grown_far hs hg (fun r e => by have := (hr r e).1; omega))))
    ⟨hS0, bs, hg0⟩
    (fun x a' W => ∃ Bx, TermAt W Bx x.1 ∧ a' = ({ tmps := #[.map (some b), .func (.func g) #[] lb, .pointer (some ⟨w.heap.size, 0, none⟩), undef, .pointer (some ⟨Bx, 0, none⟩), .func (.func g) #[] lb, .agg #[.int .i64 x.1.c, .int .i64 x.1.m.x, .int .i64 x.1.m.y, .int .i64 x.1.m.d, .int .i64 x.1.m.e], undef, undef, undef, undef, undef, undef], defers := [] } : Act))
    (fun x a' _ X Y row hs hg hr => by obtain ⟨Bx, h2, h3⟩ := hs; exact ⟨Bx, own_block rfl h2 hg hr, h3⟩)
    ?assign ?body ?done
  case assign =>
    rintro l pre x W K' ⟨hS, bS, hgW⟩ hK'
    obtain ⟨t, ht⟩ := x
    dsimp only [encT] at hK' ⊢
    gi_wp2
    exact hK' _ _ ((KeepsOthers.alloc _ _).from _) (cellsK_alloc _ _) ⟨hS.grown (World.grownBy_alloc W _ none) (by simp), bS.alloc _, hgW.trans (World.grownBy_alloc W _ (some b))⟩ ⟨W.heap.size, World.alloc_heap_new W _, rfl⟩
  case body =>
    rintro l pre x a' W ⟨hS, bS, hgW⟩ ⟨Bx, hX, rfl⟩
    obtain ⟨t, hto, htc, htc'⟩ := x
    dsimp only at hX ⊢
    obtain ⟨x0, x1, x2, x3, x4⟩ := hX.cells
    have cS := bS.cell
    have HSS := Hid.mk' hS
    clear hS
    gi_wp2_with (first
      | (refine ⟨trivial, rfl, ?_⟩; gi_at_call 112; (refine (CallsIn.inRound l (callsIn_wide.2 (sumAddR b 65536 _ t.c t.m W hto HSS.out (by unfold maxLen; omega) htc htc'))).mono ?_; rintro e w' ⟨rfl, hs', hg'⟩))
      | gi_in)
    have hk : cellsK W w' := cellsK_grown hg' (fun k e o ho => by cases e; exact HSS.out.map o ho)
    refine ⟨KeepsFrom.of_grownBy hg' (fun j e => by cases e; omega), hk, ?_, boxed_cells bS hk, hgW.trans hg'⟩
    rw [addAll_snoc]
    exact hs'.cap
  case done =>
    rintro D W hD ⟨hS, bS, hgW⟩ hKd
    gi_wp2
    refine ⟨by simp, .inl ⟨_, _, rfl, run_takeDeferred hKd, ?_⟩⟩
    exact ⟨_, results_none rfl _ _ _, rfl, hS.grown (grownBy_putObj' W D (.deferred none)) (fun e => by cases e; omega), grown_far hgW (grownBy_putObj' W D (.deferred none)) (fun r e => by cases e; omega)⟩
end Go.Proofs.Ytbkighpmkadmmaa
