/-
  Counting within a side: the mathematics of IdlFlat.
  A range over an iterator that turns boxes of its own (blocks lo .. hi); its body may leave the loop.
  Counting within a side: the model's IdlFlat.
-/
import Derived.Test.YtbkighpmkadmmaaGbf
import Derived.Test.YtbkighpmkadmmaaGaa
import Derived.RangeFuncNested
import Derived.RangeFuncLeaves
import Derived.Deep.RegionHeld3
namespace Go.Proofs.Ytbkighpmkadmmaa
open Go.RowKit
set_option linter.unusedVariables false

/-- the sum of the first n. -/
def fsumN (φ : Nat → Nat) : Nat → Nat
  | 0 => 0
  | n + 1 => fsumN φ n + φ n
theorem fsumN_congr {φ ψ : Nat → Nat} : ∀ {n : Nat}, (∀ i, i < n → φ i = ψ i) → fsumN φ n = fsumN ψ n
  | 0, _ => rfl
  | n + 1, h => by
    show fsumN φ n + φ n = fsumN ψ n + ψ n
    rw [fsumN_congr (fun i hi => h i (by omega)), h n (by omega)]
theorem fsumN_add (φ ψ : Nat → Nat) : ∀ n, fsumN (fun i => φ i + ψ i) n = fsumN φ n + fsumN ψ n
  | 0 => rfl
  | n + 1 => by
    show fsumN (fun i => φ i + ψ i) n + (φ n + ψ n) = (fsumN φ n + φ n) + (fsumN ψ n + ψ n)
    rw [fsumN_add φ ψ n]
    omega
theorem fsumN_zero : ∀ n, fsumN (fun _ => 0) n = 0
  | 0 => rfl
  | n + 1 => by show fsumN (fun _ => 0) n + 0 = 0; rw [fsumN_zero n]
theorem fsumN_swap (φ : Nat → Nat → Nat) (m : Nat) : ∀ n, fsumN (fun i => fsumN (φ i) m) n = fsumN (fun k => fsumN (fun i => φ i k) n) m
  | 0 => (fsumN_zero m).symm
  | n + 1 => by
    show fsumN (fun i => fsumN (φ i) m) n + fsumN (φ n) m = _
    rw [fsumN_swap φ m n, ← fsumN_add]
    rfl
theorem fsumN_split (φ : Nat → Nat) (a : Nat) : ∀ b, fsumN φ (a + b) = fsumN φ a + fsumN (fun i => φ (a + i)) b
  | 0 => rfl
  | b + 1 => by
    show fsumN φ (a + b) + φ (a + b) = fsumN φ a + (fsumN (fun i => φ (a + i)) b + φ (a + b))
    rw [fsumN_split φ a b]
    omega
/-- a number's last digit and the rest. -/
theorem fsumN_digits (φ : Nat → Nat → Nat) {b : Nat} (hb : 0 < b) : ∀ c, fsumN (fun n => φ (n % b) (n / b)) (b * c) = fsumN (fun k => fsumN (fun i => φ i k) b) c
  | 0 => rfl
  | c + 1 => by
    show fsumN (fun n => φ (n % b) (n / b)) (b * c + b) = fsumN (fun k => fsumN (fun i => φ i k) b) c + fsumN (fun i => φ i c) b
    rw [fsumN_split, fsumN_digits φ hb c]
    congr 1
    refine fsumN_congr fun i hi => ?_
    show φ ((b * c + i) % b) ((b * c + i) / b) = φ i c
    rw [Nat.mul_add_mod, Nat.mod_eq_of_lt hi, Nat.mul_add_div hb, Nat.div_eq_of_lt hi, Nat.add_zero]
/-- the four digits of a number, and four loops. -/
theorem sum_four (φ : Nat → Nat → Nat → Nat → Nat) {b : Nat} (hb : 0 < b) :
    fsumN (fun n => φ (n % b) (n / b % b) (n / b / b % b) (n / b / b / b)) (b * (b * (b * b))) = fsumN (fun x => fsumN (fun y => fsumN (fun d => fsumN (fun e => φ x y d e) b) b) b) b := by
  rw [fsumN_digits (fun x k => φ x (k % b) (k / b % b) (k / b / b)) hb (b * (b * b))]
  rw [fsumN_digits (fun y k => fsumN (fun x => φ x y (k % b) (k / b)) b) hb (b * b)]
  rw [fsumN_digits (fun d e => fsumN (fun y => fsumN (fun x => φ x y d e) b) b) hb b]
  -- e d y x: turned to x y d e
  have h1 : ∀ e, fsumN (fun d => fsumN (fun y => fsumN (fun x => φ x y d e) b) b) b = fsumN (fun x => fsumN (fun y => fsumN (fun d => φ x y d e) b) b) b := fun e => by
    have s1 : fsumN (fun d => fsumN (fun y => fsumN (fun x => φ x y d e) b) b) b = fsumN (fun d => fsumN (fun x => fsumN (fun y => φ x y d e) b) b) b := fsumN_congr fun d _ => fsumN_swap (fun y x => φ x y d e) b b
    rw [s1, fsumN_swap (fun d x => fsumN (fun y => φ x y d e) b) b b]
    exact fsumN_congr fun x _ => fsumN_swap (fun d y => φ x y d e) b b
  rw [fsumN_congr (fun e _ => h1 e), fsumN_swap (fun e x => fsumN (fun y => fsumN (fun d => φ x y d e) b) b) b b]
  refine fsumN_congr fun x _ => ?_
  rw [fsumN_swap (fun e y => fsumN (fun d => φ x y d e) b) b b]
  refine fsumN_congr fun y _ => ?_
  exact fsumN_swap (fun e d => φ x y d e) b b
/-- a monomial that is counted. -/
def fm (x y d e : Nat) : M := ⟨x, y, d, e⟩
def fGood (o : Int) (n : Nat) (ln : Nat → Nat) (f : Nat → Nat → T) (m : M) : Bool := decide (idxF (fun t => M.dvd t.m m) (ldAt o ln f) n < 0)
def fEdge (s : Nat) (x y d e : Nat) : Bool := decide (x = s ∨ y = s ∨ d = s ∨ e = s)
/-- how many are counted, and how many of these have one as great as the side. -/
def flatN (o : Int) (n : Nat) (ln : Nat → Nat) (f : Nat → Nat → T) (s : Nat) : Nat := fsumN (fun x => fsumN (fun y => fsumN (fun d => fsumN (fun e => if fGood o n ln f (fm x y d e) = true then 1 else 0) (s + 1)) (s + 1)) (s + 1)) (s + 1)
def flatE (o : Int) (n : Nat) (ln : Nat → Nat) (f : Nat → Nat → T) (s : Nat) : Nat := fsumN (fun x => fsumN (fun y => fsumN (fun d => fsumN (fun e => if fGood o n ln f (fm x y d e) = true ∧ fEdge s x y d e = true then 1 else 0) (s + 1)) (s + 1)) (s + 1)) (s + 1)
def idlFlat (o : Int) (n : Nat) (ln : Nat → Nat) (f : Nat → Nat → T) (side : Int) : Int × Bool :=
  if (1 ≤ o ∧ o ≤ 3) ∧ lstOk n ln f = true ∧ 0 ≤ side ∧ side ≤ 6 then ((flatN o n ln f side.toNat : Int), decide (flatE o n ln f side.toNat = 0)) else (0, false)
end Go.Proofs.Ytbkighpmkadmmaa
namespace Go.Proofs.Ytbkighpmkadmmaa
open Go.RowKit
set_option linter.unusedVariables false
theorem rndSp {m m' : Nat} {P : Program} {l : Nat} {f : FuncId} {tmps : Array Value} {assign body : Code} {w : World} {R : Ending → World → Prop} (h : RoundIn Fence.wide m P l f tmps assign body w R) : RoundIn Fence.wide m' P l f tmps assign body w R := ⟨h.1, fun c cs _ => h.2 c cs (room_wide _)⟩
theorem yldB {m : Nat} (m' : Nat) {P : Program} {l : Nat} {args : Array Value} {W : World} {R : Ending → World → Prop} (h : YieldAt Fence.wide m P l args W R) : YieldAt Fence.wide m' P l args W R := by
  obtain ⟨fn, tmps, assign, body, hy, hR⟩ := h
  exact ⟨fn, tmps, assign, body, hy, rndSp hR⟩
/-- nothing from lo to hi has turned. -/
def KpB (lo hi : Nat) (A B : World) : Prop := A.heap.size ≤ B.heap.size ∧ ∀ k, lo ≤ k → k < hi → B.heap[k]? = A.heap[k]?
theorem KpB.trans {lo hi : Nat} {A B C : World} (h : KpB lo hi A B) (g : KpB lo hi B C) : KpB lo hi A C := ⟨Nat.le_trans h.1 g.1, fun k a b => (g.2 k a b).trans (h.2 k a b)⟩
theorem KpB.put {lo hi l : Nat} (hl : hi ≤ l) (W : World) (o : Obj) : KpB lo hi W (W.putObj l o) := ⟨by simp, fun k _ h => World.putObj_heap_other (by omega)⟩
theorem KpB.below {lo hi n : Nat} {A B : World} (h : Below n A B) (hn : hi ≤ n) : KpB lo hi A B := ⟨h.size, fun k _ hk => h.block k (by omega)⟩
theorem KpB.refl (lo hi : Nat) (A : World) : KpB lo hi A A := ⟨Nat.le_refl _, fun _ _ _ => rfl⟩
theorem KpB.grown {lo hi : Nat} {A B : World} {row : Option Nat} (hg : A.grownBy B row) (hh : hi ≤ A.heap.size) (hr : ∀ k, row = some k → k < lo ∨ hi ≤ k) : KpB lo hi A B :=
  ⟨hg.size, fun k a b => hg.block k (by omega) (fun e => by have := hr k e.symm; omega)⟩
/-- the iterator g, with lb captured, gives xs, and turns only its boxes. -/
def SeqB {α : Type} (P : Program) (g : Nat) (lb : Array Value) (encs : α → Array Value) (lo hi : Nat) (xs : List α) (w : World) : Prop :=
  ∀ (l : Nat) (J Jx : List α → World → Prop) (W : World), Below w.heap.size w W → OwnFrom W.heap.size J → (∀ pre A k v, lo ≤ k → k < hi → J pre A → J pre (A.setCell ⟨k, 0, none⟩ v)) →
    (∀ pre x W1, J pre W1 → pre ++ [x] <+: xs → YieldAt Fence.wide 0 P l (encs x) W1 fun e W' => (e = .returned (.bool true) ∧ J (pre ++ [x]) W' ∧ KpB lo hi W1 W') ∨ (e = .returned (.bool false) ∧ Jx (pre ++ [x]) W')) →
    J [] W → Calls P g (#[.func (.yield l) #[] #[]] ++ lb) W fun e W' => (∃ v, e = .returned v) ∧ (J xs W' ∨ ∃ pre, pre <+: xs ∧ Jx pre W')
def postB {α : Type} (B lo hi : Nat) (I : List α → World → Prop) (Ix : Code → List α → World → Prop) (xs : List α) (W : World) : Exit → Act → World → Prop
  | .normal, _, W' => KeepsFrom B W W' ∧ KpB lo hi W W' ∧ I xs W'
  | .ret, _, W' => KeepsFrom B W W' ∧ Ix .ret xs W'
  | _, _, _ => False
theorem kfs {B : Nat} {W W' : World} (h : KeepsFrom B W W') {k : Nat} {o : Obj} (hk : B ≤ k) (h0 : W.heap[k]? = some o) (ho : o.isCells = false) : W'.heap[k]? = some o := h.same k o hk h0 ho
theorem own_kept {W W' : World} {row : Option Nat} {B : Nat} (hg : W.grownBy W' row) (hr : ∀ r, row = some r → B ≤ r) {k : Nat} {o : Obj} (hk : W.heap[k]? = some o) (hkB : k < B) : W'.heap[k]? = some o :=
  (hg.block k (Array.getElem?_eq_some_iff.1 hk).1 (fun e => by have := hr k e.symm; omega)).trans hk
set_option maxHeartbeats 1000000 in
theorem rangeB {α : Type} {P : Program} {n : Nat} {g : Operand} {ps : Array Tmp} {assign body : Code} {Q : Exit → Act → World → Prop} {a : Act} {w : World} (h1 : 1 ≤ n) {gf : Nat} {lb : Array Value} (hg : a.eval g = .func (.func gf) #[] lb)
    (eg : ∀ args w, (callFunc gf args).run P w = .ok (.enter gf args) w) {encs : α → Array Value} {lo hi : Nat} {xs : List α} {w0 : World} (hseq : SeqB P gf lb encs lo hi xs w0) (hb0 : Below w0.heap.size w0 w) (hhi : hi ≤ w.heap.size) (hps : ∀ x, (encs x).size = ps.size)
    (I : List α → World → Prop) (Ix : Code → List α → World → Prop) (hI : OwnFrom w.heap.size I) (hIb : ∀ pre A k v, lo ≤ k → k < hi → I pre A → I pre (A.setCell ⟨k, 0, none⟩ v)) (hIx : ∀ c, OwnFrom w.heap.size (Ix c)) (h0 : I [] w) (Ax : α → Act → World → Prop) (hAx : ∀ x a', OwnFrom w.heap.size (fun (_ : Unit) W => Ax x a' W))
    (hassign : ∀ (l : Nat) (pre : List α) (x : α) (W : World) (K : Act → World → Prop), I pre W → (∀ a' W', KeepsFrom w.heap.size W W' → KpB lo hi W W' → I pre W' → Ax x a' W' → K a' W') →
      assign.wpIn (Fence.wide.inRound l) 0 P (Exit.then K (fun _ _ _ => False)) { tmps := (ps.zip (encs x)).foldl (fun t (p, v) => t.setIfInBounds p v) a.tmps, defers := [] } W)
    (hbody : ∀ (l : Nat) (pre : List α) (x : α) (a' : Act) (W : World), I pre W → Ax x a' W → pre ++ [x] <+: xs → body.wpIn (Fence.wide.inRound l) 0 P (postB w.heap.size lo hi I Ix (pre ++ [x]) W) a' W)
    (hdone : ∀ (D : Nat) (W : World), w.heap.size ≤ D → I xs W → W.heap[D]? = some (.deferred (some [])) → Q .normal { a with defers := { target := .collected D, args := #[] } :: a.defers } W)
    (hstop : ∀ (D : Nat) (c : Code) (pre : List α) (W : World), w.heap.size ≤ D → pre <+: xs → Ix c pre W → W.heap[D]? = some (.deferred (some [])) → c.wpIn Fence.wide n P Q { a with defers := { target := .collected D, args := #[] } :: a.defers } W) :
    (Code.rangeFunc g ps assign body).wpIn Fence.wide n P Q a w := by
  refine wpIn_rangeFunc ?_
  intro fn hfn
  obtain ⟨rec, hrec⟩ : ∃ rec : LoopState → Option Code → Loop, rec = fun st pe => { state := st, pending := pe, fn, tmps := a.tmps, params := ps, assign, body, defers := w.heap.size } := ⟨_, rfl⟩
  obtain ⟨W1, hW1⟩ : ∃ W1, (w.alloc (.deferred (some []))).alloc (.loop (rec .ready none)) = W1 := ⟨_, rfl⟩
  have hs1 : W1.heap.size = w.heap.size + 2 := by rw [← hW1]; simp
  have hL1 : W1.heap[w.heap.size + 1]? = some (.loop (rec .ready none)) := by
    rw [← hW1]
    have := World.alloc_heap_new (w.alloc (.deferred (some []))) (.loop (rec .ready none))
    rwa [World.size_alloc] at this
  have hK1 : W1.heap[w.heap.size]? = some (.deferred (some [])) := by
    rw [← hW1]
    exact (Below.heap_alloc _ _ _ (by simp)).trans (World.alloc_heap_new w _)
  have hI1 : I [] W1 := by rw [← hW1]; exact hI.alloc _ (hI.alloc _ h0)
  have hb1 : Below w0.heap.size w0 W1 := by
    rw [← hW1]
    exact hb0.trans ((((Below.refl _ w).alloc (Nat.le_refl _) _).alloc (by simp) _).mono hb0.size)
  refine ⟨w.heap.size + 1, [{ target := .collected w.heap.size, args := #[] }], W1, { target := .fn (.func gf) lb, args := #[.func (.yield (w.heap.size + 1)) #[] #[]] }, W1, gf,
    #[.func (.yield (w.heap.size + 1)) #[] #[]] ++ lb, W1, ?_, ?_, ?_, ?_, fun _ => h1, ?_⟩
  · rw [← hW1, hrec]; exact run_enterLoop_outer _ _ _ _ _
  · simp only [resolve, hg]
    simp [go_sem]
  · intro f' _; exact trivial
  · simp [invoke, go_sem, eg]
  · refine callsIn_wide.2 ((hseq (w.heap.size + 1)
      (fun pre W => I pre W ∧ W.heap[w.heap.size + 1]? = some (.loop (rec .ready none)) ∧ W.heap[w.heap.size]? = some (.deferred (some [])))
      (fun pre W => ∃ c, Ix c pre W ∧ W.heap[w.heap.size + 1]? = some (.loop (rec .done (some c))) ∧ W.heap[w.heap.size]? = some (.deferred (some []))) W1 hb1
      (fun s A B row hs hg' hr => ⟨hI s A B row hs.1 hg' (fun r e => ⟨by have := (hr r e).1; omega, (hr r e).2⟩), own_kept hg' (B := W1.heap.size) (fun r e => (hr r e).1) hs.2.1 (by omega), own_kept hg' (B := W1.heap.size) (fun r e => (hr r e).1) hs.2.2 (by omega)⟩)
      (fun pre A k v a1 a2 hs => ⟨hIb pre A k v a1 a2 hs.1, (Below.heap_setCell _ _ _ _ (by simp; omega)).trans hs.2.1, (Below.heap_setCell _ _ _ _ (by simp; omega)).trans hs.2.2⟩)
      ?_ ⟨hI1, hL1, hK1⟩).mono ?_)
    · rintro pre x W ⟨hi', hl, hk⟩ hpre
      have hy := run_yield (P := P) (args := encs x) hl (by rw [hrec]; exact hps x)
      rw [hrec] at hy
      refine ⟨fn, _, assign, body, hy, roundIn_of_wpIn hfn (hassign _ pre x W _ hi' ?_)⟩
      clear hy
      intro a' Wa hkfa hkpa hia hax
      have hla := kfs hkfa (by omega) hl rfl
      have hka := kfs hkfa (Nat.le_refl _) hk rfl
      have hlt : w.heap.size + 1 < Wa.heap.size := (Array.getElem?_eq_some_iff.1 hla).1
      refine ⟨_, run_beginRound hla (by rw [hrec]), ?_⟩
      have hl2 : (Wa.putObj (w.heap.size + 1) (.loop { rec .ready none with state := .busy })).heap[w.heap.size + 1]? = some (.loop { rec .ready none with state := .busy }) := World.putObj_heap_same hlt
      have hk2 : (Wa.putObj (w.heap.size + 1) (.loop { rec .ready none with state := .busy })).heap[w.heap.size]? = some (.deferred (some [])) := (World.putObj_heap_other (by omega)).trans hka
      have hw2 : KpB lo hi Wa (Wa.putObj (w.heap.size + 1) (.loop { rec .ready none with state := .busy })) := KpB.put (by omega) _ _
      refine wpIn_mono (hbody _ pre x a' _ (hI.putObj _ hia (by omega) hla rfl) ((hAx x a').putObj (s := ()) _ hax (by omega) hla rfl) hpre) ?_
      have fin : ∀ (jump : Option Code) (W3 : World), KeepsFrom w.heap.size (Wa.putObj (w.heap.size + 1) (.loop { rec .ready none with state := .busy })) W3 →
          (Instr.endRound (w.heap.size + 1) jump).run P W3 = .ok (.bool jump.isNone) (W3.putObj (w.heap.size + 1) (.loop (rec (if jump.isNone then .ready else .done) jump))) ∧
          W3.heap[w.heap.size + 1]? = some (.loop { rec .ready none with state := .busy }) ∧
          (W3.putObj (w.heap.size + 1) (.loop (rec (if jump.isNone then .ready else .done) jump))).heap[w.heap.size + 1]? = some (.loop (rec (if jump.isNone then .ready else .done) jump)) ∧
          (W3.putObj (w.heap.size + 1) (.loop (rec (if jump.isNone then .ready else .done) jump))).heap[w.heap.size]? = some (.deferred (some [])) := fun jump W3 hk3 => by
        have hl3 := kfs hk3 (by omega) hl2 rfl
        have := run_endRound (P := P) jump hl3
        rw [hrec] at this ⊢
        exact ⟨this, by rw [hrec] at hl3; exact hl3, World.putObj_heap_same (Array.getElem?_eq_some_iff.1 hl3).1, (World.putObj_heap_other (by omega)).trans (kfs hk3 (Nat.le_refl _) hk2 rfl)⟩
      rintro e a3 W3 hp
      cases e with
      | normal =>
        obtain ⟨hk3, hkp3, hi3⟩ := hp
        obtain ⟨hr, hl3, hl4, hk4⟩ := fin none W3 hk3
        exact ⟨_, _, hr, .inl ⟨rfl, ⟨hI.putObj _ hi3 (by omega) hl3 rfl, hl4, hk4⟩, (hkpa.trans hw2).trans (hkp3.trans (KpB.put (by omega) _ _))⟩⟩
      | ret =>
        obtain ⟨hk3, hi3⟩ := hp
        obtain ⟨hr, hl3, hl4, hk4⟩ := fin (some .ret) W3 hk3
        exact ⟨_, _, hr, .inr ⟨rfl, .ret, (hIx _).putObj _ hi3 (by omega) hl3 rfl, hl4, hk4⟩⟩
      | exit id => exact hp.elim
      | goto t => exact hp.elim
      | panic ch => exact hp.elim
      | outgrown => exact hp.elim
    · rintro e W2 ⟨⟨v, rfl⟩, (⟨hi', hl, hk⟩ | ⟨pre, hSp, c, hi', hl, hk⟩)⟩
      · exact ⟨none, _, by have := run_endLoop (P := P) hl (by rw [hrec]; simp); rw [hrec] at this; exact this, hdone _ _ (Nat.le_refl _) (hI.putObj _ hi' (by omega) hl rfl) ((World.putObj_heap_other (by omega)).trans hk)⟩
      · exact ⟨some c, _, by have := run_endLoop (P := P) hl (by rw [hrec]; simp); rw [hrec] at this; exact this, hstop _ c pre _ (Nat.le_refl _) hSp ((hIx c).putObj _ hi' (by omega) hl rfl) ((World.putObj_heap_other (by omega)).trans hk)⟩
end Go.Proofs.Ytbkighpmkadmmaa
namespace Go.Proofs.Ytbkighpmkadmmaa
open Go.RowKit Go.Deep Go.Joins
set_option linter.unusedVariables false

set_option maxRecDepth 100000 in
set_option maxHeartbeats 4000000 in
theorem l7FindI (w : World) (o : Int) (a : Option Addr) (n cap : Nat) (ad : Nat → Option Addr) (ln cp : Nat → Nat) (f : Nat → Nat → T) (m : M) (h : RdS w a n cap ad ln cp f) (hok : ∀ i, i < n → ln i ≠ 0 ∧ polOk (ln i) (f i) = true) :
    Calls Try.prog 52 #[.int .i64 o, .slice a n cap, .agg #[.int .i64 m.x, .int .i64 m.y, .int .i64 m.d, .int .i64 m.e]] w fun r w' => r = .returned (.int .i64 (idxF (fun t => M.dvd t.m m) (ldAt o ln f) n)) ∧ Below w.heap.size w w' := by
  have hn : (n : Int) ≤ 140737488351232 := by have := h.2.1; omega
  have HB0 := Hid.mk' (bel_one w (.cells #[.int .i64 m.x, .int .i64 m.y, .int .i64 m.d, .int .i64 m.e] 31))
  have HM0 := Hid.mk' (M4.box w 31 m.x m.y m.d m.e)
  have HH := Hid.mk' h
  have HO := Hid.mk' hok
  clear h hok
  go_enter Try.func52, Try.ntmps52
  go_wp2
  go_loopw [7] (fun v wr => ∃ i : Nat, i ≤ n ∧ v = .int .i64 (i : Int) ∧ Below w.heap.size w wr ∧ M4 wr w.heap.size m.x m.y m.d m.e ∧ ∀ j, j < i → M.dvd (ldAt o ln f j).m m = false) (fun v _ => n - (intOf v).toNat)
  case atStart => exact ⟨0, Nat.zero_le _, rfl, HB0.out, HM0.out, fun j hj => by omega⟩
  case round =>
    obtain ⟨i, hi, rfl, hB, hM, hJ⟩ := hrel
    have HJ := Hid.mk' hJ
    have HB := Hid.mk' hB
    have HM := Hid.mk' hM
    clear hJ
    by_cases hlt : i < n
    · rcases HH.out.2.2.1 with h0 | ⟨b, off, rfl, hblt, hcl⟩
      · omega
      have hil : (i : Int) < (n : Int) := by omega
      have hbr : b < wr.heap.size := Nat.lt_of_lt_of_le hblt hB.size
      have g0 : wr.cell? ⟨b, off + i, none⟩ = some (.slice (ad i) (ln i) (cp i)) := (hB.cell (p := ⟨b, off + i, none⟩) hblt).trans (hcl i hlt)
      have hS : L5 b (off + i) w.heap.size (.slice (ad i) (ln i) (cp i)) m wr.drew := ⟨g0, hM.1, hM.2.1, hM.2.2.1, hM.2.2.2⟩
      have hoi := HO.out i hlt
      have fl := fl_of_ok hoi.2
      have HK := Hid.mk' ((HH.out.2.2.2 i hlt).below hB)
      obtain ⟨t, ht⟩ : ∃ t, ldAt o ln f i = t := ⟨_, rfl⟩
      have hlead : Calls Try.prog 46 #[.int .i64 o, .slice (ad i) (ln i) (cp i)] wr.drew fun r w' => r = .returned (.agg #[.int .i64 t.c, .int .i64 t.m.x, .int .i64 t.m.y, .int .i64 t.m.d, .int .i64 t.m.e]) ∧ Below wr.drew.heap.size wr.drew w' := by
        have := l3LeadS wr.drew o (ad i) (ln i) (cp i) (f i) (HK.out.below (Below.refl _ _).drew) (by omega) (fun j hj => (fl.2 j hj).1)
        rw [show f i (leadAt o (f i) (ln i)) = t from ht] at this
        exact this
      obtain ⟨bv, hbv⟩ : ∃ bv, M.dvd ⟨t.m.x, t.m.y, t.m.d, t.m.e⟩ ⟨m.x, m.y, m.d, m.e⟩ = bv := ⟨_, rfl⟩
      have HT : Hid (M.dvd (ldAt o ln f i).m m = bv) := by
        show M.dvd (ldAt o ln f i).m m = bv
        rw [ht]
        exact hbv
      have hfield : ∀ W : World, (Instr.field 33 (Value.agg #[.int .i64 t.c, .int .i64 t.m.x, .int .i64 t.m.y, .int .i64 t.m.d, .int .i64 t.m.e]) 1).run Try.prog W = .ok (Value.agg #[.int .i64 t.m.x, .int .i64 t.m.y, .int .i64 t.m.d, .int .i64 t.m.e]) W := fun W => by kernel_rfl
      have HBD := Hid.mk' hB.drew
      have HMD := Hid.mk' hM.drew'
      clear hcl hB hM g0 hoi fl ht hbr
      go_wp2_with fail
      go_region_held3 (fun u => u.cell? ⟨b, off + i, none⟩ = some (.slice (ad i) (ln i) (cp i)) ∧ u.cell? ⟨w.heap.size, 0, none⟩ = some (.int .i64 m.x) ∧ u.cell? ⟨w.heap.size, 1, none⟩ = some (.int .i64 m.y) ∧ u.cell? ⟨w.heap.size, 2, none⟩ = some (.int .i64 m.d) ∧ u.cell? ⟨w.heap.size, 3, none⟩ = some (.int .i64 m.e)) (first | with_reducible exact hS | with_reducible exact L5.below hS b1 | with_reducible exact L5.below (L5.below hS b1) b2) (first | (go_at_call 46; refine hlead.mono ?_; rintro e w1 ⟨rfl, b1⟩) | (go_at_call 86; refine (monDividesS_of hbv _).mono ?_; rintro e w2 ⟨rfl, b2⟩))
      have HBV := Hid.mk' (bel_next (bel_next HBD.out b1) b2)
      have HMV := Hid.mk' ((HMD.out.below b1).below b2)
      clear hS hlead hbv b1 b2 hfield
      cases bv
      · go_wp2
        go_roundw
        case rel => exact ⟨i + 1, by omega, by go_num, HBV.out, HMV.out, fun j hj => by
          by_cases e : j = i
          · rw [e]; exact HT.out
          · exact HJ.out j (by omega)⟩
        case measure => simp [intOf]; omega
      · go_wp2
        go_ret
        have e : idxF (fun t => M.dvd t.m m) (ldAt o ln f) n = (i : Int) := idx_hit (p := fun t => M.dvd t.m m) (f := ldAt o ln f) HJ.out HT.out n hlt
        rw [e]
        exact ⟨rfl, HBV.out⟩
    · have hnl : ¬ (i : Int) < (n : Int) := by omega
      have hie : i = n := by omega
      subst hie
      go_wp2
      go_ret
      have e : idxF (fun t => M.dvd t.m m) (ldAt o ln f) i = -1 := idx_none (p := fun t => M.dvd t.m m) (f := ldAt o ln f) HJ.out
      rw [e]
      exact ⟨rfl, HB.out⟩
theorem idxF_bd {p : T → Bool} {f : Nat → T} : ∀ n, -1 ≤ idxF p f n ∧ idxF p f n < n + 1
  | 0 => ⟨by show (-1 : Int) ≤ -1; omega, by show (-1 : Int) < ((0 : Nat) : Int) + 1; omega⟩
  | n + 1 => by
    have ih := idxF_bd (p := p) (f := f) n
    unfold idxF
    split
    · exact ⟨by omega, by omega⟩
    · split
      · exact ⟨by omega, by omega⟩
      · exact ⟨by omega, by omega⟩
theorem fsumN_next (φ : Nat → Nat) (n : Nat) : fsumN φ (n + 1) = fsumN φ n + φ n := rfl
set_option maxRecDepth 100000 in
set_option maxHeartbeats 16000000 in
theorem idlFlatS_ok (w : World) (o : Int) (a : Option Addr) (n cap : Nat) (ad : Nat → Option Addr) (ln cp : Nat → Nat) (f : Nat → Nat → T) (s : Nat) (h : RdS w a n cap ad ln cp f) (o1 : 1 ≤ o) (o2 : o ≤ 3) (hl : lstOk n ln f = true) (hs : s ≤ 6) :
    Calls Try.prog 18 #[.int .i64 o, .slice a n cap, .int .i64 (s : Int)] w fun r w' => r = .returned (.tuple #[.int .i64 (flatN o n ln f s : Int), .bool (decide (flatE o n ln f s = 0))]) ∧ Below w.heap.size w w' := by
  have HH := Hid.mk' h
  have HLO := Hid.mk' (lstOk_all hl).2
  have s0 : (0 : Int) ≤ (s : Int) := by omega
  have s6 : (s : Int) ≤ 6 := by omega
  obtain ⟨G, hG⟩ : ∃ G : Nat → Nat → Nat → Nat → Nat, G = fun x y d e => if fGood o n ln f (fm x y d e) = true then 1 else 0 := ⟨_, rfl⟩
  obtain ⟨E, hE⟩ : ∃ E : Nat → Nat → Nat → Nat → Nat, E = fun x y d e => if fGood o n ln f (fm x y d e) = true ∧ fEdge s x y d e = true then 1 else 0 := ⟨_, rfl⟩
  have HGD := Hid.mk' hG
  have HED := Hid.mk' hE
  have HFN : Hid (flatN o n ln f s = fsumN (fun x => fsumN (fun y => fsumN (fun d => fsumN (fun e => G x y d e) (s + 1)) (s + 1)) (s + 1)) (s + 1)) := by show _ = _; rw [hG]; rfl
  have HFE : Hid (flatE o n ln f s = fsumN (fun x => fsumN (fun y => fsumN (fun d => fsumN (fun e => E x y d e) (s + 1)) (s + 1)) (s + 1)) (s + 1)) := by show _ = _; rw [hE]; rfl
  clear h hG hE
  go_enter Try.func18, Try.ntmps18
  go_wp2_with (go_at_call 51; refine (inS_in _ _ _ _ (by omega) (by omega)).mono ?_; rintro r w' ⟨rfl, hw'⟩; obtain rfl := hw'.symm; clear hw')
  refine (lstOkS _ _ _ _ _ _ _ _ HH.out).mono ?_
  rw [hl]
  rintro r w1 ⟨rfl, hb1⟩
  have HB1 := Hid.mk' hb1
  clear hb1
  go_wp2_with (go_at_call 51; refine (inS_in _ _ _ _ (by omega) (by omega)).mono ?_; rintro r w' ⟨rfl, hw'⟩; obtain rfl := hw'.symm; clear hw')
  go_loopw [8, 9, 10] (fun nv ev iv wr => ∃ (x N E9 : Nat) (ed : Bool), x ≤ s + 1 ∧ iv = .int .i64 (x : Int) ∧ nv = .int .i64 (N : Int) ∧ ev = .bool ed ∧ Hid (ed = decide (E9 ≠ 0)) ∧ Hid (N = fsumN (fun x => fsumN (fun y => fsumN (fun d => fsumN (fun e => G x y d e) (s + 1)) (s + 1)) (s + 1)) x) ∧ Hid (E9 = fsumN (fun x => fsumN (fun y => fsumN (fun d => fsumN (fun e => E x y d e) (s + 1)) (s + 1)) (s + 1)) x) ∧ N ≤ 343 * x ∧ Hid (Below w.heap.size w wr)) (fun _ _ iv _ => 7 - (intOf iv).toNat)
  case atStart => exact ⟨0, 0, 0, false, Nat.zero_le _, rfl, rfl, rfl, Hid.mk' rfl, Hid.mk' rfl, Hid.mk' rfl, by omega, HB1⟩
  case round =>
    obtain ⟨x, N0, E0, ed0, hx, rfl, rfl, rfl, HD0, HN0, HE0, m0, HB2⟩ := hrel
    by_cases lx : x ≤ s
    · have cx : (x : Int) ≤ (s : Int) := by omega
      go_wp2
      go_loopw [8, 9, 11] (fun nv ev iv wr => ∃ (y N E9 : Nat) (ed : Bool), y ≤ s + 1 ∧ iv = .int .i64 (y : Int) ∧ nv = .int .i64 (N : Int) ∧ ev = .bool ed ∧ Hid (ed = decide (E9 ≠ 0)) ∧ Hid (N = N0 + fsumN (fun y => fsumN (fun d => fsumN (fun e => G x y d e) (s + 1)) (s + 1)) y) ∧ Hid (E9 = E0 + fsumN (fun y => fsumN (fun d => fsumN (fun e => E x y d e) (s + 1)) (s + 1)) y) ∧ N ≤ 343 * x + 49 * y ∧ Hid (Below w.heap.size w wr)) (fun _ _ iv _ => 7 - (intOf iv).toNat)
      case atStart => exact ⟨0, N0, E0, ed0, Nat.zero_le _, rfl, rfl, rfl, HD0, Hid.mk' rfl, Hid.mk' rfl, by omega, HB2⟩
      case round =>
        obtain ⟨y, N1, E1, ed1, hy, rfl, rfl, rfl, HD1, HN1, HE1, m1, HB3⟩ := hrel
        by_cases ly : y ≤ s
        · have cy : (y : Int) ≤ (s : Int) := by omega
          go_wp2
          go_loopw [8, 9, 12] (fun nv ev iv wr => ∃ (d N E9 : Nat) (ed : Bool), d ≤ s + 1 ∧ iv = .int .i64 (d : Int) ∧ nv = .int .i64 (N : Int) ∧ ev = .bool ed ∧ Hid (ed = decide (E9 ≠ 0)) ∧ Hid (N = N1 + fsumN (fun d => fsumN (fun e => G x y d e) (s + 1)) d) ∧ Hid (E9 = E1 + fsumN (fun d => fsumN (fun e => E x y d e) (s + 1)) d) ∧ N ≤ 343 * x + 49 * y + 7 * d ∧ Hid (Below w.heap.size w wr)) (fun _ _ iv _ => 7 - (intOf iv).toNat)
          case atStart => exact ⟨0, N1, E1, ed1, Nat.zero_le _, rfl, rfl, rfl, HD1, Hid.mk' rfl, Hid.mk' rfl, by omega, HB3⟩
          case round =>
            obtain ⟨d, N2, E2, ed2, hd, rfl, rfl, rfl, HD2, HN2, HE2, m2, HB4⟩ := hrel
            by_cases ld : d ≤ s
            · have cd : (d : Int) ≤ (s : Int) := by omega
              go_wp2
              go_loopw [8, 9, 13] (fun nv ev iv wr => ∃ (e N E9 : Nat) (ed : Bool), e ≤ s + 1 ∧ iv = .int .i64 (e : Int) ∧ nv = .int .i64 (N : Int) ∧ ev = .bool ed ∧ Hid (ed = decide (E9 ≠ 0)) ∧ Hid (N = N2 + fsumN (fun e => G x y d e) e) ∧ Hid (E9 = E2 + fsumN (fun e => E x y d e) e) ∧ N ≤ 343 * x + 49 * y + 7 * d + 1 * e ∧ Hid (Below w.heap.size w wr)) (fun _ _ iv _ => 7 - (intOf iv).toNat)
              case atStart => exact ⟨0, N2, E2, ed2, Nat.zero_le _, rfl, rfl, rfl, HD2, Hid.mk' rfl, Hid.mk' rfl, by omega, HB4⟩
              case round =>
                obtain ⟨e, N3, E3, ed3, he, rfl, rfl, rfl, HD3, HN3, HE3, m3, HB5⟩ := hrel
                by_cases le : e ≤ s
                · have ce : (e : Int) ≤ (s : Int) := by omega
                  have hfi := fun W hW => l7FindI W o a n cap ad ln cp f (fm x y d e) hW HLO.out
                  have HFI := Hid.mk' hfi
                  clear hfi
                  obtain ⟨z, hz⟩ : ∃ z, idxF (fun t => M.dvd t.m (fm x y d e)) (ldAt o ln f) n = z := ⟨_, rfl⟩
                  have hzb := idxF_bd (p := fun t => M.dvd t.m (fm x y d e)) (f := ldAt o ln f) n
                  rw [hz] at hzb
                  have n12 := (lstOk_all hl).1
                  have HZ := Hid.mk' hz
                  clear hz
                  have hcall : Calls Try.prog 52 #[.int .i64 o, .slice a n cap, .agg #[.int .i64 (x : Int), .int .i64 (y : Int), .int .i64 (d : Int), .int .i64 (e : Int)]] wr fun r w' => r = .returned (.int .i64 z) ∧ Below wr.heap.size wr w' := by
                    have := HFI.out wr (HH.out.below HB5.out)
                    rw [HZ.out] at this
                    exact this
                  have HCALL := Hid.mk' hcall
                  clear hcall HFI
                  have HS1 : Hid (fsumN (fun e => G x y d e) (e + 1) = fsumN (fun e => G x y d e) e + G x y d e) := rfl
                  have HS2 : Hid (fsumN (fun e => E x y d e) (e + 1) = fsumN (fun e => E x y d e) e + E x y d e) := rfl
                  by_cases hz0 : z < 0
                  · have HG1 : Hid (G x y d e = 1) := by show G x y d e = 1; rw [HGD.out]; show (if fGood o n ln f (fm x y d e) = true then 1 else 0) = 1; rw [if_pos (by unfold fGood; rw [HZ.out]; exact decide_eq_true hz0)]
                    have HGO : Hid (fGood o n ln f (fm x y d e) = true) := by show fGood o n ln f (fm x y d e) = true; unfold fGood; rw [HZ.out]; exact decide_eq_true hz0
                    have HEDG : Hid (∀ b : Bool, b = decide (x = s ∨ y = s ∨ d = s ∨ e = s) → (ed3 || b) = decide (E3 + E x y d e ≠ 0)) := Hid.mk' (fun b hb => by
                      have hd := HD3.out
                      rw [HED.out]
                      show (ed3 || b) = decide (E3 + (if fGood o n ln f (fm x y d e) = true ∧ fEdge s x y d e = true then 1 else 0) ≠ 0)
                      rw [hd, hb]
                      unfold fEdge
                      by_cases q : x = s ∨ y = s ∨ d = s ∨ e = s
                      · rw [if_pos ⟨HGO.out, decide_eq_true q⟩, decide_eq_true q]; simp
                      · rw [if_neg (fun hh => q (of_decide_eq_true hh.2)), decide_eq_false q]; simp)
                    cases ed3
                    rotate_left
                    · have HEE : Hid (true = decide (E3 + E x y d e ≠ 0)) := Hid.mk' (HEDG.out _ rfl)
                      clear HEDG HD3
                      have HNX : Hid (N3 + 1 = N2 + fsumN (fun e => G x y d e) (e + 1)) := by show _ = _; rw [HS1.out, HG1.out, ← Nat.add_assoc, ← HN3.out]
                      have HEX : Hid (E3 + E x y d e = E2 + fsumN (fun e => E x y d e) (e + 1)) := by show _ = _; rw [HS2.out, ← Nat.add_assoc, ← HE3.out]
                      clear HG1 HGO HED HGD HS1 HS2 HZ HN3 HE3
                      go_wp2_with fail
                      refine HCALL.out.mono ?_
                      rintro r w6 ⟨rfl, hb6⟩
                      have HB6 := Hid.mk' (bel_next HB5.out hb6)
                      clear hb6 HCALL
                      go_wp2
                      go_roundw
                      case rel => exact ⟨e + 1, N3 + 1, E3 + E x y d e, true, by omega, by go_num, by go_num, rfl, HEE, HNX, HEX, by omega, HB6⟩
                      case measure => simp [intOf]; omega
                    by_cases qx : x = s
                    · have ebx : ((x : Int) == (s : Int)) = true := by simp; omega
                      have HEE : Hid (true = decide (E3 + E x y d e ≠ 0)) := Hid.mk' (by have h := HEDG.out true (decide_eq_true (by omega)).symm; simpa using h)
                      clear HEDG HD3 qx
                      have HNX : Hid (N3 + 1 = N2 + fsumN (fun e => G x y d e) (e + 1)) := by show _ = _; rw [HS1.out, HG1.out, ← Nat.add_assoc, ← HN3.out]
                      have HEX : Hid (E3 + E x y d e = E2 + fsumN (fun e => E x y d e) (e + 1)) := by show _ = _; rw [HS2.out, ← Nat.add_assoc, ← HE3.out]
                      clear HG1 HGO HED HGD HS1 HS2 HZ HN3 HE3
                      go_wp2_with fail
                      refine HCALL.out.mono ?_
                      rintro r w6 ⟨rfl, hb6⟩
                      have HB6 := Hid.mk' (bel_next HB5.out hb6)
                      clear hb6 HCALL
                      go_wp2
                      go_roundw
                      case rel => exact ⟨e + 1, N3 + 1, E3 + E x y d e, true, by omega, by go_num, by go_num, rfl, HEE, HNX, HEX, by omega, HB6⟩
                      case measure => simp [intOf]; omega
                    · have ebx : ((x : Int) == (s : Int)) = false := by simp; omega
                      have NX := Hid.mk' qx
                      clear qx
                      by_cases qy : y = s
                      · have eby : ((y : Int) == (s : Int)) = true := by simp; omega
                        have HEE : Hid (true = decide (E3 + E x y d e ≠ 0)) := Hid.mk' (by have h := HEDG.out true (decide_eq_true (by omega)).symm; simpa using h)
                        clear HEDG HD3 qy
                        have HNX : Hid (N3 + 1 = N2 + fsumN (fun e => G x y d e) (e + 1)) := by show _ = _; rw [HS1.out, HG1.out, ← Nat.add_assoc, ← HN3.out]
                        have HEX : Hid (E3 + E x y d e = E2 + fsumN (fun e => E x y d e) (e + 1)) := by show _ = _; rw [HS2.out, ← Nat.add_assoc, ← HE3.out]
                        clear HG1 HGO HED HGD HS1 HS2 HZ HN3 HE3
                        go_wp2_with fail
                        refine HCALL.out.mono ?_
                        rintro r w6 ⟨rfl, hb6⟩
                        have HB6 := Hid.mk' (bel_next HB5.out hb6)
                        clear hb6 HCALL
                        go_wp2
                        go_roundw
                        case rel => exact ⟨e + 1, N3 + 1, E3 + E x y d e, true, by omega, by go_num, by go_num, rfl, HEE, HNX, HEX, by omega, HB6⟩
                        case measure => simp [intOf]; omega
                      · have eby : ((y : Int) == (s : Int)) = false := by simp; omega
                        have NY := Hid.mk' qy
                        clear qy
                        by_cases qd : d = s
                        · have ebd : ((d : Int) == (s : Int)) = true := by simp; omega
                          have HEE : Hid (true = decide (E3 + E x y d e ≠ 0)) := Hid.mk' (by have h := HEDG.out true (decide_eq_true (by omega)).symm; simpa using h)
                          clear HEDG HD3 qd
                          have HNX : Hid (N3 + 1 = N2 + fsumN (fun e => G x y d e) (e + 1)) := by show _ = _; rw [HS1.out, HG1.out, ← Nat.add_assoc, ← HN3.out]
                          have HEX : Hid (E3 + E x y d e = E2 + fsumN (fun e => E x y d e) (e + 1)) := by show _ = _; rw [HS2.out, ← Nat.add_assoc, ← HE3.out]
                          clear HG1 HGO HED HGD HS1 HS2 HZ HN3 HE3
                          go_wp2_with fail
                          refine HCALL.out.mono ?_
                          rintro r w6 ⟨rfl, hb6⟩
                          have HB6 := Hid.mk' (bel_next HB5.out hb6)
                          clear hb6 HCALL
                          go_wp2
                          go_roundw
                          case rel => exact ⟨e + 1, N3 + 1, E3 + E x y d e, true, by omega, by go_num, by go_num, rfl, HEE, HNX, HEX, by omega, HB6⟩
                          case measure => simp [intOf]; omega
                        · have ebd : ((d : Int) == (s : Int)) = false := by simp; omega
                          have ND := Hid.mk' qd
                          clear qd
                          by_cases qe : e = s
                          · have ebe : ((e : Int) == (s : Int)) = true := by simp; omega
                            have HEE : Hid (true = decide (E3 + E x y d e ≠ 0)) := Hid.mk' (by have h := HEDG.out true (decide_eq_true (by omega)).symm; simpa using h)
                            clear HEDG HD3 qe
                            have HNX : Hid (N3 + 1 = N2 + fsumN (fun e => G x y d e) (e + 1)) := by show _ = _; rw [HS1.out, HG1.out, ← Nat.add_assoc, ← HN3.out]
                            have HEX : Hid (E3 + E x y d e = E2 + fsumN (fun e => E x y d e) (e + 1)) := by show _ = _; rw [HS2.out, ← Nat.add_assoc, ← HE3.out]
                            clear HG1 HGO HED HGD HS1 HS2 HZ HN3 HE3
                            go_wp2_with fail
                            refine HCALL.out.mono ?_
                            rintro r w6 ⟨rfl, hb6⟩
                            have HB6 := Hid.mk' (bel_next HB5.out hb6)
                            clear hb6 HCALL
                            go_wp2
                            go_roundw
                            case rel => exact ⟨e + 1, N3 + 1, E3 + E x y d e, true, by omega, by go_num, by go_num, rfl, HEE, HNX, HEX, by omega, HB6⟩
                            case measure => simp [intOf]; omega
                          · have ebe : ((e : Int) == (s : Int)) = false := by simp; omega
                            have NE := Hid.mk' qe
                            clear qe
                            have HEE : Hid (false = decide (E3 + E x y d e ≠ 0)) := Hid.mk' (HEDG.out false (decide_eq_false (fun q => by have := NX.out; have := NY.out; have := ND.out; have := NE.out; omega)).symm)
                            clear HEDG NX NY ND NE HD3
                            have HNX : Hid (N3 + 1 = N2 + fsumN (fun e => G x y d e) (e + 1)) := by show _ = _; rw [HS1.out, HG1.out, ← Nat.add_assoc, ← HN3.out]
                            have HEX : Hid (E3 + E x y d e = E2 + fsumN (fun e => E x y d e) (e + 1)) := by show _ = _; rw [HS2.out, ← Nat.add_assoc, ← HE3.out]
                            clear HG1 HGO HED HGD HS1 HS2 HZ HN3 HE3
                            go_wp2_with fail
                            refine HCALL.out.mono ?_
                            rintro r w6 ⟨rfl, hb6⟩
                            have HB6 := Hid.mk' (bel_next HB5.out hb6)
                            clear hb6 HCALL
                            go_wp2
                            go_roundw
                            case rel => exact ⟨e + 1, N3 + 1, E3 + E x y d e, false, by omega, by go_num, by go_num, rfl, HEE, HNX, HEX, by omega, HB6⟩
                            case measure => simp [intOf]; omega
                  · have HG0 : Hid (G x y d e = 0) := by show G x y d e = 0; rw [HGD.out]; show (if fGood o n ln f (fm x y d e) = true then 1 else 0) = 0; rw [if_neg (by unfold fGood; rw [HZ.out]; simpa using hz0)]
                    have HE00 : Hid (E x y d e = 0) := by show E x y d e = 0; rw [HED.out]; show (if fGood o n ln f (fm x y d e) = true ∧ fEdge s x y d e = true then 1 else 0) = 0; rw [if_neg (fun hh => by have := hh.1; unfold fGood at this; rw [HZ.out] at this; simp at this; omega)]
                    have HNX : Hid (N3 = N2 + fsumN (fun e => G x y d e) (e + 1)) := by show _ = _; rw [HS1.out, HG0.out, Nat.add_zero, ← HN3.out]
                    have HEX : Hid (E3 = E2 + fsumN (fun e => E x y d e) (e + 1)) := by show _ = _; rw [HS2.out, HE00.out, Nat.add_zero, ← HE3.out]
                    clear HG0 HE00 HED HGD HS1 HS2 HZ HN3 HE3
                    go_wp2_with fail
                    refine HCALL.out.mono ?_
                    rintro r w6 ⟨rfl, hb6⟩
                    have HB6 := Hid.mk' (bel_next HB5.out hb6)
                    clear hb6 HCALL
                    go_wp2
                    go_roundw
                    case rel => exact ⟨e + 1, N3, E3, ed3, by omega, by go_num, rfl, rfl, HD3, HNX, HEX, by omega, HB6⟩
                    case measure => simp [intOf]; omega
                · have ce : ¬ (e : Int) ≤ (s : Int) := by omega
                  have ze : e = s + 1 := by omega
                  have HXN : Hid (N3 = N1 + fsumN (fun d => fsumN (fun e => G x y d e) (s + 1)) (d + 1)) := by
                    show N3 = N1 + fsumN (fun d => fsumN (fun e => G x y d e) (s + 1)) (d + 1)
                    have hh : fsumN (fun d => fsumN (fun e => G x y d e) (s + 1)) (d + 1) = fsumN (fun d => fsumN (fun e => G x y d e) (s + 1)) d + fsumN (fun e => G x y d e) (s + 1) := rfl
                    have h1 := HN3.out
                    have h2 := HN2.out
                    rw [ze] at h1
                    rw [hh]
                    omega
                  have HXE : Hid (E3 = E1 + fsumN (fun d => fsumN (fun e => E x y d e) (s + 1)) (d + 1)) := by
                    show E3 = E1 + fsumN (fun d => fsumN (fun e => E x y d e) (s + 1)) (d + 1)
                    have hh : fsumN (fun d => fsumN (fun e => E x y d e) (s + 1)) (d + 1) = fsumN (fun d => fsumN (fun e => E x y d e) (s + 1)) d + fsumN (fun e => E x y d e) (s + 1) := rfl
                    have h1 := HE3.out
                    have h2 := HE2.out
                    rw [ze] at h1
                    rw [hh]
                    omega
                  have x3 : N3 ≤ 343 * x + 49 * y + 7 * (d + 1) := by omega
                  clear ze
                  go_wp2
                  go_roundw
                  case rel => exact ⟨d + 1, N3, E3, ed3, by omega, by go_num, rfl, rfl, HD3, HXN, HXE, x3, HB5⟩
                  case measure => simp [intOf]; omega
            · have cd : ¬ (d : Int) ≤ (s : Int) := by omega
              have zd : d = s + 1 := by omega
              have HXN : Hid (N2 = N0 + fsumN (fun y => fsumN (fun d => fsumN (fun e => G x y d e) (s + 1)) (s + 1)) (y + 1)) := by
                show N2 = N0 + fsumN (fun y => fsumN (fun d => fsumN (fun e => G x y d e) (s + 1)) (s + 1)) (y + 1)
                have hh : fsumN (fun y => fsumN (fun d => fsumN (fun e => G x y d e) (s + 1)) (s + 1)) (y + 1) = fsumN (fun y => fsumN (fun d => fsumN (fun e => G x y d e) (s + 1)) (s + 1)) y + fsumN (fun d => fsumN (fun e => G x y d e) (s + 1)) (s + 1) := rfl
                have h1 := HN2.out
                have h2 := HN1.out
                rw [zd] at h1
                rw [hh]
                omega
              have HXE : Hid (E2 = E0 + fsumN (fun y => fsumN (fun d => fsumN (fun e => E x y d e) (s + 1)) (s + 1)) (y + 1)) := by
                show E2 = E0 + fsumN (fun y => fsumN (fun d => fsumN (fun e => E x y d e) (s + 1)) (s + 1)) (y + 1)
                have hh : fsumN (fun y => fsumN (fun d => fsumN (fun e => E x y d e) (s + 1)) (s + 1)) (y + 1) = fsumN (fun y => fsumN (fun d => fsumN (fun e => E x y d e) (s + 1)) (s + 1)) y + fsumN (fun d => fsumN (fun e => E x y d e) (s + 1)) (s + 1) := rfl
                have h1 := HE2.out
                have h2 := HE1.out
                rw [zd] at h1
                rw [hh]
                omega
              have x3 : N2 ≤ 343 * x + 49 * (y + 1) := by omega
              clear zd
              go_wp2
              go_roundw
              case rel => exact ⟨y + 1, N2, E2, ed2, by omega, by go_num, rfl, rfl, HD2, HXN, HXE, x3, HB4⟩
              case measure => simp [intOf]; omega
        · have cy : ¬ (y : Int) ≤ (s : Int) := by omega
          have zy : y = s + 1 := by omega
          have HXN : Hid (N1 = fsumN (fun x => fsumN (fun y => fsumN (fun d => fsumN (fun e => G x y d e) (s + 1)) (s + 1)) (s + 1)) (x + 1)) := by
            show N1 = fsumN (fun x => fsumN (fun y => fsumN (fun d => fsumN (fun e => G x y d e) (s + 1)) (s + 1)) (s + 1)) (x + 1)
            have hh : fsumN (fun x => fsumN (fun y => fsumN (fun d => fsumN (fun e => G x y d e) (s + 1)) (s + 1)) (s + 1)) (x + 1) = fsumN (fun x => fsumN (fun y => fsumN (fun d => fsumN (fun e => G x y d e) (s + 1)) (s + 1)) (s + 1)) x + fsumN (fun y => fsumN (fun d => fsumN (fun e => G x y d e) (s + 1)) (s + 1)) (s + 1) := rfl
            have h1 := HN1.out
            have h2 := HN0.out
            rw [zy] at h1
            rw [hh]
            omega
          have HXE : Hid (E1 = fsumN (fun x => fsumN (fun y => fsumN (fun d => fsumN (fun e => E x y d e) (s + 1)) (s + 1)) (s + 1)) (x + 1)) := by
            show E1 = fsumN (fun x => fsumN (fun y => fsumN (fun d => fsumN (fun e => E x y d e) (s + 1)) (s + 1)) (s + 1)) (x + 1)
            have hh : fsumN (fun x => fsumN (fun y => fsumN (fun d => fsumN (fun e => E x y d e) (s + 1)) (s + 1)) (s + 1)) (x + 1) = fsumN (fun x => fsumN (fun y => fsumN (fun d => fsumN (fun e => E x y d e) (s + 1)) (s + 1)) (s + 1)) x + fsumN (fun y => fsumN (fun d => fsumN (fun e => E x y d e) (s + 1)) (s + 1)) (s + 1) := rfl
            have h1 := HE1.out
            have h2 := HE0.out
            rw [zy] at h1
            rw [hh]
            omega
          have x3 : N1 ≤ 343 * (x + 1) := by omega
          clear zy
          go_wp2
          go_roundw
          case rel => exact ⟨x + 1, N1, E1, ed1, by omega, by go_num, rfl, rfl, HD1, HXN, HXE, x3, HB3⟩
          case measure => simp [intOf]; omega
    · have cx : ¬ (x : Int) ≤ (s : Int) := by omega
      have zx : x = s + 1 := by omega
      have HFF := Hid.mk' (And.intro (HFN.out) (HFE.out))
      subst zx
      go_wp2
      refine bodyPost_ret (results_tmp2 rfl _ _ _) rfl ?_
      rw [HFF.out.1, HFF.out.2, ← HN0.out, ← HE0.out]
      refine ⟨?_, HB2.out⟩
      have hd := HD0.out
      by_cases hz : E0 = 0 <;> simp [hz] at hd ⊢ <;> simp [hd]
end Go.Proofs.Ytbkighpmkadmmaa
