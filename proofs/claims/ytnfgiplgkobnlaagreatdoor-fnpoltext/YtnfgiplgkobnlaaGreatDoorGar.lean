/-
  A range over an iterator that turns boxes of its own (blocks lo .. hi); its body may leave the loop.
  The library's SplitSeq at a single byte: it gives the words of a text.
  The program's text of a term.
-/
import Derived.Test.YtnfgiplgkobnlaaGreatDoorGaa
import Derived.RangeFuncNested
import Derived.RangeFuncLeaves
import Derived.Test.YtnfgiplgkobnlaaGreatDoorGaq
import Derived.Shelf.Strings.Search3
import Derived.OwnWalkIn
import Derived.TacticsInMore
import Derived.LoopNIn
import Derived.LoopIn
import Derived.WalkKit
import Derived.Test.YtnfgiplgkobnlaaGreatDoorGak
import Derived.Test.YtnfgiplgkobnlaaGreatDoorGan
import Derived.Test.YtnfgiplgkobnlaaGreatDoorGaf
import Derived.Laws.MakeOwn
namespace Go.Proofs.YtnfgiplgkobnlaaGreatDoor
open Go.RowKit
set_option linter.unusedVariables false
theorem rndB {m m' : Nat} {P : Program} {l : Nat} {f : FuncId} {tmps : Array Value} {assign body : Code} {w : World} {R : Ending → World → Prop} (h : RoundIn Fence.wide m P l f tmps assign body w R) : RoundIn Fence.wide m' P l f tmps assign body w R := ⟨h.1, fun c cs _ => h.2 c cs (room_wide _)⟩
theorem yldB {m : Nat} (m' : Nat) {P : Program} {l : Nat} {args : Array Value} {W : World} {R : Ending → World → Prop} (h : YieldAt Fence.wide m P l args W R) : YieldAt Fence.wide m' P l args W R := by
  obtain ⟨fn, tmps, assign, body, hy, hR⟩ := h
  exact ⟨fn, tmps, assign, body, hy, rndB hR⟩
/-- nothing from lo to hi has turned. -/
def KpB (lo hi : Nat) (A B : World) : Prop := A.heap.size ≤ B.heap.size ∧ ∀ k, lo ≤ k → k < hi → B.heap[k]? = A.heap[k]?
theorem KpB.trans {lo hi : Nat} {A B C : World} (h : KpB lo hi A B) (g : KpB lo hi B C) : KpB lo hi A C := ⟨Nat.le_trans h.1 g.1, fun k a b => (g.2 k a b).trans (h.2 k a b)⟩
theorem KpB.put {lo hi l : Nat} (hl : hi ≤ l) (W : World) (o : Obj) : KpB lo hi W (W.putObj l o) := ⟨by simp, fun k _ h => World.putObj_heap_other (by omega)⟩
theorem KpB.below {lo hi n : Nat} {A B : World} (h : Below n A B) (hn : hi ≤ n) : KpB lo hi A B := ⟨h.size, fun k _ hk => h.block k (by omega)⟩
theorem KpB.refl (lo hi : Nat) (A : World) : KpB lo hi A A := ⟨Nat.le_refl _, fun _ _ _ => rfl⟩
theorem KpB.grown {lo hi : Nat} {A B : World} {row : Option Nat} (hg : A.grownBy B row) (hh : hi ≤ A.heap.size) (hr : ∀ k, row = some k → k < lo ∨ hi ≤ k) : KpB lo hi A B :=
  ⟨hg.size, fun k a b => hg.block k (by omega) (fun e => by have := hr k e.symm; omega)⟩
/-- the iterator g, with lb captured, gives xs, and turns only its boxes. -/
def SeqB {α : Type} (P : Program) (g : Nat) (lb : Array Value) (encs : α → Array Value) (lo hi : Nat) (xs : List α) (w : World) : Prop :=
  ∀ (l : Nat) (J Jx : List α → World → Prop) (W : World), Below w.heap.size w W → OwnFrom W.heap.size J → (∀ pre A k v, lo ≤ k → k < hi → J pre A → J pre (A.setCell ⟨k, 0, none⟩ v)) →
    (∀ pre x W1, J pre W1 → pre ++ [x] <+: xs → YieldAt Fence.wide 0 P l (encs x) W1 fun e W' => (e = .returned (.bool true) ∧ J (pre ++ [x]) W' ∧ KpB lo hi W1 W') ∨ (e = .returned (.bool false) ∧ Jx (pre ++ [x]) W')) →
    J [] W → Calls P g (#[.func (.yield l) #[] #[]] ++ lb) W fun e W' => (∃ v, e = .returned v) ∧ (J xs W' ∨ ∃ pre, pre <+: xs ∧ Jx pre W')
def postB {α : Type} (B lo hi : Nat) (I : List α → World → Prop) (Ix : Code → List α → World → Prop) (xs : List α) (W : World) : Exit → Act → World → Prop
  | .normal, _, W' => KeepsFrom B W W' ∧ KpB lo hi W W' ∧ I xs W'
  | .ret, _, W' => KeepsFrom B W W' ∧ Ix .ret xs W'
  | _, _, _ => False
theorem kfs {B : Nat} {W W' : World} (h : KeepsFrom B W W') {k : Nat} {o : Obj} (hk : B ≤ k) (h0 : W.heap[k]? = some o) (ho : o.isCells = false) : W'.heap[k]? = some o := h.same k o hk h0 ho
theorem own_kept {W W' : World} {row : Option Nat} {B : Nat} (hg : W.grownBy W' row) (hr : ∀ r, row = some r → B ≤ r) {k : Nat} {o : Obj} (hk : W.heap[k]? = some o) (hkB : k < B) : W'.heap[k]? = some o :=
  (hg.block k (Array.getElem?_eq_some_iff.1 hk).1 (fun e => by have := hr k e.symm; omega)).trans hk
set_option maxHeartbeats 1000000 in
theorem rangeB {α : Type} {P : Program} {n : Nat} {g : Operand} {ps : Array Tmp} {assign body : Code} {Q : Exit → Act → World → Prop} {a : Act} {w : World} (h1 : 1 ≤ n) {gf : Nat} {lb : Array Value} (hg : a.eval g = .func (.func gf) #[] lb)
    (eg : ∀ args w, (callFunc gf args).run P w = .ok (.enter gf args) w) {encs : α → Array Value} {lo hi : Nat} {xs : List α} {w0 : World} (hseq : SeqB P gf lb encs lo hi xs w0) (hb0 : Below w0.heap.size w0 w) (hhi : hi ≤ w.heap.size) (hps : ∀ x, (encs x).size = ps.size)
    (I : List α → World → Prop) (Ix : Code → List α → World → Prop) (hI : OwnFrom w.heap.size I) (hIb : ∀ pre A k v, lo ≤ k → k < hi → I pre A → I pre (A.setCell ⟨k, 0, none⟩ v)) (hIx : ∀ c, OwnFrom w.heap.size (Ix c)) (h0 : I [] w) (Ax : α → Act → World → Prop) (hAx : ∀ x a', OwnFrom w.heap.size (fun (_ : Unit) W => Ax x a' W))
    (hassign : ∀ (l : Nat) (pre : List α) (x : α) (W : World) (K : Act → World → Prop), I pre W → (∀ a' W', KeepsFrom w.heap.size W W' → KpB lo hi W W' → I pre W' → Ax x a' W' → K a' W') →
      assign.wpIn (Fence.wide.inRound l) 0 P (Exit.then K (fun _ _ _ => False)) { tmps := (ps.zip (encs x)).foldl (fun t (p, v) => t.setIfInBounds p v) a.tmps, defers := [] } W)
    (hbody : ∀ (l : Nat) (pre : List α) (x : α) (a' : Act) (W : World), I pre W → Ax x a' W → pre ++ [x] <+: xs → body.wpIn (Fence.wide.inRound l) 0 P (postB w.heap.size lo hi I Ix (pre ++ [x]) W) a' W)
    (hdone : ∀ (D : Nat) (W : World), w.heap.size ≤ D → I xs W → W.heap[D]? = some (.deferred (some [])) → Q .normal { a with defers := { target := .collected D, args := #[] } :: a.defers } W)
    (hstop : ∀ (D : Nat) (c : Code) (pre : List α) (W : World), w.heap.size ≤ D → pre <+: xs → Ix c pre W → W.heap[D]? = some (.deferred (some [])) → c.wpIn Fence.wide n P Q { a with defers := { target := .collected D, args := #[] } :: a.defers } W) :
    (Code.rangeFunc g ps assign body).wpIn Fence.wide n P Q a w := by
  refine wpIn_rangeFunc ?_
  intro fn hfn
  obtain ⟨rec, hrec⟩ : ∃ rec : LoopState → Option Code → Loop, rec = fun st pe => { state := st, pending := pe, fn, tmps := a.tmps, params := ps, assign, body, defers := w.heap.size } := ⟨_, rfl⟩
  obtain ⟨W1, hW1⟩ : ∃ W1, (w.alloc (.deferred (some []))).alloc (.loop (rec .ready none)) = W1 := ⟨_, rfl⟩
  have hs1 : W1.heap.size = w.heap.size + 2 := by rw [← hW1]; simp
  have hL1 : W1.heap[w.heap.size + 1]? = some (.loop (rec .ready none)) := by
    rw [← hW1]
    have := World.alloc_heap_new (w.alloc (.deferred (some []))) (.loop (rec .ready none))
    rwa [World.size_alloc] at this
  have hK1 : W1.heap[w.heap.size]? = some (.deferred (some [])) := by
    rw [← hW1]
    exact (Below.heap_alloc _ _ _ (by simp)).trans (World.alloc_heap_new w _)
  have hI1 : I [] W1 := by rw [← hW1]; exact hI.alloc _ (hI.alloc _ h0)
  have hb1 : Below w0.heap.size w0 W1 := by
    rw [← hW1]
    exact hb0.trans ((((Below.refl _ w).alloc (Nat.le_refl _) _).alloc (by simp) _).mono hb0.size)
  refine ⟨w.heap.size + 1, [{ target := .collected w.heap.size, args := #[] }], W1, { target := .fn (.func gf) lb, args := #[.func (.yield (w.heap.size + 1)) #[] #[]] }, W1, gf,
    #[.func (.yield (w.heap.size + 1)) #[] #[]] ++ lb, W1, ?_, ?_, ?_, ?_, fun _ => h1, ?_⟩
  · rw [← hW1, hrec]; exact run_enterLoop_outer _ _ _ _ _
  · simp only [resolve, hg]
    simp [go_sem]
  · intro f' _; exact trivial
  · simp [invoke, go_sem, eg]
  · refine callsIn_wide.2 ((hseq (w.heap.size + 1)
      (fun pre W => I pre W ∧ W.heap[w.heap.size + 1]? = some (.loop (rec .ready none)) ∧ W.heap[w.heap.size]? = some (.deferred (some [])))
      (fun pre W => ∃ c, Ix c pre W ∧ W.heap[w.heap.size + 1]? = some (.loop (rec .done (some c))) ∧ W.heap[w.heap.size]? = some (.deferred (some []))) W1 hb1
      (fun s A B row hs hg' hr => ⟨hI s A B row hs.1 hg' (fun r e => ⟨by have := (hr r e).1; omega, (hr r e).2⟩), own_kept hg' (B := W1.heap.size) (fun r e => (hr r e).1) hs.2.1 (by omega), own_kept hg' (B := W1.heap.size) (fun r e => (hr r e).1) hs.2.2 (by omega)⟩)
      (fun pre A k v a1 a2 hs => ⟨hIb pre A k v a1 a2 hs.1, (Below.heap_setCell _ _ _ _ (by simp; omega)).trans hs.2.1, (Below.heap_setCell _ _ _ _ (by simp; omega)).trans hs.2.2⟩)
      ?_ ⟨hI1, hL1, hK1⟩).mono ?_)
    · rintro pre x W ⟨hi', hl, hk⟩ hpre
      have hy := run_yield (P := P) (args := encs x) hl (by rw [hrec]; exact hps x)
      rw [hrec] at hy
      refine ⟨fn, _, assign, body, hy, roundIn_of_wpIn hfn (hassign _ pre x W _ hi' ?_)⟩
      clear hy
      intro a' Wa hkfa hkpa hia hax
      have hla := kfs hkfa (by omega) hl rfl
      have hka := kfs hkfa (Nat.le_refl _) hk rfl
      have hlt : w.heap.size + 1 < Wa.heap.size := (Array.getElem?_eq_some_iff.1 hla).1
      refine ⟨_, run_beginRound hla (by rw [hrec]), ?_⟩
      have hl2 : (Wa.putObj (w.heap.size + 1) (.loop { rec .ready none with state := .busy })).heap[w.heap.size + 1]? = some (.loop { rec .ready none with state := .busy }) := World.putObj_heap_same hlt
      have hk2 : (Wa.putObj (w.heap.size + 1) (.loop { rec .ready none with state := .busy })).heap[w.heap.size]? = some (.deferred (some [])) := (World.putObj_heap_other (by omega)).trans hka
      have hw2 : KpB lo hi Wa (Wa.putObj (w.heap.size + 1) (.loop { rec .ready none with state := .busy })) := KpB.put (by omega) _ _
      refine wpIn_mono (hbody _ pre x a' _ (hI.putObj _ hia (by omega) hla rfl) ((hAx x a').putObj (s := ()) _ hax (by omega) hla rfl) hpre) ?_
      have fin : ∀ (jump : Option Code) (W3 : World), KeepsFrom w.heap.size (Wa.putObj (w.heap.size + 1) (.loop { rec .ready none with state := .busy })) W3 →
          (Instr.endRound (w.heap.size + 1) jump).run P W3 = .ok (.bool jump.isNone) (W3.putObj (w.heap.size + 1) (.loop (rec (if jump.isNone then .ready else .done) jump))) ∧
          W3.heap[w.heap.size + 1]? = some (.loop { rec .ready none with state := .busy }) ∧
          (W3.putObj (w.heap.size + 1) (.loop (rec (if jump.isNone then .ready else .done) jump))).heap[w.heap.size + 1]? = some (.loop (rec (if jump.isNone then .ready else .done) jump)) ∧
          (W3.putObj (w.heap.size + 1) (.loop (rec (if jump.isNone then .ready else .done) jump))).heap[w.heap.size]? = some (.deferred (some [])) := fun jump W3 hk3 => by
        have hl3 := kfs hk3 (by omega) hl2 rfl
        have := run_endRound (P := P) jump hl3
        rw [hrec] at this ⊢
        exact ⟨this, by rw [hrec] at hl3; exact hl3, World.putObj_heap_same (Array.getElem?_eq_some_iff.1 hl3).1, (World.putObj_heap_other (by omega)).trans (kfs hk3 (Nat.le_refl _) hk2 rfl)⟩
      rintro e a3 W3 hp
      cases e with
      | normal =>
        obtain ⟨hk3, hkp3, hi3⟩ := hp
        obtain ⟨hr, hl3, hl4, hk4⟩ := fin none W3 hk3
        exact ⟨_, _, hr, .inl ⟨rfl, ⟨hI.putObj _ hi3 (by omega) hl3 rfl, hl4, hk4⟩, (hkpa.trans hw2).trans (hkp3.trans (KpB.put (by omega) _ _))⟩⟩
      | ret =>
        obtain ⟨hk3, hi3⟩ := hp
        obtain ⟨hr, hl3, hl4, hk4⟩ := fin (some .ret) W3 hk3
        exact ⟨_, _, hr, .inr ⟨rfl, .ret, (hIx _).putObj _ hi3 (by omega) hl3 rfl, hl4, hk4⟩⟩
      | exit id => exact hp.elim
      | goto t => exact hp.elim
      | panic ch => exact hp.elim
      | outgrown => exact hp.elim
    · rintro e W2 ⟨⟨v, rfl⟩, (⟨hi', hl, hk⟩ | ⟨pre, hSp, c, hi', hl, hk⟩)⟩
      · exact ⟨none, _, by have := run_endLoop (P := P) hl (by rw [hrec]; simp); rw [hrec] at this; exact this, hdone _ _ (Nat.le_refl _) (hI.putObj _ hi' (by omega) hl rfl) ((World.putObj_heap_other (by omega)).trans hk)⟩
      · exact ⟨some c, _, by have := run_endLoop (P := P) hl (by rw [hrec]; simp); rw [hrec] at this; exact this, hstop _ c pre _ (Nat.le_refl _) hSp ((hIx c).putObj _ hi' (by omega) hl rfl) ((World.putObj_heap_other (by omega)).trans hk)⟩
end Go.Proofs.YtnfgiplgkobnlaaGreatDoor
namespace Go.Proofs.YtnfgiplgkobnlaaGreatDoor
open Go.Shelf Go.RowKit
set_option linter.unusedVariables false
set_option linter.unusedSimpArgs false
theorem ix_none : ∀ {l : List UInt8}, Lib.indexByte l 43 < 0 → cutL l = [l]
  | [], _ => rfl
  | b :: l, h => by
    unfold Lib.indexByte at h
    split at h
    · omega
    · rename_i hb
      have hb' : b ≠ 43 := by simpa using hb
      split at h
      · rename_i h1
        have h1' : Lib.indexByte l 43 = -1 := by simpa using h1
        rw [cut_c, if_neg hb', ix_none (l := l) (by omega)]
        rfl
      · have := Lib.indexByte_ge l 43
        omega
theorem ix_some : ∀ {l : List UInt8} {i : Nat}, Lib.indexByte l 43 = (i : Int) → i + 1 ≤ l.length ∧ cutL l = l.take i :: cutL (l.drop (i + 1))
  | [], i, h => by unfold Lib.indexByte at h; omega
  | b :: l, i, h => by
    unfold Lib.indexByte at h
    split at h
    · rename_i hb
      have hb' : b = 43 := by simpa using hb
      have hi : i = 0 := by omega
      subst hi hb'
      refine ⟨by simp, ?_⟩
      rw [cut_c, if_pos rfl]
      rfl
    · rename_i hb
      have hb' : b ≠ 43 := by simpa using hb
      split at h
      · omega
      · obtain ⟨j, rfl⟩ : ∃ j, i = j + 1 := ⟨i - 1, by
          have := Lib.indexByte_ge l 43
          rename_i h1
          have h1' : Lib.indexByte l 43 ≠ -1 := by simpa using h1
          omega⟩
        obtain ⟨h2, h3⟩ := ix_some (l := l) (i := j) (by omega)
        refine ⟨by simp; omega, ?_⟩
        rw [cut_c, if_neg hb', h3]
        rfl
shelf_lay Lays.n143 Nm 143 at Tryz as lay143
theorem indexI (l : List UInt8) (w : World) : Calls Tryz.prog 77 #[.string ⟨l.toArray⟩, .string ⟨#[43]⟩] w fun e w' => e = .returned (.int .i64 (Lib.indexByte l 43)) ∧ w' = w := Any.strings_Index_one lay143 ⟨l.toArray⟩ 43 w
def encS (x : List UInt8) : Array Value := #[.string ⟨x.toArray⟩]
/-- the three boxes of the iterator. -/
def Bx3 (W : World) (lo : Nat) (l : List UInt8) : Prop := Boxed W lo 9 (.string ⟨l.toArray⟩) ∧ Boxed W (lo + 1) 9 (.string ⟨#[43]⟩) ∧ Boxed W (lo + 2) 3 (.int .i64 0)
theorem Bx3.keep {W W' : World} {lo : Nat} {l : List UInt8} (h : Bx3 W lo l) (hk : KpB lo (lo + 3) W W') : Bx3 W' lo l := ⟨(hk.2 _ (by omega) (by omega)).trans h.1, (hk.2 _ (by omega) (by omega)).trans h.2.1, (hk.2 _ (by omega) (by omega)).trans h.2.2⟩
theorem Bx3.set {W : World} {lo : Nat} {l : List UInt8} (h : Bx3 W lo l) (l' : List UInt8) : Bx3 (W.setCell ⟨lo, 0, none⟩ (.string ⟨l'.toArray⟩)) lo l' := ⟨h.1.set _, h.2.1.other (by omega) _, h.2.2.other (by omega) _⟩
def szC (lo : Nat) (W : World) : Nat := match W.cell? ⟨lo, 0, none⟩ with | some (.string b) => b.size | _ => 0
theorem szC_is {W : World} {lo : Nat} {l : List UInt8} (h : Bx3 W lo l) : szC lo W = l.length := by
  unfold szC
  rw [h.1.cell]
  exact ba_size l
set_option maxRecDepth 100000 in
set_option maxHeartbeats 4000000 in
theorem splitI (s : List UInt8) (hs : s.length ≤ 1048576) (lo : Nat) (w : World) (hb : Bx3 w lo s) :
    SeqB Tryz.prog 75 #[.pointer (some ⟨lo + 1, 0, none⟩), .pointer (some ⟨lo, 0, none⟩), .pointer (some ⟨lo + 2, 0, none⟩)] encS lo (lo + 3) (cutL s) w := by
  intro l J Jx W hW hJ hJb hY h0
  have hlt : lo + 2 < w.heap.size := hb.2.2.lt
  have hB0 : Bx3 W lo s := hb.keep (KpB.below hW (by omega))
  have HJ := Hid.mk' hJ
  have HJB := Hid.mk' hJb
  have HY : Hid (∀ pre x W1, J pre W1 → pre ++ [x] <+: cutL s → YieldAt Fence.wide 8 Tryz.prog l (#[.string ⟨x.toArray⟩]) W1 fun e W' => (e = .returned (.bool true) ∧ J (pre ++ [x]) W' ∧ KpB lo (lo + 3) W1 W') ∨ (e = .returned (.bool false) ∧ Jx (pre ++ [x]) W')) := Hid.mk' (fun pre x W1 a b => yldB 8 (hY pre x W1 a b))
  clear hJ hJb hY hW hb
  refine (callsIn_wide (n := 9)).1 ?_
  refine callsIn_of_wp Tryz.func75 rfl trivial ?_ rfl
  simp only [Tryz.ntmps75, List.size_toArray, List.length_cons, List.length_nil, Nat.reduceAdd, Nat.reduceSub, Array.replicate_succ, Array.replicate_zero, List.push_toArray, List.append_toArray, List.nil_append, List.cons_append]
  have c1 := hB0.2.1.cell
  gi_wp2
  clear c1
  gi_loopw [7] (fun v wr => ∃ (lr : List UInt8) (pre : List (List UInt8)), lr.length ≤ 1048576 ∧ Hid (pre ++ cutL lr = cutL s) ∧ Hid (J pre wr) ∧ Hid (Bx3 wr lo lr)) (fun _ wr => szC lo wr)
  case atStart => exact ⟨s, [], hs, Hid.mk' rfl, Hid.mk' h0, Hid.mk' hB0⟩
  case round =>
    obtain ⟨lr, pre, hlr, HC, HJP, HB⟩ := hrel
    have HSZ := Hid.mk' (szC_is HB.out)
    obtain ⟨b1, b2, b3⟩ := HB.out
    have c1 := b1.cell
    have c2 := b2.cell
    have c3 := b3.cell
    have z1 := b1.frozen
    clear b1 b2 b3
    have hix := indexI lr wr
    by_cases hn : Lib.indexByte lr 43 < 0
    · have HCE : Hid (pre ++ [lr] = cutL s) := by rw [← HC.out, ix_none hn]; exact Hid.mk' rfl
      obtain ⟨fn, tmps, assign, body, hyl, hRd⟩ := HY.out pre lr wr HJP.out (by rw [HCE.out]; exact List.prefix_rfl)
      obtain ⟨iv, hiv⟩ : ∃ iv, Lib.indexByte lr 43 = iv := ⟨_, rfl⟩
      rw [hiv] at hn hix
      have HIX := Hid.mk' hix
      clear hiv hix
      gi_wp2_with (first
        | (refine ⟨trivial, ?_⟩; gi_at_call 77; refine (callsIn_wide.2 HIX.out).mono ?_; rintro e w4 ⟨rfl, hw4⟩; obtain rfl := hw4.symm; clear hw4)
        | gi_in)
      refine hRd.mono ?_
      rintro e W3 (⟨rfl, hJ3, hk3⟩ | ⟨rfl, hJx3⟩)
      · gi_wp2
        go_end0
        exact ⟨⟨_, rfl⟩, .inl (by rw [← HCE.out]; exact hJ3)⟩
      · gi_wp2
        go_end0
        exact ⟨⟨_, rfl⟩, .inr ⟨_, by rw [HCE.out]; exact List.prefix_rfl, hJx3⟩⟩
    · obtain ⟨i, hi⟩ : ∃ i : Nat, Lib.indexByte lr 43 = (i : Int) := ⟨(Lib.indexByte lr 43).toNat, by omega⟩
      obtain ⟨hil, hcut⟩ := ix_some hi
      have HCE : Hid ((pre ++ [lr.take i]) ++ cutL (lr.drop (i + 1)) = cutL s) := by
        rw [← HC.out, hcut]
        exact Hid.mk' (by simp)
      obtain ⟨fr, hfr⟩ : ∃ fr, lr.take i = fr := ⟨_, rfl⟩
      obtain ⟨re, hre⟩ : ∃ re, lr.drop (i + 1) = re := ⟨_, rfl⟩
      have hrel : re.length < lr.length := by rw [← hre]; simp; omega
      have hto := fun u => str_to (l := lr) (k := i) (by omega) u
      have hfm := fun u => str_from1 (l := lr) (k := i) hil u
      rw [hfr] at HCE hto
      rw [hre] at HCE hfm
      rw [hi] at hix
      have HIX := Hid.mk' hix
      have hiI : (i : Int) ≤ 1048576 := by omega
      obtain ⟨fn, tmps, assign, body, hyl, hRd⟩ := HY.out pre fr wr HJP.out (by rw [← HCE.out]; exact ⟨_, rfl⟩)
      clear hix hi hcut hfr hre hn
      gi_wp2_with (first
        | (refine ⟨trivial, ?_⟩; gi_at_call 77; refine (callsIn_wide.2 HIX.out).mono ?_; rintro e w4 ⟨rfl, hw4⟩; obtain rfl := hw4.symm; clear hw4)
        | gi_in)
      refine hRd.mono ?_
      rintro e W3 (⟨rfl, hJ3, hk3⟩ | ⟨rfl, hJx3⟩)
      · have hB3 := HB.out.keep hk3
        obtain ⟨b1, b2, b3⟩ := hB3
        clear c1 c2 c3 z1
        have c1 := b1.cell
        have c2 := b2.cell
        have c3 := b3.cell
        have z1 := b1.frozen
        have HB4 := Hid.mk' (Bx3.set ⟨b1, b2, b3⟩ re)
        have HJ4 := Hid.mk' (HJB.out _ _ lo (.string ⟨re.toArray⟩) (Nat.le_refl _) (by omega) hJ3)
        clear b1 b2 b3 hk3 hJ3
        gi_wp2
        go_roundw
        case rel => exact ⟨re, pre ++ [fr], by omega, HCE, HJ4, HB4⟩
        case measure =>
          have h1 := szC_is HB4.out
          have h2 := HSZ.out
          omega
      · gi_wp2
        refine bodyPost_ret (results_none rfl _ _ _) rfl ?_
        exact ⟨⟨_, rfl⟩, .inr ⟨_, by rw [← HCE.out]; exact ⟨_, rfl⟩, hJx3⟩⟩
end Go.Proofs.YtnfgiplgkobnlaaGreatDoor
namespace Go.Proofs.YtnfgiplgkobnlaaGreatDoor
open Go.RowKit
set_option linter.unusedVariables false
set_option linter.unusedSimpArgs false
theorem mon_of {x y d e : Int} {p : List UInt8} (h : monT ⟨x, y, d, e⟩ = p) (w : World) : Calls Tryz.prog 43 #[.agg #[.int .i64 x, .int .i64 y, .int .i64 d, .int .i64 e]] w fun r w' => r = .returned (.string ⟨p.toArray⟩) ∧ Below w.heap.size w w' := by
  rw [← h]; exact monTextI x y d e w
theorem itoa_of {n : Nat} {p : List UInt8} (h : Lib.decDigits n = p) (hn : n ≤ 9223372036854775807) (w : World) (hT : Tb w) : Calls Tryz.prog 42 #[.int .i64 (n : Int)] w fun r w' => r = .returned (.string ⟨p.toArray⟩) ∧ Below w.heap.size w w' := by
  rw [← h]; exact itoaAll n hn w hT
set_option maxRecDepth 100000 in
set_option maxHeartbeats 4000000 in
theorem polTermTextI (C : Nat) (hC : C ≤ 9223372036854775807) (x y d e : Int) (hm : M.ok ⟨x, y, d, e⟩ = true) (w : World) (hT : Tb w) :
    Calls Tryz.prog 21 #[.agg #[.int .i64 (C : Int), .int .i64 x, .int .i64 y, .int .i64 d, .int .i64 e]] w fun r w' => r = .returned (.string ⟨(trmT ⟨(C : Int), ⟨x, y, d, e⟩⟩).toArray⟩) ∧ Below w.heap.size w w' := by
  obtain ⟨MT, hMT⟩ : ∃ MT, monT ⟨x, y, d, e⟩ = MT := ⟨_, rfl⟩
  have hml : MT.length ≤ 12 := by rw [← hMT]; exact monT_len hm
  obtain ⟨DT, hDT⟩ : ∃ DT, Lib.decDigits C = DT := ⟨_, rfl⟩
  have hdl : DT.length ≤ 20 := by rw [← hDT]; exact dec_len20 hC
  have htrm : trmT ⟨(C : Int), ⟨x, y, d, e⟩⟩ = if x = 0 ∧ y = 0 ∧ d = 0 ∧ e = 0 then DT else if (C : Int) = 1 then MT else DT ++ MT := by
    show (if x = 0 ∧ y = 0 ∧ d = 0 ∧ e = 0 then Lib.decDigits C else if (C : Int) = 1 then monT ⟨x, y, d, e⟩ else Lib.decDigits C ++ monT ⟨x, y, d, e⟩) = _
    rw [hMT, hDT]
  rw [htrm]
  have b0 := bel_one w (.cells #[.int .i64 (C : Int), .int .i64 x, .int .i64 y, .int .i64 d, .int .i64 e] 45)
  have HT0 := Hid.mk' (hT.below b0)
  have HB0 := Hid.mk' b0
  clear htrm hT b0
  by_cases hz : x = 0 ∧ y = 0 ∧ d = 0 ∧ e = 0
  · rw [if_pos hz]
    obtain ⟨rfl, rfl, rfl, rfl⟩ := hz
    have HC := Hid.mk' (itoa_of hDT hC _ HT0.out)
    clear hMT hDT
    go_enter Tryz.func21, Tryz.ntmps21
    go_wp2_with fail
    refine HC.out.mono ?_
    rintro r w1 ⟨rfl, hb⟩
    have HB1 := Hid.mk' (bel_next HB0.out hb)
    clear hb
    go_wp2
    go_ret
    exact ⟨rfl, HB1.out⟩
  · rw [if_neg hz]
    have key : ¬ x = 0 ∨ (x = 0 ∧ ¬ y = 0) ∨ (x = 0 ∧ y = 0 ∧ ¬ d = 0) ∨ (x = 0 ∧ y = 0 ∧ d = 0 ∧ ¬ e = 0) := by omega
    clear hz
    by_cases h1 : (C : Int) = 1
    · rw [if_pos h1]
      have HC := Hid.mk' (mon_of hMT (w.alloc (.cells #[.int .i64 1, .int .i64 x, .int .i64 y, .int .i64 d, .int .i64 e] 45)))
      rw [h1] at HB0 ⊢
      clear hMT hDT h1 HT0
      rcases key with k1 | ⟨rfl, k1⟩ | ⟨rfl, rfl, k1⟩ | ⟨rfl, rfl, rfl, k1⟩
      all_goals (
        go_enter Tryz.func21, Tryz.ntmps21
        go_wp2_with fail
        refine HC.out.mono ?_
        rintro r w1 ⟨rfl, hb⟩
        have HB1 := Hid.mk' (bel_next HB0.out hb)
        clear hb
        go_wp2
        go_ret
        exact ⟨rfl, HB1.out⟩)
    · rw [if_neg h1]
      have h1b : ((C : Int) == 1) = false := beq_eq_false_iff_ne.2 h1
      have hsz : ¬ (DT.length + MT.length > 9223372036854775807) := by omega
      have hsz2 : ¬ (9223372036854775807 < DT.length + MT.length) := by omega
      obtain ⟨W, hW⟩ : ∃ W, w.alloc (.cells #[.int .i64 (C : Int), .int .i64 x, .int .i64 y, .int .i64 d, .int .i64 e] 45) = W := ⟨_, rfl⟩
      have q0 : w.heap.size < W.heap.size := by rw [← hW]; simp
      have ne := Ext.there W
      have gg : ∀ j : Nat, W.cell? ⟨w.heap.size, j, none⟩ = #[Value.int .i64 (C : Int), .int .i64 x, .int .i64 y, .int .i64 d, .int .i64 e][j]? := fun j => by rw [← hW, World.cell?_alloc_at _ _ _ _ rfl]
      have s0 : ∀ u : Ext W, u.1.cell? ⟨w.heap.size, 0, none⟩ = some (.int .i64 (C : Int)) := fun u => (u.cell q0).trans (gg 0)
      have s1 : ∀ u : Ext W, u.1.cell? ⟨w.heap.size, 1, none⟩ = some (.int .i64 x) := fun u => (u.cell q0).trans (gg 1)
      have s2 : ∀ u : Ext W, u.1.cell? ⟨w.heap.size, 2, none⟩ = some (.int .i64 y) := fun u => (u.cell q0).trans (gg 2)
      have s3 : ∀ u : Ext W, u.1.cell? ⟨w.heap.size, 3, none⟩ = some (.int .i64 d) := fun u => (u.cell q0).trans (gg 3)
      have s4 : ∀ u : Ext W, u.1.cell? ⟨w.heap.size, 4, none⟩ = some (.int .i64 e) := fun u => (u.cell q0).trans (gg 4)
      rw [hW] at HT0 HB0
      have HT : ∀ u : Ext W, Tb u.1 := fun u => HT0.out.below u.2
      have HTT := Hid.mk' HT
      have HWW := Hid.mk' hW
      clear HT gg hW
      rcases key with k1 | ⟨rfl, k1⟩ | ⟨rfl, rfl, k1⟩ | ⟨rfl, rfl, rfl, k1⟩
      all_goals (
        go_enter Tryz.func21, Tryz.ntmps21
        go_wp2_with fail
        simp only [HWW.out]
        clear HWW
        refine wp_region_ext (by kernel_rfl) (by kernel_rfl) ?_
        repeat (go_big_quiet_step (first | (go_at_call 42; exact ext_grows (itoa_of (by with_reducible assumption) hC _ (HTT.out _))) | (go_at_call 43; exact ext_grows (mon_of (by with_reducible assumption) _)) | fail))
        refine wpQuiet_nil ?_
        rintro _ ⟨v, rfl⟩
        have HV := Hid.mk' (bel_next HB0.out v.2)
        clear s0 s1 s2 s3 s4 ne hMT hDT
        go_wp2
        go_ret
        exact ⟨by first | rfl | (congr 2; apply ByteArray.ext; simp [ByteArray.data_append]; done), HV.out⟩)
end Go.Proofs.YtnfgiplgkobnlaaGreatDoor
