/-
  The program reads operators (PolRead).
-/
import Derived.Test.YtnfgiplgkobnlaaDoorSpI
import Derived.Test.YtnfgiplgkobnlaaDoorRdQ
import Derived.Test.YtnfgiplgkobnlaaDoorPolI
import Derived.RangeFuncBox
namespace Go.Proofs.YtnfgiplgkobnlaaDoor
open Go.Shelf Go.RowKit
set_option linter.unusedVariables false
set_option linter.unusedSimpArgs false
/-- the two boxes of what is handed back. -/
def ResP (n : Nat) (v : Value) (ok : Bool) (W : World) : Prop := Boxed W n 38 v ∧ Boxed W (n + 1) 4 (.bool ok)
theorem ResP.below {n : Nat} {v : Value} {ok : Bool} {W W' : World} (h : ResP n v ok W) (hb : Below W.heap.size W W') : ResP n v ok W' := ⟨(hb.block n h.1.lt).trans h.1, (hb.block _ h.2.lt).trans h.2⟩
theorem ResP.set {n : Nat} {v : Value} {ok : Bool} {W : World} (h : ResP n v ok W) (v' : Value) (ok' : Bool) : ResP n v' ok' ((W.setCell ⟨n, 0, none⟩ v').setCell ⟨n + 1, 0, none⟩ (.bool ok')) :=
  ⟨(h.1.set v').other (by omega) _, (h.2.other (by omega) v').set _⟩
theorem ResP.other {n : Nat} {v : Value} {ok : Bool} {W : World} (h : ResP n v ok W) {k : Nat} (hk : n + 1 < k) (u : Value) : ResP n v ok (W.setCell ⟨k, 0, none⟩ u) := ⟨h.1.other (by omega) _, h.2.other (by omega) _⟩
theorem resP_new (w : World) : ResP w.heap.size (.slice none 0 0) false ((w.alloc (.cells #[.slice none 0 0] 38)).alloc (.cells #[.bool false] 4)) := by
  refine ⟨(Boxed.new w _ _).alloc _, ?_⟩
  have := Boxed.new (w.alloc (.cells #[.slice none 0 0] 38)) 4 (.bool false)
  rwa [World.size_alloc] at this
theorem own_blk {X Y : World} {row : Option Nat} {B k : Nat} {cs : Array Value} {t : TypeId} {z : Nat × Nat} (h : X.heap[k]? = some (.cells cs t z)) (hg : X.grownBy Y row) (hr : ∀ r, row = some r → B ≤ r ∧ ∃ o : Obj, X.heap[r]? = some o ∧ o.isCells = false) : Y.heap[k]? = some (.cells cs t z) :=
  (hg.block k (Array.getElem?_eq_some_iff.1 h).1 (fun e => by obtain ⟨_, o, ho, hc⟩ := hr k e.symm; rw [h] at ho; cases ho; cases hc)).trans h
theorem resP_own (n : Nat) (v : Value) (ok : Bool) {β : Type} (B : Nat) : OwnFrom B (fun (_ : β) W => ResP n v ok W) := fun s X Y row hs hg hr => ⟨own_blk hs.1 hg hr, own_blk hs.2 hg hr⟩
theorem resP_cells (tmps : Array Value) {w : World} {n : Nat} {v : Value} {ok : Bool} (h4 : tmps[2]?.getD undef = .pointer (some ⟨n, 0, none⟩)) (h5 : tmps[3]?.getD undef = .pointer (some ⟨n + 1, 0, none⟩)) (h : ResP n v ok w) : (results Tryd.f21 tmps).run Tryd.prog w = .ok (.tuple #[v, .bool ok]) w := by
  have c1 := h.1.cell
  have c2 := h.2.cell
  simp [results, Tryd.results21, go_sem, h4, h5, c1, c2]
def SpW (w : World) (s : List UInt8) : World := ((w.alloc (.cells #[.string ⟨s.toArray⟩] 9)).alloc (.cells #[.string ⟨#[43]⟩] 9)).alloc (.cells #[.int .i64 0] 3)
theorem SpW_bx (w : World) (s : List UInt8) : Bx3 (SpW w s) w.heap.size s := by
  refine ⟨((Boxed.new w _ _).alloc _).alloc _, ?_, ?_⟩
  · have := (Boxed.new (w.alloc (.cells #[.string ⟨s.toArray⟩] 9)) 9 (.string ⟨#[43]⟩)).alloc (.cells #[.int .i64 0] 3)
    rwa [World.size_alloc] at this
  · have := Boxed.new ((w.alloc (.cells #[.string ⟨s.toArray⟩] 9)).alloc (.cells #[.string ⟨#[43]⟩] 9)) 3 (.int .i64 0)
    rwa [World.size_alloc, World.size_alloc] at this
theorem SpW_bel (w : World) (s : List UInt8) : Below w.heap.size w (SpW w s) := (((Below.refl _ _).alloc (Nat.le_refl _) _).alloc (by simp) _).alloc (by simp; omega) _
theorem SpW_size (w : World) (s : List UInt8) : (SpW w s).heap.size = w.heap.size + 3 := by simp [SpW]
set_option maxHeartbeats 1000000 in
theorem splitSeqI (s : List UInt8) (w : World) : Calls Tryd.prog 62 #[.string ⟨s.toArray⟩, .string ⟨#[43]⟩, .int .i64 0] w fun e w' => e = .returned (.func (.func 75) #[] #[.pointer (some ⟨w.heap.size + 1, 0, none⟩), .pointer (some ⟨w.heap.size, 0, none⟩), .pointer (some ⟨w.heap.size + 2, 0, none⟩)]) ∧ w' = SpW w s := by
  go_enter Tryd.func62, Tryd.ntmps62
  go_wp2
  go_ret
  exact ⟨rfl, rfl⟩
set_option maxHeartbeats 1000000 in
theorem splitSeqV (s : List UInt8) (w : World) : Calls Tryd.prog 45 #[.string ⟨s.toArray⟩, .string ⟨#[43]⟩] w fun e w' => e = .returned (.func (.func 75) #[] #[.pointer (some ⟨w.heap.size + 1, 0, none⟩), .pointer (some ⟨w.heap.size, 0, none⟩), .pointer (some ⟨w.heap.size + 2, 0, none⟩)]) ∧ w' = SpW w s := by
  have HC := Hid.mk' (splitSeqI s w)
  go_enter Tryd.func45, Tryd.ntmps45
  go_wp2_with fail
  refine HC.out.mono ?_
  rintro e w1 ⟨rfl, hw⟩
  obtain rfl := hw.symm
  clear hw
  go_wp2
  go_ret
  exact ⟨rfl, rfl⟩
theorem out_none (w : World) (lo : Nat) : Out lo w none 0 [] := by
  obtain ⟨a, cap, e, h⟩ := out_of_owns (L := []) (owns_nil w lo) (by simp)
  cases e
  exact h
theorem resP_new2 (w : World) (ok : Bool) : ResP w.heap.size (.slice none 0 0) ok ((w.alloc (.cells #[.slice none 0 0] 38)).alloc (.cells #[.bool ok] 4)) := by
  refine ⟨(Boxed.new w _ _).alloc _, ?_⟩
  have := Boxed.new (w.alloc (.cells #[.slice none 0 0] 38)) 4 (.bool ok)
  rwa [World.size_alloc] at this
def PrPost (w : World) (s : List UInt8) (r : Ending) (w' : World) : Prop := ∃ a cap, r = .returned (.tuple #[.slice a (polR s).1.length cap, .bool (polR s).2]) ∧ Below w.heap.size w w' ∧ Out w.heap.size w' a cap (polR s).1
theorem pr_no {w : World} {s : List UInt8} {b : Bool} (h : polR s = ([], b)) {w' : World} (hb : Below w.heap.size w w') : PrPost w s (.returned (.tuple #[.slice none 0 0, .bool b])) w' := by
  unfold PrPost
  rw [h]
  exact ⟨none, 0, rfl, hb, out_none _ _⟩
theorem pr_yes {w : World} {s : List UInt8} {ts : List T} (h : polR s = (ts, true)) (hl : ts.length ≤ 1000) {w' : World} {v : Value} (hb : Below w.heap.size w w') (ho : w'.ownsRow w.heap.size 65 5 v ts.length (cellsL ts)) : PrPost w s (.returned (.tuple #[v, .bool true])) w' := by
  unfold PrPost
  rw [h]
  obtain ⟨a, cap, rfl, hout⟩ := out_of_owns ho (by omega)
  exact ⟨a, cap, rfl, hb, hout⟩
set_option maxRecDepth 100000 in
set_option maxHeartbeats 4000000 in
/-- too long, or 0. -/
theorem polReadI0 (s : List UInt8) (hs : s.length ≤ 1048576) (w : World) (h : s = [48] ∨ 400 < s.length) :
    Calls Tryd.prog 21 #[.string ⟨s.toArray⟩] w (PrPost w s) := by
  have hR0 := resP_new w
  have c1 := hR0.1.cell
  have c2 := hR0.2.cell
  have z1 := hR0.1.frozen
  have z2 := hR0.2.frozen
  clear hR0
  by_cases hl : 400 < s.length
  · have hlI : (400 : Int) < (s.length : Int) := by omega
    have HN := Hid.mk' (fun w' hb => pr_no (w := w) (w' := w') (polR_no (s := s) (by intro q; rw [q] at hl; simp at hl) (fun q => by omega)) hb)
    obtain ⟨PS, hPS⟩ : ∃ Q : Ending → World → Prop, PrPost w s = Q := ⟨_, rfl⟩
    rw [hPS] at HN ⊢
    clear hPS
    refine (callsIn_wide (n := 9)).1 ?_
    refine callsIn_of_wp_marks Tryd.func21 rfl trivial ?_ rfl
    simp only [Tryd.ntmps21, List.size_toArray, List.length_cons, List.length_nil, Nat.reduceAdd, Nat.reduceSub, Array.replicate_succ, Array.replicate_zero, List.push_toArray, List.append_toArray, List.nil_append, List.cons_append]
    gi_wp2
    exact ⟨_, resP_cells _ rfl rfl (resP_new2 w false), HN.out _ (bel_two w _ _)⟩
  · have h0 := h.resolve_right hl
    subst h0
    have HN := Hid.mk' (fun w' hb => pr_no (w := w) (w' := w') polR_zero hb)
    obtain ⟨PS, hPS⟩ : ∃ Q : Ending → World → Prop, PrPost w [48] = Q := ⟨_, rfl⟩
    rw [hPS] at HN ⊢
    clear hPS
    refine (callsIn_wide (n := 9)).1 ?_
    refine callsIn_of_wp_marks Tryd.func21 rfl trivial ?_ rfl
    simp only [Tryd.ntmps21, List.size_toArray, List.length_cons, List.length_nil, Nat.reduceAdd, Nat.reduceSub, Array.replicate_succ, Array.replicate_zero, List.push_toArray, List.append_toArray, List.nil_append, List.cons_append]
    gi_wp2
    exact ⟨_, resP_cells _ rfl rfl (resP_new2 w true), HN.out _ (bel_two w _ _)⟩
end Go.Proofs.YtnfgiplgkobnlaaDoor
