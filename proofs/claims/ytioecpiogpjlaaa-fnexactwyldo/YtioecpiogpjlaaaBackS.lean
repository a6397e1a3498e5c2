/-
  slices.Backward of monomials as an iterator that may be stopped.
-/
import Derived.Test.YtioecpiogpjlaaaSortedM
import Derived.RangeFuncNested
import Derived.RangeFuncLeaves
namespace Go.Proofs.Ytioecpiogpjlaaa
open Go.RowKit Go.Maps Go.Sort Go.Shelf
set_option linter.unusedVariables false
attribute [local go_sem] Oper.semAt_some

abbrev BA : Type := Nat × OM
def encB (x : BA) : Array Value := #[.int .i64 (x.1 : Int), .agg #[.int .i64 x.2.1.x, .int .i64 x.2.1.y, .int .i64 x.2.1.d, .int .i64 x.2.1.e]]
def itemB (d : List OM) (i : Nat) : BA := (i, d.getD i default)
/-- what has come when those from the k-th on have. -/
def doneB (d : List OM) (k : Nat) : List BA := (List.range (d.length - k)).map fun j => itemB d (d.length - 1 - j)
theorem doneB_start (d : List OM) : doneB d d.length = [] := by simp [doneB]
theorem doneB_step (d : List OM) (k : Nat) (h : k < d.length) : doneB d (k + 1) ++ [itemB d k] = doneB d k := by
  unfold doneB
  rw [show d.length - k = (d.length - (k + 1)) + 1 by omega, List.range_succ, List.map_append]
  simp only [List.map_cons, List.map_nil]
  rw [show d.length - 1 - (d.length - (k + 1)) = k by omega]
theorem doneB_length (d : List OM) (k : Nat) : (doneB d k).length = d.length - k := by simp [doneB]
/-- what the iterator wants kept between two rounds: its box, and the row. -/
def keepB (Bm : Nat) (p : Option Addr) (W W' : World) : Prop := W.heap.size ≤ W'.heap.size ∧ ∀ k, (k = Bm ∨ p = some ⟨k, 0, none⟩) → W'.heap[k]? = W.heap[k]?
theorem keepB_t {Bm : Nat} {p : Option Addr} {A B C : World} (h : keepB Bm p A B) (k : keepB Bm p B C) : keepB Bm p A C := ⟨Nat.le_trans h.1 k.1, fun i hi => (k.2 i hi).trans (h.2 i hi)⟩
theorem keepB_b {Bm : Nat} {p : Option Addr} {w : World} (hB : Bm < w.heap.size) (hp : ∀ k, p = some ⟨k, 0, none⟩ → k < w.heap.size) (W : World) (l : Nat) (o o' : Obj) (hl : w.heap.size ≤ l) (h : W.heap[l]? = some o) (_ : o.isCells = false) (_ : o.isWalk = false) : keepB Bm p W (W.putObj l o') :=
  ⟨by rw [World.putObj_size]; exact Nat.le_refl _, fun k hk => World.putObj_heap_other (by rcases hk with rfl | hk; omega; have := hp k hk; omega)⟩
set_option maxHeartbeats 1000000 in
theorem backV {F : Fence} {n : Nat} (h7 : F.fn 59) (hro : F.round = none) (p : Option Addr) (k cap : Nat) (w : World) :
    CallsIn F n Try.prog 59 #[.slice p k cap] w fun e w' => e = .returned (.func (.func 72) #[] #[.pointer (some ⟨w.heap.size, 0, none⟩)]) ∧ w' = w.alloc (.cells #[.slice p k cap] 79) := by
  refine callsIn_of_wp Try.func59 rfl h7 ?_ hro
  simp only [Try.ntmps59, List.size_toArray, List.length_cons, List.length_nil, Nat.reduceAdd, Nat.reduceSub, Array.replicate_succ, Array.replicate_zero, List.push_toArray, List.append_toArray, List.nil_append, List.cons_append]
  gi_wp2
  go_ret
  exact ⟨rfl, rfl⟩
set_option maxRecDepth 100000 in
set_option maxHeartbeats 1000000 in
theorem back1S {F : Fence} {n : Nat} (h10 : F.fn 72) (hro : F.round = none) (hn : 1 ≤ n) (l Bm cap : Nat) (p : Option Addr) (d : List OM) (hd : d.length ≤ 1000000) (J Jx : List BA → World → Prop)
    (hY : ∀ pre x W, J pre W → pre.length < d.length → YieldAt F (n - 1) Try.prog l (encB x) W fun e W' => (e = .returned (.bool true) ∧ J (pre ++ [x]) W' ∧ keepB Bm p W W') ∨ (e = .returned (.bool false) ∧ Jx (pre ++ [x]) W'))
    (W : World) (hbox : W.cell? ⟨Bm, 0, none⟩ = some (.slice p d.length cap)) (hrow : RowV W p (d.map (·.1))) (h0 : J [] W) :
    CallsIn F n Try.prog 72 #[.func (.yield l) #[] #[], .pointer (some ⟨Bm, 0, none⟩)] W fun e W' => (∃ v, e = .returned v) ∧ ((∃ xs, xs = doneB d 0 ∧ J xs W') ∨ (∃ pre, True ∧ Jx pre W')) := by
  refine callsIn_of_wp Try.func72 rfl h10 ?_ hro
  simp only [Try.ntmps72, List.size_toArray, List.length_cons, List.length_nil, Nat.reduceAdd, Nat.reduceSub, Array.replicate_succ, Array.replicate_zero, List.push_toArray, List.append_toArray, List.nil_append, List.cons_append]
  gi_wp2
  gi_loopw [3] (fun v wr => ∃ k : Nat, k ≤ d.length ∧ v = .int .i64 ((k : Int) - 1) ∧ J (doneB d k) wr ∧ wr.cell? ⟨Bm, 0, none⟩ = some (.slice p d.length cap) ∧ RowV wr p (d.map (·.1))) (fun v _ => (RowKit.intOf v + 1).toNat)
  case atStart =>
    exact ⟨d.length, Nat.le_refl _, rfl, by rw [doneB_start]; exact h0, hbox, hrow⟩
  case round =>
    obtain ⟨k, hk, rfl, hJ, hb, hR⟩ := hrel
    cases k with
    | zero =>
      gi_wp2
      go_end0
      exact ⟨⟨_, rfl⟩, .inl ⟨_, rfl, hJ⟩⟩
    | succ k =>
      have e1 : ((k + 1 : Nat) : Int) - 1 = (k : Int) := by omega
      rw [e1]
      have hi : k < d.length := by omega
      obtain ⟨g, rfl, hgl, c0, c1, c2, c3⟩ := hR.here k (by simpa using hi)
      have HR := Hid.mk' hR
      have hYk := hY (doneB d (k + 1)) (itemB d k) _ hJ (by rw [doneB_length]; omega)
      rw [doneB_step d k hi] at hYk
      have eM : (d.map (·.1))[k]'(by simpa using hi) = (itemB d k).2.1 := by simp [itemB, hi]
      rw [eM] at c0 c1 c2 c3
      have hk1 : (itemB d k).1 = k := rfl
      clear hR eM hY
      obtain ⟨fn, tmps, assign, body, hy, hRd⟩ := hYk
      dsimp only [encB] at hy
      rw [hk1] at hy
      clear hk1
      generalize (itemB d k).2.1 = m at c0 c1 c2 c3 hy
      gi_wp2
      refine hRd.mono ?_
      rintro e W3 (⟨rfl, hJ3, hk3⟩ | ⟨rfl, hJx3⟩)
      · have hb3 : W3.cell? ⟨Bm, 0, none⟩ = some (.slice (some ⟨g, 0, none⟩) d.length cap) := (World.cell?_of_block (w := wr) (a := ⟨Bm, 0, none⟩) (hk3.2 Bm (.inl rfl))).trans hb
        gi_wp2
        go_roundw
        case rel => exact ⟨k, by omega, rfl, hJ3, hb3, HR.out.keep hk3.1 (fun g' e => hk3.2 g' (.inr e))⟩
        case measure => simp only [RowKit.intOf]; omega
      · gi_wp2
        refine bodyPost_ret (results_none rfl _ _ _) rfl ?_
        exact ⟨⟨_, rfl⟩, .inr ⟨_, trivial, hJx3⟩⟩
theorem backStops {n : Nat} (hn : 1 ≤ n) (Bm cap : Nat) (p : Option Addr) (d : List OM) (hd : d.length ≤ 1000000) (w : World) (hBm : Bm < w.heap.size) (hbox : w.cell? ⟨Bm, 0, none⟩ = some (.slice p d.length cap)) (hrow : RowV w p (d.map (·.1))) (hp : ∀ k, p = some ⟨k, 0, none⟩ → k < w.heap.size) :
    SeqStopsK Fence.wide n Try.prog 72 #[.pointer (some ⟨Bm, 0, none⟩)] encB (keepB Bm p) (fun xs => xs = doneB d 0) (fun _ => True) d.length w := fun l J Jx W hW _ _ hY h0 =>
  back1S (F := Fence.wide) trivial rfl hn l Bm cap p d hd J Jx hY W ((hW.cell (p := ⟨Bm, 0, none⟩) hBm).trans hbox) (hrow.keep hW.size (fun g e => hW.block g (hp g e))) h0
end Go.Proofs.Ytioecpiogpjlaaa
