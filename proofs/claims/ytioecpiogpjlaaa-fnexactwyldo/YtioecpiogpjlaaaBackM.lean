/-
  slices.Backward of monomials.
-/
import Derived.Test.YtioecpiogpjlaaaAppM
namespace Go.Proofs.Ytioecpiogpjlaaa
open Go.RowKit Go.Maps Go.Sort
set_option linter.unusedVariables false

/-- the slice with header v, boxed in Bm, reads as the monomials d. -/
structure RowM (W : World) (Bm g : Nat) (cap : Nat) (d : List M) : Prop where
  box : W.cell? ⟨Bm, 0, none⟩ = some (.slice (some ⟨g, 0, none⟩) d.length cap)
  c0 : ∀ i (h : i < d.length), W.cell? ⟨g, i * 4, none⟩ = some (.int .i64 d[i].x)
  c1 : ∀ i (h : i < d.length), W.cell? ⟨g, i * 4 + 1, none⟩ = some (.int .i64 d[i].y)
  c2 : ∀ i (h : i < d.length), W.cell? ⟨g, i * 4 + 2, none⟩ = some (.int .i64 d[i].d)
  c3 : ∀ i (h : i < d.length), W.cell? ⟨g, i * 4 + 3, none⟩ = some (.int .i64 d[i].e)
set_option maxHeartbeats 1000000 in
theorem backM {F : Fence} {n : Nat} (h7 : F.fn 59) (hro : F.round = none) (g k cap : Nat) (w : World) :
    CallsIn F n Try.prog 59 #[.slice (some ⟨g, 0, none⟩) k cap] w fun e w' => e = .returned (.func (.func 72) #[] #[.pointer (some ⟨w.heap.size, 0, none⟩)]) ∧ w' = w.alloc (.cells #[.slice (some ⟨g, 0, none⟩) k cap] 79) := by
  refine callsIn_of_wp Try.func59 rfl h7 ?_ hro
  simp only [Try.ntmps59, List.size_toArray, List.length_cons, List.length_nil, Nat.reduceAdd, Nat.reduceSub, Array.replicate_succ, Array.replicate_zero, List.push_toArray, List.append_toArray, List.nil_append, List.cons_append]
  gi_wp2
  go_ret
  exact ⟨rfl, rfl⟩
set_option maxRecDepth 100000 in
set_option maxHeartbeats 1000000 in
theorem back1M {F : Fence} {n : Nat} (h10 : F.fn 72) (hro : F.round = none) (hn : 1 ≤ n) (l Bm g cap : Nat) (d : List M) (hd : d.length ≤ 1000000) (J : List M → World → Prop)
    (hR : ∀ pre W, J pre W → RowM W Bm g cap d)
    (hY : ∀ (i : Nat) (h : i < d.length) W, J (d.drop (i + 1)) W → YieldAt F (n - 1) Try.prog l #[.int .i64 i, enM d[i]] W fun e W' => e = .returned (.bool true) ∧ J (d.drop i) W')
    (W : World) (h0 : J [] W) :
    CallsIn F n Try.prog 72 #[.func (.yield l) #[] #[], .pointer (some ⟨Bm, 0, none⟩)] W fun e W' => (∃ v, e = .returned v) ∧ J d W' := by
  have hb := (hR _ _ h0).box
  refine callsIn_of_wp Try.func72 rfl h10 ?_ hro
  simp only [Try.ntmps72, List.size_toArray, List.length_cons, List.length_nil, Nat.reduceAdd, Nat.reduceSub, Array.replicate_succ, Array.replicate_zero, List.push_toArray, List.append_toArray, List.nil_append, List.cons_append]
  gi_wp2
  gi_loopw [3] (fun v wr => ∃ k : Nat, k ≤ d.length ∧ v = .int .i64 ((k : Int) - 1) ∧ J (d.drop k) wr) (fun v _ => (RowKit.intOf v + 1).toNat)
  case atStart =>
    exact ⟨d.length, Nat.le_refl _, rfl, by rw [List.drop_length]; exact h0⟩
  case round =>
    obtain ⟨k, hk, rfl, hJ⟩ := hrel
    cases k with
    | zero =>
      gi_wp2
      go_end0
      exact ⟨⟨_, rfl⟩, by simpa using hJ⟩
    | succ k =>
      have e1 : ((k + 1 : Nat) : Int) - 1 = (k : Int) := by omega
      rw [e1]
      have hi : k < d.length := by omega
      have hRr := hR _ _ hJ
      have hb := hRr.box
      have c0 := hRr.c0 k hi
      have c1 := hRr.c1 k hi
      have c2 := hRr.c2 k hi
      have c3 := hRr.c3 k hi
      obtain ⟨fn, tmps, assign, body, hy, hRd⟩ := hY k hi _ hJ
      clear hRr
      generalize d[k] = m at c0 c1 c2 c3 hy hRd
      gi_wp2
      refine hRd.mono ?_
      rintro e W3 ⟨rfl, hJ3⟩
      gi_wp2
      go_roundw
      case rel => exact ⟨k, by omega, rfl, hJ3⟩
      case measure => simp only [RowKit.intOf]; omega
end Go.Proofs.Ytioecpiogpjlaaa
