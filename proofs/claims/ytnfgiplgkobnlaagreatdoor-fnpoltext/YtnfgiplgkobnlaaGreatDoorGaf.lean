/-
  More of chapter 3's model: an operator of one term, the number of a monomial, so many times an operator.
  What the functions of the program's chapter 3 return: whether terms are an operator, an operator of one term, the number of a monomial.
  More of the program's chapter 3: the number of a monomial, whether operators are the same, whether one has no slopes, so many times an operator.
-/
import Derived.Test.YtnfgiplgkobnlaaGreatDoorGae
import Derived.Deep.RegionHeld3
import Derived.Test.YtnfgiplgkobnlaaGreatDoorGac
import Derived.Test.YtnfgiplgkobnlaaGreatDoorGad
namespace Go.Proofs.YtnfgiplgkobnlaaGreatDoor
open Go.RowKit
set_option linter.unusedVariables false

/-- PolOf. -/
def polOf (c : Int) (m : M) : List T := if (1 ≤ c ∧ c ≤ 100) ∧ m.ok = true then [⟨c, m⟩] else []
set_option maxHeartbeats 1000000 in
theorem polOfS (c x y d e : Int) (w : World) :
    Calls Tryz.prog 34 #[.int .i64 c, .agg #[.int .i64 x, .int .i64 y, .int .i64 d, .int .i64 e]] w fun r w' => ∃ v, r = .returned v ∧ Below w.heap.size w w' ∧ w'.ownsRow w.heap.size 45 5 v (polOf c ⟨x, y, d, e⟩).length (cellsL (polOf c ⟨x, y, d, e⟩)) := by
  have bx : ∀ o : Obj, Below w.heap.size w (w.alloc o) := fun o => (Below.refl _ _).alloc (Nat.le_refl _) _
  by_cases hc : 1 ≤ c ∧ c ≤ 100
  · obtain ⟨c1, c2⟩ := hc
    cases hm : M.ok ⟨x, y, d, e⟩
    · have e1 : polOf c ⟨x, y, d, e⟩ = [] := by simp [polOf, hm]
      rw [e1]
      have BX := Hid.mk' bx
      clear e1 bx
      go_enter Tryz.func34, Tryz.ntmps34
      go_wp2_with (go_at_call 38; refine (inS_in _ _ _ _ c1 c2).mono ?_; rintro r w' ⟨rfl, rfl⟩)
      refine (monOkS_of hm _).mono ?_
      rintro r w1 ⟨rfl, hb⟩
      have HB := Hid.mk' (bel_next (BX.out _) hb)
      clear hb
      go_wp2
      go_ret
      exact ⟨_, rfl, HB.out.alloc HB.out.size _, owns_none w1 _ HB.out.size⟩
    · have e1 : polOf c ⟨x, y, d, e⟩ = [⟨c, ⟨x, y, d, e⟩⟩] := by simp [polOf, hm, c1, c2]
      rw [e1]
      have BX := Hid.mk' bx
      clear e1 bx
      go_enter Tryz.func34, Tryz.ntmps34
      go_wp2_with (go_at_call 38; refine (inS_in _ _ _ _ c1 c2).mono ?_; rintro r w' ⟨rfl, rfl⟩)
      refine (monOkS_of hm _).mono ?_
      rintro r w1 ⟨rfl, hb⟩
      obtain ⟨hcl, hf⟩ := bcell hb
      have HB := Hid.mk' (bel_next (BX.out _) hb)
      clear hb
      go_wp2
      go_ret
      exact ⟨_, rfl, HB.out.alloc HB.out.size _, World.ownsRow_lit w1 #[.int .i64 c, .int .i64 x, .int .i64 y, .int .i64 d, .int .i64 e] 1 HB.out.size (by decide) rfl⟩
  · have e1 : polOf c ⟨x, y, d, e⟩ = [] := by simp [polOf, hc]
    rw [e1]
    have hc' : c < 1 ∨ (1 ≤ c ∧ 100 < c) := by omega
    have BX := Hid.mk' bx
    clear e1 bx hc
    go_enter Tryz.func34, Tryz.ntmps34
    go_wp2_with (go_at_call 38; refine (inS_out _ _ _ _ hc').mono ?_; rintro r w' ⟨rfl, rfl⟩)
    go_ret
    refine ⟨_, rfl, (BX.out _).alloc (BX.out _).size _, ?_⟩
    have ho := owns_none (w.alloc (.cells #[.int .i64 x, .int .i64 y, .int .i64 d, .int .i64 e] 38)) w.heap.size (BX.out _).size
    simpa using ho
/-- PolAt: the number of the first term with a monomial, from the k-th on. -/
def atFrom (f : Nat → T) (m : M) : Nat → Nat → Int
  | 0, _ => 0
  | u + 1, k => if (f k).m.eqB m = true then (f k).c else atFrom f m u (k + 1)
def polAt (f : Nat → T) (n : Nat) (m : M) : Int := atFrom f m n 0
/-- k terms, each c times. -/
def scT (c : Int) (f : Nat → T) (k : Nat) : List T := (List.range k).map fun i => ⟨c * (f i).c % 101, (f i).m⟩
theorem scT_len (c : Int) (f : Nat → T) (k : Nat) : (scT c f k).length = k := by simp [scT]
theorem scT_succ (c : Int) (f : Nat → T) (k : Nat) : scT c f (k + 1) = scT c f k ++ [⟨c * (f k).c % 101, (f k).m⟩] := by simp [scT, List.range_succ]
/-- PolScale. -/
def polScale (c : Int) (f : Nat → T) (n : Nat) : List T := if (0 ≤ c ∧ c ≤ 100) ∧ polOk n f = true ∧ c ≠ 0 then scT c f n else []
theorem lf_scT (c : Int) (f : Nat → T) (n i : Nat) (h : i < n) : lf (scT c f n) i = ⟨c * (f i).c % 101, (f i).m⟩ := by
  simp [lf, scT, List.getD, List.getElem?_map, List.getElem?_range h]
/-- what is added for a difference. -/
def negT (g : Nat → T) (lb : Nat) : Nat → T := lf (scT 100 g lb)
/-- PolSub. -/
def polSub (f : Nat → T) (la : Nat) (g : Nat → T) (lb : Nat) : List T × Bool :=
  if polOk la f = true ∧ polOk lb g = true ∧ (addT f la (negT g lb) lb 0 0).length ≤ 400 then (addT f la (negT g lb) lb 0 0, true) else ([], false)
theorem polSub_len (f : Nat → T) (la : Nat) (g : Nat → T) (lb : Nat) : (polSub f la g lb).1.length ≤ 400 := by
  unfold polSub
  split
  · rename_i h; exact h.2.2
  · simp
theorem polOk_m {n : Nat} {f : Nat → T} (h : polOk n f = true) : ∀ i, i < n → (f i).m.ok = true := by
  intro i hi
  simp only [polOk, decide_eq_true_eq] at h
  have := h.2 i hi
  simp only [okAt, Bool.and_eq_true, decide_eq_true_eq] at this
  exact this.1.2
/-- PolFree. -/
def polFree (n : Nat) (f : Nat → T) : Bool := polOk n f && decide (∀ i, i < n → (f i).m.d + (f i).m.e ≤ 0)
/-- which term is the greatest, of those from the i-th on and the k-th. -/
def leadFrom (o : Int) (f : Nat → T) : Nat → Nat → Nat → Nat
  | 0, _, k => k
  | u + 1, i, k => if 0 < M.ord o (f i).m (f k).m then leadFrom o f u (i + 1) i else leadFrom o f u (i + 1) k
def leadAt (o : Int) (f : Nat → T) (n : Nat) : Nat := leadFrom o f (n - 1) 1 0
end Go.Proofs.YtnfgiplgkobnlaaGreatDoor
namespace Go.Proofs.YtnfgiplgkobnlaaGreatDoor
open Go.RowKit
set_option linter.unusedVariables false

theorem owns_nil (w : World) (lo : Nat) : w.ownsRow lo 45 5 (.slice none 0 0) 0 (cellsL []) := ⟨rfl, .inl ⟨rfl, rfl⟩⟩
set_option maxHeartbeats 1000000 in
theorem polOfI (c x y d e : Int) (w : World) :
    Calls Tryz.prog 18 #[.int .i64 c, .agg #[.int .i64 x, .int .i64 y, .int .i64 d, .int .i64 e]] w fun r w' => ∃ v, r = .returned v ∧ Below w.heap.size w w' ∧ w'.ownsRow w.heap.size 45 5 v (polOf c ⟨x, y, d, e⟩).length (cellsL (polOf c ⟨x, y, d, e⟩)) := by
  cases ht : termOk c ⟨x, y, d, e⟩
  · have e1 : polOf c ⟨x, y, d, e⟩ = [] := by
      unfold polOf
      rw [if_neg (fun h => by rw [termOk, decide_eq_true h.1, h.2] at ht; cases ht)]
    rw [e1]
    clear e1
    go_enter Tryz.func18, Tryz.ntmps18
    go_wp2_with fail
    refine (polTermOkI_of ht _).mono ?_
    rintro r w1 ⟨rfl, hb⟩
    have HB := Hid.mk' (bel_next (bel_one w _) hb)
    clear hb
    go_wp2
    go_ret
    exact ⟨_, rfl, HB.out, owns_nil w1 _⟩
  · have e1 : polOf c ⟨x, y, d, e⟩ = [⟨c, ⟨x, y, d, e⟩⟩] := by
      unfold polOf
      simp only [termOk, Bool.and_eq_true, decide_eq_true_eq] at ht
      rw [if_pos ht]
    rw [e1]
    clear e1
    go_enter Tryz.func18, Tryz.ntmps18
    go_wp2_with fail
    refine (polTermOkI_of ht _).mono ?_
    rintro r w1 ⟨rfl, hb⟩
    obtain ⟨hcl, hf⟩ := bcell hb
    have HB := Hid.mk' (bel_next (bel_one w _) hb)
    clear hb
    go_wp2
    go_ret
    exact ⟨_, rfl, HB.out.alloc HB.out.size _, World.ownsRow_lit w1 #[.int .i64 c, .int .i64 x, .int .i64 y, .int .i64 d, .int .i64 e] 1 HB.out.size (by decide) rfl⟩
end Go.Proofs.YtnfgiplgkobnlaaGreatDoor
namespace Go.Proofs.YtnfgiplgkobnlaaGreatDoor
open Go.RowKit
set_option linter.unusedVariables false

theorem s4c_below {w w' : World} {b : Nat} {x y d e : Int} (hb : Below w.heap.size w w') (h : w.cell? ⟨b, 0, none⟩ = some (.int .i64 x) ∧ w.cell? ⟨b, 1, none⟩ = some (.int .i64 y) ∧ w.cell? ⟨b, 2, none⟩ = some (.int .i64 d) ∧ w.cell? ⟨b, 3, none⟩ = some (.int .i64 e)) :
    w'.cell? ⟨b, 0, none⟩ = some (.int .i64 x) ∧ w'.cell? ⟨b, 1, none⟩ = some (.int .i64 y) ∧ w'.cell? ⟨b, 2, none⟩ = some (.int .i64 d) ∧ w'.cell? ⟨b, 3, none⟩ = some (.int .i64 e) := M4.below h hb
theorem polOf_len (c : Int) (m : M) : (polOf c m).length ≤ 400 := by
  unfold polOf; split <;> simp
theorem polScale_len (c : Int) (f : Nat → T) (n : Nat) : (polScale c f n).length ≤ 400 := by
  unfold polScale; split
  · rename_i h; rw [scT_len]; exact (polOk_c h.2.1).1
  · simp
end Go.Proofs.YtnfgiplgkobnlaaGreatDoor
