/-
  More of chapter 3's model: an operator of one term, the number of a monomial, so many times an operator.
-/
import Derived.Test.YtioecpiogpjlaaaExact
import Derived.Deep.RegionHeld3
namespace Go.Proofs.Ytioecpiogpjlaaa
open Go.RowKit
set_option linter.unusedVariables false

/-- PolOf. -/
def polOf (c : Int) (m : M) : List T := if (1 ≤ c ∧ c ≤ 100) ∧ m.ok = true then [⟨c, m⟩] else []
/-- PolAt: the number of the first term with a monomial, from the k-th on. -/
def atFrom (f : Nat → T) (m : M) : Nat → Nat → Int
  | 0, _ => 0
  | u + 1, k => if (f k).m.eqB m = true then (f k).c else atFrom f m u (k + 1)
def polAt (f : Nat → T) (n : Nat) (m : M) : Int := atFrom f m n 0
/-- k terms, each c times. -/
def scT (c : Int) (f : Nat → T) (k : Nat) : List T := (List.range k).map fun i => ⟨c * (f i).c % 101, (f i).m⟩
theorem scT_len (c : Int) (f : Nat → T) (k : Nat) : (scT c f k).length = k := by simp [scT]
theorem scT_succ (c : Int) (f : Nat → T) (k : Nat) : scT c f (k + 1) = scT c f k ++ [⟨c * (f k).c % 101, (f k).m⟩] := by simp [scT, List.range_succ]
/-- PolScale. -/
def polScale (c : Int) (f : Nat → T) (n : Nat) : List T := if (0 ≤ c ∧ c ≤ 100) ∧ polOk n f = true ∧ c ≠ 0 then scT c f n else []
theorem lf_scT (c : Int) (f : Nat → T) (n i : Nat) (h : i < n) : lf (scT c f n) i = ⟨c * (f i).c % 101, (f i).m⟩ := by
  simp [lf, scT, List.getD, List.getElem?_map, List.getElem?_range h]
/-- what is added for a difference. -/
def negT (g : Nat → T) (lb : Nat) : Nat → T := lf (scT 100 g lb)
/-- PolSub. -/
def polSub (f : Nat → T) (la : Nat) (g : Nat → T) (lb : Nat) : List T × Bool :=
  if polOk la f = true ∧ polOk lb g = true ∧ (addT f la (negT g lb) lb 0 0).length ≤ 400 then (addT f la (negT g lb) lb 0 0, true) else ([], false)
theorem polSub_len (f : Nat → T) (la : Nat) (g : Nat → T) (lb : Nat) : (polSub f la g lb).1.length ≤ 400 := by
  unfold polSub
  split
  · rename_i h; exact h.2.2
  · simp
theorem polOk_m {n : Nat} {f : Nat → T} (h : polOk n f = true) : ∀ i, i < n → (f i).m.ok = true := by
  intro i hi
  simp only [polOk, decide_eq_true_eq] at h
  have := h.2 i hi
  simp only [okAt, Bool.and_eq_true, decide_eq_true_eq] at this
  exact this.1.2
/-- PolFree. -/
def polFree (n : Nat) (f : Nat → T) : Bool := polOk n f && decide (∀ i, i < n → (f i).m.d + (f i).m.e ≤ 0)
set_option maxHeartbeats 4000000 in
theorem polFreeS (w : World) (a : Option Addr) (n cap : Nat) (f : Nat → T) (h : Rd w a n cap f) :
    Calls Try.prog 27 #[.slice a n cap] w fun r w' => r = .returned (.bool (polFree n f)) ∧ Below w.heap.size w w' := by
  have HR := Hid.mk' h
  obtain ⟨h1, h2, h3⟩ := h
  have hn : (n : Int) ≤ 140737488351232 := by omega
  cases hp : polOk n f
  · have e1 : polFree n f = false := by simp [polFree, hp]
    rw [e1]
    clear e1 h3
    go_enter Try.func27, Try.ntmps27
    go_wp2_with fail
    refine (polOkS _ _ _ _ f HR.out).mono ?_
    rw [hp]
    rintro r w1 ⟨rfl, hb⟩
    go_wp2
    go_ret
    exact ⟨rfl, hb⟩
  · have HM := Hid.mk' (polOk_m hp)
    go_enter Try.func27, Try.ntmps27
    go_wp2_with fail
    refine (polOkS _ _ _ _ f HR.out).mono ?_
    rw [hp]
    rintro r w1 ⟨rfl, hb⟩
    have HB1 := Hid.mk' hb
    clear hb
    go_wp2
    go_loopw [3] (fun i wr => ∃ k : Nat, k ≤ n ∧ i = .int .i64 k ∧ Below w.heap.size w wr ∧ Hid (∀ j, j < k → (f j).m.d + (f j).m.e ≤ 0)) (fun i _ => n - (intOf i).toNat)
    case atStart => exact ⟨0, Nat.zero_le _, rfl, HB1.out, fun j hj => absurd hj (Nat.not_lt_zero _)⟩
    case round =>
      obtain ⟨k, hk, rfl, hB, hok⟩ := hrel
      by_cases hlt : k < n
      · rcases h3 with h0 | ⟨b, off, rfl, hblt, hcl⟩
        · omega
        have hkn : (k : Int) < (n : Int) := by omega
        have hbr : b < wr.heap.size := Nat.lt_of_lt_of_le hblt hB.size
        have ne := Ext.there wr
        have hck := (hcl k hlt).below hB hblt
        have s3 : ∀ u : Ext wr, u.1.cell? ⟨b, off + k * 5 + 3, none⟩ = some (.int .i64 (f k).m.d) := fun u => (u.cell hbr).trans hck.2.2.2.1
        have s4 : ∀ u : Ext wr, u.1.cell? ⟨b, off + k * 5 + 4, none⟩ = some (.int .i64 (f k).m.e) := fun u => (u.cell hbr).trans hck.2.2.2.2
        obtain ⟨_, _, _, _, d1, d2, e1, e2⟩ := M.ok_iff.1 (HM.out k hlt)
        clear hck hcl
        by_cases hq : 0 < (f k).m.d + (f k).m.e
        · have HF : Hid (polFree n f = false) := by
            show _ = _
            simp only [polFree, hp, Bool.true_and, decide_eq_false_iff_not]
            intro hh
            have := hh k hlt
            omega
          have dq : decide (0 < (f k).m.d + (f k).m.e) = true := decide_eq_true hq
          go_wp2_with fail
          refine wp_region_ext (by kernel_rfl) (by kernel_rfl) ?_
          repeat (go_big_quiet_step (fail))
          refine wpQuiet_nil ?_
          rintro _ ⟨u, rfl⟩
          go_wp2
          go_ret
          exact ⟨by rw [HF.out]; rfl, hB.trans (u.2.mono hB.size)⟩
        · have hok' : Hid (∀ j, j < k + 1 → (f j).m.d + (f j).m.e ≤ 0) := fun j hj => by
            by_cases hjk : j = k
            · rw [hjk]; omega
            · exact hok.out j (by omega)
          have dq : decide (0 < (f k).m.d + (f k).m.e) = false := decide_eq_false hq
          clear hok
          go_wp2_with fail
          refine wp_region_ext (by kernel_rfl) (by kernel_rfl) ?_
          repeat (go_big_quiet_step (fail))
          refine wpQuiet_nil ?_
          rintro _ ⟨u, rfl⟩
          go_wp2
          go_roundw
          case rel => exact ⟨k + 1, by omega, by go_num, hB.trans (u.2.mono hB.size), hok'⟩
          case measure => simp [intOf]; omega
      · have HF : Hid (polFree n f = true) := by
          show _ = _
          simp only [polFree, hp, Bool.true_and, decide_eq_true_eq]
          exact fun i hi => hok.out i (by omega)
        go_wp2
        go_ret
        exact ⟨by rw [HF.out]; rfl, hB⟩
/-- which term is the greatest, of those from the i-th on and the k-th. -/
def leadFrom (o : Int) (f : Nat → T) : Nat → Nat → Nat → Nat
  | 0, _, k => k
  | u + 1, i, k => if 0 < M.ord o (f i).m (f k).m then leadFrom o f u (i + 1) i else leadFrom o f u (i + 1) k
def leadAt (o : Int) (f : Nat → T) (n : Nat) : Nat := leadFrom o f (n - 1) 1 0
end Go.Proofs.Ytioecpiogpjlaaa
