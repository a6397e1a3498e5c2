/-
  Which operators are free of others: the model, and the program's first one that divides.
-/
import Derived.Test.YtbicmmbajknceaaGreatGbb
import Derived.Test.YtbicmmbajknceaaGreatGba
namespace Go.Proofs.YtbicmmbajknceaaGreat
open Go.RowKit Go.Deep Go.Joins
set_option linter.unusedVariables false

/-- a slice in a cell, and a monomial in a box. -/
abbrev L5 (b o B : Nat) (v : Value) (m : M) (u : World) : Prop := u.cell? ⟨b, o, none⟩ = some v ∧ u.cell? ⟨B, 0, none⟩ = some (.int .i64 m.x) ∧ u.cell? ⟨B, 1, none⟩ = some (.int .i64 m.y) ∧ u.cell? ⟨B, 2, none⟩ = some (.int .i64 m.d) ∧ u.cell? ⟨B, 3, none⟩ = some (.int .i64 m.e)
theorem L5.below {b o B : Nat} {v : Value} {m : M} {u u' : World} (h : L5 b o B v m u) (hb : Below u.heap.size u u') : L5 b o B v m u' :=
  have l1 := World.block_lt_of_cell? u ⟨b, o, none⟩ h.1
  have l2 := World.block_lt_of_cell? u ⟨B, 0, none⟩ h.2.1
  ⟨(hb.cell (p := ⟨b, o, none⟩) l1).trans h.1, (hb.cell (p := ⟨B, 0, none⟩) l2).trans h.2.1, (hb.cell (p := ⟨B, 1, none⟩) l2).trans h.2.2.1, (hb.cell (p := ⟨B, 2, none⟩) l2).trans h.2.2.2.1, (hb.cell (p := ⟨B, 3, none⟩) l2).trans h.2.2.2.2⟩
/-- the greatest term of the i-th operator. -/
def ldAt (o : Int) (ln : Nat → Nat) (f : Nat → Nat → T) (i : Nat) : T := f i (leadAt o (f i) (ln i))
def redFree (o : Int) (np : Nat) (p : Nat → T) (n : Nat) (ln : Nat → Nat) (f : Nat → Nat → T) : Bool := decide ((1 ≤ o ∧ o ≤ 3) ∧ polOk np p = true ∧ lstOk n ln f = true ∧ ∀ k, k < np → ∀ i, i < n → M.dvd (ldAt o ln f i).m (p k).m = false)
set_option maxRecDepth 100000 in
set_option maxHeartbeats 4000000 in
theorem l7FindS (w : World) (o : Int) (a : Option Addr) (n cap : Nat) (ad : Nat → Option Addr) (ln cp : Nat → Nat) (f : Nat → Nat → T) (m : M) (h : RdS w a n cap ad ln cp f) (hok : ∀ i, i < n → ln i ≠ 0 ∧ polOk (ln i) (f i) = true) :
    Calls Tryz.prog 101 #[.int .i64 o, .slice a n cap, .agg #[.int .i64 m.x, .int .i64 m.y, .int .i64 m.d, .int .i64 m.e]] w fun r w' => ∃ z : Int, r = .returned (.int .i64 z) ∧ Below w.heap.size w w' ∧ ((∀ i, i < n → M.dvd (ldAt o ln f i).m m = false) → z = -1) ∧ (∀ i, i < n → M.dvd (ldAt o ln f i).m m = true → 0 ≤ z) := by
  have hn : (n : Int) ≤ 140737488351232 := by have := h.2.1; omega
  have HB0 := Hid.mk' (bel_one w (.cells #[.int .i64 m.x, .int .i64 m.y, .int .i64 m.d, .int .i64 m.e] 31))
  have HM0 := Hid.mk' (M4.box w 31 m.x m.y m.d m.e)
  have HH := Hid.mk' h
  have HO := Hid.mk' hok
  clear h hok
  go_enter Tryz.func101, Tryz.ntmps101
  go_wp2
  go_loopw [7] (fun v wr => ∃ i : Nat, i ≤ n ∧ v = .int .i64 (i : Int) ∧ Below w.heap.size w wr ∧ M4 wr w.heap.size m.x m.y m.d m.e ∧ ∀ j, j < i → M.dvd (ldAt o ln f j).m m = false) (fun v _ => n - (intOf v).toNat)
  case atStart => exact ⟨0, Nat.zero_le _, rfl, HB0.out, HM0.out, fun j hj => by omega⟩
  case round =>
    obtain ⟨i, hi, rfl, hB, hM, hJ⟩ := hrel
    have HJ := Hid.mk' hJ
    have HB := Hid.mk' hB
    have HM := Hid.mk' hM
    clear hJ
    by_cases hlt : i < n
    · rcases HH.out.2.2.1 with h0 | ⟨b, off, rfl, hblt, hcl⟩
      · omega
      have hil : (i : Int) < (n : Int) := by omega
      have hbr : b < wr.heap.size := Nat.lt_of_lt_of_le hblt hB.size
      have g0 : wr.cell? ⟨b, off + i, none⟩ = some (.slice (ad i) (ln i) (cp i)) := (hB.cell (p := ⟨b, off + i, none⟩) hblt).trans (hcl i hlt)
      have hS : L5 b (off + i) w.heap.size (.slice (ad i) (ln i) (cp i)) m wr.drew := ⟨g0, hM.1, hM.2.1, hM.2.2.1, hM.2.2.2⟩
      have hoi := HO.out i hlt
      have fl := fl_of_ok hoi.2
      have HK := Hid.mk' ((HH.out.2.2.2 i hlt).below hB)
      obtain ⟨t, ht⟩ : ∃ t, ldAt o ln f i = t := ⟨_, rfl⟩
      have hlead : Calls Tryz.prog 83 #[.int .i64 o, .slice (ad i) (ln i) (cp i)] wr.drew fun r w' => r = .returned (.agg #[.int .i64 t.c, .int .i64 t.m.x, .int .i64 t.m.y, .int .i64 t.m.d, .int .i64 t.m.e]) ∧ Below wr.drew.heap.size wr.drew w' := by
        have := l3LeadS wr.drew o (ad i) (ln i) (cp i) (f i) (HK.out.below (Below.refl _ _).drew) (by omega) (fun j hj => (fl.2 j hj).1)
        rw [show f i (leadAt o (f i) (ln i)) = t from ht] at this
        exact this
      obtain ⟨bv, hbv⟩ : ∃ bv, M.dvd ⟨t.m.x, t.m.y, t.m.d, t.m.e⟩ ⟨m.x, m.y, m.d, m.e⟩ = bv := ⟨_, rfl⟩
      have HT : Hid (M.dvd (ldAt o ln f i).m m = bv) := by
        show M.dvd (ldAt o ln f i).m m = bv
        rw [ht]
        exact hbv
      have hfield : ∀ W : World, (Instr.field 33 (Value.agg #[.int .i64 t.c, .int .i64 t.m.x, .int .i64 t.m.y, .int .i64 t.m.d, .int .i64 t.m.e]) 1).run Tryz.prog W = .ok (Value.agg #[.int .i64 t.m.x, .int .i64 t.m.y, .int .i64 t.m.d, .int .i64 t.m.e]) W := fun W => by kernel_rfl
      have HBD := Hid.mk' hB.drew
      have HMD := Hid.mk' hM.drew'
      clear hcl hB hM g0 hoi fl ht hbr
      go_wp2_with fail
      go_region_held3 (fun u => u.cell? ⟨b, off + i, none⟩ = some (.slice (ad i) (ln i) (cp i)) ∧ u.cell? ⟨w.heap.size, 0, none⟩ = some (.int .i64 m.x) ∧ u.cell? ⟨w.heap.size, 1, none⟩ = some (.int .i64 m.y) ∧ u.cell? ⟨w.heap.size, 2, none⟩ = some (.int .i64 m.d) ∧ u.cell? ⟨w.heap.size, 3, none⟩ = some (.int .i64 m.e)) (first | with_reducible exact hS | with_reducible exact L5.below hS b1 | with_reducible exact L5.below (L5.below hS b1) b2) (first | (go_at_call 83; refine hlead.mono ?_; rintro e w1 ⟨rfl, b1⟩) | (go_at_call 127; refine (monDividesS_of hbv _).mono ?_; rintro e w2 ⟨rfl, b2⟩))
      have HBV := Hid.mk' (bel_next (bel_next HBD.out b1) b2)
      have HMV := Hid.mk' ((HMD.out.below b1).below b2)
      clear hS hlead hbv b1 b2 hfield
      cases bv
      · go_wp2
        go_roundw
        case rel => exact ⟨i + 1, by omega, by go_num, HBV.out, HMV.out, fun j hj => by
          by_cases e : j = i
          · rw [e]; exact HT.out
          · exact HJ.out j (by omega)⟩
        case measure => simp [intOf]; omega
      · go_wp2
        go_ret
        exact ⟨(i : Int), rfl, HBV.out, fun hh => absurd (HT.out.symm.trans (hh i hlt)) (by simp), fun _ _ _ => by omega⟩
    · have hnl : ¬ (i : Int) < (n : Int) := by omega
      have hie : i = n := by omega
      subst hie
      go_wp2
      go_ret
      exact ⟨-1, rfl, HB.out, fun _ => rfl, fun j hj hh => by rw [HJ.out j hj] at hh; cases hh⟩
end Go.Proofs.YtbicmmbajknceaaGreat
