/-
  Lists of operators: which are ok, and which are the same.
-/
import Derived.Test.YtpfgelfmhhnbaaaLL
import Derived.Test.YtpfgelfmhhnbaaaGao
namespace Go.Proofs.Ytpfgelfmhhnbaaa
open Go.RowKit Go.Deep Go.Joins
set_option linter.unusedVariables false

/-- a list of operators is ok one by one. -/
def lstOk (n : Nat) (ln : Nat → Nat) (f : Nat → Nat → T) : Bool := decide (n ≤ 12 ∧ ∀ i, i < n → ln i ≠ 0 ∧ polOk (ln i) (f i) = true)
set_option maxHeartbeats 4000000 in
theorem lstOkI (w : World) (a : Option Addr) (n cap : Nat) (ad : Nat → Option Addr) (ln cp : Nat → Nat) (f : Nat → Nat → T) (h : RdS w a n cap ad ln cp f) :
    Calls Try.prog 11 #[.slice a n cap] w fun r w' => r = .returned (.bool (lstOk n ln f)) ∧ Below w.heap.size w w' := by
  have hn : (n : Int) ≤ 140737488351232 := by have := h.2.1; omega
  have HH := Hid.mk' h
  clear h
  by_cases hbig : 12 < n
  · have e : lstOk n ln f = false := decide_eq_false (fun hh => by omega)
    have hb : (12 : Int) < (n : Int) := by omega
    rw [e]
    go_enter Try.func11, Try.ntmps11
    go_wp2
    go_ret
    exact ⟨rfl, Below.refl _ _⟩
  · have hnb : ¬ (12 : Int) < (n : Int) := by omega
    go_enter Try.func11, Try.ntmps11
    go_wp2
    go_loopw [10] (fun v wr => ∃ i : Nat, i ≤ n ∧ v = .int .i64 (i : Int) ∧ Below w.heap.size w wr ∧ ∀ j, j < i → ln j ≠ 0 ∧ polOk (ln j) (f j) = true) (fun v _ => n - (intOf v).toNat)
    case atStart => exact ⟨0, Nat.zero_le _, rfl, Below.refl _ _, fun j hj => by omega⟩
    case round =>
      obtain ⟨i, hi, rfl, hB, hJ⟩ := hrel
      by_cases hlt : i < n
      · rcases HH.out.2.2.1 with h0 | ⟨b, off, rfl, hblt, hcl⟩
        · omega
        have hil : (i : Int) < (n : Int) := by omega
        have g0 : wr.cell? ⟨b, off + i, none⟩ = some (.slice (ad i) (ln i) (cp i)) := (hB.cell (p := ⟨b, off + i, none⟩) hblt).trans (hcl i hlt)
        have HK := Hid.mk' ((HH.out.2.2.2 i hlt).below hB)
        have HB := Hid.mk' hB
        have HJ := Hid.mk' hJ
        clear hcl hB hJ
        by_cases h0 : ln i = 0
        · have HE : Hid (lstOk n ln f = false) := decide_eq_false (fun hh => (hh.2 i hlt).1 h0)
          have hz : ((ln i : Int) == 0) = true := by rw [h0]; rfl
          clear h0
          go_wp2
          go_ret
          exact ⟨congrArg (fun z => Ending.returned (Value.bool z)) HE.out.symm, HB.out⟩
        · have hz : ((ln i : Int) == 0) = false := by rw [beq_eq_false_iff_ne]; omega
          have HZ := Hid.mk' h0
          clear h0
          cases hp : polOk (ln i) (f i)
          · have HE : Hid (lstOk n ln f = false) := decide_eq_false (fun hh => by have := (hh.2 i hlt).2; rw [hp] at this; cases this)
            go_wp2_with fail
            refine (polOkI _ _ _ _ (f i) HK.out).mono ?_
            rw [hp]
            rintro r w1 ⟨rfl, hb⟩
            have HB1 := Hid.mk' (bel_next HB.out hb)
            clear hb
            go_wp2
            go_ret
            exact ⟨congrArg (fun z => Ending.returned (Value.bool z)) HE.out.symm, HB1.out⟩
          · go_wp2_with fail
            refine (polOkI _ _ _ _ (f i) HK.out).mono ?_
            rw [hp]
            rintro r w1 ⟨rfl, hb⟩
            have HB1 := Hid.mk' (bel_next HB.out hb)
            clear hb
            go_wp2
            go_roundw
            case rel => exact ⟨i + 1, by omega, by go_num, HB1.out, fun j hj => by
              by_cases e : j = i
              · rw [e]; exact ⟨HZ.out, hp⟩
              · exact HJ.out j (by omega)⟩
            case measure => simp [intOf]; omega
      · have hnl : ¬ (i : Int) < (n : Int) := by omega
        have hie : i = n := by omega
        subst hie
        have HE : Hid (lstOk i ln f = true) := decide_eq_true ⟨by omega, hJ⟩
        have HB := Hid.mk' hB
        clear hB hJ
        go_wp2
        go_ret
        exact ⟨congrArg (fun z => Ending.returned (Value.bool z)) HE.out.symm, HB.out⟩
set_option maxHeartbeats 4000000 in
theorem lstOkS (w : World) (a : Option Addr) (n cap : Nat) (ad : Nat → Option Addr) (ln cp : Nat → Nat) (f : Nat → Nat → T) (h : RdS w a n cap ad ln cp f) :
    Calls Try.prog 9 #[.slice a n cap] w fun r w' => r = .returned (.bool (lstOk n ln f)) ∧ Below w.heap.size w w' := by
  have hn : (n : Int) ≤ 140737488351232 := by have := h.2.1; omega
  have HH := Hid.mk' h
  clear h
  by_cases hbig : 12 < n
  · have e : lstOk n ln f = false := decide_eq_false (fun hh => by omega)
    have hb : (12 : Int) < (n : Int) := by omega
    rw [e]
    go_enter Try.func9, Try.ntmps9
    go_wp2
    go_ret
    exact ⟨rfl, Below.refl _ _⟩
  · have hnb : ¬ (12 : Int) < (n : Int) := by omega
    go_enter Try.func9, Try.ntmps9
    go_wp2
    go_loopw [3] (fun v wr => ∃ i : Nat, i ≤ n ∧ v = .int .i64 (i : Int) ∧ Below w.heap.size w wr ∧ ∀ j, j < i → ln j ≠ 0 ∧ polOk (ln j) (f j) = true) (fun v _ => n - (intOf v).toNat)
    case atStart => exact ⟨0, Nat.zero_le _, rfl, Below.refl _ _, fun j hj => by omega⟩
    case round =>
      obtain ⟨i, hi, rfl, hB, hJ⟩ := hrel
      by_cases hlt : i < n
      · rcases HH.out.2.2.1 with h0 | ⟨b, off, rfl, hblt, hcl⟩
        · omega
        have hil : (i : Int) < (n : Int) := by omega
        have g0 : wr.cell? ⟨b, off + i, none⟩ = some (.slice (ad i) (ln i) (cp i)) := (hB.cell (p := ⟨b, off + i, none⟩) hblt).trans (hcl i hlt)
        have HG : Hid (∀ w', Below wr.heap.size wr w' → w'.cell? ⟨b, off + i, none⟩ = some (.slice (ad i) (ln i) (cp i))) := fun w' hb => (hb.cell (p := ⟨b, off + i, none⟩) (Nat.lt_of_lt_of_le hblt hB.size)).trans g0
        have HK := Hid.mk' ((HH.out.2.2.2 i hlt).below hB)
        have HB := Hid.mk' hB
        have HJ := Hid.mk' hJ
        clear hcl hB hJ
        cases hp : polOk (ln i) (f i)
        · have HE : Hid (lstOk n ln f = false) := decide_eq_false (fun hh => by have := (hh.2 i hlt).2; rw [hp] at this; cases this)
          go_wp2_with fail
          refine (polOkS _ _ _ _ (f i) HK.out).mono ?_
          rw [hp]
          rintro r w1 ⟨rfl, hb⟩
          have HB1 := Hid.mk' (bel_next HB.out hb)
          clear hb
          go_wp2
          go_ret
          exact ⟨congrArg (fun z => Ending.returned (Value.bool z)) HE.out.symm, HB1.out⟩
        · go_wp2_with fail
          refine (polOkS _ _ _ _ (f i) HK.out).mono ?_
          rw [hp]
          rintro r w1 ⟨rfl, hb⟩
          have HB1 := Hid.mk' (bel_next HB.out hb)
          have g1 := HG.out w1 hb
          clear hb g0
          by_cases h0 : ln i = 0
          · have HE : Hid (lstOk n ln f = false) := decide_eq_false (fun hh => (hh.2 i hlt).1 h0)
            have hz : ((ln i : Int) == 0) = true := by rw [h0]; rfl
            clear h0
            go_wp2
            go_ret
            exact ⟨congrArg (fun z => Ending.returned (Value.bool z)) HE.out.symm, HB1.out⟩
          · have hz : ((ln i : Int) == 0) = false := by rw [beq_eq_false_iff_ne]; omega
            have HZ := Hid.mk' h0
            clear h0
            go_wp2
            go_roundw
            case rel => exact ⟨i + 1, by omega, by go_num, HB1.out, fun j hj => by
              by_cases e : j = i
              · rw [e]; exact ⟨HZ.out, hp⟩
              · exact HJ.out j (by omega)⟩
            case measure => simp [intOf]; omega
      · have hnl : ¬ (i : Int) < (n : Int) := by omega
        have hie : i = n := by omega
        subst hie
        have HE : Hid (lstOk i ln f = true) := decide_eq_true ⟨by omega, hJ⟩
        have HB := Hid.mk' hB
        clear hB hJ
        go_wp2
        go_ret
        exact ⟨congrArg (fun z => Ending.returned (Value.bool z)) HE.out.symm, HB.out⟩
/-- two copies of the same lists are the same. -/
theorem eqLists (w : World) (a a' : Option Addr) (n cap cap' : Nat) (ad ad' : Nat → Option Addr) (ln cp cp' : Nat → Nat) (f : Nat → Nat → T) (h : RdS w a n cap ad ln cp f) (h' : RdS w a' n cap' ad' ln cp' f) :
    Calls Try.prog 12 #[.slice a n cap, .slice a' n cap'] w fun r w' => r = .returned (.bool true) ∧ Below w.heap.size w w' := by
  have hn : (n : Int) ≤ 140737488351232 := by have := h.2.1; omega
  have HH := Hid.mk' h
  have HH' := Hid.mk' h'
  clear h h'
  go_enter Try.func12, Try.ntmps12
  go_wp2
  go_loopw [5] (fun v wr => ∃ i : Nat, i ≤ n ∧ v = .int .i64 (i : Int) ∧ Below w.heap.size w wr) (fun v _ => n - (intOf v).toNat)
  case atStart => exact ⟨0, Nat.zero_le _, rfl, Below.refl _ _⟩
  case round =>
    obtain ⟨i, hi, rfl, hB⟩ := hrel
    by_cases hlt : i < n
    · rcases HH.out.2.2.1 with h0 | ⟨b, off, rfl, hblt, hcl⟩
      · omega
      rcases HH'.out.2.2.1 with h0 | ⟨b', off', rfl, hblt', hcl'⟩
      · omega
      have hil : (i : Int) < (n : Int) := by omega
      have hbr : b < wr.heap.size := Nat.lt_of_lt_of_le hblt hB.size
      have hbr' : b' < wr.heap.size := Nat.lt_of_lt_of_le hblt' hB.size
      have ne := Ext.there wr
      have g0 : wr.cell? ⟨b, off + i, none⟩ = some (.slice (ad i) (ln i) (cp i)) := (hB.cell (p := ⟨b, off + i, none⟩) hblt).trans (hcl i hlt)
      have g1 : wr.cell? ⟨b', off' + i, none⟩ = some (.slice (ad' i) (ln i) (cp' i)) := (hB.cell (p := ⟨b', off' + i, none⟩) hblt').trans (hcl' i hlt)
      have s0 : ∀ u : Ext wr, u.1.cell? ⟨b, off + i, none⟩ = some (.slice (ad i) (ln i) (cp i)) := fun u => (u.cell hbr).trans g0
      have s1 : ∀ u : Ext wr, u.1.cell? ⟨b', off' + i, none⟩ = some (.slice (ad' i) (ln i) (cp' i)) := fun u => (u.cell hbr').trans g1
      have HK := Hid.mk' ((HH.out.2.2.2 i hlt).below hB)
      have HK' := Hid.mk' ((HH'.out.2.2.2 i hlt).below hB)
      have HB := Hid.mk' hB
      have hcall : ∀ u : Ext wr, Calls Try.prog 17 #[.slice (ad i) (ln i) (cp i), .slice (ad' i) (ln i) (cp' i)] u.1 fun r w' => r = .returned (.bool true) ∧ Below u.1.heap.size u.1 w' := fun u => by
        have := eqTerms u.1 (ad i) (ad' i) (ln i) (cp i) (ln i) (cp' i) (f i) (f i) (HK.out.below u.2) (HK'.out.below u.2)
        rw [show termsEq (ln i) (f i) (ln i) (f i) = true from decide_eq_true ⟨rfl, fun j _ => T.eqB_iff.2 rfl⟩] at this
        exact this
      clear hcl hcl' hB g0 g1
      go_wp2_with fail
      refine wp_region_ext (by kernel_rfl) (by kernel_rfl) ?_
      repeat (go_big_quiet_step (first | (go_at_call 17; exact ext_grows (hcall _)) | fail))
      refine wpQuiet_nil ?_
      rintro _ ⟨v, rfl⟩
      have HV := Hid.mk' v.2
      clear s0 s1 ne hcall
      go_wp2
      go_roundw
      case rel => exact ⟨i + 1, by omega, by go_num, bel_next HB.out HV.out⟩
      case measure => simp [intOf]; omega
    · have hnl : ¬ (i : Int) < (n : Int) := by omega
      go_wp2
      go_ret
      exact ⟨rfl, hB⟩
end Go.Proofs.Ytpfgelfmhhnbaaa
