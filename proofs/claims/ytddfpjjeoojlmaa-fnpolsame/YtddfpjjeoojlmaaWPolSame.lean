/-
  The walk of FnPolSame: whatever the code, it comes out true, and nothing that was there is turned.
-/
import Derived.Test.YtddfpjjeoojlmaaDrawSame
import Derived.Test.YtddfpjjeoojlmaaGat
import Derived.Test.YtddfpjjeoojlmaaGau
namespace Go.Proofs.Ytddfpjjeoojlmaa
open Go.RowKit
set_option linter.unusedVariables false
set_option maxRecDepth 100000 in
set_option maxHeartbeats 8000000 in
theorem walk_FnPolSame (w : World) (a0 : Option Addr) (len0 cap0 : Nat) (s0 : Src w a0 len0 cap0) :
    Calls Try.prog 6 #[.slice a0 len0 cap0] w fun e w' => e = .returned (.bool true) ∧ Below w.heap.size w w' := by
  by_cases c0 : (1048576 : Int) < (len0 : Int)
  · go_enter Try.func6, Try.ntmps6
    go_wp2
    go_ret
    exact ⟨rfl, Below.refl _ _⟩
  go_enter Try.func6, Try.ntmps6
  go_wp2_with fail
  refine (drawPolSame w a0 len0 cap0 s0).mono ?_
  rintro e wd ⟨da, dca, A, db, dcb, B, rfl, hA, hB, hlA, hlB, hbd⟩
  have HA0 := Hid.mk' hA
  have HB0 := Hid.mk' hB
  have Z0 := Hid.mk' hbd
  clear hA hB hbd s0
  have hne : (sq A B != sq A B) = false := by simp
  have hco := sq_comm B A
  go_wp2_with fail
  refine (sameI_L HA0.out HB0.out).mono ?_
  rintro e w1 ⟨rfl, b2⟩
  have H3 := Hid.mk' (HA0.out.below b2)
  clear HA0
  have H4 := Hid.mk' (HB0.out.below b2)
  clear HB0
  have Z5 := Hid.mk' (bel_next Z0.out b2)
  clear Z0
  clear b2
  go_wp2_with fail
  refine (sameS_L H3.out H4.out).mono ?_
  rintro e w6 ⟨rfl, b7⟩
  have H8 := Hid.mk' (H3.out.below b7)
  clear H3
  have H9 := Hid.mk' (H4.out.below b7)
  clear H4
  have Z10 := Hid.mk' (bel_next Z5.out b7)
  clear Z5
  clear b7
  go_wp2_with fail
  refine (sameI_L H9.out H8.out).mono ?_
  rw [hco]
  rintro e w11 ⟨rfl, b12⟩
  have H13 := Hid.mk' (H8.out.below b12)
  clear H8
  have H14 := Hid.mk' (H9.out.below b12)
  clear H9
  have Z15 := Hid.mk' (bel_next Z10.out b12)
  clear Z10
  clear b12
  go_wp2_with fail
  refine (sameI_L H13.out H13.out).mono ?_
  rw [sq_same]
  rintro e w16 ⟨rfl, b17⟩
  have H18 := Hid.mk' (H13.out.below b17)
  clear H13
  have H19 := Hid.mk' (H14.out.below b17)
  clear H14
  have Z20 := Hid.mk' (bel_next Z15.out b17)
  clear Z15
  clear b17
  cases oA : okL A
  · go_wp2_with fail
    refine (okS_L H18.out).mono ?_
    rw [oA]
    rintro e w21 ⟨rfl, b22⟩
    have H23 := Hid.mk' (H18.out.below b22)
    clear H18
    have H24 := Hid.mk' (H19.out.below b22)
    clear H19
    have Z25 := Hid.mk' (bel_next Z20.out b22)
    clear Z20
    clear b22
    have hee : (sq A B == sq A B) = true := by simp
    go_wp2_with fail
    refine (he_L H23.out H24.out).mono ?_
    rintro e w26 ⟨rfl, b27⟩
    have H28 := Hid.mk' (H23.out.below b27)
    clear H23
    have H29 := Hid.mk' (H24.out.below b27)
    clear H24
    have Z30 := Hid.mk' (bel_next Z25.out b27)
    clear Z25
    clear b27
    go_wp2
    go_ret
    exact ⟨rfl, Z30.out⟩
  · cases oB : okL B
    · go_wp2_with fail
      refine (okS_L H18.out).mono ?_
      rw [oA]
      rintro e w31 ⟨rfl, b32⟩
      have H33 := Hid.mk' (H18.out.below b32)
      clear H18
      have H34 := Hid.mk' (H19.out.below b32)
      clear H19
      have Z35 := Hid.mk' (bel_next Z20.out b32)
      clear Z20
      clear b32
      go_wp2_with fail
      refine (okS_L H34.out).mono ?_
      rw [oB]
      rintro e w36 ⟨rfl, b37⟩
      have H38 := Hid.mk' (H33.out.below b37)
      clear H33
      have H39 := Hid.mk' (H34.out.below b37)
      clear H34
      have Z40 := Hid.mk' (bel_next Z35.out b37)
      clear Z35
      clear b37
      have hee : (sq A B == sq A B) = true := by simp
      go_wp2_with fail
      refine (he_L H38.out H39.out).mono ?_
      rintro e w41 ⟨rfl, b42⟩
      have H43 := Hid.mk' (H38.out.below b42)
      clear H38
      have H44 := Hid.mk' (H39.out.below b42)
      clear H39
      have Z45 := Hid.mk' (bel_next Z40.out b42)
      clear Z40
      clear b42
      go_wp2
      go_ret
      exact ⟨rfl, Z45.out⟩
    · have fA := (okL_falls oA).2
      have fB := (okL_falls oB).2
      have hl : (subL A B).length ≤ 400 := by have := subL_len A B; omega
      have h := subV_ok oA oB hl
      have hv : (sq A B == (((subL A B).length : Int) == 0)) = true := by
        by_cases e : A = B
        · have h1 := (sub_nil_iff fA fB).2 e
          rw [h1, e, sq_same]; rfl
        · have h1 : sq A B = false := by
            cases hs : sq A B
            · rfl
            · exact absurd (sq_iff.1 hs) e
          have h2 : (subL A B).length ≠ 0 := fun hz => e ((sub_nil_iff fA fB).1 (List.length_eq_zero_iff.1 hz))
          have h3 : (((subL A B).length : Int) == 0) = false := by rw [beq_eq_false_iff_ne]; omega
          rw [h1, h3]; rfl
      go_wp2_with fail
      refine (okS_L H18.out).mono ?_
      rw [oA]
      rintro e w46 ⟨rfl, b47⟩
      have H48 := Hid.mk' (H18.out.below b47)
      clear H18
      have H49 := Hid.mk' (H19.out.below b47)
      clear H19
      have Z50 := Hid.mk' (bel_next Z20.out b47)
      clear Z20
      clear b47
      go_wp2_with fail
      refine (okS_L H49.out).mono ?_
      rw [oB]
      rintro e w51 ⟨rfl, b52⟩
      have H53 := Hid.mk' (H48.out.below b52)
      clear H48
      have H54 := Hid.mk' (H49.out.below b52)
      clear H49
      have Z55 := Hid.mk' (bel_next Z50.out b52)
      clear Z50
      clear b52
      go_wp2_with fail
      refine (subI_L H53.out H54.out).mono ?_
      rw [h]
      rintro e w56 ⟨a57, c58, rfl, b59, r60⟩
      have H61 := Hid.mk' (H53.out.below b59)
      clear H53
      have H62 := Hid.mk' (H54.out.below b59)
      clear H54
      have Z63 := Hid.mk' (bel_next Z55.out b59)
      clear Z55
      have H64 : Hid (RL w56 a57 c58 (subL A B)) := r60
      clear r60
      clear b59
      go_wp2
      go_ret
      exact ⟨rfl, Z63.out⟩
end Go.Proofs.Ytddfpjjeoojlmaa
