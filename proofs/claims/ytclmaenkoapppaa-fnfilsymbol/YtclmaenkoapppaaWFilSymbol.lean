/-
  The walk of FnFilSymbol: whatever the code, it comes out true, and nothing that was there is turned.
-/
import Derived.Test.YtclmaenkoapppaaGaz
import Derived.Test.YtclmaenkoapppaaGba
namespace Go.Proofs.Ytclmaenkoapppaa
open Go.RowKit
set_option linter.unusedVariables false
theorem filt_at {P : T → Bool} {A : List T} {i : Nat} (hi : i < A.length) (hP : P A[i] = true) : ((A.take i).filter P).length < (A.filter P).length ∧ lf (A.filter P) ((A.take i).filter P).length = lf A i := by
  have e : A.filter P = (A.take i).filter P ++ A[i] :: (A.drop (i + 1)).filter P := by
    conv => lhs; rw [← List.take_append_drop i A]
    rw [List.filter_append, List.drop_eq_getElem_cons hi, List.filter_cons_of_pos hP]
  refine ⟨by rw [e, List.length_append, List.length_cons]; omega, ?_⟩
  rw [lf_eq hi]
  unfold lf
  rw [e, List.getD_eq_getElem?_getD, List.getElem?_append_right (Nat.le_refl _), Nat.sub_self]
  rfl
/-- how many of the first i terms have v slopes. -/
def cntS (A : List T) (v : Int) (i : Nat) : Nat := ((A.take i).filter (fun t => slp t.m == v)).length
theorem cnt_le (A : List T) (v : Int) (i : Nat) : cntS A v i ≤ A.length := Nat.le_trans (List.length_filter_le _ _) (by rw [List.length_take]; omega)
theorem cnt_yes {A : List T} {v : Int} {i : Nat} (hi : i < A.length) (h : slp (lf A i).m = v) : cntS A v (i + 1) = cntS A v i + 1 := by
  rw [lf_eq hi] at h
  unfold cntS
  rw [← List.take_append_getElem hi, List.filter_append, List.length_append, List.filter_cons_of_pos (by simp [h])]
  rfl
theorem cnt_no {A : List T} {v : Int} {i : Nat} (hi : i < A.length) (h : slp (lf A i).m ≠ v) : cntS A v (i + 1) = cntS A v i := by
  rw [lf_eq hi] at h
  unfold cntS
  rw [← List.take_append_getElem hi, List.filter_append, List.length_append, List.filter_cons_of_neg (by simp [h])]
  rfl
theorem slp_nn {m : M} (h : m.ok = true) : 0 ≤ slp m := by have := M.ok_iff.1 h; unfold slp; omega
theorem sym_ok {A : List T} (h : okL A = true) : okL (symV A) = true := by
  rw [symV_ok h]
  exact okL_of (Nat.le_trans (List.length_filter_le _ _) (okL_falls h).1) (falls_sub List.filter_sublist (okL_falls h).2)
theorem sym_nil {A : List T} (h : okL A = true) (h0 : A.length ≠ 0) : (symV A).length ≠ 0 := by
  rw [symV_ok h]
  intro hz
  have hn := List.length_eq_zero_iff.1 hz
  rw [List.filter_eq_nil_iff] at hn
  have hm := List.getElem_mem (Nat.pos_of_ne_zero h0)
  have h1 := moL_ge (q := slp) h hm
  have h2 := slp_nn ((okL_falls h).2.2 _ hm).1
  rcases moL_at (q := slp) h with h3 | ⟨t, ht, h3⟩
  · omega
  · exact hn t ht (by simp [h3])
theorem sym_sym {A : List T} (h : okL A = true) : symV (symV A) = symV A := by
  have hs := sym_ok h
  rw [symV_ok hs, List.filter_eq_self]
  intro t ht
  have h1 := moL_ge (q := slp) hs ht
  have h4 : ∀ s ∈ symV A, slp s.m = moL slp A := fun s h5 => by
    rw [symV_ok h] at h5
    have := (List.mem_filter.1 h5).2
    simpa using this
  have h2 := slp_nn ((okL_falls hs).2.2 _ ht).1
  rcases moL_at (q := slp) hs with h3 | ⟨s, h5, h3⟩
  · omega
  · have h6 := h4 s h5
    have h7 := h4 t ht
    simp
    omega
theorem sym_at {A : List T} (h : okL A = true) {i : Nat} (hi : i < A.length) (he : slp (lf A i).m = moL slp A) : cntS A (moL slp A) i < (symV A).length ∧ lf (symV A) (cntS A (moL slp A) i) = lf A i := by
  rw [symV_ok h]
  exact filt_at hi (by rw [lf_eq hi] at he; simp [he])
theorem cnt_all {A : List T} (h : okL A = true) : cntS A (moL slp A) A.length = (symV A).length := by
  unfold cntS
  rw [List.take_length, symV_ok h]
set_option maxRecDepth 100000 in
set_option maxHeartbeats 8000000 in
theorem walk_FnFilSymbol (w : World) (a0 : Option Addr) (len0 cap0 : Nat) (s0 : Src w a0 len0 cap0) :
    Calls Try.prog 5 #[.slice a0 len0 cap0] w fun e w' => e = .returned (.bool true) ∧ Below w.heap.size w w' := by
  by_cases c0 : (1048576 : Int) < (len0 : Int)
  · go_enter Try.func5, Try.ntmps5
    go_wp2
    go_ret
    exact ⟨rfl, Below.refl _ _⟩
  go_enter Try.func5, Try.ntmps5
  go_wp2_with fail
  refine (drawFilSymbol w a0 len0 cap0 s0).mono ?_
  rintro e wd ⟨da, dca, A, rfl, hA, hlA, hbd⟩
  have HA0 := Hid.mk' hA
  have Z0 := Hid.mk' hbd
  clear hA hbd s0
  cases oA : okL A
  · have e1 : symV A = [] := symV_bad oA
    have e2 : moL slp A = -1 := moL_bad oA
    go_wp2_with fail
    refine (symI_L HA0.out).mono ?_
    rw [e1]
    rintro e w1 ⟨a2, c3, rfl, b4, r5⟩
    have H6 := Hid.mk' (HA0.out.below b4)
    clear HA0
    have Z7 := Hid.mk' (bel_next Z0.out b4)
    clear Z0
    have H8 : Hid (RL w1 a2 c3 []) := r5
    clear r5
    clear b4
    go_wp2_with fail
    refine (ordI_L H6.out).mono ?_
    rw [e2]
    rintro e w9 ⟨rfl, b10⟩
    have H11 := Hid.mk' (H6.out.below b10)
    clear H6
    have H12 := Hid.mk' (H8.out.below b10)
    clear H8
    have Z13 := Hid.mk' (bel_next Z7.out b10)
    clear Z7
    clear b10
    go_wp2_with fail
    refine (symS_L H11.out).mono ?_
    rw [e1]
    rintro e w14 ⟨a15, c16, rfl, b17, r18⟩
    have H19 := Hid.mk' (H11.out.below b17)
    clear H11
    have H20 := Hid.mk' (H12.out.below b17)
    clear H12
    have Z21 := Hid.mk' (bel_next Z13.out b17)
    clear Z13
    have H22 : Hid (RL w14 a15 c16 []) := r18
    clear r18
    clear b17
    go_wp2_with fail
    refine (he_L H20.out H22.out).mono ?_
    rw [sq_same]
    rintro e w23 ⟨rfl, b24⟩
    have H25 := Hid.mk' (H19.out.below b24)
    clear H19
    have H26 := Hid.mk' (H20.out.below b24)
    clear H20
    have H27 := Hid.mk' (H22.out.below b24)
    clear H22
    have Z28 := Hid.mk' (bel_next Z21.out b24)
    clear Z21
    clear b24
    go_wp2_with fail
    refine (ordS2_L H25.out).mono ?_
    rw [e2]
    rintro e w29 ⟨rfl, b30⟩
    have H31 := Hid.mk' (H25.out.below b30)
    clear H25
    have H32 := Hid.mk' (H26.out.below b30)
    clear H26
    have H33 := Hid.mk' (H27.out.below b30)
    clear H27
    have Z34 := Hid.mk' (bel_next Z28.out b30)
    clear Z28
    clear b30
    go_wp2_with fail
    refine (okS_L H31.out).mono ?_
    rw [oA]
    rintro e w35 ⟨rfl, b36⟩
    have H37 := Hid.mk' (H31.out.below b36)
    clear H31
    have H38 := Hid.mk' (H32.out.below b36)
    clear H32
    have H39 := Hid.mk' (H33.out.below b36)
    clear H33
    have Z40 := Hid.mk' (bel_next Z34.out b36)
    clear Z34
    clear b36
    go_wp2_with fail
    refine (heOk_L _ ).mono ?_
    rintro e w41 ⟨rfl, b42⟩
    have H43 := Hid.mk' (H37.out.below b42)
    clear H37
    have H44 := Hid.mk' (H38.out.below b42)
    clear H38
    have H45 := Hid.mk' (H39.out.below b42)
    clear H39
    have Z46 := Hid.mk' (bel_next Z40.out b42)
    clear Z40
    clear b42
    go_wp2
    go_ret
    exact ⟨rfl, Z46.out⟩
  · have fA := (okL_falls oA).2
    have HOA := Hid.mk' oA
    have HBD : Hid (∀ i, i < A.length → 0 ≤ (lf A i).m.d ∧ (lf A i).m.d ≤ 60 ∧ 0 ≤ (lf A i).m.e ∧ (lf A i).m.e ≤ 60 ∧ (lf A i).m.d + (lf A i).m.e ≤ moL slp A) := fun i hi => by
      have hm := List.getElem_mem hi
      have h1 : A[i].m.d + A[i].m.e ≤ moL slp A := moL_ge (q := slp) oA hm
      have h2 := M.ok_iff.1 (fA.2 _ hm).1
      rw [lf_eq hi]
      omega
    have HYES : Hid (∀ i, i < A.length → (lf A i).m.d + (lf A i).m.e = moL slp A → cntS A (moL slp A) i < (symV A).length ∧ lf (symV A) (cntS A (moL slp A) i) = lf A i ∧ cntS A (moL slp A) (i + 1) = cntS A (moL slp A) i + 1) := fun i hi he => ⟨(sym_at oA hi he).1, (sym_at oA hi he).2, cnt_yes hi he⟩
    have HNO : Hid (∀ i, i < A.length → ¬ (lf A i).m.d + (lf A i).m.e = moL slp A → cntS A (moL slp A) (i + 1) = cntS A (moL slp A) i) := fun i hi he => cnt_no hi he
    have HALL := Hid.mk' (cnt_all oA)
    have HSS := Hid.mk' (sym_sym oA)
    have HNIL := Hid.mk' (sym_nil oA)
    have HCL := Hid.mk' (cnt_le A (moL slp A))
    have hn2 : (moL slp A != moL slp A) = false := by simp
    go_wp2_with fail
    refine (symI_L HA0.out).mono ?_
    rintro e w47 ⟨a48, c49, rfl, b50, r51⟩
    have H52 := Hid.mk' (HA0.out.below b50)
    clear HA0
    have Z53 := Hid.mk' (bel_next Z0.out b50)
    clear Z0
    have H54 : Hid (RL w47 a48 c49 (symV A)) := r51
    clear r51
    clear b50
    go_wp2_with fail
    refine (ordI_L H52.out).mono ?_
    rintro e w55 ⟨rfl, b56⟩
    have H57 := Hid.mk' (H52.out.below b56)
    clear H52
    have H58 := Hid.mk' (H54.out.below b56)
    clear H54
    have Z59 := Hid.mk' (bel_next Z53.out b56)
    clear Z53
    clear b56
    go_wp2_with fail
    refine (symS_L H57.out).mono ?_
    rintro e w60 ⟨a61, c62, rfl, b63, r64⟩
    have H65 := Hid.mk' (H57.out.below b63)
    clear H57
    have H66 := Hid.mk' (H58.out.below b63)
    clear H58
    have Z67 := Hid.mk' (bel_next Z59.out b63)
    clear Z59
    have H68 : Hid (RL w60 a61 c62 (symV A)) := r64
    clear r64
    clear b63
    go_wp2_with fail
    refine (he_L H66.out H68.out).mono ?_
    rw [sq_same]
    rintro e w69 ⟨rfl, b70⟩
    have H71 := Hid.mk' (H65.out.below b70)
    clear H65
    have H72 := Hid.mk' (H66.out.below b70)
    clear H66
    have H73 := Hid.mk' (H68.out.below b70)
    clear H68
    have Z74 := Hid.mk' (bel_next Z67.out b70)
    clear Z67
    clear b70
    go_wp2_with fail
    refine (ordS2_L H71.out).mono ?_
    rintro e w75 ⟨rfl, b76⟩
    have H77 := Hid.mk' (H71.out.below b76)
    clear H71
    have H78 := Hid.mk' (H72.out.below b76)
    clear H72
    have H79 := Hid.mk' (H73.out.below b76)
    clear H73
    have Z80 := Hid.mk' (bel_next Z74.out b76)
    clear Z74
    clear b76
    go_wp2_with fail
    refine (okS_L H77.out).mono ?_
    rw [oA]
    rintro e w81 ⟨rfl, b82⟩
    have H83 := Hid.mk' (H77.out.below b82)
    clear H77
    have H84 := Hid.mk' (H78.out.below b82)
    clear H78
    have H85 := Hid.mk' (H79.out.below b82)
    clear H79
    have Z86 := Hid.mk' (bel_next Z80.out b82)
    clear Z80
    clear b82
    generalize moL slp A = D at *
    go_wp2
    go_loopw [6, 7] (fun kk ii wr => ∃ (i : Nat), ii = .int .i64 (i : Int) ∧ i ≤ A.length ∧ kk = .int .i64 (cntS A D i : Int) ∧ Below w.heap.size w wr ∧ RL wr da dca A ∧ RL wr a48 c49 (symV A)) (fun _ ii _ => A.length - (intOf ii).toNat)
    case atStart => exact ⟨0, rfl, Nat.zero_le _, rfl, Z86.out, H83.out, H84.out⟩
    case round =>
      obtain ⟨i, rfl, hi, rfl, kB, kA, kX⟩ := hrel
      have KB := Hid.mk' kB
      have KA := Hid.mk' kA
      have KX := Hid.mk' kX
      clear kB kA kX
      have hcl := HCL.out i
      by_cases hlt : i < A.length
      · have hil : (i : Int) < (A.length : Int) := by omega
        obtain ⟨d0, d1, e0, e1, hle⟩ := HBD.out i hlt
        have hw : IntKind.i64.wrap ((lf A i).m.d + (lf A i).m.e) = (lf A i).m.d + (lf A i).m.e := by rw [IntKind.wrap_i64]; omega
        have hgt : ¬ D < (lf A i).m.d + (lf A i).m.e := by omega
        have hr := KA.out
        rcases hr.2.2 with h0 | ⟨pb, off, hpe, hblt, hcs⟩
        · omega
        subst hpe
        obtain ⟨g0, g1, g2, g3, g4⟩ := hcs i hlt
        clear hcs hr
        have ne := Ext.there wr
        have s3 : ∀ u : Ext wr, u.1.cell? ⟨pb, off + i * 5 + 3, none⟩ = some (.int .i64 (lf A i).m.d) := fun u => (u.cell hblt).trans g3
        have s4 : ∀ u : Ext wr, u.1.cell? ⟨pb, off + i * 5 + 4, none⟩ = some (.int .i64 (lf A i).m.e) := fun u => (u.cell hblt).trans g4
        have HG := Hid.mk' (And.intro g0 (And.intro g1 (And.intro g2 (And.intro g3 g4))))
        clear g0 g1 g2 g3 g4
        go_wp2_with fail
        refine wp_region_ext (by kernel_rfl) (by kernel_rfl) ?_
        repeat (go_big_quiet_step (fail))
        refine wpQuiet_nil ?_
        rintro _ ⟨u, rfl⟩
        have hU : Below wr.heap.size wr u.1 := u.2
        generalize u.1 = U at hU ⊢
        clear u
        clear s3 s4 ne
        have hult : pb < U.heap.size := Nat.lt_of_lt_of_le hblt hU.size
        have HGU : Hid (U.cell? ⟨pb, off + i * 5, none⟩ = some (.int .i64 (lf A i).c) ∧ U.cell? ⟨pb, off + i * 5 + 1, none⟩ = some (.int .i64 (lf A i).m.x) ∧ U.cell? ⟨pb, off + i * 5 + 2, none⟩ = some (.int .i64 (lf A i).m.y) ∧ U.cell? ⟨pb, off + i * 5 + 3, none⟩ = some (.int .i64 (lf A i).m.d) ∧ U.cell? ⟨pb, off + i * 5 + 4, none⟩ = some (.int .i64 (lf A i).m.e)) := ⟨(hU.cell (p := ⟨pb, _, none⟩) hblt).trans HG.out.1, (hU.cell (p := ⟨pb, _, none⟩) hblt).trans HG.out.2.1, (hU.cell (p := ⟨pb, _, none⟩) hblt).trans HG.out.2.2.1, (hU.cell (p := ⟨pb, _, none⟩) hblt).trans HG.out.2.2.2.1, (hU.cell (p := ⟨pb, _, none⟩) hblt).trans HG.out.2.2.2.2⟩
        clear HG
        have H87 := Hid.mk' (KA.out.below hU)
        clear KA
        have H88 := Hid.mk' (KX.out.below hU)
        clear KX
        have Z89 := Hid.mk' (bel_next KB.out hU)
        clear KB
        clear hU
        by_cases heq : (lf A i).m.d + (lf A i).m.e = D
        · obtain ⟨hk, hsame, hcn⟩ := HYES.out i hlt heq
          have hcn2 : ((cntS A D (i + 1) : Nat) : Int) = (cntS A D i : Int) + 1 := by omega
          generalize cntS A D i = k at *
          have hr := H88.out
          rcases hr.2.2 with h0 | ⟨qb, off2, hpe, hblt2, hcs⟩
          · omega
          subst hpe
          obtain ⟨r0, r1, r2, r3, r4⟩ := hcs k hk
          rw [hsame] at r0 r1 r2 r3 r4
          obtain ⟨g0, g1, g2, g3, g4⟩ := HGU.out
          clear hcs hr HGU hsame
          have ne := Ext.there U
          have s0 : ∀ u : Ext U, u.1.cell? ⟨pb, off + i * 5, none⟩ = some (.int .i64 (lf A i).c) := fun u => (u.cell hult).trans g0
          have t0 : ∀ u : Ext U, u.1.cell? ⟨qb, off2 + k * 5, none⟩ = some (.int .i64 (lf A i).c) := fun u => (u.cell hblt2).trans r0
          have s1 : ∀ u : Ext U, u.1.cell? ⟨pb, off + i * 5 + 1, none⟩ = some (.int .i64 (lf A i).m.x) := fun u => (u.cell hult).trans g1
          have t1 : ∀ u : Ext U, u.1.cell? ⟨qb, off2 + k * 5 + 1, none⟩ = some (.int .i64 (lf A i).m.x) := fun u => (u.cell hblt2).trans r1
          have s2 : ∀ u : Ext U, u.1.cell? ⟨pb, off + i * 5 + 2, none⟩ = some (.int .i64 (lf A i).m.y) := fun u => (u.cell hult).trans g2
          have t2 : ∀ u : Ext U, u.1.cell? ⟨qb, off2 + k * 5 + 2, none⟩ = some (.int .i64 (lf A i).m.y) := fun u => (u.cell hblt2).trans r2
          have s3 : ∀ u : Ext U, u.1.cell? ⟨pb, off + i * 5 + 3, none⟩ = some (.int .i64 (lf A i).m.d) := fun u => (u.cell hult).trans g3
          have t3 : ∀ u : Ext U, u.1.cell? ⟨qb, off2 + k * 5 + 3, none⟩ = some (.int .i64 (lf A i).m.d) := fun u => (u.cell hblt2).trans r3
          have s4 : ∀ u : Ext U, u.1.cell? ⟨pb, off + i * 5 + 4, none⟩ = some (.int .i64 (lf A i).m.e) := fun u => (u.cell hult).trans g4
          have t4 : ∀ u : Ext U, u.1.cell? ⟨qb, off2 + k * 5 + 4, none⟩ = some (.int .i64 (lf A i).m.e) := fun u => (u.cell hblt2).trans r4
          clear g0 g1 g2 g3 g4 r0 r1 r2 r3 r4
          have hkl : (k : Int) < ((symV A).length : Int) := by omega
          have hkl2 : ¬ ((symV A).length : Int) ≤ (k : Int) := by omega
          have dq : decide ((symV A).length ≤ k) = false := decide_eq_false (by omega)
          go_wp2_with fail
          refine wp_region_ext (by kernel_rfl) (by kernel_rfl) ?_
          repeat (go_big_quiet_step (fail))
          refine wpQuiet_nil ?_
          rintro _ ⟨u2, rfl⟩
          have hV : Below U.heap.size U u2.1 := u2.2
          generalize u2.1 = V at hV ⊢
          clear u2
          clear s0 s1 s2 s3 s4 t0 t1 t2 t3 t4 ne
          have H90 := Hid.mk' (H87.out.below hV)
          clear H87
          have H91 := Hid.mk' (H88.out.below hV)
          clear H88
          have Z92 := Hid.mk' (bel_next Z89.out hV)
          clear Z89
          clear hV
          go_wp2
          go_roundw
          case rel => exact ⟨i + 1, by go_num, by omega, by rw [hcn2], Z92.out, H90.out, H91.out⟩
          case measure => simp [intOf]; omega
        · have hcn := HNO.out i hlt heq
          go_wp2
          go_roundw
          case rel => exact ⟨i + 1, by go_num, by omega, by rw [hcn], Z89.out, H87.out, H88.out⟩
          case measure => simp [intOf]; omega
      · obtain rfl : i = A.length := by omega
        have hall := HALL.out
        have hss := HSS.out
        have HSS2 := Hid.mk' hss
        clear hss
        by_cases h0 : A.length = 0
        · have hz1 : (A.length : Int) = 0 := by omega
          have hz2 : ((symV A).length : Int) = 0 := by omega
          go_wp2_with fail
          refine (symI_L KX.out).mono ?_
          rw [HSS2.out]
          rintro e w93 ⟨a94, c95, rfl, b96, r97⟩
          have H98 := Hid.mk' (KA.out.below b96)
          clear KA
          have H99 := Hid.mk' (KX.out.below b96)
          clear KX
          have Z100 := Hid.mk' (bel_next KB.out b96)
          clear KB
          have H101 : Hid (RL w93 a94 c95 (symV A)) := r97
          clear r97
          clear b96
          go_wp2_with fail
          refine (he_L H101.out H99.out).mono ?_
          rw [sq_same]
          rintro e w102 ⟨rfl, b103⟩
          have H104 := Hid.mk' (H98.out.below b103)
          clear H98
          have H105 := Hid.mk' (H99.out.below b103)
          clear H99
          have H106 := Hid.mk' (H101.out.below b103)
          clear H101
          have Z107 := Hid.mk' (bel_next Z100.out b103)
          clear Z100
          clear b103
          go_wp2_with fail
          refine (heOk_L _ ).mono ?_
          rintro e w108 ⟨rfl, b109⟩
          have H110 := Hid.mk' (H104.out.below b109)
          clear H104
          have H111 := Hid.mk' (H105.out.below b109)
          clear H105
          have H112 := Hid.mk' (H106.out.below b109)
          clear H106
          have Z113 := Hid.mk' (bel_next Z107.out b109)
          clear Z107
          clear b109
          go_wp2
          go_ret
          exact ⟨rfl, Z113.out⟩
        · have hs0 := HNIL.out h0
          have hz1 : ¬ (A.length : Int) = 0 := by omega
          have hz2 : ¬ ((symV A).length : Int) = 0 := by omega
          have hz3 : ((A.length : Int) == 0) = (((symV A).length : Int) == 0) := by rw [beq_false_of_ne hz1, beq_false_of_ne hz2]
          go_wp2_with fail
          refine (symI_L KX.out).mono ?_
          rw [HSS2.out]
          rintro e w114 ⟨a115, c116, rfl, b117, r118⟩
          have H119 := Hid.mk' (KA.out.below b117)
          clear KA
          have H120 := Hid.mk' (KX.out.below b117)
          clear KX
          have Z121 := Hid.mk' (bel_next KB.out b117)
          clear KB
          have H122 : Hid (RL w114 a115 c116 (symV A)) := r118
          clear r118
          clear b117
          go_wp2_with fail
          refine (he_L H122.out H120.out).mono ?_
          rw [sq_same]
          rintro e w123 ⟨rfl, b124⟩
          have H125 := Hid.mk' (H119.out.below b124)
          clear H119
          have H126 := Hid.mk' (H120.out.below b124)
          clear H120
          have H127 := Hid.mk' (H122.out.below b124)
          clear H122
          have Z128 := Hid.mk' (bel_next Z121.out b124)
          clear Z121
          clear b124
          go_wp2_with fail
          refine (heOk_L _ ).mono ?_
          rintro e w129 ⟨rfl, b130⟩
          have H131 := Hid.mk' (H125.out.below b130)
          clear H125
          have H132 := Hid.mk' (H126.out.below b130)
          clear H126
          have H133 := Hid.mk' (H127.out.below b130)
          clear H127
          have Z134 := Hid.mk' (bel_next Z128.out b130)
          clear Z128
          clear b130
          go_wp2
          go_ret
          exact ⟨rfl, Z134.out⟩
end Go.Proofs.Ytclmaenkoapppaa
