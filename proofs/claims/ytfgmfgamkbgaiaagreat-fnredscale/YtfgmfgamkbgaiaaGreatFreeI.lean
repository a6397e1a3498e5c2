/-
  Whether an operator is free of others: the program.
-/
import Derived.Test.YtfgmfgamkbgaiaaGreatGbc
namespace Go.Proofs.YtfgmfgamkbgaiaaGreat
open Go.RowKit Go.Deep Go.Joins
set_option linter.unusedVariables false

theorem free_eq {o : Int} {np : Nat} {p : Nat → T} {n : Nat} {ln : Nat → Nat} {f : Nat → Nat → T} (o1 : 1 ≤ o) (o2 : o ≤ 3) (hop : polOk np p = true) (hls : lstOk n ln f = true) : redFree o np p n ln f = !decide (0 ≤ idxF (fun t => decide (0 ≤ idxF (fun s => M.dvd s.m t.m) (lf (ldsL o ln f n)) n)) p np) := by
  have key : 0 ≤ idxF (fun t => decide (0 ≤ idxF (fun s => M.dvd s.m t.m) (lf (ldsL o ln f n)) n)) p np ↔ ∃ k, k < np ∧ ∃ i, i < n ∧ M.dvd (ldAt o ln f i).m (p k).m = true := by
    rw [idx_iff]
    refine ⟨fun ⟨k, hk, hd⟩ => ?_, fun ⟨k, hk, i, hi, hd⟩ => ?_⟩
    · obtain ⟨i, hi, h⟩ := idx_iff.1 (of_decide_eq_true hd)
      refine ⟨k, hk, i, hi, ?_⟩
      rw [← ldsL_at o ln f n i hi]
      exact h
    · refine ⟨k, hk, decide_eq_true (idx_iff.2 ⟨i, hi, ?_⟩)⟩
      show M.dvd (lf (ldsL o ln f n) i).m (p k).m = true
      rw [ldsL_at o ln f n i hi]
      exact hd
  by_cases h : 0 ≤ idxF (fun t => decide (0 ≤ idxF (fun s => M.dvd s.m t.m) (lf (ldsL o ln f n)) n)) p np
  · rw [decide_eq_true h]
    obtain ⟨k, hk, i, hi, hd⟩ := key.1 h
    exact decide_eq_false (fun hh => by have := hh.2.2.2 k hk i hi; rw [hd] at this; cases this)
  · rw [decide_eq_false h]
    exact decide_eq_true ⟨⟨o1, o2⟩, hop, hls, fun k hk i hi => by
      cases hd : M.dvd (ldAt o ln f i).m (p k).m
      · rfl
      · exact absurd (key.2 ⟨k, hk, i, hi, hd⟩) h⟩
set_option maxRecDepth 100000 in
set_option maxHeartbeats 8000000 in
theorem redFreeI (w : World) (o : Int) (pa : Option Addr) (np pc : Nat) (p : Nat → T) (hp : Rd w pa np pc p) (a : Option Addr) (n cap : Nat) (ad : Nat → Option Addr) (ln cp : Nat → Nat) (f : Nat → Nat → T) (h : RdS w a n cap ad ln cp f) :
    Calls Tryz.prog 15 #[.int .i64 o, .slice pa np pc, .slice a n cap] w fun r w' => r = .returned (.bool (redFree o np p n ln f)) ∧ Below w.heap.size w w' := by
  have HP := Hid.mk' hp
  have HH := Hid.mk' h
  clear hp h
  by_cases ho : 1 ≤ o ∧ o ≤ 3
  · obtain ⟨o1, o2⟩ := ho
    cases hls : lstOk n ln f
    · have e : redFree o np p n ln f = false := decide_eq_false (fun hh => by have := hh.2.2.1; rw [hls] at this; cases this)
      rw [e]
      clear e
      go_enter Tryz.func15, Tryz.ntmps15
      go_wp2_with fail
      refine (redLeadsI_no _ _ _ _ _ _ _ _ _ HH.out o1 o2 hls).mono ?_
      rintro r w1 ⟨rfl, hb⟩
      have HB := Hid.mk' (bel_next hb (bel_one w1 (.cells #[.slice none 0 0] 23)))
      clear hb
      go_wp2
      go_ret
      exact ⟨rfl, HB.out⟩
    · have HL := Hid.mk' (redLeadsI w o a n cap ad ln cp f HH.out o1 o2 hls)
      have hn12 : n ≤ 12 := (lstOk_all hls).1
      have hlen := ldsL_len o ln f n
      cases hop : polOk np p
      · have e : redFree o np p n ln f = false := decide_eq_false (fun hh => by have := hh.2.1; rw [hop] at this; cases this)
        rw [e]
        clear e hlen
        go_enter Tryz.func15, Tryz.ntmps15
        go_wp2_with fail
        refine HL.out.mono ?_
        rintro r w1 ⟨v, rfl, hb, hown⟩
        have hl1 : v.oneCell' = true := by
          rcases hown.2 with ⟨hv, _⟩ | ⟨g, cap, cur, hv, _⟩ <;> (rw [hv]; rfl)
        obtain ⟨a1, c1, rfl, hout⟩ := out_of_owns hown (by rw [ldsL_len]; omega)
        have HB := Hid.mk' (bel_next hb (bel_one w1 (.cells #[.slice a1 (ldsL o ln f n).length c1] 23)))
        clear hb hown hout HL hl1
        go_wp2_with fail
        refine (polOkI _ _ _ _ p (HP.out.below HB.out)).mono ?_
        rw [hop]
        rintro r w2 ⟨rfl, hb2⟩
        have HB2 := Hid.mk' (bel_next HB.out hb2)
        clear hb2
        go_wp2
        go_ret
        exact ⟨rfl, HB2.out⟩
      · obtain ⟨bv, hbv⟩ : ∃ bv, decide (0 ≤ idxF (fun t => decide (0 ≤ idxF (fun s => M.dvd s.m t.m) (lf (ldsL o ln f n)) n)) p np) = bv := ⟨_, rfl⟩
        rw [free_eq o1 o2 hop hls, hbv]
        have HV := Hid.mk' hbv
        have HN := Hid.mk' hlen
        clear hbv hlen
        go_enter Tryz.func15, Tryz.ntmps15
        go_wp2_with fail
        refine HL.out.mono ?_
        rintro r w1 ⟨v, rfl, hb, hown⟩
        obtain ⟨a1, c1, rfl, hout⟩ := out_of_owns hown (by rw [ldsL_len]; omega)
        have hrd := hout.1
        rw [HN.out] at hrd ⊢
        have HB := Hid.mk' (bel_next hb (bel_one w1 (.cells #[.slice a1 n c1] 23)))
        have HRD := Hid.mk' (hrd.below (bel_one w1 (.cells #[.slice a1 n c1] 23)))
        have HCL : Hid ((w1.alloc (.cells #[.slice a1 n c1] 23)).cell? ⟨w1.heap.size, 0, none⟩ = some (.slice a1 n c1)) := by
          show _ = _
          rw [World.cell?_alloc_at _ _ _ _ rfl]; rfl
        have hsz : w1.heap.size < (w1.alloc (.cells #[.slice a1 n c1] 23)).heap.size := by simp
        have HSZ := Hid.mk' hsz
        clear hb hown hout HL hrd hsz
        go_wp2_with fail
        refine (polOkI _ _ _ _ p (HP.out.below HB.out)).mono ?_
        rw [hop]
        rintro r w2 ⟨rfl, hb2⟩
        have HB2 := Hid.mk' (bel_next HB.out hb2)
        have HRD2 := Hid.mk' (HRD.out.below hb2)
        have HCL2 := Hid.mk' ((hb2.cell (p := ⟨w1.heap.size, 0, none⟩) HSZ.out).trans HCL.out)
        have hsz2 : w1.heap.size < w2.heap.size := Nat.lt_of_lt_of_le HSZ.out hb2.size
        have HC := Hid.mk' (hasI w2 pa np pc p 42 #[.pointer (some ⟨w1.heap.size, 0, none⟩)] (fun t => decide (0 ≤ idxF (fun s => M.dvd s.m t.m) (lf (ldsL o ln f n)) n)) (fun W => Rd W a1 n c1 (lf (ldsL o ln f n)) ∧ W.cell? ⟨w1.heap.size, 0, none⟩ = some (.slice a1 n c1)) (enters_of Tryz.func42 (by kernel_rfl) rfl) (fun k W hk hQ => free1 (p k) a1 n c1 (lf (ldsL o ln f n)) _ W hQ.1 hQ.2) (fun W' hb => ⟨HRD2.out.below hb, (hb.cell (p := ⟨w1.heap.size, 0, none⟩) hsz2).trans HCL2.out⟩) (HP.out.below HB2.out))
        clear hb2 hsz2 HRD HCL HRD2 HCL2 HSZ HB
        go_wp2_with fail
        refine HC.out.mono ?_
        rw [HV.out]
        rintro r w3 ⟨rfl, hb3⟩
        have HB3 := Hid.mk' (bel_next HB2.out hb3)
        clear hb3 HC HV
        cases bv
        · go_wp2
          go_ret
          exact ⟨rfl, HB3.out⟩
        · go_wp2
          go_ret
          exact ⟨rfl, HB3.out⟩
  · have e : redFree o np p n ln f = false := decide_eq_false (fun hh => ho hh.1)
    have hout : o < 1 ∨ 3 < o := by omega
    rw [e]
    clear ho e
    go_enter Tryz.func15, Tryz.ntmps15
    go_wp2_with fail
    refine (redLeadsI_out _ _ _ _ _ hout).mono ?_
    rintro r w1 ⟨rfl, hb⟩
    have HB := Hid.mk' (bel_next hb (bel_one w1 (.cells #[.slice none 0 0] 23)))
    clear hb hout
    go_wp2
    go_ret
    exact ⟨rfl, HB.out⟩
end Go.Proofs.YtfgmfgamkbgaiaaGreat
