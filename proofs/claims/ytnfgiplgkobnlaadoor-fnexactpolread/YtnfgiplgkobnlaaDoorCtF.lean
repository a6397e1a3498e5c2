/-
  The model reads operators (PolRead).
-/
import Derived.Test.YtnfgiplgkobnlaaDoorCtE
namespace Go.Proofs.YtnfgiplgkobnlaaDoor
open Go.RowKit
set_option linter.unusedVariables false
set_option linter.unusedSimpArgs false
theorem ctS_wT {s : List UInt8} (h : s.length ≤ 400) : (ctS s).map trmR = wT s := by unfold ctS wT; rw [if_pos h]
theorem ctS_bd (s : List UInt8) : (ctS s).length ≤ 401 := by
  unfold ctS
  split
  · have := cut_len s; omega
  · simp
theorem ctS_mem {s : List UInt8} {i : Nat} {l : List UInt8} (h : (ctS s)[i]? = some l) : l.length ≤ 400 := by
  unfold ctS at h
  split at h
  · have := cut_mem_len s l (List.mem_of_getElem? h); omega
  · simp at h
def PrI (w1 : World) (ts : List T) (v : Value) (wr : World) : Prop := wr.ownsRow w1.heap.size 65 5 v ts.length (cellsL ts) ∧ Below w1.heap.size w1 wr
theorem out_nil (w : World) (lo : Nat) (h : lo ≤ w.heap.size) : Out lo (w.alloc (.cells #[] 65)) (some ⟨w.heap.size, 0, none⟩) 0 [] := by
  obtain ⟨a, cap, e, ho⟩ := out_of_owns (L := []) (owns_none w lo h) (by simp)
  cases e
  exact ho
set_option maxRecDepth 100000 in
set_option maxHeartbeats 8000000 in
theorem polReadS (s : List UInt8) (hs : s.length ≤ 1048576) (w : World) :
    Calls Tryd.prog 20 #[.string ⟨s.toArray⟩] w fun r w' => ∃ a cap, r = .returned (.tuple #[.slice a (polR s).1.length cap, .bool (polR s).2]) ∧ Below w.heap.size w w' ∧ Out w.heap.size w' a cap (polR s).1 := by
  have hsI : (s.length : Int) ≤ 1048576 := by omega
  obtain ⟨i0, hi0, hz0, hz1, hz2⟩ := info_parts infoT
  by_cases h0 : s = [48]
  · subst h0
    rw [polR_zero]
    have HO := Hid.mk' (out_nil w w.heap.size (Nat.le_refl _))
    have HB := Hid.mk' (bel_one w (.cells #[] 65))
    go_enter Tryd.func20, Tryd.ntmps20
    go_wp2
    go_ret2
    exact ⟨_, _, rfl, HB.out, HO.out⟩
  · have h0b : (s == [48]) = false := beq_eq_false_iff_ne.2 h0
    have HC := Hid.mk' (l3CutS s hs w)
    have hbd := ctS_bd s
    have HM : Hid (∀ (i : Nat) (l : List UInt8), (ctS s)[i]? = some l → l.length ≤ 400) := Hid.mk' (fun i l h => ctS_mem h)
    have HCW : Hid (s.length ≤ 400 → (ctS s).map trmR = wT s) := Hid.mk' ctS_wT
    have HCZ : Hid (¬ s.length ≤ 400 → (ctS s) = []) := Hid.mk' (fun h => by unfold ctS; rw [if_neg h])
    obtain ⟨W, hW⟩ : ∃ W, ctS s = W := ⟨_, rfl⟩
    rw [hW] at HC hbd HM HCW HCZ
    obtain ⟨N, hN⟩ : ∃ N, W.length = N := ⟨_, rfl⟩
    rw [hN] at HC hbd
    have HH0 := Hid.mk' h0
    have HN := Hid.mk' hN
    obtain ⟨Rr, hRr⟩ : ∃ R, polR s = R := ⟨_, rfl⟩
    have HRR := Hid.mk' hRr
    rw [hRr]
    clear hW hN h0 hRr
    go_enter Tryd.func20, Tryd.ntmps20
    go_wp2_with fail
    refine HC.out.mono ?_
    rintro r w1 ⟨g, cp, rfl, how, hb1⟩
    have HOW := Hid.mk' how
    have HB1 := Hid.mk' hb1
    have hs1 := hb1.size
    have HI0 : Hid (PrI w1 [] (.slice (some ⟨w1.heap.size, 0, none⟩) 0 0) (w1.alloc (.cells #[] 65))) := ⟨owns_none w1 _ (Nat.le_refl _), bel_one w1 _⟩
    clear how hb1 HC
    go_wp2
    go_loopw [6, 5] (fun v6 v5 wr => ∃ (k g5 cp5 : Nat) (ts : List T), k ≤ N ∧ v6 = .int .i64 (k : Int) ∧ v5 = .slice (some ⟨g5, 0, none⟩) k cp5 ∧ Hid (ts.length = k ∧ ts = (W.take k).map trmR) ∧ Hid (PrI w1 ts (.slice (some ⟨g5, 0, none⟩) k cp5) wr)) (fun v6 _ _ => N - (intOf v6).toNat)
    case atStart => exact ⟨0, _, _, [], Nat.zero_le _, rfl, rfl, Hid.mk' ⟨rfl, rfl⟩, HI0⟩
    case round =>
      obtain ⟨k, g5, cp5, ts, hk, rfl, rfl, HT, HI⟩ := hrel
      have hs5 := HI.out.2.size
      by_cases hkl : k < N
      · have hkI : (k : Int) < (N : Int) := by omega
        obtain ⟨l, hl⟩ : ∃ l, W[k]? = some l := ⟨_, List.getElem?_eq_getElem (by rw [HN.out]; exact hkl)⟩
        have hll := HM.out k l hl
        have hcl := owt_cell (owns_below HOW.out HI.out.2) hl
        have htk : (W.take (k + 1)).map trmR = ts ++ [trmR l] := by
          rw [List.take_add_one, hl, HT.out.2]; simp
        have HTK := Hid.mk' htk
        obtain ⟨t, ht⟩ : ∃ t, trmR l = t := ⟨_, rfl⟩
        have HCT := Hid.mk' (l3TermS l (by omega) wr)
        rw [ht] at HCT HTK
        clear ht htk hl
        have hmax : k + 1 ≤ maxLen := by unfold maxLen; omega
        go_wp2_with fail
        refine HCT.out.mono ?_
        rintro r w3 ⟨rfl, hb3⟩
        have hO3 := owns_below HI.out.1 hb3
        have hB3 := bel_next HI.out.2 hb3
        have hs3 : w1.heap.size ≤ w3.heap.size := hB3.size
        have HO4 := Hid.mk' (hO3.alloc (.cells #[.int .i64 t.c, .int .i64 t.m.x, .int .i64 t.m.y, .int .i64 t.m.d, .int .i64 t.m.e] 65))
        have HB4 := Hid.mk' (hB3.alloc hs3 (.cells #[.int .i64 t.c, .int .i64 t.m.x, .int .i64 t.m.y, .int .i64 t.m.d, .int .i64 t.m.e] 65))
        have HNW := Hid.mk' (heap_alloc_new w3 (.cells #[.int .i64 t.c, .int .i64 t.m.x, .int .i64 t.m.y, .int .i64 t.m.d, .int .i64 t.m.e] 65))
        clear hb3 hO3 hB3 HCT hcl
        go_wp2_with (at_builtin; refine wpList_append_lies _ rfl (.tmp 19) (.tmp 25) 38 rfl w1.heap.size 65 i0 _ 5 40 Tryd.underlying38 hi0 hz0 hz1 hz2 rfl (by omega) _ k (cellsL ts) rfl (HT.out.1 ▸ HO4.out) ⟨w3.heap.size, 0, none⟩ 1 1 (cellsL [t]) rfl (by rw [cellsL_length]; rfl) (by rw [cellsL_one]; exact World.news_of_block HNW.out) (one_cells _) (by omega) hmax (by omega) (by simp; omega) _ rfl ?_; intro g1 cap1 w7 hown2 hgrow2 hat2 hlt2; have HO7 := Hid.mk' hown2; have HB7 := Hid.mk' (HB4.out.grown hgrow2 (by simp; omega) (fun k' e' => (HO4.out.lt k' e').1)); clear hown2 hgrow2 hat2 hlt2)
        go_roundw
        case rel => exact ⟨k + 1, g1, cap1, ts ++ [t], by omega, by go_num, rfl, Hid.mk' ⟨by simp [HT.out.1], HTK.out.symm⟩, Hid.mk' ⟨by
          have := HO7.out
          show World.ownsRow _ _ _ _ _ _ _
          rw [cellsL_append, List.length_append, HT.out.1]; exact this, HB7.out⟩⟩
        case measure => simp [intOf]; omega
      · have hke : k = N := by omega
        have hnl : ¬ (k : Int) < (N : Int) := by omega
        have HTE : Hid (ts = W.map trmR) := by
          have := HT.out.2
          rw [hke, ← HN.out, List.take_length] at this
          exact Hid.mk' this
        have HKL : Hid (ts.length = k) := Hid.mk' HT.out.1
        clear hke HT
        have HBw := Hid.mk' (bel_next HB1.out HI.out.2)
        by_cases hk0 : k = 0
        · have HZ : Hid (Rr = ([], false)) := by
            rw [← HRR.out]
            refine Hid.mk' (polR_no HH0.out (fun q => ?_))
            have e1 := HTE.out
            rw [HCW.out q.1] at e1
            have e2 := wT_len s
            rw [← e1, HKL.out, hk0] at e2
            exact cut_ne s (List.length_eq_zero_iff.1 e2.symm)
          have hk0b : ((k : Int) == 0) = true := by rw [hk0]; rfl
          have HOo := Hid.mk' (out_nil wr w.heap.size HBw.out.size)
          have HBo := Hid.mk' (HBw.out.alloc HBw.out.size (.cells #[] 65))
          clear hk0
          go_wp2
          go_ret2
          exact ⟨_, _, by rw [HZ.out]; rfl, HBo.out, by rw [HZ.out]; exact HOo.out⟩
        · have hk0b : ((k : Int) == 0) = false := beq_eq_false_iff_ne.2 (by omega)
          have HL4 : Hid (s.length ≤ 400) := Hid.mk' <| Decidable.byContradiction fun q => hk0 (by
            have := HTE.out
            rw [HCZ.out q] at this
            rw [← HKL.out, this]; rfl)
          have HTW : Hid (ts = wT s) := by rw [HTE.out]; exact Hid.mk' (HCW.out HL4.out)
          obtain ⟨a5, c5, hv5, hout⟩ := out_of_owns (owns_lower HI.out.1 hs1) (by rw [HKL.out]; omega)
          rw [HKL.out] at hv5
          cases hv5
          have HOUT := Hid.mk' hout
          have hrd := hout.1
          rw [HKL.out] at hrd
          have HRD := Hid.mk' hrd
          obtain ⟨ok, hok⟩ : ∃ b, polOk k (lf ts) = b := ⟨_, rfl⟩
          have HOKC := Hid.mk' (polOkS wr _ _ _ _ hrd)
          rw [hok] at HOKC
          have HOK := Hid.mk' hok
          clear hout hrd hok
          go_wp2_with fail
          refine HOKC.out.mono ?_
          rintro r w4 ⟨rfl, hb4⟩
          have HB4 := Hid.mk' (bel_next HBw.out hb4)
          have HOUT4 := Hid.mk' (HOUT.out.below hb4)
          have HRD4 := Hid.mk' (HRD.out.below hb4)
          clear hb4 HOKC
          cases ok
          · have HZ : Hid (Rr = ([], false)) := by
              rw [← HRR.out]
              refine Hid.mk' (polR_no HH0.out (fun q => ?_))
              have e1 := q.2.1
              rw [← HTW.out, HKL.out, HOK.out] at e1
              cases e1
            have HOo := Hid.mk' (out_nil w4 w.heap.size HB4.out.size)
            have HBo := Hid.mk' (HB4.out.alloc HB4.out.size (.cells #[] 65))
            go_wp2
            go_ret2
            exact ⟨_, _, by rw [HZ.out]; rfl, HBo.out, by rw [HZ.out]; exact HOo.out⟩
          · obtain ⟨S, hS⟩ : ∃ S, polT k (lf ts) = S := ⟨_, rfl⟩
            have HTC := Hid.mk' (polTextS w4 _ _ _ _ HRD4.out)
            rw [hS] at HTC
            have HS := Hid.mk' hS
            clear hS
            go_wp2_with fail
            refine HTC.out.mono ?_
            rintro r w5 ⟨rfl, hb5⟩
            have HB5 := Hid.mk' (bel_next HB4.out hb5)
            have HOUT5 := Hid.mk' (HOUT4.out.below hb5)
            clear hb5 HTC
            by_cases q : S = s
            · have HZ : Hid (Rr = (ts, true)) := by
                rw [← HRR.out]
                have e1 := polR_yes HH0.out HL4.out (by rw [← HTW.out, HKL.out]; exact HOK.out) (by rw [← HTW.out, HKL.out, HS.out]; exact q)
                rw [← HTW.out] at e1
                exact Hid.mk' e1
              clear HS HM HCW HCZ HN HTE HTW HRR
              subst q
              go_wp2
              go_ret2
              exact ⟨_, _, by rw [HZ.out, HKL.out]; rfl, HB5.out, by rw [HZ.out]; exact HOUT5.out⟩
            · have HZ : Hid (Rr = ([], false)) := by
                rw [← HRR.out]
                refine Hid.mk' (polR_no HH0.out (fun z => q ?_))
                have e1 := z.2.2
                rw [← HTW.out, HKL.out, HS.out] at e1
                exact e1
              have q1 : (S == s) = false := beq_eq_false_iff_ne.2 q
              have HOo := Hid.mk' (out_nil w5 w.heap.size HB5.out.size)
              have HBo := Hid.mk' (HB5.out.alloc HB5.out.size (.cells #[] 65))
              clear HS q
              go_wp2
              go_ret2
              exact ⟨_, _, by rw [HZ.out]; rfl, HBo.out, by rw [HZ.out]; exact HOo.out⟩
end Go.Proofs.YtnfgiplgkobnlaaDoor
