/-
  A division's answer.
-/
import Derived.Test.YtkoaiogakkldgaaGreatDvB
import Derived.Test.YtkoaiogakkldgaaGreatAnS
namespace Go.Proofs.YtkoaiogakkldgaaGreat
open Go.RowKit Go.Deep Go.Joins Go.Maps
set_option linter.unusedVariables false

theorem infoSP : (Tryz.prog.info? 27).map (fun i => (i.zero, i.size, i.bytes)) = some (some (.slice none 0 0), 1, 24) := by kernel_rfl
/-- a sum told as an operator that it can be told as. -/
theorem sumOpL (w : World) (b n : Nat) (K : List T) (h : SumR w b n (coef K)) (hn : n ≤ 1000000) (hK : Falls K) (hl : K.length ≤ 300) :
    Calls Tryz.prog 49 #[.map (some b)] w fun e w' => ∃ a c, e = .returned (.tuple #[.slice a K.length c, .bool true]) ∧ Below w.heap.size w w' ∧ Out w.heap.size w' a c K := by
  refine (sumOpI w b n (coef K) h hn hK (fun _ _ => rfl)).mono ?_
  have e : sumL K = (K, true) := if_pos (by omega)
  rw [e]
  rintro r w' ⟨v, rfl, hb, ho⟩
  obtain ⟨a, c, rfl, hout⟩ := out_of_owns ho (by show K.length * 40 ≤ _; omega)
  exact ⟨a, c, rfl, hb, hout⟩
set_option maxRecDepth 100000 in
set_option maxHeartbeats 8000000 in
theorem answerI (X : DvP) (w : World) (fu u N : Nat) (S : Dv) (h : DvW X w fu u N S) (hok : DvOk u S) (hu : u ≤ 300) (hn : X.n ≤ 12) :
    Calls Tryz.prog 29 #[.pointer (some ⟨X.Bd, 0, none⟩)] w fun r w' => ∃ qa qc ad cp R B la lc mid, r = .returned (.tuple #[.slice qa X.n qc, .slice la S.r.length lc]) ∧ Below w.heap.size w w' ∧ OutS w.heap.size w' qa X.n qc ad (fun i => (S.q i).length) cp (fun i => lf (S.q i)) R B ∧ Out mid w' la lc S.r ∧ (X.n = 0 ∨ R < mid) ∧ (∀ i, i < X.n → (S.q i).length ≠ 0 → B i < mid) ∧ w.heap.size ≤ mid := by
  obtain ⟨i0, hi0, hz0, hz1, hz2⟩ := info_parts infoSP
  have hnl : (X.n : Int) ≤ 12 := by omega
  have k4 := h.c4
  have HH := Hid.mk' h
  have HOK := Hid.mk' hok
  clear h hok
  go_enter Tryz.func29, Tryz.ntmps29
  go_wp2
  clear k4
  go_loopw [4, 12] (fun tv ii wr => ∃ (j : Nat) (ad : Nat → Option Addr) (cp B : Nat → Nat), j ≤ X.n ∧ ii = .int .i64 (j : Int) ∧ Below w.heap.size w wr ∧ AnW w.heap.size wr S.q j tv ad cp B) (fun _ ii _ => X.n - (intOf ii).toNat)
  case atStart => exact ⟨0, _, _, _, Nat.zero_le _, rfl, Below.refl _ _, AnW.start (Nat.le_refl _) S.q⟩
  case round =>
    obtain ⟨j, ad, cp, B, hj, rfl, hB, hA⟩ := hrel
    have HB := Hid.mk' hB
    have HA := Hid.mk' hA
    have HW := Hid.mk' (HH.out.below hB)
    clear hB hA
    by_cases hlt : j < X.n
    · have hjn : (j : Int) < (X.n : Int) := by omega
      obtain ⟨bt, offt, et, hct⟩ := HW.out.tk.2.resolve_left (by omega)
      have kt := hct j hlt
      have HOPR := Hid.mk' (sumOpL wr (X.bk j) u (S.q j) (HW.out.tq j hlt) (by omega) (HOK.out.q j).1 (by have := (HOK.out.q j).2; omega))
      clear hct
      rw [et]
      go_wp2_with fail
      refine HOPR.out.mono ?_
      rintro r w1 ⟨va, vc, rfl, hb1, ho1⟩
      have HB1 := Hid.mk' (bel_next HB.out hb1)
      have HA1 := Hid.mk' (HA.out.below hb1)
      have HO1 := Hid.mk' ho1
      have hsz0 : w.heap.size ≤ wr.heap.size := HB.out.size
      have hsz1 : wr.heap.size ≤ w1.heap.size := hb1.size
      have HM : Hid (∀ i, i < j → (S.q i).length ≠ 0 → B i < wr.heap.size) := fun i hi h0 => by
        rcases (HA.out.el i hi).2.2 with hz | ⟨_, _, _, h3, _⟩
        · exact absurd hz h0
        · exact h3
      have HMR : Hid (∀ k, u4.ownBlock = some k → k < wr.heap.size) := fun k hk => (HA.out.row.lt k hk).2
      have hnew := heap_alloc_new w1 (.cells #[.slice va (S.q j).length vc] 27)
      have HN := Hid.mk' hnew
      have hrow := HA1.out.row.alloc (.cells #[.slice va (S.q j).length vc] 27)
      have hnews : ∀ jj u, [Value.slice va (S.q j).length vc][jj]? = some u → (w1.alloc (.cells #[.slice va (S.q j).length vc] 27)).cell? ((⟨w1.heap.size, 0, none⟩ : Addr).add jj) = some u := World.news_of_block HN.out
      have hone : ∀ u ∈ [Value.slice va (S.q j).length vc], u.oneCell' = true := fun u hu => by
        have : u = .slice va (S.q j).length vc := by simpa using hu
        subst this; rfl
      have hbase : w.heap.size ≤ (w1.alloc (.cells #[.slice va (S.q j).length vc] 27)).heap.size := by simp; omega
      have hmax : j + 1 ≤ maxLen := by unfold maxLen; omega
      clear hb1 ho1 hnew kt HOPR
      go_wp2_with (first
        | (go_at_call 48; refine (redNeed_yes _ _).mono ?_; rintro e wn ⟨rfl, hwn⟩; obtain rfl := hwn.symm; clear hwn)
        | (at_builtin; refine wpList_append_lies _ rfl (.tmp 16) (.tmp 22) 26 rfl w.heap.size 27 i0 _ 1 24 Tryz.underlying26 hi0 hz0 hz1 hz2 rfl (by omega) _ j (slL ad (fun i => (S.q i).length) cp j) rfl hrow ⟨w1.heap.size, 0, none⟩ 1 1 [.slice va (S.q j).length vc] rfl rfl hnews hone (by omega) hmax (by omega) hbase _ rfl ?_; intro g0 cap0 w5 hown1 hgrow hat hlt1; have HR := Hid.mk' (HA1.out.round (m := wr.heap.size) HM.out HMR.out hsz0 HO1.out hgrow hown1 (hat.imp id (fun e => e.trans (by simp))) hlt1); have HB5 := Hid.mk' ((HB1.out.alloc HB1.out.size _).grown hgrow hbase (fun k e => (HA1.out.row.lt k e).1)); clear hown1 hgrow hat hlt1 hrow))
      go_roundw
      case rel => exact ⟨j + 1, _, _, _, by omega, by go_num, HB5.out, HR.out⟩
      case measure => simp [intOf]; omega
    · have hjn : ¬ (j : Int) < (X.n : Int) := by omega
      have hje : j = X.n := by omega
      subst hje
      have k5 := HW.out.c5
      have HOPR := Hid.mk' (sumOpL wr X.bl u S.r HW.out.lf (by omega) HOK.out.r.1 (by have := HOK.out.r.2; omega))
      go_wp2_with fail
      refine HOPR.out.mono ?_
      rintro r w1 ⟨la, lc, rfl, hb1, ho1⟩
      have HB1 := Hid.mk' (bel_next HB.out hb1)
      obtain ⟨qa, qc, R, etv, hO⟩ := (HA.out.below hb1).out (by omega)
      subst etv
      have HOS := Hid.mk' hO
      have HO1 := Hid.mk' ho1
      have HRM : Hid (X.n = 0 ∨ R < wr.heap.size) := by
        rcases hO.row with h0 | ⟨off, e, _⟩
        · exact .inl h0
        · refine .inr (HA.out.row.lt R ?_).2
          rw [e]; rfl
      have HM : Hid (∀ i, i < X.n → (S.q i).length ≠ 0 → B i < wr.heap.size) := fun i hi h0 => by
        rcases (HA.out.el i hi).2.2 with hz | ⟨_, _, _, h3, _⟩
        · exact absurd hz h0
        · exact h3
      clear hb1 ho1 hO k5 HOPR
      go_wp2_with (go_at_call 48; refine (redNeed_yes _ _).mono ?_; rintro e wn ⟨rfl, hwn⟩; obtain rfl := hwn.symm; clear hwn)
      refine bodyPost_ret (results_tmp2 rfl _ _ _) rfl ?_
      exact ⟨qa, qc, ad, cp, R, B, la, lc, wr.heap.size, rfl, HB1.out, HOS.out, HO1.out, HRM.out, HM.out, HB.out.size⟩
end Go.Proofs.YtkoaiogakkldgaaGreat
