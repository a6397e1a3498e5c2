/-
  The program's RedAll.
-/
import Derived.Test.YtkoaiogakkldgaaGreatDvR
namespace Go.Proofs.YtkoaiogakkldgaaGreat
open Go.RowKit Go.Deep Go.Joins Go.Maps
set_option linter.unusedVariables false
set_option linter.unusedSimpArgs false

theorem bad_cases {o : Int} {p : List T} {n : Nat} {ln : Nat → Nat} {f : Nat → Nat → T} (h : ¬ ((1 ≤ o ∧ o ≤ 3) ∧ okL p = true ∧ lstOk n ln f = true)) : (o < 1 ∨ 3 < o) ∨ ((1 ≤ o ∧ o ≤ 3) ∧ lstOk n ln f = false) ∨ ((1 ≤ o ∧ o ≤ 3) ∧ lstOk n ln f = true ∧ okL p = false) := by
  by_cases ho : 1 ≤ o ∧ o ≤ 3
  · cases hl : lstOk n ln f
    · exact .inr (.inl ⟨ho, rfl⟩)
    · cases hp : okL p
      · exact .inr (.inr ⟨ho, rfl, rfl⟩)
      · exact absurd ⟨ho, hp, hl⟩ h
  · exact .inl (by omega)
set_option maxRecDepth 100000 in
set_option maxHeartbeats 8000000 in
theorem redBeginNo (w : World) (o : Int) (pa : Option Addr) (pc : Nat) (p : List T) (a : Option Addr) (n cap : Nat) (ad : Nat → Option Addr) (ln cp : Nat → Nat) (f : Nat → Nat → T) (hp : RL w pa pc p) (h : RdS w a n cap ad ln cp f) (hno : ¬ ((1 ≤ o ∧ o ≤ 3) ∧ okL p = true ∧ lstOk n ln f = true)) :
    Calls Tryz.prog 24 #[.int .i64 o, .slice pa p.length pc, .slice a n cap] w fun r w' => r = .returned (.tuple #[.pointer none, .bool false]) ∧ Below w.heap.size w w' := by
  have HP := Hid.mk' hp
  have HH := Hid.mk' h
  have q1 : (n : Int) ≤ 140737488351232 := by have := h.2.1; omega
  have q2 : (p.length : Int) ≤ 140737488351232 := by have := hp.2.1; omega
  clear hp h
  rcases bad_cases hno with ho | ⟨ho, hl⟩ | ⟨ho, hl, hk⟩
  · clear hno
    go_enter Tryz.func24, Tryz.ntmps24
    go_wp2_with fail
    refine (ordRankI_out _ _ ho).mono ?_
    rintro r w1 ⟨rfl, hb1⟩
    have HB1 := Hid.mk' hb1
    clear hb1
    go_wp2_with fail
    refine (redLeadsI_out _ _ _ _ _ ho).mono ?_
    rintro r w2 ⟨rfl, hb2⟩
    have HB2 := Hid.mk' (bel_next HB1.out hb2)
    clear hb2
    go_wp2
    refine bodyPost_ret (results_tmp2 rfl _ _ _) rfl ?_
    exact ⟨rfl, HB2.out⟩
  · clear hno
    go_enter Tryz.func24, Tryz.ntmps24
    go_wp2_with fail
    refine (ordRankI_in _ _ ho.1 ho.2).mono ?_
    rintro r w1 ⟨fv, rfl, hb1⟩
    have HB1 := Hid.mk' hb1
    clear hb1
    go_wp2_with fail
    refine (redLeadsI_no _ _ _ _ _ _ _ _ _ (HH.out.below HB1.out) ho.1 ho.2 hl).mono ?_
    rintro r w2 ⟨rfl, hb2⟩
    have HB2 := Hid.mk' (bel_next HB1.out hb2)
    clear hb2
    go_wp2
    refine bodyPost_ret (results_tmp2 rfl _ _ _) rfl ?_
    exact ⟨rfl, HB2.out⟩
  · clear hno
    go_enter Tryz.func24, Tryz.ntmps24
    go_wp2_with fail
    refine (ordRankI_in _ _ ho.1 ho.2).mono ?_
    rintro r w1 ⟨fv, rfl, hb1⟩
    have HB1 := Hid.mk' hb1
    clear hb1
    go_wp2_with fail
    refine (redLeadsI _ _ _ _ _ _ _ _ _ (HH.out.below HB1.out) ho.1 ho.2 hl).mono ?_
    rintro r w2 ⟨v, rfl, hb2, ho2⟩
    have HB2 := Hid.mk' (bel_next HB1.out hb2)
    clear hb2 ho2
    go_wp2_with fail
    refine (polOkI _ _ _ _ (lf p) (HP.out.below HB2.out)).mono ?_
    rw [show polOk p.length (lf p) = false from hk]
    rintro r w3 ⟨rfl, hb3⟩
    have HB3 := Hid.mk' (bel_next HB2.out hb3)
    clear hb3
    go_wp2
    refine bodyPost_ret (results_tmp2 rfl _ _ _) rfl ?_
    exact ⟨rfl, HB3.out⟩
/-- what RedAll leaves. -/
def RedPost (w : World) (n : Nat) (R : Option Dv) (r : Ending) (w' : World) : Prop :=
  Below w.heap.size w w' ∧ ((∃ S qa qc ad cp Rb B la lc mid, R = some S ∧ r = .returned (.tuple #[.slice qa n qc, .slice la S.r.length lc, .bool true]) ∧ OutS w.heap.size w' qa n qc ad (fun i => (S.q i).length) cp (fun i => lf (S.q i)) Rb B ∧ Out mid w' la lc S.r ∧ (n = 0 ∨ Rb < mid) ∧ (∀ i, i < n → (S.q i).length ≠ 0 → B i < mid) ∧ w.heap.size ≤ mid) ∨ (R = none ∧ r = .returned (.tuple #[.slice none 0 0, .slice none 0 0, .bool false])))
set_option maxRecDepth 100000 in
set_option maxHeartbeats 8000000 in
theorem redAllI (w : World) (o : Int) (pa : Option Addr) (pc : Nat) (p : List T) (a : Option Addr) (n cap : Nat) (ad : Nat → Option Addr) (ln cp : Nat → Nat) (f : Nat → Nat → T) (hp : RL w pa pc p) (h : RdS w a n cap ad ln cp f) :
    Calls Tryz.prog 10 #[.int .i64 o, .slice pa p.length pc, .slice a n cap] w fun r w' => RedPost w n (redAll o p n ln f) r w' := by
  by_cases hok : (1 ≤ o ∧ o ≤ 3) ∧ okL p = true ∧ lstOk n ln f = true
  · have HE : Hid (redAll o p n ln f = dvRun o n ln f 300 (dvOf p)) := if_pos hok
    rw [HE.out]
    have HBG := Hid.mk' (redBeginI w o pa pc p a n cap ad ln cp f hp h hok.1.1 hok.1.2 hok.2.1 hok.2.2)
    clear HE hp h
    go_enter Tryz.func10, Tryz.ntmps10
    go_wp2_with fail
    refine HBG.out.mono ?_
    rintro r w1 ⟨X, rfl, e1, e2, e3, e4, e5, e6, hD, hb1⟩
    subst e1 e2 e3
    have hbd : X.Bd < w1.heap.size := World.block_lt_of_cell? w1 _ hD.c0
    have hs1 : w.heap.size ≤ w1.heap.size := hb1.size
    have HB0 := Hid.mk' (bel_next hb1 (bel_three w1 (.cells #[.pointer (some ⟨X.Bd, 0, none⟩)] 51) (.cells #[.slice none 0 0] 26) (.cells #[.slice none 0 0] 27)))
    have hsz : (((w1.alloc (.cells #[.pointer (some ⟨X.Bd, 0, none⟩)] 51)).alloc (.cells #[.slice none 0 0] 26)).alloc (.cells #[.slice none 0 0] 27)).heap.size = w1.heap.size + 3 := by simp
    have HSZ := Hid.mk' hsz
    have HA := Hid.mk' (all1I X (((w1.alloc (.cells #[.pointer (some ⟨X.Bd, 0, none⟩)] 51)).alloc (.cells #[.slice none 0 0] 26)).alloc (.cells #[.slice none 0 0] 27)) p (hD.below (bel_three _ _ _ _)) hok.2.1 (by rw [e5, e4]) (by rw [e4]; exact hok.1) hok.2.2 w1.heap.size (w1.heap.size + 1) (w1.heap.size + 2)
      (by simp [go_sem]) (by simp [go_sem]) (by simp [go_sem]) (by simp [go_sem]) (by simp [go_sem]) (by omega) (by omega) (by omega) (by omega) (by rw [e6]; omega) (by rw [e6]; omega))
    rw [e4, e6] at HA
    clear hb1 hD hsz
    go_wp2_with fail
    rw [show w1.heap.size + 1 + 1 = w1.heap.size + 2 from rfl]
    cases hR : dvRun o X.n X.ln X.f 300 (dvOf p) with
    | some S =>
      have HC := Hid.mk' (redEnds_yes 26 #[.pointer (some ⟨w1.heap.size, 0, none⟩), .pointer (some ⟨w1.heap.size + 1, 0, none⟩), .pointer (some ⟨w1.heap.size + 2, 0, none⟩)] (((w1.alloc (.cells #[.pointer (some ⟨X.Bd, 0, none⟩)] 51)).alloc (.cells #[.slice none 0 0] 26)).alloc (.cells #[.slice none 0 0] 27)) (fun w' => Below w.heap.size (((w1.alloc (.cells #[.pointer (some ⟨X.Bd, 0, none⟩)] 51)).alloc (.cells #[.slice none 0 0] 26)).alloc (.cells #[.slice none 0 0] 27)) w' ∧ ∃ qa qc ad cp Rb B la lc mid, w'.cell? ⟨w1.heap.size + 1, 0, none⟩ = some (.slice qa X.n qc) ∧ w'.cell? ⟨w1.heap.size + 2, 0, none⟩ = some (.slice la S.r.length lc) ∧ OutS (w1.heap.size + 3) w' qa X.n qc ad (fun i => (S.q i).length) cp (fun i => lf (S.q i)) Rb B ∧ Out mid w' la lc S.r ∧ (X.n = 0 ∨ Rb < mid) ∧ (∀ i, i < X.n → (S.q i).length ≠ 0 → B i < mid) ∧ w1.heap.size + 3 ≤ mid) (enters_of Tryz.func26 (by kernel_rfl) rfl) (HA.out.mono fun r w' h => by
        rw [hR] at h
        rcases h.2 with ⟨S', qa, qc, ad, cp, Rb, B, la, lc, mid, hS, hr, r1, r2, r3, r4, r5, r6, r7⟩ | ⟨hno, _⟩
        · cases hS
          rw [HSZ.out] at r3 r7
          exact ⟨hr, h.1, qa, qc, ad, cp, Rb, B, la, lc, mid, r1, r2, r3, r4, r5, r6, r7⟩
        · cases hno))
      have HRR := Hid.mk' hR
      clear HA hR
      refine HC.out.mono ?_
      rintro r w3 ⟨rfl, w2, ⟨hb2, qa, qc, ad', cp', Rb, B, la, lc, mid, k1, k2, hO, hL, m1, m2, m3⟩, rfl⟩
      have g1 : (w2.alloc (.cells #[] 80)).cell? ⟨w1.heap.size + 1, 0, none⟩ = some (.slice qa X.n qc) := ((bel_one w2 _).cell (p := ⟨w1.heap.size + 1, 0, none⟩) (World.block_lt_of_cell? w2 _ k1)).trans k1
      have g2 : (w2.alloc (.cells #[] 80)).cell? ⟨w1.heap.size + 2, 0, none⟩ = some (.slice la S.r.length lc) := ((bel_one w2 _).cell (p := ⟨w1.heap.size + 2, 0, none⟩) (World.block_lt_of_cell? w2 _ k2)).trans k2
      have hbw : Below w.heap.size w w2 := HB0.out.trans hb2
      have HFIN : Hid (RedPost w X.n (some S) (.returned (.tuple #[.slice qa X.n qc, .slice la S.r.length lc, .bool true])) (w2.alloc (.cells #[] 80)).drew) :=
        ⟨(hbw.alloc hbw.size _).drew, .inl ⟨S, qa, qc, ad', cp', Rb, B, la, lc, mid, rfl, rfl, ((hO.low (by omega)).below (bel_one w2 _)).below (Below.refl _ _).drew, (hL.below (bel_one w2 _)).below (Below.refl _ _).drew, m1, m2, by omega⟩⟩
      clear hb2 k1 k2 hO hL m1 m2 m3 HC hbw
      go_wp2_with fail
      go_region_with fail
      all_goals
        go_wp2
        refine bodyPost_ret (results_tmp3 rfl _ _ _) rfl ?_
        rw [HRR.out]
        exact HFIN.out
    | none =>
      have HC := Hid.mk' (redEnds_no 26 #[.pointer (some ⟨w1.heap.size, 0, none⟩), .pointer (some ⟨w1.heap.size + 1, 0, none⟩), .pointer (some ⟨w1.heap.size + 2, 0, none⟩)] (((w1.alloc (.cells #[.pointer (some ⟨X.Bd, 0, none⟩)] 51)).alloc (.cells #[.slice none 0 0] 26)).alloc (.cells #[.slice none 0 0] 27)) (fun w' => Below w.heap.size (((w1.alloc (.cells #[.pointer (some ⟨X.Bd, 0, none⟩)] 51)).alloc (.cells #[.slice none 0 0] 26)).alloc (.cells #[.slice none 0 0] 27)) w' ∧ w'.cell? ⟨w1.heap.size + 1, 0, none⟩ = some (.slice none 0 0) ∧ w'.cell? ⟨w1.heap.size + 2, 0, none⟩ = some (.slice none 0 0)) (enters_of Tryz.func26 (by kernel_rfl) rfl) (HA.out.mono fun r w' h => by
        rw [hR] at h
        rcases h.2 with ⟨S', qa, qc, ad, cp, Rb, B, la, lc, mid, hS, _⟩ | ⟨_, hr, r1, r2⟩
        · cases hS
        · exact ⟨hr, h.1, r1, r2⟩))
      have HRR := Hid.mk' hR
      clear HA hR
      refine HC.out.mono ?_
      rintro r w3 ⟨rfl, w2, ⟨hb2, k1, k2⟩, rfl⟩
      have g1 : (w2.alloc (.cells #[] 80)).cell? ⟨w1.heap.size + 1, 0, none⟩ = some (.slice none 0 0) := ((bel_one w2 _).cell (p := ⟨w1.heap.size + 1, 0, none⟩) (World.block_lt_of_cell? w2 _ k1)).trans k1
      have g2 : (w2.alloc (.cells #[] 80)).cell? ⟨w1.heap.size + 2, 0, none⟩ = some (.slice none 0 0) := ((bel_one w2 _).cell (p := ⟨w1.heap.size + 2, 0, none⟩) (World.block_lt_of_cell? w2 _ k2)).trans k2
      have hbw : Below w.heap.size w w2 := HB0.out.trans hb2
      have HFIN : Hid (RedPost w X.n none (.returned (.tuple #[.slice none 0 0, .slice none 0 0, .bool false])) (w2.alloc (.cells #[] 80)).drew) := ⟨(hbw.alloc hbw.size _).drew, .inr ⟨rfl, rfl⟩⟩
      clear hb2 k1 k2 HC hbw
      go_wp2_with fail
      go_region_with fail
      all_goals
        go_wp2
        refine bodyPost_ret (results_tmp3 rfl _ _ _) rfl ?_
        rw [HRR.out]
        exact HFIN.out
  · have HE : Hid (redAll o p n ln f = none) := if_neg hok
    rw [HE.out]
    have HBG := Hid.mk' (redBeginNo w o pa pc p a n cap ad ln cp f hp h hok)
    clear hok HE hp h
    go_enter Tryz.func10, Tryz.ntmps10
    go_wp2_with fail
    refine HBG.out.mono ?_
    rintro r w1 ⟨rfl, hb1⟩
    have HB1 := Hid.mk' hb1
    clear hb1 HBG
    go_wp2
    refine bodyPost_ret (results_tmp3 rfl _ _ _) rfl ?_
    exact ⟨HB1.out.alloc HB1.out.size _, .inr ⟨rfl, rfl⟩⟩
end Go.Proofs.YtkoaiogakkldgaaGreat
