/-
  RedAll, of the program and of the model: one answer.
-/
import Derived.Test.YtfgmfgamkbgaiaaGreatGbl
namespace Go.Proofs.YtfgmfgamkbgaiaaGreat
open Go.RowKit Go.Deep Go.Joins Go.Maps
set_option linter.unusedVariables false

def resN (n : Nat) : Option Dv → Nat
  | some _ => n
  | none => 0
def resQ : Option Dv → Nat → List T
  | some S => S.q
  | none => fun _ => []
def resL : Option Dv → List T
  | some S => S.r
  | none => []
theorem res_bd {o : Int} {p : List T} {n : Nat} {ln : Nat → Nat} {f : Nat → Nat → T} : resN n (redAll o p n ln f) ≤ 12 ∧ (∀ i, (resQ (redAll o p n ln f) i).length ≤ 300) ∧ (resL (redAll o p n ln f)).length ≤ 300 := by
  unfold redAll
  split
  · rename_i h
    have n12 := (lstOk_all h.2.2).1
    cases e : dvRun o n ln f 300 (dvOf p) with
    | none => exact ⟨Nat.zero_le _, fun i => Nat.zero_le _, Nat.zero_le _⟩
    | some S =>
      obtain ⟨h1, _⟩ := dvRun_ok h.2.2 (DvOk.start h.2.1) e
      exact ⟨n12, fun i => by have := (h1.q i).2; show (S.q i).length ≤ 300; omega, by have := h1.r.2; show S.r.length ≤ 300; omega⟩
  · exact ⟨Nat.zero_le _, fun i => Nat.zero_le _, Nat.zero_le _⟩
theorem redAllI' (w : World) (o : Int) (pa : Option Addr) (pc : Nat) (p : List T) (a : Option Addr) (n cap : Nat) (ad : Nat → Option Addr) (ln cp : Nat → Nat) (f : Nat → Nat → T) (hp : RL w pa pc p) (h : RdS w a n cap ad ln cp f) {R : Option Dv} (hR : redAll o p n ln f = R) :
    Calls Tryz.prog 8 #[.int .i64 o, .slice pa p.length pc, .slice a n cap] w fun r w' => ∃ qa qc ad cp Rb B la lc mid, r = .returned (.tuple #[.slice qa (resN n R) qc, .slice la (resL R).length lc, .bool R.isSome]) ∧ Below w.heap.size w w' ∧ OutS w.heap.size w' qa (resN n R) qc ad (fun i => (resQ R i).length) cp (fun i => lf (resQ R i)) Rb B ∧ Out mid w' la lc (resL R) ∧ (resN n R = 0 ∨ Rb < mid) ∧ (∀ i, i < resN n R → (resQ R i).length ≠ 0 → B i < mid) ∧ w.heap.size ≤ mid := by
  refine (redAllI w o pa pc p a n cap ad ln cp f hp h).mono ?_
  rw [hR]
  rintro r w' ⟨hb, ⟨S, qa, qc, ad, cp, Rb, B, la, lc, mid, rfl, rfl, h1, h2, h3, h4, h5⟩ | ⟨rfl, rfl⟩⟩
  · exact ⟨qa, qc, ad, cp, Rb, B, la, lc, mid, rfl, hb, h1, h2, h3, h4, h5⟩
  · exact ⟨none, 0, fun _ => none, fun _ => 0, 0, fun _ => 0, none, 0, w.heap.size, rfl, hb, ⟨⟨Nat.le_refl _, Nat.zero_le _, .inl rfl, fun i hi => absurd hi (Nat.not_lt_zero _)⟩, .inl rfl, fun i hi => absurd hi (Nat.not_lt_zero _), fun i hi => absurd hi (Nat.not_lt_zero _), fun i j _ hj => absurd hj (Nat.not_lt_zero _)⟩, ⟨⟨Nat.le_refl _, Nat.zero_le _, .inl rfl⟩, .inl rfl, .inl rfl⟩, .inl rfl, fun i hi => absurd hi (Nat.not_lt_zero _), Nat.le_refl _⟩
set_option maxRecDepth 100000 in
set_option maxHeartbeats 4000000 in
theorem redAllS (w : World) (o : Int) (pa : Option Addr) (pc : Nat) (p : List T) (a : Option Addr) (n cap : Nat) (ad : Nat → Option Addr) (ln cp : Nat → Nat) (f : Nat → Nat → T) (hp : RL w pa pc p) (h : RdS w a n cap ad ln cp f) {R : Option Dv} (hR : redAll o p n ln f = R) :
    Calls Tryz.prog 9 #[.int .i64 o, .slice pa p.length pc, .slice a n cap] w fun r w' => ∃ qa qc ad cp ra rc, r = .returned (.tuple #[.slice qa (resN n R) qc, .slice ra (resL R).length rc, .bool R.isSome]) ∧ Below w.heap.size w w' ∧ RdS w' qa (resN n R) qc ad (fun i => (resQ R i).length) cp (fun i => lf (resQ R i)) ∧ RL w' ra rc (resL R) := by
  have q1 : (n : Int) ≤ 140737488351232 := by have := h.2.1; omega
  have q2 : (p.length : Int) ≤ 140737488351232 := by have := hp.2.1; omega
  have HP := Hid.mk' hp
  have HH := Hid.mk' h
  clear hp h
  have hfin : ∀ (W : World) (qa ra : Option Addr) (qc rc : Nat), R = none → ∃ qa' qc' ad cp ra' rc', Ending.returned (.tuple #[.slice qa 0 qc, .slice ra 0 rc, .bool false]) = .returned (.tuple #[.slice qa' (resN n R) qc', .slice ra' (resL R).length rc', .bool R.isSome]) ∧ RdS W qa' (resN n R) qc' ad (fun i => (resQ R i).length) cp (fun i => lf (resQ R i)) ∧ RL W ra' rc' (resL R) := fun W qa ra qc rc e => by
    subst e
    exact ⟨qa, qc, fun _ => none, fun _ => 0, ra, rc, rfl, ⟨Nat.zero_le _, Nat.zero_le _, .inl rfl, fun i hi => absurd hi (Nat.not_lt_zero _)⟩, ⟨Nat.zero_le _, Nat.zero_le _, .inl rfl⟩⟩
  have HFIN := Hid.mk' hfin
  clear hfin
  by_cases hok : (1 ≤ o ∧ o ≤ 3) ∧ okL p = true ∧ lstOk n ln f = true
  · have e0 : dvRun o n ln f 300 (dvOf p) = R := by rw [← hR]; exact (if_pos hok).symm
    have HE := Hid.mk' e0
    obtain ⟨⟨o1, o2⟩, h1, h2⟩ := hok
    clear e0
    have HAL := fun (W : World) (k1 : RL W pa pc p) (k2 : RdS W a n cap ad ln cp f) => l7AllS W o pa pc p a n cap ad ln cp f k1 k2 o1 o2 h1 h2
    rw [HE.out] at HAL
    have HALL := Hid.mk' HAL
    clear HAL
    go_enter Tryz.func9, Tryz.ntmps9
    go_wp2_with (go_at_call 31; refine (inS_in _ _ _ _ (by omega) (by omega)).mono ?_; rintro r w' ⟨rfl, hw'⟩; obtain rfl := hw'.symm; clear hw')
    refine (polOkS _ _ _ _ (lf p) HP.out).mono ?_
    rw [show polOk p.length (lf p) = true from h1]
    rintro r w1 ⟨rfl, hb1⟩
    have HB1 := Hid.mk' hb1
    clear hb1
    go_wp2_with fail
    refine (lstOkS _ _ _ _ _ _ _ _ (HH.out.below HB1.out)).mono ?_
    rw [h2]
    rintro r w2 ⟨rfl, hb2⟩
    have HB2 := Hid.mk' (bel_next HB1.out hb2)
    clear hb2
    go_wp2_with fail
    refine (HALL.out w2 (Rd.below HP.out HB2.out) (HH.out.below HB2.out)).mono ?_
    rintro r w3 ⟨hb3, hh⟩
    have HB3 := Hid.mk' (bel_next HB2.out hb3)
    rcases hh with ⟨S, qa, qc, ad', cp', ra, rc, e1, rfl, r1, r2⟩ | ⟨e1, qa, qc, ra, rc, rfl⟩
    · subst e1
      have HR1 := Hid.mk' r1
      have HR2 := Hid.mk' r2
      clear r1 r2 hb3
      go_wp2
      refine bodyPost_ret (results_tmp3 rfl _ _ _) rfl ?_
      exact ⟨qa, qc, ad', cp', ra, rc, rfl, HB3.out, HR1.out, HR2.out⟩
    · have HF := Hid.mk' (HFIN.out w3 qa ra qc rc e1)
      clear hb3
      go_wp2
      refine bodyPost_ret (results_tmp3 rfl _ _ _) rfl ?_
      obtain ⟨qa', qc', ad', cp', ra', rc', e2, r1, r2⟩ := HF.out
      exact ⟨qa', qc', ad', cp', ra', rc', e2, HB3.out, r1, r2⟩
  · have e0 : R = none := by rw [← hR]; exact if_neg hok
    have HF := fun (W : World) qa ra qc rc => HFIN.out W qa ra qc rc e0
    have HFF := Hid.mk' HF
    clear HF
    by_cases ho : 1 ≤ o ∧ o ≤ 3
    · obtain ⟨o1, o2⟩ := ho
      cases h1 : okL p
      · clear hok
        go_enter Tryz.func9, Tryz.ntmps9
        go_wp2_with (go_at_call 31; refine (inS_in _ _ _ _ (by omega) (by omega)).mono ?_; rintro r w' ⟨rfl, hw'⟩; obtain rfl := hw'.symm; clear hw')
        refine (polOkS _ _ _ _ (lf p) HP.out).mono ?_
        rw [show polOk p.length (lf p) = false from h1]
        rintro r w1 ⟨rfl, hb1⟩
        have HB1 := Hid.mk' hb1
        clear hb1
        go_wp2
        refine bodyPost_ret (results_tmp3 rfl _ _ _) rfl ?_
        obtain ⟨qa', qc', ad', cp', ra', rc', e2, r1, r2⟩ := HFF.out _ _ _ _ _
        exact ⟨qa', qc', ad', cp', ra', rc', e2, (HB1.out.alloc HB1.out.size _).alloc (by have := HB1.out.size; simp; omega) _, r1, r2⟩
      · have h2 : lstOk n ln f = false := by
          cases h2 : lstOk n ln f
          · rfl
          · exact absurd ⟨⟨o1, o2⟩, h1, h2⟩ hok
        clear hok
        go_enter Tryz.func9, Tryz.ntmps9
        go_wp2_with (go_at_call 31; refine (inS_in _ _ _ _ (by omega) (by omega)).mono ?_; rintro r w' ⟨rfl, hw'⟩; obtain rfl := hw'.symm; clear hw')
        refine (polOkS _ _ _ _ (lf p) HP.out).mono ?_
        rw [show polOk p.length (lf p) = true from h1]
        rintro r w1 ⟨rfl, hb1⟩
        have HB1 := Hid.mk' hb1
        clear hb1
        go_wp2_with fail
        refine (lstOkS _ _ _ _ _ _ _ _ (HH.out.below HB1.out)).mono ?_
        rw [h2]
        rintro r w2 ⟨rfl, hb2⟩
        have HB2 := Hid.mk' (bel_next HB1.out hb2)
        clear hb2
        go_wp2
        refine bodyPost_ret (results_tmp3 rfl _ _ _) rfl ?_
        obtain ⟨qa', qc', ad', cp', ra', rc', e2, r1, r2⟩ := HFF.out _ _ _ _ _
        exact ⟨qa', qc', ad', cp', ra', rc', e2, (HB2.out.alloc HB2.out.size _).alloc (by have := HB2.out.size; simp; omega) _, r1, r2⟩
    · have ho' : o < 1 ∨ (1 ≤ o ∧ 3 < o) := by omega
      clear hok ho
      go_enter Tryz.func9, Tryz.ntmps9
      go_wp2_with (go_at_call 31; refine (inS_out _ _ _ _ ho').mono ?_; rintro r w' ⟨rfl, hw'⟩; obtain rfl := hw'.symm; clear hw')
      refine bodyPost_ret (results_tmp3 rfl _ _ _) rfl ?_
      obtain ⟨qa', qc', ad', cp', ra', rc', e2, r1, r2⟩ := HFF.out _ _ _ _ _
      exact ⟨qa', qc', ad', cp', ra', rc', e2, bel_two _ _ _, r1, r2⟩
end Go.Proofs.YtfgmfgamkbgaiaaGreat
