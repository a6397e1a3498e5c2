/-
  A division's greatest term is left.
-/
import Derived.Test.YtkoaiogakkldgaaGreatDvW
namespace Go.Proofs.YtkoaiogakkldgaaGreat
open Go.RowKit Go.Deep Go.Joins Go.Maps
set_option linter.unusedVariables false

/-- a monomial is struck. -/
theorem SumR.del {w : World} {b n : Nat} {c : M → Int} (h : SumR w b n c) {m : M} (hm : m.ok = true) (ty : TypeId) :
    ∃ w', (Builtin.delete_ #[73, 44] ty #[.map (some b), .agg #[.int .i64 m.x, .int .i64 m.y, .int .i64 m.d, .int .i64 m.e]]).run Tryz.prog w = .ok (.tuple #[]) w' ∧ SumR w' b n (fun x => if meq x m = true then 0 else c x) ∧ w.grownBy w' (some b) := by
  obtain ⟨D, hown, hc, hat, hks⟩ := h
  obtain ⟨w', hrun, ho, ht⟩ := hown.drop lawM Tryz.underlying73 (keyOfM hm) ty
  refine ⟨w', hrun, ⟨_, ho, fun x => ?_, fun x hx => ?_, fun kl hkl => ?_⟩, ht.grown⟩
  · dsimp only
    split
    · exact ⟨Int.le_refl _, by decide⟩
    · exact hc x
  · by_cases hxm : x = m
    · subst hxm
      rw [atKey_del_same, has_del_same]
      simp [meq_iff.2 rfl]
    · have hne : keyM x ≠ keyM m := fun e => hxm (keyM_inj hx hm e)
      have hb : ¬ meq x m = true := fun e => hxm (meq_iff.1 e)
      rw [atKey_del_other hne, has_del_other hne]
      simp only [hb]
      exact hat x hx
  · by_cases hkm : kl = keyM m
    · exact ⟨m, hm, hkm⟩
    · rw [has_del_other hkm] at hkl
      exact hks kl hkl
theorem SumR.len {w : World} {b n : Nat} {K : List T} (h : SumR w b n (coef K)) (hK : Falls K) (ty : TypeId) : (Builtin.len_ #[73] ty #[.map (some b)]).run Tryz.prog w = .ok (.int .i64 (K.length : Int)) w := by
  obtain ⟨D, hown, hc, hat, hks⟩ := h
  have h1 := hown.len Tryz.underlying73 ty
  rw [size_K hown hat hks hK (fun _ _ => rfl)] at h1
  exact h1
theorem add_one_coef {L : List T} (hL : Falls L) {t : T} (ht : t.m.ok = true ∧ 1 ≤ t.c ∧ t.c ≤ 100) : ∀ x, updC (coef L) t.m t.c x = coef (addL L [t]) x := fun x => by
  rw [(addL_facts hL (fallsOne ht)).2 x]
  unfold updC
  by_cases e : x = t.m
  · subst e
    rw [if_pos (meq_iff.2 rfl), coef_cons_same]
  · have hb := coef_range hL x
    rw [if_neg (fun e' => e (meq_iff.1 e')), coef_cons_ne (fun e' => e e'.symm)]
    show coef L x = (coef L x + 0) % 101
    omega
theorem del_one_coef {L : List T} (hL : Falls L) {t : T} (ht : t ∈ L) : ∀ x, (if meq x t.m = true then 0 else coef L x) = coef (subL L [t]) x := fun x => by
  have ht' := hL.2 t ht
  rw [(subL_facts hL (fallsOne ht')).2 x]
  by_cases e : x = t.m
  · subst e
    rw [if_pos (meq_iff.2 rfl), coef_cons_same, (mem_coefV hL ht).1]
    omega
  · have hb := coef_range hL x
    rw [if_neg (fun e' => e (meq_iff.1 e')), coef_cons_ne (fun e' => e e'.symm)]
    show coef L x = (coef L x + 100 * 0 % 101) % 101
    omega
theorem below_map {s0 b : Nat} {w w' : World} (hg : w.grownBy w' (some b)) (h : s0 ≤ b) (hs : s0 ≤ w.heap.size) : Below s0 w w' := (Below.refl s0 w).grown hg hs (fun k e => by cases e; exact h)
theorem DvW.s0 {X : DvP} {w : World} {fu u N : Nat} {S : Dv} (h : DvW X w fu u N S) : X.s0 ≤ w.heap.size := Nat.le_trans h.lo.1 (Nat.le_of_lt (World.block_lt_of_cell? w _ h.c0))
set_option maxRecDepth 100000 in
set_option maxHeartbeats 4000000 in
theorem leaveI (X : DvP) (w : World) (fu u N : Nat) (S : Dv) (t : T) (h : DvW X w fu u N S) (hok : DvOk u S) (hu : u < 300) (h0 : S.p.length ≠ 0) (ht : ldL X.o S.p = t) :
    Calls Tryz.prog 47 #[.pointer (some ⟨X.Bd, 0, none⟩), .agg #[.int .i64 t.c, .int .i64 t.m.x, .int .i64 t.m.y, .int .i64 t.m.d, .int .i64 t.m.e]] w fun r w' => r = .returned (.tuple #[]) ∧ DvW X w' fu (u + 1) N (dvLeave X.o S) ∧ Turn X w w' := by
  have hg := ldL_good (o := X.o) (okL_falls hok.p).2 h0
  have hmem := ldL_mem (o := X.o) h0
  rw [ht] at hg hmem
  have HE : Hid (dvLeave X.o S = ⟨subL S.p [t], S.q, addL S.r [t]⟩) := by show dvLeave X.o S = _; unfold dvLeave; rw [ht]
  have hs0 := h.s0
  have HB := Hid.mk' (Turn.of (X := X) (bel_one w (.cells #[.int .i64 t.c, .int .i64 t.m.x, .int .i64 t.m.y, .int .i64 t.m.d, .int .i64 t.m.e] 46)))
  have HW := Hid.mk' (h.below (bel_one w (.cells #[.int .i64 t.c, .int .i64 t.m.x, .int .i64 t.m.y, .int .i64 t.m.d, .int .i64 t.m.e] 46)))
  have HC := Hid.mk' (C5.box w 46 t)
  have HRF := Hid.mk' hok.r.1
  have HPF := Hid.mk' (okL_falls hok.p).2
  have HM := Hid.mk' hmem
  have HG := Hid.mk' hg
  clear h hok ht hmem
  rw [HE.out]
  go_enter Tryz.func47, Tryz.ntmps47
  go_wp2_with fail
  generalize (w.alloc (.cells #[.int .i64 t.c, .int .i64 t.m.x, .int .i64 t.m.y, .int .i64 t.m.d, .int .i64 t.m.e] 46)) = wq at HB HW HC ⊢
  have HWD := Hid.mk' (HW.out.below (Below.refl _ wq).drew)
  have HADD := Hid.mk' (sumAddR X.bl u (coef S.r) t.c t.m wq.drew hg.1 HWD.out.lf (by unfold maxLen; omega) (by omega) hg.2.2)
  have k5 := HW.out.c5
  obtain ⟨q0, q1, q2, q3, q4⟩ := HC.out
  have hcl := HC.out.lt
  go_region_with (go_at_call 64; refine HADD.out.mono ?_; rintro r w4 ⟨rfl, hS4, hg4⟩; have HS4 := Hid.mk' hS4; have HG4 := Hid.mk' hg4; clear hS4 hg4)
  all_goals
    have HW4 := Hid.mk' (HWD.out.turnLeft (u' := u + 1) (r := addL S.r [t]) (Nat.le_succ _) HG4.out (HS4.out.congr (fun m _ => add_one_coef HRF.out HG.out m) (fun m => coef_range (addL_facts HRF.out (fallsOne HG.out)).1 m)))
    have HB4 := Hid.mk' (HB.out.drew.trans (Turn.map HG4.out (.inr (.inl rfl))))
    have r0 := cell_grownMap HWD.out.lf (b' := w.heap.size) (o := 1) (v := .int .i64 t.m.x) q1 HG4.out
    have r1 := cell_grownMap HWD.out.lf (b' := w.heap.size) (o := 2) (v := .int .i64 t.m.y) q2 HG4.out
    have r2 := cell_grownMap HWD.out.lf (b' := w.heap.size) (o := 3) (v := .int .i64 t.m.d) q3 HG4.out
    have r3 := cell_grownMap HWD.out.lf (b' := w.heap.size) (o := 4) (v := .int .i64 t.m.e) q4 HG4.out
    have k3 := HW4.out.c3
    have HW5 := Hid.mk' (HW4.out.below (Below.refl _ w4).drew)
    obtain ⟨w6, hrun, hS6, hg6⟩ := HW5.out.rs.del HG.out.1 0
    have HS6 := Hid.mk' hS6
    have HG6 := Hid.mk' hg6
    clear hS6 hg6 q0 q1 q2 q3 q4 k5 HS4 HG4 HADD
    go_wp2_with fail
    go_region_with fail
    all_goals
      go_wp2
      go_end0
      refine ⟨rfl, ?_, ?_⟩
      · exact HW5.out.turnRest (Nat.le_refl _) HG6.out (HS6.out.congr (fun m _ => del_one_coef HPF.out HM.out m) (fun m => coef_range (subL_facts HPF.out (fallsOne HG.out)).1 m))
      · exact HB4.out.drew.trans (Turn.map HG6.out (.inl rfl))
end Go.Proofs.YtkoaiogakkldgaaGreat
