/-
  The product of two operators as if all commuted: the model.
-/
import Derived.Test.YtfcmkkagjkkgjaaCom
import Derived.Deep.RegionWith
namespace Go.Proofs.Ytfcmkkagjkkgjaa
open Go.RowKit
set_option linter.unusedVariables false

theorem rowC_falls {K : List T} {a : T} {g : Nat → T} {lb : Nat} (hK : Falls K) (ha : 0 ≤ a.c) (hg : Good g lb) : ∀ k K', k ≤ lb → rowC K a g k = some K' → Falls K'
  | 0, K', _, h => by cases h; exact hK
  | k + 1, K', hk, h => by
    rw [rowC] at h
    cases hr : rowC K a g k with
    | none => rw [hr] at h; cases h
    | some K1 =>
      rw [hr] at h
      change comStep K1 a (g k) = some K' at h
      have h1 := rowC_falls hK ha hg k K1 (by omega) hr
      unfold comStep at h
      split at h
      · rename_i hok
        cases h
        exact (putT_facts h1 hok (by omega) (by omega)).1
      · cases h
theorem eachM_step {st : List T → T → Option (List T)} {f : Nat → T} {i : Nat} {K K' : List T} (h : eachM st f i = some K) (hs : st K (f i) = some K') : eachM st f (i + 1) = lim4 K' := by
  rw [eachM, h]
  show (st K (f i)).bind lim4 = _
  rw [hs]
  rfl
theorem eachM_stop {st : List T → T → Option (List T)} {f : Nat → T} {i : Nat} {K : List T} (h : eachM st f i = some K) (hs : st K (f i) = none) : eachM st f (i + 1) = none := by
  rw [eachM, h]
  show (st K (f i)).bind lim4 = _
  rw [hs]
  rfl
abbrev S7 (p1 o1 p2 o2 b3 : Nat) (ca cb : Int) (m : M) (u : World) : Prop := u.cell? ⟨p1, o1, none⟩ = some (.int .i64 ca) ∧ u.cell? ⟨p2, o2, none⟩ = some (.int .i64 cb) ∧ u.cell? ⟨b3, 0, none⟩ = some (.int .i64 m.x) ∧ u.cell? ⟨b3, 1, none⟩ = some (.int .i64 m.y) ∧ u.cell? ⟨b3, 2, none⟩ = some (.int .i64 m.d) ∧ u.cell? ⟨b3, 3, none⟩ = some (.int .i64 m.e)
theorem S7.below {p1 o1 p2 o2 b3 : Nat} {ca cb : Int} {m : M} {u u' : World} (h : S7 p1 o1 p2 o2 b3 ca cb m u) (hb : Below u.heap.size u u') : S7 p1 o1 p2 o2 b3 ca cb m u' := by
  have k : ∀ (x o : Nat) (v : Value), u.cell? ⟨x, o, none⟩ = some v → u'.cell? ⟨x, o, none⟩ = some v := fun x o v hv => (hb.cell (p := ⟨x, o, none⟩) (World.block_lt_of_cell? u ⟨x, o, none⟩ hv)).trans hv
  exact ⟨k _ _ _ h.1, k _ _ _ h.2.1, k _ _ _ h.2.2.1, k _ _ _ h.2.2.2.1, k _ _ _ h.2.2.2.2.1, k _ _ _ h.2.2.2.2.2⟩
set_option maxRecDepth 100000 in
set_option maxHeartbeats 8000000 in
theorem comMulS (w : World) (a b : Option Addr) (la ca lb cb : Nat) (f g : Nat → T) (ha : Rd w a la ca f) (hb : Rd w b lb cb g) :
    Calls Try.prog 32 #[.slice a la ca, .slice b lb cb] w fun r w' => ∃ v, r = .returned (.tuple #[v, .bool (comMul f la g lb).2]) ∧ Below w.heap.size w w' ∧ w'.ownsRow w.heap.size 39 5 v (comMul f la g lb).1.length (cellsL (comMul f la g lb).1) := by
  have HA := Hid.mk' ha
  have HB := Hid.mk' hb
  have hO0 := owns_none w w.heap.size (Nat.le_refl _)
  have hB0 := bel_one w (.cells #[] 39)
  have HRA := Hid.mk' (ha.below hB0)
  have HRB := Hid.mk' (hb.below hB0)
  have hla : (la : Int) ≤ 140737488351232 := by have := ha.2.1; omega
  have hlb : (lb : Int) ≤ 140737488351232 := by have := hb.2.1; omega
  clear ha hb
  cases hpa : polOk la f
  · have e1 : comMul f la g lb = ([], false) := by simp [comMul, hpa]
    rw [e1]
    go_enter Try.func32, Try.ntmps32
    go_wp2_with (go_at_call 23; refine (polOkS _ _ _ _ f HRA.out).mono ?_; rw [hpa]; rintro r w1 ⟨rfl, hb1⟩; have HB1 := Hid.mk' hb1; clear hb1)
    refine bodyPost_ret (results_tmp2 rfl _ _ _) rfl ?_
    exact ⟨_, rfl, bel_next hB0 HB1.out, owns_below hO0 HB1.out⟩
  · cases hpb : polOk lb g
    · have e1 : comMul f la g lb = ([], false) := by simp [comMul, hpb]
      rw [e1]
      go_enter Try.func32, Try.ntmps32
      go_wp2_with (first
        | (go_at_call_of 23 (Value.slice a la ca); refine (polOkS _ _ _ _ f HRA.out).mono ?_; rw [hpa]; rintro r w1 ⟨rfl, hb1⟩; have HB1 := Hid.mk' hb1; clear hb1)
        | (go_at_call_of 23 (Value.slice b lb cb); refine (polOkS _ _ _ _ g (HRB.out.below HB1.out)).mono ?_; rw [hpb]; rintro r w2 ⟨rfl, hb2⟩; have HB2 := Hid.mk' hb2; clear hb2))
      refine bodyPost_ret (results_tmp2 rfl _ _ _) rfl ?_
      exact ⟨_, rfl, bel_next (bel_next hB0 HB1.out) HB2.out, owns_below (owns_below hO0 HB1.out) HB2.out⟩
    · have e2 : comMul f la g lb = mulO (eachM (fun K t => rowC K t g lb) f la) := by simp [comMul, hpa, hpb]
      rw [e2]
      clear e2
      obtain ⟨l1, gf⟩ := good_ok hpa
      obtain ⟨l2, gg⟩ := good_ok hpb
      have HGF := Hid.mk' gf
      have HGG := Hid.mk' gg
      clear gf gg
      go_enter Try.func32, Try.ntmps32
      go_wp2_with (first
        | (go_at_call_of 23 (Value.slice a la ca); refine (polOkS _ _ _ _ f HRA.out).mono ?_; rw [hpa]; rintro r w1 ⟨rfl, hb1⟩; have HB1 := Hid.mk' hb1; clear hb1)
        | (go_at_call_of 23 (Value.slice b lb cb); refine (polOkS _ _ _ _ g (HRB.out.below HB1.out)).mono ?_; rw [hpb]; rintro r w2 ⟨rfl, hb2⟩; have HB2 := Hid.mk' (bel_next (bel_next hB0 HB1.out) hb2); have HO2 := Hid.mk' (owns_below (owns_below hO0 HB1.out) hb2); clear hb2))
      clear hpa hpb hO0 hB0
      go_loopw [6, 7] (fun v ii wr => ∃ (i : Nat) (K : List T), i ≤ la ∧ ii = .int .i64 (i : Int) ∧ eachM (fun K t => rowC K t g lb) f i = some K ∧ Falls K ∧ K.length ≤ 400 ∧ wr.ownsRow w.heap.size 39 5 v K.length (cellsL K) ∧ Below w.heap.size w wr) (fun _ ii _ => la - (intOf ii).toNat)
      case atStart => exact ⟨0, [], Nat.zero_le _, rfl, rfl, falls_nil, Nat.zero_le _, HO2.out, HB2.out⟩
      case round =>
        obtain ⟨i, K, hi, rfl, hM, hKf, hKl, hown, hbl⟩ := hrel
        by_cases hlt : i < la
        · have hil : (i : Int) < (la : Int) := by omega
          have HM := Hid.mk' hM
          have HKF := Hid.mk' hKf
          have HOWN := Hid.mk' hown
          have HBL := Hid.mk' hbl
          have hfi := HGF.out i hlt
          clear hM hKf hown hbl
          go_wp2
          go_loopw [6, 8] (fun v kk wr => ∃ (k : Nat) (K' : List T), k ≤ lb ∧ kk = .int .i64 (k : Int) ∧ rowC K (f i) g k = some K' ∧ wr.ownsRow w.heap.size 39 5 v K'.length (cellsL K') ∧ Below w.heap.size w wr) (fun _ kk _ => lb - (intOf kk).toNat)
          case atStart => exact ⟨0, K, Nat.zero_le _, rfl, rfl, HOWN.out, HBL.out⟩
          case round =>
            obtain ⟨k, K', hk, rfl, hM', hown', hbl'⟩ := hrel
            by_cases hlt2 : k < lb
            · have hkl : (k : Int) < (lb : Int) := by omega
              have hri := HA.out.below hbl'
              have hrk := HB.out.below hbl'
              rcases hri.2.2 with h0 | ⟨pb, off, hpe, hblt, hcl⟩
              · omega
              rcases hrk.2.2 with h0 | ⟨pb2, off2, hpe2, hblt2, hcl2⟩
              · omega
              obtain ⟨g0, g1, g2, g3, g4⟩ := hcl i hlt
              obtain ⟨j0, j1, j2, j3, j4⟩ := hcl2 k hlt2
              subst hpe hpe2
              have hgk := HGG.out k hlt2
              have hKl' := rowC_len k K' hM'
              have hKf' := rowC_falls HKF.out hfi.2.1 HGG.out k K' (by omega) hM'
              have hmm := monMulS (f i).m.x (f i).m.y (f i).m.d (f i).m.e (g k).m.x (g k).m.y (g k).m.d (g k).m.e
              have ea : (⟨(f i).m.x, (f i).m.y, (f i).m.d, (f i).m.e⟩ : M) = (f i).m := rfl
              have eb : (⟨(g k).m.x, (g k).m.y, (g k).m.d, (g k).m.e⟩ : M) = (g k).m := rfl
              rw [ea, eb] at hmm
              have HC1 := Hid.mk' (And.intro g0 j0)
              have HM' := Hid.mk' hM'
              have HOW := Hid.mk' hown'
              have HBL' := Hid.mk' hbl'
              have hws : w.heap.size ≤ wr.heap.size := hbl'.size
              obtain ⟨q, hq⟩ : ∃ q, q = (M.mul (f i).m (g k).m).1 := ⟨_, rfl⟩
              obtain ⟨ok, hok⟩ : ∃ ok, ok = (M.mul (f i).m (g k).m).2 := ⟨_, rfl⟩
              rw [← hq, ← hok] at hmm
              have HQ := Hid.mk' hq
              have HOK := Hid.mk' hok
              have HMM := Hid.mk' hmm
              clear hcl hcl2 hri hrk hM' hown' hbl' ea eb hq hok hmm g0 j0
              go_wp2_with fail
              refine Code.wp_mono (Q := fun e b0 u => match e with | Exit.normal => (∃ gg : Nat, b0 = { tmps := #[Value.slice (some ⟨pb, off, none⟩) la ca, Value.slice (some ⟨pb2, off2, none⟩) lb cb, undef, undef, u4, u5, u6, Value.int IntKind.i64 (i : Int), Value.int IntKind.i64 (k : Int), Value.pointer (some ⟨gg, 0, none⟩), Value.bool ok, Value.slice (some ⟨w.heap.size, 0, none⟩) 0 0, Value.slice (some ⟨pb, off, none⟩) la ca, Value.bool true, Value.bool false, Value.bool false, Value.slice (some ⟨pb2, off2, none⟩) lb cb, Value.bool true, Value.bool false, Value.bool false, undef, Value.int IntKind.i64 (i : Int), Value.slice (some ⟨pb, off, none⟩) la ca, Value.int IntKind.i64 (la : Int), Value.bool true, u25, u26, Value.int IntKind.i64 (k : Int), Value.slice (some ⟨pb2, off2, none⟩) lb cb, Value.int IntKind.i64 (lb : Int), Value.bool true, u31, u32, Value.tuple #[Value.agg #[Value.int IntKind.i64 q.x, Value.int IntKind.i64 q.y, Value.int IntKind.i64 q.d, Value.int IntKind.i64 q.e], Value.bool ok], Value.slice (some ⟨pb, off, none⟩) la ca, Value.int IntKind.i64 (i : Int), Value.pointer (some ⟨pb, off + i * 5, none⟩), Value.pointer (some ⟨pb, off + i * 5 + 1, none⟩), Value.agg #[Value.int IntKind.i64 (f i).m.x, Value.int IntKind.i64 (f i).m.y, Value.int IntKind.i64 (f i).m.d, Value.int IntKind.i64 (f i).m.e], Value.slice (some ⟨pb2, off2, none⟩) lb cb, Value.int IntKind.i64 (k : Int), Value.pointer (some ⟨pb2, off2 + k * 5, none⟩), Value.pointer (some ⟨pb2, off2 + k * 5 + 1, none⟩), Value.agg #[Value.int IntKind.i64 (g k).m.x, Value.int IntKind.i64 (g k).m.y, Value.int IntKind.i64 (g k).m.d, Value.int IntKind.i64 (g k).m.e], Value.tuple #[Value.agg #[Value.int IntKind.i64 q.x, Value.int IntKind.i64 q.y, Value.int IntKind.i64 q.d, Value.int IntKind.i64 q.e], Value.bool ok], Value.agg #[Value.int IntKind.i64 q.x, Value.int IntKind.i64 q.y, Value.int IntKind.i64 q.d, Value.int IntKind.i64 q.e], Value.bool ok, u47, u48, u49, u50, u51, u52, u53, u54, u55, u56, u57, u58, u59, u60, u61, u62, u63, u64, u65, u66, u67, u68, undef], defers := [] } ∧ M4 u gg q.x q.y q.d q.e ∧ wr.heap.size ≤ gg ∧ Below wr.heap.size wr u) | _ => False) ?_ ?_
              rotate_left
              · go_region_with (go_at_call 65; refine (HMM.out _).mono ?_; rintro e w4 ⟨rfl, b4⟩; obtain ⟨hc4, hf4⟩ := bcell b4; have hs4 := b4.size; (try simp at hs4); have hl4 : wr.heap.size ≤ w4.heap.size := (by omega); (try (have hl5 : wr.heap.size < w4.heap.size := (by omega))))
                all_goals
                  refine ⟨_, rfl, ⟨by go_simp, by go_simp, by go_simp, by go_simp⟩, by omega, ?_⟩
                  first
                    | exact bel_next (bel_next (Below.refl _ _).drew b4) (bel_one w4 _)
                    | exact bel_set4 (bel_next (bel_next (bel_one wr _) (Below.refl _ _).drew) b4) (Nat.le_refl _) _ _ _ _
              · intro e b0 ua hh
                cases e with
                | normal =>
                  obtain ⟨gg, rfl, hm4, hgg, hbu⟩ := hh
                  have hOU := owns_below HOW.out hbu
                  have hBU := bel_next HBL'.out hbu
                  have c1 := (hbu.cell (p := ⟨pb, off + i * 5, none⟩) hblt).trans HC1.out.1
                  have c2 := (hbu.cell (p := ⟨pb2, off2 + k * 5, none⟩) hblt2).trans HC1.out.2
                  have HOU := Hid.mk' hOU
                  have HBU := Hid.mk' hBU
                  clear hOU hBU HC1 HMM hbu g1 g2 g3 g4 j1 j2 j3 j4
                  by_cases hsum : ((f i).m.sum (g k).m).ok = true
                  · have hmul : M.mul (f i).m (g k).m = ((f i).m.sum (g k).m, true) := by simp [M.mul, hfi.1, hgk.1, hsum]
                    have hok : ok = true := by rw [HOK.out, hmul]
                    have hqe : q = (f i).m.sum (g k).m := by rw [HQ.out, hmul]
                    have hst : rowC K (f i) g (k + 1) = some (putT ((f i).c * (g k).c % 101) q K') := by rw [rowC, HM'.out]; show comStep _ _ _ = _; unfold comStep; rw [if_pos hsum, hqe]
                    have HST := Hid.mk' hst
                    subst hok
                    obtain ⟨mb1, mb2⟩ := mul_bd hfi.2.1 hfi.2.2 hgk.2.1 hgk.2.2
                    have hwm : IntKind.i64.wrap ((f i).c * (g k).c) = (f i).c * (g k).c := by rw [IntKind.wrap_i64]; omega
                    obtain ⟨cc, hcc⟩ : ∃ cc, cc = (f i).c * (g k).c % 101 := ⟨_, rfl⟩
                    have htm : ((f i).c * (g k).c).tmod 101 = cc := (Int.tmod_eq_emod_of_nonneg mb1).trans hcc.symm
                    rw [← hcc] at HST
                    have k1 : 0 ≤ cc := by omega
                    have k2 : cc ≤ 100 := by omega
                    obtain ⟨m0, m1, m2, m3⟩ := hm4
                    have HPUT := Hid.mk' (l4PutS ua.drew w.heap.size u6 K' cc q.x q.y q.d q.e (owns_below HOU.out (Below.refl _ _).drew) HBU.out.drew.size (by omega) (cok_falls hKf') k1 k2)
                    have hS0 : S7 pb (off + i * 5) pb2 (off2 + k * 5) gg (f i).c (g k).c q ua.drew := ⟨c1, c2, m0, m1, m2, m3⟩
                    clear hst hqe hmul mb1 mb2 hcc c1 c2 m0 m1 m2 m3 hKf' hfi hgk
                    go_wp2_with fail
                    go_region_held3 (fun u => u.cell? ⟨pb, off + i * 5, none⟩ = some (.int .i64 (f i).c) ∧ u.cell? ⟨pb2, off2 + k * 5, none⟩ = some (.int .i64 (g k).c) ∧ u.cell? ⟨gg, 0, none⟩ = some (.int .i64 q.x) ∧ u.cell? ⟨gg, 1, none⟩ = some (.int .i64 q.y) ∧ u.cell? ⟨gg, 2, none⟩ = some (.int .i64 q.d) ∧ u.cell? ⟨gg, 3, none⟩ = some (.int .i64 q.e)) (first | with_reducible exact hS0 | with_reducible exact S7.below hS0 hb7) (first | (go_at_call 53; refine HPUT.out.mono ?_; rintro e w7 ⟨v7, rfl, hb7, ho7⟩))
                    all_goals
                      have HB7 : Hid (Below w.heap.size w w7) := (bel_next HBU.out.drew hb7)
                      have HO7 := Hid.mk' ho7
                      clear hb7 ho7
                      go_wp2
                      go_roundw
                      case rel => exact ⟨k + 1, _, by omega, by go_num, HST.out, HO7.out, HB7.out⟩
                      case measure => simp [intOf]; omega
                  · have hmul : M.mul (f i).m (g k).m = (M.zero, false) := by simp [M.mul, hsum]
                    have hok : ok = false := by rw [HOK.out, hmul]
                    have hno : eachM (fun K t => rowC K t g lb) f la = none := eachM_none (i := i + 1) (eachM_stop HM.out (rowC_none (k := k + 1) (by rw [rowC, HM'.out]; show comStep _ _ _ = _; unfold comStep; rw [if_neg hsum]) lb (by omega))) la (by omega)
                    subst hok
                    clear hm4 c1 c2
                    go_wp2
                    refine bodyPost_ret (results_tmp2 rfl _ _ _) rfl ?_
                    rw [hno]
                    exact ⟨_, rfl, HBU.out.alloc HBU.out.size _, owns_none ua w.heap.size HBU.out.size⟩
                | _ => exact hh.elim
            · obtain rfl : k = lb := by omega
              have hKl' := rowC_len k K' hM'
              have hKf' := rowC_falls HKF.out hfi.2.1 HGG.out k K' (by omega) hM'
              obtain ⟨av, cv, hv, hout⟩ := out_of_owns hown' (by omega)
              have HOW := Hid.mk' hown'
              have HBL' := Hid.mk' hbl'
              subst hv
              clear hown' hbl' hout
              by_cases h4 : K'.length ≤ 400
              · have h4' : (K'.length : Int) ≤ 400 := by omega
                have HE : Hid (eachM (fun K t => rowC K t g k) f (i + 1) = some K') := (eachM_step HM.out hM').trans (if_pos h4)
                go_wp2
                go_roundw
                case rel => exact ⟨i + 1, K', by omega, by go_num, HE.out, hKf', h4, HOW.out, HBL'.out⟩
                case measure => simp [intOf]; omega
              · have h4' : (400 : Int) < (K'.length : Int) := by omega
                have hno : eachM (fun K t => rowC K t g k) f la = none := eachM_none (i := i + 1) ((eachM_step HM.out hM').trans (if_neg h4)) la (by omega)
                go_wp2
                refine bodyPost_ret (results_tmp2 rfl _ _ _) rfl ?_
                rw [hno]
                exact ⟨_, rfl, HBL'.out.alloc HBL'.out.size _, owns_none wr w.heap.size HBL'.out.size⟩
        · obtain rfl : i = la := by omega
          go_wp2
          refine bodyPost_ret (results_tmp2 rfl _ _ _) rfl ?_
          rw [hM]
          exact ⟨_, rfl, hbl, hown⟩
end Go.Proofs.Ytfcmkkagjkkgjaa
