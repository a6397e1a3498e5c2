/-
  The product of two operators: the program.
-/
import Derived.Test.YtahbekfhoidgjawAddProd
import Derived.Test.YtahbekfhoidgjawWylM
import Derived.Test.YtahbekfhoidgjawPolAddI
namespace Go.Proofs.Ytahbekfhoidgjaw
open Go.RowKit Go.Maps
set_option linter.unusedVariables false

set_option maxRecDepth 100000 in
set_option maxHeartbeats 8000000 in
theorem wylMulV (w : World) (a b : Option Addr) (la ca lb cb : Nat) (f g : Nat → T) (ha : Rd w a la ca f) (hb : Rd w b lb cb g) :
    Calls Try.prog 56 #[.slice a la ca, .slice b lb cb] w fun r w' => ∃ v, r = .returned (.tuple #[v, .bool (wylMul f la g lb).2]) ∧ Below w.heap.size w w' ∧ w'.ownsRow w.heap.size 40 5 v (wylMul f la g lb).1.length (cellsL (wylMul f la g lb).1) := by
  have HA := Hid.mk' ha
  have HB := Hid.mk' hb
  have hla : (la : Int) ≤ 140737488351232 := by have := ha.2.1; omega
  have hlb : (lb : Int) ≤ 140737488351232 := by have := hb.2.1; omega
  clear ha hb
  cases hpa : polOk la f
  · have e1 : wylMul f la g lb = ([], false) := by simp [wylMul, hpa]
    rw [e1]
    go_enter Try.func56, Try.ntmps56
    go_wp2_with (go_at_call 47; refine (polOkI _ _ _ _ f HA.out).mono ?_; rw [hpa]; rintro r w1 ⟨rfl, hb1⟩; have HB1 := Hid.mk' hb1; clear hb1)
    refine bodyPost_ret (results_tmp2 rfl _ _ _) rfl ?_
    exact ⟨_, rfl, HB1.out, owns_nil w1 _⟩
  · cases hpb : polOk lb g
    · have e1 : wylMul f la g lb = ([], false) := by simp [wylMul, hpb]
      rw [e1]
      go_enter Try.func56, Try.ntmps56
      go_wp2_with (first
        | (go_at_call_of 47 (Value.slice a la ca); refine (polOkI _ _ _ _ f HA.out).mono ?_; rw [hpa]; rintro r w1 ⟨rfl, hb1⟩; have HB1 := Hid.mk' hb1; clear hb1)
        | (go_at_call_of 47 (Value.slice b lb cb); refine (polOkI _ _ _ _ g (HB.out.below HB1.out)).mono ?_; rw [hpb]; rintro r w2 ⟨rfl, hb2⟩; have HB2 := Hid.mk' hb2; clear hb2))
      refine bodyPost_ret (results_tmp2 rfl _ _ _) rfl ?_
      exact ⟨_, rfl, bel_next HB1.out HB2.out, owns_nil w2 _⟩
    · have e2 : wylMul f la g lb = mulO (mulM f g lb la) := by simp [wylMul, hpa, hpb]
      rw [e2]
      clear e2
      have l1 : la ≤ 400 := by have h := hpa; simp only [polOk, decide_eq_true_eq] at h; exact h.1
      have l2 : lb ≤ 400 := by have h := hpb; simp only [polOk, decide_eq_true_eq] at h; exact h.1
      have HPA := Hid.mk' hpa
      have HPB := Hid.mk' hpb
      have hmm := @run_makeMap Try.prog
      go_enter Try.func56, Try.ntmps56
      go_wp2_with (first
        | (go_at_call_of 47 (Value.slice a la ca); refine (polOkI _ _ _ _ f HA.out).mono ?_; rw [hpa]; rintro r w1 ⟨rfl, hb1⟩; have HB1 := Hid.mk' hb1; clear hb1)
        | (go_at_call_of 47 (Value.slice b lb cb); refine (polOkI _ _ _ _ g (HB.out.below HB1.out)).mono ?_; rw [hpb]; rintro r w2 ⟨rfl, hb2⟩; have HB2 := Hid.mk' (bel_next HB1.out hb2); clear hb2))
      clear hpa hpb
      have HRA := Hid.mk' (HA.out.below HB2.out)
      have HRB := Hid.mk' (HB.out.below HB2.out)
      have HNA := Hid.mk' (HRA.out.apart (Nat.le_refl _))
      have HNB := Hid.mk' (HRB.out.apart (Nat.le_refl _))
      have hlo : w.heap.size ≤ w2.heap.size := HB2.out.size
      have HS0 := Hid.mk' ((sumNew w2).cap)
      have HG0 := Hid.mk' (World.grownBy_alloc w2 (.map #[] 0) (some w2.heap.size))
      generalize hw3 : w2.alloc (.map #[] 0) = w3 at *
      clear hw3 hmm
      go_loopw [22] (fun v wr => ∃ (i : Nat) (K : List T) (c : M → Int), i ≤ la ∧ v = .int .i64 (i : Int) ∧ mulM f g lb i = some K ∧ Falls K ∧ (∀ m, m.ok = true → coef K m = c m) ∧ SumR wr w2.heap.size 65536 c ∧ w2.grownBy wr (some w2.heap.size)) (fun v _ => la - (intOf v).toNat)
      case atStart => exact ⟨0, [], fun _ => 0, Nat.zero_le _, rfl, rfl, falls_nil, fun _ _ => rfl, HS0.out, HG0.out⟩
      case round =>
        obtain ⟨i, K, c, hi, rfl, hM, hKf, hKc, hS, hg⟩ := hrel
        by_cases hlt : i < la
        · have hil : (i : Int) < (la : Int) := by omega
          have hri := HRA.out.grown hg HNA.out
          rcases hri.2.2 with h0 | ⟨pb, off, hpe, hblt, hcl⟩
          · omega
          obtain ⟨g0, g1, g2, g3, g4⟩ := hcl i hlt
          have hfi := polOk_at HPA.out hlt
          have HS := Hid.mk' hS
          have HG := Hid.mk' hg
          have HM := Hid.mk' hM
          clear hcl hri hS hg hM
          subst hpe
          go_wp2
          have hT1 : TermAt (wr.alloc (.cells #[.int .i64 (f i).c, .int .i64 (f i).m.x, .int .i64 (f i).m.y, .int .i64 (f i).m.d, .int .i64 (f i).m.e] 40)) wr.heap.size (f i) := World.alloc_heap_new wr _
          have HS1 := Hid.mk' (HS.out.grown (World.grownBy_alloc wr (.cells #[.int .i64 (f i).c, .int .i64 (f i).m.x, .int .i64 (f i).m.y, .int .i64 (f i).m.d, .int .i64 (f i).m.e] 40) none) (by simp))
          have HG1 := Hid.mk' (HG.out.trans (World.grownBy_alloc wr (.cells #[.int .i64 (f i).c, .int .i64 (f i).m.x, .int .i64 (f i).m.y, .int .i64 (f i).m.d, .int .i64 (f i).m.e] 40) (some w2.heap.size)))
          have hbl : w2.heap.size < wr.heap.size := HS.out.lt
          have hs1 : (wr.alloc (.cells #[.int .i64 (f i).c, .int .i64 (f i).m.x, .int .i64 (f i).m.y, .int .i64 (f i).m.d, .int .i64 (f i).m.e] 40)).heap.size = wr.heap.size + 1 := by simp
          clear g0 g1 g2 g3 g4
          generalize wr.alloc (.cells #[.int .i64 (f i).c, .int .i64 (f i).m.x, .int .i64 (f i).m.y, .int .i64 (f i).m.d, .int .i64 (f i).m.e] 40) = wi at *
          generalize wr.heap.size = Bf at *
          go_loopw [28] (fun v wr' => ∃ (k : Nat) (K' : List T) (c' : M → Int), k ≤ lb ∧ v = .int .i64 (k : Int) ∧ rowM K (f i) g k = some K' ∧ Falls K' ∧ (∀ m, m.ok = true → coef K' m = c' m) ∧ SumR wr' w2.heap.size 65536 c' ∧ w2.grownBy wr' (some w2.heap.size) ∧ TermAt wr' Bf (f i)) (fun v _ => lb - (intOf v).toNat)
          case atStart => exact ⟨0, K, c, Nat.zero_le _, rfl, rfl, hKf, hKc, HS1.out, HG1.out, hT1⟩
          case round =>
            obtain ⟨k, K', c', hk, rfl, hM', hKf', hKc', hS', hg', hT'⟩ := hrel
            by_cases hlt2 : k < lb
            · have hkl : (k : Int) < (lb : Int) := by omega
              have hrk := HRB.out.grown hg' HNB.out
              rcases hrk.2.2 with h0 | ⟨pb2, off2, hpe2, hblt2, hcl2⟩
              · omega
              obtain ⟨g0, g1, g2, g3, g4⟩ := hcl2 k hlt2
              obtain ⟨t0, t1, t2, t3, t4⟩ := hT'.cells
              have hgk := polOk_at HPB.out hlt2
              have htl : Bf < wr.heap.size := (Array.getElem?_eq_some_iff.1 hT').1
              have HSk := Hid.mk' (hS'.grown (World.grownBy_alloc wr (.cells #[.int .i64 (g k).c, .int .i64 (g k).m.x, .int .i64 (g k).m.y, .int .i64 (g k).m.d, .int .i64 (g k).m.e] 40) none) (by simp))
              have HGk := Hid.mk' (hg'.trans (World.grownBy_alloc wr (.cells #[.int .i64 (g k).c, .int .i64 (g k).m.x, .int .i64 (g k).m.y, .int .i64 (g k).m.d, .int .i64 (g k).m.e] 40) (some w2.heap.size)))
              have HTk : Hid (TermAt (wr.alloc (.cells #[.int .i64 (g k).c, .int .i64 (g k).m.x, .int .i64 (g k).m.y, .int .i64 (g k).m.d, .int .i64 (g k).m.e] 40)) Bf (f i)) := (Below.heap_alloc _ _ _ htl).trans hT'
              have HMk := Hid.mk' hM'
              have hcr := hS'.range
              clear hcl2 hrk hS' hg' hM' hT'
              subst hpe2
              by_cases hok : ((f i).m.sum (g k).m).ok = true
              · have hTwo : Two (f i) (g k) ((f i).m.sum (g k).m) := Two.of hfi.1 hgk.1 hok hfi.2 hgk.2
                obtain ⟨nf, nc⟩ := addL_pair hTwo hKf' hcr hKc'
                have hcall := addProdI _ w2.heap.size c' HSk.out (f i) (g k) hTwo nf nc
                by_cases h4 : (addL K' (pairL (f i) (g k))).length ≤ 400
                · have hstep : rowM K (f i) g (k + 1) = some (addL K' (pairL (f i) (g k))) := by rw [rowM, HMk.out]; show stepM _ _ _ = _; unfold stepM; rw [if_pos ⟨hok, h4⟩]
                  have HST := Hid.mk' hstep
                  rw [decide_eq_true h4] at hcall
                  clear hstep
                  go_wp2_with (go_at_call 71; refine hcall.mono ?_; rintro r w6 ⟨rfl, hs6, hg6⟩; have HS6 := Hid.mk' hs6; have HG6 := Hid.mk' hg6; clear hs6 hg6)
                  go_roundw
                  case rel => exact ⟨k + 1, _, _, by omega, by go_num, HST.out, nf, nc, HS6.out, HGk.out.trans HG6.out, (HG6.out.block _ (by simp; omega) (fun e => by cases e; omega)).trans HTk.out⟩
                  case measure => simp [intOf]; omega
                · have hstep : rowM K (f i) g (k + 1) = none := by rw [rowM, HMk.out]; show stepM _ _ _ = _; unfold stepM; rw [if_neg (fun h => h4 h.2)]
                  have hno : mulM f g lb la = none := mulM_none (i := i + 1) (by rw [mulM, HM.out]; exact rowM_none hstep lb (by omega)) la (by omega)
                  rw [decide_eq_false h4] at hcall
                  clear hstep
                  go_wp2_with (go_at_call 71; refine hcall.mono ?_; rintro r w6 ⟨rfl, hs6, hg6⟩; have HG6 := Hid.mk' hg6; clear hs6 hg6)
                  refine bodyPost_ret (results_tmp2 rfl _ _ _) rfl ?_
                  rw [hno]
                  exact ⟨_, rfl, HB2.out.grown (HGk.out.trans HG6.out) hlo (fun k' e => by cases e; exact hlo), owns_nil w6 _⟩
              · have hstep : rowM K (f i) g (k + 1) = none := by rw [rowM, HMk.out]; show stepM _ _ _ = _; unfold stepM; rw [if_neg (fun h => hok h.1)]
                have hno : mulM f g lb la = none := mulM_none (i := i + 1) (by rw [mulM, HM.out]; exact rowM_none hstep lb (by omega)) la (by omega)
                have hcall := addProdNo (wr.alloc (.cells #[.int .i64 (g k).c, .int .i64 (g k).m.x, .int .i64 (g k).m.y, .int .i64 (g k).m.d, .int .i64 (g k).m.e] 40)) w2.heap.size (f i) (g k) hfi.1 hgk.1 (by simpa using hok)
                clear hstep
                go_wp2_with (go_at_call 71; refine hcall.mono ?_; rintro r w6 ⟨rfl, hb6⟩; have HG6 := Hid.mk' (below_grown hb6 (some w2.heap.size)); clear hb6)
                refine bodyPost_ret (results_tmp2 rfl _ _ _) rfl ?_
                rw [hno]
                exact ⟨_, rfl, HB2.out.grown (HGk.out.trans HG6.out) hlo (fun k' e => by cases e; exact hlo), owns_nil w6 _⟩
            · obtain rfl : k = lb := by omega
              have HMk : Hid (mulM f g k (i + 1) = some K') := by show _ = _; rw [mulM, HM.out]; exact hM'
              have HSk := Hid.mk' hS'
              have HGk := Hid.mk' hg'
              clear hS' hg' hM' hT'
              go_wp2
              go_roundw
              case rel => exact ⟨i + 1, K', c', by omega, by go_num, HMk.out, hKf', hKc', HSk.out, HGk.out⟩
              case measure => simp [intOf]; omega
        · obtain rfl : i = la := by omega
          have hKl := mulM_len _ _ hM
          have e3 : mulO (mulM f g lb i) = sumL K := by rw [hM]; simp [mulO, sumL, hKl]
          go_wp2_with (go_at_call 48; refine (sumOpI _ _ _ _ hS (by omega) hKf hKc).mono ?_; rintro r w5 ⟨v, rfl, hb5, ho5⟩)
          refine bodyPost_ret (results_tmp2 rfl _ _ _) rfl ?_
          rw [e3]
          have hB4 : Below w.heap.size w wr := HB2.out.grown hg hlo (fun k' e => by cases e; exact hlo)
          exact ⟨_, rfl, hB4.trans (hb5.mono hB4.size), ownsRow_low ho5 hB4.size⟩
theorem wylMulI (w : World) (a b : Option Addr) (la ca lb cb : Nat) (f g : Nat → T) (ha : Rd w a la ca f) (hb : Rd w b lb cb g) :
    Calls Try.prog 56 #[.slice a la ca, .slice b lb cb] w fun r w' => ∃ a' cap', r = .returned (.tuple #[.slice a' (wylMul f la g lb).1.length cap', .bool (wylMul f la g lb).2]) ∧ Below w.heap.size w w' ∧ Out w.heap.size w' a' cap' (wylMul f la g lb).1 := by
  refine (wylMulV w a b la ca lb cb f g ha hb).mono ?_
  rintro r w' ⟨v, rfl, hb1, ho1⟩
  have hlen := wylMul_len f la g lb
  obtain ⟨a', cap', rfl, hout⟩ := out_of_owns ho1 (by omega)
  exact ⟨a', cap', rfl, hb1, hout⟩
end Go.Proofs.Ytahbekfhoidgjaw
