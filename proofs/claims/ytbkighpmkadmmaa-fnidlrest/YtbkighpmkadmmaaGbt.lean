/-
  Whether an operator is free of others: the program.
  An order, an operator and others are drawn; RedAll of them as lists.
  An order and a basis, or but some operators, are drawn (spec.l20Base); what is drawn lies apart from the reader.
-/
import Derived.Test.YtbkighpmkadmmaaGbf
import Derived.Test.YtbkighpmkadmmaaGbr
import Derived.Test.YtbkighpmkadmmaaGbs
import Derived.Test.YtbkighpmkadmmaaGbl
import Derived.Test.YtbkighpmkadmmaaGbk
import Derived.Test.YtbkighpmkadmmaaGbp
namespace Go.Proofs.Ytbkighpmkadmmaa
open Go.RowKit Go.Deep Go.Joins
set_option linter.unusedVariables false

theorem free_eq {o : Int} {np : Nat} {p : Nat → T} {n : Nat} {ln : Nat → Nat} {f : Nat → Nat → T} (o1 : 1 ≤ o) (o2 : o ≤ 3) (hop : polOk np p = true) (hls : lstOk n ln f = true) : redFree o np p n ln f = !decide (0 ≤ idxF (fun t => decide (0 ≤ idxF (fun s => M.dvd s.m t.m) (lf (ldsL o ln f n)) n)) p np) := by
  have key : 0 ≤ idxF (fun t => decide (0 ≤ idxF (fun s => M.dvd s.m t.m) (lf (ldsL o ln f n)) n)) p np ↔ ∃ k, k < np ∧ ∃ i, i < n ∧ M.dvd (ldAt o ln f i).m (p k).m = true := by
    rw [idx_iff]
    refine ⟨fun ⟨k, hk, hd⟩ => ?_, fun ⟨k, hk, i, hi, hd⟩ => ?_⟩
    · obtain ⟨i, hi, h⟩ := idx_iff.1 (of_decide_eq_true hd)
      refine ⟨k, hk, i, hi, ?_⟩
      rw [← ldsL_at o ln f n i hi]
      exact h
    · refine ⟨k, hk, decide_eq_true (idx_iff.2 ⟨i, hi, ?_⟩)⟩
      show M.dvd (lf (ldsL o ln f n) i).m (p k).m = true
      rw [ldsL_at o ln f n i hi]
      exact hd
  by_cases h : 0 ≤ idxF (fun t => decide (0 ≤ idxF (fun s => M.dvd s.m t.m) (lf (ldsL o ln f n)) n)) p np
  · rw [decide_eq_true h]
    obtain ⟨k, hk, i, hi, hd⟩ := key.1 h
    exact decide_eq_false (fun hh => by have := hh.2.2.2 k hk i hi; rw [hd] at this; cases this)
  · rw [decide_eq_false h]
    exact decide_eq_true ⟨⟨o1, o2⟩, hop, hls, fun k hk i hi => by
      cases hd : M.dvd (ldAt o ln f i).m (p k).m
      · rfl
      · exact absurd (key.2 ⟨k, hk, i, hi, hd⟩) h⟩
set_option maxRecDepth 100000 in
set_option maxHeartbeats 8000000 in
theorem redFreeI (w : World) (o : Int) (pa : Option Addr) (np pc : Nat) (p : Nat → T) (hp : Rd w pa np pc p) (a : Option Addr) (n cap : Nat) (ad : Nat → Option Addr) (ln cp : Nat → Nat) (f : Nat → Nat → T) (h : RdS w a n cap ad ln cp f) :
    Calls Try.prog 21 #[.int .i64 o, .slice pa np pc, .slice a n cap] w fun r w' => r = .returned (.bool (redFree o np p n ln f)) ∧ Below w.heap.size w w' := by
  have HP := Hid.mk' hp
  have HH := Hid.mk' h
  clear hp h
  by_cases ho : 1 ≤ o ∧ o ≤ 3
  · obtain ⟨o1, o2⟩ := ho
    cases hls : lstOk n ln f
    · have e : redFree o np p n ln f = false := decide_eq_false (fun hh => by have := hh.2.2.1; rw [hls] at this; cases this)
      rw [e]
      clear e
      go_enter Try.func21, Try.ntmps21
      go_wp2_with fail
      refine (redLeadsI_no _ _ _ _ _ _ _ _ _ HH.out o1 o2 hls).mono ?_
      rintro r w1 ⟨rfl, hb⟩
      have HB := Hid.mk' (bel_next hb (bel_one w1 (.cells #[.slice none 0 0] 29)))
      clear hb
      go_wp2
      go_ret
      exact ⟨rfl, HB.out⟩
    · have HL := Hid.mk' (redLeadsI w o a n cap ad ln cp f HH.out o1 o2 hls)
      have hn12 : n ≤ 12 := (lstOk_all hls).1
      have hlen := ldsL_len o ln f n
      cases hop : polOk np p
      · have e : redFree o np p n ln f = false := decide_eq_false (fun hh => by have := hh.2.1; rw [hop] at this; cases this)
        rw [e]
        clear e hlen
        go_enter Try.func21, Try.ntmps21
        go_wp2_with fail
        refine HL.out.mono ?_
        rintro r w1 ⟨v, rfl, hb, hown⟩
        have hl1 : v.oneCell' = true := by
          rcases hown.2 with ⟨hv, _⟩ | ⟨g, cap, cur, hv, _⟩ <;> (rw [hv]; rfl)
        obtain ⟨a1, c1, rfl, hout⟩ := out_of_owns hown (by rw [ldsL_len]; omega)
        have HB := Hid.mk' (bel_next hb (bel_one w1 (.cells #[.slice a1 (ldsL o ln f n).length c1] 29)))
        clear hb hown hout HL hl1
        go_wp2_with fail
        refine (polOkI _ _ _ _ p (HP.out.below HB.out)).mono ?_
        rw [hop]
        rintro r w2 ⟨rfl, hb2⟩
        have HB2 := Hid.mk' (bel_next HB.out hb2)
        clear hb2
        go_wp2
        go_ret
        exact ⟨rfl, HB2.out⟩
      · obtain ⟨bv, hbv⟩ : ∃ bv, decide (0 ≤ idxF (fun t => decide (0 ≤ idxF (fun s => M.dvd s.m t.m) (lf (ldsL o ln f n)) n)) p np) = bv := ⟨_, rfl⟩
        rw [free_eq o1 o2 hop hls, hbv]
        have HV := Hid.mk' hbv
        have HN := Hid.mk' hlen
        clear hbv hlen
        go_enter Try.func21, Try.ntmps21
        go_wp2_with fail
        refine HL.out.mono ?_
        rintro r w1 ⟨v, rfl, hb, hown⟩
        obtain ⟨a1, c1, rfl, hout⟩ := out_of_owns hown (by rw [ldsL_len]; omega)
        have hrd := hout.1
        rw [HN.out] at hrd ⊢
        have HB := Hid.mk' (bel_next hb (bel_one w1 (.cells #[.slice a1 n c1] 29)))
        have HRD := Hid.mk' (hrd.below (bel_one w1 (.cells #[.slice a1 n c1] 29)))
        have HCL : Hid ((w1.alloc (.cells #[.slice a1 n c1] 29)).cell? ⟨w1.heap.size, 0, none⟩ = some (.slice a1 n c1)) := by
          show _ = _
          rw [World.cell?_alloc_at _ _ _ _ rfl]; rfl
        have hsz : w1.heap.size < (w1.alloc (.cells #[.slice a1 n c1] 29)).heap.size := by simp
        have HSZ := Hid.mk' hsz
        clear hb hown hout HL hrd hsz
        go_wp2_with fail
        refine (polOkI _ _ _ _ p (HP.out.below HB.out)).mono ?_
        rw [hop]
        rintro r w2 ⟨rfl, hb2⟩
        have HB2 := Hid.mk' (bel_next HB.out hb2)
        have HRD2 := Hid.mk' (HRD.out.below hb2)
        have HCL2 := Hid.mk' ((hb2.cell (p := ⟨w1.heap.size, 0, none⟩) HSZ.out).trans HCL.out)
        have hsz2 : w1.heap.size < w2.heap.size := Nat.lt_of_lt_of_le HSZ.out hb2.size
        have HC := Hid.mk' (hasI w2 pa np pc p 57 #[.pointer (some ⟨w1.heap.size, 0, none⟩)] (fun t => decide (0 ≤ idxF (fun s => M.dvd s.m t.m) (lf (ldsL o ln f n)) n)) (fun W => Rd W a1 n c1 (lf (ldsL o ln f n)) ∧ W.cell? ⟨w1.heap.size, 0, none⟩ = some (.slice a1 n c1)) (enters_of Try.func57 (by kernel_rfl) rfl) (fun k W hk hQ => free1 (p k) a1 n c1 (lf (ldsL o ln f n)) _ W hQ.1 hQ.2) (fun W' hb => ⟨HRD2.out.below hb, (hb.cell (p := ⟨w1.heap.size, 0, none⟩) hsz2).trans HCL2.out⟩) (HP.out.below HB2.out))
        clear hb2 hsz2 HRD HCL HRD2 HCL2 HSZ HB
        go_wp2_with fail
        refine HC.out.mono ?_
        rw [HV.out]
        rintro r w3 ⟨rfl, hb3⟩
        have HB3 := Hid.mk' (bel_next HB2.out hb3)
        clear hb3 HC HV
        cases bv
        · go_wp2
          go_ret
          exact ⟨rfl, HB3.out⟩
        · go_wp2
          go_ret
          exact ⟨rfl, HB3.out⟩
  · have e : redFree o np p n ln f = false := decide_eq_false (fun hh => ho hh.1)
    have hout : o < 1 ∨ 3 < o := by omega
    rw [e]
    clear ho e
    go_enter Try.func21, Try.ntmps21
    go_wp2_with fail
    refine (redLeadsI_out _ _ _ _ _ hout).mono ?_
    rintro r w1 ⟨rfl, hb⟩
    have HB := Hid.mk' (bel_next hb (bel_one w1 (.cells #[.slice none 0 0] 29)))
    clear hb hout
    go_wp2
    go_ret
    exact ⟨rfl, HB.out⟩
end Go.Proofs.Ytbkighpmkadmmaa
namespace Go.Proofs.Ytbkighpmkadmmaa
open Go.RowKit Go.Deep Go.Joins
set_option linter.unusedVariables false

def Red3 (w : World) (n : Nat) (R : Option Dv) (e : Ending) (w' : World) : Prop := ∃ qa qc ad cp la lc, e = .returned (.tuple #[.slice qa (resN n R) qc, .slice la (resL R).length lc, .bool R.isSome]) ∧ Below w.heap.size w w' ∧ RdS w' qa (resN n R) qc ad (lN (resQ R)) cp (fN (resQ R)) ∧ RL w' la lc (resL R)
theorem redS_L {w : World} {o : Int} {pa : Option Addr} {pc : Nat} {p : List T} {a : Option Addr} {n cap : Nat} {ad : Nat → Option Addr} {cp : Nat → Nat} {L : Nat → List T} (hp : RL w pa pc p) (h : RdS w a n cap ad (lN L) cp (fN L)) {R : Option Dv} (hR : redAll o p n (lN L) (fN L) = R) : Calls Try.prog 55 #[.int .i64 o, .slice pa p.length pc, .slice a n cap] w (Red3 w n R) :=
  (redAllS w o pa pc p a n cap ad (lN L) cp (fN L) hp h hR).mono fun e w' ⟨qa, qc, ad, cp, la, lc, he, hb, h1, h2⟩ => ⟨qa, qc, ad, cp, la, lc, he, hb, h1, h2⟩
theorem redS_yes {w : World} {o : Int} {pa : Option Addr} {pc : Nat} {p : List T} {a : Option Addr} {n cap : Nat} {ad : Nat → Option Addr} {cp : Nat → Nat} {L : Nat → List T} (hp : RL w pa pc p) (h : RdS w a n cap ad (lN L) cp (fN L)) {S : Dv} (hR : redAll o p n (lN L) (fN L) = some S) : Calls Try.prog 55 #[.int .i64 o, .slice pa p.length pc, .slice a n cap] w fun e w' => ∃ qa qc ad cp la lc, e = .returned (.tuple #[.slice qa n qc, .slice la S.r.length lc, .bool true]) ∧ Below w.heap.size w w' ∧ RdS w' qa n qc ad (lN S.q) cp (fN S.q) ∧ RL w' la lc S.r := redS_L hp h hR
theorem redS_no {w : World} {o : Int} {pa : Option Addr} {pc : Nat} {p : List T} {a : Option Addr} {n cap : Nat} {ad : Nat → Option Addr} {cp : Nat → Nat} {L : Nat → List T} (hp : RL w pa pc p) (h : RdS w a n cap ad (lN L) cp (fN L)) (hR : redAll o p n (lN L) (fN L) = none) : Calls Try.prog 55 #[.int .i64 o, .slice pa p.length pc, .slice a n cap] w fun e w' => ∃ qa qc ad cp la lc, e = .returned (.tuple #[.slice qa 0 qc, .slice la 0 lc, .bool false]) ∧ Below w.heap.size w w' ∧ RdS w' qa 0 qc ad (lN (fun _ => [])) cp (fN (fun _ => [])) ∧ RL w' la lc [] := redS_L hp h hR
theorem sumI_L {w : World} {a1 : Option Addr} {n1 c1 : Nat} {ad1 : Nat → Option Addr} {ln1 cp1 : Nat → Nat} {f1 : Nat → Nat → T} (h1 : RdS w a1 n1 c1 ad1 ln1 cp1 f1) {a2 : Option Addr} {n2 c2 : Nat} {ad2 : Nat → Option Addr} {ln2 cp2 : Nat → Nat} {f2 : Nat → Nat → T} (h2 : RdS w a2 n2 c2 ad2 ln2 cp2 f2) : Calls Try.prog 27 #[.slice a1 n1 c1, .slice a2 n2 c2] w (Two2 w (redSum n1 ln1 f1 n2 ln2 f2)) :=
  (redSumI w a1 n1 c1 ad1 ln1 cp1 f1 h1 a2 n2 c2 ad2 ln2 cp2 f2 h2).mono fun _ _ h => two_out h
theorem freeI_S (o : Int) {w : World} {pa : Option Addr} {pc : Nat} {p : List T} (hp : RL w pa pc p) {a : Option Addr} {n cap : Nat} {ad : Nat → Option Addr} {ln cp : Nat → Nat} {f : Nat → Nat → T} (h : RdS w a n cap ad ln cp f) : Calls Try.prog 21 #[.int .i64 o, .slice pa p.length pc, .slice a n cap] w (Val w (.bool (redFree o p.length (lf p) n ln f))) := redFreeI w o pa p.length pc (lf p) hp a n cap ad ln cp f h
def RedD (w : World) (e : Ending) (w' : World) : Prop := ∃ (o : Int) (pa : Option Addr) (pc : Nat) (p : List T) (a : Option Addr) (n c : Nat) (ad : Nat → Option Addr) (cp : Nat → Nat) (L : Nat → List T), e = .returned (.tuple #[.int .i64 o, .slice pa p.length pc, .slice a n c]) ∧ RL w' pa pc p ∧ RdS w' a n c ad (lN L) cp (fN L) ∧ p.length ≤ 5 ∧ n ≤ 5 ∧ Below w.heap.size w w'
theorem RedD.mk {w w' : World} {o : Int} {pa : Option Addr} {n pc : Nat} {f : Nat → T} {a : Option Addr} {m c : Nat} {ad : Nat → Option Addr} {ln cp : Nat → Nat} {g : Nat → Nat → T} (h1 : Rd w' pa n pc f) (h2 : RdS w' a m c ad ln cp g) (h3 : n ≤ 5) (h4 : m ≤ 5) (hb : Below w.heap.size w w') : RedD w (.returned (.tuple #[.int .i64 o, .slice pa n pc, .slice a m c])) w' := by
  obtain ⟨p, rfl, hp⟩ := list_of h1
  obtain ⟨L, rfl, hL⟩ := rds_lists h2
  exact ⟨o, pa, pc, p, a, m, c, ad, cp, L, rfl, hp, hL, h3, h4, hb⟩
end Go.Proofs.Ytbkighpmkadmmaa
namespace Go.Proofs.Ytbkighpmkadmmaa
open Go.RowKit Go.Deep Go.Joins
set_option linter.unusedVariables false

theorem fr_beside {B : Nat} {w w' : World} (h : Beside B w w') : Fr (fun k => k = B) w w' := ⟨h.os, h.tape, h.output, h.size, fun k hk hn => h.block k hk hn⟩
theorem RSo.beside {B : Nat} {w w' : World} {a : Option Addr} {g c : Nat} {ad : Nat → Option Addr} {cp : Nat → Nat} {Q : Nat → List T} (h : RSo (fun b => b ≠ B) w a g c ad cp Q) (hb : Beside B w w') : RSo (fun b => b ≠ B) w' a g c ad cp Q := h.fr (fr_beside hb) (fun b hn e => hn e)
theorem RSo.below {N : Nat → Prop} {w w' : World} {a : Option Addr} {g c : Nat} {ad : Nat → Option Addr} {cp : Nat → Nat} {Q : Nat → List T} (h : RSo N w a g c ad cp Q) (hb : Below w.heap.size w w') : RSo N w' a g c ad cp Q := h.fr (P := fun _ => False) (Fr.of_below hb) (fun _ _ q => q)
/-- a drawn list lies apart from the reader. -/
theorem rso_list {w : World} {B lo lo' : Nat} {g' : Option Nat} {v : Value} {LS : List Value} (h : w.ownsRow lo 29 1 v LS.length LS) (hE : ∀ e ∈ LS, El w lo' g' e) (hl : LS.length ≤ 100) (h1 : B < lo) (h2 : B < lo') : ∃ a c ad cp L, v = .slice a LS.length c ∧ RSo (fun b => b ≠ B) w a LS.length c ad cp L := by
  have each : ∀ i, i < LS.length → ∃ t : (Option Addr × Nat) × List T, LS[i]? = some (.slice t.1.1 t.2.length t.1.2) ∧ RL w t.1.1 t.1.2 t.2 ∧ (t.2.length = 0 ∨ ∀ b off, t.1.1 = some ⟨b, off, none⟩ → b ≠ B) := fun i hi => by
    obtain ⟨a, n, c, f, e, hr, _, hb⟩ := hE (LS[i]) (List.getElem_mem hi)
    obtain ⟨X, rfl, hX⟩ := list_of hr
    exact ⟨((a, c), X), by rw [List.getElem?_eq_getElem hi, e], hX, hb.imp id (fun ⟨b, off, e1, hlo, _⟩ b' off' e2 => by rw [e1] at e2; cases e2; omega)⟩
  haveI : Inhabited ((Option Addr × Nat) × List T) := ⟨((none, 0), [])⟩
  obtain ⟨q, hq⟩ := choose_lt each
  rcases h.2 with ⟨hv, h0⟩ | ⟨b, cap, cur, hv, hlo, hg, hnc, _⟩
  · exact ⟨none, 0, fun i => (q i).1.1, fun i => (q i).1.2, fun i => (q i).2, by rw [hv, h0], ⟨by omega, by omega, .inl h0, fun i hi => (hq i hi).2.1⟩, .inl h0, fun i hi => (hq i hi).2.2⟩
  · have hr := h
    rw [hv] at hr
    refine ⟨some ⟨b, 0, none⟩, cap, fun i => (q i).1.1, fun i => (q i).1.2, fun i => (q i).2, hv, ⟨hnc, by omega, .inr ⟨b, 0, rfl, (hr.lt b rfl).2, fun i hi => ?_⟩, fun i hi => (hq i hi).2.1⟩, .inr (fun b' off' e => ?_), fun i hi => (hq i hi).2.2⟩
    · rw [Nat.zero_add, hr.cellAt i (by omega), (hq i hi).1]
    · cases e; omega
/-- so does the list of a basis that was made behind it. -/
theorem rso_base {Y : Nat → Prop} {w : World} {lo : Nat} {tvL tvP : Value} {g nL : Nat} {L : Nat → List T} {nP : Nat} {Q : Nat → Nat → List T} {LS PS : List Value} (h : BsW Y w lo tvL tvP g nL L nP Q LS PS) (hn : nL ≤ 100) {B : Nat} (hB : Y B) : ∃ a c ad cp, tvL = .slice a nL c ∧ RSo (fun b => b ≠ B) w a nL c ad cp L := by
  have each : ∀ i, i < nL → ∃ t : Option Addr × Nat, LS[i]? = some (.slice t.1 (L i).length t.2) ∧ RLo (NB Y tvL tvP) w t.1 t.2 (L i) := fun i hi => by
    obtain ⟨a, c, e, hr⟩ := h.eL i hi
    exact ⟨(a, c), e, hr⟩
  haveI : Inhabited (Option Addr × Nat) := ⟨(none, 0)⟩
  obtain ⟨q, hq⟩ := choose_lt each
  have el : ∀ i, i < nL → (L i).length = 0 ∨ ∀ b off, (q i).1 = some ⟨b, off, none⟩ → b ≠ B := fun i hi => ((hq i hi).2.2).imp id (fun k b off e q' => (k b off e).2.2 (by rw [q']; exact hB))
  rcases h.rL.2 with ⟨hv, h0⟩ | ⟨b, cap, cur, hv, hlo, hg, hnc, _⟩
  · exact ⟨none, 0, fun i => (q i).1, fun i => (q i).2, by rw [hv, h0], ⟨by omega, by omega, .inl h0, fun i hi => (hq i hi).2.1⟩, .inl h0, el⟩
  · have hr := h.rL
    rw [hv] at hr
    refine ⟨some ⟨b, 0, none⟩, cap, fun i => (q i).1, fun i => (q i).2, hv, ⟨hnc, by omega, .inr ⟨b, 0, rfl, (hr.lt b rfl).2, fun i hi => ?_⟩, fun i hi => (hq i hi).2.1⟩, .inr (fun b' off' e q' => ?_), el⟩
    · rw [Nat.zero_add, hr.cellAt i (by omega), (hq i hi).1]
    · cases e
      exact (h.nL b (by rw [hv]; rfl)).2 (by rw [q']; exact hB)
def BaseP (w : World) (B p : Nat) (e : Ending) (w' : World) : Prop := ∃ (o : Int) (a : Option Addr) (n c : Nat) (ad : Nat → Option Addr) (cp : Nat → Nat) (L : Nat → List T) (q : Nat), e = .returned (.tuple #[.int .i64 o, .slice a n c]) ∧ RSo (fun b => b ≠ B) w' a n c ad cp L ∧ n ≤ 12 ∧ q ≤ p + 1010 ∧ Rdr w' B q ∧ Beside B w w'
theorem grbMake_m {o : Int} {n : Nat} {L : Nat → List T} {fuel : Int} : (grbMake o n L fuel).1.m ≤ 12 := by
  obtain ⟨B, d, h⟩ : ∃ B d, grbMake o n L fuel = (B, d) := ⟨_, _, rfl⟩
  rw [h]
  rcases grbMake_mk h with ⟨h0, _⟩ | ⟨_, j, hm, _⟩
  · show B.m ≤ 12; omega
  · exact (lstOk_all hm.ok.l).1
set_option maxRecDepth 100000 in
set_option maxHeartbeats 4000000 in
theorem base_any (w : World) (B p : Nat) (h : Rdr w B p) (hp : p ≤ 700) :
    Calls Try.prog 47 #[.pointer (some ⟨B, 0, none⟩)] w (BaseP w B p) := by
  have hB := h.lt
  go_enter Try.func47, Try.ntmps47
  go_wp2_with fail
  refine (order_any w _ _ h (by omega)).mono ?_
  rintro e w2 ⟨o, rfl, hR2, s2⟩
  have hs2 := s2.size
  have HS2 := Hid.mk' s2
  clear h s2
  go_wp2_with fail
  refine (list_any w2 _ _ 2 24 hR2 (by omega) (by omega) (by omega) (by omega) (by omega)).mono ?_
  rintro e w4 ⟨v, LS, q', rfl, ho, hlen, hE, hq', hR4, s4⟩
  obtain ⟨aa, ca, ada, cpa, L, rfl, hra⟩ := rso_list (B := B) ho hE (by omega) (by omega) (by omega)
  have hs4 := s4.size
  have HS4 := Hid.mk' (HS2.out.trans s4)
  have HRA := Hid.mk' hra
  have HR4 := Hid.mk' hR4
  clear hR2 hR4 s4 hra ho hE HS2
  go_wp2_with fail
  refine (grbMakeS w4 o aa LS.length ca ada cpa L HRA.out.1 60).mono ?_
  have hm12 := grbMake_m (o := o) (n := LS.length) (L := L) (fuel := 60)
  obtain ⟨X, d, hX⟩ : ∃ X d, grbMake o LS.length L 60 = (X, d) := ⟨_, _, rfl⟩
  rw [hX] at hm12 ⊢
  rintro e w5 ⟨tvL, tvP, LS5, PS5, rfl, hb5, hk5⟩
  have hm12' : X.m ≤ 12 := hm12
  obtain ⟨la, lc, lad, lcp, rfl, hrl⟩ := rso_base hk5 (show X.m ≤ 100 by omega) (B := B) (show B < w4.heap.size by omega)
  obtain ⟨pa, pc, pA, pC, pAD, pCP, rfl, _⟩ := hk5.readP (show X.m ≤ 100 by omega)
  have hs5 := hb5.size
  have HRA5 := Hid.mk' (HRA.out.below hb5)
  have HRL5 := Hid.mk' hrl
  have HR5 := Hid.mk' (HR4.out.grown (below_grown hb5 none) (fun _ e => by cases e))
  have HS5 : Hid (Beside B w w5) := HS4.out.trans ⟨hb5.os, hb5.tape, hb5.output, hb5.size, fun k hk _ => hb5.block k hk⟩
  have hBw : B < w5.heap.size := by omega
  clear HRA HR4 HS4 hb5 hk5 hrl hX hm12
  -- the basis's box
  have bx := bel_one w5 (.cells #[.slice la X.m lc, .slice pa X.m pc, .bool d] 71)
  have HX6 := Hid.mk' (Own3.box w5 71 (.slice la X.m lc) (.slice pa X.m pc) (.bool d))
  have HR6 := Hid.mk' (HR5.out.alloc (.cells #[.slice la X.m lc, .slice pa X.m pc, .bool d] 71))
  have HRA6 := Hid.mk' (HRA5.out.below bx)
  have HRL6 := Hid.mk' (HRL5.out.below bx)
  have HS6 := Hid.mk' (HS5.out.alloc (.cells #[.slice la X.m lc, .slice pa X.m pc, .bool d] 71))
  clear HRA5 HRL5 HR5 HS5 bx
  go_wp2_with fail
  refine (pick_any _ B _ 3 HR6.out (by omega) (by omega) (by omega)).mono ?_
  rintro e w7 ⟨x, rfl, hx0, hx3, hp7⟩
  have s7 := hp7.beside
  have HR7 := Hid.mk' (hp7.rdr HR6.out)
  have HRA7 := Hid.mk' (HRA6.out.beside s7)
  have HRL7 := Hid.mk' (HRL6.out.beside s7)
  have HS7 := Hid.mk' (HS6.out.trans s7)
  obtain ⟨⟨c0, c1, c2⟩, cz⟩ := HX6.out.fr (fr_beside s7) (by omega)
  clear hp7 s7 HRA6 HRL6 HR6 HS6 HX6
  by_cases hx : 0 < x
  · cases d
    · go_wp2
      refine bodyPost_ret (v := .tuple #[.int .i64 o, .slice aa LS.length ca]) (by simp [results, Try.results47, go_sem, *]) rfl ?_
      exact ⟨o, aa, LS.length, ca, ada, cpa, L, _, rfl, HRA7.out, by omega, by omega, HR7.out, HS7.out⟩
    · go_wp2_with fail
      have hS : w7.drew.cell? ⟨w5.heap.size, 0, none⟩ = some (.slice la X.m lc) := c0
      go_region_held3 (fun u => u.cell? ⟨w5.heap.size, 0, none⟩ = some (.slice la X.m lc)) (with_reducible exact hS) (fail)
      go_wp2
      refine bodyPost_ret (v := .tuple #[.int .i64 o, .slice la X.m lc]) (by simp [results, Try.results47, go_sem, *]) rfl ?_
      exact ⟨o, la, X.m, lc, lad, lcp, X.L, _, rfl, HRL7.out.below (Below.refl _ _).drew, hm12', by omega, HR7.out.drewN 1, HS7.out.drew⟩
  · go_wp2
    refine bodyPost_ret (v := .tuple #[.int .i64 o, .slice aa LS.length ca]) (by simp [results, Try.results47, go_sem, *]) rfl ?_
    exact ⟨o, aa, LS.length, ca, ada, cpa, L, _, rfl, HRA7.out, by omega, by omega, HR7.out, HS7.out⟩
end Go.Proofs.Ytbkighpmkadmmaa
