/-
  An answer that is a list of operators: its memory is its own; it is marked, and the marks are held.
-/
import Derived.Test.YtkoaiogakkldgaaGreatGbe
namespace Go.Proofs.YtkoaiogakkldgaaGreat
open Go.RowKit Go.Deep Go.Joins
set_option linter.unusedVariables false

/-- an answer of operators: row block R, the operators' blocks B, all from lo on and apart. -/
structure OutS (lo : Nat) (w : World) (a : Option Addr) (n cap : Nat) (ad : Nat → Option Addr) (ln cp : Nat → Nat) (f : Nat → Nat → T) (R : Nat) (B : Nat → Nat) : Prop where
  rd : RdS w a n cap ad ln cp f
  row : n = 0 ∨ ∃ off, a = some ⟨R, off, none⟩ ∧ lo ≤ R
  wr : ∀ i, i < n → Wr w (ad i) (ln i) (f i)
  el : ∀ i, i < n → ln i = 0 ∨ ∃ off, ad i = some ⟨B i, off, none⟩ ∧ lo ≤ B i ∧ B i ≠ R
  ap : ∀ i j, i < j → j < n → ln i ≠ 0 → ln j ≠ 0 → B i ≠ B j
/-- no block was changed but those of P. -/
structure Only (P : Nat → Prop) (w w' : World) : Prop where
  os : w'.os = w.os
  tape : w'.tape = w.tape
  output : w'.output = w.output
  size : w'.heap.size = w.heap.size
  block : ∀ k, k < w.heap.size → ¬ P k → w'.heap[k]? = w.heap[k]?
theorem Only.refl (P : Nat → Prop) (w : World) : Only P w w := ⟨rfl, rfl, rfl, rfl, fun _ _ _ => rfl⟩
theorem Only.grown {P : Nat → Prop} {w w' w'' : World} {g : Nat} (h : Only P w w') (hg : w'.grownBy w'' (some g)) (hs : w''.heap.size = w'.heap.size) (h1 : P g) : Only P w w'' :=
  ⟨hg.os.trans h.os, hg.tape.trans h.tape, hg.output.trans h.output, hs.trans h.size, fun k hk hc => (hg.block k (by rw [h.size]; exact hk) (fun e => by cases e; exact hc h1)).trans (h.block k hk hc)⟩
theorem Only.cell {P : Nat → Prop} {w w' : World} (h : Only P w w') {b o : Nat} (hb : b < w.heap.size) (hp : ¬ P b) : w'.cell? ⟨b, o, none⟩ = w.cell? ⟨b, o, none⟩ :=
  World.cell?_of_block (w := w) (a := ⟨b, o, none⟩) (h.block b hb hp)
theorem Only.rd {P : Nat → Prop} {w w' : World} (h : Only P w w') {a : Option Addr} {n cap : Nat} {f : Nat → T} (hr : Rd w a n cap f) (hp : n = 0 ∨ ∀ b off, a = some ⟨b, off, none⟩ → ¬ P b) : Rd w' a n cap f := by
  obtain ⟨h1, h2, h3⟩ := hr
  refine ⟨h1, h2, ?_⟩
  rcases h3 with h0 | ⟨b, off, he, hlt, hc⟩
  · exact .inl h0
  · rcases hp with h0 | hp
    · exact .inl h0
    · refine .inr ⟨b, off, he, by rw [h.size]; exact hlt, fun i hi => ?_⟩
      have hn := hp b off he
      obtain ⟨c0, c1, c2, c3, c4⟩ := hc i hi
      exact ⟨(h.cell hlt hn).trans c0, (h.cell hlt hn).trans c1, (h.cell hlt hn).trans c2, (h.cell hlt hn).trans c3, (h.cell hlt hn).trans c4⟩
theorem Only.wr {P : Nat → Prop} {w w' : World} (h : Only P w w') {a : Option Addr} {n : Nat} {f : Nat → T} (hr : Wr w a n f) (hp : n = 0 ∨ ∀ b off, a = some ⟨b, off, none⟩ → ¬ P b) : Wr w' a n f := by
  rcases hr with h0 | ⟨g, off, N, F, he, hrow, hle, hF⟩
  · exact .inl h0
  · rcases hp with h0 | hp
    · exact .inl h0
    · exact .inr ⟨g, off, N, F, he, hrow.of_block (h.block g hrow.lt (hp g off he)), hle, hF⟩
theorem Only.below {P : Nat → Prop} {lo : Nat} {u w w' : World} (hb : Below lo u w) (h : Only P w w') (hp : ∀ k, P k → lo ≤ k) (hlo : lo ≤ u.heap.size) : Below lo u w' :=
  ⟨h.os.trans hb.os, h.tape.trans hb.tape, h.output.trans hb.output, by rw [h.size]; exact hb.size, fun k hk => (h.block k (Nat.lt_of_lt_of_le hk (Nat.le_trans hlo hb.size)) (fun e => by have := hp k e; omega)).trans (hb.block k hk)⟩
/-- the first mark of each. -/
def ksum (k : Int) (ln : Nat → Nat) : Nat → Int
  | 0 => k
  | i + 1 => ksum k ln i + 5 * (ln i)
theorem ksum_bd {k : Int} {ln : Nat → Nat} {n : Nat} (hl : ∀ i, i < n → ln i ≤ 1048576) : ∀ i, i ≤ n → k ≤ ksum k ln i ∧ ksum k ln i ≤ k + 5242880 * i
  | 0, _ => ⟨Int.le_refl _, by show k ≤ k + 5242880 * ((0 : Nat) : Int); omega⟩
  | i + 1, h => by
    have h1 := ksum_bd (k := k) hl i (by omega)
    have h2 := hl i (by omega)
    show k ≤ ksum k ln i + 5 * (ln i) ∧ ksum k ln i + 5 * (ln i) ≤ k + 5242880 * ((i + 1 : Nat) : Int)
    omega
set_option maxRecDepth 100000 in
set_option maxHeartbeats 4000000 in
theorem markListsO (lo : Nat) (w : World) (a : Option Addr) (n cap : Nat) (ad : Nat → Option Addr) (ln cp : Nat → Nat) (f : Nat → Nat → T) (R : Nat) (B : Nat → Nat) (k : Int) (h : OutS lo w a n cap ad ln cp f R B) (hn : n ≤ 1048576) (hl : ∀ i, i < n → ln i ≤ 1048576) (hk0 : 0 ≤ k) (hk1 : k ≤ 10000000000000) :
    Calls Tryz.prog 14 #[.slice a n cap, .int .i64 k] w fun r w' => r = .returned (.int .i64 (ksum k ln n)) ∧ Only (fun b => ∃ i, i < n ∧ ln i ≠ 0 ∧ B i = b) w w' ∧ RdS w' a n cap ad ln cp (fun i => mk (ksum k ln i)) := by
  have hn' : (n : Int) ≤ 1048576 := by omega
  have HH := Hid.mk' h
  have HL := Hid.mk' hl
  have HK := Hid.mk' (ksum_bd (k := k) hl)
  clear h hl
  go_enter Tryz.func14, Tryz.ntmps14
  go_wp2
  go_loopw [1, 5] (fun kk ii wr => ∃ i : Nat, i ≤ n ∧ ii = .int .i64 (i : Int) ∧ kk = .int .i64 (ksum k ln i) ∧ Only (fun b => ∃ i, i < n ∧ ln i ≠ 0 ∧ B i = b) w wr ∧ (∀ j, i ≤ j → j < n → Wr wr (ad j) (ln j) (f j)) ∧ (∀ j, j < i → Rd wr (ad j) (ln j) (cp j) (mk (ksum k ln j)))) (fun _ ii _ => n - (intOf ii).toNat)
  case atStart => exact ⟨0, Nat.zero_le _, rfl, rfl, Only.refl _ _, fun j _ hj => HH.out.wr j hj, fun j hj => by omega⟩
  case round =>
    obtain ⟨i, hi, rfl, rfl, hA, hW, hM⟩ := hrel
    have HA := Hid.mk' hA
    have HW := Hid.mk' hW
    have HM := Hid.mk' hM
    clear hW hM
    obtain ⟨z0, z1⟩ := HK.out i hi
    by_cases hlt : i < n
    · have hil : (i : Int) < (n : Int) := by omega
      rcases HH.out.rd.2.2.1 with h0 | ⟨b, off, rfl, hblt, hcl⟩
      · omega
      have hbR : b = R := by
        rcases HH.out.row with h0 | ⟨off', e, _⟩
        · omega
        · simpa using congrArg (fun x : Option Addr => x.map (·.block)) e
      have hnp : ¬ (fun b => ∃ i, i < n ∧ ln i ≠ 0 ∧ B i = b) b := fun ⟨j, hj, h0, e⟩ => by
        rcases HH.out.el j hj with h1 | ⟨_, _, _, h2⟩
        · exact h0 h1
        · exact h2 (e.trans hbR)
      have g0 : wr.cell? ⟨b, off + i, none⟩ = some (.slice (ad i) (ln i) (cp i)) := (hA.cell hblt hnp).trans (hcl i hlt)
      have hli := HL.out i hlt
      obtain ⟨y, hy⟩ : ∃ y, ksum k ln i = y := ⟨_, rfl⟩
      rw [hy] at z0 z1
      have hr0 := HH.out.rd.2.2.2 i hlt
      have HMK := Hid.mk' (markTerms wr (ad i) (ln i) (cp i) (f i) y (HW.out i (Nat.le_refl _) hlt) (by omega) (by omega) (by omega))
      have hks : ksum k ln (i + 1) = y + 5 * (ln i) := by show ksum k ln i + 5 * (ln i) = _; rw [hy]
      have HKS := Hid.mk' hks
      have HR0 := Hid.mk' (And.intro hr0.1 hr0.2.1)
      have HY := Hid.mk' hy
      clear hcl hA hr0 hks hy hbR hnp
      rw [HY.out]
      go_wp2_with fail
      refine HMK.out.mono ?_
      rintro r w1 ⟨rfl, hg, hz, hw, hsame⟩
      have HA1 : Hid (Only (fun b => ∃ i, i < n ∧ ln i ≠ 0 ∧ B i = b) w w1) := by
        by_cases h0 : ln i = 0
        · rw [hsame h0]; exact HA.out
        · rcases HH.out.el i hlt with h1 | ⟨o1, e1, _, _⟩
          · exact absurd h1 h0
          · rw [e1] at hg
            exact HA.out.grown hg hz ⟨i, hlt, h0, rfl⟩
      have HW1 : Hid (∀ j, i + 1 ≤ j → j < n → Wr w1 (ad j) (ln j) (f j)) := fun j h1 h2 => by
        by_cases h0 : ln i = 0
        · rw [hsame h0]; exact HW.out j (by omega) h2
        · have hwj := HW.out j (by omega) h2
          by_cases hj0 : ln j = 0
          · exact .inl hj0
          · rcases hwj with h3 | ⟨g, off2, N, F, he, hrow, hle, hF⟩
            · exact absurd h3 hj0
            · refine .inr ⟨g, off2, N, F, he, hrow.of_block (hg.block g hrow.lt ?_), hle, hF⟩
              rcases HH.out.el i hlt with h4 | ⟨o1, e1, _, _⟩
              · exact absurd h4 h0
              · rcases HH.out.el j h2 with h5 | ⟨o2, e2, _, _⟩
                · exact absurd h5 hj0
                · rw [he] at e2
                  have e3 : g = B j := by simpa using congrArg (fun x : Option Addr => x.map (·.block)) e2
                  rw [e1]
                  intro e4
                  have e5 : g = B i := by simpa using e4
                  exact HH.out.ap i j (by omega) h2 h0 hj0 (e5.symm.trans e3)
      have HM1 : Hid (∀ j, j < i + 1 → Rd w1 (ad j) (ln j) (cp j) (mk (ksum k ln j))) := fun j h1 => by
        by_cases e : j = i
        · subst e
          rw [HY.out]
          by_cases h0 : ln j = 0
          · exact ⟨HR0.out.1, HR0.out.2, .inl h0⟩
          · exact hw.rd HR0.out.1 HR0.out.2
        · have hr := HM.out j (by omega)
          by_cases h0 : ln i = 0
          · rw [hsame h0]; exact hr
          · refine hr.grown hg ?_
            by_cases hj0 : ln j = 0
            · exact .inl hj0
            · refine .inr fun b' off' eb => ?_
              rcases HH.out.el i hlt with h4 | ⟨o1, e1, _, _⟩
              · exact absurd h4 h0
              · rcases HH.out.el j (by omega) with h5 | ⟨o2, e2, _, _⟩
                · exact absurd h5 hj0
                · rw [eb] at e2
                  have e3 : b' = B j := by simpa using congrArg (fun x : Option Addr => x.map (·.block)) e2
                  rw [e1]
                  intro e4
                  have e5 : b' = B i := by simpa using e4
                  exact HH.out.ap j i (by omega) hlt hj0 h0 (e3.symm.trans e5)
      clear hg hz hw hsame HMK g0
      go_wp2
      go_roundw
      case rel => exact ⟨i + 1, by omega, by go_num, by rw [HKS.out], HA1.out, HW1.out, HM1.out⟩
      case measure => simp [intOf]; omega
    · have hnl : ¬ (i : Int) < (n : Int) := by omega
      have hie : i = n := by omega
      subst hie
      have HRR : Hid (RdS wr a i cap ad ln cp (fun i => mk (ksum k ln i))) := by
        refine ⟨HH.out.rd.1, HH.out.rd.2.1, ?_, fun j hj => HM.out j hj⟩
        rcases HH.out.rd.2.2.1 with h0 | ⟨b, off, e, hblt, hcl⟩
        · exact .inl h0
        · refine .inr ⟨b, off, e, by rw [HA.out.size]; exact hblt, fun j hj => (HA.out.cell hblt ?_).trans (hcl j hj)⟩
          rintro ⟨j', hj', h0, e'⟩
          rcases HH.out.row with h1 | ⟨off', e2, _⟩
          · omega
          · rw [e] at e2
            have hbR : b = R := by simpa using congrArg (fun x : Option Addr => x.map (·.block)) e2
            rcases HH.out.el j' hj' with h1 | ⟨_, _, _, h2⟩
            · exact h0 h1
            · exact h2 (e'.trans hbR)
      go_wp2
      go_ret
      exact ⟨rfl, HA.out, HRR.out⟩
set_option maxRecDepth 100000 in
set_option maxHeartbeats 4000000 in
theorem heldLists (w : World) (a : Option Addr) (n cap : Nat) (ad : Nat → Option Addr) (ln cp : Nat → Nat) (k : Int) (h : RdS w a n cap ad ln cp (fun i => mk (ksum k ln i))) (hn : n ≤ 1048576) (hl : ∀ i, i < n → ln i ≤ 1048576) (hk0 : 0 ≤ k) (hk1 : k ≤ 10000000000000) :
    Calls Tryz.prog 15 #[.slice a n cap, .int .i64 k] w fun r w' => r = .returned (.int .i64 (ksum k ln n)) ∧ w' = w := by
  have hn' : (n : Int) ≤ 1048576 := by omega
  have HH := Hid.mk' h
  have HL := Hid.mk' hl
  have HK := Hid.mk' (ksum_bd (k := k) hl)
  clear h hl
  go_enter Tryz.func15, Tryz.ntmps15
  go_wp2
  go_loopw [1, 5] (fun kk ii wr => ∃ i : Nat, i ≤ n ∧ ii = .int .i64 (i : Int) ∧ kk = .int .i64 (ksum k ln i) ∧ wr = w) (fun _ ii _ => n - (intOf ii).toNat)
  case atStart => exact ⟨0, Nat.zero_le _, rfl, rfl, rfl⟩
  case round =>
    obtain ⟨i, hi, rfl, rfl, rfl⟩ := hrel
    obtain ⟨z0, z1⟩ := HK.out i hi
    by_cases hlt : i < n
    · have hil : (i : Int) < (n : Int) := by omega
      rcases HH.out.2.2.1 with h0 | ⟨b, off, rfl, hblt, hcl⟩
      · omega
      have g0 := hcl i hlt
      have hli := HL.out i hlt
      obtain ⟨y, hy⟩ : ∃ y, ksum k ln i = y := ⟨_, rfl⟩
      rw [hy] at z0 z1
      have hr0 := HH.out.2.2.2 i hlt
      rw [show (fun i => mk (ksum k ln i)) i = mk y by rw [← hy]] at hr0
      have HMK := Hid.mk' (heldTerms _ (ad i) (ln i) (cp i) y hr0 (by omega) (by omega))
      have hks : ksum k ln (i + 1) = y + 5 * (ln i) := by show ksum k ln i + 5 * (ln i) = _; rw [hy]
      have HKS := Hid.mk' hks
      have hng : ¬ (y + 5 * (ln i : Int)) < 0 := by omega
      have hng' : decide ((y + 5 * (ln i : Int)) < 0) = false := decide_eq_false hng
      have HY := Hid.mk' hy
      clear hcl hr0 hks hy
      rw [HY.out]
      go_wp2_with fail
      refine HMK.out.mono ?_
      rintro r w1 ⟨rfl, hw⟩
      obtain rfl := hw.symm
      clear hw HMK g0
      go_wp2
      go_roundw
      case rel => exact ⟨i + 1, by omega, by go_num, by rw [HKS.out], by first | rfl | trivial⟩
      case measure => simp [intOf]; omega
    · have hnl : ¬ (i : Int) < (n : Int) := by omega
      have hie : i = n := by omega
      subst hie
      go_wp2
      go_ret
      exact ⟨rfl, rfl⟩
end Go.Proofs.YtkoaiogakkldgaaGreat
