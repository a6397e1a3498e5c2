/-
  An answer that is a list of operators: its memory is its own; it is marked, and the marks are held.
  An answer of operators under way: each in memory of its own.
  A division's answer.
-/
import Derived.Test.YtehlfifplhnceaaGreatGbe
import Derived.Test.YtehlfifplhnceaaGreatGaf
import Derived.Test.YtehlfifplhnceaaGreatGbh
namespace Go.Proofs.YtehlfifplhnceaaGreat
open Go.RowKit Go.Deep Go.Joins
set_option linter.unusedVariables false

/-- an answer of operators: row block R, the operators' blocks B, all from lo on and apart. -/
structure OutS (lo : Nat) (w : World) (a : Option Addr) (n cap : Nat) (ad : Nat → Option Addr) (ln cp : Nat → Nat) (f : Nat → Nat → T) (R : Nat) (B : Nat → Nat) : Prop where
  rd : RdS w a n cap ad ln cp f
  row : n = 0 ∨ ∃ off, a = some ⟨R, off, none⟩ ∧ lo ≤ R
  wr : ∀ i, i < n → Wr w (ad i) (ln i) (f i)
  el : ∀ i, i < n → ln i = 0 ∨ ∃ off, ad i = some ⟨B i, off, none⟩ ∧ lo ≤ B i ∧ B i ≠ R
  ap : ∀ i j, i < j → j < n → ln i ≠ 0 → ln j ≠ 0 → B i ≠ B j
/-- no block was changed but those of P. -/
structure Only (P : Nat → Prop) (w w' : World) : Prop where
  os : w'.os = w.os
  tape : w'.tape = w.tape
  output : w'.output = w.output
  size : w'.heap.size = w.heap.size
  block : ∀ k, k < w.heap.size → ¬ P k → w'.heap[k]? = w.heap[k]?
theorem Only.refl (P : Nat → Prop) (w : World) : Only P w w := ⟨rfl, rfl, rfl, rfl, fun _ _ _ => rfl⟩
theorem Only.grown {P : Nat → Prop} {w w' w'' : World} {g : Nat} (h : Only P w w') (hg : w'.grownBy w'' (some g)) (hs : w''.heap.size = w'.heap.size) (h1 : P g) : Only P w w'' :=
  ⟨hg.os.trans h.os, hg.tape.trans h.tape, hg.output.trans h.output, hs.trans h.size, fun k hk hc => (hg.block k (by rw [h.size]; exact hk) (fun e => by cases e; exact hc h1)).trans (h.block k hk hc)⟩
theorem Only.cell {P : Nat → Prop} {w w' : World} (h : Only P w w') {b o : Nat} (hb : b < w.heap.size) (hp : ¬ P b) : w'.cell? ⟨b, o, none⟩ = w.cell? ⟨b, o, none⟩ :=
  World.cell?_of_block (w := w) (a := ⟨b, o, none⟩) (h.block b hb hp)
theorem Only.rd {P : Nat → Prop} {w w' : World} (h : Only P w w') {a : Option Addr} {n cap : Nat} {f : Nat → T} (hr : Rd w a n cap f) (hp : n = 0 ∨ ∀ b off, a = some ⟨b, off, none⟩ → ¬ P b) : Rd w' a n cap f := by
  obtain ⟨h1, h2, h3⟩ := hr
  refine ⟨h1, h2, ?_⟩
  rcases h3 with h0 | ⟨b, off, he, hlt, hc⟩
  · exact .inl h0
  · rcases hp with h0 | hp
    · exact .inl h0
    · refine .inr ⟨b, off, he, by rw [h.size]; exact hlt, fun i hi => ?_⟩
      have hn := hp b off he
      obtain ⟨c0, c1, c2, c3, c4⟩ := hc i hi
      exact ⟨(h.cell hlt hn).trans c0, (h.cell hlt hn).trans c1, (h.cell hlt hn).trans c2, (h.cell hlt hn).trans c3, (h.cell hlt hn).trans c4⟩
theorem Only.wr {P : Nat → Prop} {w w' : World} (h : Only P w w') {a : Option Addr} {n : Nat} {f : Nat → T} (hr : Wr w a n f) (hp : n = 0 ∨ ∀ b off, a = some ⟨b, off, none⟩ → ¬ P b) : Wr w' a n f := by
  rcases hr with h0 | ⟨g, off, N, F, he, hrow, hle, hF⟩
  · exact .inl h0
  · rcases hp with h0 | hp
    · exact .inl h0
    · exact .inr ⟨g, off, N, F, he, hrow.of_block (h.block g hrow.lt (hp g off he)), hle, hF⟩
theorem Only.below {P : Nat → Prop} {lo : Nat} {u w w' : World} (hb : Below lo u w) (h : Only P w w') (hp : ∀ k, P k → lo ≤ k) (hlo : lo ≤ u.heap.size) : Below lo u w' :=
  ⟨h.os.trans hb.os, h.tape.trans hb.tape, h.output.trans hb.output, by rw [h.size]; exact hb.size, fun k hk => (h.block k (Nat.lt_of_lt_of_le hk (Nat.le_trans hlo hb.size)) (fun e => by have := hp k e; omega)).trans (hb.block k hk)⟩
/-- the first mark of each. -/
def ksum (k : Int) (ln : Nat → Nat) : Nat → Int
  | 0 => k
  | i + 1 => ksum k ln i + 5 * (ln i)
theorem ksum_bd {k : Int} {ln : Nat → Nat} {n : Nat} (hl : ∀ i, i < n → ln i ≤ 1048576) : ∀ i, i ≤ n → k ≤ ksum k ln i ∧ ksum k ln i ≤ k + 5242880 * i
  | 0, _ => ⟨Int.le_refl _, by show k ≤ k + 5242880 * ((0 : Nat) : Int); omega⟩
  | i + 1, h => by
    have h1 := ksum_bd (k := k) hl i (by omega)
    have h2 := hl i (by omega)
    show k ≤ ksum k ln i + 5 * (ln i) ∧ ksum k ln i + 5 * (ln i) ≤ k + 5242880 * ((i + 1 : Nat) : Int)
    omega
set_option maxRecDepth 100000 in
set_option maxHeartbeats 4000000 in
theorem markListsO (lo : Nat) (w : World) (a : Option Addr) (n cap : Nat) (ad : Nat → Option Addr) (ln cp : Nat → Nat) (f : Nat → Nat → T) (R : Nat) (B : Nat → Nat) (k : Int) (h : OutS lo w a n cap ad ln cp f R B) (hn : n ≤ 1048576) (hl : ∀ i, i < n → ln i ≤ 1048576) (hk0 : 0 ≤ k) (hk1 : k ≤ 10000000000000) :
    Calls Tryz.prog 16 #[.slice a n cap, .int .i64 k] w fun r w' => r = .returned (.int .i64 (ksum k ln n)) ∧ Only (fun b => ∃ i, i < n ∧ ln i ≠ 0 ∧ B i = b) w w' ∧ RdS w' a n cap ad ln cp (fun i => mk (ksum k ln i)) := by
  have hn' : (n : Int) ≤ 1048576 := by omega
  have HH := Hid.mk' h
  have HL := Hid.mk' hl
  have HK := Hid.mk' (ksum_bd (k := k) hl)
  clear h hl
  go_enter Tryz.func16, Tryz.ntmps16
  go_wp2
  go_loopw [1, 5] (fun kk ii wr => ∃ i : Nat, i ≤ n ∧ ii = .int .i64 (i : Int) ∧ kk = .int .i64 (ksum k ln i) ∧ Only (fun b => ∃ i, i < n ∧ ln i ≠ 0 ∧ B i = b) w wr ∧ (∀ j, i ≤ j → j < n → Wr wr (ad j) (ln j) (f j)) ∧ (∀ j, j < i → Rd wr (ad j) (ln j) (cp j) (mk (ksum k ln j)))) (fun _ ii _ => n - (intOf ii).toNat)
  case atStart => exact ⟨0, Nat.zero_le _, rfl, rfl, Only.refl _ _, fun j _ hj => HH.out.wr j hj, fun j hj => by omega⟩
  case round =>
    obtain ⟨i, hi, rfl, rfl, hA, hW, hM⟩ := hrel
    have HA := Hid.mk' hA
    have HW := Hid.mk' hW
    have HM := Hid.mk' hM
    clear hW hM
    obtain ⟨z0, z1⟩ := HK.out i hi
    by_cases hlt : i < n
    · have hil : (i : Int) < (n : Int) := by omega
      rcases HH.out.rd.2.2.1 with h0 | ⟨b, off, rfl, hblt, hcl⟩
      · omega
      have hbR : b = R := by
        rcases HH.out.row with h0 | ⟨off', e, _⟩
        · omega
        · simpa using congrArg (fun x : Option Addr => x.map (·.block)) e
      have hnp : ¬ (fun b => ∃ i, i < n ∧ ln i ≠ 0 ∧ B i = b) b := fun ⟨j, hj, h0, e⟩ => by
        rcases HH.out.el j hj with h1 | ⟨_, _, _, h2⟩
        · exact h0 h1
        · exact h2 (e.trans hbR)
      have g0 : wr.cell? ⟨b, off + i, none⟩ = some (.slice (ad i) (ln i) (cp i)) := (hA.cell hblt hnp).trans (hcl i hlt)
      have hli := HL.out i hlt
      obtain ⟨y, hy⟩ : ∃ y, ksum k ln i = y := ⟨_, rfl⟩
      rw [hy] at z0 z1
      have hr0 := HH.out.rd.2.2.2 i hlt
      have HMK := Hid.mk' (markTerms wr (ad i) (ln i) (cp i) (f i) y (HW.out i (Nat.le_refl _) hlt) (by omega) (by omega) (by omega))
      have hks : ksum k ln (i + 1) = y + 5 * (ln i) := by show ksum k ln i + 5 * (ln i) = _; rw [hy]
      have HKS := Hid.mk' hks
      have HR0 := Hid.mk' (And.intro hr0.1 hr0.2.1)
      have HY := Hid.mk' hy
      clear hcl hA hr0 hks hy hbR hnp
      rw [HY.out]
      go_wp2_with fail
      refine HMK.out.mono ?_
      rintro r w1 ⟨rfl, hg, hz, hw, hsame⟩
      have HA1 : Hid (Only (fun b => ∃ i, i < n ∧ ln i ≠ 0 ∧ B i = b) w w1) := by
        by_cases h0 : ln i = 0
        · rw [hsame h0]; exact HA.out
        · rcases HH.out.el i hlt with h1 | ⟨o1, e1, _, _⟩
          · exact absurd h1 h0
          · rw [e1] at hg
            exact HA.out.grown hg hz ⟨i, hlt, h0, rfl⟩
      have HW1 : Hid (∀ j, i + 1 ≤ j → j < n → Wr w1 (ad j) (ln j) (f j)) := fun j h1 h2 => by
        by_cases h0 : ln i = 0
        · rw [hsame h0]; exact HW.out j (by omega) h2
        · have hwj := HW.out j (by omega) h2
          by_cases hj0 : ln j = 0
          · exact .inl hj0
          · rcases hwj with h3 | ⟨g, off2, N, F, he, hrow, hle, hF⟩
            · exact absurd h3 hj0
            · refine .inr ⟨g, off2, N, F, he, hrow.of_block (hg.block g hrow.lt ?_), hle, hF⟩
              rcases HH.out.el i hlt with h4 | ⟨o1, e1, _, _⟩
              · exact absurd h4 h0
              · rcases HH.out.el j h2 with h5 | ⟨o2, e2, _, _⟩
                · exact absurd h5 hj0
                · rw [he] at e2
                  have e3 : g = B j := by simpa using congrArg (fun x : Option Addr => x.map (·.block)) e2
                  rw [e1]
                  intro e4
                  have e5 : g = B i := by simpa using e4
                  exact HH.out.ap i j (by omega) h2 h0 hj0 (e5.symm.trans e3)
      have HM1 : Hid (∀ j, j < i + 1 → Rd w1 (ad j) (ln j) (cp j) (mk (ksum k ln j))) := fun j h1 => by
        by_cases e : j = i
        · subst e
          rw [HY.out]
          by_cases h0 : ln j = 0
          · exact ⟨HR0.out.1, HR0.out.2, .inl h0⟩
          · exact hw.rd HR0.out.1 HR0.out.2
        · have hr := HM.out j (by omega)
          by_cases h0 : ln i = 0
          · rw [hsame h0]; exact hr
          · refine hr.grown hg ?_
            by_cases hj0 : ln j = 0
            · exact .inl hj0
            · refine .inr fun b' off' eb => ?_
              rcases HH.out.el i hlt with h4 | ⟨o1, e1, _, _⟩
              · exact absurd h4 h0
              · rcases HH.out.el j (by omega) with h5 | ⟨o2, e2, _, _⟩
                · exact absurd h5 hj0
                · rw [eb] at e2
                  have e3 : b' = B j := by simpa using congrArg (fun x : Option Addr => x.map (·.block)) e2
                  rw [e1]
                  intro e4
                  have e5 : b' = B i := by simpa using e4
                  exact HH.out.ap j i (by omega) hlt hj0 h0 (e3.symm.trans e5)
      clear hg hz hw hsame HMK g0
      go_wp2
      go_roundw
      case rel => exact ⟨i + 1, by omega, by go_num, by rw [HKS.out], HA1.out, HW1.out, HM1.out⟩
      case measure => simp [intOf]; omega
    · have hnl : ¬ (i : Int) < (n : Int) := by omega
      have hie : i = n := by omega
      subst hie
      have HRR : Hid (RdS wr a i cap ad ln cp (fun i => mk (ksum k ln i))) := by
        refine ⟨HH.out.rd.1, HH.out.rd.2.1, ?_, fun j hj => HM.out j hj⟩
        rcases HH.out.rd.2.2.1 with h0 | ⟨b, off, e, hblt, hcl⟩
        · exact .inl h0
        · refine .inr ⟨b, off, e, by rw [HA.out.size]; exact hblt, fun j hj => (HA.out.cell hblt ?_).trans (hcl j hj)⟩
          rintro ⟨j', hj', h0, e'⟩
          rcases HH.out.row with h1 | ⟨off', e2, _⟩
          · omega
          · rw [e] at e2
            have hbR : b = R := by simpa using congrArg (fun x : Option Addr => x.map (·.block)) e2
            rcases HH.out.el j' hj' with h1 | ⟨_, _, _, h2⟩
            · exact h0 h1
            · exact h2 (e'.trans hbR)
      go_wp2
      go_ret
      exact ⟨rfl, HA.out, HRR.out⟩
set_option maxRecDepth 100000 in
set_option maxHeartbeats 4000000 in
theorem heldLists (w : World) (a : Option Addr) (n cap : Nat) (ad : Nat → Option Addr) (ln cp : Nat → Nat) (k : Int) (h : RdS w a n cap ad ln cp (fun i => mk (ksum k ln i))) (hn : n ≤ 1048576) (hl : ∀ i, i < n → ln i ≤ 1048576) (hk0 : 0 ≤ k) (hk1 : k ≤ 10000000000000) :
    Calls Tryz.prog 21 #[.slice a n cap, .int .i64 k] w fun r w' => r = .returned (.int .i64 (ksum k ln n)) ∧ w' = w := by
  have hn' : (n : Int) ≤ 1048576 := by omega
  have HH := Hid.mk' h
  have HL := Hid.mk' hl
  have HK := Hid.mk' (ksum_bd (k := k) hl)
  clear h hl
  go_enter Tryz.func21, Tryz.ntmps21
  go_wp2
  go_loopw [1, 5] (fun kk ii wr => ∃ i : Nat, i ≤ n ∧ ii = .int .i64 (i : Int) ∧ kk = .int .i64 (ksum k ln i) ∧ wr = w) (fun _ ii _ => n - (intOf ii).toNat)
  case atStart => exact ⟨0, Nat.zero_le _, rfl, rfl, rfl⟩
  case round =>
    obtain ⟨i, hi, rfl, rfl, rfl⟩ := hrel
    obtain ⟨z0, z1⟩ := HK.out i hi
    by_cases hlt : i < n
    · have hil : (i : Int) < (n : Int) := by omega
      rcases HH.out.2.2.1 with h0 | ⟨b, off, rfl, hblt, hcl⟩
      · omega
      have g0 := hcl i hlt
      have hli := HL.out i hlt
      obtain ⟨y, hy⟩ : ∃ y, ksum k ln i = y := ⟨_, rfl⟩
      rw [hy] at z0 z1
      have hr0 := HH.out.2.2.2 i hlt
      rw [show (fun i => mk (ksum k ln i)) i = mk y by rw [← hy]] at hr0
      have HMK := Hid.mk' (heldTerms _ (ad i) (ln i) (cp i) y hr0 (by omega) (by omega))
      have hks : ksum k ln (i + 1) = y + 5 * (ln i) := by show ksum k ln i + 5 * (ln i) = _; rw [hy]
      have HKS := Hid.mk' hks
      have hng : ¬ (y + 5 * (ln i : Int)) < 0 := by omega
      have hng' : decide ((y + 5 * (ln i : Int)) < 0) = false := decide_eq_false hng
      have HY := Hid.mk' hy
      clear hcl hr0 hks hy
      rw [HY.out]
      go_wp2_with fail
      refine HMK.out.mono ?_
      rintro r w1 ⟨rfl, hw⟩
      obtain rfl := hw.symm
      clear hw HMK g0
      go_wp2
      go_roundw
      case rel => exact ⟨i + 1, by omega, by go_num, by rw [HKS.out], by first | rfl | trivial⟩
      case measure => simp [intOf]; omega
    · have hnl : ¬ (i : Int) < (n : Int) := by omega
      have hie : i = n := by omega
      subst hie
      go_wp2
      go_ret
      exact ⟨rfl, rfl⟩
end Go.Proofs.YtehlfifplhnceaaGreat
namespace Go.Proofs.YtehlfifplhnceaaGreat
open Go.RowKit Go.Deep Go.Joins Go.Maps
set_option linter.unusedVariables false

theorem belowG {w w' : World} (h : Below w.heap.size w w') (row : Option Nat) : w.grownBy w' row := ⟨h.os, h.tape, h.output, h.size, fun k hk _ => h.block k hk⟩
/-- operators, told as slices. -/
def slL (ad : Nat → Option Addr) (ln cp : Nat → Nat) (j : Nat) : List Value := (List.range j).map fun i => .slice (ad i) (ln i) (cp i)
theorem slL_len (ad : Nat → Option Addr) (ln cp : Nat → Nat) (j : Nat) : (slL ad ln cp j).length = j := by simp [slL]
theorem slL_at {ad : Nat → Option Addr} {ln cp : Nat → Nat} {j i : Nat} (h : i < j) : (slL ad ln cp j)[i]? = some (.slice (ad i) (ln i) (cp i)) := by simp [slL, h]
theorem slL_next {ad : Nat → Option Addr} {ln cp : Nat → Nat} {j : Nat} {a : Option Addr} {c : Nat} : slL (fun i => if i = j then a else ad i) ln (fun i => if i = j then c else cp i) (j + 1) = slL ad ln cp j ++ [.slice a (ln j) c] := by
  unfold slL
  rw [List.range_succ, List.map_append]
  congr 1
  · refine List.map_congr_left fun i hi => ?_
    have : i < j := by simpa using hi
    dsimp only
    rw [if_neg (by omega), if_neg (by omega)]
  · simp
/-- an answer of operators under way: its row, the operators in memory of their own. -/
structure AnW (lo : Nat) (wr : World) (q : Nat → List T) (j : Nat) (tv : Value) (ad : Nat → Option Addr) (cp B : Nat → Nat) : Prop where
  row : wr.ownsRow lo 46 1 tv j (slL ad (fun i => (q i).length) cp j)
  el : ∀ i, i < j → Rd wr (ad i) (q i).length (cp i) (lf (q i)) ∧ Wr wr (ad i) (q i).length (lf (q i)) ∧ ((q i).length = 0 ∨ ∃ off, ad i = some ⟨B i, off, none⟩ ∧ lo ≤ B i ∧ B i < wr.heap.size ∧ some (B i) ≠ tv.ownBlock)
  ap : ∀ i k, i < k → k < j → (q i).length ≠ 0 → (q k).length ≠ 0 → B i < B k
  lo : lo ≤ wr.heap.size
theorem AnW.start {lo : Nat} {wr : World} (h : lo ≤ wr.heap.size) (q : Nat → List T) : AnW lo wr q 0 (.slice none 0 0) (fun _ => none) (fun _ => 0) (fun _ => 0) :=
  ⟨⟨rfl, .inl ⟨rfl, rfl⟩⟩, fun i hi => by omega, fun i k _ hk => by omega, h⟩
theorem AnW.below {lo : Nat} {w w' : World} {q : Nat → List T} {j : Nat} {tv : Value} {ad : Nat → Option Addr} {cp B : Nat → Nat} (h : AnW lo w q j tv ad cp B) (hb : Below w.heap.size w w') : AnW lo w' q j tv ad cp B where
  row := h.row.kept (belowG hb none) (by
    cases e : tv.ownBlock with
    | none => exact .inl rfl
    | some k => exact .inr (by simp))
  el := fun i hi => ⟨(h.el i hi).1.below hb, (h.el i hi).2.1.below hb, (h.el i hi).2.2.imp id (fun ⟨off, e1, e2, e3, e4⟩ => ⟨off, e1, e2, Nat.lt_of_lt_of_le e3 hb.size, e4⟩)⟩
  ap := h.ap
  lo := Nat.le_trans h.lo hb.size
/-- one more operator is put behind. -/
theorem AnW.round {lo : Nat} {w1 w5 : World} {q : Nat → List T} {j : Nat} {tv : Value} {ad : Nat → Option Addr} {cp B : Nat → Nat} {m : Nat} (h : AnW lo w1 q j tv ad cp B) (hm : ∀ i, i < j → (q i).length ≠ 0 → B i < m) (hmr : ∀ k, tv.ownBlock = some k → k < m) (hlm : lo ≤ m)
    {a : Option Addr} {c : Nat} (ho : Out m w1 a c (q j)) {g0 cap0 : Nat} (hgrow : (w1.alloc (.cells #[.slice a (q j).length c] 46)).grownBy w5 tv.ownBlock)
    (hown : w5.ownsRow lo 46 1 (.slice (some ⟨g0, 0, none⟩) (j + 1) cap0) (j + 1) (slL ad (fun i => (q i).length) cp j ++ [.slice a (q j).length c])) (hat : tv.ownBlock = some g0 ∨ g0 = w1.heap.size + 1) (hlt : g0 < w5.heap.size) :
    AnW lo w5 q (j + 1) (.slice (some ⟨g0, 0, none⟩) (j + 1) cap0) (fun i => if i = j then a else ad i) (fun i => if i = j then c else cp i) (fun i => if i = j then (match a with | some x => x.block | none => 0) else B i) := by
  have hb1 := bel_one w1 (.cells #[.slice a (q j).length c] 46)
  have hs5 : w1.heap.size + 1 ≤ w5.heap.size := by have := hgrow.size; simpa using this
  have hnew : (q j).length = 0 ∨ ∃ g off, a = some ⟨g, off, none⟩ ∧ m ≤ g ∧ g < w1.heap.size := by
    rcases ho.2.2 with h0 | ⟨g, off, e, hg⟩
    · exact .inl h0
    · by_cases hz : (q j).length = 0
      · exact .inl hz
      · exact .inr ⟨g, off, e, hg, (ho.1.under.resolve_left hz) g off e⟩
  refine ⟨?_, fun i hi => ?_, fun i k hik hk hi0 hk0 => ?_, by have := h.lo; omega⟩
  · rw [slL_next (ln := fun i => (q i).length)]
    exact hown
  · by_cases e : i = j
    · subst e
      simp only [if_pos]
      refine ⟨(ho.1.below hb1).grown hgrow ?_, (ho.2.1.below hb1).grown hgrow ?_, ?_⟩
      · rcases hnew with h0 | ⟨g, off, e, hg, hgl⟩
        · exact .inl h0
        · refine .inr fun b off' e' e2 => ?_
          rw [e] at e'; cases e'
          have := hmr g e2.symm
          omega
      · rcases hnew with h0 | ⟨g, off, e, hg, hgl⟩
        · exact .inl h0
        · refine .inr fun b off' e' e2 => ?_
          rw [e] at e'; cases e'
          have := hmr g e2.symm
          omega
      · rcases hnew with h0 | ⟨g, off, e, hg, hgl⟩
        · exact .inl h0
        · subst e
          refine .inr ⟨off, rfl, by show lo ≤ g; omega, by show g < w5.heap.size; omega, ?_⟩
          show some g ≠ some g0
          intro e2
          obtain rfl : g = g0 := by simpa using e2
          rcases hat with e3 | e3
          · have := hmr g e3; omega
          · omega
    · simp only [if_neg e]
      obtain ⟨r1, r2, r3⟩ := h.el i (by omega)
      have hne : (q i).length = 0 ∨ ∀ b off, ad i = some ⟨b, off, none⟩ → some b ≠ tv.ownBlock := r3.imp id (fun ⟨off, e1, _, _, e4⟩ b off' e' => by rw [e1] at e'; cases e'; exact e4)
      refine ⟨(r1.below hb1).grown hgrow hne, (r2.below hb1).grown hgrow hne, ?_⟩
      rcases r3 with h0 | ⟨off, e1, e2, e3, e4⟩
      · exact .inl h0
      · refine .inr ⟨off, e1, e2, by omega, ?_⟩
        show some (B i) ≠ some g0
        intro e5
        obtain e6 : B i = g0 := by simpa using e5
        rcases hat with e7 | e7
        · exact e4 (by rw [e6, e7])
        · omega
  · show (if i = j then _ else B i) < (if k = j then _ else B k)
    rw [if_neg (show ¬ i = j by omega)]
    by_cases e : k = j
    · subst e
      rw [if_pos rfl]
      rcases hnew with h0 | ⟨g, off, e, hg, hgl⟩
      · exact absurd h0 hk0
      · subst e
        have := hm i (by omega) hi0
        show B i < g
        omega
    · rw [if_neg e]
      exact h.ap i k hik (by omega) hi0 hk0
/-- it is an answer. -/
theorem AnW.out {lo : Nat} {w : World} {q : Nat → List T} {n : Nat} {tv : Value} {ad : Nat → Option Addr} {cp B : Nat → Nat} (h : AnW lo w q n tv ad cp B) (hn : n * 40 ≤ 140737488351232) : ∃ qa qc R, tv = .slice qa n qc ∧ OutS lo w qa n qc ad (fun i => (q i).length) cp (fun i => lf (q i)) R B := by
  rcases h.row.2 with ⟨e, h0⟩ | ⟨g, cap, cur, e, hlo, hg, hnc, _⟩
  · subst h0
    exact ⟨none, 0, 0, e, ⟨⟨Nat.le_refl _, hn, .inl rfl, fun i hi => by omega⟩, .inl rfl, fun i hi => by omega, fun i hi => by omega, fun i j _ hj => by omega⟩⟩
  · have hr := h.row
    rw [e] at hr
    have hgl : g < w.heap.size := (hr.lt g rfl).2
    refine ⟨some ⟨g, 0, none⟩, cap, g, e, ⟨⟨hnc, hn, .inr ⟨g, 0, rfl, hgl, fun i hi => ?_⟩, fun i hi => (h.el i hi).1⟩, .inr ⟨0, rfl, hlo⟩, fun i hi => (h.el i hi).2.1, fun i hi => ?_, fun i j hij hj hi0 hj0 => ?_⟩⟩
    · rw [Nat.zero_add, hr.cellAt i (by omega), slL_at hi]
    · refine (h.el i hi).2.2.imp id (fun ⟨off, e1, e2, _, e4⟩ => ⟨off, e1, e2, fun e5 => e4 ?_⟩)
      rw [e, e5]; rfl
    · have := h.ap i j hij hj hi0 hj0
      omega
end Go.Proofs.YtehlfifplhnceaaGreat
namespace Go.Proofs.YtehlfifplhnceaaGreat
open Go.RowKit Go.Deep Go.Joins Go.Maps
set_option linter.unusedVariables false

theorem infoSP : (Tryz.prog.info? 46).map (fun i => (i.zero, i.size, i.bytes)) = some (some (.slice none 0 0), 1, 24) := by kernel_rfl
/-- a sum told as an operator that it can be told as. -/
theorem sumOpL (w : World) (b n : Nat) (K : List T) (h : SumR w b n (coef K)) (hn : n ≤ 1000000) (hK : Falls K) (hl : K.length ≤ 300) :
    Calls Tryz.prog 135 #[.map (some b)] w fun e w' => ∃ a c, e = .returned (.tuple #[.slice a K.length c, .bool true]) ∧ Below w.heap.size w w' ∧ Out w.heap.size w' a c K := by
  refine (sumOpI w b n (coef K) h hn hK (fun _ _ => rfl)).mono ?_
  have e : sumL K = (K, true) := if_pos (by omega)
  rw [e]
  rintro r w' ⟨v, rfl, hb, ho⟩
  obtain ⟨a, c, rfl, hout⟩ := out_of_owns ho (by show K.length * 40 ≤ _; omega)
  exact ⟨a, c, rfl, hb, hout⟩
set_option maxRecDepth 100000 in
set_option maxHeartbeats 8000000 in
theorem answerI (X : DvP) (w : World) (fu u N : Nat) (S : Dv) (h : DvW X w fu u N S) (hok : DvOk u S) (hu : u ≤ 300) (hn : X.n ≤ 12) :
    Calls Tryz.prog 111 #[.pointer (some ⟨X.Bd, 0, none⟩)] w fun r w' => ∃ qa qc ad cp R B la lc mid, r = .returned (.tuple #[.slice qa X.n qc, .slice la S.r.length lc]) ∧ Below w.heap.size w w' ∧ OutS w.heap.size w' qa X.n qc ad (fun i => (S.q i).length) cp (fun i => lf (S.q i)) R B ∧ Out mid w' la lc S.r ∧ (X.n = 0 ∨ R < mid) ∧ (∀ i, i < X.n → (S.q i).length ≠ 0 → B i < mid) ∧ w.heap.size ≤ mid := by
  obtain ⟨i0, hi0, hz0, hz1, hz2⟩ := info_parts infoSP
  have hnl : (X.n : Int) ≤ 12 := by omega
  have k4 := h.c4
  have HH := Hid.mk' h
  have HOK := Hid.mk' hok
  clear h hok
  go_enter Tryz.func111, Tryz.ntmps111
  go_wp2
  clear k4
  go_loopw [4, 12] (fun tv ii wr => ∃ (j : Nat) (ad : Nat → Option Addr) (cp B : Nat → Nat), j ≤ X.n ∧ ii = .int .i64 (j : Int) ∧ Below w.heap.size w wr ∧ AnW w.heap.size wr S.q j tv ad cp B) (fun _ ii _ => X.n - (intOf ii).toNat)
  case atStart => exact ⟨0, _, _, _, Nat.zero_le _, rfl, Below.refl _ _, AnW.start (Nat.le_refl _) S.q⟩
  case round =>
    obtain ⟨j, ad, cp, B, hj, rfl, hB, hA⟩ := hrel
    have HB := Hid.mk' hB
    have HA := Hid.mk' hA
    have HW := Hid.mk' (HH.out.below hB)
    clear hB hA
    by_cases hlt : j < X.n
    · have hjn : (j : Int) < (X.n : Int) := by omega
      obtain ⟨bt, offt, et, hct⟩ := HW.out.tk.2.resolve_left (by omega)
      have kt := hct j hlt
      have HOPR := Hid.mk' (sumOpL wr (X.bk j) u (S.q j) (HW.out.tq j hlt) (by omega) (HOK.out.q j).1 (by have := (HOK.out.q j).2; omega))
      clear hct
      rw [et]
      go_wp2_with fail
      refine HOPR.out.mono ?_
      rintro r w1 ⟨va, vc, rfl, hb1, ho1⟩
      have HB1 := Hid.mk' (bel_next HB.out hb1)
      have HA1 := Hid.mk' (HA.out.below hb1)
      have HO1 := Hid.mk' ho1
      have hsz0 : w.heap.size ≤ wr.heap.size := HB.out.size
      have hsz1 : wr.heap.size ≤ w1.heap.size := hb1.size
      have HM : Hid (∀ i, i < j → (S.q i).length ≠ 0 → B i < wr.heap.size) := fun i hi h0 => by
        rcases (HA.out.el i hi).2.2 with hz | ⟨_, _, _, h3, _⟩
        · exact absurd hz h0
        · exact h3
      have HMR : Hid (∀ k, u4.ownBlock = some k → k < wr.heap.size) := fun k hk => (HA.out.row.lt k hk).2
      have hnew := heap_alloc_new w1 (.cells #[.slice va (S.q j).length vc] 46)
      have HN := Hid.mk' hnew
      have hrow := HA1.out.row.alloc (.cells #[.slice va (S.q j).length vc] 46)
      have hnews : ∀ jj u, [Value.slice va (S.q j).length vc][jj]? = some u → (w1.alloc (.cells #[.slice va (S.q j).length vc] 46)).cell? ((⟨w1.heap.size, 0, none⟩ : Addr).add jj) = some u := World.news_of_block HN.out
      have hone : ∀ u ∈ [Value.slice va (S.q j).length vc], u.oneCell' = true := fun u hu => by
        have : u = .slice va (S.q j).length vc := by simpa using hu
        subst this; rfl
      have hbase : w.heap.size ≤ (w1.alloc (.cells #[.slice va (S.q j).length vc] 46)).heap.size := by simp; omega
      have hmax : j + 1 ≤ maxLen := by unfold maxLen; omega
      clear hb1 ho1 hnew kt HOPR
      go_wp2_with (first
        | (go_at_call 74; refine (redNeed_yes _ _).mono ?_; rintro e wn ⟨rfl, hwn⟩; obtain rfl := hwn.symm; clear hwn)
        | (at_builtin; refine wpList_append_lies _ rfl (.tmp 16) (.tmp 22) 25 rfl w.heap.size 46 i0 _ 1 24 Tryz.underlying25 hi0 hz0 hz1 hz2 rfl (by omega) _ j (slL ad (fun i => (S.q i).length) cp j) rfl hrow ⟨w1.heap.size, 0, none⟩ 1 1 [.slice va (S.q j).length vc] rfl rfl hnews hone (by omega) hmax (by omega) hbase _ rfl ?_; intro g0 cap0 w5 hown1 hgrow hat hlt1; have HR := Hid.mk' (HA1.out.round (m := wr.heap.size) HM.out HMR.out hsz0 HO1.out hgrow hown1 (hat.imp id (fun e => e.trans (by simp))) hlt1); have HB5 := Hid.mk' ((HB1.out.alloc HB1.out.size _).grown hgrow hbase (fun k e => (HA1.out.row.lt k e).1)); clear hown1 hgrow hat hlt1 hrow))
      go_roundw
      case rel => exact ⟨j + 1, _, _, _, by omega, by go_num, HB5.out, HR.out⟩
      case measure => simp [intOf]; omega
    · have hjn : ¬ (j : Int) < (X.n : Int) := by omega
      have hje : j = X.n := by omega
      subst hje
      have k5 := HW.out.c5
      have HOPR := Hid.mk' (sumOpL wr X.bl u S.r HW.out.lf (by omega) HOK.out.r.1 (by have := HOK.out.r.2; omega))
      go_wp2_with fail
      refine HOPR.out.mono ?_
      rintro r w1 ⟨la, lc, rfl, hb1, ho1⟩
      have HB1 := Hid.mk' (bel_next HB.out hb1)
      obtain ⟨qa, qc, R, etv, hO⟩ := (HA.out.below hb1).out (by omega)
      subst etv
      have HOS := Hid.mk' hO
      have HO1 := Hid.mk' ho1
      have HRM : Hid (X.n = 0 ∨ R < wr.heap.size) := by
        rcases hO.row with h0 | ⟨off, e, _⟩
        · exact .inl h0
        · refine .inr (HA.out.row.lt R ?_).2
          rw [e]; rfl
      have HM : Hid (∀ i, i < X.n → (S.q i).length ≠ 0 → B i < wr.heap.size) := fun i hi h0 => by
        rcases (HA.out.el i hi).2.2 with hz | ⟨_, _, _, h3, _⟩
        · exact absurd hz h0
        · exact h3
      clear hb1 ho1 hO k5 HOPR
      go_wp2_with (go_at_call 74; refine (redNeed_yes _ _).mono ?_; rintro e wn ⟨rfl, hwn⟩; obtain rfl := hwn.symm; clear hwn)
      refine bodyPost_ret (results_tmp2 rfl _ _ _) rfl ?_
      exact ⟨qa, qc, ad, cp, R, B, la, lc, wr.heap.size, rfl, HB1.out, HOS.out, HO1.out, HRM.out, HM.out, HB.out.size⟩
end Go.Proofs.YtehlfifplhnceaaGreat
