/-
  Slices of slices of terms: how they are read, copied, counted and held against each other.
  More of chapter 2's model: what divides, what is left, what both divide.
  What the functions of the program's chapter 2 return: the same plain functions as the model's.
-/
import Derived.Test.YtmlaedpamobmhabGac
import Derived.Test.YtmlaedpamobmhabGaa
import Derived.Test.YtmlaedpamobmhabGab
namespace Go.Proofs.Ytmlaedpamobmhab
open Go.RowKit Go.Deep Go.Joins
set_option linter.unusedVariables false

/-- a slice of slices of terms that can be read. -/
def RdS (w : World) (a : Option Addr) (n cap : Nat) (ad : Nat → Option Addr) (ln cp : Nat → Nat) (f : Nat → Nat → T) : Prop :=
  n ≤ cap ∧ n * 40 ≤ 140737488351232 ∧ (n = 0 ∨ ∃ b off, a = some ⟨b, off, none⟩ ∧ b < w.heap.size ∧ ∀ i, i < n → w.cell? ⟨b, off + i, none⟩ = some (.slice (ad i) (ln i) (cp i))) ∧ ∀ i, i < n → Rd w (ad i) (ln i) (cp i) (f i)
theorem RdS.below {w w' : World} {a : Option Addr} {n cap : Nat} {ad : Nat → Option Addr} {ln cp : Nat → Nat} {f : Nat → Nat → T} (h : RdS w a n cap ad ln cp f) (hb : Below w.heap.size w w') : RdS w' a n cap ad ln cp f := by
  refine ⟨h.1, h.2.1, ?_, fun i hi => (h.2.2.2 i hi).below hb⟩
  rcases h.2.2.1 with h0 | ⟨b, off, he, hlt, hc⟩
  · exact .inl h0
  · exact .inr ⟨b, off, he, Nat.lt_of_lt_of_le hlt hb.size, fun i hi => (hb.cell (p := ⟨b, off + i, none⟩) hlt).trans (hc i hi)⟩
set_option maxHeartbeats 4000000 in
theorem szLists (a : Option Addr) (n cap : Nat) (ad : Nat → Option Addr) (ln cp : Nat → Nat) (l : Int) (w : World) (hn : (n : Int) ≤ 9223372036854775807) (hl : 0 ≤ l) (hl' : l ≤ 1048576) (h3 : n = 0 ∨ ∃ b off, a = some ⟨b, off, none⟩ ∧ b < w.heap.size ∧ ∀ i, i < n → w.cell? ⟨b, off + i, none⟩ = some (.slice (ad i) (ln i) (cp i))) (hln : ∀ i, i < n → (ln i : Int) ≤ 9223372036854775807) :
    Calls Try.prog 17 #[.slice a n cap, .int .i64 l] w fun r w' => ∃ z : Int, r = .returned (.int .i64 z) ∧ w' = w ∧ z ≤ l ∧ (0 ≤ z → (n : Int) ≤ l ∧ ∀ i, i < n → (ln i : Int) ≤ l) := by
  by_cases hneg : l - n < 0
  · go_enter Try.func17, Try.ntmps17
    go_wp2
    go_ret
    exact ⟨-1, rfl, rfl, by omega, fun h => by omega⟩
  · go_enter Try.func17, Try.ntmps17
    go_wp2
    go_loopw [1, 5] (fun lv iv wr => ∃ (i : Nat) (z : Int), i ≤ n ∧ iv = .int .i64 (i : Int) ∧ lv = .int .i64 z ∧ 0 ≤ z ∧ z ≤ l ∧ (∀ j, j < i → (ln j : Int) ≤ l) ∧ wr = w) (fun _ v _ => n - (intOf v).toNat)
    case atStart => exact ⟨0, l - n, Nat.zero_le _, rfl, rfl, by omega, by omega, fun j hj => by omega, rfl⟩
    case round =>
      obtain ⟨i, z, hi, rfl, rfl, z0, z1, hj, rfl⟩ := hrel
      have HJ := Hid.mk' hj
      clear hj
      by_cases hlt : i < n
      · rcases h3 with h0 | ⟨b, off, rfl, hblt, hcl⟩
        · omega
        have hil : (i : Int) < (n : Int) := by omega
        have hc := hcl i hlt
        have hli := hln i hlt
        clear hcl hln
        go_wp2_with fail
        refine (szTerms _ _ _ _ _ hli z0 (by omega)).mono ?_
        by_cases hz : z - ln i < 0
        · rw [if_pos hz]
          rintro e w' ⟨rfl, rfl⟩
          go_wp2
          go_ret
          exact ⟨-1, rfl, rfl, by omega, fun h => by omega⟩
        · rw [if_neg hz]
          obtain ⟨y, hy⟩ : ∃ y, z - (ln i : Int) = y := ⟨_, rfl⟩
          rw [hy]
          rintro e w' ⟨rfl, rfl⟩
          have hy0 : ¬ y < 0 := by omega
          go_wp2
          go_roundw
          case rel => exact ⟨i + 1, y, by omega, by go_num, rfl, by omega, by omega, fun j hj => by
            by_cases e : j = i
            · rw [e]; omega
            · exact HJ.out j (by omega), by first | trivial | rfl⟩
          case measure => simp [intOf]; omega
      · have hnl : ¬ (i : Int) < (n : Int) := by omega
        have hie : i = n := by omega
        subst hie
        go_wp2
        go_ret
        exact ⟨z, rfl, rfl, z1, fun _ => ⟨by omega, HJ.out⟩⟩
theorem infoS : (Try.prog.info? 29).map (fun i => (i.zero, i.size, i.bytes)) = some (some (.slice none 0 0), 1, 24) := by kernel_rfl
theorem make_lists {ops : Array Oper} {rest : List Oper} {o : Oper} {a : Act} {Q : Exit → Act → World → Prop} (w : World)
    (hg : o.guard = none) (l c : Operand) (hop : o.op = Op.makeSlice 23 l c)
    (n : Nat) (hl : a.eval l = .int .i64 (n : Int)) (hc : a.eval c = .int .i64 (n : Int)) (hbytes : n * 40 ≤ 140737488351232)
    (hK : (w.alloc (.cells (madeCells #[.slice none 0 0] n) 29)).rowIs w.heap.size 29 n (fun _ => .slice none 0 0) → wpList Try.prog ops Q rest (a.put o.dst (.slice (some ⟨w.heap.size, 0, none⟩) n n)) (w.alloc (.cells (madeCells #[.slice none 0 0] n) 29))) :
    wpList Try.prog ops Q (o :: rest) a w := by
  obtain ⟨i, hi, hzz⟩ := Option.map_eq_some_iff.1 infoS
  simp only [Prod.mk.injEq] at hzz
  obtain ⟨hz, hs, hb⟩ := hzz
  refine wpList_plain hg fun K hK' => ?_
  have hr := run_make (P := Try.prog) w 23 29 i _ Try.underlying23 hi hz .i64 .i64 (n : Int) (n : Int) (by omega) (Int.le_refl _) (by rw [hb]; omega) (by omega)
  simp only [Int.toNat_natCast, hs, Value.cells, Nat.mul_one] at hr
  unfold Oper.wp
  simp [execOp, hop, hl, hc, hr, Result.andThen]
  refine hK' _ _ (hK ?_)
  refine ⟨_, Go.Deep.blk_alloc_new _ _, size_madeCells _ _, fun j hj => ?_⟩
  simp [madeCells, hj, Nat.mod_one]
/-- the first k slices stand, the rest are nil. -/
def partS (B ln : Nat → Nat) (k j : Nat) : Value := if j < k then .slice (some ⟨B j, 0, none⟩) (ln j) (ln j) else .slice none 0 0
theorem partS_next {w : World} {g n k : Nat} {B ln : Nat → Nat} {v : Nat} (h : w.rowIs g 29 n (partS B ln k)) :
    (w.setCell ⟨g, k, none⟩ (.slice (some ⟨v, 0, none⟩) (ln k) (ln k))).rowIs g 29 n (partS (fun j => if j = k then v else B j) ln (k + 1)) := by
  refine (h.set _ _).congr fun j hj => ?_
  by_cases e : j = k
  · subst e
    simp [partS]
  · unfold partS
    by_cases hl : j < k
    · rw [if_pos (show j < k + 1 by omega)]
      simp [e, hl]
    · rw [if_neg (show ¬ j < k + 1 by omega)]
      simp [e, hl]
set_option maxHeartbeats 4000000 in
theorem toLists (w : World) (a : Option Addr) (n cap : Nat) (ad : Nat → Option Addr) (ln cp : Nat → Nat) (f : Nat → Nat → T) (h : RdS w a n cap ad ln cp f) :
    Calls Try.prog 18 #[.slice a n cap] w fun r w' => ∃ B : Nat → Nat, r = .returned (.slice (some ⟨w.heap.size, 0, none⟩) n n) ∧ Below w.heap.size w w' ∧ w'.rowIs w.heap.size 29 n (partS B ln n) ∧ ∀ i, i < n → w.heap.size < B i ∧ Own w' (B i) (ln i) (f i) := by
  have hn : (n : Int) ≤ 140737488351232 := by have := h.2.1; omega
  have h2 := h.2.1
  have HH := Hid.mk' h
  clear h
  go_enter Try.func18, Try.ntmps18
  go_wp2_with (at_make; refine make_lists _ rfl _ _ rfl n rfl rfl (by omega) ?_; intro hrow)
  go_loopw [4] (fun i wr => ∃ (k : Nat) (B : Nat → Nat), k ≤ n ∧ i = .int .i64 k ∧ Below w.heap.size w wr ∧ wr.rowIs w.heap.size 29 n (partS B ln k) ∧ ∀ i, i < k → w.heap.size < B i ∧ Own wr (B i) (ln i) (f i)) (fun i _ => n - (intOf i).toNat)
  case atStart => exact ⟨0, fun _ => 0, Nat.zero_le _, rfl, (Below.refl _ _).alloc (Nat.le_refl _) _, hrow.congr fun j _ => by simp [partS], fun i hi => by omega⟩
  case round =>
    obtain ⟨k, B, hk, rfl, hB, hR, hO⟩ := hrel
    by_cases hlt : k < n
    · rcases HH.out.2.2.1 with h0 | ⟨b, off, rfl, hblt, hcl⟩
      · omega
      have hkn : (k : Int) < (n : Int) := by omega
      have g0 : wr.cell? ⟨b, off + k, none⟩ = some (.slice (ad k) (ln k) (cp k)) := (hB.cell (p := ⟨b, off + k, none⟩) hblt).trans (hcl k hlt)
      have HR := Hid.mk' hR
      have HO := Hid.mk' hO
      have HB := Hid.mk' hB
      have HK := Hid.mk' ((HH.out.2.2.2 k hlt).below hB)
      clear hR hcl hO
      go_wp2_with fail
      refine (toTerms _ _ _ _ (f k) HK.out).mono ?_
      rintro r w1 ⟨rfl, hb, ho⟩
      have hR1 := HR.out.of_block (hb.block w.heap.size (HR.out.lt))
      have hB1 := HB.out.trans (hb.mono HB.out.size)
      have hsz : w.heap.size < wr.heap.size := HR.out.lt
      have q0 := hR1.cell (i := k) hlt
      have fz := fun i => hR1.frozen i
      obtain ⟨V, hV⟩ : ∃ V, wr.heap.size = V := ⟨_, rfl⟩
      rw [hV] at ho ⊢
      have HN := Hid.mk' (partS_next (v := V) hR1)
      have HO2 : Hid (∀ i, i < k + 1 → w.heap.size < (if i = k then V else B i) ∧ Own w1 (if i = k then V else B i) (ln i) (f i)) := fun i hi => by
        by_cases e : i = k
        · rw [if_pos e, e]
          exact ⟨by omega, ho⟩
        · rw [if_neg e]
          have := HO.out i (by omega)
          exact ⟨this.1, this.2.below hb this.2.lt⟩
      have HB1 := Hid.mk' hB1
      clear hR1 HR hb ho HO hB1 hB
      go_wp2
      go_roundw
      case rel =>
        refine ⟨k + 1, _, by omega, by go_num, HB1.out.setCell (Nat.le_refl _) _, HN.out, fun i hi => ?_⟩
        have := HO2.out i hi
        refine ⟨this.1, this.2.of_block ?_⟩
        exact Below.heap_setCell _ _ _ _ (Nat.ne_of_gt this.1)
      case measure => simp [intOf]; omega
    · have hkn : k = n := by omega
      subst hkn
      have HR := Hid.mk' hR
      have HO := Hid.mk' hO
      clear hR hO
      go_wp2
      go_ret
      exact ⟨B, rfl, hB, HR.out, HO.out⟩
/-- what was copied can be read. -/
theorem lists_rd {w : World} {g n : Nat} {B ln : Nat → Nat} {f : Nat → Nat → T} (hR : w.rowIs g 29 n (partS B ln n)) (hO : ∀ i, i < n → Own w (B i) (ln i) (f i)) (hn : n * 40 ≤ 140737488351232) (hl : ∀ i, i < n → ln i * 40 ≤ 140737488351232) : RdS w (some ⟨g, 0, none⟩) n n (fun i => some ⟨B i, 0, none⟩) ln ln f :=
  ⟨Nat.le_refl _, hn, .inr ⟨g, 0, rfl, hR.lt, fun i hi => by
    have := hR.cell (i := i) hi
    rw [Nat.zero_add, this]
    unfold partS
    rw [if_pos hi]⟩, fun i hi => (hO i hi).rd (hl i hi)⟩
end Go.Proofs.Ytmlaedpamobmhab
namespace Go.Proofs.Ytmlaedpamobmhab
open Go.RowKit
set_option linter.unusedVariables false

set_option maxHeartbeats 2000000 in
theorem monDividesS (x y d e x' y' d' e' : Int) (w : World) :
    Calls Try.prog 53 #[.agg #[.int .i64 x, .int .i64 y, .int .i64 d, .int .i64 e], .agg #[.int .i64 x', .int .i64 y', .int .i64 d', .int .i64 e']] w fun r w' => r = .returned (.bool (M.dvd ⟨x, y, d, e⟩ ⟨x', y', d', e'⟩)) ∧ Below w.heap.size w w' := by
  cases ha : M.ok ⟨x, y, d, e⟩
  · have r1 : M.dvd ⟨x, y, d, e⟩ ⟨x', y', d', e'⟩ = false := by simp [M.dvd, ha]
    rw [r1]
    clear r1
    go_enter Try.func53, Try.ntmps53
    go_wp2_with fail
    refine (monOkS_of ha _).mono ?_
    rintro r w1 ⟨rfl, hb1⟩
    go_wp2
    go_ret
    exact ⟨rfl, bel_next (bel_two w _ _) hb1⟩
  · cases hb : M.ok ⟨x', y', d', e'⟩
    · have r1 : M.dvd ⟨x, y, d, e⟩ ⟨x', y', d', e'⟩ = false := by simp [M.dvd, hb]
      rw [r1]
      clear r1
      go_enter Try.func53, Try.ntmps53
      go_wp2_with fail
      refine (monOkS_of ha _).mono ?_
      rintro r w1 ⟨rfl, hb1⟩
      obtain ⟨hc1, hf1⟩ := bcell hb1
      have hz1 : w.heap.size + 1 < w1.heap.size := by have := hb1.size; simp at this; omega
      have hy1 : w.heap.size < w1.heap.size := by omega
      go_wp2_with fail
      refine (monOkS_of hb _).mono ?_
      rintro r w2 ⟨rfl, hb2⟩
      obtain ⟨hc2, hf2⟩ := bcell hb2
      go_wp2
      go_ret
      exact ⟨rfl, bel_next (bel_next (bel_two w _ _) hb1) hb2⟩
    · skip
      by_cases h0 : x ≤ x'
      · have t0 : decide (x ≤ x') = true := decide_eq_true h0
        by_cases h1 : y ≤ y'
        · have t1 : decide (y ≤ y') = true := decide_eq_true h1
          by_cases h2 : d ≤ d'
          · have t2 : decide (d ≤ d') = true := decide_eq_true h2
            by_cases h3 : e ≤ e'
            · have t3 : decide (e ≤ e') = true := decide_eq_true h3
              have r1 : M.dvd ⟨x, y, d, e⟩ ⟨x', y', d', e'⟩ = true := by simp [M.dvd, ha, hb, h0, h1, h2, h3]
              rw [r1]
              clear r1
              go_enter Try.func53, Try.ntmps53
              go_wp2_with fail
              refine (monOkS_of ha _).mono ?_
              rintro r w1 ⟨rfl, hb1⟩
              obtain ⟨hc1, hf1⟩ := bcell hb1
              have hz1 : w.heap.size + 1 < w1.heap.size := by have := hb1.size; simp at this; omega
              have hy1 : w.heap.size < w1.heap.size := by omega
              go_wp2_with fail
              refine (monOkS_of hb _).mono ?_
              rintro r w2 ⟨rfl, hb2⟩
              obtain ⟨hc2, hf2⟩ := bcell hb2
              go_wp2
              go_ret
              exact ⟨rfl, bel_next (bel_next (bel_two w _ _) hb1) hb2⟩
            · have t3 : decide (e ≤ e') = false := decide_eq_false h3
              have r1 : M.dvd ⟨x, y, d, e⟩ ⟨x', y', d', e'⟩ = false := by simp [M.dvd, h3]
              rw [r1]
              clear r1
              go_enter Try.func53, Try.ntmps53
              go_wp2_with fail
              refine (monOkS_of ha _).mono ?_
              rintro r w1 ⟨rfl, hb1⟩
              obtain ⟨hc1, hf1⟩ := bcell hb1
              have hz1 : w.heap.size + 1 < w1.heap.size := by have := hb1.size; simp at this; omega
              have hy1 : w.heap.size < w1.heap.size := by omega
              go_wp2_with fail
              refine (monOkS_of hb _).mono ?_
              rintro r w2 ⟨rfl, hb2⟩
              obtain ⟨hc2, hf2⟩ := bcell hb2
              go_wp2
              go_ret
              exact ⟨rfl, bel_next (bel_next (bel_two w _ _) hb1) hb2⟩
          · have t2 : decide (d ≤ d') = false := decide_eq_false h2
            have r1 : M.dvd ⟨x, y, d, e⟩ ⟨x', y', d', e'⟩ = false := by simp [M.dvd, h2]
            rw [r1]
            clear r1
            go_enter Try.func53, Try.ntmps53
            go_wp2_with fail
            refine (monOkS_of ha _).mono ?_
            rintro r w1 ⟨rfl, hb1⟩
            obtain ⟨hc1, hf1⟩ := bcell hb1
            have hz1 : w.heap.size + 1 < w1.heap.size := by have := hb1.size; simp at this; omega
            have hy1 : w.heap.size < w1.heap.size := by omega
            go_wp2_with fail
            refine (monOkS_of hb _).mono ?_
            rintro r w2 ⟨rfl, hb2⟩
            obtain ⟨hc2, hf2⟩ := bcell hb2
            go_wp2
            go_ret
            exact ⟨rfl, bel_next (bel_next (bel_two w _ _) hb1) hb2⟩
        · have t1 : decide (y ≤ y') = false := decide_eq_false h1
          have r1 : M.dvd ⟨x, y, d, e⟩ ⟨x', y', d', e'⟩ = false := by simp [M.dvd, h1]
          rw [r1]
          clear r1
          go_enter Try.func53, Try.ntmps53
          go_wp2_with fail
          refine (monOkS_of ha _).mono ?_
          rintro r w1 ⟨rfl, hb1⟩
          obtain ⟨hc1, hf1⟩ := bcell hb1
          have hz1 : w.heap.size + 1 < w1.heap.size := by have := hb1.size; simp at this; omega
          have hy1 : w.heap.size < w1.heap.size := by omega
          go_wp2_with fail
          refine (monOkS_of hb _).mono ?_
          rintro r w2 ⟨rfl, hb2⟩
          obtain ⟨hc2, hf2⟩ := bcell hb2
          go_wp2
          go_ret
          exact ⟨rfl, bel_next (bel_next (bel_two w _ _) hb1) hb2⟩
      · have t0 : decide (x ≤ x') = false := decide_eq_false h0
        have r1 : M.dvd ⟨x, y, d, e⟩ ⟨x', y', d', e'⟩ = false := by simp [M.dvd, h0]
        rw [r1]
        clear r1
        go_enter Try.func53, Try.ntmps53
        go_wp2_with fail
        refine (monOkS_of ha _).mono ?_
        rintro r w1 ⟨rfl, hb1⟩
        obtain ⟨hc1, hf1⟩ := bcell hb1
        have hz1 : w.heap.size + 1 < w1.heap.size := by have := hb1.size; simp at this; omega
        have hy1 : w.heap.size < w1.heap.size := by omega
        go_wp2_with fail
        refine (monOkS_of hb _).mono ?_
        rintro r w2 ⟨rfl, hb2⟩
        obtain ⟨hc2, hf2⟩ := bcell hb2
        go_wp2
        go_ret
        exact ⟨rfl, bel_next (bel_next (bel_two w _ _) hb1) hb2⟩
theorem monDividesS_of {x y d e x' y' d' e' : Int} {b : Bool} (h : M.dvd ⟨x, y, d, e⟩ ⟨x', y', d', e'⟩ = b) (w : World) :
    Calls Try.prog 53 #[.agg #[.int .i64 x, .int .i64 y, .int .i64 d, .int .i64 e], .agg #[.int .i64 x', .int .i64 y', .int .i64 d', .int .i64 e']] w fun r w' => r = .returned (.bool b) ∧ Below w.heap.size w w' := by
  rw [← h]; exact monDividesS _ _ _ _ _ _ _ _ w
theorem M.dvd_iff {a b : M} (h : a.dvd b = true) : a.ok = true ∧ b.ok = true ∧ a.x ≤ b.x ∧ a.y ≤ b.y ∧ a.d ≤ b.d ∧ a.e ≤ b.e := by
  simp [M.dvd] at h
  exact ⟨h.1.1, h.1.2, h.2⟩
set_option maxHeartbeats 2000000 in
theorem monOverS (x y d e x' y' d' e' : Int) (w : World) :
    Calls Try.prog 81 #[.agg #[.int .i64 x, .int .i64 y, .int .i64 d, .int .i64 e], .agg #[.int .i64 x', .int .i64 y', .int .i64 d', .int .i64 e']] w fun r w' => r = .returned (.tuple #[.agg #[.int .i64 (M.over ⟨x, y, d, e⟩ ⟨x', y', d', e'⟩).1.x, .int .i64 (M.over ⟨x, y, d, e⟩ ⟨x', y', d', e'⟩).1.y, .int .i64 (M.over ⟨x, y, d, e⟩ ⟨x', y', d', e'⟩).1.d, .int .i64 (M.over ⟨x, y, d, e⟩ ⟨x', y', d', e'⟩).1.e], .bool (M.over ⟨x, y, d, e⟩ ⟨x', y', d', e'⟩).2]) ∧ Below w.heap.size w w' := by
  cases hd : M.dvd ⟨x', y', d', e'⟩ ⟨x, y, d, e⟩
  · have r1 : M.over ⟨x, y, d, e⟩ ⟨x', y', d', e'⟩ = (M.zero, false) := by simp [M.over, hd]
    rw [r1]
    simp only [M.zero]
    clear r1
    go_enter Try.func81, Try.ntmps81
    go_wp2_with fail
    refine (monDividesS_of hd _).mono ?_
    rintro r w1 ⟨rfl, hb1⟩
    obtain ⟨hc1, hf1⟩ := bcell hb1
    have hz1 : w.heap.size + 1 + 1 < w1.heap.size := by have := hb1.size; simp at this; omega
    go_wp2
    refine bodyPost_ret (v := .tuple #[.agg #[.int .i64 0, .int .i64 0, .int .i64 0, .int .i64 0], .bool false]) (by simp [results, Try.results81, go_sem, *]) rfl ⟨rfl, ?_⟩
    exact bel_set4 (bel_next (bel_three w _ _ _) hb1) (by omega) _ _ _ _
  · obtain ⟨o1, o2, l1, l2, l3, l4⟩ := M.dvd_iff hd
    obtain ⟨x1, x2, y1, y2, d1, d2, e1, e2⟩ := M.ok_iff.1 o1
    obtain ⟨x3, x4, y3, y4, d3, d4, e3, e4⟩ := M.ok_iff.1 o2
    simp only at x1 x2 y1 y2 d1 d2 e1 e2 x3 x4 y3 y4 d3 d4 e3 e4 l1 l2 l3 l4
    have r1 : M.over ⟨x, y, d, e⟩ ⟨x', y', d', e'⟩ = (⟨x - x', y - y', d - d', e - e'⟩, true) := by simp [M.over, hd, M.diff]
    rw [r1]
    clear r1 o1 o2
    go_enter Try.func81, Try.ntmps81
    go_wp2_with fail
    refine (monDividesS_of hd _).mono ?_
    rintro r w1 ⟨rfl, hb1⟩
    obtain ⟨hc1, hf1⟩ := bcell hb1
    have hz1 : w.heap.size + 1 + 1 < w1.heap.size := by have := hb1.size; simp at this; omega
    go_wp2
    refine bodyPost_ret (v := .tuple #[.agg #[.int .i64 (x - x'), .int .i64 (y - y'), .int .i64 (d - d'), .int .i64 (e - e')], .bool true]) (by simp [results, Try.results81, go_sem, *]) rfl ⟨rfl, ?_⟩
    exact bel_set4 (bel_next (bel_three w _ _ _) hb1) (by omega) _ _ _ _
theorem maxS (a b : Int) (w : World) :
    Calls Try.prog 80 #[.int .i64 a, .int .i64 b] w fun r w' => r = .returned (.int .i64 (mx a b)) ∧ w' = w := by
  by_cases h : b < a
  · have e1 : mx a b = a := if_pos h
    rw [e1]
    go_enter Try.func80, Try.ntmps80
    go_wp2
    go_ret
    exact ⟨rfl, rfl⟩
  · have e1 : mx a b = b := if_neg h
    rw [e1]
    go_enter Try.func80, Try.ntmps80
    go_wp2
    go_ret
    exact ⟨rfl, rfl⟩
theorem far4 {w : World} {B b o o0 o1 o2 o3 : Nat} {u0 u1 u2 u3 : Value} (h : b ≠ B) : ((((w.setCell ⟨B, o0, none⟩ u0).setCell ⟨B, o1, none⟩ u1).setCell ⟨B, o2, none⟩ u2).setCell ⟨B, o3, none⟩ u3).cell? ⟨b, o, none⟩ = w.cell? ⟨b, o, none⟩ := by
  refine World.cell?_of_block ?_
  rw [Below.heap_setCell _ _ _ _ h, Below.heap_setCell _ _ _ _ h, Below.heap_setCell _ _ _ _ h, Below.heap_setCell _ _ _ _ h]
end Go.Proofs.Ytmlaedpamobmhab
namespace Go.Proofs.Ytmlaedpamobmhab
open Go.RowKit
set_option linter.unusedVariables false

theorem bel_one (w : World) (A : Obj) : Below w.heap.size w (w.alloc A) := (Below.refl _ _).alloc (Nat.le_refl _) _
theorem ext_box {w : World} {t : TypeId} (A : Array Value) (i : Nat) (v : Value) (h : A[i]? = some v) : ∀ u : Ext (w.alloc (.cells A t)), u.1.cell? ⟨w.heap.size, i, none⟩ = some v := fun u => by
  rw [u.cell (by simp), World.cell?_alloc_at _ _ _ _ rfl]; exact h
set_option maxHeartbeats 400000 in
theorem countsI (x y d e : Int) (w : World) :
    Calls Try.prog 79 #[.agg #[.int .i64 x, .int .i64 y, .int .i64 d, .int .i64 e]] w fun r w' => r = .returned (.agg #[.int .i64 x, .int .i64 y, .int .i64 d, .int .i64 e]) ∧ Below w.heap.size w w' := by
  go_enter Try.func79, Try.ntmps79
  go_wp2
  refine bodyPost_ret (v := .agg #[.int .i64 x, .int .i64 y, .int .i64 d, .int .i64 e]) (by simp [results, Try.results79, go_sem]) rfl ⟨rfl, ?_⟩
  exact bel_two w _ _
set_option maxHeartbeats 400000 in
theorem degreeI (x y d e : Int) (w : World) (h : M.ok ⟨x, y, d, e⟩ = true) :
    Calls Try.prog 70 #[.agg #[.int .i64 x, .int .i64 y, .int .i64 d, .int .i64 e]] w fun r w' => r = .returned (.int .i64 (x + y + d + e)) ∧ Below w.heap.size w w' := by
  obtain ⟨x1, x2, y1, y2, d1, d2, e1, e2⟩ := M.ok_iff.1 h
  simp only at x1 x2 y1 y2 d1 d2 e1 e2
  clear h
  go_enter Try.func70, Try.ntmps70
  go_wp2
  go_ret
  exact ⟨rfl, bel_one w _⟩
/-- what an order asks for, as one number. -/
def rkL (m : M) : Int := ((m.d * 16 + m.e) * 16 + m.x) * 16 + m.y
def rkD (m : M) : Int := (m.x + m.y + m.d + m.e) * 65536 + rkL m
def rkO (m : M) : Int := (m.d + m.x) * 65536 + rkL m
set_option maxHeartbeats 400000 in
theorem rankLexI (x y d e : Int) (w : World) (h : M.ok ⟨x, y, d, e⟩ = true) :
    Calls Try.prog 63 #[.agg #[.int .i64 x, .int .i64 y, .int .i64 d, .int .i64 e]] w fun r w' => r = .returned (.int .i64 (rkL ⟨x, y, d, e⟩)) ∧ Below w.heap.size w w' := by
  obtain ⟨x1, x2, y1, y2, d1, d2, e1, e2⟩ := M.ok_iff.1 h
  simp only at x1 x2 y1 y2 d1 d2 e1 e2
  clear h
  simp only [rkL]
  go_enter Try.func63, Try.ntmps63
  go_wp2
  go_ret
  exact ⟨rfl, bel_one w _⟩
set_option maxHeartbeats 1000000 in
theorem rankDegI (x y d e : Int) (w : World) (h : M.ok ⟨x, y, d, e⟩ = true) :
    Calls Try.prog 47 #[.agg #[.int .i64 x, .int .i64 y, .int .i64 d, .int .i64 e]] w fun r w' => r = .returned (.int .i64 (rkD ⟨x, y, d, e⟩)) ∧ Below w.heap.size w w' := by
  obtain ⟨x1, x2, y1, y2, d1, d2, e1, e2⟩ := M.ok_iff.1 h
  simp only at x1 x2 y1 y2 d1 d2 e1 e2
  have HK := Hid.mk' h
  have k1 : 0 ≤ rkL ⟨x, y, d, e⟩ := by simp only [rkL]; omega
  have k2 : rkL ⟨x, y, d, e⟩ ≤ 65535 := by simp only [rkL]; omega
  have r1 : rkD ⟨x, y, d, e⟩ = (x + y + d + e) * 65536 + rkL ⟨x, y, d, e⟩ := rfl
  rw [r1]
  clear h r1
  go_enter Try.func47, Try.ntmps47
  go_wp2_with fail
  have B1 := Hid.mk' (bel_one w (.cells #[.int .i64 x, .int .i64 y, .int .i64 d, .int .i64 e] 31))
  have ne := Ext.there (w.alloc (.cells #[.int .i64 x, .int .i64 y, .int .i64 d, .int .i64 e] 31))
  have s0 := ext_box (w := w) (t := 31) #[.int .i64 x, .int .i64 y, .int .i64 d, .int .i64 e] 0 _ rfl
  have s1 := ext_box (w := w) (t := 31) #[.int .i64 x, .int .i64 y, .int .i64 d, .int .i64 e] 1 _ rfl
  have s2 := ext_box (w := w) (t := 31) #[.int .i64 x, .int .i64 y, .int .i64 d, .int .i64 e] 2 _ rfl
  have s3 := ext_box (w := w) (t := 31) #[.int .i64 x, .int .i64 y, .int .i64 d, .int .i64 e] 3 _ rfl
  refine wp_region_ext (by kernel_rfl) (by kernel_rfl) ?_
  repeat (go_big_quiet_step (first | (go_at_call 70; exact ext_grows (degreeI _ _ _ _ _ HK.out)) | (go_at_call 63; exact ext_grows (rankLexI _ _ _ _ _ HK.out))))
  refine wpQuiet_nil ?_
  rintro _ ⟨u, rfl⟩
  go_wp2
  go_ret
  exact ⟨rfl, B1.out.trans (u.2.mono B1.out.size)⟩
set_option maxHeartbeats 1000000 in
theorem rankOutI (x y d e : Int) (w : World) (h : M.ok ⟨x, y, d, e⟩ = true) :
    Calls Try.prog 64 #[.agg #[.int .i64 x, .int .i64 y, .int .i64 d, .int .i64 e]] w fun r w' => r = .returned (.int .i64 (rkO ⟨x, y, d, e⟩)) ∧ Below w.heap.size w w' := by
  obtain ⟨x1, x2, y1, y2, d1, d2, e1, e2⟩ := M.ok_iff.1 h
  simp only at x1 x2 y1 y2 d1 d2 e1 e2
  have HK := Hid.mk' h
  have k1 : 0 ≤ rkL ⟨x, y, d, e⟩ := by simp only [rkL]; omega
  have k2 : rkL ⟨x, y, d, e⟩ ≤ 65535 := by simp only [rkL]; omega
  have r1 : rkO ⟨x, y, d, e⟩ = (d + x) * 65536 + rkL ⟨x, y, d, e⟩ := rfl
  rw [r1]
  clear h r1
  go_enter Try.func64, Try.ntmps64
  go_wp2_with fail
  have B1 := Hid.mk' (bel_one w (.cells #[.int .i64 x, .int .i64 y, .int .i64 d, .int .i64 e] 31))
  have ne := Ext.there (w.alloc (.cells #[.int .i64 x, .int .i64 y, .int .i64 d, .int .i64 e] 31))
  have s0 := ext_box (w := w) (t := 31) #[.int .i64 x, .int .i64 y, .int .i64 d, .int .i64 e] 0 _ rfl
  have s1 := ext_box (w := w) (t := 31) #[.int .i64 x, .int .i64 y, .int .i64 d, .int .i64 e] 1 _ rfl
  have s2 := ext_box (w := w) (t := 31) #[.int .i64 x, .int .i64 y, .int .i64 d, .int .i64 e] 2 _ rfl
  have s3 := ext_box (w := w) (t := 31) #[.int .i64 x, .int .i64 y, .int .i64 d, .int .i64 e] 3 _ rfl
  refine wp_region_ext (by kernel_rfl) (by kernel_rfl) ?_
  repeat (go_big_quiet_step (first | (go_at_call 70; exact ext_grows (degreeI _ _ _ _ _ HK.out)) | (go_at_call 63; exact ext_grows (rankLexI _ _ _ _ _ HK.out))))
  refine wpQuiet_nil ?_
  rintro _ ⟨u, rfl⟩
  go_wp2
  go_ret
  exact ⟨rfl, B1.out.trans (u.2.mono B1.out.size)⟩
/-- the four, one by one. -/
def cnt (x y d e : Int) : Nat → Int
  | 0 => x
  | 1 => y
  | 2 => d
  | _ => e
set_option maxHeartbeats 1000000 in
theorem monOkI (x y d e : Int) (w : World) :
    Calls Try.prog 69 #[.agg #[.int .i64 x, .int .i64 y, .int .i64 d, .int .i64 e]] w fun r w' => r = .returned (.bool (M.ok ⟨x, y, d, e⟩)) ∧ Below w.heap.size w w' := by
  have i0 : ∀ w : World, (Instr.index 115 (.agg #[.int .i64 x, .int .i64 y, .int .i64 d, .int .i64 e]) (.int .i64 0)).run Try.prog w = .ok (.int .i64 x) w := fun _ => by kernel_rfl
  have i1 : ∀ w : World, (Instr.index 115 (.agg #[.int .i64 x, .int .i64 y, .int .i64 d, .int .i64 e]) (.int .i64 1)).run Try.prog w = .ok (.int .i64 y) w := fun _ => by kernel_rfl
  have i2 : ∀ w : World, (Instr.index 115 (.agg #[.int .i64 x, .int .i64 y, .int .i64 d, .int .i64 e]) (.int .i64 2)).run Try.prog w = .ok (.int .i64 d) w := fun _ => by kernel_rfl
  have i3 : ∀ w : World, (Instr.index 115 (.agg #[.int .i64 x, .int .i64 y, .int .i64 d, .int .i64 e]) (.int .i64 3)).run Try.prog w = .ok (.int .i64 e) w := fun _ => by kernel_rfl
  go_enter Try.func69, Try.ntmps69
  go_wp2_with fail
  refine (countsI x y d e _).mono ?_
  rintro r w1 ⟨rfl, hb⟩
  have B1 := Hid.mk' (bel_next (bel_one w _) hb)
  clear hb
  go_wp2
  go_loop [7] (fun i => ∃ k : Nat, k ≤ 4 ∧ i = .int .i64 k ∧ Hid (∀ j, j < k → 0 ≤ cnt x y d e j ∧ cnt x y d e j ≤ 15)) (fun i => 4 - (intOf i).toNat)
  case atStart => exact ⟨0, by omega, rfl, fun j hj => absurd hj (Nat.not_lt_zero _)⟩
  case round =>
    obtain ⟨k, hk, rfl, hok⟩ := hrel
    have hk5 : k = 4 ∨ k = 0 ∨ k = 1 ∨ k = 2 ∨ k = 3 := by omega
    rcases hk5 with rfl | rfl | rfl | rfl | rfl
    · have hp : M.ok ⟨x, y, d, e⟩ = true := M.ok_iff.2 ⟨(hok.out 0 (by omega)).1, (hok.out 0 (by omega)).2, (hok.out 1 (by omega)).1, (hok.out 1 (by omega)).2, (hok.out 2 (by omega)).1, (hok.out 2 (by omega)).2, (hok.out 3 (by omega)).1, (hok.out 3 (by omega)).2⟩
      have HP := Hid.mk' hp
      clear hp
      go_wp2
      go_ret
      exact ⟨by rw [HP.out]; rfl, B1.out⟩
    · by_cases h1 : x < 0
      · have hp : Hid (M.ok ⟨x, y, d, e⟩ = false) := M.ok_not.2 (fun h => by simp only at h; omega)
        go_wp2
        go_ret
        exact ⟨by rw [hp.out]; rfl, B1.out⟩
      · by_cases h2 : 15 < x
        · have hp : Hid (M.ok ⟨x, y, d, e⟩ = false) := M.ok_not.2 (fun h => by simp only at h; omega)
          go_wp2
          go_ret
          exact ⟨by rw [hp.out]; rfl, B1.out⟩
        · have hn : Hid (∀ j, j < 1 → 0 ≤ cnt x y d e j ∧ cnt x y d e j ≤ 15) := fun j hj => by
            obtain rfl : j = 0 := by omega
            exact ⟨Int.not_lt.1 h1, Int.not_lt.1 h2⟩
          go_wp2
          go_round
          case rel => exact ⟨1, by omega, rfl, hn⟩
          case measure => simp [intOf]
    · by_cases h1 : y < 0
      · have hp : Hid (M.ok ⟨x, y, d, e⟩ = false) := M.ok_not.2 (fun h => by simp only at h; omega)
        go_wp2
        go_ret
        exact ⟨by rw [hp.out]; rfl, B1.out⟩
      · by_cases h2 : 15 < y
        · have hp : Hid (M.ok ⟨x, y, d, e⟩ = false) := M.ok_not.2 (fun h => by simp only at h; omega)
          go_wp2
          go_ret
          exact ⟨by rw [hp.out]; rfl, B1.out⟩
        · have hn : Hid (∀ j, j < 2 → 0 ≤ cnt x y d e j ∧ cnt x y d e j ≤ 15) := fun j hj => by
            by_cases hj1 : j < 1
            · exact hok.out j hj1
            · obtain rfl : j = 1 := by omega
              exact ⟨Int.not_lt.1 h1, Int.not_lt.1 h2⟩
          go_wp2
          go_round
          case rel => exact ⟨2, by omega, rfl, hn⟩
          case measure => simp [intOf]
    · by_cases h1 : d < 0
      · have hp : Hid (M.ok ⟨x, y, d, e⟩ = false) := M.ok_not.2 (fun h => by simp only at h; omega)
        go_wp2
        go_ret
        exact ⟨by rw [hp.out]; rfl, B1.out⟩
      · by_cases h2 : 15 < d
        · have hp : Hid (M.ok ⟨x, y, d, e⟩ = false) := M.ok_not.2 (fun h => by simp only at h; omega)
          go_wp2
          go_ret
          exact ⟨by rw [hp.out]; rfl, B1.out⟩
        · have hn : Hid (∀ j, j < 3 → 0 ≤ cnt x y d e j ∧ cnt x y d e j ≤ 15) := fun j hj => by
            by_cases hj1 : j < 2
            · exact hok.out j hj1
            · obtain rfl : j = 2 := by omega
              exact ⟨Int.not_lt.1 h1, Int.not_lt.1 h2⟩
          go_wp2
          go_round
          case rel => exact ⟨3, by omega, rfl, hn⟩
          case measure => simp [intOf]
    · by_cases h1 : e < 0
      · have hp : Hid (M.ok ⟨x, y, d, e⟩ = false) := M.ok_not.2 (fun h => by simp only at h; omega)
        go_wp2
        go_ret
        exact ⟨by rw [hp.out]; rfl, B1.out⟩
      · by_cases h2 : 15 < e
        · have hp : Hid (M.ok ⟨x, y, d, e⟩ = false) := M.ok_not.2 (fun h => by simp only at h; omega)
          go_wp2
          go_ret
          exact ⟨by rw [hp.out]; rfl, B1.out⟩
        · have hn : Hid (∀ j, j < 4 → 0 ≤ cnt x y d e j ∧ cnt x y d e j ≤ 15) := fun j hj => by
            by_cases hj1 : j < 3
            · exact hok.out j hj1
            · obtain rfl : j = 3 := by omega
              exact ⟨Int.not_lt.1 h1, Int.not_lt.1 h2⟩
          go_wp2
          go_round
          case rel => exact ⟨4, by omega, rfl, hn⟩
          case measure => simp [intOf]
theorem monOkI_of {x y d e : Int} {b : Bool} (h : M.ok ⟨x, y, d, e⟩ = b) (w : World) :
    Calls Try.prog 69 #[.agg #[.int .i64 x, .int .i64 y, .int .i64 d, .int .i64 e]] w fun r w' => r = .returned (.bool b) ∧ Below w.heap.size w w' := by
  rw [← h]; exact monOkI x y d e w
end Go.Proofs.Ytmlaedpamobmhab
