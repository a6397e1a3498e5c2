/-
  Slices of slices of terms: how they are read, copied, counted and held against each other.
  Lists of operators: which are ok, and which are the same.
  What the laws over monomials lean on: the thing that holds of the program, and monomials in a world that grew.
-/
import Derived.Test.YtbicmmbajknceaaGreatGae
import Derived.Test.YtbicmmbajknceaaGreatGag
import Derived.Test.YtbicmmbajknceaaGreatGao
import Derived.Test.YtbicmmbajknceaaGreatGav
import Derived.Test.YtbicmmbajknceaaGreatGad
import Derived.Test.YtbicmmbajknceaaGreatGac
import Derived.Test.YtbicmmbajknceaaGreatGba
namespace Go.Proofs.YtbicmmbajknceaaGreat
open Go.RowKit Go.Deep Go.Joins
set_option linter.unusedVariables false

/-- a slice of slices of terms that can be read. -/
def RdS (w : World) (a : Option Addr) (n cap : Nat) (ad : Nat → Option Addr) (ln cp : Nat → Nat) (f : Nat → Nat → T) : Prop :=
  n ≤ cap ∧ n * 40 ≤ 140737488351232 ∧ (n = 0 ∨ ∃ b off, a = some ⟨b, off, none⟩ ∧ b < w.heap.size ∧ ∀ i, i < n → w.cell? ⟨b, off + i, none⟩ = some (.slice (ad i) (ln i) (cp i))) ∧ ∀ i, i < n → Rd w (ad i) (ln i) (cp i) (f i)
theorem RdS.below {w w' : World} {a : Option Addr} {n cap : Nat} {ad : Nat → Option Addr} {ln cp : Nat → Nat} {f : Nat → Nat → T} (h : RdS w a n cap ad ln cp f) (hb : Below w.heap.size w w') : RdS w' a n cap ad ln cp f := by
  refine ⟨h.1, h.2.1, ?_, fun i hi => (h.2.2.2 i hi).below hb⟩
  rcases h.2.2.1 with h0 | ⟨b, off, he, hlt, hc⟩
  · exact .inl h0
  · exact .inr ⟨b, off, he, Nat.lt_of_lt_of_le hlt hb.size, fun i hi => (hb.cell (p := ⟨b, off + i, none⟩) hlt).trans (hc i hi)⟩
set_option maxHeartbeats 4000000 in
theorem szLists (a : Option Addr) (n cap : Nat) (ad : Nat → Option Addr) (ln cp : Nat → Nat) (l : Int) (w : World) (hn : (n : Int) ≤ 9223372036854775807) (hl : 0 ≤ l) (hl' : l ≤ 1048576) (h3 : n = 0 ∨ ∃ b off, a = some ⟨b, off, none⟩ ∧ b < w.heap.size ∧ ∀ i, i < n → w.cell? ⟨b, off + i, none⟩ = some (.slice (ad i) (ln i) (cp i))) (hln : ∀ i, i < n → (ln i : Int) ≤ 9223372036854775807) :
    Calls Tryz.prog 22 #[.slice a n cap, .int .i64 l] w fun r w' => ∃ z : Int, r = .returned (.int .i64 z) ∧ w' = w ∧ z ≤ l ∧ (0 ≤ z → (n : Int) ≤ l ∧ ∀ i, i < n → (ln i : Int) ≤ l) := by
  by_cases hneg : l - n < 0
  · go_enter Tryz.func22, Tryz.ntmps22
    go_wp2
    go_ret
    exact ⟨-1, rfl, rfl, by omega, fun h => by omega⟩
  · go_enter Tryz.func22, Tryz.ntmps22
    go_wp2
    go_loopw [1, 5] (fun lv iv wr => ∃ (i : Nat) (z : Int), i ≤ n ∧ iv = .int .i64 (i : Int) ∧ lv = .int .i64 z ∧ 0 ≤ z ∧ z ≤ l ∧ (∀ j, j < i → (ln j : Int) ≤ l) ∧ wr = w) (fun _ v _ => n - (intOf v).toNat)
    case atStart => exact ⟨0, l - n, Nat.zero_le _, rfl, rfl, by omega, by omega, fun j hj => by omega, rfl⟩
    case round =>
      obtain ⟨i, z, hi, rfl, rfl, z0, z1, hj, rfl⟩ := hrel
      have HJ := Hid.mk' hj
      clear hj
      by_cases hlt : i < n
      · rcases h3 with h0 | ⟨b, off, rfl, hblt, hcl⟩
        · omega
        have hil : (i : Int) < (n : Int) := by omega
        have hc := hcl i hlt
        have hli := hln i hlt
        clear hcl hln
        go_wp2_with fail
        refine (szTerms _ _ _ _ _ hli z0 (by omega)).mono ?_
        by_cases hz : z - ln i < 0
        · rw [if_pos hz]
          rintro e w' ⟨rfl, rfl⟩
          go_wp2
          go_ret
          exact ⟨-1, rfl, rfl, by omega, fun h => by omega⟩
        · rw [if_neg hz]
          obtain ⟨y, hy⟩ : ∃ y, z - (ln i : Int) = y := ⟨_, rfl⟩
          rw [hy]
          rintro e w' ⟨rfl, rfl⟩
          have hy0 : ¬ y < 0 := by omega
          go_wp2
          go_roundw
          case rel => exact ⟨i + 1, y, by omega, by go_num, rfl, by omega, by omega, fun j hj => by
            by_cases e : j = i
            · rw [e]; omega
            · exact HJ.out j (by omega), by first | trivial | rfl⟩
          case measure => simp [intOf]; omega
      · have hnl : ¬ (i : Int) < (n : Int) := by omega
        have hie : i = n := by omega
        subst hie
        go_wp2
        go_ret
        exact ⟨z, rfl, rfl, z1, fun _ => ⟨by omega, HJ.out⟩⟩
theorem infoS : (Tryz.prog.info? 23).map (fun i => (i.zero, i.size, i.bytes)) = some (some (.slice none 0 0), 1, 24) := by kernel_rfl
theorem make_lists {ops : Array Oper} {rest : List Oper} {o : Oper} {a : Act} {Q : Exit → Act → World → Prop} (w : World)
    (hg : o.guard = none) (l c : Operand) (hop : o.op = Op.makeSlice 40 l c)
    (n : Nat) (hl : a.eval l = .int .i64 (n : Int)) (hc : a.eval c = .int .i64 (n : Int)) (hbytes : n * 40 ≤ 140737488351232)
    (hK : (w.alloc (.cells (madeCells #[.slice none 0 0] n) 23)).rowIs w.heap.size 23 n (fun _ => .slice none 0 0) → wpList Tryz.prog ops Q rest (a.put o.dst (.slice (some ⟨w.heap.size, 0, none⟩) n n)) (w.alloc (.cells (madeCells #[.slice none 0 0] n) 23))) :
    wpList Tryz.prog ops Q (o :: rest) a w := by
  obtain ⟨i, hi, hzz⟩ := Option.map_eq_some_iff.1 infoS
  simp only [Prod.mk.injEq] at hzz
  obtain ⟨hz, hs, hb⟩ := hzz
  refine wpList_plain hg fun K hK' => ?_
  have hr := run_make (P := Tryz.prog) w 40 23 i _ Tryz.underlying40 hi hz .i64 .i64 (n : Int) (n : Int) (by omega) (Int.le_refl _) (by rw [hb]; omega) (by omega)
  simp only [Int.toNat_natCast, hs, Value.cells, Nat.mul_one] at hr
  unfold Oper.wp
  simp [execOp, hop, hl, hc, hr, Result.andThen]
  refine hK' _ _ (hK ?_)
  refine ⟨_, Go.Deep.blk_alloc_new _ _, size_madeCells _ _, fun j hj => ?_⟩
  simp [madeCells, hj, Nat.mod_one]
/-- the first k slices stand, the rest are nil. -/
def partS (B ln : Nat → Nat) (k j : Nat) : Value := if j < k then .slice (some ⟨B j, 0, none⟩) (ln j) (ln j) else .slice none 0 0
theorem partS_next {w : World} {g n k : Nat} {B ln : Nat → Nat} {v : Nat} (h : w.rowIs g 23 n (partS B ln k)) :
    (w.setCell ⟨g, k, none⟩ (.slice (some ⟨v, 0, none⟩) (ln k) (ln k))).rowIs g 23 n (partS (fun j => if j = k then v else B j) ln (k + 1)) := by
  refine (h.set _ _).congr fun j hj => ?_
  by_cases e : j = k
  · subst e
    simp [partS]
  · unfold partS
    by_cases hl : j < k
    · rw [if_pos (show j < k + 1 by omega)]
      simp [e, hl]
    · rw [if_neg (show ¬ j < k + 1 by omega)]
      simp [e, hl]
set_option maxHeartbeats 4000000 in
theorem toLists (w : World) (a : Option Addr) (n cap : Nat) (ad : Nat → Option Addr) (ln cp : Nat → Nat) (f : Nat → Nat → T) (h : RdS w a n cap ad ln cp f) :
    Calls Tryz.prog 24 #[.slice a n cap] w fun r w' => ∃ B : Nat → Nat, r = .returned (.slice (some ⟨w.heap.size, 0, none⟩) n n) ∧ Below w.heap.size w w' ∧ w'.rowIs w.heap.size 23 n (partS B ln n) ∧ ∀ i, i < n → w.heap.size < B i ∧ Own w' (B i) (ln i) (f i) := by
  have hn : (n : Int) ≤ 140737488351232 := by have := h.2.1; omega
  have h2 := h.2.1
  have HH := Hid.mk' h
  clear h
  go_enter Tryz.func24, Tryz.ntmps24
  go_wp2_with (at_make; refine make_lists _ rfl _ _ rfl n rfl rfl (by omega) ?_; intro hrow)
  go_loopw [4] (fun i wr => ∃ (k : Nat) (B : Nat → Nat), k ≤ n ∧ i = .int .i64 k ∧ Below w.heap.size w wr ∧ wr.rowIs w.heap.size 23 n (partS B ln k) ∧ ∀ i, i < k → w.heap.size < B i ∧ Own wr (B i) (ln i) (f i)) (fun i _ => n - (intOf i).toNat)
  case atStart => exact ⟨0, fun _ => 0, Nat.zero_le _, rfl, (Below.refl _ _).alloc (Nat.le_refl _) _, hrow.congr fun j _ => by simp [partS], fun i hi => by omega⟩
  case round =>
    obtain ⟨k, B, hk, rfl, hB, hR, hO⟩ := hrel
    by_cases hlt : k < n
    · rcases HH.out.2.2.1 with h0 | ⟨b, off, rfl, hblt, hcl⟩
      · omega
      have hkn : (k : Int) < (n : Int) := by omega
      have g0 : wr.cell? ⟨b, off + k, none⟩ = some (.slice (ad k) (ln k) (cp k)) := (hB.cell (p := ⟨b, off + k, none⟩) hblt).trans (hcl k hlt)
      have HR := Hid.mk' hR
      have HO := Hid.mk' hO
      have HB := Hid.mk' hB
      have HK := Hid.mk' ((HH.out.2.2.2 k hlt).below hB)
      clear hR hcl hO
      go_wp2_with fail
      refine (toTerms _ _ _ _ (f k) HK.out).mono ?_
      rintro r w1 ⟨rfl, hb, ho⟩
      have hR1 := HR.out.of_block (hb.block w.heap.size (HR.out.lt))
      have hB1 := HB.out.trans (hb.mono HB.out.size)
      have hsz : w.heap.size < wr.heap.size := HR.out.lt
      have q0 := hR1.cell (i := k) hlt
      have fz := fun i => hR1.frozen i
      obtain ⟨V, hV⟩ : ∃ V, wr.heap.size = V := ⟨_, rfl⟩
      rw [hV] at ho ⊢
      have HN := Hid.mk' (partS_next (v := V) hR1)
      have HO2 : Hid (∀ i, i < k + 1 → w.heap.size < (if i = k then V else B i) ∧ Own w1 (if i = k then V else B i) (ln i) (f i)) := fun i hi => by
        by_cases e : i = k
        · rw [if_pos e, e]
          exact ⟨by omega, ho⟩
        · rw [if_neg e]
          have := HO.out i (by omega)
          exact ⟨this.1, this.2.below hb this.2.lt⟩
      have HB1 := Hid.mk' hB1
      clear hR1 HR hb ho HO hB1 hB
      go_wp2
      go_roundw
      case rel =>
        refine ⟨k + 1, _, by omega, by go_num, HB1.out.setCell (Nat.le_refl _) _, HN.out, fun i hi => ?_⟩
        have := HO2.out i hi
        refine ⟨this.1, this.2.of_block ?_⟩
        exact Below.heap_setCell _ _ _ _ (Nat.ne_of_gt this.1)
      case measure => simp [intOf]; omega
    · have hkn : k = n := by omega
      subst hkn
      have HR := Hid.mk' hR
      have HO := Hid.mk' hO
      clear hR hO
      go_wp2
      go_ret
      exact ⟨B, rfl, hB, HR.out, HO.out⟩
/-- what was copied can be read. -/
theorem lists_rd {w : World} {g n : Nat} {B ln : Nat → Nat} {f : Nat → Nat → T} (hR : w.rowIs g 23 n (partS B ln n)) (hO : ∀ i, i < n → Own w (B i) (ln i) (f i)) (hn : n * 40 ≤ 140737488351232) (hl : ∀ i, i < n → ln i * 40 ≤ 140737488351232) : RdS w (some ⟨g, 0, none⟩) n n (fun i => some ⟨B i, 0, none⟩) ln ln f :=
  ⟨Nat.le_refl _, hn, .inr ⟨g, 0, rfl, hR.lt, fun i hi => by
    have := hR.cell (i := i) hi
    rw [Nat.zero_add, this]
    unfold partS
    rw [if_pos hi]⟩, fun i hi => (hO i hi).rd (hl i hi)⟩
end Go.Proofs.YtbicmmbajknceaaGreat
namespace Go.Proofs.YtbicmmbajknceaaGreat
open Go.RowKit Go.Deep Go.Joins
set_option linter.unusedVariables false

/-- a list of operators is ok one by one. -/
def lstOk (n : Nat) (ln : Nat → Nat) (f : Nat → Nat → T) : Bool := decide (n ≤ 12 ∧ ∀ i, i < n → ln i ≠ 0 ∧ polOk (ln i) (f i) = true)
set_option maxHeartbeats 4000000 in
theorem lstOkI (w : World) (a : Option Addr) (n cap : Nat) (ad : Nat → Option Addr) (ln cp : Nat → Nat) (f : Nat → Nat → T) (h : RdS w a n cap ad ln cp f) :
    Calls Tryz.prog 19 #[.slice a n cap] w fun r w' => r = .returned (.bool (lstOk n ln f)) ∧ Below w.heap.size w w' := by
  have hn : (n : Int) ≤ 140737488351232 := by have := h.2.1; omega
  have HH := Hid.mk' h
  clear h
  by_cases hbig : 12 < n
  · have e : lstOk n ln f = false := decide_eq_false (fun hh => by omega)
    have hb : (12 : Int) < (n : Int) := by omega
    rw [e]
    go_enter Tryz.func19, Tryz.ntmps19
    go_wp2
    go_ret
    exact ⟨rfl, Below.refl _ _⟩
  · have hnb : ¬ (12 : Int) < (n : Int) := by omega
    go_enter Tryz.func19, Tryz.ntmps19
    go_wp2
    go_loopw [10] (fun v wr => ∃ i : Nat, i ≤ n ∧ v = .int .i64 (i : Int) ∧ Below w.heap.size w wr ∧ ∀ j, j < i → ln j ≠ 0 ∧ polOk (ln j) (f j) = true) (fun v _ => n - (intOf v).toNat)
    case atStart => exact ⟨0, Nat.zero_le _, rfl, Below.refl _ _, fun j hj => by omega⟩
    case round =>
      obtain ⟨i, hi, rfl, hB, hJ⟩ := hrel
      by_cases hlt : i < n
      · rcases HH.out.2.2.1 with h0 | ⟨b, off, rfl, hblt, hcl⟩
        · omega
        have hil : (i : Int) < (n : Int) := by omega
        have g0 : wr.cell? ⟨b, off + i, none⟩ = some (.slice (ad i) (ln i) (cp i)) := (hB.cell (p := ⟨b, off + i, none⟩) hblt).trans (hcl i hlt)
        have HK := Hid.mk' ((HH.out.2.2.2 i hlt).below hB)
        have HB := Hid.mk' hB
        have HJ := Hid.mk' hJ
        clear hcl hB hJ
        by_cases h0 : ln i = 0
        · have HE : Hid (lstOk n ln f = false) := decide_eq_false (fun hh => (hh.2 i hlt).1 h0)
          have hz : ((ln i : Int) == 0) = true := by rw [h0]; rfl
          clear h0
          go_wp2
          go_ret
          exact ⟨congrArg (fun z => Ending.returned (Value.bool z)) HE.out.symm, HB.out⟩
        · have hz : ((ln i : Int) == 0) = false := by rw [beq_eq_false_iff_ne]; omega
          have HZ := Hid.mk' h0
          clear h0
          cases hp : polOk (ln i) (f i)
          · have HE : Hid (lstOk n ln f = false) := decide_eq_false (fun hh => by have := (hh.2 i hlt).2; rw [hp] at this; cases this)
            go_wp2_with fail
            refine (polOkI _ _ _ _ (f i) HK.out).mono ?_
            rw [hp]
            rintro r w1 ⟨rfl, hb⟩
            have HB1 := Hid.mk' (bel_next HB.out hb)
            clear hb
            go_wp2
            go_ret
            exact ⟨congrArg (fun z => Ending.returned (Value.bool z)) HE.out.symm, HB1.out⟩
          · go_wp2_with fail
            refine (polOkI _ _ _ _ (f i) HK.out).mono ?_
            rw [hp]
            rintro r w1 ⟨rfl, hb⟩
            have HB1 := Hid.mk' (bel_next HB.out hb)
            clear hb
            go_wp2
            go_roundw
            case rel => exact ⟨i + 1, by omega, by go_num, HB1.out, fun j hj => by
              by_cases e : j = i
              · rw [e]; exact ⟨HZ.out, hp⟩
              · exact HJ.out j (by omega)⟩
            case measure => simp [intOf]; omega
      · have hnl : ¬ (i : Int) < (n : Int) := by omega
        have hie : i = n := by omega
        subst hie
        have HE : Hid (lstOk i ln f = true) := decide_eq_true ⟨by omega, hJ⟩
        have HB := Hid.mk' hB
        clear hB hJ
        go_wp2
        go_ret
        exact ⟨congrArg (fun z => Ending.returned (Value.bool z)) HE.out.symm, HB.out⟩
set_option maxHeartbeats 4000000 in
theorem lstOkS (w : World) (a : Option Addr) (n cap : Nat) (ad : Nat → Option Addr) (ln cp : Nat → Nat) (f : Nat → Nat → T) (h : RdS w a n cap ad ln cp f) :
    Calls Tryz.prog 51 #[.slice a n cap] w fun r w' => r = .returned (.bool (lstOk n ln f)) ∧ Below w.heap.size w w' := by
  have hn : (n : Int) ≤ 140737488351232 := by have := h.2.1; omega
  have HH := Hid.mk' h
  clear h
  by_cases hbig : 12 < n
  · have e : lstOk n ln f = false := decide_eq_false (fun hh => by omega)
    have hb : (12 : Int) < (n : Int) := by omega
    rw [e]
    go_enter Tryz.func51, Tryz.ntmps51
    go_wp2
    go_ret
    exact ⟨rfl, Below.refl _ _⟩
  · have hnb : ¬ (12 : Int) < (n : Int) := by omega
    go_enter Tryz.func51, Tryz.ntmps51
    go_wp2
    go_loopw [3] (fun v wr => ∃ i : Nat, i ≤ n ∧ v = .int .i64 (i : Int) ∧ Below w.heap.size w wr ∧ ∀ j, j < i → ln j ≠ 0 ∧ polOk (ln j) (f j) = true) (fun v _ => n - (intOf v).toNat)
    case atStart => exact ⟨0, Nat.zero_le _, rfl, Below.refl _ _, fun j hj => by omega⟩
    case round =>
      obtain ⟨i, hi, rfl, hB, hJ⟩ := hrel
      by_cases hlt : i < n
      · rcases HH.out.2.2.1 with h0 | ⟨b, off, rfl, hblt, hcl⟩
        · omega
        have hil : (i : Int) < (n : Int) := by omega
        have g0 : wr.cell? ⟨b, off + i, none⟩ = some (.slice (ad i) (ln i) (cp i)) := (hB.cell (p := ⟨b, off + i, none⟩) hblt).trans (hcl i hlt)
        have HG : Hid (∀ w', Below wr.heap.size wr w' → w'.cell? ⟨b, off + i, none⟩ = some (.slice (ad i) (ln i) (cp i))) := fun w' hb => (hb.cell (p := ⟨b, off + i, none⟩) (Nat.lt_of_lt_of_le hblt hB.size)).trans g0
        have HK := Hid.mk' ((HH.out.2.2.2 i hlt).below hB)
        have HB := Hid.mk' hB
        have HJ := Hid.mk' hJ
        clear hcl hB hJ
        cases hp : polOk (ln i) (f i)
        · have HE : Hid (lstOk n ln f = false) := decide_eq_false (fun hh => by have := (hh.2 i hlt).2; rw [hp] at this; cases this)
          go_wp2_with fail
          refine (polOkS _ _ _ _ (f i) HK.out).mono ?_
          rw [hp]
          rintro r w1 ⟨rfl, hb⟩
          have HB1 := Hid.mk' (bel_next HB.out hb)
          clear hb
          go_wp2
          go_ret
          exact ⟨congrArg (fun z => Ending.returned (Value.bool z)) HE.out.symm, HB1.out⟩
        · go_wp2_with fail
          refine (polOkS _ _ _ _ (f i) HK.out).mono ?_
          rw [hp]
          rintro r w1 ⟨rfl, hb⟩
          have HB1 := Hid.mk' (bel_next HB.out hb)
          have g1 := HG.out w1 hb
          clear hb g0
          by_cases h0 : ln i = 0
          · have HE : Hid (lstOk n ln f = false) := decide_eq_false (fun hh => (hh.2 i hlt).1 h0)
            have hz : ((ln i : Int) == 0) = true := by rw [h0]; rfl
            clear h0
            go_wp2
            go_ret
            exact ⟨congrArg (fun z => Ending.returned (Value.bool z)) HE.out.symm, HB1.out⟩
          · have hz : ((ln i : Int) == 0) = false := by rw [beq_eq_false_iff_ne]; omega
            have HZ := Hid.mk' h0
            clear h0
            go_wp2
            go_roundw
            case rel => exact ⟨i + 1, by omega, by go_num, HB1.out, fun j hj => by
              by_cases e : j = i
              · rw [e]; exact ⟨HZ.out, hp⟩
              · exact HJ.out j (by omega)⟩
            case measure => simp [intOf]; omega
      · have hnl : ¬ (i : Int) < (n : Int) := by omega
        have hie : i = n := by omega
        subst hie
        have HE : Hid (lstOk i ln f = true) := decide_eq_true ⟨by omega, hJ⟩
        have HB := Hid.mk' hB
        clear hB hJ
        go_wp2
        go_ret
        exact ⟨congrArg (fun z => Ending.returned (Value.bool z)) HE.out.symm, HB.out⟩
/-- two copies of the same lists are the same. -/
theorem eqLists (w : World) (a a' : Option Addr) (n cap cap' : Nat) (ad ad' : Nat → Option Addr) (ln cp cp' : Nat → Nat) (f : Nat → Nat → T) (h : RdS w a n cap ad ln cp f) (h' : RdS w a' n cap' ad' ln cp' f) :
    Calls Tryz.prog 26 #[.slice a n cap, .slice a' n cap'] w fun r w' => r = .returned (.bool true) ∧ Below w.heap.size w w' := by
  have hn : (n : Int) ≤ 140737488351232 := by have := h.2.1; omega
  have HH := Hid.mk' h
  have HH' := Hid.mk' h'
  clear h h'
  go_enter Tryz.func26, Tryz.ntmps26
  go_wp2
  go_loopw [5] (fun v wr => ∃ i : Nat, i ≤ n ∧ v = .int .i64 (i : Int) ∧ Below w.heap.size w wr) (fun v _ => n - (intOf v).toNat)
  case atStart => exact ⟨0, Nat.zero_le _, rfl, Below.refl _ _⟩
  case round =>
    obtain ⟨i, hi, rfl, hB⟩ := hrel
    by_cases hlt : i < n
    · rcases HH.out.2.2.1 with h0 | ⟨b, off, rfl, hblt, hcl⟩
      · omega
      rcases HH'.out.2.2.1 with h0 | ⟨b', off', rfl, hblt', hcl'⟩
      · omega
      have hil : (i : Int) < (n : Int) := by omega
      have hbr : b < wr.heap.size := Nat.lt_of_lt_of_le hblt hB.size
      have hbr' : b' < wr.heap.size := Nat.lt_of_lt_of_le hblt' hB.size
      have ne := Ext.there wr
      have g0 : wr.cell? ⟨b, off + i, none⟩ = some (.slice (ad i) (ln i) (cp i)) := (hB.cell (p := ⟨b, off + i, none⟩) hblt).trans (hcl i hlt)
      have g1 : wr.cell? ⟨b', off' + i, none⟩ = some (.slice (ad' i) (ln i) (cp' i)) := (hB.cell (p := ⟨b', off' + i, none⟩) hblt').trans (hcl' i hlt)
      have s0 : ∀ u : Ext wr, u.1.cell? ⟨b, off + i, none⟩ = some (.slice (ad i) (ln i) (cp i)) := fun u => (u.cell hbr).trans g0
      have s1 : ∀ u : Ext wr, u.1.cell? ⟨b', off' + i, none⟩ = some (.slice (ad' i) (ln i) (cp' i)) := fun u => (u.cell hbr').trans g1
      have HK := Hid.mk' ((HH.out.2.2.2 i hlt).below hB)
      have HK' := Hid.mk' ((HH'.out.2.2.2 i hlt).below hB)
      have HB := Hid.mk' hB
      have hcall : ∀ u : Ext wr, Calls Tryz.prog 68 #[.slice (ad i) (ln i) (cp i), .slice (ad' i) (ln i) (cp' i)] u.1 fun r w' => r = .returned (.bool true) ∧ Below u.1.heap.size u.1 w' := fun u => by
        have := eqTerms u.1 (ad i) (ad' i) (ln i) (cp i) (ln i) (cp' i) (f i) (f i) (HK.out.below u.2) (HK'.out.below u.2)
        rw [show termsEq (ln i) (f i) (ln i) (f i) = true from decide_eq_true ⟨rfl, fun j _ => T.eqB_iff.2 rfl⟩] at this
        exact this
      clear hcl hcl' hB g0 g1
      go_wp2_with fail
      refine wp_region_ext (by kernel_rfl) (by kernel_rfl) ?_
      repeat (go_big_quiet_step (first | (go_at_call 68; exact ext_grows (hcall _)) | fail))
      refine wpQuiet_nil ?_
      rintro _ ⟨v, rfl⟩
      have HV := Hid.mk' v.2
      clear s0 s1 ne hcall
      go_wp2
      go_roundw
      case rel => exact ⟨i + 1, by omega, by go_num, bel_next HB.out HV.out⟩
      case measure => simp [intOf]; omega
    · have hnl : ¬ (i : Int) < (n : Int) := by omega
      go_wp2
      go_ret
      exact ⟨rfl, hB⟩
end Go.Proofs.YtbicmmbajknceaaGreat
namespace Go.Proofs.YtbicmmbajknceaaGreat
open Go.RowKit
set_option linter.unusedVariables false

theorem M4.ext {w : World} {b : Nat} {x y d e : Int} (h : M4 w b x y d e) : (∀ u : Ext w, u.1.cell? ⟨b, 0, none⟩ = some (.int .i64 x)) ∧ (∀ u : Ext w, u.1.cell? ⟨b, 1, none⟩ = some (.int .i64 y)) ∧ (∀ u : Ext w, u.1.cell? ⟨b, 2, none⟩ = some (.int .i64 d)) ∧ (∀ u : Ext w, u.1.cell? ⟨b, 3, none⟩ = some (.int .i64 e)) :=
  ⟨fun u => (u.cell h.lt).trans h.1, fun u => (u.cell h.lt).trans h.2.1, fun u => (u.cell h.lt).trans h.2.2.1, fun u => (u.cell h.lt).trans h.2.2.2⟩
theorem heOneT (w : World) : Calls Tryz.prog 21 #[] w fun e w' => e = .returned (.slice (some ⟨w.heap.size, 0, none⟩) 1 1) ∧ w' = w.alloc (.cells #[.int .i64 1, .int .i64 0, .int .i64 0, .int .i64 0, .int .i64 0] 33) := by
  go_enter Tryz.func21, Tryz.ntmps21
  go_wp2
  go_ret
  exact ⟨rfl, rfl⟩
theorem heOkT (w : World) : Calls Tryz.prog 11 #[] w fun e w' => e = .returned (.bool true) ∧ Below w.heap.size w w' := by
  have hb0 : Below w.heap.size w (w.alloc (.cells #[.int .i64 1, .int .i64 0, .int .i64 0, .int .i64 0, .int .i64 0] 33)) := (Below.refl _ _).alloc (Nat.le_refl _) _
  have hr : Rd (w.alloc (.cells #[.int .i64 1, .int .i64 0, .int .i64 0, .int .i64 0, .int .i64 0] 33)) (some ⟨w.heap.size, 0, none⟩) 1 1 (fun _ => ⟨1, 0, 0, 0, 0⟩) := by
    refine ⟨Nat.le_refl _, by omega, .inr ⟨w.heap.size, 0, rfl, by simp, fun i hi => ?_⟩⟩
    obtain rfl : i = 0 := by omega
    exact ⟨by rw [World.cell?_alloc_at _ _ _ _ rfl]; rfl, by rw [World.cell?_alloc_at _ _ _ _ rfl]; rfl, by rw [World.cell?_alloc_at _ _ _ _ rfl]; rfl, by rw [World.cell?_alloc_at _ _ _ _ rfl]; rfl, by rw [World.cell?_alloc_at _ _ _ _ rfl]; rfl⟩
  have hp : polOk 1 (fun _ => ⟨1, 0, 0, 0, 0⟩) = true := by
    simp only [polOk, decide_eq_true_eq]
    refine ⟨by omega, fun i hi => ?_⟩
    obtain rfl : i = 0 := by omega
    decide
  go_enter Tryz.func11, Tryz.ntmps11
  go_wp2_with fail
  refine (heOneT _).mono ?_
  rintro e w1 ⟨rfl, rfl⟩
  generalize (w.alloc (.cells #[.int .i64 1, .int .i64 0, .int .i64 0, .int .i64 0, .int .i64 0] 33)) = w1 at hb0 hr ⊢
  go_wp2_with fail
  refine (polOkI _ _ _ _ _ hr).mono ?_
  rw [hp]
  rintro e w2 ⟨rfl, b2⟩
  have bz := hb0.trans (b2.mono hb0.size)
  clear hr hp hb0 b2
  go_wp2
  go_ret
  exact ⟨rfl, bz⟩
theorem monMulI_of {x y d e x' y' d' e' : Int} {m : M} {b : Bool} (h : M.mul ⟨x, y, d, e⟩ ⟨x', y', d', e'⟩ = (m, b)) (w : World) :
    Calls Tryz.prog 122 #[.agg #[.int .i64 x, .int .i64 y, .int .i64 d, .int .i64 e], .agg #[.int .i64 x', .int .i64 y', .int .i64 d', .int .i64 e']] w fun r w' => r = .returned (.tuple #[.agg #[.int .i64 m.x, .int .i64 m.y, .int .i64 m.d, .int .i64 m.e], .bool b]) ∧ Below w.heap.size w w' := by
  have := monMulI x y d e x' y' d' e' w
  rw [h] at this; exact this
theorem monMulS_of {x y d e x' y' d' e' : Int} {m : M} {b : Bool} (h : M.mul ⟨x, y, d, e⟩ ⟨x', y', d', e'⟩ = (m, b)) (w : World) :
    Calls Tryz.prog 118 #[.agg #[.int .i64 x, .int .i64 y, .int .i64 d, .int .i64 e], .agg #[.int .i64 x', .int .i64 y', .int .i64 d', .int .i64 e']] w fun r w' => r = .returned (.tuple #[.agg #[.int .i64 m.x, .int .i64 m.y, .int .i64 m.d, .int .i64 m.e], .bool b]) ∧ Below w.heap.size w w' := by
  have := monMulS x y d e x' y' d' e' w
  rw [h] at this; exact this
theorem monOverI_of {x y d e x' y' d' e' : Int} {m : M} {b : Bool} (h : M.over ⟨x, y, d, e⟩ ⟨x', y', d', e'⟩ = (m, b)) (w : World) :
    Calls Tryz.prog 138 #[.agg #[.int .i64 x, .int .i64 y, .int .i64 d, .int .i64 e], .agg #[.int .i64 x', .int .i64 y', .int .i64 d', .int .i64 e']] w fun r w' => r = .returned (.tuple #[.agg #[.int .i64 m.x, .int .i64 m.y, .int .i64 m.d, .int .i64 m.e], .bool b]) ∧ Below w.heap.size w w' := by
  have := monOverI x y d e x' y' d' e' w
  rw [h] at this; exact this
theorem monOverS_of {x y d e x' y' d' e' : Int} {m : M} {b : Bool} (h : M.over ⟨x, y, d, e⟩ ⟨x', y', d', e'⟩ = (m, b)) (w : World) :
    Calls Tryz.prog 116 #[.agg #[.int .i64 x, .int .i64 y, .int .i64 d, .int .i64 e], .agg #[.int .i64 x', .int .i64 y', .int .i64 d', .int .i64 e']] w fun r w' => r = .returned (.tuple #[.agg #[.int .i64 m.x, .int .i64 m.y, .int .i64 m.d, .int .i64 m.e], .bool b]) ∧ Below w.heap.size w w' := by
  have := monOverS x y d e x' y' d' e' w
  rw [h] at this; exact this
theorem monBothI_of {x y d e x' y' d' e' : Int} {m : M} (h : M.both ⟨x, y, d, e⟩ ⟨x', y', d', e'⟩ = m) (w : World) :
    Calls Tryz.prog 13 #[.agg #[.int .i64 x, .int .i64 y, .int .i64 d, .int .i64 e], .agg #[.int .i64 x', .int .i64 y', .int .i64 d', .int .i64 e']] w fun r w' => r = .returned (.agg #[.int .i64 m.x, .int .i64 m.y, .int .i64 m.d, .int .i64 m.e]) ∧ Below w.heap.size w w' := by
  have := monBothI x y d e x' y' d' e' w
  rw [h] at this; exact this
theorem monBothS_of {x y d e x' y' d' e' : Int} {m : M} (h : M.both ⟨x, y, d, e⟩ ⟨x', y', d', e'⟩ = m) (w : World) :
    Calls Tryz.prog 82 #[.agg #[.int .i64 x, .int .i64 y, .int .i64 d, .int .i64 e], .agg #[.int .i64 x', .int .i64 y', .int .i64 d', .int .i64 e']] w fun r w' => r = .returned (.agg #[.int .i64 m.x, .int .i64 m.y, .int .i64 m.d, .int .i64 m.e]) ∧ Below w.heap.size w w' := by
  have := monBothS x y d e x' y' d' e' w
  rw [h] at this; exact this
theorem monDegS_of {x y d e n : Int} (h : M.deg ⟨x, y, d, e⟩ = n) (w : World) :
    Calls Tryz.prog 140 #[.agg #[.int .i64 x, .int .i64 y, .int .i64 d, .int .i64 e]] w fun r w' => r = .returned (.int .i64 n) ∧ Below w.heap.size w w' := by
  have := monDegS x y d e w
  rw [h] at this; exact this
theorem monCmpI_of {o x y d e x' y' d' e' n : Int} (h : M.cmp o ⟨x, y, d, e⟩ ⟨x', y', d', e'⟩ = n) (w : World) :
    Calls Tryz.prog 14 #[.int .i64 o, .agg #[.int .i64 x, .int .i64 y, .int .i64 d, .int .i64 e], .agg #[.int .i64 x', .int .i64 y', .int .i64 d', .int .i64 e']] w fun r w' => r = .returned (.int .i64 n) ∧ Below w.heap.size w w' := by
  have := monCmpI o x y d e x' y' d' e' w
  rw [h] at this; exact this
theorem M.mul_cases (a b : M) : (M.mul a b = (⟨0, 0, 0, 0⟩, false) ∧ M.mul b a = (⟨0, 0, 0, 0⟩, false)) ∨ (a.ok = true ∧ b.ok = true ∧ (M.sum a b).ok = true ∧ M.mul a b = (⟨a.x + b.x, a.y + b.y, a.d + b.d, a.e + b.e⟩, true) ∧ M.mul b a = (⟨a.x + b.x, a.y + b.y, a.d + b.d, a.e + b.e⟩, true)) := by
  have hc : M.sum b a = M.sum a b := by simp [M.sum, Int.add_comm]
  by_cases h : a.ok = true ∧ b.ok = true ∧ (M.sum a b).ok = true
  · refine .inr ⟨h.1, h.2.1, h.2.2, ?_, ?_⟩
    · rw [M.mul, if_pos h]; rfl
    · rw [M.mul, hc, if_pos ⟨h.2.1, h.1, h.2.2⟩]; rfl
  · refine .inl ⟨?_, ?_⟩
    · rw [M.mul, if_neg h]; rfl
    · rw [M.mul, hc, if_neg (fun k => h ⟨k.2.1, k.1, k.2.2⟩)]; rfl
theorem M.deg_bd {m : M} (h : m.ok = true) : m.deg = m.x + m.y + m.d + m.e ∧ 0 ≤ m.deg ∧ m.deg ≤ 60 := by
  have := M.ok_iff.1 h
  rw [M.deg, if_pos h]
  exact ⟨rfl, by omega, by omega⟩
theorem mx_comm (a b : Int) : mx a b = mx b a := by unfold mx; split <;> split <;> omega
theorem M.both_comm (a b : M) : M.both a b = M.both b a := by
  unfold M.both
  by_cases h : a.ok = true ∧ b.ok = true
  · rw [if_pos h, if_pos h.symm, mx_comm a.x, mx_comm a.y, mx_comm a.d, mx_comm a.e]
  · rw [if_neg h, if_neg (fun k => h k.symm)]
theorem M.dvd_mk {a b : M} (ha : a.ok = true) (hb : b.ok = true) (h : a.x ≤ b.x ∧ a.y ≤ b.y ∧ a.d ≤ b.d ∧ a.e ≤ b.e) : a.dvd b = true := by
  simp [M.dvd, ha, hb, h]
theorem mx_bd {a b l h : Int} (ha : l ≤ a ∧ a ≤ h) (hb : l ≤ b ∧ b ≤ h) : l ≤ mx a b ∧ mx a b ≤ h ∧ a ≤ mx a b ∧ b ≤ mx a b := by unfold mx; split <;> omega
theorem mx_le {a b c : Int} (ha : a ≤ c) (hb : b ≤ c) : mx a b ≤ c := by unfold mx; split <;> omega
theorem M.both_facts {a b p : M} (ha : a.ok = true) (hb : b.ok = true) (hp : M.both a b = p) : a.dvd p = true ∧ b.dvd p = true ∧ (∀ c : M, a.dvd c = true → b.dvd c = true → p.dvd c = true) ∧ M.both a a = a := by
  rw [M.both, if_pos ⟨ha, hb⟩] at hp
  subst hp
  have ka := M.ok_iff.1 ha
  have kb := M.ok_iff.1 hb
  have hx := mx_bd (a := a.x) (b := b.x) (l := 0) (h := 15) (by omega) (by omega)
  have hy := mx_bd (a := a.y) (b := b.y) (l := 0) (h := 15) (by omega) (by omega)
  have hd := mx_bd (a := a.d) (b := b.d) (l := 0) (h := 15) (by omega) (by omega)
  have he := mx_bd (a := a.e) (b := b.e) (l := 0) (h := 15) (by omega) (by omega)
  have hok : M.ok ⟨mx a.x b.x, mx a.y b.y, mx a.d b.d, mx a.e b.e⟩ = true := M.ok_iff.2 (by dsimp only; omega)
  refine ⟨M.dvd_mk ha hok (by dsimp only; omega), M.dvd_mk hb hok (by dsimp only; omega), fun c h1 h2 => ?_, ?_⟩
  · have k1 := M.dvd_iff h1
    have k2 := M.dvd_iff h2
    exact M.dvd_mk hok k1.2.1 ⟨mx_le k1.2.2.1 k2.2.2.1, mx_le k1.2.2.2.1 k2.2.2.2.1, mx_le k1.2.2.2.2.1 k2.2.2.2.2.1, mx_le k1.2.2.2.2.2 k2.2.2.2.2.2⟩
  · rw [M.both, if_pos ⟨ha, ha⟩]
    have : ∀ z : Int, mx z z = z := fun z => by unfold mx; split <;> rfl
    simp only [this]
end Go.Proofs.YtbicmmbajknceaaGreat
