/-
  Slices of slices of terms: how they are read, copied, counted and held against each other.
  Lists of operators: which are ok, and which are the same.
  How the rows' readings of lists of operators are opened.
-/
import Derived.Test.YtoglomfejgpoeaaGreatDoorGaf
import Derived.Test.YtoglomfejgpoeaaGreatDoorGak
import Derived.Test.YtoglomfejgpoeaaGreatDoorGan
import Derived.ProofKit
import Derived.Deep.Slices
import Derived.Lib.SmallJoins
namespace Go.Proofs.YtoglomfejgpoeaaGreatDoor
open Go.RowKit Go.Deep Go.Joins
set_option linter.unusedVariables false

/-- a slice of slices of terms that can be read. -/
def RdS (w : World) (a : Option Addr) (n cap : Nat) (ad : Nat → Option Addr) (ln cp : Nat → Nat) (f : Nat → Nat → T) : Prop :=
  n ≤ cap ∧ n * 40 ≤ 140737488351232 ∧ (n = 0 ∨ ∃ b off, a = some ⟨b, off, none⟩ ∧ b < w.heap.size ∧ ∀ i, i < n → w.cell? ⟨b, off + i, none⟩ = some (.slice (ad i) (ln i) (cp i))) ∧ ∀ i, i < n → Rd w (ad i) (ln i) (cp i) (f i)
theorem RdS.below {w w' : World} {a : Option Addr} {n cap : Nat} {ad : Nat → Option Addr} {ln cp : Nat → Nat} {f : Nat → Nat → T} (h : RdS w a n cap ad ln cp f) (hb : Below w.heap.size w w') : RdS w' a n cap ad ln cp f := by
  refine ⟨h.1, h.2.1, ?_, fun i hi => (h.2.2.2 i hi).below hb⟩
  rcases h.2.2.1 with h0 | ⟨b, off, he, hlt, hc⟩
  · exact .inl h0
  · exact .inr ⟨b, off, he, Nat.lt_of_lt_of_le hlt hb.size, fun i hi => (hb.cell (p := ⟨b, off + i, none⟩) hlt).trans (hc i hi)⟩
set_option maxHeartbeats 4000000 in
theorem szLists (a : Option Addr) (n cap : Nat) (ad : Nat → Option Addr) (ln cp : Nat → Nat) (l : Int) (w : World) (hn : (n : Int) ≤ 9223372036854775807) (hl : 0 ≤ l) (hl' : l ≤ 1048576) (h3 : n = 0 ∨ ∃ b off, a = some ⟨b, off, none⟩ ∧ b < w.heap.size ∧ ∀ i, i < n → w.cell? ⟨b, off + i, none⟩ = some (.slice (ad i) (ln i) (cp i))) (hln : ∀ i, i < n → (ln i : Int) ≤ 9223372036854775807) :
    Calls Tryz.prog 13 #[.slice a n cap, .int .i64 l] w fun r w' => ∃ z : Int, r = .returned (.int .i64 z) ∧ w' = w ∧ z ≤ l ∧ (0 ≤ z → (n : Int) ≤ l ∧ ∀ i, i < n → (ln i : Int) ≤ l) := by
  by_cases hneg : l - n < 0
  · go_enter Tryz.func13, Tryz.ntmps13
    go_wp2
    go_ret
    exact ⟨-1, rfl, rfl, by omega, fun h => by omega⟩
  · go_enter Tryz.func13, Tryz.ntmps13
    go_wp2
    go_loopw [1, 5] (fun lv iv wr => ∃ (i : Nat) (z : Int), i ≤ n ∧ iv = .int .i64 (i : Int) ∧ lv = .int .i64 z ∧ 0 ≤ z ∧ z ≤ l ∧ (∀ j, j < i → (ln j : Int) ≤ l) ∧ wr = w) (fun _ v _ => n - (intOf v).toNat)
    case atStart => exact ⟨0, l - n, Nat.zero_le _, rfl, rfl, by omega, by omega, fun j hj => by omega, rfl⟩
    case round =>
      obtain ⟨i, z, hi, rfl, rfl, z0, z1, hj, rfl⟩ := hrel
      have HJ := Hid.mk' hj
      clear hj
      by_cases hlt : i < n
      · rcases h3 with h0 | ⟨b, off, rfl, hblt, hcl⟩
        · omega
        have hil : (i : Int) < (n : Int) := by omega
        have hc := hcl i hlt
        have hli := hln i hlt
        clear hcl hln
        go_wp2_with fail
        refine (szTerms _ _ _ _ _ hli z0 (by omega)).mono ?_
        by_cases hz : z - ln i < 0
        · rw [if_pos hz]
          rintro e w' ⟨rfl, rfl⟩
          go_wp2
          go_ret
          exact ⟨-1, rfl, rfl, by omega, fun h => by omega⟩
        · rw [if_neg hz]
          obtain ⟨y, hy⟩ : ∃ y, z - (ln i : Int) = y := ⟨_, rfl⟩
          rw [hy]
          rintro e w' ⟨rfl, rfl⟩
          have hy0 : ¬ y < 0 := by omega
          go_wp2
          go_roundw
          case rel => exact ⟨i + 1, y, by omega, by go_num, rfl, by omega, by omega, fun j hj => by
            by_cases e : j = i
            · rw [e]; omega
            · exact HJ.out j (by omega), by first | trivial | rfl⟩
          case measure => simp [intOf]; omega
      · have hnl : ¬ (i : Int) < (n : Int) := by omega
        have hie : i = n := by omega
        subst hie
        go_wp2
        go_ret
        exact ⟨z, rfl, rfl, z1, fun _ => ⟨by omega, HJ.out⟩⟩
theorem infoS : (Tryz.prog.info? 22).map (fun i => (i.zero, i.size, i.bytes)) = some (some (.slice none 0 0), 1, 24) := by kernel_rfl
theorem make_lists {ops : Array Oper} {rest : List Oper} {o : Oper} {a : Act} {Q : Exit → Act → World → Prop} (w : World)
    (hg : o.guard = none) (l c : Operand) (hop : o.op = Op.makeSlice 38 l c)
    (n : Nat) (hl : a.eval l = .int .i64 (n : Int)) (hc : a.eval c = .int .i64 (n : Int)) (hbytes : n * 40 ≤ 140737488351232)
    (hK : (w.alloc (.cells (madeCells #[.slice none 0 0] n) 22)).rowIs w.heap.size 22 n (fun _ => .slice none 0 0) → wpList Tryz.prog ops Q rest (a.put o.dst (.slice (some ⟨w.heap.size, 0, none⟩) n n)) (w.alloc (.cells (madeCells #[.slice none 0 0] n) 22))) :
    wpList Tryz.prog ops Q (o :: rest) a w := by
  obtain ⟨i, hi, hzz⟩ := Option.map_eq_some_iff.1 infoS
  simp only [Prod.mk.injEq] at hzz
  obtain ⟨hz, hs, hb⟩ := hzz
  refine wpList_plain hg fun K hK' => ?_
  have hr := run_make (P := Tryz.prog) w 38 22 i _ Tryz.underlying38 hi hz .i64 .i64 (n : Int) (n : Int) (by omega) (Int.le_refl _) (by rw [hb]; omega) (by omega)
  simp only [Int.toNat_natCast, hs, Value.cells, Nat.mul_one] at hr
  unfold Oper.wp
  simp [execOp, hop, hl, hc, hr, Result.andThen]
  refine hK' _ _ (hK ?_)
  refine ⟨_, Go.Deep.blk_alloc_new _ _, size_madeCells _ _, fun j hj => ?_⟩
  simp [madeCells, hj, Nat.mod_one]
/-- the first k slices stand, the rest are nil. -/
def partS (B ln : Nat → Nat) (k j : Nat) : Value := if j < k then .slice (some ⟨B j, 0, none⟩) (ln j) (ln j) else .slice none 0 0
theorem partS_next {w : World} {g n k : Nat} {B ln : Nat → Nat} {v : Nat} (h : w.rowIs g 22 n (partS B ln k)) :
    (w.setCell ⟨g, k, none⟩ (.slice (some ⟨v, 0, none⟩) (ln k) (ln k))).rowIs g 22 n (partS (fun j => if j = k then v else B j) ln (k + 1)) := by
  refine (h.set _ _).congr fun j hj => ?_
  by_cases e : j = k
  · subst e
    simp [partS]
  · unfold partS
    by_cases hl : j < k
    · rw [if_pos (show j < k + 1 by omega)]
      simp [e, hl]
    · rw [if_neg (show ¬ j < k + 1 by omega)]
      simp [e, hl]
set_option maxHeartbeats 4000000 in
theorem toLists (w : World) (a : Option Addr) (n cap : Nat) (ad : Nat → Option Addr) (ln cp : Nat → Nat) (f : Nat → Nat → T) (h : RdS w a n cap ad ln cp f) :
    Calls Tryz.prog 16 #[.slice a n cap] w fun r w' => ∃ B : Nat → Nat, r = .returned (.slice (some ⟨w.heap.size, 0, none⟩) n n) ∧ Below w.heap.size w w' ∧ w'.rowIs w.heap.size 22 n (partS B ln n) ∧ ∀ i, i < n → w.heap.size < B i ∧ Own w' (B i) (ln i) (f i) := by
  have hn : (n : Int) ≤ 140737488351232 := by have := h.2.1; omega
  have h2 := h.2.1
  have HH := Hid.mk' h
  clear h
  go_enter Tryz.func16, Tryz.ntmps16
  go_wp2_with (at_make; refine make_lists _ rfl _ _ rfl n rfl rfl (by omega) ?_; intro hrow)
  go_loopw [4] (fun i wr => ∃ (k : Nat) (B : Nat → Nat), k ≤ n ∧ i = .int .i64 k ∧ Below w.heap.size w wr ∧ wr.rowIs w.heap.size 22 n (partS B ln k) ∧ ∀ i, i < k → w.heap.size < B i ∧ Own wr (B i) (ln i) (f i)) (fun i _ => n - (intOf i).toNat)
  case atStart => exact ⟨0, fun _ => 0, Nat.zero_le _, rfl, (Below.refl _ _).alloc (Nat.le_refl _) _, hrow.congr fun j _ => by simp [partS], fun i hi => by omega⟩
  case round =>
    obtain ⟨k, B, hk, rfl, hB, hR, hO⟩ := hrel
    by_cases hlt : k < n
    · rcases HH.out.2.2.1 with h0 | ⟨b, off, rfl, hblt, hcl⟩
      · omega
      have hkn : (k : Int) < (n : Int) := by omega
      have g0 : wr.cell? ⟨b, off + k, none⟩ = some (.slice (ad k) (ln k) (cp k)) := (hB.cell (p := ⟨b, off + k, none⟩) hblt).trans (hcl k hlt)
      have HR := Hid.mk' hR
      have HO := Hid.mk' hO
      have HB := Hid.mk' hB
      have HK := Hid.mk' ((HH.out.2.2.2 k hlt).below hB)
      clear hR hcl hO
      go_wp2_with fail
      refine (toTerms _ _ _ _ (f k) HK.out).mono ?_
      rintro r w1 ⟨rfl, hb, ho⟩
      have hR1 := HR.out.of_block (hb.block w.heap.size (HR.out.lt))
      have hB1 := HB.out.trans (hb.mono HB.out.size)
      have hsz : w.heap.size < wr.heap.size := HR.out.lt
      have q0 := hR1.cell (i := k) hlt
      have fz := fun i => hR1.frozen i
      obtain ⟨V, hV⟩ : ∃ V, wr.heap.size = V := ⟨_, rfl⟩
      rw [hV] at ho ⊢
      have HN := Hid.mk' (partS_next (v := V) hR1)
      have HO2 : Hid (∀ i, i < k + 1 → w.heap.size < (if i = k then V else B i) ∧ Own w1 (if i = k then V else B i) (ln i) (f i)) := fun i hi => by
        by_cases e : i = k
        · rw [if_pos e, e]
          exact ⟨by omega, ho⟩
        · rw [if_neg e]
          have := HO.out i (by omega)
          exact ⟨this.1, this.2.below hb this.2.lt⟩
      have HB1 := Hid.mk' hB1
      clear hR1 HR hb ho HO hB1 hB
      go_wp2
      go_roundw
      case rel =>
        refine ⟨k + 1, _, by omega, by go_num, HB1.out.setCell (Nat.le_refl _) _, HN.out, fun i hi => ?_⟩
        have := HO2.out i hi
        refine ⟨this.1, this.2.of_block ?_⟩
        exact Below.heap_setCell _ _ _ _ (Nat.ne_of_gt this.1)
      case measure => simp [intOf]; omega
    · have hkn : k = n := by omega
      subst hkn
      have HR := Hid.mk' hR
      have HO := Hid.mk' hO
      clear hR hO
      go_wp2
      go_ret
      exact ⟨B, rfl, hB, HR.out, HO.out⟩
/-- what was copied can be read. -/
theorem lists_rd {w : World} {g n : Nat} {B ln : Nat → Nat} {f : Nat → Nat → T} (hR : w.rowIs g 22 n (partS B ln n)) (hO : ∀ i, i < n → Own w (B i) (ln i) (f i)) (hn : n * 40 ≤ 140737488351232) (hl : ∀ i, i < n → ln i * 40 ≤ 140737488351232) : RdS w (some ⟨g, 0, none⟩) n n (fun i => some ⟨B i, 0, none⟩) ln ln f :=
  ⟨Nat.le_refl _, hn, .inr ⟨g, 0, rfl, hR.lt, fun i hi => by
    have := hR.cell (i := i) hi
    rw [Nat.zero_add, this]
    unfold partS
    rw [if_pos hi]⟩, fun i hi => (hO i hi).rd (hl i hi)⟩
end Go.Proofs.YtoglomfejgpoeaaGreatDoor
namespace Go.Proofs.YtoglomfejgpoeaaGreatDoor
open Go.RowKit Go.Deep Go.Joins
set_option linter.unusedVariables false

/-- a list of operators is ok one by one. -/
def lstOk (n : Nat) (ln : Nat → Nat) (f : Nat → Nat → T) : Bool := decide (n ≤ 12 ∧ ∀ i, i < n → ln i ≠ 0 ∧ polOk (ln i) (f i) = true)
/-- two copies of the same lists are the same. -/
theorem eqLists (w : World) (a a' : Option Addr) (n cap cap' : Nat) (ad ad' : Nat → Option Addr) (ln cp cp' : Nat → Nat) (f : Nat → Nat → T) (h : RdS w a n cap ad ln cp f) (h' : RdS w a' n cap' ad' ln cp' f) :
    Calls Tryz.prog 20 #[.slice a n cap, .slice a' n cap'] w fun r w' => r = .returned (.bool true) ∧ Below w.heap.size w w' := by
  have hn : (n : Int) ≤ 140737488351232 := by have := h.2.1; omega
  have HH := Hid.mk' h
  have HH' := Hid.mk' h'
  clear h h'
  go_enter Tryz.func20, Tryz.ntmps20
  go_wp2
  go_loopw [5] (fun v wr => ∃ i : Nat, i ≤ n ∧ v = .int .i64 (i : Int) ∧ Below w.heap.size w wr) (fun v _ => n - (intOf v).toNat)
  case atStart => exact ⟨0, Nat.zero_le _, rfl, Below.refl _ _⟩
  case round =>
    obtain ⟨i, hi, rfl, hB⟩ := hrel
    by_cases hlt : i < n
    · rcases HH.out.2.2.1 with h0 | ⟨b, off, rfl, hblt, hcl⟩
      · omega
      rcases HH'.out.2.2.1 with h0 | ⟨b', off', rfl, hblt', hcl'⟩
      · omega
      have hil : (i : Int) < (n : Int) := by omega
      have hbr : b < wr.heap.size := Nat.lt_of_lt_of_le hblt hB.size
      have hbr' : b' < wr.heap.size := Nat.lt_of_lt_of_le hblt' hB.size
      have ne := Ext.there wr
      have g0 : wr.cell? ⟨b, off + i, none⟩ = some (.slice (ad i) (ln i) (cp i)) := (hB.cell (p := ⟨b, off + i, none⟩) hblt).trans (hcl i hlt)
      have g1 : wr.cell? ⟨b', off' + i, none⟩ = some (.slice (ad' i) (ln i) (cp' i)) := (hB.cell (p := ⟨b', off' + i, none⟩) hblt').trans (hcl' i hlt)
      have s0 : ∀ u : Ext wr, u.1.cell? ⟨b, off + i, none⟩ = some (.slice (ad i) (ln i) (cp i)) := fun u => (u.cell hbr).trans g0
      have s1 : ∀ u : Ext wr, u.1.cell? ⟨b', off' + i, none⟩ = some (.slice (ad' i) (ln i) (cp' i)) := fun u => (u.cell hbr').trans g1
      have HK := Hid.mk' ((HH.out.2.2.2 i hlt).below hB)
      have HK' := Hid.mk' ((HH'.out.2.2.2 i hlt).below hB)
      have HB := Hid.mk' hB
      have hcall : ∀ u : Ext wr, Calls Tryz.prog 19 #[.slice (ad i) (ln i) (cp i), .slice (ad' i) (ln i) (cp' i)] u.1 fun r w' => r = .returned (.bool true) ∧ Below u.1.heap.size u.1 w' := fun u => by
        have := eqTerms u.1 (ad i) (ad' i) (ln i) (cp i) (ln i) (cp' i) (f i) (f i) (HK.out.below u.2) (HK'.out.below u.2)
        rw [show termsEq (ln i) (f i) (ln i) (f i) = true from decide_eq_true ⟨rfl, fun j _ => T.eqB_iff.2 rfl⟩] at this
        exact this
      clear hcl hcl' hB g0 g1
      go_wp2_with fail
      refine wp_region_ext (by kernel_rfl) (by kernel_rfl) ?_
      repeat (go_big_quiet_step (first | (go_at_call 19; exact ext_grows (hcall _)) | fail))
      refine wpQuiet_nil ?_
      rintro _ ⟨v, rfl⟩
      have HV := Hid.mk' v.2
      clear s0 s1 ne hcall
      go_wp2
      go_roundw
      case rel => exact ⟨i + 1, by omega, by go_num, bel_next HB.out HV.out⟩
      case measure => simp [intOf]; omega
    · have hnl : ¬ (i : Int) < (n : Int) := by omega
      go_wp2
      go_ret
      exact ⟨rfl, hB⟩
end Go.Proofs.YtoglomfejgpoeaaGreatDoor
namespace Go.Proofs.YtoglomfejgpoeaaGreatDoor
open Go.RowKit Go.Deep Go.Joins
set_option linter.unusedVariables false

/-- A slice of slices of terms that came in. -/
def IsLists (w : World) (a : Option Addr) (n cap : Nat) (ad : Nat → Option Addr) (ln cp : Nat → Nat) (f : Nat → Nat → T) : Prop :=
  n ≤ cap ∧ cap ≤ maxLen ∧ (n = 0 ∨ ∃ b off, a = some ⟨b, off, none⟩ ∧ b < w.heap.size ∧ ∀ i, i < n → w.cell? ⟨b, off + i, none⟩ = some (.slice (ad i) (ln i) (cp i))) ∧ ∀ i, i < n → IsTerms w (ad i) (ln i) (cp i) (f i)
theorem IsLists.rd {w : World} {a : Option Addr} {n cap : Nat} {ad : Nat → Option Addr} {ln cp : Nat → Nat} {f : Nat → Nat → T} (h : IsLists w a n cap ad ln cp f) (hn : n * 40 ≤ 140737488351232) (hl : ∀ i, i < n → ln i * 40 ≤ 140737488351232) : RdS w a n cap ad ln cp f :=
  ⟨h.1, hn, h.2.2.1, fun i hi => (h.2.2.2 i hi).rd (hl i hi)⟩
theorem cellsOfS : Tryz.prog.cellsOf 31 = 1 := by kernel_rfl
theorem slice_of_trod {H : Type} {enc : TypeId × Value → H} {w : World} {base : Nat} {spare : Nat → Bool} {held : Bool} {fuel : Nat} {v : Value} {x : DataW H × List MemPlace}
    (h : DataW.trod enc Tryz.prog w base spare held fuel 31 [v] = some x) : ∃ (t : Option Addr × Nat × Nat) (f : Nat → T), v = .slice t.1 t.2.1 t.2.2 ∧ IsTerms w t.1 t.2.1 t.2.2 f := by
  have h' := h
  rcases open_slice Tryz.underlying31 h with ⟨hc, _⟩ | ⟨ad, len, cp, m, k, D, Pl, hc, _⟩
  · simp at hc
    subst hc
    obtain ⟨f, hf⟩ := terms_open h'
    exact ⟨(none, 0, 0), f, rfl, hf⟩
  · simp at hc
    subst hc
    obtain ⟨f, hf⟩ := terms_open h'
    exact ⟨(some ad, len, cp), f, rfl, hf⟩
set_option maxRecDepth 100000 in
theorem lists_open {H : Type} {enc : TypeId × Value → H} {w : World} {base : Nat} {spare : Nat → Bool} {held : Bool} {fuel : Nat} {a : Option Addr} {n cap : Nat} {x : DataW H × List MemPlace}
    (h : DataW.trod enc Tryz.prog w base spare held fuel 30 [.slice a n cap] = some x) : ∃ ad ln cp f, IsLists w a n cap ad ln cp f := by
  rcases open_slice Tryz.underlying30 h with ⟨hc, _⟩ | ⟨ad, len, cp, m, k, D, Pl, hc, _, hl, hm, hmm, _, hx⟩
  · simp at hc
    obtain ⟨rfl, rfl, rfl⟩ := hc
    exact ⟨fun _ => none, fun _ => 0, fun _ => 0, fun _ _ => ⟨0, ⟨0, 0, 0, 0⟩⟩, Nat.le_refl _, Nat.zero_le _, .inl rfl, fun i hi => absurd hi (Nat.not_lt_zero _)⟩
  · simp at hc
    obtain ⟨rfl, rfl, rfl⟩ := hc
    by_cases h0 : n = 0
    · exact ⟨fun _ => none, fun _ => 0, fun _ => 0, fun _ _ => ⟨0, ⟨0, 0, 0, 0⟩⟩, hl, hm, .inl h0, fun i hi => by omega⟩
    have hnm : n ≤ m := by rw [hmm]; split <;> omega
    have each : ∀ i, i < n → ∃ t : (Option Addr × Nat × Nat) × (Nat → T), w.cell? (ad.add i) = some (.slice t.1.1 t.1.2.1 t.1.2.2) ∧ IsTerms w t.1.1 t.1.2.1 t.1.2.2 t.2 := by
      intro i hi
      obtain ⟨cs', h1, h2⟩ := hx i (by omega)
      rw [cellsOfS] at h1
      obtain ⟨_, hlen, hcell⟩ := World.cells?_some h1
      match cs', hlen with
      | [v0], _ =>
        obtain ⟨t, f, rfl, ht⟩ := slice_of_trod h2
        have c0 := hcell 0 (by omega)
        rw [add_add] at c0
        exact ⟨(t, f), by simpa using c0, ht⟩
    haveI : Inhabited ((Option Addr × Nat × Nat) × (Nat → T)) := ⟨((none, 0, 0), fun _ => ⟨0, ⟨0, 0, 0, 0⟩⟩)⟩
    obtain ⟨q, hq⟩ := choose_lt each
    obtain ⟨b, off, spot⟩ := ad
    have hs : spot = none := by
      have := World.cell?_spot (hq 0 (by omega)).1
      simpa [Addr.add] using this
    subst hs
    have hadd : ∀ j, (⟨b, off, none⟩ : Addr).add j = ⟨b, off + j, none⟩ := fun j => by unfold Addr.add; split <;> simp_all
    refine ⟨fun i => (q i).1.1, fun i => (q i).1.2.1, fun i => (q i).1.2.2, fun i => (q i).2, hl, hm, .inr ⟨b, off, rfl, ?_, fun i hi => ?_⟩, fun i hi => (hq i hi).2⟩
    · have := World.block_lt_of_cell? w _ (hq 0 (by omega)).1
      rw [hadd] at this
      exact this
    · have := (hq i hi).1
      rw [hadd] at this
      exact this
end Go.Proofs.YtoglomfejgpoeaaGreatDoor
