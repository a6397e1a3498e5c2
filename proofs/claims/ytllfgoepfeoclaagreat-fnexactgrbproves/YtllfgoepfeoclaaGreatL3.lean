/-
  Slices of slices of slices of terms, and bases: how they are read, copied, counted and held against each other.
-/
import Derived.Test.YtllfgoepfeoclaaGreatGba
import Derived.Test.YtllfgoepfeoclaaGreatGaz
namespace Go.Proofs.YtllfgoepfeoclaaGreat
open Go.RowKit Go.Deep Go.Joins
set_option linter.unusedVariables false

/-- a slice of slices of slices of terms that can be read. -/
def Rd3 (w : World) (a : Option Addr) (n cap : Nat) (A : Nat → Option Addr) (C : Nat → Nat) (AD : Nat → Nat → Option Addr) (CP : Nat → Nat → Nat) (N : Nat → Nat) (L : Nat → Nat → Nat) (F : Nat → Nat → Nat → T) : Prop :=
  n ≤ cap ∧ n * 40 ≤ 140737488351232 ∧ (n = 0 ∨ ∃ b off, a = some ⟨b, off, none⟩ ∧ b < w.heap.size ∧ ∀ i, i < n → w.cell? ⟨b, off + i, none⟩ = some (.slice (A i) (N i) (C i))) ∧ ∀ i, i < n → RdS w (A i) (N i) (C i) (AD i) (L i) (CP i) (F i)
theorem Rd3.below {w w' : World} {a : Option Addr} {n cap : Nat} {A : Nat → Option Addr} {C : Nat → Nat} {AD : Nat → Nat → Option Addr} {CP : Nat → Nat → Nat} {N : Nat → Nat} {L : Nat → Nat → Nat} {F : Nat → Nat → Nat → T} (h : Rd3 w a n cap A C AD CP N L F) (hb : Below w.heap.size w w') : Rd3 w' a n cap A C AD CP N L F := by
  refine ⟨h.1, h.2.1, ?_, fun i hi => (h.2.2.2 i hi).below hb⟩
  rcases h.2.2.1 with h0 | ⟨b, off, he, hlt, hc⟩
  · exact .inl h0
  · exact .inr ⟨b, off, he, Nat.lt_of_lt_of_le hlt hb.size, fun i hi => (hb.cell (p := ⟨b, off + i, none⟩) hlt).trans (hc i hi)⟩
/-- a copy of lists that lies from lo on. -/
def Cp2 (w : World) (lo B n : Nat) (ln : Nat → Nat) (f : Nat → Nat → T) : Prop := ∃ BB : Nat → Nat, lo ≤ B ∧ w.rowIs B 24 n (partS BB ln n) ∧ ∀ i, i < n → B < BB i ∧ Own w (BB i) (ln i) (f i)
theorem Cp2.below {w w' : World} {lo B n : Nat} {ln : Nat → Nat} {f : Nat → Nat → T} (h : Cp2 w lo B n ln f) (hb : Below w.heap.size w w') : Cp2 w' lo B n ln f := by
  obtain ⟨BB, h1, h2, h3⟩ := h
  exact ⟨BB, h1, h2.of_block (hb.block B h2.lt), fun i hi => ⟨(h3 i hi).1, (h3 i hi).2.below hb (h3 i hi).2.lt⟩⟩
theorem Cp2.set {w : World} {lo B n g o : Nat} {v : Value} {ln : Nat → Nat} {f : Nat → Nat → T} (h : Cp2 w lo B n ln f) (hg : g < lo) : Cp2 (w.setCell ⟨g, o, none⟩ v) lo B n ln f := by
  obtain ⟨BB, h1, h2, h3⟩ := h
  exact ⟨BB, h1, h2.of_block (Below.heap_setCell _ _ _ _ (by show B ≠ g; omega)), fun i hi => ⟨(h3 i hi).1, (h3 i hi).2.of_block (Below.heap_setCell _ _ _ _ (by show BB i ≠ g; have := (h3 i hi).1; omega))⟩⟩
theorem Cp2.rd {w : World} {lo B n : Nat} {ln : Nat → Nat} {f : Nat → Nat → T} (h : Cp2 w lo B n ln f) (hn : n * 40 ≤ 140737488351232) (hl : ∀ i, i < n → ln i * 40 ≤ 140737488351232) : ∃ ad, RdS w (some ⟨B, 0, none⟩) n n ad ln ln f := by
  obtain ⟨BB, h1, h2, h3⟩ := h
  exact ⟨_, lists_rd h2 (fun i hi => (h3 i hi).2) hn hl⟩
theorem Cp2.lt {w : World} {lo B n : Nat} {ln : Nat → Nat} {f : Nat → Nat → T} (h : Cp2 w lo B n ln f) : B < w.heap.size := by obtain ⟨BB, h1, h2, h3⟩ := h; exact h2.lt
def Cp3 (w : World) (lo G n : Nat) (N : Nat → Nat) (L : Nat → Nat → Nat) (F : Nat → Nat → Nat → T) : Prop := ∃ B : Nat → Nat, lo ≤ G ∧ w.rowIs G 38 n (partS B N n) ∧ ∀ i, i < n → Cp2 w (G + 1) (B i) (N i) (L i) (F i)
theorem Cp3.below {w w' : World} {lo G n : Nat} {N : Nat → Nat} {L : Nat → Nat → Nat} {F : Nat → Nat → Nat → T} (h : Cp3 w lo G n N L F) (hb : Below w.heap.size w w') : Cp3 w' lo G n N L F := by
  obtain ⟨B, h1, h2, h3⟩ := h
  exact ⟨B, h1, h2.of_block (hb.block G h2.lt), fun i hi => (h3 i hi).below hb⟩
theorem Cp3.set {w : World} {lo G n g o : Nat} {v : Value} {N : Nat → Nat} {L : Nat → Nat → Nat} {F : Nat → Nat → Nat → T} (h : Cp3 w lo G n N L F) (hg : g < lo) : Cp3 (w.setCell ⟨g, o, none⟩ v) lo G n N L F := by
  obtain ⟨B, h1, h2, h3⟩ := h
  exact ⟨B, h1, h2.of_block (Below.heap_setCell _ _ _ _ (by show G ≠ g; omega)), fun i hi => (h3 i hi).set (by omega)⟩
theorem Cp3.rd {w : World} {lo G n : Nat} {N : Nat → Nat} {L : Nat → Nat → Nat} {F : Nat → Nat → Nat → T} (h : Cp3 w lo G n N L F) (hn : n * 40 ≤ 140737488351232) (hN : ∀ i, i < n → N i * 40 ≤ 140737488351232) (hl : ∀ i, i < n → ∀ j, j < N i → L i j * 40 ≤ 140737488351232) : ∃ A AD, Rd3 w (some ⟨G, 0, none⟩) n n A N AD L N L F := by
  obtain ⟨B, h1, h2, h3⟩ := h
  have each : ∀ i, i < n → ∃ ad, RdS w (some ⟨B i, 0, none⟩) (N i) (N i) ad (L i) (L i) (F i) := fun i hi => (h3 i hi).rd (hN i hi) (hl i hi)
  haveI : Inhabited (Nat → Option Addr) := ⟨fun _ => none⟩
  obtain ⟨q, hq⟩ := choose_lt each
  refine ⟨fun i => some ⟨B i, 0, none⟩, q, Nat.le_refl _, hn, .inr ⟨G, 0, rfl, h2.lt, fun i hi => ?_⟩, hq⟩
  have := h2.cell (i := i) hi
  rw [Nat.zero_add, this]
  unfold partS
  rw [if_pos hi]
set_option maxHeartbeats 4000000 in
theorem szLists3 (a : Option Addr) (n cap : Nat) (A : Nat → Option Addr) (C : Nat → Nat) (AD : Nat → Nat → Option Addr) (CP : Nat → Nat → Nat) (N : Nat → Nat) (L : Nat → Nat → Nat) (l : Int) (w : World) (hn : (n : Int) ≤ 9223372036854775807) (hl : 0 ≤ l) (hl' : l ≤ 1048576) (h3 : n = 0 ∨ ∃ b off, a = some ⟨b, off, none⟩ ∧ b < w.heap.size ∧ ∀ i, i < n → w.cell? ⟨b, off + i, none⟩ = some (.slice (A i) (N i) (C i))) (hN : ∀ i, i < n → (N i : Int) ≤ 9223372036854775807)
    (h4 : ∀ i, i < n → (N i = 0 ∨ ∃ b off, A i = some ⟨b, off, none⟩ ∧ b < w.heap.size ∧ ∀ j, j < N i → w.cell? ⟨b, off + j, none⟩ = some (.slice (AD i j) (L i j) (CP i j)))) (hL : ∀ i, i < n → ∀ j, j < N i → (L i j : Int) ≤ 9223372036854775807) :
    Calls Tryz.prog 32 #[.slice a n cap, .int .i64 l] w fun r w' => ∃ z : Int, r = .returned (.int .i64 z) ∧ w' = w ∧ z ≤ l ∧ (0 ≤ z → (n : Int) ≤ l ∧ ∀ i, i < n → (N i : Int) ≤ l ∧ ∀ j, j < N i → (L i j : Int) ≤ l) := by
  have H4 := Hid.mk' h4
  have HL := Hid.mk' hL
  clear h4 hL
  by_cases hneg : l - n < 0
  · go_enter Tryz.func32, Tryz.ntmps32
    go_wp2
    go_ret
    exact ⟨-1, rfl, rfl, by omega, fun h => by omega⟩
  · go_enter Tryz.func32, Tryz.ntmps32
    go_wp2
    go_loopw [1, 5] (fun lv iv wr => ∃ (i : Nat) (z : Int), i ≤ n ∧ iv = .int .i64 (i : Int) ∧ lv = .int .i64 z ∧ 0 ≤ z ∧ z ≤ l ∧ (∀ k, k < i → (N k : Int) ≤ l ∧ ∀ j, j < N k → (L k j : Int) ≤ l) ∧ wr = w) (fun _ v _ => n - (intOf v).toNat)
    case atStart => exact ⟨0, l - n, Nat.zero_le _, rfl, rfl, by omega, by omega, fun j hj => by omega, rfl⟩
    case round =>
      obtain ⟨i, z, hi, rfl, rfl, z0, z1, hj, rfl⟩ := hrel
      have HJ := Hid.mk' hj
      clear hj
      by_cases hlt : i < n
      · rcases h3 with h0 | ⟨b, off, rfl, hblt, hcl⟩
        · omega
        have hil : (i : Int) < (n : Int) := by omega
        have hc := hcl i hlt
        have hNi := hN i hlt
        clear hcl hN
        go_wp2_with fail
        refine (szLists (A i) (N i) (C i) (AD i) (L i) (CP i) z _ hNi z0 (by omega) (H4.out i hlt) (HL.out i hlt)).mono ?_
        rintro e w' ⟨y, rfl, rfl, y1, hy⟩
        have HY := Hid.mk' hy
        clear hy
        by_cases hz : y < 0
        · go_wp2
          go_ret
          exact ⟨-1, rfl, rfl, by omega, fun h => by omega⟩
        · go_wp2
          go_roundw
          case rel => exact ⟨i + 1, y, by omega, by go_num, rfl, by omega, by omega, fun k hk => by
            by_cases e : k = i
            · have h := HY.out (by omega)
              rw [e]
              exact ⟨by omega, fun j hj => by have := h.2 j hj; omega⟩
            · exact HJ.out k (by omega), by first | trivial | rfl⟩
          case measure => simp [intOf]; omega
      · have hnl : ¬ (i : Int) < (n : Int) := by omega
        have hie : i = n := by omega
        subst hie
        go_wp2
        go_ret
        exact ⟨z, rfl, rfl, z1, fun _ => ⟨by omega, HJ.out⟩⟩
theorem infoSS : (Tryz.prog.info? 38).map (fun i => (i.zero, i.size, i.bytes)) = some (some (.slice none 0 0), 1, 24) := by kernel_rfl
theorem make_lists3 {ops : Array Oper} {rest : List Oper} {o : Oper} {a : Act} {Q : Exit → Act → World → Prop} (w : World)
    (hg : o.guard = none) (l c : Operand) (hop : o.op = Op.makeSlice 39 l c)
    (n : Nat) (hl : a.eval l = .int .i64 (n : Int)) (hc : a.eval c = .int .i64 (n : Int)) (hbytes : n * 40 ≤ 140737488351232)
    (hK : (w.alloc (.cells (madeCells #[.slice none 0 0] n) 38)).rowIs w.heap.size 38 n (fun _ => .slice none 0 0) → wpList Tryz.prog ops Q rest (a.put o.dst (.slice (some ⟨w.heap.size, 0, none⟩) n n)) (w.alloc (.cells (madeCells #[.slice none 0 0] n) 38))) :
    wpList Tryz.prog ops Q (o :: rest) a w := by
  obtain ⟨i, hi, hzz⟩ := Option.map_eq_some_iff.1 infoSS
  simp only [Prod.mk.injEq] at hzz
  obtain ⟨hz, hs, hb⟩ := hzz
  refine wpList_plain hg fun K hK' => ?_
  have hr := run_make (P := Tryz.prog) w 39 38 i _ Tryz.underlying39 hi hz .i64 .i64 (n : Int) (n : Int) (by omega) (Int.le_refl _) (by rw [hb]; omega) (by omega)
  simp only [Int.toNat_natCast, hs, Value.cells, Nat.mul_one] at hr
  unfold Oper.wp
  simp [execOp, hop, hl, hc, hr, Result.andThen]
  refine hK' _ _ (hK ?_)
  refine ⟨_, Go.Deep.blk_alloc_new _ _, size_madeCells _ _, fun j hj => ?_⟩
  simp [madeCells, hj, Nat.mod_one]
theorem partS_next3 {w : World} {g n k : Nat} {B ln : Nat → Nat} {v : Nat} (h : w.rowIs g 38 n (partS B ln k)) :
    (w.setCell ⟨g, k, none⟩ (.slice (some ⟨v, 0, none⟩) (ln k) (ln k))).rowIs g 38 n (partS (fun j => if j = k then v else B j) ln (k + 1)) := by
  refine (h.set _ _).congr fun j hj => ?_
  by_cases e : j = k
  · subst e
    simp [partS]
  · unfold partS
    by_cases hl : j < k
    · rw [if_pos (show j < k + 1 by omega)]
      simp [e, hl]
    · rw [if_neg (show ¬ j < k + 1 by omega)]
      simp [e, hl]
set_option maxHeartbeats 4000000 in
theorem toLists3 (w : World) (a : Option Addr) (n cap : Nat) (A : Nat → Option Addr) (C : Nat → Nat) (AD : Nat → Nat → Option Addr) (CP : Nat → Nat → Nat) (N : Nat → Nat) (L : Nat → Nat → Nat) (F : Nat → Nat → Nat → T) (h : Rd3 w a n cap A C AD CP N L F) :
    Calls Tryz.prog 36 #[.slice a n cap] w fun r w' => r = .returned (.slice (some ⟨w.heap.size, 0, none⟩) n n) ∧ Below w.heap.size w w' ∧ Cp3 w' w.heap.size w.heap.size n N L F := by
  have hn : (n : Int) ≤ 140737488351232 := by have := h.2.1; omega
  have h2 := h.2.1
  have HH := Hid.mk' h
  clear h
  go_enter Tryz.func36, Tryz.ntmps36
  go_wp2_with (at_make; refine make_lists3 _ rfl _ _ rfl n rfl rfl (by omega) ?_; intro hrow)
  go_loopw [4] (fun i wr => ∃ (k : Nat) (B : Nat → Nat), k ≤ n ∧ i = .int .i64 k ∧ Below w.heap.size w wr ∧ wr.rowIs w.heap.size 38 n (partS B N k) ∧ ∀ i, i < k → Cp2 wr (w.heap.size + 1) (B i) (N i) (L i) (F i)) (fun i _ => n - (intOf i).toNat)
  case atStart => exact ⟨0, fun _ => 0, Nat.zero_le _, rfl, (Below.refl _ _).alloc (Nat.le_refl _) _, hrow.congr fun j _ => by simp [partS], fun i hi => by omega⟩
  case round =>
    obtain ⟨k, B, hk, rfl, hB, hR, hO⟩ := hrel
    by_cases hlt : k < n
    · rcases HH.out.2.2.1 with h0 | ⟨b, off, rfl, hblt, hcl⟩
      · omega
      have hkn : (k : Int) < (n : Int) := by omega
      have g0 : wr.cell? ⟨b, off + k, none⟩ = some (.slice (A k) (N k) (C k)) := (hB.cell (p := ⟨b, off + k, none⟩) hblt).trans (hcl k hlt)
      have HR := Hid.mk' hR
      have HO := Hid.mk' hO
      have HB := Hid.mk' hB
      have HK := Hid.mk' ((HH.out.2.2.2 k hlt).below hB)
      clear hR hcl hO
      go_wp2_with fail
      refine (toLists _ _ _ _ _ _ _ _ HK.out).mono ?_
      rintro r w1 ⟨BB, rfl, hb, hr, ho⟩
      have hR1 := HR.out.of_block (hb.block w.heap.size (HR.out.lt))
      have hB1 := HB.out.trans (hb.mono HB.out.size)
      have hsz : w.heap.size < wr.heap.size := HR.out.lt
      have q0 := hR1.cell (i := k) hlt
      have fz := fun i => hR1.frozen i
      obtain ⟨V, hV⟩ : ∃ V, wr.heap.size = V := ⟨_, rfl⟩
      rw [hV] at ho hr ⊢
      have HN := Hid.mk' (partS_next3 (v := V) hR1)
      have HO2 : Hid (∀ i, i < k + 1 → Cp2 w1 (w.heap.size + 1) (if i = k then V else B i) (N i) (L i) (F i)) := fun i hi => by
        by_cases e : i = k
        · rw [if_pos e, e]
          exact ⟨BB, by omega, hr, ho⟩
        · rw [if_neg e]
          exact (HO.out i (by omega)).below hb
      have HB1 := Hid.mk' hB1
      clear hR1 HR hb ho HO hB1 hB hr
      go_wp2
      go_roundw
      case rel => exact ⟨k + 1, _, by omega, by go_num, HB1.out.setCell (Nat.le_refl _) _, HN.out, fun i hi => (HO2.out i hi).set (by omega)⟩
      case measure => simp [intOf]; omega
    · have hkn : k = n := by omega
      subst hkn
      have HR := Hid.mk' hR
      have HO := Hid.mk' hO
      clear hR hO
      go_wp2
      go_ret
      exact ⟨rfl, hB, B, Nat.le_refl _, HR.out, HO.out⟩
theorem eqLists3 (w : World) (a a' : Option Addr) (n cap cap' : Nat) (A A' : Nat → Option Addr) (C C' : Nat → Nat) (AD AD' : Nat → Nat → Option Addr) (CP CP' : Nat → Nat → Nat) (N : Nat → Nat) (L : Nat → Nat → Nat) (F : Nat → Nat → Nat → T) (h : Rd3 w a n cap A C AD CP N L F) (h' : Rd3 w a' n cap' A' C' AD' CP' N L F) :
    Calls Tryz.prog 40 #[.slice a n cap, .slice a' n cap'] w fun r w' => r = .returned (.bool true) ∧ Below w.heap.size w w' := by
  have hn : (n : Int) ≤ 140737488351232 := by have := h.2.1; omega
  have HH := Hid.mk' h
  have HH' := Hid.mk' h'
  clear h h'
  go_enter Tryz.func40, Tryz.ntmps40
  go_wp2
  go_loopw [5] (fun v wr => ∃ i : Nat, i ≤ n ∧ v = .int .i64 (i : Int) ∧ Below w.heap.size w wr) (fun v _ => n - (intOf v).toNat)
  case atStart => exact ⟨0, Nat.zero_le _, rfl, Below.refl _ _⟩
  case round =>
    obtain ⟨i, hi, rfl, hB⟩ := hrel
    by_cases hlt : i < n
    · rcases HH.out.2.2.1 with h0 | ⟨b, off, rfl, hblt, hcl⟩
      · omega
      rcases HH'.out.2.2.1 with h0 | ⟨b', off', rfl, hblt', hcl'⟩
      · omega
      have hil : (i : Int) < (n : Int) := by omega
      have hbr : b < wr.heap.size := Nat.lt_of_lt_of_le hblt hB.size
      have hbr' : b' < wr.heap.size := Nat.lt_of_lt_of_le hblt' hB.size
      have ne := Ext.there wr
      have g0 : wr.cell? ⟨b, off + i, none⟩ = some (.slice (A i) (N i) (C i)) := (hB.cell (p := ⟨b, off + i, none⟩) hblt).trans (hcl i hlt)
      have g1 : wr.cell? ⟨b', off' + i, none⟩ = some (.slice (A' i) (N i) (C' i)) := (hB.cell (p := ⟨b', off' + i, none⟩) hblt').trans (hcl' i hlt)
      have s0 : ∀ u : Ext wr, u.1.cell? ⟨b, off + i, none⟩ = some (.slice (A i) (N i) (C i)) := fun u => (u.cell hbr).trans g0
      have s1 : ∀ u : Ext wr, u.1.cell? ⟨b', off' + i, none⟩ = some (.slice (A' i) (N i) (C' i)) := fun u => (u.cell hbr').trans g1
      have HK := Hid.mk' ((HH.out.2.2.2 i hlt).below hB)
      have HK' := Hid.mk' ((HH'.out.2.2.2 i hlt).below hB)
      have HB := Hid.mk' hB
      have hcall : ∀ u : Ext wr, Calls Tryz.prog 20 #[.slice (A i) (N i) (C i), .slice (A' i) (N i) (C' i)] u.1 fun r w' => r = .returned (.bool true) ∧ Below u.1.heap.size u.1 w' := fun u => eqLists u.1 (A i) (A' i) (N i) (C i) (C' i) (AD i) (AD' i) (L i) (CP i) (CP' i) (F i) (HK.out.below u.2) (HK'.out.below u.2)
      clear hcl hcl' hB g0 g1
      go_wp2_with fail
      refine wp_region_ext (by kernel_rfl) (by kernel_rfl) ?_
      repeat (go_big_quiet_step (first | (go_at_call 20; exact ext_grows (hcall _)) | fail))
      refine wpQuiet_nil ?_
      rintro _ ⟨v, rfl⟩
      have HV := Hid.mk' v.2
      clear s0 s1 ne hcall
      go_wp2
      go_roundw
      case rel => exact ⟨i + 1, by omega, by go_num, bel_next HB.out HV.out⟩
      case measure => simp [intOf]; omega
    · have hnl : ¬ (i : Int) < (n : Int) := by omega
      go_wp2
      go_ret
      exact ⟨rfl, hB⟩
end Go.Proofs.YtllfgoepfeoclaaGreat
