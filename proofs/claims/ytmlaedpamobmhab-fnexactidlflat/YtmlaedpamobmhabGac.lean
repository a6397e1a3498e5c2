/-
  Monomials that come in, are copied and are held against each other.
  What the helpers of the exact laws do: they copy terms, hold them against each other, write marks into them and look for these.
  How the rows' readings of terms are opened: a slice of terms that came in is a row of numbers, five a term.
-/
import Derived.Test.YtmlaedpamobmhabGab
import Derived.ProofKit
import Derived.Lib.SmallJoins
import Derived.Deep.OwnRows
import Derived.Deep.Slices
namespace Go.Proofs.Ytmlaedpamobmhab
open Go.RowKit Go.Deep Go.Joins
set_option linter.unusedVariables false

set_option maxRecDepth 100000 in
theorem mon_open {H : Type} {enc : TypeId × Value → H} {w : World} {base : Nat} {spare : Nat → Bool} {held : Bool} {r : Reach} {b0 : Nat} {v : Value} {d : DataW H} {p : List MemPlace}
    (hv : Value.okWide Try.prog w r b0 91 v) (h : DataW.Trod enc Try.prog w base spare held 91 v d p) : ∃ x y z u : Int, v = .agg #[.int .i64 x, .int .i64 y, .int .i64 z, .int .i64 u] := by
  obtain ⟨v0, v1, v2, v3, y0, y1, y2, y3, n, rfl, _, _, h0, h1, h2, h3⟩ := open_agg4 Try.underlying91 (by kernel_rfl) (by kernel_rfl) hv h
  obtain ⟨z0, e0, _, _⟩ := DataW.trod_int Try.underlying3 h0
  obtain ⟨z1, e1, _, _⟩ := DataW.trod_int Try.underlying3 h1
  obtain ⟨z2, e2, _, _⟩ := DataW.trod_int Try.underlying3 h2
  obtain ⟨z3, e3, _, _⟩ := DataW.trod_int Try.underlying3 h3
  simp at e0 e1 e2 e3
  subst e0 e1 e2 e3
  exact ⟨z0, z1, z2, z3, rfl⟩
set_option maxHeartbeats 400000 in
theorem toMon (x y d e : Int) (w : World) :
    Calls Try.prog 71 #[.agg #[.int .i64 x, .int .i64 y, .int .i64 d, .int .i64 e]] w fun r w' => r = .returned (.agg #[.int .i64 x, .int .i64 y, .int .i64 d, .int .i64 e]) ∧ Below w.heap.size w w' := by
  go_enter Try.func71, Try.ntmps71
  go_wp2
  refine bodyPost_ret (v := .agg #[.int .i64 x, .int .i64 y, .int .i64 d, .int .i64 e]) (by simp [results, Try.results71, go_sem]) rfl ⟨rfl, ?_⟩
  exact bel_three w _ _ _
def M.eqB (a b : M) : Bool := decide (a.x = b.x ∧ a.y = b.y ∧ a.d = b.d ∧ a.e = b.e)
theorem M.eqB_iff {a b : M} : a.eqB b = true ↔ a = b := by
  cases a; cases b; simp [M.eqB]
theorem M.eqB_same (x y d e : Int) : M.eqB ⟨x, y, d, e⟩ ⟨x, y, d, e⟩ = true := by simp [M.eqB]
set_option maxHeartbeats 400000 in
theorem eqMon (x y d e x' y' d' e' : Int) (w : World) :
    Calls Try.prog 72 #[.agg #[.int .i64 x, .int .i64 y, .int .i64 d, .int .i64 e], .agg #[.int .i64 x', .int .i64 y', .int .i64 d', .int .i64 e']] w fun r w' => r = .returned (.bool (M.eqB ⟨x, y, d, e⟩ ⟨x', y', d', e'⟩)) ∧ Below w.heap.size w w' := by
  cases hx : (x != x')
  · cases hy : (y != y')
    · cases hd : (d != d')
      · cases he : (e != e')
        · have r1 : M.eqB ⟨x, y, d, e⟩ ⟨x', y', d', e'⟩ = true := by simp at hx hy hd he; simp [M.eqB, *]
          rw [r1]
          go_enter Try.func72, Try.ntmps72
          go_wp2
          go_ret
          exact ⟨rfl, bel_two w _ _⟩
        · have r1 : M.eqB ⟨x, y, d, e⟩ ⟨x', y', d', e'⟩ = false := by simp at he; simp [M.eqB, *]
          rw [r1]
          go_enter Try.func72, Try.ntmps72
          go_wp2
          go_ret
          exact ⟨rfl, bel_two w _ _⟩
      · have r1 : M.eqB ⟨x, y, d, e⟩ ⟨x', y', d', e'⟩ = false := by simp at hd; simp [M.eqB, *]
        rw [r1]
        go_enter Try.func72, Try.ntmps72
        go_wp2
        go_ret
        exact ⟨rfl, bel_two w _ _⟩
    · have r1 : M.eqB ⟨x, y, d, e⟩ ⟨x', y', d', e'⟩ = false := by simp at hy; simp [M.eqB, *]
      rw [r1]
      go_enter Try.func72, Try.ntmps72
      go_wp2
      go_ret
      exact ⟨rfl, bel_two w _ _⟩
  · have r1 : M.eqB ⟨x, y, d, e⟩ ⟨x', y', d', e'⟩ = false := by simp at hx; simp [M.eqB, *]
    rw [r1]
    go_enter Try.func72, Try.ntmps72
    go_wp2
    go_ret
    exact ⟨rfl, bel_two w _ _⟩
end Go.Proofs.Ytmlaedpamobmhab
namespace Go.Proofs.Ytmlaedpamobmhab
open Go.RowKit
set_option linter.unusedVariables false

theorem bel_s4 {n B o1 o2 o3 o4 : Nat} {a w : World} (h : Below n a w) (hB : n ≤ B) (u1 u2 u3 u4 : Value) : Below n a ((((w.setCell ⟨B, o1, none⟩ u1).setCell ⟨B, o2, none⟩ u2).setCell ⟨B, o3, none⟩ u3).setCell ⟨B, o4, none⟩ u4) :=
  (((h.setCell hB u1).setCell hB u2).setCell hB u3).setCell hB u4
theorem bel_s5 {n B o0 o1 o2 o3 o4 : Nat} {a w : World} (h : Below n a w) (hB : n ≤ B) (u0 u1 u2 u3 u4 : Value) : Below n a (((((w.setCell ⟨B, o0, none⟩ u0).setCell ⟨B, o1, none⟩ u1).setCell ⟨B, o2, none⟩ u2).setCell ⟨B, o3, none⟩ u3).setCell ⟨B, o4, none⟩ u4) :=
  ((((h.setCell hB u0).setCell hB u1).setCell hB u2).setCell hB u3).setCell hB u4
set_option maxHeartbeats 1000000 in
theorem toTerm (c x y d e : Int) (w : World) :
    Calls Try.prog 54 #[.agg #[.int .i64 c, .int .i64 x, .int .i64 y, .int .i64 d, .int .i64 e]] w fun r w' => r = .returned (.agg #[.int .i64 c, .int .i64 x, .int .i64 y, .int .i64 d, .int .i64 e]) ∧ Below w.heap.size w w' := by
  go_enter Try.func54, Try.ntmps54
  go_wp2_with fail
  refine (toMon x y d e _).mono ?_
  rintro r w1 ⟨rfl, hb⟩
  obtain ⟨hc, hf⟩ := bcell hb
  have hz : w.heap.size + 1 + 1 < w1.heap.size := by have := hb.size; simp at this; omega
  go_wp2
  refine bodyPost_ret (v := .agg #[.int .i64 c, .int .i64 x, .int .i64 y, .int .i64 d, .int .i64 e]) (by simp [results, Try.results54, go_sem, *]) rfl ⟨rfl, ?_⟩
  exact bel_s5 (bel_s4 (bel_next (bel_three w _ _ _) hb) (by omega) _ _ _ _) (by omega) _ _ _ _ _

/-- the cells of terms, one behind the other. -/
def cf (f : Nat → T) (j : Nat) : Value := if j % 5 = 0 then .int .i64 (f (j / 5)).c else if j % 5 = 1 then .int .i64 (f (j / 5)).m.x else if j % 5 = 2 then .int .i64 (f (j / 5)).m.y else if j % 5 = 3 then .int .i64 (f (j / 5)).m.d else .int .i64 (f (j / 5)).m.e
theorem cf0 (f : Nat → T) (i : Nat) : cf f (i * 5) = .int .i64 (f i).c := by
  unfold cf; rw [if_pos (by omega), show i * 5 / 5 = i by omega]
theorem cf1 (f : Nat → T) (i : Nat) : cf f (i * 5 + 1) = .int .i64 (f i).m.x := by
  unfold cf; rw [if_neg (by omega), if_pos (by omega), show (i * 5 + 1) / 5 = i by omega]
theorem cf2 (f : Nat → T) (i : Nat) : cf f (i * 5 + 2) = .int .i64 (f i).m.y := by
  unfold cf; rw [if_neg (by omega), if_neg (by omega), if_pos (by omega), show (i * 5 + 2) / 5 = i by omega]
theorem cf3 (f : Nat → T) (i : Nat) : cf f (i * 5 + 3) = .int .i64 (f i).m.d := by
  unfold cf; rw [if_neg (by omega), if_neg (by omega), if_neg (by omega), if_pos (by omega), show (i * 5 + 3) / 5 = i by omega]
theorem cf4 (f : Nat → T) (i : Nat) : cf f (i * 5 + 4) = .int .i64 (f i).m.e := by
  unfold cf; rw [if_neg (by omega), if_neg (by omega), if_neg (by omega), if_neg (by omega), show (i * 5 + 4) / 5 = i by omega]
/-- A block of the call's own that holds n terms: all of it. -/
def Own (w : World) (g n : Nat) (f : Nat → T) : Prop := w.rowIs g 33 (n * 5) (cf f)
theorem Own.cells {w : World} {g n : Nat} {f : Nat → T} (h : Own w g n f) {i : Nat} (hi : i < n) : Cells w g (0 + i * 5) (f i) := by
  rw [Nat.zero_add]
  exact ⟨by rw [h.cell (by omega), cf0], by rw [h.cell (by omega), cf1], by rw [h.cell (by omega), cf2], by rw [h.cell (by omega), cf3], by rw [h.cell (by omega), cf4]⟩
theorem Own.rd {w : World} {g n : Nat} {f : Nat → T} (h : Own w g n f) (hn : n * 40 ≤ 140737488351232) : Rd w (some ⟨g, 0, none⟩) n n f :=
  ⟨Nat.le_refl _, hn, .inr ⟨g, 0, rfl, h.lt, fun i hi => h.cells hi⟩⟩
theorem Own.below {w w' : World} {g n B : Nat} {f : Nat → T} (h : Own w g n f) (hb : Below B w w') (hg : g < B) : Own w' g n f := h.of_block (hb.block g hg)

/-- what a round of copying leaves. -/
def part (f : Nat → T) (k : Nat) (j : Nat) : Value := if j < k * 5 then cf f j else .int .i64 0
theorem part_next {w : World} {g N k : Nat} {f : Nat → T} (h : w.rowIs g 33 N (part f k)) :
    (((((w.setCell ⟨g, k * 5, none⟩ (.int .i64 (f k).c)).setCell ⟨g, k * 5 + 1, none⟩ (.int .i64 (f k).m.x)).setCell ⟨g, k * 5 + 2, none⟩ (.int .i64 (f k).m.y)).setCell ⟨g, k * 5 + 3, none⟩ (.int .i64 (f k).m.d)).setCell ⟨g, k * 5 + 4, none⟩ (.int .i64 (f k).m.e)).rowIs g 33 N (part f (k + 1)) := by
  refine (((((h.set _ _).set _ _).set _ _).set _ _).set _ _).congr fun j hj => ?_
  unfold part
  by_cases h4 : j = k * 5 + 4
  · subst h4; rw [if_pos rfl, if_pos (by omega), cf4]
  rw [if_neg h4]
  by_cases h3 : j = k * 5 + 3
  · subst h3; rw [if_pos rfl, if_pos (by omega), cf3]
  rw [if_neg h3]
  by_cases h2 : j = k * 5 + 2
  · subst h2; rw [if_pos rfl, if_pos (by omega), cf2]
  rw [if_neg h2]
  by_cases h1 : j = k * 5 + 1
  · subst h1; rw [if_pos rfl, if_pos (by omega), cf1]
  rw [if_neg h1]
  by_cases h0 : j = k * 5
  · subst h0; rw [if_pos rfl, if_pos (by omega), cf0]
  rw [if_neg h0]
  by_cases hl : j < k * 5
  · rw [if_pos hl, if_pos (by omega)]
  · rw [if_neg hl, if_neg (by omega)]
theorem infoT : (Try.prog.info? 33).map (fun i => (i.zero, i.size, i.bytes)) = some (some (.agg #[.int .i64 0, .int .i64 0, .int .i64 0, .int .i64 0, .int .i64 0]), 5, 40) := by kernel_rfl
theorem make_terms {ops : Array Oper} {rest : List Oper} {o : Oper} {a : Act} {Q : Exit → Act → World → Prop} (w : World)
    (hg : o.guard = none) (l c : Operand) (hop : o.op = Op.makeSlice 29 l c)
    (n : Nat) (hl : a.eval l = .int .i64 (n : Int)) (hc : a.eval c = .int .i64 (n : Int)) (hbytes : n * 40 ≤ 140737488351232)
    (hK : (w.alloc (.cells (madeCells #[.int .i64 0, .int .i64 0, .int .i64 0, .int .i64 0, .int .i64 0] (n * 5)) 33)).rowIs w.heap.size 33 (n * 5) (fun _ => .int .i64 0) → wpList Try.prog ops Q rest (a.put o.dst (.slice (some ⟨w.heap.size, 0, none⟩) n n)) (w.alloc (.cells (madeCells #[.int .i64 0, .int .i64 0, .int .i64 0, .int .i64 0, .int .i64 0] (n * 5)) 33))) :
    wpList Try.prog ops Q (o :: rest) a w := by
  obtain ⟨i, hi, hzz⟩ := Option.map_eq_some_iff.1 infoT
  simp only [Prod.mk.injEq] at hzz
  obtain ⟨hz, hs, hb⟩ := hzz
  refine wpList_plain hg fun K hK' => ?_
  have hr := run_make (P := Try.prog) w 29 33 i _ Try.underlying29 hi hz .i64 .i64 (n : Int) (n : Int) (by omega) (Int.le_refl _) (by rw [hb]; omega) (by omega)
  simp only [Int.toNat_natCast, hs, Value.cells] at hr
  unfold Oper.wp
  simp [execOp, hop, hl, hc, hr, Result.andThen]
  refine hK' _ _ (hK ?_)
  refine ⟨_, Go.Deep.blk_alloc_new _ _, size_madeCells _ _, fun j hj => ?_⟩
  have h5 : j % 5 = 0 ∨ j % 5 = 1 ∨ j % 5 = 2 ∨ j % 5 = 3 ∨ j % 5 = 4 := by omega
  rcases h5 with h | h | h | h | h <;> simp [madeCells, hj, h]
set_option maxHeartbeats 4000000 in
theorem toTerms (w : World) (a : Option Addr) (n cap : Nat) (f : Nat → T) (h : Rd w a n cap f) :
    Calls Try.prog 35 #[.slice a n cap] w fun r w' => r = .returned (.slice (some ⟨w.heap.size, 0, none⟩) n n) ∧ Below w.heap.size w w' ∧ Own w' w.heap.size n f := by
  obtain ⟨h1, h2, h3⟩ := h
  have hn : (n : Int) ≤ 140737488351232 := by omega
  go_enter Try.func35, Try.ntmps35
  go_wp2_with (at_make; refine make_terms _ rfl _ _ rfl n rfl rfl (by omega) ?_; intro hrow)
  go_loopw [4] (fun i wr => ∃ k : Nat, k ≤ n ∧ i = .int .i64 k ∧ Below w.heap.size w wr ∧ wr.rowIs w.heap.size 33 (n * 5) (part f k)) (fun i _ => n - (intOf i).toNat)
  case atStart => exact ⟨0, Nat.zero_le _, rfl, (Below.refl _ _).alloc (Nat.le_refl _) _, hrow.congr fun j _ => by simp [part]⟩
  case round =>
    obtain ⟨k, hk, rfl, hB, hR⟩ := hrel
    by_cases hlt : k < n
    · rcases h3 with h0 | ⟨b, off, rfl, hblt, hcl⟩
      · omega
      have hkn : (k : Int) < (n : Int) := by omega
      obtain ⟨g0, g1, g2, g3, g4⟩ := (hcl k hlt).below hB hblt
      have HR : Hid (wr.rowIs w.heap.size 33 (n * 5) (part f k)) := hR
      clear hR hcl
      go_wp2_with fail
      refine (toTerm (f k).c (f k).m.x (f k).m.y (f k).m.d (f k).m.e _).mono ?_
      rintro r w1 ⟨rfl, hb⟩
      have hR1 := HR.out.of_block (hb.block w.heap.size (HR.out.lt))
      have hB1 := hB.trans (hb.mono hB.size)
      have q0 := hR1.cell (i := k * 5) (by omega)
      have q1 := hR1.cell (i := k * 5 + 1) (by omega)
      have q2 := hR1.cell (i := k * 5 + 2) (by omega)
      have q3 := hR1.cell (i := k * 5 + 3) (by omega)
      have q4 := hR1.cell (i := k * 5 + 4) (by omega)
      have fz := fun i => hR1.frozen i
      have HN := Hid.mk' (part_next hR1)
      clear hR1 HR hb
      go_wp2
      go_roundw
      case rel =>
        exact ⟨k + 1, by omega, by go_num, bel_s5 hB1 (Nat.le_refl _) _ _ _ _ _, HN.out⟩
      case measure => simp [intOf]; omega
    · have hkn : k = n := by omega
      subst hkn
      have HR := Hid.mk' hR
      clear hR
      go_wp2
      go_ret
      exact ⟨rfl, hB, HR.out.congr fun j hj => by unfold part; rw [if_pos hj]⟩
def T.eqB (a b : T) : Bool := decide (a.c = b.c) && a.m.eqB b.m
theorem T.eqB_iff {a b : T} : a.eqB b = true ↔ a = b := by
  cases a; cases b; simp [T.eqB, M.eqB_iff]
set_option maxHeartbeats 1000000 in
theorem eqTerm (c x y d e c' x' y' d' e' : Int) (w : World) :
    Calls Try.prog 55 #[.agg #[.int .i64 c, .int .i64 x, .int .i64 y, .int .i64 d, .int .i64 e], .agg #[.int .i64 c', .int .i64 x', .int .i64 y', .int .i64 d', .int .i64 e']] w fun r w' => r = .returned (.bool (T.eqB ⟨c, ⟨x, y, d, e⟩⟩ ⟨c', ⟨x', y', d', e'⟩⟩)) ∧ Below w.heap.size w w' := by
  cases hc : (c != c')
  · have r1 : T.eqB ⟨c, ⟨x, y, d, e⟩⟩ ⟨c', ⟨x', y', d', e'⟩⟩ = M.eqB ⟨x, y, d, e⟩ ⟨x', y', d', e'⟩ := by simp at hc; simp [T.eqB, hc]
    rw [r1]
    cases hm : M.eqB ⟨x, y, d, e⟩ ⟨x', y', d', e'⟩
    all_goals
      go_enter Try.func55, Try.ntmps55
      go_wp2_with fail
      refine (eqMon x y d e x' y' d' e' _).mono ?_
      rw [hm]
      rintro r w1 ⟨rfl, hb⟩
      go_wp2
      go_ret
      exact ⟨rfl, bel_next (bel_two w _ _) hb⟩
  · have r1 : T.eqB ⟨c, ⟨x, y, d, e⟩⟩ ⟨c', ⟨x', y', d', e'⟩⟩ = false := by simp at hc; simp [T.eqB, hc]
    rw [r1]
    go_enter Try.func55, Try.ntmps55
    go_wp2
    go_ret
    exact ⟨rfl, bel_two w _ _⟩
theorem eqTerm_of {t u : T} {b : Bool} (h : t.eqB u = b) (w : World) :
    Calls Try.prog 55 #[.agg #[.int .i64 t.c, .int .i64 t.m.x, .int .i64 t.m.y, .int .i64 t.m.d, .int .i64 t.m.e], .agg #[.int .i64 u.c, .int .i64 u.m.x, .int .i64 u.m.y, .int .i64 u.m.d, .int .i64 u.m.e]] w fun r w' => r = .returned (.bool b) ∧ Below w.heap.size w w' := by
  rw [← h]; exact eqTerm _ _ _ _ _ _ _ _ _ _ w
def termsEq (n : Nat) (f : Nat → T) (n' : Nat) (f' : Nat → T) : Bool := decide (n = n' ∧ ∀ i, i < n → (f i).eqB (f' i) = true)
set_option maxHeartbeats 4000000 in
theorem eqTerms (w : World) (a a' : Option Addr) (n cap n' cap' : Nat) (f f' : Nat → T) (h : Rd w a n cap f) (h' : Rd w a' n' cap' f') :
    Calls Try.prog 36 #[.slice a n cap, .slice a' n' cap'] w fun r w' => r = .returned (.bool (termsEq n f n' f')) ∧ Below w.heap.size w w' := by
  obtain ⟨h1, h2, h3⟩ := h
  obtain ⟨h1', h2', h3'⟩ := h'
  have hn : (n : Int) ≤ 140737488351232 := by omega
  have hn' : (n' : Int) ≤ 140737488351232 := by omega
  by_cases hnn : n = n'
  · subst hnn
    go_enter Try.func36, Try.ntmps36
    go_wp2
    go_loopw [5] (fun i wr => ∃ k : Nat, k ≤ n ∧ i = .int .i64 k ∧ Below w.heap.size w wr ∧ ∀ j, j < k → (f j).eqB (f' j) = true) (fun i _ => n - (intOf i).toNat)
    case atStart => exact ⟨0, Nat.zero_le _, rfl, Below.refl _ _, fun j hj => absurd hj (Nat.not_lt_zero _)⟩
    case round =>
      obtain ⟨k, hk, rfl, hB, hok⟩ := hrel
      by_cases hlt : k < n
      · rcases h3 with h0 | ⟨b, off, rfl, hblt, hcl⟩
        · omega
        rcases h3' with h0 | ⟨b', off', rfl, hblt', hcl'⟩
        · omega
        have hkn : (k : Int) < (n : Int) := by omega
        have hbr : b < wr.heap.size := Nat.lt_of_lt_of_le hblt hB.size
        have hbr' : b' < wr.heap.size := Nat.lt_of_lt_of_le hblt' hB.size
        have ne := Ext.there wr
        have hck := (hcl k hlt).below hB hblt
        have hck' := (hcl' k hlt).below hB hblt'
        have s0 : ∀ u : Ext wr, u.1.cell? ⟨b, off + k * 5, none⟩ = some (.int .i64 (f k).c) := fun u => (u.cell hbr).trans hck.1
        have s1 : ∀ u : Ext wr, u.1.cell? ⟨b, off + k * 5 + 1, none⟩ = some (.int .i64 (f k).m.x) := fun u => (u.cell hbr).trans hck.2.1
        have s2 : ∀ u : Ext wr, u.1.cell? ⟨b, off + k * 5 + 2, none⟩ = some (.int .i64 (f k).m.y) := fun u => (u.cell hbr).trans hck.2.2.1
        have s3 : ∀ u : Ext wr, u.1.cell? ⟨b, off + k * 5 + 3, none⟩ = some (.int .i64 (f k).m.d) := fun u => (u.cell hbr).trans hck.2.2.2.1
        have s4 : ∀ u : Ext wr, u.1.cell? ⟨b, off + k * 5 + 4, none⟩ = some (.int .i64 (f k).m.e) := fun u => (u.cell hbr).trans hck.2.2.2.2
        have t0 : ∀ u : Ext wr, u.1.cell? ⟨b', off' + k * 5, none⟩ = some (.int .i64 (f' k).c) := fun u => (u.cell hbr').trans hck'.1
        have t1 : ∀ u : Ext wr, u.1.cell? ⟨b', off' + k * 5 + 1, none⟩ = some (.int .i64 (f' k).m.x) := fun u => (u.cell hbr').trans hck'.2.1
        have t2 : ∀ u : Ext wr, u.1.cell? ⟨b', off' + k * 5 + 2, none⟩ = some (.int .i64 (f' k).m.y) := fun u => (u.cell hbr').trans hck'.2.2.1
        have t3 : ∀ u : Ext wr, u.1.cell? ⟨b', off' + k * 5 + 3, none⟩ = some (.int .i64 (f' k).m.d) := fun u => (u.cell hbr').trans hck'.2.2.2.1
        have t4 : ∀ u : Ext wr, u.1.cell? ⟨b', off' + k * 5 + 4, none⟩ = some (.int .i64 (f' k).m.e) := fun u => (u.cell hbr').trans hck'.2.2.2.2
        clear hck hck' hcl hcl'
        cases he : (f k).eqB (f' k)
        · have HF : Hid (termsEq n f n f' = false) := by
            show termsEq n f n f' = false
            simp only [termsEq, decide_eq_false_iff_not]
            intro hh
            have := hh.2 k hlt
            rw [he] at this
            cases this
          clear hok
          go_wp2_with fail
          refine wp_region_ext (by kernel_rfl) (by kernel_rfl) ?_
          repeat (go_big_quiet_step (first | (go_at_call 55; exact ext_grows (eqTerm_of he _))))
          refine wpQuiet_nil ?_
          rintro _ ⟨u, rfl⟩
          go_wp2
          go_ret
          exact ⟨by rw [HF.out]; rfl, hB.trans (u.2.mono hB.size)⟩
        · have hok' : Hid (∀ j, j < k + 1 → (f j).eqB (f' j) = true) := fun j hj => by
            by_cases hjk : j = k
            · rw [hjk]; exact he
            · exact hok j (by omega)
          clear hok
          go_wp2_with fail
          refine wp_region_ext (by kernel_rfl) (by kernel_rfl) ?_
          repeat (go_big_quiet_step (first | (go_at_call 55; exact ext_grows (eqTerm_of he _))))
          refine wpQuiet_nil ?_
          rintro _ ⟨u, rfl⟩
          go_wp2
          go_roundw
          case rel => exact ⟨k + 1, by omega, by go_num, hB.trans (u.2.mono hB.size), hok'.out⟩
          case measure => simp [intOf]; omega
      · go_wp2
        go_ret
        have hp : termsEq n f n f' = true := by
          simp only [termsEq, decide_eq_true_eq]
          exact ⟨trivial, fun i hi => hok i (by omega)⟩
        exact ⟨by rw [hp]; rfl, hB⟩
  · have hp : termsEq n f n' f' = false := by
      simp only [termsEq, decide_eq_false_iff_not]
      exact fun h => hnn h.1
    rw [hp]
    have hne : ((n : Int) != (n' : Int)) = true := by simp; omega
    go_enter Try.func36, Try.ntmps36
    go_wp2
    go_ret
    exact ⟨rfl, Below.refl _ _⟩
theorem szTerms (a : Option Addr) (n cap : Nat) (l : Int) (w : World) (hn : (n : Int) ≤ 9223372036854775807) (hl : 0 ≤ l) (hl' : l ≤ 1048576) :
    Calls Try.prog 34 #[.slice a n cap, .int .i64 l] w fun r w' => r = .returned (.int .i64 (if l - n < 0 then -1 else l - n)) ∧ w' = w := by
  by_cases h : l - n < 0
  · rw [if_pos h]
    go_enter Try.func34, Try.ntmps34
    go_wp2
    go_ret
    exact ⟨rfl, rfl⟩
  · rw [if_neg h]
    go_enter Try.func34, Try.ntmps34
    go_wp2
    go_ret
    exact ⟨rfl, rfl⟩

/-- A slice whose terms may be written: its block is a row that nobody has frozen. -/
def Wr (w : World) (a : Option Addr) (n : Nat) (f : Nat → T) : Prop :=
  n = 0 ∨ ∃ g off N F, a = some ⟨g, off, none⟩ ∧ w.rowIs g 33 N F ∧ off + n * 5 ≤ N ∧ ∀ j, j < n * 5 → F (off + j) = cf f j
/-- the marks. -/
def mk (k : Int) (i : Nat) : T := ⟨k + 5 * i, ⟨k + 5 * i + 1, k + 5 * i + 2, k + 5 * i + 3, k + 5 * i + 4⟩⟩
def marked (F : Nat → Value) (k : Int) (off j : Nat) (t : Nat) : Value := if off ≤ t ∧ t < off + j * 5 then cf (mk k) (t - off) else F t
theorem marked_next {w : World} {g N off j : Nat} {F : Nat → Value} {k : Int} (h : w.rowIs g 33 N (marked F k off j)) :
    (((((w.setCell ⟨g, off + j * 5, none⟩ (.int .i64 (k + 5 * j))).setCell ⟨g, off + j * 5 + 1, none⟩ (.int .i64 (k + 5 * j + 1))).setCell ⟨g, off + j * 5 + 2, none⟩ (.int .i64 (k + 5 * j + 2))).setCell ⟨g, off + j * 5 + 3, none⟩ (.int .i64 (k + 5 * j + 3))).setCell ⟨g, off + j * 5 + 4, none⟩ (.int .i64 (k + 5 * j + 4))).rowIs g 33 N (marked F k off (j + 1)) := by
  refine (((((h.set _ _).set _ _).set _ _).set _ _).set _ _).congr fun t ht => ?_
  unfold marked
  by_cases h4 : t = off + j * 5 + 4
  · subst h4; rw [if_pos rfl, if_pos (by omega), show off + j * 5 + 4 - off = j * 5 + 4 by omega, cf4]; rfl
  rw [if_neg h4]
  by_cases h3 : t = off + j * 5 + 3
  · subst h3; rw [if_pos rfl, if_pos (by omega), show off + j * 5 + 3 - off = j * 5 + 3 by omega, cf3]; rfl
  rw [if_neg h3]
  by_cases h2 : t = off + j * 5 + 2
  · subst h2; rw [if_pos rfl, if_pos (by omega), show off + j * 5 + 2 - off = j * 5 + 2 by omega, cf2]; rfl
  rw [if_neg h2]
  by_cases h1 : t = off + j * 5 + 1
  · subst h1; rw [if_pos rfl, if_pos (by omega), show off + j * 5 + 1 - off = j * 5 + 1 by omega, cf1]; rfl
  rw [if_neg h1]
  by_cases h0 : t = off + j * 5
  · subst h0; rw [if_pos rfl, if_pos (by omega), show off + j * 5 - off = j * 5 by omega, cf0]; rfl
  rw [if_neg h0]
  by_cases hl : off ≤ t ∧ t < off + j * 5
  · rw [if_pos hl, if_pos (by omega)]
  · rw [if_neg hl, if_neg (by omega)]
theorem marked_next' {w : World} {g N off j o1 o2 o3 o4 : Nat} {F : Nat → Value} {k v1 v2 v3 v4 : Int} (h : w.rowIs g 33 N (marked F k off j))
    (e1 : o1 = off + j * 5 + 1) (e2 : o2 = off + j * 5 + 2) (e3 : o3 = off + j * 5 + 3) (e4 : o4 = off + j * 5 + 4) (u1 : v1 = k + 5 * j + 1) (u2 : v2 = k + 5 * j + 2) (u3 : v3 = k + 5 * j + 3) (u4 : v4 = k + 5 * j + 4) :
    (((((w.setCell ⟨g, off + j * 5, none⟩ (.int .i64 (k + 5 * j))).setCell ⟨g, o1, none⟩ (.int .i64 v1)).setCell ⟨g, o2, none⟩ (.int .i64 v2)).setCell ⟨g, o3, none⟩ (.int .i64 v3)).setCell ⟨g, o4, none⟩ (.int .i64 v4)).rowIs g 33 N (marked F k off (j + 1)) := by
  subst e1 e2 e3 e4 u1 u2 u3 u4
  exact marked_next h
theorem grown_set {w0 w : World} {g o : Nat} (h : w0.grownBy w (some g)) (u : Value) : w0.grownBy (w.setCell ⟨g, o, none⟩ u) (some g) :=
  ⟨h.os, h.tape, h.output, Nat.le_trans h.size (by simp [World.setCell]), fun k hk hn => (Below.heap_setCell _ _ _ _ (by intro e; exact hn (by rw [e]))).trans (h.block k hk hn)⟩
theorem grown_refl (w : World) (r : Option Nat) : w.grownBy w r := ⟨rfl, rfl, rfl, Nat.le_refl _, fun _ _ _ => rfl⟩
theorem size_set (w : World) (a : Addr) (u : Value) : (w.setCell a u).heap.size = w.heap.size := by simp [World.setCell]
theorem mk_eq (k : Int) (i : Nat) : (mk k i).c = k + 5 * i ∧ (mk k i).m.x = k + 5 * i + 1 ∧ (mk k i).m.y = k + 5 * i + 2 ∧ (mk k i).m.d = k + 5 * i + 3 ∧ (mk k i).m.e = k + 5 * i + 4 := ⟨rfl, rfl, rfl, rfl, rfl⟩
end Go.Proofs.Ytmlaedpamobmhab
namespace Go.Proofs.Ytmlaedpamobmhab
open Go.RowKit Go.Deep Go.Joins
set_option linter.unusedVariables false

/-- A slice of terms that came in. -/
def IsTerms (w : World) (a : Option Addr) (n cap : Nat) (f : Nat → T) : Prop :=
  n ≤ cap ∧ cap ≤ maxLen ∧ (n = 0 ∨ ∃ b off, a = some ⟨b, off, none⟩ ∧ b < w.heap.size ∧ ∀ i, i < n → Cells w b (off + i * 5) (f i))
theorem IsTerms.rd {w : World} {a : Option Addr} {n cap : Nat} {f : Nat → T} (h : IsTerms w a n cap f) (hn : n * 40 ≤ 140737488351232) : Rd w a n cap f := ⟨h.1, hn, h.2.2⟩
theorem cellsOfT : Try.prog.cellsOf 93 = 5 := by kernel_rfl
theorem cellsOfM : Try.prog.cellsOf 91 = 4 := by kernel_rfl
theorem cellsOfI : Try.prog.cellsOf 3 = 1 := by kernel_rfl
set_option maxRecDepth 100000 in
theorem terms_open {H : Type} {enc : TypeId × Value → H} {w : World} {base : Nat} {spare : Nat → Bool} {held : Bool} {fuel : Nat} {a : Option Addr} {n cap : Nat} {x : DataW H × List MemPlace}
    (h : DataW.trod enc Try.prog w base spare held fuel 68 [.slice a n cap] = some x) : ∃ f, IsTerms w a n cap f := by
  rcases open_slice Try.underlying68 h with ⟨hc, _⟩ | ⟨ad, len, cp, m, k, D, Pl, hc, _, hl, hm, hmm, _, hx⟩
  · simp at hc
    obtain ⟨rfl, rfl, rfl⟩ := hc
    exact ⟨fun _ => ⟨0, ⟨0, 0, 0, 0⟩⟩, Nat.le_refl _, Nat.zero_le _, .inl rfl⟩
  · simp at hc
    obtain ⟨rfl, rfl, rfl⟩ := hc
    by_cases h0 : n = 0
    · exact ⟨fun _ => ⟨0, ⟨0, 0, 0, 0⟩⟩, hl, hm, .inl h0⟩
    have hnm : n ≤ m := by rw [hmm]; split <;> omega
    have each : ∀ i, i < n → ∃ t : Int × Int × Int × Int × Int, w.cell? (ad.add (i * 5)) = some (.int .i64 t.1) ∧ w.cell? (ad.add (i * 5 + 1)) = some (.int .i64 t.2.1) ∧ w.cell? (ad.add (i * 5 + 2)) = some (.int .i64 t.2.2.1) ∧ w.cell? (ad.add (i * 5 + 3)) = some (.int .i64 t.2.2.2.1) ∧ w.cell? (ad.add (i * 5 + 4)) = some (.int .i64 t.2.2.2.2) := by
      intro i hi
      obtain ⟨cs', h1, h2⟩ := hx i (by omega)
      rw [cellsOfT] at h1
      obtain ⟨_, hlen, hcell⟩ := World.cells?_some h1
      obtain ⟨xs, kk, hk, hxy, _, hxl, hf⟩ := DataW.trod_struct Try.underlying93 h2
      match cs', hlen, xs, hxl with
      | [v0, v1, v2, v3, v4], _, [p0, p1], _ =>
        have g0 := hf 0 _ rfl
        have g1 := hf 1 _ rfl
        simp [cellsOfI, cellsOfM] at g0 g1
        obtain ⟨y0, y1, y2, y3, n4, _, _, q0, q1, q2, q3⟩ := trod_struct4 Try.underlying91 g1
        simp [cellsOfI] at q0 q1 q2 q3
        obtain ⟨z0, e0, _, _⟩ := DataW.trod_int Try.underlying3 g0
        obtain ⟨z1, e1, _, _⟩ := DataW.trod_int Try.underlying3 q0
        obtain ⟨z2, e2, _, _⟩ := DataW.trod_int Try.underlying3 q1
        obtain ⟨z3, e3, _, _⟩ := DataW.trod_int Try.underlying3 q2
        obtain ⟨z4, e4, _, _⟩ := DataW.trod_int Try.underlying3 q3
        simp at e0 e1 e2 e3 e4
        subst e0 e1 e2 e3 e4
        have c0 := hcell 0 (by omega)
        have c1 := hcell 1 (by omega)
        have c2 := hcell 2 (by omega)
        have c3 := hcell 3 (by omega)
        have c4 := hcell 4 (by omega)
        rw [add_add] at c0 c1 c2 c3 c4
        exact ⟨(z0, z1, z2, z3, z4), by simpa using c0, by simpa using c1, by simpa using c2, by simpa using c3, by simpa using c4⟩
    obtain ⟨q, hq⟩ := choose_lt each
    obtain ⟨b, off, spot⟩ := ad
    have hs : spot = none := by
      have := World.cell?_spot (hq 0 (by omega)).1
      simpa [Addr.add] using this
    subst hs
    have hadd : ∀ j, (⟨b, off, none⟩ : Addr).add j = ⟨b, off + j, none⟩ := fun j => by unfold Addr.add; split <;> simp_all
    refine ⟨fun i => ⟨(q i).1, ⟨(q i).2.1, (q i).2.2.1, (q i).2.2.2.1, (q i).2.2.2.2⟩⟩, hl, hm, .inr ⟨b, off, rfl, ?_, fun i hi => ?_⟩⟩
    · have := World.block_lt_of_cell? w _ (hq 0 (by omega)).1
      rw [hadd] at this
      exact this
    · obtain ⟨c0, c1, c2, c3, c4⟩ := hq i hi
      rw [hadd] at c0 c1 c2 c3 c4
      exact ⟨c0, c1, c2, c3, c4⟩
end Go.Proofs.Ytmlaedpamobmhab
