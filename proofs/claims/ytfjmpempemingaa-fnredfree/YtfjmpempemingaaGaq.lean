/-
  Slices of monomials: what the statements' helpers do to them.
  The greatest monomials of operators: the program and the model.
  Whether an operator is free of others: the program.
-/
import Derived.Test.YtfjmpempemingaaGaf
import Derived.Test.YtfjmpempemingaaGaj
import Derived.Test.YtfjmpempemingaaGal
namespace Go.Proofs.Ytfjmpempemingaa
open Go.RowKit
set_option linter.unusedVariables false

def CellsM (w : World) (b o : Nat) (m : M) : Prop := w.cell? ⟨b, o, none⟩ = some (.int .i64 m.x) ∧ w.cell? ⟨b, o + 1, none⟩ = some (.int .i64 m.y) ∧ w.cell? ⟨b, o + 2, none⟩ = some (.int .i64 m.d) ∧ w.cell? ⟨b, o + 3, none⟩ = some (.int .i64 m.e)
theorem CellsM.same {w w' : World} {b o : Nat} {m : M} (h : CellsM w b o m) (he : w'.heap[b]? = w.heap[b]?) : CellsM w' b o m := by
  have key : ∀ j, w'.cell? ⟨b, j, none⟩ = w.cell? ⟨b, j, none⟩ := fun j => by unfold World.cell?; rw [he]
  exact ⟨(key _).trans h.1, (key _).trans h.2.1, (key _).trans h.2.2.1, (key _).trans h.2.2.2⟩
theorem CellsM.below {w w' : World} {n b o : Nat} {m : M} (h : CellsM w b o m) (hb : Below n w w') (hlt : b < n) : CellsM w' b o m := h.same (hb.block b hlt)
/-- monomials that can be read. -/
def RdM (w : World) (a : Option Addr) (n cap : Nat) (f : Nat → M) : Prop :=
  n ≤ cap ∧ n * 32 ≤ 140737488351232 ∧ (n = 0 ∨ ∃ b off, a = some ⟨b, off, none⟩ ∧ b < w.heap.size ∧ ∀ i, i < n → CellsM w b (off + i * 4) (f i))
theorem RdM.below {w w' : World} {a : Option Addr} {n cap : Nat} {f : Nat → M} (h : RdM w a n cap f) (hb : Below w.heap.size w w') : RdM w' a n cap f :=
  ⟨h.1, h.2.1, h.2.2.imp id fun ⟨b, off, e, hlt, hc⟩ => ⟨b, off, e, Nat.lt_of_lt_of_le hlt hb.size, fun i hi => (hc i hi).below hb hlt⟩⟩
theorem RdM.grown {w w' : World} {a : Option Addr} {n cap : Nat} {f : Nat → M} {row : Option Nat} (h : RdM w a n cap f) (hg : w.grownBy w' row) (hne : n = 0 ∨ ∀ b off, a = some ⟨b, off, none⟩ → some b ≠ row) : RdM w' a n cap f := by
  refine ⟨h.1, h.2.1, ?_⟩
  rcases h.2.2 with h0 | ⟨b, off, rfl, hlt, hc⟩
  · exact .inl h0
  · rcases hne with h0 | hne
    · exact .inl h0
    · exact .inr ⟨b, off, rfl, Nat.lt_of_lt_of_le hlt hg.size, fun i hi => (hc i hi).same (hg.block b hlt (hne b off rfl))⟩
def cfm (f : Nat → M) (j : Nat) : Value := if j % 4 = 0 then .int .i64 (f (j / 4)).x else if j % 4 = 1 then .int .i64 (f (j / 4)).y else if j % 4 = 2 then .int .i64 (f (j / 4)).d else .int .i64 (f (j / 4)).e
theorem cfm0 (f : Nat → M) (i : Nat) : cfm f (i * 4) = .int .i64 (f i).x := by
  unfold cfm; rw [if_pos (by omega), show i * 4 / 4 = i by omega]
theorem cfm1 (f : Nat → M) (i : Nat) : cfm f (i * 4 + 1) = .int .i64 (f i).y := by
  unfold cfm; rw [if_neg (by omega), if_pos (by omega), show (i * 4 + 1) / 4 = i by omega]
theorem cfm2 (f : Nat → M) (i : Nat) : cfm f (i * 4 + 2) = .int .i64 (f i).d := by
  unfold cfm; rw [if_neg (by omega), if_neg (by omega), if_pos (by omega), show (i * 4 + 2) / 4 = i by omega]
theorem cfm3 (f : Nat → M) (i : Nat) : cfm f (i * 4 + 3) = .int .i64 (f i).e := by
  unfold cfm; rw [if_neg (by omega), if_neg (by omega), if_neg (by omega), show (i * 4 + 3) / 4 = i by omega]
def WrM (w : World) (a : Option Addr) (n : Nat) (f : Nat → M) : Prop :=
  n = 0 ∨ ∃ g off N F, a = some ⟨g, off, none⟩ ∧ w.rowIs g 32 N F ∧ off + n * 4 ≤ N ∧ ∀ j, j < n * 4 → F (off + j) = cfm f j
theorem WrM.rd {w : World} {a : Option Addr} {n cap : Nat} {f : Nat → M} (h : WrM w a n f) (hc : n ≤ cap) (hn : n * 32 ≤ 140737488351232) : RdM w a n cap f := by
  refine ⟨hc, hn, ?_⟩
  rcases h with h0 | ⟨g, off, N, F, rfl, hR, hN, hF⟩
  · exact .inl h0
  · refine .inr ⟨g, off, rfl, hR.lt, fun i hi => ?_⟩
    refine ⟨?_, ?_, ?_, ?_⟩
    · rw [hR.cell (by omega), hF _ (by omega), cfm0]
    · rw [show off + i * 4 + 1 = off + (i * 4 + 1) by omega, hR.cell (by omega), hF _ (by omega), cfm1]
    · rw [show off + i * 4 + 2 = off + (i * 4 + 2) by omega, hR.cell (by omega), hF _ (by omega), cfm2]
    · rw [show off + i * 4 + 3 = off + (i * 4 + 3) by omega, hR.cell (by omega), hF _ (by omega), cfm3]
theorem WrM.below {w w' : World} {a : Option Addr} {n : Nat} {f : Nat → M} (h : WrM w a n f) (hb : Below w.heap.size w w') : WrM w' a n f := by
  rcases h with h0 | ⟨g, off, N, F, rfl, hR, hN, hF⟩
  · exact .inl h0
  · exact .inr ⟨g, off, N, F, rfl, hR.of_block (hb.block g hR.lt), hN, hF⟩
theorem WrM.grown {w w' : World} {a : Option Addr} {n : Nat} {f : Nat → M} {row : Option Nat} (h : WrM w a n f) (hg : w.grownBy w' row) (hne : n = 0 ∨ ∀ b off, a = some ⟨b, off, none⟩ → some b ≠ row) : WrM w' a n f := by
  rcases h with h0 | ⟨g, off, N, F, rfl, hR, hN, hF⟩
  · exact .inl h0
  · rcases hne with h0 | hne
    · exact .inl h0
    · exact .inr ⟨g, off, N, F, rfl, hR.of_block (hg.block g hR.lt (hne g off rfl)), hN, hF⟩
def lfm (L : List M) (i : Nat) : M := L.getD i ⟨0, 0, 0, 0⟩
def M.cells (m : M) : List Value := [.int .i64 m.x, .int .i64 m.y, .int .i64 m.d, .int .i64 m.e]
def cellsMs (L : List M) : List Value := L.flatMap M.cells
theorem cellsM_append (a b : List M) : cellsMs (a ++ b) = cellsMs a ++ cellsMs b := by simp [cellsMs]
theorem cellsM_one (m : M) : cellsMs [m] = [.int .i64 m.x, .int .i64 m.y, .int .i64 m.d, .int .i64 m.e] := by simp [cellsMs, M.cells]
theorem cellsM_length (a : List M) : (cellsMs a).length = a.length * 4 := by
  induction a with
  | nil => rfl
  | cons m r ih =>
    have e : cellsMs (m :: r) = m.cells ++ cellsMs r := rfl
    rw [e, List.length_append, ih]
    simp [M.cells]; omega
theorem oneM_cells (m : M) : ∀ u ∈ cellsMs [m], u.oneCell' = true := by
  intro u hu
  rw [cellsM_one] at hu
  simp at hu
  rcases hu with rfl | rfl | rfl | rfl <;> rfl
theorem cellsM_at (L : List M) : ∀ j, j < L.length * 4 → (cellsMs L)[j]? = some (cfm (lfm L) j) := by
  induction L with
  | nil => intro j h; simp at h
  | cons t r ih =>
    intro j h
    have e : cellsMs (t :: r) = t.cells ++ cellsMs r := rfl
    rw [e]
    by_cases hj : j < 4
    · rw [List.getElem?_append_left (by simp [M.cells]; omega)]
      have h5 : j = 0 ∨ j = 1 ∨ j = 2 ∨ j = 3 := by omega
      rcases h5 with rfl | rfl | rfl | rfl <;> rfl
    · rw [List.getElem?_append_right (by simp [M.cells]; omega), show M.cells t = [.int .i64 t.x, .int .i64 t.y, .int .i64 t.d, .int .i64 t.e] from rfl]
      simp only [List.length_cons, List.length_nil]
      rw [ih (j - 4) (by simp at h; omega)]
      obtain ⟨q, rfl⟩ : ∃ q, j = q + 4 := ⟨j - 4, by omega⟩
      simp only [Nat.add_sub_cancel]
      unfold cfm
      rw [show (q + 4) % 4 = q % 4 by omega, show (q + 4) / 4 = q / 4 + 1 by omega]
      rfl
def OutM (lo : Nat) (w : World) (a : Option Addr) (cap : Nat) (L : List M) : Prop :=
  RdM w a L.length cap (lfm L) ∧ WrM w a L.length (lfm L) ∧ (L.length = 0 ∨ ∃ g off, a = some ⟨g, off, none⟩ ∧ lo ≤ g)
theorem outM_of_owns {w : World} {lo : Nat} {v : Value} {L : List M} (h : w.ownsRow lo 32 4 v L.length (cellsMs L)) (hl : L.length * 32 ≤ 140737488351232) : ∃ a cap, v = .slice a L.length cap ∧ OutM lo w a cap L := by
  rcases h.2 with ⟨hv, h0⟩ | ⟨g, cap, cur, hv, hlo, hg, hn, hm, hs, ht⟩
  · refine ⟨none, 0, by rw [hv, h0], ⟨by omega, hl, .inl h0⟩, .inl h0, .inl h0⟩
  · have hat : ∀ j, j < L.length * 4 → cur[j]? = some (cfm (lfm L) j) := by
      intro j hj
      rw [← cellsM_at L j hj, ← ht, List.getElem?_take_of_lt hj]
      simp
    have hc5 : L.length * 4 ≤ cap * 4 := by omega
    have hrow : w.rowIs g 32 (cap * 4) (fun j => cur.getD j undef) := ⟨cur, hg, hs, fun j hj => by
      have hjs : j < cur.size := by omega
      show cur[j]? = some (cur.getD j undef)
      rw [Array.getD_eq_getD_getElem?, Array.getElem?_eq_getElem hjs]
      rfl⟩
    have hcell : ∀ j, j < L.length * 4 → w.cell? ⟨g, j, none⟩ = some (cfm (lfm L) j) := by
      intro j hj
      rw [hrow.cell (by omega), Array.getD_eq_getD_getElem?, hat j hj]; rfl
    refine ⟨some ⟨g, 0, none⟩, cap, hv, ⟨hn, hl, .inr ⟨g, 0, rfl, hrow.lt, fun i hi => ?_⟩⟩, .inr ⟨g, 0, cap * 4, _, rfl, hrow, by omega, fun j hj => ?_⟩, .inr ⟨g, 0, rfl, hlo⟩⟩
    · rw [Nat.zero_add]
      exact ⟨by rw [hcell _ (by omega), cfm0], by rw [hcell _ (by omega), cfm1], by rw [hcell _ (by omega), cfm2], by rw [hcell _ (by omega), cfm3]⟩
    · rw [Nat.zero_add, Array.getD_eq_getD_getElem?, hat j hj]; rfl
theorem OutM.below {lo : Nat} {w w' : World} {a : Option Addr} {cap : Nat} {L : List M} (h : OutM lo w a cap L) (hb : Below w.heap.size w w') : OutM lo w' a cap L := ⟨h.1.below hb, h.2.1.below hb, h.2.2⟩
def monsEq (n : Nat) (f : Nat → M) (n' : Nat) (f' : Nat → M) : Bool := decide (n = n' ∧ ∀ i, i < n → (f i).eqB (f' i) = true)
theorem monsEq_same (n : Nat) (f : Nat → M) : monsEq n f n f = true := by
  simp [monsEq, M.eqB_iff]
def mkm (k : Int) (i : Nat) : M := ⟨k + 4 * i, k + 4 * i + 1, k + 4 * i + 2, k + 4 * i + 3⟩
def markedM (F : Nat → Value) (k : Int) (off j : Nat) (t : Nat) : Value := if off ≤ t ∧ t < off + j * 4 then cfm (mkm k) (t - off) else F t
theorem markedM_next {w : World} {g N off j o1 o2 o3 : Nat} {F : Nat → Value} {k v1 v2 v3 : Int} (h : w.rowIs g 32 N (markedM F k off j))
    (e1 : o1 = off + j * 4 + 1) (e2 : o2 = off + j * 4 + 2) (e3 : o3 = off + j * 4 + 3) (u1 : v1 = k + 4 * j + 1) (u2 : v2 = k + 4 * j + 2) (u3 : v3 = k + 4 * j + 3) :
    ((((w.setCell ⟨g, off + j * 4, none⟩ (.int .i64 (k + 4 * j))).setCell ⟨g, o1, none⟩ (.int .i64 v1)).setCell ⟨g, o2, none⟩ (.int .i64 v2)).setCell ⟨g, o3, none⟩ (.int .i64 v3)).rowIs g 32 N (markedM F k off (j + 1)) := by
  subst e1 e2 e3 u1 u2 u3
  refine ((((h.set _ _).set _ _).set _ _).set _ _).congr fun t ht => ?_
  unfold markedM
  by_cases h3 : t = off + j * 4 + 3
  · subst h3; rw [if_pos rfl, if_pos (by omega), show off + j * 4 + 3 - off = j * 4 + 3 by omega, cfm3]; rfl
  rw [if_neg h3]
  by_cases h2 : t = off + j * 4 + 2
  · subst h2; rw [if_pos rfl, if_pos (by omega), show off + j * 4 + 2 - off = j * 4 + 2 by omega, cfm2]; rfl
  rw [if_neg h2]
  by_cases h1 : t = off + j * 4 + 1
  · subst h1; rw [if_pos rfl, if_pos (by omega), show off + j * 4 + 1 - off = j * 4 + 1 by omega, cfm1]; rfl
  rw [if_neg h1]
  by_cases h0 : t = off + j * 4
  · subst h0; rw [if_pos rfl, if_pos (by omega), show off + j * 4 - off = j * 4 by omega, cfm0]; rfl
  rw [if_neg h0]
  by_cases hl : off ≤ t ∧ t < off + j * 4
  · rw [if_pos hl, if_pos (by omega)]
  · rw [if_neg hl, if_neg (by omega)]
end Go.Proofs.Ytfjmpempemingaa
namespace Go.Proofs.Ytfjmpempemingaa
open Go.RowKit Go.Deep Go.Joins
set_option linter.unusedVariables false

/-- the greatest monomials of the first operators. -/
def stL (o : Int) (ln : Nat → Nat) (f : Nat → Nat → T) : Nat → List M
  | 0 => []
  | i + 1 => stL o ln f i ++ [(ldAt o ln f i).m]
theorem stL_len (o : Int) (ln : Nat → Nat) (f : Nat → Nat → T) : ∀ i, (stL o ln f i).length = i
  | 0 => rfl
  | i + 1 => by unfold stL; rw [List.length_append, stL_len o ln f i]; rfl
def stairs (o : Int) (n : Nat) (ln : Nat → Nat) (f : Nat → Nat → T) : List M := if (1 ≤ o ∧ o ≤ 3) ∧ lstOk n ln f = true then stL o ln f n else []
theorem stairs_len (o : Int) (n : Nat) (ln : Nat → Nat) (f : Nat → Nat → T) : (stairs o n ln f).length ≤ 12 := by
  unfold stairs
  split
  · rename_i h; rw [stL_len]; exact (lstOk_all h.2).1
  · simp
theorem infoMs : (Try.prog.info? 32).map (fun i => (i.zero, i.size, i.bytes)) = some (some (.agg #[.int .i64 0, .int .i64 0, .int .i64 0, .int .i64 0]), 4, 32) := by kernel_rfl
theorem ownsM_nil (w : World) (lo : Nat) : w.ownsRow lo 32 4 (.slice none 0 0) 0 (cellsMs []) := ⟨rfl, .inl ⟨rfl, rfl⟩⟩
theorem ownsM_none (w : World) (lo : Nat) (h : lo ≤ w.heap.size) : (w.alloc (.cells #[] 32)).ownsRow lo 32 4 (.slice (some ⟨w.heap.size, 0, none⟩) 0 0) 0 (cellsMs []) := World.ownsRow_lit _ _ _ h (Nat.zero_le _) rfl
set_option maxRecDepth 100000 in
set_option maxHeartbeats 2000000 in
theorem grbStairsI_no (w : World) (o : Int) (a : Option Addr) (n cap : Nat) (hc : Calls Try.prog 25 #[.int .i64 o, .slice a n cap] w fun r w' => r = .returned (.tuple #[.slice none 0 0, .bool false]) ∧ Below w.heap.size w w') :
    Calls Try.prog 8 #[.int .i64 o, .slice a n cap] w fun r w' => ∃ v, r = .returned v ∧ Below w.heap.size w w' ∧ w'.ownsRow w.heap.size 32 4 v ([] : List M).length (cellsMs []) := by
  go_enter Try.func8, Try.ntmps8
  go_wp2_with fail
  refine hc.mono ?_
  rintro r w1 ⟨rfl, hb1⟩
  have HB := Hid.mk' hb1
  clear hb1 hc
  go_wp2
  go_loopw [7, 18] (fun v i wr => v = .slice none 0 0 ∧ i = .int .i64 0 ∧ wr = w1) (fun _ _ _ => 0)
  case atStart => exact ⟨rfl, rfl, rfl⟩
  case round =>
    obtain ⟨rfl, rfl, rfl⟩ := hrel
    go_wp2
    go_ret
    exact ⟨_, rfl, HB.out, ownsM_nil _ _⟩
set_option maxRecDepth 100000 in
set_option maxHeartbeats 4000000 in
theorem grbStairsI_yes (w : World) (o : Int) (a : Option Addr) (n cap : Nat) (ad : Nat → Option Addr) (ln cp : Nat → Nat) (f : Nat → Nat → T) (h : RdS w a n cap ad ln cp f) (o1 : 1 ≤ o) (o2 : o ≤ 3) (hls : lstOk n ln f = true) :
    Calls Try.prog 8 #[.int .i64 o, .slice a n cap] w fun r w' => ∃ v, r = .returned v ∧ Below w.heap.size w w' ∧ w'.ownsRow w.heap.size 32 4 v (stL o ln f n).length (cellsMs (stL o ln f n)) := by
  obtain ⟨i0, hi0, hz0, hz1, hz2⟩ := info_parts infoMs
  have hc := redLeadsI w o a n cap ad ln cp f h o1 o2 hls
  have hn : (n : Int) ≤ 12 := by have := (lstOk_all hls).1; omega
  have HLen := Hid.mk' (ldsL_len o ln f n)
  have HAt := Hid.mk' (ldsL_at o ln f n)
  clear h hls
  go_enter Try.func8, Try.ntmps8
  go_wp2_with fail
  refine hc.mono ?_
  rintro r w1 ⟨v, rfl, hb1, ho1⟩
  obtain ⟨al, cl, rfl, hout⟩ := out_of_owns ho1 (by rw [HLen.out]; omega)
  have HB := Hid.mk' hb1
  have hR := hout.1
  rw [HLen.out] at hR ⊢
  have HR := Hid.mk' hR
  clear hb1 ho1 hout hc hR
  go_wp2
  go_loopw [7, 18] (fun v i wr => ∃ k : Nat, k ≤ n ∧ i = .int .i64 (k : Int) ∧ Below w1.heap.size w1 wr ∧ wr.ownsRow w1.heap.size 32 4 v (stL o ln f k).length (cellsMs (stL o ln f k))) (fun _ i _ => n - (intOf i).toNat)
  case atStart => exact ⟨0, Nat.zero_le _, rfl, Below.refl _ _, ownsM_nil w1 _⟩
  case round =>
    obtain ⟨k, hk, rfl, hB, hown⟩ := hrel
    have HB3 := Hid.mk' hB
    have HO3 := Hid.mk' hown
    clear hown
    by_cases hlt : k < n
    · rcases HR.out.2.2 with h0 | ⟨b, off, rfl, hblt, hcl⟩
      · omega
      have hkl : (k : Int) < (n : Int) := by omega
      have hck := (hcl k hlt).below hB hblt
      rw [HAt.out k hlt] at hck
      obtain ⟨t, ht⟩ : ∃ t, ldAt o ln f k = t := ⟨_, rfl⟩
      rw [ht] at hck
      obtain ⟨q0, q1, q2, q3, q4⟩ := hck
      have e2 : stL o ln f (k + 1) = stL o ln f k ++ [t.m] := by
        rw [← ht]; rfl
      have HE := Hid.mk' e2
      have HL := Hid.mk' (stL_len o ln f k)
      have hB5 := hB.alloc hB.size (.cells #[.int .i64 t.c, .int .i64 t.m.x, .int .i64 t.m.y, .int .i64 t.m.d, .int .i64 t.m.e] 34)
      have hO5 := HO3.out.alloc (.cells #[.int .i64 t.c, .int .i64 t.m.x, .int .i64 t.m.y, .int .i64 t.m.d, .int .i64 t.m.e] 34)
      have hnew : ((wr.alloc (.cells #[.int .i64 t.c, .int .i64 t.m.x, .int .i64 t.m.y, .int .i64 t.m.d, .int .i64 t.m.e] 34)).alloc (.cells #[.int .i64 t.m.x, .int .i64 t.m.y, .int .i64 t.m.d, .int .i64 t.m.e] 32)).heap[wr.heap.size + 1]? = some (.cells #[.int .i64 t.m.x, .int .i64 t.m.y, .int .i64 t.m.d, .int .i64 t.m.e] 32) := by
        have := heap_alloc_new (wr.alloc (.cells #[.int .i64 t.c, .int .i64 t.m.x, .int .i64 t.m.y, .int .i64 t.m.d, .int .i64 t.m.e] 34)) (.cells #[.int .i64 t.m.x, .int .i64 t.m.y, .int .i64 t.m.d, .int .i64 t.m.e] 32)
        rw [World.size_alloc] at this
        exact this
      have HN := Hid.mk' hnew
      have hwl := stL_len o ln f k
      clear e2 hnew hcl ht
      go_wp2_with (at_builtin; refine wpList_append_lies _ rfl (.tmp 22) (.tmp 25) 28 rfl w1.heap.size 32 i0 _ 4 32 Try.underlying28 hi0 hz0 hz1 hz2 rfl (by omega) _ (stL o ln f k).length (cellsMs (stL o ln f k)) rfl (hO5.alloc _) ⟨wr.heap.size + 1, 0, none⟩ 1 1 (cellsMs [t.m]) rfl (by rw [cellsM_length]; rfl) (by rw [cellsM_one]; exact World.news_of_block HN.out) (oneM_cells _) (by omega) (by unfold maxLen; omega) (by omega) (by have := hB.size; simp; omega) _ rfl ?_; intro g0 cap0 w5 hown1 hgrow hat hlt1; have HB := Hid.mk' ((hB5.alloc hB5.size _).grown hgrow (Nat.le_trans hB.size (by simp; omega)) (fun k hk => (HO3.out.lt k hk).1)); have HO1 := Hid.mk' hown1; clear hown1 hgrow hat hlt1 hO5)
      go_roundw
      case rel => exact ⟨k + 1, by omega, by go_num, HB.out, by
        have h := HO1.out
        rw [HE.out, cellsM_append, List.length_append]
        rw [HL.out] at h ⊢
        exact h⟩
      case measure => simp [intOf]; omega
    · have hnl : ¬ (k : Int) < (n : Int) := by omega
      have hie : k = n := by omega
      subst hie
      go_wp2
      go_ret
      exact ⟨_, rfl, bel_next HB.out HB3.out, owns_lower HO3.out HB.out.size⟩
theorem grbStairsI (w : World) (o : Int) (a : Option Addr) (n cap : Nat) (ad : Nat → Option Addr) (ln cp : Nat → Nat) (f : Nat → Nat → T) (h : RdS w a n cap ad ln cp f) :
    Calls Try.prog 8 #[.int .i64 o, .slice a n cap] w fun r w' => ∃ v, r = .returned v ∧ Below w.heap.size w w' ∧ w'.ownsRow w.heap.size 32 4 v (stairs o n ln f).length (cellsMs (stairs o n ln f)) := by
  unfold stairs
  by_cases ho : 1 ≤ o ∧ o ≤ 3
  · cases hls : lstOk n ln f
    · rw [if_neg (by simp)]
      exact grbStairsI_no w o a n cap (redLeadsI_no w o a n cap ad ln cp f h ho.1 ho.2 hls)
    · rw [if_pos ⟨ho, rfl⟩]
      exact grbStairsI_yes w o a n cap ad ln cp f h ho.1 ho.2 hls
  · rw [if_neg (fun h => ho h.1)]
    exact grbStairsI_no w o a n cap (redLeadsI_out w o a n cap (by omega))
end Go.Proofs.Ytfjmpempemingaa
namespace Go.Proofs.Ytfjmpempemingaa
open Go.RowKit Go.Deep Go.Joins
set_option linter.unusedVariables false

theorem free_eq {o : Int} {np : Nat} {p : Nat → T} {n : Nat} {ln : Nat → Nat} {f : Nat → Nat → T} (o1 : 1 ≤ o) (o2 : o ≤ 3) (hop : polOk np p = true) (hls : lstOk n ln f = true) : redFree o np p n ln f = !decide (0 ≤ idxF (fun t => decide (0 ≤ idxF (fun s => M.dvd s.m t.m) (lf (ldsL o ln f n)) n)) p np) := by
  have key : 0 ≤ idxF (fun t => decide (0 ≤ idxF (fun s => M.dvd s.m t.m) (lf (ldsL o ln f n)) n)) p np ↔ ∃ k, k < np ∧ ∃ i, i < n ∧ M.dvd (ldAt o ln f i).m (p k).m = true := by
    rw [idx_iff]
    refine ⟨fun ⟨k, hk, hd⟩ => ?_, fun ⟨k, hk, i, hi, hd⟩ => ?_⟩
    · obtain ⟨i, hi, h⟩ := idx_iff.1 (of_decide_eq_true hd)
      refine ⟨k, hk, i, hi, ?_⟩
      rw [← ldsL_at o ln f n i hi]
      exact h
    · refine ⟨k, hk, decide_eq_true (idx_iff.2 ⟨i, hi, ?_⟩)⟩
      show M.dvd (lf (ldsL o ln f n) i).m (p k).m = true
      rw [ldsL_at o ln f n i hi]
      exact hd
  by_cases h : 0 ≤ idxF (fun t => decide (0 ≤ idxF (fun s => M.dvd s.m t.m) (lf (ldsL o ln f n)) n)) p np
  · rw [decide_eq_true h]
    obtain ⟨k, hk, i, hi, hd⟩ := key.1 h
    exact decide_eq_false (fun hh => by have := hh.2.2.2 k hk i hi; rw [hd] at this; cases this)
  · rw [decide_eq_false h]
    exact decide_eq_true ⟨⟨o1, o2⟩, hop, hls, fun k hk i hi => by
      cases hd : M.dvd (ldAt o ln f i).m (p k).m
      · rfl
      · exact absurd (key.2 ⟨k, hk, i, hi, hd⟩) h⟩
set_option maxRecDepth 100000 in
set_option maxHeartbeats 8000000 in
theorem redFreeI (w : World) (o : Int) (pa : Option Addr) (np pc : Nat) (p : Nat → T) (hp : Rd w pa np pc p) (a : Option Addr) (n cap : Nat) (ad : Nat → Option Addr) (ln cp : Nat → Nat) (f : Nat → Nat → T) (h : RdS w a n cap ad ln cp f) :
    Calls Try.prog 6 #[.int .i64 o, .slice pa np pc, .slice a n cap] w fun r w' => r = .returned (.bool (redFree o np p n ln f)) ∧ Below w.heap.size w w' := by
  have HP := Hid.mk' hp
  have HH := Hid.mk' h
  clear hp h
  by_cases ho : 1 ≤ o ∧ o ≤ 3
  · obtain ⟨o1, o2⟩ := ho
    cases hls : lstOk n ln f
    · have e : redFree o np p n ln f = false := decide_eq_false (fun hh => by have := hh.2.2.1; rw [hls] at this; cases this)
      rw [e]
      clear e
      go_enter Try.func6, Try.ntmps6
      go_wp2_with fail
      refine (redLeadsI_no _ _ _ _ _ _ _ _ _ HH.out o1 o2 hls).mono ?_
      rintro r w1 ⟨rfl, hb⟩
      have HB := Hid.mk' (bel_next hb (bel_one w1 (.cells #[.slice none 0 0] 23)))
      clear hb
      go_wp2
      go_ret
      exact ⟨rfl, HB.out⟩
    · have HL := Hid.mk' (redLeadsI w o a n cap ad ln cp f HH.out o1 o2 hls)
      have hn12 : n ≤ 12 := (lstOk_all hls).1
      have hlen := ldsL_len o ln f n
      cases hop : polOk np p
      · have e : redFree o np p n ln f = false := decide_eq_false (fun hh => by have := hh.2.1; rw [hop] at this; cases this)
        rw [e]
        clear e hlen
        go_enter Try.func6, Try.ntmps6
        go_wp2_with fail
        refine HL.out.mono ?_
        rintro r w1 ⟨v, rfl, hb, hown⟩
        have hl1 : v.oneCell' = true := by
          rcases hown.2 with ⟨hv, _⟩ | ⟨g, cap, cur, hv, _⟩ <;> (rw [hv]; rfl)
        obtain ⟨a1, c1, rfl, hout⟩ := out_of_owns hown (by rw [ldsL_len]; omega)
        have HB := Hid.mk' (bel_next hb (bel_one w1 (.cells #[.slice a1 (ldsL o ln f n).length c1] 23)))
        clear hb hown hout HL hl1
        go_wp2_with fail
        refine (polOkI _ _ _ _ p (HP.out.below HB.out)).mono ?_
        rw [hop]
        rintro r w2 ⟨rfl, hb2⟩
        have HB2 := Hid.mk' (bel_next HB.out hb2)
        clear hb2
        go_wp2
        go_ret
        exact ⟨rfl, HB2.out⟩
      · obtain ⟨bv, hbv⟩ : ∃ bv, decide (0 ≤ idxF (fun t => decide (0 ≤ idxF (fun s => M.dvd s.m t.m) (lf (ldsL o ln f n)) n)) p np) = bv := ⟨_, rfl⟩
        rw [free_eq o1 o2 hop hls, hbv]
        have HV := Hid.mk' hbv
        have HN := Hid.mk' hlen
        clear hbv hlen
        go_enter Try.func6, Try.ntmps6
        go_wp2_with fail
        refine HL.out.mono ?_
        rintro r w1 ⟨v, rfl, hb, hown⟩
        obtain ⟨a1, c1, rfl, hout⟩ := out_of_owns hown (by rw [ldsL_len]; omega)
        have hrd := hout.1
        rw [HN.out] at hrd ⊢
        have HB := Hid.mk' (bel_next hb (bel_one w1 (.cells #[.slice a1 n c1] 23)))
        have HRD := Hid.mk' (hrd.below (bel_one w1 (.cells #[.slice a1 n c1] 23)))
        have HCL : Hid ((w1.alloc (.cells #[.slice a1 n c1] 23)).cell? ⟨w1.heap.size, 0, none⟩ = some (.slice a1 n c1)) := by
          show _ = _
          rw [World.cell?_alloc_at _ _ _ _ rfl]; rfl
        have hsz : w1.heap.size < (w1.alloc (.cells #[.slice a1 n c1] 23)).heap.size := by simp
        have HSZ := Hid.mk' hsz
        clear hb hown hout HL hrd hsz
        go_wp2_with fail
        refine (polOkI _ _ _ _ p (HP.out.below HB.out)).mono ?_
        rw [hop]
        rintro r w2 ⟨rfl, hb2⟩
        have HB2 := Hid.mk' (bel_next HB.out hb2)
        have HRD2 := Hid.mk' (HRD.out.below hb2)
        have HCL2 := Hid.mk' ((hb2.cell (p := ⟨w1.heap.size, 0, none⟩) HSZ.out).trans HCL.out)
        have hsz2 : w1.heap.size < w2.heap.size := Nat.lt_of_lt_of_le HSZ.out hb2.size
        have HC := Hid.mk' (hasI w2 pa np pc p 28 #[.pointer (some ⟨w1.heap.size, 0, none⟩)] (fun t => decide (0 ≤ idxF (fun s => M.dvd s.m t.m) (lf (ldsL o ln f n)) n)) (fun W => Rd W a1 n c1 (lf (ldsL o ln f n)) ∧ W.cell? ⟨w1.heap.size, 0, none⟩ = some (.slice a1 n c1)) (enters_of Try.func28 (by kernel_rfl) rfl) (fun k W hk hQ => free1 (p k) a1 n c1 (lf (ldsL o ln f n)) _ W hQ.1 hQ.2) (fun W' hb => ⟨HRD2.out.below hb, (hb.cell (p := ⟨w1.heap.size, 0, none⟩) hsz2).trans HCL2.out⟩) (HP.out.below HB2.out))
        clear hb2 hsz2 HRD HCL HRD2 HCL2 HSZ HB
        go_wp2_with fail
        refine HC.out.mono ?_
        rw [HV.out]
        rintro r w3 ⟨rfl, hb3⟩
        have HB3 := Hid.mk' (bel_next HB2.out hb3)
        clear hb3 HC HV
        cases bv
        · go_wp2
          go_ret
          exact ⟨rfl, HB3.out⟩
        · go_wp2
          go_ret
          exact ⟨rfl, HB3.out⟩
  · have e : redFree o np p n ln f = false := decide_eq_false (fun hh => ho hh.1)
    have hout : o < 1 ∨ 3 < o := by omega
    rw [e]
    clear ho e
    go_enter Try.func6, Try.ntmps6
    go_wp2_with fail
    refine (redLeadsI_out _ _ _ _ _ hout).mono ?_
    rintro r w1 ⟨rfl, hb⟩
    have HB := Hid.mk' (bel_next hb (bel_one w1 (.cells #[.slice none 0 0] 23)))
    clear hb hout
    go_wp2
    go_ret
    exact ⟨rfl, HB.out⟩
end Go.Proofs.Ytfjmpempemingaa
