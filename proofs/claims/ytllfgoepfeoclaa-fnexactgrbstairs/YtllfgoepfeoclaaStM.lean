/-
  Slices of monomials: what the statements' helpers do to them.
-/
import Derived.Test.YtllfgoepfeoclaaGaf
import Derived.Test.YtllfgoepfeoclaaGai
namespace Go.Proofs.Ytllfgoepfeoclaa
open Go.RowKit
set_option linter.unusedVariables false

def CellsM (w : World) (b o : Nat) (m : M) : Prop := w.cell? ⟨b, o, none⟩ = some (.int .i64 m.x) ∧ w.cell? ⟨b, o + 1, none⟩ = some (.int .i64 m.y) ∧ w.cell? ⟨b, o + 2, none⟩ = some (.int .i64 m.d) ∧ w.cell? ⟨b, o + 3, none⟩ = some (.int .i64 m.e)
theorem CellsM.same {w w' : World} {b o : Nat} {m : M} (h : CellsM w b o m) (he : w'.heap[b]? = w.heap[b]?) : CellsM w' b o m := by
  have key : ∀ j, w'.cell? ⟨b, j, none⟩ = w.cell? ⟨b, j, none⟩ := fun j => by unfold World.cell?; rw [he]
  exact ⟨(key _).trans h.1, (key _).trans h.2.1, (key _).trans h.2.2.1, (key _).trans h.2.2.2⟩
theorem CellsM.below {w w' : World} {n b o : Nat} {m : M} (h : CellsM w b o m) (hb : Below n w w') (hlt : b < n) : CellsM w' b o m := h.same (hb.block b hlt)
/-- monomials that can be read. -/
def RdM (w : World) (a : Option Addr) (n cap : Nat) (f : Nat → M) : Prop :=
  n ≤ cap ∧ n * 32 ≤ 140737488351232 ∧ (n = 0 ∨ ∃ b off, a = some ⟨b, off, none⟩ ∧ b < w.heap.size ∧ ∀ i, i < n → CellsM w b (off + i * 4) (f i))
theorem RdM.below {w w' : World} {a : Option Addr} {n cap : Nat} {f : Nat → M} (h : RdM w a n cap f) (hb : Below w.heap.size w w') : RdM w' a n cap f :=
  ⟨h.1, h.2.1, h.2.2.imp id fun ⟨b, off, e, hlt, hc⟩ => ⟨b, off, e, Nat.lt_of_lt_of_le hlt hb.size, fun i hi => (hc i hi).below hb hlt⟩⟩
theorem RdM.grown {w w' : World} {a : Option Addr} {n cap : Nat} {f : Nat → M} {row : Option Nat} (h : RdM w a n cap f) (hg : w.grownBy w' row) (hne : n = 0 ∨ ∀ b off, a = some ⟨b, off, none⟩ → some b ≠ row) : RdM w' a n cap f := by
  refine ⟨h.1, h.2.1, ?_⟩
  rcases h.2.2 with h0 | ⟨b, off, rfl, hlt, hc⟩
  · exact .inl h0
  · rcases hne with h0 | hne
    · exact .inl h0
    · exact .inr ⟨b, off, rfl, Nat.lt_of_lt_of_le hlt hg.size, fun i hi => (hc i hi).same (hg.block b hlt (hne b off rfl))⟩
def cfm (f : Nat → M) (j : Nat) : Value := if j % 4 = 0 then .int .i64 (f (j / 4)).x else if j % 4 = 1 then .int .i64 (f (j / 4)).y else if j % 4 = 2 then .int .i64 (f (j / 4)).d else .int .i64 (f (j / 4)).e
theorem cfm0 (f : Nat → M) (i : Nat) : cfm f (i * 4) = .int .i64 (f i).x := by
  unfold cfm; rw [if_pos (by omega), show i * 4 / 4 = i by omega]
theorem cfm1 (f : Nat → M) (i : Nat) : cfm f (i * 4 + 1) = .int .i64 (f i).y := by
  unfold cfm; rw [if_neg (by omega), if_pos (by omega), show (i * 4 + 1) / 4 = i by omega]
theorem cfm2 (f : Nat → M) (i : Nat) : cfm f (i * 4 + 2) = .int .i64 (f i).d := by
  unfold cfm; rw [if_neg (by omega), if_neg (by omega), if_pos (by omega), show (i * 4 + 2) / 4 = i by omega]
theorem cfm3 (f : Nat → M) (i : Nat) : cfm f (i * 4 + 3) = .int .i64 (f i).e := by
  unfold cfm; rw [if_neg (by omega), if_neg (by omega), if_neg (by omega), show (i * 4 + 3) / 4 = i by omega]
def WrM (w : World) (a : Option Addr) (n : Nat) (f : Nat → M) : Prop :=
  n = 0 ∨ ∃ g off N F, a = some ⟨g, off, none⟩ ∧ w.rowIs g 25 N F ∧ off + n * 4 ≤ N ∧ ∀ j, j < n * 4 → F (off + j) = cfm f j
theorem WrM.rd {w : World} {a : Option Addr} {n cap : Nat} {f : Nat → M} (h : WrM w a n f) (hc : n ≤ cap) (hn : n * 32 ≤ 140737488351232) : RdM w a n cap f := by
  refine ⟨hc, hn, ?_⟩
  rcases h with h0 | ⟨g, off, N, F, rfl, hR, hN, hF⟩
  · exact .inl h0
  · refine .inr ⟨g, off, rfl, hR.lt, fun i hi => ?_⟩
    refine ⟨?_, ?_, ?_, ?_⟩
    · rw [hR.cell (by omega), hF _ (by omega), cfm0]
    · rw [show off + i * 4 + 1 = off + (i * 4 + 1) by omega, hR.cell (by omega), hF _ (by omega), cfm1]
    · rw [show off + i * 4 + 2 = off + (i * 4 + 2) by omega, hR.cell (by omega), hF _ (by omega), cfm2]
    · rw [show off + i * 4 + 3 = off + (i * 4 + 3) by omega, hR.cell (by omega), hF _ (by omega), cfm3]
theorem WrM.below {w w' : World} {a : Option Addr} {n : Nat} {f : Nat → M} (h : WrM w a n f) (hb : Below w.heap.size w w') : WrM w' a n f := by
  rcases h with h0 | ⟨g, off, N, F, rfl, hR, hN, hF⟩
  · exact .inl h0
  · exact .inr ⟨g, off, N, F, rfl, hR.of_block (hb.block g hR.lt), hN, hF⟩
theorem WrM.grown {w w' : World} {a : Option Addr} {n : Nat} {f : Nat → M} {row : Option Nat} (h : WrM w a n f) (hg : w.grownBy w' row) (hne : n = 0 ∨ ∀ b off, a = some ⟨b, off, none⟩ → some b ≠ row) : WrM w' a n f := by
  rcases h with h0 | ⟨g, off, N, F, rfl, hR, hN, hF⟩
  · exact .inl h0
  · rcases hne with h0 | hne
    · exact .inl h0
    · exact .inr ⟨g, off, N, F, rfl, hR.of_block (hg.block g hR.lt (hne g off rfl)), hN, hF⟩
def lfm (L : List M) (i : Nat) : M := L.getD i ⟨0, 0, 0, 0⟩
def M.cells (m : M) : List Value := [.int .i64 m.x, .int .i64 m.y, .int .i64 m.d, .int .i64 m.e]
def cellsM (L : List M) : List Value := L.flatMap M.cells
theorem cellsM_append (a b : List M) : cellsM (a ++ b) = cellsM a ++ cellsM b := by simp [cellsM]
theorem cellsM_one (m : M) : cellsM [m] = [.int .i64 m.x, .int .i64 m.y, .int .i64 m.d, .int .i64 m.e] := by simp [cellsM, M.cells]
theorem cellsM_length (a : List M) : (cellsM a).length = a.length * 4 := by
  induction a with
  | nil => rfl
  | cons m r ih =>
    have e : cellsM (m :: r) = m.cells ++ cellsM r := rfl
    rw [e, List.length_append, ih]
    simp [M.cells]; omega
theorem oneM_cells (m : M) : ∀ u ∈ cellsM [m], u.oneCell' = true := by
  intro u hu
  rw [cellsM_one] at hu
  simp at hu
  rcases hu with rfl | rfl | rfl | rfl <;> rfl
theorem cellsM_at (L : List M) : ∀ j, j < L.length * 4 → (cellsM L)[j]? = some (cfm (lfm L) j) := by
  induction L with
  | nil => intro j h; simp at h
  | cons t r ih =>
    intro j h
    have e : cellsM (t :: r) = t.cells ++ cellsM r := rfl
    rw [e]
    by_cases hj : j < 4
    · rw [List.getElem?_append_left (by simp [M.cells]; omega)]
      have h5 : j = 0 ∨ j = 1 ∨ j = 2 ∨ j = 3 := by omega
      rcases h5 with rfl | rfl | rfl | rfl <;> rfl
    · rw [List.getElem?_append_right (by simp [M.cells]; omega), show M.cells t = [.int .i64 t.x, .int .i64 t.y, .int .i64 t.d, .int .i64 t.e] from rfl]
      simp only [List.length_cons, List.length_nil]
      rw [ih (j - 4) (by simp at h; omega)]
      obtain ⟨q, rfl⟩ : ∃ q, j = q + 4 := ⟨j - 4, by omega⟩
      simp only [Nat.add_sub_cancel]
      unfold cfm
      rw [show (q + 4) % 4 = q % 4 by omega, show (q + 4) / 4 = q / 4 + 1 by omega]
      rfl
def OutM (lo : Nat) (w : World) (a : Option Addr) (cap : Nat) (L : List M) : Prop :=
  RdM w a L.length cap (lfm L) ∧ WrM w a L.length (lfm L) ∧ (L.length = 0 ∨ ∃ g off, a = some ⟨g, off, none⟩ ∧ lo ≤ g)
theorem outM_of_owns {w : World} {lo : Nat} {v : Value} {L : List M} (h : w.ownsRow lo 25 4 v L.length (cellsM L)) (hl : L.length * 32 ≤ 140737488351232) : ∃ a cap, v = .slice a L.length cap ∧ OutM lo w a cap L := by
  rcases h.2 with ⟨hv, h0⟩ | ⟨g, cap, cur, hv, hlo, hg, hn, hm, hs, ht⟩
  · refine ⟨none, 0, by rw [hv, h0], ⟨by omega, hl, .inl h0⟩, .inl h0, .inl h0⟩
  · have hat : ∀ j, j < L.length * 4 → cur[j]? = some (cfm (lfm L) j) := by
      intro j hj
      rw [← cellsM_at L j hj, ← ht, List.getElem?_take_of_lt hj]
      simp
    have hc5 : L.length * 4 ≤ cap * 4 := by omega
    have hrow : w.rowIs g 25 (cap * 4) (fun j => cur.getD j undef) := ⟨cur, hg, hs, fun j hj => by
      have hjs : j < cur.size := by omega
      show cur[j]? = some (cur.getD j undef)
      rw [Array.getD_eq_getD_getElem?, Array.getElem?_eq_getElem hjs]
      rfl⟩
    have hcell : ∀ j, j < L.length * 4 → w.cell? ⟨g, j, none⟩ = some (cfm (lfm L) j) := by
      intro j hj
      rw [hrow.cell (by omega), Array.getD_eq_getD_getElem?, hat j hj]; rfl
    refine ⟨some ⟨g, 0, none⟩, cap, hv, ⟨hn, hl, .inr ⟨g, 0, rfl, hrow.lt, fun i hi => ?_⟩⟩, .inr ⟨g, 0, cap * 4, _, rfl, hrow, by omega, fun j hj => ?_⟩, .inr ⟨g, 0, rfl, hlo⟩⟩
    · rw [Nat.zero_add]
      exact ⟨by rw [hcell _ (by omega), cfm0], by rw [hcell _ (by omega), cfm1], by rw [hcell _ (by omega), cfm2], by rw [hcell _ (by omega), cfm3]⟩
    · rw [Nat.zero_add, Array.getD_eq_getD_getElem?, hat j hj]; rfl
theorem OutM.below {lo : Nat} {w w' : World} {a : Option Addr} {cap : Nat} {L : List M} (h : OutM lo w a cap L) (hb : Below w.heap.size w w') : OutM lo w' a cap L := ⟨h.1.below hb, h.2.1.below hb, h.2.2⟩
def monsEq (n : Nat) (f : Nat → M) (n' : Nat) (f' : Nat → M) : Bool := decide (n = n' ∧ ∀ i, i < n → (f i).eqB (f' i) = true)
theorem monsEq_same (n : Nat) (f : Nat → M) : monsEq n f n f = true := by
  simp [monsEq, M.eqB_iff]
theorem eqMon_of {t u : M} {b : Bool} (h : t.eqB u = b) (w : World) :
    Calls Try.prog 34 #[.agg #[.int .i64 t.x, .int .i64 t.y, .int .i64 t.d, .int .i64 t.e], .agg #[.int .i64 u.x, .int .i64 u.y, .int .i64 u.d, .int .i64 u.e]] w fun r w' => r = .returned (.bool b) ∧ Below w.heap.size w w' := by
  rw [← h]; exact eqMon _ _ _ _ _ _ _ _ w
set_option maxHeartbeats 4000000 in
theorem eqMons (w : World) (a a' : Option Addr) (n cap n' cap' : Nat) (f f' : Nat → M) (h : RdM w a n cap f) (h' : RdM w a' n' cap' f') :
    Calls Try.prog 16 #[.slice a n cap, .slice a' n' cap'] w fun r w' => r = .returned (.bool (monsEq n f n' f')) ∧ Below w.heap.size w w' := by
  obtain ⟨h1, h2, h3⟩ := h
  obtain ⟨h1', h2', h3'⟩ := h'
  have hn : (n : Int) ≤ 140737488351232 := by omega
  have hn' : (n' : Int) ≤ 140737488351232 := by omega
  by_cases hnn : n = n'
  · subst hnn
    go_enter Try.func16, Try.ntmps16
    go_wp2
    go_loopw [5] (fun i wr => ∃ k : Nat, k ≤ n ∧ i = .int .i64 k ∧ Below w.heap.size w wr ∧ ∀ j, j < k → (f j).eqB (f' j) = true) (fun i _ => n - (intOf i).toNat)
    case atStart => exact ⟨0, Nat.zero_le _, rfl, Below.refl _ _, fun j hj => absurd hj (Nat.not_lt_zero _)⟩
    case round =>
      obtain ⟨k, hk, rfl, hB, hok⟩ := hrel
      by_cases hlt : k < n
      · rcases h3 with h0 | ⟨b, off, rfl, hblt, hcl⟩
        · omega
        rcases h3' with h0 | ⟨b', off', rfl, hblt', hcl'⟩
        · omega
        have hkn : (k : Int) < (n : Int) := by omega
        have hbr : b < wr.heap.size := Nat.lt_of_lt_of_le hblt hB.size
        have hbr' : b' < wr.heap.size := Nat.lt_of_lt_of_le hblt' hB.size
        have ne := Ext.there wr
        have hck := (hcl k hlt).below hB hblt
        have hck' := (hcl' k hlt).below hB hblt'
        have s0 : ∀ u : Ext wr, u.1.cell? ⟨b, off + k * 4, none⟩ = some (.int .i64 (f k).x) := fun u => (u.cell hbr).trans hck.1
        have s1 : ∀ u : Ext wr, u.1.cell? ⟨b, off + k * 4 + 1, none⟩ = some (.int .i64 (f k).y) := fun u => (u.cell hbr).trans hck.2.1
        have s2 : ∀ u : Ext wr, u.1.cell? ⟨b, off + k * 4 + 2, none⟩ = some (.int .i64 (f k).d) := fun u => (u.cell hbr).trans hck.2.2.1
        have s3 : ∀ u : Ext wr, u.1.cell? ⟨b, off + k * 4 + 3, none⟩ = some (.int .i64 (f k).e) := fun u => (u.cell hbr).trans hck.2.2.2
        have t0 : ∀ u : Ext wr, u.1.cell? ⟨b', off' + k * 4, none⟩ = some (.int .i64 (f' k).x) := fun u => (u.cell hbr').trans hck'.1
        have t1 : ∀ u : Ext wr, u.1.cell? ⟨b', off' + k * 4 + 1, none⟩ = some (.int .i64 (f' k).y) := fun u => (u.cell hbr').trans hck'.2.1
        have t2 : ∀ u : Ext wr, u.1.cell? ⟨b', off' + k * 4 + 2, none⟩ = some (.int .i64 (f' k).d) := fun u => (u.cell hbr').trans hck'.2.2.1
        have t3 : ∀ u : Ext wr, u.1.cell? ⟨b', off' + k * 4 + 3, none⟩ = some (.int .i64 (f' k).e) := fun u => (u.cell hbr').trans hck'.2.2.2
        clear hck hck' hcl hcl'
        cases he : (f k).eqB (f' k)
        · have HF : Hid (monsEq n f n f' = false) := by
            show monsEq n f n f' = false
            simp only [monsEq, decide_eq_false_iff_not]
            intro hh
            have := hh.2 k hlt
            rw [he] at this
            cases this
          clear hok
          go_wp2_with fail
          refine wp_region_ext (by kernel_rfl) (by kernel_rfl) ?_
          repeat (go_big_quiet_step (first | (go_at_call 34; exact ext_grows (eqMon_of he _))))
          refine wpQuiet_nil ?_
          rintro _ ⟨u, rfl⟩
          go_wp2
          go_ret
          exact ⟨by rw [HF.out]; rfl, hB.trans (u.2.mono hB.size)⟩
        · have hok' : Hid (∀ j, j < k + 1 → (f j).eqB (f' j) = true) := fun j hj => by
            by_cases hjk : j = k
            · rw [hjk]; exact he
            · exact hok j (by omega)
          clear hok
          go_wp2_with fail
          refine wp_region_ext (by kernel_rfl) (by kernel_rfl) ?_
          repeat (go_big_quiet_step (first | (go_at_call 34; exact ext_grows (eqMon_of he _))))
          refine wpQuiet_nil ?_
          rintro _ ⟨u, rfl⟩
          go_wp2
          go_roundw
          case rel => exact ⟨k + 1, by omega, by go_num, hB.trans (u.2.mono hB.size), hok'.out⟩
          case measure => simp [intOf]; omega
      · go_wp2
        go_ret
        have hp : monsEq n f n f' = true := by
          simp only [monsEq, decide_eq_true_eq]
          exact ⟨trivial, fun i hi => hok i (by omega)⟩
        exact ⟨by rw [hp]; rfl, hB⟩
  · have hp : monsEq n f n' f' = false := by
      simp only [monsEq, decide_eq_false_iff_not]
      exact fun h => hnn h.1
    rw [hp]
    have hne : ((n : Int) != (n' : Int)) = true := by simp; omega
    go_enter Try.func16, Try.ntmps16
    go_wp2
    go_ret
    exact ⟨rfl, Below.refl _ _⟩
def mkm (k : Int) (i : Nat) : M := ⟨k + 4 * i, k + 4 * i + 1, k + 4 * i + 2, k + 4 * i + 3⟩
def markedM (F : Nat → Value) (k : Int) (off j : Nat) (t : Nat) : Value := if off ≤ t ∧ t < off + j * 4 then cfm (mkm k) (t - off) else F t
theorem markedM_next {w : World} {g N off j o1 o2 o3 : Nat} {F : Nat → Value} {k v1 v2 v3 : Int} (h : w.rowIs g 25 N (markedM F k off j))
    (e1 : o1 = off + j * 4 + 1) (e2 : o2 = off + j * 4 + 2) (e3 : o3 = off + j * 4 + 3) (u1 : v1 = k + 4 * j + 1) (u2 : v2 = k + 4 * j + 2) (u3 : v3 = k + 4 * j + 3) :
    ((((w.setCell ⟨g, off + j * 4, none⟩ (.int .i64 (k + 4 * j))).setCell ⟨g, o1, none⟩ (.int .i64 v1)).setCell ⟨g, o2, none⟩ (.int .i64 v2)).setCell ⟨g, o3, none⟩ (.int .i64 v3)).rowIs g 25 N (markedM F k off (j + 1)) := by
  subst e1 e2 e3 u1 u2 u3
  refine ((((h.set _ _).set _ _).set _ _).set _ _).congr fun t ht => ?_
  unfold markedM
  by_cases h3 : t = off + j * 4 + 3
  · subst h3; rw [if_pos rfl, if_pos (by omega), show off + j * 4 + 3 - off = j * 4 + 3 by omega, cfm3]; rfl
  rw [if_neg h3]
  by_cases h2 : t = off + j * 4 + 2
  · subst h2; rw [if_pos rfl, if_pos (by omega), show off + j * 4 + 2 - off = j * 4 + 2 by omega, cfm2]; rfl
  rw [if_neg h2]
  by_cases h1 : t = off + j * 4 + 1
  · subst h1; rw [if_pos rfl, if_pos (by omega), show off + j * 4 + 1 - off = j * 4 + 1 by omega, cfm1]; rfl
  rw [if_neg h1]
  by_cases h0 : t = off + j * 4
  · subst h0; rw [if_pos rfl, if_pos (by omega), show off + j * 4 - off = j * 4 by omega, cfm0]; rfl
  rw [if_neg h0]
  by_cases hl : off ≤ t ∧ t < off + j * 4
  · rw [if_pos hl, if_pos (by omega)]
  · rw [if_neg hl, if_neg (by omega)]
set_option maxHeartbeats 4000000 in
theorem markMons (w : World) (a : Option Addr) (n cap : Nat) (f : Nat → M) (k : Int) (h : WrM w a n f) (hn : (n : Int) ≤ 140737488351232) (hk0 : 0 ≤ k) (hk1 : k ≤ 1000000000000000) :
    Calls Try.prog 19 #[.slice a n cap, .int .i64 k] w fun r w' => r = .returned (.int .i64 (k + 4 * n)) ∧ w.grownBy w' (a.map (·.block)) ∧ w'.heap.size = w.heap.size ∧ WrM w' a n (mkm k) ∧ (n = 0 → w' = w) := by
  by_cases hn0 : n = 0
  · subst hn0
    go_enter Try.func19, Try.ntmps19
    go_wp2
    go_loopw [1, 5] (fun kk i wr => wr = w ∧ kk = .int .i64 k ∧ i = .int .i64 0) (fun _ _ _ => 0)
    case atStart => exact ⟨rfl, rfl, rfl⟩
    case round =>
      obtain ⟨rfl, rfl, rfl⟩ := hrel
      go_wp2
      go_ret
      exact ⟨ret_int (by simp), grown_refl _ _, rfl, .inl rfl, fun _ => rfl⟩
  · obtain ⟨g, off, N, F, rfl, hR, hN, hF⟩ := h.resolve_left hn0
    clear h
    go_enter Try.func19, Try.ntmps19
    go_wp2
    go_loopw [1, 5] (fun kk i wr => ∃ j : Nat, j ≤ n ∧ i = .int .i64 j ∧ kk = .int .i64 (k + 4 * j) ∧ w.grownBy wr (some g) ∧ wr.heap.size = w.heap.size ∧ wr.rowIs g 25 N (markedM F k off j)) (fun _ i _ => n - (intOf i).toNat)
    case atStart => exact ⟨0, Nat.zero_le _, rfl, by simp, grown_refl _ _, rfl, hR.congr fun t _ => by unfold markedM; rw [if_neg (by omega)]⟩
    case round =>
      obtain ⟨j, hj, rfl, rfl, hG, hS, hM⟩ := hrel
      by_cases hlt : j < n
      · have hjn : (j : Int) < (n : Int) := by omega
        have q0 := hM.cell (i := off + j * 4) (by omega)
        have q1 := hM.cell (i := off + j * 4 + 1) (by omega)
        have q2 := hM.cell (i := off + j * 4 + 2) (by omega)
        have q3 := hM.cell (i := off + j * 4 + 3) (by omega)
        have fz := fun i => hM.frozen i
        have HM := Hid.mk' hM
        have HG := Hid.mk' hG
        have HS := Hid.mk' hS
        clear hM hR hF hG hS
        go_wp2
        go_roundw
        case rel =>
          exact ⟨j + 1, by omega, by go_num, congrArg (Value.int .i64) (by omega), grown_set (grown_set (grown_set (grown_set HG.out _) _) _) _, by simp only [size_set]; exact HS.out, markedM_next HM.out (by omega) (by omega) (by omega) (by omega) (by omega) (by omega)⟩
        case measure => simp [intOf]; omega
      · have hjn : j = n := by omega
        subst hjn
        have HM := Hid.mk' hM
        clear hM
        go_wp2
        go_ret
        exact ⟨ret_int rfl, hG, hS, .inr ⟨g, off, N, _, rfl, HM.out, hN, fun t ht => by unfold markedM; rw [if_pos (by omega), show off + t - off = t by omega]⟩, fun h0 => absurd h0 hn0⟩
set_option maxHeartbeats 4000000 in
theorem heldMons (w : World) (a : Option Addr) (n cap : Nat) (k : Int) (h : RdM w a n cap (mkm k)) (hk0 : 0 ≤ k) (hk1 : k ≤ 1000000000000000) :
    Calls Try.prog 20 #[.slice a n cap, .int .i64 k] w fun r w' => r = .returned (.int .i64 (k + 4 * n)) ∧ w' = w := by
  obtain ⟨h1, h2, h3⟩ := h
  have hn : (n : Int) ≤ 140737488351232 := by omega
  go_enter Try.func20, Try.ntmps20
  go_wp2
  go_loop [1, 5] (fun kk i => ∃ j : Nat, j ≤ n ∧ i = .int .i64 j ∧ kk = .int .i64 (k + 4 * j)) (fun _ i => n - (intOf i).toNat)
  case atStart => exact ⟨0, Nat.zero_le _, rfl, by simp⟩
  case round =>
    obtain ⟨j, hj, rfl, rfl⟩ := hrel
    by_cases hlt : j < n
    · rcases h3 with h0 | ⟨b, off, rfl, hblt, hcl⟩
      · omega
      have hjn : (j : Int) < (n : Int) := by omega
      obtain ⟨g0, g1, g2, g3⟩ := hcl j hlt
      change _ = some (Value.int .i64 (k + 4 * j)) at g0
      change _ = some (Value.int .i64 (k + 4 * j + 1)) at g1
      change _ = some (Value.int .i64 (k + 4 * j + 2)) at g2
      change _ = some (Value.int .i64 (k + 4 * j + 3)) at g3
      clear hcl
      go_wp2
      go_round
      case rel => exact ⟨j + 1, by omega, by go_num, congrArg (Value.int .i64) (by omega)⟩
      case measure => simp [intOf]; omega
    · have hjn : j = n := by omega
      subst hjn
      go_wp2
      go_ret
      exact ⟨ret_int rfl, rfl⟩
end Go.Proofs.Ytllfgoepfeoclaa
