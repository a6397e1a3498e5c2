/-
  Slices of monomials: what the statements' helpers do to them.
  The greatest monomials of operators: the program and the model.
  A proof, column by column: the program's way is the model's.
-/
import Derived.Test.YtdidlcjhodejjaaGreatGah
import Derived.Test.YtdidlcjhodejjaaGreatGba
import Derived.Test.YtdidlcjhodejjaaGreatGbc
import Derived.Test.YtdidlcjhodejjaaGreatGbq
import Derived.Test.YtdidlcjhodejjaaGreatGbu
namespace Go.Proofs.YtdidlcjhodejjaaGreat
open Go.RowKit
set_option linter.unusedVariables false

def CellsM (w : World) (b o : Nat) (m : M) : Prop := w.cell? ⟨b, o, none⟩ = some (.int .i64 m.x) ∧ w.cell? ⟨b, o + 1, none⟩ = some (.int .i64 m.y) ∧ w.cell? ⟨b, o + 2, none⟩ = some (.int .i64 m.d) ∧ w.cell? ⟨b, o + 3, none⟩ = some (.int .i64 m.e)
theorem CellsM.same {w w' : World} {b o : Nat} {m : M} (h : CellsM w b o m) (he : w'.heap[b]? = w.heap[b]?) : CellsM w' b o m := by
  have key : ∀ j, w'.cell? ⟨b, j, none⟩ = w.cell? ⟨b, j, none⟩ := fun j => by unfold World.cell?; rw [he]
  exact ⟨(key _).trans h.1, (key _).trans h.2.1, (key _).trans h.2.2.1, (key _).trans h.2.2.2⟩
theorem CellsM.below {w w' : World} {n b o : Nat} {m : M} (h : CellsM w b o m) (hb : Below n w w') (hlt : b < n) : CellsM w' b o m := h.same (hb.block b hlt)
/-- monomials that can be read. -/
def RdM (w : World) (a : Option Addr) (n cap : Nat) (f : Nat → M) : Prop :=
  n ≤ cap ∧ n * 32 ≤ 140737488351232 ∧ (n = 0 ∨ ∃ b off, a = some ⟨b, off, none⟩ ∧ b < w.heap.size ∧ ∀ i, i < n → CellsM w b (off + i * 4) (f i))
theorem RdM.below {w w' : World} {a : Option Addr} {n cap : Nat} {f : Nat → M} (h : RdM w a n cap f) (hb : Below w.heap.size w w') : RdM w' a n cap f :=
  ⟨h.1, h.2.1, h.2.2.imp id fun ⟨b, off, e, hlt, hc⟩ => ⟨b, off, e, Nat.lt_of_lt_of_le hlt hb.size, fun i hi => (hc i hi).below hb hlt⟩⟩
theorem RdM.grown {w w' : World} {a : Option Addr} {n cap : Nat} {f : Nat → M} {row : Option Nat} (h : RdM w a n cap f) (hg : w.grownBy w' row) (hne : n = 0 ∨ ∀ b off, a = some ⟨b, off, none⟩ → some b ≠ row) : RdM w' a n cap f := by
  refine ⟨h.1, h.2.1, ?_⟩
  rcases h.2.2 with h0 | ⟨b, off, rfl, hlt, hc⟩
  · exact .inl h0
  · rcases hne with h0 | hne
    · exact .inl h0
    · exact .inr ⟨b, off, rfl, Nat.lt_of_lt_of_le hlt hg.size, fun i hi => (hc i hi).same (hg.block b hlt (hne b off rfl))⟩
def cfm (f : Nat → M) (j : Nat) : Value := if j % 4 = 0 then .int .i64 (f (j / 4)).x else if j % 4 = 1 then .int .i64 (f (j / 4)).y else if j % 4 = 2 then .int .i64 (f (j / 4)).d else .int .i64 (f (j / 4)).e
theorem cfm0 (f : Nat → M) (i : Nat) : cfm f (i * 4) = .int .i64 (f i).x := by
  unfold cfm; rw [if_pos (by omega), show i * 4 / 4 = i by omega]
theorem cfm1 (f : Nat → M) (i : Nat) : cfm f (i * 4 + 1) = .int .i64 (f i).y := by
  unfold cfm; rw [if_neg (by omega), if_pos (by omega), show (i * 4 + 1) / 4 = i by omega]
theorem cfm2 (f : Nat → M) (i : Nat) : cfm f (i * 4 + 2) = .int .i64 (f i).d := by
  unfold cfm; rw [if_neg (by omega), if_neg (by omega), if_pos (by omega), show (i * 4 + 2) / 4 = i by omega]
theorem cfm3 (f : Nat → M) (i : Nat) : cfm f (i * 4 + 3) = .int .i64 (f i).e := by
  unfold cfm; rw [if_neg (by omega), if_neg (by omega), if_neg (by omega), show (i * 4 + 3) / 4 = i by omega]
def WrM (w : World) (a : Option Addr) (n : Nat) (f : Nat → M) : Prop :=
  n = 0 ∨ ∃ g off N F, a = some ⟨g, off, none⟩ ∧ w.rowIs g 40 N F ∧ off + n * 4 ≤ N ∧ ∀ j, j < n * 4 → F (off + j) = cfm f j
theorem WrM.rd {w : World} {a : Option Addr} {n cap : Nat} {f : Nat → M} (h : WrM w a n f) (hc : n ≤ cap) (hn : n * 32 ≤ 140737488351232) : RdM w a n cap f := by
  refine ⟨hc, hn, ?_⟩
  rcases h with h0 | ⟨g, off, N, F, rfl, hR, hN, hF⟩
  · exact .inl h0
  · refine .inr ⟨g, off, rfl, hR.lt, fun i hi => ?_⟩
    refine ⟨?_, ?_, ?_, ?_⟩
    · rw [hR.cell (by omega), hF _ (by omega), cfm0]
    · rw [show off + i * 4 + 1 = off + (i * 4 + 1) by omega, hR.cell (by omega), hF _ (by omega), cfm1]
    · rw [show off + i * 4 + 2 = off + (i * 4 + 2) by omega, hR.cell (by omega), hF _ (by omega), cfm2]
    · rw [show off + i * 4 + 3 = off + (i * 4 + 3) by omega, hR.cell (by omega), hF _ (by omega), cfm3]
theorem WrM.below {w w' : World} {a : Option Addr} {n : Nat} {f : Nat → M} (h : WrM w a n f) (hb : Below w.heap.size w w') : WrM w' a n f := by
  rcases h with h0 | ⟨g, off, N, F, rfl, hR, hN, hF⟩
  · exact .inl h0
  · exact .inr ⟨g, off, N, F, rfl, hR.of_block (hb.block g hR.lt), hN, hF⟩
theorem WrM.grown {w w' : World} {a : Option Addr} {n : Nat} {f : Nat → M} {row : Option Nat} (h : WrM w a n f) (hg : w.grownBy w' row) (hne : n = 0 ∨ ∀ b off, a = some ⟨b, off, none⟩ → some b ≠ row) : WrM w' a n f := by
  rcases h with h0 | ⟨g, off, N, F, rfl, hR, hN, hF⟩
  · exact .inl h0
  · rcases hne with h0 | hne
    · exact .inl h0
    · exact .inr ⟨g, off, N, F, rfl, hR.of_block (hg.block g hR.lt (hne g off rfl)), hN, hF⟩
def lfm (L : List M) (i : Nat) : M := L.getD i ⟨0, 0, 0, 0⟩
def M.cells (m : M) : List Value := [.int .i64 m.x, .int .i64 m.y, .int .i64 m.d, .int .i64 m.e]
def cellsMs (L : List M) : List Value := L.flatMap M.cells
theorem cellsM_append (a b : List M) : cellsMs (a ++ b) = cellsMs a ++ cellsMs b := by simp [cellsMs]
theorem cellsM_one (m : M) : cellsMs [m] = [.int .i64 m.x, .int .i64 m.y, .int .i64 m.d, .int .i64 m.e] := by simp [cellsMs, M.cells]
theorem cellsM_length (a : List M) : (cellsMs a).length = a.length * 4 := by
  induction a with
  | nil => rfl
  | cons m r ih =>
    have e : cellsMs (m :: r) = m.cells ++ cellsMs r := rfl
    rw [e, List.length_append, ih]
    simp [M.cells]; omega
theorem oneM_cells (m : M) : ∀ u ∈ cellsMs [m], u.oneCell' = true := by
  intro u hu
  rw [cellsM_one] at hu
  simp at hu
  rcases hu with rfl | rfl | rfl | rfl <;> rfl
theorem cellsM_at (L : List M) : ∀ j, j < L.length * 4 → (cellsMs L)[j]? = some (cfm (lfm L) j) := by
  induction L with
  | nil => intro j h; simp at h
  | cons t r ih =>
    intro j h
    have e : cellsMs (t :: r) = t.cells ++ cellsMs r := rfl
    rw [e]
    by_cases hj : j < 4
    · rw [List.getElem?_append_left (by simp [M.cells]; omega)]
      have h5 : j = 0 ∨ j = 1 ∨ j = 2 ∨ j = 3 := by omega
      rcases h5 with rfl | rfl | rfl | rfl <;> rfl
    · rw [List.getElem?_append_right (by simp [M.cells]; omega), show M.cells t = [.int .i64 t.x, .int .i64 t.y, .int .i64 t.d, .int .i64 t.e] from rfl]
      simp only [List.length_cons, List.length_nil]
      rw [ih (j - 4) (by simp at h; omega)]
      obtain ⟨q, rfl⟩ : ∃ q, j = q + 4 := ⟨j - 4, by omega⟩
      simp only [Nat.add_sub_cancel]
      unfold cfm
      rw [show (q + 4) % 4 = q % 4 by omega, show (q + 4) / 4 = q / 4 + 1 by omega]
      rfl
def OutM (lo : Nat) (w : World) (a : Option Addr) (cap : Nat) (L : List M) : Prop :=
  RdM w a L.length cap (lfm L) ∧ WrM w a L.length (lfm L) ∧ (L.length = 0 ∨ ∃ g off, a = some ⟨g, off, none⟩ ∧ lo ≤ g)
theorem outM_of_owns {w : World} {lo : Nat} {v : Value} {L : List M} (h : w.ownsRow lo 40 4 v L.length (cellsMs L)) (hl : L.length * 32 ≤ 140737488351232) : ∃ a cap, v = .slice a L.length cap ∧ OutM lo w a cap L := by
  rcases h.2 with ⟨hv, h0⟩ | ⟨g, cap, cur, hv, hlo, hg, hn, hm, hs, ht⟩
  · refine ⟨none, 0, by rw [hv, h0], ⟨by omega, hl, .inl h0⟩, .inl h0, .inl h0⟩
  · have hat : ∀ j, j < L.length * 4 → cur[j]? = some (cfm (lfm L) j) := by
      intro j hj
      rw [← cellsM_at L j hj, ← ht, List.getElem?_take_of_lt hj]
      simp
    have hc5 : L.length * 4 ≤ cap * 4 := by omega
    have hrow : w.rowIs g 40 (cap * 4) (fun j => cur.getD j undef) := ⟨cur, hg, hs, fun j hj => by
      have hjs : j < cur.size := by omega
      show cur[j]? = some (cur.getD j undef)
      rw [Array.getD_eq_getD_getElem?, Array.getElem?_eq_getElem hjs]
      rfl⟩
    have hcell : ∀ j, j < L.length * 4 → w.cell? ⟨g, j, none⟩ = some (cfm (lfm L) j) := by
      intro j hj
      rw [hrow.cell (by omega), Array.getD_eq_getD_getElem?, hat j hj]; rfl
    refine ⟨some ⟨g, 0, none⟩, cap, hv, ⟨hn, hl, .inr ⟨g, 0, rfl, hrow.lt, fun i hi => ?_⟩⟩, .inr ⟨g, 0, cap * 4, _, rfl, hrow, by omega, fun j hj => ?_⟩, .inr ⟨g, 0, rfl, hlo⟩⟩
    · rw [Nat.zero_add]
      exact ⟨by rw [hcell _ (by omega), cfm0], by rw [hcell _ (by omega), cfm1], by rw [hcell _ (by omega), cfm2], by rw [hcell _ (by omega), cfm3]⟩
    · rw [Nat.zero_add, Array.getD_eq_getD_getElem?, hat j hj]; rfl
theorem OutM.below {lo : Nat} {w w' : World} {a : Option Addr} {cap : Nat} {L : List M} (h : OutM lo w a cap L) (hb : Below w.heap.size w w') : OutM lo w' a cap L := ⟨h.1.below hb, h.2.1.below hb, h.2.2⟩
def monsEq (n : Nat) (f : Nat → M) (n' : Nat) (f' : Nat → M) : Bool := decide (n = n' ∧ ∀ i, i < n → (f i).eqB (f' i) = true)
theorem monsEq_same (n : Nat) (f : Nat → M) : monsEq n f n f = true := by
  simp [monsEq, M.eqB_iff]
def mkm (k : Int) (i : Nat) : M := ⟨k + 4 * i, k + 4 * i + 1, k + 4 * i + 2, k + 4 * i + 3⟩
def markedM (F : Nat → Value) (k : Int) (off j : Nat) (t : Nat) : Value := if off ≤ t ∧ t < off + j * 4 then cfm (mkm k) (t - off) else F t
theorem markedM_next {w : World} {g N off j o1 o2 o3 : Nat} {F : Nat → Value} {k v1 v2 v3 : Int} (h : w.rowIs g 40 N (markedM F k off j))
    (e1 : o1 = off + j * 4 + 1) (e2 : o2 = off + j * 4 + 2) (e3 : o3 = off + j * 4 + 3) (u1 : v1 = k + 4 * j + 1) (u2 : v2 = k + 4 * j + 2) (u3 : v3 = k + 4 * j + 3) :
    ((((w.setCell ⟨g, off + j * 4, none⟩ (.int .i64 (k + 4 * j))).setCell ⟨g, o1, none⟩ (.int .i64 v1)).setCell ⟨g, o2, none⟩ (.int .i64 v2)).setCell ⟨g, o3, none⟩ (.int .i64 v3)).rowIs g 40 N (markedM F k off (j + 1)) := by
  subst e1 e2 e3 u1 u2 u3
  refine ((((h.set _ _).set _ _).set _ _).set _ _).congr fun t ht => ?_
  unfold markedM
  by_cases h3 : t = off + j * 4 + 3
  · subst h3; rw [if_pos rfl, if_pos (by omega), show off + j * 4 + 3 - off = j * 4 + 3 by omega, cfm3]; rfl
  rw [if_neg h3]
  by_cases h2 : t = off + j * 4 + 2
  · subst h2; rw [if_pos rfl, if_pos (by omega), show off + j * 4 + 2 - off = j * 4 + 2 by omega, cfm2]; rfl
  rw [if_neg h2]
  by_cases h1 : t = off + j * 4 + 1
  · subst h1; rw [if_pos rfl, if_pos (by omega), show off + j * 4 + 1 - off = j * 4 + 1 by omega, cfm1]; rfl
  rw [if_neg h1]
  by_cases h0 : t = off + j * 4
  · subst h0; rw [if_pos rfl, if_pos (by omega), show off + j * 4 - off = j * 4 by omega, cfm0]; rfl
  rw [if_neg h0]
  by_cases hl : off ≤ t ∧ t < off + j * 4
  · rw [if_pos hl, if_pos (by omega)]
  · rw [if_neg hl, if_neg (by omega)]
end Go.Proofs.YtdidlcjhodejjaaGreat
namespace Go.Proofs.YtdidlcjhodejjaaGreat
open Go.RowKit Go.Deep Go.Joins
set_option linter.unusedVariables false

/-- the greatest monomials of the first operators. -/
def stL (o : Int) (ln : Nat → Nat) (f : Nat → Nat → T) : Nat → List M
  | 0 => []
  | i + 1 => stL o ln f i ++ [(ldAt o ln f i).m]
theorem stL_len (o : Int) (ln : Nat → Nat) (f : Nat → Nat → T) : ∀ i, (stL o ln f i).length = i
  | 0 => rfl
  | i + 1 => by unfold stL; rw [List.length_append, stL_len o ln f i]; rfl
def stairs (o : Int) (n : Nat) (ln : Nat → Nat) (f : Nat → Nat → T) : List M := if (1 ≤ o ∧ o ≤ 3) ∧ lstOk n ln f = true then stL o ln f n else []
theorem stairs_len (o : Int) (n : Nat) (ln : Nat → Nat) (f : Nat → Nat → T) : (stairs o n ln f).length ≤ 12 := by
  unfold stairs
  split
  · rename_i h; rw [stL_len]; exact (lstOk_all h.2).1
  · simp
theorem infoMs : (Tryz.prog.info? 40).map (fun i => (i.zero, i.size, i.bytes)) = some (some (.agg #[.int .i64 0, .int .i64 0, .int .i64 0, .int .i64 0]), 4, 32) := by kernel_rfl
theorem ownsM_nil (w : World) (lo : Nat) : w.ownsRow lo 40 4 (.slice none 0 0) 0 (cellsMs []) := ⟨rfl, .inl ⟨rfl, rfl⟩⟩
theorem ownsM_none (w : World) (lo : Nat) (h : lo ≤ w.heap.size) : (w.alloc (.cells #[] 40)).ownsRow lo 40 4 (.slice (some ⟨w.heap.size, 0, none⟩) 0 0) 0 (cellsMs []) := World.ownsRow_lit _ _ _ h (Nat.zero_le _) rfl
set_option maxRecDepth 100000 in
set_option maxHeartbeats 2000000 in
theorem grbStairsI_no (w : World) (o : Int) (a : Option Addr) (n cap : Nat) (hc : Calls Tryz.prog 45 #[.int .i64 o, .slice a n cap] w fun r w' => r = .returned (.tuple #[.slice none 0 0, .bool false]) ∧ Below w.heap.size w w') :
    Calls Tryz.prog 21 #[.int .i64 o, .slice a n cap] w fun r w' => ∃ v, r = .returned v ∧ Below w.heap.size w w' ∧ w'.ownsRow w.heap.size 40 4 v ([] : List M).length (cellsMs []) := by
  go_enter Tryz.func21, Tryz.ntmps21
  go_wp2_with fail
  refine hc.mono ?_
  rintro r w1 ⟨rfl, hb1⟩
  have HB := Hid.mk' hb1
  clear hb1 hc
  go_wp2
  go_loopw [7, 18] (fun v i wr => v = .slice none 0 0 ∧ i = .int .i64 0 ∧ wr = w1) (fun _ _ _ => 0)
  case atStart => exact ⟨rfl, rfl, rfl⟩
  case round =>
    obtain ⟨rfl, rfl, rfl⟩ := hrel
    go_wp2
    go_ret
    exact ⟨_, rfl, HB.out, ownsM_nil _ _⟩
set_option maxRecDepth 100000 in
set_option maxHeartbeats 4000000 in
theorem grbStairsI_yes (w : World) (o : Int) (a : Option Addr) (n cap : Nat) (ad : Nat → Option Addr) (ln cp : Nat → Nat) (f : Nat → Nat → T) (h : RdS w a n cap ad ln cp f) (o1 : 1 ≤ o) (o2 : o ≤ 3) (hls : lstOk n ln f = true) :
    Calls Tryz.prog 21 #[.int .i64 o, .slice a n cap] w fun r w' => ∃ v, r = .returned v ∧ Below w.heap.size w w' ∧ w'.ownsRow w.heap.size 40 4 v (stL o ln f n).length (cellsMs (stL o ln f n)) := by
  obtain ⟨i0, hi0, hz0, hz1, hz2⟩ := info_parts infoMs
  have hc := redLeadsI w o a n cap ad ln cp f h o1 o2 hls
  have hn : (n : Int) ≤ 12 := by have := (lstOk_all hls).1; omega
  have HLen := Hid.mk' (ldsL_len o ln f n)
  have HAt := Hid.mk' (ldsL_at o ln f n)
  clear h hls
  go_enter Tryz.func21, Tryz.ntmps21
  go_wp2_with fail
  refine hc.mono ?_
  rintro r w1 ⟨v, rfl, hb1, ho1⟩
  obtain ⟨al, cl, rfl, hout⟩ := out_of_owns ho1 (by rw [HLen.out]; omega)
  have HB := Hid.mk' hb1
  have hR := hout.1
  rw [HLen.out] at hR ⊢
  have HR := Hid.mk' hR
  clear hb1 ho1 hout hc hR
  go_wp2
  go_loopw [7, 18] (fun v i wr => ∃ k : Nat, k ≤ n ∧ i = .int .i64 (k : Int) ∧ Below w1.heap.size w1 wr ∧ wr.ownsRow w1.heap.size 40 4 v (stL o ln f k).length (cellsMs (stL o ln f k))) (fun _ i _ => n - (intOf i).toNat)
  case atStart => exact ⟨0, Nat.zero_le _, rfl, Below.refl _ _, ownsM_nil w1 _⟩
  case round =>
    obtain ⟨k, hk, rfl, hB, hown⟩ := hrel
    have HB3 := Hid.mk' hB
    have HO3 := Hid.mk' hown
    clear hown
    by_cases hlt : k < n
    · rcases HR.out.2.2 with h0 | ⟨b, off, rfl, hblt, hcl⟩
      · omega
      have hkl : (k : Int) < (n : Int) := by omega
      have hck := (hcl k hlt).below hB hblt
      rw [HAt.out k hlt] at hck
      obtain ⟨t, ht⟩ : ∃ t, ldAt o ln f k = t := ⟨_, rfl⟩
      rw [ht] at hck
      obtain ⟨q0, q1, q2, q3, q4⟩ := hck
      have e2 : stL o ln f (k + 1) = stL o ln f k ++ [t.m] := by
        rw [← ht]; rfl
      have HE := Hid.mk' e2
      have HL := Hid.mk' (stL_len o ln f k)
      have hB5 := hB.alloc hB.size (.cells #[.int .i64 t.c, .int .i64 t.m.x, .int .i64 t.m.y, .int .i64 t.m.d, .int .i64 t.m.e] 42)
      have hO5 := HO3.out.alloc (.cells #[.int .i64 t.c, .int .i64 t.m.x, .int .i64 t.m.y, .int .i64 t.m.d, .int .i64 t.m.e] 42)
      have hnew : ((wr.alloc (.cells #[.int .i64 t.c, .int .i64 t.m.x, .int .i64 t.m.y, .int .i64 t.m.d, .int .i64 t.m.e] 42)).alloc (.cells #[.int .i64 t.m.x, .int .i64 t.m.y, .int .i64 t.m.d, .int .i64 t.m.e] 40)).heap[wr.heap.size + 1]? = some (.cells #[.int .i64 t.m.x, .int .i64 t.m.y, .int .i64 t.m.d, .int .i64 t.m.e] 40) := by
        have := heap_alloc_new (wr.alloc (.cells #[.int .i64 t.c, .int .i64 t.m.x, .int .i64 t.m.y, .int .i64 t.m.d, .int .i64 t.m.e] 42)) (.cells #[.int .i64 t.m.x, .int .i64 t.m.y, .int .i64 t.m.d, .int .i64 t.m.e] 40)
        rw [World.size_alloc] at this
        exact this
      have HN := Hid.mk' hnew
      have hwl := stL_len o ln f k
      clear e2 hnew hcl ht
      go_wp2_with (at_builtin; refine wpList_append_lies _ rfl (.tmp 22) (.tmp 25) 37 rfl w1.heap.size 40 i0 _ 4 32 Tryz.underlying37 hi0 hz0 hz1 hz2 rfl (by omega) _ (stL o ln f k).length (cellsMs (stL o ln f k)) rfl (hO5.alloc _) ⟨wr.heap.size + 1, 0, none⟩ 1 1 (cellsMs [t.m]) rfl (by rw [cellsM_length]; rfl) (by rw [cellsM_one]; exact World.news_of_block HN.out) (oneM_cells _) (by omega) (by unfold maxLen; omega) (by omega) (by have := hB.size; simp; omega) _ rfl ?_; intro g0 cap0 w5 hown1 hgrow hat hlt1; have HB := Hid.mk' ((hB5.alloc hB5.size _).grown hgrow (Nat.le_trans hB.size (by simp; omega)) (fun k hk => (HO3.out.lt k hk).1)); have HO1 := Hid.mk' hown1; clear hown1 hgrow hat hlt1 hO5)
      go_roundw
      case rel => exact ⟨k + 1, by omega, by go_num, HB.out, by
        have h := HO1.out
        rw [HE.out, cellsM_append, List.length_append]
        rw [HL.out] at h ⊢
        exact h⟩
      case measure => simp [intOf]; omega
    · have hnl : ¬ (k : Int) < (n : Int) := by omega
      have hie : k = n := by omega
      subst hie
      go_wp2
      go_ret
      exact ⟨_, rfl, bel_next HB.out HB3.out, owns_lower HO3.out HB.out.size⟩
theorem grbStairsI (w : World) (o : Int) (a : Option Addr) (n cap : Nat) (ad : Nat → Option Addr) (ln cp : Nat → Nat) (f : Nat → Nat → T) (h : RdS w a n cap ad ln cp f) :
    Calls Tryz.prog 21 #[.int .i64 o, .slice a n cap] w fun r w' => ∃ v, r = .returned v ∧ Below w.heap.size w w' ∧ w'.ownsRow w.heap.size 40 4 v (stairs o n ln f).length (cellsMs (stairs o n ln f)) := by
  unfold stairs
  by_cases ho : 1 ≤ o ∧ o ≤ 3
  · cases hls : lstOk n ln f
    · rw [if_neg (by simp)]
      exact grbStairsI_no w o a n cap (redLeadsI_no w o a n cap ad ln cp f h ho.1 ho.2 hls)
    · rw [if_pos ⟨ho, rfl⟩]
      exact grbStairsI_yes w o a n cap ad ln cp f h ho.1 ho.2 hls
  · rw [if_neg (fun h => ho h.1)]
    exact grbStairsI_no w o a n cap (redLeadsI_out w o a n cap (by omega))
set_option maxRecDepth 100000 in
set_option maxHeartbeats 4000000 in
theorem grbStairsS (w : World) (o : Int) (a : Option Addr) (n cap : Nat) (ad : Nat → Option Addr) (ln cp : Nat → Nat) (f : Nat → Nat → T) (h : RdS w a n cap ad ln cp f) :
    Calls Tryz.prog 22 #[.int .i64 o, .slice a n cap] w fun r w' => ∃ v, r = .returned v ∧ Below w.heap.size w w' ∧ w'.ownsRow w.heap.size 40 4 v (stairs o n ln f).length (cellsMs (stairs o n ln f)) := by
  obtain ⟨i0, hi0, hz0, hz1, hz2⟩ := info_parts infoMs
  have hn : (n : Int) ≤ 140737488351232 := by have := h.2.1; omega
  have HB0 := Hid.mk' (bel_one w (.cells #[] 40))
  have HO0 := Hid.mk' (ownsM_none w w.heap.size (Nat.le_refl _))
  have HH := Hid.mk' h
  clear h
  unfold stairs
  by_cases ho : 1 ≤ o ∧ o ≤ 3
  · obtain ⟨o1, o2⟩ := ho
    cases hls : lstOk n ln f
    · rw [if_neg (by simp)]
      go_enter Tryz.func22, Tryz.ntmps22
      go_wp2_with (go_at_call 39; refine (inS_in _ _ _ _ o1 o2).mono ?_; rintro r w' ⟨rfl, hw'⟩; obtain rfl := hw'.symm; clear hw')
      refine (lstOkS _ _ _ _ _ _ _ _ (HH.out.below HB0.out)).mono ?_
      rw [hls]
      rintro r w1 ⟨rfl, hb1⟩
      have HB1 := Hid.mk' (bel_next HB0.out hb1)
      have HO1 := Hid.mk' (owns_below HO0.out hb1)
      clear hb1
      go_wp2
      go_ret
      exact ⟨_, rfl, HB1.out, HO1.out⟩
    · rw [if_pos ⟨⟨o1, o2⟩, rfl⟩]
      have HO := Hid.mk' (lstOk_all hls).2
      have hn12 : (n : Int) ≤ 12 := by have := (lstOk_all hls).1; omega
      go_enter Tryz.func22, Tryz.ntmps22
      go_wp2_with (go_at_call 39; refine (inS_in _ _ _ _ o1 o2).mono ?_; rintro r w' ⟨rfl, hw'⟩; obtain rfl := hw'.symm; clear hw')
      refine (lstOkS _ _ _ _ _ _ _ _ (HH.out.below HB0.out)).mono ?_
      rw [hls]
      rintro r w1 ⟨rfl, hb1⟩
      have HB1 := Hid.mk' (bel_next HB0.out hb1)
      have HO1 := Hid.mk' (owns_below HO0.out hb1)
      clear hb1 hls HB0 HO0
      go_wp2
      go_loopw [5, 6] (fun v i wr => ∃ k : Nat, k ≤ n ∧ i = .int .i64 (k : Int) ∧ Below w.heap.size w wr ∧ wr.ownsRow w.heap.size 40 4 v (stL o ln f k).length (cellsMs (stL o ln f k))) (fun _ i _ => n - (intOf i).toNat)
      case atStart => exact ⟨0, Nat.zero_le _, rfl, HB1.out, HO1.out⟩
      case round =>
        obtain ⟨k, hk, rfl, hB, hown⟩ := hrel
        have HB3 := Hid.mk' hB
        have HO3 := Hid.mk' hown
        clear hown
        by_cases hlt : k < n
        · rcases HH.out.2.2.1 with h0 | ⟨b, off, rfl, hblt, hcl⟩
          · omega
          have hkl : (k : Int) < (n : Int) := by omega
          have g0 : wr.cell? ⟨b, off + k, none⟩ = some (.slice (ad k) (ln k) (cp k)) := (hB.cell (p := ⟨b, off + k, none⟩) hblt).trans (hcl k hlt)
          have HK := Hid.mk' ((HH.out.2.2.2 k hlt).below hB)
          have hoi := HO.out k hlt
          have hc := l3LeadS wr o (ad k) (ln k) (cp k) (f k) HK.out (by omega) (polOk_m hoi.2)
          obtain ⟨t, ht⟩ : ∃ t, ldAt o ln f k = t := ⟨_, rfl⟩
          rw [show f k (leadAt o (f k) (ln k)) = t from ht] at hc
          have hfield : ∀ W : World, (Instr.field 42 (Value.agg #[.int .i64 t.c, .int .i64 t.m.x, .int .i64 t.m.y, .int .i64 t.m.d, .int .i64 t.m.e]) 1).run Tryz.prog W = .ok (Value.agg #[.int .i64 t.m.x, .int .i64 t.m.y, .int .i64 t.m.d, .int .i64 t.m.e]) W := fun W => by kernel_rfl
          have e2 : stL o ln f (k + 1) = stL o ln f k ++ [t.m] := by
            rw [← ht]; rfl
          have HE := Hid.mk' e2
          have HL := Hid.mk' (stL_len o ln f k)
          have hwl := stL_len o ln f k
          clear hcl hoi e2 ht hB
          go_wp2_with fail
          refine hc.mono ?_
          rintro r w4 ⟨rfl, hb4⟩
          have hB4 := bel_next HB3.out hb4
          have hO4 := owns_below HO3.out hb4
          have hnew := heap_alloc_new w4 (.cells #[.int .i64 t.m.x, .int .i64 t.m.y, .int .i64 t.m.d, .int .i64 t.m.e] 40)
          have HN := Hid.mk' hnew
          clear hb4 g0 hc HK hnew
          go_wp2_with (at_builtin; refine wpList_append_lies _ rfl (.tmp 23) (.tmp 31) 37 rfl w.heap.size 40 i0 _ 4 32 Tryz.underlying37 hi0 hz0 hz1 hz2 rfl (by omega) _ (stL o ln f k).length (cellsMs (stL o ln f k)) rfl (hO4.alloc _) ⟨w4.heap.size, 0, none⟩ 1 1 (cellsMs [t.m]) rfl (by rw [cellsM_length]; rfl) (by rw [cellsM_one]; exact World.news_of_block HN.out) (oneM_cells _) (by omega) (by unfold maxLen; omega) (by omega) (by have := hB4.size; simp; omega) _ rfl ?_; intro g0 cap0 w5 hown1 hgrow hat hlt1; have HB := Hid.mk' ((hB4.alloc hB4.size _).grown hgrow (Nat.le_trans hB4.size (by simp)) (fun k hk => (hO4.lt k hk).1)); have HO1 := Hid.mk' hown1; clear hown1 hgrow hat hlt1 hO4)
          go_roundw
          case rel => exact ⟨k + 1, by omega, by go_num, HB.out, by
            have h := HO1.out
            rw [HE.out, cellsM_append, List.length_append]
            rw [HL.out] at h ⊢
            exact h⟩
          case measure => simp [intOf]; omega
        · have hnl : ¬ (k : Int) < (n : Int) := by omega
          have hie : k = n := by omega
          subst hie
          go_wp2
          go_ret
          exact ⟨_, rfl, HB3.out, HO3.out⟩
  · rw [if_neg (fun h => ho h.1)]
    have ho' : o < 1 ∨ (1 ≤ o ∧ 3 < o) := by omega
    go_enter Tryz.func22, Tryz.ntmps22
    go_wp2_with (go_at_call 39; refine (inS_out _ _ _ _ ho').mono ?_; rintro r w' ⟨rfl, hw'⟩; obtain rfl := hw'.symm; clear hw')
    go_ret
    exact ⟨_, rfl, HB0.out, HO0.out⟩
end Go.Proofs.YtdidlcjhodejjaaGreat
namespace Go.Proofs.YtdidlcjhodejjaaGreat
open Go.RowKit Go.Deep Go.Joins
set_option linter.unusedVariables false

/-- a row of what may be too much. -/
def rowO (f : Nat → Option (List T)) : Nat → Option (Nat → List T)
  | 0 => some (fun _ => [])
  | j + 1 => match rowO f j with
    | none => none
    | some R => match f j with
      | none => none
      | some Y => some (updL R j Y)
theorem rowO_step {f : Nat → Option (List T)} {j : Nat} {R : Nat → List T} {Y : List T} (h : rowO f j = some R) (hf : f j = some Y) : rowO f (j + 1) = some (updL R j Y) := by
  show (match rowO f j with | none => none | some R => match f j with | none => none | some Y => some (updL R j Y)) = _
  rw [h]
  show (match f j with | none => none | some Y => some (updL R j Y)) = _
  rw [hf]
theorem rowO_up {f : Nat → Option (List T)} {j : Nat} (h : rowO f j = none) : rowO f (j + 1) = none := by
  show (match rowO f j with | none => none | some R => match f j with | none => none | some Y => some (updL R j Y)) = _
  rw [h]
theorem rowO_bad {f : Nat → Option (List T)} {j : Nat} (h : f j = none) : rowO f (j + 1) = none := by
  show (match rowO f j with | none => none | some R => match f j with | none => none | some Y => some (updL R j Y)) = _
  rw [h]
  cases rowO f j <;> rfl
theorem rowO_none {f : Nat → Option (List T)} {i : Nat} (h : f i = none) : ∀ g, i < g → rowO f g = none
  | 0, hi => by omega
  | g + 1, hi => by
    by_cases e : i = g
    · subst e; exact rowO_bad h
    · exact rowO_up (rowO_none h g (by omega))
theorem rowO_get {f : Nat → Option (List T)} : ∀ g R, rowO f g = some R → ∀ i, i < g → f i = some (R i)
  | 0, R, _, i, hi => by omega
  | g + 1, R, h, i, hi => by
    cases hr : rowO f g with
    | none => rw [rowO_up hr] at h; cases h
    | some R1 =>
      cases hf : f g with
      | none => rw [rowO_bad hf] at h; cases h
      | some Y =>
        rw [rowO_step hr hf] at h
        cases h
        unfold updL
        split
        · rename_i e; rw [e]; exact hf
        · exact rowO_get g R1 hr i (by omega)
theorem rowO_congr {f f' : Nat → Option (List T)} : ∀ g, (∀ i, i < g → f i = f' i) → rowO f g = rowO f' g
  | 0, _ => rfl
  | g + 1, h => by
    show (match rowO f g with | none => none | some R => match f g with | none => none | some Y => some (updL R g Y)) = (match rowO f' g with | none => none | some R => match f' g with | none => none | some Y => some (updL R g Y))
    rw [rowO_congr g (fun i hi => h i (by omega)), h g (by omega)]
theorem lessR_row (row : Nat → List T) (q : List T) (oth : Nat → List T) : ∀ g, lessR row q oth g = rowO (fun i => lessE (row i) q (oth i)) g
  | 0 => rfl
  | g + 1 => by
    show (match lessR row q oth g with | none => none | some R => match lessE (row g) q (oth g) with | none => none | some Y => some (updL R g Y)) = _
    rw [lessR_row row q oth g]
    rfl
/-- one row behind another one. -/
theorem row_bind (f : Nat → Option (List T)) (q : List T) (oth : Nat → List T) (g : Nat) : (match rowO f g with | none => none | some R => lessR R q oth g) = rowO (fun i => (f i).bind (fun s => lessE s q (oth i))) g := by
  cases hr : rowO f g with
  | none =>
    show none = _
    have : ∃ i, i < g ∧ f i = none := by
      have key : ∀ g, (∀ i, i < g → f i ≠ none) → rowO f g ≠ none := fun g => by
        induction g with
        | zero => intro _ h; cases h
        | succ g ih =>
          intro h
          cases hg : rowO f g with
          | none => exact absurd hg (ih (fun i hi => h i (by omega)))
          | some R =>
            cases hf : f g with
            | none => exact absurd hf (h g (by omega))
            | some Y => rw [rowO_step hg hf]; simp
      by_cases e : ∃ i, i < g ∧ f i = none
      · exact e
      · exact absurd hr (key g (fun i hi q => e ⟨i, hi, q⟩))
    obtain ⟨i, hi, e⟩ := this
    exact (rowO_none (by rw [e]; rfl) g hi).symm
  | some R =>
    show lessR R q oth g = _
    rw [lessR_row]
    exact rowO_congr g fun i hi => by rw [rowO_get g R hr i hi]; rfl
/-- a column of the model's proof. -/
def colM (P : Nat → Nat → List T) (i k : Nat) (u v : T) (q : Nat → List T) (j : Nat) : Nat → Option (List T)
  | 0 => (lessE [] [negT1 u] (P i j)).bind (fun s => lessE s [v] (P k j))
  | t + 1 => (colM P i k u v q j t).bind (fun s => lessE s (q t) (P t j))
theorem madeN_row {g : Nat} {P : Nat → Nat → List T} {i k : Nat} {u v : T} {q : Nat → List T} : ∀ t, madeN g P q (made1 g P i k u v) t = rowO (fun j => colM P i k u v q j t) g
  | 0 => by
    show made1 g P i k u v = _
    have e : made1 g P i k u v = (match rowO (fun j => lessE [] [negT1 u] (P i j)) g with | none => none | some R => lessR R [v] (P k) g) := by
      unfold made1
      rw [lessR_row]
      rfl
    rw [e, row_bind]
    rfl
  | t + 1 => by
    show (match madeN g P q (made1 g P i k u v) t with | none => none | some R => lessR R (q t) (P t) g) = _
    rw [madeN_row t, row_bind]
    rfl
/-- a column of the program's proof. -/
def pc0 (F X : List T) : Option (List T) := match wmV F X with
  | (Y, true) => some Y
  | (_, false) => none
def pcS (s q X : List T) : Option (List T) := match wmV q X with
  | (Y, true) => (match subV s Y with
    | (Z, true) => some Z
    | (_, false) => none)
  | (_, false) => none
def pcN (F : List T) (P0 : Nat → List T) (qs : Nat → List T) (Q : Nat → Nat → List T) (j : Nat) : Nat → Option (List T)
  | 0 => pc0 F (P0 j)
  | t + 1 => (pcN F P0 qs Q j t).bind (fun s => pcS s (qs t) (Q t j))
theorem pcS_less {s q X : List T} (hs : okL s = true) (hq : okL q = true) (hX : okL X = true) : pcS s q X = lessE s q X := by
  unfold pcS lessE wmV wylMul
  rw [if_pos ⟨hq, hX⟩]
  cases hm : mulM (lf q) (lf X) X.length q.length with
  | none => rfl
  | some Y =>
    have oY := wm_ok (wm_mulM hq hX hm)
    show (match subV s Y with | (Z, true) => some Z | (_, false) => none) = if (subL s Y).length ≤ 400 then some (subL s Y) else none
    by_cases hl : (subL s Y).length ≤ 400
    · rw [subV_ok hs oY hl, if_pos hl]
    · rw [if_neg hl]
      rcases subV_case s Y with e | ⟨_, _, h3, _⟩
      · rw [e]
      · exact absurd h3 hl
theorem scL_back {P : List T} (h : Falls P) : subL [] (scL 100 P) = P := by
  have h1 := scL_falls (c := 100) (by omega) (by omega) h
  have h2 := subL_facts falls_nil h1
  refine falls_one h2.1 h (fun m _ => ?_)
  have r := coef_range h m
  rw [h2.2, coef_nil, scL_coef]
  omega
theorem pc0_less {u : T} {X : List T} (hu : u.m.ok = true ∧ 1 ≤ u.c ∧ u.c ≤ 100) (hX : okL X = true) : pc0 [u] X = lessE [] [negT1 u] X := by
  have ou := one_ok hu
  have en : negT1 u = scT1 100 u := by
    unfold negT1 scT1
    congr 1
    omega
  have hm := mulM_sc (f := lf [u]) (f2 := lf [negT1 u]) (la := 1) (c := 100) (by omega) (by omega) (good_ok (show polOk 1 (lf [u]) = true from ou)).2 (good_ok (show polOk X.length (lf X) = true from hX)).2 (fun i hi => by
    have e : i = 0 := by omega
    subst e
    show negT1 u = scT1 100 u
    exact en) 1 (Nat.le_refl _)
  unfold pc0 lessE wmV wylMul
  rw [if_pos ⟨ou, hX⟩]
  show (match mulO (mulM (lf [u]) (lf X) X.length 1) with | (Y, true) => some Y | (_, false) => none) = (match mulM (lf [negT1 u]) (lf X) X.length 1 with | some P => if (subL [] P).length ≤ 400 then some (subL [] P) else none | none => none)
  rw [hm]
  cases hk : mulM (lf [u]) (lf X) X.length 1 with
  | none => rfl
  | some Y =>
    have fY := mulM_falls2 (good_ok (show polOk 1 (lf [u]) = true from ou)).2 (good_ok (show polOk X.length (lf X) = true from hX)).2 1 Y (Nat.le_refl _) hk
    show some Y = if (subL [] (scL 100 Y)).length ≤ 400 then some (subL [] (scL 100 Y)) else none
    rw [scL_back fY, if_pos (mulM_len _ Y hk)]
/-- the others of a pair's proof: its second factor first. -/
def othQ (v : T) (q : Nat → List T) : Nat → List T
  | 0 => [v]
  | t + 1 => q t
def othP (P : Nat → Nat → List T) (k : Nat) : Nat → Nat → List T
  | 0 => P k
  | t + 1 => P t
theorem col_ok {P : Nat → Nat → List T} {i k m g : Nat} {u v : T} {q : Nat → List T} (hi : i < m) (hk : k < m) (hP : ∀ i, i < m → ∀ j, j < g → okL (P i j) = true) (hu : okL [negT1 u] = true) (hv : okL [v] = true) (hq : ∀ t, t < m → okL (q t) = true) {j : Nat} (hj : j < g) : ∀ t s, t ≤ m → colM P i k u v q j t = some s → okL s = true
  | 0, s, _, h => by
    change (lessE [] [negT1 u] (P i j)).bind (fun s => lessE s [v] (P k j)) = some s at h
    cases h1 : lessE [] [negT1 u] (P i j) with
    | none => rw [h1] at h; cases h
    | some s1 =>
      rw [h1] at h
      exact lessE_ok (lessE_ok okL_nil hu (hP i hi j hj) h1) hv (hP k hk j hj) h
  | t + 1, s, ht, h => by
    change (colM P i k u v q j t).bind (fun s => lessE s (q t) (P t j)) = some s at h
    cases h1 : colM P i k u v q j t with
    | none => rw [h1] at h; cases h
    | some s1 =>
      rw [h1] at h
      exact lessE_ok (col_ok hi hk hP hu hv hq hj t s1 (by omega) h1) (hq t (by omega)) (hP t (by omega) j hj) h
theorem pcN_col {P : Nat → Nat → List T} {i k m g : Nat} {u v : T} {q : Nat → List T} (hi : i < m) (hk : k < m) (hP : ∀ i, i < m → ∀ j, j < g → okL (P i j) = true) (hu : u.m.ok = true ∧ 1 ≤ u.c ∧ u.c ≤ 100) (hv : v.m.ok = true ∧ 1 ≤ v.c ∧ v.c ≤ 100) (hq : ∀ t, t < m → okL (q t) = true) {j : Nat} (hj : j < g) : ∀ t, t ≤ m → pcN [u] (P i) (othQ v q) (othP P k) j (t + 1) = colM P i k u v q j t
  | 0, _ => by
    have g1 := mod101 hu.2.1 hu.2.2
    have hn : okL [negT1 u] = true := one_ok ⟨hu.1, g1.1, g1.2⟩
    show (pc0 [u] (P i j)).bind (fun s => pcS s [v] (P k j)) = (lessE [] [negT1 u] (P i j)).bind (fun s => lessE s [v] (P k j))
    rw [pc0_less hu (hP i hi j hj)]
    cases h1 : lessE [] [negT1 u] (P i j) with
    | none => rfl
    | some s1 => exact pcS_less (lessE_ok okL_nil hn (hP i hi j hj) h1) (one_ok hv) (hP k hk j hj)
  | t + 1, ht => by
    have g1 := mod101 hu.2.1 hu.2.2
    have hn : okL [negT1 u] = true := one_ok ⟨hu.1, g1.1, g1.2⟩
    show (pcN [u] (P i) (othQ v q) (othP P k) j (t + 1)).bind (fun s => pcS s (q t) (P t j)) = (colM P i k u v q j t).bind (fun s => lessE s (q t) (P t j))
    rw [pcN_col hi hk hP hu hv hq hj t (by omega)]
    cases h1 : colM P i k u v q j t with
    | none => rfl
    | some s1 => exact pcS_less (col_ok hi hk hP hn (one_ok hv) hq hj t s1 (by omega) h1) (hq t (by omega)) (hP t (by omega) j hj)
/-- what the program makes of a pair is what the model makes. -/
theorem made_pf {P : Nat → Nat → List T} {i k m g : Nat} {u v : T} {q : Nat → List T} (hi : i < m) (hk : k < m) (hP : ∀ i, i < m → ∀ j, j < g → okL (P i j) = true) (hu : u.m.ok = true ∧ 1 ≤ u.c ∧ u.c ≤ 100) (hv : v.m.ok = true ∧ 1 ≤ v.c ∧ v.c ≤ 100) (hq : ∀ t, t < m → okL (q t) = true) : rowO (fun j => pcN [u] (P i) (othQ v q) (othP P k) j (m + 1)) g = made g P i k u v m q := by
  unfold made
  rw [madeN_row]
  exact rowO_congr g fun j hj => pcN_col hi hk hP hu hv hq hj m (Nat.le_refl _)
end Go.Proofs.YtdidlcjhodejjaaGreat
