/-
  Slices of monomials: what the statements' helpers do to them.
  The greatest monomials of operators: the program and the model.
  A proof, column by column: the program's way is the model's.
-/
import Derived.Test.YtdidlcjhodejjaaGreatSah
import Derived.Test.YtdidlcjhodejjaaGreatSba
import Derived.Test.YtdidlcjhodejjaaGreatSbc
import Derived.Test.YtdidlcjhodejjaaGreatSbq
import Derived.Test.YtdidlcjhodejjaaGreatSbu
namespace Go.Proofs.YtdidlcjhodejjaaGreat
open Go.RowKit
set_option linter.unusedVariables false

def CellsM (w : World) (b o : Nat) (m : M) : Prop := w.cell? ⟨b, o, none⟩ = some (.int .i64 m.x) ∧ w.cell? ⟨b, o + 1, none⟩ = some (.int .i64 m.y) ∧ w.cell? ⟨b, o + 2, none⟩ = some (.int .i64 m.d) ∧ w.cell? ⟨b, o + 3, none⟩ = some (.int .i64 m.e)
theorem CellsM.same {w w' : World} {b o : Nat} {m : M} (h : CellsM w b o m) (he : w'.heap[b]? = w.heap[b]?) : CellsM w' b o m := by
  have key : ∀ j, w'.cell? ⟨b, j, none⟩ = w.cell? ⟨b, j, none⟩ := fun j => by unfold World.cell?; rw [he]
  exact ⟨(key _).trans h.1, (key _).trans h.2.1, (key _).trans h.2.2.1, (key _).trans h.2.2.2⟩
theorem CellsM.below {w w' : World} {n b o : Nat} {m : M} (h : CellsM w b o m) (hb : Below n w w') (hlt : b < n) : CellsM w' b o m := h.same (hb.block b hlt)
/-- monomials that can be read. -/
def RdM (w : World) (a : Option Addr) (n cap : Nat) (f : Nat → M) : Prop :=
  n ≤ cap ∧ n * 32 ≤ 140737488351232 ∧ (n = 0 ∨ ∃ b off, a = some ⟨b, off, none⟩ ∧ b < w.heap.size ∧ ∀ i, i < n → CellsM w b (off + i * 4) (f i))
theorem RdM.below {w w' : World} {a : Option Addr} {n cap : Nat} {f : Nat → M} (h : RdM w a n cap f) (hb : Below w.heap.size w w') : RdM w' a n cap f :=
  ⟨h.1, h.2.1, h.2.2.imp id fun ⟨b, off, e, hlt, hc⟩ => ⟨b, off, e, Nat.lt_of_lt_of_le hlt hb.size, fun i hi => (hc i hi).below hb hlt⟩⟩
def cfm (f : Nat → M) (j : Nat) : Value := if j % 4 = 0 then .int .i64 (f (j / 4)).x else if j % 4 = 1 then .int .i64 (f (j / 4)).y else if j % 4 = 2 then .int .i64 (f (j / 4)).d else .int .i64 (f (j / 4)).e
theorem cfm0 (f : Nat → M) (i : Nat) : cfm f (i * 4) = .int .i64 (f i).x := by
  unfold cfm; rw [if_pos (by omega), show i * 4 / 4 = i by omega]
theorem cfm1 (f : Nat → M) (i : Nat) : cfm f (i * 4 + 1) = .int .i64 (f i).y := by
  unfold cfm; rw [if_neg (by omega), if_pos (by omega), show (i * 4 + 1) / 4 = i by omega]
theorem cfm2 (f : Nat → M) (i : Nat) : cfm f (i * 4 + 2) = .int .i64 (f i).d := by
  unfold cfm; rw [if_neg (by omega), if_neg (by omega), if_pos (by omega), show (i * 4 + 2) / 4 = i by omega]
theorem cfm3 (f : Nat → M) (i : Nat) : cfm f (i * 4 + 3) = .int .i64 (f i).e := by
  unfold cfm; rw [if_neg (by omega), if_neg (by omega), if_neg (by omega), show (i * 4 + 3) / 4 = i by omega]
def WrM (w : World) (a : Option Addr) (n : Nat) (f : Nat → M) : Prop :=
  n = 0 ∨ ∃ g off N F, a = some ⟨g, off, none⟩ ∧ w.rowIs g 40 N F ∧ off + n * 4 ≤ N ∧ ∀ j, j < n * 4 → F (off + j) = cfm f j
def lfm (L : List M) (i : Nat) : M := L.getD i ⟨0, 0, 0, 0⟩
def M.cells (m : M) : List Value := [.int .i64 m.x, .int .i64 m.y, .int .i64 m.d, .int .i64 m.e]
def cellsMs (L : List M) : List Value := L.flatMap M.cells
theorem cellsM_append (a b : List M) : cellsMs (a ++ b) = cellsMs a ++ cellsMs b := by simp [cellsMs]
theorem cellsM_one (m : M) : cellsMs [m] = [.int .i64 m.x, .int .i64 m.y, .int .i64 m.d, .int .i64 m.e] := by simp [cellsMs, M.cells]
theorem cellsM_length (a : List M) : (cellsMs a).length = a.length * 4 := by
  induction a with
  | nil => rfl
  | cons m r ih =>
    have e : cellsMs (m :: r) = m.cells ++ cellsMs r := rfl
    rw [e, List.length_append, ih]
    simp [M.cells]; omega
theorem oneM_cells (m : M) : ∀ u ∈ cellsMs [m], u.oneCell' = true := by
  intro u hu
  rw [cellsM_one] at hu
  simp at hu
  rcases hu with rfl | rfl | rfl | rfl <;> rfl
theorem cellsM_at (L : List M) : ∀ j, j < L.length * 4 → (cellsMs L)[j]? = some (cfm (lfm L) j) := by
  induction L with
  | nil => intro j h; simp at h
  | cons t r ih =>
    intro j h
    have e : cellsMs (t :: r) = t.cells ++ cellsMs r := rfl
    rw [e]
    by_cases hj : j < 4
    · rw [List.getElem?_append_left (by simp [M.cells]; omega)]
      have h5 : j = 0 ∨ j = 1 ∨ j = 2 ∨ j = 3 := by omega
      rcases h5 with rfl | rfl | rfl | rfl <;> rfl
    · rw [List.getElem?_append_right (by simp [M.cells]; omega), show M.cells t = [.int .i64 t.x, .int .i64 t.y, .int .i64 t.d, .int .i64 t.e] from rfl]
      simp only [List.length_cons, List.length_nil]
      rw [ih (j - 4) (by simp at h; omega)]
      obtain ⟨q, rfl⟩ : ∃ q, j = q + 4 := ⟨j - 4, by omega⟩
      simp only [Nat.add_sub_cancel]
      unfold cfm
      rw [show (q + 4) % 4 = q % 4 by omega, show (q + 4) / 4 = q / 4 + 1 by omega]
      rfl
def OutM (lo : Nat) (w : World) (a : Option Addr) (cap : Nat) (L : List M) : Prop :=
  RdM w a L.length cap (lfm L) ∧ WrM w a L.length (lfm L) ∧ (L.length = 0 ∨ ∃ g off, a = some ⟨g, off, none⟩ ∧ lo ≤ g)
theorem outM_of_owns {w : World} {lo : Nat} {v : Value} {L : List M} (h : w.ownsRow lo 40 4 v L.length (cellsMs L)) (hl : L.length * 32 ≤ 140737488351232) : ∃ a cap, v = .slice a L.length cap ∧ OutM lo w a cap L := by
  rcases h.2 with ⟨hv, h0⟩ | ⟨g, cap, cur, hv, hlo, hg, hn, hm, hs, ht⟩
  · refine ⟨none, 0, by rw [hv, h0], ⟨by omega, hl, .inl h0⟩, .inl h0, .inl h0⟩
  · have hat : ∀ j, j < L.length * 4 → cur[j]? = some (cfm (lfm L) j) := by
      intro j hj
      rw [← cellsM_at L j hj, ← ht, List.getElem?_take_of_lt hj]
      simp
    have hc5 : L.length * 4 ≤ cap * 4 := by omega
    have hrow : w.rowIs g 40 (cap * 4) (fun j => cur.getD j undef) := ⟨cur, hg, hs, fun j hj => by
      have hjs : j < cur.size := by omega
      show cur[j]? = some (cur.getD j undef)
      rw [Array.getD_eq_getD_getElem?, Array.getElem?_eq_getElem hjs]
      rfl⟩
    have hcell : ∀ j, j < L.length * 4 → w.cell? ⟨g, j, none⟩ = some (cfm (lfm L) j) := by
      intro j hj
      rw [hrow.cell (by omega), Array.getD_eq_getD_getElem?, hat j hj]; rfl
    refine ⟨some ⟨g, 0, none⟩, cap, hv, ⟨hn, hl, .inr ⟨g, 0, rfl, hrow.lt, fun i hi => ?_⟩⟩, .inr ⟨g, 0, cap * 4, _, rfl, hrow, by omega, fun j hj => ?_⟩, .inr ⟨g, 0, rfl, hlo⟩⟩
    · rw [Nat.zero_add]
      exact ⟨by rw [hcell _ (by omega), cfm0], by rw [hcell _ (by omega), cfm1], by rw [hcell _ (by omega), cfm2], by rw [hcell _ (by omega), cfm3]⟩
    · rw [Nat.zero_add, Array.getD_eq_getD_getElem?, hat j hj]; rfl
end Go.Proofs.YtdidlcjhodejjaaGreat
namespace Go.Proofs.YtdidlcjhodejjaaGreat
open Go.RowKit Go.Deep Go.Joins
set_option linter.unusedVariables false

/-- the greatest monomials of the first operators. -/
def stL (o : Int) (ln : Nat → Nat) (f : Nat → Nat → T) : Nat → List M
  | 0 => []
  | i + 1 => stL o ln f i ++ [(ldAt o ln f i).m]
theorem stL_len (o : Int) (ln : Nat → Nat) (f : Nat → Nat → T) : ∀ i, (stL o ln f i).length = i
  | 0 => rfl
  | i + 1 => by unfold stL; rw [List.length_append, stL_len o ln f i]; rfl
def stairs (o : Int) (n : Nat) (ln : Nat → Nat) (f : Nat → Nat → T) : List M := if (1 ≤ o ∧ o ≤ 3) ∧ lstOk n ln f = true then stL o ln f n else []
theorem stairs_len (o : Int) (n : Nat) (ln : Nat → Nat) (f : Nat → Nat → T) : (stairs o n ln f).length ≤ 12 := by
  unfold stairs
  split
  · rename_i h; rw [stL_len]; exact (lstOk_all h.2).1
  · simp
theorem infoMs : (Tryz.prog.info? 40).map (fun i => (i.zero, i.size, i.bytes)) = some (some (.agg #[.int .i64 0, .int .i64 0, .int .i64 0, .int .i64 0]), 4, 32) := by kernel_rfl
theorem ownsM_nil (w : World) (lo : Nat) : w.ownsRow lo 40 4 (.slice none 0 0) 0 (cellsMs []) := ⟨rfl, .inl ⟨rfl, rfl⟩⟩
theorem ownsM_none (w : World) (lo : Nat) (h : lo ≤ w.heap.size) : (w.alloc (.cells #[] 40)).ownsRow lo 40 4 (.slice (some ⟨w.heap.size, 0, none⟩) 0 0) 0 (cellsMs []) := World.ownsRow_lit _ _ _ h (Nat.zero_le _) rfl
set_option maxRecDepth 100000 in
set_option maxHeartbeats 2000000 in
theorem grbStairsI_no (w : World) (o : Int) (a : Option Addr) (n cap : Nat) (hc : Calls Tryz.prog 45 #[.int .i64 o, .slice a n cap] w fun r w' => r = .returned (.tuple #[.slice none 0 0, .bool false]) ∧ Below w.heap.size w w') :
    Calls Tryz.prog 21 #[.int .i64 o, .slice a n cap] w fun r w' => ∃ v, r = .returned v ∧ Below w.heap.size w w' ∧ w'.ownsRow w.heap.size 40 4 v ([] : List M).length (cellsMs []) := by
  go_enter Tryz.func21, Tryz.ntmps21
  go_wp2_with fail
  refine hc.mono ?_
  rintro r w1 ⟨rfl, hb1⟩
  have HB := Hid.mk' hb1
  clear hb1 hc
  go_wp2
  go_loopw [7, 18] (fun v i wr => v = .slice none 0 0 ∧ i = .int .i64 0 ∧ wr = w1) (fun _ _ _ => 0)
  case atStart => exact ⟨rfl, rfl, rfl⟩
  case round =>
    obtain ⟨rfl, rfl, rfl⟩ := hrel
    go_wp2
    go_ret
    exact ⟨_, rfl, HB.out, ownsM_nil _ _⟩
set_option maxRecDepth 100000 in
set_option maxHeartbeats 4000000 in
theorem grbStairsI_yes (w : World) (o : Int) (a : Option Addr) (n cap : Nat) (ad : Nat → Option Addr) (ln cp : Nat → Nat) (f : Nat → Nat → T) (h : RdS w a n cap ad ln cp f) (o1 : 1 ≤ o) (o2 : o ≤ 3) (hls : lstOk n ln f = true) :
    Calls Tryz.prog 21 #[.int .i64 o, .slice a n cap] w fun r w' => ∃ v, r = .returned v ∧ Below w.heap.size w w' ∧ w'.ownsRow w.heap.size 40 4 v (stL o ln f n).length (cellsMs (stL o ln f n)) := by
  obtain ⟨i0, hi0, hz0, hz1, hz2⟩ := info_parts infoMs
  have hc := redLeadsI w o a n cap ad ln cp f h o1 o2 hls
  have hn : (n : Int) ≤ 12 := by have := (lstOk_all hls).1; omega
  have HLen := Hid.mk' (ldsL_len o ln f n)
  have HAt := Hid.mk' (ldsL_at o ln f n)
  clear h hls
  go_enter Tryz.func21, Tryz.ntmps21
  go_wp2_with fail
  refine hc.mono ?_
  rintro r w1 ⟨v, rfl, hb1, ho1⟩
  obtain ⟨al, cl, rfl, hout⟩ := out_of_owns ho1 (by rw [HLen.out]; omega)
  have HB := Hid.mk' hb1
  have hR := hout.1
  rw [HLen.out] at hR ⊢
  have HR := Hid.mk' hR
  clear hb1 ho1 hout hc hR
  go_wp2
  go_loopw [7, 18] (fun v i wr => ∃ k : Nat, k ≤ n ∧ i = .int .i64 (k : Int) ∧ Below w1.heap.size w1 wr ∧ wr.ownsRow w1.heap.size 40 4 v (stL o ln f k).length (cellsMs (stL o ln f k))) (fun _ i _ => n - (intOf i).toNat)
  case atStart => exact ⟨0, Nat.zero_le _, rfl, Below.refl _ _, ownsM_nil w1 _⟩
  case round =>
    obtain ⟨k, hk, rfl, hB, hown⟩ := hrel
    have HB3 := Hid.mk' hB
    have HO3 := Hid.mk' hown
    clear hown
    by_cases hlt : k < n
    · rcases HR.out.2.2 with h0 | ⟨b, off, rfl, hblt, hcl⟩
      · omega
      have hkl : (k : Int) < (n : Int) := by omega
      have hck := (hcl k hlt).below hB hblt
      rw [HAt.out k hlt] at hck
      obtain ⟨t, ht⟩ : ∃ t, ldAt o ln f k = t := ⟨_, rfl⟩
      rw [ht] at hck
      obtain ⟨q0, q1, q2, q3, q4⟩ := hck
      have e2 : stL o ln f (k + 1) = stL o ln f k ++ [t.m] := by
        rw [← ht]; rfl
      have HE := Hid.mk' e2
      have HL := Hid.mk' (stL_len o ln f k)
      have hB5 := hB.alloc hB.size (.cells #[.int .i64 t.c, .int .i64 t.m.x, .int .i64 t.m.y, .int .i64 t.m.d, .int .i64 t.m.e] 42)
      have hO5 := HO3.out.alloc (.cells #[.int .i64 t.c, .int .i64 t.m.x, .int .i64 t.m.y, .int .i64 t.m.d, .int .i64 t.m.e] 42)
      have hnew : ((wr.alloc (.cells #[.int .i64 t.c, .int .i64 t.m.x, .int .i64 t.m.y, .int .i64 t.m.d, .int .i64 t.m.e] 42)).alloc (.cells #[.int .i64 t.m.x, .int .i64 t.m.y, .int .i64 t.m.d, .int .i64 t.m.e] 40)).heap[wr.heap.size + 1]? = some (.cells #[.int .i64 t.m.x, .int .i64 t.m.y, .int .i64 t.m.d, .int .i64 t.m.e] 40) := by
        have := heap_alloc_new (wr.alloc (.cells #[.int .i64 t.c, .int .i64 t.m.x, .int .i64 t.m.y, .int .i64 t.m.d, .int .i64 t.m.e] 42)) (.cells #[.int .i64 t.m.x, .int .i64 t.m.y, .int .i64 t.m.d, .int .i64 t.m.e] 40)
        rw [World.size_alloc] at this
        exact this
      have HN := Hid.mk' hnew
      have hwl := stL_len o ln f k
      clear e2 hnew hcl ht
      go_wp2_with (at_builtin; refine wpList_append_lies _ rfl (.tmp 22) (.tmp 25) 37 rfl w1.heap.size 40 i0 _ 4 32 Tryz.underlying37 hi0 hz0 hz1 hz2 rfl (by omega) _ (stL o ln f k).length (cellsMs (stL o ln f k)) rfl (hO5.alloc _) ⟨wr.heap.size + 1, 0, none⟩ 1 1 (cellsMs [t.m]) rfl (by rw [cellsM_length]; rfl) (by rw [cellsM_one]; exact World.news_of_block HN.out) (oneM_cells _) (by omega) (by unfold maxLen; omega) (by omega) (by have := hB.size; simp; omega) _ rfl ?_; intro g0 cap0 w5 hown1 hgrow hat hlt1; have HB := Hid.mk' ((hB5.alloc hB5.size _).grown hgrow (Nat.le_trans hB.size (by simp; omega)) (fun k hk => (HO3.out.lt k hk).1)); have HO1 := Hid.mk' hown1; clear hown1 hgrow hat hlt1 hO5)
      go_roundw
      case rel => exact ⟨k + 1, by omega, by go_num, HB.out, by
        have h := HO1.out
        rw [HE.out, cellsM_append, List.length_append]
        rw [HL.out] at h ⊢
        exact h⟩
      case measure => simp [intOf]; omega
    · have hnl : ¬ (k : Int) < (n : Int) := by omega
      have hie : k = n := by omega
      subst hie
      go_wp2
      go_ret
      exact ⟨_, rfl, bel_next HB.out HB3.out, owns_lower HO3.out HB.out.size⟩
theorem grbStairsI (w : World) (o : Int) (a : Option Addr) (n cap : Nat) (ad : Nat → Option Addr) (ln cp : Nat → Nat) (f : Nat → Nat → T) (h : RdS w a n cap ad ln cp f) :
    Calls Tryz.prog 21 #[.int .i64 o, .slice a n cap] w fun r w' => ∃ v, r = .returned v ∧ Below w.heap.size w w' ∧ w'.ownsRow w.heap.size 40 4 v (stairs o n ln f).length (cellsMs (stairs o n ln f)) := by
  unfold stairs
  by_cases ho : 1 ≤ o ∧ o ≤ 3
  · cases hls : lstOk n ln f
    · rw [if_neg (by simp)]
      exact grbStairsI_no w o a n cap (redLeadsI_no w o a n cap ad ln cp f h ho.1 ho.2 hls)
    · rw [if_pos ⟨ho, rfl⟩]
      exact grbStairsI_yes w o a n cap ad ln cp f h ho.1 ho.2 hls
  · rw [if_neg (fun h => ho h.1)]
    exact grbStairsI_no w o a n cap (redLeadsI_out w o a n cap (by omega))
set_option maxRecDepth 100000 in
set_option maxHeartbeats 4000000 in
theorem grbStairsS (w : World) (o : Int) (a : Option Addr) (n cap : Nat) (ad : Nat → Option Addr) (ln cp : Nat → Nat) (f : Nat → Nat → T) (h : RdS w a n cap ad ln cp f) :
    Calls Tryz.prog 22 #[.int .i64 o, .slice a n cap] w fun r w' => ∃ v, r = .returned v ∧ Below w.heap.size w w' ∧ w'.ownsRow w.heap.size 40 4 v (stairs o n ln f).length (cellsMs (stairs o n ln f)) := by
  obtain ⟨i0, hi0, hz0, hz1, hz2⟩ := info_parts infoMs
  have hn : (n : Int) ≤ 140737488351232 := by have := h.2.1; omega
  have HB0 := Hid.mk' (bel_one w (.cells #[] 40))
  have HO0 := Hid.mk' (ownsM_none w w.heap.size (Nat.le_refl _))
  have HH := Hid.mk' h
  clear h
  unfold stairs
  by_cases ho : 1 ≤ o ∧ o ≤ 3
  · obtain ⟨o1, o2⟩ := ho
    cases hls : lstOk n ln f
    · rw [if_neg (by simp)]
      go_enter Tryz.func22, Tryz.ntmps22
      go_wp2_with (go_at_call 39; refine (inS_in _ _ _ _ o1 o2).mono ?_; rintro r w' ⟨rfl, hw'⟩; obtain rfl := hw'.symm; clear hw')
      refine (lstOkS _ _ _ _ _ _ _ _ (HH.out.below HB0.out)).mono ?_
      rw [hls]
      rintro r w1 ⟨rfl, hb1⟩
      have HB1 := Hid.mk' (bel_next HB0.out hb1)
      have HO1 := Hid.mk' (owns_below HO0.out hb1)
      clear hb1
      go_wp2
      go_ret
      exact ⟨_, rfl, HB1.out, HO1.out⟩
    · rw [if_pos ⟨⟨o1, o2⟩, rfl⟩]
      have HO := Hid.mk' (lstOk_all hls).2
      have hn12 : (n : Int) ≤ 12 := by have := (lstOk_all hls).1; omega
      go_enter Tryz.func22, Tryz.ntmps22
      go_wp2_with (go_at_call 39; refine (inS_in _ _ _ _ o1 o2).mono ?_; rintro r w' ⟨rfl, hw'⟩; obtain rfl := hw'.symm; clear hw')
      refine (lstOkS _ _ _ _ _ _ _ _ (HH.out.below HB0.out)).mono ?_
      rw [hls]
      rintro r w1 ⟨rfl, hb1⟩
      have HB1 := Hid.mk' (bel_next HB0.out hb1)
      have HO1 := Hid.mk' (owns_below HO0.out hb1)
      clear hb1 hls HB0 HO0
      go_wp2
      go_loopw [5, 6] (fun v i wr => ∃ k : Nat, k ≤ n ∧ i = .int .i64 (k : Int) ∧ Below w.heap.size w wr ∧ wr.ownsRow w.heap.size 40 4 v (stL o ln f k).length (cellsMs (stL o ln f k))) (fun _ i _ => n - (intOf i).toNat)
      case atStart => exact ⟨0, Nat.zero_le _, rfl, HB1.out, HO1.out⟩
      case round =>
        obtain ⟨k, hk, rfl, hB, hown⟩ := hrel
        have HB3 := Hid.mk' hB
        have HO3 := Hid.mk' hown
        clear hown
        by_cases hlt : k < n
        · rcases HH.out.2.2.1 with h0 | ⟨b, off, rfl, hblt, hcl⟩
          · omega
          have hkl : (k : Int) < (n : Int) := by omega
          have g0 : wr.cell? ⟨b, off + k, none⟩ = some (.slice (ad k) (ln k) (cp k)) := (hB.cell (p := ⟨b, off + k, none⟩) hblt).trans (hcl k hlt)
          have HK := Hid.mk' ((HH.out.2.2.2 k hlt).below hB)
          have hoi := HO.out k hlt
          have hc := l3LeadS wr o (ad k) (ln k) (cp k) (f k) HK.out (by omega) (polOk_m hoi.2)
          obtain ⟨t, ht⟩ : ∃ t, ldAt o ln f k = t := ⟨_, rfl⟩
          rw [show f k (leadAt o (f k) (ln k)) = t from ht] at hc
          have hfield : ∀ W : World, (Instr.field 42 (Value.agg #[.int .i64 t.c, .int .i64 t.m.x, .int .i64 t.m.y, .int .i64 t.m.d, .int .i64 t.m.e]) 1).run Tryz.prog W = .ok (Value.agg #[.int .i64 t.m.x, .int .i64 t.m.y, .int .i64 t.m.d, .int .i64 t.m.e]) W := fun W => by kernel_rfl
          have e2 : stL o ln f (k + 1) = stL o ln f k ++ [t.m] := by
            rw [← ht]; rfl
          have HE := Hid.mk' e2
          have HL := Hid.mk' (stL_len o ln f k)
          have hwl := stL_len o ln f k
          clear hcl hoi e2 ht hB
          go_wp2_with fail
          refine hc.mono ?_
          rintro r w4 ⟨rfl, hb4⟩
          have hB4 := bel_next HB3.out hb4
          have hO4 := owns_below HO3.out hb4
          have hnew := heap_alloc_new w4 (.cells #[.int .i64 t.m.x, .int .i64 t.m.y, .int .i64 t.m.d, .int .i64 t.m.e] 40)
          have HN := Hid.mk' hnew
          clear hb4 g0 hc HK hnew
          go_wp2_with (at_builtin; refine wpList_append_lies _ rfl (.tmp 23) (.tmp 31) 37 rfl w.heap.size 40 i0 _ 4 32 Tryz.underlying37 hi0 hz0 hz1 hz2 rfl (by omega) _ (stL o ln f k).length (cellsMs (stL o ln f k)) rfl (hO4.alloc _) ⟨w4.heap.size, 0, none⟩ 1 1 (cellsMs [t.m]) rfl (by rw [cellsM_length]; rfl) (by rw [cellsM_one]; exact World.news_of_block HN.out) (oneM_cells _) (by omega) (by unfold maxLen; omega) (by omega) (by have := hB4.size; simp; omega) _ rfl ?_; intro g0 cap0 w5 hown1 hgrow hat hlt1; have HB := Hid.mk' ((hB4.alloc hB4.size _).grown hgrow (Nat.le_trans hB4.size (by simp)) (fun k hk => (hO4.lt k hk).1)); have HO1 := Hid.mk' hown1; clear hown1 hgrow hat hlt1 hO4)
          go_roundw
          case rel => exact ⟨k + 1, by omega, by go_num, HB.out, by
            have h := HO1.out
            rw [HE.out, cellsM_append, List.length_append]
            rw [HL.out] at h ⊢
            exact h⟩
          case measure => simp [intOf]; omega
        · have hnl : ¬ (k : Int) < (n : Int) := by omega
          have hie : k = n := by omega
          subst hie
          go_wp2
          go_ret
          exact ⟨_, rfl, HB3.out, HO3.out⟩
  · rw [if_neg (fun h => ho h.1)]
    have ho' : o < 1 ∨ (1 ≤ o ∧ 3 < o) := by omega
    go_enter Tryz.func22, Tryz.ntmps22
    go_wp2_with (go_at_call 39; refine (inS_out _ _ _ _ ho').mono ?_; rintro r w' ⟨rfl, hw'⟩; obtain rfl := hw'.symm; clear hw')
    go_ret
    exact ⟨_, rfl, HB0.out, HO0.out⟩
end Go.Proofs.YtdidlcjhodejjaaGreat
namespace Go.Proofs.YtdidlcjhodejjaaGreat
open Go.RowKit Go.Deep Go.Joins
set_option linter.unusedVariables false

end Go.Proofs.YtdidlcjhodejjaaGreat
