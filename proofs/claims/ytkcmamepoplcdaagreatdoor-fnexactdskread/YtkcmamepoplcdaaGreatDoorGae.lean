/-
  What the model's sum of two rows of terms returns: they are merged, the greater term first.
  Reading monomials: what the program guesses, as lists of bytes.
  The library's strings.Builder, strconv.Itoa: contracts laid at this dump.
-/
import Derived.Test.YtkcmamepoplcdaaGreatDoorGad
import Derived.Deep.AppendLies
import Derived.Test.YtkcmamepoplcdaaGreatDoorGac
import Derived.Lib.Strings
import Derived.Lib.AtoiAll
import Derived.Lib.AtoiTie
import Derived.Test.YtkcmamepoplcdaaGreatDoorRows
import Derived.Shelf.Lay
import Derived.Shelf.Strings.Builder1
import Derived.Shelf.Strconv.Itoa3
import Derived.Ground.NamesProg
namespace Go.Proofs.YtkcmamepoplcdaaGreatDoor
open Go.RowKit
set_option linter.unusedVariables false

def T.cells (t : T) : List Value := [.int .i64 t.c, .int .i64 t.m.x, .int .i64 t.m.y, .int .i64 t.m.d, .int .i64 t.m.e]
def cellsL : List T → List Value
  | [] => []
  | t :: r => t.cells ++ cellsL r
theorem cellsL_append (a b : List T) : cellsL (a ++ b) = cellsL a ++ cellsL b := by
  induction a with
  | nil => rfl
  | cons t r ih => simp [cellsL, ih, List.append_assoc]
theorem cellsL_length (a : List T) : (cellsL a).length = a.length * 5 := by
  induction a with
  | nil => rfl
  | cons t r ih => simp [cellsL, T.cells, ih]; omega
theorem cellsL_one (t : T) : cellsL [t] = [.int .i64 t.c, .int .i64 t.m.x, .int .i64 t.m.y, .int .i64 t.m.d, .int .i64 t.m.e] := by simp [cellsL, T.cells]

/-- the sum of what is left from the i-th and the k-th term on. -/
def mrgI (f : Nat → T) (la : Nat) (g : Nat → T) (lb : Nat) : Nat → Nat → Nat → List T
  | 0, _, _ => []
  | u + 1, i, k =>
    if i < la ∧ k < lb then
      if 0 < M.ord 1 (f i).m (g k).m then f i :: mrgI f la g lb u (i + 1) k
      else if M.ord 1 (f i).m (g k).m < 0 then g k :: mrgI f la g lb u i (k + 1)
      else if ((f i).c + (g k).c) % 101 ≠ 0 then ⟨((f i).c + (g k).c) % 101, (f i).m⟩ :: mrgI f la g lb u (i + 1) (k + 1)
      else mrgI f la g lb u (i + 1) (k + 1)
    else if i < la then f i :: mrgI f la g lb u (i + 1) k
    else if k < lb then g k :: mrgI f la g lb u i (k + 1)
    else []
theorem addI_more (f : Nat → T) (la : Nat) (g : Nat → T) (lb : Nat) : ∀ (u v i k : Nat), la - i + (lb - k) ≤ u → la - i + (lb - k) ≤ v → mrgI f la g lb u i k = mrgI f la g lb v i k
  | 0, 0, _, _, _, _ => rfl
  | 0, v + 1, i, k, h, _ => by simp only [mrgI]; rw [if_neg (by omega), if_neg (by omega), if_neg (by omega)]
  | u + 1, 0, i, k, _, h => by simp only [mrgI]; rw [if_neg (by omega), if_neg (by omega), if_neg (by omega)]
  | u + 1, v + 1, i, k, h, h' => by
    simp only [mrgI]
    by_cases h1 : i < la ∧ k < lb
    · rw [if_pos h1, if_pos h1, addI_more f la g lb u v (i + 1) k (by omega) (by omega), addI_more f la g lb u v i (k + 1) (by omega) (by omega), addI_more f la g lb u v (i + 1) (k + 1) (by omega) (by omega)]
    · rw [if_neg h1, if_neg h1]
      by_cases h2 : i < la
      · rw [if_pos h2, if_pos h2, addI_more f la g lb u v (i + 1) k (by omega) (by omega)]
      · rw [if_neg h2, if_neg h2]
        by_cases h3 : k < lb
        · rw [if_pos h3, if_pos h3, addI_more f la g lb u v i (k + 1) (by omega) (by omega)]
        · rw [if_neg h3, if_neg h3]
def addT (f : Nat → T) (la : Nat) (g : Nat → T) (lb : Nat) (i k : Nat) : List T := mrgI f la g lb (la - i + (lb - k)) i k
theorem addT_gt {f : Nat → T} {la : Nat} {g : Nat → T} {lb i k : Nat} (hi : i < la) (h : ¬ k < lb ∨ 0 < M.ord 1 (f i).m (g k).m) : addT f la g lb i k = f i :: addT f la g lb (i + 1) k := by
  unfold addT
  rw [show la - i + (lb - k) = (la - (i + 1) + (lb - k)) + 1 by omega]
  simp only [mrgI]
  by_cases hk : k < lb
  · rw [if_pos ⟨hi, hk⟩, if_pos (h.resolve_left (fun h => h hk))]
  · rw [if_neg (fun h => hk h.2), if_pos hi]
theorem addT_lt {f : Nat → T} {la : Nat} {g : Nat → T} {lb i k : Nat} (hk : k < lb) (h : ¬ i < la ∨ M.ord 1 (f i).m (g k).m < 0) : addT f la g lb i k = g k :: addT f la g lb i (k + 1) := by
  unfold addT
  rw [show la - i + (lb - k) = (la - i + (lb - (k + 1))) + 1 by omega]
  simp only [mrgI]
  by_cases hi : i < la
  · have h' := h.resolve_left (fun h => h hi)
    rw [if_pos ⟨hi, hk⟩, if_neg (by omega), if_pos h']
  · rw [if_neg (fun h => hi h.1), if_neg hi, if_pos hk]
theorem addT_eq {f : Nat → T} {la : Nat} {g : Nat → T} {lb i k : Nat} (hi : i < la) (hk : k < lb) (h : M.ord 1 (f i).m (g k).m = 0) :
    addT f la g lb i k = (if ((f i).c + (g k).c) % 101 ≠ 0 then [⟨((f i).c + (g k).c) % 101, (f i).m⟩] else []) ++ addT f la g lb (i + 1) (k + 1) := by
  unfold addT
  rw [show la - i + (lb - k) = (la - i + (lb - k) - 1) + 1 by omega]
  simp only [mrgI]
  rw [if_pos ⟨hi, hk⟩, if_neg (by omega), if_neg (by omega), addI_more f la g lb (la - i + (lb - k) - 1) (la - (i + 1) + (lb - (k + 1))) (i + 1) (k + 1) (by omega) (by omega)]
  by_cases hc : ((f i).c + (g k).c) % 101 ≠ 0
  · rw [if_pos hc, if_pos hc]; rfl
  · rw [if_neg hc, if_neg hc]; rfl
theorem addT_end {f : Nat → T} {la : Nat} {g : Nat → T} {lb i k : Nat} (hi : ¬ i < la) (hk : ¬ k < lb) : addT f la g lb i k = [] := by
  unfold addT
  rw [show la - i + (lb - k) = 0 by omega]; rfl
theorem addI_len (f : Nat → T) (la : Nat) (g : Nat → T) (lb : Nat) : ∀ (u i k : Nat), (mrgI f la g lb u i k).length ≤ u
  | 0, _, _ => by simp [mrgI]
  | u + 1, i, k => by
    have a1 := addI_len f la g lb u (i + 1) k
    have a2 := addI_len f la g lb u i (k + 1)
    have a3 := addI_len f la g lb u (i + 1) (k + 1)
    simp only [mrgI]
    repeat' split
    all_goals simp
    all_goals omega
theorem addT_len (f : Nat → T) (la : Nat) (g : Nat → T) (lb i k : Nat) : (addT f la g lb i k).length ≤ la - i + (lb - k) := addI_len _ _ _ _ _ _ _
theorem one_cells (t : T) : ∀ u ∈ cellsL [t], u.oneCell' = true := by
  rw [cellsL_one]
  intro u hu
  simp only [List.mem_cons, List.not_mem_nil, or_false] at hu
  rcases hu with rfl | rfl | rfl | rfl | rfl <;> rfl
theorem grown_of_below {w w' : World} (h : Below w.heap.size w w') : w.grownBy w' none := ⟨h.os, h.tape, h.output, h.size, fun k hk _ => h.block k hk⟩
theorem owns_below {w w' : World} {base : Nat} {e : TypeId} {size : Nat} {v : Value} {n : Nat} {xs : List Value} (h : w.ownsRow base e size v n xs) (hb : Below w.heap.size w w') : w'.ownsRow base e size v n xs := by
  refine h.kept (grown_of_below hb) ?_
  cases hv : v.ownBlock with
  | none => exact .inl rfl
  | some k => exact .inr (by simp)
set_option maxRecDepth 100000 in
set_option maxHeartbeats 8000000 in
theorem l3AddS (w : World) (a b : Option Addr) (la ca lb cb : Nat) (f g : Nat → T) (ha : Rd w a la ca f) (hb : Rd w b lb cb g) (hl : la + lb ≤ 1000000)
    (hcf : ∀ i, i < la → 0 ≤ (f i).c ∧ (f i).c ≤ 100) (hcg : ∀ i, i < lb → 0 ≤ (g i).c ∧ (g i).c ≤ 100) :
    Calls Tryz.prog 100 #[.slice a la ca, .slice b lb cb] w fun r w' => ∃ v, r = .returned v ∧ Below w.heap.size w w' ∧ w'.ownsRow w.heap.size 79 5 v (addT f la g lb 0 0).length (cellsL (addT f la g lb 0 0)) := by
  obtain ⟨i0, hi0, hz0, hz1, hz2⟩ := info_parts infoT
  obtain ⟨a1, a2, a3⟩ := ha
  obtain ⟨b1, b2, b3⟩ := hb
  have hla : (la : Int) ≤ 1000000 := by omega
  have hlb : (lb : Int) ≤ 1000000 := by omega
  go_enter Tryz.func100, Tryz.ntmps100
  go_wp2
  go_loopw [5, 6, 7] (fun v ii kk wr => ∃ (i k : Nat) (out : List T), i ≤ la ∧ k ≤ lb ∧ ii = .int .i64 i ∧ kk = .int .i64 k ∧ Below w.heap.size w wr ∧ wr.ownsRow w.heap.size 79 5 v out.length (cellsL out) ∧ out.length ≤ i + k ∧ Hid (out ++ addT f la g lb i k = addT f la g lb 0 0)) (fun _ ii kk _ => (la - (intOf ii).toNat) + (lb - (intOf kk).toNat))
  case atStart => exact ⟨0, 0, [], Nat.zero_le _, Nat.zero_le _, rfl, rfl, (Below.refl _ _).alloc (Nat.le_refl _) _, World.ownsRow_lit _ _ _ (Nat.le_refl _) (Nat.zero_le _) rfl, Nat.zero_le _, rfl⟩
  case round =>
    obtain ⟨i, k, out, hi, hk, rfl, rfl, hB, hown, hol, HL⟩ := hrel
    by_cases hia : i < la
    · rcases a3 with h0 | ⟨ba, oa, rfl, hal, hac⟩
      · omega
      have hin : (i : Int) < (la : Int) := by omega
      by_cases hkb : k < lb
      · rcases b3 with h0 | ⟨bb, ob, rfl, hbl, hbc⟩
        · omega
        have hkn : (k : Int) < (lb : Int) := by omega
        have hba : ba < wr.heap.size := Nat.lt_of_lt_of_le hal hB.size
        have hbb : bb < wr.heap.size := Nat.lt_of_lt_of_le hbl hB.size
        have ne := Ext.there wr
        have hca := (hac i hia).below hB hal
        have hcb := (hbc k hkb).below hB hbl
        obtain ⟨cf1, cf2⟩ := hcf i hia
        obtain ⟨cg1, cg2⟩ := hcg k hkb
        have ke : ((k : Int) == (lb : Int)) = false := by simp; omega
        have ie : ((i : Int) == (la : Int)) = false := by simp; omega
        have s0 : ∀ u : Ext wr, u.1.cell? ⟨ba, oa + i * 5, none⟩ = some (.int .i64 (f i).c) := fun u => (u.cell hba).trans hca.1
        have s1 : ∀ u : Ext wr, u.1.cell? ⟨ba, oa + i * 5 + 1, none⟩ = some (.int .i64 (f i).m.x) := fun u => (u.cell hba).trans hca.2.1
        have s2 : ∀ u : Ext wr, u.1.cell? ⟨ba, oa + i * 5 + 2, none⟩ = some (.int .i64 (f i).m.y) := fun u => (u.cell hba).trans hca.2.2.1
        have s3 : ∀ u : Ext wr, u.1.cell? ⟨ba, oa + i * 5 + 3, none⟩ = some (.int .i64 (f i).m.d) := fun u => (u.cell hba).trans hca.2.2.2.1
        have s4 : ∀ u : Ext wr, u.1.cell? ⟨ba, oa + i * 5 + 4, none⟩ = some (.int .i64 (f i).m.e) := fun u => (u.cell hba).trans hca.2.2.2.2
        have t0 : ∀ u : Ext wr, u.1.cell? ⟨bb, ob + k * 5, none⟩ = some (.int .i64 (g k).c) := fun u => (u.cell hbb).trans hcb.1
        have t1 : ∀ u : Ext wr, u.1.cell? ⟨bb, ob + k * 5 + 1, none⟩ = some (.int .i64 (g k).m.x) := fun u => (u.cell hbb).trans hcb.2.1
        have t2 : ∀ u : Ext wr, u.1.cell? ⟨bb, ob + k * 5 + 2, none⟩ = some (.int .i64 (g k).m.y) := fun u => (u.cell hbb).trans hcb.2.2.1
        have t3 : ∀ u : Ext wr, u.1.cell? ⟨bb, ob + k * 5 + 3, none⟩ = some (.int .i64 (g k).m.d) := fun u => (u.cell hbb).trans hcb.2.2.2.1
        have t4 : ∀ u : Ext wr, u.1.cell? ⟨bb, ob + k * 5 + 4, none⟩ = some (.int .i64 (g k).m.e) := fun u => (u.cell hbb).trans hcb.2.2.2.2
        have HOW := Hid.mk' hown
        have HCA := Hid.mk' hca
        have HCB := Hid.mk' hcb
        clear hac hbc hcf hcg hown hca hcb
        go_wp2_with fail
        refine wp_region_ext (by kernel_rfl) (by kernel_rfl) ?_
        repeat (go_big_quiet_step (first | (go_at_call 61; exact ext_grows (ordS1 _ _ _ _ _ _ _ _ _))))
        refine wpQuiet_nil ?_
        rintro wu ⟨x, hx⟩
        have hu : Below wr.heap.size wr wu := by rw [hx]; exact x.2
        clear hx x
        have hBu := hB.trans (hu.mono hB.size)
        have hownu := owns_below HOW.out hu
        obtain ⟨x0, x1, x2, x3, x4⟩ := HCA.out.below hu hba
        obtain ⟨y0, y1, y2, y3, y4⟩ := HCB.out.below hu hbb
        clear s0 s1 s2 s3 s4 t0 t1 t2 t3 t4 HOW HCA HCB hB hu
        by_cases hq : 0 < M.ord 1 (f i).m (g k).m
        · have dq : decide (0 < M.ord 1 ⟨(f i).m.x, (f i).m.y, (f i).m.d, (f i).m.e⟩ ⟨(g k).m.x, (g k).m.y, (g k).m.d, (g k).m.e⟩) = true := decide_eq_true hq
          go_wp2_with (at_builtin; refine wpList_append_lies _ rfl (.tmp 85) (.tmp 90) 22 rfl w.heap.size 79 i0 _ 5 40 Tryz.underlying22 hi0 hz0 hz1 hz2 rfl (by omega) _ out.length (cellsL out) rfl (hownu.alloc _) ⟨wu.heap.size, 0, none⟩ 1 1 (cellsL [f i]) rfl (by rw [cellsL_length]; rfl) (by rw [cellsL_one]; exact World.news_of_block (heap_alloc_new wu _)) (one_cells _) (by omega) (by unfold maxLen; omega) (by omega) (by have := hBu.size; simp; omega) _ rfl ?_; intro g0 cap0 w1 hown1 hgrow hat hlt1; have HB := Hid.mk' ((hBu.alloc hBu.size _).grown hgrow (Nat.le_trans hBu.size (by simp)) (fun k hk => (hownu.lt k hk).1)); have HO := Hid.mk' hown1; clear hown1 hgrow hat hlt1 hownu)
          go_roundw
          case rel =>
            refine ⟨i + 1, k, out ++ [f i], by omega, by omega, by go_num, by go_num, HB.out, ?_, by simp; omega, ?_⟩
            · rw [cellsL_append, List.length_append]; exact HO.out
            · show out ++ [f i] ++ addT f la g lb (i + 1) (k) = _
              rw [← HL.out, addT_gt hia (.inr hq), List.append_assoc]; rfl
          case measure => simp [intOf]; omega
        · have dq : decide (0 < M.ord 1 ⟨(f i).m.x, (f i).m.y, (f i).m.d, (f i).m.e⟩ ⟨(g k).m.x, (g k).m.y, (g k).m.d, (g k).m.e⟩) = false := decide_eq_false hq
          by_cases hr : M.ord 1 (f i).m (g k).m < 0
          · have dr : decide (M.ord 1 ⟨(f i).m.x, (f i).m.y, (f i).m.d, (f i).m.e⟩ ⟨(g k).m.x, (g k).m.y, (g k).m.d, (g k).m.e⟩ < 0) = true := decide_eq_true hr
            go_wp2_with (at_builtin; refine wpList_append_lies _ rfl (.tmp 103) (.tmp 108) 22 rfl w.heap.size 79 i0 _ 5 40 Tryz.underlying22 hi0 hz0 hz1 hz2 rfl (by omega) _ out.length (cellsL out) rfl (hownu.alloc _) ⟨wu.heap.size, 0, none⟩ 1 1 (cellsL [g k]) rfl (by rw [cellsL_length]; rfl) (by rw [cellsL_one]; exact World.news_of_block (heap_alloc_new wu _)) (one_cells _) (by omega) (by unfold maxLen; omega) (by omega) (by have := hBu.size; simp; omega) _ rfl ?_; intro g0 cap0 w1 hown1 hgrow hat hlt1; have HB := Hid.mk' ((hBu.alloc hBu.size _).grown hgrow (Nat.le_trans hBu.size (by simp)) (fun k hk => (hownu.lt k hk).1)); have HO := Hid.mk' hown1; clear hown1 hgrow hat hlt1 hownu)
            go_roundw
            case rel =>
              refine ⟨i, k + 1, out ++ [g k], by omega, by omega, by go_num, by go_num, HB.out, ?_, by simp; omega, ?_⟩
              · rw [cellsL_append, List.length_append]; exact HO.out
              · show out ++ [g k] ++ addT f la g lb (i) (k + 1) = _
                rw [← HL.out, addT_lt hkb (.inr hr), List.append_assoc]; rfl
            case measure => simp [intOf]; omega
          · have dr : decide (M.ord 1 ⟨(f i).m.x, (f i).m.y, (f i).m.d, (f i).m.e⟩ ⟨(g k).m.x, (g k).m.y, (g k).m.d, (g k).m.e⟩ < 0) = false := decide_eq_false hr
            have h0 : M.ord 1 (f i).m (g k).m = 0 := by omega
            have ne2 := Ext.there wu
            have bau : ba < wu.heap.size := Nat.lt_of_lt_of_le hal hBu.size
            have bbu : bb < wu.heap.size := Nat.lt_of_lt_of_le hbl hBu.size
            have e0 : ∀ u : Ext wu, u.1.cell? ⟨ba, oa + i * 5, none⟩ = some (.int .i64 (f i).c) := fun u => (u.cell bau).trans x0
            have e1 : ∀ u : Ext wu, u.1.cell? ⟨bb, ob + k * 5, none⟩ = some (.int .i64 (g k).c) := fun u => (u.cell bbu).trans y0
            have HX := Hid.mk' (show Cells wu ba (oa + i * 5) (f i) from ⟨x0, x1, x2, x3, x4⟩)
            have HOW := Hid.mk' hownu
            have H0 := Hid.mk' h0
            have h0' : M.ord 1 ⟨(f i).m.x, (f i).m.y, (f i).m.d, (f i).m.e⟩ ⟨(g k).m.x, (g k).m.y, (g k).m.d, (g k).m.e⟩ = 0 := h0
            clear x0 x1 x2 x3 x4 y0 y1 y2 y3 y4 hownu h0 hq hr dq dr
            go_wp2_with fail
            refine wp_region_ext (by kernel_rfl) (by kernel_rfl) ?_
            repeat (go_big_quiet_step (fail))
            refine wpQuiet_nil ?_
            rintro wv ⟨x, hx⟩
            have hv : Below wu.heap.size wu wv := by rw [hx]; exact x.2
            clear hx x
            have hBv := hBu.trans (hv.mono hBu.size)
            have hownv := owns_below HOW.out hv
            obtain ⟨z0, z1, z2, z3, z4⟩ := HX.out.below hv bau
            clear e0 e1 HX HOW hBu hv
            by_cases hc0 : ((f i).c + (g k).c) % 101 = 0
            · have HC := Hid.mk' hc0
              have hcb : (((f i).c + (g k).c) % 101 != 0) = false := by simp [hc0]
              have HO := Hid.mk' hownv
              clear hc0 hownv
              go_wp2
              go_roundw
              case rel =>
                refine ⟨i + 1, k + 1, out, by omega, by omega, by go_num, by go_num, hBv, HO.out, by omega, ?_⟩
                show out ++ addT f la g lb (i + 1) (k + 1) = _
                rw [← HL.out, addT_eq hia hkb H0.out, if_neg (fun h => h HC.out)]; rfl
              case measure => simp [intOf]; omega
            · have HC := Hid.mk' hc0
              have hcb : (((f i).c + (g k).c) % 101 != 0) = true := by simp [hc0]
              clear hc0
              go_wp2_with (at_builtin; refine wpList_append_lies _ rfl (.tmp 56) (.tmp 64) 22 rfl w.heap.size 79 i0 _ 5 40 Tryz.underlying22 hi0 hz0 hz1 hz2 rfl (by omega) _ out.length (cellsL out) rfl (hownv.alloc _) ⟨wv.heap.size, 0, none⟩ 1 1 (cellsL [⟨((f i).c + (g k).c) % 101, (f i).m⟩]) rfl (by rw [cellsL_length]; rfl) (by rw [cellsL_one]; exact World.news_of_block (heap_alloc_new wv _)) (one_cells _) (by omega) (by unfold maxLen; omega) (by omega) (by have := hBv.size; simp; omega) _ rfl ?_; intro g0 cap0 w1 hown1 hgrow hat hlt1; have HB := Hid.mk' ((hBv.alloc hBv.size _).grown hgrow (Nat.le_trans hBv.size (by simp)) (fun k hk => (hownv.lt k hk).1)); have HO := Hid.mk' hown1; clear hown1 hgrow hat hlt1 hownv)
              go_roundw
              case rel =>
                refine ⟨i + 1, k + 1, out ++ [⟨((f i).c + (g k).c) % 101, (f i).m⟩], by omega, by omega, by go_num, by go_num, HB.out, ?_, by simp; omega, ?_⟩
                · rw [cellsL_append, List.length_append]; exact HO.out
                · show out ++ [⟨((f i).c + (g k).c) % 101, (f i).m⟩] ++ addT f la g lb (i + 1) (k + 1) = _
                  rw [← HL.out, addT_eq hia hkb H0.out, if_pos HC.out, List.append_assoc]
              case measure => simp [intOf]; omega
      · have hkk : k = lb := by omega
        obtain ⟨x0, x1, x2, x3, x4⟩ := (hac i hia).below hB hal
        have ke : ((k : Int) == (lb : Int)) = true := by simp; omega
        have kl : ¬ (k : Int) < (lb : Int) := by omega
        clear hac hcf hcg hkk
        go_wp2_with (at_builtin; refine wpList_append_lies _ rfl (.tmp 85) (.tmp 90) 22 rfl w.heap.size 79 i0 _ 5 40 Tryz.underlying22 hi0 hz0 hz1 hz2 rfl (by omega) _ out.length (cellsL out) rfl (hown.alloc _) ⟨wr.heap.size, 0, none⟩ 1 1 (cellsL [f i]) rfl (by rw [cellsL_length]; rfl) (by rw [cellsL_one]; exact World.news_of_block (heap_alloc_new wr _)) (one_cells _) (by omega) (by unfold maxLen; omega) (by omega) (by have := hB.size; simp; omega) _ rfl ?_; intro g0 cap0 w1 hown1 hgrow hat hlt1; have HB := Hid.mk' ((hB.alloc hB.size _).grown hgrow (Nat.le_trans hB.size (by simp)) (fun k hk => (hown.lt k hk).1)); have HO := Hid.mk' hown1; clear hown1 hgrow hat hlt1 hown)
        go_roundw
        case rel =>
          refine ⟨i + 1, k, out ++ [f i], by omega, by omega, by go_num, by go_num, HB.out, ?_, by simp; omega, ?_⟩
          · rw [cellsL_append, List.length_append]; exact HO.out
          · show out ++ [f i] ++ addT f la g lb (i + 1) (k) = _
            rw [← HL.out, addT_gt hia (.inl hkb), List.append_assoc]; rfl
        case measure => simp [intOf]; omega
    · have il : ¬ (i : Int) < (la : Int) := by omega
      have ie : ((i : Int) == (la : Int)) = true := by simp; omega
      by_cases hkb : k < lb
      · rcases b3 with h0 | ⟨bb, ob, rfl, hbl, hbc⟩
        · omega
        have hkn : (k : Int) < (lb : Int) := by omega
        have ke : ((k : Int) == (lb : Int)) = false := by simp; omega
        obtain ⟨y0, y1, y2, y3, y4⟩ := (hbc k hkb).below hB hbl
        clear hbc hcf hcg
        go_wp2_with (at_builtin; refine wpList_append_lies _ rfl (.tmp 103) (.tmp 108) 22 rfl w.heap.size 79 i0 _ 5 40 Tryz.underlying22 hi0 hz0 hz1 hz2 rfl (by omega) _ out.length (cellsL out) rfl (hown.alloc _) ⟨wr.heap.size, 0, none⟩ 1 1 (cellsL [g k]) rfl (by rw [cellsL_length]; rfl) (by rw [cellsL_one]; exact World.news_of_block (heap_alloc_new wr _)) (one_cells _) (by omega) (by unfold maxLen; omega) (by omega) (by have := hB.size; simp; omega) _ rfl ?_; intro g0 cap0 w1 hown1 hgrow hat hlt1; have HB := Hid.mk' ((hB.alloc hB.size _).grown hgrow (Nat.le_trans hB.size (by simp)) (fun k hk => (hown.lt k hk).1)); have HO := Hid.mk' hown1; clear hown1 hgrow hat hlt1 hown)
        go_roundw
        case rel =>
          refine ⟨i, k + 1, out ++ [g k], by omega, by omega, by go_num, by go_num, HB.out, ?_, by simp; omega, ?_⟩
          · rw [cellsL_append, List.length_append]; exact HO.out
          · show out ++ [g k] ++ addT f la g lb (i) (k + 1) = _
            rw [← HL.out, addT_lt hkb (.inl hia), List.append_assoc]; rfl
        case measure => simp [intOf]; omega
      · have kl : ¬ (k : Int) < (lb : Int) := by omega
        have HO := Hid.mk' hown
        clear hown hcf hcg
        go_wp2
        go_ret
        refine ⟨_, rfl, hB, ?_⟩
        rw [← HL.out, addT_end hia hkb, List.append_nil]
        exact HO.out

/-- the i-th term of a list. -/
def lf (L : List T) (i : Nat) : T := L.getD i ⟨0, ⟨0, 0, 0, 0⟩⟩
theorem cellsL_at (L : List T) : ∀ j, j < L.length * 5 → (cellsL L)[j]? = some (cf (lf L) j) := by
  induction L with
  | nil => intro j h; simp at h
  | cons t r ih =>
    intro j h
    have e : cellsL (t :: r) = t.cells ++ cellsL r := rfl
    rw [e]
    by_cases hj : j < 5
    · rw [List.getElem?_append_left (by simp [T.cells]; omega)]
      have h5 : j = 0 ∨ j = 1 ∨ j = 2 ∨ j = 3 ∨ j = 4 := by omega
      rcases h5 with rfl | rfl | rfl | rfl | rfl <;> rfl
    · rw [List.getElem?_append_right (by simp [T.cells]; omega), show T.cells t = [.int .i64 t.c, .int .i64 t.m.x, .int .i64 t.m.y, .int .i64 t.m.d, .int .i64 t.m.e] from rfl]
      simp only [List.length_cons, List.length_nil]
      rw [ih (j - 5) (by simp at h; omega)]
      obtain ⟨q, rfl⟩ : ∃ q, j = q + 5 := ⟨j - 5, by omega⟩
      simp only [Nat.add_sub_cancel]
      unfold cf
      rw [show (q + 5) % 5 = q % 5 by omega, show (q + 5) / 5 = q / 5 + 1 by omega]
      rfl
/-- What a function hands back: terms that can be read and written, in a block that was not there before lo. -/
def Out (lo : Nat) (w : World) (a : Option Addr) (cap : Nat) (L : List T) : Prop :=
  Rd w a L.length cap (lf L) ∧ Wr w a L.length (lf L) ∧ (L.length = 0 ∨ ∃ g off, a = some ⟨g, off, none⟩ ∧ lo ≤ g)
theorem out_of_owns {w : World} {lo : Nat} {v : Value} {L : List T} (h : w.ownsRow lo 79 5 v L.length (cellsL L)) (hl : L.length * 40 ≤ 140737488351232) : ∃ a cap, v = .slice a L.length cap ∧ Out lo w a cap L := by
  rcases h.2 with ⟨hv, h0⟩ | ⟨g, cap, cur, hv, hlo, hg, hn, hm, hs, ht⟩
  · refine ⟨none, 0, by rw [hv, h0], ⟨by omega, hl, .inl h0⟩, .inl h0, .inl h0⟩
  · have hat : ∀ j, j < L.length * 5 → cur[j]? = some (cf (lf L) j) := by
      intro j hj
      rw [← cellsL_at L j hj, ← ht, List.getElem?_take_of_lt hj]
      simp
    have hc5 : L.length * 5 ≤ cap * 5 := by omega
    have hrow : w.rowIs g 79 (cap * 5) (fun j => cur.getD j undef) := ⟨cur, hg, hs, fun j hj => by
      have hjs : j < cur.size := by omega
      show cur[j]? = some (cur.getD j undef)
      rw [Array.getD_eq_getD_getElem?, Array.getElem?_eq_getElem hjs]
      rfl⟩
    have hcell : ∀ j, j < L.length * 5 → w.cell? ⟨g, j, none⟩ = some (cf (lf L) j) := by
      intro j hj
      rw [hrow.cell (by omega), Array.getD_eq_getD_getElem?, hat j hj]; rfl
    refine ⟨some ⟨g, 0, none⟩, cap, hv, ⟨hn, hl, .inr ⟨g, 0, rfl, hrow.lt, fun i hi => ?_⟩⟩, .inr ⟨g, 0, cap * 5, _, rfl, hrow, by omega, fun j hj => ?_⟩, .inr ⟨g, 0, rfl, hlo⟩⟩
    · rw [Nat.zero_add]
      exact ⟨by rw [hcell _ (by omega), cf0], by rw [hcell _ (by omega), cf1], by rw [hcell _ (by omega), cf2], by rw [hcell _ (by omega), cf3], by rw [hcell _ (by omega), cf4]⟩
    · rw [Nat.zero_add, Array.getD_eq_getD_getElem?, hat j hj]; rfl
theorem Wr.below {w w' : World} {a : Option Addr} {n : Nat} {f : Nat → T} (h : Wr w a n f) (hb : Below w.heap.size w w') : Wr w' a n f := by
  rcases h with h0 | ⟨g, off, N, F, rfl, hR, hN, hF⟩
  · exact .inl h0
  · exact .inr ⟨g, off, N, F, rfl, hR.of_block (hb.block g hR.lt), hN, hF⟩
theorem Out.below {lo : Nat} {w w' : World} {a : Option Addr} {cap : Nat} {L : List T} (h : Out lo w a cap L) (hb : Below w.heap.size w w') : Out lo w' a cap L := ⟨h.1.below hb, h.2.1.below hb, h.2.2⟩
theorem Cells.same {w w' : World} {b o : Nat} {t : T} (h : Cells w b o t) (he : w'.heap[b]? = w.heap[b]?) : Cells w' b o t := by
  obtain ⟨h0, h1, h2, h3, h4⟩ := h
  exact ⟨(World.cell?_of_block (w := w) (a := ⟨b, o, none⟩) he).trans h0, (World.cell?_of_block (w := w) (a := ⟨b, o + 1, none⟩) he).trans h1, (World.cell?_of_block (w := w) (a := ⟨b, o + 2, none⟩) he).trans h2, (World.cell?_of_block (w := w) (a := ⟨b, o + 3, none⟩) he).trans h3, (World.cell?_of_block (w := w) (a := ⟨b, o + 4, none⟩) he).trans h4⟩
theorem Rd.grown {w w' : World} {a : Option Addr} {n cap : Nat} {f : Nat → T} {row : Option Nat} (h : Rd w a n cap f) (hg : w.grownBy w' row) (hne : n = 0 ∨ ∀ b off, a = some ⟨b, off, none⟩ → some b ≠ row) : Rd w' a n cap f := by
  obtain ⟨h1, h2, h3⟩ := h
  refine ⟨h1, h2, ?_⟩
  rcases h3 with h0 | ⟨b, off, rfl, hlt, hc⟩
  · exact .inl h0
  · rcases hne with h0 | hne
    · exact .inl h0
    · exact .inr ⟨b, off, rfl, Nat.lt_of_lt_of_le hlt hg.size, fun i hi => (hc i hi).same (hg.block b hlt (hne b off rfl))⟩
theorem owns_lower {w : World} {base base' : Nat} {e : TypeId} {size : Nat} {v : Value} {n : Nat} {xs : List Value} (h : w.ownsRow base e size v n xs) (hb : base' ≤ base) : w.ownsRow base' e size v n xs := by
  refine ⟨h.1, ?_⟩
  rcases h.2 with h0 | ⟨g, cap, cur, hv, hlo, hr⟩
  · exact .inl h0
  · exact .inr ⟨g, cap, cur, hv, Nat.le_trans hb hlo, hr⟩
theorem polOk_c {n : Nat} {f : Nat → T} (h : polOk n f = true) : n ≤ 400 ∧ ∀ i, i < n → 0 ≤ (f i).c ∧ (f i).c ≤ 100 := by
  simp only [polOk, decide_eq_true_eq] at h
  refine ⟨h.1, fun i hi => ?_⟩
  have := h.2 i hi
  simp only [okAt, Bool.and_eq_true, decide_eq_true_eq] at this
  omega
/-- PolAdd: the terms, and whether it is one. -/
def polAdd (f : Nat → T) (la : Nat) (g : Nat → T) (lb : Nat) : List T × Bool :=
  if polOk la f = true ∧ polOk lb g = true ∧ (addT f la g lb 0 0).length ≤ 400 then (addT f la g lb 0 0, true) else ([], false)
theorem owns_none (w : World) (lo : Nat) (h : lo ≤ w.heap.size) : (w.alloc (.cells #[] 79)).ownsRow lo 79 5 (.slice (some ⟨w.heap.size, 0, none⟩) 0 0) 0 (cellsL []) := World.ownsRow_lit _ _ _ h (Nat.zero_le _) rfl
set_option maxRecDepth 100000 in
set_option maxHeartbeats 4000000 in
theorem polAddS (w : World) (a b : Option Addr) (la ca lb cb : Nat) (f g : Nat → T) (ha : Rd w a la ca f) (hb : Rd w b lb cb g) :
    Calls Tryz.prog 69 #[.slice a la ca, .slice b lb cb] w fun r w' => ∃ v, r = .returned (.tuple #[v, .bool (polAdd f la g lb).2]) ∧ Below w.heap.size w w' ∧ w'.ownsRow w.heap.size 79 5 v (polAdd f la g lb).1.length (cellsL (polAdd f la g lb).1) := by
  cases hpa : polOk la f
  · have e1 : polAdd f la g lb = ([], false) := by simp [polAdd, hpa]
    rw [e1]
    have HA := Hid.mk' ha
    clear ha hb e1
    go_enter Tryz.func69, Tryz.ntmps69
    go_wp2_with fail
    refine (polOkS _ _ _ _ f HA.out).mono ?_
    rw [hpa]
    rintro r w1 ⟨rfl, h1⟩
    go_wp2
    go_ret2
    exact ⟨_, rfl, h1.alloc h1.size _, owns_none w1 _ h1.size⟩
  · cases hpb : polOk lb g
    · have e1 : polAdd f la g lb = ([], false) := by simp [polAdd, hpb]
      rw [e1]
      have HA := Hid.mk' ha
      have HB := Hid.mk' hb
      clear ha hb e1
      go_enter Tryz.func69, Tryz.ntmps69
      go_wp2_with fail
      refine (polOkS _ _ _ _ f HA.out).mono ?_
      rw [hpa]
      rintro r w1 ⟨rfl, h1⟩
      go_wp2_with fail
      refine (polOkS _ _ _ _ g (HB.out.below h1)).mono ?_
      rw [hpb]
      rintro r w2 ⟨rfl, h2⟩
      have h12 := bel_next h1 h2
      go_wp2
      go_ret2
      exact ⟨_, rfl, h12.alloc h12.size _, owns_none w2 _ h12.size⟩
    · obtain ⟨l1, c1⟩ := polOk_c hpa
      obtain ⟨l2, c2⟩ := polOk_c hpb
      have HA := Hid.mk' ha
      have HB := Hid.mk' hb
      have HC1 := Hid.mk' c1
      have HC2 := Hid.mk' c2
      have hlen := addT_len f la g lb 0 0
      clear ha hb c1 c2
      go_enter Tryz.func69, Tryz.ntmps69
      go_wp2_with fail
      refine (polOkS _ _ _ _ f HA.out).mono ?_
      rw [hpa]
      rintro r w1 ⟨rfl, h1⟩
      go_wp2_with fail
      refine (polOkS _ _ _ _ g (HB.out.below h1)).mono ?_
      rw [hpb]
      rintro r w2 ⟨rfl, h2⟩
      have h12 := bel_next h1 h2
      go_wp2_with fail
      refine (l3AddS _ _ _ _ _ _ _ f g (HA.out.below h12) (HB.out.below h12) (by omega) HC1.out HC2.out).mono ?_
      rintro r w3 ⟨v, rfl, h3, hown⟩
      have h123 := bel_next h12 h3
      have hlow := owns_lower hown h12.size
      obtain ⟨a', cap', rfl, hout⟩ := out_of_owns hlow (by omega)
      have HO := Hid.mk' hlow
      clear hown hlow hout
      by_cases hle : (addT f la g lb 0 0).length ≤ 400
      · have e1 : polAdd f la g lb = (addT f la g lb 0 0, true) := by simp [polAdd, hpa, hpb, hle]
        have E1 := Hid.mk' e1
        have hle' : ((addT f la g lb 0 0).length : Int) ≤ 400 := by omega
        clear e1
        go_wp2
        go_ret2
        rw [E1.out]
        exact ⟨_, rfl, h123, HO.out⟩
      · have e1 : polAdd f la g lb = ([], false) := by simp [polAdd, hle]
        have E1 := Hid.mk' e1
        have hle' : (400 : Int) < ((addT f la g lb 0 0).length : Int) := by omega
        clear e1
        go_wp2
        go_ret2
        rw [E1.out]
        exact ⟨_, rfl, h123.alloc h123.size _, owns_none w3 _ h123.size⟩
end Go.Proofs.YtkcmamepoplcdaaGreatDoor
namespace Go.Proofs.YtkcmamepoplcdaaGreatDoor
open Go.RowKit
set_option linter.unusedVariables false

def isD (c : UInt8) : Bool := decide (48 ≤ c.toNat ∧ c.toNat ≤ 57)
def lead (l : List UInt8) : List UInt8 := l.takeWhile isD
def valA (d : List UInt8) : Int := match Lib.atoiAll d with | .ok v => v | _ => 1
/-- one place of the guess: what is left, and the number. -/
def gst (k : Nat) (l : List UInt8) : List UInt8 × Int := if Lib.hasPrefix l [ltr k] = true then ((l.drop 1).drop (lead (l.drop 1)).length, valA (lead (l.drop 1))) else (l, 0)
def glS (s : List UInt8) : Nat → List UInt8
  | 0 => s
  | k + 1 => (gst k (glS s k)).1
def gcS (s : List UInt8) (k : Nat) : Int := (gst k (glS s k)).2
def guess (s : List UInt8) : M := ⟨gcS s 0, gcS s 1, gcS s 2, gcS s 3⟩
theorem lead_len (l : List UInt8) : (lead l).length ≤ l.length := (List.takeWhile_prefix _).length_le
theorem glS_len (s : List UInt8) : ∀ k, (glS s k).length ≤ s.length
  | 0 => Nat.le_refl _
  | k + 1 => by
    have h := glS_len s k
    show (gst k (glS s k)).1.length ≤ _
    unfold gst
    split
    · simp; omega
    · exact h
/-- no digit ahead. -/
def NoD (t : List UInt8) : Prop := ∀ c r, t = c :: r → isD c = false
theorem lead_app {d t : List UInt8} (hd : ∀ c ∈ d, isD c = true) (ht : NoD t) : lead (d ++ t) = d := by
  induction d with
  | nil =>
    cases t with
    | nil => rfl
    | cons c r => unfold lead; rw [List.nil_append, List.takeWhile_cons, ht c r rfl]; rfl
  | cons c d ih =>
    unfold lead at ih ⊢
    rw [List.cons_append, List.takeWhile_cons, hd c (by simp)]
    simp only [if_true]
    rw [ih (fun x hx => hd x (by simp [hx]))]
theorem dec_isD : ∀ n, n ≤ 100 → ∀ c ∈ Lib.decDigits n, isD c = true := fun n hn c hc => by
  have key : ∀ k, k < 10 → isD (UInt8.ofNat (48 + k)) = true := fun k hk => by
    rcases (show k = 0 ∨ k = 1 ∨ k = 2 ∨ k = 3 ∨ k = 4 ∨ k = 5 ∨ k = 6 ∨ k = 7 ∨ k = 8 ∨ k = 9 by omega) with rfl | rfl | rfl | rfl | rfl | rfl | rfl | rfl | rfl | rfl <;> decide
  by_cases h1 : n < 10
  · rw [dec_one h1] at hc
    rw [List.mem_singleton.1 hc]
    exact key n h1
  · rw [dec_more h1] at hc
    rcases List.mem_append.1 hc with h | h
    · by_cases h2 : n / 10 < 10
      · rw [dec_one h2] at h
        rw [List.mem_singleton.1 h]
        exact key _ h2
      · rw [dec_more h2, dec_one (by omega)] at h
        rcases List.mem_append.1 h with h | h
        · rw [List.mem_singleton.1 h]; exact key _ (by omega)
        · rw [List.mem_singleton.1 h]; exact key _ (by omega)
    · rw [List.mem_singleton.1 h]
      exact key _ (by omega)
theorem valA_dec {n : Nat} (h2 : 2 ≤ n) (hn : n ≤ 15) : valA (Lib.decDigits n) = (n : Int) := by
  rcases (show n = 2 ∨ n = 3 ∨ n = 4 ∨ n = 5 ∨ n = 6 ∨ n = 7 ∨ n = 8 ∨ n = 9 ∨ n = 10 ∨ n = 11 ∨ n = 12 ∨ n = 13 ∨ n = 14 ∨ n = 15 by omega) with rfl | rfl | rfl | rfl | rfl | rfl | rfl | rfl | rfl | rfl | rfl | rfl | rfl | rfl
  all_goals first
    | (rw [dec_one (by omega)]; rfl)
    | (rw [dec_more (by omega), dec_one (by omega)]; rfl)
theorem hasP_cons (c : UInt8) (r : List UInt8) : Lib.hasPrefix (c :: r) [c] = true := by simp [Lib.hasPrefix]
theorem hasP_ne {c x : UInt8} {r : List UInt8} (h : c ≠ x) : Lib.hasPrefix (c :: r) [x] = false := by
  unfold Lib.hasPrefix
  simp [List.isPrefixOf]
  exact fun e => h e.symm
theorem hasP_nil (x : UInt8) : Lib.hasPrefix [] [x] = false := rfl
/-- a rest that opens with none of these. -/
def NoH (x : UInt8) (t : List UInt8) : Prop := ∀ c r, t = c :: r → c ≠ x
theorem gst_fpw {k : Nat} {n : Int} (h0 : 0 ≤ n) (h1 : n ≤ 15) {t : List UInt8} (hD : NoD t) (hH : NoH (ltr k) t) : gst k (fpw (ltr k) n ++ t) = (t, n) := by
  by_cases hz : n = 0
  · subst hz
    rw [fpw_zero, List.nil_append]
    have : Lib.hasPrefix t [ltr k] = false := by
      cases t with
      | nil => rfl
      | cons c r => exact hasP_ne (hH c r rfl)
    unfold gst
    rw [if_neg (by rw [this]; simp)]
  · by_cases ho : n = 1
    · subst ho
      rw [fpw_one]
      unfold gst
      rw [List.singleton_append, if_pos (hasP_cons _ _)]
      have e : lead t = [] := lead_app (d := []) (fun _ h => by cases h) hD
      show ((t.drop (lead t).length), valA (lead t)) = _
      rw [e]
      rfl
    · obtain ⟨m, rfl⟩ : ∃ m : Nat, n = (m : Int) := ⟨n.toNat, by omega⟩
      rw [fpw_more (by omega)]
      unfold gst
      rw [List.cons_append, if_pos (hasP_cons _ _)]
      have e : lead (Lib.decDigits m ++ t) = Lib.decDigits m := lead_app (dec_isD m (by omega)) hD
      show (((Lib.decDigits m ++ t).drop (lead (Lib.decDigits m ++ t)).length), valA (lead (Lib.decDigits m ++ t))) = _
      rw [e, valA_dec (by omega) (by omega)]
      simp
theorem fpw_heads {x : UInt8} {n : Int} {t : List UInt8} {P : UInt8 → Prop} (hx : P x) (ht : ∀ c r, t = c :: r → P c) : ∀ c r, fpw x n ++ t = c :: r → P c := fun c r h => by
  by_cases h1 : 1 ≤ n
  · obtain ⟨q, hq⟩ := fpw_head (c := x) h1
    rw [hq, List.cons_append, List.cons.injEq] at h
    rw [← h.1]; exact hx
  · rw [fpw_nil (by omega), List.nil_append] at h
    exact ht c r h
theorem guess_S {m : M} (h : M.ok m = true) : guess (monS m) = m := by
  obtain ⟨x1, x2, y1, y2, d1, d2, e1, e2⟩ := M.ok_iff.1 h
  have a4 : ∀ (P : UInt8 → Prop), (∀ c r, ([] : List UInt8) = c :: r → P c) := fun P c r e => by cases e
  have t3 : ∀ (P : UInt8 → Prop), P 101 → ∀ c r, fpw 101 m.e ++ [] = c :: r → P c := fun P h1 => fpw_heads h1 (a4 P)
  have t2 : ∀ (P : UInt8 → Prop), P 101 → P 100 → ∀ c r, fpw 100 m.d ++ (fpw 101 m.e ++ []) = c :: r → P c := fun P h1 h2 => fpw_heads h2 (t3 P h1)
  have t1 : ∀ (P : UInt8 → Prop), P 101 → P 100 → P 121 → ∀ c r, fpw 121 m.y ++ (fpw 100 m.d ++ (fpw 101 m.e ++ [])) = c :: r → P c := fun P h1 h2 h3 => fpw_heads h3 (t2 P h1 h2)
  have e : monS m = fpw 120 m.x ++ (fpw 121 m.y ++ (fpw 100 m.d ++ (fpw 101 m.e ++ []))) := by rw [monS_is]; simp
  have g0 : gst 0 (monS m) = (fpw 121 m.y ++ (fpw 100 m.d ++ (fpw 101 m.e ++ [])), m.x) := by
    rw [e]
    exact gst_fpw (k := 0) x1 x2 (t1 (fun c => isD c = false) (by decide) (by decide) (by decide)) (t1 (fun c => c ≠ 120) (by decide) (by decide) (by decide))
  have g1 : gst 1 (fpw 121 m.y ++ (fpw 100 m.d ++ (fpw 101 m.e ++ []))) = (fpw 100 m.d ++ (fpw 101 m.e ++ []), m.y) := gst_fpw (k := 1) y1 y2 (t2 (fun c => isD c = false) (by decide) (by decide)) (t2 (fun c => c ≠ 121) (by decide) (by decide))
  have g2 : gst 2 (fpw 100 m.d ++ (fpw 101 m.e ++ [])) = (fpw 101 m.e ++ [], m.d) := gst_fpw (k := 2) d1 d2 (t3 (fun c => isD c = false) (by decide)) (t3 (fun c => c ≠ 100) (by decide))
  have g3 : gst 3 (fpw 101 m.e ++ []) = ([], m.e) := gst_fpw (k := 3) e1 e2 (a4 (fun c => isD c = false)) (a4 (fun c => c ≠ 101))
  have l1 : glS (monS m) 1 = fpw 121 m.y ++ (fpw 100 m.d ++ (fpw 101 m.e ++ [])) := by show (gst 0 (monS m)).1 = _; rw [g0]
  have l2 : glS (monS m) 2 = fpw 100 m.d ++ (fpw 101 m.e ++ []) := by show (gst 1 (glS (monS m) 1)).1 = _; rw [l1, g1]
  have l3 : glS (monS m) 3 = fpw 101 m.e ++ [] := by show (gst 2 (glS (monS m) 2)).1 = _; rw [l2, g2]
  unfold guess gcS
  rw [l1, l2, l3, g1, g2, g3]
  show (⟨(gst 0 (monS m)).2, _, _, _⟩ : M) = m
  rw [g0]
theorem guess_T {m : M} (h : M.ok m = true) : guess (monT m) = m := by
  by_cases h0 : monS m = []
  · rw [monT_one h h0]
    have e : m = ⟨0, 0, 0, 0⟩ := by
      by_cases hz : m.x = 0 ∧ m.y = 0 ∧ m.d = 0 ∧ m.e = 0
      · rcases m with ⟨x, y, d, e⟩
        obtain ⟨rfl, rfl, rfl, rfl⟩ := hz
        rfl
      · obtain ⟨c, r, e, _⟩ := monS_head h hz
        rw [e] at h0; cases h0
    rw [e]
    have e2 : guess [49] = ⟨0, 0, 0, 0⟩ := by kernel_rfl
    exact e2
  · rw [monT_is h h0]
    exact guess_S h
/-- what is read. -/
def monR (s : List UInt8) : M × Bool := if s.length ≤ 40 ∧ monT (guess s) = s then (guess s, true) else (⟨0, 0, 0, 0⟩, false)
theorem guess_ok {s : List UInt8} (h : monT (guess s) = s) : M.ok (guess s) = true := by
  cases hk : M.ok (guess s)
  · rw [monT_no hk] at h
    subst h
    exact absurd hk (by decide +kernel)
  · rfl
/-- whoever reads back finds it. -/
theorem monR_by {s : List UInt8} {g : M} (hg : ∀ m, M.ok m = true → monT m = s → g = m) : monR s = if s.length ≤ 40 ∧ (M.ok g = true ∧ monT g = s) then (g, true) else (⟨0, 0, 0, 0⟩, false) := by
  unfold monR
  by_cases h : monT (guess s) = s
  · have hk := guess_ok h
    have e : g = guess s := hg _ hk h
    subst e
    by_cases hl : s.length ≤ 40
    · rw [if_pos ⟨hl, h⟩, if_pos ⟨hl, hk, h⟩]
    · rw [if_neg (fun q => hl q.1), if_neg (fun q => hl q.1)]
  · rw [if_neg (fun q => h q.2), if_neg (fun q => h ?_)]
    rw [← q.2.2, guess_T q.2.1]
end Go.Proofs.YtkcmamepoplcdaaGreatDoor
namespace Go.Proofs.YtkcmamepoplcdaaGreatDoor
open Go.Shelf Go.RowKit
set_option linter.unusedVariables false
def lay166_ren : Go.Shelf.Ren := ⟨fun | 0 => 0 | 1 => 1 | 2 => 2 | 103 => 203 | 122 => 176 | 125 => 210 | 128 => 225 | 129 => 166 | 138 => 162 | 143 => 97 | 145 => 36 | 147 => 98 | 156 => 52 | 165 => 84 | 166 => 85 | 167 => 128 | 169 => 86 | 170 => 129 | 171 => 44 | 172 => 159 | 195 => 184 | 197 => 180 | 205 => 213 | 206 => 228 | 210 => 214 | 215 => 194 | 217 => 130 | 218 => 185 | 219 => 95 | 220 => 65 | 221 => 136 | 224 => 132 | 225 => 131 | 240 => 122 | 241 => 123 | 243 => 76 | 244 => 181 | 245 => 182 | 246 => 109 | 247 => 198 | 260 => 197 | 266 => 155 | 267 => 133 | 268 => 161 | 276 => 153 | 277 => 154 | 279 => 199 | 280 => 200 | 281 => 201 | 282 => 202 | 283 => 138 | 284 => 139 | 285 => 140 | 286 => 141 | 287 => 211 | 314 => 156 | 316 => 212 | 317 => 165 | 318 => 167 | 319 => 168 | 320 => 169 | 321 => 226 | 322 => 227 | 329 => 230 | 330 => 231 | 337 => 187 | 338 => 188 | 347 => 235 | 348 => 236 | 349 => 237 | 350 => 238 | 351 => 239 | 352 => 240 | 353 => 241 | 354 => 242 | 355 => 243 | 356 => 244 | 357 => 245 | 358 => 246 | 359 => 247 | 360 => 248 | 361 => 249 | 362 => 250 | 363 => 253 | 364 => 251 | 365 => 252 | 366 => 254 | 367 => 265 | n => n, fun | 0 => 0 | 1 => 1 | 2 => 2 | 3 => 3 | 4 => 4 | 5 => 5 | 6 => 6 | 7 => 7 | 8 => 8 | 9 => 9 | 10 => 10 | 11 => 11 | 12 => 12 | 13 => 13 | 14 => 14 | 15 => 15 | 16 => 16 | 17 => 17 | 18 => 18 | 19 => 19 | 20 => 20 | 21 => 21 | 22 => 228 | 24 => 199 | 25 => 200 | 26 => 115 | 27 => 108 | 28 => 70 | 31 => 30 | 37 => 35 | 38 => 40 | 43 => 104 | 46 => 135 | 47 => 177 | 51 => 166 | 52 => 189 | 53 => 144 | 54 => 145 | 55 => 134 | 59 => 53 | 60 => 54 | 62 => 109 | 67 => 73 | 68 => 47 | 69 => 170 | 70 => 92 | 71 => 93 | 72 => 94 | 73 => 95 | 74 => 96 | 75 => 97 | 76 => 98 | 77 => 99 | 78 => 133 | 80 => 100 | 81 => 72 | 83 => 61 | 84 => 116 | 85 => 194 | 86 => 195 | 101 => 33 | 102 => 32 | 103 => 50 | 104 => 29 | 105 => 185 | 106 => 186 | 108 => 215 | 111 => 130 | 113 => 141 | 114 => 49 | 119 => 207 | 127 => 129 | 128 => 187 | 131 => 222 | 137 => 208 | 138 => 209 | 139 => 210 | 143 => 225 | 144 => 226 | 145 => 227 | 146 => 167 | 150 => 172 | 151 => 168 | 164 => 163 | 165 => 164 | 166 => 165 | 167 => 193 | 168 => 196 | 169 => 197 | 170 => 198 | 171 => 143 | 172 => 146 | 173 => 147 | 174 => 148 | 175 => 211 | 176 => 212 | 182 => 217 | 183 => 218 | 209 => 213 | 210 => 214 | 211 => 174 | 212 => 175 | 213 => 176 | 214 => 224 | 218 => 229 | 219 => 230 | 220 => 231 | 222 => 233 | 228 => 235 | 229 => 106 | 232 => 202 | 233 => 203 | 238 => 237 | 239 => 238 | 240 => 239 | 241 => 240 | 242 => 241 | 243 => 242 | 244 => 243 | 245 => 244 | 246 => 245 | 247 => 246 | 248 => 247 | 249 => 248 | n => n, fun n => n⟩
theorem lay166 : Lays.n166 Tryz.prog lay166_ren where
  mixed := by kernel_rfl
  f166 := Tryz.func85.trans (congrArg some (by kernel_rfl))
  f240 := Tryz.func122.trans (congrArg some (by kernel_rfl))
  f276 := Tryz.func153.trans (congrArg some (by kernel_rfl))
  t0 := Tryz.underlying0
  a0 := Tryz.isAgg0
  z0 := Tryz.sizeOf0
  v0 := Tryz.zeroValue0
  t3 := Tryz.underlying3
  a3 := Tryz.isAgg3
  z3 := Tryz.sizeOf3
  v3 := Tryz.zeroValue3
  t4 := Tryz.underlying4
  a4 := Tryz.isAgg4
  z4 := Tryz.sizeOf4
  v4 := Tryz.zeroValue4
  t9 := Tryz.underlying9
  a9 := Tryz.isAgg9
  z9 := Tryz.sizeOf9
  v9 := Tryz.zeroValue9
  t20 := Tryz.underlying20
  a20 := Tryz.isAgg20
  z20 := Tryz.sizeOf20
  v20 := Tryz.zeroValue20
  t37 := Tryz.underlying35
  a37 := Tryz.isAgg35
  z37 := Tryz.sizeOf35
  v37 := Tryz.zeroValue35
  t70 := Tryz.underlying92
  a70 := Tryz.isAgg92
  z70 := Tryz.sizeOf92
  v70 := Tryz.zeroValue92
  t72 := Tryz.underlying94
  a72 := Tryz.isAgg94
  z72 := Tryz.sizeOf94
  v72 := Tryz.zeroValue94
  t75 := Tryz.underlying97
  a75 := Tryz.isAgg97
  z75 := Tryz.sizeOf97
  v75 := Tryz.zeroValue97
  t164 := Tryz.underlying163
  a164 := Tryz.isAgg163
  z164 := Tryz.sizeOf163
  v164 := Tryz.zeroValue163
theorem extra166 : Builder.Extra Tryz.prog lay166_ren where
  sizeBuilder := by kernel_rfl
  liesBuilder := by kernel_rfl
  t5 := Tryz.underlying5
  a5 := Tryz.isAgg5
  z5 := Tryz.sizeOf5
  v5 := Tryz.zeroValue5
  infoByte := by kernel_rfl
  cellsByte := by kernel_rfl
  sizeByte := by kernel_rfl
  neB5 := by decide
theorem bWriteString (B b : Nat) (bs : List Value) (s : ByteArray) (w : World) (h : Lib.IsBuilder 94 5 B b bs w) (hlen : bs.length + s.size ≤ 140737488355328) (hBw : B ≤ w.heap.size) :
    Calls Tryz.prog 85 #[.pointer (some ⟨b, 0, none⟩), .string s] w fun e w' => e = .returned (.tuple #[.int .i64 s.size, .nilIface]) ∧ (Lib.BuilderAt 94 5 B b (.pointer (some ⟨b, 0, none⟩)) (bs ++ Lib.strCells s) w' ∧ Below B w w') := Any.Builder_WriteString lay166 extra166 B b bs s w h hlen hBw
def lay167_ren : Go.Shelf.Ren := ⟨fun | 0 => 0 | 1 => 1 | 2 => 2 | 103 => 203 | 122 => 176 | 125 => 210 | 128 => 225 | 129 => 166 | 138 => 162 | 143 => 97 | 145 => 36 | 147 => 98 | 156 => 52 | 165 => 84 | 166 => 85 | 167 => 128 | 169 => 86 | 170 => 129 | 171 => 44 | 172 => 159 | 195 => 184 | 197 => 180 | 205 => 213 | 206 => 228 | 210 => 214 | 215 => 194 | 217 => 130 | 218 => 185 | 219 => 95 | 220 => 65 | 221 => 136 | 224 => 132 | 225 => 131 | 240 => 122 | 241 => 123 | 243 => 76 | 244 => 181 | 245 => 182 | 246 => 109 | 247 => 198 | 260 => 197 | 266 => 155 | 267 => 133 | 268 => 161 | 276 => 153 | 277 => 154 | 279 => 199 | 280 => 200 | 281 => 201 | 282 => 202 | 283 => 138 | 284 => 139 | 285 => 140 | 286 => 141 | 287 => 211 | 314 => 156 | 316 => 212 | 317 => 165 | 318 => 167 | 319 => 168 | 320 => 169 | 321 => 226 | 322 => 227 | 329 => 230 | 330 => 231 | 337 => 187 | 338 => 188 | 347 => 235 | 348 => 236 | 349 => 237 | 350 => 238 | 351 => 239 | 352 => 240 | 353 => 241 | 354 => 242 | 355 => 243 | 356 => 244 | 357 => 245 | 358 => 246 | 359 => 247 | 360 => 248 | 361 => 249 | 362 => 250 | 363 => 253 | 364 => 251 | 365 => 252 | 366 => 254 | 367 => 265 | n => n, fun | 0 => 0 | 1 => 1 | 2 => 2 | 3 => 3 | 4 => 4 | 5 => 5 | 6 => 6 | 7 => 7 | 8 => 8 | 9 => 9 | 10 => 10 | 11 => 11 | 12 => 12 | 13 => 13 | 14 => 14 | 15 => 15 | 16 => 16 | 17 => 17 | 18 => 18 | 19 => 19 | 20 => 20 | 21 => 21 | 22 => 228 | 24 => 199 | 25 => 200 | 26 => 115 | 27 => 108 | 28 => 70 | 31 => 30 | 37 => 35 | 38 => 40 | 43 => 104 | 46 => 135 | 47 => 177 | 51 => 166 | 52 => 189 | 53 => 144 | 54 => 145 | 55 => 134 | 59 => 53 | 60 => 54 | 62 => 109 | 67 => 73 | 68 => 47 | 69 => 170 | 70 => 92 | 71 => 93 | 72 => 94 | 73 => 95 | 74 => 96 | 75 => 97 | 76 => 98 | 77 => 99 | 78 => 133 | 80 => 100 | 81 => 72 | 83 => 61 | 84 => 116 | 85 => 194 | 86 => 195 | 101 => 33 | 102 => 32 | 103 => 50 | 104 => 29 | 105 => 185 | 106 => 186 | 108 => 215 | 111 => 130 | 113 => 141 | 114 => 49 | 119 => 207 | 127 => 129 | 128 => 187 | 131 => 222 | 137 => 208 | 138 => 209 | 139 => 210 | 143 => 225 | 144 => 226 | 145 => 227 | 146 => 167 | 150 => 172 | 151 => 168 | 164 => 163 | 165 => 164 | 166 => 165 | 167 => 193 | 168 => 196 | 169 => 197 | 170 => 198 | 171 => 143 | 172 => 146 | 173 => 147 | 174 => 148 | 175 => 211 | 176 => 212 | 182 => 217 | 183 => 218 | 209 => 213 | 210 => 214 | 211 => 174 | 212 => 175 | 213 => 176 | 214 => 224 | 218 => 229 | 219 => 230 | 220 => 231 | 222 => 233 | 228 => 235 | 229 => 106 | 232 => 202 | 233 => 203 | 238 => 237 | 239 => 238 | 240 => 239 | 241 => 240 | 242 => 241 | 243 => 242 | 244 => 243 | 245 => 244 | 246 => 245 | 247 => 246 | 248 => 247 | 249 => 248 | n => n, fun n => n⟩
theorem lay167 : Lays.n167 Tryz.prog lay167_ren where
  mixed := by kernel_rfl
  f167 := Tryz.func128.trans (congrArg some (by kernel_rfl))
  f240 := Tryz.func122.trans (congrArg some (by kernel_rfl))
  f276 := Tryz.func153.trans (congrArg some (by kernel_rfl))
  t0 := Tryz.underlying0
  a0 := Tryz.isAgg0
  z0 := Tryz.sizeOf0
  v0 := Tryz.zeroValue0
  t4 := Tryz.underlying4
  a4 := Tryz.isAgg4
  z4 := Tryz.sizeOf4
  v4 := Tryz.zeroValue4
  t5 := Tryz.underlying5
  a5 := Tryz.isAgg5
  z5 := Tryz.sizeOf5
  v5 := Tryz.zeroValue5
  t9 := Tryz.underlying9
  a9 := Tryz.isAgg9
  z9 := Tryz.sizeOf9
  v9 := Tryz.zeroValue9
  t20 := Tryz.underlying20
  a20 := Tryz.isAgg20
  z20 := Tryz.sizeOf20
  v20 := Tryz.zeroValue20
  t37 := Tryz.underlying35
  a37 := Tryz.isAgg35
  z37 := Tryz.sizeOf35
  v37 := Tryz.zeroValue35
  t70 := Tryz.underlying92
  a70 := Tryz.isAgg92
  z70 := Tryz.sizeOf92
  v70 := Tryz.zeroValue92
  t72 := Tryz.underlying94
  a72 := Tryz.isAgg94
  z72 := Tryz.sizeOf94
  v72 := Tryz.zeroValue94
  t75 := Tryz.underlying97
  a75 := Tryz.isAgg97
  z75 := Tryz.sizeOf97
  v75 := Tryz.zeroValue97
  t164 := Tryz.underlying163
  a164 := Tryz.isAgg163
  z164 := Tryz.sizeOf163
  v164 := Tryz.zeroValue163
theorem extra167 : Builder.Extra Tryz.prog lay167_ren where
  sizeBuilder := by kernel_rfl
  liesBuilder := by kernel_rfl
  t5 := Tryz.underlying5
  a5 := Tryz.isAgg5
  z5 := Tryz.sizeOf5
  v5 := Tryz.zeroValue5
  infoByte := by kernel_rfl
  cellsByte := by kernel_rfl
  sizeByte := by kernel_rfl
  neB5 := by decide
theorem bWriteByte (B b : Nat) (bs : List Value) (c : Int) (w : World) (h : Lib.IsBuilder 94 5 B b bs w) (hlen : bs.length + 1 ≤ 140737488355328) (hBw : B ≤ w.heap.size) :
    Calls Tryz.prog 128 #[.pointer (some ⟨b, 0, none⟩), .int .u8 c] w fun e w' => e = .returned .nilIface ∧ (Lib.BuilderAt 94 5 B b (.pointer (some ⟨b, 0, none⟩)) (bs ++ [.int .u8 c]) w' ∧ Below B w w') := Any.Builder_WriteByte lay167 extra167 B b bs c w h hlen hBw
shelf_lay Lays.n169 Nm 169 at Tryz as lay169
theorem extra169 : Builder.Extra Tryz.prog lay169_ren where
  sizeBuilder := by kernel_rfl
  liesBuilder := by kernel_rfl
  t5 := Tryz.underlying5
  a5 := Tryz.isAgg5
  z5 := Tryz.sizeOf5
  v5 := Tryz.zeroValue5
  infoByte := by kernel_rfl
  cellsByte := by kernel_rfl
  sizeByte := by kernel_rfl
  neB5 := by decide
theorem bString (B b : Nat) (l : List UInt8) (w : World) (h : Lib.IsBuilder 94 5 B b (Lib.byteCells l) w) (hBw : B ≤ w.heap.size) :
    Calls Tryz.prog 86 #[.pointer (some ⟨b, 0, none⟩)] w fun e w' => e = .returned (.string ⟨l.toArray⟩) ∧ Below B w w' := Any.Builder_String_any lay169 extra169 B b l w h hBw
shelf_lay Lays.n170 Nm 170 at Tryz as lay170
theorem bLen (B b : Nat) (bs : List Value) (w : World) (h : Lib.IsBuilder 94 5 B b bs w) :
    Calls Tryz.prog 129 #[.pointer (some ⟨b, 0, none⟩)] w fun e w' => e = .returned (.int .i64 bs.length) ∧ w' = w := Any.Builder_Len lay170 B b bs w h
shelf_lay Lays.n171 Nm 171 at Tryz as lay171
theorem itoaSm (i : Nat) (hi : i < 100) (w : World) :
    Calls Tryz.prog 44 #[.int .i64 i] w fun e w' => e = .returned (.string ⟨(Lib.decDigits i).toArray⟩) ∧ w' = w := Any.strconv_Itoa_small lay171 i hi w
end Go.Proofs.YtkcmamepoplcdaaGreatDoor
