/-
  Slots and a line are drawn (spec.DrawDskDo).
-/
import Derived.Test.YtoglomfejgpoeaaGreatDoorLnD
import Derived.Test.YtoglomfejgpoeaaGreatDoorDrawL
import Derived.Deep.AppendLies
namespace Go.Proofs.YtoglomfejgpoeaaGreatDoor
open Go.RowKit Go.Deep Go.Joins
set_option linter.unusedVariables false
set_option linter.unusedSimpArgs false
def DdD (w : World) (e : Ending) (w' : World) : Prop := ∃ (sa : Option Addr) (m sc : Nat) (ad : Nat → Option Addr) (ln cp : Nat → Nat) (F : Nat → Nat → T) (k to a b : Int) (pa : Option Addr) (n cap : Nat) (f : Nat → T),
  e = .returned (.tuple #[.slice sa m sc, .agg #[.int .i64 k, .int .i64 to, .int .i64 a, .int .i64 b, .slice pa n cap]]) ∧ RdS w' sa m sc ad ln cp F ∧ Rd w' pa n cap f ∧ m ≤ 6 ∧ n ≤ 5 ∧ (∀ i, i < m → ln i ≤ 5) ∧ Below w.heap.size w w'
theorem rds_el {w : World} {lo lo' g c n : Nat} {row : Option Nat} {LS : List Value} (h : w.ownsRow lo 22 1 (.slice (some ⟨g, 0, none⟩) n c) n LS) (hE : ∀ e ∈ LS, El w lo' row e) (hn : n ≤ 100) (off : Nat) (ho : off ≤ n) : ∃ ad ln cp f, RdS w (some ⟨g, off, none⟩) (n - off) (c - off) ad ln cp f ∧ ∀ i, i < n - off → ln i ≤ 5 := by
  have hlen : LS.length = n := by have := h.1; omega
  have each : ∀ i : Nat, ∃ t : (Option Addr × Nat × Nat) × (Nat → T), i < n - off → LS[off + i]? = some (.slice t.1.1 t.1.2.1 t.1.2.2) ∧ Rd w t.1.1 t.1.2.1 t.1.2.2 t.2 ∧ t.1.2.1 ≤ 5 := fun i => by
    by_cases hi : i < n - off
    · have hl : off + i < LS.length := by omega
      obtain ⟨a, m, c', f, e, hr, h5, _⟩ := hE (LS[off + i]) (List.getElem_mem hl)
      exact ⟨((a, m, c'), f), fun _ => ⟨by rw [List.getElem?_eq_getElem hl, e], hr, h5⟩⟩
    · exact ⟨((none, 0, 0), fun _ => ⟨0, ⟨0, 0, 0, 0⟩⟩), fun q => absurd q hi⟩
  obtain ⟨q, hq⟩ := Classical.axiomOfChoice each
  have hc : n ≤ c := by
    rcases h.2 with ⟨e, _⟩ | ⟨g', cap', cur, e, _, _, h4, _⟩
    · cases e
    · cases e; exact h4
  refine ⟨fun i => (q i).1.1, fun i => (q i).1.2.1, fun i => (q i).1.2.2, fun i => (q i).2, ⟨by omega, by omega, .inr ⟨g, off, rfl, (h.lt g rfl).2, fun i hi => ?_⟩, fun i hi => (hq i hi).2.1⟩, fun i hi => (hq i hi).2.2⟩
  rw [h.cellAt (off + i) (by omega), (hq i hi).1]
theorem el_setR {w : World} {lo : Nat} {row : Option Nat} {v : Value} (h : El w lo row v) {R o : Nat} (hR : R < lo) (x : Value) : El (w.setCell ⟨R, o, none⟩ x) lo row v := by
  obtain ⟨a, n, c, f, e, hr, h5, hb⟩ := h
  exact ⟨a, n, c, f, e, hr.setOther (hb.imp id (fun ⟨b, off, e1, q, _⟩ b' off' e2 => by rw [e1] at e2; cases e2; omega)), h5, hb⟩
/-- the state of the draw behind i slots. -/
structure Dq (w : World) (B lo : Nat) (u : World) (i q : Nat) (sv : Value) (LS : List Value) : Prop where
  row : u.ownsRow lo 22 1 sv i LS
  els : ∀ e ∈ LS, El u lo sv.ownBlock e
  rdr : Rdr u B q
  bel : Below w.heap.size w u
  res : u.heap[w.heap.size]? = some (.cells #[.int .i64 0, .int .i64 0, .int .i64 0, .int .i64 0, .slice none 0 0] 24 (0, 0))
  hB : w.heap.size < B
  hlo : B < lo
  hsz : lo ≤ u.heap.size
theorem Dq.on {w u u' : World} {B lo i q q' : Nat} {sv : Value} {LS : List Value} (h : Dq w B lo u i q sv LS) (s : Beside B u u') (r : Rdr u' B q') : Dq w B lo u' i q' sv LS where
  row := owns_beside h.row s h.hlo
  els := fun e he => (h.els e he).beside s h.hlo
  rdr := r
  bel := s.below h.bel (Nat.le_of_lt h.hB) h.bel.size
  res := (s.block _ (Array.getElem?_eq_some_iff.1 h.res).1 (by have := h.hB; omega)).trans h.res
  hB := h.hB
  hlo := h.hlo
  hsz := Nat.le_trans h.hsz s.size
theorem Dq.app {w u u' : World} {B lo i q : Nat} {sv : Value} {LS : List Value} (h : Dq w B lo u i q sv LS) {a : Option Addr} {n c : Nat} {f : Nat → T} (hr : Rd u a n c f) (h5 : n ≤ 5) (ha : n = 0 ∨ ∃ g off, a = some ⟨g, off, none⟩ ∧ lo ≤ g ∧ some g ≠ sv.ownBlock) {g1 cap1 : Nat}
    (hown : u'.ownsRow lo 22 1 (.slice (some ⟨g1, 0, none⟩) (i + 1) cap1) (i + 1) (LS ++ [.slice a n c])) (hg : (u.alloc (.cells #[.slice a n c] 22)).grownBy u' sv.ownBlock) (hat : sv.ownBlock = some g1 ∨ g1 = (u.alloc (.cells #[.slice a n c] 22)).heap.size) : Dq w B lo u' (i + 1) q (.slice (some ⟨g1, 0, none⟩) (i + 1) cap1) (LS ++ [.slice a n c]) := by
  have hlt : ∀ k, sv.ownBlock = some k → lo ≤ k ∧ k < u.heap.size := fun k e => h.row.lt k e
  have hB := h.hB
  have hlo := h.hlo
  have hRl := (Array.getElem?_eq_some_iff.1 h.res).1
  have b1 := bel_one u (.cells #[.slice a n c] 22)
  have goE : ∀ e, El u lo sv.ownBlock e → El u' lo (some g1) e := fun e he => (he.below b1).grown hg hat (Nat.le_refl _)
  exact {
    row := hown
    els := fun e he => by
      rcases List.mem_append.1 he with q | q
      · exact goE e (h.els e q)
      · have : e = .slice a n c := by simpa using q
        subst this
        exact goE _ ⟨a, n, c, f, rfl, hr, h5, ha⟩
    rdr := (h.rdr.alloc _).grown hg (fun k e => by have := hlt k e; omega)
    bel := (bel_next h.bel b1).grown hg (by have := h.bel.size; simp; omega) (fun k e => by have := hlt k e; omega)
    res := (hg.block _ (by simp; omega) (fun e => by have := hlt _ e.symm; omega)).trans ((b1.block _ hRl).trans h.res)
    hB := h.hB
    hlo := h.hlo
    hsz := Nat.le_trans h.hsz (Nat.le_trans b1.size hg.size) }
theorem cut1_run (W : World) (p c : Nat) (hm : 6 ≤ c) : (Instr.slice 38 (.slice (some ⟨p, 0, none⟩) 6 c) (some (.int .i64 1)) none none).run Tryz.prog W = .ok (.slice (some ⟨p, 1, none⟩) 5 (c - 1)) W := by
  have hz : (Go.sizeOf 22).run Tryz.prog W = .ok 1 W := by kernel_rfl
  have hc : ¬ c - 1 = 0 := by omega
  have hc1 : ¬ c = 1 := by omega
  rw [run_slice_l W 38 _ 6 c (by kernel_rfl) .i64 1 (by omega) (by omega)]
  rw [show Tryz.prog.elem 38 = 22 from by kernel_rfl, hz]
  simp [sliced, Result.andThen, hc, hc1, Addr.add]
theorem infoDd : (Tryz.prog.info? 22).map (fun i => (i.zero, i.size, i.bytes)) = some (some (.slice none 0 0), 1, 24) := by kernel_rfl
theorem one_sd (a : Option Addr) (n c : Nat) : ∀ u ∈ [Value.slice a n c], u.oneCell' = true := fun u hu => by
  have : u = .slice a n c := by simpa using hu
  subst this; rfl
theorem bel5 {w u : World} (h : Below w.heap.size w u) (x0 x1 x2 x3 x4 : Value) : Below w.heap.size w (((((u.setCell ⟨w.heap.size, 0, none⟩ x0).setCell ⟨w.heap.size, 1, none⟩ x1).setCell ⟨w.heap.size, 2, none⟩ x2).setCell ⟨w.heap.size, 3, none⟩ x3).setCell ⟨w.heap.size, 4, none⟩ x4) := bel_s5 h (Nat.le_refl _) x0 x1 x2 x3 x4
theorem dd_fin {w u : World} {B lo q : Nat} {g c : Nat} {LS : List Value} (h : Dq w B lo u 6 q (.slice (some ⟨g, 0, none⟩) 6 c) LS) {k to a b : Int} {pa : Option Addr} {n cap : Nat} {f : Nat → T} (hr : Rd u pa n cap f) (h5 : n ≤ 5) (ha : n = 0 ∨ ∃ g off, pa = some ⟨g, off, none⟩ ∧ lo ≤ g) (off : Nat) (ho : off ≤ 6) :
    DdD w (.returned (.tuple #[.slice (some ⟨g, off, none⟩) (6 - off) (c - off), .agg #[.int .i64 k, .int .i64 to, .int .i64 a, .int .i64 b, .slice pa n cap]])) (((((u.setCell ⟨w.heap.size, 0, none⟩ (.int .i64 k)).setCell ⟨w.heap.size, 1, none⟩ (.int .i64 to)).setCell ⟨w.heap.size, 2, none⟩ (.int .i64 a)).setCell ⟨w.heap.size, 3, none⟩ (.int .i64 b)).setCell ⟨w.heap.size, 4, none⟩ (.slice pa n cap)) := by
  have hB := h.hB
  have hlo := h.hlo
  have hw : w.heap.size < lo := by omega
  have nn : n = 0 ∨ ∀ b off, pa = some ⟨b, off, none⟩ → b ≠ w.heap.size := ha.imp id (fun ⟨g, off, e, q⟩ b off' e2 => by rw [e] at e2; cases e2; omega)
  have row := ownsRow_setCell_below (ownsRow_setCell_below (ownsRow_setCell_below (ownsRow_setCell_below (ownsRow_setCell_below h.row (a := ⟨w.heap.size, 0, none⟩) hw (.int .i64 k)) (a := ⟨w.heap.size, 1, none⟩) hw (.int .i64 to)) (a := ⟨w.heap.size, 2, none⟩) hw (.int .i64 a)) (a := ⟨w.heap.size, 3, none⟩) hw (.int .i64 b)) (a := ⟨w.heap.size, 4, none⟩) hw (.slice pa n cap)
  obtain ⟨ad, ln, cp, F, hrd, hln⟩ := rds_el row (fun e he => el_setR (el_setR (el_setR (el_setR (el_setR (h.els e he) hw _) hw _) hw _) hw _) hw _) (by omega) off ho
  exact ⟨_, _, _, ad, ln, cp, F, k, to, a, b, pa, n, cap, f, rfl, hrd, ((((hr.setOther nn).setOther nn).setOther nn).setOther nn).setOther nn, by omega, h5, hln, bel5 h.bel _ _ _ _ _⟩
set_option maxRecDepth 100000 in
set_option maxHeartbeats 8000000 in
theorem drawDskDo (w : World) (a : Option Addr) (len cap : Nat) (h : Src w a len cap) :
    Calls Tryz.prog 36 #[.slice a len cap] w (DdD w) := by
  obtain ⟨i0, hi0, hz0, hz1, hz2⟩ := info_parts infoDd
  have bo := bel_one w (.cells #[.int .i64 0, .int .i64 0, .int .i64 0, .int .i64 0, .slice none 0 0] 24)
  have HH0 := Hid.mk' (heap_alloc_new w (.cells #[.int .i64 0, .int .i64 0, .int .i64 0, .int .i64 0, .slice none 0 0] 24))
  have hO := open_any (w.alloc (.cells #[.int .i64 0, .int .i64 0, .int .i64 0, .int .i64 0, .slice none 0 0] 24)) a len cap (h.below bo)
  have hl0 : w.heap.size < (w.alloc (.cells #[.int .i64 0, .int .i64 0, .int .i64 0, .int .i64 0, .slice none 0 0] 24)).heap.size := by simp
  have HB0 := Hid.mk' bo
  have HOP := Hid.mk' hO
  clear bo h hO
  go_enter Tryz.func36, Tryz.ntmps36
  go_wp2_with fail
  generalize (w.alloc (.cells #[.int .i64 0, .int .i64 0, .int .i64 0, .int .i64 0, .slice none 0 0] 24)) = u0 at *
  refine HOP.out.mono ?_
  rintro e w1 ⟨rfl, hR1, b1⟩
  obtain ⟨B, hB⟩ : ∃ B, B = u0.heap.size := ⟨_, rfl⟩
  rw [← hB] at hR1
  rw [← hB]
  have hwB : w.heap.size < B := by omega
  have hBl : B < w1.heap.size := hR1.lt
  have D0 : Hid (Dq w B w1.heap.size (w1.alloc (.cells #[] 22)) 0 0 (.slice (some ⟨w1.heap.size, 0, none⟩) 0 0) []) := Hid.mk' {
    row := World.ownsRow_lit _ _ _ (Nat.le_refl _) (Nat.zero_le _) rfl
    els := fun e he => absurd he List.not_mem_nil
    rdr := hR1.alloc _
    bel := bel_next (bel_next HB0.out b1) (bel_one w1 _)
    res := by rw [Below.heap_alloc _ _ _ (by omega)]; exact (b1.block _ hl0).trans HH0.out
    hB := hwB
    hlo := hBl
    hsz := by simp }
  obtain ⟨lo, hlo⟩ : ∃ lo, lo = w1.heap.size := ⟨_, rfl⟩
  rw [← hlo] at D0 hBl
  clear hR1 b1 HB0 HOP HH0 hl0 hB
  go_wp2
  rw [← hlo]
  clear hlo
  generalize w1.alloc (.cells #[] 22) = wz at *
  go_loopw [5, 6] (fun sv iv wr => ∃ (i q : Nat) (LS : List Value), i ≤ 6 ∧ iv = .int .i64 (i : Int) ∧ q ≤ 700 * i ∧ Dq w B lo wr i q sv LS) (fun _ iv _ => 6 - (intOf iv).toNat)
  case atStart => exact ⟨0, 0, [], Nat.zero_le _, rfl, Nat.le_refl _, D0.out⟩
  case round =>
    obtain ⟨i, q, LS, hi, rfl, hq, hD⟩ := hrel
    have HD := Hid.mk' hD
    clear hD D0
    by_cases hlt : i < 6
    · have hil : (i : Int) < 6 := by omega
      go_wp2_with fail
      refine (any_any5 _ B q 40 HD.out.rdr (by omega) (by omega) (by omega)).mono ?_
      rintro e w4 ⟨ya, ym, yc, yf, q4, rfl, hrd, hm5, hblk, hq4, hR4, s4⟩
      have hrl := HD.out.rdr.lt
      have H4 := Hid.mk' (HD.out.on s4 hR4)
      have HRD := Hid.mk' hrd
      have hmax : i + 1 ≤ maxLen := by unfold maxLen; omega
      have HAW : Hid (ym = 0 ∨ ∃ g off, ya = some ⟨g, off, none⟩ ∧ lo ≤ g ∧ some g ≠ u5.ownBlock) := Hid.mk' (hblk.imp id (fun ⟨g, off, e, q⟩ => ⟨g, off, e, Nat.le_trans HD.out.hsz q, fun e9 => by have := (HD.out.row.lt g e9.symm).2; omega⟩))
      clear hrd hblk hR4 s4 HD
      go_wp2_with (at_builtin; refine wpList_append_lies _ rfl (.tmp 14) (.tmp 17) 38 rfl lo 22 i0 _ 1 24 Tryz.underlying38 hi0 hz0 hz1 hz2 rfl (by omega) _ i LS rfl (H4.out.row.alloc _) ⟨w4.heap.size, 0, none⟩ 1 1 [.slice ya ym yc] rfl rfl (World.news_of_block (heap_alloc_new w4 _)) (one_sd _ _ _) (by omega) hmax (by omega) (by have := H4.out.hsz; simp; omega) _ rfl ?_; intro g1 cap1 w7 hown2 hgrow2 hat2 hlt2; have H7 := Hid.mk' (H4.out.app HRD.out hm5 HAW.out hown2 hgrow2 hat2); clear hown2 hgrow2 hat2 hlt2)
      go_roundw
      case rel => exact ⟨i + 1, q4, _, by omega, by go_num, by omega, H7.out⟩
      case measure => simp [intOf]; omega
    · obtain rfl : i = 6 := by omega
      obtain ⟨g, cap6, rfl, hc6⟩ : ∃ g cap6, u5 = .slice (some ⟨g, 0, none⟩) 6 cap6 ∧ 6 ≤ cap6 := by
        rcases HD.out.row.2 with ⟨_, h0⟩ | ⟨g, cap6, cur, e, _, _, h4, _⟩
        · omega
        · exact ⟨g, cap6, e, h4⟩
      have hcut := fun W => cut1_run W g cap6 hc6
      go_wp2_with fail
      refine (pick_any _ B q 12 HD.out.rdr (by omega) (by omega) (by omega)).mono ?_
      rintro e w8 ⟨y, rfl, y0, y1, kp⟩
      have H8 := Hid.mk' (HD.out.on kp.beside (kp.rdr HD.out.rdr))
      clear kp HD
      by_cases hy0 : y = 0
      · subst hy0
        go_wp2_with fail
        refine (line_any _ B _ 12 H8.out.rdr (by omega) (by omega) (by omega)).mono ?_
        rintro e w9 ⟨k, to, xa, xb, pa, n, cap', f, q9, rfl, hrd, h5, haw, hq9, hR9, s9⟩
        have H9 := Hid.mk' (H8.out.on s9 hR9)
        have HRD := Hid.mk' hrd
        have HAW : Hid (n = 0 ∨ ∃ g off, pa = some ⟨g, off, none⟩ ∧ lo ≤ g) := Hid.mk' (haw.imp id (fun ⟨g, off, e, q⟩ => ⟨g, off, e, Nat.le_trans H8.out.hsz q⟩))
        clear hrd haw hR9 s9 H8
        obtain ⟨⟨d0, d1, d2, d3, d4⟩, dz⟩ := cells5 H9.out.res
        go_wp2
        refine bodyPost_ret (v := .tuple #[.slice (some ⟨g, 1, none⟩) 5 (cap6 - 1), .agg #[.int .i64 k, .int .i64 to, .int .i64 xa, .int .i64 xb, .slice pa n cap']]) (by simp [results, Tryz.results36, go_sem, *]) rfl ?_
        exact dd_fin H9.out HRD.out h5 HAW.out 1 (by omega)
      · have hyb : (y == 0) = false := beq_eq_false_iff_ne.2 hy0
        go_wp2_with fail
        refine (line_any _ B _ 12 H8.out.rdr (by omega) (by omega) (by omega)).mono ?_
        rintro e w9 ⟨k, to, xa, xb, pa, n, cap', f, q9, rfl, hrd, h5, haw, hq9, hR9, s9⟩
        have H9 := Hid.mk' (H8.out.on s9 hR9)
        have HRD := Hid.mk' hrd
        have HAW : Hid (n = 0 ∨ ∃ g off, pa = some ⟨g, off, none⟩ ∧ lo ≤ g) := Hid.mk' (haw.imp id (fun ⟨g, off, e, q⟩ => ⟨g, off, e, Nat.le_trans H8.out.hsz q⟩))
        clear hrd haw hR9 s9 H8
        obtain ⟨⟨d0, d1, d2, d3, d4⟩, dz⟩ := cells5 H9.out.res
        go_wp2
        refine bodyPost_ret (v := .tuple #[.slice (some ⟨g, 0, none⟩) 6 cap6, .agg #[.int .i64 k, .int .i64 to, .int .i64 xa, .int .i64 xb, .slice pa n cap']]) (by simp [results, Tryz.results36, go_sem, *]) rfl ?_
        exact dd_fin H9.out HRD.out h5 HAW.out 0 (by omega)
end Go.Proofs.YtoglomfejgpoeaaGreatDoor
