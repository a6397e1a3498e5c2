/-
  IdlRest: the model.
-/
import Derived.Test.YtkoaiogakkldgaaIrO
namespace Go.Proofs.Ytkoaiogakkldgaa
open Go.RowKit Go.Deep Go.Joins
set_option linter.unusedVariables false
set_option linter.unusedSimpArgs false

theorem one_slice (a : Option Addr) (n c : Nat) : ∀ u ∈ [Value.slice a n c], u.oneCell' = true := fun u hu => by
  have : u = .slice a n c := by simpa using hu
  subst this; rfl
theorem leadFromLt {o : Int} {f : Nat → T} : ∀ u i k n, k < n → i + u ≤ n → leadFrom o f u i k < n
  | 0, _, _, _, h, _ => h
  | u + 1, i, k, n, h, h2 => by
    unfold leadFrom
    split
    · exact leadFromLt u (i + 1) i n (by omega) (by omega)
    · exact leadFromLt u (i + 1) k n h (by omega)
theorem leadLt {o : Int} {f : Nat → T} {n : Nat} (h : 0 < n) : leadAt o f n < n := leadFromLt (n - 1) 1 0 n h (by omega)
theorem ldAt_okR {ln : Nat → Nat} {f : Nat → Nat → T} {j : Nat} {t : T} (hp : polOk (ln j) (f j) = true) (h0 : ln j ≠ 0) (ht : ldAt 3 ln f j = t) : 0 ≤ t.m.x ∧ t.m.x ≤ 15 ∧ 0 ≤ t.m.d ∧ t.m.d ≤ 15 := by
  have hlt : leadAt 3 (f j) (ln j) < ln j := leadLt (by omega)
  have := M.ok_iff.1 ((fl_of_ok hp).2 _ hlt).1
  rw [← ht]
  exact ⟨this.1, this.2.1, this.2.2.2.2.1, this.2.2.2.2.2.1⟩
set_option maxRecDepth 100000 in
set_option maxHeartbeats 8000000 in
theorem idlRestS (w : World) (a : Option Addr) (n cap : Nat) (ad0 : Nat → Option Addr) (ln cp0 : Nat → Nat) (f : Nat → Nat → T) (h : RdS w a n cap ad0 ln cp0 f) :
    Calls Try.prog 6 #[.slice a n cap] w fun r w' => ∃ qa qc ad cp, r = .returned (.slice qa (rN n ln f) qc) ∧ Below w.heap.size w w' ∧ RdS w' qa (rN n ln f) qc ad (fun i => (rQ n ln f i).length) cp (fun i => lf (rQ n ln f i)) := by
  obtain ⟨i0, hi0, hz0, hz1, hz2⟩ := info_parts infoSR
  obtain ⟨i1, hi1, hy0, hy1, hy2⟩ := info_parts infoT
  have HH := Hid.mk' h
  have q1 : (n : Int) ≤ 140737488351232 := by have := h.2.1; omega
  have hq0 : AnW w.heap.size (w.alloc (.cells #[] 41)) (rQ n ln f) 0 (.slice (some ⟨w.heap.size, 0, none⟩) 0 0) (fun _ => none) (fun _ => 0) (fun _ => 0) :=
    ⟨⟨rfl, .inr ⟨w.heap.size, 0, #[], rfl, Nat.le_refl _, heap_alloc_new w (.cells #[] 41), Nat.le_refl _, Nat.zero_le _, rfl, rfl⟩⟩, fun i hi => by omega, fun i k _ hk => by omega, by simp⟩
  have HQ0 := Hid.mk' hq0
  clear h hq0
  cases hl : lstOk n ln f
  · have HE : Hid (rN n ln f = 0) := if_neg (by rw [hl]; simp)
    have hn0 : n ≠ 0 := fun e => by
      subst e
      have : lstOk 0 ln f = true := decide_eq_true ⟨by omega, fun i hi => by omega⟩
      rw [this] at hl; cases hl
    have hn0' : (0 : Int) < (n : Int) := by omega
    rw [HE.out]
    go_enter Try.func6, Try.ntmps6
    go_wp2
    go_loopw [3, 4] (fun v ii wr => v = .slice (some ⟨w.heap.size, 0, none⟩) 0 0 ∧ ii = .int .i64 0 ∧ wr = w.alloc (.cells #[] 41)) (fun _ _ _ => 0)
    case atStart => exact ⟨rfl, rfl, rfl⟩
    case round =>
      obtain ⟨rfl, rfl, rfl⟩ := hrel
      go_wp2_with fail
      refine (lstOkS _ _ _ _ _ _ _ _ (HH.out.below (bel_one _ _))).mono ?_
      rw [hl]
      rintro r w1 ⟨rfl, hb1⟩
      have HB1 := Hid.mk' (bel_next (bel_one w (.cells #[] 41)) hb1)
      clear hb1
      go_wp2
      go_ret
      exact ⟨_, 0, fun _ => none, fun _ => 0, rfl, HB1.out, ⟨Nat.le_refl _, Nat.zero_le _, .inl rfl, fun i hi => absurd hi (Nat.not_lt_zero _)⟩⟩
  · have HE : Hid (rN n ln f = (rsel ln f n).length) := if_pos hl
    rw [HE.out]
    have n12 := (lstOk_all hl).1
    have hnl : (n : Int) ≤ 12 := by omega
    have HLO := Hid.mk' (lstOk_all hl).2
    have hrl := (rsel_le ln f n).1
    go_enter Try.func6, Try.ntmps6
    go_wp2
    go_loopw [3, 4] (fun tv ii wr => ∃ (j : Nat) (ad : Nat → Option Addr) (cp B : Nat → Nat), j ≤ n ∧ ii = .int .i64 (j : Int) ∧ Below w.heap.size w wr ∧ AnW w.heap.size wr (rQ n ln f) (rsel ln f j).length tv ad cp B) (fun _ ii _ => n - (intOf ii).toNat)
    case atStart => exact ⟨0, _, _, _, Nat.zero_le _, rfl, bel_one _ _, HQ0.out⟩
    case round =>
      obtain ⟨j, ad, cp, B, hj, rfl, hB, hA⟩ := hrel
      have HB := Hid.mk' hB
      have HA := Hid.mk' hA
      have hjl := (rsel_le ln f j).1
      by_cases hlt : j < n
      · have hjn : (j : Int) < (n : Int) := by omega
        obtain ⟨t, ht⟩ : ∃ t, ldAt 3 ln f j = t := ⟨_, rfl⟩
        have HT := Hid.mk' ht
        obtain ⟨hk0, hpk⟩ := HLO.out j hlt
        have hk4 : ln j ≤ 400 := by
          have hp2 := hpk
          simp only [polOk, decide_eq_true_eq] at hp2
          exact hp2.1
        have htg := ldAt_okR hpk hk0 ht
        obtain ⟨b1, off1, ea, hb1, hc1⟩ := HH.out.2.2.1.resolve_left (by omega)
        have HC1 := Hid.mk' (hc1 j hlt)
        have hlead : ∀ W : World, RdS W a n cap ad0 ln cp0 f → Calls Try.prog 16 #[.int .i64 3, .slice (ad0 j) (ln j) (cp0 j)] W fun r w' => r = .returned (.agg #[.int .i64 t.c, .int .i64 t.m.x, .int .i64 t.m.y, .int .i64 t.m.d, .int .i64 t.m.e]) ∧ Below W.heap.size W w' := fun W hW => by
          have := l3LeadS W 3 (ad0 j) (ln j) (cp0 j) (f j) (hW.2.2.2 j hlt) (by omega) (fun i hi => ((fl_of_ok hpk).2 i hi).1)
          rw [show f j (leadAt 3 (f j) (ln j)) = t from ht] at this
          exact this
        have HLE := Hid.mk' hlead
        subst ea
        clear hA hB ht hlead hc1 hpk
        go_wp2_with fail
        refine (lstOkS _ _ _ _ _ _ _ _ (HH.out.below HB.out)).mono ?_
        rw [hl]
        rintro r w1 ⟨rfl, hb⟩
        have HB1 := Hid.mk' (bel_next HB.out hb)
        have HA1 := Hid.mk' (HA.out.below hb)
        have kc : w1.cell? ⟨b1, off1 + j, none⟩ = some (.slice (ad0 j) (ln j) (cp0 j)) := (HB1.out.cell (p := ⟨b1, off1 + j, none⟩) hb1).trans HC1.out
        have hs1 : wr.heap.size ≤ w1.heap.size := hb.size
        clear hb
        go_wp2_with fail
        refine (HLE.out w1 (HH.out.below HB1.out)).mono ?_
        rintro r w2 ⟨rfl, hb⟩
        have hs2 : w1.heap.size ≤ w2.heap.size := hb.size
        have HB2 := Hid.mk' (bel_next (bel_next HB1.out hb) (bel_one w2 (.cells #[.int .i64 t.c, .int .i64 t.m.x, .int .i64 t.m.y, .int .i64 t.m.d, .int .i64 t.m.e] 39)))
        have HA2 := Hid.mk' ((HA1.out.below hb).below (bel_one w2 (.cells #[.int .i64 t.c, .int .i64 t.m.x, .int .i64 t.m.y, .int .i64 t.m.d, .int .i64 t.m.e] 39)))
        have kc2 : w2.cell? ⟨b1, off1 + j, none⟩ = some (.slice (ad0 j) (ln j) (cp0 j)) := ((bel_next HB1.out hb).cell (p := ⟨b1, off1 + j, none⟩) hb1).trans HC1.out
        have hbw2 : b1 < w2.heap.size := World.block_lt_of_cell? w2 _ kc2
        obtain ⟨y0, y1, y2, y3, y4⟩ := C5.box w2 39 t
        clear hb HLE HB1 HA1 kc
        have hskip : rgood ln f j = false → rsel ln f (j + 1) = rsel ln f j := fun hg => if_neg (by rw [hg]; simp)
        have hg0 : rgood ln f j = decide (t.m.x = 0 ∧ t.m.d = 0) := by unfold rgood; rw [HT.out]
        obtain ⟨tx0, tx1, td0, td1⟩ := htg
        by_cases hs : t.m.x + t.m.d = 0
        · have hsb : (t.m.x + t.m.d == 0) = true := by simpa using hs
          have hgo : rgood ln f j = true := by rw [hg0]; simp; omega
          have hnx : rsel ln f (j + 1) = rsel ln f j ++ [j] := if_pos hgo
          have hqn := rQ_new hlt hgo
          have hle : (rQ n ln f (rsel ln f j).length).length = ln j := by rw [hqn, opL_len]
          have HNX := Hid.mk' hnx
          have HLN := Hid.mk' hle
          have HQN := Hid.mk' hqn
          have hrd : Rd (w2.alloc (.cells #[.int .i64 t.c, .int .i64 t.m.x, .int .i64 t.m.y, .int .i64 t.m.d, .int .i64 t.m.e] 39)) (ad0 j) (opL (ln j) (f j)).length (cp0 j) (lf (opL (ln j) (f j))) := opL_rd ((HH.out.below HB2.out).2.2.2 j hlt)
          clear hnx hqn hle hgo hg0 hskip y0 y1 y2 y3 y4
          obtain ⟨b2, off2, e2, hb2, _⟩ := hrd.2.2.resolve_left (by rw [opL_len]; exact hk0)
          rw [e2] at kc2 hrd
          have hown4 := owns_empty (w2.alloc (.cells #[.int .i64 t.c, .int .i64 t.m.x, .int .i64 t.m.y, .int .i64 t.m.d, .int .i64 t.m.e] 39))
          rw [World.size_alloc] at hown4
          have HO4 := Hid.mk' hown4
          have hnews : ∀ jj u, (cellsL (opL (ln j) (f j)))[jj]? = some u → ((w2.alloc (.cells #[.int .i64 t.c, .int .i64 t.m.x, .int .i64 t.m.y, .int .i64 t.m.d, .int .i64 t.m.e] 39)).alloc (.cells #[] 39)).cell? ((⟨b2, off2, none⟩ : Addr).add jj) = some u := Rd.newsR (hrd.below (bel_one _ _))
          have hone := cellsL_one_all (opL (ln j) (f j))
          have hlen : (cellsL (opL (ln j) (f j))).length = ln j * 5 := by rw [cellsL_length, opL_len]
          have HIN : Hid (∀ (g0 cap0 : Nat) (w5 : World), w5.ownsRow (w2.heap.size + 1) 39 5 (.slice (some ⟨g0, 0, none⟩) (0 + ln j) cap0) (0 + ln j) (cellsL [] ++ cellsL (opL (ln j) (f j))) → ((w2.alloc (.cells #[.int .i64 t.c, .int .i64 t.m.x, .int .i64 t.m.y, .int .i64 t.m.d, .int .i64 t.m.e] 39)).alloc (.cells #[] 39)).grownBy w5 (Value.slice (some ⟨w2.heap.size + 1, 0, none⟩) 0 0).ownBlock → Below w.heap.size w w5 ∧ AnW w.heap.size w5 (rQ n ln f) (rsel ln f j).length u3 ad cp B ∧ Out (w2.heap.size + 1) w5 (some ⟨g0, 0, none⟩) cap0 (rQ n ln f (rsel ln f j).length) ∧ w2.heap.size + 1 ≤ w5.heap.size) := fun g0 cap0 w5 h1 h2 => by
            have hb3 : Below (w2.alloc (.cells #[.int .i64 t.c, .int .i64 t.m.x, .int .i64 t.m.y, .int .i64 t.m.d, .int .i64 t.m.e] 39)).heap.size (w2.alloc (.cells #[.int .i64 t.c, .int .i64 t.m.x, .int .i64 t.m.y, .int .i64 t.m.d, .int .i64 t.m.e] 39)) w5 := (bel_one (w2.alloc (.cells #[.int .i64 t.c, .int .i64 t.m.x, .int .i64 t.m.y, .int .i64 t.m.d, .int .i64 t.m.e] 39)) (.cells #[] 39)).grown h2 (by simp) (fun k e => by
              have : w2.heap.size + 1 = k := by simpa [Value.ownBlock] using e
              simp; omega)
            have ho := h1
            simp only [Nat.zero_add, show cellsL [] ++ cellsL (opL (ln j) (f j)) = cellsL (opL (ln j) (f j)) from rfl] at ho
            have ho' : w5.ownsRow (w2.heap.size + 1) 39 5 (.slice (some ⟨g0, 0, none⟩) (opL (ln j) (f j)).length cap0) (opL (ln j) (f j)).length (cellsL (opL (ln j) (f j))) := by rw [opL_len]; exact ho
            obtain ⟨a', c', e, hO⟩ := out_of_owns ho' (by rw [opL_len]; omega)
            obtain ⟨e3, e4⟩ : some ⟨g0, 0, none⟩ = a' ∧ cap0 = c' := by simpa using e
            subst e3 e4
            refine ⟨bel_next HB2.out hb3, HA2.out.below hb3, ?_, by have := hb3.size; simpa using this⟩
            rw [HQN.out]; exact hO
          have hsw : w.heap.size ≤ w2.heap.size := by have := HB2.out.size; have := HB.out.size; omega
          have HM : Hid (∀ i, i < (rsel ln f j).length → (rQ n ln f i).length ≠ 0 → B i < w2.heap.size + 1) := fun i hi h0 => by
            rcases (HA.out.el i hi).2.2 with hz | ⟨_, _, _, h3, _⟩
            · exact absurd hz h0
            · omega
          have HMR : Hid (∀ k, u3.ownBlock = some k → k < w2.heap.size + 1) := fun k hk => by have := (HA.out.row.lt k hk).2; omega
          have hmax : (rsel ln f j).length + 1 ≤ maxLen := by unfold maxLen; omega
          have HRND : Hid (∀ (va : Option Addr) (vc g0 cap0 : Nat) (w2' w5 : World), AnW w.heap.size w2' (rQ n ln f) (rsel ln f j).length u3 ad cp B → Out (w2.heap.size + 1) w2' va vc (rQ n ln f (rsel ln f j).length) → w5.ownsRow w.heap.size 41 1 (.slice (some ⟨g0, 0, none⟩) ((rsel ln f j).length + 1) cap0) ((rsel ln f j).length + 1) (slL ad (fun i => (rQ n ln f i).length) cp (rsel ln f j).length ++ [.slice va (ln j) vc]) → (w2'.alloc (.cells #[.slice va (ln j) vc] 41)).grownBy w5 u3.ownBlock → (u3.ownBlock = some g0 ∨ g0 = (w2'.alloc (.cells #[.slice va (ln j) vc] 41)).heap.size) → g0 < w5.heap.size → ∃ ad' cp' B', AnW w.heap.size w5 (rQ n ln f) (rsel ln f (j + 1)).length (.slice (some ⟨g0, 0, none⟩) ((rsel ln f j).length + 1) cap0) ad' cp' B') := fun va vc g0 cap0 w2' w5 h00 h0 h1 h2 h3 h4 => by
            rw [HNX.out, List.length_append]
            refine ⟨_, _, _, h00.round (m := w2.heap.size + 1) HM.out HMR.out (by omega) (a := va) (c := vc) h0 ?_ ?_ (h3.imp id (fun e => e.trans (by simp))) h4⟩
            · rw [HLN.out]; exact h2
            · rw [HLN.out]; exact h1
          clear hrd HA2 HB2 HQN hs
          go_wp2_with (first
            | (at_builtin; refine wpList_append_lies _ rfl (.tmp 31) (.tmp 35) 41 rfl (w2.heap.size + 1) 39 i1 _ 5 40 Try.underlying41 hi1 hy0 hy1 hy2 rfl (by omega) _ 0 (cellsL []) rfl hown4 ⟨b2, off2, none⟩ (ln j) (cp0 j) (cellsL (opL (ln j) (f j))) rfl hlen hnews hone (by omega) (by unfold maxLen; omega) (by omega) (by simp) _ rfl ?_; intro g0 cap0 w5 hown1 hgrow hat hlt1; obtain ⟨f1, f2, f3, f4⟩ := HIN.out g0 cap0 w5 hown1 hgrow; have HF1 := Hid.mk' f1; have HF2 := Hid.mk' f2; have HF3 := Hid.mk' f3; clear hown1 hgrow hat hlt1 f1 f2 f3)
            | (at_builtin; refine wpList_append_lies _ rfl (.tmp 30) (.tmp 37) 24 rfl w.heap.size 41 i0 _ 1 24 Try.underlying24 hi0 hz0 hz1 hz2 rfl (by omega) _ (rsel ln f j).length (slL ad (fun i => (rQ n ln f i).length) cp (rsel ln f j).length) rfl (HF2.out.row.alloc _) ⟨w5.heap.size, 0, none⟩ 1 1 [.slice (some ⟨g0, 0, none⟩) (ln j) cap0] rfl rfl (World.news_of_block (heap_alloc_new w5 _)) (one_slice _ _ _) (by omega) hmax (by omega) (by simp; omega) _ rfl ?_; intro g1 cap1 w7 hown2 hgrow2 hat2 hlt2; have HR := Hid.mk' (HRND.out _ _ g1 cap1 w5 w7 HF2.out HF3.out hown2 hgrow2 hat2 hlt2); have HB7 := Hid.mk' ((HF1.out.alloc HF1.out.size _).grown hgrow2 (by simp; omega) (fun k e => (HF2.out.row.lt k e).1)); clear hown2 hgrow2 hat2 hlt2))
          obtain ⟨ad', cp', B', hA7⟩ := HR.out
          go_roundw
          case rel => exact ⟨j + 1, ad', cp', B', by omega, by go_num, HB7.out, hA7⟩
          case measure => simp [intOf]; omega
        · have hsb : (t.m.x + t.m.d == 0) = false := by simpa using hs
          have HNX := Hid.mk' (hskip (by rw [hg0]; simp; omega))
          clear hskip hg0
          go_wp2
          go_roundw
          case rel => exact ⟨j + 1, ad, cp, B, by omega, by go_num, HB2.out, by rw [HNX.out]; exact HA2.out⟩
          case measure => simp [intOf]; omega
      · have hjn : ¬ (j : Int) < (n : Int) := by omega
        have hje : j = n := by omega
        subst hje
        obtain ⟨qa, qc, R, etv, hO⟩ := hA.out (by omega)
        subst etv
        have HO := Hid.mk' hO.rd
        clear hB hA hO
        go_wp2
        refine bodyPost_ret (results_tmp rfl _ _ _) rfl ?_
        first
          | exact ⟨qa, qc, ad, cp, rfl, HB.out, HO.out⟩
          | exact ⟨qa, qc, rfl, HB.out, ad, cp, HO.out⟩
end Go.Proofs.Ytkoaiogakkldgaa
