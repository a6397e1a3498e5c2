/-
  IdlRest: the program and the model.
-/
import Derived.Test.YtkoaiogakkldgaaGal
import Derived.Test.YtkoaiogakkldgaaGam
import Derived.Deep.AppendLies
namespace Go.Proofs.Ytkoaiogakkldgaa
open Go.RowKit Go.Deep Go.Joins
set_option linter.unusedVariables false
set_option linter.unusedSimpArgs false

/-- an operator as a list. -/
def opL (k : Nat) (g : Nat → T) : List T := (List.range k).map g
theorem opL_len (k : Nat) (g : Nat → T) : (opL k g).length = k := by simp [opL]
theorem opL_at {k : Nat} {g : Nat → T} {i : Nat} (h : i < k) : lf (opL k g) i = g i := by
  unfold lf opL
  rw [List.getD_eq_getElem?_getD]
  simp [h]
theorem opL_rd {w : World} {a : Option Addr} {k c : Nat} {g : Nat → T} (h : Rd w a k c g) : Rd w a (opL k g).length c (lf (opL k g)) := by
  obtain ⟨h1, h2, h3⟩ := h
  rw [opL_len]
  exact ⟨h1, h2, h3.imp id (fun ⟨b, off, e, hlt, hc⟩ => ⟨b, off, e, hlt, fun i hi => by rw [opL_at hi]; exact hc i hi⟩)⟩
/-- whose greatest monomial has neither. -/
def rgood (ln : Nat → Nat) (f : Nat → Nat → T) (i : Nat) : Bool := decide ((ldAt 3 ln f i).m.x = 0 ∧ (ldAt 3 ln f i).m.d = 0)
def rsel (ln : Nat → Nat) (f : Nat → Nat → T) : Nat → List Nat
  | 0 => []
  | j + 1 => if rgood ln f j = true then rsel ln f j ++ [j] else rsel ln f j
theorem rsel_mono (ln : Nat → Nat) (f : Nat → Nat → T) : ∀ n j, j ≤ n → ∀ i, i < (rsel ln f j).length → (rsel ln f n).getD i 0 = (rsel ln f j).getD i 0
  | 0, j, h, i, hi => by
    obtain rfl : j = 0 := by omega
    rfl
  | n + 1, j, h, i, hi => by
    by_cases e : j = n + 1
    · rw [e]
    · have ih := rsel_mono ln f n j (by omega) i hi
      have hl : ∀ n, j ≤ n → (rsel ln f j).length ≤ (rsel ln f n).length := fun n hn => by
        induction n with
        | zero =>
          obtain rfl : j = 0 := by omega
          exact Nat.le_refl _
        | succ n ihn =>
          by_cases e' : j = n + 1
          · rw [e']; exact Nat.le_refl _
          · have := ihn (by omega)
            show (rsel ln f j).length ≤ (if rgood ln f n = true then rsel ln f n ++ [n] else rsel ln f n).length
            split
            · simp; omega
            · exact this
      have hln := hl n (by omega)
      show (if rgood ln f n = true then rsel ln f n ++ [n] else rsel ln f n).getD i 0 = _
      split
      · rw [List.getD_eq_getElem?_getD, List.getElem?_append_left (by omega), ← List.getD_eq_getElem?_getD]
        exact ih
      · exact ih
theorem rsel_le (ln : Nat → Nat) (f : Nat → Nat → T) : ∀ n, (rsel ln f n).length ≤ n ∧ ∀ i, i < (rsel ln f n).length → (rsel ln f n).getD i 0 < n
  | 0 => ⟨Nat.le_refl _, fun i hi => by simp [rsel] at hi⟩
  | n + 1 => by
    have ih := rsel_le ln f n
    show (if rgood ln f n = true then rsel ln f n ++ [n] else rsel ln f n).length ≤ n + 1 ∧ ∀ i, i < (if rgood ln f n = true then rsel ln f n ++ [n] else rsel ln f n).length → (if rgood ln f n = true then rsel ln f n ++ [n] else rsel ln f n).getD i 0 < n + 1
    split
    · refine ⟨by simp; omega, fun i hi => ?_⟩
      by_cases e : i < (rsel ln f n).length
      · rw [List.getD_eq_getElem?_getD, List.getElem?_append_left e, ← List.getD_eq_getElem?_getD]
        have := ih.2 i e
        omega
      · have hi' : i = (rsel ln f n).length := by simp at hi; omega
        subst hi'
        rw [List.getD_eq_getElem?_getD, List.getElem?_append_right (Nat.le_refl _)]
        simp
    · exact ⟨by omega, fun i hi => by have := ih.2 i hi; omega⟩
theorem rsel_new {ln : Nat → Nat} {f : Nat → Nat → T} {n j : Nat} (hj : j < n) (hg : rgood ln f j = true) : (rsel ln f n).getD (rsel ln f j).length 0 = j := by
  have e : rsel ln f (j + 1) = rsel ln f j ++ [j] := if_pos hg
  rw [rsel_mono ln f n (j + 1) (by omega) _ (by rw [e]; simp), e, List.getD_eq_getElem?_getD, List.getElem?_append_right (Nat.le_refl _)]
  simp
/-- what is left of a basis. -/
def rQ (n : Nat) (ln : Nat → Nat) (f : Nat → Nat → T) (i : Nat) : List T := opL (ln ((rsel ln f n).getD i 0)) (f ((rsel ln f n).getD i 0))
def rN (n : Nat) (ln : Nat → Nat) (f : Nat → Nat → T) : Nat := if lstOk n ln f = true then (rsel ln f n).length else 0
theorem rQ_new {n : Nat} {ln : Nat → Nat} {f : Nat → Nat → T} {j : Nat} (hj : j < n) (hg : rgood ln f j = true) : rQ n ln f (rsel ln f j).length = opL (ln j) (f j) := by
  unfold rQ
  rw [rsel_new hj hg]
theorem addr_addR (b o j : Nat) : (⟨b, o, none⟩ : Addr).add j = ⟨b, o + j, none⟩ := by unfold Addr.add; split <;> simp_all
theorem Rd.newsR {w : World} {b off cap : Nat} {L : List T} (h : Rd w (some ⟨b, off, none⟩) L.length cap (lf L)) : ∀ j u, (cellsL L)[j]? = some u → w.cell? ((⟨b, off, none⟩ : Addr).add j) = some u := by
  intro j u hu
  have hj : j < L.length * 5 := by
    rw [← cellsL_length]
    exact (List.getElem?_eq_some_iff.1 hu).1
  rw [cellsL_at L j hj] at hu
  cases hu
  rw [addr_addR]
  rcases h.2.2 with h0 | ⟨b', off', he, _, hc⟩
  · omega
  · cases he
    obtain ⟨c0, c1, c2, c3, c4⟩ := hc (j / 5) (by omega)
    have h5 : j % 5 = 0 ∨ j % 5 = 1 ∨ j % 5 = 2 ∨ j % 5 = 3 ∨ j % 5 = 4 := by omega
    rcases h5 with h | h | h | h | h
    · rw [show j = j / 5 * 5 by omega, cf0]; exact c0
    · rw [show j = j / 5 * 5 + 1 by omega, cf1, ← Nat.add_assoc]; exact c1
    · rw [show j = j / 5 * 5 + 2 by omega, cf2, ← Nat.add_assoc]; exact c2
    · rw [show j = j / 5 * 5 + 3 by omega, cf3, ← Nat.add_assoc]; exact c3
    · rw [show j = j / 5 * 5 + 4 by omega, cf4, ← Nat.add_assoc]; exact c4
/-- a row's first monomial is set. -/
theorem cellsL_one_all : ∀ L : List T, ∀ u ∈ cellsL L, u.oneCell' = true
  | [], u, hu => by simp [cellsL] at hu
  | t :: r, u, hu => by
    rw [show t :: r = [t] ++ r from rfl, cellsL_append] at hu
    rcases List.mem_append.1 hu with h | h
    · exact one_cells t u h
    · exact cellsL_one_all r u h
theorem infoSR : (Try.prog.info? 41).map (fun i => (i.zero, i.size, i.bytes)) = some (some (.slice none 0 0), 1, 24) := by kernel_rfl
/-- an operator that is laid in a new row. -/
theorem owns_empty (w : World) : (w.alloc (.cells #[] 39)).ownsRow w.heap.size 39 5 (.slice (some ⟨w.heap.size, 0, none⟩) 0 0) 0 (cellsL []) :=
  ⟨rfl, .inr ⟨w.heap.size, 0, #[], rfl, Nat.le_refl _, heap_alloc_new w (.cells #[] 39), Nat.le_refl _, Nat.zero_le _, rfl, rfl⟩⟩
set_option maxRecDepth 100000 in
set_option maxHeartbeats 4000000 in
theorem cloneI (w : World) (a : Option Addr) (c : Nat) (L : List T) (h : Rd w a L.length c (lf L)) (h0 : L.length ≠ 0) (hl : L.length ≤ 400) :
    Calls Try.prog 19 #[.slice a L.length c] w fun r w' => ∃ a' c', r = .returned (.slice a' L.length c') ∧ Below w.heap.size w w' ∧ Out w.heap.size w' a' c' L := by
  obtain ⟨i0, hi0, hz0, hz1, hz2⟩ := info_parts infoT
  obtain ⟨b, off, rfl, hb, _⟩ := h.2.2.resolve_left h0
  have hL : (L.length : Int) ≤ 400 := by omega
  have hown := owns_empty w
  have HO := Hid.mk' hown
  have hnews : ∀ j u, (cellsL L)[j]? = some u → (w.alloc (.cells #[] 39)).cell? ((⟨b, off, none⟩ : Addr).add j) = some u := Rd.newsR (h.below (bel_one w _))
  have hone : ∀ u ∈ cellsL L, u.oneCell' = true := cellsL_one_all L
  have hnil : ∀ W : World, (binOp BinOp.eql 41 (Value.slice (some ⟨b, off, none⟩) L.length c) (Value.slice none 0 0)).run Try.prog W = .ok (.bool false) W := fun W => by first | rfl | kernel_rfl | simp [binOp, go_sem]
  clear h
  go_enter Try.func19, Try.ntmps19
  go_wp2_with (at_builtin; refine wpList_append_lies _ rfl (.tmp 5) (.tmp 6) 41 rfl w.heap.size 39 i0 _ 5 40 Try.underlying41 hi0 hz0 hz1 hz2 rfl (by omega) _ 0 (cellsL []) rfl hown ⟨b, off, none⟩ L.length c (cellsL L) rfl (by rw [cellsL_length]) hnews hone (by omega) (by unfold maxLen; omega) (by omega) (by simp) _ rfl ?_; intro g0 cap0 w5 hown1 hgrow hat hlt1; have HB5 := Hid.mk' (((bel_one w (.cells #[] 39))).grown hgrow (by simp) (fun k e => (HO.out.lt k e).1)); have HR := Hid.mk' hown1; clear hown1 hgrow hat hlt1)
  go_ret
  have ho := HR.out
  simp only [Nat.zero_add, show cellsL [] ++ cellsL L = cellsL L from rfl] at ho
  obtain ⟨a', c', e, hO⟩ := out_of_owns ho (by omega)
  exact ⟨a', c', congrArg Ending.returned e, HB5.out, hO⟩
set_option maxRecDepth 100000 in
set_option maxHeartbeats 8000000 in
theorem idlRestI (w : World) (a : Option Addr) (n cap : Nat) (ad0 : Nat → Option Addr) (ln cp0 : Nat → Nat) (f : Nat → Nat → T) (h : RdS w a n cap ad0 ln cp0 f) :
    Calls Try.prog 8 #[.slice a n cap] w fun r w' => ∃ qa qc ad cp R B, r = .returned (.slice qa (rN n ln f) qc) ∧ Below w.heap.size w w' ∧ OutS w.heap.size w' qa (rN n ln f) qc ad (fun i => (rQ n ln f i).length) cp (fun i => lf (rQ n ln f i)) R B := by
  obtain ⟨i0, hi0, hz0, hz1, hz2⟩ := info_parts infoSR
  have HH := Hid.mk' h
  have q1 : (n : Int) ≤ 140737488351232 := by have := h.2.1; omega
  clear h
  cases hl : lstOk n ln f
  · have HE : Hid (rN n ln f = 0) := if_neg (by rw [hl]; simp)
    rw [HE.out]
    go_enter Try.func8, Try.ntmps8
    go_wp2_with fail
    refine (redLeadsI_no _ 3 _ _ _ _ _ _ _ HH.out (by omega) (by omega) hl).mono ?_
    rintro r w1 ⟨rfl, hb1⟩
    have HB1 := Hid.mk' hb1
    clear hb1
    go_wp2
    go_loopw [5, 15] (fun v ii wr => v = .slice none 0 0 ∧ ii = .int .i64 0 ∧ wr = w1) (fun _ _ _ => 0)
    case atStart => exact ⟨rfl, rfl, rfl⟩
    case round =>
      obtain ⟨rfl, rfl, rfl⟩ := hrel
      go_wp2
      go_ret
      exact ⟨none, 0, fun _ => none, fun _ => 0, 0, fun _ => 0, rfl, HB1.out, ⟨⟨Nat.le_refl _, Nat.zero_le _, .inl rfl, fun i hi => absurd hi (Nat.not_lt_zero _)⟩, .inl rfl, fun i hi => absurd hi (Nat.not_lt_zero _), fun i hi => absurd hi (Nat.not_lt_zero _), fun i j _ hj => absurd hj (Nat.not_lt_zero _)⟩⟩
  · have HE : Hid (rN n ln f = (rsel ln f n).length) := if_pos hl
    rw [HE.out]
    have n12 := (lstOk_all hl).1
    have hnl : (n : Int) ≤ 12 := by omega
    have HLO := Hid.mk' (lstOk_all hl).2
    have hrl := (rsel_le ln f n).1
    go_enter Try.func8, Try.ntmps8
    go_wp2_with fail
    refine (redLeadsI _ 3 _ _ _ _ _ _ _ HH.out (by omega) (by omega) hl).mono ?_
    rintro r w1 ⟨v, rfl, hb1, ho1⟩
    obtain ⟨la, lc, rfl, hout⟩ := out_of_owns ho1 (by rw [ldsL_len]; omega)
    have hld := hout.1
    rw [ldsL_len] at hld
    rw [ldsL_len]
    have HLD := Hid.mk' hld
    have HB1 := Hid.mk' hb1
    clear hb1 ho1 hout hld
    go_wp2
    go_loopw [5, 15] (fun tv ii wr => ∃ (j : Nat) (ad : Nat → Option Addr) (cp B : Nat → Nat), j ≤ n ∧ ii = .int .i64 (j : Int) ∧ Below w1.heap.size w1 wr ∧ AnW w1.heap.size wr (rQ n ln f) (rsel ln f j).length tv ad cp B) (fun _ ii _ => n - (intOf ii).toNat)
    case atStart => exact ⟨0, _, _, _, Nat.zero_le _, rfl, Below.refl _ _, AnW.start (Nat.le_refl _) _⟩
    case round =>
      obtain ⟨j, ad, cp, B, hj, rfl, hB, hA⟩ := hrel
      have HB := Hid.mk' hB
      have HA := Hid.mk' hA
      have hjl := (rsel_le ln f j).1
      by_cases hlt : j < n
      · have hjn : (j : Int) < (n : Int) := by omega
        obtain ⟨t, ht⟩ : ∃ t, ldAt 3 ln f j = t := ⟨_, rfl⟩
        obtain ⟨bl, offl, rfl, hbl, hcl⟩ := HLD.out.2.2.resolve_left (by omega)
        have hcj := (hcl j hlt).below hB hbl
        rw [ldsL_at 3 ln f n j hlt, ht] at hcj
        obtain ⟨x0, x1, x2, x3, x4⟩ := hcj
        have HC1 := Hid.mk' (C5.box wr 39 t)
        have HBB := Hid.mk' (bel_next hB (bel_one wr (.cells #[.int .i64 t.c, .int .i64 t.m.x, .int .i64 t.m.y, .int .i64 t.m.d, .int .i64 t.m.e] 39)))
        have HA1 := Hid.mk' (hA.below (bel_one wr (.cells #[.int .i64 t.c, .int .i64 t.m.x, .int .i64 t.m.y, .int .i64 t.m.d, .int .i64 t.m.e] 39)))
        have HT := Hid.mk' ht
        clear hB hA hcl ht
        have hskip : rgood ln f j = false → rsel ln f (j + 1) = rsel ln f j := fun hg => if_neg (by rw [hg]; simp)
        have hg0 : rgood ln f j = decide (t.m.x = 0 ∧ t.m.d = 0) := by unfold rgood; rw [HT.out]
        obtain ⟨y0, y1, y2, y3, y4⟩ := HC1.out
        have hwl : wr.heap.size < (wr.alloc (.cells #[.int .i64 t.c, .int .i64 t.m.x, .int .i64 t.m.y, .int .i64 t.m.d, .int .i64 t.m.e] 39)).heap.size := by simp
        by_cases hx : t.m.x = 0
        · have hxb : (t.m.x == 0) = true := by simpa using hx
          by_cases hd : t.m.d = 0
          · have hdb : (t.m.d == 0) = true := by simpa using hd
            have hgo : rgood ln f j = true := by rw [hg0]; simp [hx, hd]
            have hnx : rsel ln f (j + 1) = rsel ln f j ++ [j] := if_pos hgo
            have hqn := rQ_new hlt hgo
            obtain ⟨hk0, hpk⟩ := HLO.out j hlt
            have hk4 : ln j ≤ 400 := by
              have hp2 := hpk
              simp only [polOk, decide_eq_true_eq] at hp2
              exact hp2.1
            obtain ⟨b1, off1, ea, hb1, hc1⟩ := HH.out.2.2.1.resolve_left (by omega)
            have hbw := bel_next HB1.out HBB.out
            have kc : (wr.alloc (.cells #[.int .i64 t.c, .int .i64 t.m.x, .int .i64 t.m.y, .int .i64 t.m.d, .int .i64 t.m.e] 39)).cell? ⟨b1, off1 + j, none⟩ = some (.slice (ad0 j) (ln j) (cp0 j)) := (hbw.cell (p := ⟨b1, off1 + j, none⟩) hb1).trans (hc1 j hlt)
            have hrd := opL_rd ((HH.out.2.2.2 j hlt).below hbw)
            have hcl := cloneI (wr.alloc (.cells #[.int .i64 t.c, .int .i64 t.m.x, .int .i64 t.m.y, .int .i64 t.m.d, .int .i64 t.m.e] 39)) (ad0 j) (cp0 j) (opL (ln j) (f j)) hrd (by rw [opL_len]; exact hk0) (by rw [opL_len]; exact hk4)
            rw [← hqn] at hcl
            have hle : (rQ n ln f (rsel ln f j).length).length = ln j := by rw [hqn, opL_len]
            rw [hle] at hcl
            have HCLN := Hid.mk' hcl
            have HNX := Hid.mk' hnx
            have HLE := Hid.mk' hle
            subst ea
            clear hrd hcl hnx hqn hgo hg0 hskip hc1 hbw y0 y1 y2 y3 y4 hwl
            simp only [hx, hd] at HBB HA1 HCLN kc
            go_wp2_with fail
            refine HCLN.out.mono ?_
            rintro r w2 ⟨va, vc, rfl, hb2, ho2⟩
            have HB2 := Hid.mk' (bel_next HBB.out hb2)
            have HA2 := Hid.mk' (HA1.out.below hb2)
            have HO2 := Hid.mk' ho2
            have hsz0 : w1.heap.size ≤ wr.heap.size := HB.out.size
            have hsz1 : wr.heap.size + 1 ≤ w2.heap.size := by have := hb2.size; simpa using this
            have HM : Hid (∀ i, i < (rsel ln f j).length → (rQ n ln f i).length ≠ 0 → B i < (wr.alloc (.cells #[.int .i64 t.c, .int .i64 0, .int .i64 t.m.y, .int .i64 0, .int .i64 t.m.e] 39)).heap.size) := fun i hi h0 => by
              rcases (HA.out.el i hi).2.2 with hz | ⟨_, _, _, h3, _⟩
              · exact absurd hz h0
              · simp; omega
            have HMR : Hid (∀ k, u5.ownBlock = some k → k < (wr.alloc (.cells #[.int .i64 t.c, .int .i64 0, .int .i64 t.m.y, .int .i64 0, .int .i64 t.m.e] 39)).heap.size) := fun k hk => by have := (HA.out.row.lt k hk).2; simp; omega
            have hnew := heap_alloc_new w2 (.cells #[.slice va (ln j) vc] 41)
            have HN := Hid.mk' hnew
            have hrow := HA2.out.row.alloc (.cells #[.slice va (ln j) vc] 41)
            have hnews : ∀ jj u, [Value.slice va (ln j) vc][jj]? = some u → (w2.alloc (.cells #[.slice va (ln j) vc] 41)).cell? ((⟨w2.heap.size, 0, none⟩ : Addr).add jj) = some u := World.news_of_block HN.out
            have hone : ∀ u ∈ [Value.slice va (ln j) vc], u.oneCell' = true := fun u hu => by
              have : u = .slice va (ln j) vc := by simpa using hu
              subst this; rfl
            have hbase : w1.heap.size ≤ (w2.alloc (.cells #[.slice va (ln j) vc] 41)).heap.size := by simp; omega
            have hmax : (rsel ln f j).length + 1 ≤ maxLen := by unfold maxLen; omega
            have hlm : w1.heap.size ≤ (wr.alloc (.cells #[.int .i64 t.c, .int .i64 0, .int .i64 t.m.y, .int .i64 0, .int .i64 t.m.e] 39)).heap.size := by simp; omega
            have HRND : Hid (∀ (g0 cap0 : Nat) (w5 : World), w5.ownsRow w1.heap.size 41 1 (.slice (some ⟨g0, 0, none⟩) ((rsel ln f j).length + 1) cap0) ((rsel ln f j).length + 1) (slL ad (fun i => (rQ n ln f i).length) cp (rsel ln f j).length ++ [.slice va (ln j) vc]) → (w2.alloc (.cells #[.slice va (ln j) vc] 41)).grownBy w5 u5.ownBlock → (u5.ownBlock = some g0 ∨ g0 = (w2.alloc (.cells #[.slice va (ln j) vc] 41)).heap.size) → g0 < w5.heap.size → ∃ ad' cp' B', AnW w1.heap.size w5 (rQ n ln f) (rsel ln f (j + 1)).length (.slice (some ⟨g0, 0, none⟩) ((rsel ln f j).length + 1) cap0) ad' cp' B') := fun g0 cap0 w5 h1 h2 h3 h4 => by
              rw [HNX.out, List.length_append]
              refine ⟨_, _, _, HA2.out.round (m := (wr.alloc (.cells #[.int .i64 t.c, .int .i64 0, .int .i64 t.m.y, .int .i64 0, .int .i64 t.m.e] 39)).heap.size) HM.out HMR.out hlm (a := va) (c := vc) HO2.out ?_ ?_ (h3.imp id (fun e => e.trans (by simp))) h4⟩
              · rw [HLE.out]; exact h2
              · rw [HLE.out]; exact h1
            clear hb2 ho2 hnew HCLN kc
            go_wp2_with (at_builtin; refine wpList_append_lies _ rfl (.tmp 30) (.tmp 36) 24 rfl w1.heap.size 41 i0 _ 1 24 Try.underlying24 hi0 hz0 hz1 hz2 rfl (by omega) _ (rsel ln f j).length (slL ad (fun i => (rQ n ln f i).length) cp (rsel ln f j).length) rfl hrow ⟨w2.heap.size, 0, none⟩ 1 1 [.slice va (ln j) vc] rfl rfl hnews hone (by omega) hmax (by omega) hbase _ rfl ?_; intro g0 cap0 w5 hown1 hgrow hat hlt1; have HR := Hid.mk' (HRND.out g0 cap0 w5 hown1 hgrow hat hlt1); have HB5 := Hid.mk' ((HB2.out.alloc HB2.out.size _).grown hgrow hbase (fun k e => (HA2.out.row.lt k e).1)); clear hown1 hgrow hat hlt1 hrow)
            obtain ⟨ad', cp', B', hA5⟩ := HR.out
            go_roundw
            case rel => exact ⟨j + 1, ad', cp', B', by omega, by go_num, HB5.out, hA5⟩
            case measure => simp [intOf]; omega
          · have hdb : (t.m.d == 0) = false := by simpa using hd
            have HNX := Hid.mk' (hskip (by rw [hg0]; simp [hd]))
            clear hskip hg0 y0 y1 y2 y3 y4 hwl
            simp only [hx] at HBB HA1
            go_wp2
            go_roundw
            case rel => exact ⟨j + 1, ad, cp, B, by omega, by go_num, HBB.out, by rw [HNX.out]; exact HA1.out⟩
            case measure => simp [intOf]; omega
        · have hxb : (t.m.x == 0) = false := by simpa using hx
          have HNX := Hid.mk' (hskip (by rw [hg0]; simp [hx]))
          clear hskip hg0 y0 y1 y2 y3 y4 hwl
          go_wp2
          go_roundw
          case rel => exact ⟨j + 1, ad, cp, B, by omega, by go_num, HBB.out, by rw [HNX.out]; exact HA1.out⟩
          case measure => simp [intOf]; omega
      · have hjn : ¬ (j : Int) < (n : Int) := by omega
        have hje : j = n := by omega
        subst hje
        obtain ⟨qa, qc, R, etv, hO⟩ := hA.out (by omega)
        subst etv
        have HO := Hid.mk' hO
        have hsw : w.heap.size ≤ w1.heap.size := HB1.out.size
        clear hB hA hO
        go_wp2
        refine bodyPost_ret (results_tmp rfl _ _ _) rfl ?_
        first
          | exact ⟨qa, qc, ad, cp, R, B, rfl, bel_next HB1.out HB.out, ⟨HO.out.rd, HO.out.row.imp id (fun ⟨off, e, h1⟩ => ⟨off, e, by omega⟩), HO.out.wr, fun i hi => (HO.out.el i hi).imp id (fun ⟨off, e, h1, h2⟩ => ⟨off, e, by omega, h2⟩), HO.out.ap⟩⟩
          | exact ⟨qa, qc, rfl, bel_next HB1.out HB.out, ad, cp, R, B, ⟨HO.out.rd, HO.out.row.imp id (fun ⟨off, e, h1⟩ => ⟨off, e, by omega⟩), HO.out.wr, fun i hi => (HO.out.el i hi).imp id (fun ⟨off, e, h1, h2⟩ => ⟨off, e, by omega, h2⟩), HO.out.ap⟩⟩
end Go.Proofs.Ytkoaiogakkldgaa
