/-
  Rows of proofs in the model: l9Row, l9Less.
  Slices of slices of slices of terms, and bases: how they are read, copied, counted and held against each other.
  How what is left of a pair is made of those that were given: the model's l9Made.
-/
import Derived.Test.YtdidlcjhodejjaaGreatSbq
import Derived.Test.YtdidlcjhodejjaaGreatSbk
import Derived.Test.YtdidlcjhodejjaaGreatSba
import Derived.Test.YtdidlcjhodejjaaGreatSaz
namespace Go.Proofs.YtdidlcjhodejjaaGreat
open Go.RowKit Go.Deep Go.Joins
set_option linter.unusedVariables false

theorem infoSL : (Tryz.prog.info? 45).map (fun i => (i.zero, i.size, i.bytes)) = some (some (.slice none 0 0), 1, 24) := by kernel_rfl
theorem one_sl (a : Option Addr) (n c : Nat) : ∀ u ∈ [Value.slice a n c], u.oneCell' = true := fun u hu => by
  have : u = .slice a n c := by simpa using hu
  subst this; rfl
theorem AnW.congr {lo : Nat} {w : World} {q q' : Nat → List T} {j : Nat} {tv : Value} {ad : Nat → Option Addr} {cp B : Nat → Nat} (h : AnW lo w q j tv ad cp B) (he : ∀ i, i < j → q i = q' i) : AnW lo w q' j tv ad cp B where
  row := by
    have e : slL ad (fun i => (q i).length) cp j = slL ad (fun i => (q' i).length) cp j := by
      unfold slL
      refine List.map_congr_left (fun i hi => ?_)
      show Value.slice (ad i) (q i).length (cp i) = Value.slice (ad i) (q' i).length (cp i)
      rw [he i (List.mem_range.1 hi)]
    rw [← e]; exact h.row
  el := fun i hi => by rw [← he i hi]; exact h.el i hi
  ap := fun i k h1 h2 => by rw [← he i (by omega), ← he k h2]; exact h.ap i k h1 h2
  lo := h.lo
theorem AnW.empty (w : World) (q : Nat → List T) : AnW w.heap.size (w.alloc (.cells #[] 45)) q 0 (.slice (some ⟨w.heap.size, 0, none⟩) 0 0) (fun _ => none) (fun _ => 0) (fun _ => 0) :=
  ⟨⟨rfl, .inr ⟨w.heap.size, 0, #[], rfl, Nat.le_refl _, heap_alloc_new w (.cells #[] 45), Nat.le_refl _, Nat.zero_le _, rfl, rfl⟩⟩, fun i hi => by omega, fun i k _ hk => by omega, by simp⟩
/-- one more is put behind, whatever is appended. -/
theorem AnW.more {lo : Nat} {w0 w1 w5 : World} {q : Nat → List T} {j : Nat} {tv : Value} {ad : Nat → Option Addr} {cp B : Nat → Nat} (h0 : AnW lo w0 q j tv ad cp B) (h : AnW lo w1 q j tv ad cp B)
    {a : Option Addr} {c : Nat} (ho : Out w0.heap.size w1 a c (q j)) {g0 cap0 : Nat} (hgrow : (w1.alloc (.cells #[.slice a (q j).length c] 45)).grownBy w5 tv.ownBlock)
    (hown : w5.ownsRow lo 45 1 (.slice (some ⟨g0, 0, none⟩) (j + 1) cap0) (j + 1) (slL ad (fun i => (q i).length) cp j ++ [.slice a (q j).length c])) (hat : tv.ownBlock = some g0 ∨ g0 = (w1.alloc (.cells #[.slice a (q j).length c] 45)).heap.size) (hlt : g0 < w5.heap.size) :
    ∃ ad' cp' B', AnW lo w5 q (j + 1) (.slice (some ⟨g0, 0, none⟩) (j + 1) cap0) ad' cp' B' :=
  ⟨_, _, _, h.round (m := w0.heap.size) (fun i hi h1 => by
      rcases (h0.el i hi).2.2 with hz | ⟨_, _, _, h3, _⟩
      · exact absurd hz h1
      · exact h3) (fun k hk => (h0.row.lt k hk).2) h0.lo ho hgrow hown (hat.imp id (fun e => e.trans (by simp))) hlt⟩
def rowK (k : Int) (i : Nat) : List T := if (i : Int) = k then [⟨1, ⟨0, 0, 0, 0⟩⟩] else []
def RowP (w : World) (n : Nat) (q : Nat → List T) (r : Ending) (w' : World) : Prop := ∃ ra rc ad cp Rb B, r = .returned (.slice ra n rc) ∧ Below w.heap.size w w' ∧ OutS w.heap.size w' ra n rc ad (fun i => (q i).length) cp (fun i => lf (q i)) Rb B
set_option maxRecDepth 100000 in
set_option maxHeartbeats 8000000 in
theorem l9RowS (w : World) (n : Nat) (k : Int) (hn : n ≤ 12) : Calls Tryz.prog 96 #[.int .i64 (n : Int), .int .i64 k] w (RowP w n (rowK k)) := by
  obtain ⟨i0, hi0, hz0, hz1, hz2⟩ := info_parts infoSL
  have hnl : (n : Int) ≤ 12 := by omega
  have HQ0 := Hid.mk' (AnW.empty w (rowK k))
  have HB0 := Hid.mk' (bel_one w (.cells #[] 45))
  go_enter Tryz.func96, Tryz.ntmps96
  go_wp2
  go_loopw [5, 6] (fun tv ii wr => ∃ (j : Nat) (ad : Nat → Option Addr) (cp B : Nat → Nat), j ≤ n ∧ ii = .int .i64 (j : Int) ∧ Below w.heap.size w wr ∧ AnW w.heap.size wr (rowK k) j tv ad cp B) (fun _ ii _ => n - (intOf ii).toNat)
  case atStart => exact ⟨0, _, _, _, Nat.zero_le _, rfl, HB0.out, HQ0.out⟩
  case round =>
    obtain ⟨j, ad, cp, B, hj, rfl, hB, hA⟩ := hrel
    have HB := Hid.mk' hB
    have HA := Hid.mk' hA
    by_cases hlt : j < n
    · have hjl : (j : Int) < (n : Int) := by omega
      have hmax : j + 1 ≤ maxLen := by unfold maxLen; omega
      by_cases hjk : (j : Int) = k
      · have hjb : ((j : Int) == k) = true := by simpa using hjk
        have hq : rowK k j = [⟨1, ⟨0, 0, 0, 0⟩⟩] := if_pos hjk
        have b1 := bel_one wr (.cells #[.int .i64 1, .int .i64 0, .int .i64 0, .int .i64 0, .int .i64 0] 42)
        have hA1 := hA.below b1
        have hO1 : Out wr.heap.size (wr.alloc (.cells #[.int .i64 1, .int .i64 0, .int .i64 0, .int .i64 0, .int .i64 0] 42)) (some ⟨wr.heap.size, 0, none⟩) 1 (rowK k j) := by
          rw [hq]
          have := World.ownsRow_lit (base := wr.heap.size) (e := 42) (size := 5) wr #[.int .i64 1, .int .i64 0, .int .i64 0, .int .i64 0, .int .i64 0] 1 (Nat.le_refl _) (by unfold maxLen; omega) rfl
          obtain ⟨a', c', e, ho⟩ := out_of_owns (L := [⟨1, ⟨0, 0, 0, 0⟩⟩]) this (by simp)
          cases e
          exact ho
        have hB1 := bel_next hB b1
        have HRND : Hid (∀ (g0 cap0 : Nat) (w5 : World), w5.ownsRow w.heap.size 45 1 (.slice (some ⟨g0, 0, none⟩) (j + 1) cap0) (j + 1) (slL ad (fun i => (rowK k i).length) cp j ++ [.slice (some ⟨wr.heap.size, 0, none⟩) 1 1]) → ((wr.alloc (.cells #[.int .i64 1, .int .i64 0, .int .i64 0, .int .i64 0, .int .i64 0] 42)).alloc (.cells #[.slice (some ⟨wr.heap.size, 0, none⟩) 1 1] 45)).grownBy w5 u5.ownBlock → (u5.ownBlock = some g0 ∨ g0 = ((wr.alloc (.cells #[.int .i64 1, .int .i64 0, .int .i64 0, .int .i64 0, .int .i64 0] 42)).alloc (.cells #[.slice (some ⟨wr.heap.size, 0, none⟩) 1 1] 45)).heap.size) → g0 < w5.heap.size → ∃ ad' cp' B', AnW w.heap.size w5 (rowK k) (j + 1) (.slice (some ⟨g0, 0, none⟩) (j + 1) cap0) ad' cp' B') := fun g0 cap0 w5 h1 h2 h3 h4 => by
          refine AnW.more hA hA1 hO1 ?_ ?_ ?_ h4
          · rw [hq]; exact h2
          · rw [hq]; exact h1
          · rw [hq]; exact h3
        have HA1 := Hid.mk' hA1
        have HB1 := Hid.mk' hB1
        have HN := Hid.mk' (heap_alloc_new (wr.alloc (.cells #[.int .i64 1, .int .i64 0, .int .i64 0, .int .i64 0, .int .i64 0] 42)) (.cells #[.slice (some ⟨wr.heap.size, 0, none⟩) 1 1] 45))
        have hsw : w.heap.size ≤ wr.heap.size := hB.size
        clear hq hjk b1 hA1 hO1 hB1 hA hB
        go_wp2_with (at_builtin; refine wpList_append_lies _ rfl (.tmp 16) (.tmp 19) 24 rfl w.heap.size 45 i0 _ 1 24 Tryz.underlying24 hi0 hz0 hz1 hz2 rfl (by omega) _ j (slL ad (fun i => (rowK k i).length) cp j) rfl (HA1.out.row.alloc _) ⟨wr.heap.size + 1, 0, none⟩ 1 1 [.slice (some ⟨wr.heap.size, 0, none⟩) 1 1] rfl rfl (by have := HN.out; rw [World.size_alloc] at this; exact World.news_of_block this) (one_sl _ _ _) (by omega) hmax (by omega) (by simp; omega) _ rfl ?_; intro g1 cap1 w7 hown2 hgrow2 hat2 hlt2; have HR := Hid.mk' (HRND.out g1 cap1 w7 hown2 hgrow2 hat2 hlt2); have HB7 := Hid.mk' ((HB1.out.alloc HB1.out.size _).grown hgrow2 (by simp; omega) (fun k e => (HA1.out.row.lt k e).1)); clear hown2 hgrow2 hat2 hlt2)
        obtain ⟨ad', cp', B', hA7⟩ := HR.out
        go_roundw
        case rel => exact ⟨j + 1, ad', cp', B', by omega, by go_num, HB7.out, hA7⟩
        case measure => simp [intOf]; omega
      · have hjb : ((j : Int) == k) = false := by simpa using hjk
        have hq : rowK k j = [] := if_neg hjk
        have b1 := bel_one wr (.cells #[] 42)
        have hA1 := hA.below b1
        have hO1 : Out wr.heap.size (wr.alloc (.cells #[] 42)) (some ⟨wr.heap.size, 0, none⟩) 0 (rowK k j) := by
          rw [hq]
          exact ⟨⟨Nat.le_refl _, by simp, .inl rfl⟩, .inl rfl, .inl rfl⟩
        have hB1 := bel_next hB b1
        have HRND : Hid (∀ (g0 cap0 : Nat) (w5 : World), w5.ownsRow w.heap.size 45 1 (.slice (some ⟨g0, 0, none⟩) (j + 1) cap0) (j + 1) (slL ad (fun i => (rowK k i).length) cp j ++ [.slice (some ⟨wr.heap.size, 0, none⟩) 0 0]) → ((wr.alloc (.cells #[] 42)).alloc (.cells #[.slice (some ⟨wr.heap.size, 0, none⟩) 0 0] 45)).grownBy w5 u5.ownBlock → (u5.ownBlock = some g0 ∨ g0 = ((wr.alloc (.cells #[] 42)).alloc (.cells #[.slice (some ⟨wr.heap.size, 0, none⟩) 0 0] 45)).heap.size) → g0 < w5.heap.size → ∃ ad' cp' B', AnW w.heap.size w5 (rowK k) (j + 1) (.slice (some ⟨g0, 0, none⟩) (j + 1) cap0) ad' cp' B') := fun g0 cap0 w5 h1 h2 h3 h4 => by
          refine AnW.more hA hA1 hO1 ?_ ?_ ?_ h4
          · rw [hq]; exact h2
          · rw [hq]; exact h1
          · rw [hq]; exact h3
        have HA1 := Hid.mk' hA1
        have HB1 := Hid.mk' hB1
        have HN := Hid.mk' (heap_alloc_new (wr.alloc (.cells #[] 42)) (.cells #[.slice (some ⟨wr.heap.size, 0, none⟩) 0 0] 45))
        have hsw : w.heap.size ≤ wr.heap.size := hB.size
        clear hq hjk b1 hA1 hO1 hB1 hA hB
        go_wp2_with (at_builtin; refine wpList_append_lies _ rfl (.tmp 21) (.tmp 23) 24 rfl w.heap.size 45 i0 _ 1 24 Tryz.underlying24 hi0 hz0 hz1 hz2 rfl (by omega) _ j (slL ad (fun i => (rowK k i).length) cp j) rfl (HA1.out.row.alloc _) ⟨wr.heap.size + 1, 0, none⟩ 1 1 [.slice (some ⟨wr.heap.size, 0, none⟩) 0 0] rfl rfl (by have := HN.out; rw [World.size_alloc] at this; exact World.news_of_block this) (one_sl _ _ _) (by omega) hmax (by omega) (by simp; omega) _ rfl ?_; intro g1 cap1 w7 hown2 hgrow2 hat2 hlt2; have HR := Hid.mk' (HRND.out g1 cap1 w7 hown2 hgrow2 hat2 hlt2); have HB7 := Hid.mk' ((HB1.out.alloc HB1.out.size _).grown hgrow2 (by simp; omega) (fun k e => (HA1.out.row.lt k e).1)); clear hown2 hgrow2 hat2 hlt2)
        obtain ⟨ad', cp', B', hA7⟩ := HR.out
        go_roundw
        case rel => exact ⟨j + 1, ad', cp', B', by omega, by go_num, HB7.out, hA7⟩
        case measure => simp [intOf]; omega
    · have hjn : ¬ (j : Int) < (n : Int) := by omega
      have hje : j = n := by omega
      subst hje
      obtain ⟨qa, qc, R, etv, hO⟩ := hA.out (by omega)
      subst etv
      have HO := Hid.mk' hO
      clear hB hA hO
      go_wp2
      go_ret
      exact ⟨qa, qc, ad, cp, R, B, rfl, HB.out, HO.out⟩
set_option maxRecDepth 100000 in
set_option maxHeartbeats 4000000 in
theorem l9ZeroS (w : World) (n : Nat) (hn : n ≤ 12) : Calls Tryz.prog 161 #[.int .i64 (n : Int)] w (RowP w n (fun _ => [])) := by
  have hq : rowK (-1) = fun _ => [] := funext fun i => if_neg (by omega)
  have HC := l9RowS w n (-1) hn
  rw [hq] at HC
  have HCC := Hid.mk' HC
  clear HC hq
  go_enter Tryz.func161, Tryz.ntmps161
  go_wp2_with fail
  refine HCC.out.mono ?_
  rintro r w1 ⟨ra, rc, ad, cp, Rb, B, rfl, b1, ho⟩
  have HO := Hid.mk' ho
  have HB := Hid.mk' b1
  clear b1 ho
  go_wp2
  go_ret
  exact ⟨ra, rc, ad, cp, Rb, B, rfl, HB.out, HO.out⟩
def LessP (w : World) (n : Nat) (R : Option (Nat → List T)) (r : Ending) (w' : World) : Prop :=
  Below w.heap.size w w' ∧ ((∃ q ra rc ad cp Rb B, R = some q ∧ r = .returned (.tuple #[.slice ra n rc, .bool true]) ∧ OutS w.heap.size w' ra n rc ad (fun i => (q i).length) cp (fun i => lf (q i)) Rb B) ∨ (R = none ∧ ∃ ra rc, r = .returned (.tuple #[.slice ra 0 rc, .bool false])))
theorem scL_100 {q : List T} (hq : okL q = true) : okL (scL 100 q) = true := okL_of (by rw [scL_len]; exact (okL_falls hq).1) (scL_falls (by omega) (by omega) (okL_falls hq).2)
theorem l3Scale_L {w : World} {a : Option Addr} {c : Nat} {q : List T} (h : RL w a c q) (hq : okL q = true) : Calls Tryz.prog 88 #[.int .i64 100, .slice a q.length c] w (One1 w (scL 100 q)) := by
  refine (l3ScaleS w 100 a q.length c (lf q) h (by omega) (by omega) (by have := (okL_falls hq).1; omega) (fun i hi => (good_ok (show polOk q.length (lf q) = true from hq)).2 i hi |>.2)).mono ?_
  rintro r w' ⟨v, rfl, hb, ho⟩
  rw [if_neg (by omega)] at ho
  have e : scT 100 (lf q) q.length = scL 100 q := rfl
  rw [e] at ho
  exact one_owns (by rw [scL_len]; exact (okL_falls hq).1) ⟨v, rfl, hb, by rw [scL_len]; exact ho⟩
theorem l4Mul_L {w : World} {a b : Option Addr} {ca cb : Nat} {q X : List T} (ha : RL w a ca q) (hb : RL w b cb X) (hq : okL q = true) (hX : okL X = true) : Calls Tryz.prog 68 #[.slice a q.length ca, .slice b X.length cb] w (Two2 w (mulO (mulM (lf q) (lf X) X.length q.length))) := by
  refine (mulS4 w a b q.length ca X.length cb (lf q) (lf X) ha hb (okL_falls hq).1 (okL_falls hX).1 (good_ok hq).2 (good_ok hX).2).mono fun _ _ h => two_owns ?_ h
  cases hm : mulM (lf q) (lf X) X.length q.length with
  | none => exact Nat.zero_le _
  | some K => exact mulM_len _ K hm
set_option maxRecDepth 100000 in
set_option maxHeartbeats 8000000 in
theorem l9LessS (w : World) (g : Nat) (hg : g ≤ 12) (ra : Option Addr) (rc : Nat) (adR : Nat → Option Addr) (cpR : Nat → Nat) (row : Nat → List T) (hr : RdS w ra g rc adR (lN row) cpR (fN row)) (hrok : ∀ i, i < g → okL (row i) = true)
    (qa : Option Addr) (qc : Nat) (q : List T) (hq : RL w qa qc q) (hqok : okL q = true) (oa : Option Addr) (oc : Nat) (adO : Nat → Option Addr) (cpO : Nat → Nat) (oth : Nat → List T) (ho : RdS w oa g oc adO (lN oth) cpO (fN oth)) (hook : ∀ i, i < g → okL (oth i) = true) :
    Calls Tryz.prog 160 #[.slice ra g rc, .slice qa q.length qc, .slice oa g oc] w (LessP w g (lessR row q oth g)) := by
  obtain ⟨i0, hi0, hz0, hz1, hz2⟩ := info_parts infoSL
  have hgl : (g : Int) ≤ 12 := by omega
  obtain ⟨R, hR⟩ : ∃ R, lessR row q oth g = R := ⟨_, rfl⟩
  rw [hR]
  have HR := Hid.mk' hR
  have HRO := Hid.mk' hr
  have HQ := Hid.mk' hq
  have HO := Hid.mk' ho
  have HB0 := Hid.mk' (bel_one w (.cells #[] 45))
  have HA0 := Hid.mk' (AnW.empty w (fun _ => []))
  have HQK := Hid.mk' hqok
  have HOK := Hid.mk' hook
  have HRK := Hid.mk' hrok
  clear hr hq ho hR hqok hook hrok
  go_enter Tryz.func160, Tryz.ntmps160
  go_wp2
  go_loopw [8, 9] (fun tv ii wr => ∃ (j : Nat) (X : Nat → List T) (ad : Nat → Option Addr) (cp B : Nat → Nat), j ≤ g ∧ ii = .int .i64 (j : Int) ∧ lessR row q oth j = some X ∧ Below w.heap.size w wr ∧ AnW w.heap.size wr X j tv ad cp B) (fun _ ii _ => g - (intOf ii).toNat)
  case atStart => exact ⟨0, fun _ => [], _, _, _, Nat.zero_le _, rfl, rfl, HB0.out, HA0.out⟩
  case round =>
    obtain ⟨j, X, ad, cp, B, hj, rfl, hX, hB, hA⟩ := hrel
    have HX := Hid.mk' hX
    have HB := Hid.mk' hB
    have HA := Hid.mk' hA
    clear hX
    by_cases hlt : j < g
    · have hjl : (j : Int) < (g : Int) := by omega
      have hmax : j + 1 ≤ maxLen := by unfold maxLen; omega
      rcases HO.out.2.2.1 with h0 | ⟨ob, off, rfl, hobl, hocl⟩
      · omega
      rcases HRO.out.2.2.1 with h0 | ⟨rb, roff, rfl, hrbl, hrcl⟩
      · omega
      obtain ⟨O1, hO1⟩ : ∃ O1, oth j = O1 := ⟨_, rfl⟩
      obtain ⟨R1, hR1⟩ : ∃ R1, row j = R1 := ⟨_, rfl⟩
      have dr : Below wr.heap.size wr wr.drew := (Below.refl _ _).drew
      have hBd := bel_next hB dr
      have hS : wr.drew.cell? ⟨ob, off + j, none⟩ = some (.slice (adO j) O1.length (cpO j)) := (hBd.cell (p := ⟨ob, off + j, none⟩) hobl).trans (by rw [← hO1]; exact hocl j hlt)
      have cR : wr.drew.cell? ⟨rb, roff + j, none⟩ = some (.slice (adR j) R1.length (cpR j)) := (hBd.cell (p := ⟨rb, roff + j, none⟩) hrbl).trans (by rw [← hR1]; exact hrcl j hlt)
      have RO1 : Hid (RL wr.drew (adO j) (cpO j) O1) := by rw [← hO1]; exact (HO.out.2.2.2 j hlt).below hBd
      have RR1 : Hid (RL wr.drew (adR j) (cpR j) R1) := by rw [← hR1]; exact (HRO.out.2.2.2 j hlt).below hBd
      have RQ1 := Hid.mk' (HQ.out.below hBd)
      have okO : okL O1 = true := by rw [← hO1]; exact HOK.out j hlt
      have okR : okL R1 = true := by rw [← hR1]; exact HRK.out j hlt
      have HS := Hid.mk' hS
      have HCR := Hid.mk' cR
      have HBd := Hid.mk' hBd
      have HAd := Hid.mk' (hA.below dr)
      have hm := mulM_sc (f := lf q) (f2 := lf (scL 100 q)) (la := q.length) (c := 100) (by omega) (by omega) (good_ok (show polOk q.length (lf q) = true from HQK.out)).2 (good_ok (show polOk O1.length (lf O1) = true from okO)).2 (fun i hi => lf_sc 100 q hi) q.length (Nat.le_refl _)
      obtain ⟨E, hE⟩ : ∃ E, lessE R1 q O1 = E := ⟨_, rfl⟩
      have hE' : lessE (row j) q (oth j) = E := by rw [hO1, hR1]; exact hE
      have hc1 := l3Scale_L RQ1.out HQK.out
      have HC1 := Hid.mk' hc1
      have hrbr : rb < wr.drew.heap.size := World.block_lt_of_cell? _ _ cR
      clear hocl hrcl hS cR hO1 hR1 hB hA hBd dr hc1
      cases hP : mulM (lf q) (lf O1) O1.length q.length with
      | none =>
        rw [hP] at hm
        have hRn : R = none := by
          rw [← HR.out]
          refine lessR_bad hlt HX.out (hE'.trans ?_)
          rw [← hE]; unfold lessE; rw [hP]
        subst hRn
        have HC2 : Hid (∀ (W : World) (a b : Option Addr) (ca cb : Nat), RL W a ca (scL 100 q) → RL W b cb O1 → Calls Tryz.prog 68 #[.slice a (scL 100 q).length ca, .slice b O1.length cb] W (Two2 W ([], false))) := fun W a b ca cb k1 k2 => by
          have := l4Mul_L k1 k2 (scL_100 HQK.out) okO
          rw [scL_len, hm] at this
          rw [scL_len]
          exact this
        clear hm hP hE hE'
        go_wp2_with fail
        have hS := HS.out
        go_region_held3 (fun u => u.cell? ⟨ob, off + j, none⟩ = some (.slice (adO j) O1.length (cpO j))) (first | with_reducible exact hS | with_reducible exact ((b5.cell (p := ⟨ob, off + j, none⟩) (World.block_lt_of_cell? _ _ hS)).trans hS) | with_reducible exact h6) (first | (go_at_call 88; refine HC1.out.mono ?_; rintro e w5 ⟨za, zc, rfl, b5, hz⟩) | (go_at_call 68; refine (HC2.out _ _ _ _ _ hz (RO1.out.below b5)).mono ?_; rintro e w6 ⟨ya, yc, rfl, b6, hy⟩; have h6 := (b6.cell (p := ⟨ob, off + j, none⟩) (World.block_lt_of_cell? w5 _ ((b5.cell (p := ⟨ob, off + j, none⟩) (World.block_lt_of_cell? _ _ hS)).trans hS))).trans ((b5.cell (p := ⟨ob, off + j, none⟩) (World.block_lt_of_cell? _ _ hS)).trans hS)))
        have HB6 := Hid.mk' (bel_next (bel_next HBd.out b5) b6)
        clear hS b5 b6 hz hy h6
        go_wp2
        refine bodyPost_ret (results_tmp2 rfl _ _ _) rfl ?_
        exact ⟨HB6.out.alloc HB6.out.size _, .inr ⟨rfl, _, _, rfl⟩⟩
      | some P =>
        rw [hP] at hm
        have okP : okL (scL 100 P) = true := scL_100 (okL_of (mulM_len _ P hP) (mulM_falls2 (good_ok (show polOk q.length (lf q) = true from HQK.out)).2 (good_ok (show polOk O1.length (lf O1) = true from okO)).2 _ P (Nat.le_refl _) hP))
        have HC2 : Hid (∀ (W : World) (a b : Option Addr) (ca cb : Nat), RL W a ca (scL 100 q) → RL W b cb O1 → Calls Tryz.prog 68 #[.slice a (scL 100 q).length ca, .slice b O1.length cb] W (Two2 W (scL 100 P, true))) := fun W a b ca cb k1 k2 => by
          have := l4Mul_L k1 k2 (scL_100 HQK.out) okO
          rw [scL_len, hm] at this
          rw [scL_len]
          exact this
        have hE2 : E = if (subL R1 P).length ≤ 400 then some (subL R1 P) else none := by rw [← hE]; unfold lessE; rw [hP]
        have hsl : (subL R1 P).length ≤ 800 := by
          have h1 := subL_len R1 P
          have h2 := (okL_falls okR).1
          have h3 := mulM_len _ P hP
          omega
        clear hm hP hE
        obtain ⟨Y, hY⟩ : ∃ Y, subL R1 P = Y := ⟨_, rfl⟩
        have HC3 : Hid (∀ (W : World) (a : Option Addr) (ca : Nat), RL W (adR j) (cpR j) R1 → RL W a ca (scL 100 P) → Calls Tryz.prog 85 #[.slice (adR j) R1.length (cpR j), .slice a (scL 100 P).length ca] W fun r w' => ∃ a' c', r = .returned (.slice a' Y.length c') ∧ Below W.heap.size W w' ∧ Out W.heap.size w' a' c' Y) := fun W a ca k1 k2 => by
          refine (l3AddS W (adR j) a R1.length (cpR j) (scL 100 P).length ca (lf R1) (lf (scL 100 P)) k1 k2 (by have h2 := (okL_falls okR).1; have h3 := (okL_falls okP).1; omega) (fun i hi => ((good_ok (show polOk R1.length (lf R1) = true from okR)).2 i hi).2) (fun i hi => ((good_ok (show polOk (scL 100 P).length (lf (scL 100 P)) = true from okP)).2 i hi).2)).mono ?_
          rintro r w' ⟨v, rfl, hb, hown⟩
          have e : addT (lf R1) R1.length (lf (scL 100 P)) (scL 100 P).length 0 0 = Y := by rw [← hY]; rfl
          rw [e] at hown
          obtain ⟨a', c', rfl, hout⟩ := out_of_owns hown (by rw [← hY]; omega)
          exact ⟨a', c', rfl, hb, hout⟩
        rw [hY] at hE2 hsl
        have HYE := Hid.mk' hE2
        have HE' := Hid.mk' hE'
        have hYl : (Y.length : Int) ≤ 800 := by omega
        clear hY hE2 hE' hsl
        go_wp2_with fail
        have hS := HS.out
        go_region_held3 (fun u => u.cell? ⟨ob, off + j, none⟩ = some (.slice (adO j) O1.length (cpO j))) (first | with_reducible exact hS | with_reducible exact ((b5.cell (p := ⟨ob, off + j, none⟩) (World.block_lt_of_cell? _ _ hS)).trans hS) | with_reducible exact h6) (first | (go_at_call 88; refine HC1.out.mono ?_; rintro e w5 ⟨za, zc, rfl, b5, hz⟩) | (go_at_call 68; refine (HC2.out _ _ _ _ _ hz (RO1.out.below b5)).mono ?_; rintro e w6 ⟨ya, yc, rfl, b6, hy⟩; have h6 := (b6.cell (p := ⟨ob, off + j, none⟩) (World.block_lt_of_cell? w5 _ ((b5.cell (p := ⟨ob, off + j, none⟩) (World.block_lt_of_cell? _ _ hS)).trans hS))).trans ((b5.cell (p := ⟨ob, off + j, none⟩) (World.block_lt_of_cell? _ _ hS)).trans hS)))
        have hB6 := bel_next (bel_next HBd.out b5) b6
        have HB6 := Hid.mk' hB6
        have b56 := bel_next b5 b6
        have c6 : w6.cell? ⟨rb, roff + j, none⟩ = some (.slice (adR j) R1.length (cpR j)) := (b56.cell (p := ⟨rb, roff + j, none⟩) hrbr).trans HCR.out
        have R6 := Hid.mk' (RR1.out.below b56)
        have Y6 := Hid.mk' hy
        have A6 := Hid.mk' (HAd.out.below b56)
        clear hS b5 b6 hz hy h6 hB6 b56 HC1 HC2
        go_wp2_with fail
        refine (HC3.out _ _ _ R6.out Y6.out).mono ?_
        rintro r w7 ⟨va, vc, rfl, b7, hO7⟩
        have HB7 := Hid.mk' (bel_next HB6.out b7)
        have HA7 := Hid.mk' (A6.out.below b7)
        have HO7 := Hid.mk' hO7
        clear b7 hO7 c6 R6 Y6 HC3
        by_cases hl4 : Y.length ≤ 400
        · have hng : ¬ (400 : Int) < (Y.length : Int) := by omega
          have hEs : lessE (row j) q (oth j) = some Y := by rw [HE'.out, HYE.out, if_pos hl4]
          have HXN := Hid.mk' (lessR_step HX.out hEs)
          have hAX : AnW w.heap.size w7 (updL X j Y) j u8 ad cp B := HA7.out.congr (fun i hi => (if_neg (by omega)).symm)
          have hA6X : AnW w.heap.size w6 (updL X j Y) j u8 ad cp B := A6.out.congr (fun i hi => (if_neg (by omega)).symm)
          have hYj : updL X j Y j = Y := if_pos rfl
          have HRND : Hid (∀ (g0 cap0 : Nat) (w5 : World), w5.ownsRow w.heap.size 45 1 (.slice (some ⟨g0, 0, none⟩) (j + 1) cap0) (j + 1) (slL ad (fun i => (updL X j Y i).length) cp j ++ [.slice va Y.length vc]) → (w7.alloc (.cells #[.slice va Y.length vc] 45)).grownBy w5 u8.ownBlock → (u8.ownBlock = some g0 ∨ g0 = (w7.alloc (.cells #[.slice va Y.length vc] 45)).heap.size) → g0 < w5.heap.size → ∃ ad' cp' B', AnW w.heap.size w5 (updL X j Y) (j + 1) (.slice (some ⟨g0, 0, none⟩) (j + 1) cap0) ad' cp' B') := fun g0 cap0 w5 h1 h2 h3 h4 => by
            refine AnW.more hA6X hAX (a := va) (c := vc) (by rw [hYj]; exact HO7.out) ?_ ?_ ?_ h4
            · rw [hYj]; exact h2
            · rw [hYj]; exact h1
            · rw [hYj]; exact h3
          have HAX := Hid.mk' hAX
          have hsw : w.heap.size ≤ w7.heap.size := HB7.out.size
          clear hEs hAX hA6X hYj hl4
          go_wp2_with (at_builtin; refine wpList_append_lies _ rfl (.tmp 43) (.tmp 45) 24 rfl w.heap.size 45 i0 _ 1 24 Tryz.underlying24 hi0 hz0 hz1 hz2 rfl (by omega) _ j (slL ad (fun i => (updL X j Y i).length) cp j) rfl (HAX.out.row.alloc _) ⟨w7.heap.size, 0, none⟩ 1 1 [.slice va Y.length vc] rfl rfl (World.news_of_block (heap_alloc_new w7 _)) (one_sl _ _ _) (by omega) hmax (by omega) (by simp; omega) _ rfl ?_; intro g1 cap1 w8 hown2 hgrow2 hat2 hlt2; have HRR := Hid.mk' (HRND.out g1 cap1 w8 hown2 hgrow2 hat2 hlt2); have HB8 := Hid.mk' ((HB7.out.alloc HB7.out.size _).grown hgrow2 (by simp; omega) (fun k e => (HAX.out.row.lt k e).1)); clear hown2 hgrow2 hat2 hlt2)
          obtain ⟨ad', cp', B', hA8⟩ := HRR.out
          go_roundw
          case rel => exact ⟨j + 1, updL X j Y, ad', cp', B', by omega, by go_num, HXN.out, HB8.out, hA8⟩
          case measure => simp [intOf]; omega
        · have hgt : (400 : Int) < (Y.length : Int) := by omega
          have hRn : R = none := by
            rw [← HR.out]
            refine lessR_bad hlt HX.out ?_
            rw [HE'.out, HYE.out, if_neg hl4]
          subst hRn
          go_wp2
          refine bodyPost_ret (results_tmp2 rfl _ _ _) rfl ?_
          exact ⟨HB7.out.alloc HB7.out.size _, .inr ⟨rfl, _, _, rfl⟩⟩
    · have hjn : ¬ (j : Int) < (g : Int) := by omega
      have hje : j = g := by omega
      subst hje
      have hRs : R = some X := by rw [← HR.out]; exact HX.out
      subst hRs
      obtain ⟨qa', qc', Rb, etv, hO⟩ := hA.out (by omega)
      subst etv
      have HOO := Hid.mk' hO
      clear hB hA hO
      go_wp2
      refine bodyPost_ret (results_tmp2 rfl _ _ _) rfl ?_
      exact ⟨HB.out, .inl ⟨X, qa', qc', ad, cp, Rb, B, rfl, rfl, HOO.out⟩⟩
end Go.Proofs.YtdidlcjhodejjaaGreat
namespace Go.Proofs.YtdidlcjhodejjaaGreat
open Go.RowKit Go.Deep Go.Joins
set_option linter.unusedVariables false

/-- a slice of slices of slices of terms that can be read. -/
def Rd3 (w : World) (a : Option Addr) (n cap : Nat) (A : Nat → Option Addr) (C : Nat → Nat) (AD : Nat → Nat → Option Addr) (CP : Nat → Nat → Nat) (N : Nat → Nat) (L : Nat → Nat → Nat) (F : Nat → Nat → Nat → T) : Prop :=
  n ≤ cap ∧ n * 40 ≤ 140737488351232 ∧ (n = 0 ∨ ∃ b off, a = some ⟨b, off, none⟩ ∧ b < w.heap.size ∧ ∀ i, i < n → w.cell? ⟨b, off + i, none⟩ = some (.slice (A i) (N i) (C i))) ∧ ∀ i, i < n → RdS w (A i) (N i) (C i) (AD i) (L i) (CP i) (F i)
theorem Rd3.below {w w' : World} {a : Option Addr} {n cap : Nat} {A : Nat → Option Addr} {C : Nat → Nat} {AD : Nat → Nat → Option Addr} {CP : Nat → Nat → Nat} {N : Nat → Nat} {L : Nat → Nat → Nat} {F : Nat → Nat → Nat → T} (h : Rd3 w a n cap A C AD CP N L F) (hb : Below w.heap.size w w') : Rd3 w' a n cap A C AD CP N L F := by
  refine ⟨h.1, h.2.1, ?_, fun i hi => (h.2.2.2 i hi).below hb⟩
  rcases h.2.2.1 with h0 | ⟨b, off, he, hlt, hc⟩
  · exact .inl h0
  · exact .inr ⟨b, off, he, Nat.lt_of_lt_of_le hlt hb.size, fun i hi => (hb.cell (p := ⟨b, off + i, none⟩) hlt).trans (hc i hi)⟩
end Go.Proofs.YtdidlcjhodejjaaGreat
namespace Go.Proofs.YtdidlcjhodejjaaGreat
open Go.RowKit Go.Deep Go.Joins
set_option linter.unusedVariables false

/-- the box of a basis: its proofs; a term; two rows of the proofs. -/
abbrev S7p (u : World) (bx : Nat) (pv : Value) (ub : Nat) (t : T) (pb i : Nat) (v : Value) : Prop :=
  u.cell? ⟨bx, 1, none⟩ = some pv ∧ u.cell? ⟨ub, 0, none⟩ = some (.int .i64 t.c) ∧ u.cell? ⟨ub, 1, none⟩ = some (.int .i64 t.m.x) ∧ u.cell? ⟨ub, 2, none⟩ = some (.int .i64 t.m.y) ∧ u.cell? ⟨ub, 3, none⟩ = some (.int .i64 t.m.d) ∧ u.cell? ⟨ub, 4, none⟩ = some (.int .i64 t.m.e) ∧ u.cell? ⟨pb, i, none⟩ = some v
theorem S7p.mk {u : World} {bx : Nat} {pv : Value} {ub : Nat} {t : T} {pb i : Nat} {v : Value} (h1 : u.cell? ⟨bx, 1, none⟩ = some pv) (h2 : C5 u ub t) (h3 : u.cell? ⟨pb, i, none⟩ = some v) : S7p u bx pv ub t pb i v := ⟨h1, h2.1, h2.2.1, h2.2.2.1, h2.2.2.2.1, h2.2.2.2.2, h3⟩
theorem S7p.below {u u' : World} {bx : Nat} {pv : Value} {ub : Nat} {t : T} {pb i : Nat} {v : Value} (h : S7p u bx pv ub t pb i v) (hb : Below u.heap.size u u') : S7p u' bx pv ub t pb i v := by
  obtain ⟨a0, c0, c1, c2, c3, c4, d0⟩ := h
  have l1 := World.block_lt_of_cell? u _ a0
  have l2 := World.block_lt_of_cell? u _ c0
  have l3 := World.block_lt_of_cell? u _ d0
  exact ⟨(hb.cell (p := ⟨bx, 1, none⟩) l1).trans a0, (hb.cell (p := ⟨ub, 0, none⟩) l2).trans c0, (hb.cell (p := ⟨ub, 1, none⟩) l2).trans c1, (hb.cell (p := ⟨ub, 2, none⟩) l2).trans c2, (hb.cell (p := ⟨ub, 3, none⟩) l2).trans c3, (hb.cell (p := ⟨ub, 4, none⟩) l2).trans c4, (hb.cell (p := ⟨pb, i, none⟩) l3).trans d0⟩
abbrev S3p (u : World) (bx : Nat) (pv : Value) (qb j : Nat) (v1 : Value) (pb i : Nat) (v2 : Value) : Prop := u.cell? ⟨bx, 1, none⟩ = some pv ∧ u.cell? ⟨qb, j, none⟩ = some v1 ∧ u.cell? ⟨pb, i, none⟩ = some v2
theorem S3p.below {u u' : World} {bx : Nat} {pv : Value} {qb j : Nat} {v1 : Value} {pb i : Nat} {v2 : Value} (h : S3p u bx pv qb j v1 pb i v2) (hb : Below u.heap.size u u') : S3p u' bx pv qb j v1 pb i v2 :=
  ⟨(hb.cell (p := ⟨bx, 1, none⟩) (World.block_lt_of_cell? u _ h.1)).trans h.1, (hb.cell (p := ⟨qb, j, none⟩) (World.block_lt_of_cell? u _ h.2.1)).trans h.2.1, (hb.cell (p := ⟨pb, i, none⟩) (World.block_lt_of_cell? u _ h.2.2)).trans h.2.2⟩
/-- rows that can be read. -/
abbrev R3 (w : World) (pa : Option Addr) (m pc g : Nat) (A : Nat → Option Addr) (C : Nat → Nat) (AD : Nat → Nat → Option Addr) (CP : Nat → Nat → Nat) (P : Nat → Nat → List T) : Prop := Rd3 w pa m pc A C AD CP (fun _ => g) (fun i => lN (P i)) (fun i => fN (P i))
theorem LessP.no {w : World} {n : Nat} {r : Ending} {w' : World} (h : LessP w n none r w') : ∃ ra rc, r = .returned (.tuple #[.slice ra 0 rc, .bool false]) ∧ Below w.heap.size w w' := by
  rcases h with ⟨hb, ⟨q, _, _, _, _, _, _, e, _⟩ | ⟨_, ra, rc, e⟩⟩
  · cases e
  · exact ⟨ra, rc, e, hb⟩
theorem LessP.yes {w : World} {n : Nat} {q : Nat → List T} {r : Ending} {w' : World} (h : LessP w n (some q) r w') : ∃ ra rc ad cp Rb B, r = .returned (.tuple #[.slice ra n rc, .bool true]) ∧ Below w.heap.size w w' ∧ OutS w.heap.size w' ra n rc ad (lN q) cp (fN q) Rb B := by
  rcases h with ⟨hb, ⟨q', ra, rc, ad, cp, Rb, B, e, hr, ho⟩ | ⟨e, _⟩⟩
  · cases e
    exact ⟨ra, rc, ad, cp, Rb, B, hr, hb, ho⟩
  · cases e
def MadeP (w : World) (g : Nat) (E : Option (Nat → List T)) (r : Ending) (w' : World) : Prop := Below w.heap.size w w' ∧ ((∃ R ra rc ad cp lo Rb B, E = some R ∧ r = .returned (.tuple #[.slice ra g rc, .bool true]) ∧ w.heap.size ≤ lo ∧ OutS lo w' ra g rc ad (fun i => (R i).length) cp (fun i => lf (R i)) Rb B) ∨ (E = none ∧ ∃ xa xc, r = .returned (.tuple #[.slice xa 0 xc, .bool false])))
theorem made1_none {g : Nat} {P : Nat → Nat → List T} {i k : Nat} {u v : T} {nq : Nat} {qs : Nat → List T} (h : lessR (fun _ => []) [negT1 u] (P i) g = none) : made g P i k u v nq qs = none := by
  have e : made1 g P i k u v = none := by unfold made1; rw [h]
  unfold made
  rw [e]
  have := madeN_none (g := g) (P := P) (qs := qs) (row := none) (t := 0) rfl nq
  rwa [Nat.zero_add] at this
theorem made1_some {g : Nat} {P : Nat → Nat → List T} {i k : Nat} {u v : T} {R : Nat → List T} (h : lessR (fun _ => []) [negT1 u] (P i) g = some R) : made1 g P i k u v = lessR R [v] (P k) g := by unfold made1; rw [h]
theorem madeN_step {g : Nat} {P : Nat → Nat → List T} {qs : Nat → List T} {row : Option (Nat → List T)} {t : Nat} {R : Nat → List T} (h : madeN g P qs row t = some R) : madeN g P qs row (t + 1) = lessR R (qs t) (P t) g := by
  show (match madeN g P qs row t with | none => none | some R => lessR R (qs t) (P t) g) = _
  rw [h]
set_option maxRecDepth 100000 in
set_option maxHeartbeats 16000000 in
theorem l9MadeS (w : World) (o : Int) (g m : Nat) (hg : g ≤ 12) (hm : m ≤ 12) (lv : Value) (hlv : lv.oneCell' = true) (pa : Option Addr) (pc : Nat) (d : Bool) (A : Nat → Option Addr) (C : Nat → Nat) (AD : Nat → Nat → Option Addr) (CP : Nat → Nat → Nat) (P : Nat → Nat → List T) (hP : R3 w pa m pc g A C AD CP P) (hPok : ∀ i, i < m → ∀ j, j < g → okL (P i j) = true) (i k : Nat) (hi : i < m) (hk : k < m) (u v : T) (hu : u.m.ok = true ∧ 1 ≤ u.c ∧ u.c ≤ 100) (hv : v.m.ok = true ∧ 1 ≤ v.c ∧ v.c ≤ 100)
    (qa : Option Addr) (qc : Nat) (adQ : Nat → Option Addr) (cpQ : Nat → Nat) (qs : Nat → List T) (hq : RdS w qa m qc adQ (lN qs) cpQ (fN qs)) (hqok : ∀ t, t < m → okL (qs t) = true) (la : Option Addr) (lc : Nat) (hlve : lv = .slice la m lc) :
    Calls Tryz.prog 138 #[.agg #[lv, .slice pa m pc, .bool d], .int .i64 (i : Int), .int .i64 (k : Int), .agg #[.int .i64 u.c, .int .i64 u.m.x, .int .i64 u.m.y, .int .i64 u.m.d, .int .i64 u.m.e], .agg #[.int .i64 v.c, .int .i64 v.m.x, .int .i64 v.m.y, .int .i64 v.m.d, .int .i64 v.m.e], .slice qa m qc] w (MadeP w g (made g P i k u v m qs)) := by
  subst hlve
  obtain ⟨w3, hw3⟩ : ∃ w3, ((w.alloc (.cells #[.slice la m lc, .slice pa m pc, .bool d] 77)).alloc (.cells #[.int .i64 u.c, .int .i64 u.m.x, .int .i64 u.m.y, .int .i64 u.m.d, .int .i64 u.m.e] 42)).alloc (.cells #[.int .i64 v.c, .int .i64 v.m.x, .int .i64 v.m.y, .int .i64 v.m.d, .int .i64 v.m.e] 42) = w3 := ⟨_, rfl⟩
  have b1 := bel_one w (.cells #[.slice la m lc, .slice pa m pc, .bool d] 77)
  have b2 := bel_one (w.alloc (.cells #[.slice la m lc, .slice pa m pc, .bool d] 77)) (.cells #[.int .i64 u.c, .int .i64 u.m.x, .int .i64 u.m.y, .int .i64 u.m.d, .int .i64 u.m.e] 42)
  have b3 := bel_one ((w.alloc (.cells #[.slice la m lc, .slice pa m pc, .bool d] 77)).alloc (.cells #[.int .i64 u.c, .int .i64 u.m.x, .int .i64 u.m.y, .int .i64 u.m.d, .int .i64 u.m.e] 42)) (.cells #[.int .i64 v.c, .int .i64 v.m.x, .int .i64 v.m.y, .int .i64 v.m.d, .int .i64 v.m.e] 42)
  have hB3 : Below w.heap.size w w3 := by rw [← hw3]; exact bel_next (bel_next b1 b2) b3
  have cb : w3.cell? ⟨w.heap.size, 1, none⟩ = some (.slice pa m pc) := by
    rw [← hw3]
    refine ((bel_next b2 b3).cell (p := ⟨w.heap.size, 1, none⟩) (by simp)).trans ?_
    rw [World.cell?_alloc_at _ _ _ _ rfl]; rfl
  have cu : C5 w3 (w.heap.size + 1) u := by
    rw [← hw3]
    have := C5.box (w.alloc (.cells #[.slice la m lc, .slice pa m pc, .bool d] 77)) 42 u
    rw [World.size_alloc] at this
    exact this.below b3
  have cv : C5 w3 (w.heap.size + 1 + 1) v := by
    rw [← hw3]
    have := C5.box ((w.alloc (.cells #[.slice la m lc, .slice pa m pc, .bool d] 77)).alloc (.cells #[.int .i64 u.c, .int .i64 u.m.x, .int .i64 u.m.y, .int .i64 u.m.d, .int .i64 u.m.e] 42)) 42 v
    rwa [World.size_alloc, World.size_alloc] at this
  have hP3 := hP.below hB3
  rcases hP3.2.2.1 with h0 | ⟨pb, off, rfl, hpl, hpc⟩
  · omega
  have ci : w3.cell? ⟨pb, off + i, none⟩ = some (.slice (A i) g (C i)) := hpc i hi
  have ck : w3.cell? ⟨pb, off + k, none⟩ = some (.slice (A k) g (C k)) := hpc k hk
  have hil : (i : Int) < (m : Int) := by omega
  have hkl : (k : Int) < (m : Int) := by omega
  have hml : (m : Int) ≤ 12 := by omega
  have hgl : (g : Int) ≤ 12 := by omega
  have dr : Below w3.heap.size w3 w3.drew := (Below.refl _ _).drew
  have hS0 := (S7p.mk cb cu ci).below dr
  have hneg := one_ok (t := negT1 u) ⟨hu.1, (mod101 hu.2.1 hu.2.2).1, (mod101 hu.2.1 hu.2.2).2⟩
  have hone := one_ok hv
  have HS0 := Hid.mk' hS0
  have HCB := Hid.mk' cb
  have HCV := Hid.mk' cv
  have HCK := Hid.mk' ck
  have HPC := Hid.mk' hpc
  have HP3 := Hid.mk' hP3
  have HB3 := Hid.mk' hB3
  have HQ3 := Hid.mk' (hq.below hB3)
  have HPO := Hid.mk' hPok
  have HQO := Hid.mk' hqok
  have HNG := Hid.mk' hneg
  have HON := Hid.mk' hone
  have hwu : IntKind.i64.wrap (101 - u.c) = 101 - u.c := by rw [IntKind.wrap_i64]; omega
  have DR := Hid.mk' dr
  have hs3 : w.heap.size ≤ w3.heap.size := hB3.size
  have HPi := Hid.mk' ((hP3.2.2.2 i hi).below dr)
  have HZ := fun (W : World) => l9ZeroS W g hg
  obtain ⟨E1, hE1⟩ : ∃ E, lessR (fun _ => []) [negT1 u] (P i) g = E := ⟨_, rfl⟩
  have HL1 : Hid (∀ (W : World) (za : Option Addr) (zc : Nat) (zad : Nat → Option Addr) (zcp : Nat → Nat) (na : Option Addr) (nc : Nat), RdS W za g zc zad (lN (fun _ => [])) zcp (fN (fun _ => [])) → RL W na nc [negT1 u] → RdS W (A i) g (C i) (AD i) (lN (P i)) (CP i) (fN (P i)) → Calls Tryz.prog 160 #[.slice za g zc, .slice na 1 nc, .slice (A i) g (C i)] W (LessP W g E1)) := fun W za zc zad zcp na nc k1 k2 k3 => by
    have := l9LessS W g hg za zc zad zcp (fun _ => []) k1 (fun _ _ => okL_nil) na nc [negT1 u] k2 HNG.out (A i) (C i) (AD i) (CP i) (P i) k3 (HPO.out i hi)
    rw [hE1] at this
    exact this
  have HE1 := Hid.mk' hE1
  clear hP hPok hq hqok hpc hP3 hS0 cb cu cv ci ck dr hneg hone b1 b2 b3 hB3 hu hv hE1
  cases E1 with
  | none =>
    have HMN := made1_none (k := k) (v := v) (nq := m) (qs := qs) HE1.out
    rw [HMN]
    have HL2 : Hid (∀ (W : World) (za : Option Addr) (zc : Nat) (zad : Nat → Option Addr) (zcp : Nat → Nat) (na : Option Addr) (nc : Nat), RdS W za g zc zad (lN (fun _ => [])) zcp (fN (fun _ => [])) → RL W na nc [negT1 u] → RdS W (A i) g (C i) (AD i) (lN (P i)) (CP i) (fN (P i)) → Calls Tryz.prog 160 #[.slice za g zc, .slice na 1 nc, .slice (A i) g (C i)] W fun r w' => ∃ ra rc, r = .returned (.tuple #[.slice ra 0 rc, .bool false]) ∧ Below W.heap.size W w') := fun W za zc zad zcp na nc k1 k2 k3 => (HL1.out W za zc zad zcp na nc k1 k2 k3).mono fun r w' h => h.no
    clear HL1 HMN HE1
    go_enter Tryz.func138, Tryz.ntmps138
    go_wp2_with fail
    clear hw3
    have hS := HS0.out
    have bSa : Below w3.drew.heap.size w3.drew (w3.alloc (.cells #[.int .i64 (101 - u.c), .int .i64 u.m.x, .int .i64 u.m.y, .int .i64 u.m.d, .int .i64 u.m.e] 42)).drew := bel_one w3.drew _
    have hSa : S7p (w3.alloc (.cells #[.int .i64 (101 - u.c), .int .i64 u.m.x, .int .i64 u.m.y, .int .i64 u.m.d, .int .i64 u.m.e] 42)).drew w.heap.size (.slice (some ⟨pb, off, none⟩) m pc) (w.heap.size + 1) u pb (off + i) (.slice (A i) g (C i)) := S7p.below hS bSa
    go_region_held3 (fun x => S7p x w.heap.size (.slice (some ⟨pb, off, none⟩) m pc) (w.heap.size + 1) u pb (off + i) (.slice (A i) g (C i))) (first | with_reducible exact h6 | with_reducible exact S7p.below hS b5 | with_reducible exact S7p.below (S7p.below hS b5) (bel_one _ _) | with_reducible exact S7p.below hSa b5 | with_reducible exact hSa | with_reducible exact hS) (first | (go_at_call 161; refine (HZ _).mono ?_; rintro e w5 ⟨za, zc, zad, zcp, zR, zB, rfl, b5, ho5⟩) | (go_at_call 160; refine (HL2.out _ _ _ _ _ _ _ (by first | with_reducible exact ho5.rd.below (bel_one _ _) | with_reducible exact ho5.rd) (by first | exact one_RL _ (negT1 u) | exact ((one_RL w3 (negT1 u)).below (Below.refl _ _).drew).below b5) (by first | exact (HPi.out.below b5).below (bel_one _ _) | exact (HPi.out.below bSa).below b5)).mono ?_; rintro e w6 ⟨xa, xc, rfl, b6⟩; have h6 : S7p w6 w.heap.size (.slice (some ⟨pb, off, none⟩) m pc) (w.heap.size + 1) u pb (off + i) (.slice (A i) g (C i)) := (by first | exact S7p.below (S7p.below (S7p.below hS b5) (bel_one _ _)) b6 | exact S7p.below (S7p.below hSa b5) b6); have hB6 : Below w3.heap.size w3 w6 := (by first | exact bel_next (bel_next (bel_next DR.out b5) (bel_one _ _)) b6 | exact bel_next (bel_next (bel_next DR.out bSa) b5) b6)))
    all_goals (
      have HB6 := Hid.mk' (HB3.out.trans (hB6.mono hs3))
      clear hS hSa bSa b5 b6 h6 hB6 ho5
      go_wp2
      go_loopw [14, 15, 16] (fun rv ok ii wr => rv = .slice xa 0 xc ∧ ok = .bool false ∧ ii = .int .i64 0 ∧ wr = w6) (fun _ _ _ _ => 0)
      case atStart => exact ⟨rfl, rfl, rfl, rfl⟩
      case round =>
        obtain ⟨rfl, rfl, rfl, rfl⟩ := hrel
        go_wp2
        refine bodyPost_ret (results_tmp2 rfl _ _ _) rfl ?_
        exact ⟨HB6.out, .inr ⟨rfl, _, _, rfl⟩⟩)
  | some R1 =>
    have HL2 : Hid (∀ (W : World) (za : Option Addr) (zc : Nat) (zad : Nat → Option Addr) (zcp : Nat → Nat) (na : Option Addr) (nc : Nat), RdS W za g zc zad (lN (fun _ => [])) zcp (fN (fun _ => [])) → RL W na nc [negT1 u] → RdS W (A i) g (C i) (AD i) (lN (P i)) (CP i) (fN (P i)) → Calls Tryz.prog 160 #[.slice za g zc, .slice na 1 nc, .slice (A i) g (C i)] W fun r w' => ∃ ra rc ad cp Rb B, r = .returned (.tuple #[.slice ra g rc, .bool true]) ∧ Below W.heap.size W w' ∧ OutS W.heap.size w' ra g rc ad (lN R1) cp (fN R1) Rb B) := fun W za zc zad zcp na nc k1 k2 k3 => (HL1.out W za zc zad zcp na nc k1 k2 k3).mono fun r w' h => h.yes
    have HR1 := Hid.mk' (lessR_ok (g := g) (fun _ _ => okL_nil) HNG.out (HPO.out i hi) g R1 (Nat.le_refl _) HE1.out)
    obtain ⟨E2, hE2⟩ : ∃ E, lessR R1 [v] (P k) g = E := ⟨_, rfl⟩
    have HMD := Hid.mk' ((made1_some (k := k) (v := v) HE1.out).trans hE2)
    have HL3 : Hid (∀ (W : World) (za : Option Addr) (zc : Nat) (zad : Nat → Option Addr) (zcp : Nat → Nat) (na : Option Addr) (nc : Nat), RdS W za g zc zad (lN R1) zcp (fN R1) → RL W na nc [v] → RdS W (A k) g (C k) (AD k) (lN (P k)) (CP k) (fN (P k)) → Calls Tryz.prog 160 #[.slice za g zc, .slice na 1 nc, .slice (A k) g (C k)] W (LessP W g E2)) := fun W za zc zad zcp na nc k1 k2 k3 => by
      have := l9LessS W g hg za zc zad zcp R1 k1 HR1.out na nc [v] k2 HON.out (A k) (C k) (AD k) (CP k) (P k) k3 (HPO.out k hk)
      rw [hE2] at this
      exact this
    clear HL1 HE1 hE2
    -- what follows the second row, whatever comes out
    go_enter Tryz.func138, Tryz.ntmps138
    go_wp2_with fail
    clear hw3
    have hS := HS0.out
    have bSa : Below w3.drew.heap.size w3.drew (w3.alloc (.cells #[.int .i64 (101 - u.c), .int .i64 u.m.x, .int .i64 u.m.y, .int .i64 u.m.d, .int .i64 u.m.e] 42)).drew := bel_one w3.drew _
    have hSa : S7p (w3.alloc (.cells #[.int .i64 (101 - u.c), .int .i64 u.m.x, .int .i64 u.m.y, .int .i64 u.m.d, .int .i64 u.m.e] 42)).drew w.heap.size (.slice (some ⟨pb, off, none⟩) m pc) (w.heap.size + 1) u pb (off + i) (.slice (A i) g (C i)) := S7p.below hS bSa
    go_region_held3 (fun x => S7p x w.heap.size (.slice (some ⟨pb, off, none⟩) m pc) (w.heap.size + 1) u pb (off + i) (.slice (A i) g (C i))) (first | with_reducible exact h6 | with_reducible exact S7p.below hS b5 | with_reducible exact S7p.below (S7p.below hS b5) (bel_one _ _) | with_reducible exact S7p.below hSa b5 | with_reducible exact hSa | with_reducible exact hS) (first | (go_at_call 161; refine (HZ _).mono ?_; rintro e w5 ⟨za, zc, zad, zcp, zR, zB, rfl, b5, ho5⟩) | (go_at_call 160; refine (HL2.out _ _ _ _ _ _ _ (by first | with_reducible exact ho5.rd.below (bel_one _ _) | with_reducible exact ho5.rd) (by first | exact one_RL _ (negT1 u) | exact ((one_RL w3 (negT1 u)).below (Below.refl _ _).drew).below b5) (by first | exact (HPi.out.below b5).below (bel_one _ _) | exact (HPi.out.below bSa).below b5)).mono ?_; rintro e w6 ⟨xa, xc, xad, xcp, xRb, xB, rfl, b6, ho6⟩; have h6 : S7p w6 w.heap.size (.slice (some ⟨pb, off, none⟩) m pc) (w.heap.size + 1) u pb (off + i) (.slice (A i) g (C i)) := (by first | exact S7p.below (S7p.below (S7p.below hS b5) (bel_one _ _)) b6 | exact S7p.below (S7p.below hSa b5) b6); have hB6 : Below w3.heap.size w3 w6 := (by first | exact bel_next (bel_next (bel_next DR.out b5) (bel_one _ _)) b6 | exact bel_next (bel_next (bel_next DR.out bSa) b5) b6)))
    all_goals (
      have HB6 := Hid.mk' hB6
      have HX6 := Hid.mk' ho6.rd
      have dr6 : Below w6.heap.size w6 w6.drew := (Below.refl _ _).drew
      have hB6d := bel_next hB6 dr6
      have hSv := (S7p.mk HCB.out HCV.out HCK.out).below hB6d
      have HSV := Hid.mk' hSv
      have HPk := Hid.mk' ((HP3.out.2.2.2 k hk).below hB6d)
      have HX6d := Hid.mk' (ho6.rd.below dr6)
      have HB6d := Hid.mk' hB6d
      clear hS hSa bSa b5 b6 h6 hB6 ho5 ho6 hB6d hSv dr6
      rcases E2 with _ | R2
      · have HL4 : Hid (∀ (W : World) (za : Option Addr) (zc : Nat) (zad : Nat → Option Addr) (zcp : Nat → Nat) (na : Option Addr) (nc : Nat), RdS W za g zc zad (lN R1) zcp (fN R1) → RL W na nc [v] → RdS W (A k) g (C k) (AD k) (lN (P k)) (CP k) (fN (P k)) → Calls Tryz.prog 160 #[.slice za g zc, .slice na 1 nc, .slice (A k) g (C k)] W fun r w' => ∃ ra rc, r = .returned (.tuple #[.slice ra 0 rc, .bool false]) ∧ Below W.heap.size W w') := fun W za zc zad zcp na nc k1 k2 k3 => (HL3.out W za zc zad zcp na nc k1 k2 k3).mono fun r w' h => h.no
        have hmn : made g P i k u v m qs = none := by
          have := madeN_none (g := g) (P := P) (qs := qs) (row := made1 g P i k u v) (t := 0) HMD.out m
          rwa [Nat.zero_add] at this
        have HMN := Hid.mk' hmn
        clear hmn HL3
        go_wp2_with fail
        have hSv := HSV.out
        go_region_held3 (fun x => S7p x w.heap.size (.slice (some ⟨pb, off, none⟩) m pc) (w.heap.size + 1 + 1) v pb (off + k) (.slice (A k) g (C k))) (first | with_reducible exact h7 | with_reducible exact S7p.below hSv (bel_one _ _) | with_reducible exact hSv) (first | (go_at_call 160; refine (HL4.out _ _ _ _ _ _ _ (HX6d.out.below (bel_one _ _)) (one_RL _ v) (HPk.out.below (bel_one _ _))).mono ?_; rintro e w7 ⟨xa2, xc2, rfl, b7⟩; have h7 : S7p w7 w.heap.size (.slice (some ⟨pb, off, none⟩) m pc) (w.heap.size + 1 + 1) v pb (off + k) (.slice (A k) g (C k)) := S7p.below (S7p.below hSv (bel_one _ _)) b7))
        have HB7 := Hid.mk' (HB3.out.trans ((bel_next (bel_next HB6d.out (bel_one _ _)) b7).mono hs3))
        clear hSv h7 b7
        go_wp2
        go_loopw [14, 15, 16] (fun rv ok ii wr => rv = .slice xa2 0 xc2 ∧ ok = .bool false ∧ ii = .int .i64 0 ∧ wr = w7) (fun _ _ _ _ => 0)
        case atStart => exact ⟨rfl, rfl, rfl, rfl⟩
        case round =>
          obtain ⟨rfl, rfl, rfl, rfl⟩ := hrel
          go_wp2
          refine bodyPost_ret (results_tmp2 rfl _ _ _) rfl ?_
          exact ⟨HB7.out, .inr ⟨HMN.out, _, _, rfl⟩⟩
      · have HL4 : Hid (∀ (W : World) (za : Option Addr) (zc : Nat) (zad : Nat → Option Addr) (zcp : Nat → Nat) (na : Option Addr) (nc : Nat), RdS W za g zc zad (lN R1) zcp (fN R1) → RL W na nc [v] → RdS W (A k) g (C k) (AD k) (lN (P k)) (CP k) (fN (P k)) → Calls Tryz.prog 160 #[.slice za g zc, .slice na 1 nc, .slice (A k) g (C k)] W fun r w' => ∃ ra rc ad cp Rb B, r = .returned (.tuple #[.slice ra g rc, .bool true]) ∧ Below W.heap.size W w' ∧ OutS W.heap.size w' ra g rc ad (lN R2) cp (fN R2) Rb B) := fun W za zc zad zcp na nc k1 k2 k3 => (HL3.out W za zc zad zcp na nc k1 k2 k3).mono fun r w' h => h.yes
        clear HL3
        go_wp2_with fail
        have hSv := HSV.out
        go_region_held3 (fun x => S7p x w.heap.size (.slice (some ⟨pb, off, none⟩) m pc) (w.heap.size + 1 + 1) v pb (off + k) (.slice (A k) g (C k))) (first | with_reducible exact h7 | with_reducible exact S7p.below hSv (bel_one _ _) | with_reducible exact hSv) (first | (go_at_call 160; refine (HL4.out _ _ _ _ _ _ _ (HX6d.out.below (bel_one _ _)) (one_RL _ v) (HPk.out.below (bel_one _ _))).mono ?_; rintro e w7 ⟨ya, yc, yad, ycp, yRb, yB, rfl, b7, ho7⟩; have h7 : S7p w7 w.heap.size (.slice (some ⟨pb, off, none⟩) m pc) (w.heap.size + 1 + 1) v pb (off + k) (.slice (A k) g (C k)) := S7p.below (S7p.below hSv (bel_one _ _)) b7))
        have hB7 := bel_next (bel_next HB6d.out (bel_one _ _)) b7
        have HB7 := Hid.mk' hB7
        have HO7 := Hid.mk' ho7
        have HSZ : Hid (w.heap.size ≤ (w6.drew.alloc (.cells #[.int .i64 v.c, .int .i64 v.m.x, .int .i64 v.m.y, .int .i64 v.m.d, .int .i64 v.m.e] 42)).heap.size) := Nat.le_trans (Nat.le_trans hs3 HB6d.out.size) (by simp)
        clear hSv h7 b7 ho7 hB7
        go_wp2
        go_loopw [14, 15, 16] (fun rv ok ii wr => ∃ t : Nat, t ≤ m ∧ ii = .int .i64 (t : Int) ∧ Below w3.heap.size w3 wr ∧ ((ok = .bool true ∧ ∃ (X : Nat → List T) (ra : Option Addr) (rc : Nat) (ad : Nat → Option Addr) (cp : Nat → Nat) (lo Rb : Nat) (B : Nat → Nat), rv = .slice ra g rc ∧ madeN g P qs (made1 g P i k u v) t = some X ∧ w.heap.size ≤ lo ∧ OutS lo wr ra g rc ad (lN X) cp (fN X) Rb B) ∨ (ok = .bool false ∧ (∃ xa xc, rv = .slice xa 0 xc) ∧ made g P i k u v m qs = none))) (fun _ _ ii _ => m - (intOf ii).toNat)
        case atStart => exact ⟨0, Nat.zero_le _, rfl, HB7.out, .inl ⟨rfl, R2, ya, yc, yad, ycp, _, yRb, yB, rfl, HMD.out, HSZ.out, HO7.out⟩⟩
        case round =>
          obtain ⟨t, ht, rfl, hB, hcase⟩ := hrel
          have HB := Hid.mk' hB
          rcases hcase with ⟨rfl, X, ra, rc, ad, cp, lo, Rb, Bq, rfl, hX, hlo, hO⟩ | ⟨rfl, ⟨xa2, xc2, rfl⟩, hno⟩
          · have HX := Hid.mk' hX
            have HO := Hid.mk' hO
            clear hX
            by_cases htm : t < m
            · have htl : (t : Int) < (m : Int) := by omega
              rcases HQ3.out.2.2.1 with h0 | ⟨qb, qoff, rfl, hqb, hqc⟩
              · omega
              obtain ⟨q1, hq1⟩ : ∃ q1, qs t = q1 := ⟨_, rfl⟩
              have dr7 : Below wr.heap.size wr wr.drew := (Below.refl _ _).drew
              have hBd := bel_next hB dr7
              have hSt : S3p wr.drew w.heap.size (.slice (some ⟨pb, off, none⟩) m pc) qb (qoff + t) (.slice (adQ t) q1.length (cpQ t)) pb (off + t) (.slice (A t) g (C t)) := ⟨(hBd.cell (p := ⟨w.heap.size, 1, none⟩) (World.block_lt_of_cell? w3 _ HCB.out)).trans HCB.out, (hBd.cell (p := ⟨qb, qoff + t, none⟩) hqb).trans (by rw [← hq1]; exact hqc t htm), (hBd.cell (p := ⟨pb, off + t, none⟩) hpl).trans (HPC.out t htm)⟩
              have HST := Hid.mk' hSt
              have RQ : Hid (RL wr.drew (adQ t) (cpQ t) q1) := by rw [← hq1]; exact (HQ3.out.2.2.2 t htm).below hBd
              have RP := Hid.mk' ((HP3.out.2.2.2 t htm).below hBd)
              have RX := Hid.mk' (hO.rd.below dr7)
              have okq : okL q1 = true := by rw [← hq1]; exact HQO.out t htm
              have okX := made_ok (u := u) (v := v) hi hk HPO.out HNG.out HON.out HQO.out t X ht HX.out
              obtain ⟨E3, hE3⟩ : ∃ E, lessR X q1 (P t) g = E := ⟨_, rfl⟩
              have hstep : madeN g P qs (made1 g P i k u v) (t + 1) = E3 := by rw [madeN_step HX.out, hq1, hE3]
              have hc := l9LessS wr.drew g hg ra rc ad cp X RX.out okX (adQ t) (cpQ t) q1 RQ.out okq (A t) (C t) (AD t) (CP t) (P t) RP.out (HPO.out t htm)
              rw [hE3] at hc
              have HC := Hid.mk' hc
              have HSTEP := Hid.mk' hstep
              have HBd := Hid.mk' hBd
              clear hSt hqc hq1 hBd dr7 hc hstep hE3 okX okq hB hO
              rcases E3 with _ | X3
              · have HC2 := Hid.mk' (HC.out.mono fun r w' h => LessP.no h)
                have hmn : made g P i k u v m qs = none := by
                  have := madeN_none (g := g) (P := P) (qs := qs) (row := made1 g P i k u v) HSTEP.out (m - (t + 1))
                  rwa [show t + 1 + (m - (t + 1)) = m by omega] at this
                have HMN := Hid.mk' hmn
                clear hmn HC
                go_wp2_with fail
                have hS := HST.out
                go_region_held3 (fun x => S3p x w.heap.size (.slice (some ⟨pb, off, none⟩) m pc) qb (qoff + t) (.slice (adQ t) q1.length (cpQ t)) pb (off + t) (.slice (A t) g (C t))) (first | with_reducible exact S3p.below hS b8 | with_reducible exact hS) (first | (go_at_call 160; refine HC2.out.mono ?_; rintro e w8 ⟨xa3, xc3, rfl, b8⟩))
                have HB8 := Hid.mk' (bel_next HBd.out b8)
                clear hS b8
                go_wp2
                go_roundw
                case rel => exact ⟨t + 1, by omega, by go_num, HB8.out, .inr ⟨rfl, ⟨xa3, xc3, rfl⟩, HMN.out⟩⟩
                case measure => simp [intOf]; omega
              · have HC2 := Hid.mk' (HC.out.mono fun r w' h => LessP.yes h)
                clear HC
                go_wp2_with fail
                have hS := HST.out
                go_region_held3 (fun x => S3p x w.heap.size (.slice (some ⟨pb, off, none⟩) m pc) qb (qoff + t) (.slice (adQ t) q1.length (cpQ t)) pb (off + t) (.slice (A t) g (C t))) (first | with_reducible exact S3p.below hS b8 | with_reducible exact hS) (first | (go_at_call 160; refine HC2.out.mono ?_; rintro e w8 ⟨ya3, yc3, yad3, ycp3, yRb3, yB3, rfl, b8, ho8⟩))
                have HB8 := Hid.mk' (bel_next HBd.out b8)
                have HO8 := Hid.mk' ho8
                have hlo8 : w.heap.size ≤ wr.drew.heap.size := by have := HBd.out.size; omega
                have HLO8 := Hid.mk' hlo8
                clear hS b8 ho8 hlo8
                go_wp2
                go_roundw
                case rel => exact ⟨t + 1, by omega, by go_num, HB8.out, .inl ⟨rfl, X3, ya3, yc3, yad3, ycp3, _, yRb3, yB3, rfl, HSTEP.out, HLO8.out, HO8.out⟩⟩
                case measure => simp [intOf]; omega
            · have hte : t = m := by omega
              subst hte
              have hnl : ¬ (t : Int) < (t : Int) := by omega
              have HBW := Hid.mk' (HB3.out.trans (hB.mono hs3))
              clear hB hO
              go_wp2
              refine bodyPost_ret (results_tmp2 rfl _ _ _) rfl ?_
              exact ⟨HBW.out, .inl ⟨X, ra, rc, ad, cp, lo, Rb, Bq, HX.out, rfl, hlo, HO.out⟩⟩
          · have HNO := Hid.mk' hno
            have HBW := Hid.mk' (HB3.out.trans (hB.mono hs3))
            clear hno hB
            by_cases htm : t < m
            · have htl : (t : Int) < (m : Int) := by omega
              go_wp2
              refine bodyPost_ret (results_tmp2 rfl _ _ _) rfl ?_
              exact ⟨HBW.out, .inr ⟨HNO.out, _, _, rfl⟩⟩
            · have htl : ¬ (t : Int) < (m : Int) := by omega
              go_wp2
              refine bodyPost_ret (results_tmp2 rfl _ _ _) rfl ?_
              exact ⟨HBW.out, .inr ⟨HNO.out, _, _, rfl⟩⟩)
end Go.Proofs.YtdidlcjhodejjaaGreat
