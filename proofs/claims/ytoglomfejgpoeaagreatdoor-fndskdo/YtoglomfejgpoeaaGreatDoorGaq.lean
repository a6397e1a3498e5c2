/-
  The program's PolText.
  A monomial's rank: what is made on the way lies behind what was there, and draws only rise.
  The closure by which a sum's monomials are put in order.
-/
import Derived.Test.YtoglomfejgpoeaaGreatDoorGan
import Derived.Laws.MakeOwn
import Derived.Test.YtoglomfejgpoeaaGreatDoorGab
import Derived.Sort.Row
import Derived.Shelf.SlSortCmp.QuietGrown
import Derived.Test.YtoglomfejgpoeaaGreatDoorGam
namespace Go.Proofs.YtoglomfejgpoeaaGreatDoor
open Go.RowKit
set_option linter.unusedVariables false
set_option linter.unusedSimpArgs false
theorem map_back (xs : List (List UInt8)) : (xs.map fun l => (⟨l.toArray⟩ : ByteArray)).map (fun s => s.data.toList) = xs := by
  rw [List.map_map]
  exact (List.map_congr_left (fun l _ => rfl)).trans (List.map_id xs)
theorem infoStr : (Tryz.prog.info? 9).map (fun i => (i.zero, i.size, i.bytes)) = some (some (.string ⟨#[]⟩), 1, 16) := by kernel_rfl
def strL (xs : List (List UInt8)) : List Value := xs.map fun l => Value.string ⟨l.toArray⟩
theorem strL_len (xs : List (List UInt8)) : (strL xs).length = xs.length := by simp [strL]
theorem one_str (s : ByteArray) : ∀ u ∈ [Value.string s], u.oneCell' = true := fun u hu => by
  rw [List.mem_singleton] at hu
  subst hu
  rfl
def PtI (w : World) (f : Nat → T) (k : Nat) (v : Value) (wr : World) : Prop := wr.ownsRow w.heap.size 9 1 v k (strL (txs f k)) ∧ Below w.heap.size w wr
set_option maxRecDepth 100000 in
set_option maxHeartbeats 8000000 in
theorem polTextI (w : World) (a : Option Addr) (n cap : Nat) (f : Nat → T) (h : Rd w a n cap f) (hT : Tb w) :
    Calls Tryz.prog 64 #[.slice a n cap] w fun r w' => r = .returned (.string ⟨(polT n f).toArray⟩) ∧ Below w.heap.size w w' := by
  have HH := Hid.mk' h
  have HTB := Hid.mk' hT
  have hnI : (n : Int) ≤ 9223372036854775807 := by have := h.2.1; omega
  obtain ⟨ok, hok⟩ : ∃ b, polOk n f = b := ⟨_, rfl⟩
  have hc := polOkI w a n cap f h
  rw [hok] at hc
  have HC := Hid.mk' hc
  have HOK := Hid.mk' hok
  clear hc hok h hT
  obtain ⟨R, hR⟩ : ∃ R, polT n f = R := ⟨_, rfl⟩
  rw [hR]
  cases ok
  · have HR := Hid.mk' (hR.symm.trans (polT_no HOK.out))
    clear hR
    go_enter Tryz.func64, Tryz.ntmps64
    go_wp2_with fail
    refine HC.out.mono ?_
    rintro r w1 ⟨rfl, hb⟩
    go_wp2
    go_ret
    exact ⟨by rw [HR.out]; rfl, hb⟩
  · by_cases h0 : n = 0
    · have HR := Hid.mk' (hR.symm.trans (polT_zero HOK.out h0))
      have hn0 : ((n : Int) == 0) = true := by rw [h0]; rfl
      clear hR h0
      go_enter Tryz.func64, Tryz.ntmps64
      go_wp2_with fail
      refine HC.out.mono ?_
      rintro r w1 ⟨rfl, hb⟩
      go_wp2
      go_ret
      exact ⟨by rw [HR.out]; rfl, hb⟩
    · have HR := Hid.mk' (hR.symm.trans ((polT_is HOK.out h0).trans (join_txs f n).symm))
      have hn0 : ((n : Int) == 0) = false := beq_eq_false_iff_ne.2 (by omega)
      have HALL := Hid.mk' (polOk_is HOK.out)
      have n400 := (polOk_is HOK.out).1
      have n400I : (n : Int) ≤ 400 := by omega
      clear hR
      obtain ⟨b, off, rfl, hblt, hcl⟩ := HH.out.2.2.resolve_left h0
      have HCL := Hid.mk' hcl
      clear hcl
      obtain ⟨i0, hi0, hz0, hz1, hz2⟩ := info_parts infoStr
      go_enter Tryz.func64, Tryz.ntmps64
      go_wp2_with fail
      refine HC.out.mono ?_
      rintro r w1 ⟨rfl, hb⟩
      have HB1 := Hid.mk' hb
      have hs1 := hb.size
      clear hb HC
      obtain ⟨w2, hrun, hown2, hgr2⟩ := run_make_own (P := Tryz.prog) w1 w.heap.size 46 9 i0 _ 1 Tryz.underlying46 hi0 hz0 hz1 .i64 .i64 n (by rw [hz2]; omega) (by unfold maxLen; omega) hs1
      have b2 : Below w.heap.size w w2 := HB1.out.trans ⟨hgr2.os, hgr2.tape, hgr2.output, hgr2.size, fun k hk => hgr2.block k (by omega) (by simp)⟩
      have HI0 : Hid (PtI w f 0 (.slice (some ⟨w1.heap.size, 0, none⟩) 0 n) w2) := ⟨hown2, b2⟩
      clear hown2 hgr2 b2
      go_wp2
      clear hrun
      go_loopw [17, 3] (fun v17 v3 wr => ∃ (k g cp : Nat), k ≤ n ∧ v17 = .int .i64 (k : Int) ∧ v3 = .slice (some ⟨g, 0, none⟩) k cp ∧ Hid (PtI w f k (.slice (some ⟨g, 0, none⟩) k cp) wr)) (fun v17 _ _ => n - (intOf v17).toNat)
      case atStart => exact ⟨0, _, _, Nat.zero_le _, rfl, rfl, HI0⟩
      case round =>
        obtain ⟨k, g, cp, hk, rfl, rfl, HI⟩ := hrel
        by_cases hkn : k < n
        · have hklI : (k : Int) < (n : Int) := by omega
          obtain ⟨⟨tc1, tc2⟩, tmo⟩ := HALL.out.2 k hkn
          obtain ⟨t, ht⟩ : ∃ t, f k = t := ⟨_, rfl⟩
          have HJ := Hid.mk' (show txs f (k + 1) = txs f k ++ [trmT t] by rw [← ht]; exact txs_succ f k)
          obtain ⟨g0, g1, g2, g3, g4⟩ := (HCL.out k hkn).below HI.out.2 hblt
          rw [ht] at tc1 tc2 tmo g0 g1 g2 g3 g4
          clear ht
          obtain ⟨c, ⟨x, y, d, e⟩⟩ := t
          simp only at tc1 tc2 tmo g0 g1 g2 g3 g4
          obtain ⟨C, rfl⟩ : ∃ C : Nat, c = (C : Int) := ⟨c.toNat, by omega⟩
          have hC100 : C ≤ 100 := by omega
          have bt := bel_one wr (.cells #[.int .i64 (C : Int), .int .i64 x, .int .i64 y, .int .i64 d, .int .i64 e] 80)
          have hsw : w.heap.size ≤ wr.heap.size := HI.out.2.size
          have HBT := Hid.mk' (HI.out.2.alloc hsw (.cells #[.int .i64 (C : Int), .int .i64 x, .int .i64 y, .int .i64 d, .int .i64 e] 80))
          have HTt := Hid.mk' ((HTB.out.below HI.out.2).below bt)
          have HO := Hid.mk' (HI.out.1.alloc (.cells #[.int .i64 (C : Int), .int .i64 x, .int .i64 y, .int .i64 d, .int .i64 e] 80))
          have HCT := Hid.mk' (polTermTextI C (by omega) x y d e tmo _ HTt.out)
          obtain ⟨TT, hTT⟩ : ∃ TT, trmT ⟨(C : Int), ⟨x, y, d, e⟩⟩ = TT := ⟨_, rfl⟩
          rw [hTT] at HCT HJ
          clear hTT HTt bt tmo HI
          go_wp2_with fail
          refine HCT.out.mono ?_
          rintro r w3 ⟨rfl, hb3⟩
          have hO3 : w3.ownsRow w.heap.size 9 1 (.slice (some ⟨g, 0, none⟩) k cp) k (strL (txs f k)) := owns_below HO.out hb3
          have hB3 := HBT.out.trans (hb3.mono (by simp; omega))
          have hs3 : w.heap.size ≤ w3.heap.size := hB3.size
          have HO4 := Hid.mk' (hO3.alloc (.cells #[.string ⟨TT.toArray⟩] 9))
          have HB4 := Hid.mk' (hB3.alloc hs3 (.cells #[.string ⟨TT.toArray⟩] 9))
          have HN := Hid.mk' (heap_alloc_new w3 (.cells #[.string ⟨TT.toArray⟩] 9))
          clear hb3 hO3 hB3 HO HBT HCT g0 g1 g2 g3 g4
          have hmax : k + 1 ≤ maxLen := by unfold maxLen; omega
          go_wp2_with (at_builtin; refine wpList_append_lies _ rfl (.tmp 21) (.tmp 24) 46 rfl w.heap.size 9 i0 _ 1 16 Tryz.underlying46 hi0 hz0 hz1 hz2 rfl (by omega) _ k (strL (txs f k)) rfl HO4.out ⟨w3.heap.size, 0, none⟩ 1 1 [.string ⟨TT.toArray⟩] rfl rfl (World.news_of_block HN.out) (one_str _) (by omega) hmax (by omega) (by simp; omega) _ rfl ?_; intro g1 cap1 w7 hown2 hgrow2 hat2 hlt2; have HO7 := Hid.mk' hown2; have HB7 := Hid.mk' (HB4.out.grown hgrow2 (by simp; omega) (fun k' e' => (HO4.out.lt k' e').1)); clear hown2 hgrow2 hat2 hlt2)
          go_roundw
          case rel => exact ⟨k + 1, g1, cap1, by omega, by go_num, rfl, ⟨by rw [HJ.out]; unfold strL; rw [List.map_append]; exact HO7.out, HB7.out⟩⟩
          case measure => simp [intOf]; omega
        · have hke : k = n := by omega
          subst hke
          have hnl : ¬ (k : Int) < (k : Int) := by omega
          have hlen : (Lib.join (txs f k) [43]).length ≤ 140737488355328 := by
            rw [join_txs]
            have := jnT_len k (fun i hi => HALL.out.2 i hi)
            omega
          have hj := joinI g cp ((txs f k).map fun l => ⟨l.toArray⟩) wr (fun j s hs => by
            rw [Nat.zero_add, HI.out.1.cellAt j (by
              have := (List.getElem?_eq_some_iff.1 hs).1
              rw [List.length_map, txs_len] at this
              omega)]
            rw [List.getElem?_map] at hs
            unfold strL
            rw [List.getElem?_map]
            cases hq : (txs f k)[j]? with
            | none => rw [hq] at hs; cases hs
            | some l => rw [hq] at hs; cases hs; rfl) (HI.out.1.lt g rfl).2 (by rw [List.length_map, txs_len]; omega) (by
              rw [List.length_map, txs_len]
              rcases HI.out.1.2 with ⟨e, _⟩ | ⟨g', cap', cur, e, _, _, hnc, _⟩
              · cases e
              · cases e; exact hnc) (by
              have e : ((txs f k).map fun l => (⟨l.toArray⟩ : ByteArray)).map (fun s => s.data.toList) = txs f k := map_back _
              rw [e]; exact hlen)
          have e : ((txs f k).map fun l => (⟨l.toArray⟩ : ByteArray)).map (fun s => s.data.toList) = txs f k := map_back _
          rw [e, List.length_map, txs_len, ← HR.out] at hj
          have HJ := Hid.mk' hj
          clear hj hlen e
          go_wp2_with fail
          refine HJ.out.mono ?_
          rintro r w9 ⟨rfl, hb9⟩
          have HB9 := Hid.mk' (bel_next HI.out.2 hb9)
          clear hb9
          go_wp2
          go_ret
          exact ⟨rfl, HB9.out⟩
end Go.Proofs.YtoglomfejgpoeaaGreatDoor
namespace Go.Proofs.YtoglomfejgpoeaaGreatDoor
open Go.RowKit Go.Sort
set_option linter.unusedVariables false

/-- u grew out of w: all that lay in w lies there, and draws rose. -/
structure Gr (w u : World) : Prop where
  below : Below w.heap.size w u
  drawn : w.drawn ≤ u.drawn
theorem Gr.refl (w : World) : Gr w w := ⟨Below.refl _ _, Nat.le_refl _⟩
theorem Gr.trans {a b c : World} (h : Gr a b) (k : Gr b c) : Gr a c := ⟨h.below.trans (k.below.mono h.below.size), Nat.le_trans h.drawn k.drawn⟩
theorem Gr.alloc (w : World) (o : Obj) : Gr w (w.alloc o) := ⟨bel_one w o, by simp⟩
theorem Gr.drew (w : World) : Gr w w.drew := ⟨(Below.refl _ _).drew, by simp⟩
theorem Gr.form {w u : World} (h : Gr w u) : ∃ q os, u = grow (w.drewN q) os := by
  refine ⟨u.drawn - w.drawn, u.heap.extract w.heap.size u.heap.size, ?_⟩
  obtain ⟨⟨h1, h2, h3, h4, h5⟩, h6⟩ := h
  cases u with
  | mk heap tape drawn os output =>
    simp only at h1 h2 h3 h4 h5 h6
    subst h1 h2 h3
    have hh : w.heap ++ heap.extract w.heap.size heap.size = heap := by
      apply Array.ext_getElem?
      intro i
      by_cases hi : i < w.heap.size
      · rw [Array.getElem?_append_left hi, h5 i hi]
      · rw [Array.getElem?_append_right (by omega), Array.getElem?_extract]
        split
        · congr 1; omega
        · exact (Array.getElem?_eq_none (by omega)).symm
    have hd : w.drawn + (drawn - w.drawn) = drawn := by omega
    simp only [grow, World.drewN]
    rw [hh, hd]
def ExtG (w : World) : Type := Subtype (fun u : World => Gr w u)
theorem ExtG.there (w : World) : Nonempty (ExtG w) := ⟨⟨w, Gr.refl _⟩⟩
theorem wp_region_extG {P : Program} {id : Nat} {Q : Exit → Act → World → Prop} {a : Act} {w : World} {l : List Oper} (hm : P.follows .mixedOrders = true) (hB : Region.lexB .any l.toArray = true)
    (h : wpQuiet P l.toArray (fun u => ∃ x : ExtG w, u = x.1) (fun a' => ∀ w', (∃ x : ExtG w, w' = x.1) → Q .normal a' w') l a) : (Code.region id l.toArray true).wp P Q a w :=
  wp_region_quiet (C := fun u => ∃ x : ExtG w, u = x.1) hm hB ⟨⟨_, Gr.drew _⟩, rfl⟩ (by simpa using h)
theorem extG_same {P : Program} {f : FuncId} {args : Array Value} {w : World} {x : ExtG w} {v : Value}
    (h : Calls P f args x.1 fun e w' => e = .returned v ∧ w' = x.1) : Calls P f args x.1 fun e w'' => e = .returned v ∧ ∃ y : ExtG w, w'' = y.1 :=
  h.mono fun _ _ ⟨he, hm⟩ => ⟨he, x, hm⟩
theorem extG_grows {P : Program} {f : FuncId} {args : Array Value} {w : World} {x : ExtG w} {v : Value}
    (h : Calls P f args x.1 fun e w' => e = .returned v ∧ Gr x.1 w') : Calls P f args x.1 fun e w'' => e = .returned v ∧ ∃ y : ExtG w, w'' = y.1 :=
  h.mono fun _ w' ⟨he, hm⟩ => ⟨he, ⟨w', x.2.trans hm⟩, rfl⟩
theorem extG_box {w : World} {t : TypeId} (cs : Array Value) (k : Nat) (v : Value) (h : cs[k]? = some v) : ∀ u : ExtG (w.alloc (.cells cs t)), u.1.cell? ⟨w.heap.size, k, none⟩ = some v := fun u => by
  have := ext_box (w := w) (t := t) cs k v h ⟨u.1, u.2.below⟩
  exact this
set_option maxHeartbeats 400000 in
theorem degreeG (x y d e : Int) (w : World) (h : M.ok ⟨x, y, d, e⟩ = true) :
    Calls Tryz.prog 131 #[.agg #[.int .i64 x, .int .i64 y, .int .i64 d, .int .i64 e]] w fun r w' => r = .returned (.int .i64 (x + y + d + e)) ∧ Gr w w' := by
  obtain ⟨x1, x2, y1, y2, d1, d2, e1, e2⟩ := M.ok_iff.1 h
  simp only at x1 x2 y1 y2 d1 d2 e1 e2
  clear h
  go_enter Tryz.func131, Tryz.ntmps131
  go_wp2
  go_ret
  exact ⟨rfl, Gr.alloc w _⟩
set_option maxHeartbeats 400000 in
theorem rankLexG (x y d e : Int) (w : World) (h : M.ok ⟨x, y, d, e⟩ = true) :
    Calls Tryz.prog 132 #[.agg #[.int .i64 x, .int .i64 y, .int .i64 d, .int .i64 e]] w fun r w' => r = .returned (.int .i64 (rkL ⟨x, y, d, e⟩)) ∧ Gr w w' := by
  obtain ⟨x1, x2, y1, y2, d1, d2, e1, e2⟩ := M.ok_iff.1 h
  simp only at x1 x2 y1 y2 d1 d2 e1 e2
  clear h
  simp only [rkL]
  go_enter Tryz.func132, Tryz.ntmps132
  go_wp2
  go_ret
  exact ⟨rfl, Gr.alloc w _⟩
set_option maxHeartbeats 1000000 in
theorem rankDegG (x y d e : Int) (w : World) (h : M.ok ⟨x, y, d, e⟩ = true) :
    Calls Tryz.prog 91 #[.agg #[.int .i64 x, .int .i64 y, .int .i64 d, .int .i64 e]] w fun r w' => r = .returned (.int .i64 (rkD ⟨x, y, d, e⟩)) ∧ Gr w w' := by
  obtain ⟨x1, x2, y1, y2, d1, d2, e1, e2⟩ := M.ok_iff.1 h
  simp only at x1 x2 y1 y2 d1 d2 e1 e2
  have HK := Hid.mk' h
  have k1 : 0 ≤ rkL ⟨x, y, d, e⟩ := by simp only [rkL]; omega
  have k2 : rkL ⟨x, y, d, e⟩ ≤ 65535 := by simp only [rkL]; omega
  have r1 : rkD ⟨x, y, d, e⟩ = (x + y + d + e) * 65536 + rkL ⟨x, y, d, e⟩ := rfl
  rw [r1]
  clear h r1
  go_enter Tryz.func91, Tryz.ntmps91
  go_wp2_with fail
  have B1 := Hid.mk' (Gr.alloc w (.cells #[.int .i64 x, .int .i64 y, .int .i64 d, .int .i64 e] 78))
  have ne := ExtG.there (w.alloc (.cells #[.int .i64 x, .int .i64 y, .int .i64 d, .int .i64 e] 78))
  have s0 := extG_box (w := w) (t := 78) #[.int .i64 x, .int .i64 y, .int .i64 d, .int .i64 e] 0 _ rfl
  have s1 := extG_box (w := w) (t := 78) #[.int .i64 x, .int .i64 y, .int .i64 d, .int .i64 e] 1 _ rfl
  have s2 := extG_box (w := w) (t := 78) #[.int .i64 x, .int .i64 y, .int .i64 d, .int .i64 e] 2 _ rfl
  have s3 := extG_box (w := w) (t := 78) #[.int .i64 x, .int .i64 y, .int .i64 d, .int .i64 e] 3 _ rfl
  refine wp_region_extG (by kernel_rfl) (by kernel_rfl) ?_
  repeat (go_big_quiet_step (first | (go_at_call 131; exact extG_grows (degreeG _ _ _ _ _ HK.out)) | (go_at_call 132; exact extG_grows (rankLexG _ _ _ _ _ HK.out))))
  refine wpQuiet_nil ?_
  rintro _ ⟨u, rfl⟩
  go_wp2
  go_ret
  exact ⟨rfl, B1.out.trans u.2⟩
end Go.Proofs.YtoglomfejgpoeaaGreatDoor
namespace Go.Proofs.YtoglomfejgpoeaaGreatDoor
open Go.RowKit Go.Sort
set_option linter.unusedVariables false

theorem ExtG.cell {w : World} (x : ExtG w) {b o : Nat} (h : b < w.heap.size) : x.1.cell? ⟨b, o, none⟩ = w.cell? ⟨b, o, none⟩ := x.2.below.cell (p := ⟨b, o, none⟩) h
set_option maxHeartbeats 2000000 in
theorem cmpClosure (Br : Nat) (x y d e x' y' d' e' : Int) (w : World) (h : M.ok ⟨x, y, d, e⟩ = true) (h' : M.ok ⟨x', y', d', e'⟩ = true) (hB : Br < w.heap.size) (hr : w.cell? ⟨Br, 0, none⟩ = some (.func (.func 91) #[] #[])) :
    Calls Tryz.prog 153 #[.agg #[.int .i64 x, .int .i64 y, .int .i64 d, .int .i64 e], .agg #[.int .i64 x', .int .i64 y', .int .i64 d', .int .i64 e'], .pointer (some ⟨Br, 0, none⟩)] w fun r w' => r = .returned (.int .i64 (c3 (rkD ⟨x, y, d, e⟩) (rkD ⟨x', y', d', e'⟩))) ∧ Gr w w' := by
  have HA := Hid.mk' h
  have HB := Hid.mk' h'
  clear h h'
  go_enter Tryz.func153, Tryz.ntmps153
  go_wp2_with fail
  have B1 := Hid.mk' ((Gr.alloc w (.cells #[.int .i64 x, .int .i64 y, .int .i64 d, .int .i64 e] 78)).trans (Gr.alloc _ (.cells #[.int .i64 x', .int .i64 y', .int .i64 d', .int .i64 e'] 78)))
  have r0 : ((w.alloc (.cells #[.int .i64 x, .int .i64 y, .int .i64 d, .int .i64 e] 78)).alloc (.cells #[.int .i64 x', .int .i64 y', .int .i64 d', .int .i64 e'] 78)).cell? ⟨Br, 0, none⟩ = some (.func (.func 91) #[] #[]) := (B1.out.below.cell (p := ⟨Br, 0, none⟩) hB).trans hr
  have a0 : ((w.alloc (.cells #[.int .i64 x, .int .i64 y, .int .i64 d, .int .i64 e] 78)).alloc (.cells #[.int .i64 x', .int .i64 y', .int .i64 d', .int .i64 e'] 78)).cell? ⟨w.heap.size, 0, none⟩ = some (.int .i64 x) := by go_simp
  have a1 : ((w.alloc (.cells #[.int .i64 x, .int .i64 y, .int .i64 d, .int .i64 e] 78)).alloc (.cells #[.int .i64 x', .int .i64 y', .int .i64 d', .int .i64 e'] 78)).cell? ⟨w.heap.size, 1, none⟩ = some (.int .i64 y) := by go_simp
  have a2 : ((w.alloc (.cells #[.int .i64 x, .int .i64 y, .int .i64 d, .int .i64 e] 78)).alloc (.cells #[.int .i64 x', .int .i64 y', .int .i64 d', .int .i64 e'] 78)).cell? ⟨w.heap.size, 2, none⟩ = some (.int .i64 d) := by go_simp
  have a3 : ((w.alloc (.cells #[.int .i64 x, .int .i64 y, .int .i64 d, .int .i64 e] 78)).alloc (.cells #[.int .i64 x', .int .i64 y', .int .i64 d', .int .i64 e'] 78)).cell? ⟨w.heap.size, 3, none⟩ = some (.int .i64 e) := by go_simp
  have b0 : ((w.alloc (.cells #[.int .i64 x, .int .i64 y, .int .i64 d, .int .i64 e] 78)).alloc (.cells #[.int .i64 x', .int .i64 y', .int .i64 d', .int .i64 e'] 78)).cell? ⟨w.heap.size + 1, 0, none⟩ = some (.int .i64 x') := by go_simp
  have b1 : ((w.alloc (.cells #[.int .i64 x, .int .i64 y, .int .i64 d, .int .i64 e] 78)).alloc (.cells #[.int .i64 x', .int .i64 y', .int .i64 d', .int .i64 e'] 78)).cell? ⟨w.heap.size + 1, 1, none⟩ = some (.int .i64 y') := by go_simp
  have b2 : ((w.alloc (.cells #[.int .i64 x, .int .i64 y, .int .i64 d, .int .i64 e] 78)).alloc (.cells #[.int .i64 x', .int .i64 y', .int .i64 d', .int .i64 e'] 78)).cell? ⟨w.heap.size + 1, 2, none⟩ = some (.int .i64 d') := by go_simp
  have b3 : ((w.alloc (.cells #[.int .i64 x, .int .i64 y, .int .i64 d, .int .i64 e] 78)).alloc (.cells #[.int .i64 x', .int .i64 y', .int .i64 d', .int .i64 e'] 78)).cell? ⟨w.heap.size + 1, 3, none⟩ = some (.int .i64 e') := by go_simp
  have z : ((w.alloc (.cells #[.int .i64 x, .int .i64 y, .int .i64 d, .int .i64 e] 78)).alloc (.cells #[.int .i64 x', .int .i64 y', .int .i64 d', .int .i64 e'] 78)).heap.size = w.heap.size + 2 := by simp
  generalize (w.alloc (.cells #[.int .i64 x, .int .i64 y, .int .i64 d, .int .i64 e] 78)).alloc (.cells #[.int .i64 x', .int .i64 y', .int .i64 d', .int .i64 e'] 78) = wb at *
  have ne := ExtG.there wb
  have sr : ∀ u : ExtG wb, u.1.cell? ⟨Br, 0, none⟩ = some (.func (.func 91) #[] #[]) := fun u => (u.cell (by omega)).trans r0
  have s0 : ∀ u : ExtG wb, u.1.cell? ⟨w.heap.size, 0, none⟩ = some (.int .i64 x) := fun u => (u.cell (by omega)).trans a0
  have s1 : ∀ u : ExtG wb, u.1.cell? ⟨w.heap.size, 1, none⟩ = some (.int .i64 y) := fun u => (u.cell (by omega)).trans a1
  have s2 : ∀ u : ExtG wb, u.1.cell? ⟨w.heap.size, 2, none⟩ = some (.int .i64 d) := fun u => (u.cell (by omega)).trans a2
  have s3 : ∀ u : ExtG wb, u.1.cell? ⟨w.heap.size, 3, none⟩ = some (.int .i64 e) := fun u => (u.cell (by omega)).trans a3
  have t0 : ∀ u : ExtG wb, u.1.cell? ⟨w.heap.size + 1, 0, none⟩ = some (.int .i64 x') := fun u => (u.cell (by omega)).trans b0
  have t1 : ∀ u : ExtG wb, u.1.cell? ⟨w.heap.size + 1, 1, none⟩ = some (.int .i64 y') := fun u => (u.cell (by omega)).trans b1
  have t2 : ∀ u : ExtG wb, u.1.cell? ⟨w.heap.size + 1, 2, none⟩ = some (.int .i64 d') := fun u => (u.cell (by omega)).trans b2
  have t3 : ∀ u : ExtG wb, u.1.cell? ⟨w.heap.size + 1, 3, none⟩ = some (.int .i64 e') := fun u => (u.cell (by omega)).trans b3
  clear a0 a1 a2 a3 b0 b1 b2 b3 r0
  refine wp_region_extG (by kernel_rfl) (by kernel_rfl) ?_
  repeat (go_big_quiet_step (first | (go_at_call 154; exact extG_same (compareI _ _ _)) | (go_at_call_of 91 (Value.int IntKind.i64 x); exact extG_grows (rankDegG _ _ _ _ _ HA.out)) | (go_at_call 91; exact extG_grows (rankDegG _ _ _ _ _ HB.out))))
  refine wpQuiet_nil ?_
  rintro _ ⟨u, rfl⟩
  go_wp2
  go_ret
  exact ⟨rfl, B1.out.trans u.2⟩
end Go.Proofs.YtoglomfejgpoeaaGreatDoor
