/-
  More of the program's chapter 3: the number of a monomial, whether operators are the same, whether one has no slopes, so many times an operator.
  The program's text of a term.
  The program's PolText.
-/
import Derived.Test.YtkcmamepoplcdaaGreatDoorGak
import Derived.Test.YtkcmamepoplcdaaGreatDoorGad
import Derived.Test.YtkcmamepoplcdaaGreatDoorGac
import Derived.Test.YtkcmamepoplcdaaGreatDoorGaf
import Derived.Laws.MakeOwn
namespace Go.Proofs.YtkcmamepoplcdaaGreatDoor
open Go.RowKit
set_option linter.unusedVariables false

theorem s4c_below {w w' : World} {b : Nat} {x y d e : Int} (hb : Below w.heap.size w w') (h : w.cell? ⟨b, 0, none⟩ = some (.int .i64 x) ∧ w.cell? ⟨b, 1, none⟩ = some (.int .i64 y) ∧ w.cell? ⟨b, 2, none⟩ = some (.int .i64 d) ∧ w.cell? ⟨b, 3, none⟩ = some (.int .i64 e)) :
    w'.cell? ⟨b, 0, none⟩ = some (.int .i64 x) ∧ w'.cell? ⟨b, 1, none⟩ = some (.int .i64 y) ∧ w'.cell? ⟨b, 2, none⟩ = some (.int .i64 d) ∧ w'.cell? ⟨b, 3, none⟩ = some (.int .i64 e) := M4.below h hb
theorem polOf_len (c : Int) (m : M) : (polOf c m).length ≤ 400 := by
  unfold polOf; split <;> simp
theorem polScale_len (c : Int) (f : Nat → T) (n : Nat) : (polScale c f n).length ≤ 400 := by
  unfold polScale; split
  · rename_i h; rw [scT_len]; exact (polOk_c h.2.1).1
  · simp
end Go.Proofs.YtkcmamepoplcdaaGreatDoor
namespace Go.Proofs.YtkcmamepoplcdaaGreatDoor
open Go.RowKit
set_option linter.unusedVariables false
set_option linter.unusedSimpArgs false
theorem mon_of {x y d e : Int} {p : List UInt8} (h : monT ⟨x, y, d, e⟩ = p) (w : World) : Calls Tryz.prog 93 #[.agg #[.int .i64 x, .int .i64 y, .int .i64 d, .int .i64 e]] w fun r w' => r = .returned (.string ⟨p.toArray⟩) ∧ Below w.heap.size w w' := by
  rw [← h]; exact monTextI x y d e w
theorem itoa_of {n : Nat} {p : List UInt8} (h : Lib.decDigits n = p) (hn : n ≤ 9223372036854775807) (w : World) (hT : Tb w) : Calls Tryz.prog 44 #[.int .i64 (n : Int)] w fun r w' => r = .returned (.string ⟨p.toArray⟩) ∧ Below w.heap.size w w' := by
  rw [← h]; exact itoaAll n hn w hT
set_option maxRecDepth 100000 in
set_option maxHeartbeats 4000000 in
theorem polTermTextI (C : Nat) (hC : C ≤ 9223372036854775807) (x y d e : Int) (hm : M.ok ⟨x, y, d, e⟩ = true) (w : World) (hT : Tb w) :
    Calls Tryz.prog 62 #[.agg #[.int .i64 (C : Int), .int .i64 x, .int .i64 y, .int .i64 d, .int .i64 e]] w fun r w' => r = .returned (.string ⟨(trmT ⟨(C : Int), ⟨x, y, d, e⟩⟩).toArray⟩) ∧ Below w.heap.size w w' := by
  obtain ⟨MT, hMT⟩ : ∃ MT, monT ⟨x, y, d, e⟩ = MT := ⟨_, rfl⟩
  have hml : MT.length ≤ 12 := by rw [← hMT]; exact monT_len hm
  obtain ⟨DT, hDT⟩ : ∃ DT, Lib.decDigits C = DT := ⟨_, rfl⟩
  have hdl : DT.length ≤ 20 := by rw [← hDT]; exact dec_len20 hC
  have htrm : trmT ⟨(C : Int), ⟨x, y, d, e⟩⟩ = if x = 0 ∧ y = 0 ∧ d = 0 ∧ e = 0 then DT else if (C : Int) = 1 then MT else DT ++ MT := by
    show (if x = 0 ∧ y = 0 ∧ d = 0 ∧ e = 0 then Lib.decDigits C else if (C : Int) = 1 then monT ⟨x, y, d, e⟩ else Lib.decDigits C ++ monT ⟨x, y, d, e⟩) = _
    rw [hMT, hDT]
  rw [htrm]
  have b0 := bel_one w (.cells #[.int .i64 (C : Int), .int .i64 x, .int .i64 y, .int .i64 d, .int .i64 e] 79)
  have HT0 := Hid.mk' (hT.below b0)
  have HB0 := Hid.mk' b0
  clear htrm hT b0
  by_cases hz : x = 0 ∧ y = 0 ∧ d = 0 ∧ e = 0
  · rw [if_pos hz]
    obtain ⟨rfl, rfl, rfl, rfl⟩ := hz
    have HC := Hid.mk' (itoa_of hDT hC _ HT0.out)
    clear hMT hDT
    go_enter Tryz.func62, Tryz.ntmps62
    go_wp2_with fail
    refine HC.out.mono ?_
    rintro r w1 ⟨rfl, hb⟩
    have HB1 := Hid.mk' (bel_next HB0.out hb)
    clear hb
    go_wp2
    go_ret
    exact ⟨rfl, HB1.out⟩
  · rw [if_neg hz]
    have key : ¬ x = 0 ∨ (x = 0 ∧ ¬ y = 0) ∨ (x = 0 ∧ y = 0 ∧ ¬ d = 0) ∨ (x = 0 ∧ y = 0 ∧ d = 0 ∧ ¬ e = 0) := by omega
    clear hz
    by_cases h1 : (C : Int) = 1
    · rw [if_pos h1]
      have HC := Hid.mk' (mon_of hMT (w.alloc (.cells #[.int .i64 1, .int .i64 x, .int .i64 y, .int .i64 d, .int .i64 e] 79)))
      rw [h1] at HB0 ⊢
      clear hMT hDT h1 HT0
      rcases key with k1 | ⟨rfl, k1⟩ | ⟨rfl, rfl, k1⟩ | ⟨rfl, rfl, rfl, k1⟩
      all_goals (
        go_enter Tryz.func62, Tryz.ntmps62
        go_wp2_with fail
        refine HC.out.mono ?_
        rintro r w1 ⟨rfl, hb⟩
        have HB1 := Hid.mk' (bel_next HB0.out hb)
        clear hb
        go_wp2
        go_ret
        exact ⟨rfl, HB1.out⟩)
    · rw [if_neg h1]
      have h1b : ((C : Int) == 1) = false := beq_eq_false_iff_ne.2 h1
      have hsz : ¬ (DT.length + MT.length > 9223372036854775807) := by omega
      have hsz2 : ¬ (9223372036854775807 < DT.length + MT.length) := by omega
      obtain ⟨W, hW⟩ : ∃ W, w.alloc (.cells #[.int .i64 (C : Int), .int .i64 x, .int .i64 y, .int .i64 d, .int .i64 e] 79) = W := ⟨_, rfl⟩
      have q0 : w.heap.size < W.heap.size := by rw [← hW]; simp
      have ne := Ext.there W
      have gg : ∀ j : Nat, W.cell? ⟨w.heap.size, j, none⟩ = #[Value.int .i64 (C : Int), .int .i64 x, .int .i64 y, .int .i64 d, .int .i64 e][j]? := fun j => by rw [← hW, World.cell?_alloc_at _ _ _ _ rfl]
      have s0 : ∀ u : Ext W, u.1.cell? ⟨w.heap.size, 0, none⟩ = some (.int .i64 (C : Int)) := fun u => (u.cell q0).trans (gg 0)
      have s1 : ∀ u : Ext W, u.1.cell? ⟨w.heap.size, 1, none⟩ = some (.int .i64 x) := fun u => (u.cell q0).trans (gg 1)
      have s2 : ∀ u : Ext W, u.1.cell? ⟨w.heap.size, 2, none⟩ = some (.int .i64 y) := fun u => (u.cell q0).trans (gg 2)
      have s3 : ∀ u : Ext W, u.1.cell? ⟨w.heap.size, 3, none⟩ = some (.int .i64 d) := fun u => (u.cell q0).trans (gg 3)
      have s4 : ∀ u : Ext W, u.1.cell? ⟨w.heap.size, 4, none⟩ = some (.int .i64 e) := fun u => (u.cell q0).trans (gg 4)
      rw [hW] at HT0 HB0
      have HT : ∀ u : Ext W, Tb u.1 := fun u => HT0.out.below u.2
      have HTT := Hid.mk' HT
      have HWW := Hid.mk' hW
      clear HT gg hW
      rcases key with k1 | ⟨rfl, k1⟩ | ⟨rfl, rfl, k1⟩ | ⟨rfl, rfl, rfl, k1⟩
      all_goals (
        go_enter Tryz.func62, Tryz.ntmps62
        go_wp2_with fail
        simp only [HWW.out]
        clear HWW
        refine wp_region_ext (by kernel_rfl) (by kernel_rfl) ?_
        repeat (go_big_quiet_step (first | (go_at_call 44; exact ext_grows (itoa_of (by with_reducible assumption) hC _ (HTT.out _))) | (go_at_call 93; exact ext_grows (mon_of (by with_reducible assumption) _)) | fail))
        refine wpQuiet_nil ?_
        rintro _ ⟨v, rfl⟩
        have HV := Hid.mk' (bel_next HB0.out v.2)
        clear s0 s1 s2 s3 s4 ne hMT hDT
        go_wp2
        go_ret
        exact ⟨by first | rfl | (congr 2; apply ByteArray.ext; simp [ByteArray.data_append]; done), HV.out⟩)
end Go.Proofs.YtkcmamepoplcdaaGreatDoor
namespace Go.Proofs.YtkcmamepoplcdaaGreatDoor
open Go.RowKit
set_option linter.unusedVariables false
set_option linter.unusedSimpArgs false
theorem map_back (xs : List (List UInt8)) : (xs.map fun l => (⟨l.toArray⟩ : ByteArray)).map (fun s => s.data.toList) = xs := by
  rw [List.map_map]
  exact (List.map_congr_left (fun l _ => rfl)).trans (List.map_id xs)
theorem infoStr : (Tryz.prog.info? 9).map (fun i => (i.zero, i.size, i.bytes)) = some (some (.string ⟨#[]⟩), 1, 16) := by kernel_rfl
def strL (xs : List (List UInt8)) : List Value := xs.map fun l => Value.string ⟨l.toArray⟩
theorem strL_len (xs : List (List UInt8)) : (strL xs).length = xs.length := by simp [strL]
theorem one_str (s : ByteArray) : ∀ u ∈ [Value.string s], u.oneCell' = true := fun u hu => by
  rw [List.mem_singleton] at hu
  subst hu
  rfl
def PtI (w : World) (f : Nat → T) (k : Nat) (v : Value) (wr : World) : Prop := wr.ownsRow w.heap.size 9 1 v k (strL (txs f k)) ∧ Below w.heap.size w wr
set_option maxRecDepth 100000 in
set_option maxHeartbeats 8000000 in
theorem polTextI (w : World) (a : Option Addr) (n cap : Nat) (f : Nat → T) (h : Rd w a n cap f) (hT : Tb w) :
    Calls Tryz.prog 30 #[.slice a n cap] w fun r w' => r = .returned (.string ⟨(polT n f).toArray⟩) ∧ Below w.heap.size w w' := by
  have HH := Hid.mk' h
  have HTB := Hid.mk' hT
  have hnI : (n : Int) ≤ 9223372036854775807 := by have := h.2.1; omega
  obtain ⟨ok, hok⟩ : ∃ b, polOk n f = b := ⟨_, rfl⟩
  have hc := polOkI w a n cap f h
  rw [hok] at hc
  have HC := Hid.mk' hc
  have HOK := Hid.mk' hok
  clear hc hok h hT
  obtain ⟨R, hR⟩ : ∃ R, polT n f = R := ⟨_, rfl⟩
  rw [hR]
  cases ok
  · have HR := Hid.mk' (hR.symm.trans (polT_no HOK.out))
    clear hR
    go_enter Tryz.func30, Tryz.ntmps30
    go_wp2_with fail
    refine HC.out.mono ?_
    rintro r w1 ⟨rfl, hb⟩
    go_wp2
    go_ret
    exact ⟨by rw [HR.out]; rfl, hb⟩
  · by_cases h0 : n = 0
    · have HR := Hid.mk' (hR.symm.trans (polT_zero HOK.out h0))
      have hn0 : ((n : Int) == 0) = true := by rw [h0]; rfl
      clear hR h0
      go_enter Tryz.func30, Tryz.ntmps30
      go_wp2_with fail
      refine HC.out.mono ?_
      rintro r w1 ⟨rfl, hb⟩
      go_wp2
      go_ret
      exact ⟨by rw [HR.out]; rfl, hb⟩
    · have HR := Hid.mk' (hR.symm.trans ((polT_is HOK.out h0).trans (join_txs f n).symm))
      have hn0 : ((n : Int) == 0) = false := beq_eq_false_iff_ne.2 (by omega)
      have HALL := Hid.mk' (polOk_is HOK.out)
      have n400 := (polOk_is HOK.out).1
      have n400I : (n : Int) ≤ 400 := by omega
      clear hR
      obtain ⟨b, off, rfl, hblt, hcl⟩ := HH.out.2.2.resolve_left h0
      have HCL := Hid.mk' hcl
      clear hcl
      obtain ⟨i0, hi0, hz0, hz1, hz2⟩ := info_parts infoStr
      go_enter Tryz.func30, Tryz.ntmps30
      go_wp2_with fail
      refine HC.out.mono ?_
      rintro r w1 ⟨rfl, hb⟩
      have HB1 := Hid.mk' hb
      have hs1 := hb.size
      clear hb HC
      obtain ⟨w2, hrun, hown2, hgr2⟩ := run_make_own (P := Tryz.prog) w1 w.heap.size 30 9 i0 _ 1 Tryz.underlying30 hi0 hz0 hz1 .i64 .i64 n (by rw [hz2]; omega) (by unfold maxLen; omega) hs1
      have b2 : Below w.heap.size w w2 := HB1.out.trans ⟨hgr2.os, hgr2.tape, hgr2.output, hgr2.size, fun k hk => hgr2.block k (by omega) (by simp)⟩
      have HI0 : Hid (PtI w f 0 (.slice (some ⟨w1.heap.size, 0, none⟩) 0 n) w2) := ⟨hown2, b2⟩
      clear hown2 hgr2 b2
      go_wp2
      clear hrun
      go_loopw [17, 3] (fun v17 v3 wr => ∃ (k g cp : Nat), k ≤ n ∧ v17 = .int .i64 (k : Int) ∧ v3 = .slice (some ⟨g, 0, none⟩) k cp ∧ Hid (PtI w f k (.slice (some ⟨g, 0, none⟩) k cp) wr)) (fun v17 _ _ => n - (intOf v17).toNat)
      case atStart => exact ⟨0, _, _, Nat.zero_le _, rfl, rfl, HI0⟩
      case round =>
        obtain ⟨k, g, cp, hk, rfl, rfl, HI⟩ := hrel
        by_cases hkn : k < n
        · have hklI : (k : Int) < (n : Int) := by omega
          obtain ⟨⟨tc1, tc2⟩, tmo⟩ := HALL.out.2 k hkn
          obtain ⟨t, ht⟩ : ∃ t, f k = t := ⟨_, rfl⟩
          have HJ := Hid.mk' (show txs f (k + 1) = txs f k ++ [trmT t] by rw [← ht]; exact txs_succ f k)
          obtain ⟨g0, g1, g2, g3, g4⟩ := (HCL.out k hkn).below HI.out.2 hblt
          rw [ht] at tc1 tc2 tmo g0 g1 g2 g3 g4
          clear ht
          obtain ⟨c, ⟨x, y, d, e⟩⟩ := t
          simp only at tc1 tc2 tmo g0 g1 g2 g3 g4
          obtain ⟨C, rfl⟩ : ∃ C : Nat, c = (C : Int) := ⟨c.toNat, by omega⟩
          have hC100 : C ≤ 100 := by omega
          have bt := bel_one wr (.cells #[.int .i64 (C : Int), .int .i64 x, .int .i64 y, .int .i64 d, .int .i64 e] 79)
          have hsw : w.heap.size ≤ wr.heap.size := HI.out.2.size
          have HBT := Hid.mk' (HI.out.2.alloc hsw (.cells #[.int .i64 (C : Int), .int .i64 x, .int .i64 y, .int .i64 d, .int .i64 e] 79))
          have HTt := Hid.mk' ((HTB.out.below HI.out.2).below bt)
          have HO := Hid.mk' (HI.out.1.alloc (.cells #[.int .i64 (C : Int), .int .i64 x, .int .i64 y, .int .i64 d, .int .i64 e] 79))
          have HCT := Hid.mk' (polTermTextI C (by omega) x y d e tmo _ HTt.out)
          obtain ⟨TT, hTT⟩ : ∃ TT, trmT ⟨(C : Int), ⟨x, y, d, e⟩⟩ = TT := ⟨_, rfl⟩
          rw [hTT] at HCT HJ
          clear hTT HTt bt tmo HI
          go_wp2_with fail
          refine HCT.out.mono ?_
          rintro r w3 ⟨rfl, hb3⟩
          have hO3 : w3.ownsRow w.heap.size 9 1 (.slice (some ⟨g, 0, none⟩) k cp) k (strL (txs f k)) := owns_below HO.out hb3
          have hB3 := HBT.out.trans (hb3.mono (by simp; omega))
          have hs3 : w.heap.size ≤ w3.heap.size := hB3.size
          have HO4 := Hid.mk' (hO3.alloc (.cells #[.string ⟨TT.toArray⟩] 9))
          have HB4 := Hid.mk' (hB3.alloc hs3 (.cells #[.string ⟨TT.toArray⟩] 9))
          have HN := Hid.mk' (heap_alloc_new w3 (.cells #[.string ⟨TT.toArray⟩] 9))
          clear hb3 hO3 hB3 HO HBT HCT g0 g1 g2 g3 g4
          have hmax : k + 1 ≤ maxLen := by unfold maxLen; omega
          go_wp2_with (at_builtin; refine wpList_append_lies _ rfl (.tmp 21) (.tmp 24) 30 rfl w.heap.size 9 i0 _ 1 16 Tryz.underlying30 hi0 hz0 hz1 hz2 rfl (by omega) _ k (strL (txs f k)) rfl HO4.out ⟨w3.heap.size, 0, none⟩ 1 1 [.string ⟨TT.toArray⟩] rfl rfl (World.news_of_block HN.out) (one_str _) (by omega) hmax (by omega) (by simp; omega) _ rfl ?_; intro g1 cap1 w7 hown2 hgrow2 hat2 hlt2; have HO7 := Hid.mk' hown2; have HB7 := Hid.mk' (HB4.out.grown hgrow2 (by simp; omega) (fun k' e' => (HO4.out.lt k' e').1)); clear hown2 hgrow2 hat2 hlt2)
          go_roundw
          case rel => exact ⟨k + 1, g1, cap1, by omega, by go_num, rfl, ⟨by rw [HJ.out]; unfold strL; rw [List.map_append]; exact HO7.out, HB7.out⟩⟩
          case measure => simp [intOf]; omega
        · have hke : k = n := by omega
          subst hke
          have hnl : ¬ (k : Int) < (k : Int) := by omega
          have hlen : (Lib.join (txs f k) [43]).length ≤ 140737488355328 := by
            rw [join_txs]
            have := jnT_len k (fun i hi => HALL.out.2 i hi)
            omega
          have hj := joinI g cp ((txs f k).map fun l => ⟨l.toArray⟩) wr (fun j s hs => by
            rw [Nat.zero_add, HI.out.1.cellAt j (by
              have := (List.getElem?_eq_some_iff.1 hs).1
              rw [List.length_map, txs_len] at this
              omega)]
            rw [List.getElem?_map] at hs
            unfold strL
            rw [List.getElem?_map]
            cases hq : (txs f k)[j]? with
            | none => rw [hq] at hs; cases hs
            | some l => rw [hq] at hs; cases hs; rfl) (HI.out.1.lt g rfl).2 (by rw [List.length_map, txs_len]; omega) (by
              rw [List.length_map, txs_len]
              rcases HI.out.1.2 with ⟨e, _⟩ | ⟨g', cap', cur, e, _, _, hnc, _⟩
              · cases e
              · cases e; exact hnc) (by
              have e : ((txs f k).map fun l => (⟨l.toArray⟩ : ByteArray)).map (fun s => s.data.toList) = txs f k := map_back _
              rw [e]; exact hlen)
          have e : ((txs f k).map fun l => (⟨l.toArray⟩ : ByteArray)).map (fun s => s.data.toList) = txs f k := map_back _
          rw [e, List.length_map, txs_len, ← HR.out] at hj
          have HJ := Hid.mk' hj
          clear hj hlen e
          go_wp2_with fail
          refine HJ.out.mono ?_
          rintro r w9 ⟨rfl, hb9⟩
          have HB9 := Hid.mk' (bel_next HI.out.2 hb9)
          clear hb9
          go_wp2
          go_ret
          exact ⟨rfl, HB9.out⟩
end Go.Proofs.YtkcmamepoplcdaaGreatDoor
