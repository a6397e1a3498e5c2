/-
  The walk of FnDoFaith: whatever the code, it comes out true, and nothing that was there is turned.
-/
import Derived.Test.YtnfimnfaejjagaaAtL
import Derived.Test.YtnfimnfaejjagaaGbc
namespace Go.Proofs.Ytnfimnfaejjagaa
open Go.RowKit
set_option linter.unusedVariables false

theorem max3_run {P : Program} (w : World) (ts : Array TypeId) (t : TypeId) (x y z : Int) : (Builtin.max_ ts t #[.int .i64 x, .int .i64 y, .int .i64 z]).run P w = .ok (.int .i64 (max (max x y) z)) w := by
  have e : ∀ a b : Int, (if b > a then b else a) = max a b := fun a b => by
    rw [Int.max_def]
    split <;> split <;> omega
  simp [Builtin.max_, Builtin.max2, e]
def xyL (i k : Nat) : List T := [⟨1, ⟨i, k, 0, 0⟩⟩]
/-- an operator that is not 0 does something to the power of the times that has its least slopes. -/
theorem faith {A X : List T} (oA : okL A = true) {t0 : T} (ht : t0 ∈ A) (h0 : (Rp stdG A).f (fun n k => if n = t0.m.x.toNat ∧ k = t0.m.y.toNat then 1 else 0) t0.m.d.toNat t0.m.e.toNat ≠ 0) (h : wdV A (xyL t0.m.d.toNat t0.m.e.toNat) = (X, true)) : X ≠ [] := fun e => by
  obtain ⟨_, _, _, _, _, hp⟩ := wd_facts h
  have h1 := hp (fun n k => if n = t0.m.x.toNat ∧ k = t0.m.y.toNat then 1 else 0)
  rw [e] at h1
  refine h0 ?_
  have h2 : pf ((Rp stdG A).f (fun n k => if n = t0.m.x.toNat ∧ k = t0.m.y.toNat then 1 else 0)) (xyL t0.m.d.toNat t0.m.e.toNat) = (Rp stdG A).f (fun n k => if n = t0.m.x.toNat ∧ k = t0.m.y.toNat then 1 else 0) t0.m.d.toNat t0.m.e.toNat := by
    show zz 1 * (Rp stdG A).f _ ((t0.m.d.toNat : Int)).toNat ((t0.m.e.toNat : Int)).toNat + 0 = _
    rw [zz_one, Int.toNat_natCast, Int.toNat_natCast]
    grind
  rw [← h2, ← h1]
  rfl
set_option maxRecDepth 100000 in
set_option maxHeartbeats 8000000 in
theorem walk_FnDoFaith (w : World) (a0 : Option Addr) (len0 cap0 : Nat) (s0 : Src w a0 len0 cap0) :
    Calls Try.prog 5 #[.slice a0 len0 cap0] w fun e w' => e = .returned (.bool true) ∧ Below w.heap.size w w' := by
  by_cases c0 : (1048576 : Int) < (len0 : Int)
  · go_enter Try.func5, Try.ntmps5
    go_wp2
    go_ret
    exact ⟨rfl, Below.refl _ _⟩
  go_enter Try.func5, Try.ntmps5
  go_wp2_with fail
  refine (drawWylDo w a0 len0 cap0 s0).mono ?_
  rintro e wd ⟨da, dca, A, db, dcb, B, rfl, hA, hB, hlA, hlB, hbd⟩
  have HA0 := Hid.mk' hA
  have HB0 := Hid.mk' hB
  have Z0 := Hid.mk' hbd
  clear hA hB hbd s0
  obtain ⟨X0, o0, h1⟩ : ∃ L o, wdV A B = (L, o) := ⟨_, _, rfl⟩
  have hoo : (o0 != o0) = false := by cases o0 <;> rfl
  go_wp2_with fail
  refine (wdI_L HA0.out HB0.out).mono ?_
  rw [h1]
  rintro e w1 ⟨a1, c1, rfl, b1, r1⟩
  have HA1 := Hid.mk' (HA0.out.below b1)
  have HB1 := Hid.mk' (HB0.out.below b1)
  have HX1 : Hid (RL w1 a1 c1 X0) := r1
  have Z1 := Hid.mk' (bel_next Z0.out b1)
  clear HA0 HB0 Z0 b1 r1
  go_wp2_with fail
  refine (wdS_L HA1.out HB1.out).mono ?_
  rw [h1]
  rintro e w2 ⟨a2, c2, rfl, b2, r2⟩
  have HA2 := Hid.mk' (HA1.out.below b2)
  have HX2 := Hid.mk' (RL.below HX1.out b2)
  have HY2 : Hid (RL w2 a2 c2 X0) := r2
  have Z2 := Hid.mk' (bel_next Z1.out b2)
  clear HA1 HB1 HX1 Z1 b2 r2
  go_wp2_with fail
  refine (he_L HX2.out HY2.out).mono ?_
  rw [sq_same]
  rintro e w3 ⟨rfl, b3⟩
  have HA3 := Hid.mk' (HA2.out.below b3)
  have Z3 := Hid.mk' (bel_next Z2.out b3)
  clear HA2 HX2 HY2 Z2 b3 h1
  go_wp2
  go_loopw [9, 10] (fun mv iv wr => ∃ (i : Nat) (mo : Int), i ≤ A.length ∧ iv = .int .i64 (i : Int) ∧ mv = .int .i64 mo ∧ (∀ j, j < i → (lf A j).m.d ≤ mo ∧ (lf A j).m.e ≤ mo) ∧ (i = 0 → mo = -1) ∧ Below w.heap.size w wr ∧ RL wr da dca A) (fun _ v _ => A.length - (intOf v).toNat)
  case atStart => exact ⟨0, -1, Nat.zero_le _, rfl, rfl, fun j hj => by omega, fun _ => rfl, Z3.out, HA3.out⟩
  case round =>
    obtain ⟨i, mo, hi, rfl, rfl, hmx, hm0, hBw, kA⟩ := hrel
    have HMX := Hid.mk' hmx
    have KW := Hid.mk' hBw
    have KA := Hid.mk' kA
    clear hmx hBw
    by_cases hlt : i < A.length
    · have hil : (i : Int) < (A.length : Int) := by omega
      rcases kA.2.2 with h0 | ⟨pb, off, hpe, hblt, hcl⟩
      · omega
      obtain ⟨g0, g1, g2, g3, g4⟩ := hcl i hlt
      subst hpe
      obtain ⟨d1, hd1⟩ : ∃ z, (lf A i).m.d = z := ⟨_, rfl⟩
      obtain ⟨e1, he1⟩ : ∃ z, (lf A i).m.e = z := ⟨_, rfl⟩
      rw [hd1] at g3
      rw [he1] at g4
      have k3 : wr.drew.cell? ⟨pb, off + i * 5 + 3, none⟩ = some (.int .i64 d1) := g3
      have k4 : wr.drew.cell? ⟨pb, off + i * 5 + 4, none⟩ = some (.int .i64 e1) := g4
      have HD := Hid.mk' hd1
      have HE := Hid.mk' he1
      have WD := Hid.mk' KW.out.drew
      have AD := Hid.mk' (RL.below KA.out (Below.refl _ _).drew)
      have hmx3 : ∀ (W : World) (ts : Array TypeId) (t : TypeId), (Builtin.max_ ts t #[.int .i64 mo, .int .i64 d1, .int .i64 e1]).run Try.prog W = .ok (.int .i64 (max (max mo d1) e1)) W := fun W ts t => max3_run W ts t _ _ _
      clear hcl kA g0 g1 g2 g3 g4 hm0 hd1 he1
      go_wp2_with fail
      go_region_with (fail)
      all_goals
        clear k3 k4
        go_wp2
        go_roundw
        case rel =>
          refine ⟨i + 1, _, by omega, by go_num, rfl, fun j hj => ?_, fun h => by omega, WD.out, AD.out⟩
          by_cases e : j = i
          · subst e
            rw [HD.out, HE.out]
            omega
          · have := HMX.out j (by omega)
            omega
        case measure => simp [intOf]; omega
    · have hnl : ¬ (i : Int) < (A.length : Int) := by omega
      have hie : i = A.length := by omega
      subst hie
      clear kA
      cases oA : okL A
      · go_wp2_with fail
        refine (okS_L KA.out).mono ?_
        rw [oA]
        rintro e w5 ⟨rfl, b5⟩
        have Z5 := Hid.mk' (bel_next KW.out b5)
        clear b5
        go_wp2_with fail
        refine (heOk_L _).mono ?_
        rintro e w6 ⟨rfl, b6⟩
        go_wp2
        go_ret
        exact ⟨rfl, bel_next Z5.out b6⟩
      · go_wp2_with fail
        refine (okS_L KA.out).mono ?_
        rw [oA]
        rintro e w5 ⟨rfl, b5⟩
        have Z5 := Hid.mk' (bel_next KW.out b5)
        have A5 := Hid.mk' (RL.below KA.out b5)
        clear b5 KW KA
        by_cases hneg : mo < 0
        · go_wp2_with fail
          refine (heOk_L _).mono ?_
          rintro e w6 ⟨rfl, b6⟩
          go_wp2
          go_ret
          exact ⟨rfl, bel_next Z5.out b6⟩
        by_cases hbig : 6 < mo
        · go_wp2_with fail
          refine (heOk_L _).mono ?_
          rintro e w6 ⟨rfl, b6⟩
          go_wp2
          go_ret
          exact ⟨rfl, bel_next Z5.out b6⟩
        have hne : A ≠ [] := fun e => by
          have : mo = -1 := hm0 (by rw [e]; rfl)
          omega
        obtain ⟨t0, ht0, hs0⟩ := does_some (okL_falls oA).2 hne
        obtain ⟨jt, hjt, hjt2⟩ := List.mem_iff_getElem.1 ht0
        have hb0 := HMX.out jt hjt
        rw [lf_eq hjt, hjt2] at hb0
        have hok0 := M.ok_iff.1 ((okL_falls oA).2.2 t0 ht0).1
        obtain ⟨d0, hd0⟩ : ∃ z, t0.m.d.toNat = z := ⟨_, rfl⟩
        obtain ⟨e0, he0⟩ : ∃ z, t0.m.e.toNat = z := ⟨_, rfl⟩
        have hd0m : (d0 : Int) ≤ mo := by omega
        have he0m : (e0 : Int) ≤ mo := by omega
        have HF := Hid.mk' (fun (X : List T) (hX : wdV A (xyL d0 e0) = (X, true)) => faith oA ht0 hs0 (by rw [hd0, he0]; exact hX))
        clear hs0 ht0 hjt2 hb0 hok0 hd0 he0 HMX
        go_wp2
        go_loopw [11] (fun iv wr => ∃ i : Nat, i ≤ d0 ∧ iv = .int .i64 (i : Int) ∧ Below w.heap.size w wr ∧ RL wr da dca A) (fun v _ => d0 + 1 - (intOf v).toNat)
        case atStart => exact ⟨0, Nat.zero_le _, rfl, Z5.out, A5.out⟩
        case round =>
          obtain ⟨i, hid, rfl, hBi, kAi⟩ := hrel
          have hile : (i : Int) ≤ mo := by omega
          go_wp2
          go_loopw [12] (fun kv wk => ∃ k : Nat, (i = d0 → k ≤ e0) ∧ (k : Int) ≤ mo + 1 ∧ kv = .int .i64 (k : Int) ∧ Below w.heap.size w wk ∧ RL wk da dca A) (fun v _ => mo.toNat + 2 - (intOf v).toNat)
          case atStart => exact ⟨0, fun _ => Nat.zero_le _, by omega, rfl, hBi, kAi⟩
          case round =>
            obtain ⟨k, hke, hkm, rfl, hBk, kAk⟩ := hrel
            have WK := Hid.mk' hBk
            have AK := Hid.mk' kAk
            clear hBk kAk hBi kAi
            by_cases hkle : (k : Int) ≤ mo
            · have hof : polOf 1 ⟨(i : Int), (k : Int), 0, 0⟩ = xyL i k := if_pos ⟨⟨by omega, by omega⟩, M.ok_iff.2 (by dsimp only; omega)⟩
              have HO := Hid.mk' hof
              clear hof
              go_wp2_with fail
              refine (ofI_L 1 (i : Int) (k : Int) 0 0 _).mono ?_
              rw [HO.out]
              rintro e w6 ⟨a6, c6, rfl, b6, r6⟩
              have A6 := Hid.mk' (RL.below AK.out b6)
              have W6 := Hid.mk' (bel_next WK.out b6)
              have R6 : Hid (RL w6 a6 c6 (xyL i k)) := r6
              clear b6 r6 AK WK
              rcases wdV_if A (xyL i k) with h2 | ⟨X, h2⟩
              · go_wp2_with fail
                refine (wdI_L A6.out R6.out).mono ?_
                rw [h2]
                rintro e w7 ⟨a7, c7, rfl, b7, r7⟩
                have W7 := Hid.mk' (bel_next W6.out b7)
                clear b7 r7
                go_wp2
                go_ret
                exact ⟨rfl, W7.out⟩
              · go_wp2_with fail
                refine (wdI_L A6.out R6.out).mono ?_
                rw [h2]
                rintro e w7 ⟨a7, c7, rfl, b7, r7⟩
                have W7 := Hid.mk' (bel_next W6.out b7)
                have A7 := Hid.mk' (RL.below A6.out b7)
                clear b7 r7
                by_cases hX : X = []
                · have hstep : i = d0 → k + 1 ≤ e0 := fun hi => by
                    have hk := hke hi
                    by_cases ek : k = e0
                    · exfalso
                      rw [hi, ek] at h2
                      exact HF.out X h2 hX
                    · omega
                  have HS := Hid.mk' hstep
                  subst hX
                  clear hstep
                  go_wp2
                  go_roundw
                  case rel => exact ⟨k + 1, HS.out, by omega, by go_num, W7.out, A7.out⟩
                  case measure => simp [intOf]; omega
                · have hpos : (0 : Int) < (X.length : Int) := by have := List.length_pos_iff.2 hX; omega
                  clear hX
                  go_wp2
                  go_ret
                  exact ⟨rfl, W7.out⟩
            · have hnext : i + 1 ≤ d0 := by
                by_cases e : i = d0
                · have := hke e; omega
                · omega
              go_wp2
              go_roundw
              case rel => exact ⟨i + 1, hnext, by go_num, WK.out, AK.out⟩
              case measure => simp [intOf]; omega
end Go.Proofs.Ytnfimnfaejjagaa
