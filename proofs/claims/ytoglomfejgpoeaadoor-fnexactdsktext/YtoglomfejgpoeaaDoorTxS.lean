/-
  The model's texts of monomials (l2Digits, l2Power, MonText).
-/
import Derived.Test.YtoglomfejgpoeaaDoorTxA
import Derived.Laws.IdiomStrings
import Derived.Deep.RegionHeld3
namespace Go.Proofs.YtoglomfejgpoeaaDoor
open Go.RowKit
set_option linter.unusedVariables false
set_option linter.unusedSimpArgs false

theorem conv_one (w : World) (x : Nat) (hx : x < 256) : (convert 39 9 (.slice (some ⟨w.heap.size, 0, none⟩) 1 1)).run Tryd.prog (w.alloc (.cells #[.int .u8 (x : Int)] 5)) = .ok (.string ⟨#[UInt8.ofNat x]⟩) (w.alloc (.cells #[.int .u8 (x : Int)] 5)) :=
  run_convert_bytes_back _ _ _ 5 ⟨w.heap.size, 0, none⟩ 1 [UInt8.ofNat x] (by kernel_rfl) (by kernel_rfl) (by kernel_rfl) (fun j hj => by
    have : j = 0 := by simpa using hj
    subst this
    have e : ((⟨w.heap.size, 0, none⟩ : Addr).add 0) = ⟨w.heap.size, 0, none⟩ := rfl
    rw [e, World.cell?_alloc_at _ _ _ _ rfl]
    simp
    omega)
set_option maxRecDepth 100000 in
set_option maxHeartbeats 2000000 in
theorem l2DigitsS (n : Nat) (hn : n < 10000) (w : World) :
    Calls Tryd.prog 25 #[.int .i64 (n : Int)] w fun r w' => r = .returned (.string ⟨(Lib.decDigits n).toArray⟩) ∧ Below w.heap.size w w' := by
  by_cases h0 : n = 0
  · subst h0
    go_enter Tryd.func25, Tryd.ntmps25
    go_wp2
    go_ret
    exact ⟨by rw [dec_one (by omega)]; rfl, Below.refl _ _⟩
  · have h1 : ¬ (n : Int) < 1 := by omega
    go_enter Tryd.func25, Tryd.ntmps25
    go_wp2
    go_loopw [0, 3] (fun v0 v3 wr => ∃ (k : Nat) (out : List UInt8), k ≤ n ∧ v0 = .int .i64 (k : Int) ∧ v3 = .string ⟨out.toArray⟩ ∧ Hid (dcat k out = Lib.decDigits n) ∧ Below w.heap.size w wr) (fun v0 _ _ => (intOf v0).toNat)
    case atStart => exact ⟨n, [], Nat.le_refl _, rfl, rfl, Hid.mk' (dcat_start (by omega)), Below.refl _ _⟩
    case round =>
      obtain ⟨k, out, hk, rfl, rfl, HD, hB⟩ := hrel
      have hlen : out.length ≤ 4 := by
        have h1 := dcat_len k out
        rw [HD.out] at h1
        have := dec_len4 hn
        omega
      have HB := Hid.mk' hB
      clear hB
      by_cases hk0 : k = 0
      · subst hk0
        have he : out = Lib.decDigits n := (dcat_zero out).symm.trans HD.out
        have HE := Hid.mk' he
        clear he
        go_wp2
        go_ret
        exact ⟨by rw [HE.out]; rfl, HB.out⟩
      · have hkp : (0 : Int) < (k : Int) := by omega
        have hr1 : (k : Int).tmod 10 = ((k % 10 : Nat) : Int) := by rw [Int.tmod_eq_emod_of_nonneg (by omega)]; omega
        have hq1 : (k : Int).tdiv 10 = ((k / 10 : Nat) : Int) := by rw [Int.tdiv_eq_ediv_of_nonneg (by omega)]; omega
        obtain ⟨r, hr⟩ : ∃ r, k % 10 = r := ⟨_, rfl⟩
        obtain ⟨q, hq⟩ : ∃ q, k / 10 = q := ⟨_, rfl⟩
        have hr10 : r < 10 := by omega
        have hqk : q < k := by omega
        have hD2 : dcat q (UInt8.ofNat (48 + r) :: out) = Lib.decDigits n := by rw [← hr, ← hq, dcat_step (by omega)]; exact HD.out
        have HD2 := Hid.mk' hD2
        rw [hr] at hr1
        rw [hq] at hq1
        clear hD2 HD hr hq
        have hr2 : (k : Int) % 10 = (r : Int) := by rw [← hr1, Int.tmod_eq_emod_of_nonneg (by omega)]
        have hq2 : (k : Int) / 10 = (q : Int) := by rw [← hq1, Int.tdiv_eq_ediv_of_nonneg (by omega)]
        have hw1 : IntKind.i64.wrap (48 + (r : Int)) = ((48 + r : Nat) : Int) := by rw [IntKind.wrap_i64]; omega
        have hw2 : IntKind.u8.wrap ((48 + r : Nat) : Int) = ((48 + r : Nat) : Int) := by rcases (show r = 0 ∨ r = 1 ∨ r = 2 ∨ r = 3 ∨ r = 4 ∨ r = 5 ∨ r = 6 ∨ r = 7 ∨ r = 8 ∨ r = 9 by omega) with rfl | rfl | rfl | rfl | rfl | rfl | rfl | rfl | rfl | rfl <;> decide
        have hw3 : IntKind.u8.wrap (48 + (r : Int)) = ((48 + r : Nat) : Int) := by rw [show 48 + (r : Int) = ((48 + r : Nat) : Int) by omega]; exact hw2
        have hcv := conv_one wr (48 + r) (by omega)
        obtain ⟨x, hx⟩ : ∃ x, 48 + r = x := ⟨_, rfl⟩
        rw [hx] at hw1 hw2 hw3 hcv HD2
        have hx48 : 48 + (r : Int) = (x : Int) := by omega
        clear hx
        have hsz : ¬ (1 + out.length > 9223372036854775807) := by omega
        have hsz2 : ¬ (9223372036854775807 < 1 + out.length) := by omega
        go_wp2
        go_roundw
        case rel => exact ⟨q, UInt8.ofNat x :: out, by omega, by first | rfl | (simp [hq2]; done) | (simp [hq1]; done), by first | rfl | (rw [ByteArray.ext_iff]; simp [ByteArray.data_append]; done), HD2, bel_next HB.out (bel_one _ _)⟩
        case measure => simp [intOf]; omega
set_option maxRecDepth 100000 in
set_option maxHeartbeats 2000000 in
theorem l2PowerS (c : UInt8) (n : Nat) (hn : n ≤ 15) (w : World) :
    Calls Tryd.prog 36 #[.string ⟨#[c]⟩, .int .i64 (n : Int)] w fun r w' => r = .returned (.string ⟨(fpw c (n : Int)).toArray⟩) ∧ Below w.heap.size w w' := by
  by_cases h0 : n = 0
  · subst h0
    go_enter Tryd.func36, Tryd.ntmps36
    go_wp2
    go_ret
    exact ⟨by rfl, Below.refl _ _⟩
  · by_cases h1 : n = 1
    · subst h1
      go_enter Tryd.func36, Tryd.ntmps36
      go_wp2
      go_ret
      exact ⟨by rfl, Below.refl _ _⟩
    · have hn0 : ((n : Int) == 0) = false := beq_eq_false_iff_ne.2 (by omega)
      have hn1 : ((n : Int) == 1) = false := beq_eq_false_iff_ne.2 (by omega)
      obtain ⟨D, hD⟩ : ∃ D, Lib.decDigits n = D := ⟨_, rfl⟩
      have hl : D.length ≤ 2 := by rw [← hD]; exact dec_len2 (by omega)
      have hc := l2DigitsS n (by omega) w
      rw [hD] at hc
      have HC := Hid.mk' hc
      have hp : fpw c (n : Int) = c :: D := by rw [fpw_more (by omega), hD]
      have HP := Hid.mk' hp
      clear hc hp hD
      have hsz : ¬ (1 + D.length > 9223372036854775807) := by omega
      have hsz2 : ¬ (9223372036854775807 < 1 + D.length) := by omega
      go_enter Tryd.func36, Tryd.ntmps36
      go_wp2_with fail
      refine HC.out.mono ?_
      rintro r w1 ⟨rfl, hb⟩
      have HB := Hid.mk' hb
      clear hb
      go_wp2
      go_ret
      exact ⟨by rw [HP.out]; first | rfl | (congr 2; apply ByteArray.ext; simp [ByteArray.data_append]; done), HB.out⟩
theorem l2Power_of {c : UInt8} {n : Nat} {p : List UInt8} (h : fpw c (n : Int) = p) (hn : n ≤ 15) (w : World) : Calls Tryd.prog 36 #[.string ⟨#[c]⟩, .int .i64 (n : Int)] w fun r w' => r = .returned (.string ⟨p.toArray⟩) ∧ Below w.heap.size w w' := by
  rw [← h]; exact l2PowerS c n hn w
theorem bel_ext {w : World} {v : Ext w} : Below w.heap.size w v.1 := v.2
set_option maxRecDepth 100000 in
set_option maxHeartbeats 4000000 in
theorem monTextS (x y d e : Int) (w : World) :
    Calls Tryd.prog 24 #[.agg #[.int .i64 x, .int .i64 y, .int .i64 d, .int .i64 e]] w fun r w' => r = .returned (.string ⟨(monT ⟨x, y, d, e⟩).toArray⟩) ∧ Below w.heap.size w w' := by
  obtain ⟨ok, hok⟩ : ∃ b, M.ok ⟨x, y, d, e⟩ = b := ⟨_, rfl⟩
  have HOK := Hid.mk' hok
  clear hok
  cases ok
  · have he := monT_no HOK.out
    have HE := Hid.mk' he
    clear he
    go_enter Tryd.func24, Tryd.ntmps24
    go_wp2_with fail
    refine (monOkS_of HOK.out _).mono ?_
    rintro r w1 ⟨rfl, hb⟩
    go_wp2
    go_ret
    exact ⟨by rw [HE.out]; rfl, bel_next (bel_one w _) hb⟩
  · obtain ⟨x1, x2, y1, y2, d1, d2, e1, e2⟩ := M.ok_iff.1 HOK.out
    simp only at x1 x2 y1 y2 d1 d2 e1 e2
    obtain ⟨X, rfl⟩ : ∃ X : Nat, x = (X : Int) := ⟨x.toNat, by omega⟩
    obtain ⟨Y, rfl⟩ : ∃ X : Nat, y = (X : Int) := ⟨y.toNat, by omega⟩
    obtain ⟨D, rfl⟩ : ∃ X : Nat, d = (X : Int) := ⟨d.toNat, by omega⟩
    obtain ⟨E, rfl⟩ : ∃ X : Nat, e = (X : Int) := ⟨e.toNat, by omega⟩
    have hmS := monS_is ⟨(X : Int), (Y : Int), (D : Int), (E : Int)⟩
    simp only at hmS
    obtain ⟨p1, hp1⟩ : ∃ p, fpw 120 (X : Int) = p := ⟨_, rfl⟩
    obtain ⟨p2, hp2⟩ : ∃ p, fpw 121 (Y : Int) = p := ⟨_, rfl⟩
    obtain ⟨p3, hp3⟩ : ∃ p, fpw 100 (D : Int) = p := ⟨_, rfl⟩
    obtain ⟨p4, hp4⟩ : ∃ p, fpw 101 (E : Int) = p := ⟨_, rfl⟩
    have k1 : p1.length ≤ 3 := by rw [← hp1]; exact fpw_len (by omega)
    have k2 : p2.length ≤ 3 := by rw [← hp2]; exact fpw_len (by omega)
    have k3 : p3.length ≤ 3 := by rw [← hp3]; exact fpw_len (by omega)
    have k4 : p4.length ≤ 3 := by rw [← hp4]; exact fpw_len (by omega)
    rw [hp1, hp2, hp3, hp4] at hmS
    have HM := Hid.mk' hmS
    have X15 : X ≤ 15 := by omega
    have Y15 : Y ≤ 15 := by omega
    have D15 : D ≤ 15 := by omega
    have E15 : E ≤ 15 := by omega
    clear hmS x1 x2 y1 y2 d1 d2 e1 e2
    obtain ⟨Res, hRes⟩ : ∃ R, monT ⟨(X : Int), (Y : Int), (D : Int), (E : Int)⟩ = R := ⟨_, rfl⟩
    rw [hRes]
    have HR := Hid.mk' hRes
    clear hRes
    go_enter Tryd.func24, Tryd.ntmps24
    go_wp2_with fail
    refine (monOkS_of HOK.out _).mono ?_
    rintro r w1 ⟨rfl, hb⟩
    have hb1 := bel_next (bel_one w (.cells #[.int .i64 (X : Int), .int .i64 (Y : Int), .int .i64 (D : Int), .int .i64 (E : Int)] 52)) hb
    have HB1 := Hid.mk' hb1
    have q0 : w.heap.size < w1.heap.size := Nat.lt_of_lt_of_le (by simp) hb.size
    have ne := Ext.there w1
    have g : ∀ j : Nat, w1.cell? ⟨w.heap.size, j, none⟩ = (w.alloc (.cells #[.int .i64 (X : Int), .int .i64 (Y : Int), .int .i64 (D : Int), .int .i64 (E : Int)] 52)).cell? ⟨w.heap.size, j, none⟩ := fun j => hb.cell (p := ⟨w.heap.size, j, none⟩) (by simp)
    have s0 : ∀ u : Ext w1, u.1.cell? ⟨w.heap.size, 0, none⟩ = some (.int .i64 (X : Int)) := fun u => (u.cell q0).trans ((g 0).trans (by rw [World.cell?_alloc_at _ _ _ _ rfl]; rfl))
    have s1 : ∀ u : Ext w1, u.1.cell? ⟨w.heap.size, 1, none⟩ = some (.int .i64 (Y : Int)) := fun u => (u.cell q0).trans ((g 1).trans (by rw [World.cell?_alloc_at _ _ _ _ rfl]; rfl))
    have s2 : ∀ u : Ext w1, u.1.cell? ⟨w.heap.size, 2, none⟩ = some (.int .i64 (D : Int)) := fun u => (u.cell q0).trans ((g 2).trans (by rw [World.cell?_alloc_at _ _ _ _ rfl]; rfl))
    have s3 : ∀ u : Ext w1, u.1.cell? ⟨w.heap.size, 3, none⟩ = some (.int .i64 (E : Int)) := fun u => (u.cell q0).trans ((g 3).trans (by rw [World.cell?_alloc_at _ _ _ _ rfl]; rfl))
    clear hb hb1 g
    have z1 : ¬ (p1.length + p2.length > 9223372036854775807) := by omega
    have z2 : ¬ (p1.length + p2.length + p3.length > 9223372036854775807) := by omega
    have z3 : ¬ (p1.length + p2.length + p3.length + p4.length > 9223372036854775807) := by omega
    have y1 : ¬ (9223372036854775807 < p1.length + p2.length) := by omega
    have y2 : ¬ (9223372036854775807 < p1.length + p2.length + p3.length) := by omega
    have y3 : ¬ (9223372036854775807 < p1.length + p2.length + p3.length + p4.length) := by omega
    go_wp2_with fail
    refine wp_region_ext (by kernel_rfl) (by kernel_rfl) ?_
    repeat (go_big_quiet_step (first | (go_at_call 36; exact ext_grows (l2Power_of (by with_reducible assumption) (by omega) _)) | fail))
    refine wpQuiet_nil ?_
    rintro _ ⟨v, rfl⟩
    have HV := Hid.mk' (bel_next HB1.out v.2)
    clear s0 s1 s2 s3 ne hp1 hp2 hp3 hp4
    have hcat : (ByteArray.mk p1.toArray ++ ByteArray.mk p2.toArray ++ ByteArray.mk p3.toArray ++ ByteArray.mk p4.toArray) = ByteArray.mk (p1 ++ p2 ++ p3 ++ p4).toArray := by
      rw [ByteArray.mk_append_mk, ByteArray.mk_append_mk, ByteArray.mk_append_mk]
    simp only [hcat]
    obtain ⟨S, hS⟩ : ∃ S, p1 ++ p2 ++ p3 ++ p4 = S := ⟨_, rfl⟩
    rw [hS] at HM ⊢
    clear hcat hS
    by_cases h0 : S = []
    · subst h0
      have hR : Res = [49] := HR.out.symm.trans (monT_one HOK.out HM.out)
      have HRR := Hid.mk' hR
      clear hR
      go_wp2
      go_ret
      exact ⟨by rw [HRR.out]; rfl, HV.out⟩
    · have hR : Res = S := HR.out.symm.trans ((monT_is HOK.out (by rw [HM.out]; exact h0)).trans HM.out)
      have HRR := Hid.mk' hR
      clear hR
      have hie : S.isEmpty = false := by cases S <;> simp at h0 ⊢
      clear h0
      go_wp2
      go_ret
      exact ⟨by rw [HRR.out]; rfl, HV.out⟩
end Go.Proofs.YtoglomfejgpoeaaDoor
