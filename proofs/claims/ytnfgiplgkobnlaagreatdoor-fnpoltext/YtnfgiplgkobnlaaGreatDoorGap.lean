/-
  The model's texts of monomials (l2Digits, l2Power, MonText).
  The model reads monomials (l3Number, l3Term, MonRead).
  The model reads terms and monomials (l3Term, MonRead).
-/
import Derived.Test.YtnfgiplgkobnlaaGreatDoorGak
import Derived.Laws.IdiomStrings
import Derived.Deep.RegionHeld3
import Derived.Test.YtnfgiplgkobnlaaGreatDoorGam
import Derived.Test.YtnfgiplgkobnlaaGreatDoorGao
import Derived.Test.YtnfgiplgkobnlaaGreatDoorGac
namespace Go.Proofs.YtnfgiplgkobnlaaGreatDoor
open Go.RowKit
set_option linter.unusedVariables false
set_option linter.unusedSimpArgs false

theorem conv_one (w : World) (x : Nat) (hx : x < 256) : (convert 22 9 (.slice (some ⟨w.heap.size, 0, none⟩) 1 1)).run Tryz.prog (w.alloc (.cells #[.int .u8 (x : Int)] 5)) = .ok (.string ⟨#[UInt8.ofNat x]⟩) (w.alloc (.cells #[.int .u8 (x : Int)] 5)) :=
  run_convert_bytes_back _ _ _ 5 ⟨w.heap.size, 0, none⟩ 1 [UInt8.ofNat x] (by kernel_rfl) (by kernel_rfl) (by kernel_rfl) (fun j hj => by
    have : j = 0 := by simpa using hj
    subst this
    have e : ((⟨w.heap.size, 0, none⟩ : Addr).add 0) = ⟨w.heap.size, 0, none⟩ := rfl
    rw [e, World.cell?_alloc_at _ _ _ _ rfl]
    simp
    omega)
set_option maxRecDepth 100000 in
set_option maxHeartbeats 2000000 in
theorem l2DigitsS (n : Nat) (hn : n < 10000) (w : World) :
    Calls Tryz.prog 30 #[.int .i64 (n : Int)] w fun r w' => r = .returned (.string ⟨(Lib.decDigits n).toArray⟩) ∧ Below w.heap.size w w' := by
  by_cases h0 : n = 0
  · subst h0
    go_enter Tryz.func30, Tryz.ntmps30
    go_wp2
    go_ret
    exact ⟨by rw [dec_one (by omega)]; rfl, Below.refl _ _⟩
  · have h1 : ¬ (n : Int) < 1 := by omega
    go_enter Tryz.func30, Tryz.ntmps30
    go_wp2
    go_loopw [0, 3] (fun v0 v3 wr => ∃ (k : Nat) (out : List UInt8), k ≤ n ∧ v0 = .int .i64 (k : Int) ∧ v3 = .string ⟨out.toArray⟩ ∧ Hid (dcat k out = Lib.decDigits n) ∧ Below w.heap.size w wr) (fun v0 _ _ => (intOf v0).toNat)
    case atStart => exact ⟨n, [], Nat.le_refl _, rfl, rfl, Hid.mk' (dcat_start (by omega)), Below.refl _ _⟩
    case round =>
      obtain ⟨k, out, hk, rfl, rfl, HD, hB⟩ := hrel
      have hlen : out.length ≤ 4 := by
        have h1 := dcat_len k out
        rw [HD.out] at h1
        have := dec_len4 hn
        omega
      have HB := Hid.mk' hB
      clear hB
      by_cases hk0 : k = 0
      · subst hk0
        have he : out = Lib.decDigits n := (dcat_zero out).symm.trans HD.out
        have HE := Hid.mk' he
        clear he
        go_wp2
        go_ret
        exact ⟨by rw [HE.out]; rfl, HB.out⟩
      · have hkp : (0 : Int) < (k : Int) := by omega
        have hr1 : (k : Int).tmod 10 = ((k % 10 : Nat) : Int) := by rw [Int.tmod_eq_emod_of_nonneg (by omega)]; omega
        have hq1 : (k : Int).tdiv 10 = ((k / 10 : Nat) : Int) := by rw [Int.tdiv_eq_ediv_of_nonneg (by omega)]; omega
        obtain ⟨r, hr⟩ : ∃ r, k % 10 = r := ⟨_, rfl⟩
        obtain ⟨q, hq⟩ : ∃ q, k / 10 = q := ⟨_, rfl⟩
        have hr10 : r < 10 := by omega
        have hqk : q < k := by omega
        have hD2 : dcat q (UInt8.ofNat (48 + r) :: out) = Lib.decDigits n := by rw [← hr, ← hq, dcat_step (by omega)]; exact HD.out
        have HD2 := Hid.mk' hD2
        rw [hr] at hr1
        rw [hq] at hq1
        clear hD2 HD hr hq
        have hr2 : (k : Int) % 10 = (r : Int) := by rw [← hr1, Int.tmod_eq_emod_of_nonneg (by omega)]
        have hq2 : (k : Int) / 10 = (q : Int) := by rw [← hq1, Int.tdiv_eq_ediv_of_nonneg (by omega)]
        have hw1 : IntKind.i64.wrap (48 + (r : Int)) = ((48 + r : Nat) : Int) := by rw [IntKind.wrap_i64]; omega
        have hw2 : IntKind.u8.wrap ((48 + r : Nat) : Int) = ((48 + r : Nat) : Int) := by rcases (show r = 0 ∨ r = 1 ∨ r = 2 ∨ r = 3 ∨ r = 4 ∨ r = 5 ∨ r = 6 ∨ r = 7 ∨ r = 8 ∨ r = 9 by omega) with rfl | rfl | rfl | rfl | rfl | rfl | rfl | rfl | rfl | rfl <;> decide
        have hw3 : IntKind.u8.wrap (48 + (r : Int)) = ((48 + r : Nat) : Int) := by rw [show 48 + (r : Int) = ((48 + r : Nat) : Int) by omega]; exact hw2
        have hcv := conv_one wr (48 + r) (by omega)
        obtain ⟨x, hx⟩ : ∃ x, 48 + r = x := ⟨_, rfl⟩
        rw [hx] at hw1 hw2 hw3 hcv HD2
        have hx48 : 48 + (r : Int) = (x : Int) := by omega
        clear hx
        have hsz : ¬ (1 + out.length > 9223372036854775807) := by omega
        have hsz2 : ¬ (9223372036854775807 < 1 + out.length) := by omega
        go_wp2
        go_roundw
        case rel => exact ⟨q, UInt8.ofNat x :: out, by omega, by first | rfl | (simp [hq2]; done) | (simp [hq1]; done), by first | rfl | (rw [ByteArray.ext_iff]; simp [ByteArray.data_append]; done), HD2, bel_next HB.out (bel_one _ _)⟩
        case measure => simp [intOf]; omega
set_option maxRecDepth 100000 in
set_option maxHeartbeats 2000000 in
theorem l2PowerS (c : UInt8) (n : Nat) (hn : n ≤ 15) (w : World) :
    Calls Tryz.prog 54 #[.string ⟨#[c]⟩, .int .i64 (n : Int)] w fun r w' => r = .returned (.string ⟨(fpw c (n : Int)).toArray⟩) ∧ Below w.heap.size w w' := by
  by_cases h0 : n = 0
  · subst h0
    go_enter Tryz.func54, Tryz.ntmps54
    go_wp2
    go_ret
    exact ⟨by rfl, Below.refl _ _⟩
  · by_cases h1 : n = 1
    · subst h1
      go_enter Tryz.func54, Tryz.ntmps54
      go_wp2
      go_ret
      exact ⟨by rfl, Below.refl _ _⟩
    · have hn0 : ((n : Int) == 0) = false := beq_eq_false_iff_ne.2 (by omega)
      have hn1 : ((n : Int) == 1) = false := beq_eq_false_iff_ne.2 (by omega)
      obtain ⟨D, hD⟩ : ∃ D, Lib.decDigits n = D := ⟨_, rfl⟩
      have hl : D.length ≤ 2 := by rw [← hD]; exact dec_len2 (by omega)
      have hc := l2DigitsS n (by omega) w
      rw [hD] at hc
      have HC := Hid.mk' hc
      have hp : fpw c (n : Int) = c :: D := by rw [fpw_more (by omega), hD]
      have HP := Hid.mk' hp
      clear hc hp hD
      have hsz : ¬ (1 + D.length > 9223372036854775807) := by omega
      have hsz2 : ¬ (9223372036854775807 < 1 + D.length) := by omega
      go_enter Tryz.func54, Tryz.ntmps54
      go_wp2_with fail
      refine HC.out.mono ?_
      rintro r w1 ⟨rfl, hb⟩
      have HB := Hid.mk' hb
      clear hb
      go_wp2
      go_ret
      exact ⟨by rw [HP.out]; first | rfl | (congr 2; apply ByteArray.ext; simp [ByteArray.data_append]; done), HB.out⟩
theorem l2Power_of {c : UInt8} {n : Nat} {p : List UInt8} (h : fpw c (n : Int) = p) (hn : n ≤ 15) (w : World) : Calls Tryz.prog 54 #[.string ⟨#[c]⟩, .int .i64 (n : Int)] w fun r w' => r = .returned (.string ⟨p.toArray⟩) ∧ Below w.heap.size w w' := by
  rw [← h]; exact l2PowerS c n hn w
theorem bel_ext {w : World} {v : Ext w} : Below w.heap.size w v.1 := v.2
set_option maxRecDepth 100000 in
set_option maxHeartbeats 4000000 in
theorem monTextS (x y d e : Int) (w : World) :
    Calls Tryz.prog 29 #[.agg #[.int .i64 x, .int .i64 y, .int .i64 d, .int .i64 e]] w fun r w' => r = .returned (.string ⟨(monT ⟨x, y, d, e⟩).toArray⟩) ∧ Below w.heap.size w w' := by
  obtain ⟨ok, hok⟩ : ∃ b, M.ok ⟨x, y, d, e⟩ = b := ⟨_, rfl⟩
  have HOK := Hid.mk' hok
  clear hok
  cases ok
  · have he := monT_no HOK.out
    have HE := Hid.mk' he
    clear he
    go_enter Tryz.func29, Tryz.ntmps29
    go_wp2_with fail
    refine (monOkS_of HOK.out _).mono ?_
    rintro r w1 ⟨rfl, hb⟩
    go_wp2
    go_ret
    exact ⟨by rw [HE.out]; rfl, bel_next (bel_one w _) hb⟩
  · obtain ⟨x1, x2, y1, y2, d1, d2, e1, e2⟩ := M.ok_iff.1 HOK.out
    simp only at x1 x2 y1 y2 d1 d2 e1 e2
    obtain ⟨X, rfl⟩ : ∃ X : Nat, x = (X : Int) := ⟨x.toNat, by omega⟩
    obtain ⟨Y, rfl⟩ : ∃ X : Nat, y = (X : Int) := ⟨y.toNat, by omega⟩
    obtain ⟨D, rfl⟩ : ∃ X : Nat, d = (X : Int) := ⟨d.toNat, by omega⟩
    obtain ⟨E, rfl⟩ : ∃ X : Nat, e = (X : Int) := ⟨e.toNat, by omega⟩
    have hmS := monS_is ⟨(X : Int), (Y : Int), (D : Int), (E : Int)⟩
    simp only at hmS
    obtain ⟨p1, hp1⟩ : ∃ p, fpw 120 (X : Int) = p := ⟨_, rfl⟩
    obtain ⟨p2, hp2⟩ : ∃ p, fpw 121 (Y : Int) = p := ⟨_, rfl⟩
    obtain ⟨p3, hp3⟩ : ∃ p, fpw 100 (D : Int) = p := ⟨_, rfl⟩
    obtain ⟨p4, hp4⟩ : ∃ p, fpw 101 (E : Int) = p := ⟨_, rfl⟩
    have k1 : p1.length ≤ 3 := by rw [← hp1]; exact fpw_len (by omega)
    have k2 : p2.length ≤ 3 := by rw [← hp2]; exact fpw_len (by omega)
    have k3 : p3.length ≤ 3 := by rw [← hp3]; exact fpw_len (by omega)
    have k4 : p4.length ≤ 3 := by rw [← hp4]; exact fpw_len (by omega)
    rw [hp1, hp2, hp3, hp4] at hmS
    have HM := Hid.mk' hmS
    have X15 : X ≤ 15 := by omega
    have Y15 : Y ≤ 15 := by omega
    have D15 : D ≤ 15 := by omega
    have E15 : E ≤ 15 := by omega
    clear hmS x1 x2 y1 y2 d1 d2 e1 e2
    obtain ⟨Res, hRes⟩ : ∃ R, monT ⟨(X : Int), (Y : Int), (D : Int), (E : Int)⟩ = R := ⟨_, rfl⟩
    rw [hRes]
    have HR := Hid.mk' hRes
    clear hRes
    go_enter Tryz.func29, Tryz.ntmps29
    go_wp2_with fail
    refine (monOkS_of HOK.out _).mono ?_
    rintro r w1 ⟨rfl, hb⟩
    have hb1 := bel_next (bel_one w (.cells #[.int .i64 (X : Int), .int .i64 (Y : Int), .int .i64 (D : Int), .int .i64 (E : Int)] 38)) hb
    have HB1 := Hid.mk' hb1
    have q0 : w.heap.size < w1.heap.size := Nat.lt_of_lt_of_le (by simp) hb.size
    have ne := Ext.there w1
    have g : ∀ j : Nat, w1.cell? ⟨w.heap.size, j, none⟩ = (w.alloc (.cells #[.int .i64 (X : Int), .int .i64 (Y : Int), .int .i64 (D : Int), .int .i64 (E : Int)] 38)).cell? ⟨w.heap.size, j, none⟩ := fun j => hb.cell (p := ⟨w.heap.size, j, none⟩) (by simp)
    have s0 : ∀ u : Ext w1, u.1.cell? ⟨w.heap.size, 0, none⟩ = some (.int .i64 (X : Int)) := fun u => (u.cell q0).trans ((g 0).trans (by rw [World.cell?_alloc_at _ _ _ _ rfl]; rfl))
    have s1 : ∀ u : Ext w1, u.1.cell? ⟨w.heap.size, 1, none⟩ = some (.int .i64 (Y : Int)) := fun u => (u.cell q0).trans ((g 1).trans (by rw [World.cell?_alloc_at _ _ _ _ rfl]; rfl))
    have s2 : ∀ u : Ext w1, u.1.cell? ⟨w.heap.size, 2, none⟩ = some (.int .i64 (D : Int)) := fun u => (u.cell q0).trans ((g 2).trans (by rw [World.cell?_alloc_at _ _ _ _ rfl]; rfl))
    have s3 : ∀ u : Ext w1, u.1.cell? ⟨w.heap.size, 3, none⟩ = some (.int .i64 (E : Int)) := fun u => (u.cell q0).trans ((g 3).trans (by rw [World.cell?_alloc_at _ _ _ _ rfl]; rfl))
    clear hb hb1 g
    have z1 : ¬ (p1.length + p2.length > 9223372036854775807) := by omega
    have z2 : ¬ (p1.length + p2.length + p3.length > 9223372036854775807) := by omega
    have z3 : ¬ (p1.length + p2.length + p3.length + p4.length > 9223372036854775807) := by omega
    have y1 : ¬ (9223372036854775807 < p1.length + p2.length) := by omega
    have y2 : ¬ (9223372036854775807 < p1.length + p2.length + p3.length) := by omega
    have y3 : ¬ (9223372036854775807 < p1.length + p2.length + p3.length + p4.length) := by omega
    go_wp2_with fail
    refine wp_region_ext (by kernel_rfl) (by kernel_rfl) ?_
    repeat (go_big_quiet_step (first | (go_at_call 54; exact ext_grows (l2Power_of (by with_reducible assumption) (by omega) _)) | fail))
    refine wpQuiet_nil ?_
    rintro _ ⟨v, rfl⟩
    have HV := Hid.mk' (bel_next HB1.out v.2)
    clear s0 s1 s2 s3 ne hp1 hp2 hp3 hp4
    have hcat : (ByteArray.mk p1.toArray ++ ByteArray.mk p2.toArray ++ ByteArray.mk p3.toArray ++ ByteArray.mk p4.toArray) = ByteArray.mk (p1 ++ p2 ++ p3 ++ p4).toArray := by
      rw [ByteArray.mk_append_mk, ByteArray.mk_append_mk, ByteArray.mk_append_mk]
    simp only [hcat]
    obtain ⟨S, hS⟩ : ∃ S, p1 ++ p2 ++ p3 ++ p4 = S := ⟨_, rfl⟩
    rw [hS] at HM ⊢
    clear hcat hS
    by_cases h0 : S = []
    · subst h0
      have hR : Res = [49] := HR.out.symm.trans (monT_one HOK.out HM.out)
      have HRR := Hid.mk' hR
      clear hR
      go_wp2
      go_ret
      exact ⟨by rw [HRR.out]; rfl, HV.out⟩
    · have hR : Res = S := HR.out.symm.trans ((monT_is HOK.out (by rw [HM.out]; exact h0)).trans HM.out)
      have HRR := Hid.mk' hR
      clear hR
      have hie : S.isEmpty = false := by cases S <;> simp at h0 ⊢
      clear h0
      go_wp2
      go_ret
      exact ⟨by rw [HRR.out]; rfl, HV.out⟩
end Go.Proofs.YtnfgiplgkobnlaaGreatDoor
namespace Go.Proofs.YtnfgiplgkobnlaaGreatDoor
open Go.RowKit
set_option linter.unusedVariables false
set_option linter.unusedSimpArgs false

theorem drop_at {s : List UInt8} {at0 j : Nat} : (s.drop at0)[j]? = s[at0 + j]? := List.getElem?_drop
set_option maxRecDepth 100000 in
set_option maxHeartbeats 4000000 in
theorem l3NumberS (s : List UInt8) (hs : s.length ≤ 1048576) (p : Nat) (hp : p ≤ s.length) (w : World) :
    Calls Tryz.prog 53 #[.string ⟨s.toArray⟩, .int .i64 (p : Int)] w fun r w' => r = .returned (.tuple #[.int .i64 (nv (lead (s.drop p))), .int .i64 ((p + (lead (s.drop p)).length : Nat) : Int)]) ∧ w' = w := by
  have hsI : (s.length : Int) ≤ 1048576 := by omega
  obtain ⟨l, hl⟩ : ∃ l, s.drop p = l := ⟨_, rfl⟩
  have hll : l.length = s.length - p := by rw [← hl]; simp
  have HAT : Hid (∀ j, l[j]? = s[p + j]?) := fun j => by rw [← hl]; exact drop_at
  rw [hl]
  have HLN := Hid.mk' hll
  clear hl hll
  go_enter Tryz.func53, Tryz.ntmps53
  go_wp2
  go_loop [6, 7] (fun v6 v7 => ∃ (j q : Nat) (n : Int), j ≤ l.length ∧ q = p + j ∧ v7 = .int .i64 (q : Int) ∧ v6 = .int .i64 n ∧ Hid (n = nv (l.take j)) ∧ Hid (∀ i c, i < j → l[i]? = some c → isD c = true)) (fun _ v7 => s.length - (intOf v7).toNat)
  case atStart => exact ⟨0, p, 0, Nat.zero_le _, rfl, rfl, rfl, Hid.mk' rfl, fun i c hi => by omega⟩
  case round =>
    obtain ⟨j, q, n, hj, hq, rfl, rfl, HN, HD⟩ := hrel
    have HQ := Hid.mk' hq
    clear hq
    have hnb : 0 ≤ n ∧ n ≤ 10000 := by
      rw [HN.out]
      refine nv_bd _ fun c hc => ?_
      obtain ⟨i, hi, e⟩ := List.getElem_of_mem hc
      rw [List.length_take] at hi
      exact HD.out i c (by omega) (by rw [← e, List.getElem_take]; exact List.getElem?_eq_getElem _)
    obtain ⟨hn0, hn1⟩ := hnb
    by_cases hjl : j < l.length
    · have hqI : (q : Int) < (s.length : Int) := by have h1 := HLN.out; have h2 := HQ.out; omega
      obtain ⟨c, hc⟩ : ∃ c, l[j]? = some c := ⟨_, List.getElem?_eq_getElem hjl⟩
      have hix := str_index (l := s) (k := q) (c := c) (by rw [HQ.out, ← HAT.out j]; exact hc)
      have HC := Hid.mk' hc
      clear hc
      obtain ⟨z, hz⟩ : ∃ z : Nat, c.toNat = z := ⟨_, rfl⟩
      have hdz : isD c = decide (48 ≤ z ∧ z ≤ 57) := by unfold isD; rw [hz]
      have HDZ := Hid.mk' hdz
      have hz255 : z < 256 := by rw [← hz]; exact c.toNat_lt
      have HNX : Hid (nv (l.take (j + 1)) = if n < 1000 then n * 10 + ((z : Int) - 48) else n) := by
        rw [List.take_add_one, HC.out]
        show Hid (nv (l.take j ++ [c]) = _)
        rw [nv_snoc, ← HN.out, ← hz]
        exact Hid.mk' rfl
      rw [hz] at hix
      clear hz hdz
      have hw1 : IntKind.i64.wrap (z : Int) = (z : Int) := by rw [IntKind.wrap_i64]; omega
      by_cases hd : 48 ≤ z ∧ z ≤ 57
      · have HN2 : Hid (∀ i c, i < j + 1 → l[i]? = some c → isD c = true) := fun i c' hi hc' => by
          by_cases e : i = j
          · subst e
            have e := HC.out.symm.trans hc'
            cases e
            rw [HDZ.out]; exact decide_eq_true hd
          · exact HD.out i c' (by omega) hc'
        obtain ⟨hd1, hd2⟩ := hd
        have hu1 : IntKind.u8.wrap ((z : Int) - 48) = (z : Int) - 48 := by
          rcases (show z = 48 ∨ z = 49 ∨ z = 50 ∨ z = 51 ∨ z = 52 ∨ z = 53 ∨ z = 54 ∨ z = 55 ∨ z = 56 ∨ z = 57 by omega) with rfl | rfl | rfl | rfl | rfl | rfl | rfl | rfl | rfl | rfl <;> decide
        have HIN := Hid.mk' (inS_in (z : Int) 48 57)
        by_cases hn : n < 1000
        · have HV : Hid (nv (l.take (j + 1)) = n * 10 + ((z : Int) - 48)) := by rw [HNX.out, if_pos hn]; exact Hid.mk' rfl
          go_wp2_with (first | (go_at_call 38; refine (HIN.out _ (by omega) (by omega)).mono ?_; rintro e w' ⟨rfl, rfl⟩))
          go_round
          case rel => exact ⟨j + 1, q + 1, n * 10 + ((z : Int) - 48), by omega, by rw [HQ.out]; omega, by go_num, by first | rfl | (congr 1; done) | (simp; done), Hid.mk' HV.out.symm, HN2⟩
          case measure => simp [intOf]; omega
        · have HV : Hid (nv (l.take (j + 1)) = n) := by rw [HNX.out, if_neg hn]; exact Hid.mk' rfl
          go_wp2_with (first | (go_at_call 38; refine (HIN.out _ (by omega) (by omega)).mono ?_; rintro e w' ⟨rfl, rfl⟩))
          go_round
          case rel => exact ⟨j + 1, q + 1, n, by omega, by rw [HQ.out]; omega, by go_num, rfl, Hid.mk' HV.out.symm, HN2⟩
          case measure => simp [intOf]; omega
      · have HF : Hid (l.take j = lead l) := Hid.mk' (lead_take HD.out (fun c' hc' => by
          have e := HC.out.symm.trans hc'
          cases e
          rw [HDZ.out]; exact decide_eq_false hd) hj)
        have hout : (z : Int) < 48 ∨ (48 ≤ (z : Int) ∧ 57 < (z : Int)) := by omega
        have HOUT := Hid.mk' (fun u => inS_out (z : Int) 48 57 u hout)
        have HLL : Hid ((lead l).length = j) := by rw [← HF.out, List.length_take]; exact Hid.mk' (by omega)
        clear hout hd
        go_wp2_with (first | (go_at_call 38; refine (HOUT.out _).mono ?_; rintro e w' ⟨rfl, rfl⟩))
        refine bodyPost_ret (v := .tuple #[.int .i64 n, .int .i64 (q : Int)]) (by simp [results, Tryz.results53, go_sem]) rfl ⟨?_, rfl⟩
        rw [HLL.out, ← HF.out, ← HN.out]
        have e : ((p + j : Nat) : Int) = (q : Int) := by rw [HQ.out]
        have e2 : (p : Int) + (j : Int) = (q : Int) := by rw [HQ.out]; simp
        first | rw [e] | rw [e2]
    · have hje : j = l.length := by omega
      have hqI : ¬ (q : Int) < (s.length : Int) := by have h1 := HLN.out; have h2 := HQ.out; omega
      have HF : Hid (l.take j = lead l) := Hid.mk' (lead_take HD.out (fun c hc => by
        have := (List.getElem?_eq_some_iff.1 hc).1
        omega) hj)
      have HLL : Hid ((lead l).length = j) := by rw [← HF.out, List.length_take]; exact Hid.mk' (by omega)
      clear hje
      go_wp2
      refine bodyPost_ret (v := .tuple #[.int .i64 n, .int .i64 (q : Int)]) (by simp [results, Tryz.results53, go_sem]) rfl ⟨?_, rfl⟩
      rw [HLL.out, ← HF.out, ← HN.out]
      have e : ((p + j : Nat) : Int) = (q : Int) := by rw [HQ.out]
      have e2 : (p : Int) + (j : Int) = (q : Int) := by rw [HQ.out]; simp
      first | rw [e] | rw [e2]
end Go.Proofs.YtnfgiplgkobnlaaGreatDoor
namespace Go.Proofs.YtnfgiplgkobnlaaGreatDoor
open Go.RowKit
set_option linter.unusedVariables false
set_option linter.unusedSimpArgs false
/-- five cells that may be written. -/
def W5 (w : World) (b : Nat) (x0 x1 x2 x3 x4 : Int) : Prop := (w.cell? ⟨b, 0, none⟩ = some (.int .i64 x0) ∧ w.cell? ⟨b, 1, none⟩ = some (.int .i64 x1) ∧ w.cell? ⟨b, 2, none⟩ = some (.int .i64 x2) ∧ w.cell? ⟨b, 3, none⟩ = some (.int .i64 x3) ∧ w.cell? ⟨b, 4, none⟩ = some (.int .i64 x4)) ∧ ∀ j, w.frozen? ⟨b, j, none⟩ = false
theorem W5.lt {w : World} {b : Nat} {x0 x1 x2 x3 x4 : Int} (h : W5 w b x0 x1 x2 x3 x4) : b < w.heap.size := World.block_lt_of_cell? w _ h.1.1
theorem W5.below {w w' : World} {b : Nat} {x0 x1 x2 x3 x4 : Int} (h : W5 w b x0 x1 x2 x3 x4) (hb : Below w.heap.size w w') : W5 w' b x0 x1 x2 x3 x4 :=
  ⟨⟨(hb.cell (p := ⟨b, 0, none⟩) h.lt).trans h.1.1, (hb.cell (p := ⟨b, 1, none⟩) h.lt).trans h.1.2.1, (hb.cell (p := ⟨b, 2, none⟩) h.lt).trans h.1.2.2.1, (hb.cell (p := ⟨b, 3, none⟩) h.lt).trans h.1.2.2.2.1, (hb.cell (p := ⟨b, 4, none⟩) h.lt).trans h.1.2.2.2.2⟩, fun j => (hb.frozen (p := ⟨b, j, none⟩) h.lt).trans (h.2 j)⟩
theorem W5.box (w : World) (y : TypeId) (x0 x1 x2 x3 x4 : Int) : W5 (w.alloc (.cells #[.int .i64 x0, .int .i64 x1, .int .i64 x2, .int .i64 x3, .int .i64 x4] y)) w.heap.size x0 x1 x2 x3 x4 :=
  ⟨⟨by rw [World.cell?_alloc_at _ _ _ _ rfl]; rfl, by rw [World.cell?_alloc_at _ _ _ _ rfl]; rfl, by rw [World.cell?_alloc_at _ _ _ _ rfl]; rfl, by rw [World.cell?_alloc_at _ _ _ _ rfl]; rfl, by rw [World.cell?_alloc_at _ _ _ _ rfl]; rfl⟩, fun j => by rw [World.frozen?_alloc_at _ _ _ _ rfl]⟩
theorem W5.other {w : World} {b : Nat} {x0 x1 x2 x3 x4 : Int} (h : W5 w b x0 x1 x2 x3 x4) {b' k : Nat} (hne : b' ≠ b) (v : Value) : W5 (w.setCell ⟨b', k, none⟩ v) b x0 x1 x2 x3 x4 := by
  have ne : ∀ j, (⟨b', k, none⟩ : Addr) ≠ ⟨b, j, none⟩ := fun j e => hne (by cases e; rfl)
  exact ⟨⟨by rw [World.cell?_setCell_other _ _ _ _ (ne 0)]; exact h.1.1, by rw [World.cell?_setCell_other _ _ _ _ (ne 1)]; exact h.1.2.1, by rw [World.cell?_setCell_other _ _ _ _ (ne 2)]; exact h.1.2.2.1, by rw [World.cell?_setCell_other _ _ _ _ (ne 3)]; exact h.1.2.2.2.1, by rw [World.cell?_setCell_other _ _ _ _ (ne 4)]; exact h.1.2.2.2.2⟩, fun j => by rw [World.frozen?_setCell]; exact h.2 j⟩
theorem W5.set0 {w : World} {b : Nat} {x0 x1 x2 x3 x4 : Int} (h : W5 w b x0 x1 x2 x3 x4) (v : Int) : W5 (w.setCell ⟨b, 0, none⟩ (.int .i64 v)) b v x1 x2 x3 x4 :=
  ⟨⟨World.cell?_setCell_same _ _ _ h.1.1, by rw [World.cell?_setCell_other _ _ _ _ (by simp)]; exact h.1.2.1, by rw [World.cell?_setCell_other _ _ _ _ (by simp)]; exact h.1.2.2.1, by rw [World.cell?_setCell_other _ _ _ _ (by simp)]; exact h.1.2.2.2.1, by rw [World.cell?_setCell_other _ _ _ _ (by simp)]; exact h.1.2.2.2.2⟩, fun j => by rw [World.frozen?_setCell]; exact h.2 j⟩
theorem W5.set1 {w : World} {b : Nat} {x0 x1 x2 x3 x4 : Int} (h : W5 w b x0 x1 x2 x3 x4) (v : Int) : W5 (w.setCell ⟨b, 1, none⟩ (.int .i64 v)) b x0 v x2 x3 x4 :=
  ⟨⟨by rw [World.cell?_setCell_other _ _ _ _ (by simp)]; exact h.1.1, World.cell?_setCell_same _ _ _ h.1.2.1, by rw [World.cell?_setCell_other _ _ _ _ (by simp)]; exact h.1.2.2.1, by rw [World.cell?_setCell_other _ _ _ _ (by simp)]; exact h.1.2.2.2.1, by rw [World.cell?_setCell_other _ _ _ _ (by simp)]; exact h.1.2.2.2.2⟩, fun j => by rw [World.frozen?_setCell]; exact h.2 j⟩
theorem W5.set2 {w : World} {b : Nat} {x0 x1 x2 x3 x4 : Int} (h : W5 w b x0 x1 x2 x3 x4) (v : Int) : W5 (w.setCell ⟨b, 2, none⟩ (.int .i64 v)) b x0 x1 v x3 x4 :=
  ⟨⟨by rw [World.cell?_setCell_other _ _ _ _ (by simp)]; exact h.1.1, by rw [World.cell?_setCell_other _ _ _ _ (by simp)]; exact h.1.2.1, World.cell?_setCell_same _ _ _ h.1.2.2.1, by rw [World.cell?_setCell_other _ _ _ _ (by simp)]; exact h.1.2.2.2.1, by rw [World.cell?_setCell_other _ _ _ _ (by simp)]; exact h.1.2.2.2.2⟩, fun j => by rw [World.frozen?_setCell]; exact h.2 j⟩
theorem W5.set3 {w : World} {b : Nat} {x0 x1 x2 x3 x4 : Int} (h : W5 w b x0 x1 x2 x3 x4) (v : Int) : W5 (w.setCell ⟨b, 3, none⟩ (.int .i64 v)) b x0 x1 x2 v x4 :=
  ⟨⟨by rw [World.cell?_setCell_other _ _ _ _ (by simp)]; exact h.1.1, by rw [World.cell?_setCell_other _ _ _ _ (by simp)]; exact h.1.2.1, by rw [World.cell?_setCell_other _ _ _ _ (by simp)]; exact h.1.2.2.1, World.cell?_setCell_same _ _ _ h.1.2.2.2.1, by rw [World.cell?_setCell_other _ _ _ _ (by simp)]; exact h.1.2.2.2.2⟩, fun j => by rw [World.frozen?_setCell]; exact h.2 j⟩
theorem W5.set4 {w : World} {b : Nat} {x0 x1 x2 x3 x4 : Int} (h : W5 w b x0 x1 x2 x3 x4) (v : Int) : W5 (w.setCell ⟨b, 4, none⟩ (.int .i64 v)) b x0 x1 x2 x3 v :=
  ⟨⟨by rw [World.cell?_setCell_other _ _ _ _ (by simp)]; exact h.1.1, by rw [World.cell?_setCell_other _ _ _ _ (by simp)]; exact h.1.2.1, by rw [World.cell?_setCell_other _ _ _ _ (by simp)]; exact h.1.2.2.1, by rw [World.cell?_setCell_other _ _ _ _ (by simp)]; exact h.1.2.2.2.1, World.cell?_setCell_same _ _ _ h.1.2.2.2.2⟩, fun j => by rw [World.frozen?_setCell]; exact h.2 j⟩

def TQ (w : World) (wr : World) (t : T) : Prop := Below w.heap.size w wr ∧ W5 wr w.heap.size 0 0 0 0 0 ∧ W5 wr (w.heap.size + 1) t.c t.m.x t.m.y t.m.d t.m.e
theorem set_120 {c : UInt8} {z : Nat} (h : c.toNat = z) (hz : z = 120) (n : Int) (t : T) : setL c n t = ⟨t.c, ⟨n, t.m.y, t.m.d, t.m.e⟩⟩ := by unfold setL; rw [h, if_pos hz]
theorem set_121 {c : UInt8} {z : Nat} (h : c.toNat = z) (hz : z = 121) (n : Int) (t : T) : setL c n t = ⟨t.c, ⟨t.m.x, n, t.m.d, t.m.e⟩⟩ := by unfold setL; rw [h, if_neg (by omega), if_pos hz]
theorem set_100 {c : UInt8} {z : Nat} (h : c.toNat = z) (hz : z = 100) (n : Int) (t : T) : setL c n t = ⟨t.c, ⟨t.m.x, t.m.y, n, t.m.e⟩⟩ := by unfold setL; rw [h, if_neg (by omega), if_neg (by omega), if_pos hz]
theorem set_101 {c : UInt8} {z : Nat} (h : c.toNat = z) (hz : z = 101) (n : Int) (t : T) : setL c n t = ⟨t.c, ⟨t.m.x, t.m.y, t.m.d, n⟩⟩ := by unfold setL; rw [h, if_neg (by omega), if_neg (by omega), if_neg (by omega)]
theorem isLt_z {c : UInt8} {z : Nat} (h : c.toNat = z) : isLt c = decide (z = 120 ∨ z = 121 ∨ z = 100 ∨ z = 101) := by unfold isLt; rw [h]
set_option maxRecDepth 100000 in
set_option maxHeartbeats 8000000 in
theorem l3TermS (s : List UInt8) (hs : s.length ≤ 1048576) (w : World) :
    Calls Tryz.prog 28 #[.string ⟨s.toArray⟩] w fun r w' => r = .returned (.agg #[.int .i64 (trmR s).c, .int .i64 (trmR s).m.x, .int .i64 (trmR s).m.y, .int .i64 (trmR s).m.d, .int .i64 (trmR s).m.e]) ∧ Below w.heap.size w w' := by
  have hsI : (s.length : Int) ≤ 1048576 := by omega
  obtain ⟨R, hR⟩ : ∃ R, trmR s = R := ⟨_, rfl⟩
  rw [hR]
  have HR := Hid.mk' hR
  clear hR
  have b1 := bel_one w (.cells #[.int .i64 0, .int .i64 0, .int .i64 0, .int .i64 0, .int .i64 0] 45)
  have b2 := bel_next b1 (bel_one (w.alloc (.cells #[.int .i64 0, .int .i64 0, .int .i64 0, .int .i64 0, .int .i64 0] 45)) (.cells #[.int .i64 1, .int .i64 0, .int .i64 0, .int .i64 0, .int .i64 0] 45))
  have HQ0 : Hid (TQ w ((w.alloc (.cells #[.int .i64 0, .int .i64 0, .int .i64 0, .int .i64 0, .int .i64 0] 45)).alloc (.cells #[.int .i64 1, .int .i64 0, .int .i64 0, .int .i64 0, .int .i64 0] 45)) ⟨1, ⟨0, 0, 0, 0⟩⟩) :=
    ⟨b2, (W5.box w 45 0 0 0 0 0).below (bel_one _ _), by
      have := W5.box (w.alloc (.cells #[.int .i64 0, .int .i64 0, .int .i64 0, .int .i64 0, .int .i64 0] 45)) 45 1 0 0 0 0
      rw [World.size_alloc] at this
      exact this⟩
  clear b1 b2
  have hneB : w.heap.size + 1 ≠ w.heap.size := by omega
  have hneB2 : w.heap.size ≠ w.heap.size + 1 := by omega
  have HN0 := Hid.mk' (l3NumberS s hs 0 (Nat.zero_le _))
  rw [List.drop_zero, Nat.zero_add] at HN0
  obtain ⟨d0, hd0⟩ : ∃ d, (lead s).length = d := ⟨_, rfl⟩
  obtain ⟨n0, hn0⟩ : ∃ n, nv (lead s) = n := ⟨_, rfl⟩
  have hd0l : d0 ≤ s.length := by rw [← hd0]; exact lead_len s
  have HRR : Hid (∃ f, (s.drop d0).length ≤ f ∧ ltm f ⟨if 0 < d0 then n0 else 1, ⟨0, 0, 0, 0⟩⟩ (s.drop d0) = R) := by
    refine ⟨_, Nat.le_refl _, ?_⟩
    have := HR.out
    unfold trmR trm0 at this
    rw [hd0, hn0] at this
    exact this
  rw [hd0, hn0] at HN0
  clear hd0 hn0 HR
  have hd0I : (d0 : Int) ≤ 1048576 := by omega
  go_enter Tryz.func28, Tryz.ntmps28
  go_wp2_with fail
  refine (HN0.out _).mono ?_
  rintro r w1 ⟨rfl, hw1⟩
  obtain rfl := hw1.symm
  clear hw1
  by_cases hd00 : 0 < d0
  · have HRS : Hid (∃ f, (s.drop d0).length ≤ f ∧ ltm f ⟨n0, ⟨0, 0, 0, 0⟩⟩ (s.drop d0) = R) := by have := HRR.out; rw [if_pos hd00] at this; exact this
    have hd01 : (0 : Int) < (d0 : Int) := by omega
    have hd02 : decide (0 < d0) = true := decide_eq_true hd00
    have HQS : Hid (TQ w ((w.alloc (.cells #[.int .i64 0, .int .i64 0, .int .i64 0, .int .i64 0, .int .i64 0] 45)).alloc (.cells #[.int .i64 n0, .int .i64 0, .int .i64 0, .int .i64 0, .int .i64 0] 45)) ⟨n0, ⟨0, 0, 0, 0⟩⟩) := ⟨bel_next (bel_one w _) (bel_one _ _), (W5.box w 45 0 0 0 0 0).below (bel_one _ _), by
      have := W5.box (w.alloc (.cells #[.int .i64 0, .int .i64 0, .int .i64 0, .int .i64 0, .int .i64 0] 45)) 45 n0 0 0 0 0
      rw [World.size_alloc] at this
      exact this⟩
    clear HRR hd00 HQ0
    go_wp2
    (try simp only [hd02])
    go_loopw [5] (fun v5 wr => ∃ (q : Nat) (t : T), q ≤ s.length ∧ v5 = .int .i64 (q : Int) ∧ Hid (TQ w wr t) ∧ Hid (∃ f, (s.drop q).length ≤ f ∧ ltm f t (s.drop q) = R)) (fun v5 _ => s.length - (intOf v5).toNat)
    case atStart => exact ⟨d0, ⟨n0, ⟨0, 0, 0, 0⟩⟩, hd0l, by first | rfl | go_num, HQS, HRS⟩
    case round =>
      obtain ⟨q, t, hql, rfl, HTQ, HF⟩ := hrel
      by_cases hq : q < s.length
      · have hqI : (q : Int) < (s.length : Int) := by omega
        obtain ⟨c, hc⟩ : ∃ c, s[q]? = some c := ⟨_, List.getElem?_eq_getElem hq⟩
        have hix := str_index hc
        have HDR : Hid (s.drop q = c :: s.drop (q + 1)) := by rw [List.drop_eq_getElem_cons hq]; have := (List.getElem?_eq_some_iff.1 hc).2; rw [this]; exact Hid.mk' rfl
        obtain ⟨z, hz⟩ : ∃ z : Nat, c.toNat = z := ⟨_, rfl⟩
        have HZ := Hid.mk' hz
        rw [hz] at hix
        clear hc hz
        have HN := Hid.mk' (l3NumberS s hs (q + 1) hq)
        obtain ⟨L, hL⟩ : ∃ L, (lead (s.drop (q + 1))).length = L := ⟨_, rfl⟩
        obtain ⟨V, hV⟩ : ∃ V, nv (lead (s.drop (q + 1))) = V := ⟨_, rfl⟩
        obtain ⟨nn, hnn⟩ : ∃ n, nOf (s.drop (q + 1)) = n := ⟨_, rfl⟩
        have hnn2 : nn = if L = 0 then 1 else V := by rw [← hnn]; unfold nOf; rw [hL, hV]
        obtain ⟨k, hk⟩ : ∃ k, q + 1 + L = k := ⟨_, rfl⟩
        have hks : k ≤ s.length := by have := lead_len (s.drop (q + 1)); rw [hL, List.length_drop] at this; omega
        have hqk : q < k := by omega
        have HYES : Hid (isLt c = true → ∃ f', (s.drop k).length ≤ f' ∧ ltm f' (setL c nn t) (s.drop k) = R) := fun hl => by
          obtain ⟨f, hf, he⟩ := HF.out
          rw [HDR.out] at hf he
          obtain ⟨f', rfl⟩ : ∃ f', f = f' + 1 := ⟨f - 1, by simp at hf; omega⟩
          rw [ltm_yes hl, hnn, hL, List.drop_drop, hk] at he
          refine ⟨f', ?_, he⟩
          rw [List.length_cons, List.length_drop] at hf
          rw [List.length_drop]
          omega
        have HNO : Hid (isLt c = false → R = ⟨0, ⟨0, 0, 0, 0⟩⟩) := fun hl => by
          obtain ⟨f, hf, he⟩ := HF.out
          rw [HDR.out] at hf he
          obtain ⟨f', rfl⟩ : ∃ f', f = f' + 1 := ⟨f - 1, by simp at hf; omega⟩
          rw [ltm_no hl] at he
          exact he.symm
        rw [hL, hV, hk] at HN
        have HIL := Hid.mk' (isLt_z HZ.out)
        have HKQ : Hid (k = q + 1 + L) := hk.symm
        have HNN := Hid.mk' hnn2
        clear hL hV hnn hnn2 hk HF HDR
        have hkI : (k : Int) ≤ 1048576 := by omega
        have hqw : IntKind.i64.wrap ((q : Int) + 1) = (q : Int) + 1 := by rw [IntKind.wrap_i64]; omega
        have HN2 : Hid (∀ u : World, Calls Tryz.prog 53 #[.string ⟨s.toArray⟩, .int .i64 ((q : Int) + 1)] u fun r w' => r = .returned (.tuple #[.int .i64 V, .int .i64 (k : Int)]) ∧ w' = u) := fun u => by
          have := HN.out u
          rw [Int.natCast_add] at this
          exact this
        obtain ⟨⟨c0, c1, c2, c3, c4⟩, cz⟩ := HTQ.out.2.2
        obtain ⟨⟨r0, r1, r2, r3, r4⟩, rz⟩ := HTQ.out.2.1
        by_cases hL0 : L = 0
        · have hke : ((k : Int) == (q : Int) + 1) = true := by have := HKQ.out; simp; omega
          have hne1 : nn = 1 := by rw [HNN.out, if_pos hL0]
          subst hne1
          clear HNN hL0
          by_cases hz120 : z = 120
          · skip
            have HSE := Hid.mk' (set_120 HZ.out hz120 1 t)
            have HY := Hid.mk' (HYES.out (by rw [HIL.out]; exact decide_eq_true (by omega)))
            have HT2 : Hid (TQ w (wr.setCell ⟨w.heap.size + 1, 1, none⟩ (.int .i64 1)) (setL c 1 t)) := by rw [HSE.out]; exact ⟨HTQ.out.1.setCell (by simp) _, HTQ.out.2.1.other hneB _, HTQ.out.2.2.set1 _⟩
            have hb120 : ((z : Int) == 120) = true := by simp; omega
            have hb121 : ((z : Int) == 121) = false := by simp; omega
            have hb100 : ((z : Int) == 100) = false := by simp; omega
            have hb101 : ((z : Int) == 101) = false := by simp; omega
            clear HYES HNO HIL HSE hz120 HZ
            go_wp2_with fail
            refine (HN2.out _).mono ?_
            rintro r w2 ⟨rfl, hw2⟩
            obtain rfl := hw2.symm
            clear hw2
            go_wp2
            go_roundw
            case rel => exact ⟨k, setL c 1 t, hks, rfl, HT2, HY⟩
            case measure => simp [intOf]; omega
          by_cases hz121 : z = 121
          · skip
            have HSE := Hid.mk' (set_121 HZ.out hz121 1 t)
            have HY := Hid.mk' (HYES.out (by rw [HIL.out]; exact decide_eq_true (by omega)))
            have HT2 : Hid (TQ w (wr.setCell ⟨w.heap.size + 1, 2, none⟩ (.int .i64 1)) (setL c 1 t)) := by rw [HSE.out]; exact ⟨HTQ.out.1.setCell (by simp) _, HTQ.out.2.1.other hneB _, HTQ.out.2.2.set2 _⟩
            have hb120 : ((z : Int) == 120) = false := by simp; omega
            have hb121 : ((z : Int) == 121) = true := by simp; omega
            have hb100 : ((z : Int) == 100) = false := by simp; omega
            have hb101 : ((z : Int) == 101) = false := by simp; omega
            clear HYES HNO HIL HSE hz121 HZ
            go_wp2_with fail
            refine (HN2.out _).mono ?_
            rintro r w2 ⟨rfl, hw2⟩
            obtain rfl := hw2.symm
            clear hw2
            go_wp2
            go_roundw
            case rel => exact ⟨k, setL c 1 t, hks, rfl, HT2, HY⟩
            case measure => simp [intOf]; omega
          by_cases hz100 : z = 100
          · skip
            have HSE := Hid.mk' (set_100 HZ.out hz100 1 t)
            have HY := Hid.mk' (HYES.out (by rw [HIL.out]; exact decide_eq_true (by omega)))
            have HT2 : Hid (TQ w (wr.setCell ⟨w.heap.size + 1, 3, none⟩ (.int .i64 1)) (setL c 1 t)) := by rw [HSE.out]; exact ⟨HTQ.out.1.setCell (by simp) _, HTQ.out.2.1.other hneB _, HTQ.out.2.2.set3 _⟩
            have hb120 : ((z : Int) == 120) = false := by simp; omega
            have hb121 : ((z : Int) == 121) = false := by simp; omega
            have hb100 : ((z : Int) == 100) = true := by simp; omega
            have hb101 : ((z : Int) == 101) = false := by simp; omega
            clear HYES HNO HIL HSE hz100 HZ
            go_wp2_with fail
            refine (HN2.out _).mono ?_
            rintro r w2 ⟨rfl, hw2⟩
            obtain rfl := hw2.symm
            clear hw2
            go_wp2
            go_roundw
            case rel => exact ⟨k, setL c 1 t, hks, rfl, HT2, HY⟩
            case measure => simp [intOf]; omega
          by_cases hz101 : z = 101
          · skip
            have HSE := Hid.mk' (set_101 HZ.out hz101 1 t)
            have HY := Hid.mk' (HYES.out (by rw [HIL.out]; exact decide_eq_true (by omega)))
            have HT2 : Hid (TQ w (wr.setCell ⟨w.heap.size + 1, 4, none⟩ (.int .i64 1)) (setL c 1 t)) := by rw [HSE.out]; exact ⟨HTQ.out.1.setCell (by simp) _, HTQ.out.2.1.other hneB _, HTQ.out.2.2.set4 _⟩
            have hb120 : ((z : Int) == 120) = false := by simp; omega
            have hb121 : ((z : Int) == 121) = false := by simp; omega
            have hb100 : ((z : Int) == 100) = false := by simp; omega
            have hb101 : ((z : Int) == 101) = true := by simp; omega
            clear HYES HNO HIL HSE hz101 HZ
            go_wp2_with fail
            refine (HN2.out _).mono ?_
            rintro r w2 ⟨rfl, hw2⟩
            obtain rfl := hw2.symm
            clear hw2
            go_wp2
            go_roundw
            case rel => exact ⟨k, setL c 1 t, hks, rfl, HT2, HY⟩
            case measure => simp [intOf]; omega
          have HRZ := Hid.mk' (HNO.out (by rw [HIL.out]; exact decide_eq_false (by omega)))
          have hb120 : ((z : Int) == 120) = false := by simp; omega
          have hb121 : ((z : Int) == 121) = false := by simp; omega
          have hb100 : ((z : Int) == 100) = false := by simp; omega
          have hb101 : ((z : Int) == 101) = false := by simp; omega
          clear HYES HNO HIL HZ hz120 hz121 hz100 hz101
          go_wp2_with fail
          refine (HN2.out _).mono ?_
          rintro r w2 ⟨rfl, hw2⟩
          obtain rfl := hw2.symm
          clear hw2
          go_wp2
          refine bodyPost_ret (v := .agg #[.int .i64 0, .int .i64 0, .int .i64 0, .int .i64 0, .int .i64 0]) (by simp [results, Tryz.results28, go_sem, *]) rfl ⟨by rw [HRZ.out], ?_⟩
          exact ((((HTQ.out.1.setCell (Nat.le_refl _) _).setCell (Nat.le_refl _) _).setCell (Nat.le_refl _) _).setCell (Nat.le_refl _) _).setCell (Nat.le_refl _) _
        · have hke : ((k : Int) == (q : Int) + 1) = false := by have := HKQ.out; simp; omega
          have hne1 : nn = V := by rw [HNN.out, if_neg hL0]
          subst hne1
          clear HNN hL0
          by_cases hz120 : z = 120
          · skip
            have HSE := Hid.mk' (set_120 HZ.out hz120 nn t)
            have HY := Hid.mk' (HYES.out (by rw [HIL.out]; exact decide_eq_true (by omega)))
            have HT2 : Hid (TQ w (wr.setCell ⟨w.heap.size + 1, 1, none⟩ (.int .i64 nn)) (setL c nn t)) := by rw [HSE.out]; exact ⟨HTQ.out.1.setCell (by simp) _, HTQ.out.2.1.other hneB _, HTQ.out.2.2.set1 _⟩
            have hb120 : ((z : Int) == 120) = true := by simp; omega
            have hb121 : ((z : Int) == 121) = false := by simp; omega
            have hb100 : ((z : Int) == 100) = false := by simp; omega
            have hb101 : ((z : Int) == 101) = false := by simp; omega
            clear HYES HNO HIL HSE hz120 HZ
            go_wp2_with fail
            refine (HN2.out _).mono ?_
            rintro r w2 ⟨rfl, hw2⟩
            obtain rfl := hw2.symm
            clear hw2
            go_wp2
            go_roundw
            case rel => exact ⟨k, setL c nn t, hks, rfl, HT2, HY⟩
            case measure => simp [intOf]; omega
          by_cases hz121 : z = 121
          · skip
            have HSE := Hid.mk' (set_121 HZ.out hz121 nn t)
            have HY := Hid.mk' (HYES.out (by rw [HIL.out]; exact decide_eq_true (by omega)))
            have HT2 : Hid (TQ w (wr.setCell ⟨w.heap.size + 1, 2, none⟩ (.int .i64 nn)) (setL c nn t)) := by rw [HSE.out]; exact ⟨HTQ.out.1.setCell (by simp) _, HTQ.out.2.1.other hneB _, HTQ.out.2.2.set2 _⟩
            have hb120 : ((z : Int) == 120) = false := by simp; omega
            have hb121 : ((z : Int) == 121) = true := by simp; omega
            have hb100 : ((z : Int) == 100) = false := by simp; omega
            have hb101 : ((z : Int) == 101) = false := by simp; omega
            clear HYES HNO HIL HSE hz121 HZ
            go_wp2_with fail
            refine (HN2.out _).mono ?_
            rintro r w2 ⟨rfl, hw2⟩
            obtain rfl := hw2.symm
            clear hw2
            go_wp2
            go_roundw
            case rel => exact ⟨k, setL c nn t, hks, rfl, HT2, HY⟩
            case measure => simp [intOf]; omega
          by_cases hz100 : z = 100
          · skip
            have HSE := Hid.mk' (set_100 HZ.out hz100 nn t)
            have HY := Hid.mk' (HYES.out (by rw [HIL.out]; exact decide_eq_true (by omega)))
            have HT2 : Hid (TQ w (wr.setCell ⟨w.heap.size + 1, 3, none⟩ (.int .i64 nn)) (setL c nn t)) := by rw [HSE.out]; exact ⟨HTQ.out.1.setCell (by simp) _, HTQ.out.2.1.other hneB _, HTQ.out.2.2.set3 _⟩
            have hb120 : ((z : Int) == 120) = false := by simp; omega
            have hb121 : ((z : Int) == 121) = false := by simp; omega
            have hb100 : ((z : Int) == 100) = true := by simp; omega
            have hb101 : ((z : Int) == 101) = false := by simp; omega
            clear HYES HNO HIL HSE hz100 HZ
            go_wp2_with fail
            refine (HN2.out _).mono ?_
            rintro r w2 ⟨rfl, hw2⟩
            obtain rfl := hw2.symm
            clear hw2
            go_wp2
            go_roundw
            case rel => exact ⟨k, setL c nn t, hks, rfl, HT2, HY⟩
            case measure => simp [intOf]; omega
          by_cases hz101 : z = 101
          · skip
            have HSE := Hid.mk' (set_101 HZ.out hz101 nn t)
            have HY := Hid.mk' (HYES.out (by rw [HIL.out]; exact decide_eq_true (by omega)))
            have HT2 : Hid (TQ w (wr.setCell ⟨w.heap.size + 1, 4, none⟩ (.int .i64 nn)) (setL c nn t)) := by rw [HSE.out]; exact ⟨HTQ.out.1.setCell (by simp) _, HTQ.out.2.1.other hneB _, HTQ.out.2.2.set4 _⟩
            have hb120 : ((z : Int) == 120) = false := by simp; omega
            have hb121 : ((z : Int) == 121) = false := by simp; omega
            have hb100 : ((z : Int) == 100) = false := by simp; omega
            have hb101 : ((z : Int) == 101) = true := by simp; omega
            clear HYES HNO HIL HSE hz101 HZ
            go_wp2_with fail
            refine (HN2.out _).mono ?_
            rintro r w2 ⟨rfl, hw2⟩
            obtain rfl := hw2.symm
            clear hw2
            go_wp2
            go_roundw
            case rel => exact ⟨k, setL c nn t, hks, rfl, HT2, HY⟩
            case measure => simp [intOf]; omega
          have HRZ := Hid.mk' (HNO.out (by rw [HIL.out]; exact decide_eq_false (by omega)))
          have hb120 : ((z : Int) == 120) = false := by simp; omega
          have hb121 : ((z : Int) == 121) = false := by simp; omega
          have hb100 : ((z : Int) == 100) = false := by simp; omega
          have hb101 : ((z : Int) == 101) = false := by simp; omega
          clear HYES HNO HIL HZ hz120 hz121 hz100 hz101
          go_wp2_with fail
          refine (HN2.out _).mono ?_
          rintro r w2 ⟨rfl, hw2⟩
          obtain rfl := hw2.symm
          clear hw2
          go_wp2
          refine bodyPost_ret (v := .agg #[.int .i64 0, .int .i64 0, .int .i64 0, .int .i64 0, .int .i64 0]) (by simp [results, Tryz.results28, go_sem, *]) rfl ⟨by rw [HRZ.out], ?_⟩
          exact ((((HTQ.out.1.setCell (Nat.le_refl _) _).setCell (Nat.le_refl _) _).setCell (Nat.le_refl _) _).setCell (Nat.le_refl _) _).setCell (Nat.le_refl _) _
      · have hqe : ¬ (q : Int) < (s.length : Int) := by omega
        have HRT : Hid (R = t) := by
          obtain ⟨f, hf, he⟩ := HF.out
          rw [List.drop_eq_nil_of_le (by omega), ltm_nil] at he
          exact Hid.mk' he.symm
        obtain ⟨⟨c0, c1, c2, c3, c4⟩, cz⟩ := HTQ.out.2.2
        obtain ⟨⟨r0, r1, r2, r3, r4⟩, rz⟩ := HTQ.out.2.1
        go_wp2
        refine bodyPost_ret (v := .agg #[.int .i64 t.c, .int .i64 t.m.x, .int .i64 t.m.y, .int .i64 t.m.d, .int .i64 t.m.e]) (by simp [results, Tryz.results28, go_sem, *]) rfl ⟨by rw [HRT.out], ?_⟩
        exact ((((HTQ.out.1.setCell (Nat.le_refl _) _).setCell (Nat.le_refl _) _).setCell (Nat.le_refl _) _).setCell (Nat.le_refl _) _).setCell (Nat.le_refl _) _
  · have HRS : Hid (∃ f, (s.drop d0).length ≤ f ∧ ltm f ⟨1, ⟨0, 0, 0, 0⟩⟩ (s.drop d0) = R) := by have := HRR.out; rw [if_neg hd00] at this; exact this
    have hd01 : ¬ (0 : Int) < (d0 : Int) := by omega
    have hd02 : decide (0 < d0) = false := decide_eq_false hd00
    have HQS := HQ0
    clear HRR hd00 HQ0
    go_wp2
    (try simp only [hd02])
    go_loopw [5] (fun v5 wr => ∃ (q : Nat) (t : T), q ≤ s.length ∧ v5 = .int .i64 (q : Int) ∧ Hid (TQ w wr t) ∧ Hid (∃ f, (s.drop q).length ≤ f ∧ ltm f t (s.drop q) = R)) (fun v5 _ => s.length - (intOf v5).toNat)
    case atStart => exact ⟨d0, ⟨1, ⟨0, 0, 0, 0⟩⟩, hd0l, by first | rfl | go_num, HQS, HRS⟩
    case round =>
      obtain ⟨q, t, hql, rfl, HTQ, HF⟩ := hrel
      by_cases hq : q < s.length
      · have hqI : (q : Int) < (s.length : Int) := by omega
        obtain ⟨c, hc⟩ : ∃ c, s[q]? = some c := ⟨_, List.getElem?_eq_getElem hq⟩
        have hix := str_index hc
        have HDR : Hid (s.drop q = c :: s.drop (q + 1)) := by rw [List.drop_eq_getElem_cons hq]; have := (List.getElem?_eq_some_iff.1 hc).2; rw [this]; exact Hid.mk' rfl
        obtain ⟨z, hz⟩ : ∃ z : Nat, c.toNat = z := ⟨_, rfl⟩
        have HZ := Hid.mk' hz
        rw [hz] at hix
        clear hc hz
        have HN := Hid.mk' (l3NumberS s hs (q + 1) hq)
        obtain ⟨L, hL⟩ : ∃ L, (lead (s.drop (q + 1))).length = L := ⟨_, rfl⟩
        obtain ⟨V, hV⟩ : ∃ V, nv (lead (s.drop (q + 1))) = V := ⟨_, rfl⟩
        obtain ⟨nn, hnn⟩ : ∃ n, nOf (s.drop (q + 1)) = n := ⟨_, rfl⟩
        have hnn2 : nn = if L = 0 then 1 else V := by rw [← hnn]; unfold nOf; rw [hL, hV]
        obtain ⟨k, hk⟩ : ∃ k, q + 1 + L = k := ⟨_, rfl⟩
        have hks : k ≤ s.length := by have := lead_len (s.drop (q + 1)); rw [hL, List.length_drop] at this; omega
        have hqk : q < k := by omega
        have HYES : Hid (isLt c = true → ∃ f', (s.drop k).length ≤ f' ∧ ltm f' (setL c nn t) (s.drop k) = R) := fun hl => by
          obtain ⟨f, hf, he⟩ := HF.out
          rw [HDR.out] at hf he
          obtain ⟨f', rfl⟩ : ∃ f', f = f' + 1 := ⟨f - 1, by simp at hf; omega⟩
          rw [ltm_yes hl, hnn, hL, List.drop_drop, hk] at he
          refine ⟨f', ?_, he⟩
          rw [List.length_cons, List.length_drop] at hf
          rw [List.length_drop]
          omega
        have HNO : Hid (isLt c = false → R = ⟨0, ⟨0, 0, 0, 0⟩⟩) := fun hl => by
          obtain ⟨f, hf, he⟩ := HF.out
          rw [HDR.out] at hf he
          obtain ⟨f', rfl⟩ : ∃ f', f = f' + 1 := ⟨f - 1, by simp at hf; omega⟩
          rw [ltm_no hl] at he
          exact he.symm
        rw [hL, hV, hk] at HN
        have HIL := Hid.mk' (isLt_z HZ.out)
        have HKQ : Hid (k = q + 1 + L) := hk.symm
        have HNN := Hid.mk' hnn2
        clear hL hV hnn hnn2 hk HF HDR
        have hkI : (k : Int) ≤ 1048576 := by omega
        have hqw : IntKind.i64.wrap ((q : Int) + 1) = (q : Int) + 1 := by rw [IntKind.wrap_i64]; omega
        have HN2 : Hid (∀ u : World, Calls Tryz.prog 53 #[.string ⟨s.toArray⟩, .int .i64 ((q : Int) + 1)] u fun r w' => r = .returned (.tuple #[.int .i64 V, .int .i64 (k : Int)]) ∧ w' = u) := fun u => by
          have := HN.out u
          rw [Int.natCast_add] at this
          exact this
        obtain ⟨⟨c0, c1, c2, c3, c4⟩, cz⟩ := HTQ.out.2.2
        obtain ⟨⟨r0, r1, r2, r3, r4⟩, rz⟩ := HTQ.out.2.1
        by_cases hL0 : L = 0
        · have hke : ((k : Int) == (q : Int) + 1) = true := by have := HKQ.out; simp; omega
          have hne1 : nn = 1 := by rw [HNN.out, if_pos hL0]
          subst hne1
          clear HNN hL0
          by_cases hz120 : z = 120
          · skip
            have HSE := Hid.mk' (set_120 HZ.out hz120 1 t)
            have HY := Hid.mk' (HYES.out (by rw [HIL.out]; exact decide_eq_true (by omega)))
            have HT2 : Hid (TQ w (wr.setCell ⟨w.heap.size + 1, 1, none⟩ (.int .i64 1)) (setL c 1 t)) := by rw [HSE.out]; exact ⟨HTQ.out.1.setCell (by simp) _, HTQ.out.2.1.other hneB _, HTQ.out.2.2.set1 _⟩
            have hb120 : ((z : Int) == 120) = true := by simp; omega
            have hb121 : ((z : Int) == 121) = false := by simp; omega
            have hb100 : ((z : Int) == 100) = false := by simp; omega
            have hb101 : ((z : Int) == 101) = false := by simp; omega
            clear HYES HNO HIL HSE hz120 HZ
            go_wp2_with fail
            refine (HN2.out _).mono ?_
            rintro r w2 ⟨rfl, hw2⟩
            obtain rfl := hw2.symm
            clear hw2
            go_wp2
            go_roundw
            case rel => exact ⟨k, setL c 1 t, hks, rfl, HT2, HY⟩
            case measure => simp [intOf]; omega
          by_cases hz121 : z = 121
          · skip
            have HSE := Hid.mk' (set_121 HZ.out hz121 1 t)
            have HY := Hid.mk' (HYES.out (by rw [HIL.out]; exact decide_eq_true (by omega)))
            have HT2 : Hid (TQ w (wr.setCell ⟨w.heap.size + 1, 2, none⟩ (.int .i64 1)) (setL c 1 t)) := by rw [HSE.out]; exact ⟨HTQ.out.1.setCell (by simp) _, HTQ.out.2.1.other hneB _, HTQ.out.2.2.set2 _⟩
            have hb120 : ((z : Int) == 120) = false := by simp; omega
            have hb121 : ((z : Int) == 121) = true := by simp; omega
            have hb100 : ((z : Int) == 100) = false := by simp; omega
            have hb101 : ((z : Int) == 101) = false := by simp; omega
            clear HYES HNO HIL HSE hz121 HZ
            go_wp2_with fail
            refine (HN2.out _).mono ?_
            rintro r w2 ⟨rfl, hw2⟩
            obtain rfl := hw2.symm
            clear hw2
            go_wp2
            go_roundw
            case rel => exact ⟨k, setL c 1 t, hks, rfl, HT2, HY⟩
            case measure => simp [intOf]; omega
          by_cases hz100 : z = 100
          · skip
            have HSE := Hid.mk' (set_100 HZ.out hz100 1 t)
            have HY := Hid.mk' (HYES.out (by rw [HIL.out]; exact decide_eq_true (by omega)))
            have HT2 : Hid (TQ w (wr.setCell ⟨w.heap.size + 1, 3, none⟩ (.int .i64 1)) (setL c 1 t)) := by rw [HSE.out]; exact ⟨HTQ.out.1.setCell (by simp) _, HTQ.out.2.1.other hneB _, HTQ.out.2.2.set3 _⟩
            have hb120 : ((z : Int) == 120) = false := by simp; omega
            have hb121 : ((z : Int) == 121) = false := by simp; omega
            have hb100 : ((z : Int) == 100) = true := by simp; omega
            have hb101 : ((z : Int) == 101) = false := by simp; omega
            clear HYES HNO HIL HSE hz100 HZ
            go_wp2_with fail
            refine (HN2.out _).mono ?_
            rintro r w2 ⟨rfl, hw2⟩
            obtain rfl := hw2.symm
            clear hw2
            go_wp2
            go_roundw
            case rel => exact ⟨k, setL c 1 t, hks, rfl, HT2, HY⟩
            case measure => simp [intOf]; omega
          by_cases hz101 : z = 101
          · skip
            have HSE := Hid.mk' (set_101 HZ.out hz101 1 t)
            have HY := Hid.mk' (HYES.out (by rw [HIL.out]; exact decide_eq_true (by omega)))
            have HT2 : Hid (TQ w (wr.setCell ⟨w.heap.size + 1, 4, none⟩ (.int .i64 1)) (setL c 1 t)) := by rw [HSE.out]; exact ⟨HTQ.out.1.setCell (by simp) _, HTQ.out.2.1.other hneB _, HTQ.out.2.2.set4 _⟩
            have hb120 : ((z : Int) == 120) = false := by simp; omega
            have hb121 : ((z : Int) == 121) = false := by simp; omega
            have hb100 : ((z : Int) == 100) = false := by simp; omega
            have hb101 : ((z : Int) == 101) = true := by simp; omega
            clear HYES HNO HIL HSE hz101 HZ
            go_wp2_with fail
            refine (HN2.out _).mono ?_
            rintro r w2 ⟨rfl, hw2⟩
            obtain rfl := hw2.symm
            clear hw2
            go_wp2
            go_roundw
            case rel => exact ⟨k, setL c 1 t, hks, rfl, HT2, HY⟩
            case measure => simp [intOf]; omega
          have HRZ := Hid.mk' (HNO.out (by rw [HIL.out]; exact decide_eq_false (by omega)))
          have hb120 : ((z : Int) == 120) = false := by simp; omega
          have hb121 : ((z : Int) == 121) = false := by simp; omega
          have hb100 : ((z : Int) == 100) = false := by simp; omega
          have hb101 : ((z : Int) == 101) = false := by simp; omega
          clear HYES HNO HIL HZ hz120 hz121 hz100 hz101
          go_wp2_with fail
          refine (HN2.out _).mono ?_
          rintro r w2 ⟨rfl, hw2⟩
          obtain rfl := hw2.symm
          clear hw2
          go_wp2
          refine bodyPost_ret (v := .agg #[.int .i64 0, .int .i64 0, .int .i64 0, .int .i64 0, .int .i64 0]) (by simp [results, Tryz.results28, go_sem, *]) rfl ⟨by rw [HRZ.out], ?_⟩
          exact ((((HTQ.out.1.setCell (Nat.le_refl _) _).setCell (Nat.le_refl _) _).setCell (Nat.le_refl _) _).setCell (Nat.le_refl _) _).setCell (Nat.le_refl _) _
        · have hke : ((k : Int) == (q : Int) + 1) = false := by have := HKQ.out; simp; omega
          have hne1 : nn = V := by rw [HNN.out, if_neg hL0]
          subst hne1
          clear HNN hL0
          by_cases hz120 : z = 120
          · skip
            have HSE := Hid.mk' (set_120 HZ.out hz120 nn t)
            have HY := Hid.mk' (HYES.out (by rw [HIL.out]; exact decide_eq_true (by omega)))
            have HT2 : Hid (TQ w (wr.setCell ⟨w.heap.size + 1, 1, none⟩ (.int .i64 nn)) (setL c nn t)) := by rw [HSE.out]; exact ⟨HTQ.out.1.setCell (by simp) _, HTQ.out.2.1.other hneB _, HTQ.out.2.2.set1 _⟩
            have hb120 : ((z : Int) == 120) = true := by simp; omega
            have hb121 : ((z : Int) == 121) = false := by simp; omega
            have hb100 : ((z : Int) == 100) = false := by simp; omega
            have hb101 : ((z : Int) == 101) = false := by simp; omega
            clear HYES HNO HIL HSE hz120 HZ
            go_wp2_with fail
            refine (HN2.out _).mono ?_
            rintro r w2 ⟨rfl, hw2⟩
            obtain rfl := hw2.symm
            clear hw2
            go_wp2
            go_roundw
            case rel => exact ⟨k, setL c nn t, hks, rfl, HT2, HY⟩
            case measure => simp [intOf]; omega
          by_cases hz121 : z = 121
          · skip
            have HSE := Hid.mk' (set_121 HZ.out hz121 nn t)
            have HY := Hid.mk' (HYES.out (by rw [HIL.out]; exact decide_eq_true (by omega)))
            have HT2 : Hid (TQ w (wr.setCell ⟨w.heap.size + 1, 2, none⟩ (.int .i64 nn)) (setL c nn t)) := by rw [HSE.out]; exact ⟨HTQ.out.1.setCell (by simp) _, HTQ.out.2.1.other hneB _, HTQ.out.2.2.set2 _⟩
            have hb120 : ((z : Int) == 120) = false := by simp; omega
            have hb121 : ((z : Int) == 121) = true := by simp; omega
            have hb100 : ((z : Int) == 100) = false := by simp; omega
            have hb101 : ((z : Int) == 101) = false := by simp; omega
            clear HYES HNO HIL HSE hz121 HZ
            go_wp2_with fail
            refine (HN2.out _).mono ?_
            rintro r w2 ⟨rfl, hw2⟩
            obtain rfl := hw2.symm
            clear hw2
            go_wp2
            go_roundw
            case rel => exact ⟨k, setL c nn t, hks, rfl, HT2, HY⟩
            case measure => simp [intOf]; omega
          by_cases hz100 : z = 100
          · skip
            have HSE := Hid.mk' (set_100 HZ.out hz100 nn t)
            have HY := Hid.mk' (HYES.out (by rw [HIL.out]; exact decide_eq_true (by omega)))
            have HT2 : Hid (TQ w (wr.setCell ⟨w.heap.size + 1, 3, none⟩ (.int .i64 nn)) (setL c nn t)) := by rw [HSE.out]; exact ⟨HTQ.out.1.setCell (by simp) _, HTQ.out.2.1.other hneB _, HTQ.out.2.2.set3 _⟩
            have hb120 : ((z : Int) == 120) = false := by simp; omega
            have hb121 : ((z : Int) == 121) = false := by simp; omega
            have hb100 : ((z : Int) == 100) = true := by simp; omega
            have hb101 : ((z : Int) == 101) = false := by simp; omega
            clear HYES HNO HIL HSE hz100 HZ
            go_wp2_with fail
            refine (HN2.out _).mono ?_
            rintro r w2 ⟨rfl, hw2⟩
            obtain rfl := hw2.symm
            clear hw2
            go_wp2
            go_roundw
            case rel => exact ⟨k, setL c nn t, hks, rfl, HT2, HY⟩
            case measure => simp [intOf]; omega
          by_cases hz101 : z = 101
          · skip
            have HSE := Hid.mk' (set_101 HZ.out hz101 nn t)
            have HY := Hid.mk' (HYES.out (by rw [HIL.out]; exact decide_eq_true (by omega)))
            have HT2 : Hid (TQ w (wr.setCell ⟨w.heap.size + 1, 4, none⟩ (.int .i64 nn)) (setL c nn t)) := by rw [HSE.out]; exact ⟨HTQ.out.1.setCell (by simp) _, HTQ.out.2.1.other hneB _, HTQ.out.2.2.set4 _⟩
            have hb120 : ((z : Int) == 120) = false := by simp; omega
            have hb121 : ((z : Int) == 121) = false := by simp; omega
            have hb100 : ((z : Int) == 100) = false := by simp; omega
            have hb101 : ((z : Int) == 101) = true := by simp; omega
            clear HYES HNO HIL HSE hz101 HZ
            go_wp2_with fail
            refine (HN2.out _).mono ?_
            rintro r w2 ⟨rfl, hw2⟩
            obtain rfl := hw2.symm
            clear hw2
            go_wp2
            go_roundw
            case rel => exact ⟨k, setL c nn t, hks, rfl, HT2, HY⟩
            case measure => simp [intOf]; omega
          have HRZ := Hid.mk' (HNO.out (by rw [HIL.out]; exact decide_eq_false (by omega)))
          have hb120 : ((z : Int) == 120) = false := by simp; omega
          have hb121 : ((z : Int) == 121) = false := by simp; omega
          have hb100 : ((z : Int) == 100) = false := by simp; omega
          have hb101 : ((z : Int) == 101) = false := by simp; omega
          clear HYES HNO HIL HZ hz120 hz121 hz100 hz101
          go_wp2_with fail
          refine (HN2.out _).mono ?_
          rintro r w2 ⟨rfl, hw2⟩
          obtain rfl := hw2.symm
          clear hw2
          go_wp2
          refine bodyPost_ret (v := .agg #[.int .i64 0, .int .i64 0, .int .i64 0, .int .i64 0, .int .i64 0]) (by simp [results, Tryz.results28, go_sem, *]) rfl ⟨by rw [HRZ.out], ?_⟩
          exact ((((HTQ.out.1.setCell (Nat.le_refl _) _).setCell (Nat.le_refl _) _).setCell (Nat.le_refl _) _).setCell (Nat.le_refl _) _).setCell (Nat.le_refl _) _
      · have hqe : ¬ (q : Int) < (s.length : Int) := by omega
        have HRT : Hid (R = t) := by
          obtain ⟨f, hf, he⟩ := HF.out
          rw [List.drop_eq_nil_of_le (by omega), ltm_nil] at he
          exact Hid.mk' he.symm
        obtain ⟨⟨c0, c1, c2, c3, c4⟩, cz⟩ := HTQ.out.2.2
        obtain ⟨⟨r0, r1, r2, r3, r4⟩, rz⟩ := HTQ.out.2.1
        go_wp2
        refine bodyPost_ret (v := .agg #[.int .i64 t.c, .int .i64 t.m.x, .int .i64 t.m.y, .int .i64 t.m.d, .int .i64 t.m.e]) (by simp [results, Tryz.results28, go_sem, *]) rfl ⟨by rw [HRT.out], ?_⟩
        exact ((((HTQ.out.1.setCell (Nat.le_refl _) _).setCell (Nat.le_refl _) _).setCell (Nat.le_refl _) _).setCell (Nat.le_refl _) _).setCell (Nat.le_refl _) _
end Go.Proofs.YtnfgiplgkobnlaaGreatDoor
