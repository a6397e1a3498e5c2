/-
  Lines, as lists of bytes.
  The model's texts of monomials (l2Digits, l2Power, MonText).
  The model's PolText.
-/
import Derived.Test.YtkcmamepoplcdaaGreatDoorGac
import Derived.Test.YtkcmamepoplcdaaGreatDoorGaf
import Derived.Laws.IdiomStrings
import Derived.Deep.RegionHeld3
namespace Go.Proofs.YtkcmamepoplcdaaGreatDoor
open Go.RowKit
set_option linter.unusedVariables false
/-- how many slots a line of a kind names. -/
def nmd (k : Int) : Nat := if k = 2 ∨ k = 3 ∨ k = 4 ∨ k = 5 then 3 else if k = 6 ∨ k = 7 then 2 else if k = 1 ∨ k = 8 then 1 else 0
def nam (k : Int) : List UInt8 := if k = 1 then [115, 101, 116] else if k = 2 then [97, 100, 100] else if k = 3 then [109, 117, 108] else if k = 4 then [97, 112, 97, 114, 116] else if k = 5 then [100, 111] else if k = 6 then [114, 111, 117, 110, 100] else if k = 7 then [98, 97, 99, 107] else [115, 104, 111, 119]
def slB (x : Int) : UInt8 := UInt8.ofNat (65 + x).toNat
/-- a line has all that its kind has, and nothing else. -/
def whl (k to a b : Int) (n : Nat) (f : Nat → T) : Bool :=
  decide ((1 ≤ k ∧ k ≤ 8) ∧ (0 ≤ to ∧ to ≤ 5) ∧ (0 ≤ a ∧ a ≤ 5) ∧ (0 ≤ b ∧ b ≤ 5) ∧ polOk n f = true ∧ (2 ≤ nmd k ∨ a = 0) ∧ (3 ≤ nmd k ∨ b = 0) ∧ (k = 1 ∨ n = 0))
def slts (to a b : Int) : List (List UInt8) := [[slB to], [slB a], [slB b]]
def wdsL (k to a b : Int) (n : Nat) (f : Nat → T) : List (List UInt8) := nam k :: ((slts to a b).take (nmd k) ++ if k = 1 then [polT n f] else [])
def rawL (k to a b : Int) (n : Nat) (f : Nat → T) : List UInt8 := Lib.join (wdsL k to a b n f) [32]
def lnT (k to a b : Int) (n : Nat) (f : Nat → T) : List UInt8 := if whl k to a b n f = true ∧ (rawL k to a b n f).length ≤ 400 then rawL k to a b n f else []
theorem lnT_no {k to a b : Int} {n : Nat} {f : Nat → T} (h : whl k to a b n f = false) : lnT k to a b n f = [] := by unfold lnT; rw [if_neg (fun q => by rw [h] at q; cases q.1)]
theorem lnT_long {k to a b : Int} {n : Nat} {f : Nat → T} (h : ¬ (rawL k to a b n f).length ≤ 400) : lnT k to a b n f = [] := by unfold lnT; rw [if_neg (fun q => h q.2)]
theorem lnT_is {k to a b : Int} {n : Nat} {f : Nat → T} (h : whl k to a b n f = true) (hl : (rawL k to a b n f).length ≤ 400) : lnT k to a b n f = rawL k to a b n f := by unfold lnT; rw [if_pos ⟨h, hl⟩]
theorem whl_no {k to a b : Int} {n : Nat} {f : Nat → T} (h : ¬ ((1 ≤ k ∧ k ≤ 8) ∧ (0 ≤ to ∧ to ≤ 5) ∧ (0 ≤ a ∧ a ≤ 5) ∧ (0 ≤ b ∧ b ≤ 5) ∧ polOk n f = true ∧ (2 ≤ nmd k ∨ a = 0) ∧ (3 ≤ nmd k ∨ b = 0) ∧ (k = 1 ∨ n = 0))) : whl k to a b n f = false := decide_eq_false h
theorem sl_byte {x : Int} (h0 : 0 ≤ x) (h5 : x ≤ 5) : UInt8.ofNat ((65 + x) % 256).toNat = slB x := by
  unfold slB
  rw [show (65 + x) % 256 = 65 + x by omega]
theorem raw1 (to a b : Int) (n : Nat) (f : Nat → T) : rawL 1 to a b n f = [115, 101, 116] ++ [32] ++ [slB to] ++ [32] ++ polT n f := by
  show Lib.join [[115, 101, 116], [slB to], polT n f] [32] = _
  simp [Lib.join_cons, Lib.joinTail]
theorem raw8 (to a b : Int) (n : Nat) (f : Nat → T) : rawL 8 to a b n f = [115, 104, 111, 119] ++ [32] ++ [slB to] := by
  show Lib.join [[115, 104, 111, 119], [slB to]] [32] = _
  simp [Lib.join_cons, Lib.joinTail]
theorem raw6 (to a b : Int) (n : Nat) (f : Nat → T) : rawL 6 to a b n f = [114, 111, 117, 110, 100] ++ [32] ++ [slB to] ++ [32] ++ [slB a] := by
  show Lib.join [[114, 111, 117, 110, 100], [slB to], [slB a]] [32] = _
  simp [Lib.join_cons, Lib.joinTail]
theorem raw7 (to a b : Int) (n : Nat) (f : Nat → T) : rawL 7 to a b n f = [98, 97, 99, 107] ++ [32] ++ [slB to] ++ [32] ++ [slB a] := by
  show Lib.join [[98, 97, 99, 107], [slB to], [slB a]] [32] = _
  simp [Lib.join_cons, Lib.joinTail]
theorem raw2 (to a b : Int) (n : Nat) (f : Nat → T) : rawL 2 to a b n f = [97, 100, 100] ++ [32] ++ [slB to] ++ [32] ++ [slB a] ++ [32] ++ [slB b] := by
  show Lib.join [[97, 100, 100], [slB to], [slB a], [slB b]] [32] = _
  simp [Lib.join_cons, Lib.joinTail]
theorem raw3 (to a b : Int) (n : Nat) (f : Nat → T) : rawL 3 to a b n f = [109, 117, 108] ++ [32] ++ [slB to] ++ [32] ++ [slB a] ++ [32] ++ [slB b] := by
  show Lib.join [[109, 117, 108], [slB to], [slB a], [slB b]] [32] = _
  simp [Lib.join_cons, Lib.joinTail]
theorem raw4 (to a b : Int) (n : Nat) (f : Nat → T) : rawL 4 to a b n f = [97, 112, 97, 114, 116] ++ [32] ++ [slB to] ++ [32] ++ [slB a] ++ [32] ++ [slB b] := by
  show Lib.join [[97, 112, 97, 114, 116], [slB to], [slB a], [slB b]] [32] = _
  simp [Lib.join_cons, Lib.joinTail]
theorem raw5 (to a b : Int) (n : Nat) (f : Nat → T) : rawL 5 to a b n f = [100, 111] ++ [32] ++ [slB to] ++ [32] ++ [slB a] ++ [32] ++ [slB b] := by
  show Lib.join [[100, 111], [slB to], [slB a], [slB b]] [32] = _
  simp [Lib.join_cons, Lib.joinTail]
end Go.Proofs.YtkcmamepoplcdaaGreatDoor
namespace Go.Proofs.YtkcmamepoplcdaaGreatDoor
open Go.RowKit
set_option linter.unusedVariables false
set_option linter.unusedSimpArgs false

theorem conv_one (w : World) (x : Nat) (hx : x < 256) : (convert 35 9 (.slice (some ⟨w.heap.size, 0, none⟩) 1 1)).run Tryz.prog (w.alloc (.cells #[.int .u8 (x : Int)] 5)) = .ok (.string ⟨#[UInt8.ofNat x]⟩) (w.alloc (.cells #[.int .u8 (x : Int)] 5)) :=
  run_convert_bytes_back _ _ _ 5 ⟨w.heap.size, 0, none⟩ 1 [UInt8.ofNat x] (by kernel_rfl) (by kernel_rfl) (by kernel_rfl) (fun j hj => by
    have : j = 0 := by simpa using hj
    subst this
    have e : ((⟨w.heap.size, 0, none⟩ : Addr).add 0) = ⟨w.heap.size, 0, none⟩ := rfl
    rw [e, World.cell?_alloc_at _ _ _ _ rfl]
    simp
    omega)
set_option maxRecDepth 100000 in
set_option maxHeartbeats 2000000 in
theorem l2DigitsS (n : Nat) (hn : n < 10000) (w : World) :
    Calls Tryz.prog 41 #[.int .i64 (n : Int)] w fun r w' => r = .returned (.string ⟨(Lib.decDigits n).toArray⟩) ∧ Below w.heap.size w w' := by
  by_cases h0 : n = 0
  · subst h0
    go_enter Tryz.func41, Tryz.ntmps41
    go_wp2
    go_ret
    exact ⟨by rw [dec_one (by omega)]; rfl, Below.refl _ _⟩
  · have h1 : ¬ (n : Int) < 1 := by omega
    go_enter Tryz.func41, Tryz.ntmps41
    go_wp2
    go_loopw [0, 3] (fun v0 v3 wr => ∃ (k : Nat) (out : List UInt8), k ≤ n ∧ v0 = .int .i64 (k : Int) ∧ v3 = .string ⟨out.toArray⟩ ∧ Hid (dcat k out = Lib.decDigits n) ∧ Below w.heap.size w wr) (fun v0 _ _ => (intOf v0).toNat)
    case atStart => exact ⟨n, [], Nat.le_refl _, rfl, rfl, Hid.mk' (dcat_start (by omega)), Below.refl _ _⟩
    case round =>
      obtain ⟨k, out, hk, rfl, rfl, HD, hB⟩ := hrel
      have hlen : out.length ≤ 4 := by
        have h1 := dcat_len k out
        rw [HD.out] at h1
        have := dec_len4 hn
        omega
      have HB := Hid.mk' hB
      clear hB
      by_cases hk0 : k = 0
      · subst hk0
        have he : out = Lib.decDigits n := (dcat_zero out).symm.trans HD.out
        have HE := Hid.mk' he
        clear he
        go_wp2
        go_ret
        exact ⟨by rw [HE.out]; rfl, HB.out⟩
      · have hkp : (0 : Int) < (k : Int) := by omega
        have hr1 : (k : Int).tmod 10 = ((k % 10 : Nat) : Int) := by rw [Int.tmod_eq_emod_of_nonneg (by omega)]; omega
        have hq1 : (k : Int).tdiv 10 = ((k / 10 : Nat) : Int) := by rw [Int.tdiv_eq_ediv_of_nonneg (by omega)]; omega
        obtain ⟨r, hr⟩ : ∃ r, k % 10 = r := ⟨_, rfl⟩
        obtain ⟨q, hq⟩ : ∃ q, k / 10 = q := ⟨_, rfl⟩
        have hr10 : r < 10 := by omega
        have hqk : q < k := by omega
        have hD2 : dcat q (UInt8.ofNat (48 + r) :: out) = Lib.decDigits n := by rw [← hr, ← hq, dcat_step (by omega)]; exact HD.out
        have HD2 := Hid.mk' hD2
        rw [hr] at hr1
        rw [hq] at hq1
        clear hD2 HD hr hq
        have hr2 : (k : Int) % 10 = (r : Int) := by rw [← hr1, Int.tmod_eq_emod_of_nonneg (by omega)]
        have hq2 : (k : Int) / 10 = (q : Int) := by rw [← hq1, Int.tdiv_eq_ediv_of_nonneg (by omega)]
        have hw1 : IntKind.i64.wrap (48 + (r : Int)) = ((48 + r : Nat) : Int) := by rw [IntKind.wrap_i64]; omega
        have hw2 : IntKind.u8.wrap ((48 + r : Nat) : Int) = ((48 + r : Nat) : Int) := by rcases (show r = 0 ∨ r = 1 ∨ r = 2 ∨ r = 3 ∨ r = 4 ∨ r = 5 ∨ r = 6 ∨ r = 7 ∨ r = 8 ∨ r = 9 by omega) with rfl | rfl | rfl | rfl | rfl | rfl | rfl | rfl | rfl | rfl <;> decide
        have hw3 : IntKind.u8.wrap (48 + (r : Int)) = ((48 + r : Nat) : Int) := by rw [show 48 + (r : Int) = ((48 + r : Nat) : Int) by omega]; exact hw2
        have hcv := conv_one wr (48 + r) (by omega)
        obtain ⟨x, hx⟩ : ∃ x, 48 + r = x := ⟨_, rfl⟩
        rw [hx] at hw1 hw2 hw3 hcv HD2
        have hx48 : 48 + (r : Int) = (x : Int) := by omega
        clear hx
        have hsz : ¬ (1 + out.length > 9223372036854775807) := by omega
        have hsz2 : ¬ (9223372036854775807 < 1 + out.length) := by omega
        go_wp2
        go_roundw
        case rel => exact ⟨q, UInt8.ofNat x :: out, by omega, by first | rfl | (simp [hq2]; done) | (simp [hq1]; done), by first | rfl | (rw [ByteArray.ext_iff]; simp [ByteArray.data_append]; done), HD2, bel_next HB.out (bel_one _ _)⟩
        case measure => simp [intOf]; omega
set_option maxRecDepth 100000 in
set_option maxHeartbeats 2000000 in
theorem l2PowerS (c : UInt8) (n : Nat) (hn : n ≤ 15) (w : World) :
    Calls Tryz.prog 108 #[.string ⟨#[c]⟩, .int .i64 (n : Int)] w fun r w' => r = .returned (.string ⟨(fpw c (n : Int)).toArray⟩) ∧ Below w.heap.size w w' := by
  by_cases h0 : n = 0
  · subst h0
    go_enter Tryz.func108, Tryz.ntmps108
    go_wp2
    go_ret
    exact ⟨by rfl, Below.refl _ _⟩
  · by_cases h1 : n = 1
    · subst h1
      go_enter Tryz.func108, Tryz.ntmps108
      go_wp2
      go_ret
      exact ⟨by rfl, Below.refl _ _⟩
    · have hn0 : ((n : Int) == 0) = false := beq_eq_false_iff_ne.2 (by omega)
      have hn1 : ((n : Int) == 1) = false := beq_eq_false_iff_ne.2 (by omega)
      obtain ⟨D, hD⟩ : ∃ D, Lib.decDigits n = D := ⟨_, rfl⟩
      have hl : D.length ≤ 2 := by rw [← hD]; exact dec_len2 (by omega)
      have hc := l2DigitsS n (by omega) w
      rw [hD] at hc
      have HC := Hid.mk' hc
      have hp : fpw c (n : Int) = c :: D := by rw [fpw_more (by omega), hD]
      have HP := Hid.mk' hp
      clear hc hp hD
      have hsz : ¬ (1 + D.length > 9223372036854775807) := by omega
      have hsz2 : ¬ (9223372036854775807 < 1 + D.length) := by omega
      go_enter Tryz.func108, Tryz.ntmps108
      go_wp2_with fail
      refine HC.out.mono ?_
      rintro r w1 ⟨rfl, hb⟩
      have HB := Hid.mk' hb
      clear hb
      go_wp2
      go_ret
      exact ⟨by rw [HP.out]; first | rfl | (congr 2; apply ByteArray.ext; simp [ByteArray.data_append]; done), HB.out⟩
theorem l2Power_of {c : UInt8} {n : Nat} {p : List UInt8} (h : fpw c (n : Int) = p) (hn : n ≤ 15) (w : World) : Calls Tryz.prog 108 #[.string ⟨#[c]⟩, .int .i64 (n : Int)] w fun r w' => r = .returned (.string ⟨p.toArray⟩) ∧ Below w.heap.size w w' := by
  rw [← h]; exact l2PowerS c n hn w
theorem bel_ext {w : World} {v : Ext w} : Below w.heap.size w v.1 := v.2
set_option maxRecDepth 100000 in
set_option maxHeartbeats 4000000 in
theorem monTextS (x y d e : Int) (w : World) :
    Calls Tryz.prog 75 #[.agg #[.int .i64 x, .int .i64 y, .int .i64 d, .int .i64 e]] w fun r w' => r = .returned (.string ⟨(monT ⟨x, y, d, e⟩).toArray⟩) ∧ Below w.heap.size w w' := by
  obtain ⟨ok, hok⟩ : ∃ b, M.ok ⟨x, y, d, e⟩ = b := ⟨_, rfl⟩
  have HOK := Hid.mk' hok
  clear hok
  cases ok
  · have he := monT_no HOK.out
    have HE := Hid.mk' he
    clear he
    go_enter Tryz.func75, Tryz.ntmps75
    go_wp2_with fail
    refine (monOkS_of HOK.out _).mono ?_
    rintro r w1 ⟨rfl, hb⟩
    go_wp2
    go_ret
    exact ⟨by rw [HE.out]; rfl, bel_next (bel_one w _) hb⟩
  · obtain ⟨x1, x2, y1, y2, d1, d2, e1, e2⟩ := M.ok_iff.1 HOK.out
    simp only at x1 x2 y1 y2 d1 d2 e1 e2
    obtain ⟨X, rfl⟩ : ∃ X : Nat, x = (X : Int) := ⟨x.toNat, by omega⟩
    obtain ⟨Y, rfl⟩ : ∃ X : Nat, y = (X : Int) := ⟨y.toNat, by omega⟩
    obtain ⟨D, rfl⟩ : ∃ X : Nat, d = (X : Int) := ⟨d.toNat, by omega⟩
    obtain ⟨E, rfl⟩ : ∃ X : Nat, e = (X : Int) := ⟨e.toNat, by omega⟩
    have hmS := monS_is ⟨(X : Int), (Y : Int), (D : Int), (E : Int)⟩
    simp only at hmS
    obtain ⟨p1, hp1⟩ : ∃ p, fpw 120 (X : Int) = p := ⟨_, rfl⟩
    obtain ⟨p2, hp2⟩ : ∃ p, fpw 121 (Y : Int) = p := ⟨_, rfl⟩
    obtain ⟨p3, hp3⟩ : ∃ p, fpw 100 (D : Int) = p := ⟨_, rfl⟩
    obtain ⟨p4, hp4⟩ : ∃ p, fpw 101 (E : Int) = p := ⟨_, rfl⟩
    have k1 : p1.length ≤ 3 := by rw [← hp1]; exact fpw_len (by omega)
    have k2 : p2.length ≤ 3 := by rw [← hp2]; exact fpw_len (by omega)
    have k3 : p3.length ≤ 3 := by rw [← hp3]; exact fpw_len (by omega)
    have k4 : p4.length ≤ 3 := by rw [← hp4]; exact fpw_len (by omega)
    rw [hp1, hp2, hp3, hp4] at hmS
    have HM := Hid.mk' hmS
    have X15 : X ≤ 15 := by omega
    have Y15 : Y ≤ 15 := by omega
    have D15 : D ≤ 15 := by omega
    have E15 : E ≤ 15 := by omega
    clear hmS x1 x2 y1 y2 d1 d2 e1 e2
    obtain ⟨Res, hRes⟩ : ∃ R, monT ⟨(X : Int), (Y : Int), (D : Int), (E : Int)⟩ = R := ⟨_, rfl⟩
    rw [hRes]
    have HR := Hid.mk' hRes
    clear hRes
    go_enter Tryz.func75, Tryz.ntmps75
    go_wp2_with fail
    refine (monOkS_of HOK.out _).mono ?_
    rintro r w1 ⟨rfl, hb⟩
    have hb1 := bel_next (bel_one w (.cells #[.int .i64 (X : Int), .int .i64 (Y : Int), .int .i64 (D : Int), .int .i64 (E : Int)] 77)) hb
    have HB1 := Hid.mk' hb1
    have q0 : w.heap.size < w1.heap.size := Nat.lt_of_lt_of_le (by simp) hb.size
    have ne := Ext.there w1
    have g : ∀ j : Nat, w1.cell? ⟨w.heap.size, j, none⟩ = (w.alloc (.cells #[.int .i64 (X : Int), .int .i64 (Y : Int), .int .i64 (D : Int), .int .i64 (E : Int)] 77)).cell? ⟨w.heap.size, j, none⟩ := fun j => hb.cell (p := ⟨w.heap.size, j, none⟩) (by simp)
    have s0 : ∀ u : Ext w1, u.1.cell? ⟨w.heap.size, 0, none⟩ = some (.int .i64 (X : Int)) := fun u => (u.cell q0).trans ((g 0).trans (by rw [World.cell?_alloc_at _ _ _ _ rfl]; rfl))
    have s1 : ∀ u : Ext w1, u.1.cell? ⟨w.heap.size, 1, none⟩ = some (.int .i64 (Y : Int)) := fun u => (u.cell q0).trans ((g 1).trans (by rw [World.cell?_alloc_at _ _ _ _ rfl]; rfl))
    have s2 : ∀ u : Ext w1, u.1.cell? ⟨w.heap.size, 2, none⟩ = some (.int .i64 (D : Int)) := fun u => (u.cell q0).trans ((g 2).trans (by rw [World.cell?_alloc_at _ _ _ _ rfl]; rfl))
    have s3 : ∀ u : Ext w1, u.1.cell? ⟨w.heap.size, 3, none⟩ = some (.int .i64 (E : Int)) := fun u => (u.cell q0).trans ((g 3).trans (by rw [World.cell?_alloc_at _ _ _ _ rfl]; rfl))
    clear hb hb1 g
    have z1 : ¬ (p1.length + p2.length > 9223372036854775807) := by omega
    have z2 : ¬ (p1.length + p2.length + p3.length > 9223372036854775807) := by omega
    have z3 : ¬ (p1.length + p2.length + p3.length + p4.length > 9223372036854775807) := by omega
    have y1 : ¬ (9223372036854775807 < p1.length + p2.length) := by omega
    have y2 : ¬ (9223372036854775807 < p1.length + p2.length + p3.length) := by omega
    have y3 : ¬ (9223372036854775807 < p1.length + p2.length + p3.length + p4.length) := by omega
    go_wp2_with fail
    refine wp_region_ext (by kernel_rfl) (by kernel_rfl) ?_
    repeat (go_big_quiet_step (first | (go_at_call 108; exact ext_grows (l2Power_of (by with_reducible assumption) (by omega) _)) | fail))
    refine wpQuiet_nil ?_
    rintro _ ⟨v, rfl⟩
    have HV := Hid.mk' (bel_next HB1.out v.2)
    clear s0 s1 s2 s3 ne hp1 hp2 hp3 hp4
    have hcat : (ByteArray.mk p1.toArray ++ ByteArray.mk p2.toArray ++ ByteArray.mk p3.toArray ++ ByteArray.mk p4.toArray) = ByteArray.mk (p1 ++ p2 ++ p3 ++ p4).toArray := by
      rw [ByteArray.mk_append_mk, ByteArray.mk_append_mk, ByteArray.mk_append_mk]
    simp only [hcat]
    obtain ⟨S, hS⟩ : ∃ S, p1 ++ p2 ++ p3 ++ p4 = S := ⟨_, rfl⟩
    rw [hS] at HM ⊢
    clear hcat hS
    by_cases h0 : S = []
    · subst h0
      have hR : Res = [49] := HR.out.symm.trans (monT_one HOK.out HM.out)
      have HRR := Hid.mk' hR
      clear hR
      go_wp2
      go_ret
      exact ⟨by rw [HRR.out]; rfl, HV.out⟩
    · have hR : Res = S := HR.out.symm.trans ((monT_is HOK.out (by rw [HM.out]; exact h0)).trans HM.out)
      have HRR := Hid.mk' hR
      clear hR
      have hie : S.isEmpty = false := by cases S <;> simp at h0 ⊢
      clear h0
      go_wp2
      go_ret
      exact ⟨by rw [HRR.out]; rfl, HV.out⟩
end Go.Proofs.YtkcmamepoplcdaaGreatDoor
namespace Go.Proofs.YtkcmamepoplcdaaGreatDoor
open Go.RowKit
set_option linter.unusedVariables false
set_option linter.unusedSimpArgs false
theorem ba_eq {a b : List UInt8} (h : a = b) : (Value.string ⟨a.toArray⟩) = .string ⟨b.toArray⟩ := by rw [h]
set_option maxRecDepth 100000 in
set_option maxHeartbeats 8000000 in
theorem polTextS (w : World) (a : Option Addr) (n cap : Nat) (f : Nat → T) (h : Rd w a n cap f) :
    Calls Tryz.prog 43 #[.slice a n cap] w fun r w' => r = .returned (.string ⟨(polT n f).toArray⟩) ∧ Below w.heap.size w w' := by
  have HH := Hid.mk' h
  have hnI : (n : Int) ≤ 9223372036854775807 := by have := h.2.1; omega
  obtain ⟨ok, hok⟩ : ∃ b, polOk n f = b := ⟨_, rfl⟩
  have hc := polOkS w a n cap f h
  rw [hok] at hc
  have HC := Hid.mk' hc
  have HOK := Hid.mk' hok
  clear hc hok h
  obtain ⟨R, hR⟩ : ∃ R, polT n f = R := ⟨_, rfl⟩
  rw [hR]
  cases ok
  · have HR := Hid.mk' (hR.symm.trans (polT_no HOK.out))
    clear hR
    go_enter Tryz.func43, Tryz.ntmps43
    go_wp2_with fail
    refine HC.out.mono ?_
    rintro r w1 ⟨rfl, hb⟩
    go_wp2
    go_ret
    exact ⟨by rw [HR.out]; rfl, hb⟩
  · by_cases h0 : n = 0
    · have HR := Hid.mk' (hR.symm.trans (polT_zero HOK.out h0))
      have hn0 : ((n : Int) == 0) = true := by rw [h0]; rfl
      clear hR h0
      go_enter Tryz.func43, Tryz.ntmps43
      go_wp2_with fail
      refine HC.out.mono ?_
      rintro r w1 ⟨rfl, hb⟩
      go_wp2
      go_ret
      exact ⟨by rw [HR.out]; rfl, hb⟩
    · have HR := Hid.mk' (hR.symm.trans (polT_is HOK.out h0))
      have hn0 : ((n : Int) == 0) = false := beq_eq_false_iff_ne.2 (by omega)
      have HALL := Hid.mk' (polOk_is HOK.out)
      have n400 := (polOk_is HOK.out).1
      have n400I : (n : Int) ≤ 400 := by omega
      clear hR
      obtain ⟨b, off, rfl, hblt, hcl⟩ := HH.out.2.2.resolve_left h0
      have HCL := Hid.mk' hcl
      clear hcl
      go_enter Tryz.func43, Tryz.ntmps43
      go_wp2_with fail
      refine HC.out.mono ?_
      rintro r w1 ⟨rfl, hb⟩
      have HB1 := Hid.mk' hb
      have hs1 := hb.size
      clear hb HC
      go_wp2
      go_loopw [4, 3] (fun v4 v3 wr => ∃ (k : Nat) (S : List UInt8), k ≤ n ∧ v4 = .int .i64 (k : Int) ∧ v3 = .string ⟨S.toArray⟩ ∧ Hid (S = jnT f k) ∧ Hid (Below w.heap.size w wr)) (fun v4 _ _ => n - (intOf v4).toNat)
      case atStart => exact ⟨0, [], Nat.zero_le _, rfl, rfl, Hid.mk' rfl, HB1⟩
      case round =>
        obtain ⟨k, S, hk, rfl, rfl, HS, HB⟩ := hrel
        by_cases hkn : k < n
        · have hklI : (k : Int) < (n : Int) := by omega
          have hSl : S.length ≤ 6800 := by
            rw [HS.out]
            have := jnT_len k (fun i hi => HALL.out.2 i (by omega))
            omega
          obtain ⟨⟨tc1, tc2⟩, tmo⟩ := HALL.out.2 k hkn
          obtain ⟨t, ht⟩ : ∃ t, f k = t := ⟨_, rfl⟩
          have HJ := Hid.mk' (show jnT f (k + 1) = (if k = 0 then [] else jnT f k ++ [43]) ++ trmT t by rw [← ht]; rfl)
          rw [← HS.out] at HJ
          have HS00 : Hid (S = jnT f k) := HS
          obtain ⟨g0, g1, g2, g3, g4⟩ := (HCL.out k hkn).below HB.out hblt
          rw [ht] at tc1 tc2 tmo g0 g1 g2 g3 g4
          clear ht
          obtain ⟨c, ⟨x, y, d, e⟩⟩ := t
          simp only at tc1 tc2 tmo g0 g1 g2 g3 g4
          obtain ⟨C, rfl⟩ : ∃ C : Nat, c = (C : Int) := ⟨c.toNat, by omega⟩
          have hC100 : C ≤ 100 := by omega
          obtain ⟨MT, hMT⟩ : ∃ MT, monT ⟨x, y, d, e⟩ = MT := ⟨_, rfl⟩
          have hml : MT.length ≤ 12 := by rw [← hMT]; exact monT_len tmo
          have hcm : ∀ u : World, Calls Tryz.prog 75 #[.agg #[.int .i64 x, .int .i64 y, .int .i64 d, .int .i64 e]] u fun r w' => r = .returned (.string ⟨MT.toArray⟩) ∧ Below u.heap.size u w' := fun u => by rw [← hMT]; exact monTextS x y d e u
          obtain ⟨DT, hDT⟩ : ∃ DT, Lib.decDigits C = DT := ⟨_, rfl⟩
          have hdl : DT.length ≤ 4 := by rw [← hDT]; exact dec_len4 (by omega)
          have hcd : ∀ u : World, Calls Tryz.prog 41 #[.int .i64 (C : Int)] u fun r w' => r = .returned (.string ⟨DT.toArray⟩) ∧ Below u.heap.size u w' := fun u => by rw [← hDT]; exact l2DigitsS C (by omega) u
          have htrm : trmT ⟨(C : Int), ⟨x, y, d, e⟩⟩ = if MT = [49] then DT else if C = 1 then MT else DT ++ MT := by
            show (if x = 0 ∧ y = 0 ∧ d = 0 ∧ e = 0 then Lib.decDigits C else if (C : Int) = 1 then monT ⟨x, y, d, e⟩ else Lib.decDigits C ++ monT ⟨x, y, d, e⟩) = _
            rw [hMT, hDT]
            by_cases hz : x = 0 ∧ y = 0 ∧ d = 0 ∧ e = 0
            · have hm : MT = [49] := by
                obtain ⟨rfl, rfl, rfl, rfl⟩ := hz
                rw [← hMT]; exact monT_1
              rw [if_pos hz, if_pos hm]
            · have hm : MT ≠ [49] := by rw [← hMT]; exact (monT_not1 tmo hz).1
              rw [if_neg hz, if_neg hm]
              by_cases h1 : C = 1
              · rw [if_pos h1, if_pos (by omega)]
              · rw [if_neg h1, if_neg (by omega)]
          rw [htrm] at HJ
          have HCM := Hid.mk' hcm
          have HCD := Hid.mk' hcd
          clear hcm hcd hMT hDT htrm tmo HS
          by_cases hk0 : k = 0
          · subst hk0
            have HJ0 : Hid (jnT f 1 = if MT = [49] then DT else if C = 1 then MT else DT ++ MT) := HJ.out
            have hS0 : S = [] := HS00.out
            subst hS0
            clear HS00
            simp only [Nat.zero_mul, Nat.add_zero] at g0 g1 g2 g3 g4
            clear HJ
            by_cases hm1 : MT = [49]
            · subst hm1
              have HQ : Hid (DT = jnT f 1) := by rw [HJ0.out, if_pos rfl]; exact Hid.mk' rfl
              go_wp2_with fail
              refine (HCM.out _).mono ?_
              rintro r wx0 ⟨rfl, hbx0⟩
              have HBx0 := Hid.mk' (bel_next HB.out hbx0)
              obtain ⟨g0, g1, g2, g3, g4⟩ := Cells.below (t := ⟨_, ⟨x, y, d, e⟩⟩) ⟨g0, g1, g2, g3, g4⟩ hbx0 (by have := HB.out.size; omega)
              simp only at g0 g1 g2 g3 g4
              clear hbx0
              go_wp2_with fail
              refine (HCD.out _).mono ?_
              rintro r wx1 ⟨rfl, hbx1⟩
              have HBx1 := Hid.mk' (bel_next HBx0.out hbx1)
              obtain ⟨g0, g1, g2, g3, g4⟩ := Cells.below (t := ⟨_, ⟨x, y, d, e⟩⟩) ⟨g0, g1, g2, g3, g4⟩ hbx1 (by have := HBx0.out.size; omega)
              simp only at g0 g1 g2 g3 g4
              clear hbx1
              go_wp2
              go_roundw
              case rel => exact ⟨1, _, by omega, by go_num, by first | rfl | (refine ba_eq ?_; simp; done) | (congr 1; apply ByteArray.ext; simp [ByteArray.data_append]; done), HQ, HBx1⟩
              case measure => simp [intOf]; omega
            · have hmb1 : (MT == [49]) = false := beq_eq_false_iff_ne.2 hm1
              by_cases hc1 : C = 1
              · subst hc1
                have HQ : Hid (MT = jnT f 1) := by rw [HJ0.out, if_neg hm1, if_pos rfl]; exact Hid.mk' rfl
                go_wp2_with fail
                refine (HCM.out _).mono ?_
                rintro r wx0 ⟨rfl, hbx0⟩
                have HBx0 := Hid.mk' (bel_next HB.out hbx0)
                obtain ⟨g0, g1, g2, g3, g4⟩ := Cells.below (t := ⟨_, ⟨x, y, d, e⟩⟩) ⟨g0, g1, g2, g3, g4⟩ hbx0 (by have := HB.out.size; omega)
                simp only at g0 g1 g2 g3 g4
                clear hbx0
                go_wp2
                go_roundw
                case rel => exact ⟨1, _, by omega, by go_num, by first | rfl | (refine ba_eq ?_; simp; done) | (congr 1; apply ByteArray.ext; simp [ByteArray.data_append]; done), HQ, HBx0⟩
                case measure => simp [intOf]; omega
              · have hc1I : ((C : Int) == 1) = false := beq_eq_false_iff_ne.2 (by omega)
                have HQ : Hid (DT ++ MT = jnT f 1) := by rw [HJ0.out, if_neg hm1, if_neg hc1]; exact Hid.mk' rfl
                go_wp2_with fail
                refine (HCM.out _).mono ?_
                rintro r wx0 ⟨rfl, hbx0⟩
                have HBx0 := Hid.mk' (bel_next HB.out hbx0)
                obtain ⟨g0, g1, g2, g3, g4⟩ := Cells.below (t := ⟨_, ⟨x, y, d, e⟩⟩) ⟨g0, g1, g2, g3, g4⟩ hbx0 (by have := HB.out.size; omega)
                simp only at g0 g1 g2 g3 g4
                clear hbx0
                go_wp2_with fail
                refine (HCD.out _).mono ?_
                rintro r wx1 ⟨rfl, hbx1⟩
                have HBx1 := Hid.mk' (bel_next HBx0.out hbx1)
                obtain ⟨g0, g1, g2, g3, g4⟩ := Cells.below (t := ⟨_, ⟨x, y, d, e⟩⟩) ⟨g0, g1, g2, g3, g4⟩ hbx1 (by have := HBx0.out.size; omega)
                simp only at g0 g1 g2 g3 g4
                clear hbx1
                go_wp2
                go_roundw
                case rel => exact ⟨1, _, by omega, by go_num, by first | rfl | (refine ba_eq ?_; simp; done) | (congr 1; apply ByteArray.ext; simp [ByteArray.data_append]; done), HQ, HBx1⟩
                case measure => simp [intOf]; omega
          · have hkp : (0 : Int) < (k : Int) := by omega
            have HJ1 : Hid (jnT f (k + 1) = S ++ [43] ++ if MT = [49] then DT else if C = 1 then MT else DT ++ MT) := by have := HJ.out; rw [if_neg hk0] at this; exact this
            clear HJ
            by_cases hm1 : MT = [49]
            · subst hm1
              have HQ : Hid (S ++ [43] ++ DT = jnT f (k + 1)) := by rw [HJ1.out, if_pos rfl]; exact Hid.mk' rfl
              go_wp2_with fail
              refine (HCM.out _).mono ?_
              rintro r wx0 ⟨rfl, hbx0⟩
              have HBx0 := Hid.mk' (bel_next HB.out hbx0)
              obtain ⟨g0, g1, g2, g3, g4⟩ := Cells.below (t := ⟨_, ⟨x, y, d, e⟩⟩) ⟨g0, g1, g2, g3, g4⟩ hbx0 (by have := HB.out.size; omega)
              simp only at g0 g1 g2 g3 g4
              clear hbx0
              go_wp2_with fail
              refine (HCD.out _).mono ?_
              rintro r wx1 ⟨rfl, hbx1⟩
              have HBx1 := Hid.mk' (bel_next HBx0.out hbx1)
              obtain ⟨g0, g1, g2, g3, g4⟩ := Cells.below (t := ⟨_, ⟨x, y, d, e⟩⟩) ⟨g0, g1, g2, g3, g4⟩ hbx1 (by have := HBx0.out.size; omega)
              simp only at g0 g1 g2 g3 g4
              clear hbx1
              go_wp2
              go_roundw
              case rel => exact ⟨k + 1, _, by omega, by go_num, by first | rfl | (refine ba_eq ?_; simp; done) | (congr 1; apply ByteArray.ext; simp [ByteArray.data_append]; done), HQ, HBx1⟩
              case measure => simp [intOf]; omega
            · have hmb1 : (MT == [49]) = false := beq_eq_false_iff_ne.2 hm1
              by_cases hc1 : C = 1
              · subst hc1
                have HQ : Hid (S ++ [43] ++ MT = jnT f (k + 1)) := by rw [HJ1.out, if_neg hm1, if_pos rfl]; exact Hid.mk' rfl
                go_wp2_with fail
                refine (HCM.out _).mono ?_
                rintro r wx0 ⟨rfl, hbx0⟩
                have HBx0 := Hid.mk' (bel_next HB.out hbx0)
                obtain ⟨g0, g1, g2, g3, g4⟩ := Cells.below (t := ⟨_, ⟨x, y, d, e⟩⟩) ⟨g0, g1, g2, g3, g4⟩ hbx0 (by have := HB.out.size; omega)
                simp only at g0 g1 g2 g3 g4
                clear hbx0
                go_wp2
                go_roundw
                case rel => exact ⟨k + 1, _, by omega, by go_num, by first | rfl | (refine ba_eq ?_; simp; done) | (congr 1; apply ByteArray.ext; simp [ByteArray.data_append]; done), HQ, HBx0⟩
                case measure => simp [intOf]; omega
              · have hc1I : ((C : Int) == 1) = false := beq_eq_false_iff_ne.2 (by omega)
                have HQ : Hid (S ++ [43] ++ (DT ++ MT) = jnT f (k + 1)) := by rw [HJ1.out, if_neg hm1, if_neg hc1]; exact Hid.mk' rfl
                go_wp2_with fail
                refine (HCM.out _).mono ?_
                rintro r wx0 ⟨rfl, hbx0⟩
                have HBx0 := Hid.mk' (bel_next HB.out hbx0)
                obtain ⟨g0, g1, g2, g3, g4⟩ := Cells.below (t := ⟨_, ⟨x, y, d, e⟩⟩) ⟨g0, g1, g2, g3, g4⟩ hbx0 (by have := HB.out.size; omega)
                simp only at g0 g1 g2 g3 g4
                clear hbx0
                go_wp2_with fail
                refine (HCD.out _).mono ?_
                rintro r wx1 ⟨rfl, hbx1⟩
                have HBx1 := Hid.mk' (bel_next HBx0.out hbx1)
                obtain ⟨g0, g1, g2, g3, g4⟩ := Cells.below (t := ⟨_, ⟨x, y, d, e⟩⟩) ⟨g0, g1, g2, g3, g4⟩ hbx1 (by have := HBx0.out.size; omega)
                simp only at g0 g1 g2 g3 g4
                clear hbx1
                go_wp2
                go_roundw
                case rel => exact ⟨k + 1, _, by omega, by go_num, by first | rfl | (refine ba_eq ?_; simp; done) | (congr 1; apply ByteArray.ext; simp [ByteArray.data_append]; done), HQ, HBx1⟩
                case measure => simp [intOf]; omega
        · have hke : k = n := by omega
          subst hke
          have hnl : ¬ (k : Int) < (k : Int) := by omega
          have HRS := Hid.mk' (HR.out.trans HS.out.symm)
          go_wp2
          go_ret
          exact ⟨by rw [HRS.out]; rfl, HB.out⟩
end Go.Proofs.YtkcmamepoplcdaaGreatDoor
