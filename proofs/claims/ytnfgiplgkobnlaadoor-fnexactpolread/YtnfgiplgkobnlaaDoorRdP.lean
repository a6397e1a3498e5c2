/-
  The program reads a term (polTermRead).
-/
import Derived.Test.YtnfgiplgkobnlaaDoorCtD
import Derived.Test.YtnfgiplgkobnlaaDoorRdG
import Derived.Test.YtnfgiplgkobnlaaDoorRdT
import Derived.Test.YtnfgiplgkobnlaaDoorPxT
namespace Go.Proofs.YtnfgiplgkobnlaaDoor
open Go.Shelf Go.RowKit
set_option linter.unusedVariables false
set_option linter.unusedSimpArgs false
theorem pu_snoc (c : UInt8) : ∀ (l : List UInt8) (acc : Nat), Lib.parseUint10 acc (l ++ [c]) = match Lib.parseUint10 acc l with | .ok u => Lib.parseUint10 u [c] | .syntax => .syntax | .range => .range
  | [], acc => rfl
  | x :: l, acc => by
    rw [List.cons_append]
    unfold Lib.parseUint10
    by_cases h : 48 ≤ x.toNat ∧ x.toNat ≤ 57
    · rw [if_pos h, if_pos h]
      by_cases h1 : 1844674407370955162 ≤ acc
      · rw [if_pos h1, if_pos h1]
      · rw [if_neg h1, if_neg h1]
        by_cases h2 : 18446744073709551616 ≤ acc * 10 + (x.toNat - 48)
        · rw [if_pos h2, if_pos h2]
        · rw [if_neg h2, if_neg h2]
          exact pu_snoc c l _
    · rw [if_neg h, if_neg h]
theorem pu_one {u d : Nat} (hu : u < 1000000) (hd : d < 10) : Lib.parseUint10 u [UInt8.ofNat (48 + d)] = .ok (u * 10 + d) := by
  have e : (UInt8.ofNat (48 + d)).toNat = 48 + d := by rw [UInt8.toNat_ofNat']; omega
  unfold Lib.parseUint10
  rw [e, if_pos (by omega), if_neg (by omega), if_neg (by omega)]
  unfold Lib.parseUint10
  congr 1
  omega
theorem pu_dec1 {n : Nat} (h : n < 10) : Lib.parseUint10 0 (Lib.decDigits n) = .ok n := by
  rw [dec_one h]
  have := pu_one (u := 0) (by omega) h
  simpa using this
theorem pu_dec2 {n : Nat} (h : n < 100) : Lib.parseUint10 0 (Lib.decDigits n) = .ok n := by
  by_cases h1 : n < 10
  · exact pu_dec1 h1
  · rw [dec_more h1, pu_snoc, pu_dec1 (n := n / 10) (by omega)]
    show Lib.parseUint10 (n / 10) [UInt8.ofNat (48 + n % 10)] = _
    rw [pu_one (by omega) (by omega)]
    congr 1
    omega
theorem pu_dec3 {n : Nat} (h : n < 1000) : Lib.parseUint10 0 (Lib.decDigits n) = .ok n := by
  by_cases h1 : n < 10
  · exact pu_dec1 h1
  · rw [dec_more h1, pu_snoc, pu_dec2 (n := n / 10) (by omega)]
    show Lib.parseUint10 (n / 10) [UInt8.ofNat (48 + n % 10)] = _
    rw [pu_one (by omega) (by omega)]
    congr 1
    omega
theorem at_plain {d : List UInt8} (hd : ∀ c ∈ d, isD c = true) (h0 : d ≠ []) : Lib.atoiAll d = Lib.signless (Lib.parseUint10 0 d) := by
  cases d with
  | nil => exact absurd rfl h0
  | cons c r =>
    have hc := of_decide_eq_true (hd c (by simp))
    rw [Lib.atoiAll_plain c r (by omega) (by omega)]
    unfold Lib.parseMag
    rw [if_neg (by simp)]
theorem at_bd {d : List UInt8} (hd : ∀ c ∈ d, isD c = true) (h0 : d ≠ []) {v : Int} (h : Lib.atoiAll d = .ok v) : 0 ≤ v ∧ v ≤ 9223372036854775807 := by
  rw [at_plain hd h0] at h
  refine ⟨?_, (Lib.signless_bounds h).2⟩
  cases e : Lib.parseUint10 0 d with
  | ok u =>
    rw [e] at h
    unfold Lib.signless at h
    split at h <;> first | cases h | (rename_i q; cases q; split at h <;> cases h; omega) | skip
  | «syntax» => rw [e] at h; cases h
  | range => rw [e] at h; cases h
theorem at_dec {n : Nat} (h : n ≤ 100) : Lib.atoiAll (Lib.decDigits n) = .ok (n : Int) := by
  have hd : ∀ c ∈ Lib.decDigits n, isD c = true := dec_isD n (by omega)
  rw [at_plain hd (dec_ne n), pu_dec3 (by omega)]
  unfold Lib.signless
  simp
  omega
def cRd (d : List UInt8) : Option Int := if d = [] then some 1 else match Lib.atoiAll d with | .ok v => some v | _ => none
def mRd (r : List UInt8) : Option M := if r = [] then some ⟨0, 0, 0, 0⟩ else if (monR r).2 = true then some (monR r).1 else none
def trmP (s : List UInt8) : T × Bool := match cRd (lead s), mRd (s.drop (lead s).length) with
  | some c, some m => (⟨c, m⟩, decide (trmT ⟨c, m⟩ = s))
  | _, _ => (⟨0, ⟨0, 0, 0, 0⟩⟩, false)
theorem trmP_noC {s : List UInt8} (h : cRd (lead s) = none) : trmP s = (⟨0, ⟨0, 0, 0, 0⟩⟩, false) := by unfold trmP; rw [h]
theorem trmP_noM {s : List UInt8} {c : Int} (hc : cRd (lead s) = some c) (h : mRd (s.drop (lead s).length) = none) : trmP s = (⟨0, ⟨0, 0, 0, 0⟩⟩, false) := by unfold trmP; rw [hc, h]
theorem trmP_is {s : List UInt8} {c : Int} {m : M} (hc : cRd (lead s) = some c) (h : mRd (s.drop (lead s).length) = some m) : trmP s = (⟨c, m⟩, decide (trmT ⟨c, m⟩ = s)) := by unfold trmP; rw [hc, h]
theorem mRd_ok {r : List UInt8} {m : M} (h : mRd r = some m) : M.ok m = true := by
  unfold mRd at h
  split at h
  · cases h; decide
  · split at h
    · rename_i q
      cases h
      rw [monR_spec] at q ⊢
      split at q
      · rename_i z
        rw [if_pos z]
        exact z.2.1
      · cases q
    · cases h
theorem mRd_S {m : M} (h : M.ok m = true) (hne : monS m ≠ []) : mRd (monS m) = some m := by
  have hl : (monS m).length ≤ 40 := by
    have := monT_len h
    rw [monT_is h hne] at this
    omega
  have e : monR (monS m) = (m, true) := by
    rw [monR_spec, trmR_S h hne, if_pos ⟨hl, h, monT_is h hne⟩]
  unfold mRd
  rw [if_neg hne, e, if_pos rfl]
theorem trd_P (s : List UInt8) : TRd s (trmP s).1 (trmP s).2 := by
  refine ⟨fun hb _ => ?_, fun t0 hk hs => ?_⟩
  · unfold trmP at hb ⊢
    split at hb
    · exact of_decide_eq_true hb
    · cases hb
  · have hd : ∀ c ∈ dcD t0.c, isD c = true := fun c hc => dec_isD _ (by have := hk.1.2; omega) c hc
    have hdn : dcD t0.c ≠ [] := dec_ne _
    have hcc : cRd (dcD t0.c) = some t0.c := by
      unfold cRd
      rw [if_neg hdn]
      have := at_dec (n := t0.c.toNat) (by have := hk.1.2; omega)
      unfold dcD
      rw [this]
      show some _ = _
      congr 1
      have := hk.1.1
      omega
    have fin : ∀ c m, cRd (lead s) = some c → mRd (s.drop (lead s).length) = some m → (⟨c, m⟩ : T) = t0 → (trmP s).1 = t0 ∧ (trmP s).2 = true := fun c m h1 h2 h3 => by
      rw [trmP_is h1 h2, h3]
      exact ⟨rfl, decide_eq_true hs⟩
    rcases t0 with ⟨c, m⟩
    simp only at hd hdn hcc hk
    by_cases h0 : m.x = 0 ∧ m.y = 0 ∧ m.d = 0 ∧ m.e = 0
    · have e : s = dcD c := by rw [← hs]; unfold trmT; rw [if_pos h0]
      have hl : lead s = dcD c := by
        rw [e]
        have := lead_app hd (t := []) (fun c r q => by cases q)
        rwa [List.append_nil] at this
      refine fin c m (by rw [hl]; exact hcc) ?_ rfl
      rw [hl, e, List.drop_length]
      unfold mRd
      rw [if_pos rfl]
      rcases m with ⟨x, y, d, z⟩
      obtain ⟨rfl, rfl, rfl, rfl⟩ := h0
      rfl
    · obtain ⟨k, r, e, _⟩ := monS_head hk.2 h0
      have hne : monS m ≠ [] := by rw [e]; simp
      by_cases h1 : c = 1
      · have e2 : s = monS m := by rw [← hs]; unfold trmT; rw [if_neg h0, if_pos h1, monT_is hk.2 hne]
        have hl : lead s = [] := by
          rw [e2]
          exact lead_app (d := []) (fun _ q => by cases q) (monS_noD hk.2)
        refine fin 1 m (by rw [hl]; rfl) ?_ (by rw [h1])
        rw [hl, e2]
        exact mRd_S hk.2 hne
      · have e2 : s = dcD c ++ monS m := by rw [← hs]; unfold trmT; rw [if_neg h0, if_neg h1, monT_is hk.2 hne]
        have hl : lead s = dcD c := by rw [e2]; exact lead_app hd (monS_noD hk.2)
        refine fin c m (by rw [hl]; exact hcc) ?_ rfl
        rw [hl, e2, List.drop_left]
        exact mRd_S hk.2 hne
set_option maxHeartbeats 2000000 in
/-- Atoi of any short text, and which. -/
theorem atoiI2 (l : List UInt8) (hl : l.length ≤ 1000) (hn : l ≠ []) (w : World) (h : Er w) : Calls Tryd.prog 53 #[.string ⟨l.toArray⟩] w fun e w' => Below w.heap.size w w' ∧ ((∃ v, cRd l = some v ∧ e = .returned (.tuple #[.int .i64 v, .nilIface])) ∨ (cRd l = none ∧ ∃ v t N, e = .returned (.tuple #[.int .i64 v, .iface t (.pointer (some ⟨N, 0, none⟩))]))) := by
  have hs : (⟨l.toArray⟩ : ByteArray).size = l.length := ba_size l
  cases hv : Lib.atoiAll l with
  | ok v =>
    refine (Any.strconv_Atoi_ok layC172 ⟨l.toArray⟩ (by rw [hs]; omega) v hv w).mono ?_
    rintro e w' ⟨rfl, hw⟩
    refine ⟨?_, .inl ⟨v, ?_, rfl⟩⟩
    · rcases hw with rfl | ⟨t, rfl⟩
      · exact Below.refl _ _
      · exact bel_bytes w _ t
    · unfold cRd; rw [if_neg hn, hv]
  | «syntax» =>
    obtain ⟨t, p, ht⟩ := h.1
    refine (Any.strconv_Atoi_syntax_var layC172 ⟨l.toArray⟩ (by rw [hs]; omega) hv t p w ht).mono ?_
    rintro e w' ⟨N, rfl, _, _, hb⟩
    exact ⟨hb, .inr ⟨by unfold cRd; rw [if_neg hn, hv], _, _, _, rfl⟩⟩
  | range =>
    obtain ⟨t, p, ht⟩ := h.2
    refine (Any.strconv_Atoi_range_var layC172 ⟨l.toArray⟩ (by rw [hs]; omega) hv t p w ht).mono ?_
    rintro e w' ⟨N, rfl, _, _, hb⟩
    exact ⟨hb, .inr ⟨by unfold cRd; rw [if_neg hn, hv], _, _, _, rfl⟩⟩
end Go.Proofs.YtnfgiplgkobnlaaDoor
